
/-
  BusNew, in parts: a new bucket, and the copy of a configuration, of both sides.
-/
import Derived.Test.YtdhaelaoackfkaaMidC
import Derived.Test.YtdhaelaoackfkaaGConf13
import Derived.Deep.Cut
namespace Go.Proofs.Ytdhaelaoackfkaa.KD
open Go.RowKit Rows3 GR Num
set_option linter.unusedVariables false

/-- what a new bucket holds. -/
def newB (p : Bool) (cap : Int) : Int := if p then (if 0 ≤ cap then cap else 0) else 0
theorem newB_no (cap : Int) : newB false cap = 0 := rfl
theorem newB_ge {cap : Int} (h : 0 ≤ cap) : newB true cap = cap := by simp [newB, h]
theorem newB_lt {cap : Int} (h : cap < 0) : newB true cap = 0 := by unfold newB; rw [if_pos rfl, if_neg (by omega)]

theorem newB_le {cap : Int} (h : cap ≤ 0) : newB true cap = 0 := by unfold newB; rw [if_pos rfl]; split <;> omega

set_option maxRecDepth 100000 in
theorem implNew (wt ev cap : Int) (p : Bool) (w : World) :
    Calls Try.prog 27 #[.agg #[.int .i64 wt, .bool p, .int .i64 ev, .int .i64 cap]] w fun e w' => e = .returned (.agg #[.int .i64 (newB p cap), .int .i64 0]) ∧ Below w.heap.size w w' := by
  have A := (Bx.new 75 #[.int .i64 wt, .bool p, .int .i64 ev, .int .i64 cap] w).alloc (Obj.cells #[.int .i64 0, .int .i64 0] 72)
  have g1 := A.cell 1 _ rfl
  have g3 := A.cell 3 _ rfl
  clear A
  cases p with
  | false =>
    go_enter Try.func27, Try.ntmps27
    go_wp2_with fail
    refine bodyPost_ret (v := .agg #[.int .i64 0, .int .i64 0]) (by simp [results, Try.results27, go_sem]) rfl ⟨rfl, ?_⟩
    exact ((Below.refl _ _).alloc (Nat.le_refl _) _).alloc (by simp) _
  | true =>
    by_cases h : 0 ≤ cap
    · rw [newB_ge h]
      go_enter Try.func27, Try.ntmps27
      go_wp2_with fail
      refine bodyPost_ret (v := .agg #[.int .i64 cap, .int .i64 0]) (by simp [results, Try.results27, go_sem]) rfl ⟨rfl, ?_⟩
      exact ((Below.refl _ _).alloc (Nat.le_refl _) _).alloc (by simp) _
    · rw [newB_lt (by omega)]
      go_enter Try.func27, Try.ntmps27
      go_wp2_with fail
      refine bodyPost_ret (v := .agg #[.int .i64 0, .int .i64 0]) (by simp [results, Try.results27, go_sem]) rfl ⟨rfl, ?_⟩
      exact ((Below.refl _ _).alloc (Nat.le_refl _) _).alloc (by simp) _
set_option maxRecDepth 100000 in
theorem specNew (wt ev cap : Int) (p : Bool) (w : World) :
    Calls Try.prog 22 #[.agg #[.int .i64 wt, .bool p, .int .i64 ev, .int .i64 cap]] w fun e w' => e = .returned (.agg #[.int .i64 (newB p cap), .int .i64 0]) ∧ Below w.heap.size w w' := by
  have A := (Bx.new 75 #[.int .i64 wt, .bool p, .int .i64 ev, .int .i64 cap] w).alloc (Obj.cells #[.int .i64 0, .int .i64 0] 72)
  have g1 := A.cell 1 _ rfl
  have g3 := A.cell 3 _ rfl
  clear A
  cases p with
  | false =>
    go_enter Try.func22, Try.ntmps22
    go_wp2_with fail
    refine bodyPost_ret (v := .agg #[.int .i64 0, .int .i64 0]) (by simp [results, Try.results22, go_sem]) rfl ⟨rfl, ?_⟩
    exact ((Below.refl _ _).alloc (Nat.le_refl _) _).alloc (by simp) _
  | true =>
    by_cases h : 0 < cap
    · rw [newB_ge (by omega)]
      go_enter Try.func22, Try.ntmps22
      go_wp2_with fail
      refine bodyPost_ret (v := .agg #[.int .i64 cap, .int .i64 0]) (by simp [results, Try.results22, go_sem]) rfl ⟨rfl, ?_⟩
      exact ((Below.refl _ _).alloc (Nat.le_refl _) _).alloc (by simp) _
    · rw [newB_le (by omega)]
      go_enter Try.func22, Try.ntmps22
      go_wp2_with fail
      refine bodyPost_ret (v := .agg #[.int .i64 0, .int .i64 0]) (by simp [results, Try.results22, go_sem]) rfl ⟨rfl, ?_⟩
      exact ((Below.refl _ _).alloc (Nat.le_refl _) _).alloc (by simp) _
theorem okX_len {l : List (Int × Bool × Int × Int)} {q mw mr ms lm : Int} (h : okX (l, q, mw, mr, ms, lm) = true) : 1 ≤ l.length ∧ l.length ≤ 4 := by
  have h2 : okC (l.map mcOf) q mw mr ms lm = true := h
  unfold okC at h2
  simp only [Bool.and_eq_true, inB_iff] at h2
  have h3 := h2.2.1
  rw [List.length_map] at h3
  omega
theorem elMConf : ElT mConfK 75 := by
  obtain ⟨i, hi, hz, hsz, hby⟩ := info_parts' (i := Try.prog.info? 75) (z := .agg #[.int .i64 0, .bool false, .int .i64 0, .int .i64 0]) (n := 4) (by kernel_rfl)
  exact ⟨i, _, hi, hz, hsz, rfl, hby⟩
theorem mConf_ones : ∀ es x w, mConfK.rd es x w → ∀ u ∈ es, u.oneCell' = true := by
  intro es x w h u hu
  obtain ⟨x0, x1, x2, x3⟩ := x
  obtain rfl := mConf_form h
  simp at hu
  rcases hu with rfl | rfl | rfl | rfl <;> rfl
/-- a copied row whose elements have no memory of their own. -/
theorem midC_flat {α : Type} {K : Kn α} {hn : K.n ≤ 64} {w0 : World} {F : Foot} {v : Value} {l : List α} {w : World} (h : midC K w0 F v l 0 w) (hK : ∀ es x w1 w2, K.rd es x w1 → K.cap (fun _ => False) es x w2) : (row K hn).cap F [v] l w := by
  obtain ⟨ad, cp, rfl, hl, h⟩ := h
  refine ⟨ad, cp, rfl, hl, ?_⟩
  rcases h with h | ⟨g, xs, T, ea, hF, hg, hsz, E, e1, e2, h⟩
  · exact .inl h
  · refine .inr ⟨g, 0, xs, T, ea, hF, hg, by rw [Nat.zero_add]; exact hsz, fun _ _ => False, fun _ _ hk => hk.elim, fun _ _ _ _ hk => hk.elim, fun i x hi => ?_⟩
    obtain ⟨es, hel, hc, _, hr⟩ := h i x hi
    exact ⟨es, fun t u hu => by rw [Nat.zero_add]; exact hc t u hu, hK es x w0 w (hr (Nat.zero_le _))⟩
theorem mConf_flat : ∀ es x w1 w2, mConfK.rd es x w1 → mConfK.cap (fun _ => False) es x w2 := by
  intro es x w1 w2 h
  obtain ⟨x0, x1, x2, x3⟩ := x
  obtain rfl := mConf_form h
  exact mConf_capz _ _ _ _ _ _
/-- slices.Clone of a configuration's masters. -/
theorem cloneMC (v : Value) (q : List (Int × Bool × Int × Int)) (hlen : q.length ≤ 2000000) (w : World) (hv : mConfS.rd [v] q w) :
    Calls Try.prog 81 #[v] w fun e w' => ∃ v', e = .returned v' ∧ mConfS.cap (fun k => w.heap.size ≤ k) [v'] q w' ∧ Below w.heap.size w w' := by
  have HV := Lib.hid hv
  obtain ⟨ad, cp, e, hlc, hr⟩ := hv
  obtain rfl : v = .slice ad q.length cp := by simpa using e
  obtain ⟨n, hn⟩ : ∃ n, q.length = n := ⟨_, rfl⟩
  have HN := Lib.hid hn
  rw [hn] at HV ⊢
  have hnil : ∀ W, (binOp .eql 26 (.slice ad n cp) (.slice none 0 0)).run Try.prog W = .ok (.bool ad.isNone) W := fun W => Lib.run_eql_slice_nil (P := Try.prog) W 26 75 ad n cp 0 0 Try.underlying26
  cases ad with
  | none =>
    obtain rfl : q = [] := by
      cases q with
      | nil => rfl
      | cons x q => obtain ⟨b, o, es, e, _⟩ := hr 0 x rfl; cases e
    obtain rfl : n = 0 := hn.symm
    clear hr HV HN hn
    have hnil : ∀ W, (binOp .eql 26 (.slice none 0 cp) (.slice none 0 0)).run Try.prog W = .ok (.bool true) W := hnil
    go_enter Try.func81, Try.ntmps81
    go_wp2
    go_ret
    exact ⟨_, rfl, row_nil _ _, Below.refl _ _⟩
  | some ad =>
    have hnil : ∀ W, (binOp .eql 26 (.slice (some ad) n cp) (.slice none 0 0)).run Try.prog W = .ok (.bool false) W := hnil
    have HL := Lib.hid hlen
    clear hr hlc hn hlen e
    go_enter Try.func81, Try.ntmps81
    go_wp2_with (at_builtin; refine appAllC (K := mConfK) (by decide) mConf_ones 26 75 Try.underlying26 elMConf rfl _ _ rfl ad n cp q HN.out _ rfl rfl HV.out (Below.refl _ _) HL.out ?_; intro v' w2 hm2 hb2; have Hm2 := Lib.hid hm2; have Hb2 := Lib.hid hb2; clear hm2 hb2)
    go_ret
    exact ⟨_, rfl, midC_flat Hm2.out mConf_flat, Hb2.out⟩
theorem warmN {T : TypeId} {b : Nat} {c0 c1 c2 c3 c4 c5 : Value} {w : World} (h : Bx T b #[c0, c1, c2, c3, c4, c5] w) :
    w.frozen? ⟨b, 0, none⟩ = false ∧ w.frozen? ⟨b, 1, none⟩ = false ∧ w.frozen? ⟨b, 2, none⟩ = false ∧ w.frozen? ⟨b, 3, none⟩ = false ∧ w.frozen? ⟨b, 4, none⟩ = false ∧ w.frozen? ⟨b, 5, none⟩ = false := ⟨h.warm 0, h.warm 1, h.warm 2, h.warm 3, h.warm 4, h.warm 5⟩
set_option maxHeartbeats 4000000 in
set_option maxRecDepth 100000 in
theorem implCopyConf (cs : List Value) (l : List (Int × Bool × Int × Int)) (q mw mr ms lm : Int) (hl : l.length ≤ 2000000) (w : World) (h : confK.rd cs (l, q, mw, mr, ms, lm) w) :
    Calls Try.prog 25 #[agg cs] w fun e w' => ∃ v, e = .returned (.agg #[v, .int .i64 q, .int .i64 mw, .int .i64 mr, .int .i64 ms, .int .i64 lm]) ∧ mConfS.cap (fun k => w.heap.size ≤ k) [v] l w' ∧ Below w.heap.size w w' := by
  obtain ⟨a, p, rfl, h0⟩ := conf_form h
  have HL := Lib.hid hl
  obtain ⟨n, hn⟩ : ∃ n, l.length = n := ⟨_, rfl⟩
  have HN := Lib.hid hn
  rw [hn] at h0 ⊢
  have hsz : ∀ (w : World) o, (w.alloc o).heap.size = w.heap.size + 1 := fun w o => by simp
  have A0 := Lib.hid ((Bx.new 28 #[.slice a n p, .int .i64 q, .int .i64 mw, .int .i64 mr, .int .i64 ms, .int .i64 lm] w).alloc (Obj.cells #[.slice none 0 0, .int .i64 0, .int .i64 0, .int .i64 0, .int .i64 0, .int .i64 0] 28))
  have B0 := Bx.new 28 #[.slice none 0 0, .int .i64 0, .int .i64 0, .int .i64 0, .int .i64 0, .int .i64 0] (w.alloc (Obj.cells #[.slice a n p, .int .i64 q, .int .i64 mw, .int .i64 mr, .int .i64 ms, .int .i64 lm] 28))
  rw [hsz] at B0
  have X0 := Lib.hid B0
  have HB0 := Lib.hid (((Below.refl w.heap.size w).alloc (Nat.le_refl _) (Obj.cells #[.slice a n p, .int .i64 q, .int .i64 mw, .int .i64 mr, .int .i64 ms, .int .i64 lm] 28)).alloc (by simp) (Obj.cells #[.slice none 0 0, .int .i64 0, .int .i64 0, .int .i64 0, .int .i64 0, .int .i64 0] 28))
  have H0 := Lib.hid (mConfS.rd_later h0 (((Below.refl w.heap.size w).alloc (Nat.le_refl _) (Obj.cells #[.slice a n p, .int .i64 q, .int .i64 mw, .int .i64 mr, .int .i64 ms, .int .i64 lm] 28)).alloc (by simp) (Obj.cells #[.slice none 0 0, .int .i64 0, .int .i64 0, .int .i64 0, .int .i64 0, .int .i64 0] 28)))
  clear h h0 hn hl hsz B0
  show Calls _ _ #[.agg #[.slice a n p, .int .i64 q, .int .i64 mw, .int .i64 mr, .int .i64 ms, .int .i64 lm]] w _
  go_enter Try.func25, Try.ntmps25
  go_wp2_with fail
  generalize (w.alloc (Obj.cells #[.slice a n p, .int .i64 q, .int .i64 mw, .int .i64 mr, .int .i64 ms, .int .i64 lm] 28)).alloc (Obj.cells #[.slice none 0 0, .int .i64 0, .int .i64 0, .int .i64 0, .int .i64 0, .int .i64 0] 28) = y0 at A0 X0 HB0 H0 ⊢
  refine (cloneMC (.slice a n p) l HL.out _ H0.out).mono ?_
  rintro e y1 ⟨v, rfl, ho, hb⟩
  obtain ⟨a1, p1, ev, _⟩ := row_form (mConfS.cap_rd ho)
  have hbs := hb.size
  have hxl : w.heap.size + 1 < y0.heap.size := X0.out.lt
  rw [HN.out] at ev
  obtain rfl : v = .slice a1 n p1 := by simpa using ev
  have Ho := Lib.hid (mConfS.cap_wide ho (G := fun k => y0.heap.size ≤ k) (fun k _ hk => hk))
  have A1 := Lib.hid (A0.out.later hb)
  have X1 := Lib.hid (X0.out.later hb)
  have HB1 := Lib.hid (HB0.out.trans (hb.mono HB0.out.size))
  clear ho hb H0 HB0
  obtain ⟨g0, g1, g2, g3, g4, g5⟩ := A1.out.cells6
  have ya := A1.out.warm 0
  obtain ⟨j0, j1, j2, j3, j4, j5⟩ := Bx.cells6 (show Bx 28 w.heap.size #[.slice a1 n p1, .int .i64 q, .int .i64 mw, .int .i64 mr, .int .i64 ms, .int .i64 lm] _ from A1.out.set 0 (.slice a1 n p1))
  have XX := X1.out.far (p := ⟨w.heap.size, 0, none⟩) (by dsimp only; omega) (.slice a1 n p1)
  obtain ⟨k0, k1, k2, k3, k4, k5⟩ := Bx.cells6 XX
  obtain ⟨z0, z1, z2, z3, z4, z5⟩ := warmN XX
  obtain ⟨e0, e1, e2, e3, e4, e5⟩ := Bx.cells6 (show Bx 28 (w.heap.size + 1) #[.slice a1 n p1, .int .i64 q, .int .i64 mw, .int .i64 mr, .int .i64 ms, .int .i64 lm] _ from (((((XX.set 0 (.slice a1 n p1)).set 1 (.int .i64 q)).set 2 (.int .i64 mw)).set 3 (.int .i64 mr)).set 4 (.int .i64 ms)).set 5 (.int .i64 lm))
  clear XX
  go_wp2_with fail
  refine bodyPost_ret (v := .agg #[.slice a1 n p1, .int .i64 q, .int .i64 mw, .int .i64 mr, .int .i64 ms, .int .i64 lm]) (by simp [results, Try.results25, go_sem, e0, e1, e2, e3, e4, e5]) rfl ⟨_, rfl, ?_, ?_⟩
  · refine mConfS.cap_turn (G := fun k => k = w.heap.size ∨ k = w.heap.size + 1) (mConfS.cap_wide Ho.out (G := fun k => w.heap.size + 2 ≤ k) (fun k _ hk => by omega)) ?_ (fun k _ h1 h2 => by omega) |> fun h => mConfS.cap_wide h (fun k _ hk => by omega)
    refine Turn.set (F := fun k => k = w.heap.size ∨ k = w.heap.size + 1) ?_ (.inr rfl) _
    iterate 5 refine Turn.set (F := fun k => k = w.heap.size ∨ k = w.heap.size + 1) ?_ (.inr rfl) _
    refine Turn.set (F := fun k => k = w.heap.size ∨ k = w.heap.size + 1) ?_ (.inl rfl) _
    exact Turn.refl _ _
  · iterate 7 refine Below.setCell ?_ (by dsimp only; omega) _
    exact HB1.out
set_option maxHeartbeats 4000000 in
set_option maxRecDepth 100000 in
theorem specCopyConf (cs : List Value) (l : List (Int × Bool × Int × Int)) (q mw mr ms lm : Int) (hl : l.length ≤ 2000000) (hl0 : 1 ≤ l.length) (w : World) (h : confK.rd cs (l, q, mw, mr, ms, lm) w) :
    Calls Try.prog 20 #[agg cs] w fun e w' => ∃ v, e = .returned (.agg #[v, .int .i64 q, .int .i64 mw, .int .i64 mr, .int .i64 ms, .int .i64 lm]) ∧ mConfS.cap (fun k => w.heap.size ≤ k) [v] l w' ∧ Below w.heap.size w w' := by
  obtain ⟨a, p, rfl, h0⟩ := conf_form h
  have HL := Lib.hid hl
  obtain ⟨ad, rfl⟩ : ∃ ad, a = some ad := by
    obtain ⟨x, hx⟩ := get_of (l := l) (i := 0) (by omega)
    obtain ⟨b, o, _, es, e, _⟩ := row_rd h0 hx
    simp at e
    exact ⟨_, e.1⟩
  obtain ⟨n, hn⟩ : ∃ n, l.length = n := ⟨_, rfl⟩
  have HN := Lib.hid hn
  rw [hn] at h0 ⊢
  have hsz : ∀ (w : World) o, (w.alloc o).heap.size = w.heap.size + 1 := fun w o => by simp
  have A0 := Lib.hid ((Bx.new 28 #[.slice (some ad) n p, .int .i64 q, .int .i64 mw, .int .i64 mr, .int .i64 ms, .int .i64 lm] w).alloc (Obj.cells #[.slice none 0 0, .int .i64 0, .int .i64 0, .int .i64 0, .int .i64 0, .int .i64 0] 28))
  have B0 := Bx.new 28 #[.slice none 0 0, .int .i64 0, .int .i64 0, .int .i64 0, .int .i64 0, .int .i64 0] (w.alloc (Obj.cells #[.slice (some ad) n p, .int .i64 q, .int .i64 mw, .int .i64 mr, .int .i64 ms, .int .i64 lm] 28))
  rw [hsz] at B0
  have X0 := Lib.hid B0
  have HB0 := Lib.hid (((Below.refl w.heap.size w).alloc (Nat.le_refl _) (Obj.cells #[.slice (some ad) n p, .int .i64 q, .int .i64 mw, .int .i64 mr, .int .i64 ms, .int .i64 lm] 28)).alloc (by simp) (Obj.cells #[.slice none 0 0, .int .i64 0, .int .i64 0, .int .i64 0, .int .i64 0, .int .i64 0] 28))
  have H0 := Lib.hid (mConfS.rd_later h0 (((Below.refl w.heap.size w).alloc (Nat.le_refl _) (Obj.cells #[.slice (some ad) n p, .int .i64 q, .int .i64 mw, .int .i64 mr, .int .i64 ms, .int .i64 lm] 28)).alloc (by simp) (Obj.cells #[.slice none 0 0, .int .i64 0, .int .i64 0, .int .i64 0, .int .i64 0, .int .i64 0] 28)))
  clear h h0 hn hl hsz B0
  show Calls _ _ #[.agg #[.slice (some ad) n p, .int .i64 q, .int .i64 mw, .int .i64 mr, .int .i64 ms, .int .i64 lm]] w _
  go_enter Try.func20, Try.ntmps20
  go_upto_region 1 with fail
  generalize (w.alloc (Obj.cells #[.slice (some ad) n p, .int .i64 q, .int .i64 mw, .int .i64 mr, .int .i64 ms, .int .i64 lm] 28)).alloc (Obj.cells #[.slice none 0 0, .int .i64 0, .int .i64 0, .int .i64 0, .int .i64 0, .int .i64 0] 28) = y0 at A0 X0 HB0 H0 ⊢
  obtain ⟨g0, g1, g2, g3, g4, g5⟩ := A0.out.cells6
  have hc0 : ∀ o, (y0.alloc o).cell? ⟨w.heap.size, 0, none⟩ = some (.slice (some ad) n p) := fun o => (A0.out.alloc o).cell 0 _ rfl
  go_wp2_with (at_builtin; refine appAllC (K := mConfK) (by decide) mConf_ones 26 75 Try.underlying26 elMConf rfl _ _ rfl ad n p l HN.out _ rfl rfl H0.out (Below.refl _ _) HL.out ?_; intro v y1 hm2 hb; have ho := midC_flat (hn := by decide) hm2 mConf_flat; obtain ⟨a1, p1, ev, _⟩ := row_form (K := mConfK) (mConfS.cap_rd ho); rw [HN.out] at ev; obtain rfl : v = .slice a1 n p1 := (by simpa using ev); have hbs := hb.size; have hxl : w.heap.size + 1 < y0.heap.size := X0.out.lt; have Ho := Lib.hid ho; have A1 := Lib.hid (A0.out.later hb); have X1 := Lib.hid (X0.out.later hb); have HB1 := Lib.hid (HB0.out.trans (hb.mono HB0.out.size)); clear ho hb hm2 ev hc0 g0 g1 g2 g3 g4 g5 H0 HB0; obtain ⟨g0, g1, g2, g3, g4, g5⟩ := A1.out.cells6; have ya := A1.out.warm 0; obtain ⟨j0, j1, j2, j3, j4, j5⟩ := Bx.cells6 (show Bx 28 w.heap.size #[.slice a1 n p1, .int .i64 q, .int .i64 mw, .int .i64 mr, .int .i64 ms, .int .i64 lm] _ from A1.out.set 0 (.slice a1 n p1)); have XX := X1.out.far (p := ⟨w.heap.size, 0, none⟩) (by dsimp only; omega) (.slice a1 n p1); obtain ⟨k0, k1, k2, k3, k4, k5⟩ := Bx.cells6 XX; obtain ⟨z0, z1, z2, z3, z4, z5⟩ := warmN XX; obtain ⟨e0, e1, e2, e3, e4, e5⟩ := Bx.cells6 (show Bx 28 (w.heap.size + 1) #[.slice a1 n p1, .int .i64 q, .int .i64 mw, .int .i64 mr, .int .i64 ms, .int .i64 lm] _ from (((((XX.set 0 (.slice a1 n p1)).set 1 (.int .i64 q)).set 2 (.int .i64 mw)).set 3 (.int .i64 mr)).set 4 (.int .i64 ms)).set 5 (.int .i64 lm)); clear XX)
  refine bodyPost_ret (v := .agg #[.slice a1 n p1, .int .i64 q, .int .i64 mw, .int .i64 mr, .int .i64 ms, .int .i64 lm]) (by simp [results, Try.results20, go_sem, e0, e1, e2, e3, e4, e5]) rfl ⟨_, rfl, ?_, ?_⟩
  · refine mConfS.cap_turn (G := fun k => k = w.heap.size ∨ k = w.heap.size + 1) (mConfS.cap_wide Ho.out (G := fun k => w.heap.size + 2 ≤ k) (fun k _ hk => by omega)) ?_ (fun k _ h1 h2 => by omega) |> fun h => mConfS.cap_wide h (fun k _ hk => by omega)
    refine Turn.set (F := fun k => k = w.heap.size ∨ k = w.heap.size + 1) ?_ (.inr rfl) _
    iterate 5 refine Turn.set (F := fun k => k = w.heap.size ∨ k = w.heap.size + 1) ?_ (.inr rfl) _
    refine Turn.set (F := fun k => k = w.heap.size ∨ k = w.heap.size + 1) ?_ (.inl rfl) _
    exact Turn.refl _ _
  · iterate 7 refine Below.setCell ?_ (by dsimp only; omega) _
    exact HB1.out
end Go.Proofs.Ytdhaelaoackfkaa.KD
