
/-
  A beat on the memory, on a slave: the program's doMem and doBeat.
-/
import Derived.Test.YtbhmfjblmcppbaaMod2
import Derived.Test.YtbhmfjblmcppbaaPut2
namespace Go.Proofs.Ytbhmfjblmcppbaa.KD
open Go.RowKit Rows3 GR Num
set_option linter.unusedVariables false

abbrev ModX := List Int × DevX
theorem modelF {F F1 F2 : Foot} {v : Value} {us : List Value} {l r : List Int} {t : Int} {f : List Int} {w : World} (h0 : ints.cap F1 [v] l w) (h1 : devK.cap F2 us (r, t, f) w) (s1 : ∀ k, F1 k → F k) (s2 : ∀ k, F2 k → F k) (hd : ∀ k, F1 k → ¬ F2 k) : modelK.cap F (v :: us) (l, (r, t, f)) w :=
  ⟨[v], us, F1, F2, rfl, fun k hk => ⟨s1 k hk, hd k hk⟩, s2, h0, h1⟩
theorem model_end3 {F : Foot} {b c : Nat} {us : List Value} {x : ModX} {y w' : World} (h : modelK.cap (fun k => (F k ∧ k < b) ∨ c ≤ k) us x y) (hbc : b + 1 < c) (ht : Turn (fun k => k = b ∨ k = b + 1) y w') : modelK.cap (fun k => F k ∨ b ≤ k) us x w' :=
  modelK.cap_wide (modelK.cap_turn h ht (fun k _ h1 h2 => by rcases h1 with ⟨_, h1⟩ | h1 <;> omega)) (fun k _ hk => hk.elim (fun h => .inl h.1) (fun h => .inr (by omega)))
/-- what a beat leaves, returns, and whether it was done. -/
def doB (wr : Bool) (a k v : Int) (l r : List Int) (t : Int) (f : List Int) : ModX × Int × Bool :=
  if slaveW a = 1 ∨ slaveW a = 2 then
    if wr = true then ((putW l a k v, (r, t, f)), v, putB l a k v) else ((l, (r, t, f)), getW l a k, getB l a k)
  else if slaveW a = 3 ∧ k = 2 then ((l, (doD wr (a - 192) v r t f).1), (doD wr (a - 192) v r t f).2.1, (doD wr (a - 192) v r t f).2.2)
  else ((l, (r, t, f)), 0, false)
theorem doB_w {a k v : Int} {l r : List Int} {t : Int} {f : List Int} (h : slaveW a = 1 ∨ slaveW a = 2) : doB true a k v l r t f = ((putW l a k v, (r, t, f)), v, putB l a k v) := by
  unfold doB; rw [if_pos h, if_pos rfl]
theorem doB_r {a k v : Int} {l r : List Int} {t : Int} {f : List Int} (h : slaveW a = 1 ∨ slaveW a = 2) : doB false a k v l r t f = ((l, (r, t, f)), getW l a k, getB l a k) := by
  unfold doB; rw [if_pos h, if_neg (by simp)]
theorem doB_d {wr : Bool} {a v : Int} {l r : List Int} {t : Int} {f : List Int} (h : slaveW a = 3) : doB wr a 2 v l r t f = ((l, (doD wr (a - 192) v r t f).1), (doD wr (a - 192) v r t f).2.1, (doD wr (a - 192) v r t f).2.2) := by
  unfold doB; rw [if_neg (by rw [h]; omega), if_pos ⟨h, rfl⟩]
theorem doB_no {wr : Bool} {a k v : Int} {l r : List Int} {t : Int} {f : List Int} (h : ¬ (slaveW a = 1 ∨ slaveW a = 2)) (h2 : ¬ (slaveW a = 3 ∧ k = 2)) : doB wr a k v l r t f = ((l, (r, t, f)), 0, false) := by
  unfold doB; rw [if_neg h, if_neg h2]
set_option maxRecDepth 100000 in
theorem implMemW (s : Value) (l : List Int) (hl : l.length ≤ 2000000) (a k v : Int) (w : World) (hv : RdI s l w) :
    Calls Try.prog 67 #[s, .bool true, .int .i64 a, .int .i64 k, .int .i64 v] w fun e w' => ∃ u, e = .returned (.tuple #[u, .int .i64 v, .bool (putB l a k v)]) ∧ OwnI w.heap.size u (putW l a k v) w' ∧ Below w.heap.size w w' := by
  obtain ⟨b, hb0⟩ : ∃ b, putB l a k v = b := ⟨_, rfl⟩
  rw [hb0]
  have HB := Lib.hid hb0
  clear hb0
  go_enter Try.func67, Try.ntmps67
  go_wp2_with fail
  refine (implPutR s l hl a k v _ hv).mono ?_
  rintro e w1 ⟨u, rfl, hu, hb⟩
  rw [HB.out]
  go_wp2_with fail
  exact bodyPost_ret (v := .tuple #[u, .int .i64 v, .bool b]) (by simp [results, Try.results67, go_sem]) rfl ⟨_, rfl, hu, hb⟩
set_option maxRecDepth 100000 in
theorem implMemR (s : Value) (l : List Int) (hl : l.length ≤ 2000000) (a k v : Int) (w : World) (hv : RdI s l w) :
    Calls Try.prog 67 #[s, .bool false, .int .i64 a, .int .i64 k, .int .i64 v] w fun e w' => e = .returned (.tuple #[s, .int .i64 (getW l a k), .bool (getB l a k)]) ∧ w = w' := by
  obtain ⟨b, hb0⟩ : ∃ b, getB l a k = b := ⟨_, rfl⟩
  obtain ⟨n, hn0⟩ : ∃ n, getW l a k = n := ⟨_, rfl⟩
  rw [hb0, hn0]
  have HB := Lib.hid hb0
  have HN := Lib.hid hn0
  clear hb0 hn0
  go_enter Try.func67, Try.ntmps67
  go_wp2_with fail
  refine (implGet s l hl a k _ hv).mono ?_
  rintro e w1 ⟨rfl, rfl⟩
  rw [HB.out, HN.out]
  go_wp2_with fail
  exact bodyPost_ret (v := .tuple #[s, .int .i64 n, .bool b]) (by simp [results, Try.results67, go_sem]) rfl ⟨rfl, rfl⟩
/-- a model of the call's own, a number, a truth value. -/
def BeatPost (F : Foot) (d : ModX × Int × Bool) (w : World) (e : Ending) (w' : World) : Prop :=
  ∃ us, e = .returned (.tuple #[agg us, .int .i64 d.2.1, .bool d.2.2]) ∧ modelK.cap (fun k => F k ∨ w.heap.size ≤ k) us d.1 w' ∧ Below w.heap.size w w'
set_option maxHeartbeats 8000000 in
set_option maxRecDepth 100000 in
theorem implDoBeat (F : Foot) (cs : List Value) (wr : Bool) (a k v : Int) (l r : List Int) (t : Int) (f : List Int) (hl : l.length ≤ 2000000) (hr : r.length ≤ 2000000) (hf : f.length ≤ 2000000) (w : World) (h : modelK.cap F cs (l, (r, t, f)) w) :
    Calls Try.prog 34 #[agg cs, .bool wr, .int .i64 a, .int .i64 k, .int .i64 v] w (BeatPost F (doB wr a k v l r t f) w) := by
  obtain ⟨a0, p0, a1, p1, a2, p2, rfl, R0, R1⟩ := rd_model (modelK.cap_rd h)
  have hC := modelK.cap_top h
  obtain ⟨_, _, F1, F2, e0, c1, c2, s1, s2, hd⟩ := own_model hC
  cases e0
  have HW := Lib.hid hC
  have HC1 := Lib.hid c1
  have HC2 := Lib.hid c2
  have HS1 := Lib.hid s1
  have HS2 := Lib.hid s2
  have HDj := Lib.hid hd
  have hlr := Lib.hid hr
  have hlf := Lib.hid hf
  have hll := Lib.hid hl
  have hsz : ∀ (w : World) o, (w.alloc o).heap.size = w.heap.size + 1 := fun w o => by simp
  have A0 := Lib.hid ((Bx.new 28 #[.slice a0 l.length p0, .slice a1 r.length p1, .int .i64 t, .slice a2 f.length p2] w).alloc (Obj.cells #[.slice none 0 0, .slice none 0 0, .int .i64 0, .slice none 0 0] 28))
  have B0 := Bx.new 28 #[.slice none 0 0, .slice none 0 0, .int .i64 0, .slice none 0 0] (w.alloc (Obj.cells #[.slice a0 l.length p0, .slice a1 r.length p1, .int .i64 t, .slice a2 f.length p2] 28))
  rw [hsz] at B0
  have X0 := Lib.hid B0
  have hb0 : Below w.heap.size w _ := ((Below.refl w.heap.size w).alloc (Nat.le_refl _) (Obj.cells #[.slice a0 l.length p0, .slice a1 r.length p1, .int .i64 t, .slice a2 f.length p2] 28)).alloc (by simp) (Obj.cells #[.slice none 0 0, .slice none 0 0, .int .i64 0, .slice none 0 0] 28)
  have HB0 := Lib.hid hb0
  have H0 := Lib.hid (R0.below hb0)
  have H1 := Lib.hid (devK.rd_later R1 hb0)
  clear B0 hsz hb0 R0 R1 hr hf hl h hC c1 c2 s1 s2 hd
  show Calls _ _ #[.agg #[.slice a0 l.length p0, .slice a1 r.length p1, .int .i64 t, .slice a2 f.length p2], .bool wr, .int .i64 a, .int .i64 k, .int .i64 v] w _
  -- nothing is done
  have leave : ∀ (W : World), Below w.heap.size w W → w.heap.size + 1 < W.heap.size → ∀ (w' : World), Turn (fun k => k = w.heap.size ∨ k = w.heap.size + 1) W w' → modelK.cap (fun k => F k ∨ w.heap.size ≤ k) [.slice a0 l.length p0, .slice a1 r.length p1, .int .i64 t, .slice a2 f.length p2] (l, (r, t, f)) w' := by
    intro W hb hz w' ht
    exact model_end3 (c := W.heap.size) (modelK.cap_wide (modelK.cap_later HW.out hb) (fun k _ hk => .inl hk)) hz ht
  have Leave := Lib.hid leave
  clear leave
  obtain ⟨s, hs⟩ : ∃ s, slaveW a = s := ⟨_, rfl⟩
  have HS := Lib.hid hs
  rcases slaveW_cases a with ⟨ha, h1⟩ | ⟨ha, h1⟩ | ⟨ha, h1⟩ | ⟨ha, h1⟩
  · -- no slave
    obtain rfl : s = 0 := by omega
    rw [doB_no (by omega) (by omega)]
    clear hs h1
    go_enter Try.func34, Try.ntmps34
    go_wp2_with fail
    generalize (w.alloc (Obj.cells #[.slice a0 l.length p0, .slice a1 r.length p1, .int .i64 t, .slice a2 f.length p2] 28)).alloc (Obj.cells #[.slice none 0 0, .slice none 0 0, .int .i64 0, .slice none 0 0] 28) = y0 at A0 X0 HB0 H0 H1 ⊢
    refine (implSlave _ _).mono ?_
    rintro e w' ⟨rfl, rfl⟩
    rw [HS.out]
    obtain ⟨g0, g1, g2, g3⟩ := cells4 A0.out
    obtain ⟨k0, k1, k2, k3⟩ := cells4 X0.out
    obtain ⟨z0, z1, z2, z3⟩ := warm4 X0.out
    have hlt := X0.out.lt
    obtain ⟨e0, e1, e2, e3⟩ := cells4 (Bx.four X0.out (.slice a0 l.length p0) (.slice a1 r.length p1) (.int .i64 t) (.slice a2 f.length p2))
    go_wp2_with fail
    refine bodyPost_ret (v := .tuple #[.agg #[.slice a0 l.length p0, .slice a1 r.length p1, .int .i64 t, .slice a2 f.length p2], .int .i64 0, .bool false]) (by simp [results, Try.results34, go_sem, e0, e1, e2, e3]) rfl ⟨_, rfl, Leave.out _ HB0.out hlt _ ?_, ?_⟩
    · iterate 4 refine Turn.set (F := fun k => k = w.heap.size ∨ k = w.heap.size + 1) ?_ (.inr rfl) _
      exact Turn.refl _ _
    · iterate 4 refine Below.setCell ?_ (by first | omega | (dsimp only; omega)) _
      exact HB0.out
  · -- the memory
    obtain rfl : s = 1 := by omega
    clear h1
    cases wr with
    | true =>
      rw [doB_w (by omega)]
      obtain ⟨pb, hpb⟩ : ∃ pb, putB l a k v = pb := ⟨_, rfl⟩
      have hpl := putW_length l a k v
      have HPB := Lib.hid hpb
      rw [hpb]
      clear hs hpb
      go_enter Try.func34, Try.ntmps34
      go_wp2_with fail
      generalize (w.alloc (Obj.cells #[.slice a0 l.length p0, .slice a1 r.length p1, .int .i64 t, .slice a2 f.length p2] 28)).alloc (Obj.cells #[.slice none 0 0, .slice none 0 0, .int .i64 0, .slice none 0 0] 28) = y0 at A0 X0 HB0 H0 H1 ⊢
      refine (implSlave _ _).mono ?_
      rintro e w' ⟨rfl, rfl⟩
      rw [HS.out]
      obtain ⟨g0, g1, g2, g3⟩ := cells4 A0.out
      have hlt := X0.out.lt
      have hlt0 : w.heap.size < y0.heap.size := by omega
      go_wp2_with fail
      refine (implMemW _ l hll.out a k v _ H0.out).mono ?_
      rintro e y1 ⟨u, rfl, hu, hb⟩
      rw [HPB.out]
      obtain ⟨b0, q0, hu0⟩ := hu.slice
      rw [hpl] at hu0
      subst hu0
      clear g0 g1 g2 g3
      have A1 := A0.out.later hb
      have X1 := X0.out.later hb
      obtain ⟨g0, g1, g2, g3⟩ := cells4 A1
      obtain ⟨y0', y1', y2', y3'⟩ := warm4 A1
      have XA := A1.set 0 (.slice b0 l.length q0)
      obtain ⟨j0, j1, j2, j3⟩ := cells4 (show Bx 28 w.heap.size #[.slice b0 l.length q0, .slice a1 r.length p1, .int .i64 t, .slice a2 f.length p2] _ from XA)
      have XX := X1.far (p := ⟨w.heap.size, 0, none⟩) (by dsimp only; omega) (.slice b0 l.length q0)
      obtain ⟨k0, k1, k2, k3⟩ := cells4 XX
      obtain ⟨z0, z1, z2, z3⟩ := warm4 XX
      obtain ⟨e0, e1, e2, e3⟩ := cells4 (Bx.four XX (.slice b0 l.length q0) (.slice a1 r.length p1) (.int .i64 t) (.slice a2 f.length p2))
      have HU := Lib.hid hu
      have HBY := Lib.hid hb
      clear hu hb A1 X1 XA XX
      go_wp2_with fail
      refine bodyPost_ret (v := .tuple #[.agg #[.slice b0 l.length q0, .slice a1 r.length p1, .int .i64 t, .slice a2 f.length p2], .int .i64 v, .bool pb]) (by simp [results, Try.results34, go_sem, e0, e1, e2, e3]) rfl ⟨_, rfl, ?_, ?_⟩
      · refine model_end3 (b := w.heap.size) (c := y0.heap.size) (modelF (cap_own2 HU.out (by rw [putW_length]; have := hll.out; omega)) (devK.cap_later HC2.out (HB0.out.trans (HBY.out.mono HB0.out.size))) (fun i hi => .inr (World.ownsRow.lt HU.out i hi).1) (fun i hi => .inl (HS2.out i hi)) (fun i hi hi2 => by have h1 := (World.ownsRow.lt HU.out i hi).1; have h2 := (HS2.out i hi2).2; omega)) hlt ?_
        iterate 4 refine Turn.set (F := fun k => k = w.heap.size ∨ k = w.heap.size + 1) ?_ (.inr rfl) _
        refine Turn.set (F := fun k => k = w.heap.size ∨ k = w.heap.size + 1) ?_ (.inl rfl) _
        exact Turn.refl _ _
      · iterate 5 refine Below.setCell ?_ (by first | omega | (dsimp only; omega)) _
        exact HB0.out.trans (HBY.out.mono HB0.out.size)
    | false =>
      rw [doB_r (by omega)]
      obtain ⟨gb, hgb⟩ : ∃ gb, getB l a k = gb := ⟨_, rfl⟩
      obtain ⟨gw, hgw⟩ : ∃ gw, getW l a k = gw := ⟨_, rfl⟩
      have HGB := Lib.hid hgb
      have HGW := Lib.hid hgw
      rw [hgb, hgw]
      clear hs hgb hgw
      go_enter Try.func34, Try.ntmps34
      go_wp2_with fail
      generalize (w.alloc (Obj.cells #[.slice a0 l.length p0, .slice a1 r.length p1, .int .i64 t, .slice a2 f.length p2] 28)).alloc (Obj.cells #[.slice none 0 0, .slice none 0 0, .int .i64 0, .slice none 0 0] 28) = y0 at A0 X0 HB0 H0 H1 ⊢
      refine (implSlave _ _).mono ?_
      rintro e w' ⟨rfl, rfl⟩
      rw [HS.out]
      obtain ⟨g0, g1, g2, g3⟩ := cells4 A0.out
      have hlt := X0.out.lt
      have hlt0 : w.heap.size < y0.heap.size := by omega
      go_wp2_with fail
      refine (implMemR _ l hll.out a k v _ H0.out).mono ?_
      rintro e w' ⟨rfl, rfl⟩
      rw [HGB.out, HGW.out]
      obtain ⟨y0', y1', y2', y3'⟩ := warm4 A0.out
      have XA := A0.out.set 0 (.slice a0 l.length p0)
      obtain ⟨j0, j1, j2, j3⟩ := cells4 (show Bx 28 w.heap.size #[.slice a0 l.length p0, .slice a1 r.length p1, .int .i64 t, .slice a2 f.length p2] _ from XA)
      have XX := X0.out.far (p := ⟨w.heap.size, 0, none⟩) (by dsimp only; omega) (.slice a0 l.length p0)
      obtain ⟨k0, k1, k2, k3⟩ := cells4 XX
      obtain ⟨z0, z1, z2, z3⟩ := warm4 XX
      obtain ⟨e0, e1, e2, e3⟩ := cells4 (Bx.four XX (.slice a0 l.length p0) (.slice a1 r.length p1) (.int .i64 t) (.slice a2 f.length p2))
      clear XA XX
      go_wp2_with fail
      refine bodyPost_ret (v := .tuple #[.agg #[.slice a0 l.length p0, .slice a1 r.length p1, .int .i64 t, .slice a2 f.length p2], .int .i64 gw, .bool gb]) (by simp [results, Try.results34, go_sem, e0, e1, e2, e3]) rfl ⟨_, rfl, Leave.out _ HB0.out hlt _ ?_, ?_⟩
      · iterate 4 refine Turn.set (F := fun k => k = w.heap.size ∨ k = w.heap.size + 1) ?_ (.inr rfl) _
        refine Turn.set (F := fun k => k = w.heap.size ∨ k = w.heap.size + 1) ?_ (.inl rfl) _
        exact Turn.refl _ _
      · iterate 5 refine Below.setCell ?_ (by first | omega | (dsimp only; omega)) _
        exact HB0.out
  · -- the memory
    obtain rfl : s = 2 := by omega
    clear h1
    cases wr with
    | true =>
      rw [doB_w (by omega)]
      obtain ⟨pb, hpb⟩ : ∃ pb, putB l a k v = pb := ⟨_, rfl⟩
      have hpl := putW_length l a k v
      have HPB := Lib.hid hpb
      rw [hpb]
      clear hs hpb
      go_enter Try.func34, Try.ntmps34
      go_wp2_with fail
      generalize (w.alloc (Obj.cells #[.slice a0 l.length p0, .slice a1 r.length p1, .int .i64 t, .slice a2 f.length p2] 28)).alloc (Obj.cells #[.slice none 0 0, .slice none 0 0, .int .i64 0, .slice none 0 0] 28) = y0 at A0 X0 HB0 H0 H1 ⊢
      refine (implSlave _ _).mono ?_
      rintro e w' ⟨rfl, rfl⟩
      rw [HS.out]
      obtain ⟨g0, g1, g2, g3⟩ := cells4 A0.out
      have hlt := X0.out.lt
      have hlt0 : w.heap.size < y0.heap.size := by omega
      go_wp2_with fail
      refine (implMemW _ l hll.out a k v _ H0.out).mono ?_
      rintro e y1 ⟨u, rfl, hu, hb⟩
      rw [HPB.out]
      obtain ⟨b0, q0, hu0⟩ := hu.slice
      rw [hpl] at hu0
      subst hu0
      clear g0 g1 g2 g3
      have A1 := A0.out.later hb
      have X1 := X0.out.later hb
      obtain ⟨g0, g1, g2, g3⟩ := cells4 A1
      obtain ⟨y0', y1', y2', y3'⟩ := warm4 A1
      have XA := A1.set 0 (.slice b0 l.length q0)
      obtain ⟨j0, j1, j2, j3⟩ := cells4 (show Bx 28 w.heap.size #[.slice b0 l.length q0, .slice a1 r.length p1, .int .i64 t, .slice a2 f.length p2] _ from XA)
      have XX := X1.far (p := ⟨w.heap.size, 0, none⟩) (by dsimp only; omega) (.slice b0 l.length q0)
      obtain ⟨k0, k1, k2, k3⟩ := cells4 XX
      obtain ⟨z0, z1, z2, z3⟩ := warm4 XX
      obtain ⟨e0, e1, e2, e3⟩ := cells4 (Bx.four XX (.slice b0 l.length q0) (.slice a1 r.length p1) (.int .i64 t) (.slice a2 f.length p2))
      have HU := Lib.hid hu
      have HBY := Lib.hid hb
      clear hu hb A1 X1 XA XX
      go_wp2_with fail
      refine bodyPost_ret (v := .tuple #[.agg #[.slice b0 l.length q0, .slice a1 r.length p1, .int .i64 t, .slice a2 f.length p2], .int .i64 v, .bool pb]) (by simp [results, Try.results34, go_sem, e0, e1, e2, e3]) rfl ⟨_, rfl, ?_, ?_⟩
      · refine model_end3 (b := w.heap.size) (c := y0.heap.size) (modelF (cap_own2 HU.out (by rw [putW_length]; have := hll.out; omega)) (devK.cap_later HC2.out (HB0.out.trans (HBY.out.mono HB0.out.size))) (fun i hi => .inr (World.ownsRow.lt HU.out i hi).1) (fun i hi => .inl (HS2.out i hi)) (fun i hi hi2 => by have h1 := (World.ownsRow.lt HU.out i hi).1; have h2 := (HS2.out i hi2).2; omega)) hlt ?_
        iterate 4 refine Turn.set (F := fun k => k = w.heap.size ∨ k = w.heap.size + 1) ?_ (.inr rfl) _
        refine Turn.set (F := fun k => k = w.heap.size ∨ k = w.heap.size + 1) ?_ (.inl rfl) _
        exact Turn.refl _ _
      · iterate 5 refine Below.setCell ?_ (by first | omega | (dsimp only; omega)) _
        exact HB0.out.trans (HBY.out.mono HB0.out.size)
    | false =>
      rw [doB_r (by omega)]
      obtain ⟨gb, hgb⟩ : ∃ gb, getB l a k = gb := ⟨_, rfl⟩
      obtain ⟨gw, hgw⟩ : ∃ gw, getW l a k = gw := ⟨_, rfl⟩
      have HGB := Lib.hid hgb
      have HGW := Lib.hid hgw
      rw [hgb, hgw]
      clear hs hgb hgw
      go_enter Try.func34, Try.ntmps34
      go_wp2_with fail
      generalize (w.alloc (Obj.cells #[.slice a0 l.length p0, .slice a1 r.length p1, .int .i64 t, .slice a2 f.length p2] 28)).alloc (Obj.cells #[.slice none 0 0, .slice none 0 0, .int .i64 0, .slice none 0 0] 28) = y0 at A0 X0 HB0 H0 H1 ⊢
      refine (implSlave _ _).mono ?_
      rintro e w' ⟨rfl, rfl⟩
      rw [HS.out]
      obtain ⟨g0, g1, g2, g3⟩ := cells4 A0.out
      have hlt := X0.out.lt
      have hlt0 : w.heap.size < y0.heap.size := by omega
      go_wp2_with fail
      refine (implMemR _ l hll.out a k v _ H0.out).mono ?_
      rintro e w' ⟨rfl, rfl⟩
      rw [HGB.out, HGW.out]
      obtain ⟨y0', y1', y2', y3'⟩ := warm4 A0.out
      have XA := A0.out.set 0 (.slice a0 l.length p0)
      obtain ⟨j0, j1, j2, j3⟩ := cells4 (show Bx 28 w.heap.size #[.slice a0 l.length p0, .slice a1 r.length p1, .int .i64 t, .slice a2 f.length p2] _ from XA)
      have XX := X0.out.far (p := ⟨w.heap.size, 0, none⟩) (by dsimp only; omega) (.slice a0 l.length p0)
      obtain ⟨k0, k1, k2, k3⟩ := cells4 XX
      obtain ⟨z0, z1, z2, z3⟩ := warm4 XX
      obtain ⟨e0, e1, e2, e3⟩ := cells4 (Bx.four XX (.slice a0 l.length p0) (.slice a1 r.length p1) (.int .i64 t) (.slice a2 f.length p2))
      clear XA XX
      go_wp2_with fail
      refine bodyPost_ret (v := .tuple #[.agg #[.slice a0 l.length p0, .slice a1 r.length p1, .int .i64 t, .slice a2 f.length p2], .int .i64 gw, .bool gb]) (by simp [results, Try.results34, go_sem, e0, e1, e2, e3]) rfl ⟨_, rfl, Leave.out _ HB0.out hlt _ ?_, ?_⟩
      · iterate 4 refine Turn.set (F := fun k => k = w.heap.size ∨ k = w.heap.size + 1) ?_ (.inr rfl) _
        refine Turn.set (F := fun k => k = w.heap.size ∨ k = w.heap.size + 1) ?_ (.inl rfl) _
        exact Turn.refl _ _
      · iterate 5 refine Below.setCell ?_ (by first | omega | (dsimp only; omega)) _
        exact HB0.out
  · -- the device
    obtain rfl : s = 3 := by omega
    clear h1
    by_cases hk : k = 2
    · subst hk
      rw [doB_d (by omega)]
      obtain ⟨D, hD⟩ : ∃ D, doD wr (a - 192) v r t f = D := ⟨_, rfl⟩
      have HD := Lib.hid hD
      rw [hD]
      obtain ⟨⟨r', t', f'⟩, N, K⟩ := D
      clear hs hD
      go_enter Try.func34, Try.ntmps34
      go_wp2_with fail
      generalize (w.alloc (Obj.cells #[.slice a0 l.length p0, .slice a1 r.length p1, .int .i64 t, .slice a2 f.length p2] 28)).alloc (Obj.cells #[.slice none 0 0, .slice none 0 0, .int .i64 0, .slice none 0 0] 28) = y0 at A0 X0 HB0 H0 H1 ⊢
      refine (implSlave _ _).mono ?_
      rintro e w' ⟨rfl, rfl⟩
      rw [HS.out]
      obtain ⟨g0, g1, g2, g3⟩ := cells4 A0.out
      have hlt := X0.out.lt
      have hlt0 : w.heap.size < y0.heap.size := by omega
      go_wp2_with fail
      refine (implDevDo [.slice a1 r.length p1, .int .i64 t, .slice a2 f.length p2] wr (a - 192) v r t f hlr.out hlf.out _ H1.out).mono ?_
      rw [HD.out]
      rintro e y1 ⟨us, he, hc, hb⟩
      obtain ⟨b1, q1, b2, q2, rfl, _, _⟩ := dev_form (devK.cap_rd hc)
      obtain rfl : e = .returned (.tuple #[.agg #[.slice b1 r'.length q1, .int .i64 t', .slice b2 f'.length q2], .int .i64 N, .bool K]) := he
      clear g0 g1 g2 g3
      have A1 := A0.out.later hb
      have X1 := X0.out.later hb
      obtain ⟨g0, g1, g2, g3⟩ := cells4 A1
      obtain ⟨y0', y1', y2', y3'⟩ := warm4 A1
      have XA := ((A1.set 1 (.slice b1 r'.length q1)).set 2 (.int .i64 t')).set 3 (.slice b2 f'.length q2)
      obtain ⟨j0, j1, j2, j3⟩ := cells4 (show Bx 28 w.heap.size #[.slice a0 l.length p0, .slice b1 r'.length q1, .int .i64 t', .slice b2 f'.length q2] _ from XA)
      have XX := ((X1.far (p := ⟨w.heap.size, 1, none⟩) (by dsimp only; omega) (.slice b1 r'.length q1)).far (p := ⟨w.heap.size, 2, none⟩) (by dsimp only; omega) (.int .i64 t')).far (p := ⟨w.heap.size, 3, none⟩) (by dsimp only; omega) (.slice b2 f'.length q2)
      obtain ⟨k0, k1, k2, k3⟩ := cells4 XX
      obtain ⟨z0, z1, z2, z3⟩ := warm4 XX
      obtain ⟨e0, e1, e2, e3⟩ := cells4 (Bx.four XX (.slice a0 l.length p0) (.slice b1 r'.length q1) (.int .i64 t') (.slice b2 f'.length q2))
      have HU := Lib.hid hc
      have HBY := Lib.hid hb
      clear hc hb A1 X1 XA XX
      go_wp2_with fail
      refine bodyPost_ret (v := .tuple #[.agg #[.slice a0 l.length p0, .slice b1 r'.length q1, .int .i64 t', .slice b2 f'.length q2], .int .i64 N, .bool K]) (by simp [results, Try.results34, go_sem, e0, e1, e2, e3]) rfl ⟨_, rfl, ?_, ?_⟩
      · refine model_end3 (b := w.heap.size) (c := y0.heap.size) (modelF (ints.cap_later HC1.out (HB0.out.trans (HBY.out.mono HB0.out.size))) HU.out (fun i hi => .inl (HS1.out i hi)) (fun i hi => .inr hi) (fun i hi hi2 => by have h2 := (HS1.out i hi).2; omega)) hlt ?_
        iterate 4 refine Turn.set (F := fun k => k = w.heap.size ∨ k = w.heap.size + 1) ?_ (.inr rfl) _
        iterate 3 refine Turn.set (F := fun k => k = w.heap.size ∨ k = w.heap.size + 1) ?_ (.inl rfl) _
        exact Turn.refl _ _
      · iterate 7 refine Below.setCell ?_ (by first | omega | (dsimp only; omega)) _
        exact HB0.out.trans (HBY.out.mono HB0.out.size)
    · rw [doB_no (by omega) (by omega)]
      clear hs
      have hk2 : (k == 2) = false := by simp [hk]
      go_enter Try.func34, Try.ntmps34
      go_wp2_with fail
      generalize (w.alloc (Obj.cells #[.slice a0 l.length p0, .slice a1 r.length p1, .int .i64 t, .slice a2 f.length p2] 28)).alloc (Obj.cells #[.slice none 0 0, .slice none 0 0, .int .i64 0, .slice none 0 0] 28) = y0 at A0 X0 HB0 H0 H1 ⊢
      refine (implSlave _ _).mono ?_
      rintro e w' ⟨rfl, rfl⟩
      rw [HS.out]
      obtain ⟨g0, g1, g2, g3⟩ := cells4 A0.out
      have hlt := X0.out.lt
      have hlt0 : w.heap.size < y0.heap.size := by omega
      obtain ⟨k0, k1, k2, k3⟩ := cells4 X0.out
      obtain ⟨z0, z1, z2, z3⟩ := warm4 X0.out
      obtain ⟨e0, e1, e2, e3⟩ := cells4 (Bx.four X0.out (.slice a0 l.length p0) (.slice a1 r.length p1) (.int .i64 t) (.slice a2 f.length p2))
      go_wp2_with fail
      refine bodyPost_ret (v := .tuple #[.agg #[.slice a0 l.length p0, .slice a1 r.length p1, .int .i64 t, .slice a2 f.length p2], .int .i64 0, .bool false]) (by simp [results, Try.results34, go_sem, e0, e1, e2, e3]) rfl ⟨_, rfl, Leave.out _ HB0.out hlt _ ?_, ?_⟩
      · iterate 4 refine Turn.set (F := fun k => k = w.heap.size ∨ k = w.heap.size + 1) ?_ (.inr rfl) _
        exact Turn.refl _ _
      · iterate 4 refine Below.setCell ?_ (by first | omega | (dsimp only; omega)) _
        exact HB0.out
end Go.Proofs.Ytbhmfjblmcppbaa.KD
