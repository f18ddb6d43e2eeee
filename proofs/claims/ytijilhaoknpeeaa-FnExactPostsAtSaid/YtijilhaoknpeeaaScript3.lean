
/-
  The posts of a time: PostsAt, for the program and for its model: each hands a row of its own back.
-/
import Derived.Test.YtijilhaoknpeeaaScript2
import Derived.Test.YtijilhaoknpeeaaPost3
import Derived.Test.YtijilhaoknpeeaaPMark
namespace Go.Proofs.Ytijilhaoknpeeaa.Num
open Go.RowKit GR Rows3

theorem pv_one (c : PC × Value) (h : c.2.oneCell' = true) : ∀ u ∈ pvK.enc c, u.oneCell' = true := by
  intro u hu
  simp [pvK, pvE] at hu
  rcases hu with rfl | rfl | rfl | rfl | rfl | rfl | rfl | rfl
  all_goals first | rfl | exact h
theorem grown_sets (g : Nat) (us : List Value) : ∀ {w0 w : World} (p : Nat), w0.grownBy w (some g) → w0.grownBy (setsW w g p us) (some g) := by
  induction us with
  | nil => intro w0 w p h; exact h
  | cons u us ih => intro w0 w p h; exact ih (p + 1) (grown_set _ _ _ _ _ h)
theorem filt_yes {l : List PC} {k : Nat} {p : PC} {t : Int} (h : l[k]? = some p) (ht : p.t = t) : (l.take (k + 1)).filter (fun y => y.t == t) = (l.take k).filter (fun y => y.t == t) ++ [p] := by
  obtain ⟨hk, rfl⟩ := List.getElem?_eq_some_iff.1 h
  rw [List.take_succ_eq_append_getElem hk, List.filter_append]
  simp [ht]
theorem filt_no {l : List PC} {k : Nat} {p : PC} {t : Int} (h : l[k]? = some p) (ht : ¬ p.t = t) : (l.take (k + 1)).filter (fun y => y.t == t) = (l.take k).filter (fun y => y.t == t) := by
  obtain ⟨hk, rfl⟩ := List.getElem?_eq_some_iff.1 h
  rw [List.take_succ_eq_append_getElem hk, List.filter_append]
  simp [ht]
theorem ElO.app {B C : Nat} {lv mv : List (PC × Value)} {v : Value} {w w' : World} (h : ElO B lv w) (ho : Own pvK 92 C v mv w) (hg : w.grownBy w' v.ownBlock) : ElO B lv w' := fun x hx =>
  (h x hx).far hg (fun k hk e => apart_T (h x hx) ho k hk e.symm)
/-- the posts of time t. -/
def atT (t : Int) (l : List PC) : List PC := l.filter fun y => y.t == t
theorem warm6n {T b : Nat} {c0 c1 c2 c3 c4 c5 : Value} {w : World} (h : Bx T b #[c0, c1, c2, c3, c4, c5] w) :
    w.frozen? ⟨b, 0, none⟩ = false ∧ w.frozen? ⟨b, 1, none⟩ = false ∧ w.frozen? ⟨b, 2, none⟩ = false ∧ w.frozen? ⟨b, 3, none⟩ = false ∧ w.frozen? ⟨b, 4, none⟩ = false ∧ w.frozen? ⟨b, 5, none⟩ = false := ⟨h.warm 0, h.warm 1, h.warm 2, h.warm 3, h.warm 4, h.warm 5⟩
set_option maxHeartbeats 4000000 in
set_option maxRecDepth 100000 in
/-- a copy of a request as the program makes it. -/
theorem implCopyReqO (q : Bool) (x y z : Int) (k : Bool) (v : Value) (l : List Int) (hl : l.length ≤ 2000000) (C : Nat) (w : World) (hv : OwnI C v l w) :
    Calls Try.prog 68 #[.agg #[.bool q, .int .i64 x, .int .i64 y, .int .i64 z, .bool k, v]] w fun e w' =>
      ∃ u, e = .returned (.agg #[.bool q, .int .i64 x, .int .i64 y, .int .i64 z, .bool k, u]) ∧ OwnI w.heap.size u l w' ∧ Below w.heap.size w w' := by
  have HL := Lib.hid hl
  have h0 := hv
  obtain ⟨a, p, rfl⟩ := hv.slice
  obtain ⟨n, hn⟩ : ∃ n, l.length = n := ⟨_, rfl⟩
  have HN := Lib.hid hn
  rw [hn] at h0 ⊢
  have hsz : ∀ (w : World) o, (w.alloc o).heap.size = w.heap.size + 1 := fun w o => by simp
  have A0 := Lib.hid ((Bx.new 35 #[.bool q, .int .i64 x, .int .i64 y, .int .i64 z, .bool k, .slice a n p] w).alloc (Obj.cells #[.bool false, .int .i64 0, .int .i64 0, .int .i64 0, .bool false, .slice none 0 0] 35))
  have B0 := Bx.new 35 #[.bool false, .int .i64 0, .int .i64 0, .int .i64 0, .bool false, .slice none 0 0] (w.alloc (Obj.cells #[.bool q, .int .i64 x, .int .i64 y, .int .i64 z, .bool k, .slice a n p] 35))
  rw [hsz] at B0
  have X0 := Lib.hid B0
  have HB0 := Lib.hid (((Below.refl w.heap.size w).alloc (Nat.le_refl _) (Obj.cells #[.bool q, .int .i64 x, .int .i64 y, .int .i64 z, .bool k, .slice a n p] 35)).alloc (by simp) (Obj.cells #[.bool false, .int .i64 0, .int .i64 0, .int .i64 0, .bool false, .slice none 0 0] 35))
  have H0 := Lib.hid (h0.later HB0.out)
  clear h0 hn hl hsz B0 hv
  go_enter Try.func68, Try.ntmps68
  go_wp2_with fail
  generalize (w.alloc (Obj.cells #[.bool q, .int .i64 x, .int .i64 y, .int .i64 z, .bool k, .slice a n p] 35)).alloc (Obj.cells #[.bool false, .int .i64 0, .int .i64 0, .int .i64 0, .bool false, .slice none 0 0] 35) = y0 at A0 X0 HB0 H0 ⊢
  refine (clone_own C _ l HL.out _ H0.out).mono ?_
  rintro e y1 ⟨v, rfl, ho, hb⟩
  obtain ⟨a1, p1, rfl⟩ := ho.slice
  have hbs := hb.size
  have hxl : w.heap.size + 1 < y0.heap.size := X0.out.lt
  rw [HN.out] at ho
  rw [HN.out]
  have Ho := Lib.hid ho
  have A1 := Lib.hid (A0.out.later hb)
  have X1 := Lib.hid (X0.out.later hb)
  have HB1 := Lib.hid (HB0.out.trans (hb.mono HB0.out.size))
  clear ho hb H0 HB0
  obtain ⟨g0, g1, g2, g3, g4, g5⟩ := A1.out.cells6
  have ya := A1.out.warm 5
  obtain ⟨j0, j1, j2, j3, j4, j5⟩ := Bx.cells6 (show Bx 35 w.heap.size #[.bool q, .int .i64 x, .int .i64 y, .int .i64 z, .bool k, .slice a1 n p1] _ from A1.out.set 5 (.slice a1 n p1))
  have XX := X1.out.far (p := ⟨w.heap.size, 5, none⟩) (by dsimp only; omega) (.slice a1 n p1)
  obtain ⟨k0, k1, k2, k3, k4, k5⟩ := Bx.cells6 XX
  obtain ⟨z0, z1, z2, z3, z4, z5⟩ := warm6n XX
  obtain ⟨e0, e1, e2, e3, e4, e5⟩ := Bx.cells6 (show Bx 35 (w.heap.size + 1) #[.bool q, .int .i64 x, .int .i64 y, .int .i64 z, .bool k, .slice a1 n p1] _ from (((((XX.set 0 (.bool q)).set 1 (.int .i64 x)).set 2 (.int .i64 y)).set 3 (.int .i64 z)).set 4 (.bool k)).set 5 (.slice a1 n p1))
  clear XX
  go_wp2_with fail
  refine bodyPost_ret (v := .agg #[.bool q, .int .i64 x, .int .i64 y, .int .i64 z, .bool k, .slice a1 n p1]) (by simp [results, Try.results68, go_sem, e0, e1, e2, e3, e4, e5]) rfl ⟨_, rfl, ?_, ?_⟩
  · refine OwnI.mono (B := y0.heap.size) ?_ (by omega)
    iterate 7 refine setBelow ?_ (by dsimp only; omega) _
    exact Ho.out
  · iterate 7 refine Below.setCell ?_ (by dsimp only; omega) _
    exact HB1.out
set_option maxRecDepth 100000 in
theorem l5Copy_any (q : Bool) (x y z : Int) (k : Bool) (v : Value) (l : List Int) (hl : l.length ≤ 2000000) (C : Nat) (w : World) (hv : OwnI C v l w) :
    Calls Try.prog 70 #[.agg #[.bool q, .int .i64 x, .int .i64 y, .int .i64 z, .bool k, v]] w fun e w' =>
      ∃ u, e = .returned (.agg #[.bool q, .int .i64 x, .int .i64 y, .int .i64 z, .bool k, u]) ∧ OwnI w.heap.size u l w' ∧ Below w.heap.size w w' := by
  have hv0 := hv
  obtain ⟨ad, cap, rfl⟩ := hv.slice
  obtain ⟨n, hn⟩ : ∃ n, l.length = n := ⟨_, rfl⟩
  rw [hn] at hv0 ⊢
  have hsz : ∀ (w : World) o, (w.alloc o).heap.size = w.heap.size + 1 := fun w o => by simp
  have HL : Hid (([] : List Int).length + l.length ≤ 17592186044416) := Lib.hid (by simp; omega)
  have HB2 := Lib.hid (((Below.refl w.heap.size w).alloc (Nat.le_refl _) (Obj.cells #[.bool q, .int .i64 x, .int .i64 y, .int .i64 z, .bool k, .slice ad n cap] 35)).alloc (by simp) (Obj.cells #[.bool false, .int .i64 0, .int .i64 0, .int .i64 0, .bool false, .slice none 0 0] 35))
  have HB3 := Lib.hid (HB2.out.alloc (by simp; omega) (Obj.cells #[] 3))
  have A1 := Lib.hid (((Bx.new 35 #[.bool q, .int .i64 x, .int .i64 y, .int .i64 z, .bool k, .slice ad n cap] w).alloc (Obj.cells #[.bool false, .int .i64 0, .int .i64 0, .int .i64 0, .bool false, .slice none 0 0] 35)).alloc (Obj.cells #[] 3))
  have A2 := ((Bx.new 35 #[.bool false, .int .i64 0, .int .i64 0, .int .i64 0, .bool false, .slice none 0 0] (w.alloc (Obj.cells #[.bool q, .int .i64 x, .int .i64 y, .int .i64 z, .bool k, .slice ad n cap] 35))).alloc (Obj.cells #[] 3))
  rw [hsz] at A2
  have HA2 := Lib.hid A2
  have Hn := OwnI.made (w.heap.size + 1 + 1) ((w.alloc (Obj.cells #[.bool q, .int .i64 x, .int .i64 y, .int .i64 z, .bool k, .slice ad n cap] 35)).alloc (Obj.cells #[.bool false, .int .i64 0, .int .i64 0, .int .i64 0, .bool false, .slice none 0 0] 35)) (by simp)
  rw [show ((w.alloc (Obj.cells #[.bool q, .int .i64 x, .int .i64 y, .int .i64 z, .bool k, .slice ad n cap] 35)).alloc (Obj.cells #[.bool false, .int .i64 0, .int .i64 0, .int .i64 0, .bool false, .slice none 0 0] 35)).heap.size = w.heap.size + 1 + 1 by simp] at Hn
  have HNN := Lib.hid Hn
  have Hv1 := Lib.hid (hv0.later HB3.out)
  have hw3 : w.heap.size + 1 + 1 ≤ (((w.alloc (Obj.cells #[.bool q, .int .i64 x, .int .i64 y, .int .i64 z, .bool k, .slice ad n cap] 35)).alloc (Obj.cells #[.bool false, .int .i64 0, .int .i64 0, .int .i64 0, .bool false, .slice none 0 0] 35)).alloc (Obj.cells #[] 3)).heap.size := by simp
  have HW3 := Lib.hid hw3
  clear A2 hsz hn hv hv0 hl Hn hw3
  go_enter Try.func70, Try.ntmps70
  go_wp2_with (at_builtin; refine appAllI rfl _ _ rfl (w.heap.size + 1 + 1) C (.slice (some ⟨w.heap.size + 1 + 1, 0, none⟩) 0 0) (.slice ad n cap) [] l _ rfl rfl HNN.out Hv1.out HW3.out HL.out ?_; intro v' w2 hown2 hb2; have Ho2 := Lib.hid hown2; obtain ⟨ad2, cap2, rfl⟩ := hown2.slice; have Hb2 := Lib.hid hb2; obtain ⟨g0, g1, g2, g3, g4, g5⟩ := (A1.out.below hb2 (by omega)).cells6; have y5 := (A1.out.below hb2 (by omega)).warm 5; obtain ⟨e0, e1, e2, e3, e4, e5⟩ := (HA2.out.below hb2 (by omega)).cells6; have z0 := (HA2.out.below hb2 (by omega)).warm 0; have z1 := (HA2.out.below hb2 (by omega)).warm 1; have z2 := (HA2.out.below hb2 (by omega)).warm 2; have z3 := (HA2.out.below hb2 (by omega)).warm 3; have z4 := (HA2.out.below hb2 (by omega)).warm 4; have z5 := (HA2.out.below hb2 (by omega)).warm 5; clear hown2 hb2)
  refine bodyPost_ret (v := .agg #[.bool q, .int .i64 x, .int .i64 y, .int .i64 z, .bool k, .slice ad2 ([] ++ l).length cap2]) (by simp [results, Try.results70, go_sem, e0, e1, e2, e3, e4, e5]) rfl ⟨_, rfl, ?_, ?_⟩
  · refine OwnI.mono (B := w.heap.size + 1 + 1) ?_ (by omega)
    iterate 7 refine setBelow ?_ (by dsimp only; omega) _
    exact Ho2.out
  · iterate 7 refine Below.setCell ?_ (by dsimp only; omega) _
    exact HB3.out.trans (Hb2.out.mono (by omega))
set_option maxHeartbeats 2000000 in
set_option maxRecDepth 100000 in
theorem specPostsAt (u wv sv : Value) (l : List PC) (a b : Nat) (t0 : Int) (hl : l.length ≤ 2000000) (hd : ∀ y ∈ l, y.da.length ≤ 2000000) (C : Nat) (w : World) (hu : OwnP C u l w) (hw : ∃ ad cap, wv = .slice ad a cap) (hs : ∃ ad cap, sv = .slice ad b cap) :
    Calls Try.prog 30 #[.agg #[u, wv, sv], .int .i64 t0] w (NewP (atT t0 l) w) := by
  obtain ⟨lv, hlv, hown, hel, hap⟩ := hu
  obtain ⟨ad, cap, rfl, hr⟩ := hown.rd
  obtain ⟨adw, capw, rfl⟩ := hw
  obtain ⟨ads, caps, rfl⟩ := hs
  obtain ⟨n, hln⟩ : ∃ n, lv.length = n := ⟨_, rfl⟩
  have hll : l.length = n := by rw [← hlv, List.length_map, hln]
  rw [hll] at hl
  rw [hln]
  have HR := Lib.hid hr
  have HE := Lib.hid hel
  have HD := Lib.hid hd
  have HV := Lib.hid hlv
  have HL := Lib.hid hln
  have HN := Lib.hid hll
  obtain ⟨i0, hi0, hz0, hz1, hz2⟩ := info_parts info_pv3
  have Hi0 := Lib.hid hi0
  have Hz0 := Lib.hid hz0
  have Hz1 := Lib.hid (show i0.size = pvK.k from hz1)
  have Hz2 := Lib.hid (show i0.bytes ≤ 1000 by rw [hz2]; omega)
  have hee : (t0 == t0) = true := by simp
  have B0 := Lib.hid (Bx.new 47 #[.slice ad n cap, .slice adw a capw, .slice ads b caps] w)
  have HB0 := Lib.hid ((Below.refl w.heap.size w).alloc (Nat.le_refl _) (Obj.cells #[.slice ad n cap, .slice adw a capw, .slice ads b caps] 47))
  have Hsz0 := Lib.hid (show (w.alloc (Obj.cells #[.slice ad n cap, .slice adw a capw, .slice ads b caps] 47)).heap.size = w.heap.size + 1 by simp)
  clear hr hel hd hlv hln hll hown hap hi0 hz0 hz1 hz2
  have Hm := Own.made pvK 92 (w.heap.size + 1) (w.alloc (Obj.cells #[.slice ad n cap, .slice adw a capw, .slice ads b caps] 47)) (by simp)
  rw [Hsz0.out] at Hm
  have HM := Lib.hid Hm
  clear Hm
  go_enter Try.func30, Try.ntmps30
  go_wp2_with fail
  generalize w.alloc (Obj.cells #[.slice ad n cap, .slice adw a capw, .slice ads b caps] 47) = w0 at B0 HB0 Hsz0 HM ⊢
  go_loopw [5, 6] (fun o i wr => ∃ (k : Nat) (dn : List (PC × Value)), k ≤ n ∧ i = .int .i64 k ∧ dn.map (·.1) = atT t0 (l.take k) ∧ dn.length ≤ k ∧ Own pvK 92 (w.heap.size + 1) o dn wr ∧ ElO (w.heap.size + 1) dn wr ∧ Ap dn ∧ Below (w.heap.size + 1) w0 wr) (fun _ i _ => n - (intOf i).toNat)
  case atStart => exact ⟨0, [], by omega, rfl, rfl, Nat.le_refl _, HM.out, ElO.nil _ _, Ap.nil, (Below.refl _ _).alloc (by rw [Hsz0.out]; exact Nat.le_refl _) _⟩
  case round =>
    obtain ⟨k, dn, hk, rfl, hdm, hdl, hown, helo, hap, hb⟩ := hrel
    have HDM := Lib.hid hdm
    have HDL := Lib.hid hdl
    have HEL := Lib.hid helo
    have HAP := Lib.hid hap
    have Ho := Lib.hid hown
    have Hb := Lib.hid hb
    have Hbw := Lib.hid (HB0.out.trans (hb.mono (Nat.le_succ _)))
    have hszr : w.heap.size + 1 ≤ wr.heap.size := by have := hb.size; have := Hsz0.out; omega
    have Hszr := Lib.hid hszr
    obtain ⟨oad, ocap, rfl⟩ := hown.slice
    obtain ⟨d0, d1, d2⟩ := cells3 (B0.out.below hb (Nat.lt_succ_self _))
    clear hdm hdl helo hap hown hb hszr d1 d2
    by_cases hlt : k < n
    · obtain ⟨x, hx⟩ := get_of (l := lv) (i := k) (by rw [HL.out]; exact hlt)
      obtain ⟨bb, o, rfl, hb1, hc1⟩ := HR.out k x hx
      obtain ⟨f0, f1, f2, f3, f4, f5, f6, f7⟩ := pv_at hc1
      rw [← below_cells Hbw.out hb1] at f0 f1 f2 f3 f4 f5 f6 f7
      have hxl : l[k]? = some x.1 := by rw [← HV.out, List.getElem?_map, hx]; rfl
      have hdx := HD.out x.1 (List.mem_of_getElem? hxl)
      have R1 := (HE.out x (mem_of hx)).later Hbw.out
      obtain ⟨⟨t, who, wr1, ad1, sz1, bu1, lk1, da1⟩, xv⟩ := x
      dsimp only at f0 f1 f2 f3 f4 f5 f6 f7 hdx R1
      have HX := Lib.hid hxl
      have Hda := Lib.hid hdx
      obtain ⟨ax, cx, hax⟩ := R1.slice
      subst hax
      have HR1 := Lib.hid R1
      obtain ⟨m, hm⟩ : ∃ m, da1.length = m := ⟨_, rfl⟩
      rw [hm] at f7 HR1
      have Hm := Lib.hid hm
      clear hc1 hx hxl hdx R1 hm
      by_cases ht : t = t0
      · subst ht
        have Hal := Lib.hid ((Below.refl wr.heap.size wr).alloc (Nat.le_refl _) (Obj.cells #[.int .i64 t, .int .i64 who, .bool wr1, .int .i64 ad1, .int .i64 sz1, .int .i64 bu1, .bool lk1, .slice ax m cx] 92))
        have X := Lib.hid (Bx.new 92 #[.int .i64 t, .int .i64 who, .bool wr1, .int .i64 ad1, .int .i64 sz1, .int .i64 bu1, .bool lk1, .slice ax m cx] wr)
        have HR2 := Lib.hid (HR1.out.later Hal.out)
        go_wp2_with fail
        refine (l5Copy_any _ _ _ _ _ _ da1 Hda.out C _ HR2.out).mono ?_
        rintro e w2 ⟨u2, rfl, ho2, hb2⟩
        obtain ⟨ax2, cx2, hax⟩ := ho2.slice
        rw [Hm.out] at hax
        subst hax
        have Hsz2 := Lib.hid (show wr.heap.size + 1 ≤ w2.heap.size by have := hb2.size; simpa using this)
        have Ho2 := Lib.hid (ho2.mono (B' := wr.heap.size + 1) (by simp))
        have Hb2 := Lib.hid (Hal.out.trans (hb2.mono Hal.out.size))
        have XX := X.out.later hb2
        obtain ⟨x0, x1, x2, x3, x4, x5, x6, x7⟩ := cells8 XX
        have y2 := XX.warm 2
        have y3 := XX.warm 3
        have y4 := XX.warm 4
        have y5 := XX.warm 5
        have y6 := XX.warm 6
        have y7 := XX.warm 7
        have Ow2 := Lib.hid (Ho.out.later Hb2.out)
        have El2 := Lib.hid (HEL.out.later Hb2.out)
        have Hg3 := Lib.hid (grown_sets wr.heap.size [.bool wr1, .int .i64 ad1, .int .i64 sz1, .int .i64 bu1, .bool lk1, .slice ax2 m cx2] (w0 := w2) (w := w2) 2 (grown_refl _ _))
        have Ow3 := Lib.hid (Ow2.out.far Hg3.out (fun j hj e => by have := (World.ownsRow.lt Ho.out j hj).2; have := Option.some.inj e; omega))
        have El3 := Lib.hid (show ElO (w.heap.size + 1) dn (setsW w2 wr.heap.size 2 [.bool wr1, .int .i64 ad1, .int .i64 sz1, .int .i64 bu1, .bool lk1, .slice ax2 m cx2]) from fun y hy => own_apart_sets (g := wr.heap.size) [.bool wr1, .int .i64 ad1, .int .i64 sz1, .int .i64 bu1, .bool lk1, .slice ax2 m cx2] 2 (El2.out y hy) (fun e => by have := (World.ownsRow.lt (HEL.out y hy) wr.heap.size e).2; omega))
        have Oc3 := Lib.hid (own_apart_sets (g := wr.heap.size) [.bool wr1, .int .i64 ad1, .int .i64 sz1, .int .i64 bu1, .bool lk1, .slice ax2 m cx2] 2 Ho2.out (fun e => by have := (World.ownsRow.lt Ho2.out wr.heap.size e).1; omega))
        have Ap3 := Lib.hid (HAP.out.push HEL.out (x := ((⟨t, who, wr1, ad1, sz1, bu1, lk1, da1⟩ : PC), Value.slice ax2 m cx2)) Ho2.out (Nat.le_succ _))
        have Elc := Lib.hid (El3.out.push (x := ((⟨t, who, wr1, ad1, sz1, bu1, lk1, da1⟩ : PC), Value.slice ax2 m cx2)) (Oc3.out.mono (by have := Hszr.out; omega)))
        have Hb3 := Lib.hid (below_sets [.bool wr1, .int .i64 ad1, .int .i64 sz1, .int .i64 bu1, .bool lk1, .slice ax2 m cx2] Hszr.out 2 (Hb.out.trans (Hb2.out.mono Hszr.out)))
        have Hw3 : Hid (w.heap.size + 1 ≤ (setsW w2 wr.heap.size 2 [.bool wr1, .int .i64 ad1, .int .i64 sz1, .int .i64 bu1, .bool lk1, .slice ax2 m cx2]).heap.size) := Lib.hid (Nat.le_trans (Nat.le_trans Hszr.out (Nat.le_of_succ_le Hsz2.out)) Hg3.out.size)
        have Hdl1 : Hid (dn.length + 1 ≤ 100000000) := Lib.hid (by have := HDL.out; omega)
        have Hmap := Lib.hid (show (dn ++ [((⟨t, who, wr1, ad1, sz1, bu1, lk1, da1⟩ : PC), Value.slice ax2 m cx2)]).map (·.1) = atT t (l.take (k + 1)) by
          unfold atT; rw [filt_yes HX.out rfl, List.map_append, HDM.out]; rfl)
        clear ho2 hb2 XX f0 f1 f2 f3 f4 f5 f6 f7
        go_wp2_with (at_builtin; refine app1g pvK (by decide) 44 92 i0 _ rfl (.tmp 33) (.tmp 35) rfl Try.underlying44 Hi0.out Hz0.out Hz1.out rfl Hz2.out (w.heap.size + 1) (.slice oad dn.length ocap) dn (setsW w2 wr.heap.size 2 [.bool wr1, .int .i64 ad1, .int .i64 sz1, .int .i64 bu1, .bool lk1, .slice ax2 m cx2]) ((⟨t, who, wr1, ad1, sz1, bu1, lk1, da1⟩ : PC), Value.slice ax2 m cx2) #[.int .i64 t, .int .i64 who, .bool wr1, .int .i64 ad1, .int .i64 sz1, .int .i64 bu1, .bool lk1, .slice ax2 m cx2] rfl (pv_one _ rfl) rfl (by show Value.slice (some (⟨w2.heap.size, 0, none⟩ : Addr)) 1 1 = _; simp [setsW, World.setCell]) Ow3.out Hw3.out Hdl1.out ?_; intro v' w8 hown8 hg8; have O8 := Lib.hid hown8; have El8 := Lib.hid (Elc.out.app Ow3.out hg8); have B8 := Lib.hid (Hb3.out.grown hg8 Hw3.out (fun j hj => (World.ownsRow.lt Ow3.out j hj).1)); clear hown8 hg8)
        go_roundw
        case rel => exact ⟨k + 1, _, by omega, by go_num, Hmap.out, by rw [List.length_append]; have := HDL.out; simp; omega, O8.out, El8.out, Ap3.out, B8.out⟩
        case measure => simp [intOf]; omega
      · have hte : (t == t0) = false := by simpa using ht
        have Hmap := Lib.hid (show dn.map (·.1) = atT t0 (l.take (k + 1)) by unfold atT; rw [filt_no HX.out ht, HDM.out]; rfl)
        go_wp2_with fail
        go_roundw
        case rel => exact ⟨k + 1, dn, by omega, by go_num, Hmap.out, by have := HDL.out; omega, Ho.out, HEL.out, HAP.out, Hb.out⟩
        case measure => simp [intOf]; omega
    · obtain rfl : k = n := by omega
      have Hfin := Lib.hid (show dn.map (·.1) = atT t0 l by have h := HDM.out; rwa [List.take_of_length_le (by rw [HN.out]; omega)] at h)
      go_wp2
      go_ret
      exact ⟨_, rfl, ⟨dn, Hfin.out, Ho.out.mono (Nat.le_succ _), HEL.out.mono (Nat.le_succ _), HAP.out⟩, Hbw.out⟩
set_option maxHeartbeats 2000000 in
set_option maxRecDepth 100000 in
theorem implPostsAt (u wv sv : Value) (l : List PC) (a b : Nat) (t0 : Int) (hl : l.length ≤ 2000000) (hd : ∀ y ∈ l, y.da.length ≤ 2000000) (C : Nat) (w : World) (hu : OwnP C u l w) (hw : ∃ ad cap, wv = .slice ad a cap) (hs : ∃ ad cap, sv = .slice ad b cap) :
    Calls Try.prog 32 #[.agg #[u, wv, sv], .int .i64 t0] w (NewP (atT t0 l) w) := by
  obtain ⟨lv, hlv, hown, hel, hap⟩ := hu
  obtain ⟨ad, cap, rfl, hr⟩ := hown.rd
  obtain ⟨adw, capw, rfl⟩ := hw
  obtain ⟨ads, caps, rfl⟩ := hs
  obtain ⟨n, hln⟩ : ∃ n, lv.length = n := ⟨_, rfl⟩
  have hll : l.length = n := by rw [← hlv, List.length_map, hln]
  rw [hll] at hl
  rw [hln]
  have HR := Lib.hid hr
  have HE := Lib.hid hel
  have HD := Lib.hid hd
  have HV := Lib.hid hlv
  have HL := Lib.hid hln
  have HN := Lib.hid hll
  obtain ⟨i0, hi0, hz0, hz1, hz2⟩ := info_parts info_pv3
  have Hi0 := Lib.hid hi0
  have Hz0 := Lib.hid hz0
  have Hz1 := Lib.hid (show i0.size = pvK.k from hz1)
  have Hz2 := Lib.hid (show i0.bytes ≤ 1000 by rw [hz2]; omega)
  have hee : (t0 == t0) = true := by simp
  have B0 := Lib.hid (Bx.new 47 #[.slice ad n cap, .slice adw a capw, .slice ads b caps] w)
  have HB0 := Lib.hid ((Below.refl w.heap.size w).alloc (Nat.le_refl _) (Obj.cells #[.slice ad n cap, .slice adw a capw, .slice ads b caps] 47))
  have Hsz0 := Lib.hid (show (w.alloc (Obj.cells #[.slice ad n cap, .slice adw a capw, .slice ads b caps] 47)).heap.size = w.heap.size + 1 by simp)
  clear hr hel hd hlv hln hll hown hap hi0 hz0 hz1 hz2
  go_enter Try.func32, Try.ntmps32
  go_wp2_with fail
  generalize w.alloc (Obj.cells #[.slice ad n cap, .slice adw a capw, .slice ads b caps] 47) = w0 at B0 HB0 Hsz0 ⊢
  go_loopw [5, 11] (fun o i wr => ∃ (k : Nat) (dn : List (PC × Value)), k ≤ n ∧ i = .int .i64 k ∧ dn.map (·.1) = atT t0 (l.take k) ∧ dn.length ≤ k ∧ Own pvK 92 (w.heap.size + 1) o dn wr ∧ ElO (w.heap.size + 1) dn wr ∧ Ap dn ∧ Below (w.heap.size + 1) w0 wr) (fun _ i _ => n - (intOf i).toNat)
  case atStart => exact ⟨0, [], by omega, rfl, rfl, Nat.le_refl _, Own.nil _ _ _ _, ElO.nil _ _, Ap.nil, Below.refl _ _⟩
  case round =>
    obtain ⟨k, dn, hk, rfl, hdm, hdl, hown, helo, hap, hb⟩ := hrel
    have HDM := Lib.hid hdm
    have HDL := Lib.hid hdl
    have HEL := Lib.hid helo
    have HAP := Lib.hid hap
    have Ho := Lib.hid hown
    have Hb := Lib.hid hb
    have Hbw := Lib.hid (HB0.out.trans (hb.mono (Nat.le_succ _)))
    have hszr : w.heap.size + 1 ≤ wr.heap.size := by have := hb.size; have := Hsz0.out; omega
    have Hszr := Lib.hid hszr
    obtain ⟨oad, ocap, rfl⟩ := hown.slice
    obtain ⟨d0, d1, d2⟩ := cells3 (B0.out.below hb (Nat.lt_succ_self _))
    clear hdm hdl helo hap hown hb hszr d1 d2
    by_cases hlt : k < n
    · obtain ⟨x, hx⟩ := get_of (l := lv) (i := k) (by rw [HL.out]; exact hlt)
      obtain ⟨bb, o, rfl, hb1, hc1⟩ := HR.out k x hx
      obtain ⟨f0, f1, f2, f3, f4, f5, f6, f7⟩ := pv_at hc1
      rw [← below_cells Hbw.out hb1] at f0 f1 f2 f3 f4 f5 f6 f7
      have hxl : l[k]? = some x.1 := by rw [← HV.out, List.getElem?_map, hx]; rfl
      have hdx := HD.out x.1 (List.mem_of_getElem? hxl)
      have R1 := (HE.out x (mem_of hx)).later Hbw.out
      obtain ⟨⟨t, who, wr1, ad1, sz1, bu1, lk1, da1⟩, xv⟩ := x
      dsimp only at f0 f1 f2 f3 f4 f5 f6 f7 hdx R1
      have HX := Lib.hid hxl
      have Hda := Lib.hid hdx
      obtain ⟨ax, cx, hax⟩ := R1.slice
      subst hax
      have HR1 := Lib.hid R1
      obtain ⟨m, hm⟩ : ∃ m, da1.length = m := ⟨_, rfl⟩
      rw [hm] at f7 HR1
      have Hm := Lib.hid hm
      clear hc1 hx hxl hdx R1 hm
      by_cases ht : t = t0
      · subst ht
        have Hal := Lib.hid ((Below.refl wr.heap.size wr).alloc (Nat.le_refl _) (Obj.cells #[.int .i64 t, .int .i64 who, .bool wr1, .int .i64 ad1, .int .i64 sz1, .int .i64 bu1, .bool lk1, .slice ax m cx] 92))
        have X := Lib.hid (Bx.new 92 #[.int .i64 t, .int .i64 who, .bool wr1, .int .i64 ad1, .int .i64 sz1, .int .i64 bu1, .bool lk1, .slice ax m cx] wr)
        have HR2 := Lib.hid (HR1.out.later Hal.out)
        go_wp2_with fail
        refine (implCopyReqO wr1 ad1 sz1 bu1 lk1 _ da1 Hda.out C _ HR2.out).mono ?_
        rintro e w2 ⟨u2, rfl, ho2, hb2⟩
        obtain ⟨ax2, cx2, hax⟩ := ho2.slice
        rw [Hm.out] at hax
        subst hax
        have Hsz2 := Lib.hid (show wr.heap.size + 1 ≤ w2.heap.size by have := hb2.size; simpa using this)
        have Ho2 := Lib.hid (ho2.mono (B' := wr.heap.size + 1) (by simp))
        have Hb2 := Lib.hid (Hal.out.trans (hb2.mono Hal.out.size))
        have XX := X.out.later hb2
        obtain ⟨x0, x1, x2, x3, x4, x5, x6, x7⟩ := cells8 XX
        have y2 := XX.warm 2
        have y3 := XX.warm 3
        have y4 := XX.warm 4
        have y5 := XX.warm 5
        have y6 := XX.warm 6
        have y7 := XX.warm 7
        have Ow2 := Lib.hid (Ho.out.later Hb2.out)
        have El2 := Lib.hid (HEL.out.later Hb2.out)
        have Hg3 := Lib.hid (grown_sets wr.heap.size [.bool wr1, .int .i64 ad1, .int .i64 sz1, .int .i64 bu1, .bool lk1, .slice ax2 m cx2] (w0 := w2) (w := w2) 2 (grown_refl _ _))
        have Ow3 := Lib.hid (Ow2.out.far Hg3.out (fun j hj e => by have := (World.ownsRow.lt Ho.out j hj).2; have := Option.some.inj e; omega))
        have El3 := Lib.hid (show ElO (w.heap.size + 1) dn (setsW w2 wr.heap.size 2 [.bool wr1, .int .i64 ad1, .int .i64 sz1, .int .i64 bu1, .bool lk1, .slice ax2 m cx2]) from fun y hy => own_apart_sets (g := wr.heap.size) [.bool wr1, .int .i64 ad1, .int .i64 sz1, .int .i64 bu1, .bool lk1, .slice ax2 m cx2] 2 (El2.out y hy) (fun e => by have := (World.ownsRow.lt (HEL.out y hy) wr.heap.size e).2; omega))
        have Oc3 := Lib.hid (own_apart_sets (g := wr.heap.size) [.bool wr1, .int .i64 ad1, .int .i64 sz1, .int .i64 bu1, .bool lk1, .slice ax2 m cx2] 2 Ho2.out (fun e => by have := (World.ownsRow.lt Ho2.out wr.heap.size e).1; omega))
        have Ap3 := Lib.hid (HAP.out.push HEL.out (x := ((⟨t, who, wr1, ad1, sz1, bu1, lk1, da1⟩ : PC), Value.slice ax2 m cx2)) Ho2.out (Nat.le_succ _))
        have Elc := Lib.hid (El3.out.push (x := ((⟨t, who, wr1, ad1, sz1, bu1, lk1, da1⟩ : PC), Value.slice ax2 m cx2)) (Oc3.out.mono (by have := Hszr.out; omega)))
        have Hb3 := Lib.hid (below_sets [.bool wr1, .int .i64 ad1, .int .i64 sz1, .int .i64 bu1, .bool lk1, .slice ax2 m cx2] Hszr.out 2 (Hb.out.trans (Hb2.out.mono Hszr.out)))
        have Hw3 : Hid (w.heap.size + 1 ≤ (setsW w2 wr.heap.size 2 [.bool wr1, .int .i64 ad1, .int .i64 sz1, .int .i64 bu1, .bool lk1, .slice ax2 m cx2]).heap.size) := Lib.hid (Nat.le_trans (Nat.le_trans Hszr.out (Nat.le_of_succ_le Hsz2.out)) Hg3.out.size)
        have Hdl1 : Hid (dn.length + 1 ≤ 100000000) := Lib.hid (by have := HDL.out; omega)
        have Hmap := Lib.hid (show (dn ++ [((⟨t, who, wr1, ad1, sz1, bu1, lk1, da1⟩ : PC), Value.slice ax2 m cx2)]).map (·.1) = atT t (l.take (k + 1)) by
          unfold atT; rw [filt_yes HX.out rfl, List.map_append, HDM.out]; rfl)
        clear ho2 hb2 XX f0 f1 f2 f3 f4 f5 f6 f7
        go_wp2_with (at_builtin; refine app1g pvK (by decide) 44 92 i0 _ rfl (.tmp 23) (.tmp 25) rfl Try.underlying44 Hi0.out Hz0.out Hz1.out rfl Hz2.out (w.heap.size + 1) (.slice oad dn.length ocap) dn (setsW w2 wr.heap.size 2 [.bool wr1, .int .i64 ad1, .int .i64 sz1, .int .i64 bu1, .bool lk1, .slice ax2 m cx2]) ((⟨t, who, wr1, ad1, sz1, bu1, lk1, da1⟩ : PC), Value.slice ax2 m cx2) #[.int .i64 t, .int .i64 who, .bool wr1, .int .i64 ad1, .int .i64 sz1, .int .i64 bu1, .bool lk1, .slice ax2 m cx2] rfl (pv_one _ rfl) rfl (by show Value.slice (some (⟨w2.heap.size, 0, none⟩ : Addr)) 1 1 = _; simp [setsW, World.setCell]) Ow3.out Hw3.out Hdl1.out ?_; intro v' w8 hown8 hg8; have O8 := Lib.hid hown8; have El8 := Lib.hid (Elc.out.app Ow3.out hg8); have B8 := Lib.hid (Hb3.out.grown hg8 Hw3.out (fun j hj => (World.ownsRow.lt Ow3.out j hj).1)); clear hown8 hg8)
        go_roundw
        case rel => exact ⟨k + 1, _, by omega, by go_num, Hmap.out, by rw [List.length_append]; have := HDL.out; simp; omega, O8.out, El8.out, Ap3.out, B8.out⟩
        case measure => simp [intOf]; omega
      · have hte : (t == t0) = false := by simpa using ht
        have Hmap := Lib.hid (show dn.map (·.1) = atT t0 (l.take (k + 1)) by unfold atT; rw [filt_no HX.out ht, HDM.out]; rfl)
        have Hal := Lib.hid ((Below.refl wr.heap.size wr).alloc (Nat.le_refl _) (Obj.cells #[.int .i64 t, .int .i64 who, .bool wr1, .int .i64 ad1, .int .i64 sz1, .int .i64 bu1, .bool lk1, .slice ax m cx] 92))
        go_wp2_with fail
        go_roundw
        case rel => exact ⟨k + 1, dn, by omega, by go_num, Hmap.out, by have := HDL.out; omega, Ho.out.later Hal.out, HEL.out.later Hal.out, HAP.out, Hb.out.trans (Hal.out.mono Hszr.out)⟩
        case measure => simp [intOf]; omega
    · obtain rfl : k = n := by omega
      have Hfin := Lib.hid (show dn.map (·.1) = atT t0 l by have h := HDM.out; rwa [List.take_of_length_le (by rw [HN.out]; omega)] at h)
      go_wp2
      go_ret
      exact ⟨_, rfl, ⟨dn, Hfin.out, Ho.out.mono (Nat.le_succ _), HEL.out.mono (Nat.le_succ _), HAP.out⟩, Hbw.out⟩
end Go.Proofs.Ytijilhaoknpeeaa.Num
