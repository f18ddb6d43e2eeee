
/-
  Token buckets within small bounds: a cycle on, a token taken, a token put back, for the program and for its model. (Made by wip/genb4.py.)
-/
import Derived.Test.YtklcelcmbepbpaaBuck3
namespace Go.Proofs.Ytklcelcmbepbpaa.Num
open Go.RowKit Rows3 GR KD
set_option linter.unusedVariables false

set_option maxRecDepth 100000 in
theorem implUse (wt : Int) (p : Bool) (ev cap t c : Int) (hs : Small ev cap t c) (w : World) :
    Calls Try.prog 31 #[.agg #[.int .i64 t, .int .i64 c], .agg #[.int .i64 wt, .bool p, .int .i64 ev, .int .i64 cap]] w fun e w' => e = .returned (.bool (p && okB p ev cap t c)) ∧ Below w.heap.size w w' := by
  have A := (Bx.new 25 #[.int .i64 t, .int .i64 c] w).alloc (Obj.cells #[.int .i64 wt, .bool p, .int .i64 ev, .int .i64 cap] 27)
  have A2 := Bx.new 27 #[.int .i64 wt, .bool p, .int .i64 ev, .int .i64 cap] (w.alloc (Obj.cells #[.int .i64 t, .int .i64 c] 25))
  have hsz : ∀ (w : World) o, (w.alloc o).heap.size = w.heap.size + 1 := fun w o => by simp
  rw [hsz] at A2
  have b0 := A.cell 0 _ rfl
  have b1 := A.cell 1 _ rfl
  have g0 := A2.cell 0 _ rfl
  have g1 := A2.cell 1 _ rfl
  have g2 := A2.cell 2 _ rfl
  have g3 := A2.cell 3 _ rfl
  clear A A2 hsz
  have HB := Lib.hid (below2 _ w rfl (Obj.cells #[.int .i64 t, .int .i64 c] 25) (Obj.cells #[.int .i64 wt, .bool p, .int .i64 ev, .int .i64 cap] 27))
  cases p with
  | false =>
    go_enter Try.func31, Try.ntmps31
    go_wp2
    go_ret
    exact ⟨rfl, HB.out⟩
  | true =>
    go_enter Try.func31, Try.ntmps31
    go_wp2_with fail
    refine (implOkB wt true ev cap t c hs _).mono ?_
    rintro e w1 ⟨rfl, hb⟩
    have HB1 := Lib.hid (HB.out.trans (hb.mono HB.out.size))
    clear hb
    go_wp2
    go_ret
    exact ⟨rfl, HB1.out⟩
set_option maxRecDepth 100000 in
theorem implAdd (wt : Int) (p : Bool) (ev cap t c : Int) (hs : Small ev cap t c) (w : World) :
    Calls Try.prog 32 #[.agg #[.int .i64 t, .int .i64 c], .agg #[.int .i64 wt, .bool p, .int .i64 ev, .int .i64 cap]] w fun e w' => e = .returned (.agg #[.int .i64 (addB cap t), .int .i64 c]) ∧ Below w.heap.size w w' := by
  obtain ⟨⟨ht0, ht1⟩, ⟨hc0, hc1⟩, ⟨he0, he1⟩, ⟨hp0, hp1⟩⟩ := hs
  have hsz : ∀ (w : World) o, (w.alloc o).heap.size = w.heap.size + 1 := fun w o => by simp
  by_cases h : t < cap
  · have HE := Lib.hid (show addB cap t = t + 1 by simp [addB, h])
    rw [HE.out]
    have A := ((Bx.new 25 #[.int .i64 t, .int .i64 c] w).alloc (Obj.cells #[.int .i64 wt, .bool p, .int .i64 ev, .int .i64 cap] 27)).alloc (Obj.cells #[.int .i64 (t + 1), .int .i64 c] 25)
    have A2 := (Bx.new 27 #[.int .i64 wt, .bool p, .int .i64 ev, .int .i64 cap] (w.alloc (Obj.cells #[.int .i64 t, .int .i64 c] 25))).alloc (Obj.cells #[.int .i64 (t + 1), .int .i64 c] 25)
    rw [hsz] at A2
    have b0 := A.cell 0 _ rfl
    have b1 := A.cell 1 _ rfl
    have bz := A.warm 0
    have g3 := A2.cell 3 _ rfl
    clear A A2 hsz
    go_enter Try.func32, Try.ntmps32
    go_wp2_with fail
    refine bodyPost_ret (v := .agg #[.int .i64 (t + 1), .int .i64 c]) (by simp [results, Try.results32, go_sem]) rfl ⟨rfl, below3 _ _ rfl _ _ _⟩
  · have HE := Lib.hid (show addB cap t = t by simp [addB, h])
    rw [HE.out]
    have A := ((Bx.new 25 #[.int .i64 t, .int .i64 c] w).alloc (Obj.cells #[.int .i64 wt, .bool p, .int .i64 ev, .int .i64 cap] 27)).alloc (Obj.cells #[.int .i64 t, .int .i64 c] 25)
    have A2 := (Bx.new 27 #[.int .i64 wt, .bool p, .int .i64 ev, .int .i64 cap] (w.alloc (Obj.cells #[.int .i64 t, .int .i64 c] 25))).alloc (Obj.cells #[.int .i64 t, .int .i64 c] 25)
    rw [hsz] at A2
    have b0 := A.cell 0 _ rfl
    have b1 := A.cell 1 _ rfl
    have g3 := A2.cell 3 _ rfl
    clear A A2 hsz
    go_enter Try.func32, Try.ntmps32
    go_wp2_with fail
    refine bodyPost_ret (v := .agg #[.int .i64 t, .int .i64 c]) (by simp [results, Try.results32, go_sem]) rfl ⟨rfl, below3 _ _ rfl _ _ _⟩

theorem u_no {p : Bool} {ev cap t c : Int} (h : (p && okB p ev cap t c) = false) : tickT p ev cap t c = t ∧ tickC p ev cap t c = c ∧ takes p ev cap t c = false ∧ backT p ev cap t c = t := by
  unfold tickT tickC takes backT; rw [h]; simp
theorem u_yes {p : Bool} {ev cap t c : Int} (h : (p && okB p ev cap t c) = true) : 0 ≤ t ∧ t ≤ cap ∧ 0 ≤ c ∧ c < ev := by
  rw [Bool.and_eq_true] at h; obtain ⟨rfl, h⟩ := h; exact okB_iff.1 h
theorem tick_lt {p : Bool} {ev cap t c : Int} (h : (p && okB p ev cap t c) = true) (h1 : c + 1 < ev) : tickT p ev cap t c = t ∧ tickC p ev cap t c = c + 1 := by
  unfold tickT tickC; rw [h]; simp [h1]
theorem tick_eq {p : Bool} {ev cap t c : Int} (h : (p && okB p ev cap t c) = true) (h1 : c + 1 = ev) : tickT p ev cap t c = addB cap t ∧ tickC p ev cap t c = 0 := by
  unfold tickT tickC; rw [h]; simp [h1]
theorem take_0 {p : Bool} {ev cap c : Int} : takes p ev cap 0 c = false := by unfold takes; simp
theorem take_1 {p : Bool} {ev cap t c : Int} (h : (p && okB p ev cap t c) = true) (h1 : t ≠ 0) : takes p ev cap t c = true := by unfold takes; rw [h]; simp [h1]
theorem back_1 {p : Bool} {ev cap t c : Int} (h : (p && okB p ev cap t c) = true) : backT p ev cap t c = addB cap t := by unfold backT; rw [h]; simp
theorem addB_lt {cap t : Int} (h : t < cap) : addB cap t = t + 1 := by simp [addB, h]
theorem addB_ge {cap t : Int} (h : ¬ t < cap) : addB cap t = t := by simp [addB, h]
set_option maxRecDepth 100000 in
theorem implTick (wt : Int) (p : Bool) (ev cap t c : Int) (hs : Small ev cap t c) (w : World) :
    Calls Try.prog 15 #[.agg #[.int .i64 t, .int .i64 c], .agg #[.int .i64 wt, .bool p, .int .i64 ev, .int .i64 cap]] w fun e w' => e = .returned (.agg #[.int .i64 (tickT p ev cap t c), .int .i64 (tickC p ev cap t c)]) ∧ Below w.heap.size w w' := by
  have hsz : ∀ (w : World) o, (w.alloc o).heap.size = w.heap.size + 1 := fun w o => by simp
  obtain ⟨⟨ht0, ht1⟩, ⟨hc0, hc1⟩, ⟨he0, he1⟩, ⟨hp0, hp1⟩⟩ := id hs
  have A := ((Bx.new 25 #[.int .i64 t, .int .i64 c] w).alloc (Obj.cells #[.int .i64 wt, .bool p, .int .i64 ev, .int .i64 cap] 27)).alloc (Obj.cells #[.int .i64 0, .int .i64 0] 25)
  have A2 := (Bx.new 27 #[.int .i64 wt, .bool p, .int .i64 ev, .int .i64 cap] (w.alloc (Obj.cells #[.int .i64 t, .int .i64 c] 25))).alloc (Obj.cells #[.int .i64 0, .int .i64 0] 25)
  have A3 := Bx.new 25 #[.int .i64 0, .int .i64 0] ((w.alloc (Obj.cells #[.int .i64 t, .int .i64 c] 25)).alloc (Obj.cells #[.int .i64 wt, .bool p, .int .i64 ev, .int .i64 cap] 27))
  rw [hsz] at A2
  rw [hsz, hsz] at A3
  have HA := Lib.hid A
  have HA2 := Lib.hid A2
  have HA3 := Lib.hid A3
  have HB := Lib.hid (below3 _ w rfl (Obj.cells #[.int .i64 t, .int .i64 c] 25) (Obj.cells #[.int .i64 wt, .bool p, .int .i64 ev, .int .i64 cap] 27) (Obj.cells #[.int .i64 0, .int .i64 0] 25))
  clear A A2 A3 hsz
  cases hu : (p && okB p ev cap t c) with
  | false =>
    obtain ⟨e1, e2, _, _⟩ := u_no hu
    rw [e1, e2]
    have HU := Lib.hid hu
    clear hu e1 e2
    go_enter Try.func15, Try.ntmps15
    go_wp2_with fail
    generalize ((w.alloc _).alloc _).alloc _ = y0 at HA HA2 HA3 HB ⊢
    refine (implUse wt p ev cap t c hs _).mono ?_
    rintro e y1 ⟨rfl, hb⟩
    rw [HU.out]
    have A := HA.out.later hb
    have A2 := HA2.out.later hb
    have A3 := HA3.out.later hb
    have HB1 := Lib.hid (HB.out.trans (hb.mono HB.out.size))
    have b0 := A.cell 0 _ rfl
    have b1 := A.cell 1 _ rfl
    have x0 := A.warm 0
    have x1 := A.warm 1
    obtain ⟨g0, g1, g2, g3⟩ := A2.cells4
    have z0 := A3.warm 0
    have z1 := A3.warm 1
    have r0 := A3.cell 0 _ rfl
    have r1 := A3.cell 1 _ rfl
    clear A A2 A3 hb HA HA2 HA3 HB
    go_wp2_with fail
    refine bodyPost_ret (v := .agg #[.int .i64 t, .int .i64 c]) (by simp [results, Try.results15, go_sem, r0, r1]) rfl ⟨rfl, ((HB1.out).setCell (by simp; try omega) _).setCell (by simp; try omega) _⟩
  | true =>
    have hv := u_yes hu
    have HU := Lib.hid hu
    by_cases h1 : c + 1 < ev
    · obtain ⟨e1, e2⟩ := tick_lt hu h1
      rw [e1, e2]
      clear hu e1 e2
      go_enter Try.func15, Try.ntmps15
      go_wp2_with fail
      generalize ((w.alloc _).alloc _).alloc _ = y0 at HA HA2 HA3 HB ⊢
      refine (implUse wt p ev cap t c hs _).mono ?_
      rintro e y1 ⟨rfl, hb⟩
      rw [HU.out]
      have A := HA.out.later hb
      have A2 := HA2.out.later hb
      have A3 := HA3.out.later hb
      have HB1 := Lib.hid (HB.out.trans (hb.mono HB.out.size))
      have b0 := A.cell 0 _ rfl
      have b1 := A.cell 1 _ rfl
      have x0 := A.warm 0
      have x1 := A.warm 1
      obtain ⟨g0, g1, g2, g3⟩ := A2.cells4
      have z0 := A3.warm 0
      have z1 := A3.warm 1
      have r0 := A3.cell 0 _ rfl
      have r1 := A3.cell 1 _ rfl
      clear A A2 A3 hb HA HA2 HA3 HB
      go_wp2_with fail
      refine bodyPost_ret (v := .agg #[.int .i64 t, .int .i64 (c + 1)]) (by simp [results, Try.results15, go_sem, r0, r1]) rfl ⟨rfl, (((HB1.out).setCell (by simp; try omega) _).setCell (by simp; try omega) _).setCell (by simp; try omega) _⟩
    · obtain ⟨e1, e2⟩ := tick_eq hu (by omega)
      rw [e1, e2]
      clear hu e1 e2
      go_enter Try.func15, Try.ntmps15
      go_wp2_with fail
      have hs2 : Small ev cap t 0 := ⟨⟨ht0, ht1⟩, ⟨by omega, by omega⟩, ⟨he0, he1⟩, ⟨hp0, hp1⟩⟩
      generalize ((w.alloc _).alloc _).alloc _ = y0 at HA HA2 HA3 HB ⊢
      refine (implUse wt p ev cap t c hs _).mono ?_
      rintro e y1 ⟨rfl, hb⟩
      rw [HU.out]
      have A := HA.out.later hb
      have A2 := HA2.out.later hb
      have A3 := HA3.out.later hb
      have HB1 := Lib.hid (HB.out.trans (hb.mono HB.out.size))
      have b0 := A.cell 0 _ rfl
      have b1 := A.cell 1 _ rfl
      have x0 := A.warm 0
      have x1 := A.warm 1
      obtain ⟨g0, g1, g2, g3⟩ := A2.cells4
      have z0 := A3.warm 0
      have z1 := A3.warm 1
      have r0 := A3.cell 0 _ rfl
      have r1 := A3.cell 1 _ rfl
      have HX3 := Lib.hid A3
      clear A A2 A3 hb HA HA2 HA3 HB
      go_wp2_with fail
      have HX4 := Lib.hid (((HX3.out).far (p := ⟨w.heap.size, 1, none⟩) (by simp; try omega) (.int .i64 (c + 1))).far (p := ⟨w.heap.size, 1, none⟩) (by simp; try omega) (.int .i64 0))
      have HB2 := Lib.hid (((HB1.out).setCell (p := ⟨w.heap.size, 1, none⟩) (by simp) (.int .i64 (c + 1))).setCell (p := ⟨w.heap.size, 1, none⟩) (by simp) (.int .i64 0))
      clear HX3 HB1 b0 b1 x0 x1 g0 g1 g2 g3 z0 z1 r0 r1
      generalize (y1.setCell _ _).setCell _ _ = y2 at HX4 HB2 ⊢
      refine (implAdd wt p ev cap t 0 hs2 _).mono ?_
      rintro e y3 ⟨rfl, hb⟩
      have A3 := HX4.out.later hb
      have HB3 := Lib.hid (HB2.out.trans (hb.mono HB2.out.size))
      have z0 := A3.warm 0
      have z1 := A3.warm 1
      have r0 := A3.cell 0 _ rfl
      have r1 := A3.cell 1 _ rfl
      clear A3 hb HX4 HB2
      go_wp2_with fail
      refine bodyPost_ret (v := .agg #[.int .i64 (addB cap t), .int .i64 0]) (by simp [results, Try.results15, go_sem, r0, r1]) rfl ⟨rfl, ((HB3.out).setCell (by simp; try omega) _).setCell (by simp; try omega) _⟩
set_option maxRecDepth 100000 in
theorem implTake (wt : Int) (p : Bool) (ev cap t c : Int) (hs : Small ev cap t c) (w : World) :
    Calls Try.prog 17 #[.agg #[.int .i64 t, .int .i64 c], .agg #[.int .i64 wt, .bool p, .int .i64 ev, .int .i64 cap]] w fun e w' => e = .returned (.tuple #[.agg #[.int .i64 (if takes p ev cap t c then t - 1 else t), .int .i64 c], .bool (takes p ev cap t c)]) ∧ Below w.heap.size w w' := by
  have hsz : ∀ (w : World) o, (w.alloc o).heap.size = w.heap.size + 1 := fun w o => by simp
  obtain ⟨⟨ht0, ht1⟩, ⟨hc0, hc1⟩, ⟨he0, he1⟩, ⟨hp0, hp1⟩⟩ := id hs
  have A := ((Bx.new 25 #[.int .i64 t, .int .i64 c] w).alloc (Obj.cells #[.int .i64 wt, .bool p, .int .i64 ev, .int .i64 cap] 27)).alloc (Obj.cells #[.int .i64 0, .int .i64 0] 25)
  have A2 := (Bx.new 27 #[.int .i64 wt, .bool p, .int .i64 ev, .int .i64 cap] (w.alloc (Obj.cells #[.int .i64 t, .int .i64 c] 25))).alloc (Obj.cells #[.int .i64 0, .int .i64 0] 25)
  have A3 := Bx.new 25 #[.int .i64 0, .int .i64 0] ((w.alloc (Obj.cells #[.int .i64 t, .int .i64 c] 25)).alloc (Obj.cells #[.int .i64 wt, .bool p, .int .i64 ev, .int .i64 cap] 27))
  rw [hsz] at A2
  rw [hsz, hsz] at A3
  have HA := Lib.hid A
  have HA2 := Lib.hid A2
  have HA3 := Lib.hid A3
  have HB := Lib.hid (below3 _ w rfl (Obj.cells #[.int .i64 t, .int .i64 c] 25) (Obj.cells #[.int .i64 wt, .bool p, .int .i64 ev, .int .i64 cap] 27) (Obj.cells #[.int .i64 0, .int .i64 0] 25))
  clear A A2 A3 hsz
  cases hu : (p && okB p ev cap t c) with
  | false =>
    obtain ⟨_, _, e1, _⟩ := u_no hu
    rw [e1, if_neg (by decide)]
    have HU := Lib.hid hu
    clear hu e1
    go_enter Try.func17, Try.ntmps17
    go_wp2_with fail
    generalize ((w.alloc _).alloc _).alloc _ = y0 at HA HA2 HA3 HB ⊢
    refine (implUse wt p ev cap t c hs _).mono ?_
    rintro e y1 ⟨rfl, hb⟩
    rw [HU.out]
    have A := HA.out.later hb
    have A2 := HA2.out.later hb
    have A3 := HA3.out.later hb
    have HB1 := Lib.hid (HB.out.trans (hb.mono HB.out.size))
    have b0 := A.cell 0 _ rfl
    have b1 := A.cell 1 _ rfl
    have x0 := A.warm 0
    have x1 := A.warm 1
    obtain ⟨g0, g1, g2, g3⟩ := A2.cells4
    have z0 := A3.warm 0
    have z1 := A3.warm 1
    have r0 := A3.cell 0 _ rfl
    have r1 := A3.cell 1 _ rfl
    clear A A2 A3 hb HA HA2 HA3 HB
    go_wp2_with fail
    refine bodyPost_ret (v := .tuple #[.agg #[.int .i64 t, .int .i64 c], .bool false]) (by simp [results, Try.results17, go_sem, r0, r1]) rfl ⟨rfl, ((HB1.out).setCell (by simp; try omega) _).setCell (by simp; try omega) _⟩
  | true =>
    have hv := u_yes hu
    have HU := Lib.hid hu
    by_cases h1 : t = 0
    · subst h1
      rw [take_0, if_neg (by decide)]
      clear hu
      go_enter Try.func17, Try.ntmps17
      go_wp2_with fail
      generalize ((w.alloc _).alloc _).alloc _ = y0 at HA HA2 HA3 HB ⊢
      refine (implUse wt p ev cap 0 c hs _).mono ?_
      rintro e y1 ⟨rfl, hb⟩
      rw [HU.out]
      have A := HA.out.later hb
      have A2 := HA2.out.later hb
      have A3 := HA3.out.later hb
      have HB1 := Lib.hid (HB.out.trans (hb.mono HB.out.size))
      have b0 := A.cell 0 _ rfl
      have b1 := A.cell 1 _ rfl
      have x0 := A.warm 0
      have x1 := A.warm 1
      obtain ⟨g0, g1, g2, g3⟩ := A2.cells4
      have z0 := A3.warm 0
      have z1 := A3.warm 1
      have r0 := A3.cell 0 _ rfl
      have r1 := A3.cell 1 _ rfl
      clear A A2 A3 hb HA HA2 HA3 HB
      go_wp2_with fail
      refine bodyPost_ret (v := .tuple #[.agg #[.int .i64 0, .int .i64 c], .bool false]) (by simp [results, Try.results17, go_sem, r0, r1]) rfl ⟨rfl, ((HB1.out).setCell (by simp; try omega) _).setCell (by simp; try omega) _⟩
    · rw [take_1 hu h1, if_pos rfl]
      clear hu
      go_enter Try.func17, Try.ntmps17
      go_wp2_with fail
      generalize ((w.alloc _).alloc _).alloc _ = y0 at HA HA2 HA3 HB ⊢
      refine (implUse wt p ev cap t c hs _).mono ?_
      rintro e y1 ⟨rfl, hb⟩
      rw [HU.out]
      have A := HA.out.later hb
      have A2 := HA2.out.later hb
      have A3 := HA3.out.later hb
      have HB1 := Lib.hid (HB.out.trans (hb.mono HB.out.size))
      have b0 := A.cell 0 _ rfl
      have b1 := A.cell 1 _ rfl
      have x0 := A.warm 0
      have x1 := A.warm 1
      obtain ⟨g0, g1, g2, g3⟩ := A2.cells4
      have z0 := A3.warm 0
      have z1 := A3.warm 1
      have r0 := A3.cell 0 _ rfl
      have r1 := A3.cell 1 _ rfl
      clear A A2 A3 hb HA HA2 HA3 HB
      go_wp2_with fail
      refine bodyPost_ret (v := .tuple #[.agg #[.int .i64 (t - 1), .int .i64 c], .bool true]) (by simp [results, Try.results17, go_sem, r0, r1]) rfl ⟨rfl, (((HB1.out).setCell (by simp; try omega) _).setCell (by simp; try omega) _).setCell (by simp; try omega) _⟩
set_option maxRecDepth 100000 in
theorem implBack (wt : Int) (p : Bool) (ev cap t c : Int) (hs : Small ev cap t c) (w : World) :
    Calls Try.prog 18 #[.agg #[.int .i64 t, .int .i64 c], .agg #[.int .i64 wt, .bool p, .int .i64 ev, .int .i64 cap]] w fun e w' => e = .returned (.agg #[.int .i64 (backT p ev cap t c), .int .i64 c]) ∧ Below w.heap.size w w' := by
  have hsz : ∀ (w : World) o, (w.alloc o).heap.size = w.heap.size + 1 := fun w o => by simp
  obtain ⟨⟨ht0, ht1⟩, ⟨hc0, hc1⟩, ⟨he0, he1⟩, ⟨hp0, hp1⟩⟩ := id hs
  have A := ((Bx.new 25 #[.int .i64 t, .int .i64 c] w).alloc (Obj.cells #[.int .i64 wt, .bool p, .int .i64 ev, .int .i64 cap] 27)).alloc (Obj.cells #[.int .i64 0, .int .i64 0] 25)
  have A2 := (Bx.new 27 #[.int .i64 wt, .bool p, .int .i64 ev, .int .i64 cap] (w.alloc (Obj.cells #[.int .i64 t, .int .i64 c] 25))).alloc (Obj.cells #[.int .i64 0, .int .i64 0] 25)
  have A3 := Bx.new 25 #[.int .i64 0, .int .i64 0] ((w.alloc (Obj.cells #[.int .i64 t, .int .i64 c] 25)).alloc (Obj.cells #[.int .i64 wt, .bool p, .int .i64 ev, .int .i64 cap] 27))
  rw [hsz] at A2
  rw [hsz, hsz] at A3
  have HA := Lib.hid A
  have HA2 := Lib.hid A2
  have HA3 := Lib.hid A3
  have HB := Lib.hid (below3 _ w rfl (Obj.cells #[.int .i64 t, .int .i64 c] 25) (Obj.cells #[.int .i64 wt, .bool p, .int .i64 ev, .int .i64 cap] 27) (Obj.cells #[.int .i64 0, .int .i64 0] 25))
  clear A A2 A3 hsz
  cases hu : (p && okB p ev cap t c) with
  | false =>
    obtain ⟨_, _, _, e1⟩ := u_no hu
    rw [e1]
    have HU := Lib.hid hu
    clear hu e1
    go_enter Try.func18, Try.ntmps18
    go_wp2_with fail
    generalize ((w.alloc _).alloc _).alloc _ = y0 at HA HA2 HA3 HB ⊢
    refine (implUse wt p ev cap t c hs _).mono ?_
    rintro e y1 ⟨rfl, hb⟩
    rw [HU.out]
    have A := HA.out.later hb
    have A2 := HA2.out.later hb
    have A3 := HA3.out.later hb
    have HB1 := Lib.hid (HB.out.trans (hb.mono HB.out.size))
    have b0 := A.cell 0 _ rfl
    have b1 := A.cell 1 _ rfl
    have x0 := A.warm 0
    have x1 := A.warm 1
    obtain ⟨g0, g1, g2, g3⟩ := A2.cells4
    have z0 := A3.warm 0
    have z1 := A3.warm 1
    have r0 := A3.cell 0 _ rfl
    have r1 := A3.cell 1 _ rfl
    clear A A2 A3 hb HA HA2 HA3 HB
    go_wp2_with fail
    refine bodyPost_ret (v := .agg #[.int .i64 t, .int .i64 c]) (by simp [results, Try.results18, go_sem, r0, r1]) rfl ⟨rfl, ((HB1.out).setCell (by simp; try omega) _).setCell (by simp; try omega) _⟩
  | true =>
    rw [back_1 hu]
    have HU := Lib.hid hu
    clear hu
    go_enter Try.func18, Try.ntmps18
    go_wp2_with fail
    have hs2 := hs
    generalize ((w.alloc _).alloc _).alloc _ = y0 at HA HA2 HA3 HB ⊢
    refine (implUse wt p ev cap t c hs _).mono ?_
    rintro e y1 ⟨rfl, hb⟩
    rw [HU.out]
    have A := HA.out.later hb
    have A2 := HA2.out.later hb
    have A3 := HA3.out.later hb
    have HB1 := Lib.hid (HB.out.trans (hb.mono HB.out.size))
    have b0 := A.cell 0 _ rfl
    have b1 := A.cell 1 _ rfl
    have x0 := A.warm 0
    have x1 := A.warm 1
    obtain ⟨g0, g1, g2, g3⟩ := A2.cells4
    have z0 := A3.warm 0
    have z1 := A3.warm 1
    have r0 := A3.cell 0 _ rfl
    have r1 := A3.cell 1 _ rfl
    have HX3 := Lib.hid A3
    clear A A2 A3 hb HA HA2 HA3 HB
    go_wp2_with fail
    have HX4 := Lib.hid (HX3.out)
    have HB2 := Lib.hid (HB1.out)
    clear HX3 HB1 b0 b1 x0 x1 g0 g1 g2 g3 z0 z1 r0 r1
    refine (implAdd wt p ev cap t c hs2 _).mono ?_
    rintro e y3 ⟨rfl, hb⟩
    have A3 := HX4.out.later hb
    have HB3 := Lib.hid (HB2.out.trans (hb.mono HB2.out.size))
    have z0 := A3.warm 0
    have z1 := A3.warm 1
    have r0 := A3.cell 0 _ rfl
    have r1 := A3.cell 1 _ rfl
    clear A3 hb HX4 HB2
    go_wp2_with fail
    refine bodyPost_ret (v := .agg #[.int .i64 (addB cap t), .int .i64 c]) (by simp [results, Try.results18, go_sem, r0, r1]) rfl ⟨rfl, ((HB3.out).setCell (by simp; try omega) _).setCell (by simp; try omega) _⟩
set_option maxRecDepth 100000 in
theorem specTick (wt : Int) (p : Bool) (ev cap t c : Int) (hs : Small ev cap t c) (w : World) :
    Calls Try.prog 24 #[.agg #[.int .i64 t, .int .i64 c], .agg #[.int .i64 wt, .bool p, .int .i64 ev, .int .i64 cap]] w fun e w' => e = .returned (.agg #[.int .i64 (tickT p ev cap t c), .int .i64 (tickC p ev cap t c)]) ∧ Below w.heap.size w w' := by
  have hsz : ∀ (w : World) o, (w.alloc o).heap.size = w.heap.size + 1 := fun w o => by simp
  obtain ⟨⟨ht0, ht1⟩, ⟨hc0, hc1⟩, ⟨he0, he1⟩, ⟨hp0, hp1⟩⟩ := id hs
  have A := ((Bx.new 25 #[.int .i64 t, .int .i64 c] w).alloc (Obj.cells #[.int .i64 wt, .bool p, .int .i64 ev, .int .i64 cap] 27)).alloc (Obj.cells #[.int .i64 0, .int .i64 0] 25)
  have A2 := (Bx.new 27 #[.int .i64 wt, .bool p, .int .i64 ev, .int .i64 cap] (w.alloc (Obj.cells #[.int .i64 t, .int .i64 c] 25))).alloc (Obj.cells #[.int .i64 0, .int .i64 0] 25)
  have A3 := Bx.new 25 #[.int .i64 0, .int .i64 0] ((w.alloc (Obj.cells #[.int .i64 t, .int .i64 c] 25)).alloc (Obj.cells #[.int .i64 wt, .bool p, .int .i64 ev, .int .i64 cap] 27))
  rw [hsz] at A2
  rw [hsz, hsz] at A3
  have HA := Lib.hid A
  have HA2 := Lib.hid A2
  have HA3 := Lib.hid A3
  have HB := Lib.hid (below3 _ w rfl (Obj.cells #[.int .i64 t, .int .i64 c] 25) (Obj.cells #[.int .i64 wt, .bool p, .int .i64 ev, .int .i64 cap] 27) (Obj.cells #[.int .i64 0, .int .i64 0] 25))
  clear A A2 A3 hsz
  cases p with
  | false =>
    obtain ⟨e1, e2, _, _⟩ := u_no (p := false) (ev := ev) (cap := cap) (t := t) (c := c) rfl
    rw [e1, e2]
    clear e1 e2
    go_enter Try.func24, Try.ntmps24
    go_wp2_with fail
    refine bodyPost_ret (v := .agg #[.int .i64 t, .int .i64 c]) (by simp [results, Try.results24, go_sem]) rfl ⟨rfl, below3 _ _ rfl _ _ _⟩
  | true =>
    cases ho : okB true ev cap t c with
    | false =>
      obtain ⟨e1, e2, _, _⟩ := u_no (p := true) (ev := ev) (cap := cap) (t := t) (c := c) (by rw [ho]; rfl)
      rw [e1, e2]
      have HO := Lib.hid ho
      clear ho e1 e2
      go_enter Try.func24, Try.ntmps24
      go_wp2_with fail
      generalize ((w.alloc _).alloc _).alloc _ = y0 at HA HA2 HA3 HB ⊢
      refine (specOkB wt true ev cap t c hs _).mono ?_
      rintro e y1 ⟨rfl, hb⟩
      rw [HO.out]
      have A := HA.out.later hb
      have A2 := HA2.out.later hb
      have A3 := HA3.out.later hb
      have HB1 := Lib.hid (HB.out.trans (hb.mono HB.out.size))
      have b0 := A.cell 0 _ rfl
      have b1 := A.cell 1 _ rfl
      have x0 := A.warm 0
      have x1 := A.warm 1
      obtain ⟨g0, g1, g2, g3⟩ := A2.cells4
      have z0 := A3.warm 0
      have z1 := A3.warm 1
      have r0 := A3.cell 0 _ rfl
      have r1 := A3.cell 1 _ rfl
      clear A A2 A3 hb HA HA2 HA3 HB
      go_wp2_with fail
      refine bodyPost_ret (v := .agg #[.int .i64 t, .int .i64 c]) (by simp [results, Try.results24, go_sem, r0, r1]) rfl ⟨rfl, ((HB1.out).setCell (by simp; try omega) _).setCell (by simp; try omega) _⟩
    | true =>
      have hv := okB_iff.1 ho
      have hu : (true && okB true ev cap t c) = true := by rw [ho]; rfl
      have HO := Lib.hid ho
      clear ho
      by_cases h1 : c + 1 = ev
      · obtain ⟨e1, e2⟩ := tick_eq hu h1
        rw [e1, e2]
        clear hu e1 e2
        by_cases h2 : t < cap
        · rw [addB_lt h2]
          by_cases h3 : t + 1 < cap
          · go_enter Try.func24, Try.ntmps24
            go_wp2_with fail
            generalize ((w.alloc _).alloc _).alloc _ = y0 at HA HA2 HA3 HB ⊢
            refine (specOkB wt true ev cap t c hs _).mono ?_
            rintro e y1 ⟨rfl, hb⟩
            rw [HO.out]
            have A := HA.out.later hb
            have A2 := HA2.out.later hb
            have A3 := HA3.out.later hb
            have HB1 := Lib.hid (HB.out.trans (hb.mono HB.out.size))
            have b0 := A.cell 0 _ rfl
            have b1 := A.cell 1 _ rfl
            have x0 := A.warm 0
            have x1 := A.warm 1
            obtain ⟨g0, g1, g2, g3⟩ := A2.cells4
            have z0 := A3.warm 0
            have z1 := A3.warm 1
            have r0 := A3.cell 0 _ rfl
            have r1 := A3.cell 1 _ rfl
            clear A A2 A3 hb HA HA2 HA3 HB
            go_wp2_with fail
            refine bodyPost_ret (v := .agg #[.int .i64 (t + 1), .int .i64 0]) (by simp [results, Try.results24, go_sem, r0, r1]) rfl ⟨rfl, (((((HB1.out).setCell (by simp; try omega) _).setCell (by simp; try omega) _).setCell (by simp; try omega) _).setCell (by simp; try omega) _).setCell (by simp; try omega) _⟩
          · obtain rfl : cap = t + 1 := by omega
            go_enter Try.func24, Try.ntmps24
            go_wp2_with fail
            generalize ((w.alloc _).alloc _).alloc _ = y0 at HA HA2 HA3 HB ⊢
            refine (specOkB wt true ev (t + 1) t c hs _).mono ?_
            rintro e y1 ⟨rfl, hb⟩
            rw [HO.out]
            have A := HA.out.later hb
            have A2 := HA2.out.later hb
            have A3 := HA3.out.later hb
            have HB1 := Lib.hid (HB.out.trans (hb.mono HB.out.size))
            have b0 := A.cell 0 _ rfl
            have b1 := A.cell 1 _ rfl
            have x0 := A.warm 0
            have x1 := A.warm 1
            obtain ⟨g0, g1, g2, g3⟩ := A2.cells4
            have z0 := A3.warm 0
            have z1 := A3.warm 1
            have r0 := A3.cell 0 _ rfl
            have r1 := A3.cell 1 _ rfl
            clear A A2 A3 hb HA HA2 HA3 HB
            go_wp2_with fail
            refine bodyPost_ret (v := .agg #[.int .i64 (t + 1), .int .i64 0]) (by simp [results, Try.results24, go_sem, r0, r1]) rfl ⟨rfl, (((((HB1.out).setCell (by simp; try omega) _).setCell (by simp; try omega) _).setCell (by simp; try omega) _).setCell (by simp; try omega) _).setCell (by simp; try omega) _⟩
        · rw [addB_ge h2]
          obtain rfl : t = cap := by omega
          go_enter Try.func24, Try.ntmps24
          go_wp2_with fail
          generalize ((w.alloc _).alloc _).alloc _ = y0 at HA HA2 HA3 HB ⊢
          refine (specOkB wt true ev t t c hs _).mono ?_
          rintro e y1 ⟨rfl, hb⟩
          rw [HO.out]
          have A := HA.out.later hb
          have A2 := HA2.out.later hb
          have A3 := HA3.out.later hb
          have HB1 := Lib.hid (HB.out.trans (hb.mono HB.out.size))
          have b0 := A.cell 0 _ rfl
          have b1 := A.cell 1 _ rfl
          have x0 := A.warm 0
          have x1 := A.warm 1
          obtain ⟨g0, g1, g2, g3⟩ := A2.cells4
          have z0 := A3.warm 0
          have z1 := A3.warm 1
          have r0 := A3.cell 0 _ rfl
          have r1 := A3.cell 1 _ rfl
          clear A A2 A3 hb HA HA2 HA3 HB
          go_wp2_with fail
          refine bodyPost_ret (v := .agg #[.int .i64 t, .int .i64 0]) (by simp [results, Try.results24, go_sem, r0, r1]) rfl ⟨rfl, (((((HB1.out).setCell (by simp; try omega) _).setCell (by simp; try omega) _).setCell (by simp; try omega) _).setCell (by simp; try omega) _).setCell (by simp; try omega) _⟩
      · obtain ⟨e1, e2⟩ := tick_lt hu (by omega)
        rw [e1, e2]
        clear hu e1 e2
        go_enter Try.func24, Try.ntmps24
        go_wp2_with fail
        generalize ((w.alloc _).alloc _).alloc _ = y0 at HA HA2 HA3 HB ⊢
        refine (specOkB wt true ev cap t c hs _).mono ?_
        rintro e y1 ⟨rfl, hb⟩
        rw [HO.out]
        have A := HA.out.later hb
        have A2 := HA2.out.later hb
        have A3 := HA3.out.later hb
        have HB1 := Lib.hid (HB.out.trans (hb.mono HB.out.size))
        have b0 := A.cell 0 _ rfl
        have b1 := A.cell 1 _ rfl
        have x0 := A.warm 0
        have x1 := A.warm 1
        obtain ⟨g0, g1, g2, g3⟩ := A2.cells4
        have z0 := A3.warm 0
        have z1 := A3.warm 1
        have r0 := A3.cell 0 _ rfl
        have r1 := A3.cell 1 _ rfl
        clear A A2 A3 hb HA HA2 HA3 HB
        go_wp2_with fail
        refine bodyPost_ret (v := .agg #[.int .i64 t, .int .i64 (c + 1)]) (by simp [results, Try.results24, go_sem, r0, r1]) rfl ⟨rfl, (((HB1.out).setCell (by simp; try omega) _).setCell (by simp; try omega) _).setCell (by simp; try omega) _⟩
set_option maxRecDepth 100000 in
theorem specTake (wt : Int) (p : Bool) (ev cap t c : Int) (hs : Small ev cap t c) (w : World) :
    Calls Try.prog 25 #[.agg #[.int .i64 t, .int .i64 c], .agg #[.int .i64 wt, .bool p, .int .i64 ev, .int .i64 cap]] w fun e w' => e = .returned (.tuple #[.agg #[.int .i64 (if takes p ev cap t c then t - 1 else t), .int .i64 c], .bool (takes p ev cap t c)]) ∧ Below w.heap.size w w' := by
  have hsz : ∀ (w : World) o, (w.alloc o).heap.size = w.heap.size + 1 := fun w o => by simp
  obtain ⟨⟨ht0, ht1⟩, ⟨hc0, hc1⟩, ⟨he0, he1⟩, ⟨hp0, hp1⟩⟩ := id hs
  have A := ((Bx.new 25 #[.int .i64 t, .int .i64 c] w).alloc (Obj.cells #[.int .i64 wt, .bool p, .int .i64 ev, .int .i64 cap] 27)).alloc (Obj.cells #[.int .i64 0, .int .i64 0] 25)
  have A2 := (Bx.new 27 #[.int .i64 wt, .bool p, .int .i64 ev, .int .i64 cap] (w.alloc (Obj.cells #[.int .i64 t, .int .i64 c] 25))).alloc (Obj.cells #[.int .i64 0, .int .i64 0] 25)
  have A3 := Bx.new 25 #[.int .i64 0, .int .i64 0] ((w.alloc (Obj.cells #[.int .i64 t, .int .i64 c] 25)).alloc (Obj.cells #[.int .i64 wt, .bool p, .int .i64 ev, .int .i64 cap] 27))
  rw [hsz] at A2
  rw [hsz, hsz] at A3
  have HA := Lib.hid A
  have HA2 := Lib.hid A2
  have HA3 := Lib.hid A3
  have HB := Lib.hid (below3 _ w rfl (Obj.cells #[.int .i64 t, .int .i64 c] 25) (Obj.cells #[.int .i64 wt, .bool p, .int .i64 ev, .int .i64 cap] 27) (Obj.cells #[.int .i64 0, .int .i64 0] 25))
  clear A A2 A3 hsz
  cases p with
  | false =>
    obtain ⟨_, _, e1, _⟩ := u_no (p := false) (ev := ev) (cap := cap) (t := t) (c := c) rfl
    rw [e1, if_neg (by decide)]
    clear e1
    go_enter Try.func25, Try.ntmps25
    go_wp2_with fail
    refine bodyPost_ret (v := .tuple #[.agg #[.int .i64 t, .int .i64 c], .bool false]) (by simp [results, Try.results25, go_sem]) rfl ⟨rfl, below3 _ _ rfl _ _ _⟩
  | true =>
    cases ho : okB true ev cap t c with
    | false =>
      obtain ⟨_, _, e1, _⟩ := u_no (p := true) (ev := ev) (cap := cap) (t := t) (c := c) (by rw [ho]; rfl)
      rw [e1, if_neg (by decide)]
      have HO := Lib.hid ho
      clear ho e1
      go_enter Try.func25, Try.ntmps25
      go_wp2_with fail
      generalize ((w.alloc _).alloc _).alloc _ = y0 at HA HA2 HA3 HB ⊢
      refine (specOkB wt true ev cap t c hs _).mono ?_
      rintro e y1 ⟨rfl, hb⟩
      rw [HO.out]
      have A := HA.out.later hb
      have A2 := HA2.out.later hb
      have A3 := HA3.out.later hb
      have HB1 := Lib.hid (HB.out.trans (hb.mono HB.out.size))
      have b0 := A.cell 0 _ rfl
      have b1 := A.cell 1 _ rfl
      have x0 := A.warm 0
      have x1 := A.warm 1
      obtain ⟨g0, g1, g2, g3⟩ := A2.cells4
      have z0 := A3.warm 0
      have z1 := A3.warm 1
      have r0 := A3.cell 0 _ rfl
      have r1 := A3.cell 1 _ rfl
      clear A A2 A3 hb HA HA2 HA3 HB
      go_wp2_with fail
      refine bodyPost_ret (v := .tuple #[.agg #[.int .i64 t, .int .i64 c], .bool false]) (by simp [results, Try.results25, go_sem, r0, r1]) rfl ⟨rfl, ((HB1.out).setCell (by simp; try omega) _).setCell (by simp; try omega) _⟩
    | true =>
      have hv := okB_iff.1 ho
      have hu : (true && okB true ev cap t c) = true := by rw [ho]; rfl
      have HO := Lib.hid ho
      clear ho
      by_cases h1 : t = 0
      · subst h1
        rw [take_0, if_neg (by decide)]
        clear hu
        go_enter Try.func25, Try.ntmps25
        go_wp2_with fail
        generalize ((w.alloc _).alloc _).alloc _ = y0 at HA HA2 HA3 HB ⊢
        refine (specOkB wt true ev cap 0 c hs _).mono ?_
        rintro e y1 ⟨rfl, hb⟩
        rw [HO.out]
        have A := HA.out.later hb
        have A2 := HA2.out.later hb
        have A3 := HA3.out.later hb
        have HB1 := Lib.hid (HB.out.trans (hb.mono HB.out.size))
        have b0 := A.cell 0 _ rfl
        have b1 := A.cell 1 _ rfl
        have x0 := A.warm 0
        have x1 := A.warm 1
        obtain ⟨g0, g1, g2, g3⟩ := A2.cells4
        have z0 := A3.warm 0
        have z1 := A3.warm 1
        have r0 := A3.cell 0 _ rfl
        have r1 := A3.cell 1 _ rfl
        clear A A2 A3 hb HA HA2 HA3 HB
        go_wp2_with fail
        refine bodyPost_ret (v := .tuple #[.agg #[.int .i64 0, .int .i64 c], .bool false]) (by simp [results, Try.results25, go_sem, r0, r1]) rfl ⟨rfl, ((HB1.out).setCell (by simp; try omega) _).setCell (by simp; try omega) _⟩
      · rw [take_1 hu h1, if_pos rfl]
        clear hu
        go_enter Try.func25, Try.ntmps25
        go_wp2_with fail
        generalize ((w.alloc _).alloc _).alloc _ = y0 at HA HA2 HA3 HB ⊢
        refine (specOkB wt true ev cap t c hs _).mono ?_
        rintro e y1 ⟨rfl, hb⟩
        rw [HO.out]
        have A := HA.out.later hb
        have A2 := HA2.out.later hb
        have A3 := HA3.out.later hb
        have HB1 := Lib.hid (HB.out.trans (hb.mono HB.out.size))
        have b0 := A.cell 0 _ rfl
        have b1 := A.cell 1 _ rfl
        have x0 := A.warm 0
        have x1 := A.warm 1
        obtain ⟨g0, g1, g2, g3⟩ := A2.cells4
        have z0 := A3.warm 0
        have z1 := A3.warm 1
        have r0 := A3.cell 0 _ rfl
        have r1 := A3.cell 1 _ rfl
        clear A A2 A3 hb HA HA2 HA3 HB
        go_wp2_with fail
        refine bodyPost_ret (v := .tuple #[.agg #[.int .i64 (t - 1), .int .i64 c], .bool true]) (by simp [results, Try.results25, go_sem, r0, r1]) rfl ⟨rfl, (((HB1.out).setCell (by simp; try omega) _).setCell (by simp; try omega) _).setCell (by simp; try omega) _⟩
end Go.Proofs.Ytklcelcmbepbpaa.Num
