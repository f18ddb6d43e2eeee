
/-
  The buckets that are drawn of a code: spec.DrawBucketTick.
-/
import Derived.Test.YtklcelcmbepbpaaDrawB
namespace Go.Proofs.Ytklcelcmbepbpaa.CurB
open Go.RowKit Bytes Num GR KD Cur
set_option linter.unusedVariables false

/-- what is drawn of a code. -/
def DrewBC (w : World) (e : Ending) (w' : World) : Prop :=
  ∃ p ev cap t k, MV p ev cap ∧ Small ev cap t k ∧ e = .returned (.tuple #[.agg #[.int .i64 t, .int .i64 k], MVal p ev cap]) ∧ Below w.heap.size w w'
set_option maxHeartbeats 4000000 in
set_option maxRecDepth 100000 in
theorem drawBk (a : Option Addr) (len cap0 : Nat) (z : List Int) (w : World) (h : CodeIn a len z w) : Calls Try.prog 28 #[.slice a len cap0] w (DrewBC w) := by
  have hsz : ∀ (w : World) o, (w.alloc o).heap.size = w.heap.size + 1 := fun w o => by simp
  have B0 := (Bx.new 25 #[.int .i64 0, .int .i64 0] w).alloc (.cells #[.int .i64 0, .bool false, .int .i64 0, .int .i64 0] 27)
  have M0 := Bx.new 27 #[.int .i64 0, .bool false, .int .i64 0, .int .i64 0] (w.alloc (.cells #[.int .i64 0, .int .i64 0] 25))
  rw [hsz] at M0
  have O0 := ((Below.refl w.heap.size w).alloc (Nat.le_refl _) (.cells #[.int .i64 0, .int .i64 0] 25)).alloc (by simp) (.cells #[.int .i64 0, .bool false, .int .i64 0, .int .i64 0] 27)
  have HB := Lib.hid B0
  have HM := Lib.hid M0
  have HO := Lib.hid O0
  have HC := Lib.hid (h.below O0)
  clear B0 M0 O0 hsz h
  go_enter Try.func28, Try.ntmps28
  go_wp2_with fail
  generalize (w.alloc _).alloc _ = y0 at HB HM HO HC ⊢
  refine (newC a len cap0 z _ HC.out).mono ?_
  rintro e y1 ⟨c, rfl, hc, hC1, hb1⟩
  have hM := HM.out.lt
  have hc0 : w.heap.size + 1 < c := by omega
  have HB1 := Lib.hid (HB.out.later hb1)
  have HM1 := Lib.hid (HM.out.later hb1)
  have HO1 := Lib.hid (HO.out.trans (hb1.mono HO.out.size))
  have HC1 := Lib.hid hC1
  clear HB HM HO HC hc hb1 hC1 hM
  go_wp2_with fail
  refine (bk_any _ c _ HC1.out).mono ?_
  rintro e y2 ⟨p, ev, cap, t, k, hmv, hsm, rfl, hC2, hO2⟩
  have HB2 := Lib.hid (bx_only HB1.out hO2 (by omega))
  have HM2 := Lib.hid (bx_only HM1.out hO2 (by omega))
  have HO2 := Lib.hid (Only.below HO1.out (by omega) hO2)
  clear HB1 HM1 HO1 HC1 hC2 hO2
  unfold MVal
  obtain ⟨n4, hn4⟩ : ∃ n, y2.heap.size = n := ⟨_, rfl⟩
  have hn : w.heap.size + 1 < n4 := hn4 ▸ HM2.out.lt
  have hsz : ∀ (w : World) o, (w.alloc o).heap.size = w.heap.size + 1 := fun w o => by simp
  have B5 := (Bx.new 25 #[.int .i64 t, .int .i64 k] y2).alloc (.cells #[.int .i64 1, .bool p, .int .i64 ev, .int .i64 cap] 27)
  have M5 := Bx.new 27 #[.int .i64 1, .bool p, .int .i64 ev, .int .i64 cap] (y2.alloc (.cells #[.int .i64 t, .int .i64 k] 25))
  rw [hsz] at M5
  have O5 := ((Below.refl y2.heap.size y2).alloc (Nat.le_refl _) (.cells #[.int .i64 t, .int .i64 k] 25)).alloc (by simp) (.cells #[.int .i64 1, .bool p, .int .i64 ev, .int .i64 cap] 27)
  rw [hn4] at B5 M5
  have HB5 := Lib.hid B5
  have HM5 := Lib.hid M5
  have GB := Lib.hid (HB2.out.later O5)
  have GM := Lib.hid (HM2.out.later O5)
  have GO := Lib.hid (HO2.out.trans (O5.mono HO2.out.size))
  clear B5 M5 O5 HB2 HM2 HO2 hsz
  go_wp2_with fail
  generalize (y2.alloc _).alloc _ = w5 at HB5 HM5 GB GM GO ⊢
  obtain ⟨f0, f1⟩ := Bx.cells2 HB5.out
  obtain ⟨g0, g1, g2, g3⟩ := HM5.out.cells4
  obtain ⟨r0, r1⟩ := Bx.cells2 GB.out
  have y0 := GB.out.warm 0
  have y1 := GB.out.warm 1
  obtain ⟨s0, s1, s2, s3⟩ := GM.out.cells4
  have z0 := GM.out.warm 0
  have z1 := GM.out.warm 1
  have z2 := GM.out.warm 2
  have z3 := GM.out.warm 3
  go_region
  go_wp2_with fail
  have RB := Bx.drew ((((((GB.out.set 0 (.int .i64 t)).set 1 (.int .i64 k)).far (p := ⟨w.heap.size + 1, 0, none⟩) (by simp) (.int .i64 1)).far (p := ⟨w.heap.size + 1, 1, none⟩) (by simp) (.bool p)).far (p := ⟨w.heap.size + 1, 2, none⟩) (by simp) (.int .i64 ev)).far (p := ⟨w.heap.size + 1, 3, none⟩) (by simp) (.int .i64 cap))
  have RM := Bx.drew ((((((GM.out.far (p := ⟨w.heap.size, 0, none⟩) (by simp) (.int .i64 t)).far (p := ⟨w.heap.size, 1, none⟩) (by simp) (.int .i64 k)).set 0 (.int .i64 1)).set 1 (.bool p)).set 2 (.int .i64 ev)).set 3 (.int .i64 cap))
  obtain ⟨e0, e1⟩ := Bx.cells2 (show Bx 25 w.heap.size #[.int .i64 t, .int .i64 k] _ from RB)
  obtain ⟨d0, d1, d2, d3⟩ := Bx.cells4 (show Bx 27 (w.heap.size + 1) #[.int .i64 1, .bool p, .int .i64 ev, .int .i64 cap] _ from RM)
  refine bodyPost_ret (v := .tuple #[.agg #[.int .i64 t, .int .i64 k], MVal p ev cap]) (by simp [MVal, results, Try.results28, go_sem, e0, e1, d0, d1, d2, d3]) rfl ⟨p, ev, cap, t, k, hmv, hsm, rfl, ?_⟩
  refine Below.drew ?_
  iterate 6 refine Below.setCell ?_ (by first | exact Nat.le_refl _ | (dsimp only; omega)) _
  exact GO.out
set_option maxRecDepth 100000 in
theorem drawTick (a : Option Addr) (len cap0 : Nat) (z : List Int) (w : World) (h : CodeIn a len z w) : Calls Try.prog 11 #[.slice a len cap0] w (DrewBC w) := by
  have hsz : ∀ (w : World) o, (w.alloc o).heap.size = w.heap.size + 1 := fun w o => by simp
  have B0 := (Bx.new 25 #[.int .i64 0, .int .i64 0] w).alloc (.cells #[.int .i64 0, .bool false, .int .i64 0, .int .i64 0] 27)
  have M0 := Bx.new 27 #[.int .i64 0, .bool false, .int .i64 0, .int .i64 0] (w.alloc (.cells #[.int .i64 0, .int .i64 0] 25))
  rw [hsz] at M0
  have O0 := ((Below.refl w.heap.size w).alloc (Nat.le_refl _) (.cells #[.int .i64 0, .int .i64 0] 25)).alloc (by simp) (.cells #[.int .i64 0, .bool false, .int .i64 0, .int .i64 0] 27)
  have HB := Lib.hid B0
  have HM := Lib.hid M0
  have HO := Lib.hid O0
  have HC := Lib.hid (h.below O0)
  clear B0 M0 O0 hsz h
  go_enter Try.func11, Try.ntmps11
  go_wp2_with fail
  generalize (w.alloc _).alloc _ = y0 at HB HM HO HC ⊢
  refine (drawBk a len cap0 z _ HC.out).mono ?_
  rintro e w5 ⟨p, ev, cap, t, k, hmv, hsm, rfl, hb⟩
  unfold MVal
  have GB := Lib.hid (HB.out.later hb)
  have GM := Lib.hid (HM.out.later hb)
  have GO := Lib.hid (HO.out.trans (hb.mono HO.out.size))
  clear HB HM HO HC hb
  obtain ⟨r0, r1⟩ := Bx.cells2 GB.out
  have y0 := GB.out.warm 0
  have y1 := GB.out.warm 1
  obtain ⟨s0, s1, s2, s3⟩ := GM.out.cells4
  have z0 := GM.out.warm 0
  have z1 := GM.out.warm 1
  have z2 := GM.out.warm 2
  have z3 := GM.out.warm 3
  go_wp2_with fail
  have RB := ((((((GB.out.set 0 (.int .i64 t)).set 1 (.int .i64 k)).far (p := ⟨w.heap.size + 1, 0, none⟩) (by simp) (.int .i64 1)).far (p := ⟨w.heap.size + 1, 1, none⟩) (by simp) (.bool p)).far (p := ⟨w.heap.size + 1, 2, none⟩) (by simp) (.int .i64 ev)).far (p := ⟨w.heap.size + 1, 3, none⟩) (by simp) (.int .i64 cap))
  have RM := ((((((GM.out.far (p := ⟨w.heap.size, 0, none⟩) (by simp) (.int .i64 t)).far (p := ⟨w.heap.size, 1, none⟩) (by simp) (.int .i64 k)).set 0 (.int .i64 1)).set 1 (.bool p)).set 2 (.int .i64 ev)).set 3 (.int .i64 cap))
  obtain ⟨e0, e1⟩ := Bx.cells2 (show Bx 25 w.heap.size #[.int .i64 t, .int .i64 k] _ from RB)
  obtain ⟨d0, d1, d2, d3⟩ := Bx.cells4 (show Bx 27 (w.heap.size + 1) #[.int .i64 1, .bool p, .int .i64 ev, .int .i64 cap] _ from RM)
  refine bodyPost_ret (v := .tuple #[.agg #[.int .i64 t, .int .i64 k], MVal p ev cap]) (by simp [MVal, results, Try.results11, go_sem, e0, e1, d0, d1, d2, d3]) rfl ⟨p, ev, cap, t, k, hmv, hsm, rfl, ?_⟩
  iterate 6 refine Below.setCell ?_ (by first | exact Nat.le_refl _ | (dsimp only; omega)) _
  exact GO.out
/-- a byte of the code, or what stands for it. -/
theorem at_any (a : Option Addr) (len cap0 : Nat) (z : List Int) (i : Int) (hi : 0 ≤ i) (hi2 : i ≤ 100) (w : World) (h : CodeIn a len z w) :
    Calls Try.prog 16 #[.slice a len cap0, .int .i64 i] w fun e w' => ∃ x : Int, (0 ≤ x ∧ x < 256) ∧ e = .returned (.int .i64 x) ∧ w = w' := by
  obtain ⟨k, rfl⟩ : ∃ k : Nat, i = k := ⟨i.toNat, by omega⟩
  have hl := h.2.2
  by_cases hk : k < len
  · obtain ⟨b, o, rfl, hb, hc⟩ := h.1 k hk
    have hz := h.2.1 k
    obtain ⟨y, hy⟩ : ∃ y, z.getD k 0 = y := ⟨_, rfl⟩
    rw [hy] at hc hz
    clear h hy
    go_enter Try.func16, Try.ntmps16
    go_wp2
    go_ret
    exact ⟨y, hz, rfl, rfl⟩
  · clear h
    go_enter Try.func16, Try.ntmps16
    go_wp2
    go_ret
    exact ⟨_, ⟨Int.emod_nonneg _ (by omega), Int.emod_lt_of_pos _ (by omega)⟩, rfl, rfl⟩
end Go.Proofs.Ytklcelcmbepbpaa.CurB
