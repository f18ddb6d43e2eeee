
/-
  The buckets that are drawn: spec.l10M, spec.l10Draw, spec.DrawBucketTick.
-/
import Derived.Test.YtklcelcmbepbpaaBuck4
import Derived.Test.YtklcelcmbepbpaaCurD
import Derived.Test.YtklcelcmbepbpaaDraw4
import Derived.Deep.RegionLaw
namespace Go.Proofs.Ytklcelcmbepbpaa.CurB
open Go.RowKit Bytes Num GR KD Cur
set_option linter.unusedVariables false

theorem Only.below2 {c : Nat} {w w1 w2 : World} (h : Only c w w1) (k : Below w1.heap.size w1 w2) : Only c w w2 := h.trans (Only.of_below k)
theorem bx_only {T b c : Nat} {cs : Array Value} {w w' : World} (h : Bx T b cs w) (hO : Only c w w') (hc : b ≠ c) : Bx T b cs w' := (hO.block b h.lt hc).trans h
theorem only_undrew {c : Nat} {w w' : World} (h : Only c w.drew w') : Only c w w' := ⟨h.os, h.tape, h.output, h.size, h.block⟩
theorem Bx.cells2 {T : TypeId} {b : Nat} {c0 c1 : Value} {w : World} (h : Bx T b #[c0, c1] w) : w.cell? ⟨b, 0, none⟩ = some c0 ∧ w.cell? ⟨b, 1, none⟩ = some c1 := ⟨h.cell 0 _ rfl, h.cell 1 _ rfl⟩
/-- a master's configuration that is drawn. -/
def MV (p : Bool) (ev cap : Int) : Prop := (p = false ∧ ev = 0 ∧ cap = 0) ∨ (p = true ∧ (1 ≤ ev ∧ ev ≤ 6) ∧ (1 ≤ cap ∧ cap ≤ 4))
theorem MV.bd {p : Bool} {ev cap : Int} (h : MV p ev cap) : (0 ≤ ev ∧ ev ≤ 6) ∧ 0 ≤ cap ∧ cap ≤ 4 := by
  rcases h with ⟨_, rfl, rfl⟩ | ⟨_, h1, h2⟩ <;> omega
def MVal (p : Bool) (ev cap : Int) : Value := .agg #[.int .i64 1, .bool p, .int .i64 ev, .int .i64 cap]

set_option maxRecDepth 100000 in
theorem m_any (D c : Nat) (w : World) (h : CuD D c w) : Calls Try.prog 35 #[.pointer (some ⟨c, 0, none⟩)] w fun e w' => ∃ p ev cap, MV p ev cap ∧ e = .returned (MVal p ev cap) ∧ CuD D c w' ∧ Only c w w' := by
  have hD := h.le
  have hcD := h.lt
  have B0 := Bx.new 27 #[.int .i64 0, .bool false, .int .i64 0, .int .i64 0] w
  have hO0 := (Only.refl c w).alloc (.cells #[.int .i64 0, .bool false, .int .i64 0, .int .i64 0] 27)
  have hC0 := h.alloc (.cells #[.int .i64 0, .bool false, .int .i64 0, .int .i64 0] 27)
  have HB0 := Lib.hid B0
  have HO0 := Lib.hid hO0
  have HC0 := Lib.hid hC0
  have hnc : w.heap.size ≠ c := by omega
  clear B0 hO0 hC0
  go_enter Try.func35, Try.ntmps35
  go_wp2_with fail
  generalize w.alloc (.cells #[.int .i64 0, .bool false, .int .i64 0, .int .i64 0] 27) = y0 at HB0 HO0 HC0 ⊢
  refine (onceC D c 5 (by omega) (by omega) _ HC0.out).mono ?_
  rintro e y1 ⟨x, rfl, hC1, hO1⟩
  have HB1 := Lib.hid (bx_only HB0.out hO1 hnc)
  have HO1 := Lib.hid (HO0.out.trans hO1)
  have HC1 := Lib.hid hC1
  clear HB0 HO0 HC0 hC1 hO1
  cases x with
  | true =>
    obtain ⟨g0, g1, g2, g3⟩ := HB1.out.cells4
    have z0 := HB1.out.warm 0
    have z1 := HB1.out.warm 1
    have z2 := HB1.out.warm 2
    have z3 := HB1.out.warm 3
    go_wp2_with fail
    refine bodyPost_ret (v := MVal false 0 0) (by simp [MVal, results, Try.results35, go_sem, g0, g1, g2, g3]) rfl ⟨false, 0, 0, .inl ⟨rfl, rfl, rfl⟩, rfl, ?_, ?_⟩
    · exact HC1.out.belowB ((((((Below.refl w.heap.size y1).setCell (p := ⟨w.heap.size, 0, none⟩) (Nat.le_refl _) _).setCell (p := ⟨w.heap.size, 1, none⟩) (Nat.le_refl _) _).setCell (p := ⟨w.heap.size, 2, none⟩) (Nat.le_refl _) _)).setCell (p := ⟨w.heap.size, 3, none⟩) (Nat.le_refl _) _) hD
    · exact HO1.out.transB ((((((Below.refl w.heap.size y1).setCell (p := ⟨w.heap.size, 0, none⟩) (Nat.le_refl _) _).setCell (p := ⟨w.heap.size, 1, none⟩) (Nat.le_refl _) _).setCell (p := ⟨w.heap.size, 2, none⟩) (Nat.le_refl _) _)).setCell (p := ⟨w.heap.size, 3, none⟩) (Nat.le_refl _) _)
  | false =>
    go_wp2_with fail
    refine (belowC D c 6 (by omega) (by omega) _ HC1.out).mono ?_
    rintro e y2 ⟨x2, ⟨hx20, hx21⟩, rfl, hC2, hO2⟩
    have HB2 := Lib.hid (bx_only HB1.out hO2 hnc)
    have HO2 := Lib.hid (HO1.out.trans hO2)
    have HC2 := Lib.hid hC2
    clear HB1 HO1 HC1 hC2 hO2
    go_wp2_with fail
    refine (belowC D c 4 (by omega) (by omega) _ HC2.out).mono ?_
    rintro e y3 ⟨x3, ⟨hx30, hx31⟩, rfl, hC3, hO3⟩
    have HB3 := Lib.hid (bx_only HB2.out hO3 hnc)
    have HO3 := Lib.hid (HO2.out.trans hO3)
    have HC3 := Lib.hid hC3
    clear HB2 HO2 HC2 hC3 hO3
    obtain ⟨g0, g1, g2, g3⟩ := HB3.out.cells4
    have z0 := HB3.out.warm 0
    have z1 := HB3.out.warm 1
    have z2 := HB3.out.warm 2
    have z3 := HB3.out.warm 3
    go_wp2_with fail
    refine bodyPost_ret (v := MVal true (1 + x2) (1 + x3)) (by simp [MVal, results, Try.results35, go_sem, g0, g1, g2, g3]) rfl ⟨true, 1 + x2, 1 + x3, .inr ⟨rfl, by omega, by omega⟩, rfl, ?_, ?_⟩
    · exact HC3.out.belowB ((((((Below.refl w.heap.size y3).setCell (p := ⟨w.heap.size, 0, none⟩) (Nat.le_refl _) _).setCell (p := ⟨w.heap.size, 1, none⟩) (Nat.le_refl _) _).setCell (p := ⟨w.heap.size, 2, none⟩) (Nat.le_refl _) _)).setCell (p := ⟨w.heap.size, 3, none⟩) (Nat.le_refl _) _) hD
    · exact HO3.out.transB ((((((Below.refl w.heap.size y3).setCell (p := ⟨w.heap.size, 0, none⟩) (Nat.le_refl _) _).setCell (p := ⟨w.heap.size, 1, none⟩) (Nat.le_refl _) _).setCell (p := ⟨w.heap.size, 2, none⟩) (Nat.le_refl _) _)).setCell (p := ⟨w.heap.size, 3, none⟩) (Nat.le_refl _) _)

/-- a bucket of its master's, and what becomes of it. -/
theorem okB_new {p : Bool} {ev cap : Int} (h : MV p ev cap) : okB p ev cap (newB p cap) 0 = true := by
  rcases h with ⟨rfl, rfl, rfl⟩ | ⟨rfl, h1, h2⟩
  · rfl
  · rw [okB_iff, newB_ge (by omega)]; omega
theorem okB_small {p : Bool} {ev cap t c : Int} (h : MV p ev cap) (ho : okB p ev cap t c = true) : (0 ≤ t ∧ t ≤ 4) ∧ (0 ≤ c ∧ c ≤ 5) := by
  rcases h with ⟨rfl, rfl, rfl⟩ | ⟨rfl, h1, h2⟩
  · rw [okB_no_iff] at ho; omega
  · rw [okB_iff] at ho; omega
theorem okB_tick {p : Bool} {ev cap t c : Int} (h : MV p ev cap) (ho : okB p ev cap t c = true) : okB p ev cap (tickT p ev cap t c) (tickC p ev cap t c) = true := by
  rcases h with ⟨rfl, rfl, rfl⟩ | ⟨rfl, h1, h2⟩
  · exact ho
  · have hu : (true && okB true ev cap t c) = true := by rw [ho]; rfl
    have hv := okB_iff.1 ho
    by_cases h3 : c + 1 < ev
    · obtain ⟨e1, e2⟩ := tick_lt hu h3
      rw [e1, e2, okB_iff]; omega
    · obtain ⟨e1, e2⟩ := tick_eq hu (by omega)
      rw [e1, e2, okB_iff]; unfold addB; split <;> omega
/-- a token taken, or not. -/
def takeT (p : Bool) (ev cap t c : Int) : Int := if takes p ev cap t c then t - 1 else t
theorem okB_take {p : Bool} {ev cap t c : Int} (h : MV p ev cap) (ho : okB p ev cap t c = true) : okB p ev cap (takeT p ev cap t c) c = true := by
  unfold takeT
  cases hx : takes p ev cap t c with
  | false => exact ho
  | true =>
    rw [if_pos rfl]
    unfold takes at hx
    rcases h with ⟨rfl, rfl, rfl⟩ | ⟨rfl, h1, h2⟩
    · exact absurd hx (by simp)
    · have hv := okB_iff.1 ho
      have : t ≠ 0 := by rintro rfl; simp at hx
      rw [okB_iff]; omega
theorem small_of {p : Bool} {ev cap t c : Int} (h : MV p ev cap) (ho : okB p ev cap t c = true) : Small ev cap t c := by
  obtain ⟨h1, h2⟩ := okB_small h ho
  obtain ⟨h3, h4⟩ := h.bd
  exact ⟨by omega, by omega, by omega, by omega⟩
/-- what stands at the head of the loop of draws. -/
def LoopB (D c : Nat) (w : World) (p : Bool) (ev cap : Int) (n4 n5 : Nat) (wr : World) : Prop :=
  ∃ t k : Int, okB p ev cap t k = true ∧ Bx 25 n5 #[.int .i64 t, .int .i64 k] wr ∧ Bx 27 n4 #[.int .i64 1, .bool p, .int .i64 ev, .int .i64 cap] wr ∧ Bx 25 w.heap.size #[.int .i64 0, .int .i64 0] wr ∧
    Bx 27 (w.heap.size + 1) #[.int .i64 0, .bool false, .int .i64 0, .int .i64 0] wr ∧ CuD D c wr ∧ Only c w wr
/-- what is drawn. -/
def DrewBk (D c : Nat) (w : World) (e : Ending) (w' : World) : Prop :=
  ∃ p ev cap t k, MV p ev cap ∧ Small ev cap t k ∧ e = .returned (.tuple #[.agg #[.int .i64 t, .int .i64 k], MVal p ev cap]) ∧ CuD D c w' ∧ Only c w w'

set_option maxHeartbeats 4000000 in
set_option maxRecDepth 100000 in
theorem bk_any (D c : Nat) (w : World) (h : CuD D c w) : Calls Try.prog 33 #[.pointer (some ⟨c, 0, none⟩)] w (DrewBk D c w) := by
  have hD := h.le
  have hcD := h.lt
  have hsz : ∀ (w : World) o, (w.alloc o).heap.size = w.heap.size + 1 := fun w o => by simp
  have B0 := (Bx.new 25 #[.int .i64 0, .int .i64 0] w).alloc (.cells #[.int .i64 0, .bool false, .int .i64 0, .int .i64 0] 27)
  have M0 := Bx.new 27 #[.int .i64 0, .bool false, .int .i64 0, .int .i64 0] (w.alloc (.cells #[.int .i64 0, .int .i64 0] 25))
  rw [hsz] at M0
  have O0 := ((Only.refl c w).alloc (.cells #[.int .i64 0, .int .i64 0] 25)).alloc (.cells #[.int .i64 0, .bool false, .int .i64 0, .int .i64 0] 27)
  have C0 := (h.alloc (.cells #[.int .i64 0, .int .i64 0] 25)).alloc (.cells #[.int .i64 0, .bool false, .int .i64 0, .int .i64 0] 27)
  have HB := Lib.hid B0
  have HM := Lib.hid M0
  have HO := Lib.hid O0
  have HC := Lib.hid C0
  have hc0 : w.heap.size ≠ c := by omega
  have hc1 : w.heap.size + 1 ≠ c := by omega
  clear B0 M0 O0 C0 hsz
  go_enter Try.func33, Try.ntmps33
  go_wp2_with fail
  generalize (w.alloc _).alloc _ = y0 at HB HM HO HC ⊢
  refine (m_any D c _ HC.out).mono ?_
  rintro e y1 ⟨p, ev, cap, hmv, rfl, hC1, hO1⟩
  have HB1 := Lib.hid (bx_only HB.out hO1 hc0)
  have HM1 := Lib.hid (bx_only HM.out hO1 hc1)
  have HO1 := Lib.hid (HO.out.trans hO1)
  have HC1 := Lib.hid hC1
  clear HB HM HO HC hC1 hO1
  unfold MVal
  obtain ⟨n4, hn4⟩ : ∃ n, y1.heap.size = n := ⟨_, rfl⟩
  have hD4 : D ≤ n4 := hn4 ▸ HC1.out.le
  go_wp2_with fail
  have HB2 := Lib.hid (HB1.out.alloc (.cells #[.int .i64 1, .bool p, .int .i64 ev, .int .i64 cap] 27))
  have HM2 := Lib.hid (HM1.out.alloc (.cells #[.int .i64 1, .bool p, .int .i64 ev, .int .i64 cap] 27))
  have HO2 := Lib.hid (HO1.out.alloc (.cells #[.int .i64 1, .bool p, .int .i64 ev, .int .i64 cap] 27))
  have HC2 := Lib.hid (HC1.out.alloc (.cells #[.int .i64 1, .bool p, .int .i64 ev, .int .i64 cap] 27))
  have H42 := Bx.new 27 #[.int .i64 1, .bool p, .int .i64 ev, .int .i64 cap] y1
  have hn14 := HM1.out.lt
  rw [hn4] at H42 hn14
  have H42 := Lib.hid H42
  clear HB1 HM1 HO1 HC1
  generalize y1.alloc _ = y2 at HB2 HM2 HO2 HC2 H42 ⊢
  refine (specNew 1 ev cap p _).mono ?_
  rintro e y3 ⟨rfl, hb⟩
  have HB3 := Lib.hid (HB2.out.later hb)
  have HM3 := Lib.hid (HM2.out.later hb)
  have H43 := Lib.hid (H42.out.later hb)
  have HO3 := Lib.hid (Only.below2 HO2.out hb)
  have HC3 := Lib.hid (HC2.out.below hb)
  clear HB2 HM2 HO2 HC2 H42 hb
  obtain ⟨n5, hn5⟩ : ∃ n, y3.heap.size = n := ⟨_, rfl⟩
  have hD5 : D ≤ n5 := hn5 ▸ HC3.out.le
  have hn45 := H43.out.lt
  rw [hn5] at hn45
  have H54 := Bx.new 25 #[.int .i64 (newB p cap), .int .i64 0] y3
  rw [hn5] at H54
  have L0 : Hid (LoopB D c w p ev cap n4 n5 (y3.alloc (.cells #[.int .i64 (newB p cap), .int .i64 0] 25))) :=
    Lib.hid ⟨newB p cap, 0, okB_new hmv, H54, H43.out.alloc _, HB3.out.alloc _, HM3.out.alloc _, HC3.out.alloc _, HO3.out.alloc _⟩
  clear HB3 HM3 H43 HO3 HC3 H54
  go_wp2_with fail
  generalize y3.alloc _ = y4 at L0 ⊢
  have hc4 : n4 ≠ c := by omega
  have hc5 : n5 ≠ c := by omega
  have HN4 := Lib.hid hn4
  have HN5 := Lib.hid hn5
  clear hn4 hn5
  obtain ⟨t, k, hok, h5, h4, hB, hM, hC, hO⟩ := L0.out
  refine (belowC D c 20 (by omega) (by omega) _ hC).mono ?_
  rintro e y5 ⟨m0, ⟨hm0, hm1⟩, rfl, hC', hO'⟩
  have L1 : Hid (LoopB D c w p ev cap n4 n5 y5) := Lib.hid ⟨t, k, hok, bx_only h5 hO' hc5, bx_only h4 hO' hc4, bx_only hB hO' hc0, bx_only hM hO' hc1, hC', hO.trans hO'⟩
  clear h5 h4 hB hM hC hO hC' hO' L0 hok
  go_wp2_with fail
  go_loopw [6] (fun i wr => ∃ j : Int, 0 ≤ j ∧ j < 20 ∧ i = .int .i64 j ∧ LoopB D c w p ev cap n4 n5 wr) (fun i _ => (intOf i).toNat)
  case atStart => exact ⟨m0, hm0, hm1, rfl, L1.out⟩
  case round =>
    obtain ⟨j, hj0, hj1, rfl, t, k, hok, h5, h4, hB, hM, hC, hO⟩ := hrel
    have hsm := small_of hmv hok
    have H5 := Lib.hid h5
    have H4 := Lib.hid h4
    have HB := Lib.hid hB
    have HM := Lib.hid hM
    have HC := Lib.hid hC
    have HO := Lib.hid hO
    clear h5 h4 hB hM hC hO L1
    obtain ⟨b0, b1⟩ := Bx.cells2 H5.out
    obtain ⟨g0, g1, g2, g3⟩ := H4.out.cells4
    by_cases hjp : 0 < j
    · go_wp2_with fail
      refine (specTick 1 p ev cap t k hsm _).mono ?_
      rintro e w4 ⟨rfl, hb⟩
      have X5 := H5.out.later hb
      obtain ⟨q0, q1⟩ := Bx.cells2 X5
      have z0 := X5.warm 0
      have z1 := X5.warm 1
      have L5 : Hid (LoopB D c w p ev cap n4 n5 ((w4.setCell ⟨n5, 0, none⟩ (.int .i64 (tickT p ev cap t k))).setCell ⟨n5, 1, none⟩ (.int .i64 (tickC p ev cap t k)))) := by
        have hbs := ((Below.refl n5 w4).setCell (p := ⟨n5, 0, none⟩) (Nat.le_refl _) (.int .i64 (tickT p ev cap t k))).setCell (p := ⟨n5, 1, none⟩) (Nat.le_refl _) (.int .i64 (tickC p ev cap t k))
        have hbd := hbs.mono hD5
        exact Lib.hid ⟨_, _, okB_tick hmv hok, (X5.set 0 _).set 1 _, (H4.out.later hb).below hbs hn45, (HB.out.later hb).below hbs (by omega), (HM.out.later hb).below hbs (by omega), (HC.out.below hb).belowB hbd (Nat.le_refl _), (Only.below2 HO.out hb).transB (hbs.mono (by omega))⟩
      clear X5 H5 H4 HB HM HC HO hb b0 b1 g0 g1 g2 g3 hok hsm
      go_wp2_with fail
      generalize (w4.setCell _ _).setCell _ _ = w5 at L5 ⊢
      obtain ⟨t, k, hok, h5, h4, hB, hM, hC, hO⟩ := L5.out
      refine (onceC D c 3 (by omega) (by omega) _ hC).mono ?_
      rintro e w6 ⟨x, rfl, hC', hO'⟩
      have L6 : Hid (LoopB D c w p ev cap n4 n5 w6) := Lib.hid ⟨t, k, hok, bx_only h5 hO' hc5, bx_only h4 hO' hc4, bx_only hB hO' hc0, bx_only hM hO' hc1, hC', hO.trans hO'⟩
      clear L5 hok h5 h4 hB hM hC hO hC' hO' z0 z1
      cases x with
      | false =>
        go_wp2_with fail
        go_roundw
        case rel => exact ⟨j - 1, by omega, by omega, by go_num, L6.out⟩
        case measure => simp [intOf]; omega
      | true =>
        obtain ⟨t, k, hok, h5, h4, hB, hM, hC, hO⟩ := L6.out
        have hsm := small_of hmv hok
        have H5 := Lib.hid h5
        have H4 := Lib.hid h4
        have HB := Lib.hid hB
        have HM := Lib.hid hM
        have HC := Lib.hid hC
        have HO := Lib.hid hO
        clear h5 h4 hB hM hC hO L6
        obtain ⟨b0, b1⟩ := Bx.cells2 H5.out
        obtain ⟨g0, g1, g2, g3⟩ := H4.out.cells4
        go_wp2_with fail
        refine (specTake 1 p ev cap t k hsm _).mono ?_
        rintro e w7 ⟨rfl, hb⟩
        have X5 := H5.out.later hb
        obtain ⟨q0, q1⟩ := Bx.cells2 X5
        have z0 := X5.warm 0
        have z1 := X5.warm 1
        obtain ⟨tt, htt⟩ : ∃ x, takeT p ev cap t k = x := ⟨_, rfl⟩
        have htt' : (if takes p ev cap t k then t - 1 else t) = tt := htt
        rw [htt']
        have hok' := okB_take hmv hok
        rw [htt] at hok'
        have L8 : Hid (LoopB D c w p ev cap n4 n5 ((w7.setCell ⟨n5, 0, none⟩ (.int .i64 tt)).setCell ⟨n5, 1, none⟩ (.int .i64 k))) := by
          have hbs := ((Below.refl n5 w7).setCell (p := ⟨n5, 0, none⟩) (Nat.le_refl _) (.int .i64 tt)).setCell (p := ⟨n5, 1, none⟩) (Nat.le_refl _) (.int .i64 k)
          have hbd := hbs.mono hD5
          exact Lib.hid ⟨_, _, hok', (X5.set 0 _).set 1 _, (H4.out.later hb).below hbs hn45, (HB.out.later hb).below hbs (by omega), (HM.out.later hb).below hbs (by omega), (HC.out.below hb).belowB hbd (Nat.le_refl _), (Only.below2 HO.out hb).transB (hbs.mono (by omega))⟩
        clear X5 H5 H4 HB HM HC HO hb b0 b1 g0 g1 g2 g3 hok hsm htt htt' hok'
        go_wp2_with fail
        go_roundw
        case rel => exact ⟨j - 1, by omega, by omega, by go_num, L8.out⟩
        case measure => simp [intOf]; omega
    · go_wp2_with fail
      refine (belowC D c 12 (by omega) (by omega) _ HC.out).mono ?_
      rintro e w3 ⟨x, ⟨hx0, hx1⟩, rfl, hC3, hO3⟩
      have hmv4 := hmv.bd
      have K5 := Lib.hid (bx_only H5.out hO3 hc5)
      have K4 := Lib.hid (bx_only H4.out hO3 hc4)
      have KB := Lib.hid (bx_only HB.out hO3 hc0)
      have KM := Lib.hid (bx_only HM.out hO3 hc1)
      have KO := Lib.hid (HO.out.trans hO3)
      have KC := Lib.hid hC3
      clear H5 H4 HB HM HO HC hO3 hC3 b0 b1 g0 g1 g2 g3
      obtain ⟨b0, b1⟩ := Bx.cells2 K5.out
      obtain ⟨g0, g1, g2, g3⟩ := K4.out.cells4
      by_cases hx : x = 0
      · subst hx
        go_wp2_with fail
        refine (pickLit D c [-1, cap + 1] 2 rfl (by omega) (by omega) _ KC.out _ rfl).mono ?_
        rintro e w4 ⟨y, hy, rfl, hC4, hO4⟩
        have hyb : -1 ≤ y ∧ y ≤ 6 := by simp at hy; omega
        have hsm2 : Small ev cap y k := by obtain ⟨h1, h2⟩ := okB_small hmv hok; exact ⟨by omega, by omega, by omega, by omega⟩
        have G5 := Lib.hid (show Bx 25 n5 #[.int .i64 y, .int .i64 k] _ from (bx_only K5.out hO4 hc5).set 0 (.int .i64 y))
        have hbs := (Below.refl n5 w4).setCell (p := ⟨n5, 0, none⟩) (Nat.le_refl _) (.int .i64 y)
        have G4 := Lib.hid ((bx_only K4.out hO4 hc4).below hbs hn45)
        have GB := Lib.hid ((bx_only KB.out hO4 hc0).below hbs (by omega))
        have GM := Lib.hid ((bx_only KM.out hO4 hc1).below hbs (by omega))
        have GC := Lib.hid (hC4.belowB (hbs.mono hD5) (Nat.le_refl _))
        have GO := Lib.hid ((KO.out.trans hO4).transB (hbs.mono (by omega)))
        have X5 := bx_only K5.out hO4 hc5
        obtain ⟨b0, b1⟩ := Bx.cells2 X5
        have x0 := X5.warm 0
        have x1 := X5.warm 1
        clear K5 K4 KB KM KC KO hbs hC4 hO4 X5 hy g0 g1 g2 g3
        go_wp2_with fail
        generalize w4.setCell _ _ = w5 at G5 G4 GB GM GC GO ⊢
        clear b0 b1 x0 x1
        obtain ⟨f0, f1⟩ := Bx.cells2 G5.out
        obtain ⟨g0, g1, g2, g3⟩ := G4.out.cells4
        obtain ⟨r0, r1⟩ := Bx.cells2 GB.out
        have y0 := GB.out.warm 0
        have y1 := GB.out.warm 1
        obtain ⟨s0, s1, s2, s3⟩ := GM.out.cells4
        have z0 := GM.out.warm 0
        have z1 := GM.out.warm 1
        have z2 := GM.out.warm 2
        have z3 := GM.out.warm 3
        go_region
        go_wp2_with fail
        have RB := Bx.drew ((((((GB.out.set 0 (.int .i64 y)).set 1 (.int .i64 k)).far (p := ⟨w.heap.size + 1, 0, none⟩) (by simp) (.int .i64 1)).far (p := ⟨w.heap.size + 1, 1, none⟩) (by simp) (.bool p)).far (p := ⟨w.heap.size + 1, 2, none⟩) (by simp) (.int .i64 ev)).far (p := ⟨w.heap.size + 1, 3, none⟩) (by simp) (.int .i64 cap))
        have RM := Bx.drew ((((((GM.out.far (p := ⟨w.heap.size, 0, none⟩) (by simp) (.int .i64 y)).far (p := ⟨w.heap.size, 1, none⟩) (by simp) (.int .i64 k)).set 0 (.int .i64 1)).set 1 (.bool p)).set 2 (.int .i64 ev)).set 3 (.int .i64 cap))
        obtain ⟨e0, e1⟩ := Bx.cells2 (show Bx 25 w.heap.size #[.int .i64 y, .int .i64 k] _ from RB)
        obtain ⟨d0, d1, d2, d3⟩ := Bx.cells4 (show Bx 27 (w.heap.size + 1) #[.int .i64 1, .bool p, .int .i64 ev, .int .i64 cap] _ from RM)
        refine bodyPost_ret (v := .tuple #[.agg #[.int .i64 y, .int .i64 k], MVal p ev cap]) (by simp [MVal, results, Try.results33, go_sem, e0, e1, d0, d1, d2, d3]) rfl ⟨p, ev, cap, y, k, hmv, hsm2, rfl, ?_, ?_⟩
        · refine GC.out.belowB (B := w.heap.size) ?_ hD
          refine Below.drew ?_
          iterate 6 refine Below.setCell ?_ (by first | exact Nat.le_refl _ | (dsimp only; omega)) _
          exact Below.refl _ _
        · refine GO.out.transB ?_
          refine Below.drew ?_
          iterate 6 refine Below.setCell ?_ (by first | exact Nat.le_refl _ | (dsimp only; omega)) _
          exact Below.refl _ _
      · by_cases hy : x = 1
        · subst hy
          go_wp2_with fail
          refine (pickLit D c [-1, ev] 2 rfl (by omega) (by omega) _ KC.out _ rfl).mono ?_
          rintro e w4 ⟨y, hy, rfl, hC4, hO4⟩
          have hyb : -1 ≤ y ∧ y ≤ 6 := by simp at hy; omega
          have hsm2 : Small ev cap t y := by obtain ⟨h1, h2⟩ := okB_small hmv hok; exact ⟨by omega, by omega, by omega, by omega⟩
          have G5 := Lib.hid (show Bx 25 n5 #[.int .i64 t, .int .i64 y] _ from (bx_only K5.out hO4 hc5).set 1 (.int .i64 y))
          have hbs := (Below.refl n5 w4).setCell (p := ⟨n5, 1, none⟩) (Nat.le_refl _) (.int .i64 y)
          have G4 := Lib.hid ((bx_only K4.out hO4 hc4).below hbs hn45)
          have GB := Lib.hid ((bx_only KB.out hO4 hc0).below hbs (by omega))
          have GM := Lib.hid ((bx_only KM.out hO4 hc1).below hbs (by omega))
          have GC := Lib.hid (hC4.belowB (hbs.mono hD5) (Nat.le_refl _))
          have GO := Lib.hid ((KO.out.trans hO4).transB (hbs.mono (by omega)))
          have X5 := bx_only K5.out hO4 hc5
          obtain ⟨b0, b1⟩ := Bx.cells2 X5
          have x0 := X5.warm 0
          have x1 := X5.warm 1
          clear K5 K4 KB KM KC KO hbs hC4 hO4 X5 hy g0 g1 g2 g3
          go_wp2_with fail
          generalize w4.setCell _ _ = w5 at G5 G4 GB GM GC GO ⊢
          clear b0 b1 x0 x1
          obtain ⟨f0, f1⟩ := Bx.cells2 G5.out
          obtain ⟨g0, g1, g2, g3⟩ := G4.out.cells4
          obtain ⟨r0, r1⟩ := Bx.cells2 GB.out
          have y0 := GB.out.warm 0
          have y1 := GB.out.warm 1
          obtain ⟨s0, s1, s2, s3⟩ := GM.out.cells4
          have z0 := GM.out.warm 0
          have z1 := GM.out.warm 1
          have z2 := GM.out.warm 2
          have z3 := GM.out.warm 3
          go_region
          go_wp2_with fail
          have RB := Bx.drew ((((((GB.out.set 0 (.int .i64 t)).set 1 (.int .i64 y)).far (p := ⟨w.heap.size + 1, 0, none⟩) (by simp) (.int .i64 1)).far (p := ⟨w.heap.size + 1, 1, none⟩) (by simp) (.bool p)).far (p := ⟨w.heap.size + 1, 2, none⟩) (by simp) (.int .i64 ev)).far (p := ⟨w.heap.size + 1, 3, none⟩) (by simp) (.int .i64 cap))
          have RM := Bx.drew ((((((GM.out.far (p := ⟨w.heap.size, 0, none⟩) (by simp) (.int .i64 t)).far (p := ⟨w.heap.size, 1, none⟩) (by simp) (.int .i64 y)).set 0 (.int .i64 1)).set 1 (.bool p)).set 2 (.int .i64 ev)).set 3 (.int .i64 cap))
          obtain ⟨e0, e1⟩ := Bx.cells2 (show Bx 25 w.heap.size #[.int .i64 t, .int .i64 y] _ from RB)
          obtain ⟨d0, d1, d2, d3⟩ := Bx.cells4 (show Bx 27 (w.heap.size + 1) #[.int .i64 1, .bool p, .int .i64 ev, .int .i64 cap] _ from RM)
          refine bodyPost_ret (v := .tuple #[.agg #[.int .i64 t, .int .i64 y], MVal p ev cap]) (by simp [MVal, results, Try.results33, go_sem, e0, e1, d0, d1, d2, d3]) rfl ⟨p, ev, cap, t, y, hmv, hsm2, rfl, ?_, ?_⟩
          · refine GC.out.belowB (B := w.heap.size) ?_ hD
            refine Below.drew ?_
            iterate 6 refine Below.setCell ?_ (by first | exact Nat.le_refl _ | (dsimp only; omega)) _
            exact Below.refl _ _
          · refine GO.out.transB ?_
            refine Below.drew ?_
            iterate 6 refine Below.setCell ?_ (by first | exact Nat.le_refl _ | (dsimp only; omega)) _
            exact Below.refl _ _
        · have G5 := K5
          have G4 := K4
          have GB := KB
          have GM := KM
          have GC := KC
          have GO := KO
          clear K5 K4 KB KM KC KO b0 b1 g0 g1 g2 g3
          go_wp2_with fail
          obtain ⟨f0, f1⟩ := Bx.cells2 G5.out
          obtain ⟨g0, g1, g2, g3⟩ := G4.out.cells4
          obtain ⟨r0, r1⟩ := Bx.cells2 GB.out
          have y0 := GB.out.warm 0
          have y1 := GB.out.warm 1
          obtain ⟨s0, s1, s2, s3⟩ := GM.out.cells4
          have z0 := GM.out.warm 0
          have z1 := GM.out.warm 1
          have z2 := GM.out.warm 2
          have z3 := GM.out.warm 3
          go_region
          go_wp2_with fail
          have RB := Bx.drew ((((((GB.out.set 0 (.int .i64 t)).set 1 (.int .i64 k)).far (p := ⟨w.heap.size + 1, 0, none⟩) (by simp) (.int .i64 1)).far (p := ⟨w.heap.size + 1, 1, none⟩) (by simp) (.bool p)).far (p := ⟨w.heap.size + 1, 2, none⟩) (by simp) (.int .i64 ev)).far (p := ⟨w.heap.size + 1, 3, none⟩) (by simp) (.int .i64 cap))
          have RM := Bx.drew ((((((GM.out.far (p := ⟨w.heap.size, 0, none⟩) (by simp) (.int .i64 t)).far (p := ⟨w.heap.size, 1, none⟩) (by simp) (.int .i64 k)).set 0 (.int .i64 1)).set 1 (.bool p)).set 2 (.int .i64 ev)).set 3 (.int .i64 cap))
          obtain ⟨e0, e1⟩ := Bx.cells2 (show Bx 25 w.heap.size #[.int .i64 t, .int .i64 k] _ from RB)
          obtain ⟨d0, d1, d2, d3⟩ := Bx.cells4 (show Bx 27 (w.heap.size + 1) #[.int .i64 1, .bool p, .int .i64 ev, .int .i64 cap] _ from RM)
          refine bodyPost_ret (v := .tuple #[.agg #[.int .i64 t, .int .i64 k], MVal p ev cap]) (by simp [MVal, results, Try.results33, go_sem, e0, e1, d0, d1, d2, d3]) rfl ⟨p, ev, cap, t, k, hmv, hsm, rfl, ?_, ?_⟩
          · refine GC.out.belowB (B := w.heap.size) ?_ hD
            refine Below.drew ?_
            iterate 6 refine Below.setCell ?_ (by first | exact Nat.le_refl _ | (dsimp only; omega)) _
            exact Below.refl _ _
          · refine GO.out.transB ?_
            refine Below.drew ?_
            iterate 6 refine Below.setCell ?_ (by first | exact Nat.le_refl _ | (dsimp only; omega)) _
            exact Below.refl _ _
end Go.Proofs.Ytklcelcmbepbpaa.CurB
