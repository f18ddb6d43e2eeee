
/-
  The model: which slave an address has; is it a model, are two the same; for the program and for its model.
-/
import Derived.Test.YtdhaelaoackfkaaKModel
import Derived.Test.YtdhaelaoackfkaaGDev13
namespace Go.Proofs.Ytdhaelaoackfkaa.KD
open Go.RowKit Rows3 GR Num
set_option linter.unusedVariables false

/-- the slave of an address. -/
def slaveW (a : Int) : Int := if a < 0 ∨ 224 ≤ a then 0 else if a < 128 then 1 else if a < 192 then 2 else 3
theorem slaveW_no {a : Int} (h : a < 0 ∨ 224 ≤ a) : slaveW a = 0 := if_pos h
theorem slaveW_ram {a : Int} (h0 : 0 ≤ a) (h1 : a < 128) : slaveW a = 1 := by unfold slaveW; rw [if_neg (by omega), if_pos h1]
theorem slaveW_split {a : Int} (h0 : 128 ≤ a) (h1 : a < 192) : slaveW a = 2 := by unfold slaveW; rw [if_neg (by omega), if_neg (by omega), if_pos h1]
theorem slaveW_dev {a : Int} (h0 : 192 ≤ a) (h1 : a < 224) : slaveW a = 3 := by unfold slaveW; rw [if_neg (by omega), if_neg (by omega), if_neg (by omega)]
theorem slaveW_cases (a : Int) : ((a < 0 ∨ 224 ≤ a) ∧ slaveW a = 0) ∨ ((0 ≤ a ∧ a < 128) ∧ slaveW a = 1) ∨ ((128 ≤ a ∧ a < 192) ∧ slaveW a = 2) ∨ ((192 ≤ a ∧ a < 224) ∧ slaveW a = 3) := by
  by_cases h : a < 0 ∨ 224 ≤ a
  · exact .inl ⟨h, slaveW_no h⟩
  · by_cases h1 : a < 128
    · exact .inr (.inl ⟨⟨by omega, h1⟩, slaveW_ram (by omega) h1⟩)
    · by_cases h2 : a < 192
      · exact .inr (.inr (.inl ⟨⟨by omega, h2⟩, slaveW_split (by omega) h2⟩))
      · exact .inr (.inr (.inr ⟨⟨by omega, by omega⟩, slaveW_dev (by omega) (by omega)⟩))
/-- the cells of a model that can be read. -/
theorem rd_model {cs : List Value} {l r : List Int} {t : Int} {f : List Int} {w : World} (h : modelK.rd cs (l, (r, t, f)) w) :
    ∃ a0 p0 a1 p1 a2 p2, cs = [.slice a0 l.length p0, .slice a1 r.length p1, .int .i64 t, .slice a2 f.length p2] ∧ RdI (.slice a0 l.length p0) l w ∧ devK.rd [.slice a1 r.length p1, .int .i64 t, .slice a2 f.length p2] (r, t, f) w := by
  obtain ⟨a0, p0, a1, p1, a2, p2, rfl, h0, h1, h2⟩ := model_form h
  obtain ⟨_, _, e0, _, R0⟩ := rd_ints h0
  cases e0
  exact ⟨_, _, _, _, _, _, rfl, R0, dev_rd h1 h2⟩
/-- is it a model. -/
def okM (l r : List Int) (t : Int) (f : List Int) : Bool := (l.length : Int) == 192 && (memB l && okD r t f)
/-- are two models the same. -/
def sameM (l r : List Int) (t : Int) (f : List Int) (l' r' : List Int) (t' : Int) (f' : List Int) : Bool := eqLB l l' && sameD r t f r' t' f'
theorem sameM_iff (l r : List Int) (t : Int) (f : List Int) (l' r' : List Int) (t' : Int) (f' : List Int) : sameM l r t f l' r' t' f' = true ↔ ((l, (r, t, f)) : List Int × DevX) = (l', (r', t', f')) := by
  unfold sameM; rw [Bool.and_eq_true, sameD_iff]; unfold eqLB; simp
set_option maxHeartbeats 4000000 in
set_option maxRecDepth 100000 in
theorem implSameModel (cs ds : List Value) (l r : List Int) (t : Int) (f : List Int) (l' r' : List Int) (t' : Int) (f' : List Int) (hl : l.length ≤ 2000000) (hr : r.length ≤ 2000000) (hf : f.length ≤ 2000000) (w : World) (h : modelK.rd cs (l, (r, t, f)) w) (h' : modelK.rd ds (l', (r', t', f')) w) :
    Calls Try.prog 70 #[agg cs, agg ds] w fun e w' => e = .returned (.bool (sameM l r t f l' r' t' f')) ∧ Below w.heap.size w w' := by
  obtain ⟨a0, p0, a1, p1, a2, p2, rfl, R0, R1⟩ := rd_model h
  obtain ⟨c0, q0, c1, q1, c2, q2, rfl, S0, S1⟩ := rd_model h'
  clear h h'
  obtain ⟨b1, hb1⟩ : ∃ b, eqLB l l' = b := ⟨_, rfl⟩
  obtain ⟨b2, hb2⟩ : ∃ b, sameD r t f r' t' f' = b := ⟨_, rfl⟩
  have He := Lib.hid (show sameM l r t f l' r' t' f' = (b1 && b2) by unfold sameM; rw [hb1, hb2])
  have hb := ((Below.refl w.heap.size w).alloc (Nat.le_refl _) (Obj.cells #[.slice a0 l.length p0, .slice a1 r.length p1, .int .i64 t, .slice a2 f.length p2] 39)).alloc (by simp) (Obj.cells #[.slice c0 l'.length q0, .slice c1 r'.length q1, .int .i64 t', .slice c2 f'.length q2] 39)
  have H0 := Lib.hid (R0.below hb)
  have K0 := Lib.hid (S0.below hb)
  have H1 := Lib.hid (devK.rd_later R1 hb)
  have K1 := Lib.hid (devK.rd_later S1 hb)
  have HB := Lib.hid hb
  have B1 := Lib.hid hb1
  have B2 := Lib.hid hb2
  clear hb1 hb2 hb R0 R1 S0 S1
  show Calls _ _ #[.agg #[.slice a0 l.length p0, .slice a1 r.length p1, .int .i64 t, .slice a2 f.length p2], .agg #[.slice c0 l'.length q0, .slice c1 r'.length q1, .int .i64 t', .slice c2 f'.length q2]] w _
  cases b1
  all_goals go_enter Try.func70, Try.ntmps70
  all_goals go_wp2_with (first
    | (go_at_call 69; refine (equal_any _ _ l l' hl _ H0.out K0.out).mono ?_; rintro e w' ⟨rfl, d, rfl⟩; rw [B1.out])
    | (go_at_call 104; refine (implSameDev [.slice a1 r.length p1, .int .i64 t, .slice a2 f.length p2] [.slice c1 r'.length q1, .int .i64 t', .slice c2 f'.length q2] r t f r' t' f' hr hf _ (devK.rd_later H1.out (below_drewN' (Below.refl _ _) _)) (devK.rd_later K1.out (below_drewN' (Below.refl _ _) _))).mono ?_; rintro e w' ⟨rfl, hb⟩; rw [B2.out]))
  all_goals go_ret
  · exact ⟨by rw [He.out]; rfl, below_drewN' HB.out _⟩
  · exact ⟨by rw [He.out]; rfl, (below_drewN' HB.out _).trans (hb.mono (below_drewN' HB.out _).size)⟩
set_option maxHeartbeats 4000000 in
set_option maxRecDepth 100000 in
theorem specSameModel (cs ds : List Value) (l r : List Int) (t : Int) (f : List Int) (l' r' : List Int) (t' : Int) (f' : List Int) (hl : l.length ≤ 2000000) (hr : r.length ≤ 2000000) (hf : f.length ≤ 2000000) (w : World) (h : modelK.rd cs (l, (r, t, f)) w) (h' : modelK.rd ds (l', (r', t', f')) w) :
    Calls Try.prog 55 #[agg cs, agg ds] w fun e w' => e = .returned (.bool (sameM l r t f l' r' t' f')) ∧ Below w.heap.size w w' := by
  obtain ⟨a0, p0, a1, p1, a2, p2, rfl, R0, R1⟩ := rd_model h
  obtain ⟨c0, q0, c1, q1, c2, q2, rfl, S0, S1⟩ := rd_model h'
  clear h h'
  obtain ⟨b1, hb1⟩ : ∃ b, eqLB l l' = b := ⟨_, rfl⟩
  obtain ⟨b2, hb2⟩ : ∃ b, sameD r t f r' t' f' = b := ⟨_, rfl⟩
  have He := Lib.hid (show sameM l r t f l' r' t' f' = (b1 && b2) by unfold sameM; rw [hb1, hb2])
  have hb := ((Below.refl w.heap.size w).alloc (Nat.le_refl _) (Obj.cells #[.slice a0 l.length p0, .slice a1 r.length p1, .int .i64 t, .slice a2 f.length p2] 39)).alloc (by simp) (Obj.cells #[.slice c0 l'.length q0, .slice c1 r'.length q1, .int .i64 t', .slice c2 f'.length q2] 39)
  have H0 := Lib.hid (R0.below hb)
  have K0 := Lib.hid (S0.below hb)
  have H1 := Lib.hid (devK.rd_later R1 hb)
  have K1 := Lib.hid (devK.rd_later S1 hb)
  have HB := Lib.hid hb
  have B1 := Lib.hid hb1
  have B2 := Lib.hid hb2
  clear hb1 hb2 hb R0 R1 S0 S1
  show Calls _ _ #[.agg #[.slice a0 l.length p0, .slice a1 r.length p1, .int .i64 t, .slice a2 f.length p2], .agg #[.slice c0 l'.length q0, .slice c1 r'.length q1, .int .i64 t', .slice c2 f'.length q2]] w _
  cases b1
  all_goals go_enter Try.func55, Try.ntmps55
  all_goals go_wp2_with (first
    | (go_at_call 54; refine (l5Ints_any _ _ l l' hl _ H0.out K0.out).mono ?_; rintro e w' ⟨rfl, d, rfl⟩; rw [B1.out])
    | (go_at_call 95; refine (specSameDev [.slice a1 r.length p1, .int .i64 t, .slice a2 f.length p2] [.slice c1 r'.length q1, .int .i64 t', .slice c2 f'.length q2] r t f r' t' f' hr hf _ (devK.rd_later H1.out (below_drewN' (Below.refl _ _) _)) (devK.rd_later K1.out (below_drewN' (Below.refl _ _) _))).mono ?_; rintro e w' ⟨rfl, hb⟩; rw [B2.out]))
  all_goals go_ret
  · exact ⟨by rw [He.out]; rfl, below_drewN' HB.out _⟩
  · exact ⟨by rw [He.out]; rfl, (below_drewN' HB.out _).trans (hb.mono (below_drewN' HB.out _).size)⟩
end Go.Proofs.Ytdhaelaoackfkaa.KD
