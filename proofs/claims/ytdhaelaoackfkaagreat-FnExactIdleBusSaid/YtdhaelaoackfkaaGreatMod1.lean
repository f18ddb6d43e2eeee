
/-
  The model: which slave an address has; is it a model, are two the same; for the program and for its model.
-/
import Derived.Test.YtdhaelaoackfkaaGreatKModel
import Derived.Test.YtdhaelaoackfkaaGreatGDev13
namespace Go.Proofs.YtdhaelaoackfkaaGreat.KD
open Go.RowKit Rows3 GR Num
set_option linter.unusedVariables false

/-- the slave of an address. -/
def slaveW (a : Int) : Int := if a < 0 ∨ 224 ≤ a then 0 else if a < 128 then 1 else if a < 192 then 2 else 3
theorem slaveW_no {a : Int} (h : a < 0 ∨ 224 ≤ a) : slaveW a = 0 := if_pos h
theorem slaveW_ram {a : Int} (h0 : 0 ≤ a) (h1 : a < 128) : slaveW a = 1 := by unfold slaveW; rw [if_neg (by omega), if_pos h1]
theorem slaveW_split {a : Int} (h0 : 128 ≤ a) (h1 : a < 192) : slaveW a = 2 := by unfold slaveW; rw [if_neg (by omega), if_neg (by omega), if_pos h1]
theorem slaveW_dev {a : Int} (h0 : 192 ≤ a) (h1 : a < 224) : slaveW a = 3 := by unfold slaveW; rw [if_neg (by omega), if_neg (by omega), if_neg (by omega)]
theorem slaveW_cases (a : Int) : ((a < 0 ∨ 224 ≤ a) ∧ slaveW a = 0) ∨ ((0 ≤ a ∧ a < 128) ∧ slaveW a = 1) ∨ ((128 ≤ a ∧ a < 192) ∧ slaveW a = 2) ∨ ((192 ≤ a ∧ a < 224) ∧ slaveW a = 3) := by
  by_cases h : a < 0 ∨ 224 ≤ a
  · exact .inl ⟨h, slaveW_no h⟩
  · by_cases h1 : a < 128
    · exact .inr (.inl ⟨⟨by omega, h1⟩, slaveW_ram (by omega) h1⟩)
    · by_cases h2 : a < 192
      · exact .inr (.inr (.inl ⟨⟨by omega, h2⟩, slaveW_split (by omega) h2⟩))
      · exact .inr (.inr (.inr ⟨⟨by omega, by omega⟩, slaveW_dev (by omega) (by omega)⟩))
/-- the cells of a model that can be read. -/
theorem rd_model {cs : List Value} {l r : List Int} {t : Int} {f : List Int} {w : World} (h : modelK.rd cs (l, (r, t, f)) w) :
    ∃ a0 p0 a1 p1 a2 p2, cs = [.slice a0 l.length p0, .slice a1 r.length p1, .int .i64 t, .slice a2 f.length p2] ∧ RdI (.slice a0 l.length p0) l w ∧ devK.rd [.slice a1 r.length p1, .int .i64 t, .slice a2 f.length p2] (r, t, f) w := by
  obtain ⟨a0, p0, a1, p1, a2, p2, rfl, h0, h1, h2⟩ := model_form h
  obtain ⟨_, _, e0, _, R0⟩ := rd_ints h0
  cases e0
  exact ⟨_, _, _, _, _, _, rfl, R0, dev_rd h1 h2⟩
/-- is it a model. -/
def okM (l r : List Int) (t : Int) (f : List Int) : Bool := (l.length : Int) == 192 && (memB l && okD r t f)
set_option maxHeartbeats 4000000 in
set_option maxRecDepth 100000 in
theorem implModelOk (cs : List Value) (l r : List Int) (t : Int) (f : List Int) (hl : l.length ≤ 2000000) (hr : r.length ≤ 2000000) (hf : f.length ≤ 2000000) (w : World) (h : modelK.rd cs (l, (r, t, f)) w) :
    Calls Tryz.prog 72 #[agg cs] w fun e w' => e = .returned (.bool (okM l r t f)) ∧ Below w.heap.size w w' := by
  obtain ⟨a0, p0, a1, p1, a2, p2, rfl, R0, R1⟩ := rd_model h
  clear h
  obtain ⟨n, hn⟩ : ∃ n, l.length = n := ⟨_, rfl⟩
  obtain ⟨n1, hn1⟩ : ∃ n, r.length = n := ⟨_, rfl⟩
  obtain ⟨n2, hn2⟩ : ∃ n, f.length = n := ⟨_, rfl⟩
  obtain ⟨b1, hb1⟩ : ∃ b, ((n : Int) == 192) = b := ⟨_, rfl⟩
  obtain ⟨b2, hb2⟩ : ∃ b, memB l = b := ⟨_, rfl⟩
  obtain ⟨b3, hb3⟩ : ∃ b, okD r t f = b := ⟨_, rfl⟩
  have He := Lib.hid (show okM l r t f = (b1 && (b2 && b3)) by unfold okM; rw [hn, hb1, hb2, hb3])
  have hlr := Lib.hid hr
  have hlf := Lib.hid hf
  have hll := Lib.hid hl
  rw [hn] at R0 hl ⊢
  rw [hn1, hn2] at R1 ⊢
  have hb := (Below.refl w.heap.size w).alloc (Nat.le_refl _) (Obj.cells #[.slice a0 n p0, .slice a1 n1 p1, .int .i64 t, .slice a2 n2 p2] 50)
  have H0 := Lib.hid (R0.below hb)
  have H1 := Lib.hid (devK.rd_later R1 hb)
  have HB := Lib.hid hb
  have B2 := Lib.hid hb2
  have B3 := Lib.hid hb3
  have A0 := Bx.new 50 #[.slice a0 n p0, .slice a1 n1 p1, .int .i64 t, .slice a2 n2 p2] w
  have g0 := A0.cell 0 _ rfl
  have g1 := A0.cell 1 _ rfl
  have g2 := A0.cell 2 _ rfl
  have g3 := A0.cell 3 _ rfl
  clear hb2 hb3 hn hn1 hn2 A0 hb R0 R1 hr hf
  show Calls _ _ #[.agg #[.slice a0 n p0, .slice a1 n1 p1, .int .i64 t, .slice a2 n2 p2]] w _
  have paths : b1 = false ∨ (b1 = true ∧ b2 = false) ∨ (b1 = true ∧ b2 = true) := by cases b1 <;> cases b2 <;> simp
  rcases paths with rfl | ⟨rfl, rfl⟩ | ⟨rfl, rfl⟩
  all_goals go_enter Tryz.func72, Tryz.ntmps72
  all_goals go_wp2_with (first
    | (go_at_call 99; refine (implMemOk _ l hll.out _ H0.out).mono ?_; rintro e w' ⟨rfl, rfl⟩; rw [B2.out])
    | (go_at_call 100; refine (implDevOk [.slice a1 n1 p1, .int .i64 t, .slice a2 n2 p2] r t f hlr.out hlf.out _ H1.out).mono ?_; rintro e w' ⟨rfl, hb⟩; rw [B3.out]))
  all_goals go_ret
  · exact ⟨by rw [He.out]; rfl, HB.out⟩
  · exact ⟨by rw [He.out]; rfl, HB.out⟩
  · exact ⟨by rw [He.out]; rfl, HB.out.trans (hb.mono HB.out.size)⟩
set_option maxHeartbeats 4000000 in
set_option maxRecDepth 100000 in
theorem specModelOk (cs : List Value) (l r : List Int) (t : Int) (f : List Int) (hl : l.length ≤ 2000000) (hr : r.length ≤ 2000000) (hf : f.length ≤ 2000000) (w : World) (h : modelK.rd cs (l, (r, t, f)) w) :
    Calls Tryz.prog 21 #[agg cs] w fun e w' => e = .returned (.bool (okM l r t f)) ∧ Below w.heap.size w w' := by
  obtain ⟨a0, p0, a1, p1, a2, p2, rfl, R0, R1⟩ := rd_model h
  clear h
  obtain ⟨n, hn⟩ : ∃ n, l.length = n := ⟨_, rfl⟩
  obtain ⟨n1, hn1⟩ : ∃ n, r.length = n := ⟨_, rfl⟩
  obtain ⟨n2, hn2⟩ : ∃ n, f.length = n := ⟨_, rfl⟩
  obtain ⟨b1, hb1⟩ : ∃ b, ((n : Int) == 192) = b := ⟨_, rfl⟩
  obtain ⟨b2, hb2⟩ : ∃ b, memB l = b := ⟨_, rfl⟩
  obtain ⟨b3, hb3⟩ : ∃ b, okD r t f = b := ⟨_, rfl⟩
  have He := Lib.hid (show okM l r t f = (b1 && (b2 && b3)) by unfold okM; rw [hn, hb1, hb2, hb3])
  have hlr := Lib.hid hr
  have hlf := Lib.hid hf
  have hll := Lib.hid hl
  rw [hn] at R0 hl ⊢
  rw [hn1, hn2] at R1 ⊢
  have hb := (Below.refl w.heap.size w).alloc (Nat.le_refl _) (Obj.cells #[.slice a0 n p0, .slice a1 n1 p1, .int .i64 t, .slice a2 n2 p2] 50)
  have H0 := Lib.hid (R0.below hb)
  have H1 := Lib.hid (devK.rd_later R1 hb)
  have HB := Lib.hid hb
  have B2 := Lib.hid hb2
  have B3 := Lib.hid hb3
  have A0 := Bx.new 50 #[.slice a0 n p0, .slice a1 n1 p1, .int .i64 t, .slice a2 n2 p2] w
  have g0 := A0.cell 0 _ rfl
  have g1 := A0.cell 1 _ rfl
  have g2 := A0.cell 2 _ rfl
  have g3 := A0.cell 3 _ rfl
  clear hb2 hb3 hn hn1 hn2 A0 hb R0 R1 hr hf
  show Calls _ _ #[.agg #[.slice a0 n p0, .slice a1 n1 p1, .int .i64 t, .slice a2 n2 p2]] w _
  have paths : b1 = false ∨ (b1 = true ∧ b2 = false) ∨ (b1 = true ∧ b2 = true) := by cases b1 <;> cases b2 <;> simp
  rcases paths with rfl | ⟨rfl, rfl⟩ | ⟨rfl, rfl⟩
  all_goals go_enter Tryz.func21, Tryz.ntmps21
  all_goals go_wp2_with (first
    | (go_at_call 57; refine (specBytesOk _ l hll.out _ H0.out).mono ?_; rintro e w' ⟨rfl, rfl⟩; rw [B2.out])
    | (go_at_call 58; refine (specDevOk [.slice a1 n1 p1, .int .i64 t, .slice a2 n2 p2] r t f hlr.out hlf.out _ H1.out).mono ?_; rintro e w' ⟨rfl, hb⟩; rw [B3.out]))
  all_goals go_ret
  · exact ⟨by rw [He.out]; rfl, HB.out⟩
  · exact ⟨by rw [He.out]; rfl, HB.out⟩
  · exact ⟨by rw [He.out]; rfl, HB.out.trans (hb.mono HB.out.size)⟩

/-- are two models the same. -/
def sameM (l r : List Int) (t : Int) (f : List Int) (l' r' : List Int) (t' : Int) (f' : List Int) : Bool := eqLB l l' && sameD r t f r' t' f'
theorem sameM_iff (l r : List Int) (t : Int) (f : List Int) (l' r' : List Int) (t' : Int) (f' : List Int) : sameM l r t f l' r' t' f' = true ↔ ((l, (r, t, f)) : List Int × DevX) = (l', (r', t', f')) := by
  unfold sameM; rw [Bool.and_eq_true, sameD_iff]; unfold eqLB; simp
end Go.Proofs.YtdhaelaoackfkaaGreat.KD
