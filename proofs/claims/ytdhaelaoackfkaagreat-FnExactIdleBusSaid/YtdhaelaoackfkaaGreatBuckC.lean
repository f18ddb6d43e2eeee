
/-
  A bucket of a valid configuration's master: BucketOk of both sides at every bucket (from Buck3.tpl, over Conf2's bounds).
-/
import Derived.Test.YtdhaelaoackfkaaGreatGK13
import Derived.Test.YtdhaelaoackfkaaGreatKBucket
import Derived.Test.YtdhaelaoackfkaaGreatGConf13
namespace Go.Proofs.YtdhaelaoackfkaaGreat.Num
open Go.RowKit Rows3 GR KD
set_option linter.unusedVariables false

/-- is the bucket one of its master's. -/
def okB (p : Bool) (ev cap t c : Int) : Bool := if p then inB t 0 cap && inB c 0 (ev - 1) else (t == 0 && c == 0)
theorem okB_no (ev cap t c : Int) : okB false ev cap t c = (t == 0 && c == 0) := rfl
theorem okB_iff {ev cap t c : Int} : okB true ev cap t c = true ↔ 0 ≤ t ∧ t ≤ cap ∧ 0 ≤ c ∧ c < ev := by
  show (inB t 0 cap && inB c 0 (ev - 1)) = true ↔ _
  rw [Bool.and_eq_true, inB_iff, inB_iff]; omega
theorem okB_no_iff {ev cap t c : Int} : okB false ev cap t c = true ↔ t = 0 ∧ c = 0 := by rw [okB_no]; simp
theorem okB_bad {ev cap t c : Int} (h : ¬ (0 ≤ t ∧ t ≤ cap ∧ 0 ≤ c ∧ c < ev)) : okB true ev cap t c = false := by
  rw [← Bool.not_eq_true, okB_iff]; exact h
/-- a token more, and the bucket after a cycle. -/
def addB (cap t : Int) : Int := if t < cap then t + 1 else t
def tickT (p : Bool) (ev cap t c : Int) : Int := if p && okB p ev cap t c then (if c + 1 < ev then t else addB cap t) else t
def tickC (p : Bool) (ev cap t c : Int) : Int := if p && okB p ev cap t c then (if c + 1 < ev then c + 1 else 0) else c
def takes (p : Bool) (ev cap t c : Int) : Bool := (p && okB p ev cap t c) && t != 0
def backT (p : Bool) (ev cap t c : Int) : Int := if p && okB p ev cap t c then addB cap t else t
/-- a master's numbers as a valid configuration has them. -/
def EvOk (ev : Int) : Prop := 0 ≤ ev ∧ ev ≤ 1000
theorem below2 (B : Nat) (w : World) (hB : B = w.heap.size) (o1 o2 : Obj) : Below B w ((w.alloc o1).alloc o2) := by
  subst hB; exact ((Below.refl _ _).alloc (Nat.le_refl _) _).alloc (by simp) _
theorem below3 (B : Nat) (w : World) (hB : B = w.heap.size) (o1 o2 o3 : Obj) : Below B w (((w.alloc o1).alloc o2).alloc o3) :=
  (below2 B w hB o1 o2).alloc (by subst hB; simp; omega) _
set_option maxRecDepth 100000 in
theorem implOkB (wt : Int) (p : Bool) (ev cap t c : Int) (hs : EvOk ev) (w : World) :
    Calls Tryz.prog 74 #[.agg #[.int .i64 t, .int .i64 c], .agg #[.int .i64 wt, .bool p, .int .i64 ev, .int .i64 cap]] w fun e w' => e = .returned (.bool (okB p ev cap t c)) ∧ Below w.heap.size w w' := by
  have A := (Bx.new 73 #[.int .i64 t, .int .i64 c] w).alloc (Obj.cells #[.int .i64 wt, .bool p, .int .i64 ev, .int .i64 cap] 75)
  have A2 := Bx.new 75 #[.int .i64 wt, .bool p, .int .i64 ev, .int .i64 cap] (w.alloc (Obj.cells #[.int .i64 t, .int .i64 c] 73))
  have hsz : ∀ (w : World) o, (w.alloc o).heap.size = w.heap.size + 1 := fun w o => by simp
  rw [hsz] at A2
  have b0 := A.cell 0 _ rfl
  have b1 := A.cell 1 _ rfl
  have g0 := A2.cell 0 _ rfl
  have g1 := A2.cell 1 _ rfl
  have g2 := A2.cell 2 _ rfl
  have g3 := A2.cell 3 _ rfl
  clear A A2 hsz
  obtain ⟨he0, he1⟩ := hs
  cases p with
  | false =>
    by_cases h0 : t = 0
    · subst h0
      by_cases h1 : c = 0
      · subst h1
        have HE := Lib.hid (okB_no ev cap 0 0)
        go_enter Tryz.func74, Tryz.ntmps74
        go_wp2_with (fail)
        go_ret
        exact ⟨by rw [HE.out]; rfl, below2 _ _ rfl _ _⟩
      · have HE := Lib.hid (show okB false ev cap 0 c = false by rw [okB_no]; simp [h1])
        go_enter Tryz.func74, Tryz.ntmps74
        go_wp2_with (fail)
        go_ret
        exact ⟨by rw [HE.out]; rfl, below2 _ _ rfl _ _⟩
    · have HE := Lib.hid (show okB false ev cap t c = false by rw [okB_no]; simp [h0])
      go_enter Tryz.func74, Tryz.ntmps74
      go_wp2_with (fail)
      go_ret
      exact ⟨by rw [HE.out]; rfl, below2 _ _ rfl _ _⟩
  | true =>
    cases hi : inB t 0 cap with
    | false =>
      have hw := fun w => within_is hi w
      have HE := Lib.hid (show okB true ev cap t c = false by show (inB t 0 cap && inB c 0 (ev - 1)) = false; rw [hi]; rfl)
      clear hi
      go_enter Tryz.func74, Tryz.ntmps74
      go_wp2_with (go_at_call 69; refine (hw _).mono ?_; rintro e w1 ⟨rfl, rfl⟩)
      go_ret
      exact ⟨by rw [HE.out]; rfl, below2 _ _ rfl _ _⟩
    | true =>
      have hw := fun w => within_is hi w
      by_cases h1 : 0 ≤ c
      · have HE := Lib.hid (show okB true ev cap t c = decide (c < ev) by rw [Bool.eq_iff_iff, okB_iff, decide_eq_true_eq]; rw [inB_iff] at hi; omega)
        clear hi
        go_enter Tryz.func74, Tryz.ntmps74
        go_wp2_with (go_at_call 69; refine (hw _).mono ?_; rintro e w1 ⟨rfl, rfl⟩)
        go_ret
        exact ⟨by rw [HE.out]; rfl, below2 _ _ rfl _ _⟩
      · have HE := Lib.hid (show okB true ev cap t c = false from okB_bad (by omega))
        clear hi
        go_enter Tryz.func74, Tryz.ntmps74
        go_wp2_with (go_at_call 69; refine (hw _).mono ?_; rintro e w1 ⟨rfl, rfl⟩)
        go_ret
        exact ⟨by rw [HE.out]; rfl, below2 _ _ rfl _ _⟩
set_option maxRecDepth 100000 in
theorem specOkB (wt : Int) (p : Bool) (ev cap t c : Int) (hs : EvOk ev) (w : World) :
    Calls Tryz.prog 23 #[.agg #[.int .i64 t, .int .i64 c], .agg #[.int .i64 wt, .bool p, .int .i64 ev, .int .i64 cap]] w fun e w' => e = .returned (.bool (okB p ev cap t c)) ∧ Below w.heap.size w w' := by
  have A := (Bx.new 73 #[.int .i64 t, .int .i64 c] w).alloc (Obj.cells #[.int .i64 wt, .bool p, .int .i64 ev, .int .i64 cap] 75)
  have A2 := Bx.new 75 #[.int .i64 wt, .bool p, .int .i64 ev, .int .i64 cap] (w.alloc (Obj.cells #[.int .i64 t, .int .i64 c] 73))
  have hsz : ∀ (w : World) o, (w.alloc o).heap.size = w.heap.size + 1 := fun w o => by simp
  rw [hsz] at A2
  have b0 := A.cell 0 _ rfl
  have b1 := A.cell 1 _ rfl
  have g0 := A2.cell 0 _ rfl
  have g1 := A2.cell 1 _ rfl
  have g2 := A2.cell 2 _ rfl
  have g3 := A2.cell 3 _ rfl
  clear A A2 hsz
  obtain ⟨he0, he1⟩ := hs
  cases p with
  | false =>
    by_cases h0 : t = 0
    · subst h0
      by_cases h1 : c = 0
      · subst h1
        have HE := Lib.hid (okB_no ev cap 0 0)
        go_enter Tryz.func23, Tryz.ntmps23
        go_wp2_with (fail)
        go_ret
        exact ⟨by rw [HE.out]; rfl, below2 _ _ rfl _ _⟩
      · have HE := Lib.hid (show okB false ev cap 0 c = false by rw [okB_no]; simp [h1])
        go_enter Tryz.func23, Tryz.ntmps23
        go_wp2_with (fail)
        go_ret
        exact ⟨by rw [HE.out]; rfl, below2 _ _ rfl _ _⟩
    · have HE := Lib.hid (show okB false ev cap t c = false by rw [okB_no]; simp [h0])
      go_enter Tryz.func23, Tryz.ntmps23
      go_wp2_with (fail)
      go_ret
      exact ⟨by rw [HE.out]; rfl, below2 _ _ rfl _ _⟩
  | true =>
    cases hi : inB t 0 cap with
    | false =>
      have hw := fun w => l1In_is hi w
      have HE := Lib.hid (show okB true ev cap t c = false by show (inB t 0 cap && inB c 0 (ev - 1)) = false; rw [hi]; rfl)
      clear hi
      go_enter Tryz.func23, Tryz.ntmps23
      go_wp2_with (go_at_call 19; refine (hw _).mono ?_; rintro e w1 ⟨rfl, rfl⟩)
      go_ret
      exact ⟨by rw [HE.out]; rfl, below2 _ _ rfl _ _⟩
    | true =>
      cases hj : inB c 0 (ev - 1) with
      | false =>
        have HI := Lib.hid hi
        have HJ := Lib.hid hj
        have HE := Lib.hid (show okB true ev cap t c = false by show (inB t 0 cap && inB c 0 (ev - 1)) = false; rw [hi, hj]; rfl)
        clear hi hj
        go_enter Tryz.func23, Tryz.ntmps23
        go_wp2_with (go_at_call 19; refine (l1In_any _ _ _ _).mono ?_; rintro e w1 ⟨rfl, rfl⟩; first | rw [HI.out] | rw [HJ.out])
        go_ret
        exact ⟨by rw [HE.out]; rfl, below2 _ _ rfl _ _⟩
      | true =>
        have HI := Lib.hid hi
        have HJ := Lib.hid hj
        have HE := Lib.hid (show okB true ev cap t c = true by show (inB t 0 cap && inB c 0 (ev - 1)) = true; rw [hi, hj]; rfl)
        clear hi hj
        go_enter Tryz.func23, Tryz.ntmps23
        go_wp2_with (go_at_call 19; refine (l1In_any _ _ _ _).mono ?_; rintro e w1 ⟨rfl, rfl⟩; first | rw [HI.out] | rw [HJ.out])
        go_ret
        exact ⟨by rw [HE.out]; rfl, below2 _ _ rfl _ _⟩
end Go.Proofs.YtdhaelaoackfkaaGreat.Num
