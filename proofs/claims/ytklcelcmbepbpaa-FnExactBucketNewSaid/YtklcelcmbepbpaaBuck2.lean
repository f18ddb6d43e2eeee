
/-
  What the exact laws of chapter 10 hand on: copies of a configuration and of a bucket, and their comparison, in plain words.
-/
import Derived.Test.YtklcelcmbepbpaaBuck1
namespace Go.Proofs.Ytklcelcmbepbpaa.Num
open Go.RowKit Rows3 GR KD
set_option linter.unusedVariables false

/-- what the laws hand on, in plain words. -/
theorem toM (wt ev cap : Int) (p : Bool) (w : World) :
    Calls Try.prog 21 #[.agg #[.int .i64 wt, .bool p, .int .i64 ev, .int .i64 cap]] w fun e w' => e = .returned (.agg #[.int .i64 wt, .bool p, .int .i64 ev, .int .i64 cap]) ∧ Below w.heap.size w w' := by
  refine (toMConf [.int .i64 wt, .bool p, .int .i64 ev, .int .i64 cap] (wt, p, ev, cap) w (by simp [mConfK, KD.prod, KD.int, KD.bool]) mConf_rd).mono ?_
  rintro e w' ⟨us, he, hc, hb⟩
  obtain rfl := mConf_form (mConfK.cap_rd hc)
  exact ⟨he, hb⟩
theorem toB (t c : Int) (w : World) :
    Calls Try.prog 20 #[.agg #[.int .i64 t, .int .i64 c]] w fun e w' => e = .returned (.agg #[.int .i64 t, .int .i64 c]) ∧ Below w.heap.size w w' := by
  refine (toBucket [.int .i64 t, .int .i64 c] (t, c) w (by simp [bucketK, KD.prod, KD.int]) bucket_rd).mono ?_
  rintro e w' ⟨us, he, hc, hb⟩
  obtain rfl := bucket_form (bucketK.cap_rd hc)
  exact ⟨he, hb⟩
theorem eqB (t c : Int) (w : World) :
    Calls Try.prog 23 #[.agg #[.int .i64 t, .int .i64 c], .agg #[.int .i64 t, .int .i64 c]] w fun e w' => e = .returned (.bool true) ∧ Below w.heap.size w w' :=
  eqBucket [.int .i64 t, .int .i64 c] [.int .i64 t, .int .i64 c] (t, c) w (by simp [bucketK, KD.prod, KD.int]) bucket_rd bucket_rd
end Go.Proofs.Ytklcelcmbepbpaa.Num
