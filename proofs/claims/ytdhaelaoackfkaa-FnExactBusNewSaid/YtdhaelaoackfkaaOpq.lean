
/-
  Laws over great structs: the struct is an array behind a name; what the laws' own functions do with it, said of arrays; a load of a whole struct in a statement that leaves its order open.
-/
import Derived.Test.YtdhaelaoackfkaaBigS
import Derived.Test.YtdhaelaoackfkaaFresh
namespace Go.Proofs.Ytdhaelaoackfkaa.KD
open Go.RowKit GR
set_option linter.unusedVariables false

variable {α : Type} {K : Kn α} {f : FuncId}
theorem sz_at (h : SzC K agg f) {arr : Array Value} {x : α} {L : Int} {w : World} (hr : K.rd arr.toList x w) (h0 : 0 ≤ L) (h1 : L ≤ 1048576) : Calls Try.prog f #[.agg arr, .int .i64 L] w fun e w' => e = .returned (.int .i64 (szW L (K.sz x))) ∧ Below w.heap.size w w' := by
  have := h arr.toList x L w hr h0 h1
  unfold agg at this
  rwa [Array.toArray_toList] at this
theorem to_at (h : ToC K agg f) {arr : Array Value} {x : α} {w : World} (hs : K.sz x ≤ 2000000) (hr : K.rd arr.toList x w) : Calls Try.prog f #[.agg arr] w fun e w' => ∃ us : Array Value, e = .returned (.agg us) ∧ K.cap (fun k => w.heap.size ≤ k) us.toList x w' ∧ Below w.heap.size w w' := by
  have := h arr.toList x w hs hr
  unfold agg at this
  rw [Array.toArray_toList] at this
  exact this.mono fun e w' ⟨us, h1, h2, h3⟩ => ⟨us.toArray, h1, by simpa using h2, h3⟩
theorem eq_at (h : EqC K agg f) {arr brr : Array Value} {x : α} {w : World} (hs : K.sz x ≤ 2000000) (hr : K.rd arr.toList x w) (hr2 : K.rd brr.toList x w) : Calls Try.prog f #[.agg arr, .agg brr] w fun e w' => e = .returned (.bool true) ∧ Below w.heap.size w w' := by
  have := h arr.toList brr.toList x w hs hr hr2
  unfold agg at this
  rwa [Array.toArray_toList, Array.toArray_toList] at this
theorem mark_at (h : MarkC K agg f) {F : Foot} {arr : Array Value} {x : α} {k : Int} {w : World} (hs : K.sz x ≤ 2000000) (h0 : 0 ≤ k) (h1 : k + (K.cT x : Int) ≤ 4611686018427387904) (hc : K.cap F arr.toList x w) : Calls Try.prog f #[.agg arr, .int .i64 k] w fun e w' => e = .returned (.int .i64 (k + (K.cT x : Int))) ∧ K.cap F arr.toList (K.mT x k) w' ∧ Turn F w w' := by
  have := h F arr.toList x k w hs h0 h1 hc
  unfold agg at this
  rwa [Array.toArray_toList] at this
theorem held_at (h : HeldC K agg f) {arr : Array Value} {x : α} {k : Int} {w : World} (hs : K.sz x ≤ 2000000) (h0 : 0 ≤ k) (h1 : k + (K.cT x : Int) ≤ 4611686018427387904) (hr : K.rd arr.toList (K.mT x k) w) : Calls Try.prog f #[.agg arr, .int .i64 k] w fun e w' => e = .returned (.int .i64 (k + (K.cT x : Int))) ∧ Below w.heap.size w w' := by
  have := h arr.toList x k w hs h0 h1 hr
  unfold agg at this
  rwa [Array.toArray_toList] at this
theorem rd_size {arr : Array Value} {x : α} {w : World} (h : K.rd arr.toList x w) : arr.size = K.n := by
  have h1 := K.rd_len h
  rwa [Array.length_toList] at h1
/-- a load of a whole struct, as an operation of a statement that draws its order (Fresh.step_fresh). -/
theorem load_upon {P : Program} {S : Value → World → Prop} {o : Oper} {ρ : Operand → Value} {w : World} (ty : TypeId) (x : Operand) (ho : o.op = .load ty x) (g : Nat) (hx : ρ x = .pointer (some ⟨g, 0, none⟩)) {T : TypeId} {cs : Array Value} {d : TypeDesc} (hg : Bx T g cs w)
    (hu : P.underlying ty = some d) (hd : (match d with | .struct _ | .array _ _ => true | _ => false) = true) (hi : (P.info? ty).map (·.size) = some cs.size) (h : S (.agg cs) w) : Fresh.freshUpon P S ((execOp ρ o).run P w) := by
  unfold execOp
  simp only [ho, hx, Instr.loadAt, Instr.sureAddr, Sem.run_bind, Sem.run_pure, Result.andThen_ok, run_loadVar_row w g T ty cs (0, 0) d hg hu hd hi]
  exact h
end Go.Proofs.Ytdhaelaoackfkaa.KD
