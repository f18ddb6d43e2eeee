
/-
  BusNew of both sides, said of a configuration as data; sizes. (Made by wip/gbnew.py.)
-/
import Derived.Test.YtdhaelaoackfkaaBNew4
namespace Go.Proofs.Ytdhaelaoackfkaa.KD
open Go.RowKit Rows3 GR Num
set_option linter.unusedVariables false
theorem szL_flat {α : Type} {K : Kn α} : ∀ (l : List α), (∀ x, x ∈ l → K.sz x = 0) → KD.szL K l = l.length
  | [], _ => rfl
  | x :: l, h => by
    have h1 := szL_flat l (fun y hy => h y (List.mem_cons_of_mem _ hy))
    have h2 := h x (List.mem_cons_self ..)
    show 1 + K.sz x + KD.szL K l = _
    rw [h1, h2, List.length_cons]; omega
/-- the size of what BusNew returns. -/
theorem newBus_sz {x : ConfX} (h : confK.sz x ≤ 1048576) : busK.sz (newBus x).1 ≤ 2000000 := by
  obtain ⟨l, q, mw, mr, ms, lm⟩ := x
  cases hk : okX (l, q, mw, mr, ms, lm) with
  | true =>
    rw [newBus_yes hk]
    have hl := okX_len hk
    have e1 : mstS.sz (List.replicate l.length mst0) = l.length := by
      show KD.szL mstK (List.replicate l.length mst0) = l.length
      rw [szL_flat _ (fun x hx => by rw [List.eq_of_mem_replicate hx]; rfl), List.length_replicate]
    have e2 : bucketS.sz (l.map bkt) = l.length := by
      show KD.szL bucketK (l.map bkt) = l.length
      rw [szL_flat _ (fun x hx => rfl), List.length_map]
    have e3 : ints.sz (List.replicate l.length 0) = l.length := by
      show KD.szL int (List.replicate l.length 0) = l.length
      rw [szL_flat _ (fun x hx => rfl), List.length_replicate]
    have e4 : modelK.sz (List.replicate 192 0, ([0, 0, 0, 0], 0, [])) ≤ 1000 := by
      rw [model_sz]
      have a1 : ints.sz (List.replicate 192 0) = 192 := by
        show KD.szL int (List.replicate 192 0) = 192
        rw [szL_flat _ (fun x hx => rfl), List.length_replicate]
      have a2 : devK.sz ([0, 0, 0, 0], 0, []) ≤ 10 := by decide
      omega
    have e5 : doneS.sz [] = 0 := rfl
    show busK.sz (busW l q mw mr ms lm (List.replicate l.length mst0) (l.map bkt) (List.replicate l.length 0) (-1) (-1) (List.replicate 192 0) [0, 0, 0, 0] []) ≤ 2000000
    unfold busW
    rw [bus_sz, e1, e2, e3, e5]
    omega
  | false =>
    rw [newBus_no hk]
    decide
theorem specBusNewX (cs : List Value) (x : ConfX) (hs : confK.sz x ≤ 2000000) (w : World) (h : confK.rd cs x w) :
    Calls Try.prog 6 #[agg cs] w fun e w' => ∃ us : Array Value, e = .returned (.tuple #[.agg us, .bool (newBus x).2]) ∧ busK.cap (fun k => w.heap.size ≤ k) us.toList (newBus x).1 w' ∧ Below w.heap.size w w' := by
  obtain ⟨l, q, mw, mr, ms, lm⟩ := x
  exact specBusNew cs l q mw mr ms lm (conf_len hs) w h
theorem implBusNewX (cs : List Value) (x : ConfX) (hs : confK.sz x ≤ 2000000) (w : World) (h : confK.rd cs x w) :
    Calls Try.prog 8 #[agg cs] w fun e w' => ∃ us : Array Value, e = .returned (.tuple #[.agg us, .bool (newBus x).2]) ∧ busK.cap (fun k => w.heap.size ≤ k) us.toList (newBus x).1 w' ∧ Below w.heap.size w w' := by
  obtain ⟨l, q, mw, mr, ms, lm⟩ := x
  exact implBusNew cs l q mw mr ms lm (conf_len hs) w h
theorem conf_ones {arr : Array Value} {x : ConfX} {w : World} (h : confK.rd arr.toList x w) : arr.all (·.oneCell') = true := by
  obtain ⟨l, q, mw, mr, ms, lm⟩ := x
  obtain ⟨a, p, e, _⟩ := conf_form h
  have e2 := congrArg List.toArray e
  rw [Array.toArray_toList] at e2
  rw [e2, List.all_toArray]
  rfl
end Go.Proofs.Ytdhaelaoackfkaa.KD
