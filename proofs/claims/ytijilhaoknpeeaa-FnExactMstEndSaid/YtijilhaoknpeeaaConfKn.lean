
/-
  A configuration as data: what the functions of chapter 6 do with it.
-/
import Derived.Test.YtijilhaoknpeeaaKConf
import Derived.Test.YtijilhaoknpeeaaConf4
namespace Go.Proofs.Ytijilhaoknpeeaa.KD
open Go.RowKit Rows3 GR Num
set_option linter.unusedVariables false

abbrev ConfX := List (Int × Bool × Int × Int) × Int × Int × Int × Int × Int
def mcOf (x : Int × Bool × Int × Int) : MC := ⟨x.1, x.2.1, x.2.2.1, x.2.2.2⟩
theorem rd_mconfs {v : Value} {l : List (Int × Bool × Int × Int)} {w : World} (h : mConfS.rd [v] l w) : Rd mcK v (l.map mcOf) w := by
  obtain ⟨ad, cp, e, hl, h⟩ := h
  obtain rfl : v = .slice ad l.length cp := by simpa using e
  refine ⟨ad, cp, by rw [List.length_map], fun i x hi => ?_⟩
  rw [List.getElem?_map] at hi
  obtain ⟨y, hy, rfl⟩ := Option.map_eq_some_iff.1 hi
  obtain ⟨b, o, es, e1, h1, h2, h3⟩ := h i y hy
  obtain ⟨y0, y1, y2, y3⟩ := y
  obtain rfl := mConf_form h3
  exact ⟨b, o, e1, h1, fun j u hu => h2 j u hu⟩
theorem rd_conf {cs : List Value} {l : List (Int × Bool × Int × Int)} {q mw mr ms lm : Int} {w : World} (h : confK.rd cs (l, q, mw, mr, ms, lm) w) :
    ∃ a0 p0, cs = [.slice a0 l.length p0, .int .i64 q, .int .i64 mw, .int .i64 mr, .int .i64 ms, .int .i64 lm] ∧ Rd mcK (.slice a0 l.length p0) (l.map mcOf) w := by
  obtain ⟨a0, p0, rfl, h0⟩ := conf_form h
  exact ⟨a0, p0, rfl, rd_mconfs h0⟩
/-- is it a configuration. -/
def okX (c : ConfX) : Bool := okC (c.1.map mcOf) c.2.1 c.2.2.1 c.2.2.2.1 c.2.2.2.2.1 c.2.2.2.2.2
theorem conf_len {l : List (Int × Bool × Int × Int)} {q mw mr ms lm : Int} (h : confK.sz (l, q, mw, mr, ms, lm) ≤ 2000000) : l.length ≤ 2000000 := by
  rw [conf_sz] at h
  have := szL_len mConfK l
  have e : mConfS.sz l = szL mConfK l := rfl
  omega
theorem specConfX (cs : List Value) (l : List (Int × Bool × Int × Int)) (q mw mr ms lm : Int) (hl : l.length ≤ 2000000) (w : World) (h : confK.rd cs (l, q, mw, mr, ms, lm) w) :
    Calls Try.prog 82 #[agg cs] w fun e w' => e = .returned (.bool (okX (l, q, mw, mr, ms, lm))) ∧ Below w.heap.size w w' := by
  obtain ⟨a0, p0, rfl, h0⟩ := rd_conf h
  exact specConfOk _ (l.map mcOf) q mw mr ms lm (by rw [List.length_map]; exact hl) w h0
theorem implConfX (cs : List Value) (l : List (Int × Bool × Int × Int)) (q mw mr ms lm : Int) (hl : l.length ≤ 2000000) (w : World) (h : confK.rd cs (l, q, mw, mr, ms, lm) w) :
    Calls Try.prog 85 #[agg cs] w fun e w' => e = .returned (.bool (okX (l, q, mw, mr, ms, lm))) ∧ Below w.heap.size w w' := by
  obtain ⟨a0, p0, rfl, h0⟩ := rd_conf h
  exact implConfOk _ (l.map mcOf) q mw mr ms lm (by rw [List.length_map]; exact hl) w h0
end Go.Proofs.Ytijilhaoknpeeaa.KD
