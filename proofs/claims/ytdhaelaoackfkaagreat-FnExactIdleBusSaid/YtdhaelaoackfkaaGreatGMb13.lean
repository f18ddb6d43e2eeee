/-
  Several texts in one: Mst4, Mst5, Mst6.
-/
import Derived.Test.YtdhaelaoackfkaaGreatMst3
namespace Go.Proofs.YtdhaelaoackfkaaGreat.KD
open Go.RowKit Rows3 GR Num
set_option linter.unusedVariables false

end Go.Proofs.YtdhaelaoackfkaaGreat.KD

namespace Go.Proofs.YtdhaelaoackfkaaGreat.KD
open Go.RowKit Rows3 GR Num
set_option linter.unusedVariables false

theorem info_iReqT : (Tryz.prog.info? 107).map (fun i => (i.zero, i.size, decide (i.bytes ≤ 1000))) = some (some (.agg #[.bool false, .int .i64 0, .int .i64 0, .int .i64 0, .bool false, .slice none 0 0]), 6, true) := by kernel_rfl
theorem elReq : ElT reqK 107 := by
  obtain ⟨j, h1, h2, h3, h4⟩ := info_parts' info_iReqT
  exact ⟨j, _, h1, h2, h3, rfl, h4⟩
theorem row_empty {α : Type} {K : Kn α} {hn : K.n ≤ 64} {F : Foot} {g : Nat} {T : TypeId} {w : World} (hF : F g) (hg : w.heap[g]? = some (.cells #[] T)) : (row K hn).cap F [.slice (some ⟨g, 0, none⟩) 0 0] [] w :=
  ⟨_, _, rfl, ⟨Nat.le_refl _, Nat.zero_le _⟩, .inr ⟨g, 0, #[], T, rfl, hF, hg, by simp, fun _ _ => False, fun _ _ h => h.elim, fun _ _ _ _ h => h.elim, fun i x hi => by simp at hi⟩⟩
theorem bx_turn {T b : Nat} {cs : Array Value} {w w' : World} {G : Foot} (h : Bx T b cs w) (ht : Turn G w w') (hG : ¬ G b) : Bx T b cs w' := (ht.block b h.lt hG).trans h
theorem req_one (q : Bool) (x y z : Int) (k : Bool) (ad : Option Addr) (n p : Nat) : ∀ u ∈ [Value.bool q, .int .i64 x, .int .i64 y, .int .i64 z, .bool k, .slice ad n p], u.oneCell' = true := by
  intro u hu
  simp at hu
  rcases hu with rfl | rfl | rfl | rfl | rfl | rfl <;> rfl
/-- a master of the call's own. -/
def NewMst (x : MstX) (w : World) (e : Ending) (w' : World) : Prop := ∃ us, e = .returned (agg us) ∧ mstK.cap (fun k => w.heap.size ≤ k) us x w' ∧ Below w.heap.size w w'
end Go.Proofs.YtdhaelaoackfkaaGreat.KD

namespace Go.Proofs.YtdhaelaoackfkaaGreat.KD
open Go.RowKit Rows3 GR Num
set_option linter.unusedVariables false

def wantsM (q : List ReqX) (be dn tr : Int) (pa br : Bool) : Bool := rightM q be dn tr pa br && decide (be < beats0 q)
def issueM (q : List ReqX) (be dn tr : Int) (pa br : Bool) : MstX × Bool := if wantsM q be dn tr pa br = true ∧ be ≠ dn + 2 then ((q, be + 1, dn, tr, pa, br), true) else ((q, be, dn, tr, pa, br), false)
def backM (q : List ReqX) (be dn tr : Int) (pa br : Bool) : MstX × Bool := if rightM q be dn tr pa br = true ∧ be ≠ dn then ((q, be - 1, dn, tr, pa, br), true) else ((q, be, dn, tr, pa, br), false)
/-- the numbers of a master that is right are small. -/
theorem right_bd {q : List ReqX} {be dn tr : Int} {pa br : Bool} (h : rightM q be dn tr pa br = true) : 0 ≤ dn ∧ dn ≤ 8 ∧ dn ≤ be ∧ be ≤ 10 ∧ q.length ≤ 4 ∧ 0 ≤ tr ∧ (q.length = 0 → be = 0 ∧ dn = 0) ∧ (q.length ≠ 0 → dn < beats0 q ∧ be ≤ beats0 q) := by
  unfold rightM at h
  simp only [Bool.and_eq_true, decide_eq_true_eq] at h
  obtain ⟨_, h1, h2, h3⟩ := h
  have hb := beats0_bd q
  split at h3
  · rename_i h0
    simp only [Bool.and_eq_true, beq_iff_eq] at h3
    obtain ⟨h4, h5, _⟩ := h3
    exact ⟨by omega, by omega, by omega, by omega, by omega, h2, fun _ => ⟨h4, h5⟩, fun hh => absurd h0 hh⟩
  · rename_i h0
    simp only [Bool.and_eq_true, decide_eq_true_eq] at h3
    obtain ⟨h4, h5, h6, h7⟩ := h3
    exact ⟨h4, by omega, h6, by omega, by omega, h2, fun hh => absurd hh h0, fun _ => ⟨by omega, by omega⟩⟩
theorem right_is {cs : List Value} {q : List ReqX} {be dn tr : Int} {pa br : Bool} {b : Bool} (hm : rightM q be dn tr pa br = b) (hs : mstK.sz (q, be, dn, tr, pa, br) ≤ 2000000) (w : World) (h : mstK.rd cs (q, be, dn, tr, pa, br) w) :
    Calls Tryz.prog 59 #[agg cs] w fun e w' => e = .returned (.bool b) ∧ Below w.heap.size w w' := hm ▸ spec12Right cs q be dn tr pa br hs w h
/-- a master of the call's own, a truth value. -/
def MstB (d : MstX × Bool) (w : World) (e : Ending) (w' : World) : Prop := ∃ us, e = .returned (.tuple #[agg us, .bool d.2]) ∧ mstK.cap (fun k => w.heap.size ≤ k) us d.1 w' ∧ Below w.heap.size w w'
theorem warm6 {T : TypeId} {b : Nat} {c0 c1 c2 c3 c4 c5 : Value} {w : World} (h : Bx T b #[c0, c1, c2, c3, c4, c5] w) :
    w.frozen? ⟨b, 0, none⟩ = false ∧ w.frozen? ⟨b, 1, none⟩ = false ∧ w.frozen? ⟨b, 2, none⟩ = false ∧ w.frozen? ⟨b, 3, none⟩ = false ∧ w.frozen? ⟨b, 4, none⟩ = false ∧ w.frozen? ⟨b, 5, none⟩ = false := ⟨h.warm 0, h.warm 1, h.warm 2, h.warm 3, h.warm 4, h.warm 5⟩
end Go.Proofs.YtdhaelaoackfkaaGreat.KD
