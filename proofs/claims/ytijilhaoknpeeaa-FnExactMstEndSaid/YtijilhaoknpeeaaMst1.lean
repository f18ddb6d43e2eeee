
/-
  A master as data; what is asked of it: the model's l12Beats, l12Right, MstOk.
-/
import Derived.Test.YtijilhaoknpeeaaKMst
import Derived.Test.YtijilhaoknpeeaaConfKn
import Derived.Test.YtijilhaoknpeeaaReqOk
namespace Go.Proofs.Ytijilhaoknpeeaa.KD
open Go.RowKit Rows3 GR Num
set_option linter.unusedVariables false

abbrev ReqX := Bool × Int × Int × Int × Bool × List Int
abbrev MstX := List ReqX × Int × Int × Int × Bool × Bool
def okQ (x : ReqX) : Bool := okR x.1 x.2.1 x.2.2.1 x.2.2.2.1 x.2.2.2.2.2
theorem rd_req {cs : List Value} {q : Bool} {x y z : Int} {k : Bool} {l : List Int} {w : World} (h : reqK.rd cs (q, x, y, z, k, l) w) :
    ∃ a p, cs = [.bool q, .int .i64 x, .int .i64 y, .int .i64 z, .bool k, .slice a l.length p] ∧ RdI (.slice a l.length p) l w := by
  obtain ⟨a, p, rfl, h0⟩ := req_form h
  obtain ⟨_, _, e, _, R⟩ := rd_ints h0
  cases e
  exact ⟨_, _, rfl, R⟩
theorem req_len {q : Bool} {x y z : Int} {k : Bool} {l : List Int} (h : reqK.sz (q, x, y, z, k, l) ≤ 2000000) : l.length ≤ 2000000 := by
  rw [req_sz] at h; have e : ints.sz l = l.length := sz_ints l; omega
theorem specReqX (cs : List Value) (q : Bool) (x y z : Int) (k : Bool) (l : List Int) (hs : reqK.sz (q, x, y, z, k, l) ≤ 2000000) (w : World) (h : reqK.rd cs (q, x, y, z, k, l) w) :
    Calls Try.prog 69 #[agg cs] w fun e w' => e = .returned (.bool (okQ (q, x, y, z, k, l))) ∧ Below w.heap.size w w' := by
  obtain ⟨a, p, rfl, h0⟩ := rd_req h
  exact specReqOk q x y z k _ l (req_len hs) w h0
theorem implReqX (cs : List Value) (q : Bool) (x y z : Int) (k : Bool) (l : List Int) (hs : reqK.sz (q, x, y, z, k, l) ≤ 2000000) (w : World) (h : reqK.rd cs (q, x, y, z, k, l) w) :
    Calls Try.prog 67 #[agg cs] w fun e w' => e = .returned (.bool (okQ (q, x, y, z, k, l))) ∧ Below w.heap.size w w' := by
  obtain ⟨a, p, rfl, h0⟩ := rd_req h
  exact implReqOk q x y z k _ l (req_len hs) w h0
/-- how many beats the first request has. -/
def beats0 : List ReqX → Int
  | [] => 0
  | r :: _ => beatsW r.2.2.2.1
theorem beats0_bd (q : List ReqX) : 0 ≤ beats0 q ∧ beats0 q ≤ 8 := by
  cases q with
  | nil => exact ⟨Int.le_refl _, by decide⟩
  | cons r q => exact beatsW_bd _
def qokTo (q : List ReqX) (j : Nat) : Bool := (q.take j).all okQ
theorem qokTo_step {q : List ReqX} {j : Nat} {x : ReqX} (h : q[j]? = some x) : qokTo q (j + 1) = (qokTo q j && okQ x) := by
  unfold qokTo; rw [take_snoc' h, List.all_append]; simp
theorem qok_all (q : List ReqX) : qokTo q q.length = q.all okQ := by unfold qokTo; rw [List.take_length]
theorem qok_bad {q : List ReqX} {j : Nat} {x : ReqX} (h : q[j]? = some x) (hx : okQ x = false) : q.all okQ = false := by
  rw [← Bool.not_eq_true, List.all_eq_true]
  intro ha
  rw [ha x (List.mem_of_getElem? h)] at hx; cases hx
/-- what is asked of a master, whatever the limits. -/
def rightM (q : List ReqX) (be dn tr : Int) (pa br : Bool) : Bool :=
  q.all okQ && (decide ((q.length : Int) ≤ 4) && (decide (0 ≤ tr) &&
    (if q.length = 0 then (be == 0 && (dn == 0 && (tr == 0 && (!pa && !br)))) else (decide (0 ≤ dn) && (decide (dn ≤ beats0 q - 1) && (decide (dn ≤ be) && decide (be ≤ min (dn + 2) (beats0 q))))))))
theorem mst_rows {q : List ReqX} {be dn tr : Int} {pa br : Bool} (h : mstK.sz (q, be, dn, tr, pa, br) ≤ 2000000) : szL reqK q ≤ 2000000 := by
  rw [mst_sz] at h; exact h
theorem mst_len {q : List ReqX} {be dn tr : Int} {pa br : Bool} (h : mstK.sz (q, be, dn, tr, pa, br) ≤ 2000000) : q.length ≤ 2000000 := Nat.le_trans (szL_len reqK q) (mst_rows h)
set_option maxRecDepth 100000 in
theorem spec12Beats (cs : List Value) (q : List ReqX) (be dn tr : Int) (pa br : Bool) (hs : mstK.sz (q, be, dn, tr, pa, br) ≤ 2000000) (w : World) (h : mstK.rd cs (q, be, dn, tr, pa, br) w) :
    Calls Try.prog 62 #[agg cs] w fun e w' => e = .returned (.int .i64 (beats0 q)) ∧ Below w.heap.size w w' := by
  obtain ⟨a0, p0, rfl, h0⟩ := mst_form h
  clear h
  have hl := mst_len hs
  obtain ⟨n, hn⟩ : ∃ n, q.length = n := ⟨_, rfl⟩
  have A0 := Bx.new 26 #[.slice a0 n p0, .int .i64 be, .int .i64 dn, .int .i64 tr, .bool pa, .bool br] w
  have g0 := A0.cell 0 _ rfl
  have HB := Lib.hid ((Below.refl w.heap.size w).alloc (Nat.le_refl _) (Obj.cells #[.slice a0 n p0, .int .i64 be, .int .i64 dn, .int .i64 tr, .bool pa, .bool br] 26))
  have H0 := Lib.hid (reqS.rd_later h0 HB.out)
  rw [hn] at H0 hl ⊢
  show Calls _ _ #[.agg #[.slice a0 n p0, .int .i64 be, .int .i64 dn, .int .i64 tr, .bool pa, .bool br]] w _
  cases q with
  | nil =>
    obtain rfl : n = 0 := hn.symm
    clear h0 A0 hn hs
    go_enter Try.func62, Try.ntmps62
    go_wp2
    go_ret
    exact ⟨rfl, HB.out⟩
  | cons r q =>
    have hpos : 0 < n := by rw [← hn]; simp
    obtain ⟨b, o, _, es, e, _, _, lt, c, rx⟩ := row_rd H0.out (i := 0) (x := r) rfl
    obtain ⟨r0, r1, r2, r3, r4, r5⟩ := r
    obtain ⟨ax, px, rfl, _⟩ := rd_req rx
    simp at e
    obtain ⟨rfl, -, rfl⟩ := e
    have k3 : _ = some (Value.int .i64 r3) := c 3 _ rfl
    rw [Nat.zero_mul, Nat.add_zero] at k3
    have hne : ((n : Int) == 0) = false := by simp; omega
    obtain ⟨m, hm⟩ : ∃ m, beatsW r3 = m := ⟨_, rfl⟩
    have HM := Lib.hid hm
    have hgoal : beats0 ((r0, r1, r2, r3, r4, r5) :: q) = m := hm
    rw [hgoal]
    clear h0 A0 hn hs c rx hm hgoal
    go_enter Try.func62, Try.ntmps62
    go_wp2_with fail
    refine (specBeats _ _).mono ?_
    rintro e w' ⟨rfl, hb⟩
    rw [HM.out]
    go_wp2
    go_ret
    exact ⟨rfl, HB.out.trans (hb.mono HB.out.size)⟩
end Go.Proofs.Ytijilhaoknpeeaa.KD
