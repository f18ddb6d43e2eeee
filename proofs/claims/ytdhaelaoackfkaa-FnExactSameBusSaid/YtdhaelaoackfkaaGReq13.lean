/-
  Several texts in one: Burst2, Burst3, Req, ReqOk.
-/
import Derived.Test.YtdhaelaoackfkaaBurst
import Derived.Deep.QuietTactic
import Derived.BigQuiet
import Derived.Test.YtdhaelaoackfkaaLane2
import Derived.Deep.RegionHeld3
import Derived.WalkSmall
import Derived.IntWalk
namespace Go.Proofs.Ytdhaelaoackfkaa.Num
open Go.RowKit Rows3

/-- the address of beat j; below 0 where there is none. -/
def itW (a k b : Int) : Nat → Int
  | 0 => a
  | n + 1 => nextW (itW a k b n) k b
def itL (a k b : Int) (n : Nat) : List Int := (List.range n).map (itW a k b)
def addrsW (a k b : Int) : List Int := if 0 ≤ itW a k b (beatsW b).toNat then itL a k b (beatsW b).toNat else []
theorem itL_length (a k b : Int) (n : Nat) : (itL a k b n).length = n := by simp [itL]
theorem itL_succ (a k b : Int) (n : Nat) : itL a k b (n + 1) = itL a k b n ++ [itW a k b n] := by simp [itL, List.range_succ]
theorem itW_neg {a k b : Int} {j n : Nat} (h : itW a k b j < 0) (hn : j ≤ n) : itW a k b n < 0 := by
  induction n with
  | zero => obtain rfl : j = 0 := by omega
            exact h
  | succ n ih =>
    by_cases hj : j = n + 1
    · subst hj; exact h
    · have := ih (by omega)
      show nextW _ k b < 0
      rw [nextW_neg this]; decide
theorem addrsW_none {a k b : Int} {n j : Nat} (hn : beatsW b = n) (h : itW a k b j < 0) (hj : j ≤ n) : addrsW a k b = [] := by
  have := itW_neg (n := (beatsW b).toNat) h (by omega)
  unfold addrsW; rw [if_neg (by omega)]
theorem addrsW_all {a k b : Int} {n : Nat} (hn : beatsW b = n) (h : n = 0 ∨ 0 ≤ itW a k b n) : addrsW a k b = itL a k b n := by
  unfold addrsW; rw [hn, Int.toNat_natCast]
  rcases h with rfl | h
  · split <;> rfl
  · rw [if_pos h]
theorem addrsW_length (a k b : Int) : (addrsW a k b).length ≤ 8 := by
  have := beatsW_bd b
  unfold addrsW; split
  · rw [itL_length]; omega
  · simp


/-- what a loop's head holds: j addresses are there. -/
def SpecRel (a k b : Int) (n : Nat) (w : World) (x v : Value) (wr : World) : Prop :=
  ∃ (j : Nat) (ad : Option Addr) (cap : Nat), j ≤ n ∧ x = .int .i64 (itW a k b j) ∧ v = .slice ad j cap ∧ (j = 0 ∨ 0 ≤ itW a k b j) ∧ OwnI w.heap.size (.slice ad j cap) (itL a k b j) wr ∧ Below w.heap.size w wr
def lenOf : Value → Nat | .slice _ n _ => n | _ => 0
end Go.Proofs.Ytdhaelaoackfkaa.Num

namespace Go.Proofs.Ytdhaelaoackfkaa.Num
open Go.RowKit Rows3

theorem itW_bd {a k b : Int} {n j : Nat} (h : 0 ≤ itW a k b n) (hj : j < n) : 0 ≤ itW a k b j ∧ itW a k b j < 512 ∧ itW a k b j % bytesW k = 0 ∧ 0 < bytesW k := by
  have h1 : 0 ≤ itW a k b (j + 1) := by
    by_cases hn : itW a k b (j + 1) < 0
    · have := itW_neg hn (show j + 1 ≤ n by omega); omega
    · omega
  have h2 : 0 ≤ nextW (itW a k b j) k b := h1
  unfold nextW at h2
  split at h2
  · rename_i hc
    obtain ⟨p, q, _⟩ := hc
    obtain ⟨r, s, t⟩ := (alB_iff _ _).1 p
    exact ⟨s, q, t, r⟩
  · omega
theorem itL_getD {a k b : Int} {n j : Nat} (hj : j < n) : (itL a k b n).getD j 0 = itW a k b j := by simp [itL, List.getD, hj]
theorem addrsW_getD {a k b : Int} {j : Nat} (hj : j < (addrsW a k b).length) : (addrsW a k b).getD j 0 = itW a k b j ∧ 0 ≤ itW a k b j ∧ itW a k b j < 512 ∧ itW a k b j % bytesW k = 0 ∧ 0 < bytesW k := by
  unfold addrsW at hj ⊢
  by_cases h : 0 ≤ itW a k b (beatsW b).toNat
  · rw [if_pos h] at hj ⊢
    rw [itL_length] at hj
    exact ⟨itL_getD hj, itW_bd h hj⟩
  · rw [if_neg h] at hj
    simp at hj

/-- are these in the page of a. -/
def okL (l : List Int) (a : Int) : Bool := decide (0 < l.length) && l.all fun x => x / 64 == a / 64
theorem okL_no {l : List Int} {a : Int} {k : Nat} (hk : k < l.length) (h : ¬ l.getD k 0 / 64 = a / 64) : okL l a = false := by
  have : (l.all fun x => x / 64 == a / 64) = false := by
    rw [Bool.eq_false_iff]
    intro h1
    rw [List.all_eq_true] at h1
    have := h1 l[k] (List.getElem_mem hk)
    rw [beq_iff_eq] at this
    exact h (by rw [getD_lt hk]; exact this)
  unfold okL; rw [this]; simp
theorem okL_yes {l : List Int} {a : Int} (h : ∀ i, i < l.length → l.getD i 0 / 64 = a / 64) : okL l a = decide (0 < l.length) := by
  have : (l.all fun x => x / 64 == a / 64) = true := by
    rw [List.all_eq_true]
    intro x hx
    obtain ⟨i, hi, rfl⟩ := List.getElem_of_mem hx
    rw [beq_iff_eq, ← getD_lt hi]; exact h i hi
  unfold okL; rw [this]; simp
/-- the first j are in the page. -/
def OkTo (l : List Int) (a : Int) (j : Nat) : Prop := ∀ i, i < j → l.getD i 0 / 64 = a / 64
theorem OkTo.step {l : List Int} {a : Int} {j : Nat} (h : OkTo l a j) (h1 : l.getD j 0 / 64 = a / 64) : OkTo l a (j + 1) := by
  intro i hi
  by_cases hj : i = j
  · rw [hj]; exact h1
  · exact h i (by omega)

end Go.Proofs.Ytdhaelaoackfkaa.Num

namespace Go.Proofs.Ytdhaelaoackfkaa.Num
open Go.RowKit Rows3

/-- what szReq leaves of 2^20. -/
def szW (n : Nat) : Int := if n ≤ 1048576 then 1048576 - (n : Int) else -1
theorem szW_yes {n : Nat} (h : n ≤ 1048576) : szW n = 1048576 - (n : Int) := if_pos h
theorem szW_no {n : Nat} (h : 1048576 < n) : szW n = -1 := if_neg (by omega)
theorem szI_any (v : Value) (n : Nat) (w : World) (hv : ∃ ad cap, v = .slice ad n cap) (hl : n ≤ 9223372036854775807) :
    Calls Try.prog 50 #[v, .int .i64 1048576] w fun e w' => e = .returned (.int .i64 (szW n)) ∧ w = w' := by
  obtain ⟨ad, cap, rfl⟩ := hv
  by_cases h : n ≤ 1048576
  · have He := Lib.hid (szW_yes h)
    go_enter Try.func50, Try.ntmps50
    go_wp2
    go_ret
    exact ⟨by rw [He.out]; rfl, rfl⟩
  · have He := Lib.hid (szW_no (by omega : 1048576 < n))
    go_enter Try.func50, Try.ntmps50
    go_wp2
    go_ret
    exact ⟨by rw [He.out]; rfl, rfl⟩
theorem szReq_any (q : Bool) (x y z : Int) (k : Bool) (v : Value) (n : Nat) (w : World) (hv : ∃ ad cap, v = .slice ad n cap) (hl : n ≤ 9223372036854775807) :
    Calls Try.prog 111 #[.agg #[.bool q, .int .i64 x, .int .i64 y, .int .i64 z, .bool k, v], .int .i64 1048576] w fun e w' => e = .returned (.int .i64 (szW n)) ∧ Below w.heap.size w w' := by
  obtain ⟨ad, cap, rfl⟩ := hv
  obtain ⟨m, hm⟩ : ∃ m : Int, szW n = m := ⟨_, rfl⟩
  have hm0 : -1 ≤ m := by rw [← hm]; unfold szW; split <;> omega
  have hm1 : m ≤ 1048576 := by rw [← hm]; unfold szW; split <;> omega
  have Hm := Lib.hid hm
  rw [hm]
  clear hm
  by_cases h : m < 0
  · obtain rfl : m = -1 := by omega
    go_enter Try.func111, Try.ntmps111
    go_wp2_with (go_at_call 50; refine (szI_any _ n _ ⟨_, _, rfl⟩ hl).mono ?_; rintro e w' ⟨rfl, rfl⟩; rw [Hm.out])
    go_ret
    exact ⟨rfl, (Below.refl _ _).alloc (Nat.le_refl _) _⟩
  · go_enter Try.func111, Try.ntmps111
    go_wp2_with (go_at_call 50; refine (szI_any _ n _ ⟨_, _, rfl⟩ hl).mono ?_; rintro e w' ⟨rfl, rfl⟩; rw [Hm.out])
    go_ret
    exact ⟨rfl, (Below.refl _ _).alloc (Nat.le_refl _) _⟩
/-- block b holds these six cells, none of them frozen. -/
def Blk (T : TypeId) (b : Nat) (c0 c1 c2 c3 c4 c5 : Value) (w : World) : Prop := w.heap[b]? = some (.cells #[c0, c1, c2, c3, c4, c5] T)
theorem Blk.new (T : TypeId) (c0 c1 c2 c3 c4 c5 : Value) (w : World) : Blk T w.heap.size c0 c1 c2 c3 c4 c5 (w.alloc (.cells #[c0, c1, c2, c3, c4, c5] T)) := heap_alloc_new w _
theorem Blk.below {T : TypeId} {b B : Nat} {c0 c1 c2 c3 c4 c5 : Value} {w w' : World} (h : Blk T b c0 c1 c2 c3 c4 c5 w) (hb : Below B w w') (hB : b < B) : Blk T b c0 c1 c2 c3 c4 c5 w' := by
  unfold Blk at h ⊢; rw [hb.block b hB]; exact h
theorem Blk.lt {T : TypeId} {b : Nat} {c0 c1 c2 c3 c4 c5 : Value} {w : World} (h : Blk T b c0 c1 c2 c3 c4 c5 w) : b < w.heap.size := (Array.getElem?_eq_some_iff.1 h).1
theorem Blk.later {T : TypeId} {b : Nat} {c0 c1 c2 c3 c4 c5 : Value} {w w' : World} (h : Blk T b c0 c1 c2 c3 c4 c5 w) (hb : Below w.heap.size w w') : Blk T b c0 c1 c2 c3 c4 c5 w' := h.below hb h.lt
theorem Blk.cells {T : TypeId} {b : Nat} {c0 c1 c2 c3 c4 c5 : Value} {w : World} (h : Blk T b c0 c1 c2 c3 c4 c5 w) :
    w.cell? ⟨b, 0, none⟩ = some c0 ∧ w.cell? ⟨b, 1, none⟩ = some c1 ∧ w.cell? ⟨b, 2, none⟩ = some c2 ∧ w.cell? ⟨b, 3, none⟩ = some c3 ∧ w.cell? ⟨b, 4, none⟩ = some c4 ∧ w.cell? ⟨b, 5, none⟩ = some c5 := by
  unfold Blk at h; simp [World.cell?, h]
theorem Blk.warm {T : TypeId} {b : Nat} {c0 c1 c2 c3 c4 c5 : Value} {w : World} (h : Blk T b c0 c1 c2 c3 c4 c5 w) :
    w.frozen? ⟨b, 0, none⟩ = false ∧ w.frozen? ⟨b, 1, none⟩ = false ∧ w.frozen? ⟨b, 2, none⟩ = false ∧ w.frozen? ⟨b, 3, none⟩ = false ∧ w.frozen? ⟨b, 4, none⟩ = false ∧ w.frozen? ⟨b, 5, none⟩ = false := by
  unfold Blk at h; simp [World.frozen?, h]
theorem rdI_alloc {v : Value} {l : List Int} {w : World} (h : RdI v l w) (o : Obj) : RdI v l (w.alloc o) := h.below ((Below.refl _ _).alloc (Nat.le_refl _) o)
theorem below_alloc1 {B : Nat} {a w w' : World} {o : Obj} (h : Below B a w) (hB : B ≤ w.heap.size) (hb : Below (w.alloc o).heap.size (w.alloc o) w') : Below B a w' :=
  (h.alloc hB o).trans (hb.mono (by simp; omega))
theorem setBelow {B : Nat} {v : Value} {l : List Int} {w : World} (h : OwnI B v l w) {a : Addr} (ha : a.block < B) (u : Value) : OwnI B v l (w.setCell a u) := ownsRow_setCell_below h ha u
set_option maxRecDepth 100000 in
theorem toReq_any (q : Bool) (x y z : Int) (k : Bool) (v : Value) (l : List Int) (hl : l.length ≤ 2000000) (w : World) (hv : RdI v l w) :
    Calls Try.prog 112 #[.agg #[.bool q, .int .i64 x, .int .i64 y, .int .i64 z, .bool k, v]] w fun e w' =>
      ∃ u, e = .returned (.agg #[.bool q, .int .i64 x, .int .i64 y, .int .i64 z, .bool k, u]) ∧ OwnI w.heap.size u l w' ∧ Below w.heap.size w w' := by
  have Hv := Lib.hid hv
  obtain ⟨ad, cap, rfl, hr⟩ := hv
  clear hr
  go_enter Try.func112, Try.ntmps112
  go_wp2_with fail
  refine (toInts_any _ l hl _ (rdI_alloc (rdI_alloc (rdI_alloc Hv.out _) _) _)).mono ?_
  rintro e w1 ⟨u, rfl, ho, hb⟩
  obtain ⟨ad1, cap1, rfl⟩ := ho.slice
  have B2 := (Blk.new 126 (.bool false) (.int .i64 0) (.int .i64 0) (.int .i64 0) (.bool false) (.slice none 0 0) (w.alloc (Obj.cells #[.bool q, .int .i64 x, .int .i64 y, .int .i64 z, .bool k, .slice ad l.length cap] 138))).later (((Below.refl _ _).alloc (Nat.le_refl _) (Obj.cells #[.bool q, .int .i64 x, .int .i64 y, .int .i64 z, .bool k, .slice none 0 0] 126)))
  have B3 := (Blk.new 126 (.bool q) (.int .i64 x) (.int .i64 y) (.int .i64 z) (.bool k) (.slice none 0 0) ((w.alloc (Obj.cells #[.bool q, .int .i64 x, .int .i64 y, .int .i64 z, .bool k, .slice ad l.length cap] 138)).alloc (Obj.cells #[.bool false, .int .i64 0, .int .i64 0, .int .i64 0, .bool false, .slice none 0 0] 126))).later hb
  replace B2 := B2.later hb
  have Ho := Lib.hid ho
  have Hb := Lib.hid (hb.mono (B' := w.heap.size) (by simp; omega))
  have hsz : ∀ (w : World) o, (w.alloc o).heap.size = w.heap.size + 1 := fun w o => by simp
  rw [hsz] at B2
  rw [hsz, hsz] at B3
  clear hsz
  obtain ⟨f20, f21, f22, f23, f24, f25⟩ := B2.warm
  obtain ⟨g20, g21, g22, g23, g24, g25⟩ := B2.cells
  obtain ⟨-, -, -, -, -, f35⟩ := B3.warm
  obtain ⟨g30, g31, g32, g33, g34, g35⟩ := B3.cells
  clear B2 B3 ho hb
  go_wp2_with fail
  refine bodyPost_ret (v := .agg #[.bool q, .int .i64 x, .int .i64 y, .int .i64 z, .bool k, .slice ad1 l.length cap1]) (by simp [results, Try.results112, go_sem, g20, g21, g22, g23, g24, g25]) rfl ⟨_, rfl, ?_, ?_⟩
  · have h7 := setBelow (setBelow (setBelow (setBelow (setBelow (setBelow (setBelow Ho.out (a := ⟨w.heap.size + 1 + 1, 5, none⟩) (by simp) (.slice ad1 l.length cap1)) (a := ⟨w.heap.size + 1, 0, none⟩) (by simp) (.bool q)) (a := ⟨w.heap.size + 1, 1, none⟩) (by simp) (.int .i64 x)) (a := ⟨w.heap.size + 1, 2, none⟩) (by simp) (.int .i64 y)) (a := ⟨w.heap.size + 1, 3, none⟩) (by simp) (.int .i64 z)) (a := ⟨w.heap.size + 1, 4, none⟩) (by simp) (.bool k)) (a := ⟨w.heap.size + 1, 5, none⟩) (by simp) (.slice ad1 l.length cap1)
    exact h7.mono (by simp; omega)
  · have h0 := (((Below.refl w.heap.size w).alloc (Nat.le_refl _) (Obj.cells #[.bool q, .int .i64 x, .int .i64 y, .int .i64 z, .bool k, .slice ad l.length cap] 138)).alloc (by simp) (Obj.cells #[.bool false, .int .i64 0, .int .i64 0, .int .i64 0, .bool false, .slice none 0 0] 126)).alloc (by simp; omega) (Obj.cells #[.bool q, .int .i64 x, .int .i64 y, .int .i64 z, .bool k, .slice none 0 0] 126)
    exact (((((((h0.trans Hb.out).setCell (by simp; omega) _).setCell (by simp) _).setCell (by simp) _).setCell (by simp) _).setCell (by simp) _).setCell (by simp) _).setCell (by simp) _
set_option maxRecDepth 100000 in
theorem eqReq_same (q : Bool) (x y z : Int) (k : Bool) (v u : Value) (l : List Int) (hl : l.length ≤ 2000000) (w : World) (hv : RdI v l w) (hu : RdI u l w) :
    Calls Try.prog 110 #[.agg #[.bool q, .int .i64 x, .int .i64 y, .int .i64 z, .bool k, v], .agg #[.bool q, .int .i64 x, .int .i64 y, .int .i64 z, .bool k, u]] w fun e w' => e = .returned (.bool true) ∧ Below w.heap.size w w' := by
  have Hv := Lib.hid hv
  have Hu := Lib.hid hu
  obtain ⟨ad, cap, rfl, hr⟩ := hv
  obtain ⟨bd, cbp, rfl, hr'⟩ := hu
  clear hr hr'
  have hx : (x != x) = false := by simp
  have hy : (y != y) = false := by simp
  have hz : (z != z) = false := by simp
  have hq : (q != q) = false := by simp
  have hk : (k != k) = false := by simp
  go_enter Try.func110, Try.ntmps110
  go_wp2_with fail
  refine (eqI_same _ _ l hl _ (rdI_alloc (rdI_alloc Hv.out _) _) (rdI_alloc (rdI_alloc Hu.out _) _)).mono ?_
  rintro e w1 ⟨rfl, hb⟩
  go_wp2
  go_ret
  exact ⟨rfl, below_alloc1 ((Below.refl _ _).alloc (Nat.le_refl _) _) (by simp) hb⟩
end Go.Proofs.Ytdhaelaoackfkaa.Num

namespace Go.Proofs.Ytdhaelaoackfkaa.Num
open Go.RowKit Rows3

/-- is it a request: its beats possible, its data fit. -/
def okR (q : Bool) (x y z : Int) (l : List Int) : Bool :=
  okL (addrsW x y z) x && (if q then decide ((l.length : Int) = beatsW z) && l.all (fun v => inLB v y) else decide (l.length = 0))
theorem okR_burst {q : Bool} {x y z : Int} {l : List Int} (h : okL (addrsW x y z) x = false) : okR q x y z l = false := by unfold okR; rw [h]; rfl
theorem okR_read {x y z : Int} {l : List Int} (h : okL (addrsW x y z) x = true) : okR false x y z l = ((l.length : Int) == 0) := by
  unfold okR; rw [h, if_neg (by simp), Bool.true_and, Bool.eq_iff_iff, decide_eq_true_iff, beq_iff_eq]; omega
theorem okR_len {x y z : Int} {l : List Int} (hl : ¬ (l.length : Int) = beatsW z) : okR true x y z l = false := by
  unfold okR; rw [if_pos rfl, decide_eq_false hl, Bool.false_and, Bool.and_false]
theorem okR_bad {q : Bool} {x y z : Int} {l : List Int} {j : Nat} (hj : j < l.length) (hb : inLB (l.getD j 0) y = false) : okR q x y z l = false := by
  unfold okR
  have h1 : (l.all fun v => inLB v y) = false := by
    rw [List.all_eq_false]
    exact ⟨l[j], List.getElem_mem hj, by rw [← getD_lt hj, hb]; simp⟩
  have h2 : decide (l.length = 0) = false := by rw [decide_eq_false_iff_not]; omega
  rw [h1]
  cases q
  · rw [if_neg (by simp), h2, Bool.and_false]
  · rw [if_pos rfl, Bool.and_false, Bool.and_false]
/-- the first j fit. -/
def FitTo (l : List Int) (y : Int) (j : Nat) : Prop := ∀ i, i < j → inLB (l.getD i 0) y = true
theorem FitTo.step {l : List Int} {y : Int} {j : Nat} (h : FitTo l y j) (h1 : inLB (l.getD j 0) y = true) : FitTo l y (j + 1) := by
  intro i hi
  by_cases hj : i = j
  · rw [hj]; exact h1
  · exact h i (by omega)
theorem okR_fit {q : Bool} {x y z : Int} {l : List Int} (hb : okL (addrsW x y z) x = true) (hf : FitTo l y l.length) : okR q x y z l = (if q then decide ((l.length : Int) = beatsW z) else decide (l.length = 0)) := by
  unfold okR
  have h1 : (l.all fun v => inLB v y) = true := by
    rw [List.all_eq_true]
    intro v hv
    obtain ⟨i, hi, rfl⟩ := List.getElem_of_mem hv
    rw [← getD_lt hi]; exact hf i hi
  rw [hb, h1]; cases q <;> simp
theorem beats_ok {x y z : Int} (h : okL (addrsW x y z) x = true) : 1 ≤ beatsW z := by
  unfold okL at h
  rw [Bool.and_eq_true, decide_eq_true_iff] at h
  have h1 := h.1
  unfold addrsW at h1
  split at h1
  · rw [itL_length] at h1; omega
  · simp at h1
theorem qInS (v k m : Int) (u : Bool) (hm : m = limW k - 1) (h : inLB v k = u) (w : World) : Calls Try.prog 72 #[.int .i64 v, .int .i64 0, .int .i64 m] w fun e w' => e = .returned (.bool u) ∧ w' = w := by
  rw [← h]; exact (specIn v k m hm w).mono fun e w' ⟨a, b⟩ => ⟨a, b.symm⟩
end Go.Proofs.Ytdhaelaoackfkaa.Num
