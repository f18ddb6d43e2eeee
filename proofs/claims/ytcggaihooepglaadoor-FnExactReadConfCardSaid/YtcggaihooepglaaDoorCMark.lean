
/-
  The marks of a configuration of the call's own.
-/
import Derived.Test.YtcggaihooepglaaDoorConf1
import Derived.Test.YtcggaihooepglaaDoorGRow
namespace Go.Proofs.YtcggaihooepglaaDoor.Num
open Go.RowKit GR

/-- the marks of one master, from x on. -/
def mkM (x : Int) : MC := ⟨x, ((x + 1) % 3 == 0), x + 1 + 1, x + 1 + 1 + 1⟩
def marksM (k : Int) (n : Nat) : List MC := (List.range n).map fun i : Nat => mkM (k + 4 * (i : Int))
theorem marksM_length (k : Int) (n : Nat) : (marksM k n).length = n := by simp [marksM]
theorem marksM_at (k : Int) (n i : Nat) (h : i < n) : (marksM k n)[i]? = some (mkM (k + 4 * (i : Int))) := by simp [marksM, h]
theorem grownTo_refl (w : World) (r : Option Nat) : w.grownBy w r := ⟨rfl, rfl, rfl, Nat.le_refl _, fun _ _ _ => rfl⟩
theorem grownTo_trans {w w' w'' : World} {r : Option Nat} (h2 : w.grownBy w' r) (h4 : w'.grownBy w'' r) : w.grownBy w'' r :=
  ⟨h4.os.trans h2.os, h4.tape.trans h2.tape, h4.output.trans h2.output, Nat.le_trans h2.size h4.size, fun k hk hne => (h4.block k (Nat.lt_of_lt_of_le hk h2.size) hne).trans (h2.block k hk hne)⟩
theorem mid_set (m l : List MC) (j : Nat) (x : MC) (hm : m[j]? = some x) (h : m.length = l.length) : (m.take j ++ l.drop j).set j x = m.take (j + 1) ++ l.drop (j + 1) := by
  obtain ⟨h1, rfl⟩ := List.getElem?_eq_some_iff.1 hm
  have e1 : (m.take j).length = j := by simp; omega
  rw [List.drop_eq_getElem_cons (i := j) (l := l) (by omega), List.take_succ_eq_append_getElem h1, List.append_assoc]
  have := List.set_append_right (s := m.take j) (t := l[j]'(by omega) :: l.drop (j + 1)) j m[j] (by omega)
  rw [this, e1, Nat.sub_self]; rfl
theorem mid_len (m l : List MC) (j : Nat) (h : m.length = l.length) (hj : j ≤ l.length) : (m.take j ++ l.drop j).length = l.length := by simp; omega

set_option maxRecDepth 100000 in
set_option maxHeartbeats 1000000 in
theorem heldMC (v : Value) (k : Int) (n : Nat) (hk0 : 0 ≤ k) (hk1 : k ≤ 2000000) (hn : n ≤ 2000000) (w : World) (hv : Rd mcK v (marksM k n) w) :
    Calls Tryd.prog 48 #[v, .int .i64 k] w fun e w' => e = .returned (.int .i64 (k + 4 * n)) ∧ Below w.heap.size w w' := by
  obtain ⟨ad, cap, rfl, h1⟩ := hv
  rw [marksM_length] at ⊢
  have H1 := Lib.hid h1
  clear h1
  go_enter Tryd.func48, Tryd.ntmps48
  go_wp2
  go_loopw [1, 5] (fun q i wr => ∃ j : Nat, j ≤ n ∧ i = .int .i64 j ∧ q = .int .i64 (k + 4 * j) ∧ Below w.heap.size w wr) (fun _ i _ => n - (intOf i).toNat)
  case atStart => exact ⟨0, by omega, rfl, by simp, Below.refl _ _⟩
  case round =>
    obtain ⟨j, hj, rfl, rfl, hb⟩ := hrel
    obtain ⟨x, hx⟩ : ∃ x : Int, k + 4 * (j : Int) = x := ⟨_, rfl⟩
    have HX := Lib.hid hx
    by_cases hlt : j < n
    · obtain ⟨b, o, rfl, hb1, hc1⟩ := H1.out j _ (marksM_at k n j hlt)
      rw [hx] at hc1 ⊢
      obtain ⟨g0, g1, g2, g3⟩ := mc_at hc1
      rw [← below_cells hb hb1] at g0 g1 g2 g3
      unfold mkM at g0 g1 g2 g3
      dsimp only at g0 g1 g2 g3
      have hx0 : 0 ≤ x := by omega
      have hx1 : x ≤ 10000000 := by omega
      have e0 : (x != x) = false := by simp
      have e2 : (x + 1 + 1 != x + 1 + 1) = false := by simp
      have e3 : (x + 1 + 1 + 1 != x + 1 + 1 + 1) = false := by simp
      clear hc1 hx
      go_wp2_with fail
      go_roundw
      case rel => exact ⟨j + 1, by omega, by go_num, by have := HX.out; congr 1; omega, hb⟩
      case measure => simp [intOf]; omega
    · obtain rfl : j = n := by omega
      clear hx
      go_wp2
      go_ret
      exact ⟨rfl, hb⟩
set_option maxRecDepth 100000 in
set_option maxHeartbeats 1000000 in
theorem markMC (B : Nat) (v : Value) (l : List MC) (k : Int) (hk0 : 0 ≤ k) (hk1 : k ≤ 2000000) (hn : l.length ≤ 2000000) (w : World) (hv : Own mcK 50 B v l w) :
    Calls Tryd.prog 47 #[v, .int .i64 k] w fun e w' => e = .returned (.int .i64 (k + 4 * l.length)) ∧ Own mcK 50 B v (marksM k l.length) w' ∧ w.grownBy w' v.ownBlock := by
  have hv' := hv
  rcases hv'.2 with ⟨rfl, h0⟩ | ⟨g, cap, cur, rfl, _⟩
  · obtain rfl : l = [] := List.length_eq_zero_iff.1 h0
    clear hv' h0
    have Hv := Lib.hid hv
    clear hv
    go_enter Tryd.func47, Tryd.ntmps47
    go_wp2
    go_loop [1, 5] (fun q i => q = .int .i64 k ∧ i = .int .i64 0) (fun _ _ => 0)
    case atStart => exact ⟨rfl, rfl⟩
    case round =>
      obtain ⟨rfl, rfl⟩ := hrel
      go_wp2
      go_ret
      exact ⟨by simp, Hv.out, grownTo_refl _ _⟩
  · clear hv'
    obtain ⟨n, hln⟩ : ∃ n, l.length = n := ⟨_, rfl⟩
    rw [hln] at hv hn ⊢
    have Hv := Lib.hid hv
    have HL := Lib.hid hln
    clear hv hln
    have hgb : w.grownBy w (some g) := grownTo_refl _ _
    go_enter Tryd.func47, Tryd.ntmps47
    go_wp2
    go_loopw [1, 5] (fun q i wr => ∃ j : Nat, j ≤ n ∧ i = .int .i64 j ∧ q = .int .i64 (k + 4 * j) ∧ Own mcK 50 B (.slice (some ⟨g, 0, none⟩) n cap) ((marksM k n).take j ++ l.drop j) wr ∧ w.grownBy wr (some g)) (fun _ i _ => n - (intOf i).toNat)
    case atStart => exact ⟨0, by omega, rfl, by simp, by rw [List.take_zero, List.nil_append, List.drop_zero]; exact Hv.out, hgb⟩
    case round =>
      obtain ⟨j, hj, rfl, rfl, hown, hg⟩ := hrel
      have Ho := Lib.hid hown
      have hml : (marksM k n).length = l.length := by rw [marksM_length, HL.out]
      obtain ⟨x, hx⟩ : ∃ x : Int, k + 4 * (j : Int) = x := ⟨_, rfl⟩
      have HX := Lib.hid hx
      by_cases hlt : j < n
      · have hlt2 : j < ((marksM k n).take j ++ l.drop j).length := by rw [mid_len _ _ _ hml (by rw [HL.out]; omega), HL.out]; exact hlt
        obtain ⟨y, hy⟩ := get_of hlt2
        obtain ⟨f0, f1, f2, f3⟩ := mc_at0 (hown.at_ j y hy)
        have z0 := hown.frozen (j * 4)
        have z1 := hown.frozen (j * 4 + 1)
        have z2 := hown.frozen (j * 4 + 2)
        have z3 := hown.frozen (j * 4 + 3)
        have hs := mid_set (marksM k n) l j _ (marksM_at k n j hlt) hml
        have Ho2 := hown.set j hlt2 (mkM (k + 4 * (j : Int)))
        rw [hs] at Ho2
        rw [hx] at Ho2 ⊢
        have Ho3 := Lib.hid Ho2
        have hx0 : 0 ≤ x := by omega
        have hx1 : x ≤ 10000000 := by omega
        clear hown hlt2 hy hs Ho2 hx hml
        go_wp2_with fail
        go_roundw
        case rel =>
          refine ⟨j + 1, by omega, by go_num, by have := HX.out; congr 1; omega, Ho3.out.1, grownTo_trans hg Ho3.out.2⟩
        case measure => simp [intOf]; omega
      · obtain rfl : j = n := by omega
        clear hown hx
        go_wp2
        go_ret
        refine ⟨rfl, ?_, hg⟩
        have h := Ho.out
        rwa [List.drop_of_length_le (by rw [HL.out]; omega), List.append_nil, List.take_of_length_le (by rw [marksM_length]; omega)] at h
theorem markC_own (q mw mr ms lm : Int) (B : Nat) (v : Value) (l : List MC) (k : Int) (hk0 : 0 ≤ k) (hk1 : k ≤ 2000000) (hn : l.length ≤ 2000000) (w : World) (hB : B ≤ w.heap.size) (hv : Own mcK 50 B v l w) :
    Calls Tryd.prog 20 #[.agg #[v, .int .i64 q, .int .i64 mw, .int .i64 mr, .int .i64 ms, .int .i64 lm], .int .i64 k] w fun e w' => e = .returned (.int .i64 (k + 4 * l.length)) ∧ Own mcK 50 B v (marksM k l.length) w' ∧ Below B w w' ∧ ∀ k, k < w.heap.size → v.ownBlock ≠ some k → w'.heap[k]? = w.heap[k]? := by
  have hb0 := (Below.refl w.heap.size w).alloc (Nat.le_refl _) (.cells #[v, .int .i64 q, .int .i64 mw, .int .i64 mr, .int .i64 ms, .int .i64 lm] 26)
  have hv1 := Lib.hid (hv.later hb0)
  have hb1 := Lib.hid ((Below.refl B w).alloc hB (.cells #[v, .int .i64 q, .int .i64 mw, .int .i64 mr, .int .i64 ms, .int .i64 lm] 26))
  have Hv := Lib.hid hv
  obtain ⟨ad, cap, rfl⟩ := hv.slice
  clear hv hb0
  go_enter Tryd.func20, Tryd.ntmps20
  go_wp2_with fail
  refine (markMC B _ l k hk0 hk1 hn _ hv1.out).mono ?_
  rintro e w2 ⟨rfl, ho2, hg2⟩
  have Hb2 := Lib.hid (hb1.out.grown hg2 (by simp; omega) (fun k hk => (World.ownsRow.lt hv1.out k hk).1))
  have Ho2 := Lib.hid ho2
  have Hs2 : Hid (∀ k, k < w.heap.size → (Value.slice ad l.length cap).ownBlock ≠ some k → w2.heap[k]? = w.heap[k]?) := Lib.hid (fun k hk hne => by
    rw [hg2.block k (by simp; omega) (fun e => hne e.symm)]
    exact Below.heap_alloc w _ k hk)
  clear ho2 hg2
  go_wp2
  go_ret
  exact ⟨rfl, Ho2.out, Hb2.out, Hs2.out⟩
theorem heldC_same (q mw mr ms lm : Int) (v : Value) (k : Int) (n : Nat) (hk0 : 0 ≤ k) (hk1 : k ≤ 2000000) (hn : n ≤ 2000000) (w : World) (hv : Rd mcK v (marksM k n) w) :
    Calls Tryd.prog 21 #[.agg #[v, .int .i64 q, .int .i64 mw, .int .i64 mr, .int .i64 ms, .int .i64 lm], .int .i64 k] w fun e w' => e = .returned (.int .i64 (k + 4 * n)) ∧ Below w.heap.size w w' := by
  have Hv := Lib.hid hv
  obtain ⟨ad, cap, rfl⟩ := hv.slice
  clear hv
  go_enter Tryd.func21, Tryd.ntmps21
  go_wp2_with fail
  refine (heldMC _ k n hk0 hk1 hn _ (by exact Hv.out.alloc _)).mono ?_
  rintro e w2 ⟨rfl, hb2⟩
  have Hb2 := Lib.hid hb2
  have hp : ¬ (k + 4 * (n : Int) < 0) := by omega
  clear hb2
  go_wp2
  go_ret
  exact ⟨rfl, below_alloc1 (Below.refl _ _) (Nat.le_refl _) Hb2.out⟩
end Go.Proofs.YtcggaihooepglaaDoor.Num
