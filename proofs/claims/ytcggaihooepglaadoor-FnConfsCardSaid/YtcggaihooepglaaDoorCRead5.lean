
/-
  Reading a configuration: the model's ReadConf.
-/
import Derived.Test.YtcggaihooepglaaDoorCRead4
namespace Go.Proofs.YtcggaihooepglaaDoor.Num
open Go.RowKit Rows3 Bytes Cut GR

theorem mx : (1048576 : Nat) ≤ maxLen := by unfold maxLen; omega
theorem nm_bd {s : ByteArray} {n : Int} (h : Nm s n) : -9223372036854775808 ≤ n ∧ n ≤ 9223372036854775807 := ⟨h.1, h.2.1⟩
theorem cutW_sz {c : UInt8} {s : ByteArray} (hs : s.size ≤ 1048576) (j : Nat) : ((cutWs c s).getD j ByteArray.empty).size ≤ 1048576 := Nat.le_trans (cutWs_size c s j) hs
theorem specConfText_is {v : Value} {l : List MC} {q mw mr ms lm : Int} {T : ByteArray} (h : txtC l q mw mr ms lm = T) (hl : l.length ≤ 2000000) (w : World) (hv : Rd mcK v l w) :
    Calls Tryd.prog 17 #[.agg #[v, .int .i64 q, .int .i64 mw, .int .i64 mr, .int .i64 ms, .int .i64 lm]] w fun e w' => e = .returned (.string T) ∧ Below w.heap.size w w' := by rw [← h]; exact specConfText v l q mw mr ms lm hl w hv
theorem toList_ne {s : ByteArray} (h : ¬ s = (⟨#[]⟩ : ByteArray)) : s.toList.isEmpty = false := by
  cases e : s.toList.isEmpty with
  | false => rfl
  | true =>
    have := List.isEmpty_iff.1 e
    rw [ByteArray.toList_eq] at this
    exact absurd (ByteArray.ext (Array.toList_eq_nil_iff.1 this)) h
theorem mc_one (m : MC) : ∀ u ∈ mcK.enc m, u.oneCell' = true := by
  intro u hu
  simp [mcK] at hu
  rcases hu with rfl | rfl | rfl | rfl <;> rfl
theorem grown_bx {T b : Nat} {cs : Array Value} {w w' : World} {r : Option Nat} (h : Bx T b cs w) (hg : w.grownBy w' r) (hne : r ≠ some b) : Bx T b cs w' := by
  unfold Bx at h ⊢; rw [hg.block b (Bx.lt h) (fun e => hne e.symm)]; exact h
set_option maxHeartbeats 8000000 in
set_option maxRecDepth 100000 in
theorem specRead (s : ByteArray) (hs : s.size ≤ 1048576) (w : World) : Calls Tryd.prog 11 #[.string s] w (ConfP s w) := by
  have R0 := Bx.new 26 #[.slice none 0 0, .int .i64 0, .int .i64 0, .int .i64 0, .int .i64 0, .int .i64 0] w
  go_enter Tryd.func11, Tryd.ntmps11
  go_wp2_with fail
  refine (specCut 32 32 rfl s hs _).mono ?_
  rintro e w1 ⟨v1, rfl, ho, hb⟩
  have R1 := Lib.hid (R0.later hb)
  have Hb := Lib.hid (below_alloc1 (Below.refl _ _) (Nat.le_refl _) hb)
  have hlen := cutWs_len 32 s
  obtain ⟨gw, cp, rfl, hgw, hcp, hcl⟩ := ownS_cells ho (by omega)
  have Hcl := Lib.hid (show ∀ j, j < (cutWs 32 s).length → w1.cell? ⟨gw, j, none⟩ = some (.string ((cutWs 32 s).getD j ByteArray.empty)) from fun j hj => by
    have h1 := hcl j _ (List.getElem?_eq_getElem hj)
    rw [Nat.zero_add] at h1
    rw [h1, List.getD_eq_getElem?_getD, List.getElem?_eq_getElem hj]; rfl)
  obtain ⟨n, hn⟩ : ∃ n, (cutWs 32 s).length = n := ⟨_, rfl⟩
  have Hn := Lib.hid hn
  rw [hn] at hlen hcp ⊢
  have hw1 : Hid (w.heap.size < w1.heap.size) := Lib.hid R1.out.lt
  have hwsz := hw1.out
  by_cases hbad : n < 6
  · have Hq := Lib.hid (rc_len (s := s) (by rw [hn]; omega))
    obtain ⟨r0, r1, r2, r3, r4, r5⟩ := R1.out.cells6
    have y0 := R1.out.warm 0
    have y1 := R1.out.warm 1
    have y2 := R1.out.warm 2
    have y3 := R1.out.warm 3
    have y4 := R1.out.warm 4
    have y5 := R1.out.warm 5
    clear hcl hn ho hb R0
    go_wp2_with fail
    refine bodyPost_ret (v := .tuple #[.agg #[.slice none 0 0, .int .i64 0, .int .i64 0, .int .i64 0, .int .i64 0, .int .i64 0], .bool false]) (by simp [results, Tryd.results11, go_sem, r0, r1, r2, r3, r4, r5]) rfl (ConfP.mk rfl (Own.nil _ _ _ _) ?_ Hq.out)
    iterate 6 refine Below.setCell ?_ (by exact Nat.le_refl _) _
    exact Hb.out
  · have hn6 : 6 ≤ n := by omega
    obtain ⟨W0, hW0⟩ : ∃ W, (cutWs 32 s).getD 0 ByteArray.empty = W := ⟨_, rfl⟩
    have HW0 := Lib.hid hW0
    have HS0 : Hid (W0.size ≤ maxLen) := Lib.hid (by rw [← hW0]; exact Nat.le_trans (cutW_sz hs 0) mx)
    have C0 := Lib.hid (show w1.cell? ⟨gw, 0, none⟩ = some (.string W0) by rw [← hW0]; exact Hcl.out 0 (by rw [Hn.out]; omega))
    obtain ⟨W1, hW1⟩ : ∃ W, (cutWs 32 s).getD 1 ByteArray.empty = W := ⟨_, rfl⟩
    have HW1 := Lib.hid hW1
    have HS1 : Hid (W1.size ≤ maxLen) := Lib.hid (by rw [← hW1]; exact Nat.le_trans (cutW_sz hs 1) mx)
    have C1 := Lib.hid (show w1.cell? ⟨gw, 1, none⟩ = some (.string W1) by rw [← hW1]; exact Hcl.out 1 (by rw [Hn.out]; omega))
    obtain ⟨W2, hW2⟩ : ∃ W, (cutWs 32 s).getD 2 ByteArray.empty = W := ⟨_, rfl⟩
    have HW2 := Lib.hid hW2
    have HS2 : Hid (W2.size ≤ maxLen) := Lib.hid (by rw [← hW2]; exact Nat.le_trans (cutW_sz hs 2) mx)
    have C2 := Lib.hid (show w1.cell? ⟨gw, 2, none⟩ = some (.string W2) by rw [← hW2]; exact Hcl.out 2 (by rw [Hn.out]; omega))
    obtain ⟨W3, hW3⟩ : ∃ W, (cutWs 32 s).getD 3 ByteArray.empty = W := ⟨_, rfl⟩
    have HW3 := Lib.hid hW3
    have HS3 : Hid (W3.size ≤ maxLen) := Lib.hid (by rw [← hW3]; exact Nat.le_trans (cutW_sz hs 3) mx)
    have C3 := Lib.hid (show w1.cell? ⟨gw, 3, none⟩ = some (.string W3) by rw [← hW3]; exact Hcl.out 3 (by rw [Hn.out]; omega))
    obtain ⟨W4, hW4⟩ : ∃ W, (cutWs 32 s).getD 4 ByteArray.empty = W := ⟨_, rfl⟩
    have HW4 := Lib.hid hW4
    have HS4 : Hid (W4.size ≤ maxLen) := Lib.hid (by rw [← hW4]; exact Nat.le_trans (cutW_sz hs 4) mx)
    have C4 := Lib.hid (show w1.cell? ⟨gw, 4, none⟩ = some (.string W4) by rw [← hW4]; exact Hcl.out 4 (by rw [Hn.out]; omega))
    have hb1 : w1.heap.size = w1.heap.size := rfl
    have X0 := Bx.new 26 #[.slice none 0 0, .int .i64 0, .int .i64 0, .int .i64 0, .int .i64 0, .int .i64 0] w1
    have Hz := Lib.hid ((Below.refl w1.heap.size w1).alloc (Nat.le_refl _) (Obj.cells #[.slice none 0 0, .int .i64 0, .int .i64 0, .int .i64 0, .int .i64 0, .int .i64 0] 26))
    have c0 := C0.out
    clear hcl hn ho hb R0 hbad hb1 hW0 hW1 hW2 hW3 hW4
    go_wp2_with fail
    clear c0
    refine (specRD W0 HS0.out _).mono ?_
    rintro e v0 ⟨n0, b0, rfl, hn0, hv0⟩
    have N0 := Lib.hid hn0
    have Y0 := X0.later hv0
    have Hv0 := Lib.hid (Hz.out.trans (hv0.mono Hz.out.size))
    have xc := Y0.cell 1 _ rfl
    have xw := Y0.warm 1
    have X1 := Lib.hid (show Bx 26 w1.heap.size #[.slice none 0 0, .int .i64 n0, .int .i64 0, .int .i64 0, .int .i64 0, .int .i64 0] (v0.setCell ⟨w1.heap.size, 1, none⟩ (.int .i64 n0)) from Y0.set 1 (.int .i64 n0))
    have Hz1 := Lib.hid (show Below w1.heap.size w1 (v0.setCell ⟨w1.heap.size, 1, none⟩ (.int .i64 n0)) from Hv0.out.setCell (by exact Nat.le_refl _) _)
    have c1 : (v0.setCell ⟨w1.heap.size, 1, none⟩ (.int .i64 n0)).cell? ⟨gw, 1, none⟩ = some (.string W1) := (below_cells Hz1.out hgw 1).trans C1.out
    clear hn0 hv0 Y0
    go_wp2_with fail
    generalize v0.setCell ⟨w1.heap.size, 1, none⟩ (.int .i64 n0) = z1 at X1 Hz1 c1 ⊢
    clear xc xw c1
    refine (specRD W1 HS1.out _).mono ?_
    rintro e v1 ⟨n1, b1, rfl, hn1, hv1⟩
    have N1 := Lib.hid hn1
    have Y1 := X1.out.later hv1
    have Hv1 := Lib.hid (Hz1.out.trans (hv1.mono Hz1.out.size))
    have xc := Y1.cell 2 _ rfl
    have xw := Y1.warm 2
    have X2 := Lib.hid (show Bx 26 w1.heap.size #[.slice none 0 0, .int .i64 n0, .int .i64 n1, .int .i64 0, .int .i64 0, .int .i64 0] (v1.setCell ⟨w1.heap.size, 2, none⟩ (.int .i64 n1)) from Y1.set 2 (.int .i64 n1))
    have Hz2 := Lib.hid (show Below w1.heap.size w1 (v1.setCell ⟨w1.heap.size, 2, none⟩ (.int .i64 n1)) from Hv1.out.setCell (by exact Nat.le_refl _) _)
    have c2 : (v1.setCell ⟨w1.heap.size, 2, none⟩ (.int .i64 n1)).cell? ⟨gw, 2, none⟩ = some (.string W2) := (below_cells Hz2.out hgw 2).trans C2.out
    clear hn1 hv1 Y1
    go_wp2_with fail
    generalize v1.setCell ⟨w1.heap.size, 2, none⟩ (.int .i64 n1) = z2 at X2 Hz2 c2 ⊢
    clear xc xw c2
    refine (specRD W2 HS2.out _).mono ?_
    rintro e v2 ⟨n2, b2, rfl, hn2, hv2⟩
    have N2 := Lib.hid hn2
    have Y2 := X2.out.later hv2
    have Hv2 := Lib.hid (Hz2.out.trans (hv2.mono Hz2.out.size))
    have xc := Y2.cell 3 _ rfl
    have xw := Y2.warm 3
    have X3 := Lib.hid (show Bx 26 w1.heap.size #[.slice none 0 0, .int .i64 n0, .int .i64 n1, .int .i64 n2, .int .i64 0, .int .i64 0] (v2.setCell ⟨w1.heap.size, 3, none⟩ (.int .i64 n2)) from Y2.set 3 (.int .i64 n2))
    have Hz3 := Lib.hid (show Below w1.heap.size w1 (v2.setCell ⟨w1.heap.size, 3, none⟩ (.int .i64 n2)) from Hv2.out.setCell (by exact Nat.le_refl _) _)
    have c3 : (v2.setCell ⟨w1.heap.size, 3, none⟩ (.int .i64 n2)).cell? ⟨gw, 3, none⟩ = some (.string W3) := (below_cells Hz3.out hgw 3).trans C3.out
    clear hn2 hv2 Y2
    go_wp2_with fail
    generalize v2.setCell ⟨w1.heap.size, 3, none⟩ (.int .i64 n2) = z3 at X3 Hz3 c3 ⊢
    clear xc xw c3
    refine (specRD W3 HS3.out _).mono ?_
    rintro e v3 ⟨n3, b3, rfl, hn3, hv3⟩
    have N3 := Lib.hid hn3
    have Y3 := X3.out.later hv3
    have Hv3 := Lib.hid (Hz3.out.trans (hv3.mono Hz3.out.size))
    have xc := Y3.cell 4 _ rfl
    have xw := Y3.warm 4
    have X4 := Lib.hid (show Bx 26 w1.heap.size #[.slice none 0 0, .int .i64 n0, .int .i64 n1, .int .i64 n2, .int .i64 n3, .int .i64 0] (v3.setCell ⟨w1.heap.size, 4, none⟩ (.int .i64 n3)) from Y3.set 4 (.int .i64 n3))
    have Hz4 := Lib.hid (show Below w1.heap.size w1 (v3.setCell ⟨w1.heap.size, 4, none⟩ (.int .i64 n3)) from Hv3.out.setCell (by exact Nat.le_refl _) _)
    have c4 : (v3.setCell ⟨w1.heap.size, 4, none⟩ (.int .i64 n3)).cell? ⟨gw, 4, none⟩ = some (.string W4) := (below_cells Hz4.out hgw 4).trans C4.out
    clear hn3 hv3 Y3
    go_wp2_with fail
    generalize v3.setCell ⟨w1.heap.size, 4, none⟩ (.int .i64 n3) = z4 at X4 Hz4 c4 ⊢
    clear xc xw c4
    refine (specRD W4 HS4.out _).mono ?_
    rintro e v4 ⟨n4, b4, rfl, hn4, hv4⟩
    have N4 := Lib.hid hn4
    have Y4 := X4.out.later hv4
    have Hv4 := Lib.hid (Hz4.out.trans (hv4.mono Hz4.out.size))
    have xc := Y4.cell 5 _ rfl
    have xw := Y4.warm 5
    have X5 := Lib.hid (show Bx 26 w1.heap.size #[.slice none 0 0, .int .i64 n0, .int .i64 n1, .int .i64 n2, .int .i64 n3, .int .i64 n4] (v4.setCell ⟨w1.heap.size, 5, none⟩ (.int .i64 n4)) from Y4.set 5 (.int .i64 n4))
    have Hz5 := Lib.hid (show Below w1.heap.size w1 (v4.setCell ⟨w1.heap.size, 5, none⟩ (.int .i64 n4)) from Hv4.out.setCell (by exact Nat.le_refl _) _)
    clear hn4 hv4 Y4
    go_wp2_with fail
    generalize v4.setCell ⟨w1.heap.size, 5, none⟩ (.int .i64 n4) = z5 at X5 Hz5 ⊢
    clear xc xw
    have Hld := Lib.hid (show LoopC (cutWs 32 s) w1 w1.heap.size n0 n1 n2 n3 n4 0 z5 from ⟨.slice none 0 0, [], rfl, fun i x h => by simp at h, X5.out, Own.nil _ _ _ _, Hz5.out⟩)
    go_loopw [6] (fun i wr => ∃ j : Nat, 5 ≤ j ∧ j ≤ n ∧ i = .int .i64 j ∧ LoopC (cutWs 32 s) w1 w1.heap.size n0 n1 n2 n3 n4 (j - 5) wr) (fun i _ => n - (intOf i).toNat)
    case atStart => exact ⟨5, by omega, by omega, rfl, Hld.out⟩
    case round =>
      obtain ⟨j, hj5, hjn, rfl, u, l, hlk, hml, hbx, how, hbr⟩ := hrel
      have Hlk := Lib.hid hlk
      have Hml := Lib.hid hml
      have Hbx := Lib.hid hbx
      have How := Lib.hid how
      have Hbr := Lib.hid hbr
      have hlq : l.length ≤ 1048576 := by
        have h1 := cutWs_len 32 s
        have := Hn.out
        omega
      have Hlq := Lib.hid hlq
      obtain ⟨ad, cp', hu⟩ := how.slice
      by_cases hlt : j < n
      · obtain ⟨W, hW⟩ : ∃ W, (cutWs 32 s).getD j ByteArray.empty = W := ⟨_, rfl⟩
        have hcw := (below_cells hbr hgw j).trans (Hcl.out j (by rw [Hn.out]; exact hlt))
        rw [hW] at hcw
        have HW := Lib.hid hW
        have HS : Hid (W.size ≤ 1048576) := Lib.hid (by rw [← hW]; exact cutW_sz hs j)
        have hwrl : w1.heap.size < wr.heap.size := hbx.lt
        rw [hlk] at hu
        subst hu
        clear hW hlk hml hbx how hlq
        go_wp2_with fail
        refine (specCut 58 58 rfl W HS.out _).mono ?_
        rintro e w4 ⟨v7, rfl, hop, hb4⟩
        have hpl := cutWs_len 58 W
        obtain ⟨gp, cq, rfl, hgp, hcq, hpc⟩ := ownS_cells hop (by omega)
        have Hpc := Lib.hid (show ∀ i, i < (cutWs 58 W).length → w4.cell? ⟨gp, i, none⟩ = some (.string ((cutWs 58 W).getD i ByteArray.empty)) from fun i hi => by
          have h1 := hpc i _ (List.getElem?_eq_getElem hi)
          rw [Nat.zero_add] at h1
          rw [h1, List.getD_eq_getElem?_getD, List.getElem?_eq_getElem hi]; rfl)
        obtain ⟨P0, hP0⟩ : ∃ P, (cutWs 58 W).getD 0 ByteArray.empty = P := ⟨_, rfl⟩
        have HP0 := Lib.hid hP0
        have SP0 : Hid (P0.size ≤ maxLen) := Lib.hid (by rw [← hP0]; exact Nat.le_trans (cutW_sz HS.out 0) mx)
        have hq0 : w4.cell? ⟨gp, 0, none⟩ = some (.string P0) := by rw [← hP0]; exact Hpc.out 0 (by omega)
        have Hb4 := Lib.hid hb4
        have Xm := Bx.new 50 #[.int .i64 0, .bool false, .int .i64 0, .int .i64 0] w4
        obtain ⟨np, hnp⟩ : ∃ np, (cutWs 58 W).length = np := ⟨_, rfl⟩
        have Hnp := Lib.hid hnp
        rw [hnp] at hpl hcq ⊢
        have Hw4 := Lib.hid (hbr.trans (hb4.mono hbr.size))
        clear hop hpc hP0 hb4 hnp hcw hbr
        go_wp2_with fail
        refine (specRD P0 SP0.out _).mono ?_
        rintro e w5 ⟨a, ba, rfl, hna, hv5⟩
        have NA := Lib.hid hna
        have Ym := Xm.later hv5
        have xw := Ym.warm 0
        have xc := Ym.cell 0 _ rfl
        have Hs5 := Lib.hid (show Below w4.heap.size w4 (w5.setCell ⟨w4.heap.size, 0, none⟩ (.int .i64 a)) from (((Below.refl _ _).alloc (Nat.le_refl _) _).trans (hv5.mono (by simp))).setCell (by exact Nat.le_refl _) _)
        have Xs5 := Lib.hid (show Bx 50 w4.heap.size #[.int .i64 a, .bool false, .int .i64 0, .int .i64 0] (w5.setCell ⟨w4.heap.size, 0, none⟩ (.int .i64 a)) from Ym.set 0 (.int .i64 a))
        by_cases hp3 : np = 3
        · have hp3' : ((np : Int) == 3) = true := by rw [beq_iff_eq]; omega
          have Hs6 := Lib.hid (show Below w4.heap.size w4 ((w5.setCell ⟨w4.heap.size, 0, none⟩ (.int .i64 a)).setCell ⟨w4.heap.size, 1, none⟩ (.bool true)) from Hs5.out.setCell (by exact Nat.le_refl _) _)
          have Xs6 := Lib.hid (show Bx 50 w4.heap.size #[.int .i64 a, .bool true, .int .i64 0, .int .i64 0] ((w5.setCell ⟨w4.heap.size, 0, none⟩ (.int .i64 a)).setCell ⟨w4.heap.size, 1, none⟩ (.bool true)) from Xs5.out.set 1 (.bool true))
          have xc1 := Xs5.out.cell 1 _ rfl
          have xw1 := Xs5.out.warm 1
          obtain ⟨P1, hP1⟩ : ∃ P, (cutWs 58 W).getD 1 ByteArray.empty = P := ⟨_, rfl⟩
          have HP1 := Lib.hid hP1
          have SP1 : Hid (P1.size ≤ maxLen) := Lib.hid (by rw [← hP1]; exact Nat.le_trans (cutW_sz HS.out 1) mx)
          obtain ⟨P2, hP2⟩ : ∃ P, (cutWs 58 W).getD 2 ByteArray.empty = P := ⟨_, rfl⟩
          have HP2 := Lib.hid hP2
          have SP2 : Hid (P2.size ≤ maxLen) := Lib.hid (by rw [← hP2]; exact Nat.le_trans (cutW_sz HS.out 2) mx)
          have Q2 := Lib.hid (show w4.cell? ⟨gp, 2, none⟩ = some (.string P2) by rw [← hP2]; exact Hpc.out 2 (by rw [Hnp.out]; omega))
          have q1 : ((w5.setCell ⟨w4.heap.size, 0, none⟩ (.int .i64 a)).setCell ⟨w4.heap.size, 1, none⟩ (.bool true)).cell? ⟨gp, 1, none⟩ = some (.string P1) := (below_cells Hs6.out hgp 1).trans (by rw [← hP1]; exact Hpc.out 1 (by rw [Hnp.out]; omega))
          clear hP1 hP2 hna hv5 Ym hq0 Xm
          go_wp2_with fail
          generalize (w5.setCell ⟨w4.heap.size, 0, none⟩ (.int .i64 a)).setCell ⟨w4.heap.size, 1, none⟩ (.bool true) = z6 at Hs6 Xs6 q1 ⊢
          clear xc xw xc1 xw1 q1 Xs5 Hs5
          refine (specRD P1 SP1.out _).mono ?_
          rintro e w6 ⟨b, bb, rfl, hnb, hv6⟩
          have NB := Lib.hid hnb
          have Y6 := Xs6.out.later hv6
          have x2c := Y6.cell 2 _ rfl
          have x2w := Y6.warm 2
          have Hs7 := Lib.hid (show Below w4.heap.size w4 (w6.setCell ⟨w4.heap.size, 2, none⟩ (.int .i64 b)) from (Hs6.out.trans (hv6.mono Hs6.out.size)).setCell (by exact Nat.le_refl _) _)
          have Xs7 := Lib.hid (show Bx 50 w4.heap.size #[.int .i64 a, .bool true, .int .i64 b, .int .i64 0] (w6.setCell ⟨w4.heap.size, 2, none⟩ (.int .i64 b)) from Y6.set 2 (.int .i64 b))
          have q2 : (w6.setCell ⟨w4.heap.size, 2, none⟩ (.int .i64 b)).cell? ⟨gp, 2, none⟩ = some (.string P2) := (below_cells Hs7.out hgp 2).trans Q2.out
          clear hnb hv6 Y6 Xs6 Hs6
          go_wp2_with fail
          generalize w6.setCell ⟨w4.heap.size, 2, none⟩ (.int .i64 b) = z7 at Hs7 Xs7 q2 ⊢
          clear x2c x2w q2
          refine (specRD P2 SP2.out _).mono ?_
          rintro e w7 ⟨c, bc, rfl, hnc, hv7⟩
          have NC := Lib.hid hnc
          have Y7 := Xs7.out.later hv7
          have x3c := Y7.cell 3 _ rfl
          have x3w := Y7.warm 3
          have Hs8 := Lib.hid (show Below w4.heap.size w4 (w7.setCell ⟨w4.heap.size, 3, none⟩ (.int .i64 c)) from (Hs7.out.trans (hv7.mono Hs7.out.size)).setCell (by exact Nat.le_refl _) _)
          have Xs8 := Lib.hid (show Bx 50 w4.heap.size #[.int .i64 a, .bool true, .int .i64 b, .int .i64 c] (w7.setCell ⟨w4.heap.size, 3, none⟩ (.int .i64 c)) from Y7.set 3 (.int .i64 c))
          have Hm := Lib.hid (mof_three (s := W) (ws := cutWs 58 W) (fun _ => rfl) (by rw [Hnp.out]; exact hp3) (by rw [HP0.out]; exact NA.out) (by rw [HP1.out]; exact NB.out) (by rw [HP2.out]; exact NC.out) : MOf W ⟨a, true, b, c⟩)
          clear hnc hv7 Y7 Xs7 Hs7 hp3 hp3'
          have Hr5 := Lib.hid (Hb4.out.trans (Hs8.out.mono Hb4.out.size))
          have Xc := Lib.hid (Hbx.out.later Hr5.out)
          have Oc := Lib.hid (How.out.later Hr5.out)
          have Hw5 := Lib.hid (Hw4.out.trans (Hs8.out.mono Hw4.out.size))
          obtain ⟨g0, g1, g2, g3, g4, g5⟩ := Xc.out.cells6
          obtain ⟨m0, m1, m2, m3⟩ := Xs8.out.cells4
          have hne := own_ne_bx Oc.out Xc.out (by decide)
          have Hne := Lib.hid hne
          have Hlb := Lib.hid (show l.length + 1 ≤ 100000000 by have := Hlq.out; omega)
          obtain ⟨i0, hi0, hz0, hz1, hz2⟩ := info_parts info_mc
          have Hz2 := Lib.hid (show i0.bytes ≤ 1000 by rw [hz2]; omega)
          have Hi0 := Lib.hid hi0
          have Hz0 := Lib.hid hz0
          have Hz1 := Lib.hid hz1
          clear hne hi0 hz0 hz1 hz2
          go_wp2_with (at_builtin; refine app1g mcK (by decide) 24 50 i0 _ rfl (.tmp 97) (.tmp 99) rfl Tryd.underlying24 Hi0.out Hz0.out Hz1.out rfl Hz2.out w1.heap.size (.slice ad (j - 5) cp') l (w7.setCell ⟨w4.heap.size, 3, none⟩ (.int .i64 c)) ⟨a, true, b, c⟩ #[.int .i64 a, .bool true, .int .i64 b, .int .i64 c] rfl (mc_one _) rfl (by show Value.slice (some (⟨w7.heap.size, 0, none⟩ : Addr)) 1 1 = _; simp [World.setCell]) Oc.out Hw5.out.size Hlb.out ?_; intro v' w8 hown8 hg8; obtain ⟨ad', cq', rfl⟩ := hown8.slice; have O8 := Lib.hid hown8; have X8 := Lib.hid (grown_bx Xc.out hg8 Hne.out); have G8 := Lib.hid hg8; have x80 := X8.out.cell 0 _ rfl; have x8w := X8.out.warm 0; clear hown8 hg8 g0 g1 g2 g3 g4 g5 m0 m1 m2 m3)
          go_roundw
          case rel =>
            have O9 := O8.out
            rw [show (l ++ [(⟨a, true, b, c⟩ : MC)]).length = l.length + 1 by simp] at O9
            have Hos9 : Own mcK 50 w1.heap.size (.slice ad' (l.length + 1) cq') (l ++ [⟨a, true, b, c⟩]) (w8.setCell ⟨w1.heap.size, 0, none⟩ (.slice ad' (l.length + 1) cq')) := ownsRow_setCell_other O9 (own_ne_bx O9 X8.out (by decide)) _
            refine ⟨j + 1, by omega, by omega, by go_num, .slice ad' (l.length + 1) cq', l ++ [⟨a, true, b, c⟩], by simp [Hlk.out]; omega, fun i x hx => ?_, X8.out.set 0 _, Hos9, ?_⟩
            · rcases Nat.lt_or_ge i l.length with hi | hi
              · rw [List.getElem?_append_left hi] at hx; exact Hml.out i x hx
              · rw [List.getElem?_append_right hi] at hx
                have hi0 : i = l.length := by
                  have := (List.getElem?_eq_some_iff.1 hx).1
                  simp at this; omega
                subst hi0
                rw [Nat.sub_self] at hx
                obtain rfl : (⟨a, true, b, c⟩ : MC) = x := by simpa using hx
                rw [Hlk.out, show 5 + (j - 5) = j by omega, HW.out]; exact Hm.out
            · exact (Hw5.out.grown G8.out Hw5.out.size (fun k hk => (World.ownsRow.lt Oc.out k hk).1)).setCell (by exact Nat.le_refl _) _
          case measure => simp [intOf]; omega
        · have hp3' : ((np : Int) == 3) = false := by rw [beq_eq_false_iff_ne]; omega
          have Hm := Lib.hid (mof_one (s := W) (ws := cutWs 58 W) (fun _ => rfl) (by rw [Hnp.out]; exact hp3) (by rw [HP0.out]; exact NA.out) : MOf W ⟨a, false, 0, 0⟩)
          clear hna hv5 Ym hp3 hq0 Xm
          have Hr5 := Lib.hid (Hb4.out.trans (Hs5.out.mono Hb4.out.size))
          have Xc := Lib.hid (Hbx.out.later Hr5.out)
          have Oc := Lib.hid (How.out.later Hr5.out)
          have Hw5 := Lib.hid (Hw4.out.trans (Hs5.out.mono Hw4.out.size))
          obtain ⟨g0, g1, g2, g3, g4, g5⟩ := Xc.out.cells6
          obtain ⟨m0, m1, m2, m3⟩ := Xs5.out.cells4
          have hne := own_ne_bx Oc.out Xc.out (by decide)
          have Hne := Lib.hid hne
          have Hlb := Lib.hid (show l.length + 1 ≤ 100000000 by have := Hlq.out; omega)
          obtain ⟨i0, hi0, hz0, hz1, hz2⟩ := info_parts info_mc
          have Hz2 := Lib.hid (show i0.bytes ≤ 1000 by rw [hz2]; omega)
          have Hi0 := Lib.hid hi0
          have Hz0 := Lib.hid hz0
          have Hz1 := Lib.hid hz1
          clear hne hi0 hz0 hz1 hz2
          go_wp2_with (at_builtin; refine app1g mcK (by decide) 24 50 i0 _ rfl (.tmp 97) (.tmp 99) rfl Tryd.underlying24 Hi0.out Hz0.out Hz1.out rfl Hz2.out w1.heap.size (.slice ad (j - 5) cp') l (w5.setCell ⟨w4.heap.size, 0, none⟩ (.int .i64 a)) ⟨a, false, 0, 0⟩ #[.int .i64 a, .bool false, .int .i64 0, .int .i64 0] rfl (mc_one _) rfl (by show Value.slice (some (⟨w5.heap.size, 0, none⟩ : Addr)) 1 1 = _; simp [World.setCell]) Oc.out Hw5.out.size Hlb.out ?_; intro v' w8 hown8 hg8; obtain ⟨ad', cq', rfl⟩ := hown8.slice; have O8 := Lib.hid hown8; have X8 := Lib.hid (grown_bx Xc.out hg8 Hne.out); have G8 := Lib.hid hg8; have x80 := X8.out.cell 0 _ rfl; have x8w := X8.out.warm 0; clear hown8 hg8 g0 g1 g2 g3 g4 g5 m0 m1 m2 m3)
          go_roundw
          case rel =>
            have O9 := O8.out
            rw [show (l ++ [(⟨a, false, 0, 0⟩ : MC)]).length = l.length + 1 by simp] at O9
            have Hos9 : Own mcK 50 w1.heap.size (.slice ad' (l.length + 1) cq') (l ++ [⟨a, false, 0, 0⟩]) (w8.setCell ⟨w1.heap.size, 0, none⟩ (.slice ad' (l.length + 1) cq')) := ownsRow_setCell_other O9 (own_ne_bx O9 X8.out (by decide)) _
            refine ⟨j + 1, by omega, by omega, by go_num, .slice ad' (l.length + 1) cq', l ++ [⟨a, false, 0, 0⟩], by simp [Hlk.out]; omega, fun i x hx => ?_, X8.out.set 0 _, Hos9, ?_⟩
            · rcases Nat.lt_or_ge i l.length with hi | hi
              · rw [List.getElem?_append_left hi] at hx; exact Hml.out i x hx
              · rw [List.getElem?_append_right hi] at hx
                have hi0 : i = l.length := by
                  have := (List.getElem?_eq_some_iff.1 hx).1
                  simp at this; omega
                subst hi0
                rw [Nat.sub_self] at hx
                obtain rfl : (⟨a, false, 0, 0⟩ : MC) = x := by simpa using hx
                rw [Hlk.out, show 5 + (j - 5) = j by omega, HW.out]; exact Hm.out
            · exact (Hw5.out.grown G8.out Hw5.out.size (fun k hk => (World.ownsRow.lt Oc.out k hk).1)).setCell (by exact Nat.le_refl _) _
          case measure => simp [intOf]; omega
      · have hje : j = n := by omega
        have hbs := Lib.hid (show ¬ s = (⟨#[]⟩ : ByteArray) from fun e => by
          have h1 := cutWs_len 32 s
          have h2 := Hn.out
          rw [e] at h1 h2
          have h3 : (⟨#[]⟩ : ByteArray).size = 0 := rfl
          omega)
        have hPC : PC (cutWs 32 s) l n0 n1 n2 n3 n4 := ⟨by rw [HW0.out]; exact N0.out, by rw [HW1.out]; exact N1.out, by rw [HW2.out]; exact N2.out, by rw [HW3.out]; exact N3.out, by rw [HW4.out]; exact N4.out, by rw [Hn.out]; omega, hml⟩
        have HP := Lib.hid hPC
        have hl2 : Hid (l.length ≤ 2000000) := Lib.hid (by have := Hlq.out; omega)
        obtain ⟨g0, g1, g2, g3, g4, g5⟩ := Hbx.out.cells6
        obtain ⟨T, hT⟩ : ∃ T, txtC l n0 n1 n2 n3 n4 = T := ⟨_, rfl⟩
        have HT := Lib.hid hT
        subst hu
        clear hT hPC hlk hml hbx how hbr hlq hje
        go_wp2_with fail
        refine (specConfText_is HT.out hl2.out _ How.out.rd).mono ?_
        rintro e w5 ⟨rfl, hb5⟩
        have X5 := Lib.hid (Hbx.out.later hb5)
        have R5 := Lib.hid ((R1.out.below Hbr.out hw1.out).later hb5)
        have O5 := Lib.hid (How.out.later hb5)
        have Hb5 := Lib.hid ((Hb.out.trans (Hbr.out.mono Hb.out.size)).trans (hb5.mono (Nat.le_trans Hb.out.size Hbr.out.size)))
        clear hb5 g0 g1 g2 g3 g4 g5
        obtain ⟨x0, x1, x2, x3, x4, x5⟩ := X5.out.cells6
        obtain ⟨r0, r1, r2, r3, r4, r5⟩ := R5.out.cells6
        have y0 := R5.out.warm 0
        have y1 := R5.out.warm 1
        have y2 := R5.out.warm 2
        have y3 := R5.out.warm 3
        have y4 := R5.out.warm 4
        have y5 := R5.out.warm 5
        have hse := toList_ne hbs.out
        by_cases hTs : T = s
        · have hq3 := ba_eq_list hTs
          have hq2 : (T.toList != s.toList) = false := by rw [bne, hq3]; rfl
          have Hq : Hid (RC s l n0 n1 n2 n3 n4 true) := Lib.hid (.inl ⟨rfl, by
            have h1 := HT.out.trans hTs
            unfold txtC at h1
            split at h1
            · assumption
            · exact absurd h1.symm hbs.out, HT.out.trans hTs⟩)
          clear hTs
          go_wp2_with fail
          refine bodyPost_ret (v := .tuple #[.agg #[.slice ad l.length cp', .int .i64 n0, .int .i64 n1, .int .i64 n2, .int .i64 n3, .int .i64 n4], .bool true]) (by simp [results, Tryd.results11, go_sem, r0, r1, r2, r3, r4, r5]) rfl (ConfP.mk rfl ?_ ?_ Hq.out)
          · refine Own.mono (B := w1.heap.size) ?_ (Nat.le_of_lt hw1.out)
            iterate 6 refine Own.setBelow ?_ (by exact hw1.out) _
            exact O5.out
          · iterate 6 refine Below.setCell ?_ (by exact Nat.le_refl _) _
            exact Hb5.out
        · have hq3 := ba_ne_list hTs
          have hq2 : (T.toList != s.toList) = true := by rw [bne, hq3]; rfl
          have Hq := Lib.hid (rc_parsed (s := s) HP.out (fun h => hTs (HT.out.symm.trans h.2)))
          clear hTs
          go_wp2_with fail
          refine bodyPost_ret (v := .tuple #[.agg #[.slice none 0 0, .int .i64 0, .int .i64 0, .int .i64 0, .int .i64 0, .int .i64 0], .bool false]) (by simp [results, Tryd.results11, go_sem, r0, r1, r2, r3, r4, r5]) rfl (ConfP.mk rfl (Own.nil _ _ _ _) ?_ Hq.out)
          iterate 6 refine Below.setCell ?_ (by exact Nat.le_refl _) _
          exact Hb5.out
end Go.Proofs.YtcggaihooepglaaDoor.Num
