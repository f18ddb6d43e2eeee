
/-
  The text of a script, as the model makes it (ScriptText).
-/
import Derived.Test.YtfpnflhkfpolcaaGreatDoorSW1
import Derived.Test.YtfpnflhkfpolcaaGreatDoorText
import Derived.Lib.QuietBelow
import Derived.Deep.QuietTactic
import Derived.Deep.Cut
namespace Go.Proofs.YtfpnflhkfpolcaaGreatDoor.Num
open Go.RowKit Rows3 GR KD

theorem toList_neB {s : ByteArray} (h : ¬ s = (⟨#[]⟩ : ByteArray)) : s.toList.isEmpty = false := by
  rw [ByteArray.toList_eq]
  cases hc : s.data.toList with
  | nil => exact absurd (ba_inj (by rw [hc])) h
  | cons x r => rfl
theorem rB_size {r : RqX} (h : rOk r) : (rB r).size ≤ 240 ∧ rB r ≠ ⟨#[]⟩ := by
  have h' := h
  unfold rOk at h'
  obtain ⟨-, -, hx, hx2, hl, hd⟩ := okR_facts h'
  have h1 := wrW_size r.1
  have h2 := szWd_size r.2.2.1
  have h3 := buWd_size r.2.2.2.1
  have h4 := itB_size r.2.1 (by omega) (by omega)
  have h5 := tailB_size r.2.2.2.2.2 hl hd r.2.2.2.2.2.length
  rw [List.take_length] at h5
  have e1 : (⟨#[32]⟩ : ByteArray).size = 1 := rfl
  have h6 : (if r.2.2.2.2.1 = true then (⟨#[32, 108, 111, 99, 107]⟩ : ByteArray) else ⟨#[]⟩).size ≤ 5 := by cases r.2.2.2.2.1 <;> decide
  refine ⟨?_, fun e => ?_⟩
  · unfold rB txtB
    rw [if_pos h']
    unfold headB
    simp only [ByteArray.size_append]
    omega
  · have hs : (rB r).size = 0 := by rw [e]; rfl
    unfold rB txtB at hs
    rw [if_pos h'] at hs
    unfold headB at hs
    simp only [ByteArray.size_append] at hs
    omega
theorem BA_size (l : List UInt8) : (BA l).size = l.length := by show l.toArray.size = _; rw [List.size_toArray]
theorem pL_len {p : PoX} (h : pOk p) : (pL p).length ≤ 290 := by
  have h1 := itoa_len19 h.1
  have h2 := itoa_len19 h.2.1
  have h3 : (rT p.2.2).length ≤ 240 := by
    have := (rB_size h.2.2).1
    have e : (rT p.2.2).length = (rB p.2.2).size := by unfold rT; simp
    omega
  unfold pL postL
  simp
  omega
theorem lnL_len {nm : List UInt8} (hn : nm.length ≤ 5) {l : List Int} (h : ∀ n ∈ l, In18 n) : ((lnL nm l).flatMap (· ++ [10])).length ≤ 20 * l.length + 6 := by
  have := nT_len h
  unfold lnL
  split
  · simp
  · simp; omega
theorem posts_len : ∀ {l : List PoX}, (∀ p ∈ l, pOk p) → ((l.map pL).flatMap (· ++ [10])).length ≤ 300 * l.length
  | [], _ => by simp
  | p :: l, h => by
    have h1 := pL_len (h p (by simp))
    have h2 := posts_len (l := l) (fun q hq => h q (by simp [hq]))
    rw [List.map_cons, List.flatMap_cons, List.length_append, List.length_append, List.length_cons]
    simp only [List.length_cons, List.length_nil]
    omega
theorem sT_len {x : ScX} (h : sOk x) : (sT x).length ≤ 300 * x.1.length + 20 * x.2.1.length + 20 * x.2.2.length + 12 := by
  have h1 := lnL_len (nm := waitsL) (by decide) h.2.1
  have h2 := lnL_len (nm := saysL) (by decide) h.2.2
  have h3 := posts_len h.1
  unfold sT lns
  rw [List.flatMap_append, List.flatMap_append, List.length_append, List.length_append]
  omega
theorem sT_snoc {x : ScX} {k : Nat} {p : PoX} (h : x.1[k]? = some p) : sT (x.1.take (k + 1), x.2) = sT (x.1.take k, x.2) ++ (pL p ++ [10]) := by
  unfold sT lns
  rw [KD.take_snoc' h]
  simp only [List.map_append, List.map_cons, List.map_nil, List.flatMap_append, List.flatMap_cons, List.flatMap_nil, List.append_nil, List.append_assoc]
theorem sT_zero (x : ScX) : BA (sT (x.1.take 0, x.2)) = lB ⟨#[119, 97, 105, 116, 115]⟩ x.2.1 ++ lB ⟨#[115, 97, 121, 115]⟩ x.2.2 := by
  have e : ∀ (nm : ByteArray) (l : List Int), lB nm l = BA ((lnL nm.data.toList l).flatMap (· ++ [10])) := by
    intro nm l
    unfold lB lnL
    split
    · rfl
    · simp
  rw [e, e, BA_app]
  unfold sT lns
  simp only [List.take_zero, List.map_nil, List.append_nil, List.flatMap_append]
  rfl
theorem specDec_is {n : Int} {D : ByteArray} (hn : In18 n) (h : BA (Lib.itoa n) = D) (w : World) : Calls Tryz.prog 25 #[.int .i64 n] w fun e w' => e = .returned (.string D) ∧ Below w.heap.size w w' := by
  unfold In18 at hn
  rw [← h]; exact specDec_any n (by omega) (by omega) w
theorem specList_is {nm D : ByteArray} {v : Value} {l : List Int} {w : World} (h : lB nm l = D) (hnm : nm.size ≤ 10) (hl : l.length ≤ 2000000) (hin : ∀ n ∈ l, In18 n) (hv : RdI v l w) :
    Calls Tryz.prog 24 #[.string nm, v] w fun e w' => e = .returned (.string D) ∧ Below w.heap.size w w' := by rw [← h]; exact specList nm hnm v l hl hin w hv
theorem lB_size {nm : ByteArray} (hnm : nm.size ≤ 10) {l : List Int} (hl : l.length ≤ 2000000) (h : ∀ n ∈ l, In18 n) : (lB nm l).size ≤ 40000020 := by
  have := nT_len h
  have e : nm.data.toList.length = nm.size := by simp
  unfold lB
  split
  · exact Nat.zero_le _
  · rw [BA_size]; simp; omega

set_option maxHeartbeats 4000000 in
set_option maxRecDepth 100000 in
theorem specScriptText (cs : List Value) (x : ScX) (hok : sOk x) (h0 : x.1.length ≤ 2000000) (h1 : x.2.1.length ≤ 2000000) (h2 : x.2.2.length ≤ 2000000) (w : World) (h : scriptK.rd cs x w) :
    Calls Tryz.prog 12 #[agg cs] w fun e w' => e = .returned (.string (BA (sT x))) ∧ Below w.heap.size w w' := by
  obtain ⟨l0, l1, l2⟩ := x
  obtain ⟨a0, p0, a1, p1, a2, p2, rfl, r0, r1, r2⟩ := script_form h
  obtain ⟨_, _, e1, -, ri1⟩ := rd_ints r1
  obtain ⟨_, _, e2, -, ri2⟩ := rd_ints r2
  obtain ⟨rfl, rfl⟩ : a1 = _ ∧ p1 = _ := by simpa using e1
  obtain ⟨rfl, rfl⟩ : a2 = _ ∧ p2 = _ := by simpa using e2
  dsimp only at h0 h1 h2
  have HR0 := Lib.hid r0
  have HR1 := Lib.hid ri1
  have HR2 := Lib.hid ri2
  have HOK := Lib.hid hok
  have HL0 := Lib.hid h0
  have HL1 := Lib.hid h1
  have HL2 := Lib.hid h2
  obtain ⟨n, hn⟩ : ∃ n, l0.length = n := ⟨_, rfl⟩
  have HN := Lib.hid hn
  rw [hn] at h0
  obtain ⟨A, hA⟩ : ∃ A, lB ⟨#[119, 97, 105, 116, 115]⟩ l1 = A := ⟨_, rfl⟩
  obtain ⟨B, hB⟩ : ∃ B, lB ⟨#[115, 97, 121, 115]⟩ l2 = B := ⟨_, rfl⟩
  have HA := Lib.hid hA
  have HB := Lib.hid hB
  have sA : A.size ≤ 40000020 := by rw [← hA]; exact lB_size (by decide) h1 hok.2.1
  have sB : B.size ≤ 40000020 := by rw [← hB]; exact lB_size (by decide) h2 hok.2.2
  have HZ := Lib.hid (show BA (sT (l0.take 0, l1, l2)) = A ++ B by rw [← hA, ← hB]; exact sT_zero (l0, l1, l2))
  have u1 : ¬ 9223372036854775807 < A.size + B.size := by omega
  have X := Lib.hid (Bx.new 25 #[.slice a0 n p0, .slice a1 l1.length p1, .slice a2 l2.length p2] w)
  have HW := Lib.hid ((Below.refl w.heap.size w).alloc (Nat.le_refl _) (Obj.cells #[.slice a0 n p0, .slice a1 l1.length p1, .slice a2 l2.length p2] 25))
  rw [hn]
  clear h r0 r1 r2 ri1 ri2 e1 e2 hok h1 h2 hn hA hB
  show Calls _ _ #[.agg #[.slice a0 n p0, .slice a1 l1.length p1, .slice a2 l2.length p2]] w _
  go_enter Tryz.func12, Tryz.ntmps12
  go_wp2_with fail
  generalize w.alloc _ = y0 at X HW ⊢
  have HW5 := Lib.hid (show (⟨#[119, 97, 105, 116, 115]⟩ : ByteArray).size ≤ 10 by decide)
  have HS4 := Lib.hid (show (⟨#[115, 97, 121, 115]⟩ : ByteArray).size ≤ 10 by decide)
  have HI1 := Lib.hid HOK.out.2.1
  have HI2 := Lib.hid HOK.out.2.2
  have g1 := cell_regrown (X.out.cell 1 _ rfl)
  have g2 := cell_regrown (X.out.cell 2 _ rfl)
  refine wp_region_quiet_below (by kernel_rfl) (by kernel_rfl) ?_
  repeat (go_big_quiet_step (first | (go_at_call 24; first
    | with_reducible exact Calls.regrown_of (specList_is HA.out HW5.out HL1.out HI1.out (HR1.out.below (HW.out.trans ((below_regrown _ _ _).mono HW.out.size))))
    | with_reducible exact Calls.regrown_of (specList_is HB.out HS4.out HL2.out HI2.out (HR2.out.below (HW.out.trans ((below_regrown _ _ _).mono HW.out.size)))))))
  refine wpQuiet_nil ?_
  rintro _ ⟨qq, rfl⟩
  have hb := below_regrown y0 qq.d qq.os
  generalize Sort.grow (redrawn y0 qq.d) qq.os = y1 at hb ⊢
  have X1 := Lib.hid (X.out.later hb)
  have HW1 := Lib.hid (HW.out.trans (hb.mono HW.out.size))
  clear hb g1 g2 X HW
  have e0 := HZ.out
  obtain ⟨S, hS⟩ : ∃ S, A ++ B = S := ⟨_, rfl⟩
  rw [hS] at e0 ⊢
  have HS := Lib.hid e0
  clear e0 hS sA sB u1 HZ
  go_wp2_with fail
  go_loopw [3, 4] (fun s i wr => ∃ k : Nat, k ≤ n ∧ i = .int .i64 k ∧ s = .string (BA (sT (l0.take k, l1, l2))) ∧ Below y1.heap.size y1 wr) (fun _ i _ => n - (intOf i).toNat)
  case atStart => exact ⟨0, by omega, rfl, by rw [HS.out], Below.refl _ _⟩
  case round =>
    obtain ⟨k, hk, rfl, rfl, hb⟩ := hrel
    have HB1 := Lib.hid hb
    have HB2 := Lib.hid (HW1.out.trans (hb.mono HW1.out.size))
    have X2 := Lib.hid (X1.out.later hb)
    have f0 := X2.out.cell 0 _ rfl
    clear hb
    have hT : (BA (sT (l0.take k, l1, l2))).size ≤ 700000000 := by
      have := sT_len (x := (l0.take k, l1, l2)) ⟨fun p hp => HOK.out.1 p (List.mem_of_mem_take hp), HOK.out.2⟩
      rw [BA_size]
      have h1 : (l0.take k).length ≤ l0.length := by rw [List.length_take]; omega
      have h2 := HL0.out
      have h3 := HL1.out
      have h4 := HL2.out
      dsimp only at this
      omega
    by_cases hlt : k < n
    · obtain ⟨p, hp⟩ := get_of (l := l0) (i := k) (by rw [HN.out]; exact hlt)
      have hpk := HOK.out.1 p (List.mem_of_getElem? hp)
      have Hsn := Lib.hid (sT_snoc (x := (l0, l1, l2)) hp)
      obtain ⟨d0, d1, q, x, y, z, lk, l⟩ := p
      obtain ⟨b, o, _, es, e, _, _, lt, c, rx⟩ := row_rd HR0.out hp
      simp at e
      obtain ⟨rfl, -, rfl⟩ := e
      obtain ⟨ax, px, rfl, ri⟩ := post_form rx
      have c0 : w.cell? ⟨b, o + k * 8, none⟩ = some (.int .i64 d0) := c 0 _ rfl
      have c1 : w.cell? ⟨b, o + k * 8 + 1, none⟩ = some (.int .i64 d1) := c 1 _ rfl
      have c2 : w.cell? ⟨b, o + k * 8 + 2, none⟩ = some (.bool q) := c 2 _ rfl
      have c3 : w.cell? ⟨b, o + k * 8 + 3, none⟩ = some (.int .i64 x) := c 3 _ rfl
      have c4 : w.cell? ⟨b, o + k * 8 + 4, none⟩ = some (.int .i64 y) := c 4 _ rfl
      have c5 : w.cell? ⟨b, o + k * 8 + 5, none⟩ = some (.int .i64 z) := c 5 _ rfl
      have c6 : w.cell? ⟨b, o + k * 8 + 6, none⟩ = some (.bool lk) := c 6 _ rfl
      have c7 : w.cell? ⟨b, o + k * 8 + 7, none⟩ = some (.slice ax l.length px) := c 7 _ rfl
      rw [← bel_cells HB2.out lt] at c0 c1 c2 c3 c4 c5 c6 c7
      obtain ⟨_, _, e, -, rl⟩ := rd_ints ri
      obtain ⟨rfl, rfl⟩ : ax = _ ∧ px = _ := by simpa using e
      have HRL := Lib.hid (rl.below HB2.out)
      obtain ⟨hl8, -⟩ := (okR_facts hpk.2.2).2.2.2.2
      have hl2 : l.length ≤ 2000000 := by dsimp only at hl8; omega
      have HL := Lib.hid hl2
      have HPK := Lib.hid hpk
      obtain ⟨hR1, hR2⟩ := rB_size hpk.2.2
      obtain ⟨R, hR⟩ : ∃ R, txtB q x y z lk l = R := ⟨_, rfl⟩
      have HRR := Lib.hid hR
      rw [show rB (d0, d1, q, x, y, z, lk, l).2.2 = R from hR] at hR1 hR2
      have hRe := toList_neB hR2
      obtain ⟨D0, hD0⟩ : ∃ D, BA (Lib.itoa d0) = D := ⟨_, rfl⟩
      obtain ⟨D1, hD1⟩ : ∃ D, BA (Lib.itoa d1) = D := ⟨_, rfl⟩
      have HD0 := Lib.hid hD0
      have HD1 := Lib.hid hD1
      have s0 : D0.size ≤ 19 := by rw [← hD0, BA_size]; exact itoa_len19 hpk.1
      have s1 : D1.size ≤ 19 := by rw [← hD1, BA_size]; exact itoa_len19 hpk.2.1
      have HST := Lib.hid (show BA (sT (l0.take (k + 1), l1, l2)) = BA (sT (l0.take k, l1, l2)) ++ ⟨#[112, 111, 115, 116, 32]⟩ ++ D0 ++ ⟨#[32]⟩ ++ D1 ++ ⟨#[32]⟩ ++ R ++ ⟨#[10]⟩ by
        rw [Hsn.out, ← hD0, ← hD1]
        have eR : R = BA (rT (q, x, y, z, lk, l)) := by rw [← hR]; exact (data_BA _).symm
        rw [eR]
        rw [show (⟨#[112, 111, 115, 116, 32]⟩ : ByteArray) = BA [112, 111, 115, 116, 32] from rfl, show (⟨#[32]⟩ : ByteArray) = BA [32] from rfl, show (⟨#[10]⟩ : ByteArray) = BA [10] from rfl]
        simp only [BA_app]
        unfold pL postL
        simp)
      obtain ⟨T, hTT⟩ : ∃ T, BA (sT (l0.take k, l1, l2)) = T := ⟨_, rfl⟩
      rw [hTT] at hT HST ⊢
      have v1 : ¬ 9223372036854775807 < T.size + 5 := by omega
      have v2 : ¬ 9223372036854775807 < T.size + 5 + D0.size := by omega
      have v3 : ¬ 9223372036854775807 < T.size + 5 + D0.size + 1 := by omega
      have v4 : ¬ 9223372036854775807 < T.size + 5 + D0.size + 1 + D1.size := by omega
      have v5 : ¬ 9223372036854775807 < T.size + 5 + D0.size + 1 + D1.size + 1 := by omega
      have v6 : ¬ 9223372036854775807 < T.size + 5 + D0.size + 1 + D1.size + 1 + R.size := by omega
      have v7 : ¬ 9223372036854775807 < T.size + 5 + D0.size + 1 + D1.size + 1 + R.size + 1 := by omega
      clear e ri rl rx c hp hpk hR hR2 hl8 hl2 hD0 hD1 hTT
      go_wp2_with fail
      refine (specText q x y z lk (.slice ax l.length px) l HL.out _ HRL.out).mono ?_
      rintro e y2 ⟨rfl, hb⟩
      rw [HRR.out]
      have X3 := Lib.hid (X2.out.later hb)
      have HB3 := Lib.hid (HB1.out.trans (hb.mono HB1.out.size))
      have HB4 := Lib.hid (HB2.out.trans (hb.mono HB2.out.size))
      have hlb : b < wr.heap.size := Nat.lt_of_lt_of_le lt HB2.out.size
      have m0 := (bel_cells' hb hlb).trans c0
      have m1 := (bel_cells' hb hlb).trans c1
      have HP0 := Lib.hid HPK.out.1
      have HP1 := Lib.hid HPK.out.2.1
      clear hb c0 c1 c2 c3 c4 c5 c6 c7 f0
      have f0 := X3.out.cell 0 _ rfl
      go_upto_region 8 with fail
      have q0 := cell_regrown m0
      have q1 := cell_regrown m1
      have q2 := cell_regrown f0
      clear m0 m1 f0
      refine wp_region_quiet_below (by kernel_rfl) (by kernel_rfl) ?_
      repeat (go_big_quiet_step (first | (go_at_call 25; first
        | with_reducible exact Calls.regrown_of (specDec_is HP0.out HD0.out _)
        | with_reducible exact Calls.regrown_of (specDec_is HP1.out HD1.out _))))
      refine wpQuiet_nil ?_
      rintro _ ⟨qq, rfl⟩
      have hb5 := below_regrown y2 qq.d qq.os
      generalize Sort.grow (redrawn y2 qq.d) qq.os = y5 at hb5 ⊢
      have HB5 := Lib.hid (HB3.out.trans (hb5.mono HB3.out.size))
      clear hb5 q0 q1 q2
      go_wp2_with fail
      go_roundw
      case rel => exact ⟨k + 1, by omega, by go_num, by rw [HST.out], HB5.out⟩
      case measure => simp [intOf]; omega
    · obtain rfl : k = n := by omega
      have Hf := Lib.hid (show BA (sT (l0.take k, l1, l2)) = BA (sT (l0, l1, l2)) by rw [List.take_of_length_le (by rw [HN.out]; exact Nat.le_refl _)])
      rw [Hf.out]
      go_wp2
      go_ret
      exact ⟨rfl, HB2.out⟩
end Go.Proofs.YtfpnflhkfpolcaaGreatDoor.Num
