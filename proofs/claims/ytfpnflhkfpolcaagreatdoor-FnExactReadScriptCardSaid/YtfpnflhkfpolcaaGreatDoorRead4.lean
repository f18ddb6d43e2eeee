
/-
  What the program makes of a text's words.
-/
import Derived.Test.YtfpnflhkfpolcaaGreatDoorRead3
namespace Go.Proofs.YtfpnflhkfpolcaaGreatDoor.Num
open Go.RowKit Rows3 Bytes

/-- what each operation leaves where the program makes its request. -/
def MiV (g n cp B : Nat) (W0 W1 W2 W3 : ByteArray) : Nat → Value → World → Prop
  | 0, v, _ => v = .slice (some ⟨g, 0, none⟩) n cp
  | 1, v, _ => v = .pointer (some ⟨g, 0, none⟩)
  | 2, v, _ => v = .string W0
  | 3, v, _ => v = .string ⟨#[119, 114, 105, 116, 101]⟩
  | 4, v, _ => v = .bool (wrQ W0)
  | 5, v, _ => v = .slice (some ⟨g, 0, none⟩) n cp
  | 6, v, _ => v = .pointer (some ⟨g, 1, none⟩)
  | 7, v, _ => v = .string W1
  | 8, v, _ => v = .int .i64 (sizeN W1)
  | 9, v, _ => v = .slice (some ⟨g, 0, none⟩) n cp
  | 10, v, _ => v = .pointer (some ⟨g, 2, none⟩)
  | 11, v, _ => v = .string W2
  | 12, v, _ => v = .int .i64 (burstN W2)
  | 13, v, _ => v = .slice (some ⟨g, 0, none⟩) n cp
  | 14, v, _ => v = .pointer (some ⟨g, 3, none⟩)
  | 15, v, _ => v = .string W3
  | 16, v, _ => ∃ x, v = .int .i64 x ∧ NumOf W3 x
  | 17, v, _ => ∃ x, v = .agg #[.bool (wrQ W0), .int .i64 x, .int .i64 (sizeN W1), .int .i64 (burstN W2), .bool false, .slice none 0 0] ∧ NumOf W3 x
  | 18, v, w => ∃ h, v = .pointer (some ⟨h, 0, none⟩) ∧ B ≤ h ∧ h < w.heap.size ∧ Blk 35 h (.bool false) (.int .i64 0) (.int .i64 0) (.int .i64 0) (.bool false) (.slice none 0 0) w
  | _, _, _ => True
theorem MiV_big {g n cp B : Nat} {W0 W1 W2 W3 : ByteArray} (i : Nat) (v : Value) (w : World) (h : 19 ≤ i) : MiV g n cp B W0 W1 W2 W3 i v w := by
  unfold MiV; split <;> first | trivial | omega
theorem MiV.later {g n cp B : Nat} {W0 W1 W2 W3 : ByteArray} (i : Nat) (v : Value) (w w' : World) (h : Below w.heap.size w w') (hv : MiV g n cp B W0 W1 W2 W3 i v w) : MiV g n cp B W0 W1 W2 W3 i v w' := by
  unfold MiV at hv ⊢
  split at hv
  all_goals first
    | exact hv
    | (obtain ⟨k, h1, h2, h3, h4⟩ := hv; exact ⟨k, h1, h2, Nat.lt_of_lt_of_le h3 h.size, h4.later h⟩)
theorem MiV.at18 {g n cp B : Nat} {W0 W1 W2 W3 : ByteArray} {v : Value} {w : World} (h : MiV g n cp B W0 W1 W2 W3 18 v w) :
    ∃ k, v = .pointer (some ⟨k, 0, none⟩) ∧ B ≤ k ∧ k < w.heap.size ∧ Blk 35 k (.bool false) (.int .i64 0) (.int .i64 0) (.int .i64 0) (.bool false) (.slice none 0 0) w := h
theorem MiV.at17 {g n cp B : Nat} {W0 W1 W2 W3 : ByteArray} {v : Value} {w : World} (h : MiV g n cp B W0 W1 W2 W3 17 v w) :
    ∃ x, v = .agg #[.bool (wrQ W0), .int .i64 x, .int .i64 (sizeN W1), .int .i64 (burstN W2), .bool false, .slice none 0 0] ∧ NumOf W3 x := h
/-- what the program makes of words: some request that fits them. -/
def MadeP (ws : List ByteArray) (w : World) (e : Ending) (w' : World) : Prop :=
  ∃ q x y z lk v l, e = .returned (.agg #[.bool q, .int .i64 x, .int .i64 y, .int .i64 z, .bool lk, v]) ∧ OwnI w.heap.size v l w' ∧ Below w.heap.size w w' ∧ ParseR ws q x y z lk l
set_option maxHeartbeats 4000000 in
set_option maxRecDepth 100000 in
theorem implMade (ws : List ByteArray) (g n cp : Nat) (hn : ws.length = n) (h4 : 4 ≤ n) (h13 : n ≤ 13) (hcp : n ≤ cp) (hcm : cp ≤ 14) (hsz : ∀ j, (ws.getD j ByteArray.empty).size ≤ 1048576) (w : World) (hg : g < w.heap.size)
    (hcell : ∀ j, j < n → w.cell? ⟨g, j, none⟩ = some (.string (ws.getD j ByteArray.empty))) (herr : Errs w) :
    Calls Tryz.prog 49 #[.slice (some ⟨g, 0, none⟩) n cp] w (MadeP ws w) := by
  have Hn := Lib.hid hn
  have Hsz := Lib.hid hsz
  have Hcell := Lib.hid hcell
  have Herr1 := Lib.hid herr
  obtain ⟨W0, hW0⟩ : ∃ W, ws.getD 0 ByteArray.empty = W := ⟨_, rfl⟩
  obtain ⟨W1, hW1⟩ : ∃ W, ws.getD 1 ByteArray.empty = W := ⟨_, rfl⟩
  obtain ⟨W2, hW2⟩ : ∃ W, ws.getD 2 ByteArray.empty = W := ⟨_, rfl⟩
  obtain ⟨W3, hW3⟩ : ∃ W, ws.getD 3 ByteArray.empty = W := ⟨_, rfl⟩
  have a0 := Blk.new 35 (.bool false) (.int .i64 0) (.int .i64 0) (.int .i64 0) (.bool false) (.slice none 0 0) w
  have hal : ∀ j, (w.alloc (.cells #[.bool false, .int .i64 0, .int .i64 0, .int .i64 0, .bool false, .slice none 0 0] 35)).cell? ⟨g, j, none⟩ = w.cell? ⟨g, j, none⟩ := fun j => ((Below.refl w.heap.size w).alloc (Nat.le_refl _) _).cell (p := ⟨g, j, none⟩) hg
  obtain ⟨w1, hw1⟩ : ∃ w1, w.alloc (.cells #[.bool false, .int .i64 0, .int .i64 0, .int .i64 0, .bool false, .slice none 0 0] 35) = w1 := ⟨_, rfl⟩
  have hb1 := (Below.refl w.heap.size w).alloc (Nat.le_refl _) (.cells #[.bool false, .int .i64 0, .int .i64 0, .int .i64 0, .bool false, .slice none 0 0] 35)
  have hs1 : w1.heap.size = w.heap.size + 1 := by rw [← hw1]; simp
  rw [hw1] at a0 hal hb1
  have A0 := Lib.hid a0
  have Hb1 := Lib.hid hb1
  have Hw1 := Lib.hid hw1
  have Herr := Lib.hid (errs_below herr hb1)
  have hg1 : g < w1.heap.size := by omega
  have Hs1 := Lib.hid hs1
  have c0 := (hal 0).trans (hcell 0 (by omega))
  have c1 := (hal 1).trans (hcell 1 (by omega))
  have c2 := (hal 2).trans (hcell 2 (by omega))
  have c3 := (hal 3).trans (hcell 3 (by omega))
  rw [hW0] at c0
  rw [hW1] at c1
  rw [hW2] at c2
  rw [hW3] at c3
  have Hal := Lib.hid hal
  have E0 := Lib.hid hW0
  have E1 := Lib.hid hW1
  have E2 := Lib.hid hW2
  have E3 := Lib.hid hW3
  have Hs3 : Hid (W3.size ≤ 1048576) := Lib.hid (by rw [← hW3]; exact hsz 3)
  have HW0 : Hid ((W0.toList == [119, 114, 105, 116, 101]) = wrQ W0) := by
    refine Lib.hid ?_
    unfold wrQ
    rw [show ([119, 114, 105, 116, 101] : List UInt8) = (⟨#[119, 114, 105, 116, 101]⟩ : ByteArray).toList by rw [ByteArray.toList_eq]]
    rw [Bool.eq_iff_iff, beq_iff_eq, decide_eq_true_iff, ByteArray.toList_eq, ByteArray.toList_eq]
    exact ⟨fun h => ByteArray.ext (Array.toList_inj.1 h), fun h => by rw [h]⟩
  have hn0 : 0 < n := by omega
  have hn1 : (1 : Int) < (n : Int) := by omega
  have hn2 : (2 : Int) < (n : Int) := by omega
  have hn3 : (3 : Int) < (n : Int) := by omega
  clear hn hsz hcell herr hW0 hW1 hW2 hW3 a0 hal hw1 hb1 hs1
  go_enter Tryz.func49, Tryz.ntmps49
  go_wp2_with fail
  rw [Hw1.out]
  refine Inv.region_tail 19 [7, 8, 9, 10, 11, 12, 13, 14, 15, 16, 17, 18, 19, 20, 21, 22, 23, 24, 3] (by kernel_rfl) (by kernel_rfl) (by kernel_rfl) (by kernel_rfl) (by kernel_rfl) (Below w1.heap.size w1) (MiV g n cp w1.heap.size W0 W1 W2 W3) (fun w' w'' => Below w'.heap.size w' w'') (fun i v w' w'' => MiV.later i v w' w'') (none_tail 19 (by kernel_rfl) (fun i v w hi => MiV_big i v w hi)) (Below.refl _ _).drew ?_ ?_
  · replace hg := hg1
    replace Herr1 := Herr
    intro i o ho hi16 listed a w' s hln hl haft K hK
    match i, ho with
    | 0, ho =>
      simp only [List.getElem?_toArray, List.getElem?_cons_zero, Option.some.injEq] at ho
      subst ho
      have d : a.tmps.getD 0 undef = .slice (some ⟨g, 0, none⟩) n cp := s.other 0 (fun jj _ e => Inv.none_at (t := 0) (by kernel_rfl) e)
      unfold Oper.wp
      go_simp
      exact hK _ _ s.cls (Below.refl _ _) rfl
    | 1, ho =>
      simp only [List.getElem?_toArray, List.getElem?_cons_zero, List.getElem?_cons_succ, Option.some.injEq] at ho
      subst ho
      have d0 : a.tmps.getD 7 undef = .slice (some ⟨g, 0, none⟩) n cp := s.val 0 (by decide) (haft ⟨0, .data⟩ (by simp) rfl)
      unfold Oper.wp
      go_simp
      exact hK _ _ s.cls (Below.refl _ _) rfl
    | 2, ho =>
      simp only [List.getElem?_toArray, List.getElem?_cons_zero, List.getElem?_cons_succ, Option.some.injEq] at ho
      subst ho
      have d1 : a.tmps.getD 8 undef = .pointer (some ⟨g, 0, none⟩) := s.val 1 (by decide) (haft ⟨1, .data⟩ (by simp) rfl)
      have c := (s.cls.cell (p := ⟨g, 0, none⟩) hg).trans c0
      unfold Oper.wp
      go_simp
      exact hK _ _ s.cls (Below.refl _ _) rfl
    | 3, ho =>
      simp only [List.getElem?_toArray, List.getElem?_cons_zero, List.getElem?_cons_succ, Option.some.injEq] at ho
      subst ho
      unfold Oper.wp
      go_simp
      refine (implWr true _).mono ?_
      rintro e w'' ⟨rfl, rfl⟩
      exact hK _ _ s.cls (Below.refl _ _) rfl
    | 4, ho =>
      simp only [List.getElem?_toArray, List.getElem?_cons_zero, List.getElem?_cons_succ, Option.some.injEq] at ho
      subst ho
      have d2 : a.tmps.getD 9 undef = .string W0 := s.val 2 (by decide) (haft ⟨2, .data⟩ (by simp) rfl)
      have d3 : a.tmps.getD 10 undef = .string ⟨#[119, 114, 105, 116, 101]⟩ := s.val 3 (by decide) (haft ⟨3, .data⟩ (by simp) rfl)
      unfold Oper.wp
      go_simp
      exact hK _ _ s.cls (Below.refl _ _) (show Value.bool (W0.toList == [119, 114, 105, 116, 101]) = .bool (wrQ W0) by rw [HW0.out])
    | 5, ho =>
      simp only [List.getElem?_toArray, List.getElem?_cons_zero, List.getElem?_cons_succ, Option.some.injEq] at ho
      subst ho
      have d : a.tmps.getD 0 undef = .slice (some ⟨g, 0, none⟩) n cp := s.other 0 (fun jj _ e => Inv.none_at (t := 0) (by kernel_rfl) e)
      unfold Oper.wp
      go_simp
      exact hK _ _ s.cls (Below.refl _ _) rfl
    | 6, ho =>
      simp only [List.getElem?_toArray, List.getElem?_cons_zero, List.getElem?_cons_succ, Option.some.injEq] at ho
      subst ho
      have d5 : a.tmps.getD 12 undef = .slice (some ⟨g, 0, none⟩) n cp := s.val 5 (by decide) (haft ⟨5, .data⟩ (by simp) rfl)
      unfold Oper.wp
      go_simp
      exact hK _ _ s.cls (Below.refl _ _) rfl
    | 7, ho =>
      simp only [List.getElem?_toArray, List.getElem?_cons_zero, List.getElem?_cons_succ, Option.some.injEq] at ho
      subst ho
      have d6 : a.tmps.getD 13 undef = .pointer (some ⟨g, 1, none⟩) := s.val 6 (by decide) (haft ⟨6, .data⟩ (by simp) rfl)
      have c := (s.cls.cell (p := ⟨g, 1, none⟩) hg).trans c1
      unfold Oper.wp
      go_simp
      exact hK _ _ s.cls (Below.refl _ _) rfl
    | 8, ho =>
      simp only [List.getElem?_toArray, List.getElem?_cons_zero, List.getElem?_cons_succ, Option.some.injEq] at ho
      subst ho
      have d7 : a.tmps.getD 14 undef = .string W1 := s.val 7 (by decide) (haft ⟨7, .data⟩ (by simp) rfl)
      unfold Oper.wp
      go_simp
      refine (implNumSz W1 _).mono ?_
      rintro e w'' ⟨rfl, rfl⟩
      exact hK _ _ s.cls (Below.refl _ _) rfl
    | 9, ho =>
      simp only [List.getElem?_toArray, List.getElem?_cons_zero, List.getElem?_cons_succ, Option.some.injEq] at ho
      subst ho
      have d : a.tmps.getD 0 undef = .slice (some ⟨g, 0, none⟩) n cp := s.other 0 (fun jj _ e => Inv.none_at (t := 0) (by kernel_rfl) e)
      unfold Oper.wp
      go_simp
      exact hK _ _ s.cls (Below.refl _ _) rfl
    | 10, ho =>
      simp only [List.getElem?_toArray, List.getElem?_cons_zero, List.getElem?_cons_succ, Option.some.injEq] at ho
      subst ho
      have d9 : a.tmps.getD 16 undef = .slice (some ⟨g, 0, none⟩) n cp := s.val 9 (by decide) (haft ⟨9, .data⟩ (by simp) rfl)
      unfold Oper.wp
      go_simp
      exact hK _ _ s.cls (Below.refl _ _) rfl
    | 11, ho =>
      simp only [List.getElem?_toArray, List.getElem?_cons_zero, List.getElem?_cons_succ, Option.some.injEq] at ho
      subst ho
      have d10 : a.tmps.getD 17 undef = .pointer (some ⟨g, 2, none⟩) := s.val 10 (by decide) (haft ⟨10, .data⟩ (by simp) rfl)
      have c := (s.cls.cell (p := ⟨g, 2, none⟩) hg).trans c2
      unfold Oper.wp
      go_simp
      exact hK _ _ s.cls (Below.refl _ _) rfl
    | 12, ho =>
      simp only [List.getElem?_toArray, List.getElem?_cons_zero, List.getElem?_cons_succ, Option.some.injEq] at ho
      subst ho
      have d11 : a.tmps.getD 18 undef = .string W2 := s.val 11 (by decide) (haft ⟨11, .data⟩ (by simp) rfl)
      unfold Oper.wp
      go_simp
      refine (implNumBu W2 _).mono ?_
      rintro e w'' ⟨rfl, rfl⟩
      exact hK _ _ s.cls (Below.refl _ _) rfl
    | 13, ho =>
      simp only [List.getElem?_toArray, List.getElem?_cons_zero, List.getElem?_cons_succ, Option.some.injEq] at ho
      subst ho
      have d : a.tmps.getD 0 undef = .slice (some ⟨g, 0, none⟩) n cp := s.other 0 (fun jj _ e => Inv.none_at (t := 0) (by kernel_rfl) e)
      unfold Oper.wp
      go_simp
      exact hK _ _ s.cls (Below.refl _ _) rfl
    | 14, ho =>
      simp only [List.getElem?_toArray, List.getElem?_cons_zero, List.getElem?_cons_succ, Option.some.injEq] at ho
      subst ho
      have d13 : a.tmps.getD 20 undef = .slice (some ⟨g, 0, none⟩) n cp := s.val 13 (by decide) (haft ⟨13, .data⟩ (by simp) rfl)
      unfold Oper.wp
      go_simp
      exact hK _ _ s.cls (Below.refl _ _) rfl
    | 15, ho =>
      simp only [List.getElem?_toArray, List.getElem?_cons_zero, List.getElem?_cons_succ, Option.some.injEq] at ho
      subst ho
      have d14 : a.tmps.getD 21 undef = .pointer (some ⟨g, 3, none⟩) := s.val 14 (by decide) (haft ⟨14, .data⟩ (by simp) rfl)
      have c := (s.cls.cell (p := ⟨g, 3, none⟩) hg).trans c3
      unfold Oper.wp
      go_simp
      exact hK _ _ s.cls (Below.refl _ _) rfl
    | 16, ho =>
      simp only [List.getElem?_toArray, List.getElem?_cons_zero, List.getElem?_cons_succ, Option.some.injEq] at ho
      subst ho
      have d15 : a.tmps.getD 22 undef = .string W3 := s.val 15 (by decide) (haft ⟨15, .data⟩ (by simp) rfl)
      unfold Oper.wp
      go_simp
      refine (implNum W3 Hs3.out _ (errs_below Herr1.out s.cls)).mono ?_
      rintro e w'' ⟨x, rfl, hx, hb⟩
      exact hK _ _ (s.cls.trans (hb.mono s.cls.size)) hb ⟨x, rfl, hx⟩
    | 17, ho =>
      simp only [List.getElem?_toArray, List.getElem?_cons_zero, List.getElem?_cons_succ, Option.some.injEq] at ho
      subst ho
      have d4 : a.tmps.getD 11 undef = .bool (wrQ W0) := s.val 4 (by decide) (haft ⟨4, .data⟩ (by simp) rfl)
      have d8 : a.tmps.getD 15 undef = .int .i64 (sizeN W1) := s.val 8 (by decide) (haft ⟨8, .data⟩ (by simp) rfl)
      have d12 : a.tmps.getD 19 undef = .int .i64 (burstN W2) := s.val 12 (by decide) (haft ⟨12, .data⟩ (by simp) rfl)
      obtain ⟨x, d16, hx⟩ : ∃ x, a.tmps.getD 23 undef = .int .i64 x ∧ NumOf W3 x := s.val 16 (by decide) (haft ⟨16, .data⟩ (by simp) rfl)
      have Hx := Lib.hid hx
      clear hx
      rw [Array.getD_eq_getD_getElem?] at d4 d8 d12 d16
      unfold Oper.wp
      go_simp
      exact hK _ _ s.cls (Below.refl _ _) ⟨x, rfl, Hx.out⟩
    | 18, ho =>
      simp only [List.getElem?_toArray, List.getElem?_cons_zero, List.getElem?_cons_succ, Option.some.injEq] at ho
      subst ho
      unfold Oper.wp
      go_simp
      exact hK _ _ (s.cls.alloc s.cls.size _) ((Below.refl _ _).alloc (Nat.le_refl _) _) ⟨w'.heap.size, rfl, s.cls.size, by simp, Blk.new _ _ _ _ _ _ _ w'⟩
    | n + 19, ho => omega
  · intro f w2 o ho hb2 hval
    have h18 : MiV g n cp w1.heap.size W0 W1 W2 W3 18 (f 3) w2 := hval 18 (by decide)
    have h17 : MiV g n cp w1.heap.size W0 W1 W2 W3 17 (f 24) w2 := hval 17 (by decide)
    clear hval
    obtain ⟨bq, h5, hB, hh, hblk⟩ := MiV.at18 h18
    obtain ⟨x, h24, hx⟩ := MiV.at17 h17
    clear h18 h17
    simp only [Inv.setAll, List.setIfInBounds_toArray, List.set_cons_zero, List.set_cons_succ]
    rw [h5, h24]
    simp only [List.getElem?_toArray, List.getElem?_cons_zero, List.getElem?_cons_succ, Option.some.injEq] at ho
    subst ho
    obtain ⟨f0, f1, f2, f3, f4, f5⟩ := hblk.warm
    obtain ⟨g0, g1, g2, g3, g4, g5⟩ := hblk.cells
    have Hblk := Lib.hid hblk
    have Hb2 := Lib.hid hb2
    have Hx := Lib.hid hx
    clear h5 h24 hblk hb2 hx
    unfold Oper.wp
    go_simp
    obtain ⟨w3, hw3⟩ : ∃ w3, fill w2 bq (.bool (wrQ W0)) (.int .i64 x) (.int .i64 (sizeN W1)) (.int .i64 (burstN W2)) (.bool false) (.slice none 0 0) = w3 := ⟨_, rfl⟩
    rw [show (((((w2.setCell ⟨bq, 0, none⟩ (.bool (wrQ W0))).setCell ⟨bq, 1, none⟩ (.int .i64 x)).setCell ⟨bq, 2, none⟩ (.int .i64 (sizeN W1))).setCell ⟨bq, 3, none⟩ (.int .i64 (burstN W2))).setCell ⟨bq, 4, none⟩ (.bool false)).setCell ⟨bq, 5, none⟩ (.slice none 0 0) = w3 from hw3]
    have X3 := blk_fill Hblk.out (.bool (wrQ W0)) (.int .i64 x) (.int .i64 (sizeN W1)) (.int .i64 (burstN W2)) (.bool false) (.slice none 0 0)
    have Hb3 := below_fill Hb2.out hB (.bool (wrQ W0)) (.int .i64 x) (.int .i64 (sizeN W1)) (.int .i64 (burstN W2)) (.bool false) (.slice none 0 0)
    rw [hw3] at X3 Hb3
    have Y3 := Lib.hid X3
    have Hw3 := Lib.hid Hb3
    clear hw3 f0 f1 f2 f3 f4 f5 g0 g1 g2 g3 g4 g5 c0 c1 c2 c3
    obtain ⟨f0, f1, f2, f3, f4, f5⟩ := X3.warm
    obtain ⟨g0, g1, g2, g3, g4, g5⟩ := X3.cells
    clear X3 Hb3
    have n4 : (4 : Int) ≤ (n : Int) := by omega
    have hn4c : (n : Int) ≤ (cp : Int) := by omega
    have s1 : IntKind.i64.wrap ((n : Int) - 4) = ((n - 4 : Nat) : Int) := by rw [IntWalk.i64_in _ (by omega)]; omega
    by_cases h5 : n = 4
    · subst h5
      by_cases hcp4 : cp = 4
      · subst hcp4
        go_wp2_with fail
        go_loopw [41] (fun i wr => ∃ m : Nat, m ≤ 0 ∧ i = .int .i64 m ∧ DataS ws 4 bq w1.heap.size (wrQ W0) x (sizeN W1) (burstN W2) false w1 m wr) (fun i _ => 0 - (intOf i).toNat)
        case atStart => exact ⟨0, by omega, rfl, DataS.start Y3.out Hw3.out⟩
        case round =>
          obtain ⟨m, hm, rfl, ad, cap, l, hl, hown, hblk, hnum, hbr⟩ := hrel
          subst hl
          have Ho := Lib.hid hown
          have Hk := Lib.hid hblk
          have Hnum := Lib.hid hnum
          have Hbr := Lib.hid hbr
          obtain ⟨g0, g1, g2, g3, g4, g5⟩ := hblk.cells
          have hlh := hblk.lt
          clear hown hblk hnum hbr
          by_cases hlt : l.length < 0
          · omega
          · obtain ⟨nr, hnr⟩ : ∃ nr, l.length = nr := ⟨_, rfl⟩
            have Hnr := Lib.hid hnr
            have Hpr : Hid (ParseR ws (wrQ W0) x (sizeN W1) (burstN W2) false l) := by
              refine Lib.hid ⟨by rw [Hn.out]; omega, by rw [E0.out], by rw [E3.out]; exact Hx.out, by rw [E1.out], by rw [E2.out], 4, .inr ⟨rfl, rfl, fun h => by rw [Hn.out] at h; omega⟩, by rw [Hn.out]; omega, Hnum.out⟩
            rw [hnr] at Hk Ho g5 hlt hm ⊢
            clear hnr g0 g1 g2 g3 g4 g5 f0 f1 f2 f3 f4 f5
            have RB := Lib.hid (A0.out.below Hbr.out A0.out.lt)
            obtain ⟨g0, g1, g2, g3, g4, g5⟩ := Hk.out.cells
            obtain ⟨r0, r1, r2, r3, r4, r5⟩ := RB.out.warm
            obtain ⟨q0, q1, q2, q3, q4, q5⟩ := RB.out.cells
            have hlow : w.heap.size < w1.heap.size := A0.out.lt
            have hfin : ∀ d0 d1 d2 d3 d4 d5, Below w.heap.size w (fill wr w.heap.size d0 d1 d2 d3 d4 d5) := fun d0 d1 d2 d3 d4 d5 => below_fill (Hb1.out.trans (Hbr.out.mono (Nat.le_of_lt hlow))) (Nat.le_refl _) d0 d1 d2 d3 d4 d5
            have Hfin := Lib.hid hfin
            clear hfin
            go_wp2_with fail
            refine bodyPost_ret (v := .agg #[.bool (wrQ W0), .int .i64 x, .int .i64 (sizeN W1), .int .i64 (burstN W2), .bool false, .slice ad nr cap]) (by simp [results, Tryz.results49, go_sem, q0, q1, q2, q3, q4, q5]) rfl ?_
            have h7 := (fill_low Ho.out hlow (.bool (wrQ W0)) (.int .i64 x) (.int .i64 (sizeN W1)) (.int .i64 (burstN W2)) (.bool false) (.slice ad nr cap)).mono (Nat.le_of_lt hlow)
            exact ⟨_, _, _, _, _, _, l, rfl, h7, Hfin.out _ _ _ _ _ _, Hpr.out⟩
      · go_wp2_with fail
        go_loopw [41] (fun i wr => ∃ m : Nat, m ≤ 0 ∧ i = .int .i64 m ∧ DataS ws 4 bq w1.heap.size (wrQ W0) x (sizeN W1) (burstN W2) false w1 m wr) (fun i _ => 0 - (intOf i).toNat)
        case atStart => exact ⟨0, by omega, rfl, DataS.start Y3.out Hw3.out⟩
        case round =>
          obtain ⟨m, hm, rfl, ad, cap, l, hl, hown, hblk, hnum, hbr⟩ := hrel
          subst hl
          have Ho := Lib.hid hown
          have Hk := Lib.hid hblk
          have Hnum := Lib.hid hnum
          have Hbr := Lib.hid hbr
          obtain ⟨g0, g1, g2, g3, g4, g5⟩ := hblk.cells
          have hlh := hblk.lt
          clear hown hblk hnum hbr
          by_cases hlt : l.length < 0
          · omega
          · obtain ⟨nr, hnr⟩ : ∃ nr, l.length = nr := ⟨_, rfl⟩
            have Hnr := Lib.hid hnr
            have Hpr : Hid (ParseR ws (wrQ W0) x (sizeN W1) (burstN W2) false l) := by
              refine Lib.hid ⟨by rw [Hn.out]; omega, by rw [E0.out], by rw [E3.out]; exact Hx.out, by rw [E1.out], by rw [E2.out], 4, .inr ⟨rfl, rfl, fun h => by rw [Hn.out] at h; omega⟩, by rw [Hn.out]; omega, Hnum.out⟩
            rw [hnr] at Hk Ho g5 hlt hm ⊢
            clear hnr g0 g1 g2 g3 g4 g5 f0 f1 f2 f3 f4 f5
            have RB := Lib.hid (A0.out.below Hbr.out A0.out.lt)
            obtain ⟨g0, g1, g2, g3, g4, g5⟩ := Hk.out.cells
            obtain ⟨r0, r1, r2, r3, r4, r5⟩ := RB.out.warm
            obtain ⟨q0, q1, q2, q3, q4, q5⟩ := RB.out.cells
            have hlow : w.heap.size < w1.heap.size := A0.out.lt
            have hfin : ∀ d0 d1 d2 d3 d4 d5, Below w.heap.size w (fill wr w.heap.size d0 d1 d2 d3 d4 d5) := fun d0 d1 d2 d3 d4 d5 => below_fill (Hb1.out.trans (Hbr.out.mono (Nat.le_of_lt hlow))) (Nat.le_refl _) d0 d1 d2 d3 d4 d5
            have Hfin := Lib.hid hfin
            clear hfin
            go_wp2_with fail
            refine bodyPost_ret (v := .agg #[.bool (wrQ W0), .int .i64 x, .int .i64 (sizeN W1), .int .i64 (burstN W2), .bool false, .slice ad nr cap]) (by simp [results, Tryz.results49, go_sem, q0, q1, q2, q3, q4, q5]) rfl ?_
            have h7 := (fill_low Ho.out hlow (.bool (wrQ W0)) (.int .i64 x) (.int .i64 (sizeN W1)) (.int .i64 (burstN W2)) (.bool false) (.slice ad nr cap)).mono (Nat.le_of_lt hlow)
            exact ⟨_, _, _, _, _, _, l, rfl, h7, Hfin.out _ _ _ _ _ _, Hpr.out⟩
    · obtain ⟨W4, hW4⟩ : ∃ W, ws.getD 4 ByteArray.empty = W := ⟨_, rfl⟩
      have c4 := (Hw3.out.cell (p := ⟨g, 4, none⟩) hg1).trans ((Hal.out 4).trans (Hcell.out 4 (by omega)))
      rw [hW4] at c4
      have HW4 := Lib.hid hW4
      have hcp4 : ¬ cp = 4 := by omega
      have hn4 : 0 < n - 4 := by omega
      have hnc : n - 4 ≤ cp - 4 := by omega
      clear hW4
      by_cases hlock : W4 = ⟨#[108, 111, 99, 107]⟩
      · have hq : (W4.toList == [108, 111, 99, 107]) = true := by rw [hlock, ByteArray.toList_eq]; rfl
        have Hlk := Lib.hid hlock
        have Y5 := Lib.hid (blk_set Y3.out 4 (.bool true))
        have Hw5 := Lib.hid (Hw3.out.setCell (p := ⟨bq, 4, none⟩) hB (.bool true))
        have n1 : 1 ≤ n - 4 := by omega
        clear hlock
        by_cases hcp5 : cp - 4 = 1
        · have hn5 : n = 5 := by omega
          subst hn5
          go_wp2_with fail
          go_loopw [41] (fun i wr => ∃ m : Nat, m ≤ 0 ∧ i = .int .i64 m ∧ DataS ws 5 bq w1.heap.size (wrQ W0) x (sizeN W1) (burstN W2) true w1 m wr) (fun i _ => 0 - (intOf i).toNat)
          case atStart => exact ⟨0, by omega, rfl, DataS.start Y5.out Hw5.out⟩
          case round =>
            obtain ⟨m, hm, rfl, ad, cap, l, hl, hown, hblk, hnum, hbr⟩ := hrel
            subst hl
            have Ho := Lib.hid hown
            have Hk := Lib.hid hblk
            have Hnum := Lib.hid hnum
            have Hbr := Lib.hid hbr
            obtain ⟨g0, g1, g2, g3, g4, g5⟩ := hblk.cells
            have hlh := hblk.lt
            clear hown hblk hnum hbr
            by_cases hlt : l.length < 0
            · omega
            · obtain ⟨nr, hnr⟩ : ∃ nr, l.length = nr := ⟨_, rfl⟩
              have Hnr := Lib.hid hnr
              have Hpr : Hid (ParseR ws (wrQ W0) x (sizeN W1) (burstN W2) true l) := by
                refine Lib.hid ⟨by rw [Hn.out]; omega, by rw [E0.out], by rw [E3.out]; exact Hx.out, by rw [E1.out], by rw [E2.out], 5, .inl ⟨rfl, rfl, by rw [Hn.out]; omega, by rw [HW4.out]; exact Hlk.out⟩, by rw [Hn.out]; omega, Hnum.out⟩
              rw [hnr] at Hk Ho g5 hlt hm ⊢
              clear hnr g0 g1 g2 g3 g4 g5 f0 f1 f2 f3 f4 f5
              have RB := Lib.hid (A0.out.below Hbr.out A0.out.lt)
              obtain ⟨g0, g1, g2, g3, g4, g5⟩ := Hk.out.cells
              obtain ⟨r0, r1, r2, r3, r4, r5⟩ := RB.out.warm
              obtain ⟨q0, q1, q2, q3, q4, q5⟩ := RB.out.cells
              have hlow : w.heap.size < w1.heap.size := A0.out.lt
              have hfin : ∀ d0 d1 d2 d3 d4 d5, Below w.heap.size w (fill wr w.heap.size d0 d1 d2 d3 d4 d5) := fun d0 d1 d2 d3 d4 d5 => below_fill (Hb1.out.trans (Hbr.out.mono (Nat.le_of_lt hlow))) (Nat.le_refl _) d0 d1 d2 d3 d4 d5
              have Hfin := Lib.hid hfin
              clear hfin
              go_wp2_with fail
              refine bodyPost_ret (v := .agg #[.bool (wrQ W0), .int .i64 x, .int .i64 (sizeN W1), .int .i64 (burstN W2), .bool true, .slice ad nr cap]) (by simp [results, Tryz.results49, go_sem, q0, q1, q2, q3, q4, q5]) rfl ?_
              have h7 := (fill_low Ho.out hlow (.bool (wrQ W0)) (.int .i64 x) (.int .i64 (sizeN W1)) (.int .i64 (burstN W2)) (.bool true) (.slice ad nr cap)).mono (Nat.le_of_lt hlow)
              exact ⟨_, _, _, _, _, _, l, rfl, h7, Hfin.out _ _ _ _ _ _, Hpr.out⟩
        · go_wp2_with fail
          go_loopw [41] (fun i wr => ∃ m : Nat, m ≤ (n - 4 - 1) ∧ i = .int .i64 m ∧ DataS ws 5 bq w1.heap.size (wrQ W0) x (sizeN W1) (burstN W2) true w1 m wr) (fun i _ => (n - 4 - 1) - (intOf i).toNat)
          case atStart => exact ⟨0, by omega, rfl, DataS.start Y5.out Hw5.out⟩
          case round =>
            obtain ⟨m, hm, rfl, ad, cap, l, hl, hown, hblk, hnum, hbr⟩ := hrel
            subst hl
            have Ho := Lib.hid hown
            have Hk := Lib.hid hblk
            have Hnum := Lib.hid hnum
            have Hbr := Lib.hid hbr
            obtain ⟨g0, g1, g2, g3, g4, g5⟩ := hblk.cells
            have hlh := hblk.lt
            clear hown hblk hnum hbr
            by_cases hlt : l.length < (n - 4 - 1)
            · obtain ⟨Wm, hWm⟩ : ∃ W, ws.getD (5 + l.length) ByteArray.empty = W := ⟨_, rfl⟩
              have cm := (Hbr.out.cell (p := ⟨g, 5 + l.length, none⟩) hg1).trans ((Hal.out (5 + l.length)).trans (Hcell.out (5 + l.length) (by omega)))
              rw [hWm] at cm
              have HWm := Lib.hid hWm
              have hsm : Hid (Wm.size ≤ 1048576) := Lib.hid (by rw [← hWm]; exact Hsz.out (5 + l.length))
              have hszr : w1.heap.size ≤ wr.heap.size := Hbr.out.size
              have hl8 : Hid (l.length + 1 ≤ 17592186044416) := Lib.hid (by omega)
              have hne := own_ne (T := 35) (by decide) Ho.out Hk.out
              have Hne := Lib.hid hne
              clear hWm hne
              go_wp2_with fail
              go_region_law (first
                | (refine step_of rfl (wp_appI (.tmp 46) (.tmp 49) rfl w1.heap.size (.slice ad l.length cap) l wm _ rfl rfl Om.out hszm hl8.out ?_); intro v5 w5 hown5 hb5 hs5; obtain ⟨ad5, cap5, rfl⟩ := hown5.slice; have X5 := blk_same Km.out (hs5 bq hlm Hne.out); have Ho5 := Lib.hid hown5; have Hb5 := Lib.hid hb5; have HX5 := Lib.hid X5; obtain ⟨k0, k1, k2, k3, k4, k5⟩ := X5.warm; obtain ⟨j0, j1, j2, j3, j4, j5⟩ := X5.cells; clear hown5 hb5 hs5 X5)
                | (refine step_of rfl ?_; unfold Oper.wp; go_simp; go_at_call 69; refine (implNum Wm hsm.out _ (errs_below Herr.out Hbr.out.drew)).mono ?_; rintro e wm ⟨xm, rfl, hxm, hbm⟩; have Bm := Lib.hid ((Below.refl _ wr).drew.trans hbm); have Km := Lib.hid (Hk.out.later Bm.out); have Om := Lib.hid (Ho.out.later Bm.out); have hszm : w1.heap.size ≤ wm.heap.size := Nat.le_trans hszr Bm.out.size; have hlm : bq < wm.heap.size := Nat.lt_of_lt_of_le hlh Bm.out.size; obtain ⟨m0, m1, m2, m3, m4, m5⟩ := Km.out.cells; clear hbm))
              all_goals
                have hnl : ∀ i, i < l.length + 1 → NumOf (ws.getD (5 + i) ByteArray.empty) ((l ++ [xm]).getD i 0) := fun i hi => by
                  by_cases him : i = l.length
                  · rw [him, HWm.out, show (l ++ [xm]).getD l.length 0 = xm by simp [List.getD]]; exact hxm
                  · rw [show (l ++ [xm]).getD i 0 = l.getD i 0 by simp [List.getD, List.getElem?_append, show i < l.length by omega]]; exact Hnum.out i (by omega)
                have Hnl := Lib.hid hnl
                have hl1 : (l ++ [xm]).length = l.length + 1 := by simp
                have Hd : Hid (DataS ws 5 bq w1.heap.size (wrQ W0) x (sizeN W1) (burstN W2) true w1 (l.length + 1) (w5.setCell ⟨bq, 5, none⟩ (.slice ad5 (l.length + 1) cap5))) := by
                  refine Lib.hid ⟨ad5, cap5, l ++ [xm], hl1, ?_, ?_, hnl, ((Hbr.out.trans (Bm.out.mono hszr)).trans Hb5.out).setCell hB _⟩
                  · have h1 := Ho5.out
                    rw [hl1] at h1
                    exact own_set_ne h1 (by have h2 := own_ne (T := 35) (by decide) Ho5.out HX5.out; rw [hl1] at h2; exact h2) _
                  · exact blk_set HX5.out 5 _
                clear hnl hxm hl1 Hnl
                go_wp2
                go_roundw
                case rel => exact ⟨l.length + 1, by omega, by go_num, Hd.out⟩
                case measure => simp [intOf]; omega
            · obtain ⟨nr, hnr⟩ : ∃ nr, l.length = nr := ⟨_, rfl⟩
              have Hnr := Lib.hid hnr
              have Hpr : Hid (ParseR ws (wrQ W0) x (sizeN W1) (burstN W2) true l) := by
                refine Lib.hid ⟨by rw [Hn.out]; omega, by rw [E0.out], by rw [E3.out]; exact Hx.out, by rw [E1.out], by rw [E2.out], 5, .inl ⟨rfl, rfl, by rw [Hn.out]; omega, by rw [HW4.out]; exact Hlk.out⟩, by rw [Hn.out]; omega, Hnum.out⟩
              rw [hnr] at Hk Ho g5 hlt hm ⊢
              clear hnr g0 g1 g2 g3 g4 g5 f0 f1 f2 f3 f4 f5
              have RB := Lib.hid (A0.out.below Hbr.out A0.out.lt)
              obtain ⟨g0, g1, g2, g3, g4, g5⟩ := Hk.out.cells
              obtain ⟨r0, r1, r2, r3, r4, r5⟩ := RB.out.warm
              obtain ⟨q0, q1, q2, q3, q4, q5⟩ := RB.out.cells
              have hlow : w.heap.size < w1.heap.size := A0.out.lt
              have hfin : ∀ d0 d1 d2 d3 d4 d5, Below w.heap.size w (fill wr w.heap.size d0 d1 d2 d3 d4 d5) := fun d0 d1 d2 d3 d4 d5 => below_fill (Hb1.out.trans (Hbr.out.mono (Nat.le_of_lt hlow))) (Nat.le_refl _) d0 d1 d2 d3 d4 d5
              have Hfin := Lib.hid hfin
              clear hfin
              go_wp2_with fail
              refine bodyPost_ret (v := .agg #[.bool (wrQ W0), .int .i64 x, .int .i64 (sizeN W1), .int .i64 (burstN W2), .bool true, .slice ad nr cap]) (by simp [results, Tryz.results49, go_sem, q0, q1, q2, q3, q4, q5]) rfl ?_
              have h7 := (fill_low Ho.out hlow (.bool (wrQ W0)) (.int .i64 x) (.int .i64 (sizeN W1)) (.int .i64 (burstN W2)) (.bool true) (.slice ad nr cap)).mono (Nat.le_of_lt hlow)
              exact ⟨_, _, _, _, _, _, l, rfl, h7, Hfin.out _ _ _ _ _ _, Hpr.out⟩
      · have hq : (W4.toList == [108, 111, 99, 107]) = false := by
          rw [beq_eq_false_iff_ne]
          intro e
          apply hlock
          rw [ByteArray.toList_eq] at e
          exact ByteArray.ext (Array.toList_inj.1 e)
        have Hlk := Lib.hid hlock
        clear hlock
        go_wp2_with fail
        go_loopw [41] (fun i wr => ∃ m : Nat, m ≤ (n - 4) ∧ i = .int .i64 m ∧ DataS ws 4 bq w1.heap.size (wrQ W0) x (sizeN W1) (burstN W2) false w1 m wr) (fun i _ => (n - 4) - (intOf i).toNat)
        case atStart => exact ⟨0, by omega, rfl, DataS.start Y3.out Hw3.out⟩
        case round =>
          obtain ⟨m, hm, rfl, ad, cap, l, hl, hown, hblk, hnum, hbr⟩ := hrel
          subst hl
          have Ho := Lib.hid hown
          have Hk := Lib.hid hblk
          have Hnum := Lib.hid hnum
          have Hbr := Lib.hid hbr
          obtain ⟨g0, g1, g2, g3, g4, g5⟩ := hblk.cells
          have hlh := hblk.lt
          clear hown hblk hnum hbr
          by_cases hlt : l.length < (n - 4)
          · obtain ⟨Wm, hWm⟩ : ∃ W, ws.getD (4 + l.length) ByteArray.empty = W := ⟨_, rfl⟩
            have cm := (Hbr.out.cell (p := ⟨g, 4 + l.length, none⟩) hg1).trans ((Hal.out (4 + l.length)).trans (Hcell.out (4 + l.length) (by omega)))
            rw [hWm] at cm
            have HWm := Lib.hid hWm
            have hsm : Hid (Wm.size ≤ 1048576) := Lib.hid (by rw [← hWm]; exact Hsz.out (4 + l.length))
            have hszr : w1.heap.size ≤ wr.heap.size := Hbr.out.size
            have hl8 : Hid (l.length + 1 ≤ 17592186044416) := Lib.hid (by omega)
            have hne := own_ne (T := 35) (by decide) Ho.out Hk.out
            have Hne := Lib.hid hne
            clear hWm hne
            go_wp2_with fail
            go_region_law (first
              | (refine step_of rfl (wp_appI (.tmp 46) (.tmp 49) rfl w1.heap.size (.slice ad l.length cap) l wm _ rfl rfl Om.out hszm hl8.out ?_); intro v5 w5 hown5 hb5 hs5; obtain ⟨ad5, cap5, rfl⟩ := hown5.slice; have X5 := blk_same Km.out (hs5 bq hlm Hne.out); have Ho5 := Lib.hid hown5; have Hb5 := Lib.hid hb5; have HX5 := Lib.hid X5; obtain ⟨k0, k1, k2, k3, k4, k5⟩ := X5.warm; obtain ⟨j0, j1, j2, j3, j4, j5⟩ := X5.cells; clear hown5 hb5 hs5 X5)
              | (refine step_of rfl ?_; unfold Oper.wp; go_simp; go_at_call 69; refine (implNum Wm hsm.out _ (errs_below Herr.out Hbr.out.drew)).mono ?_; rintro e wm ⟨xm, rfl, hxm, hbm⟩; have Bm := Lib.hid ((Below.refl _ wr).drew.trans hbm); have Km := Lib.hid (Hk.out.later Bm.out); have Om := Lib.hid (Ho.out.later Bm.out); have hszm : w1.heap.size ≤ wm.heap.size := Nat.le_trans hszr Bm.out.size; have hlm : bq < wm.heap.size := Nat.lt_of_lt_of_le hlh Bm.out.size; obtain ⟨m0, m1, m2, m3, m4, m5⟩ := Km.out.cells; clear hbm))
            all_goals
              have hnl : ∀ i, i < l.length + 1 → NumOf (ws.getD (4 + i) ByteArray.empty) ((l ++ [xm]).getD i 0) := fun i hi => by
                by_cases him : i = l.length
                · rw [him, HWm.out, show (l ++ [xm]).getD l.length 0 = xm by simp [List.getD]]; exact hxm
                · rw [show (l ++ [xm]).getD i 0 = l.getD i 0 by simp [List.getD, List.getElem?_append, show i < l.length by omega]]; exact Hnum.out i (by omega)
              have Hnl := Lib.hid hnl
              have hl1 : (l ++ [xm]).length = l.length + 1 := by simp
              have Hd : Hid (DataS ws 4 bq w1.heap.size (wrQ W0) x (sizeN W1) (burstN W2) false w1 (l.length + 1) (w5.setCell ⟨bq, 5, none⟩ (.slice ad5 (l.length + 1) cap5))) := by
                refine Lib.hid ⟨ad5, cap5, l ++ [xm], hl1, ?_, ?_, hnl, ((Hbr.out.trans (Bm.out.mono hszr)).trans Hb5.out).setCell hB _⟩
                · have h1 := Ho5.out
                  rw [hl1] at h1
                  exact own_set_ne h1 (by have h2 := own_ne (T := 35) (by decide) Ho5.out HX5.out; rw [hl1] at h2; exact h2) _
                · exact blk_set HX5.out 5 _
              clear hnl hxm hl1 Hnl
              go_wp2
              go_roundw
              case rel => exact ⟨l.length + 1, by omega, by go_num, Hd.out⟩
              case measure => simp [intOf]; omega
          · obtain ⟨nr, hnr⟩ : ∃ nr, l.length = nr := ⟨_, rfl⟩
            have Hnr := Lib.hid hnr
            have Hpr : Hid (ParseR ws (wrQ W0) x (sizeN W1) (burstN W2) false l) := by
              refine Lib.hid ⟨by rw [Hn.out]; omega, by rw [E0.out], by rw [E3.out]; exact Hx.out, by rw [E1.out], by rw [E2.out], 4, .inr ⟨rfl, rfl, fun _ => by rw [HW4.out]; exact Hlk.out⟩, by rw [Hn.out]; omega, Hnum.out⟩
            rw [hnr] at Hk Ho g5 hlt hm ⊢
            clear hnr g0 g1 g2 g3 g4 g5 f0 f1 f2 f3 f4 f5
            have RB := Lib.hid (A0.out.below Hbr.out A0.out.lt)
            obtain ⟨g0, g1, g2, g3, g4, g5⟩ := Hk.out.cells
            obtain ⟨r0, r1, r2, r3, r4, r5⟩ := RB.out.warm
            obtain ⟨q0, q1, q2, q3, q4, q5⟩ := RB.out.cells
            have hlow : w.heap.size < w1.heap.size := A0.out.lt
            have hfin : ∀ d0 d1 d2 d3 d4 d5, Below w.heap.size w (fill wr w.heap.size d0 d1 d2 d3 d4 d5) := fun d0 d1 d2 d3 d4 d5 => below_fill (Hb1.out.trans (Hbr.out.mono (Nat.le_of_lt hlow))) (Nat.le_refl _) d0 d1 d2 d3 d4 d5
            have Hfin := Lib.hid hfin
            clear hfin
            go_wp2_with fail
            refine bodyPost_ret (v := .agg #[.bool (wrQ W0), .int .i64 x, .int .i64 (sizeN W1), .int .i64 (burstN W2), .bool false, .slice ad nr cap]) (by simp [results, Tryz.results49, go_sem, q0, q1, q2, q3, q4, q5]) rfl ?_
            have h7 := (fill_low Ho.out hlow (.bool (wrQ W0)) (.int .i64 x) (.int .i64 (sizeN W1)) (.int .i64 (burstN W2)) (.bool false) (.slice ad nr cap)).mono (Nat.le_of_lt hlow)
            exact ⟨_, _, _, _, _, _, l, rfl, h7, Hfin.out _ _ _ _ _ _, Hpr.out⟩
end Go.Proofs.YtfpnflhkfpolcaaGreatDoor.Num
