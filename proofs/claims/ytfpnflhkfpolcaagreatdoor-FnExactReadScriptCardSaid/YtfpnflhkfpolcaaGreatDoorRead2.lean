
/-
  What the model's ReadReq returns.
-/
import Derived.Test.YtfpnflhkfpolcaaGreatDoorReadM
namespace Go.Proofs.YtfpnflhkfpolcaaGreatDoor.Num
open Go.RowKit Rows3 Bytes

set_option maxHeartbeats 4000000 in
set_option maxRecDepth 100000 in
theorem specRead (s : ByteArray) (hs : s.size ≤ 1048576) (w : World) : Calls Tryz.prog 11 #[.string s] w (ReqP s w) := by
  have hwl := cutW_len s
  obtain ⟨ws, hws⟩ : ∃ ws, cutW s = ws := ⟨_, rfl⟩
  have Hws := Lib.hid hws
  have Hsz : Hid (∀ j, (ws.getD j ByteArray.empty).size ≤ 1048576) := Lib.hid (fun j => by rw [← hws]; exact Nat.le_trans (cutW_size s j) hs)
  rw [hws] at hwl
  obtain ⟨n, hn⟩ : ∃ n, ws.length = n := ⟨_, rfl⟩
  rw [hn] at hwl
  have Hn := Lib.hid hn
  have B0 := Blk.new 35 (.bool false) (.int .i64 0) (.int .i64 0) (.int .i64 0) (.bool false) (.slice none 0 0) w
  clear hws hn
  go_enter Tryz.func11, Tryz.ntmps11
  go_wp2_with fail
  refine (specCut s hs _).mono ?_
  rintro e w1 ⟨v0, rfl, ho, hb1⟩
  rw [Hws.out] at ho
  obtain ⟨g, cp, rfl, hg, hcp, hcells⟩ := ownS_open ho (by rw [Hn.out]; omega)
  rw [Hn.out] at hcp ⊢
  have B1 := Lib.hid (B0.later hb1)
  have Hb1 := Lib.hid (below_alloc1 (Below.refl w.heap.size w) (Nat.le_refl _) hb1)
  have Hc := Lib.hid hcells
  clear ho hb1 hcells B0
  by_cases h4 : n < 4
  · have Hr := Lib.hid (read_short (s := s) (by rw [Hws.out, Hn.out]; exact h4))
    obtain ⟨f0, f1, f2, f3, f4, f5⟩ := B1.out.warm
    obtain ⟨g0, g1, g2, g3, g4, g5⟩ := B1.out.cells
    go_wp2
    refine bodyPost_ret (v := .tuple #[.agg #[.bool false, .int .i64 0, .int .i64 0, .int .i64 0, .bool false, .slice none 0 0], .bool false]) (by simp [results, Tryz.results11, go_sem, g0, g1, g2, g3, g4, g5]) rfl ?_
    exact ReqP.mk rfl (OwnI.nil _ _) (below_fill Hb1.out (Nat.le_refl _) _ _ _ _ _ _) Hr.out
  · have cellOf : ∀ j, j < n → w1.cell? ⟨g, j, none⟩ = some (.string (ws.getD j ByteArray.empty)) := fun j hj => by
      have := Hc.out j (ws.getD j ByteArray.empty) (by rw [List.getD, List.getElem?_eq_getElem (by rw [Hn.out]; exact hj)]; rfl)
      rwa [Nat.zero_add] at this
    obtain ⟨W0, hW0⟩ : ∃ W, ws.getD 0 ByteArray.empty = W := ⟨_, rfl⟩
    obtain ⟨W1, hW1⟩ : ∃ W, ws.getD 1 ByteArray.empty = W := ⟨_, rfl⟩
    obtain ⟨W2, hW2⟩ : ∃ W, ws.getD 2 ByteArray.empty = W := ⟨_, rfl⟩
    obtain ⟨W3, hW3⟩ : ∃ W, ws.getD 3 ByteArray.empty = W := ⟨_, rfl⟩
    have c0 := cellOf 0 (by omega)
    have c1 := cellOf 1 (by omega)
    have c2 := cellOf 2 (by omega)
    have c3 := cellOf 3 (by omega)
    rw [hW0] at c0
    rw [hW1] at c1
    rw [hW2] at c2
    rw [hW3] at c3
    have Hcell := Lib.hid cellOf
    have HW0 : Hid ((W0.toList == [119, 114, 105, 116, 101]) = wrQ W0) := by
      refine Lib.hid ?_
      unfold wrQ
      rw [show ([119, 114, 105, 116, 101] : List UInt8) = (⟨#[119, 114, 105, 116, 101]⟩ : ByteArray).toList by rw [ByteArray.toList_eq]]
      rw [Bool.eq_iff_iff, beq_iff_eq, decide_eq_true_iff, ByteArray.toList_eq, ByteArray.toList_eq]
      exact ⟨fun h => ByteArray.ext (Array.toList_inj.1 h), fun h => by rw [h]⟩
    have E0 := Lib.hid hW0
    have E1 := Lib.hid hW1
    have E2 := Lib.hid hW2
    have E3 := Lib.hid hW3
    have hn0 : 0 < n := by omega
    have hn1 : (1 : Int) < (n : Int) := by omega
    have hn2 : (2 : Int) < (n : Int) := by omega
    have hn3 : (3 : Int) < (n : Int) := by omega
    clear cellOf hW0 hW1 hW2 hW3
    go_wp2_with fail
    refine Inv.region_tail 16 [13, 14, 15, 16, 17, 18, 19, 20, 21, 22, 23, 24, 25, 26, 27, 5] (by kernel_rfl) (by kernel_rfl) (by kernel_rfl) (by kernel_rfl) (by kernel_rfl) (Below w1.heap.size w1) (MkV g n cp w1.heap.size W0 W1 W2) (fun w' w'' => Below w'.heap.size w' w'') (fun i v w' w'' => MkV.later i v w' w'') (none_tail 16 (by kernel_rfl) (fun i v w hi => MkV_big i v w hi)) (Below.refl _ _).drew ?_ ?_
    · clear c3
      intro i o ho hi16 listed a w' s hln hl haft K hK
      match i, ho with
      | 0, ho =>
        simp only [List.getElem?_toArray, List.getElem?_cons_zero, Option.some.injEq] at ho
        subst ho
        have d : a.tmps.getD 4 undef = .slice (some ⟨g, 0, none⟩) n cp := s.other 4 (fun jj _ e => Inv.none_at (t := 4) (by kernel_rfl) e)
        unfold Oper.wp
        go_simp
        exact hK _ _ s.cls (Below.refl _ _) rfl
      | 1, ho =>
        simp only [List.getElem?_toArray, List.getElem?_cons_zero, List.getElem?_cons_succ, Option.some.injEq] at ho
        subst ho
        have d0 : a.tmps.getD 13 undef = .slice (some ⟨g, 0, none⟩) n cp := s.val 0 (by decide) (haft ⟨0, .data⟩ (by simp) rfl)
        unfold Oper.wp
        go_simp
        exact hK _ _ s.cls (Below.refl _ _) rfl
      | 2, ho =>
        simp only [List.getElem?_toArray, List.getElem?_cons_zero, List.getElem?_cons_succ, Option.some.injEq] at ho
        subst ho
        have d1 : a.tmps.getD 14 undef = .pointer (some ⟨g, 0, none⟩) := s.val 1 (by decide) (haft ⟨1, .data⟩ (by simp) rfl)
        have c := (s.cls.cell (p := ⟨g, 0, none⟩) hg).trans c0
        unfold Oper.wp
        go_simp
        exact hK _ _ s.cls (Below.refl _ _) rfl
      | 3, ho =>
        simp only [List.getElem?_toArray, List.getElem?_cons_zero, List.getElem?_cons_succ, Option.some.injEq] at ho
        subst ho
        have d2 : a.tmps.getD 15 undef = .string W0 := s.val 2 (by decide) (haft ⟨2, .data⟩ (by simp) rfl)
        unfold Oper.wp
        go_simp
        exact hK _ _ s.cls (Below.refl _ _) (show Value.bool (W0.toList == [119, 114, 105, 116, 101]) = .bool (wrQ W0) by rw [HW0.out])
      | 4, ho =>
        simp only [List.getElem?_toArray, List.getElem?_cons_zero, List.getElem?_cons_succ, Option.some.injEq] at ho
        subst ho
        unfold Oper.wp
        go_simp
        exact hK _ _ (s.cls.alloc s.cls.size _) ((Below.refl _ _).alloc (Nat.le_refl _) _) (OwnS.full w'.heap.size w' (Nat.le_refl _) [⟨#[98, 121, 116, 101]⟩, ⟨#[104, 97, 108, 102]⟩, ⟨#[119, 111, 114, 100]⟩] 3 rfl (by decide) _ rfl).rd
      | 5, ho =>
        simp only [List.getElem?_toArray, List.getElem?_cons_zero, List.getElem?_cons_succ, Option.some.injEq] at ho
        subst ho
        have d : a.tmps.getD 4 undef = .slice (some ⟨g, 0, none⟩) n cp := s.other 4 (fun jj _ e => Inv.none_at (t := 4) (by kernel_rfl) e)
        unfold Oper.wp
        go_simp
        exact hK _ _ s.cls (Below.refl _ _) rfl
      | 6, ho =>
        simp only [List.getElem?_toArray, List.getElem?_cons_zero, List.getElem?_cons_succ, Option.some.injEq] at ho
        subst ho
        have d5 : a.tmps.getD 18 undef = .slice (some ⟨g, 0, none⟩) n cp := s.val 5 (by decide) (haft ⟨5, .data⟩ (by simp) rfl)
        unfold Oper.wp
        go_simp
        exact hK _ _ s.cls (Below.refl _ _) rfl
      | 7, ho =>
        simp only [List.getElem?_toArray, List.getElem?_cons_zero, List.getElem?_cons_succ, Option.some.injEq] at ho
        subst ho
        have d6 : a.tmps.getD 19 undef = .pointer (some ⟨g, 1, none⟩) := s.val 6 (by decide) (haft ⟨6, .data⟩ (by simp) rfl)
        have c := (s.cls.cell (p := ⟨g, 1, none⟩) hg).trans c1
        unfold Oper.wp
        go_simp
        exact hK _ _ s.cls (Below.refl _ _) rfl
      | 8, ho =>
        simp only [List.getElem?_toArray, List.getElem?_cons_zero, List.getElem?_cons_succ, Option.some.injEq] at ho
        subst ho
        obtain ⟨u, d4⟩ : ∃ u, a.tmps.getD 17 undef = u := ⟨_, rfl⟩
        have hu : RdS u [⟨#[98, 121, 116, 101]⟩, ⟨#[104, 97, 108, 102]⟩, ⟨#[119, 111, 114, 100]⟩] w' := by
          have h := s.val 4 (by decide) (haft ⟨4, .data⟩ (by simp) rfl)
          rw [← d4]; exact h
        have Hu := Lib.hid hu
        clear hu
        have d7 : a.tmps.getD 20 undef = .string W1 := s.val 7 (by decide) (haft ⟨7, .data⟩ (by simp) rfl)
        unfold Oper.wp
        go_simp
        refine (specFind u [⟨#[98, 121, 116, 101]⟩, ⟨#[104, 97, 108, 102]⟩, ⟨#[119, 111, 114, 100]⟩] W1 (by decide) w' Hu.out).mono ?_
        intro e w'' hf
        obtain ⟨rfl, rfl⟩ := find_size hf
        exact hK _ _ s.cls (Below.refl _ _) rfl
      | 9, ho =>
        simp only [List.getElem?_toArray, List.getElem?_cons_zero, List.getElem?_cons_succ, Option.some.injEq] at ho
        subst ho
        unfold Oper.wp
        go_simp
        exact hK _ _ (s.cls.alloc s.cls.size _) ((Below.refl _ _).alloc (Nat.le_refl _) _) (OwnS.full w'.heap.size w' (Nat.le_refl _) [⟨#[111, 110, 101]⟩, ⟨#[102, 111, 117, 114]⟩, ⟨#[119, 114, 97, 112]⟩, ⟨#[101, 105, 103, 104, 116]⟩] 4 rfl (by decide) _ rfl).rd
      | 10, ho =>
        simp only [List.getElem?_toArray, List.getElem?_cons_zero, List.getElem?_cons_succ, Option.some.injEq] at ho
        subst ho
        have d : a.tmps.getD 4 undef = .slice (some ⟨g, 0, none⟩) n cp := s.other 4 (fun jj _ e => Inv.none_at (t := 4) (by kernel_rfl) e)
        unfold Oper.wp
        go_simp
        exact hK _ _ s.cls (Below.refl _ _) rfl
      | 11, ho =>
        simp only [List.getElem?_toArray, List.getElem?_cons_zero, List.getElem?_cons_succ, Option.some.injEq] at ho
        subst ho
        have d10 : a.tmps.getD 23 undef = .slice (some ⟨g, 0, none⟩) n cp := s.val 10 (by decide) (haft ⟨10, .data⟩ (by simp) rfl)
        unfold Oper.wp
        go_simp
        exact hK _ _ s.cls (Below.refl _ _) rfl
      | 12, ho =>
        simp only [List.getElem?_toArray, List.getElem?_cons_zero, List.getElem?_cons_succ, Option.some.injEq] at ho
        subst ho
        have d11 : a.tmps.getD 24 undef = .pointer (some ⟨g, 2, none⟩) := s.val 11 (by decide) (haft ⟨11, .data⟩ (by simp) rfl)
        have c := (s.cls.cell (p := ⟨g, 2, none⟩) hg).trans c2
        unfold Oper.wp
        go_simp
        exact hK _ _ s.cls (Below.refl _ _) rfl
      | 13, ho =>
        simp only [List.getElem?_toArray, List.getElem?_cons_zero, List.getElem?_cons_succ, Option.some.injEq] at ho
        subst ho
        obtain ⟨u, d9⟩ : ∃ u, a.tmps.getD 22 undef = u := ⟨_, rfl⟩
        have hu : RdS u [⟨#[111, 110, 101]⟩, ⟨#[102, 111, 117, 114]⟩, ⟨#[119, 114, 97, 112]⟩, ⟨#[101, 105, 103, 104, 116]⟩] w' := by
          have h := s.val 9 (by decide) (haft ⟨9, .data⟩ (by simp) rfl)
          rw [← d9]; exact h
        have Hu := Lib.hid hu
        clear hu
        have d12 : a.tmps.getD 25 undef = .string W2 := s.val 12 (by decide) (haft ⟨12, .data⟩ (by simp) rfl)
        unfold Oper.wp
        go_simp
        refine (specFind u [⟨#[111, 110, 101]⟩, ⟨#[102, 111, 117, 114]⟩, ⟨#[119, 114, 97, 112]⟩, ⟨#[101, 105, 103, 104, 116]⟩] W2 (by decide) w' Hu.out).mono ?_
        intro e w'' hf
        obtain ⟨rfl, rfl⟩ := find_burst hf
        exact hK _ _ s.cls (Below.refl _ _) rfl
      | 14, ho =>
        simp only [List.getElem?_toArray, List.getElem?_cons_zero, List.getElem?_cons_succ, Option.some.injEq] at ho
        subst ho
        have d3 : a.tmps.getD 16 undef = .bool (wrQ W0) := s.val 3 (by decide) (haft ⟨3, .data⟩ (by simp) rfl)
        have d8 : a.tmps.getD 21 undef = .int .i64 (sizeN W1) := s.val 8 (by decide) (haft ⟨8, .data⟩ (by simp) rfl)
        have d13 : a.tmps.getD 26 undef = .int .i64 (burstN W2) := s.val 13 (by decide) (haft ⟨13, .data⟩ (by simp) rfl)
        rw [Array.getD_eq_getD_getElem?] at d3 d8 d13
        unfold Oper.wp
        go_simp
        exact hK _ _ s.cls (Below.refl _ _) rfl
      | 15, ho =>
        simp only [List.getElem?_toArray, List.getElem?_cons_zero, List.getElem?_cons_succ, Option.some.injEq] at ho
        subst ho
        unfold Oper.wp
        go_simp
        exact hK _ _ (s.cls.alloc s.cls.size _) ((Below.refl _ _).alloc (Nat.le_refl _) _) ⟨w'.heap.size, rfl, s.cls.size, by simp, Blk.new _ _ _ _ _ _ _ w'⟩
      | n + 16, ho => omega
    · intro f w2 o ho hb2 hval
      have h15 : MkV g n cp w1.heap.size W0 W1 W2 15 (f 5) w2 := hval 15 (by decide)
      have h27 : MkV g n cp w1.heap.size W0 W1 W2 14 (f 27) w2 := hval 14 (by decide)
      clear hval
      obtain ⟨bq, h5, hB, hh, hblk⟩ := MkV.at15 h15
      replace h27 := MkV.at14 h27
      clear h15
      simp only [Inv.setAll, List.setIfInBounds_toArray, List.set_cons_zero, List.set_cons_succ]
      rw [h5, h27]
      simp only [List.getElem?_toArray, List.getElem?_cons_zero, List.getElem?_cons_succ, Option.some.injEq] at ho
      subst ho
      obtain ⟨f0, f1, f2, f3, f4, f5⟩ := hblk.warm
      obtain ⟨g0, g1, g2, g3, g4, g5⟩ := hblk.cells
      have Hblk := Lib.hid hblk
      have Hb2 := Lib.hid hb2
      clear h5 h27 hblk hb2
      unfold Oper.wp
      go_simp
      obtain ⟨w3, hw3⟩ : ∃ w3, fill w2 bq (.bool (wrQ W0)) (.int .i64 0) (.int .i64 (sizeN W1)) (.int .i64 (burstN W2)) (.bool false) (.slice none 0 0) = w3 := ⟨_, rfl⟩
      rw [show (((((w2.setCell ⟨bq, 0, none⟩ (.bool (wrQ W0))).setCell ⟨bq, 1, none⟩ (.int .i64 0)).setCell ⟨bq, 2, none⟩ (.int .i64 (sizeN W1))).setCell ⟨bq, 3, none⟩ (.int .i64 (burstN W2))).setCell ⟨bq, 4, none⟩ (.bool false)).setCell ⟨bq, 5, none⟩ (.slice none 0 0) = w3 from hw3]
      have X3 := blk_fill Hblk.out (.bool (wrQ W0)) (.int .i64 0) (.int .i64 (sizeN W1)) (.int .i64 (burstN W2)) (.bool false) (.slice none 0 0)
      have Hb3 := below_fill Hb2.out hB (.bool (wrQ W0)) (.int .i64 0) (.int .i64 (sizeN W1)) (.int .i64 (burstN W2)) (.bool false) (.slice none 0 0)
      rw [hw3] at X3 Hb3
      have Y3 := Lib.hid X3
      have Hw3 := Lib.hid Hb3
      clear hw3 f0 f1 f2 f3 f4 f5 g0 g1 g2 g3 g4 g5 c0 c1 c2
      obtain ⟨f0, f1, f2, f3, f4, f5⟩ := X3.warm
      obtain ⟨g0, g1, g2, g3, g4, g5⟩ := X3.cells
      replace c3 := (Hb3.cell (p := ⟨g, 3, none⟩) hg).trans c3
      have hs3 : W3.size ≤ 1048576 := by rw [← E3.out]; exact Hsz.out 3
      clear X3 Hb3
      go_wp2_with fail
      refine (specNum W3 hs3 _).mono ?_
      rintro e w' ⟨x, rfl, hx, rfl⟩
      have Hx := Lib.hid hx
      clear hx c3
      have Z3 : Blk 35 bq (.bool (wrQ W0)) (.int .i64 x) (.int .i64 (sizeN W1)) (.int .i64 (burstN W2)) (.bool false) (.slice none 0 0) (w3.setCell ⟨bq, 1, none⟩ (.int .i64 x)) := blk_set Y3.out 1 (.int .i64 x)
      have Hz3 := Hw3.out.setCell (p := ⟨bq, 1, none⟩) hB (.int .i64 x)
      have n4 : (4 : Int) ≤ (n : Int) := by omega
      have hn4c : (n : Int) ≤ (cp : Int) := by omega
      have s1 : IntKind.i64.wrap ((n : Int) - 4) = ((n - 4 : Nat) : Int) := by rw [IntWalk.i64_in _ (by omega)]; omega
      have Y4 := Lib.hid Z3
      have Hw4 := Lib.hid Hz3
      by_cases h5 : n = 4
      · clear Z3 Hz3
        by_cases hcp4 : cp = 4
        · go_wp2_with fail
          go_loopw [6] (fun i wr => ∃ m : Nat, m ≤ 0 ∧ i = .int .i64 m ∧ DataS ws 4 bq w1.heap.size (wrQ W0) x (sizeN W1) (burstN W2) false w1 m wr) (fun i _ => 0 - (intOf i).toNat)
          case atStart => exact ⟨0, by omega, rfl, DataS.start Y4.out Hw4.out⟩
          case round =>
            obtain ⟨m, hm, rfl, ad, cap, l, hl, hown, hblk, hnum, hbr⟩ := hrel
            subst hl
            have Ho := Lib.hid hown
            have Hk := Lib.hid hblk
            have Hnum := Lib.hid hnum
            have Hbr := Lib.hid hbr
            obtain ⟨g0, g1, g2, g3, g4, g5⟩ := hblk.cells
            have hlh := hblk.lt
            clear hown hblk hnum hbr
            by_cases hlt : l.length < 0
            · omega
            · obtain ⟨nr, hnr⟩ : ∃ nr, l.length = nr := ⟨_, rfl⟩
              have Hnr := Lib.hid hnr
              have Hpr : Hid (ParseR ws (wrQ W0) x (sizeN W1) (burstN W2) false l) := by
                refine Lib.hid ⟨by rw [Hn.out]; omega, by rw [E0.out], by rw [E3.out]; exact Hx.out, by rw [E1.out], by rw [E2.out], 4, .inr ⟨rfl, rfl, fun h => by rw [Hn.out] at h; omega⟩, by rw [Hn.out]; omega, Hnum.out⟩
              have hl2 : Hid (l.length ≤ 2000000) := Lib.hid (by omega)
              rw [hnr] at Hk Ho g5 hlt hm ⊢
              clear hnr
              go_wp2_with fail
              refine (specText _ _ _ _ _ _ l hl2.out _ (by have h := Ho.out.rd; exact h)).mono ?_
              rintro e w6 ⟨rfl, hb6⟩
              have hb5 := hb6
              have Hb6 := Lib.hid hb6
              have Rk := Lib.hid (Hk.out.later hb6)
              have Ro := Lib.hid (Ho.out.later hb6)
              have Rb := Lib.hid (Hbr.out.trans (hb6.mono Hbr.out.size))
              have RB := Lib.hid (B1.out.below Rb.out B1.out.lt)
              clear hb5 hb6 f0 f1 f2 f3 f4 f5 g0 g1 g2 g3 g4 g5
              obtain ⟨g0, g1, g2, g3, g4, g5⟩ := Rk.out.cells
              obtain ⟨r0, r1, r2, r3, r4, r5⟩ := RB.out.warm
              obtain ⟨q0, q1, q2, q3, q4, q5⟩ := RB.out.cells
              have hlow : w.heap.size < w1.heap.size := B1.out.lt
              have hfin : ∀ d0 d1 d2 d3 d4 d5, Below w.heap.size w (fill w6 w.heap.size d0 d1 d2 d3 d4 d5) := fun d0 d1 d2 d3 d4 d5 => below_fill (Hb1.out.trans (Rb.out.mono Hb1.out.size)) (Nat.le_refl _) d0 d1 d2 d3 d4 d5
              have Hfin := Lib.hid hfin
              clear hfin
              obtain ⟨T, hT⟩ : ∃ T, txtB (wrQ W0) x (sizeN W1) (burstN W2) false l = T := ⟨_, rfl⟩
              rw [hT]
              have HT := Lib.hid hT
              clear hT
              by_cases hTs : T = s
              · have hq2 : (T.toList != s.toList) = false := by rw [hTs]; simp
                have hq3 : (T.toList == s.toList) = true := by rw [hTs]; simp
                have Hq := Lib.hid (rq_true (s := s) (by rw [Hws.out, Hn.out]; omega) (HT.out.trans hTs))
                clear hTs
                go_wp2_with fail
                refine bodyPost_ret (v := .tuple #[.agg #[.bool (wrQ W0), .int .i64 x, .int .i64 (sizeN W1), .int .i64 (burstN W2), .bool false, .slice ad nr cap], .bool true]) (by simp [results, Tryz.results11, go_sem, q0, q1, q2, q3, q4, q5]) rfl ?_
                have h7 := (fill_low Ro.out hlow (.bool (wrQ W0)) (.int .i64 x) (.int .i64 (sizeN W1)) (.int .i64 (burstN W2)) (.bool false) (.slice ad nr cap)).mono (Nat.le_of_lt hlow)
                exact ReqP.mk rfl h7 (Hfin.out _ _ _ _ _ _) Hq.out
              · have hq2 : (T.toList != s.toList) = true := by
                  rw [bne_iff_ne]; intro e; apply hTs
                  rw [ByteArray.toList_eq, ByteArray.toList_eq] at e
                  exact ByteArray.ext (Array.toList_inj.1 e)
                have hq3 : (T.toList == s.toList) = false := by
                  rw [beq_eq_false_iff_ne]; intro e; apply hTs
                  rw [ByteArray.toList_eq, ByteArray.toList_eq] at e
                  exact ByteArray.ext (Array.toList_inj.1 e)
                have Hq := Lib.hid (rq_false (s := s) (by rw [Hws.out]; exact Hpr.out) (fun e => hTs (HT.out.symm.trans e)))
                clear hTs
                go_wp2_with fail
                refine bodyPost_ret (v := .tuple #[.agg #[.bool false, .int .i64 0, .int .i64 0, .int .i64 0, .bool false, .slice none 0 0], .bool false]) (by simp [results, Tryz.results11, go_sem, q0, q1, q2, q3, q4, q5]) rfl ?_
                exact ReqP.mk rfl (OwnI.nil _ _) (Hfin.out _ _ _ _ _ _) Hq.out
        · go_wp2_with fail
          go_loopw [6] (fun i wr => ∃ m : Nat, m ≤ 0 ∧ i = .int .i64 m ∧ DataS ws 4 bq w1.heap.size (wrQ W0) x (sizeN W1) (burstN W2) false w1 m wr) (fun i _ => 0 - (intOf i).toNat)
          case atStart => exact ⟨0, by omega, rfl, DataS.start Y4.out Hw4.out⟩
          case round =>
            obtain ⟨m, hm, rfl, ad, cap, l, hl, hown, hblk, hnum, hbr⟩ := hrel
            subst hl
            have Ho := Lib.hid hown
            have Hk := Lib.hid hblk
            have Hnum := Lib.hid hnum
            have Hbr := Lib.hid hbr
            obtain ⟨g0, g1, g2, g3, g4, g5⟩ := hblk.cells
            have hlh := hblk.lt
            clear hown hblk hnum hbr
            by_cases hlt : l.length < 0
            · omega
            · obtain ⟨nr, hnr⟩ : ∃ nr, l.length = nr := ⟨_, rfl⟩
              have Hnr := Lib.hid hnr
              have Hpr : Hid (ParseR ws (wrQ W0) x (sizeN W1) (burstN W2) false l) := by
                refine Lib.hid ⟨by rw [Hn.out]; omega, by rw [E0.out], by rw [E3.out]; exact Hx.out, by rw [E1.out], by rw [E2.out], 4, .inr ⟨rfl, rfl, fun h => by rw [Hn.out] at h; omega⟩, by rw [Hn.out]; omega, Hnum.out⟩
              have hl2 : Hid (l.length ≤ 2000000) := Lib.hid (by omega)
              rw [hnr] at Hk Ho g5 hlt hm ⊢
              clear hnr
              go_wp2_with fail
              refine (specText _ _ _ _ _ _ l hl2.out _ (by have h := Ho.out.rd; exact h)).mono ?_
              rintro e w6 ⟨rfl, hb6⟩
              have hb5 := hb6
              have Hb6 := Lib.hid hb6
              have Rk := Lib.hid (Hk.out.later hb6)
              have Ro := Lib.hid (Ho.out.later hb6)
              have Rb := Lib.hid (Hbr.out.trans (hb6.mono Hbr.out.size))
              have RB := Lib.hid (B1.out.below Rb.out B1.out.lt)
              clear hb5 hb6 f0 f1 f2 f3 f4 f5 g0 g1 g2 g3 g4 g5
              obtain ⟨g0, g1, g2, g3, g4, g5⟩ := Rk.out.cells
              obtain ⟨r0, r1, r2, r3, r4, r5⟩ := RB.out.warm
              obtain ⟨q0, q1, q2, q3, q4, q5⟩ := RB.out.cells
              have hlow : w.heap.size < w1.heap.size := B1.out.lt
              have hfin : ∀ d0 d1 d2 d3 d4 d5, Below w.heap.size w (fill w6 w.heap.size d0 d1 d2 d3 d4 d5) := fun d0 d1 d2 d3 d4 d5 => below_fill (Hb1.out.trans (Rb.out.mono Hb1.out.size)) (Nat.le_refl _) d0 d1 d2 d3 d4 d5
              have Hfin := Lib.hid hfin
              clear hfin
              obtain ⟨T, hT⟩ : ∃ T, txtB (wrQ W0) x (sizeN W1) (burstN W2) false l = T := ⟨_, rfl⟩
              rw [hT]
              have HT := Lib.hid hT
              clear hT
              by_cases hTs : T = s
              · have hq2 : (T.toList != s.toList) = false := by rw [hTs]; simp
                have hq3 : (T.toList == s.toList) = true := by rw [hTs]; simp
                have Hq := Lib.hid (rq_true (s := s) (by rw [Hws.out, Hn.out]; omega) (HT.out.trans hTs))
                clear hTs
                go_wp2_with fail
                refine bodyPost_ret (v := .tuple #[.agg #[.bool (wrQ W0), .int .i64 x, .int .i64 (sizeN W1), .int .i64 (burstN W2), .bool false, .slice ad nr cap], .bool true]) (by simp [results, Tryz.results11, go_sem, q0, q1, q2, q3, q4, q5]) rfl ?_
                have h7 := (fill_low Ro.out hlow (.bool (wrQ W0)) (.int .i64 x) (.int .i64 (sizeN W1)) (.int .i64 (burstN W2)) (.bool false) (.slice ad nr cap)).mono (Nat.le_of_lt hlow)
                exact ReqP.mk rfl h7 (Hfin.out _ _ _ _ _ _) Hq.out
              · have hq2 : (T.toList != s.toList) = true := by
                  rw [bne_iff_ne]; intro e; apply hTs
                  rw [ByteArray.toList_eq, ByteArray.toList_eq] at e
                  exact ByteArray.ext (Array.toList_inj.1 e)
                have hq3 : (T.toList == s.toList) = false := by
                  rw [beq_eq_false_iff_ne]; intro e; apply hTs
                  rw [ByteArray.toList_eq, ByteArray.toList_eq] at e
                  exact ByteArray.ext (Array.toList_inj.1 e)
                have Hq := Lib.hid (rq_false (s := s) (by rw [Hws.out]; exact Hpr.out) (fun e => hTs (HT.out.symm.trans e)))
                clear hTs
                go_wp2_with fail
                refine bodyPost_ret (v := .tuple #[.agg #[.bool false, .int .i64 0, .int .i64 0, .int .i64 0, .bool false, .slice none 0 0], .bool false]) (by simp [results, Tryz.results11, go_sem, q0, q1, q2, q3, q4, q5]) rfl ?_
                exact ReqP.mk rfl (OwnI.nil _ _) (Hfin.out _ _ _ _ _ _) Hq.out
      · obtain ⟨W4, hW4⟩ : ∃ W, ws.getD 4 ByteArray.empty = W := ⟨_, rfl⟩
        have c4 := (Hz3.cell (p := ⟨g, 4, none⟩) hg).trans (Hcell.out 4 (by omega))
        rw [hW4] at c4
        have HW4 := Lib.hid hW4
        have hcp4 : ¬ cp = 4 := by omega
        have hn4 : 0 < n - 4 := by omega
        have hnc : n - 4 ≤ cp - 4 := by omega
        clear hW4
        by_cases hlock : W4 = ⟨#[108, 111, 99, 107]⟩
        · have hq : (W4.toList == [108, 111, 99, 107]) = true := by rw [hlock, ByteArray.toList_eq]; rfl
          have Hlk := Lib.hid hlock
          have Y5 := Lib.hid (blk_set Z3 4 (.bool true))
          have Hw5 := Lib.hid (Hz3.setCell (p := ⟨bq, 4, none⟩) hB (.bool true))
          have n1 : 1 ≤ n - 4 := by omega
          clear Z3 Hz3 hlock
          by_cases hcp5 : cp - 4 = 1
          · have hn5 : n = 5 := by omega
            subst hn5
            go_wp2_with fail
            go_loopw [6] (fun i wr => ∃ m : Nat, m ≤ 0 ∧ i = .int .i64 m ∧ DataS ws 5 bq w1.heap.size (wrQ W0) x (sizeN W1) (burstN W2) true w1 m wr) (fun i _ => 0 - (intOf i).toNat)
            case atStart => exact ⟨0, by omega, rfl, DataS.start Y5.out Hw5.out⟩
            case round =>
              obtain ⟨m, hm, rfl, ad, cap, l, hl, hown, hblk, hnum, hbr⟩ := hrel
              subst hl
              have Ho := Lib.hid hown
              have Hk := Lib.hid hblk
              have Hnum := Lib.hid hnum
              have Hbr := Lib.hid hbr
              obtain ⟨g0, g1, g2, g3, g4, g5⟩ := hblk.cells
              have hlh := hblk.lt
              clear hown hblk hnum hbr
              by_cases hlt : l.length < 0
              · omega
              · obtain ⟨nr, hnr⟩ : ∃ nr, l.length = nr := ⟨_, rfl⟩
                have Hnr := Lib.hid hnr
                have Hpr : Hid (ParseR ws (wrQ W0) x (sizeN W1) (burstN W2) true l) := by
                  refine Lib.hid ⟨by rw [Hn.out]; omega, by rw [E0.out], by rw [E3.out]; exact Hx.out, by rw [E1.out], by rw [E2.out], 5, .inl ⟨rfl, rfl, by rw [Hn.out]; omega, by rw [HW4.out]; exact Hlk.out⟩, by rw [Hn.out]; omega, Hnum.out⟩
                have hl2 : Hid (l.length ≤ 2000000) := Lib.hid (by omega)
                rw [hnr] at Hk Ho g5 hlt hm ⊢
                clear hnr
                go_wp2_with fail
                refine (specText _ _ _ _ _ _ l hl2.out _ (by have h := Ho.out.rd; exact h)).mono ?_
                rintro e w6 ⟨rfl, hb6⟩
                have hb5 := hb6
                have Hb6 := Lib.hid hb6
                have Rk := Lib.hid (Hk.out.later hb6)
                have Ro := Lib.hid (Ho.out.later hb6)
                have Rb := Lib.hid (Hbr.out.trans (hb6.mono Hbr.out.size))
                have RB := Lib.hid (B1.out.below Rb.out B1.out.lt)
                clear hb5 hb6 f0 f1 f2 f3 f4 f5 g0 g1 g2 g3 g4 g5
                obtain ⟨g0, g1, g2, g3, g4, g5⟩ := Rk.out.cells
                obtain ⟨r0, r1, r2, r3, r4, r5⟩ := RB.out.warm
                obtain ⟨q0, q1, q2, q3, q4, q5⟩ := RB.out.cells
                have hlow : w.heap.size < w1.heap.size := B1.out.lt
                have hfin : ∀ d0 d1 d2 d3 d4 d5, Below w.heap.size w (fill w6 w.heap.size d0 d1 d2 d3 d4 d5) := fun d0 d1 d2 d3 d4 d5 => below_fill (Hb1.out.trans (Rb.out.mono Hb1.out.size)) (Nat.le_refl _) d0 d1 d2 d3 d4 d5
                have Hfin := Lib.hid hfin
                clear hfin
                obtain ⟨T, hT⟩ : ∃ T, txtB (wrQ W0) x (sizeN W1) (burstN W2) true l = T := ⟨_, rfl⟩
                rw [hT]
                have HT := Lib.hid hT
                clear hT
                by_cases hTs : T = s
                · have hq2 : (T.toList != s.toList) = false := by rw [hTs]; simp
                  have hq3 : (T.toList == s.toList) = true := by rw [hTs]; simp
                  have Hq := Lib.hid (rq_true (s := s) (by rw [Hws.out, Hn.out]; omega) (HT.out.trans hTs))
                  clear hTs
                  go_wp2_with fail
                  refine bodyPost_ret (v := .tuple #[.agg #[.bool (wrQ W0), .int .i64 x, .int .i64 (sizeN W1), .int .i64 (burstN W2), .bool true, .slice ad nr cap], .bool true]) (by simp [results, Tryz.results11, go_sem, q0, q1, q2, q3, q4, q5]) rfl ?_
                  have h7 := (fill_low Ro.out hlow (.bool (wrQ W0)) (.int .i64 x) (.int .i64 (sizeN W1)) (.int .i64 (burstN W2)) (.bool true) (.slice ad nr cap)).mono (Nat.le_of_lt hlow)
                  exact ReqP.mk rfl h7 (Hfin.out _ _ _ _ _ _) Hq.out
                · have hq2 : (T.toList != s.toList) = true := by
                    rw [bne_iff_ne]; intro e; apply hTs
                    rw [ByteArray.toList_eq, ByteArray.toList_eq] at e
                    exact ByteArray.ext (Array.toList_inj.1 e)
                  have hq3 : (T.toList == s.toList) = false := by
                    rw [beq_eq_false_iff_ne]; intro e; apply hTs
                    rw [ByteArray.toList_eq, ByteArray.toList_eq] at e
                    exact ByteArray.ext (Array.toList_inj.1 e)
                  have Hq := Lib.hid (rq_false (s := s) (by rw [Hws.out]; exact Hpr.out) (fun e => hTs (HT.out.symm.trans e)))
                  clear hTs
                  go_wp2_with fail
                  refine bodyPost_ret (v := .tuple #[.agg #[.bool false, .int .i64 0, .int .i64 0, .int .i64 0, .bool false, .slice none 0 0], .bool false]) (by simp [results, Tryz.results11, go_sem, q0, q1, q2, q3, q4, q5]) rfl ?_
                  exact ReqP.mk rfl (OwnI.nil _ _) (Hfin.out _ _ _ _ _ _) Hq.out
          · go_wp2_with fail
            go_loopw [6] (fun i wr => ∃ m : Nat, m ≤ (n - 4 - 1) ∧ i = .int .i64 m ∧ DataS ws 5 bq w1.heap.size (wrQ W0) x (sizeN W1) (burstN W2) true w1 m wr) (fun i _ => (n - 4 - 1) - (intOf i).toNat)
            case atStart => exact ⟨0, by omega, rfl, DataS.start Y5.out Hw5.out⟩
            case round =>
              obtain ⟨m, hm, rfl, ad, cap, l, hl, hown, hblk, hnum, hbr⟩ := hrel
              subst hl
              have Ho := Lib.hid hown
              have Hk := Lib.hid hblk
              have Hnum := Lib.hid hnum
              have Hbr := Lib.hid hbr
              obtain ⟨g0, g1, g2, g3, g4, g5⟩ := hblk.cells
              have hlh := hblk.lt
              clear hown hblk hnum hbr
              by_cases hlt : l.length < (n - 4 - 1)
              · obtain ⟨Wm, hWm⟩ : ∃ W, ws.getD (5 + l.length) ByteArray.empty = W := ⟨_, rfl⟩
                have cm := (Hbr.out.cell (p := ⟨g, 5 + l.length, none⟩) hg).trans (Hcell.out (5 + l.length) (by omega))
                rw [hWm] at cm
                have HWm := Lib.hid hWm
                have hsm : Hid (Wm.size ≤ 1048576) := Lib.hid (by rw [← hWm]; exact Hsz.out (5 + l.length))
                have hszr : w1.heap.size ≤ wr.heap.size := Hbr.out.size
                have hl8 : Hid (l.length + 1 ≤ 17592186044416) := Lib.hid (by omega)
                have hne := own_ne (T := 35) (by decide) Ho.out Hk.out
                have Hne := Lib.hid hne
                clear hWm hne
                go_wp2_with fail
                go_region_law (first
                  | (refine step_of rfl (wp_appI (.tmp 54) (.tmp 60) rfl w1.heap.size (.slice ad l.length cap) l wr.drew _ rfl rfl Ho.out hszr hl8.out ?_); intro v5 w5 hown5 hb5 hs5; obtain ⟨ad5, cap5, rfl⟩ := hown5.slice; have X5 := blk_same Hk.out (hs5 bq hlh Hne.out); have Ho5 := Lib.hid hown5; have Hb5 := Lib.hid hb5; have HX5 := Lib.hid X5; obtain ⟨k0, k1, k2, k3, k4, k5⟩ := X5.warm; obtain ⟨j0, j1, j2, j3, j4, j5⟩ := X5.cells; clear hown5 hb5 hs5 X5)
                  | (refine step_of rfl ?_; unfold Oper.wp; go_simp; go_at_call 21; refine (specNum Wm hsm.out _).mono ?_; rintro e w' ⟨xm, rfl, hxm, rfl⟩))
                all_goals
                  have hnl : ∀ i, i < l.length + 1 → NumOf (ws.getD (5 + i) ByteArray.empty) ((l ++ [xm]).getD i 0) := fun i hi => by
                    by_cases him : i = l.length
                    · rw [him, HWm.out, show (l ++ [xm]).getD l.length 0 = xm by simp [List.getD]]; exact hxm
                    · rw [show (l ++ [xm]).getD i 0 = l.getD i 0 by simp [List.getD, List.getElem?_append, show i < l.length by omega]]; exact Hnum.out i (by omega)
                  have Hnl := Lib.hid hnl
                  have hl1 : (l ++ [xm]).length = l.length + 1 := by simp
                  have Hd : Hid (DataS ws 5 bq w1.heap.size (wrQ W0) x (sizeN W1) (burstN W2) true w1 (l.length + 1) (w5.setCell ⟨bq, 5, none⟩ (.slice ad5 (l.length + 1) cap5))) := by
                    refine Lib.hid ⟨ad5, cap5, l ++ [xm], hl1, ?_, ?_, hnl, (Hbr.out.trans (Below.drew (Below.refl _ _) |>.trans Hb5.out)).setCell hB _⟩
                    · have h1 := Ho5.out
                      rw [hl1] at h1
                      exact own_set_ne h1 (by have h2 := own_ne (T := 35) (by decide) Ho5.out HX5.out; rw [hl1] at h2; exact h2) _
                    · exact blk_set HX5.out 5 _
                  clear hnl hxm hl1 Hnl
                  go_wp2
                  go_roundw
                  case rel => exact ⟨l.length + 1, by omega, by go_num, Hd.out⟩
                  case measure => simp [intOf]; omega
              · obtain ⟨nr, hnr⟩ : ∃ nr, l.length = nr := ⟨_, rfl⟩
                have Hnr := Lib.hid hnr
                have Hpr : Hid (ParseR ws (wrQ W0) x (sizeN W1) (burstN W2) true l) := by
                  refine Lib.hid ⟨by rw [Hn.out]; omega, by rw [E0.out], by rw [E3.out]; exact Hx.out, by rw [E1.out], by rw [E2.out], 5, .inl ⟨rfl, rfl, by rw [Hn.out]; omega, by rw [HW4.out]; exact Hlk.out⟩, by rw [Hn.out]; omega, Hnum.out⟩
                have hl2 : Hid (l.length ≤ 2000000) := Lib.hid (by omega)
                rw [hnr] at Hk Ho g5 hlt hm ⊢
                clear hnr
                go_wp2_with fail
                refine (specText _ _ _ _ _ _ l hl2.out _ (by have h := Ho.out.rd; exact h)).mono ?_
                rintro e w6 ⟨rfl, hb6⟩
                have hb5 := hb6
                have Hb6 := Lib.hid hb6
                have Rk := Lib.hid (Hk.out.later hb6)
                have Ro := Lib.hid (Ho.out.later hb6)
                have Rb := Lib.hid (Hbr.out.trans (hb6.mono Hbr.out.size))
                have RB := Lib.hid (B1.out.below Rb.out B1.out.lt)
                clear hb5 hb6 f0 f1 f2 f3 f4 f5 g0 g1 g2 g3 g4 g5
                obtain ⟨g0, g1, g2, g3, g4, g5⟩ := Rk.out.cells
                obtain ⟨r0, r1, r2, r3, r4, r5⟩ := RB.out.warm
                obtain ⟨q0, q1, q2, q3, q4, q5⟩ := RB.out.cells
                have hlow : w.heap.size < w1.heap.size := B1.out.lt
                have hfin : ∀ d0 d1 d2 d3 d4 d5, Below w.heap.size w (fill w6 w.heap.size d0 d1 d2 d3 d4 d5) := fun d0 d1 d2 d3 d4 d5 => below_fill (Hb1.out.trans (Rb.out.mono Hb1.out.size)) (Nat.le_refl _) d0 d1 d2 d3 d4 d5
                have Hfin := Lib.hid hfin
                clear hfin
                obtain ⟨T, hT⟩ : ∃ T, txtB (wrQ W0) x (sizeN W1) (burstN W2) true l = T := ⟨_, rfl⟩
                rw [hT]
                have HT := Lib.hid hT
                clear hT
                by_cases hTs : T = s
                · have hq2 : (T.toList != s.toList) = false := by rw [hTs]; simp
                  have hq3 : (T.toList == s.toList) = true := by rw [hTs]; simp
                  have Hq := Lib.hid (rq_true (s := s) (by rw [Hws.out, Hn.out]; omega) (HT.out.trans hTs))
                  clear hTs
                  go_wp2_with fail
                  refine bodyPost_ret (v := .tuple #[.agg #[.bool (wrQ W0), .int .i64 x, .int .i64 (sizeN W1), .int .i64 (burstN W2), .bool true, .slice ad nr cap], .bool true]) (by simp [results, Tryz.results11, go_sem, q0, q1, q2, q3, q4, q5]) rfl ?_
                  have h7 := (fill_low Ro.out hlow (.bool (wrQ W0)) (.int .i64 x) (.int .i64 (sizeN W1)) (.int .i64 (burstN W2)) (.bool true) (.slice ad nr cap)).mono (Nat.le_of_lt hlow)
                  exact ReqP.mk rfl h7 (Hfin.out _ _ _ _ _ _) Hq.out
                · have hq2 : (T.toList != s.toList) = true := by
                    rw [bne_iff_ne]; intro e; apply hTs
                    rw [ByteArray.toList_eq, ByteArray.toList_eq] at e
                    exact ByteArray.ext (Array.toList_inj.1 e)
                  have hq3 : (T.toList == s.toList) = false := by
                    rw [beq_eq_false_iff_ne]; intro e; apply hTs
                    rw [ByteArray.toList_eq, ByteArray.toList_eq] at e
                    exact ByteArray.ext (Array.toList_inj.1 e)
                  have Hq := Lib.hid (rq_false (s := s) (by rw [Hws.out]; exact Hpr.out) (fun e => hTs (HT.out.symm.trans e)))
                  clear hTs
                  go_wp2_with fail
                  refine bodyPost_ret (v := .tuple #[.agg #[.bool false, .int .i64 0, .int .i64 0, .int .i64 0, .bool false, .slice none 0 0], .bool false]) (by simp [results, Tryz.results11, go_sem, q0, q1, q2, q3, q4, q5]) rfl ?_
                  exact ReqP.mk rfl (OwnI.nil _ _) (Hfin.out _ _ _ _ _ _) Hq.out
        · have hq : (W4.toList == [108, 111, 99, 107]) = false := by
            rw [beq_eq_false_iff_ne]
            intro e
            apply hlock
            rw [ByteArray.toList_eq] at e
            exact ByteArray.ext (Array.toList_inj.1 e)
          have Hlk := Lib.hid hlock
          clear Z3 Hz3 hlock
          go_wp2_with fail
          go_loopw [6] (fun i wr => ∃ m : Nat, m ≤ (n - 4) ∧ i = .int .i64 m ∧ DataS ws 4 bq w1.heap.size (wrQ W0) x (sizeN W1) (burstN W2) false w1 m wr) (fun i _ => (n - 4) - (intOf i).toNat)
          case atStart => exact ⟨0, by omega, rfl, DataS.start Y4.out Hw4.out⟩
          case round =>
            obtain ⟨m, hm, rfl, ad, cap, l, hl, hown, hblk, hnum, hbr⟩ := hrel
            subst hl
            have Ho := Lib.hid hown
            have Hk := Lib.hid hblk
            have Hnum := Lib.hid hnum
            have Hbr := Lib.hid hbr
            obtain ⟨g0, g1, g2, g3, g4, g5⟩ := hblk.cells
            have hlh := hblk.lt
            clear hown hblk hnum hbr
            by_cases hlt : l.length < (n - 4)
            · obtain ⟨Wm, hWm⟩ : ∃ W, ws.getD (4 + l.length) ByteArray.empty = W := ⟨_, rfl⟩
              have cm := (Hbr.out.cell (p := ⟨g, 4 + l.length, none⟩) hg).trans (Hcell.out (4 + l.length) (by omega))
              rw [hWm] at cm
              have HWm := Lib.hid hWm
              have hsm : Hid (Wm.size ≤ 1048576) := Lib.hid (by rw [← hWm]; exact Hsz.out (4 + l.length))
              have hszr : w1.heap.size ≤ wr.heap.size := Hbr.out.size
              have hl8 : Hid (l.length + 1 ≤ 17592186044416) := Lib.hid (by omega)
              have hne := own_ne (T := 35) (by decide) Ho.out Hk.out
              have Hne := Lib.hid hne
              clear hWm hne
              go_wp2_with fail
              go_region_law (first
                | (refine step_of rfl (wp_appI (.tmp 54) (.tmp 60) rfl w1.heap.size (.slice ad l.length cap) l wr.drew _ rfl rfl Ho.out hszr hl8.out ?_); intro v5 w5 hown5 hb5 hs5; obtain ⟨ad5, cap5, rfl⟩ := hown5.slice; have X5 := blk_same Hk.out (hs5 bq hlh Hne.out); have Ho5 := Lib.hid hown5; have Hb5 := Lib.hid hb5; have HX5 := Lib.hid X5; obtain ⟨k0, k1, k2, k3, k4, k5⟩ := X5.warm; obtain ⟨j0, j1, j2, j3, j4, j5⟩ := X5.cells; clear hown5 hb5 hs5 X5)
                | (refine step_of rfl ?_; unfold Oper.wp; go_simp; go_at_call 21; refine (specNum Wm hsm.out _).mono ?_; rintro e w' ⟨xm, rfl, hxm, rfl⟩))
              all_goals
                have hnl : ∀ i, i < l.length + 1 → NumOf (ws.getD (4 + i) ByteArray.empty) ((l ++ [xm]).getD i 0) := fun i hi => by
                  by_cases him : i = l.length
                  · rw [him, HWm.out, show (l ++ [xm]).getD l.length 0 = xm by simp [List.getD]]; exact hxm
                  · rw [show (l ++ [xm]).getD i 0 = l.getD i 0 by simp [List.getD, List.getElem?_append, show i < l.length by omega]]; exact Hnum.out i (by omega)
                have Hnl := Lib.hid hnl
                have hl1 : (l ++ [xm]).length = l.length + 1 := by simp
                have Hd : Hid (DataS ws 4 bq w1.heap.size (wrQ W0) x (sizeN W1) (burstN W2) false w1 (l.length + 1) (w5.setCell ⟨bq, 5, none⟩ (.slice ad5 (l.length + 1) cap5))) := by
                  refine Lib.hid ⟨ad5, cap5, l ++ [xm], hl1, ?_, ?_, hnl, (Hbr.out.trans (Below.drew (Below.refl _ _) |>.trans Hb5.out)).setCell hB _⟩
                  · have h1 := Ho5.out
                    rw [hl1] at h1
                    exact own_set_ne h1 (by have h2 := own_ne (T := 35) (by decide) Ho5.out HX5.out; rw [hl1] at h2; exact h2) _
                  · exact blk_set HX5.out 5 _
                clear hnl hxm hl1 Hnl
                go_wp2
                go_roundw
                case rel => exact ⟨l.length + 1, by omega, by go_num, Hd.out⟩
                case measure => simp [intOf]; omega
            · obtain ⟨nr, hnr⟩ : ∃ nr, l.length = nr := ⟨_, rfl⟩
              have Hnr := Lib.hid hnr
              have Hpr : Hid (ParseR ws (wrQ W0) x (sizeN W1) (burstN W2) false l) := by
                refine Lib.hid ⟨by rw [Hn.out]; omega, by rw [E0.out], by rw [E3.out]; exact Hx.out, by rw [E1.out], by rw [E2.out], 4, .inr ⟨rfl, rfl, fun _ => by rw [HW4.out]; exact Hlk.out⟩, by rw [Hn.out]; omega, Hnum.out⟩
              have hl2 : Hid (l.length ≤ 2000000) := Lib.hid (by omega)
              rw [hnr] at Hk Ho g5 hlt hm ⊢
              clear hnr
              go_wp2_with fail
              refine (specText _ _ _ _ _ _ l hl2.out _ (by have h := Ho.out.rd; exact h)).mono ?_
              rintro e w6 ⟨rfl, hb6⟩
              have hb5 := hb6
              have Hb6 := Lib.hid hb6
              have Rk := Lib.hid (Hk.out.later hb6)
              have Ro := Lib.hid (Ho.out.later hb6)
              have Rb := Lib.hid (Hbr.out.trans (hb6.mono Hbr.out.size))
              have RB := Lib.hid (B1.out.below Rb.out B1.out.lt)
              clear hb5 hb6 f0 f1 f2 f3 f4 f5 g0 g1 g2 g3 g4 g5
              obtain ⟨g0, g1, g2, g3, g4, g5⟩ := Rk.out.cells
              obtain ⟨r0, r1, r2, r3, r4, r5⟩ := RB.out.warm
              obtain ⟨q0, q1, q2, q3, q4, q5⟩ := RB.out.cells
              have hlow : w.heap.size < w1.heap.size := B1.out.lt
              have hfin : ∀ d0 d1 d2 d3 d4 d5, Below w.heap.size w (fill w6 w.heap.size d0 d1 d2 d3 d4 d5) := fun d0 d1 d2 d3 d4 d5 => below_fill (Hb1.out.trans (Rb.out.mono Hb1.out.size)) (Nat.le_refl _) d0 d1 d2 d3 d4 d5
              have Hfin := Lib.hid hfin
              clear hfin
              obtain ⟨T, hT⟩ : ∃ T, txtB (wrQ W0) x (sizeN W1) (burstN W2) false l = T := ⟨_, rfl⟩
              rw [hT]
              have HT := Lib.hid hT
              clear hT
              by_cases hTs : T = s
              · have hq2 : (T.toList != s.toList) = false := by rw [hTs]; simp
                have hq3 : (T.toList == s.toList) = true := by rw [hTs]; simp
                have Hq := Lib.hid (rq_true (s := s) (by rw [Hws.out, Hn.out]; omega) (HT.out.trans hTs))
                clear hTs
                go_wp2_with fail
                refine bodyPost_ret (v := .tuple #[.agg #[.bool (wrQ W0), .int .i64 x, .int .i64 (sizeN W1), .int .i64 (burstN W2), .bool false, .slice ad nr cap], .bool true]) (by simp [results, Tryz.results11, go_sem, q0, q1, q2, q3, q4, q5]) rfl ?_
                have h7 := (fill_low Ro.out hlow (.bool (wrQ W0)) (.int .i64 x) (.int .i64 (sizeN W1)) (.int .i64 (burstN W2)) (.bool false) (.slice ad nr cap)).mono (Nat.le_of_lt hlow)
                exact ReqP.mk rfl h7 (Hfin.out _ _ _ _ _ _) Hq.out
              · have hq2 : (T.toList != s.toList) = true := by
                  rw [bne_iff_ne]; intro e; apply hTs
                  rw [ByteArray.toList_eq, ByteArray.toList_eq] at e
                  exact ByteArray.ext (Array.toList_inj.1 e)
                have hq3 : (T.toList == s.toList) = false := by
                  rw [beq_eq_false_iff_ne]; intro e; apply hTs
                  rw [ByteArray.toList_eq, ByteArray.toList_eq] at e
                  exact ByteArray.ext (Array.toList_inj.1 e)
                have Hq := Lib.hid (rq_false (s := s) (by rw [Hws.out]; exact Hpr.out) (fun e => hTs (HT.out.symm.trans e)))
                clear hTs
                go_wp2_with fail
                refine bodyPost_ret (v := .tuple #[.agg #[.bool false, .int .i64 0, .int .i64 0, .int .i64 0, .bool false, .slice none 0 0], .bool false]) (by simp [results, Tryz.results11, go_sem, q0, q1, q2, q3, q4, q5]) rfl ?_
                exact ReqP.mk rfl (OwnI.nil _ _) (Hfin.out _ _ _ _ _ _) Hq.out
end Go.Proofs.YtfpnflhkfpolcaaGreatDoor.Num
