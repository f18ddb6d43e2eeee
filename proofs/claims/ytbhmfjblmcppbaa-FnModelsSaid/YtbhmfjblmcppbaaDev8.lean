
/-
  A word of the device read or written: the model's DevDo. (Made by wip/gdev8.py.)
-/
import Derived.Test.YtbhmfjblmcppbaaDev7
namespace Go.Proofs.Ytbhmfjblmcppbaa.KD
open Go.RowKit Rows3 GR Num
set_option linter.unusedVariables false

theorem in12_is {a : Int} {R : Bool} (h : regB a = R) (hm : a % 4 = 0) (w : World) : Calls Try.prog 37 #[.int .i64 a, .int .i64 0, .int .i64 12] w fun e w' => e = .returned (.bool R) ∧ w = w' := by
  have hi := regB_iff a
  rw [h] at hi
  cases R with
  | true => have := hi.1 rfl; exact sl1In_yes _ _ _ (by omega) (by omega) _
  | false =>
    have hn : ¬ (a = 0 ∨ a = 4 ∨ a = 8 ∨ a = 12) := fun h => by have := hi.2 h; cases this
    exact sl1In_no _ _ _ (by omega) _
theorem qWordE (v : Int) (u : Bool) (h : wordB v = u) (w : World) : Calls Try.prog 37 #[.int .i64 v, .int .i64 0, .int .i64 4294967295] w fun e w' => e = .returned (.bool u) ∧ w = w' := by
  rw [← h]; exact specIn v 2 4294967295 rfl w
theorem doD_odd {wr : Bool} {a v : Int} {r : List Int} {t : Int} {f : List Int} (h : ¬ a % 4 = 0) : doD wr a v r t f = ((r, t, f), 0, false) := by
  have hg : regB a = false := by rw [← Bool.not_eq_true, regB_iff]; omega
  cases ho : okD r t f with
  | false => exact doD_bad ho
  | true =>
    cases wr with
    | true =>
      rw [doD_w ho]
      cases hv : wordB v with
      | false => exact doW_bad hv
      | true => exact doW_no hv hg (by omega) (by omega)
    | false => rw [doD_r ho]; exact doR_no hg (by omega) (by omega)
set_option maxHeartbeats 16000000 in
set_option maxRecDepth 100000 in
theorem specDevDo (cs : List Value) (wr : Bool) (a v : Int) (r : List Int) (t : Int) (f : List Int) (hr : r.length ≤ 2000000) (hf : f.length ≤ 2000000) (w : World) (h : devK.rd cs (r, t, f) w) :
    Calls Try.prog 41 #[agg cs, .bool wr, .int .i64 a, .int .i64 v] w (DoPost w.heap.size (doD wr a v r t f) w) := by
  obtain ⟨c0, q0, c2, q2, rfl, _, _, _, _⟩ := rd_dev h
  obtain ⟨n, hn⟩ : ∃ n, r.length = n := ⟨_, rfl⟩
  obtain ⟨m, hm⟩ : ∃ m, f.length = m := ⟨_, rfl⟩
  rw [hn, hm] at h ⊢
  have HN := Lib.hid hn
  have HM := Lib.hid hm
  have hlr := Lib.hid hr
  have hlf := Lib.hid hf
  have H := Lib.hid h
  clear h hn hm hr hf
  have hsz : ∀ (w : World) o, (w.alloc o).heap.size = w.heap.size + 1 := fun w o => by simp
  have A0 := Lib.hid ((Bx.new 26 #[.slice c0 n q0, .int .i64 t, .slice c2 m q2] w).alloc (Obj.cells #[.slice none 0 0, .int .i64 0, .slice none 0 0] 26))
  have B0 := Bx.new 26 #[.slice none 0 0, .int .i64 0, .slice none 0 0] (w.alloc (Obj.cells #[.slice c0 n q0, .int .i64 t, .slice c2 m q2] 26))
  rw [hsz] at B0
  have X0 := Lib.hid B0
  have HB0 := Lib.hid (((Below.refl w.heap.size w).alloc (Nat.le_refl _) (Obj.cells #[.slice c0 n q0, .int .i64 t, .slice c2 m q2] 26)).alloc (by simp) (Obj.cells #[.slice none 0 0, .int .i64 0, .slice none 0 0] 26))
  clear B0 hsz
  obtain ⟨O, hO⟩ : ∃ O, okD r t f = O := ⟨_, rfl⟩
  have HO := Lib.hid hO
  obtain ⟨D, hD⟩ : ∃ D, doD wr a v r t f = D := ⟨_, rfl⟩
  have HD := Lib.hid hD
  rw [hD]
  clear hO hD
  show Calls _ _ #[.agg #[.slice c0 n q0, .int .i64 t, .slice c2 m q2], .bool wr, .int .i64 a, .int .i64 v] w _
  go_enter Try.func41, Try.ntmps41
  go_wp2_with fail
  generalize (w.alloc (Obj.cells #[.slice c0 n q0, .int .i64 t, .slice c2 m q2] 26)).alloc (Obj.cells #[.slice none 0 0, .int .i64 0, .slice none 0 0] 26) = y0 at A0 X0 HB0 ⊢
  refine (specCopyDev [.slice c0 n q0, .int .i64 t, .slice c2 m q2] r t f hlr.out hlf.out _ (devK.rd_later H.out HB0.out)).mono ?_
  rintro e y1 ⟨rv, fv, rfl, ho, hb⟩
  obtain ⟨a0, p0, e0⟩ := ho.1.slice
  obtain ⟨a2, p2, e2⟩ := ho.2.1.slice
  rw [HN.out] at e0
  rw [HM.out] at e2
  subst e0 e2
  have ab := (Below.refl y1.heap.size y1).alloc (Nat.le_refl _) (Obj.cells #[.slice a0 n p0, .int .i64 t, .slice a2 m p2] 26)
  have A1 := Lib.hid ((A0.out.later hb).later ab)
  have X1 := Lib.hid ((X0.out.later hb).later ab)
  have N1 := Lib.hid (Bx.new 26 #[.slice a0 n p0, .int .i64 t, .slice a2 m p2] y1)
  have HB1 := Lib.hid ((HB0.out.trans (hb.mono HB0.out.size)).trans (ab.mono (Nat.le_trans HB0.out.size hb.size)))
  have O1 := Lib.hid (ho.later ab)
  have Hlt0 := Lib.hid (show ∀ k, (Value.slice a0 n p0).ownBlock = some k → y0.heap.size ≤ k ∧ k < y1.heap.size from fun k hk => World.ownsRow.lt ho.1 k hk)
  have Hlt2 := Lib.hid (show ∀ k, (Value.slice a2 m p2).ownBlock = some k → y0.heap.size ≤ k ∧ k < y1.heap.size from fun k hk => World.ownsRow.lt ho.2.1 k hk)
  have hlt : w.heap.size + 1 < y0.heap.size := X0.out.lt
  have hlt1 : y0.heap.size ≤ y1.heap.size := hb.size
  obtain ⟨b, hbb⟩ : ∃ b, y1.heap.size = b := ⟨_, rfl⟩
  obtain ⟨g0, g1, g2⟩ := cells3 (A0.out.later hb)
  obtain ⟨j0, j1, j2⟩ := cells3 A1.out
  clear ho hb ab
  go_wp2_with fail
  clear g0 g1 g2 j0 j1 j2
  generalize y1.alloc (Obj.cells #[.slice a0 n p0, .int .i64 t, .slice a2 m p2] 26) = y2 at A1 X1 N1 HB1 O1 ⊢
  refine (specDevOk [.slice c0 n q0, .int .i64 t, .slice c2 m q2] r t f hlr.out hlf.out _ (devK.rd_later H.out HB1.out)).mono ?_
  rintro e y3 ⟨rfl, hb⟩
  rw [HO.out]
  have N3 := Lib.hid (N1.out.later hb)
  have X3 := Lib.hid (X1.out.later hb)
  have HB3 := Lib.hid (HB1.out.trans (hb.mono HB1.out.size))
  have O3 := Lib.hid (O1.out.later hb)
  rw [hbb] at N3 Hlt0 Hlt2 hlt1
  obtain ⟨g0, g1, g2⟩ := cells3 N3.out
  obtain ⟨k0, k1, k2⟩ := cells3 X3.out
  have z0 := X3.out.warm 0
  have z1 := X3.out.warm 1
  have z2 := X3.out.warm 2
  have hbn : w.heap.size + 1 < b := by omega
  clear hb hbb A0 A1 N1 X0 X1 HB0 HB1 O1 H
  cases O with
  | false =>
    have hd : D = ((r, t, f), 0, false) := HD.out.symm.trans (doD_bad HO.out)
    subst hd
    clear HD
    go_wp2_with fail
    obtain ⟨e0, e1, e2⟩ := cells3 ((Bx.three X3.out (.slice a0 n p0) (.int .i64 (t)) (.slice a2 m p2)))
    refine bodyPost_ret (v := .tuple #[.agg #[.slice a0 n p0, .int .i64 (t), .slice a2 m p2], .int .i64 (0), .bool false]) (by simp [results, Try.results41, go_sem, e0, e1, e2]) rfl ⟨_, rfl, ?_, ?_⟩
    · refine ((OwnDev.turn2 O3.out (G := fun k => k = w.heap.size + 1) ?_ (fun k h1 h2 => ?_) (fun k h1 h2 => ?_)).mono (by omega)).cap hlr.out hlf.out
      · iterate 3 refine Turn.set (F := fun k => k = w.heap.size + 1) ?_ rfl _
        exact Turn.refl _ _
      · have := (Hlt0.out k h1).1; omega
      · have := (Hlt2.out k h1).1; omega
    · iterate 3 refine Below.setCell ?_ (by first | omega | (dsimp only; omega)) _
      exact HB3.out
  | true =>
    obtain ⟨hr4, hf4, ht0, ht1⟩ := okD_facts HO.out
    have HR4 := Lib.hid hr4
    have HF4 := Lib.hid hf4
    clear hr4 hf4
    by_cases hm4 : a % 4 = 0
    · have hmt : Int.tmod a 4 = 0 := Int.tmod_eq_zero_of_dvd (Int.dvd_of_emod_eq_zero hm4)
      have hmb : (Int.tmod a 4 != 0) = false := by simp [hmt]
      have Hm4 := Lib.hid hm4
      obtain ⟨V, hV⟩ : ∃ V, wordB v = V := ⟨_, rfl⟩
      have HV := Lib.hid hV
      obtain ⟨R, hR⟩ : ∃ R, regB a = R := ⟨_, rfl⟩
      have HRg := Lib.hid hR
      clear hm4
      cases wr with
      | true =>
        cases V with
        | false =>
          have hd : D = ((r, t, f), 0, false) := HD.out.symm.trans (by rw [doD_w HO.out, doW_bad hV])
          subst hd
          clear HD hV hR hmt
          go_wp2_with (first
            | (go_at_call 38; refine (specLimit _ _).mono ?_; rintro e w' ⟨rfl, rfl⟩; simp only [show limW 2 = 4294967296 from rfl])
            | (go_at_call 37; first
              | (with_reducible refine (qWordE v _ HV.out _).mono ?_; rintro e w' ⟨rfl, rfl⟩)
              | (with_reducible refine (in12_is HRg.out Hm4.out _).mono ?_; rintro e w' ⟨rfl, rfl⟩)))
          obtain ⟨e0, e1, e2⟩ := cells3 ((Bx.three X3.out (.slice a0 n p0) (.int .i64 (t)) (.slice a2 m p2)))
          refine bodyPost_ret (v := .tuple #[.agg #[.slice a0 n p0, .int .i64 (t), .slice a2 m p2], .int .i64 (0), .bool false]) (by simp [results, Try.results41, go_sem, e0, e1, e2]) rfl ⟨_, rfl, ?_, ?_⟩
          · refine ((OwnDev.turn2 O3.out (G := fun k => k = w.heap.size + 1) ?_ (fun k h1 h2 => ?_) (fun k h1 h2 => ?_)).mono (by omega)).cap hlr.out hlf.out
            · iterate 3 refine Turn.set (F := fun k => k = w.heap.size + 1) ?_ rfl _
              exact Turn.refl _ _
            · have := (Hlt0.out k h1).1; omega
            · have := (Hlt2.out k h1).1; omega
          · iterate 3 refine Below.setCell ?_ (by first | omega | (dsimp only; omega)) _
            exact HB3.out
        | true =>
          cases R with
          | true =>
            obtain rfl : n = 4 := by rw [← HN.out, HR4.out]
            obtain ⟨j, hj, rfl, hja⟩ : ∃ j : Nat, j < 4 ∧ a = 4 * (j : Int) ∧ (a / 4).toNat = j := by
              rw [regB_iff] at hR
              rcases hR with rfl | rfl | rfl | rfl
              · exact ⟨0, by omega, rfl, rfl⟩
              · exact ⟨1, by omega, rfl, rfl⟩
              · exact ⟨2, by omega, rfl, rfl⟩
              · exact ⟨3, by omega, rfl, rfl⟩
            have hd : D = ((r.set j v, t, f), v, true) := HD.out.symm.trans (by rw [doD_w HO.out, doW_reg hV hR, hja])
            subst hd
            obtain ⟨g, rfl⟩ : ∃ g, a0 = some ⟨g, 0, none⟩ := by
              rcases O3.out.1.2 with ⟨e, h0⟩ | ⟨g, cp, cur, e, _⟩
              · cases e
              · injection e with e _ _; exact ⟨g, e⟩
            have hg1 : g < b := (Hlt0.out g rfl).2
            have hg2 : w.heap.size + 1 < g := by have := (Hlt0.out g rfl).1; omega
            have hjl : j < r.length := by rw [HR4.out]; exact hj
            have hc := O3.out.1.cell (i := j) hjl
            have hw := O3.out.1.frozen j
            have hq : Int.tdiv (4 * (j : Int)) 4 = (j : Int) := Int.mul_tdiv_cancel_left _ (by omega)
            generalize r.getD j 0 = y at hc
            clear HD hR hjl hV hja hmt
            go_wp2_with (first
              | (go_at_call 38; refine (specLimit _ _).mono ?_; rintro e w' ⟨rfl, rfl⟩; simp only [show limW 2 = 4294967296 from rfl])
              | (go_at_call 37; first
                | (with_reducible refine (qWordE v _ HV.out _).mono ?_; rintro e w' ⟨rfl, rfl⟩)
                | (with_reducible refine (in12_is HRg.out Hm4.out _).mono ?_; rintro e w' ⟨rfl, rfl⟩)))
            have XF := X3.out.far (p := ⟨g, j, none⟩) (by dsimp only; omega) (.int .i64 v)
            have OF : OwnDev y0.heap.size (.slice (some ⟨g, 0, none⟩) 4 p0) (.slice a2 m p2) (r.set j v) f (y3.setCell ⟨g, j, none⟩ (.int .i64 v)) :=
              ⟨O3.out.1.set j v, own_turn O3.out.2.1 (Turn.set (F := fun k => k = g) (Turn.refl _ _) rfl _) (fun k hk he => O3.out.2.2 g rfl (by rw [hk, he])), O3.out.2.2⟩
            obtain ⟨e0, e1, e2⟩ := cells3 ((Bx.three XF (.slice (some ⟨g, 0, none⟩) 4 p0) (.int .i64 (t)) (.slice a2 m p2)))
            refine bodyPost_ret (v := .tuple #[.agg #[.slice (some ⟨g, 0, none⟩) 4 p0, .int .i64 (t), .slice a2 m p2], .int .i64 (v), .bool true]) (by simp [results, Try.results41, go_sem, e0, e1, e2]) rfl ⟨_, rfl, ?_, ?_⟩
            · refine ((OwnDev.turn2 OF (G := fun k => k = w.heap.size + 1) ?_ (fun k h1 h2 => ?_) (fun k h1 h2 => ?_)).mono (by omega)).cap (by rw [List.length_set]; exact hlr.out) hlf.out
              · iterate 3 refine Turn.set (F := fun k => k = w.heap.size + 1) ?_ rfl _
                exact Turn.refl _ _
              · have := (Hlt0.out k h1).1; omega
              · have := (Hlt2.out k h1).1; omega
            · iterate 3 refine Below.setCell ?_ (by first | omega | (dsimp only; omega)) _
              exact HB3.out.setCell (p := ⟨g, j, none⟩) (by dsimp only; omega) _
          | false =>
            by_cases h16 : a = 16
            · subst h16
              have hd : D = ((r, v, f), v, true) := HD.out.symm.trans (by rw [doD_w HO.out, doW_tim hV])
              subst hd
              have y1 := N3.out.warm 1
              clear HD hR hV hmt
              go_wp2_with (first
                | (go_at_call 38; refine (specLimit _ _).mono ?_; rintro e w' ⟨rfl, rfl⟩; simp only [show limW 2 = 4294967296 from rfl])
                | (go_at_call 37; first
                  | (with_reducible refine (qWordE v _ HV.out _).mono ?_; rintro e w' ⟨rfl, rfl⟩)
                  | (with_reducible refine (in12_is HRg.out Hm4.out _).mono ?_; rintro e w' ⟨rfl, rfl⟩)))
              have XF := X3.out.far (p := ⟨b, 1, none⟩) (by dsimp only; omega) (.int .i64 v)
              have OF := OwnDev.turn2 O3.out (Turn.set (p := ⟨b, 1, none⟩) (F := fun k => k = b) (Turn.refl _ _) rfl (.int .i64 v)) (fun k h1 h2 => by have := (Hlt0.out k h1).2; omega) (fun k h1 h2 => by have := (Hlt2.out k h1).2; omega)
              obtain ⟨e0, e1, e2⟩ := cells3 ((Bx.three XF (.slice a0 n p0) (.int .i64 (v)) (.slice a2 m p2)))
              refine bodyPost_ret (v := .tuple #[.agg #[.slice a0 n p0, .int .i64 (v), .slice a2 m p2], .int .i64 (v), .bool true]) (by simp [results, Try.results41, go_sem, e0, e1, e2]) rfl ⟨_, rfl, ?_, ?_⟩
              · refine ((OwnDev.turn2 OF (G := fun k => k = w.heap.size + 1) ?_ (fun k h1 h2 => ?_) (fun k h1 h2 => ?_)).mono (by omega)).cap hlr.out hlf.out
                · iterate 3 refine Turn.set (F := fun k => k = w.heap.size + 1) ?_ rfl _
                  exact Turn.refl _ _
                · have := (Hlt0.out k h1).1; omega
                · have := (Hlt2.out k h1).1; omega
              · iterate 3 refine Below.setCell ?_ (by first | omega | (dsimp only; omega)) _
                exact HB3.out.setCell (p := ⟨b, 1, none⟩) (by dsimp only; omega) _
            · have hg16 : (a == 16) = false := by simpa using h16
              by_cases h20 : a = 20 ∧ m < 4
              · obtain ⟨rfl, hm3⟩ := h20
                have hd : D = ((r, t, f ++ [v]), v, true) := HD.out.symm.trans (by rw [doD_w HO.out, doW_fif hV (by rw [HM.out]; exact hm3)])
                subst hd
                obtain ⟨m1, hm1⟩ : ∃ m1, (f ++ [v]).length = m1 := ⟨_, rfl⟩
                have Hm1 := Lib.hid hm1
                have hBy : y0.heap.size ≤ y3.heap.size := by have := N3.out.lt; omega
                have hla : f.length + 1 ≤ 17592186044416 := by have := hlf.out; omega
                clear HD hR hV hmt hm1 h16
                go_wp2_with (first
                  | (go_at_call 38; refine (specLimit _ _).mono ?_; rintro e w' ⟨rfl, rfl⟩; simp only [show limW 2 = 4294967296 from rfl])
                  | (go_at_call 37; first
                    | (with_reducible refine (qWordE v _ HV.out _).mono ?_; rintro e w' ⟨rfl, rfl⟩)
                    | (with_reducible refine (in12_is HRg.out Hm4.out _).mono ?_; rintro e w' ⟨rfl, rfl⟩))
                  | (at_builtin; refine appIg rfl _ _ rfl y0.heap.size (.slice a2 m p2) f y3 v rfl rfl O3.out.2.1 hBy hla ?_; intro v' y4 ho hg hp; have Ho := Lib.hid ho; have Hg := Lib.hid hg; have Hp := Lib.hid hp; clear hp; obtain ⟨b2, q2, e2⟩ := ho.slice; rw [Hm1.out] at e2; subst e2; have N4 : Hid (Bx 26 b #[.slice a0 n p0, .int .i64 t, .slice a2 m p2] y4) := Lib.hid ((hg.block _ N3.out.lt (fun e => by have := (Hlt2.out _ e.symm).2; omega)).trans N3.out); have X4 : Hid (Bx 26 (w.heap.size + 1) #[.slice none 0 0, .int .i64 0, .slice none 0 0] y4) := Lib.hid ((hg.block _ X3.out.lt (fun e => by have := (Hlt2.out _ e.symm).1; omega)).trans X3.out); obtain ⟨q0', q1', q2'⟩ := cells3 N4.out; obtain ⟨l0, l1, l2⟩ := cells3 X4.out; have x0 := X4.out.warm 0; have x1 := X4.out.warm 1; have x2 := X4.out.warm 2; have y2' := N4.out.warm 2; clear ho hg))
                have XF := X4.out.far (p := ⟨b, 2, none⟩) (by dsimp only; omega) (.slice b2 m1 q2)
                have hb3 : b < y3.heap.size := N3.out.lt
                have hnew : ∀ k, (Value.slice b2 m1 q2).ownBlock = some k → y0.heap.size ≤ k ∧ k ≠ b := fun k hk => by
                  rcases Hp.out k hk with h1 | h1
                  · have := Hlt2.out k h1; omega
                  · omega
                have O4 : OwnDev y0.heap.size (.slice a0 n p0) (.slice b2 m1 q2) r (f ++ [v]) y4 :=
                  ⟨O3.out.1.far Hg.out (fun k h1 e => O3.out.2.2 k h1 e.symm), Ho.out, fun k h1 h2 => by
                    rcases Hp.out k h2 with h3 | h3
                    · exact O3.out.2.2 k h1 h3
                    · have := (Hlt0.out k h1).2; omega⟩
                have OF := OwnDev.turn2 O4 (Turn.set (p := ⟨b, 2, none⟩) (F := fun k => k = b) (Turn.refl _ _) rfl (.slice b2 m1 q2)) (fun k h1 h2 => by have := (Hlt0.out k h1).2; omega) (fun k h1 h2 => (hnew k h1).2 h2)
                obtain ⟨e0, e1, e2⟩ := cells3 ((Bx.three XF (.slice a0 n p0) (.int .i64 (t)) (.slice b2 m1 q2)))
                refine bodyPost_ret (v := .tuple #[.agg #[.slice a0 n p0, .int .i64 (t), .slice b2 m1 q2], .int .i64 (v), .bool true]) (by simp [results, Try.results41, go_sem, e0, e1, e2]) rfl ⟨_, rfl, ?_, ?_⟩
                · refine ((OwnDev.turn2 OF (G := fun k => k = w.heap.size + 1) ?_ (fun k h1 h2 => ?_) (fun k h1 h2 => ?_)).mono (by omega)).cap hlr.out (by rw [List.length_append]; have := HF4.out; simp; omega)
                  · iterate 3 refine Turn.set (F := fun k => k = w.heap.size + 1) ?_ rfl _
                    exact Turn.refl _ _
                  · have := (Hlt0.out k h1).1; omega
                  · have := hnew k h1; omega
                · iterate 3 refine Below.setCell ?_ (by first | omega | (dsimp only; omega)) _
                  exact (HB3.out.grown Hg.out (by omega) (fun k hk => by have := (Hlt2.out k hk).1; omega)).setCell (p := ⟨b, 2, none⟩) (by dsimp only; omega) _
              · have hd : D = ((r, t, f), 0, false) := HD.out.symm.trans (by rw [doD_w HO.out, doW_no hV hR h16 (by rw [HM.out]; exact h20)])
                subst hd
                clear HD hR hV hmt
                by_cases h20a : a = 20
                · subst h20a
                  have hm3 : ¬ (m : Int) < 4 := by omega
                  go_wp2_with (first
                    | (go_at_call 38; refine (specLimit _ _).mono ?_; rintro e w' ⟨rfl, rfl⟩; simp only [show limW 2 = 4294967296 from rfl])
                    | (go_at_call 37; first
                      | (with_reducible refine (qWordE v _ HV.out _).mono ?_; rintro e w' ⟨rfl, rfl⟩)
                      | (with_reducible refine (in12_is HRg.out Hm4.out _).mono ?_; rintro e w' ⟨rfl, rfl⟩)))
                  obtain ⟨e0, e1, e2⟩ := cells3 ((Bx.three X3.out (.slice a0 n p0) (.int .i64 (t)) (.slice a2 m p2)))
                  refine bodyPost_ret (v := .tuple #[.agg #[.slice a0 n p0, .int .i64 (t), .slice a2 m p2], .int .i64 (0), .bool false]) (by simp [results, Try.results41, go_sem, e0, e1, e2]) rfl ⟨_, rfl, ?_, ?_⟩
                  · refine ((OwnDev.turn2 O3.out (G := fun k => k = w.heap.size + 1) ?_ (fun k h1 h2 => ?_) (fun k h1 h2 => ?_)).mono (by omega)).cap hlr.out hlf.out
                    · iterate 3 refine Turn.set (F := fun k => k = w.heap.size + 1) ?_ rfl _
                      exact Turn.refl _ _
                    · have := (Hlt0.out k h1).1; omega
                    · have := (Hlt2.out k h1).1; omega
                  · iterate 3 refine Below.setCell ?_ (by first | omega | (dsimp only; omega)) _
                    exact HB3.out
                · have hg20 : (a == 20) = false := by simpa using h20a
                  go_wp2_with (first
                    | (go_at_call 38; refine (specLimit _ _).mono ?_; rintro e w' ⟨rfl, rfl⟩; simp only [show limW 2 = 4294967296 from rfl])
                    | (go_at_call 37; first
                      | (with_reducible refine (qWordE v _ HV.out _).mono ?_; rintro e w' ⟨rfl, rfl⟩)
                      | (with_reducible refine (in12_is HRg.out Hm4.out _).mono ?_; rintro e w' ⟨rfl, rfl⟩)))
                  obtain ⟨e0, e1, e2⟩ := cells3 ((Bx.three X3.out (.slice a0 n p0) (.int .i64 (t)) (.slice a2 m p2)))
                  refine bodyPost_ret (v := .tuple #[.agg #[.slice a0 n p0, .int .i64 (t), .slice a2 m p2], .int .i64 (0), .bool false]) (by simp [results, Try.results41, go_sem, e0, e1, e2]) rfl ⟨_, rfl, ?_, ?_⟩
                  · refine ((OwnDev.turn2 O3.out (G := fun k => k = w.heap.size + 1) ?_ (fun k h1 h2 => ?_) (fun k h1 h2 => ?_)).mono (by omega)).cap hlr.out hlf.out
                    · iterate 3 refine Turn.set (F := fun k => k = w.heap.size + 1) ?_ rfl _
                      exact Turn.refl _ _
                    · have := (Hlt0.out k h1).1; omega
                    · have := (Hlt2.out k h1).1; omega
                  · iterate 3 refine Below.setCell ?_ (by first | omega | (dsimp only; omega)) _
                    exact HB3.out
      | false =>
        clear hV HV
        cases R with
        | true =>
          obtain rfl : n = 4 := by rw [← HN.out, HR4.out]
          obtain ⟨g, rfl⟩ : ∃ g, a0 = some ⟨g, 0, none⟩ := by
            rcases O3.out.1.2 with ⟨e, h0⟩ | ⟨g, cp, cur, e, _⟩
            · cases e
            · injection e with e _ _; exact ⟨g, e⟩
          have hg1 : g < b := (Hlt0.out g rfl).2
          have hg2 : w.heap.size + 1 < g := by have := (Hlt0.out g rfl).1; omega
          have hcc := fun j (hj : j < 4) => O3.out.1.cell (i := j) (by rw [HR4.out]; exact hj)
          have Hcc := Lib.hid hcc
          clear hcc hmt hmb
          have hRR := hR
          rw [regB_iff] at hRR
          rcases hRR with rfl | rfl | rfl | rfl
          · obtain ⟨y, hy⟩ : ∃ y, r.getD 0 0 = y := ⟨_, rfl⟩
            have hd : D = ((r, t, f), y, true) := HD.out.symm.trans (by rw [doD_r HO.out, doR_reg hR, ← hy]; rfl)
            subst hd
            have hc := Hcc.out 0 (by omega)
            rw [hy] at hc
            clear hy
            clear HD hR
            go_wp2_with (first
              | (go_at_call 37; with_reducible refine (in12_is HRg.out Hm4.out _).mono ?_; rintro e w' ⟨rfl, rfl⟩)
              | fail)
            go_region
            go_wp2_with fail
            obtain ⟨e0, e1, e2⟩ := cells3 (Bx.drew (Bx.three X3.out (.slice (some ⟨g, 0, none⟩) 4 p0) (.int .i64 (t)) (.slice a2 m p2)))
            refine bodyPost_ret (v := .tuple #[.agg #[.slice (some ⟨g, 0, none⟩) 4 p0, .int .i64 (t), .slice a2 m p2], .int .i64 (y), .bool true]) (by simp [results, Try.results41, go_sem, e0, e1, e2]) rfl ⟨_, rfl, ?_, ?_⟩
            · refine ((OwnDev.turn2 O3.out (G := fun k => k = w.heap.size + 1) ?_ (fun k h1 h2 => ?_) (fun k h1 h2 => ?_)).mono (by omega)).cap hlr.out hlf.out
              · refine Turn.drew ?_
                iterate 3 refine Turn.set (F := fun k => k = w.heap.size + 1) ?_ rfl _
                exact Turn.refl _ _
              · have := (Hlt0.out k h1).1; omega
              · have := (Hlt2.out k h1).1; omega
            · refine Below.drew ?_
              iterate 3 refine Below.setCell ?_ (by first | omega | (dsimp only; omega)) _
              exact HB3.out
          · obtain ⟨y, hy⟩ : ∃ y, r.getD 1 0 = y := ⟨_, rfl⟩
            have hd : D = ((r, t, f), y, true) := HD.out.symm.trans (by rw [doD_r HO.out, doR_reg hR, ← hy]; rfl)
            subst hd
            have hc := Hcc.out 1 (by omega)
            rw [hy] at hc
            clear hy
            clear HD hR
            go_wp2_with (first
              | (go_at_call 37; with_reducible refine (in12_is HRg.out Hm4.out _).mono ?_; rintro e w' ⟨rfl, rfl⟩)
              | fail)
            go_region
            go_wp2_with fail
            obtain ⟨e0, e1, e2⟩ := cells3 (Bx.drew (Bx.three X3.out (.slice (some ⟨g, 0, none⟩) 4 p0) (.int .i64 (t)) (.slice a2 m p2)))
            refine bodyPost_ret (v := .tuple #[.agg #[.slice (some ⟨g, 0, none⟩) 4 p0, .int .i64 (t), .slice a2 m p2], .int .i64 (y), .bool true]) (by simp [results, Try.results41, go_sem, e0, e1, e2]) rfl ⟨_, rfl, ?_, ?_⟩
            · refine ((OwnDev.turn2 O3.out (G := fun k => k = w.heap.size + 1) ?_ (fun k h1 h2 => ?_) (fun k h1 h2 => ?_)).mono (by omega)).cap hlr.out hlf.out
              · refine Turn.drew ?_
                iterate 3 refine Turn.set (F := fun k => k = w.heap.size + 1) ?_ rfl _
                exact Turn.refl _ _
              · have := (Hlt0.out k h1).1; omega
              · have := (Hlt2.out k h1).1; omega
            · refine Below.drew ?_
              iterate 3 refine Below.setCell ?_ (by first | omega | (dsimp only; omega)) _
              exact HB3.out
          · obtain ⟨y, hy⟩ : ∃ y, r.getD 2 0 = y := ⟨_, rfl⟩
            have hd : D = ((r, t, f), y, true) := HD.out.symm.trans (by rw [doD_r HO.out, doR_reg hR, ← hy]; rfl)
            subst hd
            have hc := Hcc.out 2 (by omega)
            rw [hy] at hc
            clear hy
            clear HD hR
            go_wp2_with (first
              | (go_at_call 37; with_reducible refine (in12_is HRg.out Hm4.out _).mono ?_; rintro e w' ⟨rfl, rfl⟩)
              | fail)
            go_region
            go_wp2_with fail
            obtain ⟨e0, e1, e2⟩ := cells3 (Bx.drew (Bx.three X3.out (.slice (some ⟨g, 0, none⟩) 4 p0) (.int .i64 (t)) (.slice a2 m p2)))
            refine bodyPost_ret (v := .tuple #[.agg #[.slice (some ⟨g, 0, none⟩) 4 p0, .int .i64 (t), .slice a2 m p2], .int .i64 (y), .bool true]) (by simp [results, Try.results41, go_sem, e0, e1, e2]) rfl ⟨_, rfl, ?_, ?_⟩
            · refine ((OwnDev.turn2 O3.out (G := fun k => k = w.heap.size + 1) ?_ (fun k h1 h2 => ?_) (fun k h1 h2 => ?_)).mono (by omega)).cap hlr.out hlf.out
              · refine Turn.drew ?_
                iterate 3 refine Turn.set (F := fun k => k = w.heap.size + 1) ?_ rfl _
                exact Turn.refl _ _
              · have := (Hlt0.out k h1).1; omega
              · have := (Hlt2.out k h1).1; omega
            · refine Below.drew ?_
              iterate 3 refine Below.setCell ?_ (by first | omega | (dsimp only; omega)) _
              exact HB3.out
          · obtain ⟨y, hy⟩ : ∃ y, r.getD 3 0 = y := ⟨_, rfl⟩
            have hd : D = ((r, t, f), y, true) := HD.out.symm.trans (by rw [doD_r HO.out, doR_reg hR, ← hy]; rfl)
            subst hd
            have hc := Hcc.out 3 (by omega)
            rw [hy] at hc
            clear hy
            clear HD hR
            go_wp2_with (first
              | (go_at_call 37; with_reducible refine (in12_is HRg.out Hm4.out _).mono ?_; rintro e w' ⟨rfl, rfl⟩)
              | fail)
            go_region
            go_wp2_with fail
            obtain ⟨e0, e1, e2⟩ := cells3 (Bx.drew (Bx.three X3.out (.slice (some ⟨g, 0, none⟩) 4 p0) (.int .i64 (t)) (.slice a2 m p2)))
            refine bodyPost_ret (v := .tuple #[.agg #[.slice (some ⟨g, 0, none⟩) 4 p0, .int .i64 (t), .slice a2 m p2], .int .i64 (y), .bool true]) (by simp [results, Try.results41, go_sem, e0, e1, e2]) rfl ⟨_, rfl, ?_, ?_⟩
            · refine ((OwnDev.turn2 O3.out (G := fun k => k = w.heap.size + 1) ?_ (fun k h1 h2 => ?_) (fun k h1 h2 => ?_)).mono (by omega)).cap hlr.out hlf.out
              · refine Turn.drew ?_
                iterate 3 refine Turn.set (F := fun k => k = w.heap.size + 1) ?_ rfl _
                exact Turn.refl _ _
              · have := (Hlt0.out k h1).1; omega
              · have := (Hlt2.out k h1).1; omega
            · refine Below.drew ?_
              iterate 3 refine Below.setCell ?_ (by first | omega | (dsimp only; omega)) _
              exact HB3.out
        | false =>
          by_cases h16 : a = 16
          · subst h16
            obtain ⟨T, hT⟩ : ∃ T, (t + 1) % 4294967296 = T := ⟨_, rfl⟩
            have hd : D = ((r, T, f), t, true) := HD.out.symm.trans (by rw [doD_r HO.out, doR_tim, hT])
            subst hd
            have HT := Lib.hid hT
            have hTm : Int.tmod (t + 1) 4294967296 = T := by rw [← hT]; exact Int.tmod_eq_emod_of_nonneg (by omega)
            clear hT
            have y1 := N3.out.warm 1
            clear HD hR hmt
            go_wp2_with (first
              | (go_at_call 38; refine (specLimit _ _).mono ?_; rintro e w' ⟨rfl, rfl⟩; simp only [show limW 2 = 4294967296 from rfl])
              | (go_at_call 37; with_reducible refine (in12_is HRg.out Hm4.out _).mono ?_; rintro e w' ⟨rfl, rfl⟩))
            have XF := X3.out.far (p := ⟨b, 1, none⟩) (by dsimp only; omega) (.int .i64 T)
            have OF := OwnDev.turn2 O3.out (Turn.set (p := ⟨b, 1, none⟩) (F := fun k => k = b) (Turn.refl _ _) rfl (.int .i64 T)) (fun k h1 h2 => by have := (Hlt0.out k h1).2; omega) (fun k h1 h2 => by have := (Hlt2.out k h1).2; omega)
            obtain ⟨e0, e1, e2⟩ := cells3 ((Bx.three XF (.slice a0 n p0) (.int .i64 (T)) (.slice a2 m p2)))
            refine bodyPost_ret (v := .tuple #[.agg #[.slice a0 n p0, .int .i64 (T), .slice a2 m p2], .int .i64 (t), .bool true]) (by simp [results, Try.results41, go_sem, e0, e1, e2]) rfl ⟨_, rfl, ?_, ?_⟩
            · refine ((OwnDev.turn2 OF (G := fun k => k = w.heap.size + 1) ?_ (fun k h1 h2 => ?_) (fun k h1 h2 => ?_)).mono (by omega)).cap hlr.out hlf.out
              · iterate 3 refine Turn.set (F := fun k => k = w.heap.size + 1) ?_ rfl _
                exact Turn.refl _ _
              · have := (Hlt0.out k h1).1; omega
              · have := (Hlt2.out k h1).1; omega
            · iterate 3 refine Below.setCell ?_ (by first | omega | (dsimp only; omega)) _
              exact HB3.out.setCell (p := ⟨b, 1, none⟩) (by dsimp only; omega) _
          · have hg16 : (a == 16) = false := by simpa using h16
            by_cases h20 : a = 20 ∧ 0 < m
            · obtain ⟨rfl, hm3⟩ := h20
              obtain ⟨y, hy⟩ : ∃ y, f.getD 0 0 = y := ⟨_, rfl⟩
              have hd : D = ((r, t, f.tail), y, true) := HD.out.symm.trans (by rw [doD_r HO.out, doR_fif (by rw [HM.out]; exact hm3), hy])
              subst hd
              clear HD hR hmt h16
              obtain ⟨g, rfl⟩ : ∃ g, a2 = some ⟨g, 0, none⟩ := by
                rcases O3.out.2.1.2 with ⟨e, h0⟩ | ⟨g, cp, cur, e, _⟩
                · injection e with _ e _; omega
                · injection e with e _ _; exact ⟨g, e⟩
              have hg1 : g < b := (Hlt2.out g rfl).2
              have hg2 : w.heap.size + 1 < g := by have := (Hlt2.out g rfl).1; omega
              have hmp : m ≤ p2 ∧ p2 ≤ 9223372036854775807 := by
                exact own_bd O3.out.2.1 _ _ _ rfl
              have hm4' : m ≤ 4 := by rw [← HM.out]; exact HF4.out
              have hc := O3.out.2.1.cell (i := 0) (by rw [HM.out]; exact hm3)
              rw [hy] at hc
              clear hy
              have y2' := N3.out.warm 2
              by_cases hp : p2 = 1
              · subst hp
                obtain rfl : m = 1 := by omega
                have htl : Hid (f.tail = []) := Lib.hid (List.length_eq_zero_iff.1 (by rw [List.length_tail, HM.out]))
                go_wp2_with (first
                  | (go_at_call 37; with_reducible refine (in12_is HRg.out Hm4.out _).mono ?_; rintro e w' ⟨rfl, rfl⟩)
                  | fail)
                have XF := X3.out.far (p := ⟨b, 2, none⟩) (by dsimp only; omega) (.slice (some ⟨g, 0, none⟩) 0 0)
                obtain ⟨e0, e1, e2⟩ := cells3 (Bx.three XF (.slice a0 n p0) (.int .i64 t) (.slice (some ⟨g, 0, none⟩) 0 0))
                refine bodyPost_ret (v := .tuple #[.agg #[.slice a0 n p0, .int .i64 t, .slice (some ⟨g, 0, none⟩) 0 0], .int .i64 y, .bool true]) (by simp [results, Try.results41, go_sem, e0, e1, e2]) rfl ⟨_, rfl, ?_, ?_⟩
                · have key : ∀ {w2 : World}, Turn (fun k => k = b ∨ k = w.heap.size + 1) y3 w2 → devK.cap (fun k => w.heap.size ≤ k) [.slice a0 n p0, .int .i64 t, .slice (some ⟨g, 0, none⟩) 0 0] (r, t, f.tail) w2 := fun {w2} ht => by
                    have o1 := OwnDev.turn2 O3.out ht (fun k h1 h2 => by have := Hlt0.out k h1; omega) (fun k h1 h2 => by have := Hlt2.out k h1; omega)
                    have hlr2 := hlr.out
                    exact dev_cap (cap_own2 o1.1 (by omega)) (Fx2 := fun k => k = g) (by rw [htl.out]; exact (own_base o1.2.1).cap rfl (by omega)) (fun k hk => by have := Hlt0.out k hk; omega) (fun k hk => by obtain rfl : k = g := hk; omega) (fun k h1 h2 => by obtain rfl : k = g := h2; exact o1.2.2 k h1 rfl)
                  refine key ?_
                  iterate 4 refine Turn.set (F := fun k => k = b ∨ k = w.heap.size + 1) ?_ (by first | exact .inl rfl | exact .inr rfl) _
                  exact Turn.refl _ _
                · iterate 4 refine Below.setCell ?_ (by first | omega | (dsimp only; omega)) _
                  exact HB3.out
              · skip
                go_wp2_with (first
                  | (go_at_call 37; with_reducible refine (in12_is HRg.out Hm4.out _).mono ?_; rintro e w' ⟨rfl, rfl⟩)
                  | fail)
                have XF := X3.out.far (p := ⟨b, 2, none⟩) (by dsimp only; omega) (.slice (some ⟨g, 1, none⟩) (m - 1) (p2 - 1))
                obtain ⟨e0, e1, e2⟩ := cells3 (Bx.three XF (.slice a0 n p0) (.int .i64 t) (.slice (some ⟨g, 1, none⟩) (m - 1) (p2 - 1)))
                refine bodyPost_ret (v := .tuple #[.agg #[.slice a0 n p0, .int .i64 t, .slice (some ⟨g, 1, none⟩) (m - 1) (p2 - 1)], .int .i64 y, .bool true]) (by simp [results, Try.results41, go_sem, e0, e1, e2]) rfl ⟨_, rfl, ?_, ?_⟩
                · have key : ∀ {w2 : World}, Turn (fun k => k = b ∨ k = w.heap.size + 1) y3 w2 → devK.cap (fun k => w.heap.size ≤ k) [.slice a0 n p0, .int .i64 t, .slice (some ⟨g, 1, none⟩) (m - 1) (p2 - 1)] (r, t, f.tail) w2 := fun {w2} ht => by
                    have o1 := OwnDev.turn2 O3.out ht (fun k h1 h2 => by have := Hlt0.out k h1; omega) (fun k h1 h2 => by have := Hlt2.out k h1; omega)
                    have hlr2 := hlr.out
                    exact dev_cap (cap_own2 o1.1 (by omega)) (Fx2 := fun k => k = g) ((own_tail o1.2.1 (by omega)).cap (by rw [List.length_tail, HM.out]) (by omega)) (fun k hk => by have := Hlt0.out k hk; omega) (fun k hk => by obtain rfl : k = g := hk; omega) (fun k h1 h2 => by obtain rfl : k = g := h2; exact o1.2.2 k h1 rfl)
                  refine key ?_
                  iterate 4 refine Turn.set (F := fun k => k = b ∨ k = w.heap.size + 1) ?_ (by first | exact .inl rfl | exact .inr rfl) _
                  exact Turn.refl _ _
                · iterate 4 refine Below.setCell ?_ (by first | omega | (dsimp only; omega)) _
                  exact HB3.out
            · have hd : D = ((r, t, f), 0, false) := HD.out.symm.trans (by rw [doD_r HO.out, doR_no hR h16 (by rw [HM.out]; exact h20)])
              subst hd
              clear HD hR hmt
              by_cases h20a : a = 20
              · subst h20a
                obtain rfl : m = 0 := by omega
                go_wp2_with (first
                  | (go_at_call 37; with_reducible refine (in12_is HRg.out Hm4.out _).mono ?_; rintro e w' ⟨rfl, rfl⟩)
                  | fail)
                obtain ⟨e0, e1, e2⟩ := cells3 ((Bx.three X3.out (.slice a0 n p0) (.int .i64 (t)) (.slice a2 0 p2)))
                refine bodyPost_ret (v := .tuple #[.agg #[.slice a0 n p0, .int .i64 (t), .slice a2 0 p2], .int .i64 (0), .bool false]) (by simp [results, Try.results41, go_sem, e0, e1, e2]) rfl ⟨_, rfl, ?_, ?_⟩
                · refine ((OwnDev.turn2 O3.out (G := fun k => k = w.heap.size + 1) ?_ (fun k h1 h2 => ?_) (fun k h1 h2 => ?_)).mono (by omega)).cap hlr.out hlf.out
                  · iterate 3 refine Turn.set (F := fun k => k = w.heap.size + 1) ?_ rfl _
                    exact Turn.refl _ _
                  · have := (Hlt0.out k h1).1; omega
                  · have := (Hlt2.out k h1).1; omega
                · iterate 3 refine Below.setCell ?_ (by first | omega | (dsimp only; omega)) _
                  exact HB3.out
              · have hg20 : (a == 20) = false := by simpa using h20a
                go_wp2_with (first
                  | (go_at_call 37; with_reducible refine (in12_is HRg.out Hm4.out _).mono ?_; rintro e w' ⟨rfl, rfl⟩)
                  | fail)
                obtain ⟨e0, e1, e2⟩ := cells3 ((Bx.three X3.out (.slice a0 n p0) (.int .i64 (t)) (.slice a2 m p2)))
                refine bodyPost_ret (v := .tuple #[.agg #[.slice a0 n p0, .int .i64 (t), .slice a2 m p2], .int .i64 (0), .bool false]) (by simp [results, Try.results41, go_sem, e0, e1, e2]) rfl ⟨_, rfl, ?_, ?_⟩
                · refine ((OwnDev.turn2 O3.out (G := fun k => k = w.heap.size + 1) ?_ (fun k h1 h2 => ?_) (fun k h1 h2 => ?_)).mono (by omega)).cap hlr.out hlf.out
                  · iterate 3 refine Turn.set (F := fun k => k = w.heap.size + 1) ?_ rfl _
                    exact Turn.refl _ _
                  · have := (Hlt0.out k h1).1; omega
                  · have := (Hlt2.out k h1).1; omega
                · iterate 3 refine Below.setCell ?_ (by first | omega | (dsimp only; omega)) _
                  exact HB3.out
    · have hmb : (Int.tmod a 4 != 0) = true := by
        have : ¬ Int.tmod a 4 = 0 := fun h => hm4 (Int.emod_eq_zero_of_dvd (Int.dvd_of_tmod_eq_zero h))
        simpa using this
      have hd : D = ((r, t, f), 0, false) := HD.out.symm.trans (doD_odd hm4)
      subst hd
      clear HD
      go_wp2_with fail
      obtain ⟨e0, e1, e2⟩ := cells3 ((Bx.three X3.out (.slice a0 n p0) (.int .i64 (t)) (.slice a2 m p2)))
      refine bodyPost_ret (v := .tuple #[.agg #[.slice a0 n p0, .int .i64 (t), .slice a2 m p2], .int .i64 (0), .bool false]) (by simp [results, Try.results41, go_sem, e0, e1, e2]) rfl ⟨_, rfl, ?_, ?_⟩
      · refine ((OwnDev.turn2 O3.out (G := fun k => k = w.heap.size + 1) ?_ (fun k h1 h2 => ?_) (fun k h1 h2 => ?_)).mono (by omega)).cap hlr.out hlf.out
        · iterate 3 refine Turn.set (F := fun k => k = w.heap.size + 1) ?_ rfl _
          exact Turn.refl _ _
        · have := (Hlt0.out k h1).1; omega
        · have := (Hlt2.out k h1).1; omega
      · iterate 3 refine Below.setCell ?_ (by first | omega | (dsimp only; omega)) _
        exact HB3.out
end Go.Proofs.Ytbhmfjblmcppbaa.KD
