
/-
  A beat of a master ends: MstEnd of the model. (Made by wip/genmst9.py.)
-/
import Derived.Test.YtijilhaoknpeeaaMst6
import Derived.Deep.Cut
namespace Go.Proofs.Ytijilhaoknpeeaa.KD
open Go.RowKit Rows3 GR Num
set_option linter.unusedVariables false

def endM (q : List ReqX) (be dn tr : Int) (pa br : Bool) : MstX × Bool :=
  if rightM q be dn tr pa br = true ∧ be ≠ dn then (if dn + 1 = beats0 q then ((q.tail, 0, 0, 0, false, false), true) else ((q, be, dn + 1, 0, false, br), true)) else ((q, be, dn, tr, pa, br), false)
theorem row_tail {α : Type} {K : Kn α} {hn : K.n ≤ 64} {F : Foot} {a : Option Addr} {n p : Nat} {x : α} {l : List α} {w : World} (h : (row K hn).cap F [.slice a n p] (x :: l) w) :
    ∃ g o, a = some ⟨g, o, none⟩ ∧ F g ∧ n = l.length + 1 ∧ l.length + 1 ≤ p ∧ p ≤ 9223372036854775807 ∧ g < w.heap.size ∧ (row K hn).cap F [.slice (some ⟨g, o + K.n, none⟩) l.length (p - 1)] l w ∧ (p = 1 → (row K hn).cap F [.slice (some ⟨g, o, none⟩) l.length 0] l w) := by
  obtain ⟨ad, cp, e, hl, h⟩ := h
  simp at e
  obtain ⟨rfl, rfl, rfl⟩ := e
  rcases h with ⟨_, h0, _⟩ | ⟨g, o, xs, T, rfl, hF, hg, hsz, E, hE1, hE2, h⟩
  · cases h0
  · have hl1 : l.length + 1 ≤ p := by have := hl.1; simpa using this
    have hmul : p * K.n = (p - 1) * K.n + K.n := by
      obtain ⟨k, rfl⟩ : ∃ k, p = k + 1 := ⟨p - 1, by omega⟩
      rw [Nat.add_sub_cancel, Nat.add_mul, Nat.one_mul]
    have hone : p = 1 → (row K hn).cap F [.slice (some ⟨g, o, none⟩) l.length 0] l w := by
      rintro rfl
      obtain rfl : l = [] := List.length_eq_zero_iff.1 (by omega)
      exact ⟨some ⟨g, o, none⟩, 0, rfl, ⟨by simp, by omega⟩, .inr ⟨g, o, xs, T, rfl, hF, hg, by omega, fun _ _ => False, fun _ _ h => h.elim, fun _ _ _ _ h => h.elim, fun i y hy => by simp at hy⟩⟩
    refine ⟨g, o, rfl, hF, by simp, hl1, hl.2, (Array.getElem?_eq_some_iff.1 hg).1, ⟨some ⟨g, o + K.n, none⟩, p - 1, rfl, ⟨by omega, by omega⟩, .inr ⟨g, o + K.n, xs, T, rfl, hF, hg, by omega, fun i => E (i + 1), fun i k hk => hE1 (i + 1) k hk, fun i j k hij hk => hE2 (i + 1) (j + 1) k (by omega) hk, fun i y hy => ?_⟩⟩, hone⟩
    obtain ⟨es, h1, h2⟩ := h (i + 1) y (by simpa using hy)
    exact ⟨es, fun j u hu => by have := h1 j u hu; rwa [show o + (i + 1) * K.n + j = o + K.n + i * K.n + j by rw [Nat.add_mul, Nat.one_mul]; omega] at this, h2⟩
set_option maxHeartbeats 16000000 in
set_option maxRecDepth 100000 in
theorem specEnd (cs : List Value) (q : List ReqX) (be dn tr : Int) (pa br : Bool) (hs : mstK.sz (q, be, dn, tr, pa, br) ≤ 2000000) (w : World) (h : mstK.rd cs (q, be, dn, tr, pa, br) w) :
    Calls Try.prog 19 #[agg cs] w (MstB (endM q be dn tr pa br) w) := by
  obtain ⟨a0, p0, rfl, _⟩ := mst_form h
  obtain ⟨n, hn⟩ : ∃ n, q.length = n := ⟨_, rfl⟩
  have HN := Lib.hid hn
  rw [hn] at h ⊢
  have HS := Lib.hid hs
  have H := Lib.hid h
  have hsz : ∀ (w : World) o, (w.alloc o).heap.size = w.heap.size + 1 := fun w o => by simp
  have A0 := Lib.hid ((Bx.new 26 #[.slice a0 n p0, .int .i64 be, .int .i64 dn, .int .i64 tr, .bool pa, .bool br] w).alloc (Obj.cells #[.slice none 0 0, .int .i64 0, .int .i64 0, .int .i64 0, .bool false, .bool false] 26))
  have B0 := Bx.new 26 #[.slice none 0 0, .int .i64 0, .int .i64 0, .int .i64 0, .bool false, .bool false] (w.alloc (Obj.cells #[.slice a0 n p0, .int .i64 be, .int .i64 dn, .int .i64 tr, .bool pa, .bool br] 26))
  rw [hsz] at B0
  have X0 := Lib.hid B0
  have HB0 := Lib.hid (((Below.refl w.heap.size w).alloc (Nat.le_refl _) (Obj.cells #[.slice a0 n p0, .int .i64 be, .int .i64 dn, .int .i64 tr, .bool pa, .bool br] 26)).alloc (by simp) (Obj.cells #[.slice none 0 0, .int .i64 0, .int .i64 0, .int .i64 0, .bool false, .bool false] 26))
  obtain ⟨T, hT⟩ : ∃ T, rightM q be dn tr pa br = T := ⟨_, rfl⟩
  have HT := Lib.hid hT
  obtain ⟨R, hR⟩ : ∃ R, endM q be dn tr pa br = R := ⟨_, rfl⟩
  have HR := Lib.hid hR
  have hbd : T = true → 0 ≤ dn ∧ dn ≤ 8 ∧ dn ≤ be ∧ be ≤ 10 := fun e => by
    have hr : rightM q be dn tr pa br = true := HT.out.trans e
    obtain ⟨h1, h2, h3, h4, _⟩ := right_bd hr
    exact ⟨h1, h2, h3, h4⟩
  have HBd := Lib.hid hbd
  obtain ⟨m, hm⟩ : ∃ m, beats0 q = m := ⟨_, rfl⟩
  have HM := Lib.hid hm
  have hmb := beats0_bd q
  rw [hm] at hmb
  clear hm
  rw [hR]
  clear B0 hsz h hn hs hT hR hbd
  show Calls _ _ #[.agg #[.slice a0 n p0, .int .i64 be, .int .i64 dn, .int .i64 tr, .bool pa, .bool br]] w _
  go_enter Try.func19, Try.ntmps19
  go_wp2_with fail
  generalize (w.alloc (Obj.cells #[.slice a0 n p0, .int .i64 be, .int .i64 dn, .int .i64 tr, .bool pa, .bool br] 26)).alloc (Obj.cells #[.slice none 0 0, .int .i64 0, .int .i64 0, .int .i64 0, .bool false, .bool false] 26) = y0 at A0 X0 HB0 ⊢
  refine (spec12Copy [.slice a0 n p0, .int .i64 be, .int .i64 dn, .int .i64 tr, .bool pa, .bool br] q be dn tr pa br HS.out _ (mstK.rd_later H.out HB0.out)).mono ?_
  rintro e y1 ⟨us, he, hc, hb⟩
  obtain ⟨a1, p1, rfl, _⟩ := mst_form (mstK.cap_rd hc)
  rw [HN.out] at he hc
  obtain rfl : e = .returned (.agg #[.slice a1 n p1, .int .i64 be, .int .i64 dn, .int .i64 tr, .bool pa, .bool br]) := he
  have ab := (Below.refl y1.heap.size y1).alloc (Nat.le_refl _) (Obj.cells #[.slice a1 n p1, .int .i64 be, .int .i64 dn, .int .i64 tr, .bool pa, .bool br] 26)
  have A1 := Lib.hid ((A0.out.later hb).later ab)
  have X1 := Lib.hid ((X0.out.later hb).later ab)
  have N1 := Lib.hid (Bx.new 26 #[.slice a1 n p1, .int .i64 be, .int .i64 dn, .int .i64 tr, .bool pa, .bool br] y1)
  have HB1 := Lib.hid ((HB0.out.trans (hb.mono HB0.out.size)).trans (ab.mono (Nat.le_trans HB0.out.size hb.size)))
  have C1 := Lib.hid (mstK.cap_later (mstK.cap_top hc) ab)
  have hlt : w.heap.size + 1 < y0.heap.size := X0.out.lt
  have hlt1 : y0.heap.size ≤ y1.heap.size := hb.size
  obtain ⟨g0, g1, g2, g3, g4, g5⟩ := Bx.cells6 (A0.out.later hb)
  obtain ⟨j0, j1, j2, j3, j4, j5⟩ := Bx.cells6 A1.out
  clear hc hb ab
  obtain ⟨b, hbb⟩ : ∃ b, y1.heap.size = b := ⟨_, rfl⟩
  go_wp2_with fail
  clear g0 g1 g2 g3 g4 g5 j0 j1 j2 j3 j4 j5
  generalize y1.alloc (Obj.cells #[.slice a1 n p1, .int .i64 be, .int .i64 dn, .int .i64 tr, .bool pa, .bool br] 26) = y2 at A1 X1 N1 HB1 C1 ⊢
  refine (right_is HT.out HS.out _ (mstK.rd_later H.out HB1.out)).mono ?_
  rintro e y3 ⟨rfl, hb⟩
  have A3 := Lib.hid (A1.out.later hb)
  have N3 := Lib.hid (N1.out.later hb)
  have X3 := Lib.hid (X1.out.later hb)
  have HB3 := Lib.hid (HB1.out.trans (hb.mono HB1.out.size))
  have C3 := Lib.hid (mstK.cap_later C1.out hb)
  rw [hbb] at N3 C3 hlt1
  obtain ⟨g0, g1, g2, g3, g4, g5⟩ := Bx.cells6 A3.out
  obtain ⟨m0, m1, m2, m3, m4, m5⟩ := Bx.cells6 N3.out
  have hb3 : b < y3.heap.size := N3.out.lt
  have hne : ¬ w.heap.size + 1 = b := by omega
  have last : ∀ (be' : Int) (y5 : World), Turn (fun i => i = w.heap.size + 1 ∨ i = b) y3 y5 → mstK.cap (fun i => w.heap.size ≤ i) [.slice a1 n p1, .int .i64 be', .int .i64 dn, .int .i64 tr, .bool pa, .bool br] (q, be', dn, tr, pa, br) y5 := fun be' y5 ht => by
    obtain ⟨c1, p1', F1, e1, h1, h2⟩ := cap_mst C3.out
    rw [HN.out] at e1 h1
    simp at e1
    obtain ⟨rfl, rfl⟩ := e1
    exact mst_cap (reqS.cap_turn h1 ht (fun i _ h3 h4 => by have := h2 i h3; omega)) (fun i hi => by have := h2 i hi; omega)
  have Last := Lib.hid last
  clear hb hbb A0 A1 N1 X0 X1 HB0 HB1 C1 last
  cases T with
  | false =>
    obtain rfl : R = ((q, be, dn, tr, pa, br), false) := by rw [← HR.out]; unfold endM; rw [HT.out]; simp
    obtain ⟨k0, k1, k2, k3, k4, k5⟩ := Bx.cells6 X3.out
    obtain ⟨z0, z1, z2, z3, z4, z5⟩ := warm6 X3.out
    obtain ⟨e0, e1, e2, e3, e4, e5⟩ := Bx.cells6 (show Bx 26 (w.heap.size + 1) #[.slice a1 n p1, .int .i64 be, .int .i64 dn, .int .i64 tr, .bool pa, .bool br] _ from (((((X3.out.set 0 (.slice a1 n p1)).set 1 (.int .i64 be)).set 2 (.int .i64 dn)).set 3 (.int .i64 tr)).set 4 (.bool pa)).set 5 (.bool br))
    go_wp2_with fail
    refine bodyPost_ret (v := .tuple #[.agg #[.slice a1 n p1, .int .i64 be, .int .i64 dn, .int .i64 tr, .bool pa, .bool br], .bool false]) (by simp [results, Try.results19, go_sem, e0, e1, e2, e3, e4, e5]) rfl ⟨_, rfl, Last.out _ _ ?_, ?_⟩
    · iterate 6 refine Turn.set (F := fun k => k = w.heap.size + 1 ∨ k = b) ?_ (.inl rfl) _
      exact Turn.refl _ _
    · iterate 6 refine Below.setCell ?_ (by first | omega | (dsimp only; omega)) _
      exact HB3.out
  | true =>
    obtain ⟨hd0, hd1, hd2, hd3⟩ := HBd.out rfl
    by_cases hq : be = dn
    · have hq' := hq.symm
      clear hq
      subst hq'
      obtain rfl : R = ((q, dn, dn, tr, pa, br), false) := by rw [← HR.out]; unfold endM; rw [if_neg (by rintro ⟨_, h⟩; exact h rfl)]
      obtain ⟨k0, k1, k2, k3, k4, k5⟩ := Bx.cells6 X3.out
      obtain ⟨z0, z1, z2, z3, z4, z5⟩ := warm6 X3.out
      obtain ⟨e0, e1, e2, e3, e4, e5⟩ := Bx.cells6 (show Bx 26 (w.heap.size + 1) #[.slice a1 n p1, .int .i64 (dn), .int .i64 dn, .int .i64 tr, .bool pa, .bool br] _ from (((((X3.out.set 0 (.slice a1 n p1)).set 1 (.int .i64 (dn))).set 2 (.int .i64 dn)).set 3 (.int .i64 tr)).set 4 (.bool pa)).set 5 (.bool br))
      go_wp2_with fail
      refine bodyPost_ret (v := .tuple #[.agg #[.slice a1 n p1, .int .i64 (dn), .int .i64 dn, .int .i64 tr, .bool pa, .bool br], .bool false]) (by simp [results, Try.results19, go_sem, e0, e1, e2, e3, e4, e5]) rfl ⟨_, rfl, Last.out _ _ ?_, ?_⟩
      · iterate 6 refine Turn.set (F := fun k => k = w.heap.size + 1 ∨ k = b) ?_ (.inl rfl) _
        exact Turn.refl _ _
      · iterate 6 refine Below.setCell ?_ (by first | omega | (dsimp only; omega)) _
        exact HB3.out
    · have hq2 : (be == dn) = false := by simp [hq]
      obtain ⟨y0', y1', y2', y3', y4', y5'⟩ := warm6 N3.out
      have N5 := Lib.hid (show Bx 26 b #[.slice a1 n p1, .int .i64 be, .int .i64 (dn + 1), .int .i64 0, .bool false, .bool br] (((y3.setCell ⟨b, 2, none⟩ (.int .i64 (dn + 1))).setCell ⟨b, 3, none⟩ (.int .i64 0)).setCell ⟨b, 4, none⟩ (.bool false)) from (((N3.out.set 2 (.int .i64 (dn + 1))).set 3 (.int .i64 0)).set 4 (.bool false)))
      have X5 := Lib.hid (show Bx 26 (w.heap.size + 1) #[.slice none 0 0, .int .i64 0, .int .i64 0, .int .i64 0, .bool false, .bool false] (((y3.setCell ⟨b, 2, none⟩ (.int .i64 (dn + 1))).setCell ⟨b, 3, none⟩ (.int .i64 0)).setCell ⟨b, 4, none⟩ (.bool false)) from (((X3.out.far (p := ⟨b, 2, none⟩) hne (.int .i64 (dn + 1))).far (p := ⟨b, 3, none⟩) hne (.int .i64 0)).far (p := ⟨b, 4, none⟩) hne (.bool false)))
      have A5 := Lib.hid (show Bx 26 w.heap.size #[.slice a0 n p0, .int .i64 be, .int .i64 dn, .int .i64 tr, .bool pa, .bool br] (((y3.setCell ⟨b, 2, none⟩ (.int .i64 (dn + 1))).setCell ⟨b, 3, none⟩ (.int .i64 0)).setCell ⟨b, 4, none⟩ (.bool false)) from (((A3.out.far (p := ⟨b, 2, none⟩) (by dsimp only; omega) (.int .i64 (dn + 1))).far (p := ⟨b, 3, none⟩) (by dsimp only; omega) (.int .i64 0)).far (p := ⟨b, 4, none⟩) (by dsimp only; omega) (.bool false)))
      have HB5 := Lib.hid (show Below w.heap.size w (((y3.setCell ⟨b, 2, none⟩ (.int .i64 (dn + 1))).setCell ⟨b, 3, none⟩ (.int .i64 0)).setCell ⟨b, 4, none⟩ (.bool false)) from by
        iterate 3 refine Below.setCell ?_ (by first | omega | (dsimp only; omega)) _
        exact HB3.out)
      have T5 := Lib.hid (show Turn (fun i => i = w.heap.size + 1 ∨ i = b) y3 (((y3.setCell ⟨b, 2, none⟩ (.int .i64 (dn + 1))).setCell ⟨b, 3, none⟩ (.int .i64 0)).setCell ⟨b, 4, none⟩ (.bool false)) from by
        iterate 3 refine Turn.set (F := fun k => k = w.heap.size + 1 ∨ k = b) ?_ (.inr rfl) _
        exact Turn.refl _ _)
      have Z5 := Lib.hid (show b < ((((y3.setCell ⟨b, 2, none⟩ (.int .i64 (dn + 1))).setCell ⟨b, 3, none⟩ (.int .i64 0)).setCell ⟨b, 4, none⟩ (.bool false))).heap.size from N5.out.lt)
      go_upto_region 7 with fail
      generalize (((y3.setCell ⟨b, 2, none⟩ (.int .i64 (dn + 1))).setCell ⟨b, 3, none⟩ (.int .i64 0)).setCell ⟨b, 4, none⟩ (.bool false)) = y5 at N5 X5 A5 HB5 T5 Z5 ⊢
      clear g0 g1 g2 g3 g4 g5 m0 m1 m2 m3 m4 m5 y0' y1' y2' y3' y4' y5'
      obtain ⟨g0, g1, g2, g3, g4, g5⟩ := Bx.cells6 A5.out
      obtain ⟨m0, m1, m2, m3, m4, m5⟩ := Bx.cells6 N5.out
      have G0 := cell_regrown g0
      have G1 := cell_regrown g1
      have G2 := cell_regrown g2
      have G3 := cell_regrown g3
      have G4 := cell_regrown g4
      have G5 := cell_regrown g5
      have M2 := cell_regrown m2
      clear g0 g1 g2 g3 g4 g5 m0 m1 m2 m3 m4 m5
      refine wp_region_quiet_below (by kernel_rfl) (by kernel_rfl) ?_
      repeat (go_big_quiet_step (first
        | (go_at_call 62; exact Calls.regrown_of (beats_is HM.out HS.out _ (mstK.rd_later H.out (HB5.out.trans ((below_regrown _ _ _).mono HB5.out.size)))))))
      refine wpQuiet_nil ?_
      rintro _ ⟨qq, rfl⟩
      have hqb := below_regrown y5 qq.d qq.os
      have N6 := Lib.hid (N5.out.later hqb)
      have X6 := Lib.hid (X5.out.later hqb)
      have HB6 := Lib.hid (HB5.out.trans (hqb.mono HB5.out.size))
      have T6 := Lib.hid (show ∀ F : Foot, ∀ us : List Value, ∀ l : List ReqX, reqS.cap F us l y5 → reqS.cap F us l (Sort.grow (redrawn y5 qq.d) qq.os) from fun F us l hc => reqS.cap_later hc hqb)
      clear hqb G0 G1 G2 G3 G4 G5 M2 N5 X5 A5 HB5
      generalize Sort.grow (redrawn y5 qq.d) qq.os = y6 at N6 X6 HB6 T6 ⊢
      obtain ⟨c1, p1', F1, e1, h1, h2⟩ := cap_mst C3.out
      rw [HN.out] at e1 h1
      simp at e1
      obtain ⟨rfl, rfl⟩ := e1
      have h5 := Lib.hid (T6.out _ _ _ (reqS.cap_turn h1 T5.out (fun i _ h3 h4 => by have := h2 i h3; omega)))
      have HF := Lib.hid (show ∀ i, F1 i → w.heap.size ≤ i ∧ i ≠ w.heap.size + 1 ∧ i ≠ b from fun i hi => by have := h2 i hi; omega)
      clear h1 h2 T6 T5
      obtain ⟨m0, m1, m2, m3, m4, m5⟩ := Bx.cells6 N6.out
      obtain ⟨k0, k1, k2, k3, k4, k5⟩ := Bx.cells6 X6.out
      obtain ⟨z0, z1, z2, z3, z4, z5⟩ := warm6 X6.out
      by_cases hend : dn + 1 = m
      · have hq7 : (dn + 1 == m) = true := by simp [hend]
        obtain rfl : R = ((q.tail, 0, 0, 0, false, false), true) := by rw [← HR.out]; unfold endM; rw [HT.out, if_pos ⟨rfl, hq⟩, HM.out, if_pos hend]
        obtain ⟨x0, ql, rfl⟩ : ∃ x0 ql, q = x0 :: ql := by
          cases q with
          | nil => exfalso; have h0 : (0 : Int) = m := HM.out; omega
          | cons x0 ql => exact ⟨x0, ql, rfl⟩
        obtain ⟨sg, so, rfl, hsg, hnl, hpl, hpm, hsl, htl, htl1⟩ := row_tail h5.out
        have HTL := Lib.hid htl
        have HT1 := Lib.hid htl1
        have hin0 : (0 : Int) ≤ 1 ∧ (1 : Int) ≤ ((n : Nat) : Int) ∧ ((n : Nat) : Int) ≤ ((p1 : Nat) : Int) := by omega
        have hSG := HF.out sg hsg
        clear htl htl1 hend h5
        by_cases hp1 : p1 = 1
        · have HT2 := Lib.hid (HT1.out hp1)
          clear HT1
          subst hp1
          obtain rfl : ql = [] := List.length_eq_zero_iff.1 (by omega)
          go_wp2_with fail
          obtain ⟨e0, e1, e2, e3, e4, e5⟩ := Bx.cells6 (show Bx 26 (w.heap.size + 1) #[.slice (some ⟨sg, so, none⟩) 0 0, .int .i64 0, .int .i64 0, .int .i64 0, .bool false, .bool false] _ from ((((((X6.out.set 0 (.slice (some ⟨sg, so, none⟩) 0 0)).set 1 (.int .i64 0)).set 2 (.int .i64 0)).set 3 (.int .i64 0)).set 4 (.bool false)).set 5 (.bool false)))
          refine bodyPost_ret (v := .tuple #[.agg #[.slice (some ⟨sg, so, none⟩) 0 0, .int .i64 0, .int .i64 0, .int .i64 0, .bool false, .bool false], .bool true]) (by simp [results, Try.results19, go_sem, e0, e1, e2, e3, e4, e5]) rfl ⟨_, rfl, mst_cap (reqS.cap_turn HT2.out (G := fun i => i = w.heap.size + 1) ?_ (fun i _ h3 h4 => by have := HF.out i h3; omega)) (fun i hi => (HF.out i hi).1), ?_⟩
          · iterate 6 refine Turn.set (F := fun k => k = w.heap.size + 1) ?_ rfl _
            exact Turn.refl _ _
          · iterate 6 refine Below.setCell ?_ (by first | omega | (dsimp only; omega)) _
            exact HB6.out
        · have hp2 : 1 < p1 := by omega
          go_wp2_with fail
          obtain ⟨e0, e1, e2, e3, e4, e5⟩ := Bx.cells6 (show Bx 26 (w.heap.size + 1) #[.slice (some ⟨sg, so + 6, none⟩) ql.length (p1 - 1), .int .i64 0, .int .i64 0, .int .i64 0, .bool false, .bool false] _ from ((((((X6.out.set 0 (.slice (some ⟨sg, so + 6, none⟩) ql.length (p1 - 1))).set 1 (.int .i64 0)).set 2 (.int .i64 0)).set 3 (.int .i64 0)).set 4 (.bool false)).set 5 (.bool false)))
          refine bodyPost_ret (v := .tuple #[.agg #[.slice (some ⟨sg, so + 6, none⟩) ql.length (p1 - 1), .int .i64 0, .int .i64 0, .int .i64 0, .bool false, .bool false], .bool true]) (by simp [results, Try.results19, go_sem, e0, e1, e2, e3, e4, e5]) rfl ⟨_, rfl, mst_cap (reqS.cap_turn HTL.out (G := fun i => i = w.heap.size + 1) ?_ (fun i _ h3 h4 => by have := HF.out i h3; omega)) (fun i hi => (HF.out i hi).1), ?_⟩
          · iterate 6 refine Turn.set (F := fun k => k = w.heap.size + 1) ?_ rfl _
            exact Turn.refl _ _
          · iterate 6 refine Below.setCell ?_ (by first | omega | (dsimp only; omega)) _
            exact HB6.out
      · have hq7 : (dn + 1 == m) = false := by simp [hend]
        obtain rfl : R = ((q, be, dn + 1, 0, false, br), true) := by rw [← HR.out]; unfold endM; rw [HT.out, if_pos ⟨rfl, hq⟩, HM.out, if_neg hend]
        have HEND := Lib.hid hend
        clear hend
        go_wp2_with fail
        obtain ⟨e0, e1, e2, e3, e4, e5⟩ := Bx.cells6 (show Bx 26 (w.heap.size + 1) #[.slice a1 n p1, .int .i64 be, .int .i64 (dn + 1), .int .i64 0, .bool false, .bool br] _ from ((((((X6.out.set 0 (.slice a1 n p1)).set 1 (.int .i64 be)).set 2 (.int .i64 (dn + 1))).set 3 (.int .i64 0)).set 4 (.bool false)).set 5 (.bool br)))
        refine bodyPost_ret (v := .tuple #[.agg #[.slice a1 n p1, .int .i64 be, .int .i64 (dn + 1), .int .i64 0, .bool false, .bool br], .bool true]) (by simp [results, Try.results19, go_sem, e0, e1, e2, e3, e4, e5]) rfl ⟨_, rfl, mst_cap (reqS.cap_turn h5.out (G := fun i => i = w.heap.size + 1) ?_ (fun i _ h3 h4 => by have := HF.out i h3; omega)) (fun i hi => (HF.out i hi).1), ?_⟩
        · iterate 6 refine Turn.set (F := fun k => k = w.heap.size + 1) ?_ rfl _
          exact Turn.refl _ _
        · iterate 6 refine Below.setCell ?_ (by first | omega | (dsimp only; omega)) _
          exact HB6.out
end Go.Proofs.Ytijilhaoknpeeaa.KD
