
/-
  MstPost of the program. (Made by wip/gmsti8.py.)
-/
import Derived.Test.YtijilhaoknpeeaaGMst2
import Derived.Test.YtijilhaoknpeeaaMst10
namespace Go.Proofs.Ytijilhaoknpeeaa.KD
open Go.RowKit Rows3 GR Num
set_option linter.unusedVariables false

theorem implReqX_is {cs : List Value} {x : ReqX} {b : Bool} (hm : okQ x = b) (hs : reqK.sz x ≤ 2000000) (w : World) (h : reqK.rd cs x w) :
    Calls Try.prog 67 #[agg cs] w fun e w' => e = .returned (.bool b) ∧ Below w.heap.size w w' := by
  obtain ⟨x0, x1, x2, x3, x4, x5⟩ := x
  rw [← hm]; exact implReqX cs x0 x1 x2 x3 x4 x5 hs w h
set_option maxHeartbeats 8000000 in
set_option maxRecDepth 100000 in
theorem implPost : PostI := by
  intro cs ds q be dn tr pa br x0 x1 x2 x3 x4 x5 hs hq w h hx
  obtain ⟨a0, p0, rfl, _⟩ := mst_form h
  obtain ⟨ax, px, rfl, _⟩ := rd_req hx
  have HQL := Lib.hid (mst_len hs)
  obtain ⟨n, hn⟩ : ∃ n, q.length = n := ⟨_, rfl⟩
  have HN := Lib.hid hn
  rw [hn] at h ⊢
  have HS := Lib.hid hs
  have HQZ := Lib.hid hq
  have H := Lib.hid h
  have HX := Lib.hid hx
  have hsz : ∀ (w : World) o, (w.alloc o).heap.size = w.heap.size + 1 := fun w o => by simp
  have A0 := Lib.hid (((Bx.new 26 #[.slice a0 n p0, .int .i64 be, .int .i64 dn, .int .i64 tr, .bool pa, .bool br] w).alloc (Obj.cells #[.bool x0, .int .i64 x1, .int .i64 x2, .int .i64 x3, .bool x4, .slice ax x5.length px] 35)).alloc (Obj.cells #[.slice none 0 0, .int .i64 0, .int .i64 0, .int .i64 0, .bool false, .bool false] 26))
  have B0 := (Bx.new 35 #[.bool x0, .int .i64 x1, .int .i64 x2, .int .i64 x3, .bool x4, .slice ax x5.length px] (w.alloc (Obj.cells #[.slice a0 n p0, .int .i64 be, .int .i64 dn, .int .i64 tr, .bool pa, .bool br] 26))).alloc (Obj.cells #[.slice none 0 0, .int .i64 0, .int .i64 0, .int .i64 0, .bool false, .bool false] 26)
  rw [hsz] at B0
  have D0 := Bx.new 26 #[.slice none 0 0, .int .i64 0, .int .i64 0, .int .i64 0, .bool false, .bool false] ((w.alloc (Obj.cells #[.slice a0 n p0, .int .i64 be, .int .i64 dn, .int .i64 tr, .bool pa, .bool br] 26)).alloc (Obj.cells #[.bool x0, .int .i64 x1, .int .i64 x2, .int .i64 x3, .bool x4, .slice ax x5.length px] 35))
  rw [hsz, hsz] at D0
  have Q0 := Lib.hid B0
  have X0 := Lib.hid D0
  have HB0 := Lib.hid ((((Below.refl w.heap.size w).alloc (Nat.le_refl _) (Obj.cells #[.slice a0 n p0, .int .i64 be, .int .i64 dn, .int .i64 tr, .bool pa, .bool br] 26)).alloc (by simp) (Obj.cells #[.bool x0, .int .i64 x1, .int .i64 x2, .int .i64 x3, .bool x4, .slice ax x5.length px] 35)).alloc (by simp; omega) (Obj.cells #[.slice none 0 0, .int .i64 0, .int .i64 0, .int .i64 0, .bool false, .bool false] 26))
  obtain ⟨T, hT⟩ : ∃ T, rightM q be dn tr pa br = T := ⟨_, rfl⟩
  have HT := Lib.hid hT
  obtain ⟨U, hU⟩ : ∃ U, okQ (x0, x1, x2, x3, x4, x5) = U := ⟨_, rfl⟩
  have HU := Lib.hid hU
  obtain ⟨R, hR⟩ : ∃ R, postM q be dn tr pa br (x0, x1, x2, x3, x4, x5) = R := ⟨_, rfl⟩
  have HR := Lib.hid hR
  rw [hR]
  clear B0 D0 hsz h hx hn hs hq hT hU hR
  show Calls _ _ #[.agg #[.slice a0 n p0, .int .i64 be, .int .i64 dn, .int .i64 tr, .bool pa, .bool br], .agg #[.bool x0, .int .i64 x1, .int .i64 x2, .int .i64 x3, .bool x4, .slice ax x5.length px]] w _
  go_enter Try.func26, Try.ntmps26
  go_wp2_with fail
  generalize ((w.alloc (Obj.cells #[.slice a0 n p0, .int .i64 be, .int .i64 dn, .int .i64 tr, .bool pa, .bool br] 26)).alloc (Obj.cells #[.bool x0, .int .i64 x1, .int .i64 x2, .int .i64 x3, .bool x4, .slice ax x5.length px] 35)).alloc (Obj.cells #[.slice none 0 0, .int .i64 0, .int .i64 0, .int .i64 0, .bool false, .bool false] 26) = y0 at A0 Q0 X0 HB0 ⊢
  refine (implRight_is HT.out HS.out _ (mstK.rd_later H.out HB0.out)).mono ?_
  rintro e y1 ⟨rfl, hb⟩
  have A1 := Lib.hid (A0.out.later hb)
  have Q1 := Lib.hid (Q0.out.later hb)
  have X1 := Lib.hid (X0.out.later hb)
  have HB1 := Lib.hid (HB0.out.trans (hb.mono HB0.out.size))
  have hX1 : w.heap.size + 2 < y1.heap.size := X1.out.lt
  clear hb A0 X0 HB0 Q0
  obtain ⟨g0, g1, g2, g3, g4, g5⟩ := A1.out.cells6
  cases T with
  | false =>
    obtain rfl : R = ((q, be, dn, tr, pa, br), false) := by rw [← HR.out]; unfold postM; rw [HT.out]; simp
    go_wp2_with fail
    refine (implCopyMst [.slice a0 n p0, .int .i64 be, .int .i64 dn, .int .i64 tr, .bool pa, .bool br] q be dn tr pa br HS.out _ (mstK.rd_later H.out HB1.out)).mono ?_
    rintro e y3 ⟨us, he, hc, hb⟩
    have hby := hb.size
    obtain ⟨a1, p1, F1, e1, hq1, hF1⟩ := cap_mst hc
    rw [HN.out] at e1 hq1
    subst e1
    obtain rfl : e = .returned (.agg #[.slice a1 n p1, .int .i64 be, .int .i64 dn, .int .i64 tr, .bool pa, .bool br]) := he
    have A3 := Lib.hid (A1.out.later hb)
    have Q3 := Lib.hid (Q1.out.later hb)
    have X3 := Lib.hid (X1.out.later hb)
    have HB3 := Lib.hid (HB1.out.trans (hb.mono HB1.out.size))
    have HQ2 := Lib.hid (show ∀ y5, Turn (fun k => k = w.heap.size ∨ k = w.heap.size + 2) y3 y5 → reqS.cap (fun k => w.heap.size + 3 ≤ k) [.slice a1 n p1] q y5 from fun y5 ht => reqS.cap_wide (reqS.cap_turn hq1 ht (fun k _ h1 h2 => by have := hF1 k h1; omega)) (fun k _ h1 => by have := hF1 k h1; omega))
    have hT2 := Turn.refl (fun k => k = w.heap.size ∨ k = w.heap.size + 2) y3
    clear g0 g1 g2 g3 g4 g5 hq1 hF1 hc hb A1 X1 HB1 Q1
    obtain ⟨g0, g1, g2, g3, g4, g5⟩ := A3.out.cells6
    obtain ⟨z0, z1, z2, z3, z4, z5⟩ := warm6 A3.out
    go_upto_region 3 with fail
    have A4 := Lib.hid (show Bx 26 w.heap.size #[.slice a1 n p1, .int .i64 be, .int .i64 dn, .int .i64 tr, .bool pa, .bool br] _ from ((((((A3.out.set 0 (.slice a1 n p1)).set 1 (.int .i64 be)).set 2 (.int .i64 dn)).set 3 (.int .i64 tr)).set 4 (.bool pa)).set 5 (.bool br)))
    have X4 := Lib.hid (((((((X3.out.far (p := ⟨w.heap.size, 0, none⟩) (by dsimp only; omega) (.slice a1 n p1)).far (p := ⟨w.heap.size, 1, none⟩) (by dsimp only; omega) (.int .i64 be)).far (p := ⟨w.heap.size, 2, none⟩) (by dsimp only; omega) (.int .i64 dn)).far (p := ⟨w.heap.size, 3, none⟩) (by dsimp only; omega) (.int .i64 tr)).far (p := ⟨w.heap.size, 4, none⟩) (by dsimp only; omega) (.bool pa)).far (p := ⟨w.heap.size, 5, none⟩) (by dsimp only; omega) (.bool br)))
    have Q4 := Lib.hid (((((((Q3.out.far (p := ⟨w.heap.size, 0, none⟩) (by dsimp only; omega) (.slice a1 n p1)).far (p := ⟨w.heap.size, 1, none⟩) (by dsimp only; omega) (.int .i64 be)).far (p := ⟨w.heap.size, 2, none⟩) (by dsimp only; omega) (.int .i64 dn)).far (p := ⟨w.heap.size, 3, none⟩) (by dsimp only; omega) (.int .i64 tr)).far (p := ⟨w.heap.size, 4, none⟩) (by dsimp only; omega) (.bool pa)).far (p := ⟨w.heap.size, 5, none⟩) (by dsimp only; omega) (.bool br)))
    have HT4 := Lib.hid (((((((hT2.set (p := ⟨w.heap.size, 0, none⟩) (.inl rfl) (.slice a1 n p1)).set (p := ⟨w.heap.size, 1, none⟩) (.inl rfl) (.int .i64 be)).set (p := ⟨w.heap.size, 2, none⟩) (.inl rfl) (.int .i64 dn)).set (p := ⟨w.heap.size, 3, none⟩) (.inl rfl) (.int .i64 tr)).set (p := ⟨w.heap.size, 4, none⟩) (.inl rfl) (.bool pa)).set (p := ⟨w.heap.size, 5, none⟩) (.inl rfl) (.bool br)))
    have HB4 := Lib.hid (HB3.out.trans (HT4.out.below HB3.out.size (fun k hk => by omega)))
    clear hT2 A3 X3 HB3 Q3
    clear g0 g1 g2 g3 g4 g5 z0 z1 z2 z3 z4 z5
    generalize World.setCell _ _ _ = y4 at A4 X4 Q4 HT4 HB4 ⊢
    obtain ⟨g0, g1, g2, g3, g4, g5⟩ := A4.out.cells6
    obtain ⟨k0, k1, k2, k3, k4, k5⟩ := X4.out.cells6
    obtain ⟨z0, z1, z2, z3, z4, z5⟩ := warm6 X4.out
    go_wp2_with fail
    obtain ⟨e0, e1, e2, e3, e4, e5⟩ := Bx.cells6 (show Bx 26 (w.heap.size + 2) #[.slice a1 n p1, .int .i64 be, .int .i64 dn, .int .i64 tr, .bool pa, .bool br] _ from ((((((X4.out.set 0 (.slice a1 n p1)).set 1 (.int .i64 be)).set 2 (.int .i64 dn)).set 3 (.int .i64 tr)).set 4 (.bool pa)).set 5 (.bool br)))
    refine bodyPost_ret (v := .tuple #[.agg #[.slice a1 n p1, .int .i64 be, .int .i64 dn, .int .i64 tr, .bool pa, .bool br], .bool false]) (by simp [results, Try.results26, go_sem, e0, e1, e2, e3, e4, e5]) rfl ⟨_, rfl, mst_cap (Fx0 := fun k => w.heap.size + 3 ≤ k) (HQ2.out _ ?_) (fun k hk => by omega), ?_⟩
    · iterate 6 refine Turn.set (F := (fun k => k = w.heap.size ∨ k = w.heap.size + 2)) ?_ (.inr rfl) _
      exact HT4.out
    · iterate 6 refine Below.setCell ?_ (by dsimp only; omega) _
      exact HB4.out
  | true =>
    obtain ⟨r0, r1, r2, r3, r4, r5⟩ := Q1.out.cells6
    go_wp2_with fail
    refine (implReqX_is HU.out HQZ.out _ (reqK.rd_later HX.out HB1.out)).mono ?_
    rintro e y2 ⟨rfl, hb⟩
    have A2 := Lib.hid (A1.out.later hb)
    have Q2 := Lib.hid (Q1.out.later hb)
    have X2 := Lib.hid (X1.out.later hb)
    have HB2 := Lib.hid (HB1.out.trans (hb.mono HB1.out.size))
    have hX2 : w.heap.size + 2 < y2.heap.size := X2.out.lt
    clear hb A1 X1 HB1 Q1 hX1 g0 g1 g2 g3 g4 g5 r0 r1 r2 r3 r4 r5
    obtain ⟨g0, g1, g2, g3, g4, g5⟩ := A2.out.cells6
    cases U with
    | false =>
      obtain rfl : R = ((q, be, dn, tr, pa, br), false) := by rw [← HR.out]; unfold postM; rw [HU.out]; simp
      go_wp2_with fail
      refine (implCopyMst [.slice a0 n p0, .int .i64 be, .int .i64 dn, .int .i64 tr, .bool pa, .bool br] q be dn tr pa br HS.out _ (mstK.rd_later H.out HB2.out)).mono ?_
      rintro e y3 ⟨us, he, hc, hb⟩
      have hby := hb.size
      obtain ⟨a1, p1, F1, e1, hq1, hF1⟩ := cap_mst hc
      rw [HN.out] at e1 hq1
      subst e1
      obtain rfl : e = .returned (.agg #[.slice a1 n p1, .int .i64 be, .int .i64 dn, .int .i64 tr, .bool pa, .bool br]) := he
      have A3 := Lib.hid (A2.out.later hb)
      have Q3 := Lib.hid (Q2.out.later hb)
      have X3 := Lib.hid (X2.out.later hb)
      have HB3 := Lib.hid (HB2.out.trans (hb.mono HB2.out.size))
      have HQ2 := Lib.hid (show ∀ y5, Turn (fun k => k = w.heap.size ∨ k = w.heap.size + 2) y3 y5 → reqS.cap (fun k => w.heap.size + 3 ≤ k) [.slice a1 n p1] q y5 from fun y5 ht => reqS.cap_wide (reqS.cap_turn hq1 ht (fun k _ h1 h2 => by have := hF1 k h1; omega)) (fun k _ h1 => by have := hF1 k h1; omega))
      have hT2 := Turn.refl (fun k => k = w.heap.size ∨ k = w.heap.size + 2) y3
      clear g0 g1 g2 g3 g4 g5 hq1 hF1 hc hb A2 X2 HB2 Q2
      obtain ⟨g0, g1, g2, g3, g4, g5⟩ := A3.out.cells6
      obtain ⟨z0, z1, z2, z3, z4, z5⟩ := warm6 A3.out
      go_upto_region 3 with fail
      have A4 := Lib.hid (show Bx 26 w.heap.size #[.slice a1 n p1, .int .i64 be, .int .i64 dn, .int .i64 tr, .bool pa, .bool br] _ from ((((((A3.out.set 0 (.slice a1 n p1)).set 1 (.int .i64 be)).set 2 (.int .i64 dn)).set 3 (.int .i64 tr)).set 4 (.bool pa)).set 5 (.bool br)))
      have X4 := Lib.hid (((((((X3.out.far (p := ⟨w.heap.size, 0, none⟩) (by dsimp only; omega) (.slice a1 n p1)).far (p := ⟨w.heap.size, 1, none⟩) (by dsimp only; omega) (.int .i64 be)).far (p := ⟨w.heap.size, 2, none⟩) (by dsimp only; omega) (.int .i64 dn)).far (p := ⟨w.heap.size, 3, none⟩) (by dsimp only; omega) (.int .i64 tr)).far (p := ⟨w.heap.size, 4, none⟩) (by dsimp only; omega) (.bool pa)).far (p := ⟨w.heap.size, 5, none⟩) (by dsimp only; omega) (.bool br)))
      have Q4 := Lib.hid (((((((Q3.out.far (p := ⟨w.heap.size, 0, none⟩) (by dsimp only; omega) (.slice a1 n p1)).far (p := ⟨w.heap.size, 1, none⟩) (by dsimp only; omega) (.int .i64 be)).far (p := ⟨w.heap.size, 2, none⟩) (by dsimp only; omega) (.int .i64 dn)).far (p := ⟨w.heap.size, 3, none⟩) (by dsimp only; omega) (.int .i64 tr)).far (p := ⟨w.heap.size, 4, none⟩) (by dsimp only; omega) (.bool pa)).far (p := ⟨w.heap.size, 5, none⟩) (by dsimp only; omega) (.bool br)))
      have HT4 := Lib.hid (((((((hT2.set (p := ⟨w.heap.size, 0, none⟩) (.inl rfl) (.slice a1 n p1)).set (p := ⟨w.heap.size, 1, none⟩) (.inl rfl) (.int .i64 be)).set (p := ⟨w.heap.size, 2, none⟩) (.inl rfl) (.int .i64 dn)).set (p := ⟨w.heap.size, 3, none⟩) (.inl rfl) (.int .i64 tr)).set (p := ⟨w.heap.size, 4, none⟩) (.inl rfl) (.bool pa)).set (p := ⟨w.heap.size, 5, none⟩) (.inl rfl) (.bool br)))
      have HB4 := Lib.hid (HB3.out.trans (HT4.out.below HB3.out.size (fun k hk => by omega)))
      clear hT2 A3 X3 HB3 Q3
      clear g0 g1 g2 g3 g4 g5 z0 z1 z2 z3 z4 z5
      generalize World.setCell _ _ _ = y4 at A4 X4 Q4 HT4 HB4 ⊢
      obtain ⟨g0, g1, g2, g3, g4, g5⟩ := A4.out.cells6
      obtain ⟨k0, k1, k2, k3, k4, k5⟩ := X4.out.cells6
      obtain ⟨z0, z1, z2, z3, z4, z5⟩ := warm6 X4.out
      go_wp2_with fail
      obtain ⟨e0, e1, e2, e3, e4, e5⟩ := Bx.cells6 (show Bx 26 (w.heap.size + 2) #[.slice a1 n p1, .int .i64 be, .int .i64 dn, .int .i64 tr, .bool pa, .bool br] _ from ((((((X4.out.set 0 (.slice a1 n p1)).set 1 (.int .i64 be)).set 2 (.int .i64 dn)).set 3 (.int .i64 tr)).set 4 (.bool pa)).set 5 (.bool br)))
      refine bodyPost_ret (v := .tuple #[.agg #[.slice a1 n p1, .int .i64 be, .int .i64 dn, .int .i64 tr, .bool pa, .bool br], .bool false]) (by simp [results, Try.results26, go_sem, e0, e1, e2, e3, e4, e5]) rfl ⟨_, rfl, mst_cap (Fx0 := fun k => w.heap.size + 3 ≤ k) (HQ2.out _ ?_) (fun k hk => by omega), ?_⟩
      · iterate 6 refine Turn.set (F := (fun k => k = w.heap.size ∨ k = w.heap.size + 2)) ?_ (.inr rfl) _
        exact HT4.out
      · iterate 6 refine Below.setCell ?_ (by dsimp only; omega) _
        exact HB4.out
    | true =>
      have hn4 := (right_bd HT.out).2.2.2.2.1
      rw [HN.out] at hn4
      by_cases hq4 : n < 4
      · obtain rfl : R = ((q ++ [(x0, x1, x2, x3, x4, x5)], be, dn, tr, pa, br), true) := by rw [← HR.out]; unfold postM; rw [HT.out, HU.out, if_pos ⟨rfl, rfl, by rw [HN.out]; omega⟩]
        go_wp2_with fail
        refine (implCopyMst [.slice a0 n p0, .int .i64 be, .int .i64 dn, .int .i64 tr, .bool pa, .bool br] q be dn tr pa br HS.out _ (mstK.rd_later H.out HB2.out)).mono ?_
        rintro e y8 ⟨us, he, hc, hb⟩
        have hby := hb.size
        obtain ⟨a1, p1, F1, e1, hq1, hF1⟩ := cap_mst hc
        rw [HN.out] at e1 hq1
        subst e1
        obtain rfl : e = .returned (.agg #[.slice a1 n p1, .int .i64 be, .int .i64 dn, .int .i64 tr, .bool pa, .bool br]) := he
        have A8 := Lib.hid (A2.out.later hb)
        have Q8 := Lib.hid (Q2.out.later hb)
        have X8 := Lib.hid (X2.out.later hb)
        have HB8 := Lib.hid (HB2.out.trans (hb.mono HB2.out.size))
        have HQ2 := Lib.hid (show ∀ y5, Turn (fun k => k = w.heap.size ∨ k = w.heap.size + 2) y8 y5 → reqS.cap (fun k => w.heap.size + 3 ≤ k) [.slice a1 n p1] q y5 from fun y5 ht => reqS.cap_wide (reqS.cap_turn hq1 ht (fun k _ h1 h2 => by have := hF1 k h1; omega)) (fun k _ h1 => by have := hF1 k h1; omega))
        have hT2 := Turn.refl (fun k => k = w.heap.size ∨ k = w.heap.size + 2) y8
        clear g0 g1 g2 g3 g4 g5 hq1 hF1 hc hb A2 X2 HB2 Q2
        obtain ⟨g0, g1, g2, g3, g4, g5⟩ := A8.out.cells6
        obtain ⟨z0, z1, z2, z3, z4, z5⟩ := warm6 A8.out
        go_upto_region 3 with fail
        have A9 := Lib.hid (show Bx 26 w.heap.size #[.slice a1 n p1, .int .i64 be, .int .i64 dn, .int .i64 tr, .bool pa, .bool br] _ from ((((((A8.out.set 0 (.slice a1 n p1)).set 1 (.int .i64 be)).set 2 (.int .i64 dn)).set 3 (.int .i64 tr)).set 4 (.bool pa)).set 5 (.bool br)))
        have X9 := Lib.hid (((((((X8.out.far (p := ⟨w.heap.size, 0, none⟩) (by dsimp only; omega) (.slice a1 n p1)).far (p := ⟨w.heap.size, 1, none⟩) (by dsimp only; omega) (.int .i64 be)).far (p := ⟨w.heap.size, 2, none⟩) (by dsimp only; omega) (.int .i64 dn)).far (p := ⟨w.heap.size, 3, none⟩) (by dsimp only; omega) (.int .i64 tr)).far (p := ⟨w.heap.size, 4, none⟩) (by dsimp only; omega) (.bool pa)).far (p := ⟨w.heap.size, 5, none⟩) (by dsimp only; omega) (.bool br)))
        have Q9 := Lib.hid (((((((Q8.out.far (p := ⟨w.heap.size, 0, none⟩) (by dsimp only; omega) (.slice a1 n p1)).far (p := ⟨w.heap.size, 1, none⟩) (by dsimp only; omega) (.int .i64 be)).far (p := ⟨w.heap.size, 2, none⟩) (by dsimp only; omega) (.int .i64 dn)).far (p := ⟨w.heap.size, 3, none⟩) (by dsimp only; omega) (.int .i64 tr)).far (p := ⟨w.heap.size, 4, none⟩) (by dsimp only; omega) (.bool pa)).far (p := ⟨w.heap.size, 5, none⟩) (by dsimp only; omega) (.bool br)))
        have HT9 := Lib.hid (((((((hT2.set (p := ⟨w.heap.size, 0, none⟩) (.inl rfl) (.slice a1 n p1)).set (p := ⟨w.heap.size, 1, none⟩) (.inl rfl) (.int .i64 be)).set (p := ⟨w.heap.size, 2, none⟩) (.inl rfl) (.int .i64 dn)).set (p := ⟨w.heap.size, 3, none⟩) (.inl rfl) (.int .i64 tr)).set (p := ⟨w.heap.size, 4, none⟩) (.inl rfl) (.bool pa)).set (p := ⟨w.heap.size, 5, none⟩) (.inl rfl) (.bool br)))
        have HB9 := Lib.hid (HB8.out.trans (HT9.out.below HB8.out.size (fun k hk => by omega)))
        clear hT2 A8 X8 HB8 Q8
        clear g0 g1 g2 g3 g4 g5 z0 z1 z2 z3 z4 z5
        generalize World.setCell _ _ _ = y9 at A9 X9 Q9 HT9 HB9 ⊢
        obtain ⟨g0, g1, g2, g3, g4, g5⟩ := A9.out.cells6
        have hX9 : w.heap.size + 2 < y9.heap.size := X9.out.lt
        have S0 : Hid (∀ k, (fun k => w.heap.size + 3 ≤ k ∧ k < y9.heap.size) k → k < y9.heap.size) := Lib.hid (fun k hk => hk.2)
        have SB : Hid (∀ k, (fun k => w.heap.size + 3 ≤ k ∧ k < y9.heap.size) k → w.heap.size + 2 < k) := Lib.hid (fun k hk => by have := hk.1; omega)
        have CC : Hid (reqS.cap (fun k => w.heap.size + 3 ≤ k ∧ k < y9.heap.size) [.slice a1 n p1] q y9) := Lib.hid (reqS.cap_top (HQ2.out _ HT9.out))
        obtain ⟨F0, hF0⟩ : ∃ F0 : Foot, F0 = (fun k => w.heap.size + 3 ≤ k ∧ k < y9.heap.size) := ⟨_, rfl⟩
        rw [← hF0] at S0 SB CC
        clear hF0
        have HL4 := Lib.hid (show q.length + 1 ≤ 4000000 by have := HQL.out; omega)
        have XB := A9
        have RB := Q9
        have HRQ := Lib.hid (reqK.rd_later HX.out HB9.out)
        have NX := Lib.hid (show ¬ F0 w.heap.size from fun hf => by have := SB.out _ hf; omega)
        have NR := Lib.hid (show ¬ F0 (w.heap.size + 1) from fun hf => by have := SB.out _ hf; omega)
        have xc0 := g0
        obtain ⟨h0, h1, h2, h3, h4, h5⟩ := Bx.cells6 RB.out
        clear g0 g1 g2 g3 g4 g5 HQ2 HT9
        go_upto_region 4 with fail
        refine Inv.region_tailJ 7 5 (by decide) [22, 23, 24, 25, 26, 27, 28] (by kernel_rfl) (by kernel_rfl) (by kernel_rfl) (by kernel_rfl) (by kernel_rfl) (CJ F0 y9) (RP (w.heap.size) n a1 p1 q x0 x1 x2 x3 x4 x5 ax px y9.heap.size (fun k => F0 k ∨ y9.heap.size ≤ k)) ?_ ((Below.refl _ _).drew) ?_ ?_
        · intro i v w' hi
          exact RP.none i v w' (none_at 7 (by kernel_rfl) i hi)
        · intro i o ho hi16 listed ac w' s hcl hln hl haft K hK
          have hT := hcl.turn
          match i, ho with
          | 0, ho =>
            simp only [List.getElem?_toArray, List.getElem?_cons_zero, Option.some.injEq] at ho
            subst ho
            have e6 : ac.tmps.getD 2 undef = .pointer (some ⟨w.heap.size, 0, none⟩) := s.other 2 (fun jj _ e => Inv.none_at (t := 2) (by kernel_rfl) e)
            unfold Oper.wp
            go_simp
            exact hK _ _ (by rw [if_neg (by decide)]; exact hcl) (fun _ _ _ hj => hj) rfl
          | 1, ho =>
            simp only [List.getElem?_toArray, List.getElem?_cons_zero, List.getElem?_cons_succ, Option.some.injEq] at ho
            subst ho
            have e24 : ac.tmps.getD 22 undef = .pointer (some ⟨w.heap.size, 0, none⟩) := s.val 0 (by decide) (haft ⟨0, .data⟩ (by simp) rfl)
            have c := (turnC hT (i := 0) XB.out.lt NX.out).trans xc0
            unfold Oper.wp
            go_simp
            exact hK _ _ (by rw [if_neg (by decide)]; exact hcl) (fun _ _ _ hj => hj) rfl
          | 2, ho =>
            simp only [List.getElem?_toArray, List.getElem?_cons_zero, List.getElem?_cons_succ, Option.some.injEq] at ho
            subst ho
            have e3 : ac.tmps.getD 3 undef = .pointer (some ⟨w.heap.size + 1, 0, none⟩) := s.other 3 (fun jj _ e => Inv.none_at (t := 3) (by kernel_rfl) e)
            have c0 := (turnC hT (i := 0) RB.out.lt NR.out).trans h0
            have c1 := (turnC hT (i := 1) RB.out.lt NR.out).trans h1
            have c2 := (turnC hT (i := 2) RB.out.lt NR.out).trans h2
            have c3 := (turnC hT (i := 3) RB.out.lt NR.out).trans h3
            have c4 := (turnC hT (i := 4) RB.out.lt NR.out).trans h4
            have c5 := (turnC hT (i := 5) RB.out.lt NR.out).trans h5
            unfold Oper.wp
            go_simp
            exact hK _ _ (by rw [if_neg (by decide)]; exact hcl) (fun _ _ _ hj => hj) rfl
          | 3, ho =>
            simp only [List.getElem?_toArray, List.getElem?_cons_zero, List.getElem?_cons_succ, Option.some.injEq] at ho
            subst ho
            have e26 : ac.tmps.getD 24 undef = .agg #[.bool x0, .int .i64 x1, .int .i64 x2, .int .i64 x3, .bool x4, .slice ax x5.length px] := s.val 2 (by decide) (haft ⟨2, .data⟩ (by simp) rfl)
            have hn4 := unlisted_up s (i := 3) (j := 4) rfl ⟨⟨3, .data⟩, by simp, rfl, rfl⟩ (unlisted hl)
            have hn5 := unlisted_up s (i := 4) (j := 5) rfl ⟨⟨4, .data⟩, by simp, rfl, rfl⟩ hn4
            have hbl : Below y9.heap.size y9 w' := by rw [hn5] at hcl; exact hcl
            unfold Oper.wp
            go_simp
            refine (implCopyReqX [.bool x0, .int .i64 x1, .int .i64 x2, .int .i64 x3, .bool x4, .slice ax x5.length px] x0 x1 x2 x3 x4 x5 HQZ.out _ (reqK.rd_later HRQ.out hbl)).mono ?_
            rintro e w7 ⟨us, he, hc, hb⟩
            obtain ⟨ay, py, rfl, _⟩ := rd_req (reqK.cap_rd hc)
            obtain rfl : e = .returned (.agg #[.bool x0, .int .i64 x1, .int .i64 x2, .int .i64 x3, .bool x4, .slice ay x5.length py]) := he
            exact hK _ _ (by rw [if_neg (by decide)]; exact hcl.later hb) (fun j u _ hj => RP.later hb j u hj) ⟨ay, py, rfl, reqK.cap_wide hc (fun k _ hk => Nat.le_trans hbl.size hk)⟩
          | 4, ho =>
            simp only [List.getElem?_toArray, List.getElem?_cons_zero, List.getElem?_cons_succ, Option.some.injEq] at ho
            subst ho
            obtain ⟨ay, py, e27, hc⟩ : RP (w.heap.size) n a1 p1 q x0 x1 x2 x3 x4 x5 ax px y9.heap.size (fun k => F0 k ∨ y9.heap.size ≤ k) 3 (ac.tmps.getD 25 undef) w' := s.val 3 (by decide) (haft ⟨3, .data⟩ (by simp) rfl)
            rw [Array.getD_eq_getD_getElem?] at e27
            unfold Oper.wp
            go_simp
            exact hK _ _ (by rw [if_neg (by decide)]; exact hcl.later ((Below.refl _ _).alloc (Nat.le_refl _) _)) (fun j u _ hj => RP.later ((Below.refl _ _).alloc (Nat.le_refl _) _) j u hj) ⟨_, ay, py, rfl, hT.size, heap_alloc_new _ _, reqK.cap_alloc hc _⟩
          | 5, ho =>
            simp only [List.getElem?_toArray, List.getElem?_cons_zero, List.getElem?_cons_succ, Option.some.injEq] at ho
            subst ho
            have e25 : ac.tmps.getD 23 undef = .slice a1 n p1 := s.val 1 (by decide) (haft ⟨1, .data⟩ (by simp) rfl)
            obtain ⟨g9, ay, py, e28, hg9, hgc, hc9⟩ : RP (w.heap.size) n a1 p1 q x0 x1 x2 x3 x4 x5 ax px y9.heap.size (fun k => F0 k ∨ y9.heap.size ≤ k) 4 (ac.tmps.getD 26 undef) w' := s.val 4 (by decide) (haft ⟨4, .data⟩ (by simp) rfl)
            have hn5 := unlisted hl
            have hbl : Below y9.heap.size y9 w' := by rw [hn5] at hcl; exact hcl
            refine appJ 24 35 Try.underlying24 elReq (.tmp 23) (.tmp 26) rfl F0 (fun k => y9.heap.size ≤ k) (.slice a1 n p1) q (x0, x1, x2, x3, x4, x5) #[.bool x0, .int .i64 x1, .int .i64 x2, .int .i64 x3, .bool x4, .slice ay x5.length py] g9 w' e25 e28 hgc (reqS.cap_later CC.out hbl) hc9 (fun k _ h1 h2 => by have := S0.out k h2; omega) (req_one x0 x1 x2 x3 x4 ay x5.length py) HL4.out (fun v7 w7 hcap7 ht7 => ?_)
            obtain ⟨a7, p7, ev7, _, _⟩ := row_form (reqS.cap_rd hcap7)
            rw [List.length_append, List.length_singleton, HN.out] at ev7
            have ev8 : v7 = .slice a7 (n + 1) p7 := by simpa using ev7
            refine hK _ _ ?_ (fun j u hj hjj => RP.step ht7 (fun k hk => S0.out k hk) j u hj hjj) ⟨a7, p7, ev8, reqS.cap_wide hcap7 (fun k _ hk => ?_)⟩
            · rw [if_pos rfl]
              exact (show Turn F0 y9 w7 from (Turn.later hbl).trans ht7)
            · rcases hk with hk | hk | hk
              · exact .inl hk
              · exact .inr hk
              · exact .inr (Nat.le_trans hbl.size hk)
          | 6, ho =>
            simp only [List.getElem?_toArray, List.getElem?_cons_zero, List.getElem?_cons_succ, Option.some.injEq] at ho
            subst ho
            have e6 : ac.tmps.getD 2 undef = .pointer (some ⟨w.heap.size, 0, none⟩) := s.other 2 (fun jj _ e => Inv.none_at (t := 2) (by kernel_rfl) e)
            unfold Oper.wp
            go_simp
            exact hK _ _ (by rw [if_neg (by decide)]; exact hcl) (fun _ _ _ hj => hj) rfl
          | n + 7, ho => omega
        · intro f w6 o ho hC hv
          have hT : Turn F0 y9 w6 := hC.turn
          obtain ⟨a7, p7, e29, hcap7⟩ : RP (w.heap.size) n a1 p1 q x0 x1 x2 x3 x4 x5 ax px y9.heap.size (fun k => F0 k ∨ y9.heap.size ≤ k) 5 (f 27) w6 := hv 5 (by decide)
          have e30 : f 28 = .pointer (some ⟨w.heap.size, 0, none⟩) := hv 6 (by decide)
          simp only [Inv.setAll, List.setIfInBounds_toArray, List.set_cons_zero, List.set_cons_succ]
          rw [e29] at hcap7
          rw [e29, e30]
          simp only [List.getElem?_toArray, List.getElem?_cons_zero, List.getElem?_cons_succ, Option.some.injEq] at ho
          subst ho
          have X10 := bx_turn A9.out hT (fun hf => by have := SB.out _ hf; omega)
          have XR := bx_turn X9.out hT (fun hf => by have := SB.out _ hf; omega)
          have xw := X10.warm 0
          obtain ⟨v0, v1, v2, v3, v4, v5⟩ := Bx.cells6 X10
          have hcapF : reqS.cap (fun k => w.heap.size + 3 ≤ k) [.slice a7 (n + 1) p7] (q ++ [(x0, x1, x2, x3, x4, x5)]) w6 := reqS.cap_wide hcap7 (fun k _ hk => by
            rcases hk with hk | hk
            · have := SB.out k hk; omega
            · omega)
          have HC6 := Lib.hid hcapF
          have HB6 := Lib.hid (HB9.out.trans (hT.below HB9.out.size (fun k hk => by have := SB.out k hk; omega)))
          have HX10 := Lib.hid X10
          have HXR := Lib.hid XR
          clear hv hcap7 e29 e30 hC X10 XR hT hcapF
          unfold Oper.wp
          go_simp
          have A11 := Lib.hid (HX10.out.set 0 (.slice a7 (n + 1) p7))
          have X11 := Lib.hid (HXR.out.far (p := ⟨w.heap.size, 0, none⟩) (by dsimp only; omega) (.slice a7 (n + 1) p7))
          have HT11 := Lib.hid (Turn.set (F := (fun k => k = w.heap.size ∨ k = w.heap.size + 2)) (Turn.refl _ w6) (p := ⟨w.heap.size, 0, none⟩) (.inl rfl) (.slice a7 (n + 1) p7))
          have HB11 := Lib.hid (show Below w.heap.size w (w6.setCell ⟨w.heap.size, 0, none⟩ (.slice a7 (n + 1) p7)) from Below.setCell HB6.out (Nat.le_refl _) _)
          have HQ2 := Lib.hid (show ∀ y5, Turn (fun k => k = w.heap.size ∨ k = w.heap.size + 2) w6 y5 → reqS.cap (fun k => w.heap.size + 3 ≤ k) [.slice a7 (n + 1) p7] (q ++ [(x0, x1, x2, x3, x4, x5)]) y5 from fun y5 ht => reqS.cap_turn HC6.out ht (fun k _ h1 h2 => by omega))
          generalize w6.setCell ⟨w.heap.size, 0, none⟩ (.slice a7 (n + 1) p7) = y11 at A11 X11 HT11 HB11 ⊢
          clear xw v0 v1 v2 v3 v4 v5
          obtain ⟨m0, m1, m2, m3, m4, m5⟩ := Bx.cells6 A11.out
          obtain ⟨k0, k1, k2, k3, k4, k5⟩ := X11.out.cells6
          obtain ⟨z0, z1, z2, z3, z4, z5⟩ := warm6 X11.out
          go_wp2_with fail
          obtain ⟨e0, e1, e2, e3, e4, e5⟩ := Bx.cells6 (show Bx 26 (w.heap.size + 2) #[.slice a7 (n + 1) p7, .int .i64 be, .int .i64 dn, .int .i64 tr, .bool pa, .bool br] _ from ((((((X11.out.set 0 (.slice a7 (n + 1) p7)).set 1 (.int .i64 be)).set 2 (.int .i64 dn)).set 3 (.int .i64 tr)).set 4 (.bool pa)).set 5 (.bool br)))
          refine bodyPost_ret (v := .tuple #[.agg #[.slice a7 (n + 1) p7, .int .i64 be, .int .i64 dn, .int .i64 tr, .bool pa, .bool br], .bool true]) (by simp [results, Try.results26, go_sem, e0, e1, e2, e3, e4, e5]) rfl ⟨_, rfl, mst_cap (Fx0 := fun k => w.heap.size + 3 ≤ k) (HQ2.out _ ?_) (fun k hk => by omega), ?_⟩
          · iterate 6 refine Turn.set (F := (fun k => k = w.heap.size ∨ k = w.heap.size + 2)) ?_ (.inr rfl) _
            exact HT11.out
          · iterate 6 refine Below.setCell ?_ (by dsimp only; omega) _
            exact HB11.out
      · obtain rfl : n = 4 := by omega
        clear hn4 hq4
        obtain rfl : R = ((q, be, dn, tr, pa, br), false) := by rw [← HR.out]; unfold postM; rw [HN.out]; simp
        go_wp2_with fail
        refine (implCopyMst [.slice a0 4 p0, .int .i64 be, .int .i64 dn, .int .i64 tr, .bool pa, .bool br] q be dn tr pa br HS.out _ (mstK.rd_later H.out HB2.out)).mono ?_
        rintro e y3 ⟨us, he, hc, hb⟩
        have hby := hb.size
        obtain ⟨a1, p1, F1, e1, hq1, hF1⟩ := cap_mst hc
        rw [HN.out] at e1 hq1
        subst e1
        obtain rfl : e = .returned (.agg #[.slice a1 4 p1, .int .i64 be, .int .i64 dn, .int .i64 tr, .bool pa, .bool br]) := he
        have A3 := Lib.hid (A2.out.later hb)
        have Q3 := Lib.hid (Q2.out.later hb)
        have X3 := Lib.hid (X2.out.later hb)
        have HB3 := Lib.hid (HB2.out.trans (hb.mono HB2.out.size))
        have HQ2 := Lib.hid (show ∀ y5, Turn (fun k => k = w.heap.size ∨ k = w.heap.size + 2) y3 y5 → reqS.cap (fun k => w.heap.size + 3 ≤ k) [.slice a1 4 p1] q y5 from fun y5 ht => reqS.cap_wide (reqS.cap_turn hq1 ht (fun k _ h1 h2 => by have := hF1 k h1; omega)) (fun k _ h1 => by have := hF1 k h1; omega))
        have hT2 := Turn.refl (fun k => k = w.heap.size ∨ k = w.heap.size + 2) y3
        clear g0 g1 g2 g3 g4 g5 hq1 hF1 hc hb A2 X2 HB2 Q2
        obtain ⟨g0, g1, g2, g3, g4, g5⟩ := A3.out.cells6
        obtain ⟨z0, z1, z2, z3, z4, z5⟩ := warm6 A3.out
        go_upto_region 3 with fail
        have A4 := Lib.hid (show Bx 26 w.heap.size #[.slice a1 4 p1, .int .i64 be, .int .i64 dn, .int .i64 tr, .bool pa, .bool br] _ from ((((((A3.out.set 0 (.slice a1 4 p1)).set 1 (.int .i64 be)).set 2 (.int .i64 dn)).set 3 (.int .i64 tr)).set 4 (.bool pa)).set 5 (.bool br)))
        have X4 := Lib.hid (((((((X3.out.far (p := ⟨w.heap.size, 0, none⟩) (by dsimp only; omega) (.slice a1 4 p1)).far (p := ⟨w.heap.size, 1, none⟩) (by dsimp only; omega) (.int .i64 be)).far (p := ⟨w.heap.size, 2, none⟩) (by dsimp only; omega) (.int .i64 dn)).far (p := ⟨w.heap.size, 3, none⟩) (by dsimp only; omega) (.int .i64 tr)).far (p := ⟨w.heap.size, 4, none⟩) (by dsimp only; omega) (.bool pa)).far (p := ⟨w.heap.size, 5, none⟩) (by dsimp only; omega) (.bool br)))
        have Q4 := Lib.hid (((((((Q3.out.far (p := ⟨w.heap.size, 0, none⟩) (by dsimp only; omega) (.slice a1 4 p1)).far (p := ⟨w.heap.size, 1, none⟩) (by dsimp only; omega) (.int .i64 be)).far (p := ⟨w.heap.size, 2, none⟩) (by dsimp only; omega) (.int .i64 dn)).far (p := ⟨w.heap.size, 3, none⟩) (by dsimp only; omega) (.int .i64 tr)).far (p := ⟨w.heap.size, 4, none⟩) (by dsimp only; omega) (.bool pa)).far (p := ⟨w.heap.size, 5, none⟩) (by dsimp only; omega) (.bool br)))
        have HT4 := Lib.hid (((((((hT2.set (p := ⟨w.heap.size, 0, none⟩) (.inl rfl) (.slice a1 4 p1)).set (p := ⟨w.heap.size, 1, none⟩) (.inl rfl) (.int .i64 be)).set (p := ⟨w.heap.size, 2, none⟩) (.inl rfl) (.int .i64 dn)).set (p := ⟨w.heap.size, 3, none⟩) (.inl rfl) (.int .i64 tr)).set (p := ⟨w.heap.size, 4, none⟩) (.inl rfl) (.bool pa)).set (p := ⟨w.heap.size, 5, none⟩) (.inl rfl) (.bool br)))
        have HB4 := Lib.hid (HB3.out.trans (HT4.out.below HB3.out.size (fun k hk => by omega)))
        clear hT2 A3 X3 HB3 Q3
        clear g0 g1 g2 g3 g4 g5 z0 z1 z2 z3 z4 z5
        generalize World.setCell _ _ _ = y4 at A4 X4 Q4 HT4 HB4 ⊢
        obtain ⟨g0, g1, g2, g3, g4, g5⟩ := A4.out.cells6
        obtain ⟨k0, k1, k2, k3, k4, k5⟩ := X4.out.cells6
        obtain ⟨z0, z1, z2, z3, z4, z5⟩ := warm6 X4.out
        go_wp2_with fail
        obtain ⟨e0, e1, e2, e3, e4, e5⟩ := Bx.cells6 (show Bx 26 (w.heap.size + 2) #[.slice a1 4 p1, .int .i64 be, .int .i64 dn, .int .i64 tr, .bool pa, .bool br] _ from ((((((X4.out.set 0 (.slice a1 4 p1)).set 1 (.int .i64 be)).set 2 (.int .i64 dn)).set 3 (.int .i64 tr)).set 4 (.bool pa)).set 5 (.bool br)))
        refine bodyPost_ret (v := .tuple #[.agg #[.slice a1 4 p1, .int .i64 be, .int .i64 dn, .int .i64 tr, .bool pa, .bool br], .bool false]) (by simp [results, Try.results26, go_sem, e0, e1, e2, e3, e4, e5]) rfl ⟨_, rfl, mst_cap (Fx0 := fun k => w.heap.size + 3 ≤ k) (HQ2.out _ ?_) (fun k hk => by omega), ?_⟩
        · iterate 6 refine Turn.set (F := (fun k => k = w.heap.size ∨ k = w.heap.size + 2)) ?_ (.inr rfl) _
          exact HT4.out
        · iterate 6 refine Below.setCell ?_ (by dsimp only; omega) _
          exact HB4.out
end Go.Proofs.Ytijilhaoknpeeaa.KD
