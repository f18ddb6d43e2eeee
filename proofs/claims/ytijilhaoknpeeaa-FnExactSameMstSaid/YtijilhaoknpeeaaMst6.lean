
/-
  Does a master want the bus; one beat more on its way, one less: the model's MstWants, MstIssue, MstBack. (Made by wip/gmst6.py.)
-/
import Derived.Test.YtijilhaoknpeeaaMst5
namespace Go.Proofs.Ytijilhaoknpeeaa.KD
open Go.RowKit Rows3 GR Num
set_option linter.unusedVariables false

def wantsM (q : List ReqX) (be dn tr : Int) (pa br : Bool) : Bool := rightM q be dn tr pa br && decide (be < beats0 q)
def issueM (q : List ReqX) (be dn tr : Int) (pa br : Bool) : MstX × Bool := if wantsM q be dn tr pa br = true ∧ be ≠ dn + 2 then ((q, be + 1, dn, tr, pa, br), true) else ((q, be, dn, tr, pa, br), false)
def backM (q : List ReqX) (be dn tr : Int) (pa br : Bool) : MstX × Bool := if rightM q be dn tr pa br = true ∧ be ≠ dn then ((q, be - 1, dn, tr, pa, br), true) else ((q, be, dn, tr, pa, br), false)
/-- the numbers of a master that is right are small. -/
theorem right_bd {q : List ReqX} {be dn tr : Int} {pa br : Bool} (h : rightM q be dn tr pa br = true) : 0 ≤ dn ∧ dn ≤ 8 ∧ dn ≤ be ∧ be ≤ 10 ∧ q.length ≤ 4 ∧ 0 ≤ tr ∧ (q.length = 0 → be = 0 ∧ dn = 0) ∧ (q.length ≠ 0 → dn < beats0 q ∧ be ≤ beats0 q) := by
  unfold rightM at h
  simp only [Bool.and_eq_true, decide_eq_true_eq] at h
  obtain ⟨_, h1, h2, h3⟩ := h
  have hb := beats0_bd q
  split at h3
  · rename_i h0
    simp only [Bool.and_eq_true, beq_iff_eq] at h3
    obtain ⟨h4, h5, _⟩ := h3
    exact ⟨by omega, by omega, by omega, by omega, by omega, h2, fun _ => ⟨h4, h5⟩, fun hh => absurd h0 hh⟩
  · rename_i h0
    simp only [Bool.and_eq_true, decide_eq_true_eq] at h3
    obtain ⟨h4, h5, h6, h7⟩ := h3
    exact ⟨h4, by omega, h6, by omega, by omega, h2, fun hh => absurd hh h0, fun _ => ⟨by omega, by omega⟩⟩
theorem right_is {cs : List Value} {q : List ReqX} {be dn tr : Int} {pa br : Bool} {b : Bool} (hm : rightM q be dn tr pa br = b) (hs : mstK.sz (q, be, dn, tr, pa, br) ≤ 2000000) (w : World) (h : mstK.rd cs (q, be, dn, tr, pa, br) w) :
    Calls Try.prog 61 #[agg cs] w fun e w' => e = .returned (.bool b) ∧ Below w.heap.size w w' := hm ▸ spec12Right cs q be dn tr pa br hs w h
set_option maxHeartbeats 4000000 in
set_option maxRecDepth 100000 in
theorem specWants (cs : List Value) (q : List ReqX) (be dn tr : Int) (pa br : Bool) (hs : mstK.sz (q, be, dn, tr, pa, br) ≤ 2000000) (w : World) (h : mstK.rd cs (q, be, dn, tr, pa, br) w) :
    Calls Try.prog 22 #[agg cs] w fun e w' => e = .returned (.bool (wantsM q be dn tr pa br)) ∧ Below w.heap.size w w' := by
  obtain ⟨a0, p0, rfl, _⟩ := mst_form h
  obtain ⟨n, hn⟩ : ∃ n, q.length = n := ⟨_, rfl⟩
  rw [hn] at h ⊢
  have HS := Lib.hid hs
  obtain ⟨b1, hb1⟩ : ∃ b, rightM q be dn tr pa br = b := ⟨_, rfl⟩
  obtain ⟨m, hm⟩ : ∃ m, beats0 q = m := ⟨_, rfl⟩
  have He := Lib.hid (show wantsM q be dn tr pa br = (b1 && decide (be < m)) by unfold wantsM; rw [hb1, hm])
  have B1 := Lib.hid hb1
  have HM := Lib.hid hm
  have hb0 := (Below.refl w.heap.size w).alloc (Nat.le_refl _) (Obj.cells #[.slice a0 n p0, .int .i64 be, .int .i64 dn, .int .i64 tr, .bool pa, .bool br] 26)
  have A0 := Lib.hid (Bx.new 26 #[.slice a0 n p0, .int .i64 be, .int .i64 dn, .int .i64 tr, .bool pa, .bool br] w)
  have H0 := Lib.hid (mstK.rd_later h hb0)
  have HB0 := Lib.hid hb0
  generalize wantsM q be dn tr pa br = R at He ⊢
  clear h hn hb1 hm hb0 hs
  show Calls _ _ #[.agg #[.slice a0 n p0, .int .i64 be, .int .i64 dn, .int .i64 tr, .bool pa, .bool br]] w _
  go_enter Try.func22, Try.ntmps22
  go_wp2_with fail
  generalize w.alloc (Obj.cells #[.slice a0 n p0, .int .i64 be, .int .i64 dn, .int .i64 tr, .bool pa, .bool br] 26) = y0 at A0 H0 HB0 ⊢
  have g0 := fun d os => cell_regrown (A0.out.cell 0 _ rfl) d os
  have g1 := fun d os => cell_regrown (A0.out.cell 1 _ rfl) d os
  have g2 := fun d os => cell_regrown (A0.out.cell 2 _ rfl) d os
  have g3 := fun d os => cell_regrown (A0.out.cell 3 _ rfl) d os
  have g4 := fun d os => cell_regrown (A0.out.cell 4 _ rfl) d os
  have g5 := fun d os => cell_regrown (A0.out.cell 5 _ rfl) d os
  cases b1
  all_goals refine wp_region_quiet_below (by kernel_rfl) (by kernel_rfl) ?_
  all_goals (repeat (go_big_quiet_step (first
    | (go_at_call 61; exact Calls.regrown_of (right_is B1.out HS.out _ (mstK.rd_later H0.out (below_regrown _ _ _))))
    | (go_at_call 62; exact Calls.regrown_of (beats_is HM.out HS.out _ (mstK.rd_later H0.out (below_regrown _ _ _)))))))
  all_goals refine wpQuiet_nil ?_
  all_goals rintro _ ⟨⟨dq, osq⟩, rfl⟩
  all_goals go_wp2_with fail
  all_goals go_ret
  all_goals exact ⟨by rw [He.out]; simp, HB0.out.trans ((below_regrown _ dq osq).mono HB0.out.size)⟩
theorem wants_is {cs : List Value} {q : List ReqX} {be dn tr : Int} {pa br : Bool} {b : Bool} (hm : wantsM q be dn tr pa br = b) (hs : mstK.sz (q, be, dn, tr, pa, br) ≤ 2000000) (w : World) (h : mstK.rd cs (q, be, dn, tr, pa, br) w) :
    Calls Try.prog 22 #[agg cs] w fun e w' => e = .returned (.bool b) ∧ Below w.heap.size w w' := hm ▸ specWants cs q be dn tr pa br hs w h
/-- a master of the call's own, a truth value. -/
def MstB (d : MstX × Bool) (w : World) (e : Ending) (w' : World) : Prop := ∃ us, e = .returned (.tuple #[agg us, .bool d.2]) ∧ mstK.cap (fun k => w.heap.size ≤ k) us d.1 w' ∧ Below w.heap.size w w'
theorem warm6 {T : TypeId} {b : Nat} {c0 c1 c2 c3 c4 c5 : Value} {w : World} (h : Bx T b #[c0, c1, c2, c3, c4, c5] w) :
    w.frozen? ⟨b, 0, none⟩ = false ∧ w.frozen? ⟨b, 1, none⟩ = false ∧ w.frozen? ⟨b, 2, none⟩ = false ∧ w.frozen? ⟨b, 3, none⟩ = false ∧ w.frozen? ⟨b, 4, none⟩ = false ∧ w.frozen? ⟨b, 5, none⟩ = false := ⟨h.warm 0, h.warm 1, h.warm 2, h.warm 3, h.warm 4, h.warm 5⟩
set_option maxHeartbeats 8000000 in
set_option maxRecDepth 100000 in
theorem specIssue (cs : List Value) (q : List ReqX) (be dn tr : Int) (pa br : Bool) (hs : mstK.sz (q, be, dn, tr, pa, br) ≤ 2000000) (w : World) (h : mstK.rd cs (q, be, dn, tr, pa, br) w) :
    Calls Try.prog 17 #[agg cs] w (MstB (issueM q be dn tr pa br) w) := by
  obtain ⟨a0, p0, rfl, _⟩ := mst_form h
  obtain ⟨n, hn⟩ : ∃ n, q.length = n := ⟨_, rfl⟩
  have HN := Lib.hid hn
  rw [hn] at h ⊢
  have HS := Lib.hid hs
  have H := Lib.hid h
  have hsz : ∀ (w : World) o, (w.alloc o).heap.size = w.heap.size + 1 := fun w o => by simp
  have A0 := Lib.hid ((Bx.new 26 #[.slice a0 n p0, .int .i64 be, .int .i64 dn, .int .i64 tr, .bool pa, .bool br] w).alloc (Obj.cells #[.slice none 0 0, .int .i64 0, .int .i64 0, .int .i64 0, .bool false, .bool false] 26))
  have B0 := Bx.new 26 #[.slice none 0 0, .int .i64 0, .int .i64 0, .int .i64 0, .bool false, .bool false] (w.alloc (Obj.cells #[.slice a0 n p0, .int .i64 be, .int .i64 dn, .int .i64 tr, .bool pa, .bool br] 26))
  rw [hsz] at B0
  have X0 := Lib.hid B0
  have HB0 := Lib.hid (((Below.refl w.heap.size w).alloc (Nat.le_refl _) (Obj.cells #[.slice a0 n p0, .int .i64 be, .int .i64 dn, .int .i64 tr, .bool pa, .bool br] 26)).alloc (by simp) (Obj.cells #[.slice none 0 0, .int .i64 0, .int .i64 0, .int .i64 0, .bool false, .bool false] 26))
  obtain ⟨T, hT⟩ : ∃ T, wantsM q be dn tr pa br = T := ⟨_, rfl⟩
  have HT := Lib.hid hT
  obtain ⟨R, hR⟩ : ∃ R, issueM q be dn tr pa br = R := ⟨_, rfl⟩
  have HR := Lib.hid hR
  have hbd : T = true → 0 ≤ dn ∧ dn ≤ 8 ∧ dn ≤ be ∧ be ≤ 10 := fun e => by
    have hr : rightM q be dn tr pa br = true := by unfold wantsM at HT; have := HT.out.trans e; rw [Bool.and_eq_true] at this; exact this.1
    obtain ⟨h1, h2, h3, h4, _⟩ := right_bd hr
    exact ⟨h1, h2, h3, h4⟩
  have HBd := Lib.hid hbd
  rw [hR]
  clear B0 hsz h hn hs hT hR hbd
  show Calls _ _ #[.agg #[.slice a0 n p0, .int .i64 be, .int .i64 dn, .int .i64 tr, .bool pa, .bool br]] w _
  go_enter Try.func17, Try.ntmps17
  go_wp2_with fail
  generalize (w.alloc (Obj.cells #[.slice a0 n p0, .int .i64 be, .int .i64 dn, .int .i64 tr, .bool pa, .bool br] 26)).alloc (Obj.cells #[.slice none 0 0, .int .i64 0, .int .i64 0, .int .i64 0, .bool false, .bool false] 26) = y0 at A0 X0 HB0 ⊢
  refine (spec12Copy [.slice a0 n p0, .int .i64 be, .int .i64 dn, .int .i64 tr, .bool pa, .bool br] q be dn tr pa br HS.out _ (mstK.rd_later H.out HB0.out)).mono ?_
  rintro e y1 ⟨us, he, hc, hb⟩
  obtain ⟨a1, p1, rfl, _⟩ := mst_form (mstK.cap_rd hc)
  rw [HN.out] at he hc
  obtain rfl : e = .returned (.agg #[.slice a1 n p1, .int .i64 be, .int .i64 dn, .int .i64 tr, .bool pa, .bool br]) := he
  have ab := (Below.refl y1.heap.size y1).alloc (Nat.le_refl _) (Obj.cells #[.slice a1 n p1, .int .i64 be, .int .i64 dn, .int .i64 tr, .bool pa, .bool br] 26)
  have A1 := Lib.hid ((A0.out.later hb).later ab)
  have X1 := Lib.hid ((X0.out.later hb).later ab)
  have N1 := Lib.hid (Bx.new 26 #[.slice a1 n p1, .int .i64 be, .int .i64 dn, .int .i64 tr, .bool pa, .bool br] y1)
  have HB1 := Lib.hid ((HB0.out.trans (hb.mono HB0.out.size)).trans (ab.mono (Nat.le_trans HB0.out.size hb.size)))
  have C1 := Lib.hid (mstK.cap_later (mstK.cap_top hc) ab)
  have hlt : w.heap.size + 1 < y0.heap.size := X0.out.lt
  have hlt1 : y0.heap.size ≤ y1.heap.size := hb.size
  obtain ⟨g0, g1, g2, g3, g4, g5⟩ := Bx.cells6 (A0.out.later hb)
  obtain ⟨j0, j1, j2, j3, j4, j5⟩ := Bx.cells6 A1.out
  clear hc hb ab
  obtain ⟨b, hbb⟩ : ∃ b, y1.heap.size = b := ⟨_, rfl⟩
  go_wp2_with fail
  clear g0 g1 g2 g3 g4 g5 j0 j1 j2 j3 j4 j5
  generalize y1.alloc (Obj.cells #[.slice a1 n p1, .int .i64 be, .int .i64 dn, .int .i64 tr, .bool pa, .bool br] 26) = y2 at A1 X1 N1 HB1 C1 ⊢
  refine (wants_is HT.out HS.out _ (mstK.rd_later H.out HB1.out)).mono ?_
  rintro e y3 ⟨rfl, hb⟩
  have A3 := Lib.hid (A1.out.later hb)
  have N3 := Lib.hid (N1.out.later hb)
  have X3 := Lib.hid (X1.out.later hb)
  have HB3 := Lib.hid (HB1.out.trans (hb.mono HB1.out.size))
  have C3 := Lib.hid (mstK.cap_later C1.out hb)
  rw [hbb] at N3 C3 hlt1
  obtain ⟨g0, g1, g2, g3, g4, g5⟩ := Bx.cells6 A3.out
  obtain ⟨m0, m1, m2, m3, m4, m5⟩ := Bx.cells6 N3.out
  have hb3 : b < y3.heap.size := N3.out.lt
  have hne : ¬ w.heap.size + 1 = b := by omega
  have last : ∀ (be' : Int) (y5 : World), Turn (fun i => i = w.heap.size + 1 ∨ i = b) y3 y5 → mstK.cap (fun i => w.heap.size ≤ i) [.slice a1 n p1, .int .i64 be', .int .i64 dn, .int .i64 tr, .bool pa, .bool br] (q, be', dn, tr, pa, br) y5 := fun be' y5 ht => by
    obtain ⟨c1, p1', F1, e1, h1, h2⟩ := cap_mst C3.out
    rw [HN.out] at e1 h1
    simp at e1
    obtain ⟨rfl, rfl⟩ := e1
    exact mst_cap (reqS.cap_turn h1 ht (fun i _ h3 h4 => by have := h2 i h3; omega)) (fun i hi => by have := h2 i hi; omega)
  have Last := Lib.hid last
  clear hb hbb A0 A1 N1 X0 X1 HB0 HB1 C1 H last
  cases T with
  | false =>
    obtain rfl : R = ((q, be, dn, tr, pa, br), false) := by rw [← HR.out]; unfold issueM; rw [HT.out]; simp
    obtain ⟨k0, k1, k2, k3, k4, k5⟩ := Bx.cells6 X3.out
    obtain ⟨z0, z1, z2, z3, z4, z5⟩ := warm6 X3.out
    obtain ⟨e0, e1, e2, e3, e4, e5⟩ := Bx.cells6 (show Bx 26 (w.heap.size + 1) #[.slice a1 n p1, .int .i64 be, .int .i64 dn, .int .i64 tr, .bool pa, .bool br] _ from (((((X3.out.set 0 (.slice a1 n p1)).set 1 (.int .i64 be)).set 2 (.int .i64 dn)).set 3 (.int .i64 tr)).set 4 (.bool pa)).set 5 (.bool br))
    go_wp2_with fail
    refine bodyPost_ret (v := .tuple #[.agg #[.slice a1 n p1, .int .i64 be, .int .i64 dn, .int .i64 tr, .bool pa, .bool br], .bool false]) (by simp [results, Try.results17, go_sem, e0, e1, e2, e3, e4, e5]) rfl ⟨_, rfl, Last.out _ _ ?_, ?_⟩
    · iterate 6 refine Turn.set (F := fun k => k = w.heap.size + 1 ∨ k = b) ?_ (.inl rfl) _
      exact Turn.refl _ _
    · iterate 6 refine Below.setCell ?_ (by first | omega | (dsimp only; omega)) _
      exact HB3.out
  | true =>
    obtain ⟨hd0, hd1, hd2, hd3⟩ := HBd.out rfl
    by_cases hq : be = dn + 2
    · have hq' := hq.symm
      clear hq
      subst hq'
      obtain rfl : R = ((q, dn + 2, dn, tr, pa, br), false) := by rw [← HR.out]; unfold issueM; rw [if_neg (by rintro ⟨_, h⟩; exact h rfl)]
      obtain ⟨k0, k1, k2, k3, k4, k5⟩ := Bx.cells6 X3.out
      obtain ⟨z0, z1, z2, z3, z4, z5⟩ := warm6 X3.out
      obtain ⟨e0, e1, e2, e3, e4, e5⟩ := Bx.cells6 (show Bx 26 (w.heap.size + 1) #[.slice a1 n p1, .int .i64 (dn + 2), .int .i64 dn, .int .i64 tr, .bool pa, .bool br] _ from (((((X3.out.set 0 (.slice a1 n p1)).set 1 (.int .i64 (dn + 2))).set 2 (.int .i64 dn)).set 3 (.int .i64 tr)).set 4 (.bool pa)).set 5 (.bool br))
      go_wp2_with fail
      refine bodyPost_ret (v := .tuple #[.agg #[.slice a1 n p1, .int .i64 (dn + 2), .int .i64 dn, .int .i64 tr, .bool pa, .bool br], .bool false]) (by simp [results, Try.results17, go_sem, e0, e1, e2, e3, e4, e5]) rfl ⟨_, rfl, Last.out _ _ ?_, ?_⟩
      · iterate 6 refine Turn.set (F := fun k => k = w.heap.size + 1 ∨ k = b) ?_ (.inl rfl) _
        exact Turn.refl _ _
      · iterate 6 refine Below.setCell ?_ (by first | omega | (dsimp only; omega)) _
        exact HB3.out
    · obtain rfl : R = ((q, be + 1, dn, tr, pa, br), true) := by rw [← HR.out]; unfold issueM; rw [HT.out, if_pos ⟨rfl, hq⟩]
      have hq2 : (be == dn + 2) = false := by simp [hq]
      obtain ⟨y0', y1', y2', y3', y4', y5'⟩ := warm6 N3.out
      obtain ⟨j0, j1, j2, j3, j4, j5⟩ := Bx.cells6 (show Bx 26 b #[.slice a1 n p1, .int .i64 (be + 1), .int .i64 dn, .int .i64 tr, .bool pa, .bool br] _ from N3.out.set 1 (.int .i64 (be + 1)))
      have XX := X3.out.far (p := ⟨b, 1, none⟩) hne (.int .i64 (be + 1))
      obtain ⟨k0, k1, k2, k3, k4, k5⟩ := Bx.cells6 XX
      obtain ⟨z0, z1, z2, z3, z4, z5⟩ := warm6 XX
      obtain ⟨e0, e1, e2, e3, e4, e5⟩ := Bx.cells6 (show Bx 26 (w.heap.size + 1) #[.slice a1 n p1, .int .i64 (be + 1), .int .i64 dn, .int .i64 tr, .bool pa, .bool br] _ from (((((XX.set 0 (.slice a1 n p1)).set 1 (.int .i64 (be + 1))).set 2 (.int .i64 dn)).set 3 (.int .i64 tr)).set 4 (.bool pa)).set 5 (.bool br))
      go_wp2_with fail
      refine bodyPost_ret (v := .tuple #[.agg #[.slice a1 n p1, .int .i64 (be + 1), .int .i64 dn, .int .i64 tr, .bool pa, .bool br], .bool true]) (by simp [results, Try.results17, go_sem, e0, e1, e2, e3, e4, e5]) rfl ⟨_, rfl, Last.out _ _ ?_, ?_⟩
      · iterate 6 refine Turn.set (F := fun k => k = w.heap.size + 1 ∨ k = b) ?_ (.inl rfl) _
        refine Turn.set (F := fun k => k = w.heap.size + 1 ∨ k = b) ?_ (.inr rfl) _
        exact Turn.refl _ _
      · iterate 7 refine Below.setCell ?_ (by first | omega | (dsimp only; omega)) _
        exact HB3.out
set_option maxHeartbeats 8000000 in
set_option maxRecDepth 100000 in
theorem specBack (cs : List Value) (q : List ReqX) (be dn tr : Int) (pa br : Bool) (hs : mstK.sz (q, be, dn, tr, pa, br) ≤ 2000000) (w : World) (h : mstK.rd cs (q, be, dn, tr, pa, br) w) :
    Calls Try.prog 53 #[agg cs] w (MstB (backM q be dn tr pa br) w) := by
  obtain ⟨a0, p0, rfl, _⟩ := mst_form h
  obtain ⟨n, hn⟩ : ∃ n, q.length = n := ⟨_, rfl⟩
  have HN := Lib.hid hn
  rw [hn] at h ⊢
  have HS := Lib.hid hs
  have H := Lib.hid h
  have hsz : ∀ (w : World) o, (w.alloc o).heap.size = w.heap.size + 1 := fun w o => by simp
  have A0 := Lib.hid ((Bx.new 26 #[.slice a0 n p0, .int .i64 be, .int .i64 dn, .int .i64 tr, .bool pa, .bool br] w).alloc (Obj.cells #[.slice none 0 0, .int .i64 0, .int .i64 0, .int .i64 0, .bool false, .bool false] 26))
  have B0 := Bx.new 26 #[.slice none 0 0, .int .i64 0, .int .i64 0, .int .i64 0, .bool false, .bool false] (w.alloc (Obj.cells #[.slice a0 n p0, .int .i64 be, .int .i64 dn, .int .i64 tr, .bool pa, .bool br] 26))
  rw [hsz] at B0
  have X0 := Lib.hid B0
  have HB0 := Lib.hid (((Below.refl w.heap.size w).alloc (Nat.le_refl _) (Obj.cells #[.slice a0 n p0, .int .i64 be, .int .i64 dn, .int .i64 tr, .bool pa, .bool br] 26)).alloc (by simp) (Obj.cells #[.slice none 0 0, .int .i64 0, .int .i64 0, .int .i64 0, .bool false, .bool false] 26))
  obtain ⟨T, hT⟩ : ∃ T, rightM q be dn tr pa br = T := ⟨_, rfl⟩
  have HT := Lib.hid hT
  obtain ⟨R, hR⟩ : ∃ R, backM q be dn tr pa br = R := ⟨_, rfl⟩
  have HR := Lib.hid hR
  have hbd : T = true → 0 ≤ dn ∧ dn ≤ 8 ∧ dn ≤ be ∧ be ≤ 10 := fun e => by
    have hr : rightM q be dn tr pa br = true := HT.out.trans e
    obtain ⟨h1, h2, h3, h4, _⟩ := right_bd hr
    exact ⟨h1, h2, h3, h4⟩
  have HBd := Lib.hid hbd
  rw [hR]
  clear B0 hsz h hn hs hT hR hbd
  show Calls _ _ #[.agg #[.slice a0 n p0, .int .i64 be, .int .i64 dn, .int .i64 tr, .bool pa, .bool br]] w _
  go_enter Try.func53, Try.ntmps53
  go_wp2_with fail
  generalize (w.alloc (Obj.cells #[.slice a0 n p0, .int .i64 be, .int .i64 dn, .int .i64 tr, .bool pa, .bool br] 26)).alloc (Obj.cells #[.slice none 0 0, .int .i64 0, .int .i64 0, .int .i64 0, .bool false, .bool false] 26) = y0 at A0 X0 HB0 ⊢
  refine (spec12Copy [.slice a0 n p0, .int .i64 be, .int .i64 dn, .int .i64 tr, .bool pa, .bool br] q be dn tr pa br HS.out _ (mstK.rd_later H.out HB0.out)).mono ?_
  rintro e y1 ⟨us, he, hc, hb⟩
  obtain ⟨a1, p1, rfl, _⟩ := mst_form (mstK.cap_rd hc)
  rw [HN.out] at he hc
  obtain rfl : e = .returned (.agg #[.slice a1 n p1, .int .i64 be, .int .i64 dn, .int .i64 tr, .bool pa, .bool br]) := he
  have ab := (Below.refl y1.heap.size y1).alloc (Nat.le_refl _) (Obj.cells #[.slice a1 n p1, .int .i64 be, .int .i64 dn, .int .i64 tr, .bool pa, .bool br] 26)
  have A1 := Lib.hid ((A0.out.later hb).later ab)
  have X1 := Lib.hid ((X0.out.later hb).later ab)
  have N1 := Lib.hid (Bx.new 26 #[.slice a1 n p1, .int .i64 be, .int .i64 dn, .int .i64 tr, .bool pa, .bool br] y1)
  have HB1 := Lib.hid ((HB0.out.trans (hb.mono HB0.out.size)).trans (ab.mono (Nat.le_trans HB0.out.size hb.size)))
  have C1 := Lib.hid (mstK.cap_later (mstK.cap_top hc) ab)
  have hlt : w.heap.size + 1 < y0.heap.size := X0.out.lt
  have hlt1 : y0.heap.size ≤ y1.heap.size := hb.size
  obtain ⟨g0, g1, g2, g3, g4, g5⟩ := Bx.cells6 (A0.out.later hb)
  obtain ⟨j0, j1, j2, j3, j4, j5⟩ := Bx.cells6 A1.out
  clear hc hb ab
  obtain ⟨b, hbb⟩ : ∃ b, y1.heap.size = b := ⟨_, rfl⟩
  go_wp2_with fail
  clear g0 g1 g2 g3 g4 g5 j0 j1 j2 j3 j4 j5
  generalize y1.alloc (Obj.cells #[.slice a1 n p1, .int .i64 be, .int .i64 dn, .int .i64 tr, .bool pa, .bool br] 26) = y2 at A1 X1 N1 HB1 C1 ⊢
  refine (right_is HT.out HS.out _ (mstK.rd_later H.out HB1.out)).mono ?_
  rintro e y3 ⟨rfl, hb⟩
  have A3 := Lib.hid (A1.out.later hb)
  have N3 := Lib.hid (N1.out.later hb)
  have X3 := Lib.hid (X1.out.later hb)
  have HB3 := Lib.hid (HB1.out.trans (hb.mono HB1.out.size))
  have C3 := Lib.hid (mstK.cap_later C1.out hb)
  rw [hbb] at N3 C3 hlt1
  obtain ⟨g0, g1, g2, g3, g4, g5⟩ := Bx.cells6 A3.out
  obtain ⟨m0, m1, m2, m3, m4, m5⟩ := Bx.cells6 N3.out
  have hb3 : b < y3.heap.size := N3.out.lt
  have hne : ¬ w.heap.size + 1 = b := by omega
  have last : ∀ (be' : Int) (y5 : World), Turn (fun i => i = w.heap.size + 1 ∨ i = b) y3 y5 → mstK.cap (fun i => w.heap.size ≤ i) [.slice a1 n p1, .int .i64 be', .int .i64 dn, .int .i64 tr, .bool pa, .bool br] (q, be', dn, tr, pa, br) y5 := fun be' y5 ht => by
    obtain ⟨c1, p1', F1, e1, h1, h2⟩ := cap_mst C3.out
    rw [HN.out] at e1 h1
    simp at e1
    obtain ⟨rfl, rfl⟩ := e1
    exact mst_cap (reqS.cap_turn h1 ht (fun i _ h3 h4 => by have := h2 i h3; omega)) (fun i hi => by have := h2 i hi; omega)
  have Last := Lib.hid last
  clear hb hbb A0 A1 N1 X0 X1 HB0 HB1 C1 H last
  cases T with
  | false =>
    obtain rfl : R = ((q, be, dn, tr, pa, br), false) := by rw [← HR.out]; unfold backM; rw [HT.out]; simp
    obtain ⟨k0, k1, k2, k3, k4, k5⟩ := Bx.cells6 X3.out
    obtain ⟨z0, z1, z2, z3, z4, z5⟩ := warm6 X3.out
    obtain ⟨e0, e1, e2, e3, e4, e5⟩ := Bx.cells6 (show Bx 26 (w.heap.size + 1) #[.slice a1 n p1, .int .i64 be, .int .i64 dn, .int .i64 tr, .bool pa, .bool br] _ from (((((X3.out.set 0 (.slice a1 n p1)).set 1 (.int .i64 be)).set 2 (.int .i64 dn)).set 3 (.int .i64 tr)).set 4 (.bool pa)).set 5 (.bool br))
    go_wp2_with fail
    refine bodyPost_ret (v := .tuple #[.agg #[.slice a1 n p1, .int .i64 be, .int .i64 dn, .int .i64 tr, .bool pa, .bool br], .bool false]) (by simp [results, Try.results53, go_sem, e0, e1, e2, e3, e4, e5]) rfl ⟨_, rfl, Last.out _ _ ?_, ?_⟩
    · iterate 6 refine Turn.set (F := fun k => k = w.heap.size + 1 ∨ k = b) ?_ (.inl rfl) _
      exact Turn.refl _ _
    · iterate 6 refine Below.setCell ?_ (by first | omega | (dsimp only; omega)) _
      exact HB3.out
  | true =>
    obtain ⟨hd0, hd1, hd2, hd3⟩ := HBd.out rfl
    by_cases hq : be = dn
    · have hq' := hq.symm
      clear hq
      subst hq'
      obtain rfl : R = ((q, dn, dn, tr, pa, br), false) := by rw [← HR.out]; unfold backM; rw [if_neg (by rintro ⟨_, h⟩; exact h rfl)]
      obtain ⟨k0, k1, k2, k3, k4, k5⟩ := Bx.cells6 X3.out
      obtain ⟨z0, z1, z2, z3, z4, z5⟩ := warm6 X3.out
      obtain ⟨e0, e1, e2, e3, e4, e5⟩ := Bx.cells6 (show Bx 26 (w.heap.size + 1) #[.slice a1 n p1, .int .i64 (dn), .int .i64 dn, .int .i64 tr, .bool pa, .bool br] _ from (((((X3.out.set 0 (.slice a1 n p1)).set 1 (.int .i64 (dn))).set 2 (.int .i64 dn)).set 3 (.int .i64 tr)).set 4 (.bool pa)).set 5 (.bool br))
      go_wp2_with fail
      refine bodyPost_ret (v := .tuple #[.agg #[.slice a1 n p1, .int .i64 (dn), .int .i64 dn, .int .i64 tr, .bool pa, .bool br], .bool false]) (by simp [results, Try.results53, go_sem, e0, e1, e2, e3, e4, e5]) rfl ⟨_, rfl, Last.out _ _ ?_, ?_⟩
      · iterate 6 refine Turn.set (F := fun k => k = w.heap.size + 1 ∨ k = b) ?_ (.inl rfl) _
        exact Turn.refl _ _
      · iterate 6 refine Below.setCell ?_ (by first | omega | (dsimp only; omega)) _
        exact HB3.out
    · obtain rfl : R = ((q, be - 1, dn, tr, pa, br), true) := by rw [← HR.out]; unfold backM; rw [HT.out, if_pos ⟨rfl, hq⟩]
      have hq2 : (be == dn) = false := by simp [hq]
      obtain ⟨y0', y1', y2', y3', y4', y5'⟩ := warm6 N3.out
      obtain ⟨j0, j1, j2, j3, j4, j5⟩ := Bx.cells6 (show Bx 26 b #[.slice a1 n p1, .int .i64 (be - 1), .int .i64 dn, .int .i64 tr, .bool pa, .bool br] _ from N3.out.set 1 (.int .i64 (be - 1)))
      have XX := X3.out.far (p := ⟨b, 1, none⟩) hne (.int .i64 (be - 1))
      obtain ⟨k0, k1, k2, k3, k4, k5⟩ := Bx.cells6 XX
      obtain ⟨z0, z1, z2, z3, z4, z5⟩ := warm6 XX
      obtain ⟨e0, e1, e2, e3, e4, e5⟩ := Bx.cells6 (show Bx 26 (w.heap.size + 1) #[.slice a1 n p1, .int .i64 (be - 1), .int .i64 dn, .int .i64 tr, .bool pa, .bool br] _ from (((((XX.set 0 (.slice a1 n p1)).set 1 (.int .i64 (be - 1))).set 2 (.int .i64 dn)).set 3 (.int .i64 tr)).set 4 (.bool pa)).set 5 (.bool br))
      go_wp2_with fail
      refine bodyPost_ret (v := .tuple #[.agg #[.slice a1 n p1, .int .i64 (be - 1), .int .i64 dn, .int .i64 tr, .bool pa, .bool br], .bool true]) (by simp [results, Try.results53, go_sem, e0, e1, e2, e3, e4, e5]) rfl ⟨_, rfl, Last.out _ _ ?_, ?_⟩
      · iterate 6 refine Turn.set (F := fun k => k = w.heap.size + 1 ∨ k = b) ?_ (.inl rfl) _
        refine Turn.set (F := fun k => k = w.heap.size + 1 ∨ k = b) ?_ (.inr rfl) _
        exact Turn.refl _ _
      · iterate 7 refine Below.setCell ?_ (by first | omega | (dsimp only; omega)) _
        exact HB3.out
end Go.Proofs.Ytijilhaoknpeeaa.KD
