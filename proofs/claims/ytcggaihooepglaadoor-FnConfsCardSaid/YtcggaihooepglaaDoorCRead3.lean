
/-
  Reading a configuration: the program's confOfWords.
-/
import Derived.Test.YtcggaihooepglaaDoorCRead2
import Derived.Test.YtcggaihooepglaaDoorFreshRow
import Derived.OneCell
import Derived.Deep.RegionLaw
namespace Go.Proofs.YtcggaihooepglaaDoor.Num
open Go.RowKit Rows3 Bytes Cut GR

/-- the words say this configuration, where they are one's. -/
structure PC (ws : List ByteArray) (l : List MC) (q mw mr ms lm : Int) : Prop where
  q : Nm (ws.getD 0 ByteArray.empty) q
  mw : Nm (ws.getD 1 ByteArray.empty) mw
  mr : Nm (ws.getD 2 ByteArray.empty) mr
  ms : Nm (ws.getD 3 ByteArray.empty) ms
  lm : Nm (ws.getD 4 ByteArray.empty) lm
  len : l.length + 5 = ws.length
  m : ∀ i x, l[i]? = some x → MOf (ws.getD (5 + i) ByteArray.empty) x
theorem vm_of {l : List MC} {q mw mr ms lm : Int} (h : CFacts l q mw mr ms lm) : ∀ x ∈ l, VM x := h.m
theorem wordsC_no32 {l : List MC} {q mw mr ms lm : Int} (h : CFacts l q mw mr ms lm) : ∀ p ∈ wordsC q mw mr ms lm l, 32 ∉ p.data.toList := by
  intro p hp
  have hq := h.q
  have hmw := h.mw
  have hmr := h.mr
  have hms := h.ms
  have hlm := h.lm
  unfold wordsC at hp
  simp only [List.mem_append, List.mem_cons, List.not_mem_nil, or_false, List.mem_map] at hp
  rcases hp with (rfl | rfl | rfl | rfl | rfl) | ⟨m, hm, rfl⟩
  · exact decB_no (by omega) (by decide)
  · exact decB_no (by omega) (by decide)
  · exact decB_no (by omega) (by decide)
  · exact decB_no (by omega) (by decide)
  · exact decB_no (by omega) (by decide)
  · exact mB_no32 (h.m m hm)
theorem conf_cut {l : List MC} {q mw mr ms lm : Int} (hok : okC l q mw mr ms lm = true) {s : ByteArray} (h : txtC l q mw mr ms lm = s) : cutWs 32 s = wordsC q mw mr ms lm l := by
  have hf := okC_facts hok
  apply cutWs_of
  · intro e; have := wordsC_len q mw mr ms lm l; rw [e] at this; simp at this; omega
  · exact wordsC_no32 hf
  · have h2 := wordsC_join q mw mr ms lm l
    unfold txtC at h
    rw [if_pos hok] at h
    rw [h] at h2
    rw [← h2]
theorem PC.uniq {s : ByteArray} {l : List MC} {q mw mr ms lm : Int} (h : PC (cutWs 32 s) l q mw mr ms lm) {l' : List MC} {q' mw' mr' ms' lm' : Int} (hok : okC l' q' mw' mr' ms' lm' = true) (ht : txtC l' q' mw' mr' ms' lm' = s) :
    l = l' ∧ q = q' ∧ mw = mw' ∧ mr = mr' ∧ ms = ms' ∧ lm = lm' := by
  have hf := okC_facts hok
  have hq := hf.q
  have hmw := hf.mw
  have hmr := hf.mr
  have hms := hf.ms
  have hlm := hf.lm
  rw [conf_cut hok ht] at h
  have hlen := h.len
  rw [wordsC_len] at hlen
  refine ⟨List.ext_getElem (by omega) fun i h1 h2 => ?_, h.q.2.2 q' (by omega) (by omega) rfl, h.mw.2.2 mw' (by omega) (by omega) rfl, h.mr.2.2 mr' (by omega) (by omega) rfl, h.ms.2.2 ms' (by omega) (by omega) rfl, h.lm.2.2 lm' (by omega) (by omega) rfl⟩
  have hm := h.m i l[i] (by simp [h1])
  refine hm l'[i] (hf.m _ (List.getElem_mem h2)) ?_
  unfold wordsC
  rw [List.getD_eq_getElem?_getD, List.getElem?_append_right (by simp)]
  simp [h2]
def MadeC (ws : List ByteArray) (w : World) (e : Ending) (w' : World) : Prop :=
  ∃ (u : Value) (l : List MC) (q mw mr ms lm : Int), e = .returned (.agg #[u, .int .i64 q, .int .i64 mw, .int .i64 mr, .int .i64 ms, .int .i64 lm]) ∧ PC ws l q mw mr ms lm ∧ Own mcK 50 w.heap.size u l w' ∧ Below w.heap.size w w'
def frN (W : ByteArray) : Fresh.Fr := ⟨fun v => ∃ n : Int, v = .int .i64 n ∧ Nm W n, fun _ _ => True⟩
theorem frN_ex (W : ByteArray) (h : ∃ n, Nm W n) : ∃ v, (frN W).sh v := by obtain ⟨n, hn⟩ := h; exact ⟨_, n, rfl, hn⟩
theorem nm_ex (W : ByteArray) : ∃ n, Nm W n := by
  by_cases h : ∃ d : Int, 0 ≤ d ∧ d ≤ 1000 ∧ W = decB d
  · obtain ⟨d, _, _, e⟩ := h
    exact ⟨d, by omega, by omega, fun d' _ _ e' => decB_inj (by rw [← e, e'])⟩
  · exact ⟨0, by omega, by omega, fun d h0 h1 e => absurd ⟨d, h0, h1, e⟩ h⟩
theorem frN_of {W : ByteArray} {args : Array Value} {f : FuncId} {w0 w : World} (hC : ∃ p : Regrown, w = Sort.grow (redrawn w0 p.d) p.os) (h : Calls Tryd.prog f args w (NmB W w)) :
    Fresh.freshUpon Tryd.prog (Fresh.After (fun w' => ∃ p : Regrown, w' = Sort.grow (redrawn w0 p.d) p.os) (fun w' w'' => Below w'.heap.size w' w'') (frN W) w) (.ok (.enter f args) w) :=
  h.mono fun _ _ ⟨n, he, hn, hb⟩ => ⟨_, he, ⟨n, rfl, hn⟩, trivial, hb, Fresh.cls_of ((Fresh.below_of hC).trans (hb.mono (Fresh.below_of hC).size))⟩
/-- what holds in the program's loop over the masters' words. -/
def LoopC (ws : List ByteArray) (w1 : World) (b : Nat) (n0 n1 n2 n3 n4 : Int) (k : Nat) (wr : World) : Prop :=
  ∃ (u : Value) (l : List MC), l.length = k ∧ (∀ i x, l[i]? = some x → MOf (ws.getD (5 + i) ByteArray.empty) x) ∧ Bx 26 b #[u, .int .i64 n0, .int .i64 n1, .int .i64 n2, .int .i64 n3, .int .i64 n4] wr ∧ Own mcK 50 w1.heap.size u l wr ∧ Below w1.heap.size w1 wr
theorem own_ne_bx {K : Kd MC} {T T' B b : Nat} {u : Value} {l : List MC} {cs : Array Value} {w : World} (ho : Own K T B u l w) (hb : Bx T' b cs w) (hT : T ≠ T') : u.ownBlock ≠ some b := by
  rcases ho.2 with ⟨rfl, _⟩ | ⟨g, cap, cur, rfl, _, hg, _⟩
  · intro e; cases e
  · intro e
    obtain rfl : g = b := by injection e
    unfold Bx at hb
    rw [hg] at hb
    injection hb with h1
    injection h1 with _ h2
    exact hT h2
def frM (W : ByteArray) : Fresh.Fr := ⟨fun v => ∃ (a : Int) (p : Bool) (b c : Int), v = .agg #[.int .i64 a, .bool p, .int .i64 b, .int .i64 c] ∧ MOf W ⟨a, p, b, c⟩, fun _ _ => True⟩
def frB1 (W : ByteArray) (B : Nat) : Fresh.Fr := ⟨fun v => ∃ g, v = .slice (some ⟨g, 0, none⟩) 1 1, fun v w => ∃ (g : Nat) (a : Int) (p : Bool) (b c : Int), v = .slice (some ⟨g, 0, none⟩) 1 1 ∧ B ≤ g ∧ MOf W ⟨a, p, b, c⟩ ∧ w.heap[g]? = some (.cells #[.int .i64 a, .bool p, .int .i64 b, .int .i64 c] 50)⟩
def frA (W : ByteArray) (B : Nat) (l : List MC) : Fresh.Fr := ⟨fun v => ∃ ad cap, v = .slice ad (l.length + 1) cap, fun v w => ∃ (a : Int) (p : Bool) (b c : Int), MOf W ⟨a, p, b, c⟩ ∧ Own mcK 50 B v (l ++ [⟨a, p, b, c⟩]) w⟩
theorem mof_ex (W : ByteArray) : ∃ m, MOf W m := by
  by_cases h : ∃ m, VM m ∧ W = mB m
  · obtain ⟨m, hv, e⟩ := h
    refine ⟨m, fun m' hv' e' => ?_⟩
    have h1 : partsM m = partsM m' := by rw [← mB_cut hv, ← mB_cut hv', ← e, e']
    obtain ⟨a, p, b, c⟩ := m
    obtain ⟨a', p', b', c'⟩ := m'
    unfold partsM at h1
    obtain ⟨_, _, _, v4⟩ := hv
    obtain ⟨_, _, _, v4'⟩ := hv'
    cases p <;> cases p' <;> simp at h1 v4 v4'
    · have := decB_inj h1
      simp_all
    · have := decB_inj h1.1
      have := decB_inj h1.2.1
      have := decB_inj h1.2.2
      simp_all
  · exact ⟨⟨0, false, 0, 0⟩, fun m hv e => absurd ⟨m, hv, e⟩ h⟩
set_option maxHeartbeats 4000000 in
set_option maxRecDepth 100000 in
theorem implMade (ws : List ByteArray) (g n cp : Nat) (hn : ws.length = n) (h5 : 5 ≤ n) (h9 : n ≤ 9) (hcp : n ≤ cp) (hcm : cp ≤ 10) (hsz : ∀ j, (ws.getD j ByteArray.empty).size ≤ 1048576) (w : World) (hg : g < w.heap.size)
    (hc : ∀ j, j < n → w.cell? ⟨g, j, none⟩ = some (.string (ws.getD j ByteArray.empty))) (herr : Errs w) :
    Calls Tryd.prog 25 #[.slice (some ⟨g, 0, none⟩) n cp] w (MadeC ws w) := by
  have Herr := Lib.hid herr
  have Hc := Lib.hid hc
  have Hsz := Lib.hid hsz
  have Hn := Lib.hid hn
  have R0 := Lib.hid (Bx.new 26 #[.slice none 0 0, .int .i64 0, .int .i64 0, .int .i64 0, .int .i64 0, .int .i64 0] w)
  obtain ⟨w1, hw1⟩ : ∃ w1, w.alloc (Obj.cells #[.slice none 0 0, .int .i64 0, .int .i64 0, .int .i64 0, .int .i64 0, .int .i64 0] 26) = w1 := ⟨_, rfl⟩
  have hb1 : Below w.heap.size w w1 := by rw [← hw1]; exact (Below.refl _ _).alloc (Nat.le_refl _) _
  rw [hw1] at R0
  have Hb1 := Lib.hid hb1
  have Herr1 := Lib.hid (errs_below herr hb1)
  obtain ⟨W0, e0⟩ : ∃ W, ws.getD 0 ByteArray.empty = W := ⟨_, rfl⟩
  obtain ⟨W1, e1⟩ : ∃ W, ws.getD 1 ByteArray.empty = W := ⟨_, rfl⟩
  obtain ⟨W2, e2⟩ : ∃ W, ws.getD 2 ByteArray.empty = W := ⟨_, rfl⟩
  obtain ⟨W3, e3⟩ : ∃ W, ws.getD 3 ByteArray.empty = W := ⟨_, rfl⟩
  obtain ⟨W4, e4⟩ : ∃ W, ws.getD 4 ByteArray.empty = W := ⟨_, rfl⟩
  have c0 := (below_cells hb1 hg 0).trans (hc 0 (by omega))
  have c1 := (below_cells hb1 hg 1).trans (hc 1 (by omega))
  have c2 := (below_cells hb1 hg 2).trans (hc 2 (by omega))
  have c3 := (below_cells hb1 hg 3).trans (hc 3 (by omega))
  have c4 := (below_cells hb1 hg 4).trans (hc 4 (by omega))
  rw [e0] at c0
  rw [e1] at c1
  rw [e2] at c2
  rw [e3] at c3
  rw [e4] at c4
  have s0 : Hid (W0.size ≤ 1048576) := Lib.hid (by rw [← e0]; exact hsz 0)
  have s1 : Hid (W1.size ≤ 1048576) := Lib.hid (by rw [← e1]; exact hsz 1)
  have s2 : Hid (W2.size ≤ 1048576) := Lib.hid (by rw [← e2]; exact hsz 2)
  have s3 : Hid (W3.size ≤ 1048576) := Lib.hid (by rw [← e3]; exact hsz 3)
  have s4 : Hid (W4.size ≤ 1048576) := Lib.hid (by rw [← e4]; exact hsz 4)
  have E0 := Lib.hid e0
  have E1 := Lib.hid e1
  have E2 := Lib.hid e2
  have E3 := Lib.hid e3
  have E4 := Lib.hid e4
  have hg1 : g < w1.heap.size := Nat.lt_of_lt_of_le hg hb1.size
  have y0 := fun d os => cell_regrown c0 d os
  have y1 := fun d os => cell_regrown c1 d os
  have y2 := fun d os => cell_regrown c2 d os
  have y3 := fun d os => cell_regrown c3 d os
  have y4 := fun d os => cell_regrown c4 d os
  have hw1' := Lib.hid hw1
  clear herr hc hsz hn e0 e1 e2 e3 e4 c0 c1 c2 c3 c4 hb1 hw1
  go_enter Tryd.func25, Tryd.ntmps25
  go_wp2_with fail
  rw [hw1'.out]
  refine Fresh.wp_fresh_last (fun w' => ∃ p : Regrown, w' = Sort.grow (redrawn w1 p.d) p.os) (fun _ w' w'' => Below w'.heap.size w' w'') (fun i => if i = 3 then some (frN W0) else if i = 7 then some (frN W1) else if i = 11 then some (frN W2) else if i = 15 then some (frN W3) else if i = 19 then some (frN W4) else if i = 21 then some (Fresh.frP w1.heap.size 26 #[.slice none 0 0, .int .i64 0, .int .i64 0, .int .i64 0, .int .i64 0, .int .i64 0]) else none) (by simp) (by kernel_rfl) (by kernel_rfl) (by kernel_rfl) (by kernel_rfl) (by kernel_rfl) rfl ?_ (Fresh.cls_of (Below.refl _ _).drew) ?_
  · intro _ i fr hfr _ _
    repeat' split at hfr
    all_goals first
      | (cases hfr; exact fun _ _ _ _ _ => trivial)
      | (cases hfr; exact Fresh.frP_stable)
      | cases hfr
  · dsimp only [List.dropLast, List.getLast]
    iterate 3 (refine Fresh.step_plain rfl rfl rfl (fun K hK => ?_); go_big_quiet_op; refine hK _ ?_; clear hK K)
    refine Fresh.step_fresh _ rfl rfl ?_ (frN_ex _ (nm_ex W0)) ?_
    · rintro w6 hC -
      go_simp
      exact frN_of hC (implNm W0 s0.out _ (errs_below Herr1.out (Fresh.below_of hC)))
    rintro v ⟨n0, rfl, hn0⟩
    have N0 := Lib.hid hn0
    clear hn0
    go_simp
    iterate 3 (refine Fresh.step_plain rfl rfl rfl (fun K hK => ?_); go_big_quiet_op; refine hK _ ?_; clear hK K)
    refine Fresh.step_fresh _ rfl rfl ?_ (frN_ex _ (nm_ex W1)) ?_
    · rintro w6 hC -
      go_simp
      exact frN_of hC (implNm W1 s1.out _ (errs_below Herr1.out (Fresh.below_of hC)))
    rintro v ⟨n1, rfl, hn1⟩
    have N1 := Lib.hid hn1
    clear hn1
    go_simp
    iterate 3 (refine Fresh.step_plain rfl rfl rfl (fun K hK => ?_); go_big_quiet_op; refine hK _ ?_; clear hK K)
    refine Fresh.step_fresh _ rfl rfl ?_ (frN_ex _ (nm_ex W2)) ?_
    · rintro w6 hC -
      go_simp
      exact frN_of hC (implNm W2 s2.out _ (errs_below Herr1.out (Fresh.below_of hC)))
    rintro v ⟨n2, rfl, hn2⟩
    have N2 := Lib.hid hn2
    clear hn2
    go_simp
    iterate 3 (refine Fresh.step_plain rfl rfl rfl (fun K hK => ?_); go_big_quiet_op; refine hK _ ?_; clear hK K)
    refine Fresh.step_fresh _ rfl rfl ?_ (frN_ex _ (nm_ex W3)) ?_
    · rintro w6 hC -
      go_simp
      exact frN_of hC (implNm W3 s3.out _ (errs_below Herr1.out (Fresh.below_of hC)))
    rintro v ⟨n3, rfl, hn3⟩
    have N3 := Lib.hid hn3
    clear hn3
    go_simp
    iterate 3 (refine Fresh.step_plain rfl rfl rfl (fun K hK => ?_); go_big_quiet_op; refine hK _ ?_; clear hK K)
    refine Fresh.step_fresh _ rfl rfl ?_ (frN_ex _ (nm_ex W4)) ?_
    · rintro w6 hC -
      go_simp
      exact frN_of hC (implNm W4 s4.out _ (errs_below Herr1.out (Fresh.below_of hC)))
    rintro v ⟨n4, rfl, hn4⟩
    have N4 := Lib.hid hn4
    clear hn4
    go_simp
    (refine Fresh.step_plain rfl rfl rfl (fun K hK => ?_); go_big_quiet_op; refine hK _ ?_; clear hK K)
    refine Fresh.step_fresh _ rfl rfl ?_ ⟨_, 0, rfl⟩ ?_
    · rintro w6 hC -
      have hb6 := Fresh.below_of hC
      go_simp
      exact Fresh.value_of ⟨⟨_, rfl⟩, ⟨_, rfl, hb6.size, heap_alloc_new w6 _⟩, (Below.refl _ _).alloc (Nat.le_refl _) _, Fresh.cls_of (hb6.alloc hb6.size _)⟩
    rintro v ⟨b, rfl⟩
    go_simp
    refine Fresh.step_end (fun w2 hC hF => ?_)
    have hb2 := Fresh.below_of hC
    obtain ⟨b', e, hbB, hbx⟩ := Fresh.fact_of (hF 21)
    obtain rfl : b = b' := by simpa using e
    have X0 : Bx 26 b #[.slice none 0 0, .int .i64 0, .int .i64 0, .int .i64 0, .int .i64 0, .int .i64 0] w2 := hbx
    have Xf := Lib.hid (((((((X0.set 0 (.slice none 0 0)).set 1 (.int .i64 n0)).set 2 (.int .i64 n1)).set 3 (.int .i64 n2)).set 4 (.int .i64 n3)).set 5 (.int .i64 n4)))
    have HbB := Lib.hid hbB
    have Hf := Lib.hid ((((((hb2.setCell (by exact hbB) (.slice none 0 0)).setCell (by exact hbB) (.int .i64 n0)).setCell (by exact hbB) (.int .i64 n1)).setCell (by exact hbB) (.int .i64 n2)).setCell (by exact hbB) (.int .i64 n3)).setCell (by exact hbB) (.int .i64 n4) : Below w1.heap.size w1 ((((((w2.setCell ⟨b, 0, none⟩ (.slice none 0 0)).setCell ⟨b, 1, none⟩ (.int .i64 n0)).setCell ⟨b, 2, none⟩ (.int .i64 n1)).setCell ⟨b, 3, none⟩ (.int .i64 n2)).setCell ⟨b, 4, none⟩ (.int .i64 n3)).setCell ⟨b, 5, none⟩ (.int .i64 n4)))
    obtain ⟨x0, x1, x2, x3, x4, x5⟩ := X0.cells6
    have v0 := X0.warm 0
    have v1 := X0.warm 1
    have v2 := X0.warm 2
    have v3 := X0.warm 3
    have v4 := X0.warm 4
    have v5 := X0.warm 5
    clear hC hF e hbx X0 y0 y1 y2 y3 y4 hb2 hbB
    go_simp
    generalize (((((w2.setCell ⟨b, 0, none⟩ (.slice none 0 0)).setCell ⟨b, 1, none⟩ (.int .i64 n0)).setCell ⟨b, 2, none⟩ (.int .i64 n1)).setCell ⟨b, 3, none⟩ (.int .i64 n2)).setCell ⟨b, 4, none⟩ (.int .i64 n3)).setCell ⟨b, 5, none⟩ (.int .i64 n4) = w3 at Xf Hf ⊢
    have X3 := Lib.hid (show Bx 26 b #[.slice none 0 0, .int .i64 n0, .int .i64 n1, .int .i64 n2, .int .i64 n3, .int .i64 n4] w3 from Xf.out)
    have hg3 : g < w3.heap.size := Nat.lt_of_lt_of_le hg1 Hf.out.size
    clear x0 x1 x2 x3 x4 x5 v0 v1 v2 v3 v4 v5 Xf
    by_cases hc5 : cp = 5
    · subst hc5
      obtain rfl : n = 5 := by omega
      go_wp2_with fail
      go_loopw [30] (fun i wr => i = .int .i64 0 ∧ wr = w3) (fun _ _ => 0)
      case atStart => exact ⟨rfl, rfl⟩
      case round =>
        obtain ⟨rfl, rfl⟩ := hrel
        have Rr := R0.out.below Hf.out R0.out.lt
        obtain ⟨x0, x1, x2, x3, x4, x5⟩ := X3.out.cells6
        obtain ⟨r0, r1, r2, r3, r4, r5⟩ := Rr.cells6
        have y0 := Rr.warm 0
        have y1 := Rr.warm 1
        have y2 := Rr.warm 2
        have y3 := Rr.warm 3
        have y4 := Rr.warm 4
        have y5 := Rr.warm 5
        have hrl := Rr.lt
        have Hw := Lib.hid (Hb1.out.trans (Hf.out.mono Hb1.out.size))
        have Hpc := Lib.hid (show PC ws [] n0 n1 n2 n3 n4 from ⟨by rw [E0.out]; exact N0.out, by rw [E1.out]; exact N1.out, by rw [E2.out]; exact N2.out, by rw [E3.out]; exact N3.out, by rw [E4.out]; exact N4.out, by rw [Hn.out]; rfl, fun i x h => by simp at h⟩)
        clear Rr
        go_wp2_with fail
        refine bodyPost_ret (v := .agg #[.slice none 0 0, .int .i64 n0, .int .i64 n1, .int .i64 n2, .int .i64 n3, .int .i64 n4]) (by simp [results, Tryd.results25, go_sem, r0, r1, r2, r3, r4, r5]) rfl ⟨_, [], n0, n1, n2, n3, n4, rfl, Hpc.out, Own.nil _ _ _ _, ?_⟩
        iterate 6 refine Below.setCell ?_ (by exact Nat.le_refl _) _
        exact Hw.out
    · have hcp6 : 6 ≤ cp := by omega
      have hcb : ((cp : Int) == 5) = false := by rw [beq_eq_false_iff_ne]; omega
      obtain ⟨m, hm⟩ : ∃ m, n = m + 5 := ⟨n - 5, by omega⟩
      subst hm
      go_wp2_with fail
      go_loopw [30] (fun i wr => ∃ k : Nat, k ≤ m ∧ i = .int .i64 k ∧ LoopC ws w1 b n0 n1 n2 n3 n4 k wr) (fun i _ => m - (intOf i).toNat)
      case atStart => exact ⟨0, by omega, rfl, .slice none 0 0, [], rfl, fun i x h => by simp at h, X3.out, Own.nil _ _ _ _, Hf.out⟩
      case round =>
        obtain ⟨k, hk, rfl, u, l, hlk, hml, hbx, how, hbr⟩ := hrel
        have Hlk := Lib.hid hlk
        have Hml := Lib.hid hml
        have Hbx := Lib.hid hbx
        have How := Lib.hid how
        have Hbr := Lib.hid hbr
        have Hw := Lib.hid (Hb1.out.trans (hbr.mono Hb1.out.size))
        have hne := own_ne_bx how hbx (by decide)
        by_cases hlt : k < m
        · obtain ⟨W, hW⟩ : ∃ W, ws.getD (5 + k) ByteArray.empty = W := ⟨_, rfl⟩
          have hcw := (below_cells Hw.out hg (5 + k)).trans (Hc.out (5 + k) (by omega))
          rw [hW] at hcw
          have HW := Lib.hid hW
          have HS : Hid (W.size ≤ 1048576) := Lib.hid (by rw [← hW]; exact Hsz.out _)
          have y0 : ∀ x : Fresh.In (fun w' => wr.grownBy w' u.ownBlock), x.w.cell? ⟨b, 0, none⟩ = some u := fun x => by
            have h1 := x.h.block b hbx.lt (fun e => hne e.symm)
            exact (World.cell?_of_block (a := ⟨b, 0, none⟩) h1).trans (hbx.cell 0 _ rfl)
          obtain ⟨ad, cp', hu⟩ := how.slice
          rw [Hlk.out] at hu
          subst hu
          have Hne := Lib.hid hne
          obtain ⟨r, hr⟩ : ∃ r, (Value.slice ad k cp').ownBlock = r := ⟨_, rfl⟩
          have hrlt : ∀ g', r = some g' → w1.heap.size ≤ g' ∧ g' < wr.heap.size := fun g' e => World.ownsRow.lt how g' (by rw [hr, e])
          have Hr := Lib.hid hr
          have Hrlt := Lib.hid hrlt
          rw [hr] at y0
          have hin : Nonempty (Fresh.In (fun w' => wr.grownBy w' r)) := ⟨⟨wr, rfl, rfl, rfl, Nat.le_refl _, fun _ _ _ => rfl⟩⟩
          have HD : ∀ {w6 : World}, wr.grownBy w6 r → Below w1.heap.size w1 w6 := fun {w6} h6 => Hbr.out.grown h6 Hbr.out.size (fun g' e => (Hrlt.out g' e).1)
          clear hW hlk hml hbx how hbr hne hr hrlt
          go_wp2_with fail
          refine Fresh.wp_region_fresh_last (fun w' => ∃ x : Fresh.In (fun w' => wr.grownBy w' r), w' = x.w) (fun i w' w'' => if i = 5 then w'.grownBy w'' r else Below w'.heap.size w' w'') (fun i => if i = 3 then some (frM W) else if i = 4 then some (frB1 W wr.heap.size) else if i = 5 then some (frA W w1.heap.size l) else none) 5 (Own mcK 50 w1.heap.size (.slice ad k cp') l) (by simp) (by kernel_rfl) (by kernel_rfl) (by kernel_rfl) (by kernel_rfl) (by kernel_rfl) rfl ?_ ?_ ?_ ?_ ?_
          · intro i j fr hfr hij hd v w' w'' hR hp
            repeat' split at hfr
            · cases hfr; trivial
            · cases hfr
              obtain ⟨g', a, p, b', c, e, hB, hm, hh⟩ := hp
              refine ⟨g', a, p, b', c, e, hB, hm, ?_⟩
              have hlt' := (Array.getElem?_eq_some_iff.1 hh).1
              split at hR
              · rw [hR.block g' hlt' (fun e' => by have := (Hrlt.out g' e'.symm).2; omega)]; exact hh
              · rw [hR.block g' hlt']; exact hh
            · cases hfr
              obtain ⟨a, p, b', c, hm, ho⟩ := hp
              rw [if_neg (by omega)] at hR
              exact ⟨a, p, b', c, hm, ho.later hR⟩
            · cases hfr
          · intro i w' w'' hi hR ho
            rw [if_neg hi] at hR
            exact ho.later hR
          · exact Fresh.in_of ⟨rfl, rfl, rfl, Nat.le_refl _, fun _ _ _ => rfl⟩
          · exact How.out
          · dsimp only [List.dropLast, List.getLast]
            iterate 3 (refine Fresh.step_plain rfl rfl rfl (fun K hK => ?_); go_big_quiet_op; refine hK _ ?_; clear hK K)
            refine Fresh.step_fresh _ rfl rfl ?_ ?_ ?_
            · rintro w6 hC -
              have h6 := Fresh.of_in hC
              go_simp
              refine Fresh.enter_of ((implMaster W HS.out _ (errs_below Herr1.out (HD h6))).mono ?_)
              rintro e w7 ⟨a, p, b', c, he, hm, hb7⟩
              refine ⟨_, he, ⟨a, p, b', c, rfl, hm⟩, trivial, by exact hb7, Fresh.in_of ?_⟩
              exact ⟨hb7.os.trans h6.os, hb7.tape.trans h6.tape, hb7.output.trans h6.output, Nat.le_trans h6.size hb7.size, fun g' hg' hn => (hb7.block g' (Nat.lt_of_lt_of_le hg' h6.size)).trans (h6.block g' hg' hn)⟩
            · obtain ⟨⟨a, p, b', c⟩, hm⟩ := mof_ex W
              exact ⟨_, a, p, b', c, rfl, hm⟩
            rintro v ⟨a0, p0, b0, c0, rfl, hm0⟩
            have Hm0 := Lib.hid hm0
            clear hm0
            go_simp
            refine Fresh.step_fresh _ rfl rfl ?_ ⟨_, 0, rfl⟩ ?_
            · rintro w6 hC -
              have h6 := Fresh.of_in hC
              go_simp
              refine Fresh.value_of ⟨⟨_, rfl⟩, ⟨_, a0, p0, b0, c0, rfl, h6.size, Hm0.out, heap_alloc_new w6 _⟩, by exact (Below.refl _ _).alloc (Nat.le_refl _) _, Fresh.in_of ?_⟩
              have hb7 := (Below.refl w6.heap.size w6).alloc (Nat.le_refl _) (Obj.cells #[.int .i64 a0, .bool p0, .int .i64 b0, .int .i64 c0] 50)
              exact ⟨hb7.os.trans h6.os, hb7.tape.trans h6.tape, hb7.output.trans h6.output, Nat.le_trans h6.size hb7.size, fun g' hg' hn => (hb7.block g' (Nat.lt_of_lt_of_le hg' h6.size)).trans (h6.block g' hg' hn)⟩
            rintro v ⟨g1, rfl⟩
            go_simp
            refine Fresh.step_once _ rfl rfl rfl ?_ ⟨_, none, 0, rfl⟩ ?_
            · rintro w6 hC ho hF
              have h6 := Fresh.of_in hC
              obtain ⟨g2, a, p, b', c, e, hB, hm, hh⟩ := Fresh.fact_of (hF 4 (by kernel_rfl))
              obtain rfl : g1 = g2 := by simpa using e
              clear hF e
              obtain ⟨i0, hi, hz0, hz1, hz2⟩ := info_parts info_mc
              refine fresh_app1 mcK (by decide) 24 50 i0 _ (.tmp 35) (.tmp 38) rfl Tryd.underlying24 hi hz0 hz1 rfl (by rw [hz2]; omega) w1.heap.size g1 (.slice ad k cp') l w6 ⟨a, p, b', c⟩ #[.int .i64 a, .bool p, .int .i64 b', .int .i64 c] rfl ?_ rfl rfl hh ho (HD h6).size (by rw [Hlk.out]; omega) (fun v' w' ho' hg' => ?_)
              · intro u hu
                simp [mcK] at hu
                rcases hu with rfl | rfl | rfl | rfl <;> rfl
              · rw [Hr.out] at hg'
                obtain ⟨ad', cp'', e'⟩ := ho'.slice
                refine ⟨⟨ad', cp'', by rw [e']; simp⟩, ⟨a, p, b', c, hm, ho'⟩, by exact hg', Fresh.in_of ?_⟩
                exact ⟨hg'.os.trans h6.os, hg'.tape.trans h6.tape, hg'.output.trans h6.output, Nat.le_trans h6.size hg'.size, fun j hj hn => (hg'.block j (Nat.lt_of_lt_of_le hj h6.size) hn).trans (h6.block j hj hn)⟩
            rintro v ⟨ad', cp'', rfl⟩
            go_simp
            refine Fresh.step_plain rfl rfl rfl (fun K hK => ?_)
            go_big_quiet_op
            refine hK _ ?_
            clear hK K
            refine Fresh.step_end (fun w4 hC hF => ?_)
            have h6 := Fresh.of_in hC
            obtain ⟨a, p, b', c, hm, ho'⟩ := Fresh.fact_of (hF 5)
            have Ho' := Lib.hid ho'
            have Hm' := Lib.hid hm
            have h4 := h6.block b Hbx.out.lt (fun e => Hne.out (by rw [Hr.out, ← e]))
            have X4 : Bx 26 b #[.slice ad k cp', .int .i64 n0, .int .i64 n1, .int .i64 n2, .int .i64 n3, .int .i64 n4] w4 := by
              have := Hbx.out; unfold Bx at this ⊢; rw [h4]; exact this
            have x0 := X4.cell 0 _ rfl
            have xw := X4.warm 0
            have Xs := Lib.hid (X4.set 0 (.slice ad' (l.length + 1) cp''))
            have Hos := Lib.hid (show Own mcK 50 w1.heap.size (.slice ad' (l.length + 1) cp'') (l ++ [⟨a, p, b', c⟩]) (w4.setCell ⟨b, 0, none⟩ (.slice ad' (l.length + 1) cp'')) from ownsRow_setCell_other ho' (own_ne_bx ho' X4 (by decide)) _)
            have Hbs := Lib.hid (show Below w1.heap.size w1 (w4.setCell ⟨b, 0, none⟩ (.slice ad' (l.length + 1) cp'')) from (HD h6).setCell (by exact HbB.out) _)
            clear hC hF ho' hm X4 h4 y0 hin HD
            go_simp
            generalize w4.setCell ⟨b, 0, none⟩ (.slice ad' (l.length + 1) cp'') = w5 at Xs Hos Hbs ⊢
            clear x0 xw
            go_wp2_with fail
            go_roundw
            case rel =>
              refine ⟨k + 1, by omega, by go_num, _, l ++ [⟨a, p, b', c⟩], by simp [Hlk.out], fun i x hx => ?_, Xs.out, Hos.out, Hbs.out⟩
              rcases Nat.lt_or_ge i l.length with hi | hi
              · rw [List.getElem?_append_left hi] at hx; exact Hml.out i x hx
              · rw [List.getElem?_append_right hi] at hx
                have hi0 : i = l.length := by
                  have := (List.getElem?_eq_some_iff.1 hx).1
                  simp at this; omega
                subst hi0
                rw [Nat.sub_self] at hx
                obtain rfl : ⟨a, p, b', c⟩ = x := by simpa using hx
                rw [Hlk.out, HW.out]; exact Hm'.out
            case measure => simp [intOf]; omega
        · obtain rfl : m = k := by omega
          have Rr := R0.out.below hbr R0.out.lt
          obtain ⟨x0, x1, x2, x3, x4, x5⟩ := hbx.cells6
          obtain ⟨r0, r1, r2, r3, r4, r5⟩ := Rr.cells6
          have y0 := Rr.warm 0
          have y1 := Rr.warm 1
          have y2 := Rr.warm 2
          have y3 := Rr.warm 3
          have y4 := Rr.warm 4
          have y5 := Rr.warm 5
          have hrl := Rr.lt
          have hr0 := R0.out.lt
          obtain ⟨ad, cp', hu⟩ := how.slice
          have Hpc := Lib.hid (show PC ws l n0 n1 n2 n3 n4 from ⟨by rw [E0.out]; exact N0.out, by rw [E1.out]; exact N1.out, by rw [E2.out]; exact N2.out, by rw [E3.out]; exact N3.out, by rw [E4.out]; exact N4.out, by rw [Hn.out, hlk], hml⟩)
          subst hu
          clear hlk hml hbx how hbr hne Rr
          go_wp2_with fail
          refine bodyPost_ret (v := .agg #[.slice ad l.length cp', .int .i64 n0, .int .i64 n1, .int .i64 n2, .int .i64 n3, .int .i64 n4]) (by simp [results, Tryd.results25, go_sem, r0, r1, r2, r3, r4, r5]) rfl ⟨_, l, n0, n1, n2, n3, n4, rfl, Hpc.out, ?_, ?_⟩
          · refine Own.mono (B := w1.heap.size) ?_ Hb1.out.size
            iterate 6 refine Own.setBelow ?_ (by exact hr0) _
            exact How.out
          · iterate 6 refine Below.setCell ?_ (by exact Nat.le_refl _) _
            exact Hw.out
end Go.Proofs.YtcggaihooepglaaDoor.Num
