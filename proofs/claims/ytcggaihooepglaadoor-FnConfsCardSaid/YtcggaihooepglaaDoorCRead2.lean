
/-
  Reading a configuration: what its words say; a master's word.
-/
import Derived.Test.YtcggaihooepglaaDoorCRead1
namespace Go.Proofs.YtcggaihooepglaaDoor.Num
open Go.RowKit Rows3 Bytes Cut GR

def VM (m : MC) : Prop := (1 ≤ m.wt ∧ m.wt ≤ 4) ∧ (0 ≤ m.ev ∧ m.ev ≤ 1000) ∧ (0 ≤ m.cp ∧ m.cp ≤ 8) ∧ (m.pr = false → m.ev = 0 ∧ m.cp = 0)
theorem decB_dig {d : Int} (h : 0 ≤ d) : ∀ b ∈ (decB d).data.toList, 48 ≤ b.toNat ∧ b.toNat ≤ 57 := by
  rw [decB_data]
  rcases itoa_cases d with ⟨_, e⟩ | ⟨h', _⟩
  · rw [e]; intro b hb
    exact (decDigits_facts d.toNat).2.2.2.2.2.1 b hb
  · omega
theorem decB_no {d : Int} (h : 0 ≤ d) {c : UInt8} (hc : c.toNat < 48 ∨ 57 < c.toNat) : c ∉ (decB d).data.toList := fun hm => by
  have := decB_dig h c hm; omega
theorem cutWs_of {c : UInt8} {s : ByteArray} {ws : List ByteArray} (hne : ws ≠ []) (hno : ∀ p ∈ ws, c ∉ p.data.toList) (hj : Lib.join (ws.map (·.data.toList)) [c] = s.data.toList) : cutWs c s = ws := by
  have h1 := cutWs_join c s
  have hc := cutWs_len c s
  apply map_data_inj
  refine join_inj c (fun e => ?_) (fun e => ?_) ?_ ?_ (h1.1.trans hj.symm)
  · have := congrArg List.length e; simp at this; rw [this] at hc; simp at hc
  · have := congrArg List.length e; simp at this; exact hne this
  · intro p hp
    obtain ⟨a, ha, rfl⟩ := List.mem_map.1 hp
    exact h1.2 a ha
  · intro p hp
    obtain ⟨a, ha, rfl⟩ := List.mem_map.1 hp
    exact hno a ha
/-- the parts of a master's word. -/
def partsM (m : MC) : List ByteArray := if m.pr then [decB m.wt, decB m.ev, decB m.cp] else [decB m.wt]
theorem mB_cut {m : MC} (h : VM m) : cutWs 58 (mB m) = partsM m := by
  obtain ⟨h1, h2, h3, -⟩ := h
  apply cutWs_of
  · unfold partsM; split <;> simp
  · intro p hp
    unfold partsM at hp
    split at hp
    · simp only [List.mem_cons, List.not_mem_nil, or_false] at hp
      rcases hp with rfl | rfl | rfl
      · exact decB_no (by omega) (by decide)
      · exact decB_no (by omega) (by decide)
      · exact decB_no (by omega) (by decide)
    · simp only [List.mem_cons, List.not_mem_nil, or_false] at hp
      subst hp; exact decB_no (by omega) (by decide)
  · unfold partsM mB
    split
    · simp [Lib.join_cons, Lib.joinTail, ByteArray.data_append]
    · simp [Lib.join_cons, Lib.joinTail]
theorem mB_no32 {m : MC} (h : VM m) : 32 ∉ (mB m).data.toList := by
  obtain ⟨h1, h2, h3, -⟩ := h
  have a1 := decB_no (d := m.wt) (by omega) (c := 32) (by decide)
  have a2 := decB_no (d := m.ev) (by omega) (c := 32) (by decide)
  have a3 := decB_no (d := m.cp) (by omega) (c := 32) (by decide)
  unfold mB
  split
  · simp only [ByteArray.data_append, Array.toList_append, List.mem_append]
    rintro (h | ((h | h) | h) | h)
    · exact a1 h
    · simp at h
    · exact a2 h
    · simp at h
    · exact a3 h
  · simp only [ByteArray.data_append, Array.toList_append, List.mem_append]
    rintro (h | h)
    · exact a1 h
    · simp at h
/-- m is what a word says, where it is a master's. -/
def MOf (s : ByteArray) (m : MC) : Prop := ∀ m', VM m' → s = mB m' → m = m'
theorem mof_three {s : ByteArray} {ws : List ByteArray} {a b c : Int} (hw : (cutWs 58 s).length ≤ 3 → ws = cutWs 58 s) (h3 : ws.length = 3) (h0 : Nm (ws.getD 0 ByteArray.empty) a) (h1 : Nm (ws.getD 1 ByteArray.empty) b) (h2 : Nm (ws.getD 2 ByteArray.empty) c) : MOf s ⟨a, true, b, c⟩ := by
  intro m' hv e
  have hc := mB_cut hv
  rw [← e] at hc
  have hl : (partsM m').length ≤ 3 := by unfold partsM; split <;> simp
  rw [hc] at hw
  have hw' := hw hl
  obtain ⟨v1, v2, v3, v4⟩ := hv
  subst hw'
  unfold partsM at h3 h0 h1 h2
  cases hp : m'.pr with
  | false => rw [hp] at h3; simp at h3
  | true =>
    rw [hp, if_pos rfl] at h0 h1 h2
    have e0 := h0.2.2 m'.wt (by omega) (by omega) rfl
    have e1 := h1.2.2 m'.ev (by omega) (by omega) rfl
    have e2 := h2.2.2 m'.cp (by omega) (by omega) rfl
    obtain ⟨a', p', b', c'⟩ := m'
    simp_all
theorem mof_one {s : ByteArray} {ws : List ByteArray} {a : Int} (hw : (cutWs 58 s).length ≤ 3 → ws = cutWs 58 s) (h3 : ¬ ws.length = 3) (h0 : Nm (ws.getD 0 ByteArray.empty) a) : MOf s ⟨a, false, 0, 0⟩ := by
  intro m' hv e
  have hc := mB_cut hv
  rw [← e] at hc
  have hl : (partsM m').length ≤ 3 := by unfold partsM; split <;> simp
  rw [hc] at hw
  have hw' := hw hl
  obtain ⟨v1, v2, v3, v4⟩ := hv
  subst hw'
  unfold partsM at h3 h0
  cases hp : m'.pr with
  | true => rw [hp] at h3; simp at h3
  | false =>
    rw [hp, if_neg (by simp)] at h0
    have e0 := h0.2.2 m'.wt (by omega) (by omega) rfl
    have e1 := v4 hp
    obtain ⟨a', p', b', c'⟩ := m'
    simp_all
def MadeM (s : ByteArray) (w : World) (e : Ending) (w' : World) : Prop := ∃ (a : Int) (p : Bool) (b c : Int), e = .returned (.agg #[.int .i64 a, .bool p, .int .i64 b, .int .i64 c]) ∧ MOf s ⟨a, p, b, c⟩ ∧ Below w.heap.size w w'
set_option maxHeartbeats 2000000 in
set_option maxRecDepth 100000 in
theorem implMaster (s : ByteArray) (hs : s.size ≤ 1048576) (w : World) (herr : Errs w) : Calls Tryd.prog 52 #[.string s] w (MadeM s w) := by
  have Herr := Lib.hid herr
  have R0 := Bx.new 50 #[.int .i64 0, .bool false, .int .i64 0, .int .i64 0] w
  clear herr
  go_enter Tryd.func52, Tryd.ntmps52
  go_wp2_with fail
  refine (implSplit3 s hs _).mono ?_
  rintro e w1 ⟨ws, g, cp, rfl, h1, h2, h3, h4, h5, hg, hcl, hb⟩
  have H3 := Lib.hid h3
  have hl1 : 1 ≤ ws.length := by
    have := cutWs_len 58 s
    rcases Nat.lt_or_ge (cutWs 58 s).length 3 with h | h
    · rw [h3 (by omega)]; omega
    · rw [h4 h]; omega
  have R1 := R0.later hb
  have Hb := Lib.hid (below_alloc1 (Below.refl _ _) (Nat.le_refl _) hb)
  have hsz : ∀ j, (ws.getD j ByteArray.empty).size ≤ 1048576 := fun j => by
    by_cases hj : j < ws.length
    · have : ws.getD j ByteArray.empty = ws[j] := by simp [List.getD, hj]
      rw [this]; exact Nat.le_trans (h5 _ (List.getElem_mem hj)) hs
    · rw [show ws.getD j ByteArray.empty = ByteArray.empty by simp [List.getD, Nat.le_of_not_lt hj]]; simp
  have Hsz := Lib.hid hsz
  have c0 := hcl 0 (by omega)
  have Hcl := Lib.hid hcl
  have Herr1 := Lib.hid (errs_below Herr.out Hb.out)
  obtain ⟨W0, hW0⟩ : ∃ W, ws.getD 0 ByteArray.empty = W := ⟨_, rfl⟩
  rw [hW0] at c0
  have HW0 := Lib.hid hW0
  have HS0 : Hid (W0.size ≤ 1048576) := Lib.hid (by rw [← hW0]; exact hsz 0)
  obtain ⟨n, hn⟩ : ∃ n, ws.length = n := ⟨_, rfl⟩
  have Hn := Lib.hid hn
  rw [hn] at h1 hl1 ⊢
  clear h3 h4 h5 hcl hb hsz hW0 R0 hn
  go_wp2_with fail
  refine (implNm W0 HS0.out _ Herr1.out).mono ?_
  rintro e w2 ⟨n0, rfl, hn0, hb2⟩
  have hbw := hn0.1
  have hbw2 := hn0.2.1
  have N0 := Lib.hid hn0
  have R2 := R1.later hb2
  have Hb2 := Lib.hid (Hb.out.trans (hb2.mono Hb.out.size))
  have Hb12 := Lib.hid hb2
  have hr := R2.lt
  obtain ⟨r0, r1, r2, r3⟩ := R2.cells4
  have y0 := R2.warm 0
  have y1 := R2.warm 1
  have y2 := R2.warm 2
  have y3 := R2.warm 3
  by_cases hn3 : n = 3
  · have hn3' : ((n : Int) == 3) = true := by rw [beq_iff_eq]; omega
    have c1 := Hcl.out 1 (by rw [Hn.out]; omega)
    have c2 := Hcl.out 2 (by rw [Hn.out]; omega)
    rw [← below_cells hb2 hg] at c1 c2
    obtain ⟨W1, hW1⟩ : ∃ W, ws.getD 1 ByteArray.empty = W := ⟨_, rfl⟩
    obtain ⟨W2, hW2⟩ : ∃ W, ws.getD 2 ByteArray.empty = W := ⟨_, rfl⟩
    rw [hW1] at c1
    rw [hW2] at c2
    have HW1 := Lib.hid hW1
    have HW2 := Lib.hid hW2
    have HS1 : Hid (W1.size ≤ 1048576) := Lib.hid (by rw [← hW1]; exact Hsz.out 1)
    have HS2 : Hid (W2.size ≤ 1048576) := Lib.hid (by rw [← hW2]; exact Hsz.out 2)
    have hg2 := Nat.lt_of_lt_of_le hg hb2.size
    clear hW1 hW2 hn0 hb2 c0
    have X := Bx.new 50 #[.int .i64 n0, .bool true, .int .i64 0, .int .i64 0] w2
    have Ra := R2.alloc (Obj.cells #[.int .i64 n0, .bool true, .int .i64 0, .int .i64 0] 50)
    have Hba := Lib.hid (Hb2.out.alloc Hb2.out.size (Obj.cells #[.int .i64 n0, .bool true, .int .i64 0, .int .i64 0] 50))
    go_wp2_with fail
    refine (implNm W1 HS1.out _ (errs_below Herr.out Hba.out)).mono ?_
    rintro e w3 ⟨n1, rfl, hn1, hb3⟩
    have N1 := Lib.hid hn1
    have hbw3 := hn1.1
    have hbw4 := hn1.2.1
    have X3 := X.later hb3
    have R3 := Ra.later hb3
    have Hb3 := Lib.hid (Hba.out.trans (hb3.mono Hba.out.size))
    have c2' : w3.cell? ⟨g, 2, none⟩ = some (.string W2) := by
      rw [below_cells hb3 (by simp; omega), below_cells ((Below.refl _ _).alloc (Nat.le_refl _) _) hg2]; exact c2
    have hlt : w2.heap.size < w3.heap.size := X3.lt
    have hle : w.heap.size ≤ w2.heap.size := Hb2.out.size
    have Hbs := Lib.hid (show Below w.heap.size w (w3.setCell ⟨w2.heap.size, 2, none⟩ (.int .i64 n1)) from Hb3.out.setCell (by exact hle) _)
    have x2 := X3.cell 2 _ rfl
    have x2w := X3.warm 2
    have Xs := X3.set 2 (.int .i64 n1)
    have Rs := R3.far (p := ⟨w2.heap.size, 2, none⟩) (by show w.heap.size ≠ w2.heap.size; omega) (.int .i64 n1)
    have c2s : (w3.setCell ⟨w2.heap.size, 2, none⟩ (.int .i64 n1)).cell? ⟨g, 2, none⟩ = some (.string W2) := by
      rw [World.cell?_setCell_other w3 ⟨w2.heap.size, 2, none⟩ ⟨g, 2, none⟩ _ (fun e => by injection e; omega)]; exact c2'
    clear c1 c2 X Ra hb3 hn1 r0 r1 r2 r3 y0 y1 y2 y3 X3 R3 R2 R1 c2'
    go_wp2_with fail
    generalize w3.setCell ⟨w2.heap.size, 2, none⟩ (.int .i64 n1) = w4 at Hbs Xs Rs c2s ⊢
    clear x2 x2w
    refine (implNm W2 HS2.out _ (errs_below Herr.out Hbs.out)).mono ?_
    rintro e w5 ⟨n2, rfl, hn2, hb5⟩
    have N2 := Lib.hid hn2
    have hbw5 := hn2.1
    have hbw6 := hn2.2.1
    have X5 := Xs.later hb5
    have R5 := Rs.later hb5
    have Hb5 := Lib.hid (Hbs.out.trans (hb5.mono Hbs.out.size))
    have Hm := Lib.hid (mof_three H3.out (by rw [Hn.out]; exact hn3) (by rw [HW0.out]; exact N0.out) (by rw [HW1.out]; exact N1.out) (by rw [HW2.out]; exact N2.out) : MOf s ⟨n0, true, n1, n2⟩)
    obtain ⟨x0, x1, x2, x3⟩ := (show Bx 50 w2.heap.size #[.int .i64 n0, .bool true, .int .i64 n1, .int .i64 0] w5 from X5).cells4
    have xw := X5.warm 3
    obtain ⟨r0, r1, r2, r3⟩ := R5.cells4
    have y0 := R5.warm 0
    have y1 := R5.warm 1
    have y2 := R5.warm 2
    have y3 := R5.warm 3
    have hr5 := R5.lt
    have hne : w.heap.size < w2.heap.size := hr
    clear hb5 hn2 X5 R5 Xs Rs c2s
    go_wp2_with fail
    refine bodyPost_ret (v := .agg #[.int .i64 n0, .bool true, .int .i64 n1, .int .i64 n2]) (by simp [results, Tryd.results52, go_sem, r0, r1, r2, r3]) rfl ⟨n0, true, n1, n2, rfl, Hm.out, ?_⟩
    iterate 4 refine Below.setCell ?_ (by exact Nat.le_refl _) _
    refine Below.setCell ?_ (by exact hle) _
    exact Hb5.out
  · have hn3' : ((n : Int) == 3) = false := by rw [beq_eq_false_iff_ne]; omega
    have Hm := Lib.hid (mof_one H3.out (by rw [Hn.out]; exact hn3) (by rw [HW0.out]; exact N0.out) : MOf s ⟨n0, false, 0, 0⟩)
    clear hn0 hb2 hn3 c0
    go_wp2_with fail
    refine bodyPost_ret (v := .agg #[.int .i64 n0, .bool false, .int .i64 0, .int .i64 0]) (by simp [results, Tryd.results52, go_sem, r0, r1, r2, r3, hr]) rfl ⟨n0, false, 0, 0, rfl, Hm.out, ?_⟩
    refine Below.alloc ?_ (by simp [World.setCell]; exact Hb2.out.size) _
    iterate 4 refine Below.setCell ?_ (by exact Nat.le_refl _) _
    exact Hb2.out
end Go.Proofs.YtcggaihooepglaaDoor.Num
