
/-
  Reading a configuration: the program's ReadConf.
-/
import Derived.Test.YtcggaihooepglaaDoorCRead3
namespace Go.Proofs.YtcggaihooepglaaDoor.Num
open Go.RowKit Rows3 Bytes Cut GR

/-- what is read of a text. -/
def RC (s : ByteArray) (l : List MC) (q mw mr ms lm : Int) (b : Bool) : Prop :=
  (b = true ∧ okC l q mw mr ms lm = true ∧ txtC l q mw mr ms lm = s) ∨
  (b = false ∧ l = [] ∧ q = 0 ∧ mw = 0 ∧ mr = 0 ∧ ms = 0 ∧ lm = 0 ∧ ∀ l' q' mw' mr' ms' lm', okC l' q' mw' mr' ms' lm' = true → txtC l' q' mw' mr' ms' lm' ≠ s)
theorem nm_self {d : Int} (h0 : 0 ≤ d) (h1 : d ≤ 1000) : Nm (decB d) d := ⟨by omega, by omega, fun d' _ _ e => decB_inj e⟩
theorem mof_self {m : MC} (hv : VM m) : MOf (mB m) m := by
  intro m' hv' e'
  have h1 : partsM m = partsM m' := by rw [← mB_cut hv, ← mB_cut hv', e']
  obtain ⟨a, p, b, c⟩ := m
  obtain ⟨a', p', b', c'⟩ := m'
  unfold partsM at h1
  obtain ⟨_, _, _, v4⟩ := hv
  obtain ⟨_, _, _, v4'⟩ := hv'
  cases p <;> cases p' <;> simp at h1 v4 v4'
  · have := decB_inj h1
    simp_all
  · have := decB_inj h1.1
    have := decB_inj h1.2.1
    have := decB_inj h1.2.2
    simp_all
theorem pc_self {l : List MC} {q mw mr ms lm : Int} (hok : okC l q mw mr ms lm = true) : PC (wordsC q mw mr ms lm l) l q mw mr ms lm := by
  have hf := okC_facts hok
  have hq := hf.q
  have hmw := hf.mw
  have hmr := hf.mr
  have hms := hf.ms
  have hlm := hf.lm
  refine ⟨nm_self (by omega) (by omega), nm_self (by omega) (by omega), nm_self (by omega) (by omega), nm_self (by omega) (by omega), nm_self (by omega) (by omega), by rw [wordsC_len]; omega, fun i x hx => ?_⟩
  obtain ⟨h, rfl⟩ := List.getElem?_eq_some_iff.1 hx
  have e : (wordsC q mw mr ms lm l).getD (5 + i) ByteArray.empty = mB l[i] := by
    unfold wordsC
    rw [List.getD_eq_getElem?_getD, List.getElem?_append_right (by simp)]
    simp [h]
  rw [e]; exact mof_self (hf.m _ (List.getElem_mem h))
theorem RC.uniq {s : ByteArray} {l l' : List MC} {q mw mr ms lm q' mw' mr' ms' lm' : Int} {b b' : Bool} (h : RC s l q mw mr ms lm b) (h' : RC s l' q' mw' mr' ms' lm' b') :
    l = l' ∧ q = q' ∧ mw = mw' ∧ mr = mr' ∧ ms = ms' ∧ lm = lm' ∧ b = b' := by
  rcases h with ⟨rfl, hok, ht⟩ | ⟨rfl, rfl, rfl, rfl, rfl, rfl, rfl, hn⟩
  · rcases h' with ⟨rfl, hok', ht'⟩ | ⟨_, _, _, _, _, _, _, hn⟩
    · have hp := pc_self hok
      rw [← conf_cut hok ht] at hp
      obtain ⟨h1, h2, h3, h4, h5, h6⟩ := hp.uniq hok' ht'
      exact ⟨h1, h2, h3, h4, h5, h6, rfl⟩
    · exact absurd ht (hn _ _ _ _ _ _ hok)
  · rcases h' with ⟨rfl, hok', ht'⟩ | ⟨rfl, rfl, rfl, rfl, rfl, rfl, rfl, _⟩
    · exact absurd ht' (hn _ _ _ _ _ _ hok')
    · exact ⟨rfl, rfl, rfl, rfl, rfl, rfl, rfl⟩
theorem RC.len {s : ByteArray} {l : List MC} {q mw mr ms lm : Int} {b : Bool} (h : RC s l q mw mr ms lm b) : l.length ≤ 4 := by
  rcases h with ⟨_, hok, _⟩ | ⟨_, rfl, _⟩
  · exact (okC_facts hok).len
  · simp
theorem rc_none {s : ByteArray} (h : ∀ l' q' mw' mr' ms' lm', okC l' q' mw' mr' ms' lm' = true → txtC l' q' mw' mr' ms' lm' ≠ s) : RC s [] 0 0 0 0 0 false := .inr ⟨rfl, rfl, rfl, rfl, rfl, rfl, rfl, h⟩
theorem rc_len {s : ByteArray} (h : (cutWs 32 s).length < 6 ∨ 9 < (cutWs 32 s).length) : RC s [] 0 0 0 0 0 false := rc_none fun l' q' mw' mr' ms' lm' hok ht => by
  rw [conf_cut hok ht, wordsC_len] at h
  have := (okC_facts hok).len
  have := (okC_facts hok).len0
  omega
/-- what was parsed is what could be read, or nothing could. -/
theorem rc_parsed {s : ByteArray} {l : List MC} {q mw mr ms lm : Int} (hp : PC (cutWs 32 s) l q mw mr ms lm) (h : ¬ (okC l q mw mr ms lm = true ∧ txtC l q mw mr ms lm = s)) : RC s [] 0 0 0 0 0 false := rc_none fun l' q' mw' mr' ms' lm' hok ht => by
  obtain ⟨rfl, rfl, rfl, rfl, rfl, rfl⟩ := hp.uniq hok ht
  exact h ⟨hok, ht⟩
def ConfP (s : ByteArray) (w : World) (e : Ending) (w' : World) : Prop :=
  ∃ (u : Value) (l : List MC) (q mw mr ms lm : Int) (b : Bool), e = .returned (.tuple #[.agg #[u, .int .i64 q, .int .i64 mw, .int .i64 mr, .int .i64 ms, .int .i64 lm], .bool b]) ∧ Own mcK 50 w.heap.size u l w' ∧ Below w.heap.size w w' ∧ RC s l q mw mr ms lm b
theorem ConfP.mk {s : ByteArray} {w w' : World} {e : Ending} {u : Value} {l : List MC} {q mw mr ms lm : Int} {b : Bool} (h1 : e = .returned (.tuple #[.agg #[u, .int .i64 q, .int .i64 mw, .int .i64 mr, .int .i64 ms, .int .i64 lm], .bool b])) (h2 : Own mcK 50 w.heap.size u l w') (h3 : Below w.heap.size w w') (h4 : RC s l q mw mr ms lm b) : ConfP s w e w' := ⟨u, l, q, mw, mr, ms, lm, b, h1, h2, h3, h4⟩
theorem ba_eq_list {a b : ByteArray} (h : a = b) : (a.toList == b.toList) = true := by rw [h]; simp
theorem ba_ne_list {a b : ByteArray} (h : ¬ a = b) : (a.toList == b.toList) = false := by
  rw [beq_eq_false_iff_ne]; intro e; apply h
  rw [ByteArray.toList_eq, ByteArray.toList_eq] at e
  exact ByteArray.ext (Array.toList_inj.1 e)
theorem implConfText_is {v : Value} {l : List MC} {q mw mr ms lm : Int} {T : ByteArray} (h : txtC l q mw mr ms lm = T) (hl : l.length ≤ 2000000) (w : World) (hv : Rd mcK v l w) (htab : Pow w) :
    Calls Tryd.prog 9 #[.agg #[v, .int .i64 q, .int .i64 mw, .int .i64 mr, .int .i64 ms, .int .i64 lm]] w fun e w' => e = .returned (.string T) ∧ Below w.heap.size w w' := by rw [← h]; exact implConfText v l q mw mr ms lm hl w hv htab
set_option maxHeartbeats 4000000 in
set_option maxRecDepth 100000 in
theorem implRead (s : ByteArray) (hs : s.size ≤ 1048576) (w : World) (herr : Errs w) (htab : Pow w) : Calls Tryd.prog 8 #[.string s] w (ConfP s w) := by
  have Herr := Lib.hid herr
  have Htab := Lib.hid htab
  have R0 := Bx.new 26 #[.slice none 0 0, .int .i64 0, .int .i64 0, .int .i64 0, .int .i64 0, .int .i64 0] w
  clear herr htab
  go_enter Tryd.func8, Tryd.ntmps8
  go_wp2_with fail
  refine (implSplit10 s hs _).mono ?_
  rintro e w1 ⟨ws, g, cp, rfl, h1, h2, h3, h4, h5, hg, hcl, hb⟩
  have R1 := R0.later hb
  have Hb := Lib.hid (below_alloc1 (Below.refl _ _) (Nat.le_refl _) hb)
  have H3 := Lib.hid h3
  have hsz : ∀ j, (ws.getD j ByteArray.empty).size ≤ 1048576 := fun j => by
    by_cases hj : j < ws.length
    · have : ws.getD j ByteArray.empty = ws[j] := by simp [List.getD, hj]
      rw [this]; exact Nat.le_trans (h5 _ (List.getElem_mem hj)) hs
    · rw [show ws.getD j ByteArray.empty = ByteArray.empty by simp [List.getD, Nat.le_of_not_lt hj]]; simp
  have Hsz := Lib.hid hsz
  have Hcl := Lib.hid hcl
  obtain ⟨n, hn⟩ : ∃ n, ws.length = n := ⟨_, rfl⟩
  have Hn := Lib.hid hn
  by_cases hbad : n < 5 ∨ 9 < n
  · have Hq := Lib.hid (rc_len (s := s) (by
      rcases Nat.lt_or_ge 10 (cutWs 32 s).length with h | h
      · omega
      · rw [← h3 h, hn]; omega))
    obtain ⟨r0, r1, r2, r3, r4, r5⟩ := R1.cells6
    have y0 := R1.warm 0
    have y1 := R1.warm 1
    have y2 := R1.warm 2
    have y3 := R1.warm 3
    have y4 := R1.warm 4
    have y5 := R1.warm 5
    rw [hn] at h1 ⊢
    have hn5 : (n : Int) < 5 ∨ 9 < (n : Int) := by omega
    clear h3 h4 h5 hcl hb hsz hn R0 R1 hbad
    rcases hn5 with hn5 | hn5
    · go_wp2_with fail
      refine bodyPost_ret (v := .tuple #[.agg #[.slice none 0 0, .int .i64 0, .int .i64 0, .int .i64 0, .int .i64 0, .int .i64 0], .bool false]) (by simp [results, Tryd.results8, go_sem, r0, r1, r2, r3, r4, r5]) rfl (ConfP.mk rfl (Own.nil _ _ _ _) ?_ Hq.out)
      iterate 6 refine Below.setCell ?_ (by exact Nat.le_refl _) _
      exact Hb.out
    · have hn6 : ¬ (n : Int) < 5 := by omega
      go_wp2_with fail
      refine bodyPost_ret (v := .tuple #[.agg #[.slice none 0 0, .int .i64 0, .int .i64 0, .int .i64 0, .int .i64 0, .int .i64 0], .bool false]) (by simp [results, Tryd.results8, go_sem, r0, r1, r2, r3, r4, r5]) rfl (ConfP.mk rfl (Own.nil _ _ _ _) ?_ Hq.out)
      iterate 6 refine Below.setCell ?_ (by exact Nat.le_refl _) _
      exact Hb.out
  · have hws : ws = cutWs 32 s := by
      rcases Nat.lt_or_ge (cutWs 32 s).length 10 with h | h
      · exact h3 (by omega)
      · have := h4 h; omega
    have Hws := Lib.hid hws
    have hn5 : 5 ≤ n := by omega
    have hn9 : n ≤ 9 := by omega
    have R1h := Lib.hid R1
    rw [hn] at h1 ⊢
    clear h3 h4 h5 hcl hb hsz hn R0 R1 hbad hws
    go_wp2_with fail
    refine (implMade ws g n cp Hn.out hn5 hn9 h1 h2 Hsz.out w1 hg (fun j hj => Hcl.out j (by rw [Hn.out]; exact hj)) (errs_below Herr.out Hb.out)).mono ?_
    rintro e w2 ⟨u, l, q, mw, mr, ms, lm, rfl, hp, ho, hb2⟩
    have Hp := Lib.hid hp
    have hl4 : l.length ≤ 4 := by have := hp.len; have := Hn.out; omega
    have hl2 : Hid (l.length ≤ 2000000) := Lib.hid (by omega)
    obtain ⟨ad, cap, rfl⟩ := ho.slice
    have Ho := Lib.hid ho
    have X := Bx.new 26 #[.slice ad l.length cap, .int .i64 q, .int .i64 mw, .int .i64 mr, .int .i64 ms, .int .i64 lm] w2
    have Oa := Lib.hid (ho.later ((Below.refl _ _).alloc (Nat.le_refl _) (Obj.cells #[.slice ad l.length cap, .int .i64 q, .int .i64 mw, .int .i64 mr, .int .i64 ms, .int .i64 lm] 26)))
    have Ra := Lib.hid ((R1h.out.later hb2).alloc (Obj.cells #[.slice ad l.length cap, .int .i64 q, .int .i64 mw, .int .i64 mr, .int .i64 ms, .int .i64 lm] 26))
    have Hb2 := Lib.hid ((Hb.out.trans (hb2.mono Hb.out.size)).alloc (Nat.le_trans Hb.out.size hb2.size) (Obj.cells #[.slice ad l.length cap, .int .i64 q, .int .i64 mw, .int .i64 mr, .int .i64 ms, .int .i64 lm] 26))
    have hw1 : Hid (w.heap.size < w1.heap.size) := Lib.hid R1h.out.lt
    obtain ⟨ok, hok⟩ : ∃ b, okC l q mw mr ms lm = b := ⟨_, rfl⟩
    have Hok := Lib.hid hok
    have hwsz := hw1.out
    clear hp ho hb2 hok hl4
    go_wp2_with fail
    refine (implConfOk_is Hok.out hl2.out _ Oa.out.rd).mono ?_
    rintro e w4 ⟨rfl, hb4⟩
    have X4 := Lib.hid (X.later hb4)
    have R4 := Lib.hid (Ra.out.later hb4)
    have O4 := Lib.hid (Oa.out.later hb4)
    have Hb4 := Lib.hid (Hb2.out.trans (hb4.mono Hb2.out.size))
    clear X hb4
    cases ok with
    | false =>
      have Hq := Lib.hid (rc_parsed (s := s) (by rw [← Hws.out]; exact Hp.out) (fun h => by have := Hok.out; rw [h.1] at this; cases this))
      obtain ⟨r0, r1, r2, r3, r4, r5⟩ := R4.out.cells6
      have y0 := R4.out.warm 0
      have y1 := R4.out.warm 1
      have y2 := R4.out.warm 2
      have y3 := R4.out.warm 3
      have y4 := R4.out.warm 4
      have y5 := R4.out.warm 5
      go_wp2_with fail
      refine bodyPost_ret (v := .tuple #[.agg #[.slice none 0 0, .int .i64 0, .int .i64 0, .int .i64 0, .int .i64 0, .int .i64 0], .bool false]) (by simp [results, Tryd.results8, go_sem, r0, r1, r2, r3, r4, r5]) rfl (ConfP.mk rfl (Own.nil _ _ _ _) ?_ Hq.out)
      iterate 6 refine Below.setCell ?_ (by exact Nat.le_refl _) _
      exact Hb4.out
    | true =>
      obtain ⟨x0, x1, x2, x3, x4, x5⟩ := X4.out.cells6
      obtain ⟨T, hT⟩ : ∃ T, txtC l q mw mr ms lm = T := ⟨_, rfl⟩
      have HT := Lib.hid hT
      clear hT
      go_wp2_with fail
      refine (implConfText_is HT.out hl2.out _ O4.out.rd (Htab.out.below Hb4.out)).mono ?_
      rintro e w5 ⟨rfl, hb5⟩
      have X5 := Lib.hid (X4.out.later hb5)
      have R5 := Lib.hid (R4.out.later hb5)
      have O5 := Lib.hid (O4.out.later hb5)
      have Hb5 := Lib.hid (Hb4.out.trans (hb5.mono Hb4.out.size))
      clear hb5 x0 x1 x2 x3 x4 x5
      obtain ⟨x0, x1, x2, x3, x4, x5⟩ := X5.out.cells6
      obtain ⟨r0, r1, r2, r3, r4, r5⟩ := R5.out.cells6
      have y0 := R5.out.warm 0
      have y1 := R5.out.warm 1
      have y2 := R5.out.warm 2
      have y3 := R5.out.warm 3
      have y4 := R5.out.warm 4
      have y5 := R5.out.warm 5
      by_cases hTs : T = s
      · have hq3 := ba_eq_list hTs
        have hq2 : (T.toList != s.toList) = false := by rw [bne, hq3]; rfl
        have Hq : Hid (RC s l q mw mr ms lm true) := Lib.hid (.inl ⟨rfl, Hok.out, HT.out.trans hTs⟩)
        clear hTs
        go_wp2_with fail
        refine bodyPost_ret (v := .tuple #[.agg #[.slice ad l.length cap, .int .i64 q, .int .i64 mw, .int .i64 mr, .int .i64 ms, .int .i64 lm], .bool true]) (by simp [results, Tryd.results8, go_sem, r0, r1, r2, r3, r4, r5]) rfl (ConfP.mk rfl ?_ ?_ Hq.out)
        · refine Own.mono (B := w1.heap.size) ?_ (Nat.le_of_lt hw1.out)
          iterate 6 refine Own.setBelow ?_ (by exact hw1.out) _
          exact O5.out
        · iterate 6 refine Below.setCell ?_ (by exact Nat.le_refl _) _
          exact Hb5.out
      · have hq3 := ba_ne_list hTs
        have hq2 : (T.toList != s.toList) = true := by rw [bne, hq3]; rfl
        have Hq := Lib.hid (rc_parsed (s := s) (by rw [← Hws.out]; exact Hp.out) (fun h => hTs (HT.out.symm.trans h.2)))
        clear hTs
        go_wp2_with fail
        refine bodyPost_ret (v := .tuple #[.agg #[.slice none 0 0, .int .i64 0, .int .i64 0, .int .i64 0, .int .i64 0, .int .i64 0], .bool false]) (by simp [results, Tryd.results8, go_sem, r0, r1, r2, r3, r4, r5]) rfl (ConfP.mk rfl (Own.nil _ _ _ _) ?_ Hq.out)
        iterate 6 refine Below.setCell ?_ (by exact Nat.le_refl _) _
        exact Hb5.out
end Go.Proofs.YtcggaihooepglaaDoor.Num
