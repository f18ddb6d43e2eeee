
/-
  Whether two rows of numbers are the same: the model's own way, the library's way (slices.Equal); a copy of a row (slices.Clone), wherever the row lies.
-/
import Derived.Test.YtdhaelaoackfkaaKdI
import Derived.BigQuiet
namespace Go.Proofs.Ytdhaelaoackfkaa.KD
open Go.RowKit Rows3

theorem drewN_drewN (w : World) (a b : Nat) : (w.drewN a).drewN b = w.drewN (a + b) := by simp [World.drewN, Nat.add_assoc]
theorem eqLB_len {l m : List Int} (h : ¬ l.length = m.length) : eqLB l m = false := by unfold eqLB; rw [decide_eq_false_iff_not]; intro e; exact h (by rw [e])
theorem eqLB_bad {l m : List Int} {j : Nat} (h : ¬ l.getD j 0 = m.getD j 0) : eqLB l m = false := by unfold eqLB; rw [decide_eq_false_iff_not]; intro e; exact h (by rw [e])
theorem sameTo_step {l m : List Int} {k : Nat} (h : sameTo l m k) (h1 : l.getD k 0 = m.getD k 0) : sameTo l m (k + 1) := by
  intro i hi
  by_cases hk : i = k
  · rw [hk]; exact h1
  · exact h i (by omega)
theorem eqLB_all {l m : List Int} (hn : l.length = m.length) (h : sameTo l m l.length) : eqLB l m = true := by unfold eqLB; rw [decide_eq_true_iff]; exact eq_of_sameTo hn h

set_option maxRecDepth 100000 in
theorem l5Ints_any (v u : Value) (l m : List Int) (hl : l.length ≤ 2000000) (w : World) (hv : RdI v l w) (hu : RdI u m w) :
    Calls Try.prog 54 #[v, u] w fun e w' => e = .returned (.bool (eqLB l m)) ∧ ∃ d, w' = w.drewN d := by
  obtain ⟨ad, cap, rfl, h1⟩ := hv
  obtain ⟨bd, cbp, rfl, h2⟩ := hu
  by_cases hne : l.length = m.length
  · obtain ⟨n, hln⟩ : ∃ n, l.length = n := ⟨_, rfl⟩
    have hmn : m.length = n := by omega
    rw [hln] at h1 hl ⊢
    rw [hmn] at h2 ⊢
    have H1 := Lib.hid h1
    have H2 := Lib.hid h2
    have HL := Lib.hid hln
    have HM := Lib.hid hmn
    clear h1 h2 hln hmn hne
    have hnn : (((n : Nat) : Int) != ((n : Nat) : Int)) = false := by simp
    go_enter Try.func54, Try.ntmps54
    go_wp2
    go_loopw [5] (fun i wr => ∃ k d : Nat, k ≤ n ∧ i = .int .i64 k ∧ sameTo l m k ∧ wr = w.drewN d) (fun i _ => n - (intOf i).toNat)
    case atStart => exact ⟨0, 0, by omega, rfl, fun i hi => by omega, rfl⟩
    case round =>
      obtain ⟨k, d, hk, rfl, hs, rfl⟩ := hrel
      have Hs := Lib.hid hs
      clear hs
      by_cases hlt : k < n
      · obtain ⟨b, o, rfl, hb1, hc1⟩ := H1.out k hlt
        obtain ⟨b', o', rfl, hb2, hc2⟩ := H2.out k hlt
        obtain ⟨y, hy⟩ : ∃ y, l.getD k 0 = y := ⟨_, rfl⟩
        obtain ⟨z, hz⟩ : ∃ z, m.getD k 0 = z := ⟨_, rfl⟩
        rw [hy] at hc1
        rw [hz] at hc2
        have Hy := Lib.hid hy
        have Hz := Lib.hid hz
        clear hy hz
        by_cases hyz : y = z
        · have Hyz := Lib.hid hyz
          have hyy : (y != z) = false := by simp [hyz]
          clear hyz
          go_wp2_with fail
          go_quiet (fail)
          go_wp2_with fail
          go_roundw
          case rel => exact ⟨k + 1, d + nq, by omega, by go_num, sameTo_step Hs.out (by rw [Hy.out, Hz.out]; exact Hyz.out), rfl⟩
          case measure => simp [intOf]; omega
        · have He := Lib.hid (eqLB_bad (l := l) (m := m) (j := k) (by rw [Hy.out, Hz.out]; exact hyz))
          have hyy : (y != z) = true := by simp [hyz]
          clear hyz
          go_wp2_with fail
          go_quiet (fail)
          go_wp2_with fail
          go_ret
          exact ⟨by rw [He.out]; rfl, _, drewN_drewN _ _ _⟩
      · obtain rfl : k = n := by omega
        have He := Lib.hid (eqLB_all (by rw [HL.out, HM.out]) (by rw [HL.out]; exact Hs.out) : eqLB l m = true)
        go_wp2
        go_ret
        exact ⟨by rw [He.out]; rfl, _, rfl⟩
  · have He := Lib.hid (eqLB_len hne)
    have hnn : (((l.length : Nat) : Int) != ((m.length : Nat) : Int)) = true := by simp; omega
    clear h1 h2
    go_enter Try.func54, Try.ntmps54
    go_wp2
    go_ret
    exact ⟨by rw [He.out]; rfl, 0, rfl⟩
set_option maxRecDepth 100000 in
theorem equal_any (v u : Value) (l m : List Int) (hl : l.length ≤ 2000000) (w : World) (hv : RdI v l w) (hu : RdI u m w) :
    Calls Try.prog 69 #[v, u] w fun e w' => e = .returned (.bool (eqLB l m)) ∧ ∃ d, w' = w.drewN d := by
  obtain ⟨ad, cap, rfl, h1⟩ := hv
  obtain ⟨bd, cbp, rfl, h2⟩ := hu
  by_cases hne : l.length = m.length
  · obtain ⟨n, hln⟩ : ∃ n, l.length = n := ⟨_, rfl⟩
    have hmn : m.length = n := by omega
    rw [hln] at h1 hl ⊢
    rw [hmn] at h2 ⊢
    have H1 := Lib.hid h1
    have H2 := Lib.hid h2
    have HL := Lib.hid hln
    have HM := Lib.hid hmn
    clear h1 h2 hln hmn hne
    have hnn : (((n : Nat) : Int) != ((n : Nat) : Int)) = false := by simp
    go_enter Try.func69, Try.ntmps69
    go_wp2
    go_loopw [13] (fun i wr => ∃ k d : Nat, k ≤ n ∧ i = .int .i64 k ∧ sameTo l m k ∧ wr = w.drewN d) (fun i _ => n - (intOf i).toNat)
    case atStart => exact ⟨0, 0, by omega, rfl, fun i hi => by omega, rfl⟩
    case round =>
      obtain ⟨k, d, hk, rfl, hs, rfl⟩ := hrel
      have Hs := Lib.hid hs
      clear hs
      by_cases hlt : k < n
      · obtain ⟨b, o, rfl, hb1, hc1⟩ := H1.out k hlt
        obtain ⟨b', o', rfl, hb2, hc2⟩ := H2.out k hlt
        obtain ⟨y, hy⟩ : ∃ y, l.getD k 0 = y := ⟨_, rfl⟩
        obtain ⟨z, hz⟩ : ∃ z, m.getD k 0 = z := ⟨_, rfl⟩
        rw [hy] at hc1
        rw [hz] at hc2
        have Hy := Lib.hid hy
        have Hz := Lib.hid hz
        clear hy hz
        by_cases hyz : y = z
        · have Hyz := Lib.hid hyz
          have hyy : (y != z) = false := by simp [hyz]
          clear hyz
          go_wp2_with fail
          go_quiet (fail)
          go_wp2_with fail
          go_roundw
          case rel => exact ⟨k + 1, d + nq, by omega, by go_num, sameTo_step Hs.out (by rw [Hy.out, Hz.out]; exact Hyz.out), rfl⟩
          case measure => simp [intOf]; omega
        · have He := Lib.hid (eqLB_bad (l := l) (m := m) (j := k) (by rw [Hy.out, Hz.out]; exact hyz))
          have hyy : (y != z) = true := by simp [hyz]
          clear hyz
          go_wp2_with fail
          go_quiet (fail)
          go_wp2_with fail
          go_ret
          exact ⟨by rw [He.out]; rfl, _, drewN_drewN _ _ _⟩
      · obtain rfl : k = n := by omega
        have He := Lib.hid (eqLB_all (by rw [HL.out, HM.out]) (by rw [HL.out]; exact Hs.out) : eqLB l m = true)
        go_wp2
        go_ret
        exact ⟨by rw [He.out]; rfl, _, rfl⟩
  · have He := Lib.hid (eqLB_len hne)
    have hnn : (((l.length : Nat) : Int) != ((m.length : Nat) : Int)) = true := by simp; omega
    clear h1 h2
    go_enter Try.func69, Try.ntmps69
    go_wp2
    go_ret
    exact ⟨by rw [He.out]; rfl, 0, rfl⟩


theorem rdI_drewN {v : Value} {l : List Int} {w : World} (h : RdI v l w) (d : Nat) : RdI v l (w.drewN d) := h
theorem rdI_later {v : Value} {l : List Int} {w : World} (h : RdI v l w) (o : Obj) : RdI v l (w.alloc o) := h.below ((Below.refl _ _).alloc (Nat.le_refl _) o)
theorem run_append_none (base : Nat) (t ty e : TypeId) (i : TypeInfo) (size : Nat) (ht : Try.prog.underlying t = some (.slice e)) (hi : Try.prog.info? e = some i)
    (v : Value) (n cp : Nat) (xs : List Value) (w : World) (hown : w.ownsRow base e size v n xs) :
    (Builtin.append_ #[t, t] ty #[v, .slice none 0 cp]).run Try.prog w = .ok v w := by
  rcases hown.2 with ⟨rfl, rfl⟩ | ⟨g, cap, cur, rfl, _, _, hnc, _⟩
  · simp [Builtin.append_, run_underlying ht, sizeOf, typeInfo, hi, Builtin.lenOf, Builtin.firstCells]
  · simp [Builtin.append_, run_underlying ht, sizeOf, typeInfo, hi, Builtin.lenOf, Builtin.firstCells, hnc, storeCells]
/-- append(out, src...): the source a row that can be read; what of memory may have turned. -/
theorem appAllG {ops : Array Oper} {rest : List Oper} {o : Oper} {a : Act} {Q : Exit → Act → World → Prop} (hgd : o.guard = none) (s x : Operand)
    (ho : o.op = .call { callee := .builtin .append, args := #[s, x], argTypes := #[33, 33] })
    (B : Nat) (v u : Value) (l m : List Int) (w : World) (hs : a.eval s = v) (hx : a.eval x = u)
    (hown : OwnI B v l w) (hu : RdI u m w) (hB : B ≤ w.heap.size) (hl : l.length + m.length ≤ 17592186044416)
    (h : ∀ v' w', OwnI B v' (l ++ m) w' → w.grownBy w' v.ownBlock → wpList Try.prog ops Q rest (a.put o.dst v') w') :
    wpList Try.prog ops Q (o :: rest) a w := by
  obtain ⟨i, hi, hz, hsz, hby⟩ := info_parts info_int
  have hr := hu
  obtain ⟨ad, cp, rfl, hr⟩ := hr
  cases ad with
  | none =>
    obtain rfl : m = [] := by
      rcases Nat.eq_zero_or_pos m.length with h0 | h0
      · exact List.length_eq_zero_iff.1 h0
      · obtain ⟨b, of, e, _⟩ := hr 0 h0; cases e
    have hrun := run_append_none B 33 o.type 3 i 1 Try.underlying33 hi v l.length cp (intCells l) w hown
    refine wpList_plain hgd fun K hK => ?_
    unfold Oper.wp
    simp [execOp, ho, resolve, invoke, builtin, hs, hx, hrun, Result.andThen]
    exact hK _ _ (h v w (by simpa using hown) (grown_refl _ _))
  | some ad =>
    refine wpList_append_own _ hgd s x 33 ho B 3 i (.int .i64 0) 1 8 Try.underlying33 hi hz hsz hby rfl (by decide) v l.length (intCells l) hs hown ad m.length cp (intCells m) hx ?_ ?_ ?_ ?_ (by omega) hB ?_
    · simp [intCells_length]
    · intro j y hj
      simp only [intCells, List.getElem?_map, Option.map_eq_some_iff] at hj
      obtain ⟨z, hz, rfl⟩ := hj
      obtain ⟨b', o', e, _, hc⟩ := hr j (List.getElem?_eq_some_iff.1 hz).1
      cases e
      rw [getD_some hz] at hc
      have e : (⟨b', o', none⟩ : Addr).add j = ⟨b', o' + j, none⟩ := by unfold Addr.add; split <;> simp_all
      rw [e]; exact hc
    · intro z hz; simp [intCells] at hz; obtain ⟨y, _, rfl⟩ := hz; rfl
    · unfold maxLen; omega
    · intro v' w' hown' hgr _
      refine h v' w' ?_ hgr
      unfold OwnI; rw [intCells_append, List.length_append]; exact hown'
theorem appAllR {ops : Array Oper} {rest : List Oper} {o : Oper} {a : Act} {Q : Exit → Act → World → Prop} (hgd : o.guard = none) (s x : Operand)
    (ho : o.op = .call { callee := .builtin .append, args := #[s, x], argTypes := #[33, 33] })
    (B : Nat) (v u : Value) (l m : List Int) (w : World) (hs : a.eval s = v) (hx : a.eval x = u)
    (hown : OwnI B v l w) (hu : RdI u m w) (hB : B ≤ w.heap.size) (hl : l.length + m.length ≤ 17592186044416)
    (h : ∀ v' w', OwnI B v' (l ++ m) w' → Below B w w' → wpList Try.prog ops Q rest (a.put o.dst v') w') :
    wpList Try.prog ops Q (o :: rest) a w :=
  appAllG hgd s x ho B v u l m w hs hx hown hu hB hl fun v' w' h1 h2 => h v' w' h1 ((Below.refl B w).grown h2 hB (fun k hk => (World.ownsRow.lt hown k hk).1))
end Go.Proofs.Ytdhaelaoackfkaa.KD
