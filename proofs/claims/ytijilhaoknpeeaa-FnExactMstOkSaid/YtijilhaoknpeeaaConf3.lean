
/-
  Is it a configuration: ConfOk, for the program and for its model.
-/
import Derived.Test.YtijilhaoknpeeaaConf2
namespace Go.Proofs.Ytijilhaoknpeeaa.Num
open Go.RowKit GR

/-- are a master's numbers right. -/
def okM (L : Int) (m : MC) : Bool := inB m.wt 1 4 && (if m.pr then inB m.ev L 1000 && inB m.cp 1 8 else m.ev == 0 && m.cp == 0)
def prioN (l : List MC) : Nat := l.countP (·.pr)
def leastW (l : List MC) (mr mw lm : Int) : Int := 2 * (prioN l : Int) * slotW mr mw lm
/-- is it a configuration. -/
def okC (l : List MC) (q mw mr ms lm : Int) : Bool :=
  l.all (okM (leastW l mr mw lm)) && (inB l.length 1 4 && (inB q 1 4 && (decide (0 < costW mr mw) && (inB ms 1 12 && inB lm 1 40))))
theorem prioN_le (l : List MC) : prioN l ≤ l.length := List.countP_le_length
theorem prio_step {l : List MC} {k : Nat} {x : MC} (hx : l[k]? = some x) : prioN (l.take (k + 1)) = prioN (l.take k) + if x.pr then 1 else 0 := by
  obtain ⟨h, rfl⟩ := List.getElem?_eq_some_iff.1 hx
  unfold prioN
  rw [List.take_succ_eq_append_getElem h, List.countP_append]
  congr 1
  cases hp : l[k].pr <;> simp [hp]
theorem all_step {l : List MC} {p : MC → Bool} {k : Nat} {x : MC} (hx : l[k]? = some x) (h : (l.take k).all p = true) (h1 : p x = true) : (l.take (k + 1)).all p = true := by
  obtain ⟨hk, rfl⟩ := List.getElem?_eq_some_iff.1 hx
  rw [List.take_succ_eq_append_getElem hk, List.all_append, h, List.all_cons, h1]; rfl
theorem all_bad {l : List MC} {p : MC → Bool} {k : Nat} {x : MC} (hx : l[k]? = some x) (h1 : p x = false) : l.all p = false := by
  rw [List.all_eq_false]
  exact ⟨x, List.mem_of_getElem? hx, by rw [h1]; simp⟩

theorem mul_bd {a b A B : Int} (h0 : 0 ≤ a) (h1 : a ≤ A) (h2 : 0 ≤ b) (h3 : b ≤ B) : 0 ≤ a * b ∧ a * b ≤ A * B :=
  ⟨Int.mul_nonneg h0 h2, Int.mul_le_mul h1 h3 h2 (by omega)⟩
set_option maxRecDepth 100000 in
theorem implPrio (v : Value) (l : List MC) (q mw mr ms lm : Int) (hl : l.length ≤ 2000000) (w : World) (hv : Rd mcK v l w) :
    Calls Try.prog 115 #[.agg #[v, .int .i64 q, .int .i64 mw, .int .i64 mr, .int .i64 ms, .int .i64 lm]] w fun e w' => e = .returned (.int .i64 (prioN l)) ∧ Below w.heap.size w w' := by
  obtain ⟨ad, cap, rfl, h1⟩ := hv
  obtain ⟨n, hln⟩ : ∃ n, l.length = n := ⟨_, rfl⟩
  rw [hln] at hl ⊢
  have H1 := Lib.hid h1
  have HL := Lib.hid hln
  clear h1 hln
  go_enter Try.func115, Try.ntmps115
  go_wp2
  go_loopw [3, 9] (fun q i wr => ∃ k c : Nat, k ≤ n ∧ c ≤ k ∧ q = .int .i64 c ∧ i = .int .i64 k ∧ prioN (l.take k) = c ∧ Below w.heap.size w wr) (fun _ i _ => n - (intOf i).toNat)
  case atStart => exact ⟨0, 0, by omega, by omega, rfl, rfl, rfl, (Below.refl _ _).alloc (Nat.le_refl _) _⟩
  case round =>
    obtain ⟨k, c, hk, hc, rfl, rfl, hp, hb⟩ := hrel
    have Hp := Lib.hid hp
    clear hp
    by_cases hlt : k < n
    · obtain ⟨x, hx⟩ := get_of (l := l) (i := k) (by rw [HL.out]; exact hlt)
      obtain ⟨b, o, rfl, hb1, hc1⟩ := H1.out k x hx
      obtain ⟨g0, g1, g2, g3⟩ := mc_at hc1
      rw [← below_cells hb hb1] at g0 g1 g2 g3
      have Hs := Lib.hid (prio_step hx)
      clear hc1 hx
      obtain ⟨p, hp⟩ : ∃ p, x.pr = p := ⟨_, rfl⟩
      rw [hp] at g1
      have HP := Lib.hid hp
      clear hp
      have Hb := Lib.hid (hb.alloc hb.size (Obj.cells #[.int .i64 x.wt, .bool p, .int .i64 x.ev, .int .i64 x.cp] 120))
      cases p with
      | false =>
        go_wp2
        go_roundw
        case rel => exact ⟨k + 1, c, by omega, by omega, rfl, by go_num, by rw [Hs.out, HP.out, Hp.out]; rfl, Hb.out⟩
        case measure => simp [intOf]; omega
      | true =>
        go_wp2
        go_roundw
        case rel => exact ⟨k + 1, c + 1, by omega, by omega, by go_num, by go_num, by rw [Hs.out, HP.out, Hp.out]; rfl, Hb.out⟩
        case measure => simp [intOf]; omega
    · obtain rfl : k = n := by omega
      go_wp2
      go_ret
      exact ⟨by rw [← Hp.out, List.take_of_length_le (by rw [HL.out]; omega)]; rfl, hb⟩
set_option maxRecDepth 100000 in
theorem implMOk (a : Int) (p : Bool) (b c L : Int) (w : World) :
    Calls Try.prog 116 #[.agg #[.int .i64 a, .bool p, .int .i64 b, .int .i64 c], .int .i64 L] w fun e w' => e = .returned (.bool (okM L ⟨a, p, b, c⟩)) ∧ Below w.heap.size w w' := by
  obtain ⟨b1, h1⟩ : ∃ x, inB a 1 4 = x := ⟨_, rfl⟩
  obtain ⟨b2, h2⟩ : ∃ x, inB b L 1000 = x := ⟨_, rfl⟩
  obtain ⟨b3, h3⟩ : ∃ x, inB c 1 8 = x := ⟨_, rfl⟩
  obtain ⟨b4, h4⟩ : ∃ x, (b == 0) = x := ⟨_, rfl⟩
  obtain ⟨b5, h5⟩ : ∃ x, (c == 0) = x := ⟨_, rfl⟩
  have He := Lib.hid (show okM L ⟨a, p, b, c⟩ = (b1 && (if p then b2 && b3 else b4 && b5)) by unfold okM; rw [h1, h2, h3, h4, h5])
  have H1 := Lib.hid h1
  have H2 := Lib.hid h2
  have H3 := Lib.hid h3
  clear h1 h2 h3
  cases b1 with
  | false =>
    go_enter Try.func116, Try.ntmps116
    go_wp2_with (go_at_call 64; ((with_reducible refine (within_is H1.out _).mono ?_); rintro e w' ⟨rfl, rfl⟩))
    go_ret
    exact ⟨by rw [He.out]; rfl, (Below.refl _ _).alloc (Nat.le_refl _) _⟩
  | true =>
    cases p with
    | false =>
      cases b4 <;> cases b5
      all_goals
        go_enter Try.func116, Try.ntmps116
        go_wp2_with (go_at_call 64; ((with_reducible refine (within_is H1.out _).mono ?_); rintro e w' ⟨rfl, rfl⟩))
        go_ret
        exact ⟨by rw [He.out]; rfl, (Below.refl _ _).alloc (Nat.le_refl _) _⟩
    | true =>
      cases b2 <;> cases b3
      all_goals
        go_enter Try.func116, Try.ntmps116
        go_wp2_with (go_at_call 64; first | ((with_reducible refine (within_is H1.out _).mono ?_); rintro e w' ⟨rfl, rfl⟩) | ((with_reducible refine (within_is H2.out _).mono ?_); rintro e w' ⟨rfl, rfl⟩) | ((with_reducible refine (within_is H3.out _).mono ?_); rintro e w' ⟨rfl, rfl⟩))
        go_ret
        exact ⟨by rw [He.out]; rfl, (Below.refl _ _).alloc (Nat.le_refl _) _⟩
theorem slot_pos {mr mw lm : Int} (h : ¬ slotW mr mw lm = 0) : 0 < costW mr mw ∧ inB lm 1 40 = true := by
  unfold slotW at h
  have h0 := (costW_bd mr mw).1
  split at h
  · rename_i h1; exact ⟨by omega, h1.2⟩
  · exact absurd rfl h
theorem okC_slot {l : List MC} {q mw mr ms lm : Int} (h : slotW mr mw lm = 0) : okC l q mw mr ms lm = false := by
  have h0 := costW_bd mr mw
  unfold slotW at h
  split at h
  · rename_i h1
    have := inB_iff.1 h1.2
    omega
  · rename_i h1
    unfold okC
    rw [Bool.eq_false_iff]
    intro h2
    simp only [Bool.and_eq_true, decide_eq_true_iff] at h2
    exact h1 ⟨by omega, h2.2.2.2.2.2⟩

set_option maxHeartbeats 1000000 in
set_option maxRecDepth 100000 in
theorem implConfOk (v : Value) (l : List MC) (q mw mr ms lm : Int) (hl : l.length ≤ 2000000) (w : World) (hv : Rd mcK v l w) :
    Calls Try.prog 85 #[.agg #[v, .int .i64 q, .int .i64 mw, .int .i64 mr, .int .i64 ms, .int .i64 lm]] w fun e w' => e = .returned (.bool (okC l q mw mr ms lm)) ∧ Below w.heap.size w w' := by
  have Hv := Lib.hid hv
  obtain ⟨ad, cap, rfl, h1⟩ := hv
  obtain ⟨n, hln⟩ : ∃ n, l.length = n := ⟨_, rfl⟩
  rw [hln] at hl Hv ⊢
  have H1 := Lib.hid h1
  have HL := Lib.hid hln
  obtain ⟨S, hS⟩ : ∃ S, slotW mr mw lm = S := ⟨_, rfl⟩
  have hSb := slotW_bd mr mw lm
  rw [hS] at hSb
  obtain ⟨S0, S1⟩ := hSb
  have HS := Lib.hid hS
  have A := Bx.new 66 #[.slice ad n cap, .int .i64 q, .int .i64 mw, .int .i64 mr, .int .i64 ms, .int .i64 lm] w
  obtain ⟨bq, hq⟩ : ∃ x, inB q 1 4 = x := ⟨_, rfl⟩
  obtain ⟨bs, hs⟩ : ∃ x, inB ms 1 12 = x := ⟨_, rfl⟩
  have HQ := Lib.hid hq
  have HM := Lib.hid hs
  clear h1 hln
  by_cases hz : S = 0
  · subst hz
    have He := Lib.hid (okC_slot (l := l) (q := q) (ms := ms) hS)
    clear hS A hq hs
    go_enter Try.func85, Try.ntmps85
    go_wp2_with fail
    refine (implSlot _ _ _ _ _ _ _ _ _).mono ?_
    rintro e w1 ⟨rfl, hb⟩
    rw [HS.out]
    go_wp2
    go_ret
    exact ⟨by rw [He.out]; rfl, below_alloc1 (Below.refl _ _) (Nat.le_refl _) hb⟩
  · have hz0 : (S == 0) = false := by simpa using hz
    have hc := slot_pos (by rw [hS]; exact hz)
    have HO := Lib.hid (show okC l q mw mr ms lm = (l.all (okM (leastW l mr mw lm)) && (inB n 1 4 && (bq && bs))) by
      unfold okC; rw [hq, hs, decide_eq_true hc.1, hc.2]
      have : (l.length : Int) = (n : Int) := by rw [HL.out]
      rw [this]; simp)
    clear hS hc hz hq hs
    by_cases hqs : bq = true ∧ bs = true
    · obtain ⟨rfl, rfl⟩ := hqs
      obtain ⟨bn, hn⟩ : ∃ x, inB (n : Int) 1 4 = x := ⟨_, rfl⟩
      have HN := Lib.hid hn
      cases bn with
      | false =>
        have He := Lib.hid (show okC l q mw mr ms lm = false by rw [HO.out, hn]; simp)
        clear hn
        go_enter Try.func85, Try.ntmps85
        go_wp2_with fail
        refine (implSlot _ _ _ _ _ _ _ _ _).mono ?_
        rintro e w1 ⟨rfl, hb⟩
        rw [HS.out]
        obtain ⟨g0, g1, g2, g3, g4, g5⟩ := (A.later hb).cells6
        have Hw := Lib.hid (below_alloc1 (Below.refl _ _) (Nat.le_refl _) hb)
        clear A hb
        go_wp2_with (go_at_call 64; first | ((with_reducible refine (within_is HQ.out _).mono ?_); rintro e w' ⟨rfl, rfl⟩) | ((with_reducible refine (within_is HM.out _).mono ?_); rintro e w' ⟨rfl, rfl⟩) | ((with_reducible refine (within_is HN.out _).mono ?_); rintro e w' ⟨rfl, rfl⟩))
        go_ret
        exact ⟨by rw [He.out]; rfl, Hw.out⟩
      | true =>
        obtain ⟨n1, n4⟩ := inB_iff.1 hn
        have HE := Lib.hid (show okC l q mw mr ms lm = l.all (okM (leastW l mr mw lm)) by rw [HO.out, hn]; simp)
        obtain ⟨P, hP⟩ : ∃ P, prioN l = P := ⟨_, rfl⟩
        have hPn : P ≤ n := by rw [← hP, ← HL.out]; exact prioN_le l
        have HP := Lib.hid hP
        have hm1 : wrap64 (2 * S * (P : Int)) = 2 * S * (P : Int) := by
          have := mul_bd (a := 2 * S) (b := (P : Int)) (A := 260) (B := 4) (by omega) (by omega) (by omega) (by omega)
          exact IntWalk.wrap64_in _ (by omega)
        obtain ⟨L, hL⟩ : ∃ L, 2 * S * (P : Int) = L := ⟨_, rfl⟩
        have Hm1 := Lib.hid (hm1.trans hL)
        clear hm1
        have HLL := Lib.hid (show leastW l mr mw lm = L by unfold leastW; rw [HS.out, HP.out, ← hL, Int.mul_assoc, Int.mul_assoc, Int.mul_comm S])
        clear hn hP hL
        go_enter Try.func85, Try.ntmps85
        go_wp2_with fail
        refine (implSlot _ _ _ _ _ _ _ _ _).mono ?_
        rintro e w1 ⟨rfl, hb⟩
        rw [HS.out]
        have A1 := A.later hb
        obtain ⟨g0, g1, g2, g3, g4, g5⟩ := A1.cells6
        have Hw := Lib.hid (below_alloc1 (Below.refl _ _) (Nat.le_refl _) hb)
        have Hv1 := Lib.hid (Hv.out.below Hw.out)
        clear A hb
        go_wp2_with (go_at_call 64; first | ((with_reducible refine (within_is HQ.out _).mono ?_); rintro e w' ⟨rfl, rfl⟩) | ((with_reducible refine (within_is HM.out _).mono ?_); rintro e w' ⟨rfl, rfl⟩) | ((with_reducible refine (within_is HN.out _).mono ?_); rintro e w' ⟨rfl, rfl⟩))
        refine (implPrio _ l _ _ _ _ _ (by rw [HL.out]; exact hl) _ Hv1.out).mono ?_
        rintro e w2 ⟨rfl, hb2⟩
        rw [HP.out]
        obtain ⟨k0, k1, k2, k3, k4, k5⟩ := (A1.later hb2).cells6
        have Hw2 := Lib.hid (Hw.out.trans (hb2.mono Hw.out.size))
        clear A1 hb2 g0 g1 g2 g3 g4 g5
        go_wp2_with fail
        rw [Hm1.out]
        go_loopw [36] (fun i wr => ∃ k : Nat, k ≤ n ∧ i = .int .i64 k ∧ (l.take k).all (okM L) = true ∧ Below w.heap.size w wr) (fun i _ => n - (intOf i).toNat)
        case atStart => exact ⟨0, by omega, rfl, by simp, Hw2.out⟩
        case round =>
          obtain ⟨k, hk, rfl, ha, hb⟩ := hrel
          have Ha := Lib.hid ha
          clear ha
          by_cases hlt : k < n
          · obtain ⟨x, hx⟩ := get_of (l := l) (i := k) (by rw [HL.out]; exact hlt)
            obtain ⟨b, o, rfl, hb1, hc1⟩ := H1.out k x hx
            obtain ⟨g0, g1, g2, g3⟩ := mc_at hc1
            rw [← below_cells hb hb1] at g0 g1 g2 g3
            have Hx := Lib.hid hx
            have Hb := Lib.hid (hb.alloc hb.size (Obj.cells #[.int .i64 x.wt, .bool x.pr, .int .i64 x.ev, .int .i64 x.cp] 120))
            obtain ⟨bx, hbx⟩ : ∃ bx, okM L ⟨x.wt, x.pr, x.ev, x.cp⟩ = bx := ⟨_, rfl⟩
            have HX := Lib.hid hbx
            have hbsz : w.heap.size ≤ (wr.alloc (Obj.cells #[.int .i64 x.wt, .bool x.pr, .int .i64 x.ev, .int .i64 x.cp] 120)).heap.size := Hb.out.size
            clear hc1 hx hbx
            cases bx with
            | true =>
              go_wp2_with fail
              refine (implMOk _ _ _ _ _ _).mono ?_
              rintro e w3 ⟨rfl, hb3⟩
              rw [HX.out]
              have Hb3 := Lib.hid (Hb.out.trans (hb3.mono hbsz))
              clear hb3 g0 g1 g2 g3
              go_wp2_with fail
              go_roundw
              case rel => exact ⟨k + 1, by omega, by go_num, all_step Hx.out Ha.out HX.out, Hb3.out⟩
              case measure => simp [intOf]; omega
            | false =>
              have He := Lib.hid (all_bad (p := okM L) Hx.out HX.out)
              go_wp2_with fail
              refine (implMOk _ _ _ _ _ _).mono ?_
              rintro e w3 ⟨rfl, hb3⟩
              rw [HX.out]
              have Hb3 := Lib.hid (Hb.out.trans (hb3.mono hbsz))
              clear hb3 g0 g1 g2 g3
              go_wp2_with fail
              go_ret
              exact ⟨by rw [HE.out, HLL.out, He.out]; rfl, Hb3.out⟩
          · obtain rfl : k = n := by omega
            go_wp2
            go_ret
            refine ⟨?_, hb⟩
            have := Ha.out
            rw [List.take_of_length_le (by rw [HL.out]; omega)] at this
            rw [HE.out, HLL.out, this]; rfl
    · have He := Lib.hid (show okC l q mw mr ms lm = false by
        rw [HO.out]; cases bq <;> cases bs <;> simp_all)
      cases bq <;> cases bs
      all_goals first
        | exact absurd ⟨rfl, rfl⟩ hqs
        | (clear hqs
           go_enter Try.func85, Try.ntmps85
           go_wp2_with fail
           refine (implSlot _ _ _ _ _ _ _ _ _).mono ?_
           rintro e w1 ⟨rfl, hb⟩
           rw [HS.out]
           obtain ⟨g0, g1, g2, g3, g4, g5⟩ := (A.later hb).cells6
           have Hw := Lib.hid (below_alloc1 (Below.refl _ _) (Nat.le_refl _) hb)
           clear A hb
           go_wp2_with (go_at_call 64; first | ((with_reducible refine (within_is HQ.out _).mono ?_); rintro e w' ⟨rfl, rfl⟩) | ((with_reducible refine (within_is HM.out _).mono ?_); rintro e w' ⟨rfl, rfl⟩))
           go_ret
           exact ⟨by rw [He.out]; rfl, Hw.out⟩)
end Go.Proofs.Ytijilhaoknpeeaa.Num
