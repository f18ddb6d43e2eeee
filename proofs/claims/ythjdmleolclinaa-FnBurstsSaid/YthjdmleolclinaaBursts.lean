
/-
  The law on bursts, at any address, size and burst.
-/
import Derived.Test.YthjdmleolclinaaBurst3
import Derived.Test.YthjdmleolclinaaEq
import Derived.Test.YthjdmleolclinaaDraw3
namespace Go.Proofs.Ythjdmleolclinaa.Num
open Go.RowKit Rows3 Cur

theorem qAligned (a k : Int) (h : alB a k = true) (w : World) :
    Calls Try.prog 16 #[.int .i64 a, .int .i64 k] w fun e w' => e = .returned (.bool true) ∧ w' = w :=
  (implAligned a k w).mono fun _ _ ⟨h1, h2⟩ => ⟨by rw [h1, h], h2.symm⟩
theorem qNext (a k b y : Int) (h : nextW a k b = y) (w : World) :
    Calls Try.prog 17 #[.int .i64 a, .int .i64 k, .int .i64 b] w fun e w' => e = .returned (.int .i64 y) ∧ w' = w :=
  (implNext a k b w).mono fun _ _ ⟨h1, h2⟩ => ⟨by rw [h1, h], h2.symm⟩

/-- where a burst stays in its page there are all its beats. -/
theorem addrs_ok {a k b : Int} (h : okL (addrsW a k b) a = true) : (addrsW a k b).length = (beatsW b).toNat ∧ 0 < (beatsW b).toNat ∧ 0 ≤ itW a k b (beatsW b).toNat ∧ ∀ j, j < (beatsW b).toNat → (addrsW a k b).getD j 0 / 64 = a / 64 := by
  have h0 : 0 < (addrsW a k b).length ∧ ∀ x ∈ addrsW a k b, x / 64 = a / 64 := by
    unfold okL at h; simpa [Bool.and_eq_true, List.all_eq_true, beq_iff_eq] using h
  have h1 : 0 ≤ itW a k b (beatsW b).toNat := by
    by_cases hn : 0 ≤ itW a k b (beatsW b).toNat
    · exact hn
    · have : addrsW a k b = [] := by unfold addrsW; rw [if_neg hn]
      rw [this] at h0; simp at h0
  have h2 : (addrsW a k b).length = (beatsW b).toNat := by unfold addrsW; rw [if_pos h1, itL_length]
  refine ⟨h2, by omega, h1, fun j hj => ?_⟩
  rw [getD_lt (by omega)]
  exact h0.2 _ (List.getElem_mem _)
/-- a wrapping burst's steps stay in its block, and the fourth comes back. -/
theorem wrap_step {x k : Int} (h0 : 0 ≤ x) (h1 : x < 512) (h2 : x % bytesW k = 0) (h3 : 0 < bytesW k) :
    nextW x k 2 / (4 * bytesW k) = x / (4 * bytesW k) ∧ nextW x k 2 = (if (x + bytesW k) % (4 * bytesW k) = 0 then x + bytesW k - 4 * bytesW k else x + bytesW k) := by
  have e : nextW x k 2 = (if (x + bytesW k) % (4 * bytesW k) = 0 then x + bytesW k - 4 * bytesW k else x + bytesW k) := by
    unfold nextW
    rw [if_pos ⟨(alB_iff _ _).2 ⟨h3, h0, h2⟩, h1, by decide⟩]
    by_cases hc : (x + bytesW k) % (4 * bytesW k) = 0
    · rw [if_pos ⟨rfl, hc⟩, if_pos hc]
    · rw [if_neg (fun h => hc h.2), if_neg hc]
  refine ⟨?_, e⟩
  rw [e]
  rcases bytesW_cases k with e | ⟨_, e⟩ | ⟨_, e⟩ | ⟨_, e⟩
  · omega
  all_goals
    rw [e] at h2 ⊢
    split <;> omega
theorem wrap_back {a k : Int} (h : 0 ≤ itW a k 2 4) : nextW (itW a k 2 3) k 2 = a ∧ ∀ j, j < 4 → itW a k 2 j / (4 * bytesW k) = a / (4 * bytesW k) := by
  obtain ⟨a0, a1, a2, a3⟩ := itW_bd (j := 0) h (by omega)
  obtain ⟨b0, b1, b2, _⟩ := itW_bd (j := 1) h (by omega)
  obtain ⟨c0, c1, c2, _⟩ := itW_bd (j := 2) h (by omega)
  obtain ⟨d0, d1, d2, _⟩ := itW_bd (j := 3) h (by omega)
  obtain ⟨p1, q1⟩ := wrap_step a0 a1 a2 a3
  obtain ⟨p2, q2⟩ := wrap_step b0 b1 b2 a3
  obtain ⟨p3, q3⟩ := wrap_step c0 c1 c2 a3
  obtain ⟨p4, q4⟩ := wrap_step d0 d1 d2 a3
  have s1 : itW a k 2 1 = nextW (itW a k 2 0) k 2 := rfl
  have s2 : itW a k 2 2 = nextW (itW a k 2 1) k 2 := rfl
  have s3 : itW a k 2 3 = nextW (itW a k 2 2) k 2 := rfl
  have s0 : itW a k 2 0 = a := rfl
  rw [← s1] at p1 q1
  rw [← s2] at p2 q2
  rw [← s3] at p3 q3
  rw [s0] at p1 q1 a0 a1 a2
  refine ⟨?_, fun j hj => ?_⟩
  · rw [q4]
    generalize itW a k 2 3 = x3 at *
    generalize itW a k 2 2 = x2 at *
    generalize itW a k 2 1 = x1 at *
    rcases bytesW_cases k with e | ⟨_, e⟩ | ⟨_, e⟩ | ⟨_, e⟩
    · omega
    all_goals
      rw [e] at a2 q1 q2 q3 q4 ⊢
      split at q1 <;> split at q2 <;> split at q3 <;> split <;> omega
  · have : j = 0 ∨ j = 1 ∨ j = 2 ∨ j = 3 := by omega
    rcases this with rfl | rfl | rfl | rfl
    · rfl
    · exact p1
    · exact p2.trans p1
    · exact p3.trans (p2.trans p1)

/-- the facts on one address of a burst that stays in its page. -/
structure OneAddr (a k b x : Int) (j : Nat) : Prop where
  pos : 0 ≤ x
  lt : x < 512
  al : alB x k = true
  page : (x / 64 != a / 64) = false
  next : j + 1 < (beatsW b).toNat → nextW x k b = itW a k b (j + 1)
  wrap : b = 2 → (x / (4 * bytesW k) != a / (4 * bytesW k)) = false
theorem one_addr {a k b : Int} (h : okL (addrsW a k b) a = true) {j : Nat} (hj : j < (beatsW b).toNat) : OneAddr a k b (itW a k b j) j := by
  obtain ⟨h1, h2, h3, h4⟩ := addrs_ok h
  have hjl : j < (addrsW a k b).length := by omega
  obtain ⟨g1, g2, g3, g4, g5⟩ := addrsW_getD hjl
  have h5 := h4 j hj
  rw [g1] at h5
  refine ⟨g2, g3, (alB_iff _ _).2 ⟨g5, g2, g4⟩, by simp [h5], fun _ => rfl, ?_⟩
  rintro rfl
  have := (wrap_back h3).2 j hj
  simp [this]

set_option maxHeartbeats 4000000 in
set_option maxRecDepth 100000 in
theorem bursts_all (a : Option Addr) (len cap : Nat) (z : List Int) (w : World) (hC : CodeIn a len z w) :
    Calls Try.prog 3 #[.slice a len cap] w fun e w' => e = .returned (.bool true) ∧ Below w.heap.size w w' := by
  have HC := Lib.hid hC
  have hlen : ¬ 1048576 < len := by have := hC.2.2; omega
  clear hC
  go_enter Try.func3, Try.ntmps3
  go_wp2_with fail
  refine (bigE_no a len cap hlen _).mono ?_
  rintro e w0 ⟨rfl, rfl⟩
  go_wp2_with fail
  refine (drawBurst_any a len cap z _ HC.out).mono ?_
  rintro e w1 ⟨x, y, q, rfl, hb1⟩
  go_wp2_with fail
  refine (implBurst x y q _).mono ?_
  rintro e w2 ⟨v, rfl, ho, hb2⟩
  have hb02 := hb1.trans (hb2.mono hb1.size)
  have hl8 := addrsW_length x y q
  obtain ⟨l, hl⟩ : ∃ l, addrsW x y q = l := ⟨_, rfl⟩
  obtain ⟨B, hB⟩ : ∃ B, okL (addrsW x y q) x = B := ⟨_, rfl⟩
  rw [hl] at ho hl8
  have Hl := Lib.hid hl
  have HB := Lib.hid hB
  clear hl hB
  go_wp2_with fail
  refine (implOk x y q _).mono ?_
  rintro e w3 ⟨rfl, hb3⟩
  rw [HB.out]
  have ho3 := ho.later hb3
  have hb03 := hb02.trans (hb3.mono hb02.size)
  go_wp2_with fail
  refine (specBurst x y q _).mono ?_
  rintro e w4 ⟨u, rfl, hu, hb4⟩
  rw [Hl.out] at hu
  have ho4 := ho3.later hb4
  have hb04 := hb03.trans (hb4.mono hb03.size)
  go_wp2_with fail
  refine (sameI_same v u l (by omega) _ ho4.rd hu.rd).mono ?_
  rintro e w5 ⟨rfl, hb5⟩
  have ho5 := ho4.later hb5
  have hb05 := hb04.trans (hb5.mono hb04.size)
  go_wp2_with fail
  refine (specOk x y q _).mono ?_
  rintro e w6 ⟨rfl, hb6⟩
  rw [HB.out]
  have ho6 := ho5.later hb6
  have hb06 := hb05.trans (hb6.mono hb05.size)
  clear hb1 hb2 hb3 hb4 hb5 hb02 hb03 hb04 hb05 ho ho3 ho4 ho5 hu
  cases B
  · go_wp2
    go_ret
    exact ⟨rfl, hb06⟩
  · obtain ⟨e1, e2, e3, e4⟩ := addrs_ok HB.out
    obtain ⟨n, hn⟩ : ∃ n, (beatsW q).toNat = n := ⟨_, rfl⟩
    rw [hn, Hl.out] at e1
    rw [hn] at e2 e3
    have hone : ∀ j, j < n → OneAddr x y q (itW x y q j) j := fun j hj => one_addr HB.out (by rw [hn]; exact hj)
    have hgd : ∀ j, j < n → l.getD j 0 = itW x y q j := fun j hj => by rw [← Hl.out]; exact (addrsW_getD (by rw [Hl.out, e1]; exact hj)).1
    obtain ⟨ad, cap, rfl, hrd⟩ := ho6.rd
    rw [e1] at hrd hl8 ⊢
    have Hrd := Lib.hid hrd
    have Hone := Lib.hid hone
    have Hgd := Lib.hid hgd
    have Hn := Lib.hid hn
    have E3 := Lib.hid e3
    have hx := (hone 0 e2).pos
    have hx2 := (hone 0 e2).lt
    rw [show itW x y q 0 = x from rfl] at hx hx2
    have hm1 := ((alB_iff _ _).1 (hone 0 e2).al).1
    have hm2 : bytesW y ≤ 4 := by rcases bytesW_cases y with e | ⟨_, e⟩ | ⟨_, e⟩ | ⟨_, e⟩ <;> omega
    obtain ⟨m, hm⟩ : ∃ m, bytesW y = m := ⟨_, rfl⟩
    rw [hm] at hm1 hm2
    have Hm := Lib.hid hm
    clear e1 e3 e4 hrd hone hgd hn hm ho6
    have h4m : ¬ 4 * m = 0 := by omega
    go_wp2_with fail
    refine (implBytes y _).mono ?_
    rintro e w7 ⟨rfl, rfl⟩
    rw [Hm.out]
    go_wp2_with fail
    go_loopw [9] (fun i wr => ∃ j : Nat, j ≤ n ∧ i = .int .i64 j ∧ Below w6.heap.size w6 wr) (fun i _ => n - (intOf i).toNat)
    case atStart => exact ⟨0, by omega, rfl, Below.refl _ _⟩
    case round =>
      obtain ⟨j, hj, rfl, hb⟩ := hrel
      by_cases hlt : j < n
      · obtain ⟨b, o, rfl, hb1, hc1⟩ := Hrd.out j hlt
        rw [← hb.cell (p := ⟨b, o + j, none⟩) hb1, Hgd.out j hlt] at hc1
        obtain ⟨p0, p1, p2, p3, p4, p5⟩ := Hone.out j hlt
        have hal := Lib.hid p2
        have Hp4 := Lib.hid p4
        rw [Hm.out] at p5
        clear p2 p4
        obtain ⟨xj, hxj⟩ : ∃ xj, itW x y q j = xj := ⟨_, rfl⟩
        rw [hxj] at hc1 p0 p1 p3 p5 hal
        have Hj := Lib.hid hxj
        clear hxj
        by_cases hq : q = 2
        · have hw := p5 hq
          have hqb : (q == 2) = true := by rw [beq_iff_eq]; exact hq
          clear p5 hq
          cases j with
          | zero =>
            rw [Nat.add_zero] at hc1
            go_wp2_with fail
            go_quiet ((first | (go_at_call 16; exact Calls.quiet_of_same (qAligned _ _ hal.out _)) | fail))
            go_wp2_with fail
            go_roundw
            case rel => exact ⟨1, by omega, by go_num, ⟨hb.os, hb.tape, hb.output, hb.size, hb.block⟩⟩
            case measure => simp [intOf]; omega
          | succ p =>
            obtain ⟨b', o', ep, hb2, hc2⟩ := Hrd.out p (by omega)
            cases ep
            rw [← hb.cell (p := ⟨b, o + p, none⟩) hb1, Hgd.out p (by omega)] at hc2
            have Hnx := Lib.hid (show nextW (itW x y q p) y q = xj from Hj.out)
            generalize itW x y q p = xp at hc2 Hnx
            clear hb2
            have hs1 : IntKind.i64.wrap ((p : Int) + 1 - 1) = (p : Int) := by rw [show (p : Int) + 1 - 1 = p by omega]; exact IntWalk.i64_in _ (by omega)
            have hxx : (xj != xj) = false := by simp
            go_wp2_with fail
            go_quiet ((first | (go_at_call 16; exact Calls.quiet_of_same (qAligned _ _ hal.out _)) | (go_at_call 17; exact Calls.quiet_of_same (qNext _ _ _ _ Hnx.out _))))
            go_wp2_with fail
            go_roundw
            case rel => exact ⟨p + 2, by omega, by go_num, ⟨hb.os, hb.tape, hb.output, hb.size, hb.block⟩⟩
            case measure => simp [intOf]; omega
        · have hqb : (q == 2) = false := by rw [beq_eq_false_iff_ne]; exact hq
          clear p5 hq
          cases j with
          | zero =>
            rw [Nat.add_zero] at hc1
            go_wp2_with fail
            go_quiet ((first | (go_at_call 16; exact Calls.quiet_of_same (qAligned _ _ hal.out _)) | fail))
            go_wp2_with fail
            go_roundw
            case rel => exact ⟨1, by omega, by go_num, ⟨hb.os, hb.tape, hb.output, hb.size, hb.block⟩⟩
            case measure => simp [intOf]; omega
          | succ p =>
            obtain ⟨b', o', ep, hb2, hc2⟩ := Hrd.out p (by omega)
            cases ep
            rw [← hb.cell (p := ⟨b, o + p, none⟩) hb1, Hgd.out p (by omega)] at hc2
            have Hnx := Lib.hid (show nextW (itW x y q p) y q = xj from Hj.out)
            generalize itW x y q p = xp at hc2 Hnx
            clear hb2
            have hs1 : IntKind.i64.wrap ((p : Int) + 1 - 1) = (p : Int) := by rw [show (p : Int) + 1 - 1 = p by omega]; exact IntWalk.i64_in _ (by omega)
            have hxx : (xj != xj) = false := by simp
            go_wp2_with fail
            go_quiet ((first | (go_at_call 16; exact Calls.quiet_of_same (qAligned _ _ hal.out _)) | (go_at_call 17; exact Calls.quiet_of_same (qNext _ _ _ _ Hnx.out _))))
            go_wp2_with fail
            go_roundw
            case rel => exact ⟨p + 2, by omega, by go_num, ⟨hb.os, hb.tape, hb.output, hb.size, hb.block⟩⟩
            case measure => simp [intOf]; omega
      · obtain rfl : j = n := by omega
        obtain ⟨b, o, rfl, hb1, hc1⟩ := Hrd.out 0 e2
        rw [← hb.cell (p := ⟨b, o + 0, none⟩) hb1, Hgd.out 0 e2, show itW x y q 0 = x from rfl, Nat.add_zero] at hc1
        have Hbt := Lib.hid (show beatsW q = (j : Int) by have := (beatsW_bd q).1; have := Hn.out; omega)
        have hjj : ((j : Int) == (j : Int)) = true := by simp
        have hxx : (x == x) = true := by simp
        by_cases hq : q = 2
        · have hqb : (q != 2) = false := by simp [hq]
          have hj4 : j = 4 := by rw [hq] at Hbt; have h8 := Hbt.out; rw [show beatsW 2 = 4 from rfl] at h8; omega
          subst hj4
          obtain ⟨b', o', ep, hb2, hc2⟩ := Hrd.out 3 (by omega)
          cases ep
          rw [← hb.cell (p := ⟨b, o + 3, none⟩) hb1, Hgd.out 3 (by omega)] at hc2
          have Hnx := Lib.hid (show nextW (itW x y q 3) y q = x by have h9 := E3.out; rw [hq] at h9 ⊢; exact (wrap_back h9).1)
          generalize itW x y q 3 = x3 at hc2 Hnx
          clear hq hb2
          go_wp2_with fail
          refine (implBeats _ _).mono ?_
          rintro e w8 ⟨rfl, rfl⟩
          rw [Hbt.out]
          go_wp2_with fail
          refine (implNext _ _ _ _).mono ?_
          rintro e w9 ⟨rfl, rfl⟩
          rw [Hnx.out]
          go_wp2
          go_ret
          exact ⟨rfl, hb06.trans (hb.mono hb06.size)⟩
        · have hqb : (q != 2) = true := by simp [hq]
          clear hq
          go_wp2_with fail
          refine (implBeats _ _).mono ?_
          rintro e w8 ⟨rfl, rfl⟩
          rw [Hbt.out]
          go_wp2
          go_ret
          exact ⟨rfl, hb06.trans (hb.mono hb06.size)⟩
end Go.Proofs.Ythjdmleolclinaa.Num
