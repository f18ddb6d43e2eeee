
/-
  A number read in a memory: what GetNum returns, for the program and for its model.
-/
import Derived.Test.YtbhmfjblmcppbaaLane2
import Derived.Outline
namespace Go.Proofs.Ytbhmfjblmcppbaa.Num
open Go.RowKit Rows3

/-- the number of the first n bytes from a on, the least first. -/
def leV (l : List Int) (a : Nat) : Nat → Int
  | 0 => 0
  | j + 1 => leV l a j + l.getD (a + j) 0 * 256 ^ j
/-- the same read from the other end: t bytes of n are done. -/
def hiV (l : List Int) (a n : Nat) : Nat → Int
  | 0 => 0
  | t + 1 => hiV l a n t * 256 + l.getD (a + (n - 1 - t)) 0
theorem hiV_leV (l : List Int) (a n : Nat) (h : n = 1 ∨ n = 2 ∨ n = 4) : hiV l a n n = leV l a n := by
  rcases h with rfl | rfl | rfl
  · simp [hiV, leV]
  · simp [hiV, leV]; omega
  · simp [hiV, leV]; omega
theorem byte_at {l : List Int} (h : ∀ x ∈ l, 0 ≤ x ∧ x ≤ 255) (i : Nat) : 0 ≤ l.getD i 0 ∧ l.getD i 0 ≤ 255 := by
  by_cases hi : i < l.length
  · rw [getD_lt hi]; exact h _ (List.getElem_mem hi)
  · rw [List.getD, List.getElem?_eq_none (by omega)]; simp
theorem leV_bd {l : List Int} (h : ∀ x ∈ l, 0 ≤ x ∧ x ≤ 255) (a n : Nat) : 0 ≤ leV l a n ∧ leV l a n < 256 ^ n := by
  induction n with
  | zero => simp [leV]
  | succ n ih =>
    have hb := byte_at h (a + n)
    rw [leV, Int.pow_succ]
    have hp : (0 : Int) < 256 ^ n := Int.pow_pos (by decide)
    have h1 : 0 ≤ l.getD (a + n) 0 * 256 ^ n := Int.mul_nonneg hb.1 (by omega)
    have h2 : l.getD (a + n) 0 * 256 ^ n ≤ 255 * 256 ^ n := Int.mul_le_mul_of_nonneg_right hb.2 (by omega)
    omega
theorem hiV_bd {l : List Int} (h : ∀ x ∈ l, 0 ≤ x ∧ x ≤ 255) (a n t : Nat) : 0 ≤ hiV l a n t ∧ hiV l a n t < 256 ^ t := by
  induction t with
  | zero => simp [hiV]
  | succ t ih =>
    have hb := byte_at h (a + (n - 1 - t))
    rw [hiV, Int.pow_succ]
    omega
/-- what GetNum answers. -/
def getB (l : List Int) (a k : Int) : Bool := memB l && fitB l.length a k
def getW (l : List Int) (a k : Int) : Int := if getB l a k = true then leV l a.toNat (bytesW k).toNat else 0
theorem getW_no {l : List Int} {a k : Int} (h : getB l a k = false) : getW l a k = 0 := by unfold getW; rw [h]; rfl
/-- what is known where a number fits. -/
theorem getB_yes {l : List Int} {a k : Int} (h : getB l a k = true) : ∃ A n : Nat, a = A ∧ bytesW k = n ∧ (n = 1 ∨ n = 2 ∨ n = 4) ∧ A + n ≤ l.length ∧ l.length ≤ 512 ∧ (∀ x ∈ l, 0 ≤ x ∧ x ≤ 255) ∧ getW l a k = leV l A n := by
  have h' := h
  unfold getB at h
  rw [Bool.and_eq_true, memB_iff, fitB_iff] at h
  obtain ⟨⟨h1, h2⟩, h3, h4, _, h5⟩ := h
  obtain ⟨A, rfl⟩ := Int.eq_ofNat_of_zero_le h4
  refine ⟨A, (bytesW k).toNat, rfl, by omega, ?_, by omega, h1, h2, ?_⟩
  · rcases bytesW_cases k with e | ⟨_, e⟩ | ⟨_, e⟩ | ⟨_, e⟩ <;> omega
  · unfold getW; rw [if_pos h', Int.toNat_natCast]
theorem orV (x y : Int) (m : Nat) (h0 : 0 ≤ x) (h1 : x < 2 ^ m) (h2 : 0 ≤ y) (hm : m ≤ 24) (h3 : y ≤ 255) : bits .or .i64 x (y * 2 ^ m) = x + y * 2 ^ m := by
  have hp : (0 : Int) < 2 ^ m := Int.pow_pos (by decide)
  have hp2 : (2 : Int) ^ m ≤ 16777216 := by
    have : (2 : Nat) ^ m ≤ 2 ^ 24 := Nat.pow_le_pow_right (by decide) hm
    have h : ((2 ^ m : Nat) : Int) ≤ ((2 ^ 24 : Nat) : Int) := by omega
    simpa using h
  have h4 : 0 ≤ y * 2 ^ m := Int.mul_nonneg h2 (by omega)
  have h5 : y * 2 ^ m ≤ 255 * 16777216 := Int.mul_le_mul h3 hp2 (by omega) (by omega)
  have hc : bits .or .i64 x (y * 2 ^ m) = bits .or .i64 (y * 2 ^ m) x := by simp [bits, BitVec.or_comm]
  rw [hc, bits_join .i64 63 (by decide) (fun n h0 h1 => by rw [IntKind.wrap_i64]; omega) m _ _ (by omega) (by simp) (by omega) h0 h1 (by omega)]
  omega

set_option maxRecDepth 100000 in
theorem implGet (v : Value) (l : List Int) (hl : l.length ≤ 2000000) (a k : Int) (w : World) (hv : RdI v l w) :
    Calls Try.prog 77 #[v, .int .i64 a, .int .i64 k] w fun e w' => e = .returned (.tuple #[.int .i64 (getW l a k), .bool (getB l a k)]) ∧ w = w' := by
  have Hv := Lib.hid hv
  obtain ⟨ad, cap, rfl, h1⟩ := hv
  have HG := Lib.hid (show getB l a k = (memB l && fitB l.length a k) from rfl)
  cases hg : getB l a k with
  | false =>
    have Hn := Lib.hid (getW_no hg)
    clear h1
    obtain ⟨n, hln⟩ : ∃ n, l.length = n := ⟨_, rfl⟩
    rw [hln] at hl Hv HG ⊢
    obtain ⟨M, hM⟩ : ∃ M, memB l = M := ⟨_, rfl⟩
    obtain ⟨F, hF⟩ : ∃ F, fitB n a k = F := ⟨_, rfl⟩
    have HM := Lib.hid hM
    have HF := Lib.hid hF
    have HL := Lib.hid hln
    have hmf : (M && F) = false := by rw [← hM, ← hF, ← HG.out, hg]
    clear hM hF hln hg HG
    cases M
    · go_enter Try.func77, Try.ntmps77
      go_wp2_with (go_at_call 44; refine (implMemOk _ l (by rw [HL.out]; exact hl) _ Hv.out).mono ?_; rintro e w' ⟨rfl, rfl⟩; rw [HM.out])
      go_ret2
      exact ⟨by rw [Hn.out]; rfl, rfl⟩
    · cases F
      · go_enter Try.func77, Try.ntmps77
        go_wp2_with (first
          | (go_at_call 44; refine (implMemOk _ l (by rw [HL.out]; exact hl) _ Hv.out).mono ?_; rintro e w' ⟨rfl, rfl⟩; rw [HM.out])
          | (go_at_call 81; refine (implFits _ _ _ hl _ _ _).mono ?_; rintro e w' ⟨rfl, rfl⟩; rw [HF.out]))
        go_ret2
        exact ⟨by rw [Hn.out]; rfl, rfl⟩
      · cases hmf
  | true =>
    obtain ⟨A, m, rfl, hm, hm3, hfit, h512, hby, hgw⟩ := getB_yes hg
    rw [hgw]
    have hMF : memB l = true ∧ fitB l.length A k = true := by rw [HG.out, Bool.and_eq_true] at hg; exact hg
    have HM := Lib.hid hMF.1
    have HF := Lib.hid hMF.2
    have Hm := Lib.hid hm
    have Hby := Lib.hid hby
    have H1 := Lib.hid h1
    obtain ⟨n, hln⟩ : ∃ n, l.length = n := ⟨_, rfl⟩
    have HL := Lib.hid hln
    rw [hln] at hl Hv HF H1 hfit h512 ⊢
    clear hgw hMF hm hby h1 hln hg HG
    have hm4 : m ≤ 4 := by omega
    go_enter Try.func77, Try.ntmps77
    go_wp2_with (first
      | (go_at_call 44; refine (implMemOk _ l (by rw [HL.out]; exact hl) _ Hv.out).mono ?_; rintro e w' ⟨rfl, rfl⟩; rw [HM.out])
      | (go_at_call 81; refine (implFits _ _ _ hl _ _ _).mono ?_; rintro e w' ⟨rfl, rfl⟩; rw [HF.out])
      | (go_at_call 82; refine (implBytes _ _).mono ?_; rintro e w' ⟨rfl, rfl⟩; rw [Hm.out]))
    go_loop [8, 22] (fun v i => ∃ j : Nat, j ≤ m ∧ i = .int .i64 j ∧ v = .int .i64 (leV l A j)) (fun _ i => m - (intOf i).toNat)
    case atStart => exact ⟨0, by omega, rfl, rfl⟩
    case round =>
      obtain ⟨j, hj, rfl, rfl⟩ := hrel
      by_cases hlt : j < m
      · obtain ⟨b, o, rfl, hb1, hc1⟩ := H1.out (A + j) (by omega)
        have hlv := leV_bd Hby.out A j
        have hx := byte_at Hby.out (A + j)
        have Hs := Lib.hid (show leV l A (j + 1) = leV l A j + l.getD (A + j) 0 * 256 ^ j from rfl)
        generalize l.getD (A + j) 0 = x at hc1 Hs hx
        generalize leV l A j = y at Hs hlv ⊢
        obtain ⟨hx0, hx1⟩ := hx
        obtain ⟨hy0, hy1⟩ := hlv
        have hj4 : j = 0 ∨ j = 1 ∨ j = 2 ∨ j = 3 := by omega
        clear hb1
        rcases hj4 with rfl | rfl | rfl | rfl
        · have ho := Lib.hid (orV y x 0 hy0 (by simpa using hy1) hx0 (by omega) hx1)
          clear hy1
          rw [Nat.add_zero] at hc1
          go_wp2
          go_round
          case rel => exact ⟨1, by omega, by go_num, by rw [Hs.out]; exact congrArg _ (by simpa using ho.out)⟩
          case measure => simp [intOf]; omega
        · have ho := Lib.hid (orV y x 8 hy0 (by simpa using hy1) hx0 (by omega) hx1)
          clear hy1
          go_wp2
          go_round
          case rel => exact ⟨2, by omega, by go_num, by rw [Hs.out]; exact congrArg _ ho.out⟩
          case measure => simp [intOf]; omega
        · have ho := Lib.hid (orV y x 16 hy0 (by simpa using hy1) hx0 (by omega) hx1)
          clear hy1
          go_wp2
          go_round
          case rel => exact ⟨3, by omega, by go_num, by rw [Hs.out]; exact congrArg _ ho.out⟩
          case measure => simp [intOf]; omega
        · have ho := Lib.hid (orV y x 24 hy0 (by simpa using hy1) hx0 (by omega) hx1)
          clear hy1
          go_wp2
          go_round
          case rel => exact ⟨4, by omega, by go_num, by rw [Hs.out]; exact congrArg _ ho.out⟩
          case measure => simp [intOf]; omega
      · obtain rfl : j = m := by omega
        go_wp2
        go_ret2
        exact ⟨rfl, rfl⟩

set_option maxRecDepth 100000 in
theorem specGet (v : Value) (l : List Int) (hl : l.length ≤ 2000000) (a k : Int) (w : World) (hv : RdI v l w) :
    Calls Try.prog 40 #[v, .int .i64 a, .int .i64 k] w fun e w' => e = .returned (.tuple #[.int .i64 (getW l a k), .bool (getB l a k)]) ∧ w = w' := by
  have Hv := Lib.hid hv
  have HL := Lib.hid hl
  obtain ⟨ad, cap, rfl, h1⟩ := hv
  have HG := Lib.hid (show (memB l && fitB l.length a k) = getB l a k from rfl)
  obtain ⟨n, hln⟩ : ∃ n, l.length = n := ⟨_, rfl⟩
  cases hg : getB l a k with
  | false =>
    have Hn := Lib.hid (getW_no hg)
    have Hg := Lib.hid hg
    rw [hln] at Hv ⊢
    have HN := Lib.hid hln
    clear h1 hg hln hl
    go_enter Try.func40, Try.ntmps40
    go_wp2_with fail
    refine (specFits _ l HL.out _ _ _ Hv.out).mono ?_
    rintro e w' ⟨rfl, rfl⟩
    rw [HG.out, Hg.out]
    go_wp2
    go_ret2
    exact ⟨by rw [Hn.out]; rfl, rfl⟩
  | true =>
    obtain ⟨A, m, rfl, hm, hm3, hfit, h512, hby, hgw⟩ := getB_yes hg
    rw [hgw]
    have Hg := Lib.hid hg
    have Hm := Lib.hid hm
    have Hby := Lib.hid hby
    have H1 := Lib.hid h1
    have HN := Lib.hid hln
    rw [hln] at hl Hv H1 hfit h512 ⊢
    clear hgw hm hby h1 hln hg
    have hm4 : m ≤ 4 := by omega
    go_enter Try.func40, Try.ntmps40
    go_wp2_with fail
    refine (specFits _ l HL.out _ _ _ Hv.out).mono ?_
    rintro e w' ⟨rfl, rfl⟩
    rw [HG.out, Hg.out]
    go_wp2_with fail
    refine (specBytes _ _).mono ?_
    rintro e w' ⟨rfl, rfl⟩
    rw [Hm.out]
    go_wp2_with fail
    go_loop [8, 9] (fun v i => ∃ j : Nat, j ≤ m ∧ i = .int .i64 ((m : Int) - 1 - j) ∧ v = .int .i64 (hiV l A m j)) (fun _ i => (intOf i + 1).toNat)
    case atStart => exact ⟨0, by omega, by simp, rfl⟩
    case round =>
      obtain ⟨j, hj, rfl, rfl⟩ := hrel
      by_cases hlt : j < m
      · obtain ⟨b, o, rfl, hb1, hc1⟩ := H1.out (A + (m - 1 - j)) (by omega)
        have hlv := hiV_bd Hby.out A m j
        have hx := byte_at Hby.out (A + (m - 1 - j))
        have Hs := Lib.hid (show hiV l A m (j + 1) = hiV l A m j * 256 + l.getD (A + (m - 1 - j)) 0 from rfl)
        generalize l.getD (A + (m - 1 - j)) 0 = x at hc1 Hs hx
        generalize hiV l A m j = y at Hs hlv ⊢
        obtain ⟨p, hp⟩ : ∃ p, m - 1 - j = p := ⟨_, rfl⟩
        rw [hp] at hc1
        have e1 : (m : Int) - 1 - j = p := by omega
        rw [e1]
        have hj4 : j = 0 ∨ j = 1 ∨ j = 2 ∨ j = 3 := by omega
        have hy1 : y < 16777216 := by
          have h := hlv.2
          rcases hj4 with rfl | rfl | rfl | rfl <;> simp at h <;> omega
        have hy0 := hlv.1
        have He := Lib.hid (show (m : Int) - 1 - ((j + 1 : Nat) : Int) = p - 1 by omega)
        have hpm : p < m := by omega
        clear hb1 hlv hj4 e1 hp
        go_wp2
        go_round
        case rel => exact ⟨j + 1, by omega, by rw [He.out], by rw [Hs.out]⟩
        case measure => simp [intOf]
      · obtain rfl : j = m := by omega
        have Hh := Lib.hid (hiV_leV l A j hm3)
        have hneg : (j : Int) - 1 - j = -1 := by omega
        rw [hneg]
        clear hneg
        go_wp2
        go_ret2
        exact ⟨by rw [← Hh.out]; rfl, rfl⟩
end Go.Proofs.Ytbhmfjblmcppbaa.Num
