
/-
  Chapter 4's small functions: limits, whether a memory is one, whether a number fits; for the program and for its model.
-/
import Derived.Test.YtbhmfjblmcppbaaSig
import Derived.Test.YtbhmfjblmcppbaaIntRow
import Derived.Test.YtbhmfjblmcppbaaBurst
namespace Go.Proofs.Ytbhmfjblmcppbaa.Num
open Go.RowKit Rows3

/-- how many numbers a size has. -/
def limW (k : Int) : Int := if k = 0 then 256 else if k = 1 then 65536 else if k = 2 then 4294967296 else 0
theorem limW_no {k : Int} (h : k < 0 ∨ 2 < k) : limW k = 0 := by unfold limW; rw [if_neg (by omega), if_neg (by omega), if_neg (by omega)]
theorem bytesW_no {k : Int} (h : k < 0 ∨ 2 < k) : bytesW k = 0 := by unfold bytesW; rw [if_neg (by omega), if_neg (by omega), if_neg (by omega)]
theorem implLimit (k : Int) (w : World) :
    Calls Try.prog 80 #[.int .i64 k] w fun e w' => e = .returned (.int .i64 (limW k)) ∧ w = w' := by
  by_cases h : k < 0 ∨ 2 < k
  · have Hl := Lib.hid (limW_no h)
    have Hb := Lib.hid (bytesW_no h)
    go_enter Try.func80, Try.ntmps80
    go_wp2_with (go_at_call 82; refine (implBytes _ _).mono ?_; rintro e w' ⟨rfl, rfl⟩; rw [Hb.out])
    go_ret
    exact ⟨by rw [Hl.out]; rfl, rfl⟩
  · have hk : k = 0 ∨ k = 1 ∨ k = 2 := by omega
    clear h
    rcases hk with rfl | rfl | rfl
    all_goals
      go_enter Try.func80, Try.ntmps80
      go_wp2_with (go_at_call 82; refine (implBytes _ _).mono ?_; rintro e w' ⟨rfl, rfl⟩; simp only [show bytesW 0 = 1 from rfl, show bytesW 1 = 2 from rfl, show bytesW 2 = 4 from rfl])
      go_ret
      exact ⟨rfl, rfl⟩
theorem specLimit (k : Int) (w : World) :
    Calls Try.prog 38 #[.int .i64 k] w fun e w' => e = .returned (.int .i64 (limW k)) ∧ w = w' := by
  by_cases h : k < 0 ∨ 2 < k
  · have Hl := Lib.hid (limW_no h)
    have Hb := Lib.hid (bytesW_no h)
    go_enter Try.func38, Try.ntmps38
    go_wp2_with (go_at_call 70; refine (specBytes _ _).mono ?_; rintro e w' ⟨rfl, rfl⟩; rw [Hb.out])
    go_ret
    exact ⟨by rw [Hl.out]; rfl, rfl⟩
  · have hk : k = 0 ∨ k = 1 ∨ k = 2 := by omega
    clear h
    rcases hk with rfl | rfl | rfl
    all_goals
      go_enter Try.func38, Try.ntmps38
      go_wp2_with (go_at_call 70; refine (specBytes _ _).mono ?_; rintro e w' ⟨rfl, rfl⟩; simp only [show bytesW 0 = 1 from rfl, show bytesW 1 = 2 from rfl, show bytesW 2 = 4 from rfl])
      go_ret
      exact ⟨rfl, rfl⟩

theorem limW_cases (k : Int) : (bytesW k = 0 ∧ limW k = 0) ∨ (k = 0 ∧ bytesW k = 1 ∧ limW k = 256) ∨ (k = 1 ∧ bytesW k = 2 ∧ limW k = 65536) ∨ (k = 2 ∧ bytesW k = 4 ∧ limW k = 4294967296) := by
  by_cases h : k < 0 ∨ 2 < k
  · exact .inl ⟨bytesW_no h, limW_no h⟩
  · have hk : k = 0 ∨ k = 1 ∨ k = 2 := by omega
    rcases hk with rfl | rfl | rfl
    · exact .inr (.inl ⟨rfl, rfl, rfl⟩)
    · exact .inr (.inr (.inl ⟨rfl, rfl, rfl⟩))
    · exact .inr (.inr (.inr ⟨rfl, rfl, rfl⟩))
theorem limW_bd (k : Int) : 0 ≤ limW k ∧ limW k ≤ 4294967296 := by rcases limW_cases k with ⟨_, h⟩ | ⟨_, _, h⟩ | ⟨_, _, h⟩ | ⟨_, _, h⟩ <;> omega
theorem bytesW_bd (k : Int) : 0 ≤ bytesW k ∧ bytesW k ≤ 4 := by rcases limW_cases k with ⟨h, _⟩ | ⟨_, h, _⟩ | ⟨_, h, _⟩ | ⟨_, h, _⟩ <;> omega

/-- is v a number of a size. -/
def inLB (v k : Int) : Bool := decide (0 ≤ v) && decide (v < limW k)
theorem inLB_iff (v k : Int) : inLB v k = true ↔ 0 ≤ v ∧ v < limW k := by unfold inLB; simp [Bool.and_eq_true]
theorem inLB_no (v k : Int) (h : ¬ (0 ≤ v ∧ v < limW k)) : inLB v k = false := by rw [← Bool.not_eq_true, inLB_iff]; exact h
theorem implIn (v k : Int) (w : World) :
    Calls Try.prog 72 #[.int .i64 v, .int .i64 k] w fun e w' => e = .returned (.bool (inLB v k)) ∧ w = w' := by
  have hb := limW_bd k
  obtain ⟨m, hm⟩ : ∃ m, limW k = m := ⟨_, rfl⟩
  have He : Hid (inLB v k = (decide (0 ≤ v) && decide (v < m))) := by rw [← hm]; exact Lib.hid rfl
  rw [hm] at hb
  have Hm := Lib.hid hm
  clear hm
  by_cases h0 : 0 ≤ v
  · by_cases h1 : v < m
    · go_enter Try.func72, Try.ntmps72
      go_wp2_with (go_at_call 80; refine (implLimit _ _).mono ?_; rintro e w' ⟨rfl, rfl⟩; rw [Hm.out])
      go_ret
      exact ⟨by rw [He.out]; simp [*], rfl⟩
    · go_enter Try.func72, Try.ntmps72
      go_wp2_with (go_at_call 80; refine (implLimit _ _).mono ?_; rintro e w' ⟨rfl, rfl⟩; rw [Hm.out])
      go_ret
      exact ⟨by rw [He.out]; simp [*], rfl⟩
  · go_enter Try.func72, Try.ntmps72
    go_wp2_with (go_at_call 80; refine (implLimit _ _).mono ?_; rintro e w' ⟨rfl, rfl⟩; rw [Hm.out])
    go_ret
    exact ⟨by rw [He.out]; simp; omega, rfl⟩
/-- the model's own way: from 0 to one below the limit. -/
theorem specIn (v k m : Int) (hm : m = limW k - 1) (w : World) :
    Calls Try.prog 37 #[.int .i64 v, .int .i64 0, .int .i64 m] w fun e w' => e = .returned (.bool (inLB v k)) ∧ w = w' := by
  by_cases h : 0 ≤ v ∧ v < limW k
  · rw [(inLB_iff v k).2 h]
    exact sl1In_yes _ _ _ h.1 (by omega) _
  · rw [inLB_no v k h]
    exact sl1In_no _ _ _ (by omega) _

/-- is it a memory: at most 512 numbers, each one a byte's. -/
def okTo (l : List Int) (k : Nat) : Bool := (l.take k).all fun x => decide (0 ≤ x) && decide (x ≤ 255)
def memB (l : List Int) : Bool := decide (l.length ≤ 512) && okTo l l.length
theorem okTo_succ {l : List Int} {k : Nat} (h : k < l.length) : okTo l (k + 1) = (okTo l k && (decide (0 ≤ l.getD k 0) && decide (l.getD k 0 ≤ 255))) := by
  unfold okTo
  rw [List.take_succ_eq_append_getElem h, List.all_append, getD_lt h]
  simp only [List.all_cons, List.all_nil, Bool.and_true]
theorem okTo_iff (l : List Int) : okTo l l.length = true ↔ ∀ x ∈ l, 0 ≤ x ∧ x ≤ 255 := by
  unfold okTo; rw [List.take_length, List.all_eq_true]; simp
theorem memB_iff (l : List Int) : memB l = true ↔ l.length ≤ 512 ∧ ∀ x ∈ l, 0 ≤ x ∧ x ≤ 255 := by
  unfold memB; rw [Bool.and_eq_true, okTo_iff]; simp
theorem okTo_bad {l : List Int} {k : Nat} (h : k < l.length) (hx : l.getD k 0 < 0 ∨ 255 < l.getD k 0) : okTo l l.length = false := by
  rw [← Bool.not_eq_true, okTo_iff]
  intro ha
  have := ha (l.getD k 0) (by rw [getD_lt h]; exact List.getElem_mem h)
  omega
theorem memB_long {l : List Int} (h : 512 < l.length) : memB l = false := by
  have : ¬ l.length ≤ 512 := by omega
  simp [memB, this]
theorem memB_bad {l : List Int} {k : Nat} (h : k < l.length) (hx : l.getD k 0 < 0 ∨ 255 < l.getD k 0) : memB l = false := by simp [memB, okTo_bad h hx]

set_option maxRecDepth 100000 in
theorem implMemOk (v : Value) (l : List Int) (hl : l.length ≤ 2000000) (w : World) (hv : RdI v l w) :
    Calls Try.prog 44 #[v] w fun e w' => e = .returned (.bool (memB l)) ∧ w = w' := by
  obtain ⟨ad, cap, rfl, h1⟩ := hv
  obtain ⟨n, hln⟩ : ∃ n, l.length = n := ⟨_, rfl⟩
  rw [hln] at h1 hl ⊢
  have H1 := Lib.hid h1
  have HL := Lib.hid hln
  clear h1 hln
  by_cases h5 : 512 < n
  · have Hf := Lib.hid (memB_long (l := l) (by rw [HL.out]; exact h5))
    go_enter Try.func44, Try.ntmps44
    go_wp2
    go_ret
    exact ⟨by rw [Hf.out]; rfl, rfl⟩
  · obtain ⟨R, hR⟩ : ∃ R, memB l = R := ⟨_, rfl⟩
    rw [hR]
    have HR := Lib.hid hR
    clear hR
    go_enter Try.func44, Try.ntmps44
    go_wp2
    go_loop [10] (fun i => ∃ k : Nat, k ≤ n ∧ i = .int .i64 k ∧ okTo l k = true) (fun i => n - (intOf i).toNat)
    case atStart => exact ⟨0, by omega, rfl, rfl⟩
    case round =>
      obtain ⟨k, hk, rfl, hok⟩ := hrel
      have Hok := Lib.hid hok
      clear hok
      by_cases hlt : k < n
      · obtain ⟨b, o, rfl, hb1, hc1⟩ := H1.out k hlt
        have Hs := Lib.hid (okTo_succ (l := l) (k := k) (by rw [HL.out]; exact hlt))
        have Hbad := Lib.hid (fun hx => memB_bad (l := l) (k := k) (by rw [HL.out]; exact hlt) hx)
        generalize l.getD k 0 = y at hc1 Hs Hbad
        by_cases hy : y < 0 ∨ 255 < y
        · have Hm := Lib.hid (Hbad.out hy)
          by_cases hy0 : y < 0
          · go_wp2
            go_ret
            exact ⟨by rw [← HR.out, Hm.out]; rfl, rfl⟩
          · go_wp2
            go_ret
            exact ⟨by rw [← HR.out, Hm.out]; rfl, rfl⟩
        · have hy0 : 0 ≤ y := by omega
          have hy1 : y ≤ 255 := by omega
          clear hy
          go_wp2
          go_round
          case rel => exact ⟨k + 1, by omega, by go_num, by rw [Hs.out, Hok.out]; simp [hy0, hy1]⟩
          case measure => simp [intOf]; omega
      · obtain rfl : k = n := by omega
        go_wp2
        go_ret
        refine ⟨?_, rfl⟩
        rw [← HR.out]
        have hk5 : k ≤ 512 := by omega
        have e : memB l = true := by unfold memB; rw [HL.out, Hok.out]; simp [hk5]
        rw [e]; rfl

set_option maxRecDepth 100000 in
theorem specBytesOk (v : Value) (l : List Int) (hl : l.length ≤ 2000000) (w : World) (hv : RdI v l w) :
    Calls Try.prog 56 #[v] w fun e w' => e = .returned (.bool (memB l)) ∧ w = w' := by
  obtain ⟨ad, cap, rfl, h1⟩ := hv
  obtain ⟨n, hln⟩ : ∃ n, l.length = n := ⟨_, rfl⟩
  rw [hln] at h1 hl ⊢
  have H1 := Lib.hid h1
  have HL := Lib.hid hln
  clear h1 hln
  obtain ⟨R, hR⟩ : ∃ R, memB l = R := ⟨_, rfl⟩
  rw [hR]
  have HR := Lib.hid hR
  clear hR
  go_enter Try.func56, Try.ntmps56
  go_wp2
  go_loop [3] (fun i => ∃ k : Nat, k ≤ n ∧ i = .int .i64 k ∧ okTo l k = true) (fun i => n - (intOf i).toNat)
  case atStart => exact ⟨0, by omega, rfl, rfl⟩
  case round =>
    obtain ⟨k, hk, rfl, hok⟩ := hrel
    have Hok := Lib.hid hok
    clear hok
    by_cases hlt : k < n
    · obtain ⟨b, o, rfl, hb1, hc1⟩ := H1.out k hlt
      have Hs := Lib.hid (okTo_succ (l := l) (k := k) (by rw [HL.out]; exact hlt))
      have Hbad := Lib.hid (fun hx => memB_bad (l := l) (k := k) (by rw [HL.out]; exact hlt) hx)
      generalize l.getD k 0 = y at hc1 Hs Hbad
      by_cases hy : y < 0 ∨ 255 < y
      · have Hm := Lib.hid (Hbad.out hy)
        go_wp2_with (go_at_call 37; refine (sl1In_no _ _ _ hy _).mono ?_; rintro e w' ⟨rfl, rfl⟩)
        go_ret
        exact ⟨by rw [← HR.out, Hm.out]; rfl, rfl⟩
      · have hy0 : 0 ≤ y := by omega
        have hy1 : y ≤ 255 := by omega
        clear hy
        go_wp2_with (go_at_call 37; refine (sl1In_yes _ _ _ hy0 hy1 _).mono ?_; rintro e w' ⟨rfl, rfl⟩)
        go_round
        case rel => exact ⟨k + 1, by omega, by go_num, by rw [Hs.out, Hok.out]; simp [hy0, hy1]⟩
        case measure => simp [intOf]; omega
    · obtain rfl : k = n := by omega
      go_wp2
      go_ret
      refine ⟨?_, rfl⟩
      rw [← HR.out]
      unfold memB; rw [HL.out, Hok.out]
      simp; omega

/-- does a number of a size fit at a place of a row of n. -/
def fitB (n : Nat) (a k : Int) : Bool := alB a k && decide (a ≤ n - bytesW k)
theorem fitB_iff (n : Nat) (a k : Int) : fitB n a k = true ↔ 0 < bytesW k ∧ 0 ≤ a ∧ a % bytesW k = 0 ∧ a + bytesW k ≤ n := by
  unfold fitB; rw [Bool.and_eq_true, alB_iff]; simp; omega
theorem implFits (ad : Option Addr) (n cap : Nat) (hn : n ≤ 2000000) (a k : Int) (w : World) :
    Calls Try.prog 81 #[.slice ad n cap, .int .i64 a, .int .i64 k] w fun e w' => e = .returned (.bool (fitB n a k)) ∧ w = w' := by
  have hbd := bytesW_bd k
  have He := Lib.hid (show fitB n a k = (alB a k && decide (a ≤ n - bytesW k)) from rfl)
  generalize fitB n a k = F at He ⊢
  generalize hm : bytesW k = m at hbd He
  have Hm := Lib.hid hm
  generalize hal : alB a k = A at He
  have Ha := Lib.hid hal
  clear hm hal
  cases A
  · go_enter Try.func81, Try.ntmps81
    go_wp2_with (go_at_call 84; refine (implAligned _ _ _).mono ?_; rintro e w' ⟨rfl, rfl⟩; rw [Ha.out])
    go_ret
    exact ⟨by rw [He.out]; rfl, rfl⟩
  · go_enter Try.func81, Try.ntmps81
    go_wp2_with (first
      | (go_at_call 84; refine (implAligned _ _ _).mono ?_; rintro e w' ⟨rfl, rfl⟩; rw [Ha.out])
      | (go_at_call 82; refine (implBytes _ _).mono ?_; rintro e w' ⟨rfl, rfl⟩; rw [Hm.out]))
    go_ret
    exact ⟨by rw [He.out]; rfl, rfl⟩
theorem specFits (v : Value) (l : List Int) (hl : l.length ≤ 2000000) (a k : Int) (w : World) (hv : RdI v l w) :
    Calls Try.prog 71 #[v, .int .i64 a, .int .i64 k] w fun e w' => e = .returned (.bool (memB l && fitB l.length a k)) ∧ w = w' := by
  have Hv := Lib.hid hv
  obtain ⟨ad, cap, rfl, h1⟩ := hv
  clear h1
  obtain ⟨n, hln⟩ : ∃ n, l.length = n := ⟨_, rfl⟩
  have hbd := bytesW_bd k
  have He := Lib.hid (show fitB n a k = (alB a k && decide (a ≤ n - bytesW k)) from rfl)
  rw [hln] at hl Hv ⊢
  generalize fitB n a k = F at He ⊢
  generalize hm : bytesW k = m at hbd He
  have Hm := Lib.hid hm
  generalize hal : alB a k = A at He
  have Ha := Lib.hid hal
  have HL := Lib.hid hln
  generalize hM : memB l = M
  have HM := Lib.hid hM
  clear hm hal hln hM
  cases M
  · go_enter Try.func71, Try.ntmps71
    go_wp2_with (go_at_call 56; refine (specBytesOk _ l (by rw [HL.out]; exact hl) _ Hv.out).mono ?_; rintro e w' ⟨rfl, rfl⟩; rw [HM.out])
    go_ret
    exact ⟨rfl, rfl⟩
  · cases A
    · go_enter Try.func71, Try.ntmps71
      go_wp2_with (first
        | (go_at_call 56; refine (specBytesOk _ l (by rw [HL.out]; exact hl) _ Hv.out).mono ?_; rintro e w' ⟨rfl, rfl⟩; rw [HM.out])
        | (go_at_call 36; refine (specAligned _ _ _).mono ?_; rintro e w' ⟨rfl, rfl⟩; rw [Ha.out]))
      go_ret
      exact ⟨by rw [He.out]; rfl, rfl⟩
    · go_enter Try.func71, Try.ntmps71
      go_wp2_with (first
        | (go_at_call 56; refine (specBytesOk _ l (by rw [HL.out]; exact hl) _ Hv.out).mono ?_; rintro e w' ⟨rfl, rfl⟩; rw [HM.out])
        | (go_at_call 36; refine (specAligned _ _ _).mono ?_; rintro e w' ⟨rfl, rfl⟩; rw [Ha.out])
        | (go_at_call 70; refine (specBytes _ _).mono ?_; rintro e w' ⟨rfl, rfl⟩; rw [Hm.out]))
      go_ret
      exact ⟨by rw [He.out]; rfl, rfl⟩
end Go.Proofs.Ytbhmfjblmcppbaa.Num
