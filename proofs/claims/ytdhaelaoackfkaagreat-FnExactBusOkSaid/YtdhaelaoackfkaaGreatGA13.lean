/-
  Several texts in one: Eq, Sig, Burst, Lane, Lane2.
-/
import Derived.Test.YtdhaelaoackfkaaGreatIntRow
import Derived.Test.YtdhaelaoackfkaaGreatRows
import Derived.WalkKit
import Derived.WalkSpells
import Derived.WalkLawsBesides
import Derived.Lib.Hide
import Derived.Below
import Derived.Outline
import Derived.Deep.RegionWith
namespace Go.Proofs.YtdhaelaoackfkaaGreat.Rows3
open Go.RowKit

set_option maxRecDepth 100000 in
theorem eqI_same (v u : Value) (l : List Int) (hl : l.length ≤ 2000000) (w : World) (hv : RdI v l w) (hu : RdI u l w) :
    Calls Tryz.prog 47 #[v, u] w fun e w' => e = .returned (.bool true) ∧ Below w.heap.size w w' := by
  obtain ⟨ad, cap, rfl, h1⟩ := hv
  obtain ⟨bd, cbp, rfl, h2⟩ := hu
  obtain ⟨n, hln⟩ : ∃ n, l.length = n := ⟨_, rfl⟩
  rw [hln] at h1 h2 hl ⊢
  have H1 := Lib.hid h1
  have H2 := Lib.hid h2
  clear h1 h2 hln
  have hne : (((n : Nat) : Int) != ((n : Nat) : Int)) = false := by simp
  go_enter Tryz.func47, Tryz.ntmps47
  go_wp2
  go_loopw [5] (fun i wr => ∃ k : Nat, k ≤ n ∧ i = .int .i64 k ∧ Below w.heap.size w wr) (fun i _ => n - (intOf i).toNat)
  case atStart => exact ⟨0, by omega, rfl, Below.refl _ _⟩
  case round =>
    obtain ⟨k, hk, rfl, hb⟩ := hrel
    by_cases hlt : k < n
    · obtain ⟨b, o, rfl, hb1, hc1⟩ := H1.out k hlt
      obtain ⟨b', o', rfl, hb2, hc2⟩ := H2.out k hlt
      rw [← hb.cell (p := ⟨b, o + k, none⟩) hb1] at hc1
      rw [← hb.cell (p := ⟨b', o' + k, none⟩) hb2] at hc2
      generalize l.getD k 0 = y at hc1 hc2
      have hyy : (y != y) = false := by simp
      go_wp2_with fail
      go_quiet (fail)
      go_wp2_with fail
      go_roundw
      case rel => exact ⟨k + 1, by omega, by go_num, ⟨hb.os, hb.tape, hb.output, hb.size, hb.block⟩⟩
      case measure => simp [intOf]; omega
    · go_wp2
      go_ret
      exact ⟨rfl, hb⟩

/-- the marks that markIntS writes from k on. -/
def marks (k : Int) (n : Nat) : List Int := (List.range n).map fun i : Nat => k + (i : Int)
theorem marks_succ (k : Int) (n : Nat) : marks k (n + 1) = marks k n ++ [k + (n : Int)] := by simp [marks, List.range_succ]
theorem marks_length (k : Int) (n : Nat) : (marks k n).length = n := by simp [marks]

theorem drop_eq {l : List Int} {j : Nat} (h : j < l.length) : l.drop j = l[j] :: l.drop (j + 1) := List.drop_eq_getElem_cons h
theorem marks_set (l : List Int) (k : Int) (j : Nat) (h : j < l.length) : (marks k j ++ l.drop j).set j (k + j) = marks k (j + 1) ++ l.drop (j + 1) := by
  rw [drop_eq h, marks_succ, List.append_assoc]
  have := List.set_append_right (s := marks k j) (t := l[j] :: l.drop (j + 1)) j (k + (j : Int)) (by rw [marks_length]; omega)
  rw [this, marks_length, Nat.sub_self]; rfl
theorem mid_length (l : List Int) (k : Int) (j : Nat) (h : j ≤ l.length) : (marks k j ++ l.drop j).length = l.length := by simp [marks_length]; omega

/-- a store into an own row. -/
theorem OwnI.set {B g n cap : Nat} {l : List Int} {w : World} (h : OwnI B (.slice (some ⟨g, 0, none⟩) n cap) l w) (i : Nat) (x : Int) :
    OwnI B (.slice (some ⟨g, 0, none⟩) n cap) (l.set i x) (w.setCell ⟨g, i, none⟩ (.int .i64 x)) := by
  obtain ⟨h1, h2⟩ := h
  rcases h2 with ⟨h2, _⟩ | ⟨g', cp, cur, e, hb, hg, hn, hm, hs, ht⟩
  · cases h2
  · cases e
    refine ⟨by simp [intCells], .inr ⟨g, cap, cur.set! i (.int .i64 x), by simp, hb, ?_, by simpa using hn, hm, by simpa using hs, ?_⟩⟩
    · have hlt := (Array.getElem?_eq_some_iff.1 hg).1
      simp [World.setCell, Array.getElem?_modify, hg]
    · simp only [List.length_set, Nat.mul_one] at ht ⊢
      rw [Array.set!_eq_setIfInBounds, Array.toList_setIfInBounds, List.take_set, ht]
      simp [intCells, List.map_set]
theorem OwnI.frozen {B g n cap : Nat} {l : List Int} {w : World} (h : OwnI B (.slice (some ⟨g, 0, none⟩) n cap) l w) (i : Nat) : w.frozen? ⟨g, i, none⟩ = false := by
  obtain ⟨h1, h2⟩ := h
  rcases h2 with ⟨h2, _⟩ | ⟨g', cp, cur, e, hb, hg, hn, hm, hs, ht⟩
  · cases h2
  · cases e
    simp [World.frozen?, hg]
theorem grown_set (w w' : World) (g i : Nat) (u : Value) (h : w.grownBy w' (some g)) : w.grownBy (w'.setCell ⟨g, i, none⟩ u) (some g) :=
  ⟨h.os, h.tape, h.output, by simpa [World.setCell] using h.size, fun k hk hne => by
    rw [Below.heap_setCell w' ⟨g, i, none⟩ u k (fun e => hne (by rw [e]))]; exact h.block k hk hne⟩
theorem grown_refl (w : World) (r : Option Nat) : w.grownBy w r := ⟨rfl, rfl, rfl, Nat.le_refl _, fun _ _ _ => rfl⟩

end Go.Proofs.YtdhaelaoackfkaaGreat.Rows3

namespace Go.Proofs.YtdhaelaoackfkaaGreat.Num
open Go.RowKit

/-- the word for a kind of address phase. -/
def kindW (k : Int) : ByteArray :=
  if k = 0 then ⟨#[105, 100, 108, 101]⟩ else if k = 2 then ⟨#[102, 105, 114, 115, 116]⟩ else if k = 3 then ⟨#[110, 101, 120, 116]⟩ else ⟨#[]⟩
/-- the word for a response. -/
def respW (k : Int) : ByteArray :=
  if k = 0 then ⟨#[111, 107, 97, 121]⟩ else if k = 1 then ⟨#[101, 114, 114, 111, 114]⟩ else if k = 2 then ⟨#[114, 101, 116, 114, 121]⟩
  else if k = 3 then ⟨#[115, 112, 108, 105, 116]⟩ else ⟨#[]⟩
/-- how many bytes a size has. -/
def bytesW (k : Int) : Int := if k = 0 then 1 else if k = 1 then 2 else if k = 2 then 4 else 0

theorem sl1In_yes (x lo hi : Int) (h1 : lo ≤ x) (h2 : x ≤ hi) (w : World) :
    Calls Tryz.prog 19 #[.int .i64 x, .int .i64 lo, .int .i64 hi] w fun e w' => e = .returned (.bool true) ∧ w = w' := by
  go_enter Tryz.func19, Tryz.ntmps19
  go_wp2
  go_ret
  exact ⟨by simp [*], rfl⟩
theorem sl1In_no (x lo hi : Int) (h : x < lo ∨ hi < x) (w : World) :
    Calls Tryz.prog 19 #[.int .i64 x, .int .i64 lo, .int .i64 hi] w fun e w' => e = .returned (.bool false) ∧ w = w' := by
  by_cases h0 : lo ≤ x
  · have h' : ¬ x ≤ hi := by omega
    go_enter Tryz.func19, Tryz.ntmps19
    go_wp2
    go_ret
    exact ⟨by simp [*], rfl⟩
  · have h0' : x < lo := by omega
    go_enter Tryz.func19, Tryz.ntmps19
    go_wp2
    go_ret
    exact ⟨rfl, rfl⟩
theorem specResp (k : Int) (w : World) :
    Calls Tryz.prog 60 #[.int .i64 k] w fun e w' => e = .returned (.string (respW k)) ∧ Below w.heap.size w w' := by
  by_cases h : k < 0 ∨ 3 < k
  · go_enter Tryz.func60, Tryz.ntmps60
    go_wp2_with (go_at_call 19; refine (sl1In_no _ _ _ (by omega) _).mono ?_; rintro e w' ⟨rfl, rfl⟩)
    go_ret
    refine ⟨?_, Below.refl _ _⟩
    unfold respW
    rw [if_neg (by omega), if_neg (by omega), if_neg (by omega), if_neg (by omega)]
    rfl
  · have hk : k = 0 ∨ k = 1 ∨ k = 2 ∨ k = 3 := by omega
    rcases hk with rfl | rfl | rfl | rfl
    all_goals
      go_enter Tryz.func60, Tryz.ntmps60
      go_wp2_with (go_at_call 19; refine (sl1In_yes _ _ _ (by omega) (by omega) _).mono ?_; rintro e w' ⟨rfl, rfl⟩)
      go_ret
      exact ⟨rfl, (Below.refl _ _).alloc (Nat.le_refl _) _⟩
theorem implBytes (k : Int) (w : World) :
    Calls Tryz.prog 115 #[.int .i64 k] w fun e w' => e = .returned (.int .i64 (bytesW k)) ∧ w = w' := by
  by_cases h : k < 0 ∨ 2 < k
  · have hb : bytesW k = 0 := by unfold bytesW; rw [if_neg (by omega), if_neg (by omega), if_neg (by omega)]
    go_enter Tryz.func115, Tryz.ntmps115
    go_wp2
    all_goals
      go_ret
      exact ⟨by first | rfl | (rw [hb]; rfl), rfl⟩
  · have hk : k = 0 ∨ k = 1 ∨ k = 2 := by omega
    clear h
    rcases hk with rfl | rfl | rfl
    all_goals
      go_enter Tryz.func115, Tryz.ntmps115
      go_wp2
      go_ret
      exact ⟨rfl, rfl⟩
theorem specBytes (k : Int) (w : World) :
    Calls Tryz.prog 92 #[.int .i64 k] w fun e w' => e = .returned (.int .i64 (bytesW k)) ∧ w = w' := by
  by_cases h : k < 0 ∨ 2 < k
  · have hb : bytesW k = 0 := by unfold bytesW; rw [if_neg (by omega), if_neg (by omega), if_neg (by omega)]
    go_enter Tryz.func92, Tryz.ntmps92
    go_wp2_with (go_at_call 19; refine (sl1In_no _ _ _ (by omega) _).mono ?_; rintro e w' ⟨rfl, rfl⟩)
    go_ret
    exact ⟨by first | rfl | (rw [hb]; rfl), rfl⟩
  · have hk : k = 0 ∨ k = 1 ∨ k = 2 := by omega
    clear h
    rcases hk with rfl | rfl | rfl
    all_goals
      go_enter Tryz.func92, Tryz.ntmps92
      go_wp2_with (go_at_call 19; refine (sl1In_yes _ _ _ (by omega) (by omega) _).mono ?_; rintro e w' ⟨rfl, rfl⟩)
      go_ret
      exact ⟨rfl, rfl⟩
/-- whether a transfer of a size may start at an address. -/
def alB (a k : Int) : Bool := decide (0 < bytesW k) && (decide (0 ≤ a) && (a % bytesW k == 0))
theorem alB_yes (a k : Int) (h1 : 0 < bytesW k) (h2 : 0 ≤ a) : alB a k = (a % bytesW k == 0) := by simp [alB, h1, h2]
theorem alB_neg (a k : Int) (h2 : a < 0) : alB a k = false := by
  have : ¬ 0 ≤ a := by omega
  simp [alB, this]
theorem alB_no (a k : Int) (h2 : bytesW k ≤ 0) : alB a k = false := by
  have : ¬ 0 < bytesW k := by omega
  simp [alB, this]
theorem implAligned (a k : Int) (w : World) :
    Calls Tryz.prog 102 #[.int .i64 a, .int .i64 k] w fun e w' => e = .returned (.bool (alB a k)) ∧ w = w' := by
  go_enter Tryz.func102, Tryz.ntmps102
  go_wp2_with (go_at_call 115; refine (implBytes _ _).mono ?_; rintro e w' ⟨rfl, rfl⟩)
  all_goals
    go_ret
    refine ⟨?_, rfl⟩
    first
      | (rw [alB_yes _ _ (by assumption) (by assumption)]; rfl)
      | (rw [alB_neg _ _ (by assumption)]; rfl)
      | (rw [alB_no _ _ (by assumption)]; rfl)
theorem specAligned (a k : Int) (w : World) :
    Calls Tryz.prog 61 #[.int .i64 a, .int .i64 k] w fun e w' => e = .returned (.bool (alB a k)) ∧ w = w' := by
  go_enter Tryz.func61, Tryz.ntmps61
  go_wp2_with (go_at_call 92; refine (specBytes _ _).mono ?_; rintro e w' ⟨rfl, rfl⟩)
  all_goals
    go_ret
    refine ⟨?_, rfl⟩
    first
      | (rw [alB_yes _ _ (by assumption) (by assumption)]; rfl)
      | (rw [alB_neg _ _ (by assumption)]; rfl)
      | (rw [alB_no _ _ (by assumption)]; rfl)
end Go.Proofs.YtdhaelaoackfkaaGreat.Num

namespace Go.Proofs.YtdhaelaoackfkaaGreat.Num
open Go.RowKit Rows3

/-- how many beats a burst has. -/
def beatsW (b : Int) : Int := if b = 0 then 1 else if b = 1 then 4 else if b = 2 then 4 else if b = 3 then 8 else 0
theorem beatsW_no {b : Int} (h : b < 0 ∨ 3 < b) : beatsW b = 0 := by
  unfold beatsW; rw [if_neg (by omega), if_neg (by omega), if_neg (by omega), if_neg (by omega)]
theorem beatsW_bd (b : Int) : 0 ≤ beatsW b ∧ beatsW b ≤ 8 := by unfold beatsW; repeat' split <;> omega
theorem implBeats (k : Int) (w : World) :
    Calls Tryz.prog 122 #[.int .i64 k] w fun e w' => e = .returned (.int .i64 (beatsW k)) ∧ w = w' := by
  by_cases h : k < 0 ∨ 3 < k
  · have Hb := Lib.hid (beatsW_no h)
    have h0 : (k == 0) = false := by rw [beq_eq_false_iff_ne]; omega
    have h1 : (k == 1) = false := by rw [beq_eq_false_iff_ne]; omega
    have h2 : (k == 2) = false := by rw [beq_eq_false_iff_ne]; omega
    have h3 : (k == 3) = false := by rw [beq_eq_false_iff_ne]; omega
    go_enter Tryz.func122, Tryz.ntmps122
    go_wp2
    go_ret
    exact ⟨by rw [Hb.out]; rfl, rfl⟩
  · have hk : k = 0 ∨ k = 1 ∨ k = 2 ∨ k = 3 := by omega
    clear h
    rcases hk with rfl | rfl | rfl | rfl
    all_goals
      go_enter Tryz.func122, Tryz.ntmps122
      go_wp2
      go_ret
      exact ⟨rfl, rfl⟩
theorem specBeats (k : Int) (w : World) :
    Calls Tryz.prog 108 #[.int .i64 k] w fun e w' => e = .returned (.int .i64 (beatsW k)) ∧ Below w.heap.size w w' := by
  by_cases h : k < 0 ∨ 3 < k
  · have Hb := Lib.hid (beatsW_no h)
    go_enter Tryz.func108, Tryz.ntmps108
    go_wp2_with (go_at_call 19; refine (sl1In_no _ _ _ (by omega) _).mono ?_; rintro e w' ⟨rfl, rfl⟩)
    go_ret
    exact ⟨by rw [Hb.out]; rfl, Below.refl _ _⟩
  · have hk : k = 0 ∨ k = 1 ∨ k = 2 ∨ k = 3 := by omega
    clear h
    rcases hk with rfl | rfl | rfl | rfl
    all_goals
      go_enter Tryz.func108, Tryz.ntmps108
      go_wp2_with (go_at_call 19; refine (sl1In_yes _ _ _ (by omega) (by omega) _).mono ?_; rintro e w' ⟨rfl, rfl⟩)
      go_ret
      exact ⟨rfl, (Below.refl _ _).alloc (Nat.le_refl _) _⟩

/-- where the next beat goes. -/
def nextW (a k b : Int) : Int :=
  if alB a k = true ∧ a < 512 ∧ beatsW b ≠ 0 then (if b = 2 ∧ (a + bytesW k) % (4 * bytesW k) = 0 then a + bytesW k - 4 * bytesW k else a + bytesW k) else -1
theorem nextW_al {a k b : Int} (h : alB a k = false) : nextW a k b = -1 := by unfold nextW; rw [if_neg]; simp [h]
theorem nextW_far {a k b : Int} (h : 512 ≤ a) : nextW a k b = -1 := by unfold nextW; rw [if_neg]; rintro ⟨_, h2, _⟩; omega
theorem nextW_no {a k b : Int} (h : beatsW b = 0) : nextW a k b = -1 := by unfold nextW; rw [if_neg]; rintro ⟨_, _, h3⟩; exact h3 h
theorem bytesW_cases (k : Int) : bytesW k = 0 ∨ (k = 0 ∧ bytesW k = 1) ∨ (k = 1 ∧ bytesW k = 2) ∨ (k = 2 ∧ bytesW k = 4) := by
  by_cases h0 : k = 0
  · exact .inr (.inl ⟨h0, by rw [h0]; rfl⟩)
  · by_cases h1 : k = 1
    · exact .inr (.inr (.inl ⟨h1, by rw [h1]; rfl⟩))
    · by_cases h2 : k = 2
      · exact .inr (.inr (.inr ⟨h2, by rw [h2]; rfl⟩))
      · exact .inl (by unfold bytesW; rw [if_neg h0, if_neg h1, if_neg h2])
theorem alB_iff (a k : Int) : alB a k = true ↔ 0 < bytesW k ∧ 0 ≤ a ∧ a % bytesW k = 0 := by
  unfold alB; simp [Bool.and_eq_true, beq_iff_eq]
theorem nextW_bd (a k b : Int) : nextW a k b = -1 ∨ (0 ≤ nextW a k b ∧ nextW a k b ≤ 515) := by
  unfold nextW
  split
  · rename_i h
    obtain ⟨h1, h2, h3⟩ := h
    obtain ⟨h4, h5, h6⟩ := (alB_iff a k).1 h1
    rcases bytesW_cases k with e | ⟨_, e⟩ | ⟨_, e⟩ | ⟨_, e⟩
    · omega
    all_goals
      rw [e] at h6 ⊢
      right
      split <;> omega
  · exact .inl rfl
theorem nextW_neg {a k b : Int} (h : a < 0) : nextW a k b = -1 := nextW_al (alB_neg a k h)

theorem implNext (a k b : Int) (w : World) :
    Calls Tryz.prog 127 #[.int .i64 a, .int .i64 k, .int .i64 b] w fun e w' => e = .returned (.int .i64 (nextW a k b)) ∧ w = w' := by
  cases hal : alB a k with
  | false =>
    have Hn := Lib.hid (nextW_al (b := b) hal)
    go_enter Tryz.func127, Tryz.ntmps127
    go_wp2_with (go_at_call 102; refine (implAligned _ _ _).mono ?_; rintro e w' ⟨rfl, rfl⟩)
    go_ret
    exact ⟨by rw [Hn.out]; rfl, rfl⟩
  | true =>
    by_cases hf : 512 ≤ a
    · have Hn := Lib.hid (nextW_far (k := k) (b := b) hf)
      go_enter Tryz.func127, Tryz.ntmps127
      go_wp2_with (go_at_call 102; refine (implAligned _ _ _).mono ?_; rintro e w' ⟨rfl, rfl⟩)
      go_ret
      exact ⟨by rw [Hn.out]; rfl, rfl⟩
    · by_cases hb : b < 0 ∨ 3 < b
      · have Hn := Lib.hid (nextW_no (a := a) (k := k) (beatsW_no hb))
        have hbw := beatsW_no hb
        go_enter Tryz.func127, Tryz.ntmps127
        go_wp2_with (first
          | (go_at_call 102; refine (implAligned _ _ _).mono ?_; rintro e w' ⟨rfl, rfl⟩)
          | (go_at_call 122; refine (implBeats _ _).mono ?_; rintro e w' ⟨rfl, rfl⟩))
        go_ret
        exact ⟨by rw [Hn.out]; rfl, rfl⟩
      · have hb' : b = 0 ∨ b = 1 ∨ b = 2 ∨ b = 3 := by omega
        clear hb
        obtain ⟨h4, h5, h6⟩ := (alB_iff a k).1 hal
        have h7 : a < 512 := by omega
        clear hf
        have hk : k = 0 ∨ k = 1 ∨ k = 2 := by rcases bytesW_cases k with e | ⟨e, _⟩ | ⟨e, _⟩ | ⟨e, _⟩ <;> omega
        have Hn := Lib.hid (show nextW a k b = if b = 2 ∧ (a + bytesW k) % (4 * bytesW k) = 0 then a + bytesW k - 4 * bytesW k else a + bytesW k from if_pos ⟨hal, h7, by rcases hb' with rfl | rfl | rfl | rfl <;> decide⟩)
        have H6 := Lib.hid h6
        clear h6 h4
        rcases hk with rfl | rfl | rfl
        all_goals
          rcases hb' with rfl | rfl | rfl | rfl
          all_goals
            go_enter Tryz.func127, Tryz.ntmps127
            go_wp2_with (first
              | (go_at_call 102; refine (implAligned _ _ _).mono ?_; rintro e w' ⟨rfl, rfl⟩)
              | (go_at_call 115; refine (implBytes _ _).mono ?_; rintro e w' ⟨rfl, rfl⟩; simp only [show bytesW 0 = 1 from rfl, show bytesW 1 = 2 from rfl, show bytesW 2 = 4 from rfl])
              | (go_at_call 122; refine (implBeats _ _).mono ?_; rintro e w' ⟨rfl, rfl⟩; simp only [show beatsW 0 = 1 from rfl, show beatsW 1 = 4 from rfl, show beatsW 2 = 4 from rfl, show beatsW 3 = 8 from rfl]))
            all_goals
              go_ret
              refine ⟨?_, rfl⟩
              rw [Hn.out]
              simp only [show bytesW 0 = 1 from rfl, show bytesW 1 = 2 from rfl, show bytesW 2 = 4 from rfl]
              first | rfl | (rw [if_neg (by omega)]; rfl) | (rw [if_pos (by simp_all)]; rfl) | (rw [if_neg (by simp_all)]; rfl)

theorem specNext (a k b : Int) (w : World) :
    Calls Tryz.prog 123 #[.int .i64 a, .int .i64 k, .int .i64 b] w fun e w' => e = .returned (.int .i64 (nextW a k b)) ∧ Below w.heap.size w w' := by
  cases hal : alB a k with
  | false =>
    have Hn := Lib.hid (nextW_al (b := b) hal)
    go_enter Tryz.func123, Tryz.ntmps123
    go_wp2_with (first
      | (go_at_call 92; refine (specBytes _ _).mono ?_; rintro e w' ⟨rfl, rfl⟩)
      | (go_at_call 61; refine (specAligned _ _ _).mono ?_; rintro e w' ⟨rfl, rfl⟩))
    go_ret
    exact ⟨by rw [Hn.out]; rfl, Below.refl _ _⟩
  | true =>
    obtain ⟨h4, h5, h6⟩ := (alB_iff a k).1 hal
    have H6 := Lib.hid h6
    clear h6
    by_cases hf : 512 ≤ a
    · have Hn := Lib.hid (nextW_far (k := k) (b := b) hf)
      go_enter Tryz.func123, Tryz.ntmps123
      go_wp2_with (first
        | (go_at_call 92; refine (specBytes _ _).mono ?_; rintro e w' ⟨rfl, rfl⟩)
        | (go_at_call 61; refine (specAligned _ _ _).mono ?_; rintro e w' ⟨rfl, rfl⟩)
        | (go_at_call 19; refine (sl1In_no _ _ _ (by omega) _).mono ?_; rintro e w' ⟨rfl, rfl⟩))
      go_ret
      exact ⟨by rw [Hn.out]; rfl, Below.refl _ _⟩
    · by_cases hb : b < 0 ∨ 3 < b
      · have Hn := Lib.hid (nextW_no (a := a) (k := k) (beatsW_no hb))
        have hbw := beatsW_no hb
        go_enter Tryz.func123, Tryz.ntmps123
        go_wp2_with (first
          | (go_at_call 92; refine (specBytes _ _).mono ?_; rintro e w' ⟨rfl, rfl⟩)
          | (go_at_call 61; refine (specAligned _ _ _).mono ?_; rintro e w' ⟨rfl, rfl⟩)
          | (go_at_call 19; refine (sl1In_yes _ _ _ (by omega) (by omega) _).mono ?_; rintro e w' ⟨rfl, rfl⟩)
          | (go_at_call 108; refine (specBeats _ _).mono ?_; rintro e w1 ⟨rfl, hb1⟩))
        go_ret
        exact ⟨by rw [Hn.out]; rfl, hb1⟩
      · have hb' : b = 0 ∨ b = 1 ∨ b = 2 ∨ b = 3 := by omega
        clear hb
        have h7 : a < 512 := by omega
        clear hf
        have hk : k = 0 ∨ k = 1 ∨ k = 2 := by rcases bytesW_cases k with e | ⟨e, _⟩ | ⟨e, _⟩ | ⟨e, _⟩ <;> omega
        have Hn := Lib.hid (show nextW a k b = if b = 2 ∧ (a + bytesW k) % (4 * bytesW k) = 0 then a + bytesW k - 4 * bytesW k else a + bytesW k from if_pos ⟨hal, h7, by rcases hb' with rfl | rfl | rfl | rfl <;> decide⟩)
        clear h4
        rcases hk with rfl | rfl | rfl
        all_goals
          rcases hb' with rfl | rfl | rfl | rfl
          all_goals
            go_enter Tryz.func123, Tryz.ntmps123
            go_wp2_with (first
              | (go_at_call 92; refine (specBytes _ _).mono ?_; rintro e w' ⟨rfl, rfl⟩; simp only [show bytesW 0 = 1 from rfl, show bytesW 1 = 2 from rfl, show bytesW 2 = 4 from rfl])
              | (go_at_call 61; refine (specAligned _ _ _).mono ?_; rintro e w' ⟨rfl, rfl⟩)
              | (go_at_call 19; refine (sl1In_yes _ _ _ (by omega) (by omega) _).mono ?_; rintro e w' ⟨rfl, rfl⟩)
              | (go_at_call 108; refine (specBeats _ _).mono ?_; rintro e w1 ⟨rfl, hb1⟩; simp only [show beatsW 0 = 1 from rfl, show beatsW 1 = 4 from rfl, show beatsW 2 = 4 from rfl, show beatsW 3 = 8 from rfl]))
            all_goals
              go_ret
              refine ⟨?_, by assumption⟩
              rw [Hn.out]
              simp only [show bytesW 0 = 1 from rfl, show bytesW 1 = 2 from rfl, show bytesW 2 = 4 from rfl]
              first | rfl | (rw [if_neg (by omega)]; rfl) | (rw [if_pos (by simp_all)]; rfl) | (rw [if_neg (by simp_all)]; rfl)
end Go.Proofs.YtdhaelaoackfkaaGreat.Num

namespace Go.Proofs.YtdhaelaoackfkaaGreat.Num
open Go.RowKit Rows3

/-- how many numbers a size has. -/
def limW (k : Int) : Int := if k = 0 then 256 else if k = 1 then 65536 else if k = 2 then 4294967296 else 0
theorem limW_no {k : Int} (h : k < 0 ∨ 2 < k) : limW k = 0 := by unfold limW; rw [if_neg (by omega), if_neg (by omega), if_neg (by omega)]
theorem bytesW_no {k : Int} (h : k < 0 ∨ 2 < k) : bytesW k = 0 := by unfold bytesW; rw [if_neg (by omega), if_neg (by omega), if_neg (by omega)]
theorem implLimit (k : Int) (w : World) :
    Calls Tryz.prog 116 #[.int .i64 k] w fun e w' => e = .returned (.int .i64 (limW k)) ∧ w = w' := by
  by_cases h : k < 0 ∨ 2 < k
  · have Hl := Lib.hid (limW_no h)
    have Hb := Lib.hid (bytesW_no h)
    go_enter Tryz.func116, Tryz.ntmps116
    go_wp2_with (go_at_call 115; refine (implBytes _ _).mono ?_; rintro e w' ⟨rfl, rfl⟩; rw [Hb.out])
    go_ret
    exact ⟨by rw [Hl.out]; rfl, rfl⟩
  · have hk : k = 0 ∨ k = 1 ∨ k = 2 := by omega
    clear h
    rcases hk with rfl | rfl | rfl
    all_goals
      go_enter Tryz.func116, Tryz.ntmps116
      go_wp2_with (go_at_call 115; refine (implBytes _ _).mono ?_; rintro e w' ⟨rfl, rfl⟩; simp only [show bytesW 0 = 1 from rfl, show bytesW 1 = 2 from rfl, show bytesW 2 = 4 from rfl])
      go_ret
      exact ⟨rfl, rfl⟩
theorem specLimit (k : Int) (w : World) :
    Calls Tryz.prog 62 #[.int .i64 k] w fun e w' => e = .returned (.int .i64 (limW k)) ∧ w = w' := by
  by_cases h : k < 0 ∨ 2 < k
  · have Hl := Lib.hid (limW_no h)
    have Hb := Lib.hid (bytesW_no h)
    go_enter Tryz.func62, Tryz.ntmps62
    go_wp2_with (go_at_call 92; refine (specBytes _ _).mono ?_; rintro e w' ⟨rfl, rfl⟩; rw [Hb.out])
    go_ret
    exact ⟨by rw [Hl.out]; rfl, rfl⟩
  · have hk : k = 0 ∨ k = 1 ∨ k = 2 := by omega
    clear h
    rcases hk with rfl | rfl | rfl
    all_goals
      go_enter Tryz.func62, Tryz.ntmps62
      go_wp2_with (go_at_call 92; refine (specBytes _ _).mono ?_; rintro e w' ⟨rfl, rfl⟩; simp only [show bytesW 0 = 1 from rfl, show bytesW 1 = 2 from rfl, show bytesW 2 = 4 from rfl])
      go_ret
      exact ⟨rfl, rfl⟩

theorem limW_cases (k : Int) : (bytesW k = 0 ∧ limW k = 0) ∨ (k = 0 ∧ bytesW k = 1 ∧ limW k = 256) ∨ (k = 1 ∧ bytesW k = 2 ∧ limW k = 65536) ∨ (k = 2 ∧ bytesW k = 4 ∧ limW k = 4294967296) := by
  by_cases h : k < 0 ∨ 2 < k
  · exact .inl ⟨bytesW_no h, limW_no h⟩
  · have hk : k = 0 ∨ k = 1 ∨ k = 2 := by omega
    rcases hk with rfl | rfl | rfl
    · exact .inr (.inl ⟨rfl, rfl, rfl⟩)
    · exact .inr (.inr (.inl ⟨rfl, rfl, rfl⟩))
    · exact .inr (.inr (.inr ⟨rfl, rfl, rfl⟩))
theorem limW_bd (k : Int) : 0 ≤ limW k ∧ limW k ≤ 4294967296 := by rcases limW_cases k with ⟨_, h⟩ | ⟨_, _, h⟩ | ⟨_, _, h⟩ | ⟨_, _, h⟩ <;> omega
theorem bytesW_bd (k : Int) : 0 ≤ bytesW k ∧ bytesW k ≤ 4 := by rcases limW_cases k with ⟨h, _⟩ | ⟨_, h, _⟩ | ⟨_, h, _⟩ | ⟨_, h, _⟩ <;> omega

/-- is v a number of a size. -/
def inLB (v k : Int) : Bool := decide (0 ≤ v) && decide (v < limW k)
theorem inLB_iff (v k : Int) : inLB v k = true ↔ 0 ≤ v ∧ v < limW k := by unfold inLB; simp [Bool.and_eq_true]
theorem inLB_no (v k : Int) (h : ¬ (0 ≤ v ∧ v < limW k)) : inLB v k = false := by rw [← Bool.not_eq_true, inLB_iff]; exact h
theorem implIn (v k : Int) (w : World) :
    Calls Tryz.prog 103 #[.int .i64 v, .int .i64 k] w fun e w' => e = .returned (.bool (inLB v k)) ∧ w = w' := by
  have hb := limW_bd k
  obtain ⟨m, hm⟩ : ∃ m, limW k = m := ⟨_, rfl⟩
  have He : Hid (inLB v k = (decide (0 ≤ v) && decide (v < m))) := by rw [← hm]; exact Lib.hid rfl
  rw [hm] at hb
  have Hm := Lib.hid hm
  clear hm
  by_cases h0 : 0 ≤ v
  · by_cases h1 : v < m
    · go_enter Tryz.func103, Tryz.ntmps103
      go_wp2_with (go_at_call 116; refine (implLimit _ _).mono ?_; rintro e w' ⟨rfl, rfl⟩; rw [Hm.out])
      go_ret
      exact ⟨by rw [He.out]; simp [*], rfl⟩
    · go_enter Tryz.func103, Tryz.ntmps103
      go_wp2_with (go_at_call 116; refine (implLimit _ _).mono ?_; rintro e w' ⟨rfl, rfl⟩; rw [Hm.out])
      go_ret
      exact ⟨by rw [He.out]; simp [*], rfl⟩
  · go_enter Tryz.func103, Tryz.ntmps103
    go_wp2_with (go_at_call 116; refine (implLimit _ _).mono ?_; rintro e w' ⟨rfl, rfl⟩; rw [Hm.out])
    go_ret
    exact ⟨by rw [He.out]; simp; omega, rfl⟩
/-- the model's own way: from 0 to one below the limit. -/
theorem specIn (v k m : Int) (hm : m = limW k - 1) (w : World) :
    Calls Tryz.prog 19 #[.int .i64 v, .int .i64 0, .int .i64 m] w fun e w' => e = .returned (.bool (inLB v k)) ∧ w = w' := by
  by_cases h : 0 ≤ v ∧ v < limW k
  · rw [(inLB_iff v k).2 h]
    exact sl1In_yes _ _ _ h.1 (by omega) _
  · rw [inLB_no v k h]
    exact sl1In_no _ _ _ (by omega) _

/-- is it a memory: at most 512 numbers, each one a byte's. -/
def okTo (l : List Int) (k : Nat) : Bool := (l.take k).all fun x => decide (0 ≤ x) && decide (x ≤ 255)
def memB (l : List Int) : Bool := decide (l.length ≤ 512) && okTo l l.length
theorem okTo_succ {l : List Int} {k : Nat} (h : k < l.length) : okTo l (k + 1) = (okTo l k && (decide (0 ≤ l.getD k 0) && decide (l.getD k 0 ≤ 255))) := by
  unfold okTo
  rw [List.take_succ_eq_append_getElem h, List.all_append, getD_lt h]
  simp only [List.all_cons, List.all_nil, Bool.and_true]
theorem okTo_iff (l : List Int) : okTo l l.length = true ↔ ∀ x ∈ l, 0 ≤ x ∧ x ≤ 255 := by
  unfold okTo; rw [List.take_length, List.all_eq_true]; simp
theorem memB_iff (l : List Int) : memB l = true ↔ l.length ≤ 512 ∧ ∀ x ∈ l, 0 ≤ x ∧ x ≤ 255 := by
  unfold memB; rw [Bool.and_eq_true, okTo_iff]; simp
theorem okTo_bad {l : List Int} {k : Nat} (h : k < l.length) (hx : l.getD k 0 < 0 ∨ 255 < l.getD k 0) : okTo l l.length = false := by
  rw [← Bool.not_eq_true, okTo_iff]
  intro ha
  have := ha (l.getD k 0) (by rw [getD_lt h]; exact List.getElem_mem h)
  omega
theorem memB_long {l : List Int} (h : 512 < l.length) : memB l = false := by
  have : ¬ l.length ≤ 512 := by omega
  simp [memB, this]
theorem memB_bad {l : List Int} {k : Nat} (h : k < l.length) (hx : l.getD k 0 < 0 ∨ 255 < l.getD k 0) : memB l = false := by simp [memB, okTo_bad h hx]

set_option maxRecDepth 100000 in
theorem implMemOk (v : Value) (l : List Int) (hl : l.length ≤ 2000000) (w : World) (hv : RdI v l w) :
    Calls Tryz.prog 99 #[v] w fun e w' => e = .returned (.bool (memB l)) ∧ w = w' := by
  obtain ⟨ad, cap, rfl, h1⟩ := hv
  obtain ⟨n, hln⟩ : ∃ n, l.length = n := ⟨_, rfl⟩
  rw [hln] at h1 hl ⊢
  have H1 := Lib.hid h1
  have HL := Lib.hid hln
  clear h1 hln
  by_cases h5 : 512 < n
  · have Hf := Lib.hid (memB_long (l := l) (by rw [HL.out]; exact h5))
    go_enter Tryz.func99, Tryz.ntmps99
    go_wp2
    go_ret
    exact ⟨by rw [Hf.out]; rfl, rfl⟩
  · obtain ⟨R, hR⟩ : ∃ R, memB l = R := ⟨_, rfl⟩
    rw [hR]
    have HR := Lib.hid hR
    clear hR
    go_enter Tryz.func99, Tryz.ntmps99
    go_wp2
    go_loop [10] (fun i => ∃ k : Nat, k ≤ n ∧ i = .int .i64 k ∧ okTo l k = true) (fun i => n - (intOf i).toNat)
    case atStart => exact ⟨0, by omega, rfl, rfl⟩
    case round =>
      obtain ⟨k, hk, rfl, hok⟩ := hrel
      have Hok := Lib.hid hok
      clear hok
      by_cases hlt : k < n
      · obtain ⟨b, o, rfl, hb1, hc1⟩ := H1.out k hlt
        have Hs := Lib.hid (okTo_succ (l := l) (k := k) (by rw [HL.out]; exact hlt))
        have Hbad := Lib.hid (fun hx => memB_bad (l := l) (k := k) (by rw [HL.out]; exact hlt) hx)
        generalize l.getD k 0 = y at hc1 Hs Hbad
        by_cases hy : y < 0 ∨ 255 < y
        · have Hm := Lib.hid (Hbad.out hy)
          by_cases hy0 : y < 0
          · go_wp2
            go_ret
            exact ⟨by rw [← HR.out, Hm.out]; rfl, rfl⟩
          · go_wp2
            go_ret
            exact ⟨by rw [← HR.out, Hm.out]; rfl, rfl⟩
        · have hy0 : 0 ≤ y := by omega
          have hy1 : y ≤ 255 := by omega
          clear hy
          go_wp2
          go_round
          case rel => exact ⟨k + 1, by omega, by go_num, by rw [Hs.out, Hok.out]; simp [hy0, hy1]⟩
          case measure => simp [intOf]; omega
      · obtain rfl : k = n := by omega
        go_wp2
        go_ret
        refine ⟨?_, rfl⟩
        rw [← HR.out]
        have hk5 : k ≤ 512 := by omega
        have e : memB l = true := by unfold memB; rw [HL.out, Hok.out]; simp [hk5]
        rw [e]; rfl

set_option maxRecDepth 100000 in
theorem specBytesOk (v : Value) (l : List Int) (hl : l.length ≤ 2000000) (w : World) (hv : RdI v l w) :
    Calls Tryz.prog 57 #[v] w fun e w' => e = .returned (.bool (memB l)) ∧ w = w' := by
  obtain ⟨ad, cap, rfl, h1⟩ := hv
  obtain ⟨n, hln⟩ : ∃ n, l.length = n := ⟨_, rfl⟩
  rw [hln] at h1 hl ⊢
  have H1 := Lib.hid h1
  have HL := Lib.hid hln
  clear h1 hln
  obtain ⟨R, hR⟩ : ∃ R, memB l = R := ⟨_, rfl⟩
  rw [hR]
  have HR := Lib.hid hR
  clear hR
  go_enter Tryz.func57, Tryz.ntmps57
  go_wp2
  go_loop [3] (fun i => ∃ k : Nat, k ≤ n ∧ i = .int .i64 k ∧ okTo l k = true) (fun i => n - (intOf i).toNat)
  case atStart => exact ⟨0, by omega, rfl, rfl⟩
  case round =>
    obtain ⟨k, hk, rfl, hok⟩ := hrel
    have Hok := Lib.hid hok
    clear hok
    by_cases hlt : k < n
    · obtain ⟨b, o, rfl, hb1, hc1⟩ := H1.out k hlt
      have Hs := Lib.hid (okTo_succ (l := l) (k := k) (by rw [HL.out]; exact hlt))
      have Hbad := Lib.hid (fun hx => memB_bad (l := l) (k := k) (by rw [HL.out]; exact hlt) hx)
      generalize l.getD k 0 = y at hc1 Hs Hbad
      by_cases hy : y < 0 ∨ 255 < y
      · have Hm := Lib.hid (Hbad.out hy)
        go_wp2_with (go_at_call 19; refine (sl1In_no _ _ _ hy _).mono ?_; rintro e w' ⟨rfl, rfl⟩)
        go_ret
        exact ⟨by rw [← HR.out, Hm.out]; rfl, rfl⟩
      · have hy0 : 0 ≤ y := by omega
        have hy1 : y ≤ 255 := by omega
        clear hy
        go_wp2_with (go_at_call 19; refine (sl1In_yes _ _ _ hy0 hy1 _).mono ?_; rintro e w' ⟨rfl, rfl⟩)
        go_round
        case rel => exact ⟨k + 1, by omega, by go_num, by rw [Hs.out, Hok.out]; simp [hy0, hy1]⟩
        case measure => simp [intOf]; omega
    · obtain rfl : k = n := by omega
      go_wp2
      go_ret
      refine ⟨?_, rfl⟩
      rw [← HR.out]
      unfold memB; rw [HL.out, Hok.out]
      simp; omega

/-- does a number of a size fit at a place of a row of n. -/
def fitB (n : Nat) (a k : Int) : Bool := alB a k && decide (a ≤ n - bytesW k)
theorem fitB_iff (n : Nat) (a k : Int) : fitB n a k = true ↔ 0 < bytesW k ∧ 0 ≤ a ∧ a % bytesW k = 0 ∧ a + bytesW k ≤ n := by
  unfold fitB; rw [Bool.and_eq_true, alB_iff]; simp; omega
end Go.Proofs.YtdhaelaoackfkaaGreat.Num

namespace Go.Proofs.YtdhaelaoackfkaaGreat.Num
open Go.RowKit Rows3

theorem take_set {l : List Int} {k : Nat} (h : k < l.length) (n : Nat) (hn : l.length = n) : (l.take k ++ List.replicate (n - k) 0).set k (l.getD k 0) = l.take (k + 1) ++ List.replicate (n - (k + 1)) 0 := by
  have e1 : (l.take k).length = k := by simp; omega
  rw [List.set_append_right (s := l.take k) (t := List.replicate (n - k) 0) k _ (by omega), e1, Nat.sub_self]
  rw [List.take_succ_eq_append_getElem h, List.append_assoc, getD_lt h]
  obtain ⟨d, hd⟩ : ∃ d, n - k = d + 1 := ⟨n - k - 1, by omega⟩
  rw [hd, show n - (k + 1) = d by omega, List.replicate_succ]
  rfl
set_option maxRecDepth 100000 in
theorem toInts_any (v : Value) (l : List Int) (hl : l.length ≤ 2000000) (w : World) (hv : RdI v l w) :
    Calls Tryz.prog 32 #[v] w (NewI l w) := by
  obtain ⟨ad, cap, rfl, h1⟩ := hv
  obtain ⟨n, hln⟩ : ∃ n, l.length = n := ⟨_, rfl⟩
  rw [hln] at h1 hl ⊢
  have H1 := Lib.hid h1
  have HL := Lib.hid hln
  clear h1 hln
  have hmk := fun W => makeI n hl W
  have Ho0 := Lib.hid (OwnI.make0 w.heap.size w (Nat.le_refl _) n hl)
  go_enter Tryz.func32, Tryz.ntmps32
  go_wp2
  clear hmk
  go_loopw [4] (fun i wr => ∃ k : Nat, k ≤ n ∧ i = .int .i64 k ∧ OwnI w.heap.size (.slice (some ⟨w.heap.size, 0, none⟩) n n) (l.take k ++ List.replicate (n - k) 0) wr ∧ Below w.heap.size w wr) (fun i _ => n - (intOf i).toNat)
  case atStart => exact ⟨0, by omega, rfl, by simpa using Ho0.out, (Below.refl _ _).alloc (Nat.le_refl _) _⟩
  case round =>
    obtain ⟨k, hk, rfl, hown, hb⟩ := hrel
    have Ho := Lib.hid hown
    by_cases hlt : k < n
    · obtain ⟨b, o, rfl, hb1, hc1⟩ := H1.out k hlt
      rw [← hb.cell (p := ⟨b, o + k, none⟩) hb1] at hc1
      have hc := hown.cell (i := k) (by simp [HL.out]; omega)
      have hf := hown.frozen k
      have Hs := Lib.hid (take_set (l := l) (k := k) (by rw [HL.out]; exact hlt) n HL.out)
      generalize (l.take k ++ List.replicate (n - k) 0).getD k 0 = y at hc
      generalize l.getD k 0 = x at hc1 Hs
      clear hown
      go_wp2_with fail
      go_roundw
      case rel =>
        refine ⟨k + 1, by omega, by go_num, ?_, hb.setCell (Nat.le_refl _) _⟩
        rw [← Hs.out]
        exact Ho.out.set k x
      case measure => simp [intOf]; omega
    · obtain rfl : k = n := by omega
      clear hown
      go_wp2
      go_ret
      refine ⟨_, rfl, ?_, hb⟩
      have h := Ho.out
      rwa [Nat.sub_self, List.replicate_zero, List.append_nil, List.take_of_length_le (by rw [HL.out]; omega)] at h

end Go.Proofs.YtdhaelaoackfkaaGreat.Num
