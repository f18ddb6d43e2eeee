
/-
  The choices of a script: number k of a list that goes round, how long an answer waits, what it says; for the program and for its model.
-/
import Derived.Test.YtilbaooancgodaaScript0
import Derived.Test.YtilbaooancgodaaPost2
namespace Go.Proofs.Ytilbaooancgodaa.Num
open Go.RowKit GR Rows3

/-- how long an answer waits. -/
def waitW (mw x : Int) : Int := max 0 (min mw x)
theorem waitS (mw V : Int) : (if 0 < if V < mw then V else mw then if V < mw then V else mw else 0) = waitW mw V := by
  unfold waitW
  by_cases h : V < mw
  · rw [if_pos h, Int.min_def]
    split <;> split <;> omega
  · rw [if_neg h, Int.min_def]
    split <;> split <;> omega
theorem waitI (mw V : Int) : (if 0 < if mw < V then mw else V then if mw < V then mw else V else 0) = waitW mw V := by
  unfold waitW
  by_cases h : mw < V
  · rw [if_pos h, Int.min_def]
    split <;> split <;> omega
  · rw [if_neg h, Int.min_def]
    split <;> split <;> omega
/-- what an answer says. -/
def saidW (x : Int) : Int := if x = 2 ∨ x = 3 then x else 0
theorem atIdx {n : Nat} {k : Int} (h1 : ¬ n = 0) (h2 : ¬ k < 0) : Int.tmod k (n : Int) = ((k.toNat % n : Nat) : Int) ∧ k.toNat % n < n := by
  obtain ⟨j, rfl⟩ : ∃ j : Nat, k = j := ⟨k.toNat, by omega⟩
  refine ⟨?_, Nat.mod_lt _ (by omega)⟩
  rw [Int.toNat_natCast]
  rfl
set_option maxRecDepth 100000 in
theorem specAt (v : Value) (l : List Int) (k : Int) (hl : l.length ≤ 2000000) (w : World) (hv : RdI v l w) :
    Calls Try.prog 39 #[v, .int .i64 k] w fun e w' => e = .returned (.int .i64 (atW l k)) ∧ w = w' := by
  obtain ⟨ad, cap, rfl, h1⟩ := hv
  obtain ⟨n, hn⟩ : ∃ n, l.length = n := ⟨_, rfl⟩
  rw [hn] at h1 hl ⊢
  by_cases h0 : n = 0
  · subst h0
    have He := Lib.hid (atW_none (k := k) (.inl hn))
    clear h1 hn
    go_enter Try.func39, Try.ntmps39
    go_wp2
    go_ret
    exact ⟨by rw [He.out]; rfl, rfl⟩
  · by_cases hk : k < 0
    · have He := Lib.hid (atW_none (l := l) (k := k) (.inr hk))
      have hn0 : ¬ ((n : Nat) : Int) = 0 := by omega
      clear h1 hn
      go_enter Try.func39, Try.ntmps39
      go_wp2
      go_ret
      exact ⟨by rw [He.out]; rfl, rfl⟩
    · have hi := atIdx h0 hk
      obtain ⟨b, o, rfl, hb, hc⟩ := h1 (k.toNat % n) hi.2
      have He := Lib.hid (show atW l k = l.getD (k.toNat % n) 0 by rw [atW_some (by omega) hk, hn])
      obtain ⟨j, hj⟩ : ∃ j, k.toNat % n = j := ⟨_, rfl⟩
      rw [hj] at hi hc He
      obtain ⟨hi1, hi2⟩ := hi
      have hn0 : ¬ ((n : Nat) : Int) = 0 := by omega
      clear h1 hn hj
      go_enter Try.func39, Try.ntmps39
      go_wp2
      go_ret
      exact ⟨by rw [He.out]; rfl, rfl⟩
set_option maxRecDepth 100000 in
theorem implAt (v : Value) (l : List Int) (k : Int) (hl : l.length ≤ 2000000) (w : World) (hv : RdI v l w) :
    Calls Try.prog 40 #[v, .int .i64 k] w fun e w' => e = .returned (.int .i64 (atW l k)) ∧ w = w' := by
  obtain ⟨ad, cap, rfl, h1⟩ := hv
  obtain ⟨n, hn⟩ : ∃ n, l.length = n := ⟨_, rfl⟩
  rw [hn] at h1 hl ⊢
  by_cases h0 : n = 0
  · subst h0
    have He := Lib.hid (atW_none (k := k) (.inl hn))
    clear h1 hn
    go_enter Try.func40, Try.ntmps40
    go_wp2
    go_ret
    exact ⟨by rw [He.out]; rfl, rfl⟩
  · by_cases hk : k < 0
    · have He := Lib.hid (atW_none (l := l) (k := k) (.inr hk))
      have hn0 : ¬ ((n : Nat) : Int) = 0 := by omega
      clear h1 hn
      go_enter Try.func40, Try.ntmps40
      go_wp2
      go_ret
      exact ⟨by rw [He.out]; rfl, rfl⟩
    · have hi := atIdx h0 hk
      obtain ⟨b, o, rfl, hb, hc⟩ := h1 (k.toNat % n) hi.2
      have He := Lib.hid (show atW l k = l.getD (k.toNat % n) 0 by rw [atW_some (by omega) hk, hn])
      obtain ⟨j, hj⟩ : ∃ j, k.toNat % n = j := ⟨_, rfl⟩
      rw [hj] at hi hc He
      obtain ⟨hi1, hi2⟩ := hi
      have hn0 : ¬ ((n : Nat) : Int) = 0 := by omega
      clear h1 hn hj
      go_enter Try.func40, Try.ntmps40
      go_wp2
      go_ret
      exact ⟨by rw [He.out]; rfl, rfl⟩
set_option maxRecDepth 100000 in
theorem specSaid (u wv sv : Value) (l : List Int) (k : Int) (hl : l.length ≤ 2000000) (w : World) (hv : RdI sv l w) :
    Calls Try.prog 17 #[.agg #[u, wv, sv], .int .i64 k] w fun e w' => e = .returned (.int .i64 (saidW (atW l k))) ∧ Below w.heap.size w w' := by
  obtain ⟨V, hV⟩ : ∃ V, atW l k = V := ⟨_, rfl⟩
  have HV := Lib.hid hV
  rw [hV]
  have Hv := Lib.hid hv
  obtain ⟨ad, cap, rfl, hr⟩ := hv
  clear hV hr
  by_cases h2 : V = 2
  · subst h2
    go_enter Try.func17, Try.ntmps17
    go_wp2_with (go_at_call 39; refine (specAt _ l k hl _ (rdI_alloc Hv.out _)).mono ?_; rintro e w' ⟨rfl, rfl⟩; rw [HV.out])
    go_ret
    exact ⟨rfl, (Below.refl _ _).alloc (Nat.le_refl _) _⟩
  · have e2 : (V == 2) = false := by simpa using h2
    by_cases h3 : V = 3
    · subst h3
      go_enter Try.func17, Try.ntmps17
      go_wp2_with (go_at_call 39; refine (specAt _ l k hl _ (rdI_alloc Hv.out _)).mono ?_; rintro e w' ⟨rfl, rfl⟩; rw [HV.out])
      go_ret
      exact ⟨rfl, (Below.refl _ _).alloc (Nat.le_refl _) _⟩
    · have e3 : (V == 3) = false := by simpa using h3
      have He := Lib.hid (show saidW V = 0 from if_neg (by omega))
      clear h2 h3
      go_enter Try.func17, Try.ntmps17
      go_wp2_with (go_at_call 39; refine (specAt _ l k hl _ (rdI_alloc Hv.out _)).mono ?_; rintro e w' ⟨rfl, rfl⟩; rw [HV.out])
      go_ret
      exact ⟨by rw [He.out]; rfl, (Below.refl _ _).alloc (Nat.le_refl _) _⟩
set_option maxRecDepth 100000 in
theorem implSaid (u wv sv : Value) (l : List Int) (k : Int) (hl : l.length ≤ 2000000) (w : World) (hv : RdI sv l w) :
    Calls Try.prog 18 #[.agg #[u, wv, sv], .int .i64 k] w fun e w' => e = .returned (.int .i64 (saidW (atW l k))) ∧ Below w.heap.size w w' := by
  obtain ⟨V, hV⟩ : ∃ V, atW l k = V := ⟨_, rfl⟩
  have HV := Lib.hid hV
  rw [hV]
  have Hv := Lib.hid hv
  obtain ⟨ad, cap, rfl, hr⟩ := hv
  clear hV hr
  by_cases h2 : V = 2
  · subst h2
    go_enter Try.func18, Try.ntmps18
    go_wp2_with (go_at_call 40; refine (implAt _ l k hl _ (rdI_alloc Hv.out _)).mono ?_; rintro e w' ⟨rfl, rfl⟩; rw [HV.out])
    go_ret
    exact ⟨rfl, (Below.refl _ _).alloc (Nat.le_refl _) _⟩
  · have e2 : (V == 2) = false := by simpa using h2
    by_cases h3 : V = 3
    · subst h3
      go_enter Try.func18, Try.ntmps18
      go_wp2_with (go_at_call 40; refine (implAt _ l k hl _ (rdI_alloc Hv.out _)).mono ?_; rintro e w' ⟨rfl, rfl⟩; rw [HV.out])
      go_ret
      exact ⟨rfl, (Below.refl _ _).alloc (Nat.le_refl _) _⟩
    · have e3 : (V == 3) = false := by simpa using h3
      have He := Lib.hid (show saidW V = 0 from if_neg (by omega))
      clear h2 h3
      go_enter Try.func18, Try.ntmps18
      go_wp2_with (go_at_call 40; refine (implAt _ l k hl _ (rdI_alloc Hv.out _)).mono ?_; rintro e w' ⟨rfl, rfl⟩; rw [HV.out])
      go_ret
      exact ⟨by rw [He.out]; rfl, (Below.refl _ _).alloc (Nat.le_refl _) _⟩
set_option maxRecDepth 100000 in
set_option maxHeartbeats 2000000 in
theorem specWait (mv : Value) (q mw mr ms lm : Int) (u wv sv : Value) (l : List Int) (k : Int) (hl : l.length ≤ 2000000) (w : World) (hv : RdI wv l w) :
    Calls Try.prog 15 #[.agg #[mv, .int .i64 q, .int .i64 mw, .int .i64 mr, .int .i64 ms, .int .i64 lm], .agg #[u, wv, sv], .int .i64 k] w fun e w' => e = .returned (.int .i64 (waitW mw (atW l k))) ∧ Below w.heap.size w w' := by
  obtain ⟨V, hV⟩ : ∃ V, atW l k = V := ⟨_, rfl⟩
  have HV := Lib.hid hV
  rw [hV]
  have Hv := Lib.hid hv
  obtain ⟨ad, cap, rfl, hr⟩ := hv
  clear hV hr
  go_enter Try.func15, Try.ntmps15
  go_wp2_with fail
  go_region_with (go_at_call 39; refine (specAt _ l k hl _ ?_).mono ?_; exact rdI_alloc (rdI_alloc Hv.out _) _; rintro e w' ⟨rfl, rfl⟩; rw [HV.out])
  all_goals rw [waitS mw V]
  all_goals go_wp2
  all_goals go_ret
  all_goals
    exact ⟨rfl, (((Below.refl _ _).alloc (Nat.le_refl _) _).alloc (by simp) _).drew⟩
set_option maxRecDepth 100000 in
set_option maxHeartbeats 2000000 in
theorem implWait (mv : Value) (q mw mr ms lm : Int) (u wv sv : Value) (l : List Int) (k : Int) (hl : l.length ≤ 2000000) (w : World) (hv : RdI wv l w) :
    Calls Try.prog 16 #[.agg #[mv, .int .i64 q, .int .i64 mw, .int .i64 mr, .int .i64 ms, .int .i64 lm], .agg #[u, wv, sv], .int .i64 k] w fun e w' => e = .returned (.int .i64 (waitW mw (atW l k))) ∧ Below w.heap.size w w' := by
  obtain ⟨V, hV⟩ : ∃ V, atW l k = V := ⟨_, rfl⟩
  have HV := Lib.hid hV
  rw [hV]
  have Hv := Lib.hid hv
  obtain ⟨ad, cap, rfl, hr⟩ := hv
  clear hV hr
  go_enter Try.func16, Try.ntmps16
  go_wp2_with fail
  go_region_with (go_at_call 40; refine (implAt _ l k hl _ ?_).mono ?_; exact rdI_alloc (rdI_alloc Hv.out _) _; rintro e w' ⟨rfl, rfl⟩; rw [HV.out])
  all_goals rw [waitI mw V]
  all_goals go_wp2
  all_goals go_ret
  all_goals
    exact ⟨rfl, (((Below.refl _ _).alloc (Nat.le_refl _) _).alloc (by simp) _).drew⟩
end Go.Proofs.Ytilbaooancgodaa.Num
