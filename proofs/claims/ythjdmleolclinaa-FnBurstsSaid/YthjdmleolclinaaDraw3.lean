
/-
  Chapter 3's draw: some address, some size, some burst.
-/
import Derived.Test.YthjdmleolclinaaCurE
import Derived.Deep.RegionWith
import Derived.OwnWalk
namespace Go.Proofs.Ythjdmleolclinaa.Cur
open Go.RowKit Bytes

def Three (w : World) (e : Ending) (w' : World) : Prop := ∃ x y z : Int, e = .returned (.tuple #[.int .i64 x, .int .i64 y, .int .i64 z]) ∧ Below w.heap.size w w'
def ThreeC (c : Nat) (w : World) (e : Ending) (w' : World) : Prop := ∃ x y z : Int, e = .returned (.tuple #[.int .i64 x, .int .i64 y, .int .i64 z]) ∧ Only c w w'
set_option maxHeartbeats 1000000 in
set_option maxRecDepth 100000 in
theorem draw3_any (c : Nat) (w : World) (h : Cu c w) : Calls Try.prog 24 #[.pointer (some ⟨c, 0, none⟩)] w (ThreeC c w) := by
  go_enter Try.func24, Try.ntmps24
  go_wp2_with fail
  refine (belowE c 3 (by omega) (by omega) _ h).mono ?_
  rintro e w1 ⟨size, ⟨h0, h1⟩, rfl, hC1, hO1⟩
  go_wp2_with fail
  refine (belowE c 4 (by omega) (by omega) _ hC1).mono ?_
  rintro e w2 ⟨burst, ⟨h2, h3⟩, rfl, hC2, hO2⟩
  have hk : size = 0 ∨ size = 1 ∨ size = 2 := by omega
  have hO02 := hO1.trans hO2
  clear h0 h1 hO1 hO2
  rcases hk with rfl | rfl | rfl
  all_goals
    go_wp2_with fail
    go_region_with (go_at_call 29; refine (belowE c 512 (by omega) (by omega) _ ?_).mono ?_; exact hC2.drewN _; rintro e w3 ⟨x, ⟨h4, h5⟩, rfl, hC3, hO3⟩)
    go_wp2_with fail
    refine (belowE c 10 (by omega) (by omega) _ hC3).mono ?_
    rintro e w4 ⟨m, ⟨h6, h7⟩, rfl, hC4, hO4⟩
    have hO := ((hO02.drewN _).trans hO3).trans hO4
    clear hO02 hO3 hO4 hC1 hC2 hC3
    by_cases m0 : m = 0
    · subst m0
      go_wp2_with fail
      refine (pickE c w4.heap.size [-4, 511, 508, 512, 60, 56] 6 rfl (by omega) (by omega) (by have := hC4.lt; omega) _ (Ints.new w4 _ _ rfl) (hC4.alloc _)).mono ?_
      rintro e w5 ⟨y, hy, rfl, hC5, hO5⟩
      clear hy
      go_wp2
      go_ret3
      exact ⟨_, _, _, rfl, (hO.alloc _).trans hO5⟩
    · by_cases m1 : m = 1
      · subst m1
        go_wp2_with fail
        refine (smallE c _ hC4).mono ?_
        rintro e w5 ⟨y, hy, rfl, hC5, hO5⟩
        clear hy
        go_wp2
        go_ret3
        exact ⟨_, _, _, rfl, hO.trans hO5⟩
      · by_cases m2 : m = 2
        · subst m2
          go_wp2_with fail
          refine (smallE c _ hC4).mono ?_
          rintro e w5 ⟨y, hy, rfl, hC5, hO5⟩
          clear hy
          go_wp2
          go_ret3
          exact ⟨_, _, _, rfl, hO.trans hO5⟩
        · by_cases m3 : m = 3
          · subst m3
            go_wp2
            go_ret3
            exact ⟨_, _, _, rfl, hO⟩
          · have e0 : (m == 0) = false := by rw [beq_eq_false_iff_ne]; exact m0
            have e1 : (m == 1) = false := by rw [beq_eq_false_iff_ne]; exact m1
            have e2 : (m == 2) = false := by rw [beq_eq_false_iff_ne]; exact m2
            have e3 : (m == 3) = false := by rw [beq_eq_false_iff_ne]; exact m3
            clear m0 m1 m2 m3
            go_wp2
            go_ret3
            exact ⟨_, _, _, rfl, hO⟩
theorem drawBurst_any (a : Option Addr) (len cap : Nat) (z : List Int) (w : World) (h : CodeIn a len z w) : Calls Try.prog 9 #[.slice a len cap] w (Three w) := by
  go_enter Try.func9, Try.ntmps9
  go_wp2_with fail
  refine (newE a len cap z _ h).mono ?_
  rintro e w1 ⟨c, rfl, hc, hC, hb⟩
  go_wp2_with fail
  refine (draw3_any c _ hC).mono ?_
  rintro e w2 ⟨x, y, q, rfl, hO⟩
  go_wp2
  go_ret3
  exact ⟨_, _, _, rfl, hO.below hb hc⟩
end Go.Proofs.Ythjdmleolclinaa.Cur
