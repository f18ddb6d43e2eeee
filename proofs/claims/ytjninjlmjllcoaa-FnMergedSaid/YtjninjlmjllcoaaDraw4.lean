
/-
  Chapter 4's draws: some memory, some address, some size, some number.
-/
import Derived.Test.YtjninjlmjllcoaaCurD
import Derived.Test.YtjninjlmjllcoaaLane
import Derived.Test.YtjninjlmjllcoaaEq
namespace Go.Proofs.Ytjninjlmjllcoaa.Cur
open Go.RowKit Bytes Rows3 Num

theorem Only.grown {c : Nat} {w w' : World} (h : Only c w w') : w.grownBy w' (some c) := ⟨h.os, h.tape, h.output, h.size, fun k hk hne => h.block k hk (fun e => hne (by rw [e]))⟩
theorem ownI_only {B c : Nat} {v : Value} {l : List Int} {w w' : World} (h : OwnI B v l w) (hO : Only c w w') (hc : c < B) : OwnI B v l w' :=
  h.far hO.grown (fun k hk e => by have := (World.ownsRow.lt h k hk).1; cases e; omega)
theorem results4 {fn : Func} {t u v x : Tmp} (h : fn.results = #[.tmp t, .tmp u, .tmp v, .tmp x]) (tmps : Array Value) (P : Program) (w : World) :
    (results fn tmps).run P w = .ok (.tuple #[tmps.getD t undef, tmps.getD u undef, tmps.getD v undef, tmps.getD x undef]) w := by simp [results, h]

/-- some memory of at most 20 numbers. -/
def SomeMem (D c : Nat) (w : World) (e : Ending) (w' : World) : Prop := ∃ (v : Value) (l : List Int), e = .returned v ∧ l.length ≤ 20 ∧ OwnI w.heap.size v l w' ∧ CuD D c w' ∧ Only c w w'
set_option maxHeartbeats 1000000 in
set_option maxRecDepth 100000 in
theorem mem_any (D c : Nat) (w : World) (h : CuD D c w) : Calls Try.prog 34 #[.pointer (some ⟨c, 0, none⟩)] w (SomeMem D c w) := by
  have hcl : c < w.heap.size := Nat.lt_of_lt_of_le h.lt h.le
  have hD := h.le
  have Hn := Lib.hid (OwnI.made w.heap.size w (Nat.le_refl _))
  go_enter Try.func34, Try.ntmps34
  go_wp2_with fail
  refine (belowC D c 20 (by omega) (by omega) _ (h.alloc _)).mono ?_
  rintro e w1 ⟨x, ⟨h0, h1⟩, rfl, hC1, hO1⟩
  obtain ⟨n, rfl⟩ := Int.eq_ofNat_of_zero_le h0
  have hO1' := Only.trans ((Only.refl c w).alloc (.cells #[] 3)) hO1
  have hsz := hO1'.size
  have Ho := Lib.hid (ownI_only Hn.out hO1 hcl)
  go_wp2_with fail
  go_loopw [3, 4] (fun v x wr => ∃ (m : Nat) (l : List Int), x = .int .i64 m ∧ l.length + m ≤ 20 ∧ OwnI w.heap.size v l wr ∧ CuD D c wr ∧ Only c w wr) (fun _ x _ => (intOf x).toNat)
  case atStart => exact ⟨n, [], rfl, by simp; omega, Ho.out, hC1, hO1'⟩
  case round =>
    obtain ⟨m, l, rfl, hl, hown, hC, hO⟩ := hrel
    have Hw := Lib.hid hown
    by_cases hm : 0 < m
    · have hml : m ≤ 20 := by omega
      clear hown
      go_wp2_with fail
      refine (belowC D c 256 (by omega) (by omega) _ hC).mono ?_
      rintro e w2 ⟨y, ⟨h2, h3⟩, rfl, hC2, hO2⟩
      have hO02 := hO.trans hO2
      have hs2 := hO02.size
      have Ho2 := Lib.hid (ownI_only Hw.out hO2 hcl)
      go_wp2_with (at_builtin; refine appI rfl _ _ rfl w.heap.size u3 l w2 y rfl rfl Ho2.out hs2 (by omega) ?_; intro v' w3 hown3 hb3; have Ho3 := Lib.hid hown3; clear hown3)
      go_roundw
      case rel => exact ⟨m - 1, l ++ [y], by congr 1; omega, by simp; omega, Ho3.out, hC2.belowB hb3 hD, hO02.transD hb3⟩
      case measure => simp [intOf]; omega
    · obtain rfl : m = 0 := by omega
      obtain ⟨ad, cap, rfl⟩ := hown.slice
      obtain ⟨k, hk⟩ : ∃ k, l.length = k := ⟨_, rfl⟩
      have Hk := Lib.hid hk
      rw [hk] at Hw hown hl ⊢
      clear hk
      by_cases hk0 : 0 < k
      · rcases Hw.out.2 with ⟨_, h0⟩ | ⟨g, cp, cur, hv, hg, _⟩
        · exfalso; rw [Hk.out] at h0; omega
        obtain rfl : ad = some ⟨g, 0, none⟩ := by cases hv; rfl
        clear hown hv
        go_wp2_with fail
        refine (onceC D c 10 (by omega) (by omega) _ hC).mono ?_
        rintro e w2 ⟨b, rfl, hC2, hO2⟩
        have hO02 := hO.trans hO2
        have Ho2 := Lib.hid (ownI_only Hw.out hO2 hcl)
        cases b
        · go_wp2
          go_ret
          exact ⟨_, l, rfl, by rw [Hk.out]; omega, Ho2.out, hC2, hO02⟩
        · go_wp2_with fail
          refine (pickLit D c [-1, 256] 2 rfl (by omega) (by omega) _ hC2 _ rfl).mono ?_
          rintro e w3 ⟨y, hy, rfl, hC3, hO3⟩
          have hO03 := hO02.trans hO3
          have Ho3 := Lib.hid (ownI_only Ho2.out hO3 hcl)
          have hc := Ho3.out.cell (i := 0) (by rw [Hk.out]; exact hk0)
          have hf := Ho3.out.frozen 0
          generalize l.getD 0 0 = q at hc
          clear hy
          have hb3 := (Below.refl w.heap.size w3).setCell (p := ⟨g, 0, none⟩) hg (.int .i64 y)
          go_wp2
          go_ret
          exact ⟨_, l.set 0 y, rfl, by rw [List.length_set, Hk.out]; omega, Ho3.out.set 0 y, hC3.belowB hb3 hD, hO03.transD hb3⟩
      · obtain rfl : k = 0 := by omega
        clear hown
        go_wp2
        go_ret
        exact ⟨_, l, rfl, by rw [Hk.out]; omega, Hw.out, hC, hO⟩

theorem value_any (D c : Nat) (k : Int) (w : World) (h : CuD D c w) : Calls Try.prog 36 #[.pointer (some ⟨c, 0, none⟩), .int .i64 k] w (DrewD (fun _ => True) D c w) := by
  have hlb := limW_bd k
  generalize hl : limW k = y at hlb
  have Hl := Lib.hid hl
  clear hl
  go_enter Try.func36, Try.ntmps36
  go_wp2_with fail
  refine (belowC D c 256 (by omega) (by omega) _ h).mono ?_
  rintro e w1 ⟨x1, h1, rfl, hC1, hO1⟩
  go_wp2_with fail
  refine (specLimit _ _).mono ?_
  rintro e w' ⟨rfl, rfl⟩
  rw [Hl.out]
  go_wp2_with fail
  all_goals
    refine (belowC D c _ (by omega) (by omega) _ hC1).mono ?_
    rintro e w2 ⟨x2, h2, rfl, hC2, hO2⟩
    have hO02 := hO1.trans hO2
    go_wp2_with fail
    refine (specLimit _ _).mono ?_
    rintro e w' ⟨rfl, rfl⟩
    rw [Hl.out]
    go_wp2_with fail
    refine (specLimit _ _).mono ?_
    rintro e w' ⟨rfl, rfl⟩
    rw [Hl.out]
    go_wp2_with fail
    refine (pickLit D c [x1, x2, y - 1, y, 0, -1] 6 rfl (by omega) (by omega) _ hC2 _ rfl).mono ?_
    rintro e w3 ⟨x3, h3, rfl, hC3, hO3⟩
    clear h3
    go_wp2
    go_ret
    exact ⟨x3, trivial, rfl, hC3, hO02.trans hO3⟩
def FourM (w : World) (e : Ending) (w' : World) : Prop := ∃ (v : Value) (l : List Int) (x y z : Int), e = .returned (.tuple #[v, .int .i64 x, .int .i64 y, .int .i64 z]) ∧ l.length ≤ 20 ∧ OwnI w.heap.size v l w' ∧ Below w.heap.size w w'
set_option maxRecDepth 100000 in
theorem drawPut_any (a : Option Addr) (len cap : Nat) (z : List Int) (w : World) (h : CodeIn a len z w) : Calls Try.prog 11 #[.slice a len cap] w (FourM w) := by
  go_enter Try.func11, Try.ntmps11
  go_wp2_with fail
  refine (newC a len cap z _ h).mono ?_
  rintro e w1 ⟨c, rfl, hc, hC1, hb1⟩
  have hcw := hC1.lt
  go_wp2_with fail
  refine (pickLit _ c [0, 1, 2, 2, 3] 5 rfl (by omega) (by omega) _ hC1 _ rfl).mono ?_
  rintro e w2 ⟨x2, h2, rfl, hC2, hO2⟩
  clear h2
  go_wp2_with fail
  refine (mem_any _ c _ hC2).mono ?_
  rintro e w3 ⟨v, l, rfl, hl, hv, hC3, hO3⟩
  have hcl := Nat.lt_of_lt_of_le hcw hO2.size
  have hO03 := hO2.trans hO3
  go_wp2_with fail
  refine (belowC _ c 22 (by omega) (by omega) _ hC3).mono ?_
  rintro e w4 ⟨x4, ⟨h40, h41⟩, rfl, hC4, hO4⟩
  have hO04 := hO03.trans hO4
  have hv4 := ownI_only hv hO4 hcl
  clear hv
  go_wp2_with fail
  refine (value_any _ c _ _ hC4).mono ?_
  rintro e w5 ⟨x5, _, rfl, hC5, hO5⟩
  have hO05 := hO04.trans hO5
  have hv5 := Lib.hid (ownI_only hv4 hO5 hcl)
  clear hv4
  go_wp2
  refine bodyPost_ret (results4 rfl _ _ _) rfl ?_
  exact ⟨v, l, _, _, _, rfl, hl, hv5.out.mono (Nat.le_trans hb1.size hO2.size), hO05.below hb1 hc⟩
def FourI (w : World) (e : Ending) (w' : World) : Prop := ∃ x y z u : Int, e = .returned (.tuple #[.int .i64 x, .int .i64 y, .int .i64 z, .int .i64 u]) ∧ Below w.heap.size w w'
set_option maxRecDepth 100000 in
theorem drawMerge_any (a : Option Addr) (len cap : Nat) (z : List Int) (w : World) (h : CodeIn a len z w) : Calls Try.prog 18 #[.slice a len cap] w (FourI w) := by
  go_enter Try.func18, Try.ntmps18
  go_wp2_with fail
  refine (newC a len cap z _ h).mono ?_
  rintro e w1 ⟨c, rfl, hc, hC1, hb1⟩
  go_wp2_with fail
  refine (pickLit _ c [0, 1, 2, 3] 4 rfl (by omega) (by omega) _ hC1 _ rfl).mono ?_
  rintro e w2 ⟨x2, h2, rfl, hC2, hO2⟩
  clear h2
  go_wp2_with fail
  refine (value_any _ c _ _ hC2).mono ?_
  rintro e w3 ⟨x3, _, rfl, hC3, hO3⟩
  have hO03 := hO2.trans hO3
  go_wp2_with fail
  refine (value_any _ c _ _ hC3).mono ?_
  rintro e w4 ⟨x4, _, rfl, hC4, hO4⟩
  have hO04 := hO03.trans hO4
  go_wp2_with fail
  refine (belowC _ c 9 (by omega) (by omega) _ hC4).mono ?_
  rintro e w5 ⟨x5, ⟨h50, h51⟩, rfl, hC5, hO5⟩
  have hO05 := hO04.trans hO5
  go_wp2
  refine bodyPost_ret (results4 rfl _ _ _) rfl ?_
  exact ⟨_, _, _, _, rfl, hO05.below hb1 hc⟩
end Go.Proofs.Ytjninjlmjllcoaa.Cur
