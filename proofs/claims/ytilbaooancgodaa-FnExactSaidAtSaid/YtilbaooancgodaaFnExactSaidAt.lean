/-
  For every script and every number the program's SaidAt answers as its model does, and leaves the script as it was. No condition.
-/
import Derived.Test.YtilbaooancgodaaRows
import Derived.WalkKit
import Derived.ProofKit
import Derived.OpenShut
import Derived.ShutString
import Derived.ChangeOld
import Derived.Below
import Derived.Test.YtilbaooancgodaaPost3
import Derived.Test.YtilbaooancgodaaPost4
import Derived.Test.YtilbaooancgodaaScript1
import Derived.Test.YtilbaooancgodaaOpenScript
import Derived.Deep.RegionHeld3
namespace Go.Proofs.Ytilbaooancgodaa.fnExactSaidAt
open Go.ChangeShapes Go.WideShapes Go.ChangeAt Go.RowKit
open Go.ChangeMaps (open_string shut_string)
set_option linter.unusedVariables false

theorem own : ownKnob Try.prog.godebug = none := by kernel_rfl
theorem laidOut : laidOutB Try.prog = true := by kernel_rfl
open Num GR Rows3
set_option maxHeartbeats 4000000 in
set_option maxRecDepth 100000 in
theorem walk (u0 wv0 sv0 : Value) (l0 : List Num.PC) (wl0 sl0 : List Int) (a1 : Int) (w : World) (R0 : Num.RdP u0 l0 w) (Rw0 : Rows3.RdI wv0 wl0 w) (Rs0 : Rows3.RdI sv0 sl0 w) (hl0 : l0.length ≤ 9223372036854775807) (hd0 : ∀ y ∈ l0, y.da.length ≤ 9223372036854775807) (hw0 : wl0.length ≤ 9223372036854775807) (hs0 : sl0.length ≤ 9223372036854775807) (w1 : (Lit.int .i64 a1).wf = true) :
    Calls Try.prog 5 #[.agg #[u0, wv0, sv0], .int .i64 a1] w fun e w' => e = .returned (.bool true) ∧ Below w.heap.size w w' := by
  have HR := Lib.hid R0
  have HW := Lib.hid Rw0
  have HS := Lib.hid Rs0
  have HD := Lib.hid hd0
  obtain ⟨ad0, cap0, rfl⟩ := R0.slice
  obtain ⟨ad1, cap1, rfl, hq1⟩ := Rw0
  obtain ⟨ad2, cap2, rfl, hq2⟩ := Rs0
  clear hq1 hq2 R0 hd0
  obtain ⟨S, hS⟩ : ∃ S, szS 1048576 l0 wl0.length sl0.length = S := ⟨_, rfl⟩
  have hSb := szS_bd l0 wl0.length sl0.length (L := 1048576) (by omega)
  rw [hS] at hSb
  obtain ⟨hSb0, hSb1⟩ := hSb
  have HSz := Lib.hid hS
  by_cases hbig : S < 0
  · clear hS
    go_enter Try.func5, Try.ntmps5
    go_wp2_with fail
    refine (szScript_any _ _ _ l0 wl0.length sl0.length 1048576 _ (HR.out.alloc _) ⟨_, _, rfl⟩ ⟨_, _, rfl⟩ (by omega) (by omega) hl0 HD.out hw0 hs0).mono ?_
    rintro e w1 ⟨rfl, hb1⟩
    rw [HSz.out]
    go_wp2
    go_ret
    exact ⟨rfl, GR.below_alloc1 (Below.refl _ _) (Nat.le_refl _) hb1⟩
  · have hfit := szS_fit (L := 1048576) (l := l0) (a := wl0.length) (b := sl0.length) (by rw [hS]; exact hbig) (by omega)
    have N0 : Hid (l0.length ≤ 2000000) := Lib.hid (by omega)
    have N1 : Hid (wl0.length ≤ 2000000) := Lib.hid (by omega)
    have N2 : Hid (sl0.length ≤ 2000000) := Lib.hid (by omega)
    have N3 : Hid (∀ y ∈ l0, y.da.length ≤ 2000000) := Lib.hid (fun y hy => by have := lenP_mem hy; omega)
    have B0 := Bx.new 28 #[.slice ad0 l0.length cap0, .slice ad1 wl0.length cap1, .slice ad2 sl0.length cap2] w
    obtain ⟨V, hV⟩ : ∃ V, saidW (atW sl0 a1) = V := ⟨_, rfl⟩
    have HV := Lib.hid hV
    have hVV : (V != V) = false := by simp
    clear hS hfit hV
    go_enter Try.func5, Try.ntmps5
    go_wp2_with fail
    refine (szScript_any _ _ _ l0 wl0.length sl0.length 1048576 _ (HR.out.alloc _) ⟨_, _, rfl⟩ ⟨_, _, rfl⟩ (by omega) (by omega) hl0 HD.out hw0 hs0).mono ?_
    rintro e w1 ⟨rfl, hb1⟩
    rw [HSz.out]
    obtain ⟨g0, g1, g2⟩ := cells3 (B0.later hb1)
    have B1 := Lib.hid (B0.later hb1)
    have Hb1 := Lib.hid (GR.below_alloc1 (Below.refl w.heap.size w) (Nat.le_refl _) hb1)
    clear hb1 B0
    go_wp2_with fail
    refine (toScript_any _ _ _ l0 wl0 sl0 N0.out N3.out N1.out N2.out _ (HR.out.below Hb1.out) (HW.out.below Hb1.out) (HS.out.below Hb1.out)).mono ?_
    rintro e w2 ⟨u2, wv2, sv2, rfl, ho2, ho2w, ho2s, hb2⟩
    have B2 := Lib.hid (B1.out.later hb2)
    have Hb2 := Lib.hid (Hb1.out.trans (hb2.mono Hb1.out.size))
    have P2 := Lib.hid ho2
    have Q2 := Lib.hid ho2w
    have R2 := Lib.hid ho2s
    clear hb2 g0 g1 g2 ho2 ho2w ho2s
    go_wp2_with fail
    refine (specSaid _ _ _ sl0 a1 N2.out _ R2.out.rd).mono ?_
    rintro e w3 ⟨rfl, hb3⟩
    rw [HV.out]
    obtain ⟨g0, g1, g2⟩ := cells3 (B2.out.later hb3)
    have B3 := Lib.hid (B2.out.later hb3)
    have Hb3 := Lib.hid (Hb2.out.trans (hb3.mono Hb2.out.size))
    clear hb3
    go_wp2_with fail
    refine (toScript_any _ _ _ l0 wl0 sl0 N0.out N3.out N1.out N2.out _ (HR.out.below Hb3.out) (HW.out.below Hb3.out) (HS.out.below Hb3.out)).mono ?_
    rintro e w4 ⟨u4, wv4, sv4, rfl, ho4, ho4w, ho4s, hb4⟩
    have B4 := Lib.hid (B3.out.later hb4)
    have Hb4 := Lib.hid (Hb3.out.trans (hb4.mono Hb3.out.size))
    have P4 := Lib.hid ho4.rd
    have Q4 := Lib.hid ho4w.rd
    have R4 := Lib.hid ho4s.rd
    obtain ⟨ad4, cap4, rfl⟩ := ho4.slice
    obtain ⟨ad5, cap5, rfl⟩ := ho4w.slice
    obtain ⟨ad6, cap6, rfl⟩ := ho4s.slice
    have X4 := Lib.hid (Bx.new 38 #[.slice ad4 l0.length cap4, .slice ad5 wl0.length cap5, .slice ad6 sl0.length cap6] w4)
    clear ho4 ho4w ho4s hb4 g0 g1 g2
    go_wp2_with fail
    refine (implSaid _ _ _ sl0 a1 N2.out _ (rdI_alloc R4.out _)).mono ?_
    rintro e w5 ⟨rfl, hb5⟩
    rw [HV.out]
    have B5 := Lib.hid ((B4.out.later ((Below.refl _ _).alloc (Nat.le_refl _) _)).later hb5)
    have X5 := Lib.hid (X4.out.later hb5)
    have P5 := Lib.hid ((P4.out.alloc _).below hb5)
    have Q5 := Lib.hid ((rdI_alloc Q4.out _).below hb5)
    have R5 := Lib.hid ((rdI_alloc R4.out _).below hb5)
    have Hb5 := Lib.hid (GR.below_alloc1 Hb4.out Hb4.out.size hb5)
    obtain ⟨g0, g1, g2⟩ := cells3 B5.out
    obtain ⟨k0, k1, k2⟩ := cells3 X5.out
    have hlt := X5.out.lt
    have hlt2 := B5.out.lt
    clear hb5 B4 B3 B2 B1 X4
    go_wp2_with fail
    go_region_held3 (fun w' => w'.cell? ⟨w.heap.size, 0, none⟩ = some (.slice ad0 l0.length cap0) ∧ w'.cell? ⟨w.heap.size, 1, none⟩ = some (.slice ad1 wl0.length cap1) ∧ w'.cell? ⟨w.heap.size, 2, none⟩ = some (.slice ad2 sl0.length cap2) ∧
      w'.cell? ⟨w4.heap.size, 0, none⟩ = some (.slice ad4 l0.length cap4) ∧ w'.cell? ⟨w4.heap.size, 1, none⟩ = some (.slice ad5 wl0.length cap5) ∧ w'.cell? ⟨w4.heap.size, 2, none⟩ = some (.slice ad6 sl0.length cap6)) (go_keep) (first
      | (go_at_call 11; refine (toScript_any _ _ _ l0 wl0 sl0 N0.out N3.out N1.out N2.out _ (HR.out.below Hb5.out.drew) (HW.out.below Hb5.out.drew) (HS.out.below Hb5.out.drew)).mono ?_; rintro e w6 ⟨u6, wv6, sv6, rfl, ho6, ho6w, ho6s, hb6⟩; have hk : ∀ i, w6.cell? ⟨w4.heap.size, i, none⟩ = w5.cell? ⟨w4.heap.size, i, none⟩ := fun i => hb6.cell (p := ⟨w4.heap.size, i, none⟩) hlt; have hk' : ∀ i, w6.cell? ⟨w.heap.size, i, none⟩ = w5.cell? ⟨w.heap.size, i, none⟩ := fun i => hb6.cell (p := ⟨w.heap.size, i, none⟩) hlt2)
      | (go_at_call 14; (refine (eqScript_same _ _ _ _ _ _ l0 wl0 sl0 N0.out N3.out N1.out N2.out _ ((show RdP (.slice ad4 l0.length cap4) l0 w5.drew from P5.out).below hb6) ((show RdI (.slice ad5 wl0.length cap5) wl0 w5.drew from Q5.out).below hb6) ((show RdI (.slice ad6 sl0.length cap6) sl0 w5.drew from R5.out).below hb6) ho6.rd ho6w.rd ho6s.rd).mono ?_); rintro e w7 ⟨rfl, hb7⟩; have hk2 : ∀ i, w7.cell? ⟨w4.heap.size, i, none⟩ = w6.cell? ⟨w4.heap.size, i, none⟩ := fun i => hb7.cell (p := ⟨w4.heap.size, i, none⟩) (Nat.lt_of_lt_of_le hlt hb6.size); have hk2' : ∀ i, w7.cell? ⟨w.heap.size, i, none⟩ = w6.cell? ⟨w.heap.size, i, none⟩ := fun i => hb7.cell (p := ⟨w.heap.size, i, none⟩) (Nat.lt_of_lt_of_le hlt2 hb6.size)))
    all_goals
      go_wp2
      go_ret
      exact ⟨rfl, (Hb5.out.drew.trans (hb6.mono Hb5.out.size)).trans (hb7.mono (Nat.le_trans Hb5.out.size hb6.size))⟩

set_option maxRecDepth 100000 in
set_option maxRecDepth 100000 in
theorem lifted (os : Os) (started : os.Started) (H : Type) (enc : TypeId × Value → H) :
    ReturnsInHanded {} Try.checked os 5 .any (Rows.fnExactSaidAtSpec.pre6 enc Try.prog Try.f5 Rows.fnExactSaidAtRow.domain false) (Rows.fnExactSaidAtSpec.post enc Try.prog Try.f5 false true false false) := by
  refine returnsInHanded_of_change (C := Try.checked) own started (by kernel_rfl) Try.func5
    (ChangeSpec.witness6 (enc := enc) (C := Try.checked) false ⟨#[], #[.agg #[.slice none 0 0, .slice none 0 0, .slice none 0 0], .int .i64 0], []⟩ 8 (by kernel_rfl) (by kernel_rfl) (by kernel_rfl) (by kernel_rfl)) ?_
  intro W base args ds gs before hval0 hW hcnd _
  have hval : ∀ (j : Nat) t v, Try.f5.params[j]? = some t → args[j]? = some v → Value.okWide Try.prog W .any base t v := hval0
  have hW' := hW
  obtain ⟨p, q, hA0, hV, rfl, hfz, hnd⟩ := hW
  have hA : DataW.TrodAll enc Try.prog W 0 (fun _ => true) true Try.f5.params.toList args.toList ds p := hA0
  rw [Try.params5] at hA hval
  obtain ⟨v0, vs0, d0, ds0, p0, q0, hargs, rfl, rfl, h0, r0⟩ := trodAll_cons hA
  obtain ⟨v1, vs1, d1, ds1, p1, q1, rfl, rfl, rfl, h1, r1⟩ := trodAll_cons r0
  obtain ⟨rfl, rfl, rfl⟩ := trodAll_nil r1
  obtain rfl : args = #[v0, v1] := by cases args; simp_all
  obtain ⟨rfl, rfl⟩ := trodVars_none hV
  have k0 := h0
  have lt0 : ∀ x ∈ p0, x.block < W.heap.size := by obtain ⟨m, hm⟩ := k0; exact DataW.trod_lt m _ _ _ hm
  obtain ⟨u0, wv0, sv0, l0, wl0, sl0, rfl, R0, Rw0, Rs0, hl0, hd0, hw0, hs0⟩ := GR.open_script (hval 0 28 v0 rfl rfl) h0
  obtain ⟨a1, rfl, rfl, rfl, w1⟩ := open_int Try.underlying3 (hval 1 3 v1 rfl rfl) h1
  clear hA0 hval0
  refine (walk u0 wv0 sv0 l0 wl0 sl0 a1 W R0 Rw0 Rs0 hl0 hd0 hw0 hs0 w1).mono fun e W' ⟨he, bel⟩ => ?_
  subst he
  exact ⟨_, rfl, _, _, _, [], _, [], hW', trodAll_mk1 (shut_bool Try.underlying4 _), (trodAll_cons_mk (Below.trod laidOut (by kernel_rfl) (of_decide_eq_true (by kernel_rfl)) k0 bel lt0) (trodAll_cons_mk (shut_int Try.underlying3 w1) trodAll_mk0)), rfl, bel.frame _, fun h => by cases h⟩

theorem over : Rows.fnExactSaidAtRow.holds Try.pinned (OpenSpec.ofChange Rows.fnExactSaidAtSpec) :=
  OpenClaim.holds_of_wide 5 Try.f5 rfl rfl rfl rfl rfl rfl rfl ⟨rfl, rfl, rfl, rfl, rfl⟩ rfl rfl rfl rfl rfl (by kernel_rfl) Try.func5 (by kernel_rfl)
    (of_decide_eq_true (by kernel_rfl)) (by unfold Func.isWrapper; first | (rw [if_pos (by decide +kernel)]; kernel_rfl) | (rw [if_neg (by decide +kernel)]; exact ⟨rfl, rfl⟩))
    (fun os started H enc _ => lifted os started H enc)

theorem proved : Rows.FnExactSaidAtSaid := over
#print axioms proved
end Go.Proofs.Ytilbaooancgodaa.fnExactSaidAt
