/-
  For every list of numbers and every three numbers the program's PutNum answers as its model does, leaves the list as it was, and what it answers lies in memory of its own. No condition.
-/
import Derived.Test.YtjninjlmjllcoaaRows
import Derived.WalkKit
import Derived.Test.YtjninjlmjllcoaaLane4
import Derived.Test.YtjninjlmjllcoaaEq
import Derived.ProofKit
import Derived.OpenShut
import Derived.ShutString
import Derived.ChangeOld
import Derived.Below
namespace Go.Proofs.Ytjninjlmjllcoaa.fnExactPutNum
open Go.ChangeShapes Go.WideShapes Go.ChangeAt Go.RowKit
open Go.ChangeMaps (open_string shut_string)
set_option linter.unusedVariables false

theorem own : ownKnob Try.prog.godebug = none := by kernel_rfl
theorem laidOut : laidOutB Try.prog = true := by kernel_rfl

def IsRow (k : IntKind) (w : World) (a : Option Addr) (len cap : Nat) (zs : List Int) : Prop :=
  (a = none ∧ len = 0 ∧ cap = 0 ∧ zs = []) ∨
  ∃ x, a = some x ∧ len ≤ cap ∧ cap ≤ maxLen ∧ zs.length = cap ∧ (∀ i, i < zs.length → w.cell? (x.add i) = some (.int k (zs.getD i 0))) ∧ ∀ n ∈ zs, (Lit.int k n).wf = true

open Num Rows3
set_option maxHeartbeats 1000000 in
set_option maxRecDepth 100000 in
theorem walk (a0 : Option Addr) (len0 cap0 : Nat) (z0 : List Int) (a1 : Int) (a2 : Int) (a3 : Int) (w : World) (w0 : IsRow .i64 w a0 len0 cap0 z0) (w1 : (Lit.int .i64 a1).wf = true) (w2 : (Lit.int .i64 a2).wf = true) (w3 : (Lit.int .i64 a3).wf = true) :
    Calls Try.prog 7 #[.slice a0 len0 cap0, .int .i64 a1, .int .i64 a2, .int .i64 a3] w fun e w' => e = .returned (.bool true) ∧ Below w.heap.size w w' := by
  by_cases hbig : 1048576 < len0
  · clear w0
    go_enter Try.func7, Try.ntmps7
    go_wp2
    go_ret
    exact ⟨rfl, Below.refl _ _⟩
  · obtain ⟨l, hl, hr⟩ := rdIn w0
    obtain ⟨p, hp⟩ : ∃ p, putW l a1 a2 a3 = p := ⟨_, rfl⟩
    have hpl := putW_length l a1 a2 a3
    rw [hp] at hpl
    have hl2 : Hid (l.length ≤ 2000000) := Lib.hid (by omega)
    have hp2 : Hid (p.length ≤ 2000000) := Lib.hid (by omega)
    obtain ⟨T, hT⟩ : ∃ T, putB l a1 a2 a3 = T := ⟨_, rfl⟩
    have HP := Lib.hid hp
    have HT := Lib.hid hT
    have Hr := Lib.hid hr
    have hbg : len0 ≤ 1048576 := by omega
    have htt : (T != T) = false := by simp
    have hlp := Lib.hid hpl
    have hll := Lib.hid hl
    clear w0 hr hl hbig hp hT hpl
    go_enter Try.func7, Try.ntmps7
    go_wp2_with fail
    refine (toInts_any _ l hl2.out _ Hr.out).mono ?_
    rintro e w1 ⟨v1, rfl, ho1, hb1⟩
    have H1 := Lib.hid ho1
    clear ho1
    go_wp2_with fail
    refine (specPut _ _ l hl2.out _ _ _ _ H1.out).mono ?_
    rintro e w2 ⟨vw, rfl, how, hb2⟩
    rw [HP.out] at how
    rw [HT.out]
    have hb02 := hb1.trans (hb2.mono hb1.size)
    go_wp2_with fail
    refine (toInts_any _ l hl2.out _ (Hr.out.below hb02)).mono ?_
    rintro e w3 ⟨vx, rfl, hox, hb3⟩
    have how3 := how.later hb3
    have hb03 := hb02.trans (hb3.mono hb02.size)
    go_wp2_with fail
    refine (implPut _ _ l hl2.out _ _ _ _ hox).mono ?_
    rintro e w4 ⟨vg, rfl, hog, hb4⟩
    rw [HP.out] at hog
    rw [HT.out]
    have how4 := how3.later hb4
    have hox4 := hox.later hb4
    have hb04 := hb03.trans (hb4.mono hb03.size)
    go_wp2_with fail
    refine (eqI_same _ _ p hp2.out _ hog.rd how4.rd).mono ?_
    rintro e w5 ⟨rfl, hb5⟩
    have how5 := how4.later hb5
    have hox5 := hox4.later hb5
    have hog5 := hog.later hb5
    have hb05 := hb04.trans (hb5.mono hb04.size)
    go_wp2_with fail
    refine (toInts_any _ l hl2.out _ (Hr.out.below hb05)).mono ?_
    rintro e w6 ⟨vy, rfl, hoy, hb6⟩
    have how6 := how5.later hb6
    have hox6 := hox5.later hb6
    have hog6 := hog5.later hb6
    have hb06 := hb05.trans (hb6.mono hb05.size)
    go_wp2_with fail
    refine (eqI_same _ _ l hl2.out _ hox6.rd hoy.rd).mono ?_
    rintro e w7 ⟨rfl, hb7⟩
    have how7 := how6.later hb7
    have hox7 := hox6.later hb7
    have hog7 := hog6.later hb7
    have hb07 := hb06.trans (hb7.mono hb06.size)
    go_wp2_with fail
    refine (mark_own _ vx l 1 (by omega) (by omega) hl2.out _ hox7).mono ?_
    rintro e w8 ⟨rfl, hox8, hg8⟩
    have hb8 : Below w2.heap.size w7 w8 := (Below.refl _ w7).grown hg8 (Nat.le_trans hb3.size (Nat.le_trans hb4.size (Nat.le_trans hb5.size (Nat.le_trans hb6.size hb7.size)))) (fun k hk => (World.ownsRow.lt hox7 k hk).1)
    have how8 := how7.below hb8 (fun k hk => (World.ownsRow.lt how k hk).2)
    have hog8 := hog7.far hg8 (fun k hk e => by have h1 := (World.ownsRow.lt hog k hk).1; have h2 := (World.ownsRow.lt hox k e.symm).2; omega)
    have hb08 := hb07.trans (hb8.mono (Nat.le_trans hb1.size hb2.size))
    have hk : ¬ (1 + (l.length : Int) < 0) := by omega
    go_wp2_with fail
    refine (eqI_same _ _ p hp2.out _ hog8.rd how8.rd).mono ?_
    rintro e w9 ⟨rfl, hb9⟩
    have how9 := how8.later hb9
    have hog9 := hog8.later hb9
    have hb09 := hb08.trans (hb9.mono hb08.size)
    go_wp2_with fail
    refine (mark_own _ vg p 1 (by omega) (by omega) hp2.out _ hog9).mono ?_
    rintro e w10 ⟨rfl, hog10, hg10⟩
    have hb10 : Below w3.heap.size w9 w10 := (Below.refl _ w9).grown hg10 (Nat.le_trans hb4.size (Nat.le_trans hb5.size (Nat.le_trans hb6.size (Nat.le_trans hb7.size (Nat.le_trans hg8.size hb9.size))))) (fun k hk => (World.ownsRow.lt hog9 k hk).1)
    have how10 := how9.below hb10 (fun k hk => Nat.lt_of_lt_of_le (World.ownsRow.lt how k hk).2 hb3.size)
    have hb010 := hb09.trans (hb10.mono (Nat.le_trans hb1.size (Nat.le_trans hb2.size hb3.size)))
    have hq : ((1 + (p.length : Int)) != (1 + (p.length : Int))) = false := by simp
    go_wp2_with fail
    refine (held_same vg 1 p.length (by omega) (by omega) hp2.out _ hog10.rd).mono ?_
    rintro e w11 ⟨rfl, hb11⟩
    have how11 := how10.later hb11
    have hog11 := hog10.later hb11
    have hb011 := hb010.trans (hb11.mono hb010.size)
    go_wp2_with fail
    refine (toInts_any _ l hl2.out _ (Hr.out.below hb011)).mono ?_
    rintro e w12 ⟨vz, rfl, hoz, hb12⟩
    have how12 := how11.later hb12
    have hog12 := hog11.later hb12
    have hb012 := hb011.trans (hb12.mono hb011.size)
    go_wp2_with fail
    refine (implPut _ _ l hl2.out _ _ _ _ hoz).mono ?_
    rintro e w13 ⟨vh, rfl, hoh, hb13⟩
    rw [HP.out] at hoh
    rw [HT.out]
    have how13 := how12.later hb13
    have hog13 := hog12.later hb13
    have hb013 := hb012.trans (hb13.mono hb012.size)
    go_wp2_with fail
    refine (eqI_same _ _ p hp2.out _ hoh.rd how13.rd).mono ?_
    rintro e w14 ⟨rfl, hb14⟩
    have hog14 := hog13.later hb14
    have hb014 := hb013.trans (hb14.mono hb013.size)
    go_wp2_with fail
    refine (held_same vg 1 p.length (by omega) (by omega) hp2.out _ hog14.rd).mono ?_
    rintro e w15 ⟨rfl, hb15⟩
    have hb015 := hb014.trans (hb15.mono hb014.size)
    go_wp2
    go_ret
    exact ⟨rfl, hb015⟩

set_option maxRecDepth 100000 in
theorem lifted (os : Os) (started : os.Started) (H : Type) (enc : TypeId × Value → H) :
    ReturnsInHanded {} Try.checked os 7 .any (Rows.fnExactPutNumSpec.pre6 enc Try.prog Try.f7 Rows.fnExactPutNumRow.domain false) (Rows.fnExactPutNumSpec.post enc Try.prog Try.f7 false true false false) := by
  refine returnsInHanded_of_change (C := Try.checked) own started (by kernel_rfl) Try.func7
    (ChangeSpec.witness6 (enc := enc) (C := Try.checked) false ⟨#[], #[.slice none 0 0, .int .i64 0, .int .i64 0, .int .i64 0], []⟩ 8 (by kernel_rfl) (by kernel_rfl) (by kernel_rfl) (by kernel_rfl)) ?_
  intro W base args ds gs before hval0 hW hcnd _
  have hval : ∀ (j : Nat) t v, Try.f7.params[j]? = some t → args[j]? = some v → Value.okWide Try.prog W .any base t v := hval0
  have hW' := hW
  obtain ⟨p, q, hA0, hV, rfl, hfz, hnd⟩ := hW
  have hA : DataW.TrodAll enc Try.prog W 0 (fun _ => true) true Try.f7.params.toList args.toList ds p := hA0
  rw [Try.params7] at hA hval
  obtain ⟨v0, vs0, d0, ds0, p0, q0, hargs, rfl, rfl, h0, r0⟩ := trodAll_cons hA
  obtain ⟨v1, vs1, d1, ds1, p1, q1, rfl, rfl, rfl, h1, r1⟩ := trodAll_cons r0
  obtain ⟨v2, vs2, d2, ds2, p2, q2, rfl, rfl, rfl, h2, r2⟩ := trodAll_cons r1
  obtain ⟨v3, vs3, d3, ds3, p3, q3, rfl, rfl, rfl, h3, r3⟩ := trodAll_cons r2
  obtain ⟨rfl, rfl, rfl⟩ := trodAll_nil r3
  obtain rfl : args = #[v0, v1, v2, v3] := by cases args; simp_all
  obtain ⟨rfl, rfl⟩ := trodVars_none hV
  obtain ⟨a0, len0, cap0, rfl⟩ := okWide_slice Try.underlying24 (hval 0 24 v0 rfl rfl)
  have k0 := h0
  have lt0 : ∀ x ∈ p0, x.block < W.heap.size := by obtain ⟨m, hm⟩ := k0; exact DataW.trod_lt m _ _ _ hm
  obtain ⟨z0, w0⟩ : ∃ zs, IsRow .i64 W a0 len0 cap0 zs := by
    obtain ⟨fuel, hf⟩ := h0
    rcases open_ints Try.underlying24 Try.underlying3 (by kernel_rfl) hf with ⟨hcs, _⟩ | ⟨x, l, c, zs, hcs, _, hl, hm, hz, _, hcell, hwz⟩
    · simp [Value.cells] at hcs
      obtain ⟨rfl, rfl, rfl⟩ := hcs
      exact ⟨[], .inl ⟨rfl, rfl, rfl, rfl⟩⟩
    · simp [Value.cells] at hcs
      obtain ⟨rfl, rfl, rfl⟩ := hcs
      exact ⟨zs, .inr ⟨_, rfl, hl, hm, by simpa using hz, hcell, hwz⟩⟩
  obtain ⟨a1, rfl, rfl, rfl, w1⟩ := open_int Try.underlying3 (hval 1 3 v1 rfl rfl) h1
  obtain ⟨a2, rfl, rfl, rfl, w2⟩ := open_int Try.underlying3 (hval 2 3 v2 rfl rfl) h2
  obtain ⟨a3, rfl, rfl, rfl, w3⟩ := open_int Try.underlying3 (hval 3 3 v3 rfl rfl) h3
  clear hA0 hval0
  refine (walk a0 len0 cap0 z0 a1 a2 a3 W w0 w1 w2 w3).mono fun e W' ⟨he, bel⟩ => ?_
  subst he
  exact ⟨_, rfl, _, _, _, [], _, [], hW', trodAll_mk1 (shut_bool Try.underlying4 _), (trodAll_cons_mk (Below.trod laidOut (by kernel_rfl) (of_decide_eq_true (by kernel_rfl)) k0 bel lt0) (trodAll_cons_mk (shut_int Try.underlying3 w1) (trodAll_cons_mk (shut_int Try.underlying3 w2) (trodAll_cons_mk (shut_int Try.underlying3 w3) trodAll_mk0)))), rfl, bel.frame _, fun h => by cases h⟩

theorem over : Rows.fnExactPutNumRow.holds Try.pinned (OpenSpec.ofChange Rows.fnExactPutNumSpec) :=
  OpenClaim.holds_of_wide 7 Try.f7 rfl rfl rfl rfl rfl rfl rfl ⟨rfl, rfl, rfl, rfl, rfl⟩ rfl rfl rfl rfl rfl (by kernel_rfl) Try.func7 (by kernel_rfl)
    (of_decide_eq_true (by kernel_rfl)) (by unfold Func.isWrapper; first | (rw [if_pos (by decide +kernel)]; kernel_rfl) | (rw [if_neg (by decide +kernel)]; exact ⟨rfl, rfl⟩))
    (fun os started H enc _ => lifted os started H enc)

theorem proved : Rows.FnExactPutNumSaid := over
#print axioms proved
end Go.Proofs.Ytjninjlmjllcoaa.fnExactPutNum
