/-
  For every bus the program's BusOk answers as its model does, and leaves it as it was. No condition.
-/
import Derived.Test.YtdhaelaoackfkaaGreatRows
import Derived.WalkKit
import Derived.ProofKit
import Derived.OpenShut
import Derived.ShutString
import Derived.ChangeOld
import Derived.Below
import Derived.Test.YtdhaelaoackfkaaGreatKBus
import Derived.Test.YtdhaelaoackfkaaGreatOBus
import Derived.Test.YtdhaelaoackfkaaGreatGOf13
import Derived.Test.YtdhaelaoackfkaaGreatOpq
import Derived.Deep.Cut
namespace Go.Proofs.YtdhaelaoackfkaaGreat.fnExactBusOk
open Go.ChangeShapes Go.WideShapes Go.ChangeAt Go.RowKit
open Go.ChangeMaps (open_string shut_string)
set_option linter.unusedVariables false

theorem own : ownKnob Tryz.prog.godebug = none := by kernel_rfl
theorem laidOut : laidOutB Tryz.prog = true := by kernel_rfl
open KD Rows3 GR Num
set_option maxHeartbeats 8000000 in
set_option maxRecDepth 100000 in
theorem walk (u0 : List Value) (x0 : (List (Int × Bool × Int × Int) × Int × Int × Int × Int × Int) × Int × List (List (Bool × Int × Int × Int × Bool × List Int) × Int × Int × Int × Bool × Bool) × (Int × Int) × List (Int × Int) × List Int × Int × Int × Int × (Bool × Int × Int × Bool × Int × Int × Int × Bool) × (Bool × Int × Int × Bool × Int × Int × Int × Bool) × (List Int × (List Int × Int × List Int)) × Int × List (Int × Int × Bool × Int × Int × Int × Int)) (w : World) (R0 : KD.busK.rd u0 x0 w) :
    Calls Tryz.prog 3 #[.agg u0.toArray] w fun e w' => e = .returned (.bool true) ∧ Below w.heap.size w w' := by
  obtain ⟨a0, ha0⟩ : ∃ a : Array Value, u0.toArray = a := ⟨_, rfl⟩
  have HR0 : Hid (busK.rd a0.toList x0 w) := Lib.hid (by rw [← ha0]; simpa using R0)
  have hi0 : Hid ((Tryz.prog.info? 38).map (·.size) = some a0.size) := Lib.hid (by rw [rd_size HR0.out]; kernel_rfl)
  rw [ha0]
  clear ha0 R0
  have hsz : ∀ (w : World) o, (w.alloc o).heap.size = w.heap.size + 1 := fun w o => by simp
  obtain ⟨z0, hz0⟩ : ∃ z, (w.alloc (Obj.cells a0 38)) = z := ⟨_, rfl⟩
  have A0 := Bx.new 38 a0 w
  rw [hz0] at A0
  have A0_0 := Lib.hid A0
  clear A0
  have HB := (Below.refl w.heap.size w).alloc (Nat.le_refl _) (Obj.cells a0 38)
  rw [hz0] at HB
  have HB_0 := Lib.hid HB
  clear HB hsz
  obtain ⟨M0, hM0⟩ : ∃ M, szW 1048576 (busK.sz x0) = M := ⟨_, rfl⟩
  have hb0 := szW_bd 1048576 (busK.sz x0) (by omega)
  rw [hM0] at hb0
  obtain ⟨hb0a, hb0b⟩ := hb0
  have HM0 := Lib.hid hM0
  by_cases c0 : M0 < 0
  · clear hM0
    go_enter Tryz.func3, Tryz.ntmps3
    repeat (first | (refine wp_load_row 38 _ rfl (w.heap.size) rfl 38 a0 (0, 0) _ A0_0.out Tryz.underlying38 rfl hi0.out ?_) | go_values | go_skip | go_guarded | go_step | go_upon | go_back)
    refine (sz_at szBus (busK.rd_later HR0.out HB_0.out) (by omega) (by omega)).mono ?_
    rintro e z1 ⟨rfl, hb⟩
    rw [HM0.out]
    dsimp only
    have A0_1 := Lib.hid (A0_0.out.later hb)
    have HB_1 := Lib.hid (HB_0.out.trans (hb.mono HB_0.out.size))
    clear A0_0 HB_0
    clear hb
    repeat (first | go_values | go_skip | go_guarded | go_step | go_upon | go_back)
    go_ret
    exact ⟨rfl, HB_1.out⟩
  · have hft0 := szW_fit (show ¬ szW 1048576 (busK.sz x0) < 0 by rw [hM0]; exact c0)
    have hs0 : Hid (busK.sz x0 ≤ 2000000) := Lib.hid (by omega)
    clear hM0 hft0
    obtain ⟨D, hD⟩ : ∃ D, tt (GoodBus x0) = D := ⟨_, rfl⟩
    have HD := Lib.hid hD
    have nD : (D != D) = false := by simp
    clear hD
    go_enter Tryz.func3, Tryz.ntmps3
    repeat (first | (refine wp_load_row 38 _ rfl (w.heap.size) rfl 38 a0 (0, 0) _ A0_0.out Tryz.underlying38 rfl hi0.out ?_) | go_values | go_skip | go_guarded | go_step | go_upon | go_back)
    refine (sz_at szBus (busK.rd_later HR0.out HB_0.out) (by omega) (by omega)).mono ?_
    rintro e z1 ⟨rfl, hb⟩
    rw [HM0.out]
    dsimp only
    have A0_1 := Lib.hid (A0_0.out.later hb)
    have HB_1 := Lib.hid (HB_0.out.trans (hb.mono HB_0.out.size))
    clear A0_0 HB_0
    clear hb
    clear hz0
    repeat (first | (refine wp_load_row 38 _ rfl (w.heap.size) rfl 38 a0 (0, 0) _ A0_1.out Tryz.underlying38 rfl hi0.out ?_) | go_values | go_skip | go_guarded | go_step | go_upon | go_back)
    refine (to_at toBus hs0.out (busK.rd_later HR0.out HB_1.out)).mono ?_
    rintro e z2 ⟨us, rfl, hc, hb⟩
    dsimp only
    have A0_2 := Lib.hid (A0_1.out.later hb)
    have HB_2 := Lib.hid (HB_1.out.trans (hb.mono HB_1.out.size))
    clear A0_1 HB_1
    have hq := specBusOk us.toList x0 hs0.out _ (busK.cap_rd hc)
    unfold agg at hq
    rw [Array.toArray_toList] at hq
    repeat (first | go_values | go_skip | go_guarded | go_step | go_upon | go_back)
    refine hq.mono ?_
    rw [HD.out]
    rintro e z3 ⟨rfl, hb2⟩
    dsimp only
    clear hq hc hb
    have A0_3 := Lib.hid (A0_2.out.later hb2)
    have HB_3 := Lib.hid (HB_2.out.trans (hb2.mono HB_2.out.size))
    clear A0_2 HB_2
    clear hb2
    obtain ⟨zrBus, hzrBus⟩ : ∃ z : Array Value, #[.slice none 0 0, .int .i64 0, .int .i64 0, .int .i64 0, .int .i64 0, .int .i64 0, .int .i64 0, .slice none 0 0, .int .i64 0, .int .i64 0, .slice none 0 0, .slice none 0 0, .int .i64 0, .int .i64 0, .int .i64 0, .bool false, .int .i64 0, .int .i64 0, .bool false, .int .i64 0, .int .i64 0, .int .i64 0, .bool false, .bool false, .int .i64 0, .int .i64 0, .bool false, .int .i64 0, .int .i64 0, .int .i64 0, .bool false, .slice none 0 0, .slice none 0 0, .int .i64 0, .slice none 0 0, .int .i64 0, .slice none 0 0] = z := ⟨_, rfl⟩
    repeat (first | (refine wp_load_row 38 _ rfl (w.heap.size) rfl 38 a0 (0, 0) _ A0_3.out Tryz.underlying38 rfl hi0.out ?_) | go_values | go_skip | go_guarded | go_step | go_upon | go_back)
    refine (to_at toBus hs0.out (busK.rd_later HR0.out HB_3.out)).mono ?_
    rintro e z4 ⟨b0, rfl, hc, hb⟩
    dsimp only
    have A0_4 := Lib.hid (A0_3.out.later hb)
    have HB_4 := Lib.hid (HB_3.out.trans (hb.mono HB_3.out.size))
    clear A0_3 HB_3
    have hj0 : Hid ((Tryz.prog.info? 53).map (·.size) = some b0.size) := Lib.hid (by rw [rd_size (busK.cap_rd hc)]; kernel_rfl)
    have ho0 : Hid (b0.all (·.oneCell') = true) := Lib.hid (bus_ones (busK.cap_rd hc))
    have hz0 : Hid ((zrBus : Array Value).size = b0.size) := Lib.hid (by rw [rd_size (busK.cap_rd hc), ← hzrBus]; rfl)
    have hal := (Below.refl z4.heap.size z4).alloc (Nat.le_refl _) (Obj.cells zrBus 53)
    have hT : Below z4.heap.size z4 ((z4.alloc (Obj.cells zrBus 53)).setRow z4.heap.size b0) := below_setRow hal (Nat.le_refl _) b0
    have Xn : busK.rd b0.toList x0 ((z4.alloc (Obj.cells zrBus 53)).setRow z4.heap.size b0) := busK.rd_later (busK.cap_rd hc) hT
    have Bn : Bx 53 z4.heap.size b0 ((z4.alloc (Obj.cells zrBus 53)).setRow z4.heap.size b0) := bx_row (Bx.new 53 zrBus z4)
    have A0_5 := Lib.hid (A0_4.out.later hT)
    have HB_5 := Lib.hid (HB_4.out.trans (hT.mono HB_4.out.size))
    clear A0_4 HB_4
    have X0_5 := Lib.hid Xn
    have BX0_5 := Lib.hid Bn
    clear Xn Bn hT hal hc hb
    skip
    repeat (first | (refine wp_store_row 53 _ _ rfl z4.heap.size b0 rfl rfl 53 zrBus (Bx.new _ _ _) hj0.out hz0.out ho0.out ?_) | (refine wp_load_row 53 _ rfl z4.heap.size rfl 53 b0 (0, 0) _ BX0_5.out Tryz.underlying53 rfl hj0.out ?_) | go_values | go_skip | go_guarded | go_step | go_upon | go_back)
    generalize ((z4.alloc (Obj.cells zrBus 53)).setRow z4.heap.size b0) = z5 at A0_5 HB_5 X0_5 BX0_5 ⊢
    have hq := implBusOk b0.toList x0 hs0.out _ (X0_5.out)
    unfold agg at hq
    rw [Array.toArray_toList] at hq
    refine hq.mono ?_
    rw [HD.out]
    rintro e z6 ⟨rfl, hb⟩
    dsimp only
    clear hq
    have A0_6 := Lib.hid (A0_5.out.later hb)
    have HB_6 := Lib.hid (HB_5.out.trans (hb.mono HB_5.out.size))
    have BX0_6 := Lib.hid (BX0_5.out.later hb)
    have X0_6 := Lib.hid (busK.rd_later X0_5.out hb)
    clear A0_5 HB_5 BX0_5 X0_5
    clear hb
    go_upto_region 10 with fail
    have C0 := Lib.hid (busK.rd_later HR0.out HB_6.out)
    refine Fresh.wp_fresh (fun w1 => Below z6.heap.size z6 w1) (fun _ w1 w2 => Below w1.heap.size w1 w2) (fun i => if i = 0 then some ⟨fun v => v = .agg b0, fun _ _ => True⟩ else if i = 1 then some ⟨fun v => v = .agg a0, fun _ _ => True⟩ else if i = 2 then some ⟨fun v => ∃ a : Array Value, v = .agg a, fun v w => ∃ a : Array Value, v = .agg a ∧ busK.rd a.toList x0 w⟩ else if i = 3 then some ⟨fun v => v = .bool true, fun _ _ => True⟩ else none) (by kernel_rfl) (by kernel_rfl) (by kernel_rfl) (by kernel_rfl) ?_ (Below.refl _ _).drew ?_
    · intro i k fr hfr hik hd v w1 w2 hR hph
      by_cases k0 : k = 0
      · subst k0; cases hfr; trivial
      by_cases k1 : k = 1
      · subst k1; cases hfr; trivial
      by_cases k2 : k = 2
      · subst k2; cases hfr; obtain ⟨a, h1, h2⟩ := hph; exact ⟨a, h1, busK.rd_later h2 hR⟩
      by_cases k3 : k = 3
      · subst k3; cases hfr; trivial
      simp [k0, k1, k2, k3] at hfr
    · skip
      refine Fresh.step_fresh _ rfl rfl ?_ ⟨_, rfl⟩ ?_
      · rintro w7 hC7 -
        exact load_upon 53 _ rfl z4.heap.size rfl (BX0_6.out.later hC7) Tryz.underlying53 rfl hj0.out ⟨rfl, trivial, Below.refl _ _, hC7⟩
      rintro v rfl
      refine Fresh.step_fresh _ rfl rfl ?_ ⟨_, rfl⟩ ?_
      · rintro w7 hC7 -
        exact load_upon 38 _ rfl (w.heap.size) rfl (A0_6.out.later hC7) Tryz.underlying38 rfl hi0.out ⟨rfl, trivial, Below.refl _ _, hC7⟩
      rintro v rfl
      refine Fresh.step_fresh _ rfl rfl ?_ ⟨_, a0, rfl⟩ ?_
      · rintro w7 hC7 -
        go_simp
        refine Fresh.enter_of ((to_at toBus hs0.out (busK.rd_later C0.out hC7)).mono ?_)
        rintro e w8 ⟨us, he, hc, hb⟩
        exact ⟨_, he, ⟨us, rfl⟩, ⟨us, rfl, busK.cap_rd hc⟩, hb, hC7.trans (hb.mono hC7.size)⟩
      rintro v ⟨c0, rfl⟩
      refine Fresh.step_fresh _ rfl rfl ?_ ⟨_, rfl⟩ ?_
      · rintro w7 hC7 hF
        obtain ⟨d0, e0, r0⟩ : ∃ a : Array Value, Value.agg c0 = .agg a ∧ busK.rd a.toList x0 w7 := hF 2 (by kernel_rfl)
        cases e0
        go_simp
        refine Fresh.enter_of ((eq_at eqBus hs0.out (busK.rd_later X0_6.out hC7) r0).mono ?_)
        rintro e w8 ⟨he, hb⟩
        exact ⟨_, he, rfl, trivial, hb, hC7.trans (hb.mono hC7.size)⟩
      rintro v rfl
      go_simp
      refine Fresh.step_plain rfl rfl rfl (fun K hK => ?_)
      go_big_quiet_op
      first | refine hK _ ?_ | refine ⟨_, fun _ _ => rfl, hK _ ?_⟩
      clear hK K
      refine Fresh.step_end (fun z7 hC8 hF => ?_)
      go_simp
      clear hF C0
      have A0_7 := Lib.hid (A0_6.out.later hC8)
      have HB_7 := Lib.hid (HB_6.out.trans (hC8.mono HB_6.out.size))
      have BX0_7 := Lib.hid (BX0_6.out.later hC8)
      have X0_7 := Lib.hid (busK.rd_later X0_6.out hC8)
      clear A0_6 HB_6 BX0_6 X0_6
      clear hC8
      repeat (first | go_values | go_skip | go_guarded | go_step | go_upon | go_back)
      go_ret
      exact ⟨rfl, HB_7.out⟩

set_option maxRecDepth 100000 in
set_option maxRecDepth 100000 in
theorem lifted (os : Os) (started : os.Started) (H : Type) (enc : TypeId × Value → H) :
    ReturnsInHanded {} Tryz.checked os 3 .any (Rows.fnExactBusOkSpec.pre6 enc Tryz.prog Tryz.f3 Rows.fnExactBusOkRow.domain false) (Rows.fnExactBusOkSpec.post enc Tryz.prog Tryz.f3 false true false false) := by
  refine returnsInHanded_of_change (C := Tryz.checked) own started (by kernel_rfl) Tryz.func3
    (ChangeSpec.witness6 (enc := enc) (C := Tryz.checked) false ⟨#[], #[.agg #[.slice none 0 0, .int .i64 0, .int .i64 0, .int .i64 0, .int .i64 0, .int .i64 0, .int .i64 0, .slice none 0 0, .int .i64 0, .int .i64 0, .slice none 0 0, .slice none 0 0, .int .i64 0, .int .i64 0, .int .i64 0, .bool false, .int .i64 0, .int .i64 0, .bool false, .int .i64 0, .int .i64 0, .int .i64 0, .bool false, .bool false, .int .i64 0, .int .i64 0, .bool false, .int .i64 0, .int .i64 0, .int .i64 0, .bool false, .slice none 0 0, .slice none 0 0, .int .i64 0, .slice none 0 0, .int .i64 0, .slice none 0 0]], []⟩ 8 (by kernel_rfl) (by kernel_rfl) (by kernel_rfl) (by kernel_rfl)) ?_
  intro W base args ds gs before hval0 hW hcnd _
  have hval : ∀ (j : Nat) t v, Tryz.f3.params[j]? = some t → args[j]? = some v → Value.okWide Tryz.prog W .any base t v := hval0
  have hW' := hW
  obtain ⟨p, q, hA0, hV, rfl, hfz, hnd⟩ := hW
  have hA : DataW.TrodAll enc Tryz.prog W 0 (fun _ => true) true Tryz.f3.params.toList args.toList ds p := hA0
  rw [Tryz.params3] at hA hval
  obtain ⟨v0, vs0, d0, ds0, p0, q0, hargs, rfl, rfl, h0, r0⟩ := trodAll_cons hA
  obtain ⟨rfl, rfl, rfl⟩ := trodAll_nil r0
  obtain rfl : args = #[v0] := by cases args; simp_all
  obtain ⟨rfl, rfl⟩ := trodVars_none hV
  have k0 := h0
  have lt0 : ∀ x ∈ p0, x.block < W.heap.size := by obtain ⟨m, hm⟩ := k0; exact DataW.trod_lt m _ _ _ hm
  obtain ⟨u0, x0, rfl, R0⟩ := KD.open_bus (hval 0 38 v0 rfl rfl) h0
  clear hA0 hval0
  refine (walk u0 x0 W R0).mono fun e W' ⟨he, bel⟩ => ?_
  subst he
  exact ⟨_, rfl, _, _, _, [], _, [], hW', trodAll_mk1 (shut_bool Tryz.underlying4 _), (trodAll_cons_mk (Below.trod laidOut (by kernel_rfl) (of_decide_eq_true (by kernel_rfl)) k0 bel lt0) trodAll_mk0), rfl, bel.frame _, fun h => by cases h⟩

theorem over : Rows.fnExactBusOkRow.holds Tryz.pinned (OpenSpec.ofChange Rows.fnExactBusOkSpec) :=
  OpenClaim.holds_of_wide 3 Tryz.f3 rfl rfl rfl rfl rfl rfl rfl ⟨rfl, rfl, rfl, rfl, rfl⟩ rfl rfl rfl rfl rfl (by kernel_rfl) Tryz.func3 (by kernel_rfl)
    (of_decide_eq_true (by kernel_rfl)) (by unfold Func.isWrapper; first | (rw [if_pos (by decide +kernel)]; kernel_rfl) | (rw [if_neg (by decide +kernel)]; exact ⟨rfl, rfl⟩))
    (fun os started H enc _ => lifted os started H enc)

theorem proved : Rows.FnExactBusOkSaid := over
#print axioms proved
end Go.Proofs.YtdhaelaoackfkaaGreat.fnExactBusOk
