/-
  For every configuration the program's BusNew answers as its model does, leaves it as it was, and what it answers lies in memory of its own. No condition.
-/
import Derived.Test.YtdhaelaoackfkaaRows
import Derived.WalkKit
import Derived.ProofKit
import Derived.OpenShut
import Derived.ShutString
import Derived.ChangeOld
import Derived.Below
import Derived.Test.YtdhaelaoackfkaaKBus
import Derived.Test.YtdhaelaoackfkaaGO13
import Derived.Test.YtdhaelaoackfkaaBNew5
import Derived.Test.YtdhaelaoackfkaaOpq
import Derived.Deep.Cut
namespace Go.Proofs.Ytdhaelaoackfkaa.fnExactBusNew
open Go.ChangeShapes Go.WideShapes Go.ChangeAt Go.RowKit
open Go.ChangeMaps (open_string shut_string)
set_option linter.unusedVariables false

theorem own : ownKnob Try.prog.godebug = none := by kernel_rfl
theorem laidOut : laidOutB Try.prog = true := by kernel_rfl
open KD Rows3 GR Num
set_option maxHeartbeats 8000000 in
set_option maxRecDepth 100000 in
theorem walk (u0 : List Value) (x0 : List (Int × Bool × Int × Int) × Int × Int × Int × Int × Int) (w : World) (R0 : KD.confK.rd u0 x0 w) :
    Calls Try.prog 3 #[.agg u0.toArray] w fun e w' => e = .returned (.bool true) ∧ Below w.heap.size w w' := by
  obtain ⟨a0, ha0⟩ : ∃ a : Array Value, u0.toArray = a := ⟨_, rfl⟩
  have HR0 : Hid (confK.rd a0.toList x0 w) := Lib.hid (by rw [← ha0]; simpa using R0)
  have hi0 : Hid ((Try.prog.info? 24).map (·.size) = some a0.size) := Lib.hid (by rw [rd_size HR0.out]; kernel_rfl)
  rw [ha0]
  clear ha0 R0
  have hsz : ∀ (w : World) o, (w.alloc o).heap.size = w.heap.size + 1 := fun w o => by simp
  obtain ⟨z0, hz0⟩ : ∃ z, (w.alloc (Obj.cells a0 24)) = z := ⟨_, rfl⟩
  have A0 := Bx.new 24 a0 w
  rw [hz0] at A0
  have A0_0 := Lib.hid A0
  clear A0
  have HB := (Below.refl w.heap.size w).alloc (Nat.le_refl _) (Obj.cells a0 24)
  rw [hz0] at HB
  have HB_0 := Lib.hid HB
  clear HB hsz
  obtain ⟨M0, hM0⟩ : ∃ M, szW 1048576 (confK.sz x0) = M := ⟨_, rfl⟩
  have hb0 := szW_bd 1048576 (confK.sz x0) (by omega)
  rw [hM0] at hb0
  obtain ⟨hb0a, hb0b⟩ := hb0
  have HM0 := Lib.hid hM0
  by_cases c0 : M0 < 0
  · clear hM0
    go_enter Try.func3, Try.ntmps3
    repeat (first | (refine wp_load_row 24 _ rfl (w.heap.size) rfl 24 a0 (0, 0) _ A0_0.out Try.underlying24 rfl hi0.out ?_) | go_values | go_skip | go_guarded | go_step | go_upon | go_back)
    refine (sz_at szConf (confK.rd_later HR0.out HB_0.out) (by omega) (by omega)).mono ?_
    rintro e z1 ⟨rfl, hb⟩
    rw [HM0.out]
    dsimp only
    have A0_1 := Lib.hid (A0_0.out.later hb)
    have HB_1 := Lib.hid (HB_0.out.trans (hb.mono HB_0.out.size))
    clear A0_0 HB_0
    clear hb
    repeat (first | go_values | go_skip | go_guarded | go_step | go_upon | go_back)
    go_ret
    exact ⟨rfl, HB_1.out⟩
  · have hft0 := szW_fit (show ¬ szW 1048576 (confK.sz x0) < 0 by rw [hM0]; exact c0)
    have hs0 : Hid (confK.sz x0 ≤ 2000000) := Lib.hid (by omega)
    have hfit0 : Hid (confK.sz x0 ≤ 1048576) := Lib.hid (by omega)
    clear hM0 hft0
    obtain ⟨D, hD⟩ : ∃ D, newBus x0 = D := ⟨_, rfl⟩
    obtain ⟨Z, N0⟩ := D
    have HD := Lib.hid hD
    have hz : Hid (busK.sz Z ≤ 2000000) := Lib.hid (by have h := newBus_sz hfit0.out; rw [HD.out] at h; exact h)
    have nN0 : (N0 != N0) = false := by simp
    clear hD
    obtain ⟨Q, hQ⟩ : ∃ Q : Int, 1 + (busK.cT Z : Int) = Q := ⟨_, rfl⟩
    have hQ0 : ¬ Q < 0 := by omega
    have hQQ : (Q != Q) = false := by simp
    have HQ := Lib.hid hQ
    have hQl : Hid (1 + (busK.cT Z : Int) ≤ 4611686018427387904) := Lib.hid (by have h1 := busK.cT_le Z; have h2 := hz.out; omega)
    clear hQ
    obtain ⟨k0, hk0⟩ : ∃ k : Int, 1 + (confK.cT x0 : Int) = k := ⟨_, rfl⟩
    have hk1 : ¬ k0 < 0 := by omega
    have Hk0 := Lib.hid hk0
    have hkl : Hid (1 + (confK.cT x0 : Int) ≤ 4611686018427387904) := Lib.hid (by have h1 := confK.cT_le x0; have h2 := hs0.out; omega)
    clear hk0
    go_enter Try.func3, Try.ntmps3
    repeat (first | (refine wp_load_row 24 _ rfl (w.heap.size) rfl 24 a0 (0, 0) _ A0_0.out Try.underlying24 rfl hi0.out ?_) | go_values | go_skip | go_guarded | go_step | go_upon | go_back)
    refine (sz_at szConf (confK.rd_later HR0.out HB_0.out) (by omega) (by omega)).mono ?_
    rintro e z1 ⟨rfl, hb⟩
    rw [HM0.out]
    dsimp only
    have A0_1 := Lib.hid (A0_0.out.later hb)
    have HB_1 := Lib.hid (HB_0.out.trans (hb.mono HB_0.out.size))
    clear A0_0 HB_0
    clear hb
    clear hz0
    obtain ⟨zrBus, hzrBus⟩ : ∃ z : Array Value, #[.slice none 0 0, .int .i64 0, .int .i64 0, .int .i64 0, .int .i64 0, .int .i64 0, .int .i64 0, .slice none 0 0, .int .i64 0, .int .i64 0, .slice none 0 0, .slice none 0 0, .int .i64 0, .int .i64 0, .int .i64 0, .bool false, .int .i64 0, .int .i64 0, .bool false, .int .i64 0, .int .i64 0, .int .i64 0, .bool false, .bool false, .int .i64 0, .int .i64 0, .bool false, .int .i64 0, .int .i64 0, .int .i64 0, .bool false, .slice none 0 0, .slice none 0 0, .int .i64 0, .slice none 0 0, .int .i64 0, .slice none 0 0] = z := ⟨_, rfl⟩
    obtain ⟨zrConf, hzrConf⟩ : ∃ z : Array Value, #[.slice none 0 0, .int .i64 0, .int .i64 0, .int .i64 0, .int .i64 0, .int .i64 0] = z := ⟨_, rfl⟩
    repeat (first | (refine wp_load_row 24 _ rfl (w.heap.size) rfl 24 a0 (0, 0) _ A0_1.out Try.underlying24 rfl hi0.out ?_) | go_values | go_skip | go_guarded | go_step | go_upon | go_back)
    refine (to_at toConf hs0.out (confK.rd_later HR0.out HB_1.out)).mono ?_
    rintro e z2 ⟨us, rfl, hc, hb⟩
    dsimp only
    have A0_2 := Lib.hid (A0_1.out.later hb)
    have HB_2 := Lib.hid (HB_1.out.trans (hb.mono HB_1.out.size))
    clear A0_1 HB_1
    have hq := specBusNewX us.toList x0 hs0.out _ (confK.cap_rd hc)
    unfold agg at hq
    rw [Array.toArray_toList, HD.out] at hq
    dsimp only at hq
    repeat (first | go_values | go_skip | go_guarded | go_step | go_upon | go_back)
    refine hq.mono ?_
    rintro e z3 ⟨wA, rfl, hc2, hb2⟩
    dsimp only
    clear hq
    have A0_3 := Lib.hid (A0_2.out.later hb2)
    have HB_3 := Lib.hid (HB_2.out.trans (hb2.mono HB_2.out.size))
    clear A0_2 HB_2
    have hjW : Hid ((Try.prog.info? 42).map (·.size) = some wA.size) := Lib.hid (by rw [rd_size (busK.cap_rd hc2)]; kernel_rfl)
    have hoW : Hid (wA.all (·.oneCell') = true) := Lib.hid (bus_ones (busK.cap_rd hc2))
    have hzW : Hid ((zrBus : Array Value).size = wA.size) := Lib.hid (by rw [rd_size (busK.cap_rd hc2), ← hzrBus]; rfl)
    have hal := (Below.refl z3.heap.size z3).alloc (Nat.le_refl _) (Obj.cells zrBus 42)
    have hT : Below z3.heap.size z3 ((z3.alloc (Obj.cells zrBus 42)).setRow z3.heap.size wA) := below_setRow hal (Nat.le_refl _) wA
    have Bn : Bx 42 z3.heap.size wA ((z3.alloc (Obj.cells zrBus 42)).setRow z3.heap.size wA) := bx_row (Bx.new 42 zrBus z3)
    have Rn := busK.rd_later (busK.cap_rd hc2) hT
    have A0_4 := Lib.hid (A0_3.out.later hT)
    have HB_4 := Lib.hid (HB_3.out.trans (hT.mono HB_3.out.size))
    clear A0_3 HB_3
    have BW_4 := Lib.hid (Bn)
    have RW_4 := Lib.hid (Rn)
    clear Bn Rn hT hal hc hb hc2 hb2
    repeat (first | (refine wp_store_row 42 _ _ rfl z3.heap.size wA rfl rfl 42 zrBus (Bx.new _ _ _) hjW.out hzW.out hoW.out ?_) | (refine wp_load_row 24 _ rfl (w.heap.size) rfl 24 a0 (0, 0) _ A0_4.out Try.underlying24 rfl hi0.out ?_) | go_values | go_skip | go_guarded | go_step | go_upon | go_back)
    generalize ((z3.alloc (Obj.cells zrBus 42)).setRow z3.heap.size wA) = z4 at A0_4 HB_4 BW_4 RW_4  ⊢
    have CA_4 := Lib.hid (Below.refl z4.heap.size z4)
    refine (to_at toConf hs0.out (confK.rd_later (confK.rd_later HR0.out HB_4.out) CA_4.out)).mono ?_
    rintro e z5 ⟨b0, rfl, hc, hb⟩
    dsimp only
    have CA_5 := Lib.hid (CA_4.out.trans (hb.mono CA_4.out.size))
    clear CA_4
    have hjX : Hid ((Try.prog.info? 28).map (·.size) = some b0.size) := Lib.hid (by rw [rd_size (confK.cap_rd hc)]; kernel_rfl)
    have hoX : Hid (b0.all (·.oneCell') = true) := Lib.hid (conf_ones (confK.cap_rd hc))
    have hzX : Hid ((zrConf : Array Value).size = b0.size) := Lib.hid (by rw [rd_size (confK.cap_rd hc), ← hzrConf]; rfl)
    have hal := (Below.refl z5.heap.size z5).alloc (Nat.le_refl _) (Obj.cells zrConf 28)
    have hT : Below z5.heap.size z5 ((z5.alloc (Obj.cells zrConf 28)).setRow z5.heap.size b0) := below_setRow hal (Nat.le_refl _) b0
    have Bn : Bx 28 z5.heap.size b0 ((z5.alloc (Obj.cells zrConf 28)).setRow z5.heap.size b0) := bx_row (Bx.new 28 zrConf z5)
    have Xc := confK.cap_later (confK.cap_top hc) hT
    have ZX2 := Lib.hid hT.size
    have CA_6 := Lib.hid (CA_5.out.trans (hT.mono CA_5.out.size))
    clear CA_5
    have BX_6 := Lib.hid (Bn)
    have X_6 := Lib.hid (Xc)
    clear Bn Xc hT hal hc hb
    repeat (first | (refine wp_store_row 28 _ _ rfl z5.heap.size b0 rfl rfl 28 zrConf (Bx.new _ _ _) hjX.out hzX.out hoX.out ?_) | (refine wp_load_row 28 _ rfl z5.heap.size rfl 28 b0 (0, 0) _ BX_6.out Try.underlying28 rfl hjX.out ?_) | go_values | go_skip | go_guarded | go_step | go_upon | go_back)
    generalize ((z5.alloc (Obj.cells zrConf 28)).setRow z5.heap.size b0) = z6 at CA_6 BX_6 X_6 ZX2 ⊢
    have CG := Lib.hid CA_6.out.size
    have hq := implBusNewX b0.toList x0 hs0.out _ (confK.cap_rd X_6.out)
    unfold agg at hq
    rw [Array.toArray_toList, HD.out] at hq
    dsimp only at hq
    repeat (first | go_values | go_skip | go_guarded | go_step | go_upon | go_back)
    refine hq.mono ?_
    rintro e z7 ⟨gA, rfl, hc2, hb2⟩
    dsimp only
    clear hq
    have Zg := Lib.hid hb2.size
    have CA_7 := Lib.hid (CA_6.out.trans (hb2.mono CA_6.out.size))
    have BX_7 := Lib.hid (BX_6.out.later hb2)
    have X_7 := Lib.hid (confK.cap_later X_6.out hb2)
    clear CA_6 BX_6 X_6
    have hjG : Hid ((Try.prog.info? 42).map (·.size) = some gA.size) := Lib.hid (by rw [rd_size (busK.cap_rd hc2)]; kernel_rfl)
    have hoG : Hid (gA.all (·.oneCell') = true) := Lib.hid (bus_ones (busK.cap_rd hc2))
    have hzG : Hid ((zrBus : Array Value).size = gA.size) := Lib.hid (by rw [rd_size (busK.cap_rd hc2), ← hzrBus]; rfl)
    have hal := (Below.refl z7.heap.size z7).alloc (Nat.le_refl _) (Obj.cells zrBus 42)
    have hT : Below z7.heap.size z7 ((z7.alloc (Obj.cells zrBus 42)).setRow z7.heap.size gA) := below_setRow hal (Nat.le_refl _) gA
    have Bn : Bx 42 z7.heap.size gA ((z7.alloc (Obj.cells zrBus 42)).setRow z7.heap.size gA) := bx_row (Bx.new 42 zrBus z7)
    have Gc := busK.cap_later (busK.cap_top hc2) hT
    have CA_8 := Lib.hid (CA_7.out.trans (hT.mono CA_7.out.size))
    have BX_8 := Lib.hid (BX_7.out.later hT)
    have X_8 := Lib.hid (confK.cap_later X_7.out hT)
    clear CA_7 BX_7 X_7
    have BG_8 := Lib.hid (Bn)
    have G_8 := Lib.hid (Gc)
    clear Bn Gc hT hal hc2 hb2
    repeat (first | (refine wp_store_row 42 _ _ rfl z7.heap.size gA rfl rfl 42 zrBus (Bx.new _ _ _) hjG.out hzG.out hoG.out ?_) | (refine wp_load_row 42 _ rfl z7.heap.size rfl 42 gA (0, 0) _ BG_8.out Try.underlying42 rfl hjG.out ?_) | (refine wp_load_row 42 _ rfl z3.heap.size rfl 42 wA (0, 0) _ (BW_4.out.later CA_8.out) Try.underlying42 rfl hjW.out ?_) | go_values | go_skip | go_guarded | go_step | go_upon | go_back)
    generalize ((z7.alloc (Obj.cells zrBus 42)).setRow z7.heap.size gA) = z8 at CA_8 BX_8 X_8 BG_8 G_8  ⊢
    refine (eq_at eqBus hz.out (busK.cap_rd G_8.out) (busK.rd_later RW_4.out CA_8.out)).mono ?_
    rintro e z9 ⟨rfl, hb⟩
    dsimp only
    have CA_9 := Lib.hid (CA_8.out.trans (hb.mono CA_8.out.size))
    have BX_9 := Lib.hid (BX_8.out.later hb)
    have X_9 := Lib.hid (confK.cap_later X_8.out hb)
    have BG_9 := Lib.hid (BG_8.out.later hb)
    have G_9 := Lib.hid (busK.cap_later G_8.out hb)
    clear CA_8 BX_8 X_8 BG_8 G_8
    clear hb
    go_upto_region 10 with fail
    have C0 := Lib.hid (confK.rd_later (confK.rd_later HR0.out HB_4.out) CA_9.out)
    have CX := Lib.hid (confK.cap_rd X_9.out)
    have CB := Lib.hid (A0_4.out.later CA_9.out)
    refine Fresh.wp_fresh (fun w1 => Below z9.heap.size z9 w1) (fun _ w1 w2 => Below w1.heap.size w1 w2) (fun i => if i = 0 then some ⟨fun v => v = .agg b0, fun _ _ => True⟩ else if i = 1 then some ⟨fun v => v = .agg a0, fun _ _ => True⟩ else if i = 2 then some ⟨fun v => ∃ a : Array Value, v = .agg a, fun v w => ∃ a : Array Value, v = .agg a ∧ confK.rd a.toList x0 w⟩ else if i = 3 then some ⟨fun v => v = .bool true, fun _ _ => True⟩ else none) (by kernel_rfl) (by kernel_rfl) (by kernel_rfl) (by kernel_rfl) ?_ (Below.refl _ _).drew ?_
    · intro i k fr hfr hik hd v w1 w2 hR hph
      by_cases k0 : k = 0
      · subst k0; cases hfr; trivial
      by_cases k1 : k = 1
      · subst k1; cases hfr; trivial
      by_cases k2 : k = 2
      · subst k2; cases hfr; obtain ⟨a, h1, h2⟩ := hph; exact ⟨a, h1, confK.rd_later h2 hR⟩
      by_cases k3 : k = 3
      · subst k3; cases hfr; trivial
      simp [k0, k1, k2, k3] at hfr
    · skip
      refine Fresh.step_fresh _ rfl rfl ?_ ⟨_, rfl⟩ ?_
      · rintro w7 hC7 -
        exact load_upon 28 _ rfl z5.heap.size rfl (BX_9.out.later hC7) Try.underlying28 rfl hjX.out ⟨rfl, trivial, Below.refl _ _, hC7⟩
      rintro v rfl
      refine Fresh.step_fresh _ rfl rfl ?_ ⟨_, rfl⟩ ?_
      · rintro w7 hC7 -
        exact load_upon 24 _ rfl (w.heap.size) rfl (CB.out.later hC7) Try.underlying24 rfl hi0.out ⟨rfl, trivial, Below.refl _ _, hC7⟩
      rintro v rfl
      refine Fresh.step_fresh _ rfl rfl ?_ ⟨_, a0, rfl⟩ ?_
      · rintro w7 hC7 -
        go_simp
        refine Fresh.enter_of ((to_at toConf hs0.out (confK.rd_later C0.out hC7)).mono ?_)
        rintro e w8 ⟨us, he, hc, hb⟩
        exact ⟨_, he, ⟨us, rfl⟩, ⟨us, rfl, confK.cap_rd hc⟩, hb, hC7.trans (hb.mono hC7.size)⟩
      rintro v ⟨c0_, rfl⟩
      refine Fresh.step_fresh _ rfl rfl ?_ ⟨_, rfl⟩ ?_
      · rintro w7 hC7 hF
        obtain ⟨d0, e0, r0⟩ : ∃ a : Array Value, Value.agg c0_ = .agg a ∧ confK.rd a.toList x0 w7 := hF 2 (by kernel_rfl)
        cases e0
        go_simp
        refine Fresh.enter_of ((eq_at eqConf hs0.out (confK.rd_later CX.out hC7) r0).mono ?_)
        rintro e w8 ⟨he, hb⟩
        exact ⟨_, he, rfl, trivial, hb, hC7.trans (hb.mono hC7.size)⟩
      rintro v rfl
      go_simp
      refine Fresh.step_plain rfl rfl rfl (fun K hK => ?_)
      go_big_quiet_op
      first | refine hK _ ?_ | refine ⟨_, fun _ _ => rfl, hK _ ?_⟩
      clear hK K
      refine Fresh.step_end (fun z10 hC8 hF => ?_)
      go_simp
      clear hF C0 CX CB
      have CA_10 := Lib.hid (CA_9.out.trans (hC8.mono CA_9.out.size))
      have BX_10 := Lib.hid (BX_9.out.later hC8)
      have X_10 := Lib.hid (confK.cap_later X_9.out hC8)
      have BG_10 := Lib.hid (BG_9.out.later hC8)
      have G_10 := Lib.hid (busK.cap_later G_9.out hC8)
      clear CA_9 BX_9 X_9 BG_9 G_9
      clear hC8
      repeat (first | (refine wp_load_row 28 _ rfl z5.heap.size rfl 28 b0 (0, 0) _ BX_10.out Try.underlying28 rfl hjX.out ?_) | go_values | go_skip | go_guarded | go_step | go_upon | go_back)
      refine (mark_at markConf hs0.out (by omega) hkl.out X_10.out).mono ?_
      rintro e z11 ⟨rfl, hc, ht⟩
      rw [Hk0.out]
      dsimp only
      have CA_11 := Lib.hid (CA_10.out.trans (ht.below CA_10.out.size (fun k hk => hk.1)))
      have G_11 := Lib.hid (busK.cap_turn G_10.out ht (fun k _ hg hx => by have h1 := hg.1; have h2 := hx.2; have h3 := Zg.out; have h4 := ZX2.out; omega))
      have BG_11 := Lib.hid (bx_turned BG_10.out ht (fun hx => by have h2 := hx.2; have h3 := Zg.out; have h4 := ZX2.out; omega))
      clear CA_10 G_10 BG_10 BX_10 X_10 hc ht
      repeat (first | (refine wp_load_row 42 _ rfl z7.heap.size rfl 42 gA (0, 0) _ BG_11.out Try.underlying42 rfl hjG.out ?_; simp only [Act.put, List.setIfInBounds_toArray, List.set_cons_succ, List.set_cons_zero]) | (refine wp_load_row 42 _ rfl z3.heap.size rfl 42 wA (0, 0) _ (BW_4.out.later CA_11.out) Try.underlying42 rfl hjW.out ?_; simp only [Act.put, List.setIfInBounds_toArray, List.set_cons_succ, List.set_cons_zero]) | go_values | go_skip | go_guarded | go_step | go_upon | go_back)
      refine (eq_at eqBus hz.out (busK.cap_rd G_11.out) (busK.rd_later RW_4.out CA_11.out)).mono ?_
      rintro e z12 ⟨rfl, hb⟩
      dsimp only
      have CA_12 := Lib.hid (CA_11.out.trans (hb.mono CA_11.out.size))
      have BG_12 := Lib.hid (BG_11.out.later hb)
      have G_12 := Lib.hid (busK.cap_later G_11.out hb)
      clear CA_11 BG_11 G_11
      clear hb
      repeat (first | (refine wp_load_row 42 _ rfl z7.heap.size rfl 42 gA (0, 0) _ BG_12.out Try.underlying42 rfl hjG.out ?_) | go_values | go_skip | go_guarded | go_step | go_upon | go_back)
      refine (mark_at markBus hz.out (by omega) hQl.out G_12.out).mono ?_
      rintro e z13 ⟨rfl, hc, ht⟩
      rw [HQ.out]
      dsimp only
      have CA_13 := Lib.hid (CA_12.out.trans (ht.below CA_12.out.size (fun k hk => Nat.le_trans CG.out hk.1)))
      have BG_13 := Lib.hid (bx_turned BG_12.out ht (fun hx => by have h2 := hx.2; omega))
      have G_13 := Lib.hid hc
      clear CA_12 BG_12 G_12 hc ht
      repeat (first | (refine wp_load_row 42 _ rfl z7.heap.size rfl 42 gA (0, 0) _ BG_13.out Try.underlying42 rfl hjG.out ?_) | go_values | go_skip | go_guarded | go_step | go_upon | go_back)
      refine (held_at heldBus hz.out (by omega) hQl.out (busK.cap_rd G_13.out)).mono ?_
      rintro e z14 ⟨rfl, hb⟩
      rw [HQ.out]
      dsimp only
      have CA_14 := Lib.hid (CA_13.out.trans (hb.mono CA_13.out.size))
      have BG_14 := Lib.hid (BG_13.out.later hb)
      have G_14 := Lib.hid (busK.cap_later G_13.out hb)
      clear CA_13 BG_13 G_13
      clear hb
      repeat (first | (refine wp_load_row 24 _ rfl (w.heap.size) rfl 24 a0 (0, 0) _ (A0_4.out.later CA_14.out) Try.underlying24 rfl hi0.out ?_) | go_values | go_skip | go_guarded | go_step | go_upon | go_back)
      refine (to_at toConf hs0.out (confK.rd_later (confK.rd_later HR0.out HB_4.out) CA_14.out)).mono ?_
      rintro e z15 ⟨us, rfl, hc, hb⟩
      dsimp only
      have CA_15 := Lib.hid (CA_14.out.trans (hb.mono CA_14.out.size))
      have BG_15 := Lib.hid (BG_14.out.later hb)
      have G_15 := Lib.hid (busK.cap_later G_14.out hb)
      clear CA_14 BG_14 G_14
      have hq := implBusNewX us.toList x0 hs0.out _ (confK.cap_rd hc)
      unfold agg at hq
      rw [Array.toArray_toList, HD.out] at hq
      dsimp only at hq
      repeat (first | go_values | go_skip | go_guarded | go_step | go_upon | go_back)
      refine hq.mono ?_
      rintro e z16 ⟨hA, rfl, hc2, hb2⟩
      dsimp only
      clear hq
      have CA_16 := Lib.hid (CA_15.out.trans (hb2.mono CA_15.out.size))
      have BG_16 := Lib.hid (BG_15.out.later hb2)
      have G_16 := Lib.hid (busK.cap_later G_15.out hb2)
      clear CA_15 BG_15 G_15
      have hjH : Hid ((Try.prog.info? 42).map (·.size) = some hA.size) := Lib.hid (by rw [rd_size (busK.cap_rd hc2)]; kernel_rfl)
      have hoH : Hid (hA.all (·.oneCell') = true) := Lib.hid (bus_ones (busK.cap_rd hc2))
      have hzH : Hid ((zrBus : Array Value).size = hA.size) := Lib.hid (by rw [rd_size (busK.cap_rd hc2), ← hzrBus]; rfl)
      have hal := (Below.refl z16.heap.size z16).alloc (Nat.le_refl _) (Obj.cells zrBus 42)
      have hT : Below z16.heap.size z16 ((z16.alloc (Obj.cells zrBus 42)).setRow z16.heap.size hA) := below_setRow hal (Nat.le_refl _) hA
      have Bn : Bx 42 z16.heap.size hA ((z16.alloc (Obj.cells zrBus 42)).setRow z16.heap.size hA) := bx_row (Bx.new 42 zrBus z16)
      have Rn := busK.rd_later (busK.cap_rd hc2) hT
      have CA_17 := Lib.hid (CA_16.out.trans (hT.mono CA_16.out.size))
      have BG_17 := Lib.hid (BG_16.out.later hT)
      have G_17 := Lib.hid (busK.cap_later G_16.out hT)
      clear CA_16 BG_16 G_16
      have BH_17 := Lib.hid (Bn)
      have RH_17 := Lib.hid (Rn)
      clear Bn Rn hT hal hc hb hc2 hb2
      repeat (first | (refine wp_store_row 42 _ _ rfl z16.heap.size hA rfl rfl 42 zrBus (Bx.new _ _ _) hjH.out hzH.out hoH.out ?_) | (refine wp_load_row 42 _ rfl z16.heap.size rfl 42 hA (0, 0) _ BH_17.out Try.underlying42 rfl hjH.out ?_) | (refine wp_load_row 42 _ rfl z3.heap.size rfl 42 wA (0, 0) _ (BW_4.out.later CA_17.out) Try.underlying42 rfl hjW.out ?_) | go_values | go_skip | go_guarded | go_step | go_upon | go_back)
      generalize ((z16.alloc (Obj.cells zrBus 42)).setRow z16.heap.size hA) = z17 at CA_17 BG_17 G_17 BH_17 RH_17  ⊢
      refine (eq_at eqBus hz.out RH_17.out (busK.rd_later RW_4.out CA_17.out)).mono ?_
      rintro e z18 ⟨rfl, hb⟩
      dsimp only
      have CA_18 := Lib.hid (CA_17.out.trans (hb.mono CA_17.out.size))
      have BG_18 := Lib.hid (BG_17.out.later hb)
      have G_18 := Lib.hid (busK.cap_later G_17.out hb)
      have BH_18 := Lib.hid (BH_17.out.later hb)
      have RH_18 := Lib.hid (busK.rd_later RH_17.out hb)
      clear CA_17 BG_17 G_17 BH_17 RH_17
      clear hb
      repeat (first | (refine wp_load_row 42 _ rfl z7.heap.size rfl 42 gA (0, 0) _ BG_18.out Try.underlying42 rfl hjG.out ?_) | go_values | go_skip | go_guarded | go_step | go_upon | go_back)
      refine (held_at heldBus hz.out (by omega) hQl.out (busK.cap_rd G_18.out)).mono ?_
      rintro e z19 ⟨rfl, hb⟩
      rw [HQ.out]
      dsimp only
      have CA_19 := Lib.hid (CA_18.out.trans (hb.mono CA_18.out.size))
      have BG_19 := Lib.hid (BG_18.out.later hb)
      have G_19 := Lib.hid (busK.cap_later G_18.out hb)
      have BH_19 := Lib.hid (BH_18.out.later hb)
      have RH_19 := Lib.hid (busK.rd_later RH_18.out hb)
      clear CA_18 BG_18 G_18 BH_18 RH_18
      clear hb
      repeat (first | go_values | go_skip | go_guarded | go_step | go_upon | go_back)
      go_ret
      exact ⟨rfl, HB_4.out.trans (CA_19.out.mono HB_4.out.size)⟩

set_option maxRecDepth 100000 in
set_option maxRecDepth 100000 in
theorem lifted (os : Os) (started : os.Started) (H : Type) (enc : TypeId × Value → H) :
    ReturnsInHanded {} Try.checked os 3 .any (Rows.fnExactBusNewSpec.pre6 enc Try.prog Try.f3 Rows.fnExactBusNewRow.domain false) (Rows.fnExactBusNewSpec.post enc Try.prog Try.f3 false true false false) := by
  refine returnsInHanded_of_change (C := Try.checked) own started (by kernel_rfl) Try.func3
    (ChangeSpec.witness6 (enc := enc) (C := Try.checked) false ⟨#[], #[.agg #[.slice none 0 0, .int .i64 0, .int .i64 0, .int .i64 0, .int .i64 0, .int .i64 0]], []⟩ 8 (by kernel_rfl) (by kernel_rfl) (by kernel_rfl) (by kernel_rfl)) ?_
  intro W base args ds gs before hval0 hW hcnd _
  have hval : ∀ (j : Nat) t v, Try.f3.params[j]? = some t → args[j]? = some v → Value.okWide Try.prog W .any base t v := hval0
  have hW' := hW
  obtain ⟨p, q, hA0, hV, rfl, hfz, hnd⟩ := hW
  have hA : DataW.TrodAll enc Try.prog W 0 (fun _ => true) true Try.f3.params.toList args.toList ds p := hA0
  rw [Try.params3] at hA hval
  obtain ⟨v0, vs0, d0, ds0, p0, q0, hargs, rfl, rfl, h0, r0⟩ := trodAll_cons hA
  obtain ⟨rfl, rfl, rfl⟩ := trodAll_nil r0
  obtain rfl : args = #[v0] := by cases args; simp_all
  obtain ⟨rfl, rfl⟩ := trodVars_none hV
  have k0 := h0
  have lt0 : ∀ x ∈ p0, x.block < W.heap.size := by obtain ⟨m, hm⟩ := k0; exact DataW.trod_lt m _ _ _ hm
  obtain ⟨u0, x0, rfl, R0⟩ := KD.open_conf (hval 0 24 v0 rfl rfl) h0
  clear hA0 hval0
  refine (walk u0 x0 W R0).mono fun e W' ⟨he, bel⟩ => ?_
  subst he
  exact ⟨_, rfl, _, _, _, [], _, [], hW', trodAll_mk1 (shut_bool Try.underlying4 _), (trodAll_cons_mk (Below.trod laidOut (by kernel_rfl) (of_decide_eq_true (by kernel_rfl)) k0 bel lt0) trodAll_mk0), rfl, bel.frame _, fun h => by cases h⟩

theorem over : Rows.fnExactBusNewRow.holds Try.pinned (OpenSpec.ofChange Rows.fnExactBusNewSpec) :=
  OpenClaim.holds_of_wide 3 Try.f3 rfl rfl rfl rfl rfl rfl rfl ⟨rfl, rfl, rfl, rfl, rfl⟩ rfl rfl rfl rfl rfl (by kernel_rfl) Try.func3 (by kernel_rfl)
    (of_decide_eq_true (by kernel_rfl)) (by unfold Func.isWrapper; first | (rw [if_pos (by decide +kernel)]; kernel_rfl) | (rw [if_neg (by decide +kernel)]; exact ⟨rfl, rfl⟩))
    (fun os started H enc _ => lifted os started H enc)

theorem proved : Rows.FnExactBusNewSaid := over
#print axioms proved
end Go.Proofs.Ytdhaelaoackfkaa.fnExactBusNew
