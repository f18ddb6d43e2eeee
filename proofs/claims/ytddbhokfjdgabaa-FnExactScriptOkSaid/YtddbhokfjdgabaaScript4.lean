
/-
  Is a script one: ScriptOk's model.
-/
import Derived.Test.YtddbhokfjdgabaaScript2
namespace Go.Proofs.Ytddbhokfjdgabaa.Num
open Go.RowKit GR Rows3

theorem inB_low {t e : Int} (he : 0 ≤ e) (h : inB t 0 4000 = false) : inB t e 4000 = false := by
  rw [Bool.eq_false_iff] at h ⊢
  intro h1
  rw [inB_iff] at h1
  exact h (inB_iff.2 (by omega))
theorem inB_back {t e : Int} (h : t < e) : inB t e 4000 = false := by
  rw [Bool.eq_false_iff]
  intro h1
  rw [inB_iff] at h1
  omega
theorem inB_on {t e : Int} (h : inB t 0 4000 = true) (h2 : ¬ t < e) : inB t e 4000 = true := by
  rw [inB_iff] at h ⊢
  omega
theorem specReqOk_is {q : Bool} {x y z : Int} {k : Bool} {v : Value} {l : List Int} {b : Bool} (h : okR q x y z l = b) (hl : l.length ≤ 2000000) (w : World) (hv : RdI v l w) :
    Calls Try.prog 46 #[.agg #[.bool q, .int .i64 x, .int .i64 y, .int .i64 z, .bool k, v]] w fun e w' => e = .returned (.bool b) ∧ Below w.heap.size w w' := by rw [← h]; exact specReqOk q x y z k v l hl w hv
set_option maxHeartbeats 4000000 in
set_option maxRecDepth 100000 in
theorem specScriptOk (cv : Value) (cl : List MC) (q mw mr ms lm : Int) (u wv sv : Value) (l : List PC) (a b : Nat) (hcl : cl.length ≤ 2000000) (hl : l.length ≤ 2000000) (hd : ∀ y ∈ l, y.da.length ≤ 2000000) (ha : a ≤ 2000000) (hb : b ≤ 2000000) (w : World) (hcv : Rd mcK cv cl w) (hu : RdP u l w) (hw : ∃ ad cap, wv = .slice ad a cap) (hs : ∃ ad cap, sv = .slice ad b cap) :
    Calls Try.prog 27 #[.agg #[cv, .int .i64 q, .int .i64 mw, .int .i64 mr, .int .i64 ms, .int .i64 lm], .agg #[u, wv, sv]] w fun e w' => e = .returned (.bool (okS (okC cl q mw mr ms lm) ((cl.length : Int) - 1) l a b)) ∧ Below w.heap.size w w' := by
  have HC := Lib.hid hcv
  obtain ⟨cad, ccap, rfl⟩ := hcv.slice
  obtain ⟨lv, hlv, ⟨ad, cap, rfl, hr⟩, he⟩ := hu
  obtain ⟨adw, capw, rfl⟩ := hw
  obtain ⟨ads, caps, rfl⟩ := hs
  obtain ⟨n, hln⟩ : ∃ n, lv.length = n := ⟨_, rfl⟩
  have hll : l.length = n := by rw [← hlv, List.length_map, hln]
  obtain ⟨c, hcn⟩ : ∃ c, cl.length = c := ⟨_, rfl⟩
  obtain ⟨B, hB⟩ : ∃ B, okC cl q mw mr ms lm = B := ⟨_, rfl⟩
  rw [hB, hln]
  rw [hll] at hl
  rw [hcn] at HC ⊢
  have hcl2 := hcl
  rw [hcn] at hcl2
  have HR := Lib.hid hr
  have HE := Lib.hid he
  have HD := Lib.hid hd
  have HV := Lib.hid hlv
  have HL := Lib.hid hln
  have HN := Lib.hid hll
  have HB := Lib.hid hB
  have HCL := Lib.hid hcl
  have hsz : ∀ (w : World) o, (w.alloc o).heap.size = w.heap.size + 1 := fun w o => by simp
  have A1 := Lib.hid ((Bx.new 28 #[.slice cad c ccap, .int .i64 q, .int .i64 mw, .int .i64 mr, .int .i64 ms, .int .i64 lm] w).alloc (Obj.cells #[.slice ad n cap, .slice adw a capw, .slice ads b caps] 60))
  have A2 := Bx.new 60 #[.slice ad n cap, .slice adw a capw, .slice ads b caps] (w.alloc (Obj.cells #[.slice cad c ccap, .int .i64 q, .int .i64 mw, .int .i64 mr, .int .i64 ms, .int .i64 lm] 28))
  rw [hsz] at A2
  have HA2 := Lib.hid A2
  have HB0 := Lib.hid (((Below.refl w.heap.size w).alloc (Nat.le_refl _) (Obj.cells #[.slice cad c ccap, .int .i64 q, .int .i64 mw, .int .i64 mr, .int .i64 ms, .int .i64 lm] 28)).alloc (by simp) (Obj.cells #[.slice ad n cap, .slice adw a capw, .slice ads b caps] 60))
  clear hr he hd hlv hln hll hcn hB hcl hcv A2 hsz
  go_enter Try.func27, Try.ntmps27
  go_wp2_with fail
  generalize (w.alloc (Obj.cells #[.slice cad c ccap, .int .i64 q, .int .i64 mw, .int .i64 mr, .int .i64 ms, .int .i64 lm] 28)).alloc (Obj.cells #[.slice ad n cap, .slice adw a capw, .slice ads b caps] 60) = w0 at A1 HA2 HB0 ⊢
  go_loopw [5] (fun i wr => ∃ k : Nat, k ≤ n ∧ i = .int .i64 k ∧ OkP ((c : Int) - 1) l k ∧ Below w0.heap.size w0 wr) (fun i _ => n - (intOf i).toNat)
  case atStart => exact ⟨0, by omega, rfl, OkP.zero _ _, Below.refl _ _⟩
  case round =>
    obtain ⟨k, hk, rfl, hok, hb⟩ := hrel
    have Hok := Lib.hid hok
    have Hb := Lib.hid hb
    have Hbw := Lib.hid (HB0.out.trans (hb.mono HB0.out.size))
    have A3 := A1.out.later hb
    have D3 := HA2.out.later hb
    clear hok hb
    obtain ⟨d0, d1, d2⟩ := cells3 D3
    by_cases hlt : k < n
    · obtain ⟨x, hx⟩ := get_of (l := lv) (i := k) (by rw [HL.out]; exact hlt)
      obtain ⟨bb, o, rfl, hb1, hc1⟩ := HR.out k x hx
      obtain ⟨f0, f1, f2, f3, f4, f5, f6, f7⟩ := pv_at hc1
      rw [← below_cells Hbw.out hb1] at f0 f1 f2 f3 f4 f5 f6 f7
      have Hget := Lib.hid (getD_map HV.out hx)
      have hdx := HD.out x.1 (by rw [← HV.out]; exact List.mem_map_of_mem (mem_of hx))
      have R1 := (HE.out x (mem_of hx)).below Hbw.out
      obtain ⟨⟨t, who, wr1, ad1, sz1, bu1, lk1, da1⟩, xv⟩ := x
      dsimp only at f0 f1 f2 f3 f4 f5 f6 f7 hdx R1
      have HR1 := Lib.hid R1
      obtain ⟨ax, cx, rfl, -⟩ := R1
      obtain ⟨m, hm⟩ : ∃ m, da1.length = m := ⟨_, rfl⟩
      rw [hm] at f7 HR1
      have Hal := Lib.hid ((Below.refl wr.heap.size wr).alloc (Nat.le_refl _) (Obj.cells #[.int .i64 t, .int .i64 who, .bool wr1, .int .i64 ad1, .int .i64 sz1, .int .i64 bu1, .bool lk1, .slice ax m cx] 84))
      have HR2 := Lib.hid (HR1.out.below Hal.out)
      have X := Bx.new 84 #[.int .i64 t, .int .i64 who, .bool wr1, .int .i64 ad1, .int .i64 sz1, .int .i64 bu1, .bool lk1, .slice ax m cx] wr
      have hreg : ∀ {b2 : Nat}, b2 < wr.heap.size → ∀ i u, wr.cell? ⟨b2, i, none⟩ = some u → ∀ d os, (Sort.grow (redrawn (wr.alloc (Obj.cells #[.int .i64 t, .int .i64 who, .bool wr1, .int .i64 ad1, .int .i64 sz1, .int .i64 bu1, .bool lk1, .slice ax m cx] 84)) d) os).cell? ⟨b2, i, none⟩ = some u := fun hbb i u hu d os => cell_regrown ((below_cells ((Below.refl wr.heap.size wr).alloc (Nat.le_refl _) _) hbb i).trans hu) d os
      obtain ⟨x0, x1, x2, x3, x4, x5, x6, x7⟩ := cells8 X
      have y0 := fun d os => cell_regrown x0 d os
      have y1 := fun d os => cell_regrown x1 d os
      have y2 := fun d os => cell_regrown x2 d os
      have y3 := fun d os => cell_regrown x3 d os
      have y4 := fun d os => cell_regrown x4 d os
      have y5 := fun d os => cell_regrown x5 d os
      have y6 := fun d os => cell_regrown x6 d os
      have y7 := fun d os => cell_regrown x7 d os
      obtain ⟨c0, c1, c2, c3, c4, c5⟩ := A3.cells6
      have z0 := hreg A3.lt 0 _ c0
      have z1 := hreg D3.lt 0 _ d0
      obtain ⟨E, hE⟩ : ∃ E, prevT l k = E := ⟨_, rfl⟩
      have HEE := Lib.hid hE
      have hE0 := Hok.out.time.1
      rw [hE] at hE0
      obtain ⟨b1, e1⟩ : ∃ y, inB t 0 4000 = y := ⟨_, rfl⟩
      obtain ⟨b2, e2⟩ : ∃ y, inB who 0 ((c : Int) - 1) = y := ⟨_, rfl⟩
      obtain ⟨b3, e3⟩ : ∃ y, okR wr1 ad1 sz1 bu1 da1 = y := ⟨_, rfl⟩
      have E1 := Lib.hid e1
      have E2 := Lib.hid e2
      have E3 := Lib.hid e3
      have Hda := Lib.hid hdx
      have Hno := Lib.hid (fun (h : okEl ((c : Int) - 1) E ⟨t, who, wr1, ad1, sz1, bu1, lk1, da1⟩ = false) => okS_ps (c := B) (a := a) (b := b) (okPs_no (n := (c : Int) - 1) (l := l) (k := k) (by rw [HN.out]; exact hlt) (by rw [Hget.out, HEE.out]; exact h)))
      have Hyes := Lib.hid (fun (h : okEl ((c : Int) - 1) E ⟨t, who, wr1, ad1, sz1, bu1, lk1, da1⟩ = true) => Hok.out.step (by rw [Hget.out, HEE.out]; exact h))
      have hbsz := hb1
      replace hbsz : bb < wr.heap.size := Nat.lt_of_lt_of_le hb1 Hbw.out.size
      clear hc1 hdx A3 D3 c0 c1 c2 c3 c4 c5 d1 d2 e1 e2 e3 hm x0 x1 x2 x3 x4 x5 x6 x7 X
      cases b1 with
      | false =>
        have He := Lib.hid (Hno.out (okEl_time (inB_low hE0 E1.out)))
        clear hE hreg hx
        go_wp2_with fail
        refine wp_region_quiet_below (by kernel_rfl) (by kernel_rfl) ?_
        repeat (go_big_quiet_step (first | (go_at_call 37; first | (with_reducible exact Calls.regrown_of (l1In_isB E1.out _)) | (with_reducible exact Calls.regrown_of (l1In_isB E2.out _))) | (go_at_call 46; exact Calls.regrown_of (specReqOk_is E3.out Hda.out _ (HR2.out.below (below_regrown _ _ _))))))
        refine wpQuiet_nil ?_
        rintro _ ⟨⟨dq, osq⟩, rfl⟩
        have hq := Hal.out.trans ((below_regrown (wr.alloc (Obj.cells #[.int .i64 t, .int .i64 who, .bool wr1, .int .i64 ad1, .int .i64 sz1, .int .i64 bu1, .bool lk1, .slice ax m cx] 84)) dq osq).mono Hal.out.size)
        have Hq := Lib.hid hq
        clear hq
        clear y0 y1 y2 y3 y4 y5 y6 y7 z0 z1
        go_wp2_with fail
        go_ret
        exact ⟨by rw [He.out]; rfl, Hbw.out.trans (Hq.out.mono Hbw.out.size)⟩
      | true =>
        cases b2 with
        | false =>
          have He := Lib.hid (Hno.out (okEl_who E2.out))
          clear hE hreg hx
          go_wp2_with fail
          refine wp_region_quiet_below (by kernel_rfl) (by kernel_rfl) ?_
          repeat (go_big_quiet_step (first | (go_at_call 37; first | (with_reducible exact Calls.regrown_of (l1In_isB E1.out _)) | (with_reducible exact Calls.regrown_of (l1In_isB E2.out _))) | (go_at_call 46; exact Calls.regrown_of (specReqOk_is E3.out Hda.out _ (HR2.out.below (below_regrown _ _ _))))))
          refine wpQuiet_nil ?_
          rintro _ ⟨⟨dq, osq⟩, rfl⟩
          have hq := Hal.out.trans ((below_regrown (wr.alloc (Obj.cells #[.int .i64 t, .int .i64 who, .bool wr1, .int .i64 ad1, .int .i64 sz1, .int .i64 bu1, .bool lk1, .slice ax m cx] 84)) dq osq).mono Hal.out.size)
          have Hq := Lib.hid hq
          clear hq
          clear y0 y1 y2 y3 y4 y5 y6 y7 z0 z1
          go_wp2_with fail
          go_ret
          exact ⟨by rw [He.out]; rfl, Hbw.out.trans (Hq.out.mono Hbw.out.size)⟩
        | true =>
          cases b3 with
          | false =>
            have He := Lib.hid (Hno.out (okEl_req E3.out))
            clear hE hreg hx
            go_wp2_with fail
            refine wp_region_quiet_below (by kernel_rfl) (by kernel_rfl) ?_
            repeat (go_big_quiet_step (first | (go_at_call 37; first | (with_reducible exact Calls.regrown_of (l1In_isB E1.out _)) | (with_reducible exact Calls.regrown_of (l1In_isB E2.out _))) | (go_at_call 46; exact Calls.regrown_of (specReqOk_is E3.out Hda.out _ (HR2.out.below (below_regrown _ _ _))))))
            refine wpQuiet_nil ?_
            rintro _ ⟨⟨dq, osq⟩, rfl⟩
            have hq := Hal.out.trans ((below_regrown (wr.alloc (Obj.cells #[.int .i64 t, .int .i64 who, .bool wr1, .int .i64 ad1, .int .i64 sz1, .int .i64 bu1, .bool lk1, .slice ax m cx] 84)) dq osq).mono Hal.out.size)
            have Hq := Lib.hid hq
            clear hq
            clear y0 y1 y2 y3 y4 y5 y6 y7 z0 z1
            go_wp2_with fail
            go_ret
            exact ⟨by rw [He.out]; rfl, Hbw.out.trans (Hq.out.mono Hbw.out.size)⟩
          | true =>
            cases k with
            | zero =>
              have hE2 : E = 0 := hE.symm.trans (prevT_zero l)
              subst hE2
              have Hy := Lib.hid (Hyes.out (okEl_yes (p := ⟨t, who, wr1, ad1, sz1, bu1, lk1, da1⟩) E1.out E2.out E3.out))
              clear hE hreg hx
              simp only [Nat.zero_mul, Nat.add_zero] at f0 f1 f2 f3 f4 f5 f6 f7
              go_wp2_with fail
              refine wp_region_quiet_below (by kernel_rfl) (by kernel_rfl) ?_
              repeat (go_big_quiet_step (first | (go_at_call 37; first | (with_reducible exact Calls.regrown_of (l1In_isB E1.out _)) | (with_reducible exact Calls.regrown_of (l1In_isB E2.out _))) | (go_at_call 46; exact Calls.regrown_of (specReqOk_is E3.out Hda.out _ (HR2.out.below (below_regrown _ _ _))))))
              refine wpQuiet_nil ?_
              rintro _ ⟨⟨dq, osq⟩, rfl⟩
              have hq := Hal.out.trans ((below_regrown (wr.alloc (Obj.cells #[.int .i64 t, .int .i64 who, .bool wr1, .int .i64 ad1, .int .i64 sz1, .int .i64 bu1, .bool lk1, .slice ax m cx] 84)) dq osq).mono Hal.out.size)
              have Hq := Lib.hid hq
              clear hq
              clear y0 y1 y2 y3 y4 y5 y6 y7 z0 z1
              go_wp2_with fail
              go_roundw
              case rel => exact ⟨_, by omega, by go_num, Hy.out, Hb.out.trans (Hq.out.mono Hb.out.size)⟩
              case measure => simp [intOf]; omega
            | succ j =>
              obtain ⟨y, hy⟩ := get_of (l := lv) (i := j) (by rw [HL.out]; omega)
              obtain ⟨bb', o', e0, hb1', hc1'⟩ := HR.out j y hy
              obtain ⟨rfl, rfl⟩ : bb' = bb ∧ o' = o := by simpa [eq_comm] using e0
              have p0 := (pv_at hc1').1
              rw [← below_cells Hbw.out hb1'] at p0
              have hp : y.1.t = E := by rw [← hE, prevT_succ, getD_map HV.out hy]
              rw [hp] at p0
              have z2 := hreg hbsz _ _ p0
              clear hE hreg hx hy e0 hc1' p0 hp
              by_cases hlow : t < E
              · have He := Lib.hid (Hno.out (okEl_time (inB_back hlow)))
                go_wp2_with fail
                refine wp_region_quiet_below (by kernel_rfl) (by kernel_rfl) ?_
                repeat (go_big_quiet_step (first | (go_at_call 37; first | (with_reducible exact Calls.regrown_of (l1In_isB E1.out _)) | (with_reducible exact Calls.regrown_of (l1In_isB E2.out _))) | (go_at_call 46; exact Calls.regrown_of (specReqOk_is E3.out Hda.out _ (HR2.out.below (below_regrown _ _ _))))))
                refine wpQuiet_nil ?_
                rintro _ ⟨⟨dq, osq⟩, rfl⟩
                have hq := Hal.out.trans ((below_regrown (wr.alloc (Obj.cells #[.int .i64 t, .int .i64 who, .bool wr1, .int .i64 ad1, .int .i64 sz1, .int .i64 bu1, .bool lk1, .slice ax m cx] 84)) dq osq).mono Hal.out.size)
                have Hq := Lib.hid hq
                clear hq
                clear y0 y1 y2 y3 y4 y5 y6 y7 z0 z1
                go_wp2_with fail
                go_ret
                exact ⟨by rw [He.out]; rfl, Hbw.out.trans (Hq.out.mono Hbw.out.size)⟩
              · have Hy := Lib.hid (Hyes.out (okEl_yes (p := ⟨t, who, wr1, ad1, sz1, bu1, lk1, da1⟩) (inB_on E1.out hlow) E2.out E3.out))
                go_wp2_with fail
                refine wp_region_quiet_below (by kernel_rfl) (by kernel_rfl) ?_
                repeat (go_big_quiet_step (first | (go_at_call 37; first | (with_reducible exact Calls.regrown_of (l1In_isB E1.out _)) | (with_reducible exact Calls.regrown_of (l1In_isB E2.out _))) | (go_at_call 46; exact Calls.regrown_of (specReqOk_is E3.out Hda.out _ (HR2.out.below (below_regrown _ _ _))))))
                refine wpQuiet_nil ?_
                rintro _ ⟨⟨dq, osq⟩, rfl⟩
                have hq := Hal.out.trans ((below_regrown (wr.alloc (Obj.cells #[.int .i64 t, .int .i64 who, .bool wr1, .int .i64 ad1, .int .i64 sz1, .int .i64 bu1, .bool lk1, .slice ax m cx] 84)) dq osq).mono Hal.out.size)
                have Hq := Lib.hid hq
                clear hq
                clear y0 y1 y2 y3 y4 y5 y6 y7 z0 z1
                go_wp2_with fail
                go_roundw
                case rel => exact ⟨_, by omega, by go_num, Hy.out, Hb.out.trans (Hq.out.mono Hb.out.size)⟩
                case measure => simp [intOf]; omega
    · obtain rfl : k = n := by omega
      have Hps := Lib.hid (okPs_yes (n := (c : Int) - 1) (l := l) (by rw [HN.out]; exact Hok.out))
      have D4 := Lib.hid D3
      obtain ⟨c0, c1, c2, c3, c4, c5⟩ := A3.cells6
      clear A3 D3
      go_wp2_with fail
      refine (specConfOk _ cl _ _ _ _ _ HCL.out _ (HC.out.below Hbw.out)).mono ?_
      rintro e w2 ⟨rfl, hb2⟩
      rw [HB.out]
      have D5 := Lib.hid (D4.out.later hb2)
      have Hb2 := Lib.hid (Hbw.out.trans (hb2.mono Hbw.out.size))
      clear hb2 c0 c1 c2 c3 c4 c5 d0 d1 d2
      cases B with
      | false =>
        go_wp2
        go_ret
        exact ⟨rfl, Hb2.out⟩
      | true =>
        obtain ⟨d0, d1, d2⟩ := cells3 D5.out
        by_cases h1 : (k : Int) ≤ 20
        · by_cases h2 : (a : Int) ≤ 20
          · by_cases h3 : (b : Int) ≤ 20
            · have He := Lib.hid (okS_yes (c := true) (a := a) (b := b) Hps.out (by rw [HN.out]; omega) (by omega) (by omega))
              go_wp2
              go_ret
              exact ⟨by rw [He.out]; rfl, Hb2.out⟩
            · have He := Lib.hid (okS_says (c := true) (n := (c : Int) - 1) (l := l) (a := a) (b := b) (by omega))
              have h4 : decide ((b : Int) ≤ 20) = false := decide_eq_false h3
              go_wp2
              go_ret
              exact ⟨by rw [He.out]; rfl, Hb2.out⟩
          · have He := Lib.hid (okS_waits (c := true) (n := (c : Int) - 1) (l := l) (a := a) (b := b) (by omega))
            go_wp2
            go_ret
            exact ⟨by rw [He.out]; rfl, Hb2.out⟩
        · have He := Lib.hid (okS_posts (c := true) (n := (c : Int) - 1) (l := l) (a := a) (b := b) (by rw [HN.out]; omega))
          go_wp2
          go_ret
          exact ⟨by rw [He.out]; rfl, Hb2.out⟩
end Go.Proofs.Ytddbhokfjdgabaa.Num
