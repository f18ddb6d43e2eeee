
/-
  Is a script one: ScriptOk, for the program.
-/
import Derived.Test.YtddbhokfjdgabaaScript0
import Derived.Test.YtddbhokfjdgabaaPost2
import Derived.Test.YtddbhokfjdgabaaIsM
namespace Go.Proofs.Ytddbhokfjdgabaa.Num
open Go.RowKit GR Rows3

theorem getD_map {lv : List (PC × Value)} {l : List PC} {k : Nat} {x : PC × Value} (h : lv.map (·.1) = l) (hx : lv[k]? = some x) : l.getD k pc0 = x.1 := by
  rw [← h, List.getD_eq_getElem?_getD, List.getElem?_map, hx]; rfl
theorem implReqOk_is {q : Bool} {x y z : Int} {k : Bool} {v : Value} {l : List Int} {b : Bool} (h : okR q x y z l = b) (hl : l.length ≤ 2000000) (w : World) (hv : RdI v l w) :
    Calls Try.prog 49 #[.agg #[.bool q, .int .i64 x, .int .i64 y, .int .i64 z, .bool k, v]] w fun e w' => e = .returned (.bool b) ∧ Below w.heap.size w w' := by rw [← h]; exact implReqOk q x y z k v l hl w hv
set_option maxHeartbeats 1000000 in
set_option maxRecDepth 100000 in
theorem implScriptOk (cv : Value) (cl : List MC) (q mw mr ms lm : Int) (u wv sv : Value) (l : List PC) (a b : Nat) (hcl : cl.length ≤ 2000000) (hl : l.length ≤ 2000000) (hd : ∀ y ∈ l, y.da.length ≤ 2000000) (ha : a ≤ 2000000) (hb : b ≤ 2000000) (w : World) (hcv : Rd mcK cv cl w) (hu : RdP u l w) (hw : ∃ ad cap, wv = .slice ad a cap) (hs : ∃ ad cap, sv = .slice ad b cap) :
    Calls Try.prog 29 #[.agg #[cv, .int .i64 q, .int .i64 mw, .int .i64 mr, .int .i64 ms, .int .i64 lm], .agg #[u, wv, sv]] w fun e w' => e = .returned (.bool (okS (okC cl q mw mr ms lm) ((cl.length : Int) - 1) l a b)) ∧ Below w.heap.size w w' := by
  have HC := Lib.hid hcv
  obtain ⟨cad, ccap, rfl⟩ := hcv.slice
  obtain ⟨lv, hlv, ⟨ad, cap, rfl, hr⟩, he⟩ := hu
  obtain ⟨adw, capw, rfl⟩ := hw
  obtain ⟨ads, caps, rfl⟩ := hs
  obtain ⟨n, hln⟩ : ∃ n, lv.length = n := ⟨_, rfl⟩
  have hll : l.length = n := by rw [← hlv, List.length_map, hln]
  obtain ⟨c, hcn⟩ : ∃ c, cl.length = c := ⟨_, rfl⟩
  obtain ⟨B, hB⟩ : ∃ B, okC cl q mw mr ms lm = B := ⟨_, rfl⟩
  rw [hB, hln]
  rw [hll] at hl
  rw [hcn] at HC ⊢
  have hcl2 := hcl
  rw [hcn] at hcl2
  have HR := Lib.hid hr
  have HE := Lib.hid he
  have HD := Lib.hid hd
  have HV := Lib.hid hlv
  have HL := Lib.hid hln
  have HN := Lib.hid hll
  have HB := Lib.hid hB
  have HCL := Lib.hid hcl
  have hsz : ∀ (w : World) o, (w.alloc o).heap.size = w.heap.size + 1 := fun w o => by simp
  have A1 := Lib.hid ((Bx.new 28 #[.slice cad c ccap, .int .i64 q, .int .i64 mw, .int .i64 mr, .int .i64 ms, .int .i64 lm] w).alloc (Obj.cells #[.slice ad n cap, .slice adw a capw, .slice ads b caps] 60))
  have A2 := Bx.new 60 #[.slice ad n cap, .slice adw a capw, .slice ads b caps] (w.alloc (Obj.cells #[.slice cad c ccap, .int .i64 q, .int .i64 mw, .int .i64 mr, .int .i64 ms, .int .i64 lm] 28))
  rw [hsz] at A2
  have HA2 := Lib.hid A2
  have HB0 := Lib.hid (((Below.refl w.heap.size w).alloc (Nat.le_refl _) (Obj.cells #[.slice cad c ccap, .int .i64 q, .int .i64 mw, .int .i64 mr, .int .i64 ms, .int .i64 lm] 28)).alloc (by simp) (Obj.cells #[.slice ad n cap, .slice adw a capw, .slice ads b caps] 60))
  clear hr he hd hlv hln hll hcn hB hcl hcv A2 hsz
  go_enter Try.func29, Try.ntmps29
  go_wp2_with fail
  generalize (w.alloc (Obj.cells #[.slice cad c ccap, .int .i64 q, .int .i64 mw, .int .i64 mr, .int .i64 ms, .int .i64 lm] 28)).alloc (Obj.cells #[.slice ad n cap, .slice adw a capw, .slice ads b caps] 60) = w0 at A1 HA2 HB0 ⊢
  refine (implConfOk _ cl _ _ _ _ _ HCL.out _ (HC.out.below HB0.out)).mono ?_
  rintro e w1 ⟨rfl, hb1⟩
  rw [HB.out]
  have B1 := Lib.hid (A1.out.later hb1)
  have D1 := Lib.hid (HA2.out.later hb1)
  have Hb1 := Lib.hid (HB0.out.trans (hb1.mono HB0.out.size))
  clear hb1
  cases B with
  | false =>
    go_wp2
    go_ret
    exact ⟨rfl, Hb1.out⟩
  | true =>
    obtain ⟨g0, g1, g2⟩ := cells3 D1.out
    by_cases h1 : (20 : Int) < (n : Int)
    · have He := Lib.hid (okS_posts (c := true) (n := (c : Int) - 1) (l := l) (a := a) (b := b) (by rw [HN.out]; omega))
      go_wp2
      go_ret
      exact ⟨by rw [He.out]; rfl, Hb1.out⟩
    · by_cases h2 : (20 : Int) < (a : Int)
      · have He := Lib.hid (okS_waits (c := true) (n := (c : Int) - 1) (l := l) (a := a) (b := b) (by omega))
        go_wp2
        go_ret
        exact ⟨by rw [He.out]; rfl, Hb1.out⟩
      · by_cases h3 : (20 : Int) < (b : Int)
        · have He := Lib.hid (okS_says (c := true) (n := (c : Int) - 1) (l := l) (a := a) (b := b) (by omega))
          go_wp2
          go_ret
          exact ⟨by rw [He.out]; rfl, Hb1.out⟩
        · go_wp2_with fail
          clear g1 g2
          go_loopw [5, 32] (fun e i wr => ∃ k : Nat, k ≤ n ∧ i = .int .i64 k ∧ e = .int .i64 (prevT l k) ∧ OkP ((c : Int) - 1) l k ∧ Below w1.heap.size w1 wr) (fun _ i _ => n - (intOf i).toNat)
          case atStart => exact ⟨0, by omega, rfl, rfl, OkP.zero _ _, Below.refl _ _⟩
          case round =>
            obtain ⟨k, hk, rfl, rfl, hok, hb⟩ := hrel
            have Hok := Lib.hid hok
            have Hb := Lib.hid hb
            have Hbw := Lib.hid (Hb1.out.trans (hb.mono Hb1.out.size))
            have A3 := B1.out.later hb
            clear hok hb
            by_cases hlt : k < n
            · obtain ⟨x, hx⟩ := get_of (l := lv) (i := k) (by rw [HL.out]; exact hlt)
              obtain ⟨bb, o, rfl, hb1, hc1⟩ := HR.out k x hx
              obtain ⟨f0, f1, f2, f3, f4, f5, f6, f7⟩ := pv_at hc1
              rw [← below_cells Hbw.out hb1] at f0 f1 f2 f3 f4 f5 f6 f7
              have Hget := Lib.hid (getD_map HV.out hx)
              have hdx := HD.out x.1 (by rw [← HV.out]; exact List.mem_map_of_mem (mem_of hx))
              have R1 := (HE.out x (mem_of hx)).below Hbw.out
              obtain ⟨⟨t, who, wr1, ad1, sz1, bu1, lk1, da1⟩, xv⟩ := x
              dsimp only at f0 f1 f2 f3 f4 f5 f6 f7 hdx R1
              have HR1 := Lib.hid R1
              obtain ⟨ax, cx, rfl, -⟩ := R1
              obtain ⟨m, hm⟩ : ∃ m, da1.length = m := ⟨_, rfl⟩
              rw [hm] at f7 HR1
              obtain ⟨c0, c1, c2, c3, c4, c5⟩ := A3.cells6
              rw [← below_cells ((Below.refl wr.heap.size wr).alloc (Nat.le_refl _) (Obj.cells #[.int .i64 t, .int .i64 who, .bool wr1, .int .i64 ad1, .int .i64 sz1, .int .i64 bu1, .bool lk1, .slice ax m cx] 84)) A3.lt] at c0 c1 c2 c3 c4 c5
              have Hal := Lib.hid ((Below.refl wr.heap.size wr).alloc (Nat.le_refl _) (Obj.cells #[.int .i64 t, .int .i64 who, .bool wr1, .int .i64 ad1, .int .i64 sz1, .int .i64 bu1, .bool lk1, .slice ax m cx] 84))
              have HR2 := Lib.hid (HR1.out.below Hal.out)
              have X := Lib.hid (Bx.new 84 #[.int .i64 t, .int .i64 who, .bool wr1, .int .i64 ad1, .int .i64 sz1, .int .i64 bu1, .bool lk1, .slice ax m cx] wr)
              obtain ⟨E, hE⟩ : ∃ E, prevT l k = E := ⟨_, rfl⟩
              have HEE := Lib.hid hE
              have Hnext := Lib.hid (show prevT l (k + 1) = t by rw [prevT_succ, Hget.out])
              obtain ⟨b1, e1⟩ : ∃ y, inB t E 4000 = y := ⟨_, rfl⟩
              obtain ⟨b2, e2⟩ : ∃ y, inB who 0 ((c : Int) - 1) = y := ⟨_, rfl⟩
              obtain ⟨b3, e3⟩ : ∃ y, okR wr1 ad1 sz1 bu1 da1 = y := ⟨_, rfl⟩
              have E1 := Lib.hid e1
              have E2 := Lib.hid e2
              have E3 := Lib.hid e3
              have Hda := Lib.hid hdx
              rw [hE]
              have Hno := Lib.hid (fun (h : okEl ((c : Int) - 1) E ⟨t, who, wr1, ad1, sz1, bu1, lk1, da1⟩ = false) => okS_ps (c := true) (a := a) (b := b) (okPs_no (n := (c : Int) - 1) (l := l) (k := k) (by rw [HN.out]; exact hlt) (by rw [Hget.out, HEE.out]; exact h)))
              clear hc1 hx hdx A3 e1 e2 e3 hE hm
              cases b1 with
              | false =>
                have He := Lib.hid (Hno.out (okEl_time E1.out))
                go_wp2_with (go_at_call 42; ((with_reducible refine (within_is E1.out _).mono ?_); rintro e w' ⟨rfl, rfl⟩))
                go_ret
                exact ⟨by rw [He.out]; rfl, Hbw.out.trans (Hal.out.mono Hbw.out.size)⟩
              | true =>
                cases b2 with
                | false =>
                  have He := Lib.hid (Hno.out (okEl_who E2.out))
                  go_wp2_with (go_at_call 42; ((with_reducible refine (within_is E1.out _).mono ?_); rintro e w' ⟨rfl, rfl⟩))
                  refine (isMaster_is E2.out hcl2 _ _ _ _ _ _ _ _).mono ?_
                  rintro e wm ⟨rfl, hbm⟩
                  have X2 := Lib.hid (X.out.later hbm)
                  have HR3 := Lib.hid (HR2.out.below hbm)
                  have Hal2 := Lib.hid (Hal.out.trans (hbm.mono Hal.out.size))
                  clear hbm c0 c1 c2 c3 c4 c5 f0 f1 f2 f3 f4 f5 f6 f7
                  obtain ⟨x0, x1, x2, x3, x4, x5, x6, x7⟩ := cells8 X2.out
                  go_wp2_with fail
                  go_ret
                  exact ⟨by rw [He.out]; rfl, Hbw.out.trans (Hal2.out.mono Hbw.out.size)⟩
                | true =>
                  cases b3 with
                  | false =>
                    have He := Lib.hid (Hno.out (okEl_req E3.out))
                    go_wp2_with (go_at_call 42; ((with_reducible refine (within_is E1.out _).mono ?_); rintro e w' ⟨rfl, rfl⟩))
                    refine (isMaster_is E2.out hcl2 _ _ _ _ _ _ _ _).mono ?_
                    rintro e wm ⟨rfl, hbm⟩
                    have X2 := Lib.hid (X.out.later hbm)
                    have HR3 := Lib.hid (HR2.out.below hbm)
                    have Hal2 := Lib.hid (Hal.out.trans (hbm.mono Hal.out.size))
                    clear hbm c0 c1 c2 c3 c4 c5 f0 f1 f2 f3 f4 f5 f6 f7
                    obtain ⟨x0, x1, x2, x3, x4, x5, x6, x7⟩ := cells8 X2.out
                    go_wp2_with fail
                    refine (implReqOk_is E3.out Hda.out _ HR3.out).mono ?_
                    rintro e w2 ⟨rfl, hb2⟩
                    have Hb2 := Lib.hid ((Hbw.out.trans (Hal2.out.mono Hbw.out.size)).trans (hb2.mono (Nat.le_trans Hbw.out.size Hal2.out.size)))
                    clear hb2
                    go_wp2_with fail
                    go_ret
                    exact ⟨by rw [He.out]; rfl, Hb2.out⟩
                  | true =>
                    have Hy := Lib.hid (okEl_yes (p := ⟨t, who, wr1, ad1, sz1, bu1, lk1, da1⟩) E1.out E2.out E3.out)
                    go_wp2_with (go_at_call 42; ((with_reducible refine (within_is E1.out _).mono ?_); rintro e w' ⟨rfl, rfl⟩))
                    refine (isMaster_is E2.out hcl2 _ _ _ _ _ _ _ _).mono ?_
                    rintro e wm ⟨rfl, hbm⟩
                    have X2 := Lib.hid (X.out.later hbm)
                    have HR3 := Lib.hid (HR2.out.below hbm)
                    have Hal2 := Lib.hid (Hal.out.trans (hbm.mono Hal.out.size))
                    clear hbm c0 c1 c2 c3 c4 c5 f0 f1 f2 f3 f4 f5 f6 f7
                    obtain ⟨x0, x1, x2, x3, x4, x5, x6, x7⟩ := cells8 X2.out
                    go_wp2_with fail
                    refine (implReqOk_is E3.out Hda.out _ HR3.out).mono ?_
                    rintro e w2 ⟨rfl, hb2⟩
                    have Hb2 := Lib.hid ((Hb.out.trans (Hal2.out.mono Hb.out.size)).trans (hb2.mono (Nat.le_trans Hb.out.size Hal2.out.size)))
                    have xx0 := (X2.out.later hb2).cell 0 _ rfl
                    clear hb2 x0 x1 x2 x3 x4 x5 x6 x7
                    go_wp2_with fail
                    go_roundw
                    case rel => exact ⟨k + 1, by omega, by go_num, by rw [Hnext.out], Hok.out.step (by rw [Hget.out, HEE.out]; exact Hy.out), Hb2.out⟩
                    case measure => simp [intOf]; omega
            · obtain rfl : k = n := by omega
              have He := Lib.hid (okS_yes (c := true) (n := (c : Int) - 1) (l := l) (a := a) (b := b) (okPs_yes (by rw [HN.out]; exact Hok.out)) (by rw [HN.out]; omega) (by omega) (by omega))
              clear A3
              go_wp2
              go_ret
              exact ⟨by rw [He.out]; rfl, Hbw.out⟩
end Go.Proofs.Ytddbhokfjdgabaa.Num
