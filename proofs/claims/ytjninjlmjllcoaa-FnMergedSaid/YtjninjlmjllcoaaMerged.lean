
/-
  The law on lanes: what is put into lanes of a word is in these, and nothing else of it changes.
-/
import Derived.Test.YtjninjlmjllcoaaLane5
import Derived.Test.YtjninjlmjllcoaaLane6
import Derived.Test.YtjninjlmjllcoaaDraw4
namespace Go.Proofs.Ytjninjlmjllcoaa.Num
open Go.RowKit Rows3 Cur

theorem rdO_get {ad : Option Addr} {n cap : Nat} {l : List Bool} {w : World} (h : RdO (.slice ad n cap) l w) {i : Nat} (hi : i < n) :
    ∃ b o, ad = some ⟨b, o, none⟩ ∧ b < w.heap.size ∧ w.cell? ⟨b, o + i, none⟩ = some (.bool (l.getD i false)) := by
  obtain ⟨ad', cap', e, h⟩ := h
  cases e
  exact h i hi
theorem belowQ {B : Nat} {w w' : World} (h : Below B w w') (n : Nat) : Below B w (w'.drewN n) := ⟨h.os, h.tape, h.output, h.size, h.block⟩
theorem qBytesM (k y : Int) (h : bytesW k = y) (w : World) :
    Calls Try.prog 16 #[.int .i64 k] w fun e w' => e = .returned (.int .i64 y) ∧ w' = w :=
  (implBytes k w).mono fun _ _ ⟨h1, h2⟩ => ⟨by rw [h1, h], h2.symm⟩
theorem qLimitI (k y : Int) (h : limW k = y) (w : World) :
    Calls Try.prog 17 #[.int .i64 k] w fun e w' => e = .returned (.int .i64 y) ∧ w' = w :=
  (implLimit k w).mono fun _ _ ⟨h1, h2⟩ => ⟨by rw [h1, h], h2.symm⟩
/-- one lane of a word in which another number was put: where it isn't used it is as it was. -/
theorem lane_keep {x v : Int} (v0 : 0 ≤ v) :
    (v < 256 → lanePut x v 1 256 / 256 % 256 = x / 256 % 256 ∧ lanePut x v 1 256 / 65536 % 256 = x / 65536 % 256 ∧ lanePut x v 1 256 / 16777216 % 256 = x / 16777216 % 256 ∧ lanePut x v 1 256 % 256 = v) ∧
    (v < 256 → lanePut x v 256 256 % 256 = x % 256 ∧ lanePut x v 256 256 / 65536 % 256 = x / 65536 % 256 ∧ lanePut x v 256 256 / 16777216 % 256 = x / 16777216 % 256 ∧ lanePut x v 256 256 / 256 % 256 = v) ∧
    (v < 256 → lanePut x v 65536 256 % 256 = x % 256 ∧ lanePut x v 65536 256 / 256 % 256 = x / 256 % 256 ∧ lanePut x v 65536 256 / 16777216 % 256 = x / 16777216 % 256 ∧ lanePut x v 65536 256 / 65536 % 256 = v) ∧
    (v < 256 → lanePut x v 16777216 256 % 256 = x % 256 ∧ lanePut x v 16777216 256 / 256 % 256 = x / 256 % 256 ∧ lanePut x v 16777216 256 / 65536 % 256 = x / 65536 % 256 ∧ lanePut x v 16777216 256 / 16777216 % 256 = v) ∧
    (v < 65536 → lanePut x v 1 65536 / 65536 % 256 = x / 65536 % 256 ∧ lanePut x v 1 65536 / 16777216 % 256 = x / 16777216 % 256 ∧ lanePut x v 1 65536 % 65536 = v) ∧
    (v < 65536 → lanePut x v 65536 65536 % 256 = x % 256 ∧ lanePut x v 65536 65536 / 256 % 256 = x / 256 % 256 ∧ lanePut x v 65536 65536 / 65536 % 65536 = v) ∧
    (v < 4294967296 → lanePut x v 1 4294967296 % 4294967296 = v) := by
  unfold lanePut
  refine ⟨?_, ?_, ?_, ?_, ?_, ?_, ?_⟩ <;> intro h <;> (try refine ⟨?_, ?_, ?_, ?_⟩) <;> (try refine ⟨?_, ?_, ?_⟩) <;> omega

set_option maxHeartbeats 8000000 in
set_option maxRecDepth 100000 in
theorem merged_all (a : Option Addr) (len cap : Nat) (z : List Int) (w : World) (hC : CodeIn a len z w) :
    Calls Try.prog 4 #[.slice a len cap] w fun e w' => e = .returned (.bool true) ∧ Below w.heap.size w w' := by
  have HC := Lib.hid hC
  have hlen : ¬ 1048576 < len := by have := hC.2.2; omega
  clear hC
  go_enter Try.func4, Try.ntmps4
  go_wp2_with fail
  refine (bigE_no a len cap hlen _).mono ?_
  rintro e w0 ⟨rfl, rfl⟩
  go_wp2_with fail
  refine (drawMerge_any a len cap z _ HC.out).mono ?_
  rintro e w1 ⟨x, v, b, k, rfl, hb1⟩
  obtain ⟨y, hy⟩ : ∃ y, mergeW x v b k = y := ⟨_, rfl⟩
  have hyy : (y != y) = false := by simp
  have Hy := Lib.hid hy
  clear hy
  go_wp2_with fail
  refine (implMerge _ _ _ _ _).mono ?_
  rintro e w2 ⟨rfl, hb2⟩
  rw [Hy.out]
  have hb02 := hb1.trans (hb2.mono hb1.size)
  go_wp2_with fail
  refine (specMerge _ _ _ _ _).mono ?_
  rintro e w3 ⟨rfl, hb3⟩
  rw [Hy.out]
  have hb03 := hb02.trans (hb3.mono hb02.size)
  go_wp2_with fail
  refine (implStrobes _ _ _).mono ?_
  rintro e w4 ⟨s, rfl, hs, hb4⟩
  have hb04 := hb03.trans (hb4.mono hb03.size)
  clear hb1 hb2 hb3 hb4 hb02 hb03
  cases hm : mergeB x v b k with
  | false =>
    have hyx : y = x := by rw [← Hy.out, mergeW_no hm]
    cases hal : alB b k with
    | false =>
      have hl0 := lanesW_no hal
      rw [hl0] at hs
      obtain ⟨ad, cp, rfl⟩ := hs.slice
      have Hl := Lib.hid hl0
      have hxx : (x == x) = true := by simp
      clear hm hal hs hl0
      subst hyx
      clear hyy
      go_wp2_with fail
      refine (specStrobes _ _ _).mono ?_
      rintro e w5 ⟨u, rfl, hu, hb5⟩
      rw [Hl.out] at hu
      obtain ⟨bd, cb, rfl⟩ := hu.slice
      go_wp2
      go_ret
      exact ⟨rfl, hb04.trans (hb5.mono hb04.size)⟩
    | true =>
      obtain ⟨r, n, hr, hn, hn3, h4, h0, hw⟩ := lanes_yes hal
      have hl4 : (lanesW b k).length = 4 := by rw [hw]; simp [lanesTo]
      obtain ⟨ad, cp, rfl⟩ := hs.slice
      rw [hl4]
      have hway : x < 0 ∨ 4294967296 ≤ x ∨ (0 ≤ x ∧ x < 4294967296 ∧ v < 0) ∨ (0 ≤ x ∧ x < 4294967296 ∧ 0 ≤ v ∧ limW k ≤ v) := by
        unfold mergeB at hm
        rw [hal, Bool.true_and] at hm
        by_cases h1 : 0 ≤ x ∧ x < 4294967296
        · have h2 : inLB x 2 = true := (inLB_iff x 2).2 h1
          rw [h2, Bool.true_and] at hm
          have h3 : ¬ (0 ≤ v ∧ v < limW k) := fun h => by rw [(inLB_iff v k).2 h] at hm; cases hm
          omega
        · omega
      have hlb := limW_bd k
      obtain ⟨q, hq⟩ : ∃ q, limW k = q := ⟨_, rfl⟩
      rw [hq] at hway hlb
      have Hq := Lib.hid hq
      have hxx : (x == x) = true := by simp
      clear hm hal hs hl4 hr hn hn3 h4 hw hq
      subst hyx
      clear hyy
      rcases hway with hx | hx | ⟨hx0, hx1, hv⟩ | ⟨hx0, hx1, hv0, hv⟩
      · go_wp2
        go_ret
        exact ⟨rfl, hb04⟩
      · go_wp2_with (go_at_call 17; refine (implLimit _ _).mono ?_; rintro e w' ⟨rfl, rfl⟩; rw [show limW 2 = 4294967296 from rfl])
        all_goals
          go_ret
          exact ⟨rfl, hb04⟩
      · go_wp2_with (go_at_call 17; refine (implLimit _ _).mono ?_; rintro e w' ⟨rfl, rfl⟩; rw [show limW 2 = 4294967296 from rfl])
        go_ret
        exact ⟨rfl, hb04⟩
      · go_wp2_with fail
        refine (implLimit _ _).mono ?_
        rintro e w' ⟨rfl, rfl⟩
        rw [show limW 2 = 4294967296 from rfl]
        go_wp2_with fail
        refine (implLimit _ _).mono ?_
        rintro e w' ⟨rfl, rfl⟩
        rw [Hq.out]
        go_wp2
        go_ret
        exact ⟨rfl, hb04⟩
  | true =>
    obtain ⟨x0, x1, v0, v1, b0, hw, hway⟩ := merge_ways hm
    obtain ⟨k1, k2, k3, k4, k5, k6, k7⟩ := lane_keep (x := x) v0
    have K1 := Lib.hid k1
    have K2 := Lib.hid k2
    have K3 := Lib.hid k3
    have K4 := Lib.hid k4
    have K5 := Lib.hid k5
    have K6 := Lib.hid k6
    have K7 := Lib.hid k7
    have hal : alB b k = true := by unfold mergeB at hm; rw [Bool.and_eq_true] at hm; exact hm.1
    have Hlw := Lib.hid (show lanesW b k = lanesTo (b % 4).toNat (bytesW k).toNat by unfold lanesW; rw [if_pos hal])
    rw [Hy.out] at hw
    have Hw := Lib.hid hw
    have Hs := Lib.hid hs
    clear k1 k2 k3 k4 k5 k6 k7 hm hal hw hs Hy hyy
    rcases hway with ⟨rfl, hr | hr | hr | hr⟩ | ⟨rfl, hr | hr⟩ | ⟨rfl, hr⟩
    · have hs : OwnO w3.heap.size s (lanesTo 0 1) w4 := by have h := Hs.out; rw [Hlw.out, hr] at h; exact h
      rw [show limW 0 = 256 from rfl] at v1
      have hyl : y = lanePut x v 1 256 := by rw [Hw.out, hr]; rfl
      have hK := K1.out v1
      rw [← hyl] at hK
      have hy0 : 0 ≤ y ∧ y < 4294967296 := by rw [hyl]; unfold lanePut; omega
      obtain ⟨hy0, hy1⟩ := hy0
      obtain ⟨hu1, hu2, hu3, hv⟩ := hK
      have hn1 : (y / 256 % 256 != x / 256 % 256) = false := by rw [hu1]; simp
      have hn2 : (y / 65536 % 256 != x / 65536 % 256) = false := by rw [hu2]; simp
      have hn3 : (y / 16777216 % 256 != x / 16777216 % 256) = false := by rw [hu3]; simp
      have hve : (y % 256 == v) = true := by rw [hv]; simp
      have HV := Lib.hid hve
      obtain ⟨ad, cp, rfl⟩ := hs.slice
      rw [show (lanesTo 0 1).length = 4 from rfl]
      have Hr : Hid (RdO (.slice ad 4 cp) (lanesTo 0 1) w4) := Lib.hid hs.rd
      clear hyl hv hve hs K1 K2 K3 K4 K5 K6 K7 Hw Hlw Hs hu1 hu2 hu3
      go_wp2_with fail
      refine (implLimit 2 _).mono ?_
      rintro e w' ⟨rfl, rfl⟩
      rw [show limW 2 = 4294967296 from rfl]
      go_wp2_with fail
      refine (implLimit 0 _).mono ?_
      rintro e w' ⟨rfl, rfl⟩
      rw [show limW 0 = 256 from rfl]
      go_wp2_with fail
      go_loopw [9, 10] (fun c i wr => ∃ j : Nat, j ≤ 4 ∧ i = .int .i64 j ∧ c = .int .i64 (((lanesTo 0 1).take j).count true) ∧ Below w4.heap.size w4 wr) (fun _ i _ => 4 - (intOf i).toNat)
      case atStart => exact ⟨0, by omega, rfl, rfl, Below.refl _ _⟩
      case round =>
        obtain ⟨j, hj, rfl, rfl, hb⟩ := hrel
        have hj5 : j = 0 ∨ j = 1 ∨ j = 2 ∨ j = 3 ∨ j = 4 := by omega
        rcases hj5 with rfl | rfl | rfl | rfl | rfl
        · obtain ⟨g, o, rfl, h1, h2⟩ := rdO_get Hr.out (i := 0) (by omega)
          rw [← hb.cell (p := ⟨g, o + 0, none⟩) h1, show (lanesTo 0 1).getD 0 false = true from rfl, Nat.add_zero] at h2
          rw [show ((lanesTo 0 1).take 0).count true = 0 from rfl]
          clear h1
          go_wp2_with fail
          go_quiet (fail)
          go_wp2_with fail
          go_roundw
          case rel => exact ⟨1, by omega, by go_num, rfl, ⟨hb.os, hb.tape, hb.output, hb.size, hb.block⟩⟩
          case measure => simp [intOf]
        · obtain ⟨g, o, rfl, h1, h2⟩ := rdO_get Hr.out (i := 1) (by omega)
          rw [← hb.cell (p := ⟨g, o + 1, none⟩) h1, show (lanesTo 0 1).getD 1 false = false from rfl] at h2
          rw [show ((lanesTo 0 1).take 1).count true = 1 from rfl]
          clear h1
          go_wp2_with fail
          go_quiet (fail)
          go_wp2_with fail
          go_roundw
          case rel => exact ⟨2, by omega, by go_num, rfl, ⟨hb.os, hb.tape, hb.output, hb.size, hb.block⟩⟩
          case measure => simp [intOf]
        · obtain ⟨g, o, rfl, h1, h2⟩ := rdO_get Hr.out (i := 2) (by omega)
          rw [← hb.cell (p := ⟨g, o + 2, none⟩) h1, show (lanesTo 0 1).getD 2 false = false from rfl] at h2
          rw [show ((lanesTo 0 1).take 2).count true = 1 from rfl]
          clear h1
          go_wp2_with fail
          go_quiet (fail)
          go_wp2_with fail
          go_roundw
          case rel => exact ⟨3, by omega, by go_num, rfl, ⟨hb.os, hb.tape, hb.output, hb.size, hb.block⟩⟩
          case measure => simp [intOf]
        · obtain ⟨g, o, rfl, h1, h2⟩ := rdO_get Hr.out (i := 3) (by omega)
          rw [← hb.cell (p := ⟨g, o + 3, none⟩) h1, show (lanesTo 0 1).getD 3 false = false from rfl] at h2
          rw [show ((lanesTo 0 1).take 3).count true = 1 from rfl]
          clear h1
          go_wp2_with fail
          go_quiet (fail)
          go_wp2_with fail
          go_roundw
          case rel => exact ⟨4, by omega, by go_num, rfl, ⟨hb.os, hb.tape, hb.output, hb.size, hb.block⟩⟩
          case measure => simp [intOf]
        · rw [show ((lanesTo 0 1).take 4).count true = 1 from rfl]
          have hve := HV.out
          go_wp2_with fail
          go_quiet ((first | (go_at_call 16; exact Calls.quiet_of_same (qBytesM 0 1 rfl _)) | (go_at_call 17; exact Calls.quiet_of_same (qLimitI 0 256 rfl _))))
          go_wp2
          go_ret
          refine ⟨?_, hb04.trans ((belowQ hb _).mono hb04.size)⟩
          simp
    · have hs : OwnO w3.heap.size s (lanesTo 1 1) w4 := by have h := Hs.out; rw [Hlw.out, hr] at h; exact h
      rw [show limW 0 = 256 from rfl] at v1
      have hyl : y = lanePut x v 256 256 := by rw [Hw.out, hr]; rfl
      have hK := K2.out v1
      rw [← hyl] at hK
      have hy0 : 0 ≤ y ∧ y < 4294967296 := by rw [hyl]; unfold lanePut; omega
      obtain ⟨hy0, hy1⟩ := hy0
      obtain ⟨hu0, hu2, hu3, hv⟩ := hK
      have hn0 : (y % 256 != x % 256) = false := by rw [hu0]; simp
      have hn2 : (y / 65536 % 256 != x / 65536 % 256) = false := by rw [hu2]; simp
      have hn3 : (y / 16777216 % 256 != x / 16777216 % 256) = false := by rw [hu3]; simp
      have hve : (y / 256 % 256 == v) = true := by rw [hv]; simp
      have HV := Lib.hid hve
      obtain ⟨ad, cp, rfl⟩ := hs.slice
      rw [show (lanesTo 1 1).length = 4 from rfl]
      have Hr : Hid (RdO (.slice ad 4 cp) (lanesTo 1 1) w4) := Lib.hid hs.rd
      clear hyl hv hve hs K1 K2 K3 K4 K5 K6 K7 Hw Hlw Hs hu0 hu2 hu3
      go_wp2_with fail
      refine (implLimit 2 _).mono ?_
      rintro e w' ⟨rfl, rfl⟩
      rw [show limW 2 = 4294967296 from rfl]
      go_wp2_with fail
      refine (implLimit 0 _).mono ?_
      rintro e w' ⟨rfl, rfl⟩
      rw [show limW 0 = 256 from rfl]
      go_wp2_with fail
      go_loopw [9, 10] (fun c i wr => ∃ j : Nat, j ≤ 4 ∧ i = .int .i64 j ∧ c = .int .i64 (((lanesTo 1 1).take j).count true) ∧ Below w4.heap.size w4 wr) (fun _ i _ => 4 - (intOf i).toNat)
      case atStart => exact ⟨0, by omega, rfl, rfl, Below.refl _ _⟩
      case round =>
        obtain ⟨j, hj, rfl, rfl, hb⟩ := hrel
        have hj5 : j = 0 ∨ j = 1 ∨ j = 2 ∨ j = 3 ∨ j = 4 := by omega
        rcases hj5 with rfl | rfl | rfl | rfl | rfl
        · obtain ⟨g, o, rfl, h1, h2⟩ := rdO_get Hr.out (i := 0) (by omega)
          rw [← hb.cell (p := ⟨g, o + 0, none⟩) h1, show (lanesTo 1 1).getD 0 false = false from rfl, Nat.add_zero] at h2
          rw [show ((lanesTo 1 1).take 0).count true = 0 from rfl]
          clear h1
          go_wp2_with fail
          go_quiet (fail)
          go_wp2_with fail
          go_roundw
          case rel => exact ⟨1, by omega, by go_num, rfl, ⟨hb.os, hb.tape, hb.output, hb.size, hb.block⟩⟩
          case measure => simp [intOf]
        · obtain ⟨g, o, rfl, h1, h2⟩ := rdO_get Hr.out (i := 1) (by omega)
          rw [← hb.cell (p := ⟨g, o + 1, none⟩) h1, show (lanesTo 1 1).getD 1 false = true from rfl] at h2
          rw [show ((lanesTo 1 1).take 1).count true = 0 from rfl]
          clear h1
          go_wp2_with fail
          go_quiet (fail)
          go_wp2_with fail
          go_roundw
          case rel => exact ⟨2, by omega, by go_num, rfl, ⟨hb.os, hb.tape, hb.output, hb.size, hb.block⟩⟩
          case measure => simp [intOf]
        · obtain ⟨g, o, rfl, h1, h2⟩ := rdO_get Hr.out (i := 2) (by omega)
          rw [← hb.cell (p := ⟨g, o + 2, none⟩) h1, show (lanesTo 1 1).getD 2 false = false from rfl] at h2
          rw [show ((lanesTo 1 1).take 2).count true = 1 from rfl]
          clear h1
          go_wp2_with fail
          go_quiet (fail)
          go_wp2_with fail
          go_roundw
          case rel => exact ⟨3, by omega, by go_num, rfl, ⟨hb.os, hb.tape, hb.output, hb.size, hb.block⟩⟩
          case measure => simp [intOf]
        · obtain ⟨g, o, rfl, h1, h2⟩ := rdO_get Hr.out (i := 3) (by omega)
          rw [← hb.cell (p := ⟨g, o + 3, none⟩) h1, show (lanesTo 1 1).getD 3 false = false from rfl] at h2
          rw [show ((lanesTo 1 1).take 3).count true = 1 from rfl]
          clear h1
          go_wp2_with fail
          go_quiet (fail)
          go_wp2_with fail
          go_roundw
          case rel => exact ⟨4, by omega, by go_num, rfl, ⟨hb.os, hb.tape, hb.output, hb.size, hb.block⟩⟩
          case measure => simp [intOf]
        · rw [show ((lanesTo 1 1).take 4).count true = 1 from rfl]
          have hve := HV.out
          go_wp2_with fail
          go_quiet ((first | (go_at_call 16; exact Calls.quiet_of_same (qBytesM 0 1 rfl _)) | (go_at_call 17; exact Calls.quiet_of_same (qLimitI 0 256 rfl _))))
          go_wp2
          go_ret
          refine ⟨?_, hb04.trans ((belowQ hb _).mono hb04.size)⟩
          simp
    · have hs : OwnO w3.heap.size s (lanesTo 2 1) w4 := by have h := Hs.out; rw [Hlw.out, hr] at h; exact h
      rw [show limW 0 = 256 from rfl] at v1
      have hyl : y = lanePut x v 65536 256 := by rw [Hw.out, hr]; rfl
      have hK := K3.out v1
      rw [← hyl] at hK
      have hy0 : 0 ≤ y ∧ y < 4294967296 := by rw [hyl]; unfold lanePut; omega
      obtain ⟨hy0, hy1⟩ := hy0
      obtain ⟨hu0, hu1, hu3, hv⟩ := hK
      have hn0 : (y % 256 != x % 256) = false := by rw [hu0]; simp
      have hn1 : (y / 256 % 256 != x / 256 % 256) = false := by rw [hu1]; simp
      have hn3 : (y / 16777216 % 256 != x / 16777216 % 256) = false := by rw [hu3]; simp
      have hve : (y / 65536 % 256 == v) = true := by rw [hv]; simp
      have HV := Lib.hid hve
      obtain ⟨ad, cp, rfl⟩ := hs.slice
      rw [show (lanesTo 2 1).length = 4 from rfl]
      have Hr : Hid (RdO (.slice ad 4 cp) (lanesTo 2 1) w4) := Lib.hid hs.rd
      clear hyl hv hve hs K1 K2 K3 K4 K5 K6 K7 Hw Hlw Hs hu0 hu1 hu3
      go_wp2_with fail
      refine (implLimit 2 _).mono ?_
      rintro e w' ⟨rfl, rfl⟩
      rw [show limW 2 = 4294967296 from rfl]
      go_wp2_with fail
      refine (implLimit 0 _).mono ?_
      rintro e w' ⟨rfl, rfl⟩
      rw [show limW 0 = 256 from rfl]
      go_wp2_with fail
      go_loopw [9, 10] (fun c i wr => ∃ j : Nat, j ≤ 4 ∧ i = .int .i64 j ∧ c = .int .i64 (((lanesTo 2 1).take j).count true) ∧ Below w4.heap.size w4 wr) (fun _ i _ => 4 - (intOf i).toNat)
      case atStart => exact ⟨0, by omega, rfl, rfl, Below.refl _ _⟩
      case round =>
        obtain ⟨j, hj, rfl, rfl, hb⟩ := hrel
        have hj5 : j = 0 ∨ j = 1 ∨ j = 2 ∨ j = 3 ∨ j = 4 := by omega
        rcases hj5 with rfl | rfl | rfl | rfl | rfl
        · obtain ⟨g, o, rfl, h1, h2⟩ := rdO_get Hr.out (i := 0) (by omega)
          rw [← hb.cell (p := ⟨g, o + 0, none⟩) h1, show (lanesTo 2 1).getD 0 false = false from rfl, Nat.add_zero] at h2
          rw [show ((lanesTo 2 1).take 0).count true = 0 from rfl]
          clear h1
          go_wp2_with fail
          go_quiet (fail)
          go_wp2_with fail
          go_roundw
          case rel => exact ⟨1, by omega, by go_num, rfl, ⟨hb.os, hb.tape, hb.output, hb.size, hb.block⟩⟩
          case measure => simp [intOf]
        · obtain ⟨g, o, rfl, h1, h2⟩ := rdO_get Hr.out (i := 1) (by omega)
          rw [← hb.cell (p := ⟨g, o + 1, none⟩) h1, show (lanesTo 2 1).getD 1 false = false from rfl] at h2
          rw [show ((lanesTo 2 1).take 1).count true = 0 from rfl]
          clear h1
          go_wp2_with fail
          go_quiet (fail)
          go_wp2_with fail
          go_roundw
          case rel => exact ⟨2, by omega, by go_num, rfl, ⟨hb.os, hb.tape, hb.output, hb.size, hb.block⟩⟩
          case measure => simp [intOf]
        · obtain ⟨g, o, rfl, h1, h2⟩ := rdO_get Hr.out (i := 2) (by omega)
          rw [← hb.cell (p := ⟨g, o + 2, none⟩) h1, show (lanesTo 2 1).getD 2 false = true from rfl] at h2
          rw [show ((lanesTo 2 1).take 2).count true = 0 from rfl]
          clear h1
          go_wp2_with fail
          go_quiet (fail)
          go_wp2_with fail
          go_roundw
          case rel => exact ⟨3, by omega, by go_num, rfl, ⟨hb.os, hb.tape, hb.output, hb.size, hb.block⟩⟩
          case measure => simp [intOf]
        · obtain ⟨g, o, rfl, h1, h2⟩ := rdO_get Hr.out (i := 3) (by omega)
          rw [← hb.cell (p := ⟨g, o + 3, none⟩) h1, show (lanesTo 2 1).getD 3 false = false from rfl] at h2
          rw [show ((lanesTo 2 1).take 3).count true = 1 from rfl]
          clear h1
          go_wp2_with fail
          go_quiet (fail)
          go_wp2_with fail
          go_roundw
          case rel => exact ⟨4, by omega, by go_num, rfl, ⟨hb.os, hb.tape, hb.output, hb.size, hb.block⟩⟩
          case measure => simp [intOf]
        · rw [show ((lanesTo 2 1).take 4).count true = 1 from rfl]
          have hve := HV.out
          go_wp2_with fail
          go_quiet ((first | (go_at_call 16; exact Calls.quiet_of_same (qBytesM 0 1 rfl _)) | (go_at_call 17; exact Calls.quiet_of_same (qLimitI 0 256 rfl _))))
          go_wp2
          go_ret
          refine ⟨?_, hb04.trans ((belowQ hb _).mono hb04.size)⟩
          simp
    · have hs : OwnO w3.heap.size s (lanesTo 3 1) w4 := by have h := Hs.out; rw [Hlw.out, hr] at h; exact h
      rw [show limW 0 = 256 from rfl] at v1
      have hyl : y = lanePut x v 16777216 256 := by rw [Hw.out, hr]; rfl
      have hK := K4.out v1
      rw [← hyl] at hK
      have hy0 : 0 ≤ y ∧ y < 4294967296 := by rw [hyl]; unfold lanePut; omega
      obtain ⟨hy0, hy1⟩ := hy0
      obtain ⟨hu0, hu1, hu2, hv⟩ := hK
      have hn0 : (y % 256 != x % 256) = false := by rw [hu0]; simp
      have hn1 : (y / 256 % 256 != x / 256 % 256) = false := by rw [hu1]; simp
      have hn2 : (y / 65536 % 256 != x / 65536 % 256) = false := by rw [hu2]; simp
      have hve : (y / 16777216 % 256 == v) = true := by rw [hv]; simp
      have HV := Lib.hid hve
      obtain ⟨ad, cp, rfl⟩ := hs.slice
      rw [show (lanesTo 3 1).length = 4 from rfl]
      have Hr : Hid (RdO (.slice ad 4 cp) (lanesTo 3 1) w4) := Lib.hid hs.rd
      clear hyl hv hve hs K1 K2 K3 K4 K5 K6 K7 Hw Hlw Hs hu0 hu1 hu2
      go_wp2_with fail
      refine (implLimit 2 _).mono ?_
      rintro e w' ⟨rfl, rfl⟩
      rw [show limW 2 = 4294967296 from rfl]
      go_wp2_with fail
      refine (implLimit 0 _).mono ?_
      rintro e w' ⟨rfl, rfl⟩
      rw [show limW 0 = 256 from rfl]
      go_wp2_with fail
      go_loopw [9, 10] (fun c i wr => ∃ j : Nat, j ≤ 4 ∧ i = .int .i64 j ∧ c = .int .i64 (((lanesTo 3 1).take j).count true) ∧ Below w4.heap.size w4 wr) (fun _ i _ => 4 - (intOf i).toNat)
      case atStart => exact ⟨0, by omega, rfl, rfl, Below.refl _ _⟩
      case round =>
        obtain ⟨j, hj, rfl, rfl, hb⟩ := hrel
        have hj5 : j = 0 ∨ j = 1 ∨ j = 2 ∨ j = 3 ∨ j = 4 := by omega
        rcases hj5 with rfl | rfl | rfl | rfl | rfl
        · obtain ⟨g, o, rfl, h1, h2⟩ := rdO_get Hr.out (i := 0) (by omega)
          rw [← hb.cell (p := ⟨g, o + 0, none⟩) h1, show (lanesTo 3 1).getD 0 false = false from rfl, Nat.add_zero] at h2
          rw [show ((lanesTo 3 1).take 0).count true = 0 from rfl]
          clear h1
          go_wp2_with fail
          go_quiet (fail)
          go_wp2_with fail
          go_roundw
          case rel => exact ⟨1, by omega, by go_num, rfl, ⟨hb.os, hb.tape, hb.output, hb.size, hb.block⟩⟩
          case measure => simp [intOf]
        · obtain ⟨g, o, rfl, h1, h2⟩ := rdO_get Hr.out (i := 1) (by omega)
          rw [← hb.cell (p := ⟨g, o + 1, none⟩) h1, show (lanesTo 3 1).getD 1 false = false from rfl] at h2
          rw [show ((lanesTo 3 1).take 1).count true = 0 from rfl]
          clear h1
          go_wp2_with fail
          go_quiet (fail)
          go_wp2_with fail
          go_roundw
          case rel => exact ⟨2, by omega, by go_num, rfl, ⟨hb.os, hb.tape, hb.output, hb.size, hb.block⟩⟩
          case measure => simp [intOf]
        · obtain ⟨g, o, rfl, h1, h2⟩ := rdO_get Hr.out (i := 2) (by omega)
          rw [← hb.cell (p := ⟨g, o + 2, none⟩) h1, show (lanesTo 3 1).getD 2 false = false from rfl] at h2
          rw [show ((lanesTo 3 1).take 2).count true = 0 from rfl]
          clear h1
          go_wp2_with fail
          go_quiet (fail)
          go_wp2_with fail
          go_roundw
          case rel => exact ⟨3, by omega, by go_num, rfl, ⟨hb.os, hb.tape, hb.output, hb.size, hb.block⟩⟩
          case measure => simp [intOf]
        · obtain ⟨g, o, rfl, h1, h2⟩ := rdO_get Hr.out (i := 3) (by omega)
          rw [← hb.cell (p := ⟨g, o + 3, none⟩) h1, show (lanesTo 3 1).getD 3 false = true from rfl] at h2
          rw [show ((lanesTo 3 1).take 3).count true = 0 from rfl]
          clear h1
          go_wp2_with fail
          go_quiet (fail)
          go_wp2_with fail
          go_roundw
          case rel => exact ⟨4, by omega, by go_num, rfl, ⟨hb.os, hb.tape, hb.output, hb.size, hb.block⟩⟩
          case measure => simp [intOf]
        · rw [show ((lanesTo 3 1).take 4).count true = 1 from rfl]
          have hve := HV.out
          go_wp2_with fail
          go_quiet ((first | (go_at_call 16; exact Calls.quiet_of_same (qBytesM 0 1 rfl _)) | (go_at_call 17; exact Calls.quiet_of_same (qLimitI 0 256 rfl _))))
          go_wp2
          go_ret
          refine ⟨?_, hb04.trans ((belowQ hb _).mono hb04.size)⟩
          simp
    · have hs : OwnO w3.heap.size s (lanesTo 0 2) w4 := by have h := Hs.out; rw [Hlw.out, hr] at h; exact h
      rw [show limW 1 = 65536 from rfl] at v1
      have hyl : y = lanePut x v 1 65536 := by rw [Hw.out, hr]; rfl
      have hK := K5.out v1
      rw [← hyl] at hK
      have hy0 : 0 ≤ y ∧ y < 4294967296 := by rw [hyl]; unfold lanePut; omega
      obtain ⟨hy0, hy1⟩ := hy0
      obtain ⟨hu2, hu3, hv⟩ := hK
      have hn2 : (y / 65536 % 256 != x / 65536 % 256) = false := by rw [hu2]; simp
      have hn3 : (y / 16777216 % 256 != x / 16777216 % 256) = false := by rw [hu3]; simp
      have hve : (y % 65536 == v) = true := by rw [hv]; simp
      have HV := Lib.hid hve
      obtain ⟨ad, cp, rfl⟩ := hs.slice
      rw [show (lanesTo 0 2).length = 4 from rfl]
      have Hr : Hid (RdO (.slice ad 4 cp) (lanesTo 0 2) w4) := Lib.hid hs.rd
      clear hyl hv hve hs K1 K2 K3 K4 K5 K6 K7 Hw Hlw Hs hu2 hu3
      go_wp2_with fail
      refine (implLimit 2 _).mono ?_
      rintro e w' ⟨rfl, rfl⟩
      rw [show limW 2 = 4294967296 from rfl]
      go_wp2_with fail
      refine (implLimit 1 _).mono ?_
      rintro e w' ⟨rfl, rfl⟩
      rw [show limW 1 = 65536 from rfl]
      go_wp2_with fail
      go_loopw [9, 10] (fun c i wr => ∃ j : Nat, j ≤ 4 ∧ i = .int .i64 j ∧ c = .int .i64 (((lanesTo 0 2).take j).count true) ∧ Below w4.heap.size w4 wr) (fun _ i _ => 4 - (intOf i).toNat)
      case atStart => exact ⟨0, by omega, rfl, rfl, Below.refl _ _⟩
      case round =>
        obtain ⟨j, hj, rfl, rfl, hb⟩ := hrel
        have hj5 : j = 0 ∨ j = 1 ∨ j = 2 ∨ j = 3 ∨ j = 4 := by omega
        rcases hj5 with rfl | rfl | rfl | rfl | rfl
        · obtain ⟨g, o, rfl, h1, h2⟩ := rdO_get Hr.out (i := 0) (by omega)
          rw [← hb.cell (p := ⟨g, o + 0, none⟩) h1, show (lanesTo 0 2).getD 0 false = true from rfl, Nat.add_zero] at h2
          rw [show ((lanesTo 0 2).take 0).count true = 0 from rfl]
          clear h1
          go_wp2_with fail
          go_quiet (fail)
          go_wp2_with fail
          go_roundw
          case rel => exact ⟨1, by omega, by go_num, rfl, ⟨hb.os, hb.tape, hb.output, hb.size, hb.block⟩⟩
          case measure => simp [intOf]
        · obtain ⟨g, o, rfl, h1, h2⟩ := rdO_get Hr.out (i := 1) (by omega)
          rw [← hb.cell (p := ⟨g, o + 1, none⟩) h1, show (lanesTo 0 2).getD 1 false = true from rfl] at h2
          rw [show ((lanesTo 0 2).take 1).count true = 1 from rfl]
          clear h1
          go_wp2_with fail
          go_quiet (fail)
          go_wp2_with fail
          go_roundw
          case rel => exact ⟨2, by omega, by go_num, rfl, ⟨hb.os, hb.tape, hb.output, hb.size, hb.block⟩⟩
          case measure => simp [intOf]
        · obtain ⟨g, o, rfl, h1, h2⟩ := rdO_get Hr.out (i := 2) (by omega)
          rw [← hb.cell (p := ⟨g, o + 2, none⟩) h1, show (lanesTo 0 2).getD 2 false = false from rfl] at h2
          rw [show ((lanesTo 0 2).take 2).count true = 2 from rfl]
          clear h1
          go_wp2_with fail
          go_quiet (fail)
          go_wp2_with fail
          go_roundw
          case rel => exact ⟨3, by omega, by go_num, rfl, ⟨hb.os, hb.tape, hb.output, hb.size, hb.block⟩⟩
          case measure => simp [intOf]
        · obtain ⟨g, o, rfl, h1, h2⟩ := rdO_get Hr.out (i := 3) (by omega)
          rw [← hb.cell (p := ⟨g, o + 3, none⟩) h1, show (lanesTo 0 2).getD 3 false = false from rfl] at h2
          rw [show ((lanesTo 0 2).take 3).count true = 2 from rfl]
          clear h1
          go_wp2_with fail
          go_quiet (fail)
          go_wp2_with fail
          go_roundw
          case rel => exact ⟨4, by omega, by go_num, rfl, ⟨hb.os, hb.tape, hb.output, hb.size, hb.block⟩⟩
          case measure => simp [intOf]
        · rw [show ((lanesTo 0 2).take 4).count true = 2 from rfl]
          have hve := HV.out
          go_wp2_with fail
          go_quiet ((first | (go_at_call 16; exact Calls.quiet_of_same (qBytesM 1 2 rfl _)) | (go_at_call 17; exact Calls.quiet_of_same (qLimitI 1 65536 rfl _))))
          go_wp2
          go_ret
          refine ⟨?_, hb04.trans ((belowQ hb _).mono hb04.size)⟩
          simp
    · have hs : OwnO w3.heap.size s (lanesTo 2 2) w4 := by have h := Hs.out; rw [Hlw.out, hr] at h; exact h
      rw [show limW 1 = 65536 from rfl] at v1
      have hyl : y = lanePut x v 65536 65536 := by rw [Hw.out, hr]; rfl
      have hK := K6.out v1
      rw [← hyl] at hK
      have hy0 : 0 ≤ y ∧ y < 4294967296 := by rw [hyl]; unfold lanePut; omega
      obtain ⟨hy0, hy1⟩ := hy0
      obtain ⟨hu0, hu1, hv⟩ := hK
      have hn0 : (y % 256 != x % 256) = false := by rw [hu0]; simp
      have hn1 : (y / 256 % 256 != x / 256 % 256) = false := by rw [hu1]; simp
      have hve : (y / 65536 % 65536 == v) = true := by rw [hv]; simp
      have HV := Lib.hid hve
      obtain ⟨ad, cp, rfl⟩ := hs.slice
      rw [show (lanesTo 2 2).length = 4 from rfl]
      have Hr : Hid (RdO (.slice ad 4 cp) (lanesTo 2 2) w4) := Lib.hid hs.rd
      clear hyl hv hve hs K1 K2 K3 K4 K5 K6 K7 Hw Hlw Hs hu0 hu1
      go_wp2_with fail
      refine (implLimit 2 _).mono ?_
      rintro e w' ⟨rfl, rfl⟩
      rw [show limW 2 = 4294967296 from rfl]
      go_wp2_with fail
      refine (implLimit 1 _).mono ?_
      rintro e w' ⟨rfl, rfl⟩
      rw [show limW 1 = 65536 from rfl]
      go_wp2_with fail
      go_loopw [9, 10] (fun c i wr => ∃ j : Nat, j ≤ 4 ∧ i = .int .i64 j ∧ c = .int .i64 (((lanesTo 2 2).take j).count true) ∧ Below w4.heap.size w4 wr) (fun _ i _ => 4 - (intOf i).toNat)
      case atStart => exact ⟨0, by omega, rfl, rfl, Below.refl _ _⟩
      case round =>
        obtain ⟨j, hj, rfl, rfl, hb⟩ := hrel
        have hj5 : j = 0 ∨ j = 1 ∨ j = 2 ∨ j = 3 ∨ j = 4 := by omega
        rcases hj5 with rfl | rfl | rfl | rfl | rfl
        · obtain ⟨g, o, rfl, h1, h2⟩ := rdO_get Hr.out (i := 0) (by omega)
          rw [← hb.cell (p := ⟨g, o + 0, none⟩) h1, show (lanesTo 2 2).getD 0 false = false from rfl, Nat.add_zero] at h2
          rw [show ((lanesTo 2 2).take 0).count true = 0 from rfl]
          clear h1
          go_wp2_with fail
          go_quiet (fail)
          go_wp2_with fail
          go_roundw
          case rel => exact ⟨1, by omega, by go_num, rfl, ⟨hb.os, hb.tape, hb.output, hb.size, hb.block⟩⟩
          case measure => simp [intOf]
        · obtain ⟨g, o, rfl, h1, h2⟩ := rdO_get Hr.out (i := 1) (by omega)
          rw [← hb.cell (p := ⟨g, o + 1, none⟩) h1, show (lanesTo 2 2).getD 1 false = false from rfl] at h2
          rw [show ((lanesTo 2 2).take 1).count true = 0 from rfl]
          clear h1
          go_wp2_with fail
          go_quiet (fail)
          go_wp2_with fail
          go_roundw
          case rel => exact ⟨2, by omega, by go_num, rfl, ⟨hb.os, hb.tape, hb.output, hb.size, hb.block⟩⟩
          case measure => simp [intOf]
        · obtain ⟨g, o, rfl, h1, h2⟩ := rdO_get Hr.out (i := 2) (by omega)
          rw [← hb.cell (p := ⟨g, o + 2, none⟩) h1, show (lanesTo 2 2).getD 2 false = true from rfl] at h2
          rw [show ((lanesTo 2 2).take 2).count true = 0 from rfl]
          clear h1
          go_wp2_with fail
          go_quiet (fail)
          go_wp2_with fail
          go_roundw
          case rel => exact ⟨3, by omega, by go_num, rfl, ⟨hb.os, hb.tape, hb.output, hb.size, hb.block⟩⟩
          case measure => simp [intOf]
        · obtain ⟨g, o, rfl, h1, h2⟩ := rdO_get Hr.out (i := 3) (by omega)
          rw [← hb.cell (p := ⟨g, o + 3, none⟩) h1, show (lanesTo 2 2).getD 3 false = true from rfl] at h2
          rw [show ((lanesTo 2 2).take 3).count true = 1 from rfl]
          clear h1
          go_wp2_with fail
          go_quiet (fail)
          go_wp2_with fail
          go_roundw
          case rel => exact ⟨4, by omega, by go_num, rfl, ⟨hb.os, hb.tape, hb.output, hb.size, hb.block⟩⟩
          case measure => simp [intOf]
        · rw [show ((lanesTo 2 2).take 4).count true = 2 from rfl]
          have hve := HV.out
          go_wp2_with fail
          go_quiet ((first | (go_at_call 16; exact Calls.quiet_of_same (qBytesM 1 2 rfl _)) | (go_at_call 17; exact Calls.quiet_of_same (qLimitI 1 65536 rfl _))))
          go_wp2
          go_ret
          refine ⟨?_, hb04.trans ((belowQ hb _).mono hb04.size)⟩
          simp
    · have hs : OwnO w3.heap.size s (lanesTo 0 4) w4 := by have h := Hs.out; rw [Hlw.out, hr] at h; exact h
      rw [show limW 2 = 4294967296 from rfl] at v1
      have hyl : y = lanePut x v 1 4294967296 := by rw [Hw.out, hr]; rfl
      have hK := K7.out v1
      rw [← hyl] at hK
      have hy0 : 0 ≤ y ∧ y < 4294967296 := by rw [hyl]; unfold lanePut; omega
      obtain ⟨hy0, hy1⟩ := hy0
      have hv := hK
      have hve : (y % 4294967296 == v) = true := by rw [hv]; simp
      have HV := Lib.hid hve
      obtain ⟨ad, cp, rfl⟩ := hs.slice
      rw [show (lanesTo 0 4).length = 4 from rfl]
      have Hr : Hid (RdO (.slice ad 4 cp) (lanesTo 0 4) w4) := Lib.hid hs.rd
      clear hyl hv hve hs K1 K2 K3 K4 K5 K6 K7 Hw Hlw Hs 
      go_wp2_with fail
      refine (implLimit 2 _).mono ?_
      rintro e w' ⟨rfl, rfl⟩
      rw [show limW 2 = 4294967296 from rfl]
      go_wp2_with fail
      refine (implLimit 2 _).mono ?_
      rintro e w' ⟨rfl, rfl⟩
      rw [show limW 2 = 4294967296 from rfl]
      go_wp2_with fail
      go_loopw [9, 10] (fun c i wr => ∃ j : Nat, j ≤ 4 ∧ i = .int .i64 j ∧ c = .int .i64 (((lanesTo 0 4).take j).count true) ∧ Below w4.heap.size w4 wr) (fun _ i _ => 4 - (intOf i).toNat)
      case atStart => exact ⟨0, by omega, rfl, rfl, Below.refl _ _⟩
      case round =>
        obtain ⟨j, hj, rfl, rfl, hb⟩ := hrel
        have hj5 : j = 0 ∨ j = 1 ∨ j = 2 ∨ j = 3 ∨ j = 4 := by omega
        rcases hj5 with rfl | rfl | rfl | rfl | rfl
        · obtain ⟨g, o, rfl, h1, h2⟩ := rdO_get Hr.out (i := 0) (by omega)
          rw [← hb.cell (p := ⟨g, o + 0, none⟩) h1, show (lanesTo 0 4).getD 0 false = true from rfl, Nat.add_zero] at h2
          rw [show ((lanesTo 0 4).take 0).count true = 0 from rfl]
          clear h1
          go_wp2_with fail
          go_quiet (fail)
          go_wp2_with fail
          go_roundw
          case rel => exact ⟨1, by omega, by go_num, rfl, ⟨hb.os, hb.tape, hb.output, hb.size, hb.block⟩⟩
          case measure => simp [intOf]
        · obtain ⟨g, o, rfl, h1, h2⟩ := rdO_get Hr.out (i := 1) (by omega)
          rw [← hb.cell (p := ⟨g, o + 1, none⟩) h1, show (lanesTo 0 4).getD 1 false = true from rfl] at h2
          rw [show ((lanesTo 0 4).take 1).count true = 1 from rfl]
          clear h1
          go_wp2_with fail
          go_quiet (fail)
          go_wp2_with fail
          go_roundw
          case rel => exact ⟨2, by omega, by go_num, rfl, ⟨hb.os, hb.tape, hb.output, hb.size, hb.block⟩⟩
          case measure => simp [intOf]
        · obtain ⟨g, o, rfl, h1, h2⟩ := rdO_get Hr.out (i := 2) (by omega)
          rw [← hb.cell (p := ⟨g, o + 2, none⟩) h1, show (lanesTo 0 4).getD 2 false = true from rfl] at h2
          rw [show ((lanesTo 0 4).take 2).count true = 2 from rfl]
          clear h1
          go_wp2_with fail
          go_quiet (fail)
          go_wp2_with fail
          go_roundw
          case rel => exact ⟨3, by omega, by go_num, rfl, ⟨hb.os, hb.tape, hb.output, hb.size, hb.block⟩⟩
          case measure => simp [intOf]
        · obtain ⟨g, o, rfl, h1, h2⟩ := rdO_get Hr.out (i := 3) (by omega)
          rw [← hb.cell (p := ⟨g, o + 3, none⟩) h1, show (lanesTo 0 4).getD 3 false = true from rfl] at h2
          rw [show ((lanesTo 0 4).take 3).count true = 3 from rfl]
          clear h1
          go_wp2_with fail
          go_quiet (fail)
          go_wp2_with fail
          go_roundw
          case rel => exact ⟨4, by omega, by go_num, rfl, ⟨hb.os, hb.tape, hb.output, hb.size, hb.block⟩⟩
          case measure => simp [intOf]
        · rw [show ((lanesTo 0 4).take 4).count true = 4 from rfl]
          have hve := HV.out
          go_wp2_with fail
          go_quiet ((first | (go_at_call 16; exact Calls.quiet_of_same (qBytesM 2 4 rfl _)) | (go_at_call 17; exact Calls.quiet_of_same (qLimitI 2 4294967296 rfl _))))
          go_wp2
          go_ret
          refine ⟨?_, hb04.trans ((belowQ hb _).mono hb04.size)⟩
          simp
end Go.Proofs.Ytjninjlmjllcoaa.Num
