
/-
  The law on what is posted: its walk, given the contract of the program's MstPost.
-/
import Derived.Test.YtijilhaoknpeeaaGDraw1
import Derived.Test.YtijilhaoknpeeaaGMst2
import Derived.Test.YtijilhaoknpeeaaMst8
import Derived.Test.YtijilhaoknpeeaaGDraw0
import Derived.Deep.Cut
namespace Go.Proofs.Ytijilhaoknpeeaa.KD
open Go.RowKit Rows3 GR Num Cur Bytes
set_option linter.unusedVariables false

theorem post_true {q q' : List ReqX} {be dn tr be' dn' tr' : Int} {pa br pa' br' : Bool} {r : ReqX} (h : postM q be dn tr pa br r = ((q', be', dn', tr', pa', br'), true)) : q' = q ++ [r] ∧ be' = be ∧ dn' = dn ∧ q.length < 4 := by
  unfold postM at h
  split at h
  · rename_i hc
    have := (right_bd hc.1).2.2.2.2.1
    have h4 := hc.2.2
    simp only [Prod.mk.injEq] at h
    obtain ⟨⟨rfl, rfl, rfl, _⟩, _⟩ := h
    exact ⟨rfl, rfl, rfl, by omega⟩
  · simp at h
theorem post_false {q : List ReqX} {be dn tr : Int} {pa br : Bool} {r : ReqX} {m : MstX} (h : postM q be dn tr pa br r = (m, false)) : m = (q, be, dn, tr, pa, br) := by
  unfold postM at h
  split at h
  · simp at h
  · simp at h; exact h.symm
set_option maxHeartbeats 8000000 in
set_option maxRecDepth 100000 in
theorem posts_of (IP : PostI) (a : Option Addr) (len cap : Nat) (z : List Int) (w : World) (hC : Cur.CodeIn a len z w) :
    Calls Try.prog 4 #[.slice a len cap] w fun e w' => e = .returned (.bool true) ∧ Below w.heap.size w w' := by
  have HC := Lib.hid hC
  have hlen : ¬ 1048576 < len := by have := hC.2.2; omega
  clear hC
  go_enter Try.func4, Try.ntmps4
  go_wp2_with fail
  refine (Cur.bigE_no a len cap hlen _).mono ?_
  rintro e w0 ⟨rfl, rfl⟩
  go_wp2_with fail
  refine (Cur.drawPost_any a len cap z _ HC.out).mono ?_
  rintro e w1 ⟨us, ⟨q, be, dn, tr, pa, br⟩, vs, ⟨x0, x1, x2, x3, x4, x5⟩, he, hs, hr9, hcm, hcr, hb1⟩
  obtain ⟨a1, p1, rfl, _⟩ := mst_form (mstK.cap_rd hcm)
  obtain ⟨a2, p2, rfl, _⟩ := rd_req (reqK.cap_rd hcr)
  obtain ⟨n, hn⟩ : ∃ n, q.length = n := ⟨_, rfl⟩
  rw [hn] at he hcm
  obtain rfl : e = .returned (.tuple #[.agg #[.slice a1 n p1, .int .i64 be, .int .i64 dn, .int .i64 tr, .bool pa, .bool br], .agg #[.bool x0, .int .i64 x1, .int .i64 x2, .int .i64 x3, .bool x4, .slice a2 x5.length p2]]) := he
  have HN := Lib.hid hn
  have HS := Lib.hid (hs.sz (by omega))
  have HQ : Hid (reqK.sz (x0, x1, x2, x3, x4, x5) ≤ 2000000) := Lib.hid (by rw [req_szM]; have : x5.length ≤ 9 := hr9; dsimp only; omega)
  have hsz : ∀ (w : World) o, (w.alloc o).heap.size = w.heap.size + 1 := fun w o => by simp
  have M0 := (Bx.new 26 #[.slice a1 n p1, .int .i64 be, .int .i64 dn, .int .i64 tr, .bool pa, .bool br] w1).alloc (.cells #[.bool x0, .int .i64 x1, .int .i64 x2, .int .i64 x3, .bool x4, .slice a2 x5.length p2] 35)
  have R0 := Bx.new 35 #[.bool x0, .int .i64 x1, .int .i64 x2, .int .i64 x3, .bool x4, .slice a2 x5.length p2] (w1.alloc (.cells #[.slice a1 n p1, .int .i64 be, .int .i64 dn, .int .i64 tr, .bool pa, .bool br] 26))
  rw [hsz] at R0
  have bm := ((Below.refl w1.heap.size w1).alloc (Nat.le_refl _) (.cells #[.slice a1 n p1, .int .i64 be, .int .i64 dn, .int .i64 tr, .bool pa, .bool br] 26)).alloc (by simp) (.cells #[.bool x0, .int .i64 x1, .int .i64 x2, .int .i64 x3, .bool x4, .slice a2 x5.length p2] 35)
  have RM := Lib.hid (mstK.rd_later (mstK.cap_rd hcm) bm)
  have RR := Lib.hid (reqK.rd_later (reqK.cap_rd hcr) bm)
  have HB1 := Lib.hid (hb1.trans (bm.mono hb1.size))
  obtain ⟨b, hb⟩ : ∃ b, w1.heap.size = b := ⟨_, rfl⟩
  rw [hb] at M0 R0
  have BM := Lib.hid M0
  have BR := Lib.hid R0
  obtain ⟨⟨⟨q', be', dn', tr', pa', br'⟩, is⟩, hD⟩ : ∃ D, postM q be dn tr pa br (x0, x1, x2, x3, x4, x5) = D := ⟨_, rfl⟩
  have hs' := hs.post (r := (x0, x1, x2, x3, x4, x5)) hr9
  rw [hD] at hs'
  have HS' := Lib.hid (hs'.sz (by omega))
  have HD := Lib.hid hD
  obtain ⟨n', hn'⟩ : ∃ n, q'.length = n := ⟨_, rfl⟩
  have HN' := Lib.hid hn'
  clear M0 R0 bm hcm hcr hb1 hs hs' hr9 hsz hD hn hn'
  go_wp2_with fail
  generalize (w1.alloc _).alloc _ = W1 at BM BR RM RR HB1 ⊢
  refine (IP _ _ q be dn tr pa br x0 x1 x2 x3 x4 x5 HS.out HQ.out _ RM.out RR.out).mono ?_
  rw [HD.out]
  rintro e w2 ⟨xs, he, hcx, hbx⟩
  obtain ⟨c0, d0, rfl, _⟩ := mst_form (mstK.cap_rd hcx)
  dsimp only at he hcx
  rw [HN'.out] at he hcx
  obtain rfl : e = .returned (.tuple #[.agg #[.slice c0 n' d0, .int .i64 be', .int .i64 dn', .int .i64 tr', .bool pa', .bool br'], .bool is]) := he
  have bx := (Below.refl w2.heap.size w2).alloc (Nat.le_refl _) (.cells #[.slice c0 n' d0, .int .i64 be', .int .i64 dn', .int .i64 tr', .bool pa', .bool br'] 26)
  have h12 := hbx.trans (bx.mono hbx.size)
  have BX0 := Bx.new 26 #[.slice c0 n' d0, .int .i64 be', .int .i64 dn', .int .i64 tr', .bool pa', .bool br'] w2
  obtain ⟨bX, hbX⟩ : ∃ b, w2.heap.size = b := ⟨_, rfl⟩
  rw [hbX] at BX0
  have BX := Lib.hid BX0
  have RX := Lib.hid (mstK.rd_later (mstK.cap_rd hcx) bx)
  have BM2 := Lib.hid (BM.out.later h12)
  have BR2 := Lib.hid (BR.out.later h12)
  have RM2 := Lib.hid (mstK.rd_later RM.out h12)
  have RR2 := Lib.hid (reqK.rd_later RR.out h12)
  have HB2 := Lib.hid (HB1.out.trans (h12.mono HB1.out.size))
  obtain ⟨m0, m1, m2, m3, m4, m5⟩ := Bx.cells6 BM2.out
  obtain ⟨r0, r1, r2, r3, r4, r5⟩ := Bx.cells6 BR2.out
  clear hcx hbx bx h12 BX0 BM BR RM RR HB1
  go_wp2_with fail
  clear m0 m1 m2 m3 m4 m5 r0 r1 r2 r3 r4 r5
  generalize w2.alloc _ = W2 at BX RX BM2 BR2 RM2 RR2 HB2 ⊢
  refine (specPost _ _ q be dn tr pa br x0 x1 x2 x3 x4 x5 HS.out HQ.out _ RM2.out RR2.out).mono ?_
  rw [HD.out]
  rintro e w3 ⟨zs, he, hcz, hbz⟩
  obtain ⟨f0, g0, rfl, _⟩ := mst_form (mstK.cap_rd hcz)
  dsimp only at he hcz
  rw [HN'.out] at he hcz
  obtain rfl : e = .returned (.tuple #[.agg #[.slice f0 n' g0, .int .i64 be', .int .i64 dn', .int .i64 tr', .bool pa', .bool br'], .bool is]) := he
  have bz := (Below.refl w3.heap.size w3).alloc (Nat.le_refl _) (.cells #[.slice f0 n' g0, .int .i64 be', .int .i64 dn', .int .i64 tr', .bool pa', .bool br'] 26)
  have h23 := hbz.trans (bz.mono hbz.size)
  have BX3 := Lib.hid (BX.out.later h23)
  have RX3 := Lib.hid (mstK.rd_later RX.out h23)
  have BM3 := Lib.hid (BM2.out.later h23)
  have BR3 := Lib.hid (BR2.out.later h23)
  have RM3 := Lib.hid (mstK.rd_later RM2.out h23)
  have RR3 := Lib.hid (reqK.rd_later RR2.out h23)
  have HB3 := Lib.hid (HB2.out.trans (h23.mono HB2.out.size))
  clear hcz hbz bz h23 BX RX BM2 BR2 RM2 RR2 HB2
  have hii : (is != is) = false := by simp
  obtain ⟨m0, m1, m2, m3, m4, m5⟩ := Bx.cells6 BM3.out
  obtain ⟨r0, r1, r2, r3, r4, r5⟩ := Bx.cells6 BR3.out
  obtain ⟨c0', c1, c2, c3, c4, c5⟩ := Bx.cells6 BX3.out
  cases is with
  | false =>
    have hE := post_false HD.out
    have hsm : sameMst (q', be', dn', tr', pa', br') (q, be, dn, tr, pa, br) = true := (sameMst_iff _ _).2 hE
    have HE := Lib.hid hsm
    clear hE hsm
    go_wp2_with fail
    clear m0 m1 m2 m3 m4 m5 r0 r1 r2 r3 r4 r5 c0' c1 c2 c3 c4 c5
    generalize w3.alloc _ = W3 at BX3 RX3 BM3 BR3 RM3 RR3 HB3 ⊢
    refine (specSameMst _ _ q' be' dn' tr' pa' br' q be dn tr pa br HS'.out HS.out _ RX3.out RM3.out).mono ?_
    rw [HE.out]
    rintro e w4 ⟨rfl, hb4⟩
    go_wp2_with fail
    go_ret
    exact ⟨rfl, HB3.out.trans (hb4.mono HB3.out.size)⟩
  | true =>
    obtain ⟨rfl, rfl, rfl, hlt⟩ := post_true HD.out
    have hn1 : n' = n + 1 := by rw [← HN'.out, ← HN.out, List.length_append]; rfl
    subst hn1
    rw [HN.out] at hlt
    have hlt4 : ((n : Nat) : Int) < 4 := by omega
    go_upto_region 11 with fail
    clear m0 m1 m2 m3 m4 m5 r0 r1 r2 r3 r4 r5 c0' c1 c2 c3 c4 c5
    generalize w3.alloc _ = W3 at BX3 RX3 BM3 BR3 RM3 RR3 HB3 ⊢
    have hx : (q ++ [(x0, x1, x2, x3, x4, x5)])[n]? = some (x0, x1, x2, x3, x4, x5) := by rw [← HN.out]; simp
    obtain ⟨ax, px, ex, rxq⟩ := mst_form RX3.out
    simp at ex
    obtain ⟨rfl, -, rfl⟩ := ex
    obtain ⟨bb, o, _, es, e, _, _, lt, cc, rx⟩ := row_rd rxq hx
    simp at e
    obtain ⟨rfl, -, rfl⟩ := e
    have hrx := rx
    obtain ⟨ay, py, rfl, _⟩ := rd_req rx
    have g0 : W3.cell? ⟨bb, o + n * 6, none⟩ = some (.bool x0) := cc 0 _ rfl
    have g1 : W3.cell? ⟨bb, o + n * 6 + 1, none⟩ = some (.int .i64 x1) := cc 1 _ rfl
    have g2 : W3.cell? ⟨bb, o + n * 6 + 2, none⟩ = some (.int .i64 x2) := cc 2 _ rfl
    have g3 : W3.cell? ⟨bb, o + n * 6 + 3, none⟩ = some (.int .i64 x3) := cc 3 _ rfl
    have g4 : W3.cell? ⟨bb, o + n * 6 + 4, none⟩ = some (.bool x4) := cc 4 _ rfl
    have g5 : W3.cell? ⟨bb, o + n * 6 + 5, none⟩ = some (.slice ay x5.length py) := cc 5 _ rfl
    have G0 := cell_regrown g0
    have G1 := cell_regrown g1
    have G2 := cell_regrown g2
    have G3 := cell_regrown g3
    have G4 := cell_regrown g4
    have G5 := cell_regrown g5
    obtain ⟨m0, m1, m2, m3, m4, m5⟩ := Bx.cells6 BM3.out
    obtain ⟨r0, r1, r2, r3, r4, r5⟩ := Bx.cells6 BR3.out
    obtain ⟨s0, s1, s2, s3, s4, s5⟩ := Bx.cells6 BX3.out
    have M0 := cell_regrown m0
    have M1 := cell_regrown m1
    have M2 := cell_regrown m2
    have R0 := cell_regrown r0
    have R1 := cell_regrown r1
    have R2 := cell_regrown r2
    have R3 := cell_regrown r3
    have R4 := cell_regrown r4
    have R5 := cell_regrown r5
    have S0 := cell_regrown s0
    have S1 := cell_regrown s1
    have S2 := cell_regrown s2
    have HX := Lib.hid hrx
    have hsame : sameQ (x0, x1, x2, x3, x4, x5) (x0, x1, x2, x3, x4, x5) = true := (sameQ_iff _ _).2 rfl
    have HSm := Lib.hid hsame
    have hd4 : decide (((n : Nat) : Int) < 4) = true := decide_eq_true hlt4
    have hd5 : ((((n + 1 : Nat) : Int)) == (((n : Nat) : Int) + 1)) = true := by simp
    have hin : (0 : Int) ≤ (n : Int) ∧ (n : Int) < ((n + 1 : Nat) : Int) := by omega
    clear m0 m1 m2 m3 m4 m5 r0 r1 r2 r3 r4 r5 s0 s1 s2 s3 s4 s5 g0 g1 g2 g3 g4 g5 cc rx hrx lt rxq hx hsame
    refine wp_region_quiet_below (by kernel_rfl) (by kernel_rfl) ?_
    repeat (go_big_quiet_step (first
      | (go_at_call 28; exact Calls.regrown_of (sameQ_is HSm.out HQ.out _ (reqK.rd_later HX.out (below_regrown _ _ _)) (reqK.rd_later RR3.out (below_regrown _ _ _))))))
    refine wpQuiet_nil ?_
    rintro _ ⟨qq, rfl⟩
    have hq := below_regrown W3 qq.d qq.os
    go_wp2_with fail
    go_ret
    exact ⟨rfl, HB3.out.trans (hq.mono HB3.out.size)⟩
end Go.Proofs.Ytijilhaoknpeeaa.KD
