
/-
  Rows of Req as data; what the laws' own functions do with them. (Made by wip/gk.py.)
-/
import Derived.Test.YtdhaelaoackfkaaKReq
import Derived.Test.YtdhaelaoackfkaaKRow
import Derived.Lib.QuietBelow
namespace Go.Proofs.Ytdhaelaoackfkaa.KD
open Go.RowKit Rows3 GR
set_option linter.unusedVariables false

def reqS : Kn (List (Bool × Int × Int × Int × Bool × List Int)) := row reqK (by decide)
set_option maxHeartbeats 4000000 in
set_option maxRecDepth 100000 in
theorem szReqS : SzC reqS one 108 := by
  intro cs l L w hr h0 h1
  obtain ⟨ad, cp, rfl, hl1, hl2⟩ := row_form hr
  have HR := Lib.hid hr
  rw [show reqS.sz l = szL reqK l from rfl]
  obtain ⟨n, hn⟩ : ∃ n, l.length = n := ⟨_, rfl⟩
  have HN := Lib.hid hn
  rw [hn] at hl1
  have hle : n ≤ 9223372036854775807 := by omega
  have hall := szT_all reqK l
  have hTle := szT_le reqK l
  rw [hn] at hall
  obtain ⟨S, hS⟩ : ∃ S, szL reqK l = S := ⟨_, rfl⟩
  rw [hS] at hall hTle ⊢
  have HAll := Lib.hid hall
  have HT := Lib.hid hTle
  rw [hn]
  clear hr hn hall hTle hS hl1 hl2
  show Calls _ _ #[.slice ad n cp, .int .i64 L] w _
  by_cases hL : (n : Int) ≤ L
  · have hneg : ¬ L - (n : Int) < 0 := by omega
    go_enter Try.func108, Try.ntmps108
    go_wp2
    go_loopw [1, 5] (fun q i wr => ∃ (j : Nat) (M : Int), j ≤ n ∧ i = .int .i64 j ∧ 0 ≤ M ∧ M ≤ 1048576 ∧ Hid (M = L - n - (szT reqK l j : Int)) ∧ q = .int .i64 M ∧ Below w.heap.size w wr) (fun _ i _ => n - (intOf i).toNat)
    case atStart => exact ⟨0, L - n, by omega, rfl, by omega, by omega, Lib.hid (by rw [szT_zero]; omega), rfl, Below.refl _ _⟩
    case round =>
      obtain ⟨j, M, hj, rfl, hM0, hM1, HM, rfl, hb⟩ := hrel
      by_cases hlt : j < n
      · obtain ⟨x, hx⟩ := get_of (l := l) (i := j) (by rw [HN.out]; exact hlt)
        have Hst := Lib.hid (szT_step reqK hx)
        have Hb0 := Lib.hid hb
        obtain ⟨x0, x1, x2, x3, x4, x5⟩ := x
        obtain ⟨b, o, _, es, e, _, _, lt, c, x⟩ := row_rd HR.out hx
        cases e
        have hrx := x
        obtain ⟨ax5, px5, rfl, _⟩ := req_form x
        have g0 : w.cell? ⟨b, o + j * 6, none⟩ = some (.bool x0) := c 0 _ rfl
        have g1 : w.cell? ⟨b, o + j * 6 + 1, none⟩ = some (.int .i64 x1) := c 1 _ rfl
        have g2 : w.cell? ⟨b, o + j * 6 + 2, none⟩ = some (.int .i64 x2) := c 2 _ rfl
        have g3 : w.cell? ⟨b, o + j * 6 + 3, none⟩ = some (.int .i64 x3) := c 3 _ rfl
        have g4 : w.cell? ⟨b, o + j * 6 + 4, none⟩ = some (.bool x4) := c 4 _ rfl
        have g5 : w.cell? ⟨b, o + j * 6 + 5, none⟩ = some (.slice ax5 x5.length px5) := c 5 _ rfl
        rw [← bel_cells hb lt] at g0 g1 g2 g3 g4 g5
        have Hx := Lib.hid (reqK.rd_later hrx hb)
        obtain ⟨z, hz⟩ : ∃ z, reqK.sz (x0, x1, x2, x3, x4, x5) = z := ⟨_, rfl⟩
        have HZ := Lib.hid hz
        obtain ⟨M2, hM2⟩ : ∃ M2, szW M z = M2 := ⟨_, rfl⟩
        have HM2 := Lib.hid hM2
        have hbd := szW_bd M z hM0
        rw [hM2] at hbd
        clear hx hrx c x hz hM2 hb
        by_cases hn2 : M2 < 0
        · obtain rfl : M2 = -1 := by omega
          go_wp2_with fail
          refine (szReq [.bool x0, .int .i64 x1, .int .i64 x2, .int .i64 x3, .bool x4, .slice ax5 x5.length px5] (x0, x1, x2, x3, x4, x5) M _ Hx.out (by omega) (by omega)).mono ?_
          rintro e w2 ⟨rfl, hb2⟩
          rw [HZ.out, HM2.out]
          clear g0 g1 g2 g3 g4 g5
          go_wp2_with fail
          go_ret
          refine ⟨?_, Hb0.out.trans (hb2.mono Hb0.out.size)⟩
          have h1 := HM2.out
          have h2 := HM.out
          have h3 := Hst.out
          have h4 := HT.out (j + 1)
          have h6 := HN.out
          rw [HZ.out] at h3
          rw [szW_no]
          · rfl
          · have h5 : M < (z : Int) := by
              rcases Int.lt_or_le M z with h | h
              · exact h
              · rw [szW_yes h] at h1; omega
            omega
        · skip
          go_wp2_with fail
          refine (szReq [.bool x0, .int .i64 x1, .int .i64 x2, .int .i64 x3, .bool x4, .slice ax5 x5.length px5] (x0, x1, x2, x3, x4, x5) M _ Hx.out (by omega) (by omega)).mono ?_
          rintro e w2 ⟨rfl, hb2⟩
          rw [HZ.out, HM2.out]
          clear g0 g1 g2 g3 g4 g5
          go_wp2_with fail
          go_roundw
          case rel =>
            refine ⟨j + 1, M2, by omega, by go_num, by omega, by omega, Lib.hid ?_, rfl, Hb0.out.trans (hb2.mono Hb0.out.size)⟩
            have h1 := HM2.out
            have h2 := HM.out
            have h3 := Hst.out
            rw [HZ.out] at h3
            have h5 : (z : Int) ≤ M := by
              rcases Int.lt_or_le M z with h | h
              · rw [szW_no h] at h1; omega
              · exact h
            rw [szW_yes h5] at h1
            omega
          case measure => simp [intOf]; omega
      · obtain rfl : j = n := by omega
        have He : Hid (szW L S = M) := Lib.hid (by have h1 := HM.out; have h2 := HAll.out; rw [szW_yes (by omega)]; omega)
        go_wp2
        go_ret
        exact ⟨by rw [He.out]; rfl, hb⟩
  · have hneg : L - (n : Int) < 0 := by omega
    have He := Lib.hid (szW_no (show L < (S : Int) by have h1 := HAll.out; omega))
    go_enter Try.func108, Try.ntmps108
    go_wp2
    go_ret
    exact ⟨by rw [He.out]; rfl, Below.refl _ _⟩
theorem info_iReq : (Try.prog.info? 126).map (fun i => (i.zero, i.size, decide (i.bytes ≤ 1000))) = some (some (.agg #[.bool false, .int .i64 0, .int .i64 0, .int .i64 0, .bool false, .slice none 0 0]), 6, true) := by kernel_rfl
set_option maxHeartbeats 4000000 in
set_option maxRecDepth 100000 in
theorem toReqS : ToC reqS one 109 := by
  intro cs l w hs hr
  obtain ⟨ad, cp, rfl, hl1, hl2⟩ := row_form hr
  have HR := Lib.hid hr
  have hln : l.length ≤ 2000000 := Nat.le_trans (szL_len reqK l) hs
  have HSZ := Lib.hid (show szL reqK l ≤ 2000000 from hs)
  obtain ⟨n, hn⟩ : ∃ n, l.length = n := ⟨_, rfl⟩
  have HN := Lib.hid hn
  rw [hn] at hln ⊢
  obtain ⟨i0, hi, hz0, hz1, hz2⟩ := info_parts' info_iReq
  have hmk := fun W => make_runK (P := Try.prog) 68 126 i0 _ Try.underlying68 hi hz0 6 hz1 hz2 n hln W
  have Ho0 : Hid (reqS.cap (fun k => w.heap.size ≤ k) [.slice (some ⟨w.heap.size, 0, none⟩) n n] (midT l (false, 0, 0, 0, false, []) 0) (w.alloc (.cells (madeCells #[.bool false, .int .i64 0, .int .i64 0, .int .i64 0, .bool false, .slice none 0 0] (n * 6)) 126))) := Lib.hid (by rw [midT_zero, hn]; exact row_made w n #[.bool false, .int .i64 0, .int .i64 0, .int .i64 0, .bool false, .slice none 0 0] (false, 0, 0, 0, false, []) 126 rfl (fun w => req_cap (row_nil (fun _ => False) w) (fun _ h => h) ) hln)
  clear hr hn hl1 hl2 hi hz0 hz1 hz2 hs
  show Calls _ _ #[.slice ad n cp] w _
  go_enter Try.func109, Try.ntmps109
  go_wp2
  clear hmk
  go_loopw [4] (fun i wr => ∃ j : Nat, j ≤ n ∧ i = .int .i64 j ∧ reqS.cap (fun k => w.heap.size ≤ k) [.slice (some ⟨w.heap.size, 0, none⟩) n n] (midT l (false, 0, 0, 0, false, []) j) wr ∧ Below w.heap.size w wr) (fun i _ => n - (intOf i).toNat)
  case atStart => exact ⟨0, by omega, rfl, Ho0.out, (Below.refl _ _).alloc (Nat.le_refl _) _⟩
  case round =>
    obtain ⟨j, hj, rfl, hown, hb⟩ := hrel
    have Ho := Lib.hid hown
    clear hown
    by_cases hlt : j < n
    · obtain ⟨x, hx⟩ := get_of (l := l) (i := j) (by rw [HN.out]; exact hlt)
      have hsx : reqK.sz x ≤ 2000000 := Nat.le_trans (szL_mem reqK (List.mem_of_getElem? hx)) HSZ.out
      have Hst := Lib.hid (midT_step (false, 0, 0, 0, false, []) hx)
      have Hb0 := Lib.hid hb
      obtain ⟨x0, x1, x2, x3, x4, x5⟩ := x
      obtain ⟨b, o, _, es, e, _, _, lt, c, x⟩ := row_rd HR.out hx
      cases e
      have hrx := x
      obtain ⟨ax5, px5, rfl, _⟩ := req_form x
      have g0 : w.cell? ⟨b, o + j * 6, none⟩ = some (.bool x0) := c 0 _ rfl
      have g1 : w.cell? ⟨b, o + j * 6 + 1, none⟩ = some (.int .i64 x1) := c 1 _ rfl
      have g2 : w.cell? ⟨b, o + j * 6 + 2, none⟩ = some (.int .i64 x2) := c 2 _ rfl
      have g3 : w.cell? ⟨b, o + j * 6 + 3, none⟩ = some (.int .i64 x3) := c 3 _ rfl
      have g4 : w.cell? ⟨b, o + j * 6 + 4, none⟩ = some (.bool x4) := c 4 _ rfl
      have g5 : w.cell? ⟨b, o + j * 6 + 5, none⟩ = some (.slice ax5 x5.length px5) := c 5 _ rfl
      rw [← bel_cells hb lt] at g0 g1 g2 g3 g4 g5
      have Hx := Lib.hid (reqK.rd_later hrx hb)
      clear hx hrx c x hb
      obtain ⟨g, og, cg, es, E, eg, _, _, hgF, hgl, hes, hseg, _, hE, cont⟩ := row_at Ho.out (midT_at (false, 0, 0, 0, false, []) (by rw [HN.out]; exact hlt))
      rw [midT_len _ (by rw [HN.out]; omega), HN.out] at eg
      simp at eg
      obtain ⟨⟨rfl, rfl⟩, rfl⟩ := eg
      have hoff : 0 + j * reqK.n = j * 6 := by rw [Nat.zero_add]; rfl
      rw [hoff] at hseg cont
      obtain ⟨v0, v1, v2, v3, v4, v5, rfl⟩ : ∃ v0 v1 v2 v3 v4 v5, es = [v0, v1, v2, v3, v4, v5] := by
        match es, (show es.length = 6 from hes) with
        | [v0, v1, v2, v3, v4, v5], _ => exact ⟨_, _, _, _, _, _, rfl⟩
      have Hseg := Lib.hid hseg
      have Cont := Lib.hid cont
      clear hseg cont hE hes
      go_wp2_with fail
      refine (toReq [.bool x0, .int .i64 x1, .int .i64 x2, .int .i64 x3, .bool x4, .slice ax5 x5.length px5] (x0, x1, x2, x3, x4, x5) _ hsx Hx.out).mono ?_
      rintro e w2 ⟨us, he, hc, hb2⟩
      obtain ⟨bx5, qx5, rfl, _⟩ := req_form (reqK.cap_rd hc)
      obtain rfl : e = .returned (.agg #[.bool x0, .int .i64 x1, .int .i64 x2, .int .i64 x3, .bool x4, .slice bx5 x5.length qx5]) := he
      have hs2 := Hseg.out.later hb2
      have f0 := hs2.cell 0 _ rfl (n := j * 6) rfl
      have f1 := hs2.cell 1 _ rfl (n := j * 6 + 1) rfl
      have f2 := hs2.cell 2 _ rfl (n := j * 6 + 2) rfl
      have f3 := hs2.cell 3 _ rfl (n := j * 6 + 3) rfl
      have f4 := hs2.cell 4 _ rfl (n := j * 6 + 4) rfl
      have f5 := hs2.cell 5 _ rfl (n := j * 6 + 5) rfl
      have z0 := hs2.warm (j * 6)
      have z1 := hs2.warm (j * 6 + 1)
      have z2 := hs2.warm (j * 6 + 2)
      have z3 := hs2.warm (j * 6 + 3)
      have z4 := hs2.warm (j * 6 + 4)
      have z5 := hs2.warm (j * 6 + 5)
      have Hch := Lib.hid ((((((((Chg.refl w.heap.size (j * 6) (j * 6 + reqK.n) E wr).later hb2).set (n := j * 6) (by omega) (by show _ < j * 6 + 6; omega) (.bool x0)).set (n := j * 6 + 1) (by omega) (by show _ < j * 6 + 6; omega) (.int .i64 x1)).set (n := j * 6 + 2) (by omega) (by show _ < j * 6 + 6; omega) (.int .i64 x2)).set (n := j * 6 + 3) (by omega) (by show _ < j * 6 + 6; omega) (.int .i64 x3)).set (n := j * 6 + 4) (by omega) (by show _ < j * 6 + 6; omega) (.bool x4)).set (n := j * 6 + 5) (by omega) (by show _ < j * 6 + 6; omega) (.slice bx5 x5.length qx5))
      have Hsg := Lib.hid (((((((hs2.set 0 (.bool x0) (n := j * 6) rfl).set 1 (.int .i64 x1) (n := j * 6 + 1) rfl).set 2 (.int .i64 x2) (n := j * 6 + 2) rfl).set 3 (.int .i64 x3) (n := j * 6 + 3) rfl).set 4 (.bool x4) (n := j * 6 + 4) rfl).set 5 (.slice bx5 x5.length qx5) (n := j * 6 + 5) rfl))
      have Hc := Lib.hid hc
      have Hb2 := Lib.hid hb2
      clear hc hb2 hs2 g0 g1 g2 g3 g4 g5
      go_wp2_with fail
      go_roundw
      case rel =>
        refine ⟨j + 1, by omega, by go_num, ?_, ?_⟩
        · have ht : Turn (fun k => k = w.heap.size) w2 _ := ((((((Turn.refl (fun k => k = w.heap.size) w2).set (p := ⟨w.heap.size, j * 6, none⟩) rfl (.bool x0)).set (p := ⟨w.heap.size, j * 6 + 1, none⟩) rfl (.int .i64 x1)).set (p := ⟨w.heap.size, j * 6 + 2, none⟩) rfl (.int .i64 x2)).set (p := ⟨w.heap.size, j * 6 + 3, none⟩) rfl (.int .i64 x3)).set (p := ⟨w.heap.size, j * 6 + 4, none⟩) rfl (.bool x4)).set (p := ⟨w.heap.size, j * 6 + 5, none⟩) rfl (.slice bx5 x5.length qx5)
          rw [← Hst.out]
          exact reqS.cap_wide (Cont.out _ [.bool x0, .int .i64 x1, .int .i64 x2, .int .i64 x3, .bool x4, .slice bx5 x5.length qx5] (x0, x1, x2, x3, x4, x5) (fun k => wr.heap.size ≤ k) Hch.out Hsg.out rfl (reqK.cap_turn Hc.out ht (fun k _ hk he => by omega)) (fun k hk => .inr hk)) (fun k _ hk => by rcases hk with h | h <;> omega)
        · iterate 6 refine Below.setCell ?_ (by exact Nat.le_refl _) _
          exact Hb0.out.trans (Hb2.out.mono Hb0.out.size)
      case measure => simp [intOf]; omega
    · obtain rfl : j = n := by omega
      go_wp2
      go_ret
      refine ⟨[_], rfl, ?_, hb⟩
      have h := Ho.out
      rw [← HN.out, midT_all] at h
      rw [← HN.out]
      exact h
set_option maxHeartbeats 4000000 in
set_option maxRecDepth 100000 in
theorem eqReqS : EqC reqS one 107 := by
  intro cs ds l w hs hr hr2
  obtain ⟨ad, cp, rfl, hl1, hl2⟩ := row_form hr
  obtain ⟨bd, dp, rfl, _, _⟩ := row_form hr2
  have HR := Lib.hid hr
  have HR2 := Lib.hid hr2
  have hln : l.length ≤ 2000000 := Nat.le_trans (szL_len reqK l) hs
  have HSZ := Lib.hid (show szL reqK l ≤ 2000000 from hs)
  obtain ⟨n, hn⟩ : ∃ n, l.length = n := ⟨_, rfl⟩
  have HN := Lib.hid hn
  rw [hn] at hln ⊢
  clear hr hr2 hn hl1 hl2 hs
  have hne : (((n : Nat) : Int) != ((n : Nat) : Int)) = false := by simp
  show Calls _ _ #[.slice ad n cp, .slice bd n dp] w _
  go_enter Try.func107, Try.ntmps107
  go_wp2
  go_loopw [5] (fun i wr => ∃ j : Nat, j ≤ n ∧ i = .int .i64 j ∧ Below w.heap.size w wr) (fun i _ => n - (intOf i).toNat)
  case atStart => exact ⟨0, by omega, rfl, Below.refl _ _⟩
  case round =>
    obtain ⟨j, hj, rfl, hb⟩ := hrel
    by_cases hlt : j < n
    · obtain ⟨x, hx⟩ := get_of (l := l) (i := j) (by rw [HN.out]; exact hlt)
      have hsx : reqK.sz x ≤ 2000000 := Nat.le_trans (szL_mem reqK (List.mem_of_getElem? hx)) HSZ.out
      have Hb0 := Lib.hid hb
      obtain ⟨x0, x1, x2, x3, x4, x5⟩ := x
      obtain ⟨lb, lo, _, les, el, _, _, llt, lc, lx⟩ := row_rd HR.out hx
      cases el
      have lr := lx
      obtain ⟨ax5, px5, rfl, _⟩ := req_form lx
      have g0 : w.cell? ⟨lb, lo + j * 6, none⟩ = some (.bool x0) := lc 0 _ rfl
      have g1 : w.cell? ⟨lb, lo + j * 6 + 1, none⟩ = some (.int .i64 x1) := lc 1 _ rfl
      have g2 : w.cell? ⟨lb, lo + j * 6 + 2, none⟩ = some (.int .i64 x2) := lc 2 _ rfl
      have g3 : w.cell? ⟨lb, lo + j * 6 + 3, none⟩ = some (.int .i64 x3) := lc 3 _ rfl
      have g4 : w.cell? ⟨lb, lo + j * 6 + 4, none⟩ = some (.bool x4) := lc 4 _ rfl
      have g5 : w.cell? ⟨lb, lo + j * 6 + 5, none⟩ = some (.slice ax5 x5.length px5) := lc 5 _ rfl
      rw [← bel_cells hb llt] at g0 g1 g2 g3 g4 g5
      obtain ⟨mb, mo, _, mes, em, _, _, mlt, mc, mx⟩ := row_rd HR2.out hx
      cases em
      have mr := mx
      obtain ⟨bx5, qx5, rfl, _⟩ := req_form mx
      have k0 : w.cell? ⟨mb, mo + j * 6, none⟩ = some (.bool x0) := mc 0 _ rfl
      have k1 : w.cell? ⟨mb, mo + j * 6 + 1, none⟩ = some (.int .i64 x1) := mc 1 _ rfl
      have k2 : w.cell? ⟨mb, mo + j * 6 + 2, none⟩ = some (.int .i64 x2) := mc 2 _ rfl
      have k3 : w.cell? ⟨mb, mo + j * 6 + 3, none⟩ = some (.int .i64 x3) := mc 3 _ rfl
      have k4 : w.cell? ⟨mb, mo + j * 6 + 4, none⟩ = some (.bool x4) := mc 4 _ rfl
      have k5 : w.cell? ⟨mb, mo + j * 6 + 5, none⟩ = some (.slice bx5 x5.length qx5) := mc 5 _ rfl
      rw [← bel_cells hb mlt] at k0 k1 k2 k3 k4 k5
      have Hx := Lib.hid (reqK.rd_later lr hb)
      have Hy := Lib.hid (reqK.rd_later mr hb)
      clear hx lr mr lc mc lx mx hb
      replace g0 := fun d os => cell_regrown g0 d os
      replace k0 := fun d os => cell_regrown k0 d os
      replace g1 := fun d os => cell_regrown g1 d os
      replace k1 := fun d os => cell_regrown k1 d os
      replace g2 := fun d os => cell_regrown g2 d os
      replace k2 := fun d os => cell_regrown k2 d os
      replace g3 := fun d os => cell_regrown g3 d os
      replace k3 := fun d os => cell_regrown k3 d os
      replace g4 := fun d os => cell_regrown g4 d os
      replace k4 := fun d os => cell_regrown k4 d os
      replace g5 := fun d os => cell_regrown g5 d os
      replace k5 := fun d os => cell_regrown k5 d os
      go_wp2_with fail
      refine wp_region_quiet_below (by kernel_rfl) (by kernel_rfl) ?_
      repeat (go_big_quiet_step ((go_at_call 110; exact Calls.regrown_of (eqReq [.bool x0, .int .i64 x1, .int .i64 x2, .int .i64 x3, .bool x4, .slice ax5 x5.length px5] [.bool x0, .int .i64 x1, .int .i64 x2, .int .i64 x3, .bool x4, .slice bx5 x5.length qx5] (x0, x1, x2, x3, x4, x5) _ hsx (reqK.rd_later Hx.out (below_regrown wr _ _)) (reqK.rd_later Hy.out (below_regrown wr _ _))))))
      refine wpQuiet_nil ?_
      rintro _ ⟨⟨dq, osq⟩, rfl⟩
      have hbw := below_regrown wr dq osq
      generalize Sort.grow (redrawn wr dq) osq = w2 at hbw
      clear g0 k0 g1 k1 g2 k2 g3 k3 g4 k4 g5 k5
      go_wp2_with fail
      go_roundw
      case rel => exact ⟨j + 1, by omega, by go_num, Hb0.out.trans (hbw.mono Hb0.out.size)⟩
      case measure => simp [intOf]; omega
    · go_wp2
      go_ret
      exact ⟨rfl, hb⟩
set_option maxHeartbeats 4000000 in
set_option maxRecDepth 100000 in
theorem markReqS : MarkC reqS one 88 := by
  intro F cs l k w hs h0 h1 hc
  obtain ⟨ad, cp, rfl, hl1, hl2⟩ := row_form (reqS.cap_rd hc)
  have hln : l.length ≤ 2000000 := Nat.le_trans (szL_len reqK l) hs
  have HSZ := Lib.hid (show szL reqK l ≤ 2000000 from hs)
  have e1 : reqS.cT l = cL reqK l := rfl
  have e2 : reqS.mT l k = mL reqK l k := rfl
  rw [e1] at h1 ⊢
  rw [e2]
  obtain ⟨T, hT⟩ : ∃ T, cL reqK l = T := ⟨_, rfl⟩
  have HT := Lib.hid hT
  rw [hT] at h1 ⊢
  obtain ⟨n, hn⟩ : ∃ n, l.length = n := ⟨_, rfl⟩
  have HN := Lib.hid hn
  have Hc0 := Lib.hid hc
  rw [hn] at Hc0 hln ⊢
  clear e1 e2 hT hn hc hl1 hl2 hs
  show Calls _ _ #[.slice ad n cp, .int .i64 k] w _
  go_enter Try.func88, Try.ntmps88
  go_wp2
  go_loopw [1, 5] (fun q i wr => ∃ (j : Nat) (z : Int), j ≤ n ∧ i = .int .i64 j ∧ q = .int .i64 z ∧ Hid (z = k + (cL reqK (l.take j) : Int)) ∧ reqS.cap F [.slice ad n cp] (midM reqK l k j) wr ∧ Turn F w wr) (fun _ i _ => n - (intOf i).toNat)
  case atStart => exact ⟨0, k, by omega, rfl, rfl, Lib.hid (by simp [cL]), by rw [midM_zero]; exact Hc0.out, Turn.refl _ _⟩
  case round =>
    obtain ⟨j, z, hj, rfl, rfl, HZ, hown, ht0⟩ := hrel
    have Ho := Lib.hid hown
    have Ht0 := Lib.hid ht0
    clear hown ht0
    by_cases hlt : j < n
    · obtain ⟨x, hx⟩ := get_of (l := l) (i := j) (by rw [HN.out]; exact hlt)
      have hsx : reqK.sz x ≤ 2000000 := Nat.le_trans (szL_mem reqK (List.mem_of_getElem? hx)) HSZ.out
      have hcs := cL_step reqK hx
      have hct := cL_take reqK l (j + 1)
      rw [HT.out] at hct
      have Hst := midM_step reqK hx k
      rw [← HZ.out] at Hst
      obtain ⟨x0, x1, x2, x3, x4, x5⟩ := x
      rw [req_cI] at hcs
      rw [req_mI] at Hst
      rw [req_sz] at hsx
      have HCS := Lib.hid hcs
      have HST := Lib.hid Hst
      have hz0 : 0 ≤ z := by have := HZ.out; omega
      have hz1 : z + ((5 + ints.cT x5 : Nat) : Int) ≤ 4611686018427387904 := by have := HZ.out; omega
      obtain ⟨g, og, cg, es, E, eg, _, _, hgF, hgl, hes, hseg, hce, hE, cont⟩ := row_at Ho.out (midM_at reqK hx k)
      rw [midM_len, HN.out] at eg
      simp at eg
      obtain ⟨rfl, rfl⟩ := eg
      obtain ⟨ax5, px5, Fx5, rfl, cx5, sx5⟩ := cap_req hce
      have Dx5 := Lib.hid cx5
      have Sx5 := Lib.hid sx5
      clear cx5 sx5
      have hoff : og + j * reqK.n = og + j * 6 := rfl
      rw [hoff] at hseg cont
      have Cont := Lib.hid cont
      have HgF := Lib.hid hgF
      have HE := Lib.hid hE
      have Hch0 := Lib.hid (Chg.refl g (og + j * 6) (og + j * 6 + reqK.n) E wr)
      have Hsg0 := Lib.hid hseg
      clear cont hgF hE hce hx hcs hct Hst
      have hEg : ¬ E g := fun h => (HE.out g h).2.1 rfl
      have g0 := hseg.cell 0 _ rfl (n := og + j * 6) rfl
      have g1 := hseg.cell 1 _ rfl (n := og + j * 6 + 1) rfl
      have g2 := hseg.cell 2 _ rfl (n := og + j * 6 + 2) rfl
      have g3 := hseg.cell 3 _ rfl (n := og + j * 6 + 3) rfl
      have g4 := hseg.cell 4 _ rfl (n := og + j * 6 + 4) rfl
      have g5 := hseg.cell 5 _ rfl (n := og + j * 6 + 5) rfl
      have z0 := hseg.warm (og + j * 6)
      have z1 := hseg.warm (og + j * 6 + 1)
      have z2 := hseg.warm (og + j * 6 + 2)
      have z3 := hseg.warm (og + j * 6 + 3)
      have z4 := hseg.warm (og + j * 6 + 4)
      have z5 := hseg.warm (og + j * 6 + 5)
      clear hseg
      have Hch1 := Lib.hid (((((Hch0.out.set (n := og + j * 6) (by omega) (by show _ < og + j * 6 + 6; omega) (.bool ((z) % 3 == 0))).set (n := og + j * 6 + 1) (by omega) (by show _ < og + j * 6 + 6; omega) (.int .i64 (z + 1))).set (n := og + j * 6 + 2) (by omega) (by show _ < og + j * 6 + 6; omega) (.int .i64 (z + 1 + 1))).set (n := og + j * 6 + 3) (by omega) (by show _ < og + j * 6 + 6; omega) (.int .i64 (z + 1 + 1 + 1))).set (n := og + j * 6 + 4) (by omega) (by show _ < og + j * 6 + 6; omega) (.bool ((z + 1 + 1 + 1 + 1) % 3 == 0)))
      have Hsg1 := Lib.hid (show Seg g (og + j * 6) [.bool ((z) % 3 == 0), .int .i64 (z + 1), .int .i64 (z + 1 + 1), .int .i64 (z + 1 + 1 + 1), .bool ((z + 1 + 1 + 1 + 1) % 3 == 0), .slice ax5 x5.length px5] _ from (((((Hsg0.out.set 0 (.bool ((z) % 3 == 0)) (n := og + j * 6) rfl).set 1 (.int .i64 (z + 1)) (n := og + j * 6 + 1) rfl).set 2 (.int .i64 (z + 1 + 1)) (n := og + j * 6 + 2) rfl).set 3 (.int .i64 (z + 1 + 1 + 1)) (n := og + j * 6 + 3) rfl).set 4 (.bool ((z + 1 + 1 + 1 + 1) % 3 == 0)) (n := og + j * 6 + 4) rfl))
      have hts : Turn (fun i => i = g) wr _ := (((((Turn.refl (fun i => i = g) wr).set (p := ⟨g, og + j * 6, none⟩) rfl (.bool ((z) % 3 == 0))).set (p := ⟨g, og + j * 6 + 1, none⟩) rfl (.int .i64 (z + 1))).set (p := ⟨g, og + j * 6 + 2, none⟩) rfl (.int .i64 (z + 1 + 1))).set (p := ⟨g, og + j * 6 + 3, none⟩) rfl (.int .i64 (z + 1 + 1 + 1))).set (p := ⟨g, og + j * 6 + 4, none⟩) rfl (.bool ((z + 1 + 1 + 1 + 1) % 3 == 0))
      have Dx5_1 := Lib.hid (ints.cap_turn Dx5.out hts (fun i _ hi he => (HE.out i (Sx5.out i hi)).2.1 he))
      clear hts
      go_wp2_with fail
      refine (markIntS Fx5 [.slice ax5 x5.length px5] x5 (z + 1 + 1 + 1 + 1 + 1) _ (by omega) (by omega) (by omega) Dx5_1.out).mono ?_
      rintro e y1 ⟨rfl, hcm, htm⟩
      clear g0 z0 g1 z1 g2 z2 g3 z3 g4 z4 g5 z5
      obtain ⟨z_1, hz_1⟩ : ∃ m, z + 1 + 1 + 1 + 1 + 1 + (ints.cT x5 : Int) = m := ⟨_, rfl⟩
      rw [hz_1]
      have HZ_1 := Lib.hid hz_1
      have hFg : ¬ Fx5 g := fun h => hEg (Sx5.out g h)
      have Hch2 := Lib.hid (Hch1.out.then (htm.wide (fun i hi => Sx5.out i hi)) hEg)
      have Hsg2 := Lib.hid (Hsg1.out.turn htm hFg)
      have Dx5_2 := Lib.hid hcm
      clear hcm htm hFg
      have hsg := Hsg2.out
      have g0 := hsg.cell 0 _ rfl (n := og + j * 6) rfl
      have g1 := hsg.cell 1 _ rfl (n := og + j * 6 + 1) rfl
      have g2 := hsg.cell 2 _ rfl (n := og + j * 6 + 2) rfl
      have g3 := hsg.cell 3 _ rfl (n := og + j * 6 + 3) rfl
      have g4 := hsg.cell 4 _ rfl (n := og + j * 6 + 4) rfl
      have g5 := hsg.cell 5 _ rfl (n := og + j * 6 + 5) rfl
      have z0 := hsg.warm (og + j * 6)
      have z1 := hsg.warm (og + j * 6 + 1)
      have z2 := hsg.warm (og + j * 6 + 2)
      have z3 := hsg.warm (og + j * 6 + 3)
      have z4 := hsg.warm (og + j * 6 + 4)
      have z5 := hsg.warm (og + j * 6 + 5)
      clear hsg
      go_wp2_with fail
      go_roundw
      case rel =>
        refine ⟨j + 1, z_1, by omega, by go_num, rfl, Lib.hid ?_, ?_, ?_⟩
        · have h1 := HZ.out; have h2 := HCS.out; have i1 := HZ_1.out; show _ = _; omega
        · have hnew : (midM reqK l k j).set j (((z) % 3 == 0), z + 1, z + 1 + 1, z + 1 + 1 + 1, ((z + 1 + 1 + 1 + 1) % 3 == 0), ints.mT x5 (z + 1 + 1 + 1 + 1 + 1)) = midM reqK l k (j + 1) := by
            rw [← HST.out]
            skip
          rw [← hnew]
          exact reqS.cap_wide (Cont.out _ _ (((z) % 3 == 0), z + 1, z + 1 + 1, z + 1 + 1 + 1, ((z + 1 + 1 + 1 + 1) % 3 == 0), ints.mT x5 (z + 1 + 1 + 1 + 1 + 1)) E Hch2.out Hsg2.out rfl (req_cap Dx5_2.out Sx5.out ) (fun i hi => .inl hi)) (fun i _ hi => hi.elim id (fun h => (HE.out i h).1))
        · exact Ht0.out.trans (Hch2.out.turn.wide (fun i hi => hi.elim (fun h => h ▸ HgF.out) (fun h => (HE.out i h).1)))
      case measure => simp [intOf]; omega
    · obtain rfl : j = n := by omega
      go_wp2
      go_ret
      have h1 := Ho.out
      have h2 := HZ.out
      rw [← HN.out, midM_all] at h1
      rw [← HN.out, List.take_length, HT.out] at h2
      subst h2
      rw [HN.out] at h1
      exact ⟨rfl, h1, Ht0.out⟩
set_option maxHeartbeats 4000000 in
set_option maxRecDepth 100000 in
theorem heldReqS : HeldC reqS one 91 := by
  intro cs l k w hs h0 h1 hr
  have e1 : reqS.cT l = cL reqK l := rfl
  have e2 : reqS.mT l k = mL reqK l k := rfl
  rw [e1] at h1 ⊢
  rw [e2] at hr
  obtain ⟨ad, cp, rfl, hl1, hl2⟩ := row_form hr
  have HR := Lib.hid hr
  have hln : l.length ≤ 2000000 := Nat.le_trans (szL_len reqK l) hs
  have HSZ := Lib.hid (show szL reqK l ≤ 2000000 from hs)
  obtain ⟨T, hT⟩ : ∃ T, cL reqK l = T := ⟨_, rfl⟩
  have HT := Lib.hid hT
  rw [hT] at h1 ⊢
  obtain ⟨n, hn⟩ : ∃ n, l.length = n := ⟨_, rfl⟩
  have HN := Lib.hid hn
  have hml : (mL reqK l k).length = n := by rw [mL_len, hn]
  have HML := Lib.hid hml
  rw [hml]
  rw [hn] at hln
  clear e1 e2 hT hn hr hl1 hl2 hs hml
  show Calls _ _ #[.slice ad n cp, .int .i64 k] w _
  go_enter Try.func91, Try.ntmps91
  go_wp2
  go_loopw [1, 5] (fun q i wr => ∃ (j : Nat) (z : Int), j ≤ n ∧ i = .int .i64 j ∧ q = .int .i64 z ∧ Hid (z = k + (cL reqK (l.take j) : Int)) ∧ Below w.heap.size w wr) (fun _ i _ => n - (intOf i).toNat)
  case atStart => exact ⟨0, k, by omega, rfl, rfl, Lib.hid (by simp [cL]), Below.refl _ _⟩
  case round =>
    obtain ⟨j, z, hj, rfl, rfl, HZ, hb⟩ := hrel
    have Hb0 := Lib.hid hb
    by_cases hlt : j < n
    · obtain ⟨x, hx⟩ := get_of (l := l) (i := j) (by rw [HN.out]; exact hlt)
      have hsx : reqK.sz x ≤ 2000000 := Nat.le_trans (szL_mem reqK (List.mem_of_getElem? hx)) HSZ.out
      have hcs := cL_step reqK hx
      have hct := cL_take reqK l (j + 1)
      rw [HT.out] at hct
      have hmx := mL_at reqK hx k
      rw [← HZ.out] at hmx
      obtain ⟨x0, x1, x2, x3, x4, x5⟩ := x
      rw [req_cI] at hcs
      rw [req_mI] at hmx
      rw [req_sz] at hsx
      have HCS := Lib.hid hcs
      have hz0 : 0 ≤ z := by have := HZ.out; omega
      have hz1 : z + ((5 + ints.cT x5 : Nat) : Int) ≤ 4611686018427387904 := by have := HZ.out; omega
      obtain ⟨b, og, _, es, e, _, _, lt, c, rx⟩ := row_rd HR.out hmx
      cases e
      obtain ⟨ax5, px5, rfl, rx5⟩ := req_form rx
      have g0 : w.cell? ⟨b, og + j * 6, none⟩ = some (.bool ((z) % 3 == 0)) := c 0 _ rfl
      have g1 : w.cell? ⟨b, og + j * 6 + 1, none⟩ = some (.int .i64 (z + 1)) := c 1 _ rfl
      have g2 : w.cell? ⟨b, og + j * 6 + 2, none⟩ = some (.int .i64 (z + 1 + 1)) := c 2 _ rfl
      have g3 : w.cell? ⟨b, og + j * 6 + 3, none⟩ = some (.int .i64 (z + 1 + 1 + 1)) := c 3 _ rfl
      have g4 : w.cell? ⟨b, og + j * 6 + 4, none⟩ = some (.bool ((z + 1 + 1 + 1 + 1) % 3 == 0)) := c 4 _ rfl
      have g5 : w.cell? ⟨b, og + j * 6 + 5, none⟩ = some (.slice ax5 (ints.mT x5 (z + 1 + 1 + 1 + 1 + 1)).length px5) := c 5 _ rfl
      obtain ⟨mx5, hmx5⟩ : ∃ m, (ints.mT x5 (z + 1 + 1 + 1 + 1 + 1)).length = m := ⟨_, rfl⟩
      rw [hmx5] at g5 rx5
      have Rx5 := Lib.hid (ints.rd_later rx5 hb)
      clear rx5 hmx5
      rw [← bel_cells hb lt] at g0 g1 g2 g3 g4 g5
      clear hx hmx hcs hct c rx
      have e0 : (z + 1 != z + 1) = false := by simp
      have e1 : (z + 1 + 1 != z + 1 + 1) = false := by simp
      have e2 : (z + 1 + 1 + 1 != z + 1 + 1 + 1) = false := by simp
      go_wp2_with fail
      refine (heldIntS [.slice ax5 mx5 px5] x5 (z + 1 + 1 + 1 + 1 + 1) _ (by omega) (by omega) (by omega) Rx5.out).mono ?_
      rintro e y1 ⟨rfl, hb1⟩
      obtain ⟨z_1, hz_1⟩ : ∃ m, z + 1 + 1 + 1 + 1 + 1 + (ints.cT x5 : Int) = m := ⟨_, rfl⟩
      rw [hz_1]
      have HZ_1 := Lib.hid hz_1
      have hp1 : ¬ z_1 < 0 := by omega
      have hq1 : 0 ≤ z_1 := by omega
      have B1 := Lib.hid hb1
      have hbw := Hb0.out.trans (B1.out.mono Hb0.out.size)
      clear g0 g1 g2 g3 g4 g5
      clear hb1
      clear hbw
      go_wp2_with fail
      go_roundw
      case rel => exact ⟨j + 1, z_1, by omega, by go_num, rfl, Lib.hid (by have h1 := HZ.out; have h2 := HCS.out; have i1 := HZ_1.out; omega), Hb0.out.trans (B1.out.mono Hb0.out.size)⟩
      case measure => simp [intOf]; omega
    · obtain rfl : j = n := by omega
      have h2 := HZ.out
      rw [← HN.out, List.take_length, HT.out] at h2
      subst h2
      go_wp2
      go_ret
      exact ⟨rfl, hb⟩
end Go.Proofs.Ytdhaelaoackfkaa.KD
