
/-
  Rows of MConf as data; what the laws' own functions do with them. (Made by wip/gk.py.)
-/
import Derived.Test.YtdhaelaoackfkaaKMConf
import Derived.Test.YtdhaelaoackfkaaKRow
import Derived.Lib.QuietBelow
namespace Go.Proofs.Ytdhaelaoackfkaa.KD
open Go.RowKit Rows3 GR
set_option linter.unusedVariables false

def mConfS : Kn (List (Int × Bool × Int × Int)) := row mConfK (by decide)
set_option maxHeartbeats 4000000 in
set_option maxRecDepth 100000 in
theorem szMConfS : SzC mConfS one 18 := by
  intro cs l L w hr h0 h1
  obtain ⟨ad, cp, rfl, hl1, hl2⟩ := row_form hr
  have HR := Lib.hid hr
  rw [show mConfS.sz l = szL mConfK l from rfl]
  have hall : szL mConfK l = l.length := by
    clear hr hl1 HR h0 h1
    induction l with
    | nil => rfl
    | cons x l ih => simp only [szL, List.length_cons, ih]; show 1 + 0 + l.length = _; omega
  obtain ⟨n, hn⟩ : ∃ n, l.length = n := ⟨_, rfl⟩
  have HN := Lib.hid hn
  rw [hn] at hl1
  have hle : n ≤ 9223372036854775807 := by omega
  rw [hall, hn]
  clear hr hn hall HR HN hl1 hl2
  show Calls _ _ #[.slice ad n cp, .int .i64 L] w _
  by_cases h : (n : Int) ≤ L
  · have He := Lib.hid (szW_yes h)
    have h2 : ¬ L - (n : Int) < 0 := by omega
    go_enter Try.func18, Try.ntmps18
    go_wp2
    go_ret
    exact ⟨by rw [He.out]; rfl, Below.refl _ _⟩
  · have He := Lib.hid (szW_no (by omega : L < (n : Int)))
    have h2 : L - (n : Int) < 0 := by omega
    go_enter Try.func18, Try.ntmps18
    go_wp2
    go_ret
    exact ⟨by rw [He.out]; rfl, Below.refl _ _⟩
theorem info_iMConf : (Try.prog.info? 75).map (fun i => (i.zero, i.size, decide (i.bytes ≤ 1000))) = some (some (.agg #[.int .i64 0, .bool false, .int .i64 0, .int .i64 0]), 4, true) := by kernel_rfl
set_option maxHeartbeats 4000000 in
set_option maxRecDepth 100000 in
theorem toMConfS : ToC mConfS one 23 := by
  intro cs l w hs hr
  obtain ⟨ad, cp, rfl, hl1, hl2⟩ := row_form hr
  have HR := Lib.hid hr
  have hln : l.length ≤ 2000000 := Nat.le_trans (szL_len mConfK l) hs
  have HSZ := Lib.hid (show szL mConfK l ≤ 2000000 from hs)
  obtain ⟨n, hn⟩ : ∃ n, l.length = n := ⟨_, rfl⟩
  have HN := Lib.hid hn
  rw [hn] at hln ⊢
  obtain ⟨i0, hi, hz0, hz1, hz2⟩ := info_parts' info_iMConf
  have hmk := fun W => make_runK (P := Try.prog) 26 75 i0 _ Try.underlying26 hi hz0 4 hz1 hz2 n hln W
  have Ho0 : Hid (mConfS.cap (fun k => w.heap.size ≤ k) [.slice (some ⟨w.heap.size, 0, none⟩) n n] (midT l (0, false, 0, 0) 0) (w.alloc (.cells (madeCells #[.int .i64 0, .bool false, .int .i64 0, .int .i64 0] (n * 4)) 75))) := Lib.hid (by rw [midT_zero, hn]; exact row_made w n #[.int .i64 0, .bool false, .int .i64 0, .int .i64 0] (0, false, 0, 0) 75 rfl (fun w => mConf_capz _ 0 false 0 0 w) hln)
  clear hr hn hl1 hl2 hi hz0 hz1 hz2 hs
  show Calls _ _ #[.slice ad n cp] w _
  go_enter Try.func23, Try.ntmps23
  go_wp2
  clear hmk
  go_loopw [4] (fun i wr => ∃ j : Nat, j ≤ n ∧ i = .int .i64 j ∧ mConfS.cap (fun k => w.heap.size ≤ k) [.slice (some ⟨w.heap.size, 0, none⟩) n n] (midT l (0, false, 0, 0) j) wr ∧ Below w.heap.size w wr) (fun i _ => n - (intOf i).toNat)
  case atStart => exact ⟨0, by omega, rfl, Ho0.out, (Below.refl _ _).alloc (Nat.le_refl _) _⟩
  case round =>
    obtain ⟨j, hj, rfl, hown, hb⟩ := hrel
    have Ho := Lib.hid hown
    clear hown
    by_cases hlt : j < n
    · obtain ⟨x, hx⟩ := get_of (l := l) (i := j) (by rw [HN.out]; exact hlt)
      have hsx : mConfK.sz x ≤ 2000000 := Nat.le_trans (szL_mem mConfK (List.mem_of_getElem? hx)) HSZ.out
      have Hst := Lib.hid (midT_step (0, false, 0, 0) hx)
      have Hb0 := Lib.hid hb
      obtain ⟨x0, x1, x2, x3⟩ := x
      obtain ⟨b, o, _, es, e, _, _, lt, c, x⟩ := row_rd HR.out hx
      cases e
      have hrx := x
      obtain rfl := mConf_form x
      have g0 : w.cell? ⟨b, o + j * 4, none⟩ = some (.int .i64 x0) := c 0 _ rfl
      have g1 : w.cell? ⟨b, o + j * 4 + 1, none⟩ = some (.bool x1) := c 1 _ rfl
      have g2 : w.cell? ⟨b, o + j * 4 + 2, none⟩ = some (.int .i64 x2) := c 2 _ rfl
      have g3 : w.cell? ⟨b, o + j * 4 + 3, none⟩ = some (.int .i64 x3) := c 3 _ rfl
      rw [← bel_cells hb lt] at g0 g1 g2 g3
      have Hx := Lib.hid (mConfK.rd_later hrx hb)
      clear hx hrx c x hb
      obtain ⟨g, og, cg, es, E, eg, _, _, hgF, hgl, hes, hseg, _, hE, cont⟩ := row_at Ho.out (midT_at (0, false, 0, 0) (by rw [HN.out]; exact hlt))
      rw [midT_len _ (by rw [HN.out]; omega), HN.out] at eg
      simp at eg
      obtain ⟨⟨rfl, rfl⟩, rfl⟩ := eg
      have hoff : 0 + j * mConfK.n = j * 4 := by rw [Nat.zero_add]; rfl
      rw [hoff] at hseg cont
      obtain ⟨v0, v1, v2, v3, rfl⟩ : ∃ v0 v1 v2 v3, es = [v0, v1, v2, v3] := by
        match es, (show es.length = 4 from hes) with
        | [v0, v1, v2, v3], _ => exact ⟨_, _, _, _, rfl⟩
      have Hseg := Lib.hid hseg
      have Cont := Lib.hid cont
      clear hseg cont hE hes
      go_wp2_with fail
      refine (toMConf [.int .i64 x0, .bool x1, .int .i64 x2, .int .i64 x3] (x0, x1, x2, x3) _ hsx Hx.out).mono ?_
      rintro e w2 ⟨us, he, hc, hb2⟩
      obtain rfl := mConf_form (mConfK.cap_rd hc)
      obtain rfl : e = .returned (.agg #[.int .i64 x0, .bool x1, .int .i64 x2, .int .i64 x3]) := he
      have hs2 := Hseg.out.later hb2
      have f0 := hs2.cell 0 _ rfl (n := j * 4) rfl
      have f1 := hs2.cell 1 _ rfl (n := j * 4 + 1) rfl
      have f2 := hs2.cell 2 _ rfl (n := j * 4 + 2) rfl
      have f3 := hs2.cell 3 _ rfl (n := j * 4 + 3) rfl
      have z0 := hs2.warm (j * 4)
      have z1 := hs2.warm (j * 4 + 1)
      have z2 := hs2.warm (j * 4 + 2)
      have z3 := hs2.warm (j * 4 + 3)
      have Hch := Lib.hid ((((((Chg.refl w.heap.size (j * 4) (j * 4 + mConfK.n) E wr).later hb2).set (n := j * 4) (by omega) (by show _ < j * 4 + 4; omega) (.int .i64 x0)).set (n := j * 4 + 1) (by omega) (by show _ < j * 4 + 4; omega) (.bool x1)).set (n := j * 4 + 2) (by omega) (by show _ < j * 4 + 4; omega) (.int .i64 x2)).set (n := j * 4 + 3) (by omega) (by show _ < j * 4 + 4; omega) (.int .i64 x3))
      have Hsg := Lib.hid (((((hs2.set 0 (.int .i64 x0) (n := j * 4) rfl).set 1 (.bool x1) (n := j * 4 + 1) rfl).set 2 (.int .i64 x2) (n := j * 4 + 2) rfl).set 3 (.int .i64 x3) (n := j * 4 + 3) rfl))
      have Hc := Lib.hid hc
      have Hb2 := Lib.hid hb2
      clear hc hb2 hs2 g0 g1 g2 g3
      go_wp2_with fail
      go_roundw
      case rel =>
        refine ⟨j + 1, by omega, by go_num, ?_, ?_⟩
        · have ht : Turn (fun k => k = w.heap.size) w2 _ := ((((Turn.refl (fun k => k = w.heap.size) w2).set (p := ⟨w.heap.size, j * 4, none⟩) rfl (.int .i64 x0)).set (p := ⟨w.heap.size, j * 4 + 1, none⟩) rfl (.bool x1)).set (p := ⟨w.heap.size, j * 4 + 2, none⟩) rfl (.int .i64 x2)).set (p := ⟨w.heap.size, j * 4 + 3, none⟩) rfl (.int .i64 x3)
          rw [← Hst.out]
          exact mConfS.cap_wide (Cont.out _ [.int .i64 x0, .bool x1, .int .i64 x2, .int .i64 x3] (x0, x1, x2, x3) (fun k => wr.heap.size ≤ k) Hch.out Hsg.out rfl (mConfK.cap_turn Hc.out ht (fun k _ hk he => by omega)) (fun k hk => .inr hk)) (fun k _ hk => by rcases hk with h | h <;> omega)
        · iterate 4 refine Below.setCell ?_ (by exact Nat.le_refl _) _
          exact Hb0.out.trans (Hb2.out.mono Hb0.out.size)
      case measure => simp [intOf]; omega
    · obtain rfl : j = n := by omega
      go_wp2
      go_ret
      refine ⟨[_], rfl, ?_, hb⟩
      have h := Ho.out
      rw [← HN.out, midT_all] at h
      rw [← HN.out]
      exact h
set_option maxHeartbeats 4000000 in
set_option maxRecDepth 100000 in
theorem eqMConfS : EqC mConfS one 35 := by
  intro cs ds l w hs hr hr2
  obtain ⟨ad, cp, rfl, hl1, hl2⟩ := row_form hr
  obtain ⟨bd, dp, rfl, _, _⟩ := row_form hr2
  have HR := Lib.hid hr
  have HR2 := Lib.hid hr2
  have hln : l.length ≤ 2000000 := Nat.le_trans (szL_len mConfK l) hs
  have HSZ := Lib.hid (show szL mConfK l ≤ 2000000 from hs)
  obtain ⟨n, hn⟩ : ∃ n, l.length = n := ⟨_, rfl⟩
  have HN := Lib.hid hn
  rw [hn] at hln ⊢
  clear hr hr2 hn hl1 hl2 hs
  have hne : (((n : Nat) : Int) != ((n : Nat) : Int)) = false := by simp
  show Calls _ _ #[.slice ad n cp, .slice bd n dp] w _
  go_enter Try.func35, Try.ntmps35
  go_wp2
  go_loopw [5] (fun i wr => ∃ j : Nat, j ≤ n ∧ i = .int .i64 j ∧ Below w.heap.size w wr) (fun i _ => n - (intOf i).toNat)
  case atStart => exact ⟨0, by omega, rfl, Below.refl _ _⟩
  case round =>
    obtain ⟨j, hj, rfl, hb⟩ := hrel
    by_cases hlt : j < n
    · obtain ⟨x, hx⟩ := get_of (l := l) (i := j) (by rw [HN.out]; exact hlt)
      have hsx : mConfK.sz x ≤ 2000000 := Nat.le_trans (szL_mem mConfK (List.mem_of_getElem? hx)) HSZ.out
      have Hb0 := Lib.hid hb
      obtain ⟨x0, x1, x2, x3⟩ := x
      obtain ⟨lb, lo, _, les, el, _, _, llt, lc, lx⟩ := row_rd HR.out hx
      cases el
      have lr := lx
      obtain rfl := mConf_form lx
      have g0 : w.cell? ⟨lb, lo + j * 4, none⟩ = some (.int .i64 x0) := lc 0 _ rfl
      have g1 : w.cell? ⟨lb, lo + j * 4 + 1, none⟩ = some (.bool x1) := lc 1 _ rfl
      have g2 : w.cell? ⟨lb, lo + j * 4 + 2, none⟩ = some (.int .i64 x2) := lc 2 _ rfl
      have g3 : w.cell? ⟨lb, lo + j * 4 + 3, none⟩ = some (.int .i64 x3) := lc 3 _ rfl
      rw [← bel_cells hb llt] at g0 g1 g2 g3
      obtain ⟨mb, mo, _, mes, em, _, _, mlt, mc, mx⟩ := row_rd HR2.out hx
      cases em
      have mr := mx
      obtain rfl := mConf_form mx
      have k0 : w.cell? ⟨mb, mo + j * 4, none⟩ = some (.int .i64 x0) := mc 0 _ rfl
      have k1 : w.cell? ⟨mb, mo + j * 4 + 1, none⟩ = some (.bool x1) := mc 1 _ rfl
      have k2 : w.cell? ⟨mb, mo + j * 4 + 2, none⟩ = some (.int .i64 x2) := mc 2 _ rfl
      have k3 : w.cell? ⟨mb, mo + j * 4 + 3, none⟩ = some (.int .i64 x3) := mc 3 _ rfl
      rw [← bel_cells hb mlt] at k0 k1 k2 k3
      have Hx := Lib.hid (mConfK.rd_later lr hb)
      have Hy := Lib.hid (mConfK.rd_later mr hb)
      clear hx lr mr lc mc lx mx hb
      replace g0 := fun d os => cell_regrown g0 d os
      replace k0 := fun d os => cell_regrown k0 d os
      replace g1 := fun d os => cell_regrown g1 d os
      replace k1 := fun d os => cell_regrown k1 d os
      replace g2 := fun d os => cell_regrown g2 d os
      replace k2 := fun d os => cell_regrown k2 d os
      replace g3 := fun d os => cell_regrown g3 d os
      replace k3 := fun d os => cell_regrown k3 d os
      go_wp2_with fail
      refine wp_region_quiet_below (by kernel_rfl) (by kernel_rfl) ?_
      repeat (go_big_quiet_step ((go_at_call 87; exact Calls.regrown_of (eqMConf [.int .i64 x0, .bool x1, .int .i64 x2, .int .i64 x3] [.int .i64 x0, .bool x1, .int .i64 x2, .int .i64 x3] (x0, x1, x2, x3) _ hsx (mConfK.rd_later Hx.out (below_regrown wr _ _)) (mConfK.rd_later Hy.out (below_regrown wr _ _))))))
      refine wpQuiet_nil ?_
      rintro _ ⟨⟨dq, osq⟩, rfl⟩
      have hbw := below_regrown wr dq osq
      generalize Sort.grow (redrawn wr dq) osq = w2 at hbw
      clear g0 k0 g1 k1 g2 k2 g3 k3
      go_wp2_with fail
      go_roundw
      case rel => exact ⟨j + 1, by omega, by go_num, Hb0.out.trans (hbw.mono Hb0.out.size)⟩
      case measure => simp [intOf]; omega
    · go_wp2
      go_ret
      exact ⟨rfl, hb⟩
set_option maxHeartbeats 4000000 in
set_option maxRecDepth 100000 in
theorem markMConfS : MarkC mConfS one 36 := by
  intro F cs l k w hs h0 h1 hc
  obtain ⟨ad, cp, rfl, hl1, hl2⟩ := row_form (mConfS.cap_rd hc)
  have hln : l.length ≤ 2000000 := Nat.le_trans (szL_len mConfK l) hs
  have HSZ := Lib.hid (show szL mConfK l ≤ 2000000 from hs)
  have e1 : mConfS.cT l = cL mConfK l := rfl
  have e2 : mConfS.mT l k = mL mConfK l k := rfl
  rw [e1] at h1 ⊢
  rw [e2]
  obtain ⟨T, hT⟩ : ∃ T, cL mConfK l = T := ⟨_, rfl⟩
  have HT := Lib.hid hT
  rw [hT] at h1 ⊢
  obtain ⟨n, hn⟩ : ∃ n, l.length = n := ⟨_, rfl⟩
  have HN := Lib.hid hn
  have Hc0 := Lib.hid hc
  rw [hn] at Hc0 hln ⊢
  clear e1 e2 hT hn hc hl1 hl2 hs
  show Calls _ _ #[.slice ad n cp, .int .i64 k] w _
  go_enter Try.func36, Try.ntmps36
  go_wp2
  go_loopw [1, 5] (fun q i wr => ∃ (j : Nat) (z : Int), j ≤ n ∧ i = .int .i64 j ∧ q = .int .i64 z ∧ Hid (z = k + (cL mConfK (l.take j) : Int)) ∧ mConfS.cap F [.slice ad n cp] (midM mConfK l k j) wr ∧ Turn F w wr) (fun _ i _ => n - (intOf i).toNat)
  case atStart => exact ⟨0, k, by omega, rfl, rfl, Lib.hid (by simp [cL]), by rw [midM_zero]; exact Hc0.out, Turn.refl _ _⟩
  case round =>
    obtain ⟨j, z, hj, rfl, rfl, HZ, hown, ht0⟩ := hrel
    have Ho := Lib.hid hown
    have Ht0 := Lib.hid ht0
    clear hown ht0
    by_cases hlt : j < n
    · obtain ⟨x, hx⟩ := get_of (l := l) (i := j) (by rw [HN.out]; exact hlt)
      have hsx : mConfK.sz x ≤ 2000000 := Nat.le_trans (szL_mem mConfK (List.mem_of_getElem? hx)) HSZ.out
      have hcs := cL_step mConfK hx
      have hct := cL_take mConfK l (j + 1)
      rw [HT.out] at hct
      have Hst := midM_step mConfK hx k
      rw [← HZ.out] at Hst
      obtain ⟨x0, x1, x2, x3⟩ := x
      rw [mConf_cI] at hcs
      rw [mConf_mI] at Hst
      have HCS := Lib.hid hcs
      have HST := Lib.hid Hst
      have hz0 : 0 ≤ z := by have := HZ.out; omega
      have hz1 : z + ((4 : Nat) : Int) ≤ 4611686018427387904 := by have := HZ.out; omega
      obtain ⟨g, og, cg, es, E, eg, _, _, hgF, hgl, hes, hseg, hce, hE, cont⟩ := row_at Ho.out (midM_at mConfK hx k)
      rw [midM_len, HN.out] at eg
      simp at eg
      obtain ⟨rfl, rfl⟩ := eg
      obtain rfl := mConf_form (mConfK.cap_rd hce)
      have hoff : og + j * mConfK.n = og + j * 4 := rfl
      rw [hoff] at hseg cont
      have Cont := Lib.hid cont
      have HgF := Lib.hid hgF
      have HE := Lib.hid hE
      have Hch0 := Lib.hid (Chg.refl g (og + j * 4) (og + j * 4 + mConfK.n) E wr)
      have Hsg0 := Lib.hid hseg
      clear cont hgF hE hce hx hcs hct Hst
      have hEg : ¬ E g := fun h => (HE.out g h).2.1 rfl
      have g0 := hseg.cell 0 _ rfl (n := og + j * 4) rfl
      have g1 := hseg.cell 1 _ rfl (n := og + j * 4 + 1) rfl
      have g2 := hseg.cell 2 _ rfl (n := og + j * 4 + 2) rfl
      have g3 := hseg.cell 3 _ rfl (n := og + j * 4 + 3) rfl
      have z0 := hseg.warm (og + j * 4)
      have z1 := hseg.warm (og + j * 4 + 1)
      have z2 := hseg.warm (og + j * 4 + 2)
      have z3 := hseg.warm (og + j * 4 + 3)
      clear hseg
      have Hch1 := Lib.hid ((((Hch0.out.set (n := og + j * 4) (by omega) (by show _ < og + j * 4 + 4; omega) (.int .i64 (z))).set (n := og + j * 4 + 1) (by omega) (by show _ < og + j * 4 + 4; omega) (.bool ((z + 1) % 3 == 0))).set (n := og + j * 4 + 2) (by omega) (by show _ < og + j * 4 + 4; omega) (.int .i64 (z + 1 + 1))).set (n := og + j * 4 + 3) (by omega) (by show _ < og + j * 4 + 4; omega) (.int .i64 (z + 1 + 1 + 1)))
      have Hsg1 := Lib.hid (show Seg g (og + j * 4) [.int .i64 (z), .bool ((z + 1) % 3 == 0), .int .i64 (z + 1 + 1), .int .i64 (z + 1 + 1 + 1)] _ from ((((Hsg0.out.set 0 (.int .i64 (z)) (n := og + j * 4) rfl).set 1 (.bool ((z + 1) % 3 == 0)) (n := og + j * 4 + 1) rfl).set 2 (.int .i64 (z + 1 + 1)) (n := og + j * 4 + 2) rfl).set 3 (.int .i64 (z + 1 + 1 + 1)) (n := og + j * 4 + 3) rfl))
      have hts : Turn (fun i => i = g) wr _ := ((((Turn.refl (fun i => i = g) wr).set (p := ⟨g, og + j * 4, none⟩) rfl (.int .i64 (z))).set (p := ⟨g, og + j * 4 + 1, none⟩) rfl (.bool ((z + 1) % 3 == 0))).set (p := ⟨g, og + j * 4 + 2, none⟩) rfl (.int .i64 (z + 1 + 1))).set (p := ⟨g, og + j * 4 + 3, none⟩) rfl (.int .i64 (z + 1 + 1 + 1))
      clear hts
      go_wp2_with fail
      go_roundw
      case rel =>
        refine ⟨j + 1, z + 1 + 1 + 1 + 1, by omega, by go_num, rfl, Lib.hid ?_, ?_, ?_⟩
        · have h1 := HZ.out; have h2 := HCS.out; show _ = _; omega
        · have hnew : (midM mConfK l k j).set j (z, ((z + 1) % 3 == 0), z + 1 + 1, z + 1 + 1 + 1) = midM mConfK l k (j + 1) := by
            rw [← HST.out]
          rw [← hnew]
          exact mConfS.cap_wide (Cont.out _ _ (z, ((z + 1) % 3 == 0), z + 1 + 1, z + 1 + 1 + 1) E Hch1.out Hsg1.out rfl (mConf_capz E (z) (((z + 1) % 3 == 0)) (z + 1 + 1) (z + 1 + 1 + 1) _) (fun i hi => .inl hi)) (fun i _ hi => hi.elim id (fun h => (HE.out i h).1))
        · exact Ht0.out.trans (Hch1.out.turn.wide (fun i hi => hi.elim (fun h => h ▸ HgF.out) (fun h => (HE.out i h).1)))
      case measure => simp [intOf]; omega
    · obtain rfl : j = n := by omega
      go_wp2
      go_ret
      have h1 := Ho.out
      have h2 := HZ.out
      rw [← HN.out, midM_all] at h1
      rw [← HN.out, List.take_length, HT.out] at h2
      subst h2
      rw [HN.out] at h1
      exact ⟨rfl, h1, Ht0.out⟩
set_option maxHeartbeats 4000000 in
set_option maxRecDepth 100000 in
theorem heldMConfS : HeldC mConfS one 90 := by
  intro cs l k w hs h0 h1 hr
  have e1 : mConfS.cT l = cL mConfK l := rfl
  have e2 : mConfS.mT l k = mL mConfK l k := rfl
  rw [e1] at h1 ⊢
  rw [e2] at hr
  obtain ⟨ad, cp, rfl, hl1, hl2⟩ := row_form hr
  have HR := Lib.hid hr
  have hln : l.length ≤ 2000000 := Nat.le_trans (szL_len mConfK l) hs
  have HSZ := Lib.hid (show szL mConfK l ≤ 2000000 from hs)
  obtain ⟨T, hT⟩ : ∃ T, cL mConfK l = T := ⟨_, rfl⟩
  have HT := Lib.hid hT
  rw [hT] at h1 ⊢
  obtain ⟨n, hn⟩ : ∃ n, l.length = n := ⟨_, rfl⟩
  have HN := Lib.hid hn
  have hml : (mL mConfK l k).length = n := by rw [mL_len, hn]
  have HML := Lib.hid hml
  rw [hml]
  rw [hn] at hln
  clear e1 e2 hT hn hr hl1 hl2 hs hml
  show Calls _ _ #[.slice ad n cp, .int .i64 k] w _
  go_enter Try.func90, Try.ntmps90
  go_wp2
  go_loopw [1, 5] (fun q i wr => ∃ (j : Nat) (z : Int), j ≤ n ∧ i = .int .i64 j ∧ q = .int .i64 z ∧ Hid (z = k + (cL mConfK (l.take j) : Int)) ∧ Below w.heap.size w wr) (fun _ i _ => n - (intOf i).toNat)
  case atStart => exact ⟨0, k, by omega, rfl, rfl, Lib.hid (by simp [cL]), Below.refl _ _⟩
  case round =>
    obtain ⟨j, z, hj, rfl, rfl, HZ, hb⟩ := hrel
    have Hb0 := Lib.hid hb
    by_cases hlt : j < n
    · obtain ⟨x, hx⟩ := get_of (l := l) (i := j) (by rw [HN.out]; exact hlt)
      have hsx : mConfK.sz x ≤ 2000000 := Nat.le_trans (szL_mem mConfK (List.mem_of_getElem? hx)) HSZ.out
      have hcs := cL_step mConfK hx
      have hct := cL_take mConfK l (j + 1)
      rw [HT.out] at hct
      have hmx := mL_at mConfK hx k
      rw [← HZ.out] at hmx
      obtain ⟨x0, x1, x2, x3⟩ := x
      rw [mConf_cI] at hcs
      rw [mConf_mI] at hmx
      have HCS := Lib.hid hcs
      have hz0 : 0 ≤ z := by have := HZ.out; omega
      have hz1 : z + ((4 : Nat) : Int) ≤ 4611686018427387904 := by have := HZ.out; omega
      obtain ⟨b, og, _, es, e, _, _, lt, c, rx⟩ := row_rd HR.out hmx
      cases e
      obtain rfl := mConf_form rx
      have g0 : w.cell? ⟨b, og + j * 4, none⟩ = some (.int .i64 (z)) := c 0 _ rfl
      have g1 : w.cell? ⟨b, og + j * 4 + 1, none⟩ = some (.bool ((z + 1) % 3 == 0)) := c 1 _ rfl
      have g2 : w.cell? ⟨b, og + j * 4 + 2, none⟩ = some (.int .i64 (z + 1 + 1)) := c 2 _ rfl
      have g3 : w.cell? ⟨b, og + j * 4 + 3, none⟩ = some (.int .i64 (z + 1 + 1 + 1)) := c 3 _ rfl
      rw [← bel_cells hb lt] at g0 g1 g2 g3
      clear hx hmx hcs hct c rx
      have e0 : (z != z) = false := by simp
      have e1 : (z + 1 + 1 != z + 1 + 1) = false := by simp
      have e2 : (z + 1 + 1 + 1 != z + 1 + 1 + 1) = false := by simp
      go_wp2_with fail
      go_roundw
      case rel => exact ⟨j + 1, z + 1 + 1 + 1 + 1, by omega, by go_num, rfl, Lib.hid (by have h1 := HZ.out; have h2 := HCS.out; omega), hb⟩
      case measure => simp [intOf]; omega
    · obtain rfl : j = n := by omega
      have h2 := HZ.out
      rw [← HN.out, List.take_length, HT.out] at h2
      subst h2
      go_wp2
      go_ret
      exact ⟨rfl, hb⟩
end Go.Proofs.Ytdhaelaoackfkaa.KD
