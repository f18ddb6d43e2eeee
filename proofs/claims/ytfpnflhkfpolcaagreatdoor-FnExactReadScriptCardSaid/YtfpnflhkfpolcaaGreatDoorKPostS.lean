
/-
  Rows of Post as data; what the laws' own functions do with them. (Made by wip/gk.py.)
-/
import Derived.Test.YtfpnflhkfpolcaaGreatDoorKPost
import Derived.Test.YtfpnflhkfpolcaaGreatDoorKRow
import Derived.Lib.QuietBelow
namespace Go.Proofs.YtfpnflhkfpolcaaGreatDoor.KD
open Go.RowKit Rows3 GR
set_option linter.unusedVariables false

def postS : Kn (List (Int × Int × (Bool × Int × Int × Int × Bool × List Int))) := row postK (by decide)
theorem info_iPost : (Tryz.prog.info? 39).map (fun i => (i.zero, i.size, decide (i.bytes ≤ 1000))) = some (some (.agg #[.int .i64 0, .int .i64 0, .bool false, .int .i64 0, .int .i64 0, .int .i64 0, .bool false, .slice none 0 0]), 8, true) := by kernel_rfl
set_option maxHeartbeats 4000000 in
set_option maxRecDepth 100000 in
theorem eqPostS : EqC postS one 15 := by
  intro cs ds l w hs hr hr2
  obtain ⟨ad, cp, rfl, hl1, hl2⟩ := row_form hr
  obtain ⟨bd, dp, rfl, _, _⟩ := row_form hr2
  have HR := Lib.hid hr
  have HR2 := Lib.hid hr2
  have hln : l.length ≤ 2000000 := Nat.le_trans (szL_len postK l) hs
  have HSZ := Lib.hid (show szL postK l ≤ 2000000 from hs)
  obtain ⟨n, hn⟩ : ∃ n, l.length = n := ⟨_, rfl⟩
  have HN := Lib.hid hn
  rw [hn] at hln ⊢
  clear hr hr2 hn hl1 hl2 hs
  have hne : (((n : Nat) : Int) != ((n : Nat) : Int)) = false := by simp
  show Calls _ _ #[.slice ad n cp, .slice bd n dp] w _
  go_enter Tryz.func15, Tryz.ntmps15
  go_wp2
  go_loopw [5] (fun i wr => ∃ j : Nat, j ≤ n ∧ i = .int .i64 j ∧ Below w.heap.size w wr) (fun i _ => n - (intOf i).toNat)
  case atStart => exact ⟨0, by omega, rfl, Below.refl _ _⟩
  case round =>
    obtain ⟨j, hj, rfl, hb⟩ := hrel
    by_cases hlt : j < n
    · obtain ⟨x, hx⟩ := get_of (l := l) (i := j) (by rw [HN.out]; exact hlt)
      have hsx : postK.sz x ≤ 2000000 := Nat.le_trans (szL_mem postK (List.mem_of_getElem? hx)) HSZ.out
      have Hb0 := Lib.hid hb
      obtain ⟨x0, x1, ⟨x20, x21, x22, x23, x24, x25⟩⟩ := x
      obtain ⟨lb, lo, _, les, el, _, _, llt, lc, lx⟩ := row_rd HR.out hx
      cases el
      have lr := lx
      obtain ⟨ax25, px25, rfl, _⟩ := post_form lx
      have g0 : w.cell? ⟨lb, lo + j * 8, none⟩ = some (.int .i64 x0) := lc 0 _ rfl
      have g1 : w.cell? ⟨lb, lo + j * 8 + 1, none⟩ = some (.int .i64 x1) := lc 1 _ rfl
      have g2 : w.cell? ⟨lb, lo + j * 8 + 2, none⟩ = some (.bool x20) := lc 2 _ rfl
      have g3 : w.cell? ⟨lb, lo + j * 8 + 3, none⟩ = some (.int .i64 x21) := lc 3 _ rfl
      have g4 : w.cell? ⟨lb, lo + j * 8 + 4, none⟩ = some (.int .i64 x22) := lc 4 _ rfl
      have g5 : w.cell? ⟨lb, lo + j * 8 + 5, none⟩ = some (.int .i64 x23) := lc 5 _ rfl
      have g6 : w.cell? ⟨lb, lo + j * 8 + 6, none⟩ = some (.bool x24) := lc 6 _ rfl
      have g7 : w.cell? ⟨lb, lo + j * 8 + 7, none⟩ = some (.slice ax25 x25.length px25) := lc 7 _ rfl
      rw [← bel_cells hb llt] at g0 g1 g2 g3 g4 g5 g6 g7
      obtain ⟨mb, mo, _, mes, em, _, _, mlt, mc, mx⟩ := row_rd HR2.out hx
      cases em
      have mr := mx
      obtain ⟨bx25, qx25, rfl, _⟩ := post_form mx
      have k0 : w.cell? ⟨mb, mo + j * 8, none⟩ = some (.int .i64 x0) := mc 0 _ rfl
      have k1 : w.cell? ⟨mb, mo + j * 8 + 1, none⟩ = some (.int .i64 x1) := mc 1 _ rfl
      have k2 : w.cell? ⟨mb, mo + j * 8 + 2, none⟩ = some (.bool x20) := mc 2 _ rfl
      have k3 : w.cell? ⟨mb, mo + j * 8 + 3, none⟩ = some (.int .i64 x21) := mc 3 _ rfl
      have k4 : w.cell? ⟨mb, mo + j * 8 + 4, none⟩ = some (.int .i64 x22) := mc 4 _ rfl
      have k5 : w.cell? ⟨mb, mo + j * 8 + 5, none⟩ = some (.int .i64 x23) := mc 5 _ rfl
      have k6 : w.cell? ⟨mb, mo + j * 8 + 6, none⟩ = some (.bool x24) := mc 6 _ rfl
      have k7 : w.cell? ⟨mb, mo + j * 8 + 7, none⟩ = some (.slice bx25 x25.length qx25) := mc 7 _ rfl
      rw [← bel_cells hb mlt] at k0 k1 k2 k3 k4 k5 k6 k7
      have Hx := Lib.hid (postK.rd_later lr hb)
      have Hy := Lib.hid (postK.rd_later mr hb)
      clear hx lr mr lc mc lx mx hb
      replace g0 := fun d os => cell_regrown g0 d os
      replace k0 := fun d os => cell_regrown k0 d os
      replace g1 := fun d os => cell_regrown g1 d os
      replace k1 := fun d os => cell_regrown k1 d os
      replace g2 := fun d os => cell_regrown g2 d os
      replace k2 := fun d os => cell_regrown k2 d os
      replace g3 := fun d os => cell_regrown g3 d os
      replace k3 := fun d os => cell_regrown k3 d os
      replace g4 := fun d os => cell_regrown g4 d os
      replace k4 := fun d os => cell_regrown k4 d os
      replace g5 := fun d os => cell_regrown g5 d os
      replace k5 := fun d os => cell_regrown k5 d os
      replace g6 := fun d os => cell_regrown g6 d os
      replace k6 := fun d os => cell_regrown k6 d os
      replace g7 := fun d os => cell_regrown g7 d os
      replace k7 := fun d os => cell_regrown k7 d os
      go_wp2_with fail
      refine wp_region_quiet_below (by kernel_rfl) (by kernel_rfl) ?_
      repeat (go_big_quiet_step ((go_at_call 30; exact Calls.regrown_of (eqPost [.int .i64 x0, .int .i64 x1, .bool x20, .int .i64 x21, .int .i64 x22, .int .i64 x23, .bool x24, .slice ax25 x25.length px25] [.int .i64 x0, .int .i64 x1, .bool x20, .int .i64 x21, .int .i64 x22, .int .i64 x23, .bool x24, .slice bx25 x25.length qx25] (x0, x1, (x20, x21, x22, x23, x24, x25)) _ hsx (postK.rd_later Hx.out (below_regrown wr _ _)) (postK.rd_later Hy.out (below_regrown wr _ _))))))
      refine wpQuiet_nil ?_
      rintro _ ⟨⟨dq, osq⟩, rfl⟩
      have hbw := below_regrown wr dq osq
      generalize Sort.grow (redrawn wr dq) osq = w2 at hbw
      clear g0 k0 g1 k1 g2 k2 g3 k3 g4 k4 g5 k5 g6 k6 g7 k7
      go_wp2_with fail
      go_roundw
      case rel => exact ⟨j + 1, by omega, by go_num, Hb0.out.trans (hbw.mono Hb0.out.size)⟩
      case measure => simp [intOf]; omega
    · go_wp2
      go_ret
      exact ⟨rfl, hb⟩
set_option maxHeartbeats 4000000 in
set_option maxRecDepth 100000 in
theorem markPostS : MarkC postS one 17 := by
  intro F cs l k w hs h0 h1 hc
  obtain ⟨ad, cp, rfl, hl1, hl2⟩ := row_form (postS.cap_rd hc)
  have hln : l.length ≤ 2000000 := Nat.le_trans (szL_len postK l) hs
  have HSZ := Lib.hid (show szL postK l ≤ 2000000 from hs)
  have e1 : postS.cT l = cL postK l := rfl
  have e2 : postS.mT l k = mL postK l k := rfl
  rw [e1] at h1 ⊢
  rw [e2]
  obtain ⟨T, hT⟩ : ∃ T, cL postK l = T := ⟨_, rfl⟩
  have HT := Lib.hid hT
  rw [hT] at h1 ⊢
  obtain ⟨n, hn⟩ : ∃ n, l.length = n := ⟨_, rfl⟩
  have HN := Lib.hid hn
  have Hc0 := Lib.hid hc
  rw [hn] at Hc0 hln ⊢
  clear e1 e2 hT hn hc hl1 hl2 hs
  show Calls _ _ #[.slice ad n cp, .int .i64 k] w _
  go_enter Tryz.func17, Tryz.ntmps17
  go_wp2
  go_loopw [1, 5] (fun q i wr => ∃ (j : Nat) (z : Int), j ≤ n ∧ i = .int .i64 j ∧ q = .int .i64 z ∧ Hid (z = k + (cL postK (l.take j) : Int)) ∧ postS.cap F [.slice ad n cp] (midM postK l k j) wr ∧ Turn F w wr) (fun _ i _ => n - (intOf i).toNat)
  case atStart => exact ⟨0, k, by omega, rfl, rfl, Lib.hid (by simp [cL]), by rw [midM_zero]; exact Hc0.out, Turn.refl _ _⟩
  case round =>
    obtain ⟨j, z, hj, rfl, rfl, HZ, hown, ht0⟩ := hrel
    have Ho := Lib.hid hown
    have Ht0 := Lib.hid ht0
    clear hown ht0
    by_cases hlt : j < n
    · obtain ⟨x, hx⟩ := get_of (l := l) (i := j) (by rw [HN.out]; exact hlt)
      have hsx : postK.sz x ≤ 2000000 := Nat.le_trans (szL_mem postK (List.mem_of_getElem? hx)) HSZ.out
      have hcs := cL_step postK hx
      have hct := cL_take postK l (j + 1)
      rw [HT.out] at hct
      have Hst := midM_step postK hx k
      rw [← HZ.out] at Hst
      obtain ⟨x0, x1, ⟨x20, x21, x22, x23, x24, x25⟩⟩ := x
      rw [post_cI] at hcs
      rw [post_mI] at Hst
      rw [post_sz, req_sz] at hsx
      have HCS := Lib.hid hcs
      have HST := Lib.hid Hst
      have hz0 : 0 ≤ z := by have := HZ.out; omega
      have hz1 : z + ((7 + ints.cT x25 : Nat) : Int) ≤ 4611686018427387904 := by have := HZ.out; omega
      obtain ⟨g, og, cg, es, E, eg, _, _, hgF, hgl, hes, hseg, hce, hE, cont⟩ := row_at Ho.out (midM_at postK hx k)
      rw [midM_len, HN.out] at eg
      simp at eg
      obtain ⟨rfl, rfl⟩ := eg
      obtain ⟨ax25, px25, Fx25, rfl, cx25, sx25⟩ := cap_post hce
      have Dx25 := Lib.hid cx25
      have Sx25 := Lib.hid sx25
      clear cx25 sx25
      have hoff : og + j * postK.n = og + j * 8 := rfl
      rw [hoff] at hseg cont
      have Cont := Lib.hid cont
      have HgF := Lib.hid hgF
      have HE := Lib.hid hE
      have Hch0 := Lib.hid (Chg.refl g (og + j * 8) (og + j * 8 + postK.n) E wr)
      have Hsg0 := Lib.hid hseg
      clear cont hgF hE hce hx hcs hct Hst
      have hEg : ¬ E g := fun h => (HE.out g h).2.1 rfl
      have g0 := hseg.cell 0 _ rfl (n := og + j * 8) rfl
      have g1 := hseg.cell 1 _ rfl (n := og + j * 8 + 1) rfl
      have g2 := hseg.cell 2 _ rfl (n := og + j * 8 + 2) rfl
      have g3 := hseg.cell 3 _ rfl (n := og + j * 8 + 3) rfl
      have g4 := hseg.cell 4 _ rfl (n := og + j * 8 + 4) rfl
      have g5 := hseg.cell 5 _ rfl (n := og + j * 8 + 5) rfl
      have g6 := hseg.cell 6 _ rfl (n := og + j * 8 + 6) rfl
      have g7 := hseg.cell 7 _ rfl (n := og + j * 8 + 7) rfl
      have z0 := hseg.warm (og + j * 8)
      have z1 := hseg.warm (og + j * 8 + 1)
      have z2 := hseg.warm (og + j * 8 + 2)
      have z3 := hseg.warm (og + j * 8 + 3)
      have z4 := hseg.warm (og + j * 8 + 4)
      have z5 := hseg.warm (og + j * 8 + 5)
      have z6 := hseg.warm (og + j * 8 + 6)
      have z7 := hseg.warm (og + j * 8 + 7)
      clear hseg
      have Hch1 := Lib.hid (((((((Hch0.out.set (n := og + j * 8) (by omega) (by show _ < og + j * 8 + 8; omega) (.int .i64 (z))).set (n := og + j * 8 + 1) (by omega) (by show _ < og + j * 8 + 8; omega) (.int .i64 (z + 1))).set (n := og + j * 8 + 2) (by omega) (by show _ < og + j * 8 + 8; omega) (.bool ((z + 1 + 1) % 3 == 0))).set (n := og + j * 8 + 3) (by omega) (by show _ < og + j * 8 + 8; omega) (.int .i64 (z + 1 + 1 + 1))).set (n := og + j * 8 + 4) (by omega) (by show _ < og + j * 8 + 8; omega) (.int .i64 (z + 1 + 1 + 1 + 1))).set (n := og + j * 8 + 5) (by omega) (by show _ < og + j * 8 + 8; omega) (.int .i64 (z + 1 + 1 + 1 + 1 + 1))).set (n := og + j * 8 + 6) (by omega) (by show _ < og + j * 8 + 8; omega) (.bool ((z + 1 + 1 + 1 + 1 + 1 + 1) % 3 == 0)))
      have Hsg1 := Lib.hid (show Seg g (og + j * 8) [.int .i64 (z), .int .i64 (z + 1), .bool ((z + 1 + 1) % 3 == 0), .int .i64 (z + 1 + 1 + 1), .int .i64 (z + 1 + 1 + 1 + 1), .int .i64 (z + 1 + 1 + 1 + 1 + 1), .bool ((z + 1 + 1 + 1 + 1 + 1 + 1) % 3 == 0), .slice ax25 x25.length px25] _ from (((((((Hsg0.out.set 0 (.int .i64 (z)) (n := og + j * 8) rfl).set 1 (.int .i64 (z + 1)) (n := og + j * 8 + 1) rfl).set 2 (.bool ((z + 1 + 1) % 3 == 0)) (n := og + j * 8 + 2) rfl).set 3 (.int .i64 (z + 1 + 1 + 1)) (n := og + j * 8 + 3) rfl).set 4 (.int .i64 (z + 1 + 1 + 1 + 1)) (n := og + j * 8 + 4) rfl).set 5 (.int .i64 (z + 1 + 1 + 1 + 1 + 1)) (n := og + j * 8 + 5) rfl).set 6 (.bool ((z + 1 + 1 + 1 + 1 + 1 + 1) % 3 == 0)) (n := og + j * 8 + 6) rfl))
      have hts : Turn (fun i => i = g) wr _ := (((((((Turn.refl (fun i => i = g) wr).set (p := ⟨g, og + j * 8, none⟩) rfl (.int .i64 (z))).set (p := ⟨g, og + j * 8 + 1, none⟩) rfl (.int .i64 (z + 1))).set (p := ⟨g, og + j * 8 + 2, none⟩) rfl (.bool ((z + 1 + 1) % 3 == 0))).set (p := ⟨g, og + j * 8 + 3, none⟩) rfl (.int .i64 (z + 1 + 1 + 1))).set (p := ⟨g, og + j * 8 + 4, none⟩) rfl (.int .i64 (z + 1 + 1 + 1 + 1))).set (p := ⟨g, og + j * 8 + 5, none⟩) rfl (.int .i64 (z + 1 + 1 + 1 + 1 + 1))).set (p := ⟨g, og + j * 8 + 6, none⟩) rfl (.bool ((z + 1 + 1 + 1 + 1 + 1 + 1) % 3 == 0))
      have Dx25_1 := Lib.hid (ints.cap_turn Dx25.out hts (fun i _ hi he => (HE.out i (Sx25.out i hi)).2.1 he))
      clear hts
      go_wp2_with fail
      refine (markIntS Fx25 [.slice ax25 x25.length px25] x25 (z + 1 + 1 + 1 + 1 + 1 + 1 + 1) _ (by omega) (by omega) (by omega) Dx25_1.out).mono ?_
      rintro e y1 ⟨rfl, hcm, htm⟩
      clear g0 z0 g1 z1 g2 z2 g3 z3 g4 z4 g5 z5 g6 z6 g7 z7
      obtain ⟨z_1, hz_1⟩ : ∃ m, z + 1 + 1 + 1 + 1 + 1 + 1 + 1 + (ints.cT x25 : Int) = m := ⟨_, rfl⟩
      rw [hz_1]
      have HZ_1 := Lib.hid hz_1
      have hFg : ¬ Fx25 g := fun h => hEg (Sx25.out g h)
      have Hch2 := Lib.hid (Hch1.out.then (htm.wide (fun i hi => Sx25.out i hi)) hEg)
      have Hsg2 := Lib.hid (Hsg1.out.turn htm hFg)
      have Dx25_2 := Lib.hid hcm
      clear hcm htm hFg
      have hsg := Hsg2.out
      have g0 := hsg.cell 0 _ rfl (n := og + j * 8) rfl
      have g1 := hsg.cell 1 _ rfl (n := og + j * 8 + 1) rfl
      have g2 := hsg.cell 2 _ rfl (n := og + j * 8 + 2) rfl
      have g3 := hsg.cell 3 _ rfl (n := og + j * 8 + 3) rfl
      have g4 := hsg.cell 4 _ rfl (n := og + j * 8 + 4) rfl
      have g5 := hsg.cell 5 _ rfl (n := og + j * 8 + 5) rfl
      have g6 := hsg.cell 6 _ rfl (n := og + j * 8 + 6) rfl
      have g7 := hsg.cell 7 _ rfl (n := og + j * 8 + 7) rfl
      have z0 := hsg.warm (og + j * 8)
      have z1 := hsg.warm (og + j * 8 + 1)
      have z2 := hsg.warm (og + j * 8 + 2)
      have z3 := hsg.warm (og + j * 8 + 3)
      have z4 := hsg.warm (og + j * 8 + 4)
      have z5 := hsg.warm (og + j * 8 + 5)
      have z6 := hsg.warm (og + j * 8 + 6)
      have z7 := hsg.warm (og + j * 8 + 7)
      clear hsg
      go_wp2_with fail
      go_roundw
      case rel =>
        refine ⟨j + 1, z_1, by omega, by go_num, rfl, Lib.hid ?_, ?_, ?_⟩
        · have h1 := HZ.out; have h2 := HCS.out; have i1 := HZ_1.out; show _ = _; omega
        · have hnew : (midM postK l k j).set j (z, z + 1, (((z + 1 + 1) % 3 == 0), z + 1 + 1 + 1, z + 1 + 1 + 1 + 1, z + 1 + 1 + 1 + 1 + 1, ((z + 1 + 1 + 1 + 1 + 1 + 1) % 3 == 0), ints.mT x25 (z + 1 + 1 + 1 + 1 + 1 + 1 + 1))) = midM postK l k (j + 1) := by
            rw [← HST.out]
            skip
          rw [← hnew]
          exact postS.cap_wide (Cont.out _ _ (z, z + 1, (((z + 1 + 1) % 3 == 0), z + 1 + 1 + 1, z + 1 + 1 + 1 + 1, z + 1 + 1 + 1 + 1 + 1, ((z + 1 + 1 + 1 + 1 + 1 + 1) % 3 == 0), ints.mT x25 (z + 1 + 1 + 1 + 1 + 1 + 1 + 1))) E Hch2.out Hsg2.out rfl (post_cap Dx25_2.out Sx25.out ) (fun i hi => .inl hi)) (fun i _ hi => hi.elim id (fun h => (HE.out i h).1))
        · exact Ht0.out.trans (Hch2.out.turn.wide (fun i hi => hi.elim (fun h => h ▸ HgF.out) (fun h => (HE.out i h).1)))
      case measure => simp [intOf]; omega
    · obtain rfl : j = n := by omega
      go_wp2
      go_ret
      have h1 := Ho.out
      have h2 := HZ.out
      rw [← HN.out, midM_all] at h1
      rw [← HN.out, List.take_length, HT.out] at h2
      subst h2
      rw [HN.out] at h1
      exact ⟨rfl, h1, Ht0.out⟩
set_option maxHeartbeats 4000000 in
set_option maxRecDepth 100000 in
theorem heldPostS : HeldC postS one 19 := by
  intro cs l k w hs h0 h1 hr
  have e1 : postS.cT l = cL postK l := rfl
  have e2 : postS.mT l k = mL postK l k := rfl
  rw [e1] at h1 ⊢
  rw [e2] at hr
  obtain ⟨ad, cp, rfl, hl1, hl2⟩ := row_form hr
  have HR := Lib.hid hr
  have hln : l.length ≤ 2000000 := Nat.le_trans (szL_len postK l) hs
  have HSZ := Lib.hid (show szL postK l ≤ 2000000 from hs)
  obtain ⟨T, hT⟩ : ∃ T, cL postK l = T := ⟨_, rfl⟩
  have HT := Lib.hid hT
  rw [hT] at h1 ⊢
  obtain ⟨n, hn⟩ : ∃ n, l.length = n := ⟨_, rfl⟩
  have HN := Lib.hid hn
  have hml : (mL postK l k).length = n := by rw [mL_len, hn]
  have HML := Lib.hid hml
  rw [hml]
  rw [hn] at hln
  clear e1 e2 hT hn hr hl1 hl2 hs hml
  show Calls _ _ #[.slice ad n cp, .int .i64 k] w _
  go_enter Tryz.func19, Tryz.ntmps19
  go_wp2
  go_loopw [1, 5] (fun q i wr => ∃ (j : Nat) (z : Int), j ≤ n ∧ i = .int .i64 j ∧ q = .int .i64 z ∧ Hid (z = k + (cL postK (l.take j) : Int)) ∧ Below w.heap.size w wr) (fun _ i _ => n - (intOf i).toNat)
  case atStart => exact ⟨0, k, by omega, rfl, rfl, Lib.hid (by simp [cL]), Below.refl _ _⟩
  case round =>
    obtain ⟨j, z, hj, rfl, rfl, HZ, hb⟩ := hrel
    have Hb0 := Lib.hid hb
    by_cases hlt : j < n
    · obtain ⟨x, hx⟩ := get_of (l := l) (i := j) (by rw [HN.out]; exact hlt)
      have hsx : postK.sz x ≤ 2000000 := Nat.le_trans (szL_mem postK (List.mem_of_getElem? hx)) HSZ.out
      have hcs := cL_step postK hx
      have hct := cL_take postK l (j + 1)
      rw [HT.out] at hct
      have hmx := mL_at postK hx k
      rw [← HZ.out] at hmx
      obtain ⟨x0, x1, ⟨x20, x21, x22, x23, x24, x25⟩⟩ := x
      rw [post_cI] at hcs
      rw [post_mI] at hmx
      rw [post_sz, req_sz] at hsx
      have HCS := Lib.hid hcs
      have hz0 : 0 ≤ z := by have := HZ.out; omega
      have hz1 : z + ((7 + ints.cT x25 : Nat) : Int) ≤ 4611686018427387904 := by have := HZ.out; omega
      obtain ⟨b, og, _, es, e, _, _, lt, c, rx⟩ := row_rd HR.out hmx
      cases e
      obtain ⟨ax25, px25, rfl, rx25⟩ := post_form rx
      have g0 : w.cell? ⟨b, og + j * 8, none⟩ = some (.int .i64 (z)) := c 0 _ rfl
      have g1 : w.cell? ⟨b, og + j * 8 + 1, none⟩ = some (.int .i64 (z + 1)) := c 1 _ rfl
      have g2 : w.cell? ⟨b, og + j * 8 + 2, none⟩ = some (.bool ((z + 1 + 1) % 3 == 0)) := c 2 _ rfl
      have g3 : w.cell? ⟨b, og + j * 8 + 3, none⟩ = some (.int .i64 (z + 1 + 1 + 1)) := c 3 _ rfl
      have g4 : w.cell? ⟨b, og + j * 8 + 4, none⟩ = some (.int .i64 (z + 1 + 1 + 1 + 1)) := c 4 _ rfl
      have g5 : w.cell? ⟨b, og + j * 8 + 5, none⟩ = some (.int .i64 (z + 1 + 1 + 1 + 1 + 1)) := c 5 _ rfl
      have g6 : w.cell? ⟨b, og + j * 8 + 6, none⟩ = some (.bool ((z + 1 + 1 + 1 + 1 + 1 + 1) % 3 == 0)) := c 6 _ rfl
      have g7 : w.cell? ⟨b, og + j * 8 + 7, none⟩ = some (.slice ax25 (ints.mT x25 (z + 1 + 1 + 1 + 1 + 1 + 1 + 1)).length px25) := c 7 _ rfl
      obtain ⟨mx25, hmx25⟩ : ∃ m, (ints.mT x25 (z + 1 + 1 + 1 + 1 + 1 + 1 + 1)).length = m := ⟨_, rfl⟩
      rw [hmx25] at g7 rx25
      have Rx25 := Lib.hid (ints.rd_later rx25 hb)
      clear rx25 hmx25
      rw [← bel_cells hb lt] at g0 g1 g2 g3 g4 g5 g6 g7
      clear hx hmx hcs hct c rx
      have e0 : (z != z) = false := by simp
      have e1 : (z + 1 != z + 1) = false := by simp
      have e2 : (z + 1 + 1 + 1 != z + 1 + 1 + 1) = false := by simp
      have e3 : (z + 1 + 1 + 1 + 1 != z + 1 + 1 + 1 + 1) = false := by simp
      have e4 : (z + 1 + 1 + 1 + 1 + 1 != z + 1 + 1 + 1 + 1 + 1) = false := by simp
      go_wp2_with fail
      refine (heldIntS [.slice ax25 mx25 px25] x25 (z + 1 + 1 + 1 + 1 + 1 + 1 + 1) _ (by omega) (by omega) (by omega) Rx25.out).mono ?_
      rintro e y1 ⟨rfl, hb1⟩
      obtain ⟨z_1, hz_1⟩ : ∃ m, z + 1 + 1 + 1 + 1 + 1 + 1 + 1 + (ints.cT x25 : Int) = m := ⟨_, rfl⟩
      rw [hz_1]
      have HZ_1 := Lib.hid hz_1
      have hp1 : ¬ z_1 < 0 := by omega
      have hq1 : 0 ≤ z_1 := by omega
      have B1 := Lib.hid hb1
      have hbw := Hb0.out.trans (B1.out.mono Hb0.out.size)
      clear g0 g1 g2 g3 g4 g5 g6 g7
      clear hb1
      clear hbw
      go_wp2_with fail
      go_roundw
      case rel => exact ⟨j + 1, z_1, by omega, by go_num, rfl, Lib.hid (by have h1 := HZ.out; have h2 := HCS.out; have i1 := HZ_1.out; omega), Hb0.out.trans (B1.out.mono Hb0.out.size)⟩
      case measure => simp [intOf]; omega
    · obtain rfl : j = n := by omega
      have h2 := HZ.out
      rw [← HN.out, List.take_length, HT.out] at h2
      subst h2
      go_wp2
      go_ret
      exact ⟨rfl, hb⟩
end Go.Proofs.YtfpnflhkfpolcaaGreatDoor.KD
