
/-
  Rows of Bucket as data; what the laws' own functions do with them. (Made by wip/gk.py.)
-/
import Derived.Test.YtdhaelaoackfkaaKBucket
import Derived.Test.YtdhaelaoackfkaaKRow
import Derived.Lib.QuietBelow
namespace Go.Proofs.Ytdhaelaoackfkaa.KD
open Go.RowKit Rows3 GR
set_option linter.unusedVariables false

def bucketS : Kn (List (Int × Int)) := row bucketK (by decide)
set_option maxHeartbeats 4000000 in
set_option maxRecDepth 100000 in
theorem szBucketS : SzC bucketS one 49 := by
  intro cs l L w hr h0 h1
  obtain ⟨ad, cp, rfl, hl1, hl2⟩ := row_form hr
  have HR := Lib.hid hr
  rw [show bucketS.sz l = szL bucketK l from rfl]
  have hall : szL bucketK l = l.length := by
    clear hr hl1 HR h0 h1
    induction l with
    | nil => rfl
    | cons x l ih => simp only [szL, List.length_cons, ih]; show 1 + 0 + l.length = _; omega
  obtain ⟨n, hn⟩ : ∃ n, l.length = n := ⟨_, rfl⟩
  have HN := Lib.hid hn
  rw [hn] at hl1
  have hle : n ≤ 9223372036854775807 := by omega
  rw [hall, hn]
  clear hr hn hall HR HN hl1 hl2
  show Calls _ _ #[.slice ad n cp, .int .i64 L] w _
  by_cases h : (n : Int) ≤ L
  · have He := Lib.hid (szW_yes h)
    have h2 : ¬ L - (n : Int) < 0 := by omega
    go_enter Try.func49, Try.ntmps49
    go_wp2
    go_ret
    exact ⟨by rw [He.out]; rfl, Below.refl _ _⟩
  · have He := Lib.hid (szW_no (by omega : L < (n : Int)))
    have h2 : L - (n : Int) < 0 := by omega
    go_enter Try.func49, Try.ntmps49
    go_wp2
    go_ret
    exact ⟨by rw [He.out]; rfl, Below.refl _ _⟩
theorem info_iBucket : (Try.prog.info? 72).map (fun i => (i.zero, i.size, decide (i.bytes ≤ 1000))) = some (some (.agg #[.int .i64 0, .int .i64 0]), 2, true) := by kernel_rfl
set_option maxHeartbeats 4000000 in
set_option maxRecDepth 100000 in
theorem toBucketS : ToC bucketS one 60 := by
  intro cs l w hs hr
  obtain ⟨ad, cp, rfl, hl1, hl2⟩ := row_form hr
  have HR := Lib.hid hr
  have hln : l.length ≤ 2000000 := Nat.le_trans (szL_len bucketK l) hs
  have HSZ := Lib.hid (show szL bucketK l ≤ 2000000 from hs)
  obtain ⟨n, hn⟩ : ∃ n, l.length = n := ⟨_, rfl⟩
  have HN := Lib.hid hn
  rw [hn] at hln ⊢
  obtain ⟨i0, hi, hz0, hz1, hz2⟩ := info_parts' info_iBucket
  have hmk := fun W => make_runK (P := Try.prog) 32 72 i0 _ Try.underlying32 hi hz0 2 hz1 hz2 n hln W
  have Ho0 : Hid (bucketS.cap (fun k => w.heap.size ≤ k) [.slice (some ⟨w.heap.size, 0, none⟩) n n] (midT l (0, 0) 0) (w.alloc (.cells (madeCells #[.int .i64 0, .int .i64 0] (n * 2)) 72))) := Lib.hid (by rw [midT_zero, hn]; exact row_made w n #[.int .i64 0, .int .i64 0] (0, 0) 72 rfl (fun w => bucket_capz _ 0 0 w) hln)
  clear hr hn hl1 hl2 hi hz0 hz1 hz2 hs
  show Calls _ _ #[.slice ad n cp] w _
  go_enter Try.func60, Try.ntmps60
  go_wp2
  clear hmk
  go_loopw [4] (fun i wr => ∃ j : Nat, j ≤ n ∧ i = .int .i64 j ∧ bucketS.cap (fun k => w.heap.size ≤ k) [.slice (some ⟨w.heap.size, 0, none⟩) n n] (midT l (0, 0) j) wr ∧ Below w.heap.size w wr) (fun i _ => n - (intOf i).toNat)
  case atStart => exact ⟨0, by omega, rfl, Ho0.out, (Below.refl _ _).alloc (Nat.le_refl _) _⟩
  case round =>
    obtain ⟨j, hj, rfl, hown, hb⟩ := hrel
    have Ho := Lib.hid hown
    clear hown
    by_cases hlt : j < n
    · obtain ⟨x, hx⟩ := get_of (l := l) (i := j) (by rw [HN.out]; exact hlt)
      have hsx : bucketK.sz x ≤ 2000000 := Nat.le_trans (szL_mem bucketK (List.mem_of_getElem? hx)) HSZ.out
      have Hst := Lib.hid (midT_step (0, 0) hx)
      have Hb0 := Lib.hid hb
      obtain ⟨x0, x1⟩ := x
      obtain ⟨b, o, _, es, e, _, _, lt, c, x⟩ := row_rd HR.out hx
      cases e
      have hrx := x
      obtain rfl := bucket_form x
      have g0 : w.cell? ⟨b, o + j * 2, none⟩ = some (.int .i64 x0) := c 0 _ rfl
      have g1 : w.cell? ⟨b, o + j * 2 + 1, none⟩ = some (.int .i64 x1) := c 1 _ rfl
      rw [← bel_cells hb lt] at g0 g1
      have Hx := Lib.hid (bucketK.rd_later hrx hb)
      clear hx hrx c x hb
      obtain ⟨g, og, cg, es, E, eg, _, _, hgF, hgl, hes, hseg, _, hE, cont⟩ := row_at Ho.out (midT_at (0, 0) (by rw [HN.out]; exact hlt))
      rw [midT_len _ (by rw [HN.out]; omega), HN.out] at eg
      simp at eg
      obtain ⟨⟨rfl, rfl⟩, rfl⟩ := eg
      have hoff : 0 + j * bucketK.n = j * 2 := by rw [Nat.zero_add]; rfl
      rw [hoff] at hseg cont
      obtain ⟨v0, v1, rfl⟩ : ∃ v0 v1, es = [v0, v1] := by
        match es, (show es.length = 2 from hes) with
        | [v0, v1], _ => exact ⟨_, _, rfl⟩
      have Hseg := Lib.hid hseg
      have Cont := Lib.hid cont
      clear hseg cont hE hes
      go_wp2_with fail
      refine (toBucket [.int .i64 x0, .int .i64 x1] (x0, x1) _ hsx Hx.out).mono ?_
      rintro e w2 ⟨us, he, hc, hb2⟩
      obtain rfl := bucket_form (bucketK.cap_rd hc)
      obtain rfl : e = .returned (.agg #[.int .i64 x0, .int .i64 x1]) := he
      have hs2 := Hseg.out.later hb2
      have f0 := hs2.cell 0 _ rfl (n := j * 2) rfl
      have f1 := hs2.cell 1 _ rfl (n := j * 2 + 1) rfl
      have z0 := hs2.warm (j * 2)
      have z1 := hs2.warm (j * 2 + 1)
      have Hch := Lib.hid ((((Chg.refl w.heap.size (j * 2) (j * 2 + bucketK.n) E wr).later hb2).set (n := j * 2) (by omega) (by show _ < j * 2 + 2; omega) (.int .i64 x0)).set (n := j * 2 + 1) (by omega) (by show _ < j * 2 + 2; omega) (.int .i64 x1))
      have Hsg := Lib.hid (((hs2.set 0 (.int .i64 x0) (n := j * 2) rfl).set 1 (.int .i64 x1) (n := j * 2 + 1) rfl))
      have Hc := Lib.hid hc
      have Hb2 := Lib.hid hb2
      clear hc hb2 hs2 g0 g1
      go_wp2_with fail
      go_roundw
      case rel =>
        refine ⟨j + 1, by omega, by go_num, ?_, ?_⟩
        · have ht : Turn (fun k => k = w.heap.size) w2 _ := ((Turn.refl (fun k => k = w.heap.size) w2).set (p := ⟨w.heap.size, j * 2, none⟩) rfl (.int .i64 x0)).set (p := ⟨w.heap.size, j * 2 + 1, none⟩) rfl (.int .i64 x1)
          rw [← Hst.out]
          exact bucketS.cap_wide (Cont.out _ [.int .i64 x0, .int .i64 x1] (x0, x1) (fun k => wr.heap.size ≤ k) Hch.out Hsg.out rfl (bucketK.cap_turn Hc.out ht (fun k _ hk he => by omega)) (fun k hk => .inr hk)) (fun k _ hk => by rcases hk with h | h <;> omega)
        · iterate 2 refine Below.setCell ?_ (by exact Nat.le_refl _) _
          exact Hb0.out.trans (Hb2.out.mono Hb0.out.size)
      case measure => simp [intOf]; omega
    · obtain rfl : j = n := by omega
      go_wp2
      go_ret
      refine ⟨[_], rfl, ?_, hb⟩
      have h := Ho.out
      rw [← HN.out, midT_all] at h
      rw [← HN.out]
      exact h
set_option maxHeartbeats 4000000 in
set_option maxRecDepth 100000 in
theorem eqBucketS : EqC bucketS one 30 := by
  intro cs ds l w hs hr hr2
  obtain ⟨ad, cp, rfl, hl1, hl2⟩ := row_form hr
  obtain ⟨bd, dp, rfl, _, _⟩ := row_form hr2
  have HR := Lib.hid hr
  have HR2 := Lib.hid hr2
  have hln : l.length ≤ 2000000 := Nat.le_trans (szL_len bucketK l) hs
  have HSZ := Lib.hid (show szL bucketK l ≤ 2000000 from hs)
  obtain ⟨n, hn⟩ : ∃ n, l.length = n := ⟨_, rfl⟩
  have HN := Lib.hid hn
  rw [hn] at hln ⊢
  clear hr hr2 hn hl1 hl2 hs
  have hne : (((n : Nat) : Int) != ((n : Nat) : Int)) = false := by simp
  show Calls _ _ #[.slice ad n cp, .slice bd n dp] w _
  go_enter Try.func30, Try.ntmps30
  go_wp2
  go_loopw [5] (fun i wr => ∃ j : Nat, j ≤ n ∧ i = .int .i64 j ∧ Below w.heap.size w wr) (fun i _ => n - (intOf i).toNat)
  case atStart => exact ⟨0, by omega, rfl, Below.refl _ _⟩
  case round =>
    obtain ⟨j, hj, rfl, hb⟩ := hrel
    by_cases hlt : j < n
    · obtain ⟨x, hx⟩ := get_of (l := l) (i := j) (by rw [HN.out]; exact hlt)
      have hsx : bucketK.sz x ≤ 2000000 := Nat.le_trans (szL_mem bucketK (List.mem_of_getElem? hx)) HSZ.out
      have Hb0 := Lib.hid hb
      obtain ⟨x0, x1⟩ := x
      obtain ⟨lb, lo, _, les, el, _, _, llt, lc, lx⟩ := row_rd HR.out hx
      cases el
      have lr := lx
      obtain rfl := bucket_form lx
      have g0 : w.cell? ⟨lb, lo + j * 2, none⟩ = some (.int .i64 x0) := lc 0 _ rfl
      have g1 : w.cell? ⟨lb, lo + j * 2 + 1, none⟩ = some (.int .i64 x1) := lc 1 _ rfl
      rw [← bel_cells hb llt] at g0 g1
      obtain ⟨mb, mo, _, mes, em, _, _, mlt, mc, mx⟩ := row_rd HR2.out hx
      cases em
      have mr := mx
      obtain rfl := bucket_form mx
      have k0 : w.cell? ⟨mb, mo + j * 2, none⟩ = some (.int .i64 x0) := mc 0 _ rfl
      have k1 : w.cell? ⟨mb, mo + j * 2 + 1, none⟩ = some (.int .i64 x1) := mc 1 _ rfl
      rw [← bel_cells hb mlt] at k0 k1
      have Hx := Lib.hid (bucketK.rd_later lr hb)
      have Hy := Lib.hid (bucketK.rd_later mr hb)
      clear hx lr mr lc mc lx mx hb
      replace g0 := fun d os => cell_regrown g0 d os
      replace k0 := fun d os => cell_regrown k0 d os
      replace g1 := fun d os => cell_regrown g1 d os
      replace k1 := fun d os => cell_regrown k1 d os
      go_wp2_with fail
      refine wp_region_quiet_below (by kernel_rfl) (by kernel_rfl) ?_
      repeat (go_big_quiet_step ((go_at_call 84; exact Calls.regrown_of (eqBucket [.int .i64 x0, .int .i64 x1] [.int .i64 x0, .int .i64 x1] (x0, x1) _ hsx (bucketK.rd_later Hx.out (below_regrown wr _ _)) (bucketK.rd_later Hy.out (below_regrown wr _ _))))))
      refine wpQuiet_nil ?_
      rintro _ ⟨⟨dq, osq⟩, rfl⟩
      have hbw := below_regrown wr dq osq
      generalize Sort.grow (redrawn wr dq) osq = w2 at hbw
      clear g0 k0 g1 k1
      go_wp2_with fail
      go_roundw
      case rel => exact ⟨j + 1, by omega, by go_num, Hb0.out.trans (hbw.mono Hb0.out.size)⟩
      case measure => simp [intOf]; omega
    · go_wp2
      go_ret
      exact ⟨rfl, hb⟩
set_option maxHeartbeats 4000000 in
set_option maxRecDepth 100000 in
theorem markBucketS : MarkC bucketS one 38 := by
  intro F cs l k w hs h0 h1 hc
  obtain ⟨ad, cp, rfl, hl1, hl2⟩ := row_form (bucketS.cap_rd hc)
  have hln : l.length ≤ 2000000 := Nat.le_trans (szL_len bucketK l) hs
  have HSZ := Lib.hid (show szL bucketK l ≤ 2000000 from hs)
  have e1 : bucketS.cT l = cL bucketK l := rfl
  have e2 : bucketS.mT l k = mL bucketK l k := rfl
  rw [e1] at h1 ⊢
  rw [e2]
  obtain ⟨T, hT⟩ : ∃ T, cL bucketK l = T := ⟨_, rfl⟩
  have HT := Lib.hid hT
  rw [hT] at h1 ⊢
  obtain ⟨n, hn⟩ : ∃ n, l.length = n := ⟨_, rfl⟩
  have HN := Lib.hid hn
  have Hc0 := Lib.hid hc
  rw [hn] at Hc0 hln ⊢
  clear e1 e2 hT hn hc hl1 hl2 hs
  show Calls _ _ #[.slice ad n cp, .int .i64 k] w _
  go_enter Try.func38, Try.ntmps38
  go_wp2
  go_loopw [1, 5] (fun q i wr => ∃ (j : Nat) (z : Int), j ≤ n ∧ i = .int .i64 j ∧ q = .int .i64 z ∧ Hid (z = k + (cL bucketK (l.take j) : Int)) ∧ bucketS.cap F [.slice ad n cp] (midM bucketK l k j) wr ∧ Turn F w wr) (fun _ i _ => n - (intOf i).toNat)
  case atStart => exact ⟨0, k, by omega, rfl, rfl, Lib.hid (by simp [cL]), by rw [midM_zero]; exact Hc0.out, Turn.refl _ _⟩
  case round =>
    obtain ⟨j, z, hj, rfl, rfl, HZ, hown, ht0⟩ := hrel
    have Ho := Lib.hid hown
    have Ht0 := Lib.hid ht0
    clear hown ht0
    by_cases hlt : j < n
    · obtain ⟨x, hx⟩ := get_of (l := l) (i := j) (by rw [HN.out]; exact hlt)
      have hsx : bucketK.sz x ≤ 2000000 := Nat.le_trans (szL_mem bucketK (List.mem_of_getElem? hx)) HSZ.out
      have hcs := cL_step bucketK hx
      have hct := cL_take bucketK l (j + 1)
      rw [HT.out] at hct
      have Hst := midM_step bucketK hx k
      rw [← HZ.out] at Hst
      obtain ⟨x0, x1⟩ := x
      rw [bucket_cI] at hcs
      rw [bucket_mI] at Hst
      have HCS := Lib.hid hcs
      have HST := Lib.hid Hst
      have hz0 : 0 ≤ z := by have := HZ.out; omega
      have hz1 : z + ((2 : Nat) : Int) ≤ 4611686018427387904 := by have := HZ.out; omega
      obtain ⟨g, og, cg, es, E, eg, _, _, hgF, hgl, hes, hseg, hce, hE, cont⟩ := row_at Ho.out (midM_at bucketK hx k)
      rw [midM_len, HN.out] at eg
      simp at eg
      obtain ⟨rfl, rfl⟩ := eg
      obtain rfl := bucket_form (bucketK.cap_rd hce)
      have hoff : og + j * bucketK.n = og + j * 2 := rfl
      rw [hoff] at hseg cont
      have Cont := Lib.hid cont
      have HgF := Lib.hid hgF
      have HE := Lib.hid hE
      have Hch0 := Lib.hid (Chg.refl g (og + j * 2) (og + j * 2 + bucketK.n) E wr)
      have Hsg0 := Lib.hid hseg
      clear cont hgF hE hce hx hcs hct Hst
      have hEg : ¬ E g := fun h => (HE.out g h).2.1 rfl
      have g0 := hseg.cell 0 _ rfl (n := og + j * 2) rfl
      have g1 := hseg.cell 1 _ rfl (n := og + j * 2 + 1) rfl
      have z0 := hseg.warm (og + j * 2)
      have z1 := hseg.warm (og + j * 2 + 1)
      clear hseg
      have Hch1 := Lib.hid ((Hch0.out.set (n := og + j * 2) (by omega) (by show _ < og + j * 2 + 2; omega) (.int .i64 (z))).set (n := og + j * 2 + 1) (by omega) (by show _ < og + j * 2 + 2; omega) (.int .i64 (z + 1)))
      have Hsg1 := Lib.hid (show Seg g (og + j * 2) [.int .i64 (z), .int .i64 (z + 1)] _ from ((Hsg0.out.set 0 (.int .i64 (z)) (n := og + j * 2) rfl).set 1 (.int .i64 (z + 1)) (n := og + j * 2 + 1) rfl))
      have hts : Turn (fun i => i = g) wr _ := ((Turn.refl (fun i => i = g) wr).set (p := ⟨g, og + j * 2, none⟩) rfl (.int .i64 (z))).set (p := ⟨g, og + j * 2 + 1, none⟩) rfl (.int .i64 (z + 1))
      clear hts
      go_wp2_with fail
      go_roundw
      case rel =>
        refine ⟨j + 1, z + 1 + 1, by omega, by go_num, rfl, Lib.hid ?_, ?_, ?_⟩
        · have h1 := HZ.out; have h2 := HCS.out; show _ = _; omega
        · have hnew : (midM bucketK l k j).set j (z, z + 1) = midM bucketK l k (j + 1) := by
            rw [← HST.out]
          rw [← hnew]
          exact bucketS.cap_wide (Cont.out _ _ (z, z + 1) E Hch1.out Hsg1.out rfl (bucket_capz E (z) (z + 1) _) (fun i hi => .inl hi)) (fun i _ hi => hi.elim id (fun h => (HE.out i h).1))
        · exact Ht0.out.trans (Hch1.out.turn.wide (fun i hi => hi.elim (fun h => h ▸ HgF.out) (fun h => (HE.out i h).1)))
      case measure => simp [intOf]; omega
    · obtain rfl : j = n := by omega
      go_wp2
      go_ret
      have h1 := Ho.out
      have h2 := HZ.out
      rw [← HN.out, midM_all] at h1
      rw [← HN.out, List.take_length, HT.out] at h2
      subst h2
      rw [HN.out] at h1
      exact ⟨rfl, h1, Ht0.out⟩
set_option maxHeartbeats 4000000 in
set_option maxRecDepth 100000 in
theorem heldBucketS : HeldC bucketS one 44 := by
  intro cs l k w hs h0 h1 hr
  have e1 : bucketS.cT l = cL bucketK l := rfl
  have e2 : bucketS.mT l k = mL bucketK l k := rfl
  rw [e1] at h1 ⊢
  rw [e2] at hr
  obtain ⟨ad, cp, rfl, hl1, hl2⟩ := row_form hr
  have HR := Lib.hid hr
  have hln : l.length ≤ 2000000 := Nat.le_trans (szL_len bucketK l) hs
  have HSZ := Lib.hid (show szL bucketK l ≤ 2000000 from hs)
  obtain ⟨T, hT⟩ : ∃ T, cL bucketK l = T := ⟨_, rfl⟩
  have HT := Lib.hid hT
  rw [hT] at h1 ⊢
  obtain ⟨n, hn⟩ : ∃ n, l.length = n := ⟨_, rfl⟩
  have HN := Lib.hid hn
  have hml : (mL bucketK l k).length = n := by rw [mL_len, hn]
  have HML := Lib.hid hml
  rw [hml]
  rw [hn] at hln
  clear e1 e2 hT hn hr hl1 hl2 hs hml
  show Calls _ _ #[.slice ad n cp, .int .i64 k] w _
  go_enter Try.func44, Try.ntmps44
  go_wp2
  go_loopw [1, 5] (fun q i wr => ∃ (j : Nat) (z : Int), j ≤ n ∧ i = .int .i64 j ∧ q = .int .i64 z ∧ Hid (z = k + (cL bucketK (l.take j) : Int)) ∧ Below w.heap.size w wr) (fun _ i _ => n - (intOf i).toNat)
  case atStart => exact ⟨0, k, by omega, rfl, rfl, Lib.hid (by simp [cL]), Below.refl _ _⟩
  case round =>
    obtain ⟨j, z, hj, rfl, rfl, HZ, hb⟩ := hrel
    have Hb0 := Lib.hid hb
    by_cases hlt : j < n
    · obtain ⟨x, hx⟩ := get_of (l := l) (i := j) (by rw [HN.out]; exact hlt)
      have hsx : bucketK.sz x ≤ 2000000 := Nat.le_trans (szL_mem bucketK (List.mem_of_getElem? hx)) HSZ.out
      have hcs := cL_step bucketK hx
      have hct := cL_take bucketK l (j + 1)
      rw [HT.out] at hct
      have hmx := mL_at bucketK hx k
      rw [← HZ.out] at hmx
      obtain ⟨x0, x1⟩ := x
      rw [bucket_cI] at hcs
      rw [bucket_mI] at hmx
      have HCS := Lib.hid hcs
      have hz0 : 0 ≤ z := by have := HZ.out; omega
      have hz1 : z + ((2 : Nat) : Int) ≤ 4611686018427387904 := by have := HZ.out; omega
      obtain ⟨b, og, _, es, e, _, _, lt, c, rx⟩ := row_rd HR.out hmx
      cases e
      obtain rfl := bucket_form rx
      have g0 : w.cell? ⟨b, og + j * 2, none⟩ = some (.int .i64 (z)) := c 0 _ rfl
      have g1 : w.cell? ⟨b, og + j * 2 + 1, none⟩ = some (.int .i64 (z + 1)) := c 1 _ rfl
      rw [← bel_cells hb lt] at g0 g1
      clear hx hmx hcs hct c rx
      have e0 : (z != z) = false := by simp
      have e1 : (z + 1 != z + 1) = false := by simp
      go_wp2_with fail
      go_roundw
      case rel => exact ⟨j + 1, z + 1 + 1, by omega, by go_num, rfl, Lib.hid (by have h1 := HZ.out; have h2 := HCS.out; omega), hb⟩
      case measure => simp [intOf]; omega
    · obtain rfl : j = n := by omega
      have h2 := HZ.out
      rw [← HN.out, List.take_length, HT.out] at h2
      subst h2
      go_wp2
      go_ret
      exact ⟨rfl, hb⟩
end Go.Proofs.Ytdhaelaoackfkaa.KD
