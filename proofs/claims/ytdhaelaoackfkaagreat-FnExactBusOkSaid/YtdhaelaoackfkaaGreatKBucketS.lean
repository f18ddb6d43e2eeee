
/-
  Rows of Bucket as data; what the laws' own functions do with them. (Made by wip/gk.py.)
-/
import Derived.Test.YtdhaelaoackfkaaGreatKBucket
import Derived.Test.YtdhaelaoackfkaaGreatKRow
import Derived.Lib.QuietBelow
namespace Go.Proofs.YtdhaelaoackfkaaGreat.KD
open Go.RowKit Rows3 GR
set_option linter.unusedVariables false

def bucketS : Kn (List (Int × Int)) := row bucketK (by decide)
set_option maxHeartbeats 4000000 in
set_option maxRecDepth 100000 in
theorem szBucketS : SzC bucketS one 14 := by
  intro cs l L w hr h0 h1
  obtain ⟨ad, cp, rfl, hl1, hl2⟩ := row_form hr
  have HR := Lib.hid hr
  rw [show bucketS.sz l = szL bucketK l from rfl]
  have hall : szL bucketK l = l.length := by
    clear hr hl1 HR h0 h1
    induction l with
    | nil => rfl
    | cons x l ih => simp only [szL, List.length_cons, ih]; show 1 + 0 + l.length = _; omega
  obtain ⟨n, hn⟩ : ∃ n, l.length = n := ⟨_, rfl⟩
  have HN := Lib.hid hn
  rw [hn] at hl1
  have hle : n ≤ 9223372036854775807 := by omega
  rw [hall, hn]
  clear hr hn hall HR HN hl1 hl2
  show Calls _ _ #[.slice ad n cp, .int .i64 L] w _
  by_cases h : (n : Int) ≤ L
  · have He := Lib.hid (szW_yes h)
    have h2 : ¬ L - (n : Int) < 0 := by omega
    go_enter Tryz.func14, Tryz.ntmps14
    go_wp2
    go_ret
    exact ⟨by rw [He.out]; rfl, Below.refl _ _⟩
  · have He := Lib.hid (szW_no (by omega : L < (n : Int)))
    have h2 : L - (n : Int) < 0 := by omega
    go_enter Tryz.func14, Tryz.ntmps14
    go_wp2
    go_ret
    exact ⟨by rw [He.out]; rfl, Below.refl _ _⟩
theorem info_iBucket : (Tryz.prog.info? 73).map (fun i => (i.zero, i.size, decide (i.bytes ≤ 1000))) = some (some (.agg #[.int .i64 0, .int .i64 0]), 2, true) := by kernel_rfl
set_option maxHeartbeats 4000000 in
set_option maxRecDepth 100000 in
theorem toBucketS : ToC bucketS one 31 := by
  intro cs l w hs hr
  obtain ⟨ad, cp, rfl, hl1, hl2⟩ := row_form hr
  have HR := Lib.hid hr
  have hln : l.length ≤ 2000000 := Nat.le_trans (szL_len bucketK l) hs
  have HSZ := Lib.hid (show szL bucketK l ≤ 2000000 from hs)
  obtain ⟨n, hn⟩ : ∃ n, l.length = n := ⟨_, rfl⟩
  have HN := Lib.hid hn
  rw [hn] at hln ⊢
  obtain ⟨i0, hi, hz0, hz1, hz2⟩ := info_parts' info_iBucket
  have hmk := fun W => make_runK (P := Tryz.prog) 46 73 i0 _ Tryz.underlying46 hi hz0 2 hz1 hz2 n hln W
  have Ho0 : Hid (bucketS.cap (fun k => w.heap.size ≤ k) [.slice (some ⟨w.heap.size, 0, none⟩) n n] (midT l (0, 0) 0) (w.alloc (.cells (madeCells #[.int .i64 0, .int .i64 0] (n * 2)) 73))) := Lib.hid (by rw [midT_zero, hn]; exact row_made w n #[.int .i64 0, .int .i64 0] (0, 0) 73 rfl (fun w => bucket_capz _ 0 0 w) hln)
  clear hr hn hl1 hl2 hi hz0 hz1 hz2 hs
  show Calls _ _ #[.slice ad n cp] w _
  go_enter Tryz.func31, Tryz.ntmps31
  go_wp2
  clear hmk
  go_loopw [4] (fun i wr => ∃ j : Nat, j ≤ n ∧ i = .int .i64 j ∧ bucketS.cap (fun k => w.heap.size ≤ k) [.slice (some ⟨w.heap.size, 0, none⟩) n n] (midT l (0, 0) j) wr ∧ Below w.heap.size w wr) (fun i _ => n - (intOf i).toNat)
  case atStart => exact ⟨0, by omega, rfl, Ho0.out, (Below.refl _ _).alloc (Nat.le_refl _) _⟩
  case round =>
    obtain ⟨j, hj, rfl, hown, hb⟩ := hrel
    have Ho := Lib.hid hown
    clear hown
    by_cases hlt : j < n
    · obtain ⟨x, hx⟩ := get_of (l := l) (i := j) (by rw [HN.out]; exact hlt)
      have hsx : bucketK.sz x ≤ 2000000 := Nat.le_trans (szL_mem bucketK (List.mem_of_getElem? hx)) HSZ.out
      have Hst := Lib.hid (midT_step (0, 0) hx)
      have Hb0 := Lib.hid hb
      obtain ⟨x0, x1⟩ := x
      obtain ⟨b, o, _, es, e, _, _, lt, c, x⟩ := row_rd HR.out hx
      cases e
      have hrx := x
      obtain rfl := bucket_form x
      have g0 : w.cell? ⟨b, o + j * 2, none⟩ = some (.int .i64 x0) := c 0 _ rfl
      have g1 : w.cell? ⟨b, o + j * 2 + 1, none⟩ = some (.int .i64 x1) := c 1 _ rfl
      rw [← bel_cells hb lt] at g0 g1
      have Hx := Lib.hid (bucketK.rd_later hrx hb)
      clear hx hrx c x hb
      obtain ⟨g, og, cg, es, E, eg, _, _, hgF, hgl, hes, hseg, _, hE, cont⟩ := row_at Ho.out (midT_at (0, 0) (by rw [HN.out]; exact hlt))
      rw [midT_len _ (by rw [HN.out]; omega), HN.out] at eg
      simp at eg
      obtain ⟨⟨rfl, rfl⟩, rfl⟩ := eg
      have hoff : 0 + j * bucketK.n = j * 2 := by rw [Nat.zero_add]; rfl
      rw [hoff] at hseg cont
      obtain ⟨v0, v1, rfl⟩ : ∃ v0 v1, es = [v0, v1] := by
        match es, (show es.length = 2 from hes) with
        | [v0, v1], _ => exact ⟨_, _, rfl⟩
      have Hseg := Lib.hid hseg
      have Cont := Lib.hid cont
      clear hseg cont hE hes
      go_wp2_with fail
      refine (toBucket [.int .i64 x0, .int .i64 x1] (x0, x1) _ hsx Hx.out).mono ?_
      rintro e w2 ⟨us, he, hc, hb2⟩
      obtain rfl := bucket_form (bucketK.cap_rd hc)
      obtain rfl : e = .returned (.agg #[.int .i64 x0, .int .i64 x1]) := he
      have hs2 := Hseg.out.later hb2
      have f0 := hs2.cell 0 _ rfl (n := j * 2) rfl
      have f1 := hs2.cell 1 _ rfl (n := j * 2 + 1) rfl
      have z0 := hs2.warm (j * 2)
      have z1 := hs2.warm (j * 2 + 1)
      have Hch := Lib.hid ((((Chg.refl w.heap.size (j * 2) (j * 2 + bucketK.n) E wr).later hb2).set (n := j * 2) (by omega) (by show _ < j * 2 + 2; omega) (.int .i64 x0)).set (n := j * 2 + 1) (by omega) (by show _ < j * 2 + 2; omega) (.int .i64 x1))
      have Hsg := Lib.hid (((hs2.set 0 (.int .i64 x0) (n := j * 2) rfl).set 1 (.int .i64 x1) (n := j * 2 + 1) rfl))
      have Hc := Lib.hid hc
      have Hb2 := Lib.hid hb2
      clear hc hb2 hs2 g0 g1
      go_wp2_with fail
      go_roundw
      case rel =>
        refine ⟨j + 1, by omega, by go_num, ?_, ?_⟩
        · have ht : Turn (fun k => k = w.heap.size) w2 _ := ((Turn.refl (fun k => k = w.heap.size) w2).set (p := ⟨w.heap.size, j * 2, none⟩) rfl (.int .i64 x0)).set (p := ⟨w.heap.size, j * 2 + 1, none⟩) rfl (.int .i64 x1)
          rw [← Hst.out]
          exact bucketS.cap_wide (Cont.out _ [.int .i64 x0, .int .i64 x1] (x0, x1) (fun k => wr.heap.size ≤ k) Hch.out Hsg.out rfl (bucketK.cap_turn Hc.out ht (fun k _ hk he => by omega)) (fun k hk => .inr hk)) (fun k _ hk => by rcases hk with h | h <;> omega)
        · iterate 2 refine Below.setCell ?_ (by exact Nat.le_refl _) _
          exact Hb0.out.trans (Hb2.out.mono Hb0.out.size)
      case measure => simp [intOf]; omega
    · obtain rfl : j = n := by omega
      go_wp2
      go_ret
      refine ⟨[_], rfl, ?_, hb⟩
      have h := Ho.out
      rw [← HN.out, midT_all] at h
      rw [← HN.out]
      exact h
set_option maxHeartbeats 4000000 in
set_option maxRecDepth 100000 in
theorem eqBucketS : EqC bucketS one 46 := by
  intro cs ds l w hs hr hr2
  obtain ⟨ad, cp, rfl, hl1, hl2⟩ := row_form hr
  obtain ⟨bd, dp, rfl, _, _⟩ := row_form hr2
  have HR := Lib.hid hr
  have HR2 := Lib.hid hr2
  have hln : l.length ≤ 2000000 := Nat.le_trans (szL_len bucketK l) hs
  have HSZ := Lib.hid (show szL bucketK l ≤ 2000000 from hs)
  obtain ⟨n, hn⟩ : ∃ n, l.length = n := ⟨_, rfl⟩
  have HN := Lib.hid hn
  rw [hn] at hln ⊢
  clear hr hr2 hn hl1 hl2 hs
  have hne : (((n : Nat) : Int) != ((n : Nat) : Int)) = false := by simp
  show Calls _ _ #[.slice ad n cp, .slice bd n dp] w _
  go_enter Tryz.func46, Tryz.ntmps46
  go_wp2
  go_loopw [5] (fun i wr => ∃ j : Nat, j ≤ n ∧ i = .int .i64 j ∧ Below w.heap.size w wr) (fun i _ => n - (intOf i).toNat)
  case atStart => exact ⟨0, by omega, rfl, Below.refl _ _⟩
  case round =>
    obtain ⟨j, hj, rfl, hb⟩ := hrel
    by_cases hlt : j < n
    · obtain ⟨x, hx⟩ := get_of (l := l) (i := j) (by rw [HN.out]; exact hlt)
      have hsx : bucketK.sz x ≤ 2000000 := Nat.le_trans (szL_mem bucketK (List.mem_of_getElem? hx)) HSZ.out
      have Hb0 := Lib.hid hb
      obtain ⟨x0, x1⟩ := x
      obtain ⟨lb, lo, _, les, el, _, _, llt, lc, lx⟩ := row_rd HR.out hx
      cases el
      have lr := lx
      obtain rfl := bucket_form lx
      have g0 : w.cell? ⟨lb, lo + j * 2, none⟩ = some (.int .i64 x0) := lc 0 _ rfl
      have g1 : w.cell? ⟨lb, lo + j * 2 + 1, none⟩ = some (.int .i64 x1) := lc 1 _ rfl
      rw [← bel_cells hb llt] at g0 g1
      obtain ⟨mb, mo, _, mes, em, _, _, mlt, mc, mx⟩ := row_rd HR2.out hx
      cases em
      have mr := mx
      obtain rfl := bucket_form mx
      have k0 : w.cell? ⟨mb, mo + j * 2, none⟩ = some (.int .i64 x0) := mc 0 _ rfl
      have k1 : w.cell? ⟨mb, mo + j * 2 + 1, none⟩ = some (.int .i64 x1) := mc 1 _ rfl
      rw [← bel_cells hb mlt] at k0 k1
      have Hx := Lib.hid (bucketK.rd_later lr hb)
      have Hy := Lib.hid (bucketK.rd_later mr hb)
      clear hx lr mr lc mc lx mx hb
      replace g0 := fun d os => cell_regrown g0 d os
      replace k0 := fun d os => cell_regrown k0 d os
      replace g1 := fun d os => cell_regrown g1 d os
      replace k1 := fun d os => cell_regrown k1 d os
      go_wp2_with fail
      refine wp_region_quiet_below (by kernel_rfl) (by kernel_rfl) ?_
      repeat (go_big_quiet_step ((go_at_call 84; exact Calls.regrown_of (eqBucket [.int .i64 x0, .int .i64 x1] [.int .i64 x0, .int .i64 x1] (x0, x1) _ hsx (bucketK.rd_later Hx.out (below_regrown wr _ _)) (bucketK.rd_later Hy.out (below_regrown wr _ _))))))
      refine wpQuiet_nil ?_
      rintro _ ⟨⟨dq, osq⟩, rfl⟩
      have hbw := below_regrown wr dq osq
      generalize Sort.grow (redrawn wr dq) osq = w2 at hbw
      clear g0 k0 g1 k1
      go_wp2_with fail
      go_roundw
      case rel => exact ⟨j + 1, by omega, by go_num, Hb0.out.trans (hbw.mono Hb0.out.size)⟩
      case measure => simp [intOf]; omega
    · go_wp2
      go_ret
      exact ⟨rfl, hb⟩
end Go.Proofs.YtdhaelaoackfkaaGreat.KD
