/-
  Several texts in one: KMConf, KMConfS, KConf, KDone, KDoneS.
-/
import Derived.Test.YtdhaelaoackfkaaGreatKdI
import Derived.Test.YtdhaelaoackfkaaGreatGRow
import Derived.Outline
import Derived.Test.YtdhaelaoackfkaaGreatKRow
import Derived.Lib.QuietBelow
namespace Go.Proofs.YtdhaelaoackfkaaGreat.KD
open Go.RowKit Rows3 GR
set_option linter.unusedVariables false

def mConfK : Kn (Int × Bool × Int × Int) := prod int (prod bool (prod int int))
theorem mConf_form {cs : List Value} {x0 : Int} {x1 : Bool} {x2 : Int} {x3 : Int} {w : World} (h : mConfK.rd cs (x0, x1, x2, x3) w) :
    cs = [.int .i64 x0, .bool x1, .int .i64 x2, .int .i64 x3] := by
  obtain ⟨c0, r0, rfl, h0, c1, r1, rfl, h1, c2, r2, rfl, h2, h3⟩ := h
  obtain rfl := h0
  obtain rfl := h1
  obtain rfl := h2
  obtain rfl := h3
  rfl
theorem mConf_rd  {x0 : Int} {x1 : Bool} {x2 : Int} {x3 : Int} {w : World}  : mConfK.rd [.int .i64 x0, .bool x1, .int .i64 x2, .int .i64 x3] (x0, x1, x2, x3) w :=
  ⟨[.int .i64 x0], _, rfl, rfl, ⟨[.bool x1], _, rfl, rfl, ⟨[.int .i64 x2], _, rfl, rfl, rfl⟩⟩⟩
theorem mConf_capz (F : Foot) (x0 : Int) (x1 : Bool) (x2 : Int) (x3 : Int) (w : World) : mConfK.cap F [.int .i64 x0, .bool x1, .int .i64 x2, .int .i64 x3] (x0, x1, x2, x3) w :=
  ⟨[.int .i64 x0], _, fun _ => False, fun _ => False, rfl, fun _ h => h.elim, fun _ h => h.elim, rfl, ⟨[.bool x1], _, fun _ => False, fun _ => False, rfl, fun _ h => h.elim, fun _ h => h.elim, rfl, ⟨[.int .i64 x2], _, fun _ => False, fun _ => False, rfl, fun _ h => h.elim, fun _ h => h.elim, rfl, rfl⟩⟩⟩
theorem mConf_mI (x0 : Int) (x1 : Bool) (x2 : Int) (x3 : Int) (k : Int) : mConfK.mI (x0, x1, x2, x3) k = (k, ((k + 1) % 3 == 0), k + 1 + 1, k + 1 + 1 + 1) := rfl
theorem mConf_cI (x0 : Int) (x1 : Bool) (x2 : Int) (x3 : Int) : mConfK.cI (x0, x1, x2, x3) = 4 := by
  show (1 + (1 + (1 + 1))) = _
  omega
set_option maxRecDepth 100000 in
theorem toMConf : ToC mConfK agg 93 := by
  intro cs x w hs hr
  obtain ⟨x0, x1, x2, x3⟩ := x
  obtain rfl := mConf_form hr
  have hsz : ∀ (w : World) o, (w.alloc o).heap.size = w.heap.size + 1 := fun w o => by simp
  have A1 := ((Bx.new 137 #[.int .i64 x0, .bool x1, .int .i64 x2, .int .i64 x3] w).alloc (Obj.cells #[.int .i64 0, .bool false, .int .i64 0, .int .i64 0] 75)).alloc (Obj.cells #[.int .i64 x0, .bool x1, .int .i64 x2, .int .i64 x3] 75)
  have A0 := ((Bx.new 137 #[.int .i64 x0, .bool x1, .int .i64 x2, .int .i64 x3] w).alloc (Obj.cells #[.int .i64 0, .bool false, .int .i64 0, .int .i64 0] 75)).alloc (Obj.cells #[.int .i64 0, .bool false, .int .i64 0, .int .i64 0] 75)
  have A2 := (Bx.new 75 #[.int .i64 0, .bool false, .int .i64 0, .int .i64 0] (w.alloc (Obj.cells #[.int .i64 x0, .bool x1, .int .i64 x2, .int .i64 x3] 137))).alloc (Obj.cells #[.int .i64 x0, .bool x1, .int .i64 x2, .int .i64 x3] 75)
  have A3 := Bx.new 75 #[.int .i64 x0, .bool x1, .int .i64 x2, .int .i64 x3] ((w.alloc (Obj.cells #[.int .i64 x0, .bool x1, .int .i64 x2, .int .i64 x3] 137)).alloc (Obj.cells #[.int .i64 0, .bool false, .int .i64 0, .int .i64 0] 75))
  rw [hsz] at A2
  rw [hsz, hsz] at A3
  have g0 := A1.cell 0 _ rfl
  have h0 := A0.cell 0 _ rfl
  have k0 := A2.cell 0 _ rfl
  have z0 := A2.warm 0
  have m0 := A3.cell 0 _ rfl
  have g1 := A1.cell 1 _ rfl
  have h1 := A0.cell 1 _ rfl
  have k1 := A2.cell 1 _ rfl
  have z1 := A2.warm 1
  have m1 := A3.cell 1 _ rfl
  have g2 := A1.cell 2 _ rfl
  have h2 := A0.cell 2 _ rfl
  have k2 := A2.cell 2 _ rfl
  have z2 := A2.warm 2
  have m2 := A3.cell 2 _ rfl
  have g3 := A1.cell 3 _ rfl
  have h3 := A0.cell 3 _ rfl
  have k3 := A2.cell 3 _ rfl
  have z3 := A2.warm 3
  have m3 := A3.cell 3 _ rfl
  clear A1 A0 A2 A3 hsz hr hs
  show Calls _ _ #[.agg #[.int .i64 x0, .bool x1, .int .i64 x2, .int .i64 x3]] w _
  go_enter Tryz.func93, Tryz.ntmps93
  go_wp2_with fail
  refine bodyPost_ret (v := .agg #[.int .i64 x0, .bool x1, .int .i64 x2, .int .i64 x3]) (by simp [results, Tryz.results93, go_sem]) rfl ⟨[.int .i64 x0, .bool x1, .int .i64 x2, .int .i64 x3], rfl, mConf_capz _ x0 x1 x2 x3 _, ?_⟩
  exact (((Below.refl w.heap.size w).alloc (Nat.le_refl _) _).alloc (by simp) _).alloc (by simp; omega) _
set_option maxRecDepth 100000 in
theorem eqMConf : EqC mConfK agg 104 := by
  intro cs ds x w hs hr hr2
  obtain ⟨x0, x1, x2, x3⟩ := x
  obtain rfl := mConf_form hr
  obtain rfl := mConf_form hr2
  have hsz : ∀ (w : World) o, (w.alloc o).heap.size = w.heap.size + 1 := fun w o => by simp
  have A0 := (Bx.new 75 #[.int .i64 x0, .bool x1, .int .i64 x2, .int .i64 x3] w).alloc (Obj.cells #[.int .i64 x0, .bool x1, .int .i64 x2, .int .i64 x3] 75)
  have B0 := Bx.new 75 #[.int .i64 x0, .bool x1, .int .i64 x2, .int .i64 x3] (w.alloc (Obj.cells #[.int .i64 x0, .bool x1, .int .i64 x2, .int .i64 x3] 75))
  rw [hsz] at B0
  have g0 := A0.cell 0 _ rfl
  have k0 := B0.cell 0 _ rfl
  have g1 := A0.cell 1 _ rfl
  have k1 := B0.cell 1 _ rfl
  have g2 := A0.cell 2 _ rfl
  have k2 := B0.cell 2 _ rfl
  have g3 := A0.cell 3 _ rfl
  have k3 := B0.cell 3 _ rfl
  have HB := Lib.hid (((Below.refl w.heap.size w).alloc (Nat.le_refl _) (Obj.cells #[.int .i64 x0, .bool x1, .int .i64 x2, .int .i64 x3] 75)).alloc (by simp) (Obj.cells #[.int .i64 x0, .bool x1, .int .i64 x2, .int .i64 x3] 75))
  clear A0 B0 hsz hr hr2 hs
  have nx0 : (x0 != x0) = false := by simp
  have nx1 : (x1 != x1) = false := by simp
  have nx2 : (x2 != x2) = false := by simp
  have nx3 : (x3 != x3) = false := by simp
  show Calls _ _ #[.agg #[.int .i64 x0, .bool x1, .int .i64 x2, .int .i64 x3], .agg #[.int .i64 x0, .bool x1, .int .i64 x2, .int .i64 x3]] w _
  go_enter Tryz.func104, Tryz.ntmps104
  go_wp2
  go_ret
  exact ⟨rfl, HB.out⟩
end Go.Proofs.YtdhaelaoackfkaaGreat.KD

namespace Go.Proofs.YtdhaelaoackfkaaGreat.KD
open Go.RowKit Rows3 GR
set_option linter.unusedVariables false

def mConfS : Kn (List (Int × Bool × Int × Int)) := row mConfK (by decide)
set_option maxHeartbeats 4000000 in
set_option maxRecDepth 100000 in
theorem szMConfS : SzC mConfS one 51 := by
  intro cs l L w hr h0 h1
  obtain ⟨ad, cp, rfl, hl1, hl2⟩ := row_form hr
  have HR := Lib.hid hr
  rw [show mConfS.sz l = szL mConfK l from rfl]
  have hall : szL mConfK l = l.length := by
    clear hr hl1 HR h0 h1
    induction l with
    | nil => rfl
    | cons x l ih => simp only [szL, List.length_cons, ih]; show 1 + 0 + l.length = _; omega
  obtain ⟨n, hn⟩ : ∃ n, l.length = n := ⟨_, rfl⟩
  have HN := Lib.hid hn
  rw [hn] at hl1
  have hle : n ≤ 9223372036854775807 := by omega
  rw [hall, hn]
  clear hr hn hall HR HN hl1 hl2
  show Calls _ _ #[.slice ad n cp, .int .i64 L] w _
  by_cases h : (n : Int) ≤ L
  · have He := Lib.hid (szW_yes h)
    have h2 : ¬ L - (n : Int) < 0 := by omega
    go_enter Tryz.func51, Tryz.ntmps51
    go_wp2
    go_ret
    exact ⟨by rw [He.out]; rfl, Below.refl _ _⟩
  · have He := Lib.hid (szW_no (by omega : L < (n : Int)))
    have h2 : L - (n : Int) < 0 := by omega
    go_enter Tryz.func51, Tryz.ntmps51
    go_wp2
    go_ret
    exact ⟨by rw [He.out]; rfl, Below.refl _ _⟩
theorem info_iMConf : (Tryz.prog.info? 75).map (fun i => (i.zero, i.size, decide (i.bytes ≤ 1000))) = some (some (.agg #[.int .i64 0, .bool false, .int .i64 0, .int .i64 0]), 4, true) := by kernel_rfl
set_option maxHeartbeats 4000000 in
set_option maxRecDepth 100000 in
theorem toMConfS : ToC mConfS one 63 := by
  intro cs l w hs hr
  obtain ⟨ad, cp, rfl, hl1, hl2⟩ := row_form hr
  have HR := Lib.hid hr
  have hln : l.length ≤ 2000000 := Nat.le_trans (szL_len mConfK l) hs
  have HSZ := Lib.hid (show szL mConfK l ≤ 2000000 from hs)
  obtain ⟨n, hn⟩ : ∃ n, l.length = n := ⟨_, rfl⟩
  have HN := Lib.hid hn
  rw [hn] at hln ⊢
  obtain ⟨i0, hi, hz0, hz1, hz2⟩ := info_parts' info_iMConf
  have hmk := fun W => make_runK (P := Tryz.prog) 41 75 i0 _ Tryz.underlying41 hi hz0 4 hz1 hz2 n hln W
  have Ho0 : Hid (mConfS.cap (fun k => w.heap.size ≤ k) [.slice (some ⟨w.heap.size, 0, none⟩) n n] (midT l (0, false, 0, 0) 0) (w.alloc (.cells (madeCells #[.int .i64 0, .bool false, .int .i64 0, .int .i64 0] (n * 4)) 75))) := Lib.hid (by rw [midT_zero, hn]; exact row_made w n #[.int .i64 0, .bool false, .int .i64 0, .int .i64 0] (0, false, 0, 0) 75 rfl (fun w => mConf_capz _ 0 false 0 0 w) hln)
  clear hr hn hl1 hl2 hi hz0 hz1 hz2 hs
  show Calls _ _ #[.slice ad n cp] w _
  go_enter Tryz.func63, Tryz.ntmps63
  go_wp2
  clear hmk
  go_loopw [4] (fun i wr => ∃ j : Nat, j ≤ n ∧ i = .int .i64 j ∧ mConfS.cap (fun k => w.heap.size ≤ k) [.slice (some ⟨w.heap.size, 0, none⟩) n n] (midT l (0, false, 0, 0) j) wr ∧ Below w.heap.size w wr) (fun i _ => n - (intOf i).toNat)
  case atStart => exact ⟨0, by omega, rfl, Ho0.out, (Below.refl _ _).alloc (Nat.le_refl _) _⟩
  case round =>
    obtain ⟨j, hj, rfl, hown, hb⟩ := hrel
    have Ho := Lib.hid hown
    clear hown
    by_cases hlt : j < n
    · obtain ⟨x, hx⟩ := get_of (l := l) (i := j) (by rw [HN.out]; exact hlt)
      have hsx : mConfK.sz x ≤ 2000000 := Nat.le_trans (szL_mem mConfK (List.mem_of_getElem? hx)) HSZ.out
      have Hst := Lib.hid (midT_step (0, false, 0, 0) hx)
      have Hb0 := Lib.hid hb
      obtain ⟨x0, x1, x2, x3⟩ := x
      obtain ⟨b, o, _, es, e, _, _, lt, c, x⟩ := row_rd HR.out hx
      cases e
      have hrx := x
      obtain rfl := mConf_form x
      have g0 : w.cell? ⟨b, o + j * 4, none⟩ = some (.int .i64 x0) := c 0 _ rfl
      have g1 : w.cell? ⟨b, o + j * 4 + 1, none⟩ = some (.bool x1) := c 1 _ rfl
      have g2 : w.cell? ⟨b, o + j * 4 + 2, none⟩ = some (.int .i64 x2) := c 2 _ rfl
      have g3 : w.cell? ⟨b, o + j * 4 + 3, none⟩ = some (.int .i64 x3) := c 3 _ rfl
      rw [← bel_cells hb lt] at g0 g1 g2 g3
      have Hx := Lib.hid (mConfK.rd_later hrx hb)
      clear hx hrx c x hb
      obtain ⟨g, og, cg, es, E, eg, _, _, hgF, hgl, hes, hseg, _, hE, cont⟩ := row_at Ho.out (midT_at (0, false, 0, 0) (by rw [HN.out]; exact hlt))
      rw [midT_len _ (by rw [HN.out]; omega), HN.out] at eg
      simp at eg
      obtain ⟨⟨rfl, rfl⟩, rfl⟩ := eg
      have hoff : 0 + j * mConfK.n = j * 4 := by rw [Nat.zero_add]; rfl
      rw [hoff] at hseg cont
      obtain ⟨v0, v1, v2, v3, rfl⟩ : ∃ v0 v1 v2 v3, es = [v0, v1, v2, v3] := by
        match es, (show es.length = 4 from hes) with
        | [v0, v1, v2, v3], _ => exact ⟨_, _, _, _, rfl⟩
      have Hseg := Lib.hid hseg
      have Cont := Lib.hid cont
      clear hseg cont hE hes
      go_wp2_with fail
      refine (toMConf [.int .i64 x0, .bool x1, .int .i64 x2, .int .i64 x3] (x0, x1, x2, x3) _ hsx Hx.out).mono ?_
      rintro e w2 ⟨us, he, hc, hb2⟩
      obtain rfl := mConf_form (mConfK.cap_rd hc)
      obtain rfl : e = .returned (.agg #[.int .i64 x0, .bool x1, .int .i64 x2, .int .i64 x3]) := he
      have hs2 := Hseg.out.later hb2
      have f0 := hs2.cell 0 _ rfl (n := j * 4) rfl
      have f1 := hs2.cell 1 _ rfl (n := j * 4 + 1) rfl
      have f2 := hs2.cell 2 _ rfl (n := j * 4 + 2) rfl
      have f3 := hs2.cell 3 _ rfl (n := j * 4 + 3) rfl
      have z0 := hs2.warm (j * 4)
      have z1 := hs2.warm (j * 4 + 1)
      have z2 := hs2.warm (j * 4 + 2)
      have z3 := hs2.warm (j * 4 + 3)
      have Hch := Lib.hid ((((((Chg.refl w.heap.size (j * 4) (j * 4 + mConfK.n) E wr).later hb2).set (n := j * 4) (by omega) (by show _ < j * 4 + 4; omega) (.int .i64 x0)).set (n := j * 4 + 1) (by omega) (by show _ < j * 4 + 4; omega) (.bool x1)).set (n := j * 4 + 2) (by omega) (by show _ < j * 4 + 4; omega) (.int .i64 x2)).set (n := j * 4 + 3) (by omega) (by show _ < j * 4 + 4; omega) (.int .i64 x3))
      have Hsg := Lib.hid (((((hs2.set 0 (.int .i64 x0) (n := j * 4) rfl).set 1 (.bool x1) (n := j * 4 + 1) rfl).set 2 (.int .i64 x2) (n := j * 4 + 2) rfl).set 3 (.int .i64 x3) (n := j * 4 + 3) rfl))
      have Hc := Lib.hid hc
      have Hb2 := Lib.hid hb2
      clear hc hb2 hs2 g0 g1 g2 g3
      go_wp2_with fail
      go_roundw
      case rel =>
        refine ⟨j + 1, by omega, by go_num, ?_, ?_⟩
        · have ht : Turn (fun k => k = w.heap.size) w2 _ := ((((Turn.refl (fun k => k = w.heap.size) w2).set (p := ⟨w.heap.size, j * 4, none⟩) rfl (.int .i64 x0)).set (p := ⟨w.heap.size, j * 4 + 1, none⟩) rfl (.bool x1)).set (p := ⟨w.heap.size, j * 4 + 2, none⟩) rfl (.int .i64 x2)).set (p := ⟨w.heap.size, j * 4 + 3, none⟩) rfl (.int .i64 x3)
          rw [← Hst.out]
          exact mConfS.cap_wide (Cont.out _ [.int .i64 x0, .bool x1, .int .i64 x2, .int .i64 x3] (x0, x1, x2, x3) (fun k => wr.heap.size ≤ k) Hch.out Hsg.out rfl (mConfK.cap_turn Hc.out ht (fun k _ hk he => by omega)) (fun k hk => .inr hk)) (fun k _ hk => by rcases hk with h | h <;> omega)
        · iterate 4 refine Below.setCell ?_ (by exact Nat.le_refl _) _
          exact Hb0.out.trans (Hb2.out.mono Hb0.out.size)
      case measure => simp [intOf]; omega
    · obtain rfl : j = n := by omega
      go_wp2
      go_ret
      refine ⟨[_], rfl, ?_, hb⟩
      have h := Ho.out
      rw [← HN.out, midT_all] at h
      rw [← HN.out]
      exact h
set_option maxHeartbeats 4000000 in
set_option maxRecDepth 100000 in
theorem eqMConfS : EqC mConfS one 82 := by
  intro cs ds l w hs hr hr2
  obtain ⟨ad, cp, rfl, hl1, hl2⟩ := row_form hr
  obtain ⟨bd, dp, rfl, _, _⟩ := row_form hr2
  have HR := Lib.hid hr
  have HR2 := Lib.hid hr2
  have hln : l.length ≤ 2000000 := Nat.le_trans (szL_len mConfK l) hs
  have HSZ := Lib.hid (show szL mConfK l ≤ 2000000 from hs)
  obtain ⟨n, hn⟩ : ∃ n, l.length = n := ⟨_, rfl⟩
  have HN := Lib.hid hn
  rw [hn] at hln ⊢
  clear hr hr2 hn hl1 hl2 hs
  have hne : (((n : Nat) : Int) != ((n : Nat) : Int)) = false := by simp
  show Calls _ _ #[.slice ad n cp, .slice bd n dp] w _
  go_enter Tryz.func82, Tryz.ntmps82
  go_wp2
  go_loopw [5] (fun i wr => ∃ j : Nat, j ≤ n ∧ i = .int .i64 j ∧ Below w.heap.size w wr) (fun i _ => n - (intOf i).toNat)
  case atStart => exact ⟨0, by omega, rfl, Below.refl _ _⟩
  case round =>
    obtain ⟨j, hj, rfl, hb⟩ := hrel
    by_cases hlt : j < n
    · obtain ⟨x, hx⟩ := get_of (l := l) (i := j) (by rw [HN.out]; exact hlt)
      have hsx : mConfK.sz x ≤ 2000000 := Nat.le_trans (szL_mem mConfK (List.mem_of_getElem? hx)) HSZ.out
      have Hb0 := Lib.hid hb
      obtain ⟨x0, x1, x2, x3⟩ := x
      obtain ⟨lb, lo, _, les, el, _, _, llt, lc, lx⟩ := row_rd HR.out hx
      cases el
      have lr := lx
      obtain rfl := mConf_form lx
      have g0 : w.cell? ⟨lb, lo + j * 4, none⟩ = some (.int .i64 x0) := lc 0 _ rfl
      have g1 : w.cell? ⟨lb, lo + j * 4 + 1, none⟩ = some (.bool x1) := lc 1 _ rfl
      have g2 : w.cell? ⟨lb, lo + j * 4 + 2, none⟩ = some (.int .i64 x2) := lc 2 _ rfl
      have g3 : w.cell? ⟨lb, lo + j * 4 + 3, none⟩ = some (.int .i64 x3) := lc 3 _ rfl
      rw [← bel_cells hb llt] at g0 g1 g2 g3
      obtain ⟨mb, mo, _, mes, em, _, _, mlt, mc, mx⟩ := row_rd HR2.out hx
      cases em
      have mr := mx
      obtain rfl := mConf_form mx
      have k0 : w.cell? ⟨mb, mo + j * 4, none⟩ = some (.int .i64 x0) := mc 0 _ rfl
      have k1 : w.cell? ⟨mb, mo + j * 4 + 1, none⟩ = some (.bool x1) := mc 1 _ rfl
      have k2 : w.cell? ⟨mb, mo + j * 4 + 2, none⟩ = some (.int .i64 x2) := mc 2 _ rfl
      have k3 : w.cell? ⟨mb, mo + j * 4 + 3, none⟩ = some (.int .i64 x3) := mc 3 _ rfl
      rw [← bel_cells hb mlt] at k0 k1 k2 k3
      have Hx := Lib.hid (mConfK.rd_later lr hb)
      have Hy := Lib.hid (mConfK.rd_later mr hb)
      clear hx lr mr lc mc lx mx hb
      replace g0 := fun d os => cell_regrown g0 d os
      replace k0 := fun d os => cell_regrown k0 d os
      replace g1 := fun d os => cell_regrown g1 d os
      replace k1 := fun d os => cell_regrown k1 d os
      replace g2 := fun d os => cell_regrown g2 d os
      replace k2 := fun d os => cell_regrown k2 d os
      replace g3 := fun d os => cell_regrown g3 d os
      replace k3 := fun d os => cell_regrown k3 d os
      go_wp2_with fail
      refine wp_region_quiet_below (by kernel_rfl) (by kernel_rfl) ?_
      repeat (go_big_quiet_step ((go_at_call 104; exact Calls.regrown_of (eqMConf [.int .i64 x0, .bool x1, .int .i64 x2, .int .i64 x3] [.int .i64 x0, .bool x1, .int .i64 x2, .int .i64 x3] (x0, x1, x2, x3) _ hsx (mConfK.rd_later Hx.out (below_regrown wr _ _)) (mConfK.rd_later Hy.out (below_regrown wr _ _))))))
      refine wpQuiet_nil ?_
      rintro _ ⟨⟨dq, osq⟩, rfl⟩
      have hbw := below_regrown wr dq osq
      generalize Sort.grow (redrawn wr dq) osq = w2 at hbw
      clear g0 k0 g1 k1 g2 k2 g3 k3
      go_wp2_with fail
      go_roundw
      case rel => exact ⟨j + 1, by omega, by go_num, Hb0.out.trans (hbw.mono Hb0.out.size)⟩
      case measure => simp [intOf]; omega
    · go_wp2
      go_ret
      exact ⟨rfl, hb⟩
end Go.Proofs.YtdhaelaoackfkaaGreat.KD

namespace Go.Proofs.YtdhaelaoackfkaaGreat.KD
open Go.RowKit Rows3 GR
set_option linter.unusedVariables false

def confK : Kn (List (Int × Bool × Int × Int) × Int × Int × Int × Int × Int) := prod mConfS (prod int (prod int (prod int (prod int int))))
theorem conf_form {cs : List Value} {x0 : List (Int × Bool × Int × Int)} {x1 : Int} {x2 : Int} {x3 : Int} {x4 : Int} {x5 : Int} {w : World} (h : confK.rd cs (x0, x1, x2, x3, x4, x5) w) :
    ∃ ax0 px0, cs = [.slice ax0 x0.length px0, .int .i64 x1, .int .i64 x2, .int .i64 x3, .int .i64 x4, .int .i64 x5] ∧ mConfS.rd [.slice ax0 x0.length px0] x0 w := by
  obtain ⟨c0, r0, rfl, h0, c1, r1, rfl, h1, c2, r2, rfl, h2, c3, r3, rfl, h3, c4, r4, rfl, h4, h5⟩ := h
  have t0 := h0
  obtain ⟨ax0, px0, rfl, _⟩ := t0
  obtain rfl := h1
  obtain rfl := h2
  obtain rfl := h3
  obtain rfl := h4
  obtain rfl := h5
  exact ⟨_, _, rfl, h0⟩
theorem conf_rd {ux0 : Value} {x0 : List (Int × Bool × Int × Int)} {x1 : Int} {x2 : Int} {x3 : Int} {x4 : Int} {x5 : Int} {w : World} (hx0 : mConfS.rd [ux0] x0 w) : confK.rd [ux0, .int .i64 x1, .int .i64 x2, .int .i64 x3, .int .i64 x4, .int .i64 x5] (x0, x1, x2, x3, x4, x5) w :=
  ⟨[ux0], _, rfl, hx0, ⟨[.int .i64 x1], _, rfl, rfl, ⟨[.int .i64 x2], _, rfl, rfl, ⟨[.int .i64 x3], _, rfl, rfl, ⟨[.int .i64 x4], _, rfl, rfl, rfl⟩⟩⟩⟩⟩
theorem cap_conf {F : Foot} {cs : List Value} {x0 : List (Int × Bool × Int × Int)} {x1 : Int} {x2 : Int} {x3 : Int} {x4 : Int} {x5 : Int} {w : World} (h : confK.cap F cs (x0, x1, x2, x3, x4, x5) w) :
    ∃ ax0 px0 Fx0, cs = [.slice ax0 x0.length px0, .int .i64 x1, .int .i64 x2, .int .i64 x3, .int .i64 x4, .int .i64 x5] ∧ mConfS.cap Fx0 [.slice ax0 x0.length px0] x0 w ∧ (∀ k, Fx0 k → F k) := by
  obtain ⟨c0, r0, G0, D0, rfl, d0, e0, h0, c1, r1, G1, D1, rfl, d1, e1, h1, c2, r2, G2, D2, rfl, d2, e2, h2, c3, r3, G3, D3, rfl, d3, e3, h3, c4, r4, G4, D4, rfl, d4, e4, h4, h5⟩ := h
  have t0 := h0
  obtain ⟨ax0, px0, rfl, _⟩ := t0
  obtain rfl := h1
  obtain rfl := h2
  obtain rfl := h3
  obtain rfl := h4
  obtain rfl := h5
  exact ⟨_, _, G0, rfl, h0, fun k hk => (d0 k hk).1⟩
theorem conf_cap {F Fx0 : Foot} {ux0 : Value} {x0 : List (Int × Bool × Int × Int)} {x1 : Int} {x2 : Int} {x3 : Int} {x4 : Int} {x5 : Int} {w : World} (hx0 : mConfS.cap Fx0 [ux0] x0 w)
    (sx0 : ∀ k, Fx0 k → F k)  : confK.cap F [ux0, .int .i64 x1, .int .i64 x2, .int .i64 x3, .int .i64 x4, .int .i64 x5] (x0, x1, x2, x3, x4, x5) w :=
  ⟨[ux0], _, (fun k => Fx0 k), (fun k => False), rfl, fun k hk => ⟨sx0 k hk, fun hk2 => hk2.elim⟩, fun k hk => hk.elim, hx0, ⟨[.int .i64 x1], _, (fun k => False), (fun k => False), rfl, fun k hk => ⟨hk.elim, fun hk2 => hk.elim⟩, fun k hk => hk.elim, rfl, ⟨[.int .i64 x2], _, (fun k => False), (fun k => False), rfl, fun k hk => ⟨hk.elim, fun hk2 => hk.elim⟩, fun k hk => hk.elim, rfl, ⟨[.int .i64 x3], _, (fun k => False), (fun k => False), rfl, fun k hk => ⟨hk.elim, fun hk2 => hk.elim⟩, fun k hk => hk.elim, rfl, ⟨[.int .i64 x4], _, (fun k => False), (fun k => False), rfl, fun k hk => ⟨hk.elim, fun hk2 => hk.elim⟩, fun k hk => hk.elim, rfl, rfl⟩⟩⟩⟩⟩
theorem conf_sz (x0 : List (Int × Bool × Int × Int)) (x1 : Int) (x2 : Int) (x3 : Int) (x4 : Int) (x5 : Int) : confK.sz (x0, x1, x2, x3, x4, x5) = mConfS.sz x0 := by
  show mConfS.sz x0 + (0 + (0 + (0 + (0 + 0)))) = _
  omega
theorem conf_cT (x0 : List (Int × Bool × Int × Int)) (x1 : Int) (x2 : Int) (x3 : Int) (x4 : Int) (x5 : Int) : confK.cT (x0, x1, x2, x3, x4, x5) = mConfS.cT x0 := by
  show mConfS.cT x0 + (0 + (0 + (0 + (0 + 0)))) = _
  omega
theorem conf_mT (x0 : List (Int × Bool × Int × Int)) (x1 : Int) (x2 : Int) (x3 : Int) (x4 : Int) (x5 : Int) (k : Int) : confK.mT (x0, x1, x2, x3, x4, x5) k = (mConfS.mT x0 (k), x1, x2, x3, x4, x5) := by
  show (mConfS.mT x0 (k), x1, x2, x3, x4, x5) = _
  simp
set_option maxRecDepth 100000 in
theorem szConf : SzC confK agg 12 := by
  intro cs x L w hr h0 h1
  obtain ⟨x0, x1, x2, x3, x4, x5⟩ := x
  rw [conf_sz]
  obtain ⟨ax0, px0, rfl, rx0⟩ := conf_form hr
  have Rx0 := Lib.hid rx0
  clear hr rx0
  obtain ⟨n0, hn0⟩ : ∃ n, mConfS.sz x0 = n := ⟨_, rfl⟩
  rw [hn0]
  have B0 := Lib.hid (Bx.new 24 #[.slice ax0 x0.length px0, .int .i64 x1, .int .i64 x2, .int .i64 x3, .int .i64 x4, .int .i64 x5] w)
  have HB0 := Lib.hid ((Below.refl w.heap.size w).alloc (Nat.le_refl _) (Obj.cells #[.slice ax0 x0.length px0, .int .i64 x1, .int .i64 x2, .int .i64 x3, .int .i64 x4, .int .i64 x5] 24))
  show Calls _ _ #[.agg #[.slice ax0 x0.length px0, .int .i64 x1, .int .i64 x2, .int .i64 x3, .int .i64 x4, .int .i64 x5], .int .i64 L] w _
  obtain ⟨M0, hM0⟩ : ∃ M, szW L n0 = M := ⟨_, rfl⟩
  have hb0 := szW_bd L n0 (by omega)
  rw [hM0] at hb0
  have ht0 := hM0
  have HM0 : Hid (szW L (mConfS.sz x0) = M0) := Lib.hid (by rw [hn0]; exact hM0)
  have He := Lib.hid ht0
  clear hM0 ht0 hn0
  by_cases c0 : M0 < 0
  · obtain rfl : M0 = -1 := by omega
    go_enter Tryz.func12, Tryz.ntmps12
    go_wp2_with fail
    generalize w.alloc (Obj.cells #[.slice ax0 x0.length px0, .int .i64 x1, .int .i64 x2, .int .i64 x3, .int .i64 x4, .int .i64 x5] 24) = y0 at B0 HB0 ⊢
    refine (szMConfS [.slice ax0 x0.length px0] x0 L _ (mConfS.rd_later Rx0.out HB0.out) (by omega) (by omega)).mono ?_
    rintro e y1 ⟨rfl, hb⟩
    rw [HM0.out]
    have B1 := Lib.hid (B0.out.later hb)
    have HB1 := Lib.hid (HB0.out.trans (hb.mono HB0.out.size))
    have g0 := B1.out.cell 0 _ rfl
    have g1 := B1.out.cell 1 _ rfl
    have g2 := B1.out.cell 2 _ rfl
    have g3 := B1.out.cell 3 _ rfl
    have g4 := B1.out.cell 4 _ rfl
    have g5 := B1.out.cell 5 _ rfl
    clear hb
    go_wp2
    go_ret
    exact ⟨by rw [He.out]; rfl, HB1.out⟩
  · skip
    go_enter Tryz.func12, Tryz.ntmps12
    go_wp2_with fail
    generalize w.alloc (Obj.cells #[.slice ax0 x0.length px0, .int .i64 x1, .int .i64 x2, .int .i64 x3, .int .i64 x4, .int .i64 x5] 24) = y0 at B0 HB0 ⊢
    refine (szMConfS [.slice ax0 x0.length px0] x0 L _ (mConfS.rd_later Rx0.out HB0.out) (by omega) (by omega)).mono ?_
    rintro e y1 ⟨rfl, hb⟩
    rw [HM0.out]
    have B1 := Lib.hid (B0.out.later hb)
    have HB1 := Lib.hid (HB0.out.trans (hb.mono HB0.out.size))
    have g0 := B1.out.cell 0 _ rfl
    have g1 := B1.out.cell 1 _ rfl
    have g2 := B1.out.cell 2 _ rfl
    have g3 := B1.out.cell 3 _ rfl
    have g4 := B1.out.cell 4 _ rfl
    have g5 := B1.out.cell 5 _ rfl
    clear hb
    go_wp2
    go_ret
    exact ⟨by rw [He.out]; rfl, HB1.out⟩
set_option maxRecDepth 100000 in
theorem toConf : ToC confK agg 28 := by
  intro cs x w hs hr
  obtain ⟨x0, x1, x2, x3, x4, x5⟩ := x
  rw [conf_sz] at hs
  obtain ⟨ax0, px0, rfl, rx0⟩ := conf_form hr
  have Rx0 := Lib.hid rx0
  clear hr rx0
  have hsz : ∀ (w : World) o, (w.alloc o).heap.size = w.heap.size + 1 := fun w o => by simp
  have A1 := Lib.hid (((Bx.new 24 #[.slice ax0 x0.length px0, .int .i64 x1, .int .i64 x2, .int .i64 x3, .int .i64 x4, .int .i64 x5] w).alloc (Obj.cells #[.slice none 0 0, .int .i64 0, .int .i64 0, .int .i64 0, .int .i64 0, .int .i64 0] 43)).alloc (Obj.cells #[.slice none 0 0, .int .i64 0, .int .i64 0, .int .i64 0, .int .i64 0, .int .i64 0] 43))
  have A2 := (Bx.new 43 #[.slice none 0 0, .int .i64 0, .int .i64 0, .int .i64 0, .int .i64 0, .int .i64 0] (w.alloc (Obj.cells #[.slice ax0 x0.length px0, .int .i64 x1, .int .i64 x2, .int .i64 x3, .int .i64 x4, .int .i64 x5] 24))).alloc (Obj.cells #[.slice none 0 0, .int .i64 0, .int .i64 0, .int .i64 0, .int .i64 0, .int .i64 0] 43)
  have A3 := Bx.new 43 #[.slice none 0 0, .int .i64 0, .int .i64 0, .int .i64 0, .int .i64 0, .int .i64 0] ((w.alloc (Obj.cells #[.slice ax0 x0.length px0, .int .i64 x1, .int .i64 x2, .int .i64 x3, .int .i64 x4, .int .i64 x5] 24)).alloc (Obj.cells #[.slice none 0 0, .int .i64 0, .int .i64 0, .int .i64 0, .int .i64 0, .int .i64 0] 43))
  rw [hsz] at A2
  rw [hsz, hsz] at A3
  have HA2 := Lib.hid A2
  have HA3 := Lib.hid A3
  have HB0 := Lib.hid ((((Below.refl w.heap.size w).alloc (Nat.le_refl _) (Obj.cells #[.slice ax0 x0.length px0, .int .i64 x1, .int .i64 x2, .int .i64 x3, .int .i64 x4, .int .i64 x5] 24)).alloc (by simp) (Obj.cells #[.slice none 0 0, .int .i64 0, .int .i64 0, .int .i64 0, .int .i64 0, .int .i64 0] 43)).alloc (by simp; omega) (Obj.cells #[.slice none 0 0, .int .i64 0, .int .i64 0, .int .i64 0, .int .i64 0, .int .i64 0] 43))
  have hn3 := size_alloc3 w (Obj.cells #[.slice ax0 x0.length px0, .int .i64 x1, .int .i64 x2, .int .i64 x3, .int .i64 x4, .int .i64 x5] 24) (Obj.cells #[.slice none 0 0, .int .i64 0, .int .i64 0, .int .i64 0, .int .i64 0, .int .i64 0] 43) (Obj.cells #[.slice none 0 0, .int .i64 0, .int .i64 0, .int .i64 0, .int .i64 0, .int .i64 0] 43)
  have Hz0 : Hid (w.heap.size + 1 + 1 + 1 ≤ (((w.alloc (Obj.cells #[.slice ax0 x0.length px0, .int .i64 x1, .int .i64 x2, .int .i64 x3, .int .i64 x4, .int .i64 x5] 24)).alloc (Obj.cells #[.slice none 0 0, .int .i64 0, .int .i64 0, .int .i64 0, .int .i64 0, .int .i64 0] 43)).alloc (Obj.cells #[.slice none 0 0, .int .i64 0, .int .i64 0, .int .i64 0, .int .i64 0, .int .i64 0] 43)).heap.size) := Lib.hid (by rw [hn3]; exact Nat.le_refl _)
  clear A2 A3 hsz hn3
  show Calls _ _ #[.agg #[.slice ax0 x0.length px0, .int .i64 x1, .int .i64 x2, .int .i64 x3, .int .i64 x4, .int .i64 x5]] w _
  go_enter Tryz.func28, Tryz.ntmps28
  go_wp2_with fail
  have X1_0 := A1
  have X2_0 := HA2
  have X3_0 := HA3
  clear A1 HA2 HA3
  generalize ((w.alloc (Obj.cells #[.slice ax0 x0.length px0, .int .i64 x1, .int .i64 x2, .int .i64 x3, .int .i64 x4, .int .i64 x5] 24)).alloc (Obj.cells #[.slice none 0 0, .int .i64 0, .int .i64 0, .int .i64 0, .int .i64 0, .int .i64 0] 43)).alloc (Obj.cells #[.slice none 0 0, .int .i64 0, .int .i64 0, .int .i64 0, .int .i64 0, .int .i64 0] 43) = y0 at X1_0 X2_0 X3_0 HB0 Hz0 ⊢
  have HB_0 := HB0
  clear HB0
  refine (toMConfS [.slice ax0 x0.length px0] x0 _ (by omega) (mConfS.rd_later Rx0.out HB_0.out)).mono ?_
  rintro e v1 ⟨us, he, hc, hb⟩
  obtain ⟨bx0, qx0, rfl, _⟩ := mConfS.cap_rd hc
  obtain rfl : e = .returned (.slice bx0 x0.length qx0) := he
  have Vx0 := Lib.hid (mConfS.cap_wide (mConfS.cap_top hc) (G := fun k => y0.heap.size ≤ k ∧ k < v1.heap.size) (fun k _ hk => hk))
  have W1 := Lib.hid (X1_0.out.later hb)
  have W2 := Lib.hid (X2_0.out.later hb)
  have W3 := Lib.hid (X3_0.out.later hb)
  have WB := Lib.hid (HB_0.out.trans (hb.mono HB_0.out.size))
  have Wz := Lib.hid (Nat.le_trans Hz0.out hb.size)
  have Ws := Lib.hid hb.size
  have Wy0 := Lib.hid Hz0.out
  clear hc hb
  have g0 := W3.out.cell 0 _ rfl
  have g1 := W3.out.cell 1 _ rfl
  have g2 := W3.out.cell 2 _ rfl
  have g3 := W3.out.cell 3 _ rfl
  have g4 := W3.out.cell 4 _ rfl
  have g5 := W3.out.cell 5 _ rfl
  have a0 := W1.out.cell 0 _ rfl
  have a1 := W1.out.cell 1 _ rfl
  have a2 := W1.out.cell 2 _ rfl
  have a3 := W1.out.cell 3 _ rfl
  have a4 := W1.out.cell 4 _ rfl
  have a5 := W1.out.cell 5 _ rfl
  have z0 := W3.out.warm 0
  have z1 := W3.out.warm 1
  have z2 := W3.out.warm 2
  have z3 := W3.out.warm 3
  have z4 := W3.out.warm 4
  have z5 := W3.out.warm 5
  have e0 := W2.out.cell 0 _ rfl
  have e1 := W2.out.cell 1 _ rfl
  have e2 := W2.out.cell 2 _ rfl
  have e3 := W2.out.cell 3 _ rfl
  have e4 := W2.out.cell 4 _ rfl
  have e5 := W2.out.cell 5 _ rfl
  have f0 := W2.out.warm 0
  have f1 := W2.out.warm 1
  have f2 := W2.out.warm 2
  have f3 := W2.out.warm 3
  have f4 := W2.out.warm 4
  have f5 := W2.out.warm 5
  go_wp2_with fail
  have Tx0 : Hid (∀ w2, Turn (fun k => k = w.heap.size + 1 + 1 ∨ k = w.heap.size + 1) v1 w2 → mConfS.cap (fun k => y0.heap.size ≤ k ∧ k < v1.heap.size) [.slice bx0 x0.length qx0] x0 w2) := Lib.hid (fun w2 ht => mConfS.cap_turn Vx0.out ht (fun k _ hk he => by have h1 := Wy0.out; have h2 : y0.heap.size ≤ k := hk.1; omega))
  refine bodyPost_ret (v := .agg #[.slice bx0 x0.length qx0, .int .i64 x1, .int .i64 x2, .int .i64 x3, .int .i64 x4, .int .i64 x5]) (by simp [results, Tryz.results28, go_sem, e0, e1, e2, e3, e4, e5]) rfl ⟨[.slice bx0 x0.length qx0, .int .i64 x1, .int .i64 x2, .int .i64 x3, .int .i64 x4, .int .i64 x5], rfl, ?_, ?_⟩
  · have ht : ∀ {w2 : World}, Turn (fun k => k = w.heap.size + 1 + 1 ∨ k = w.heap.size + 1) v1 w2 → confK.cap (fun k => w.heap.size ≤ k) [.slice bx0 x0.length qx0, .int .i64 x1, .int .i64 x2, .int .i64 x3, .int .i64 x4, .int .i64 x5] (x0, x1, x2, x3, x4, x5) w2 := fun {w2} ht => by
      have tx0 := Tx0.out w2 ht
      exact conf_cap tx0 (fun k hk => by have h1 := Wy0.out; have h2 : y0.heap.size ≤ k := (hk).1; omega) 
    refine ht ?_
    iterate 12 refine Turn.set ?_ (by simp) _
    exact Turn.refl _ _
  · iterate 12 refine Below.setCell ?_ (by dsimp only; omega) _
    exact WB.out
set_option maxRecDepth 100000 in
theorem eqConf : EqC confK agg 43 := by
  intro cs ds x w hs hr hr2
  obtain ⟨x0, x1, x2, x3, x4, x5⟩ := x
  rw [conf_sz] at hs
  obtain ⟨ax0, px0, rfl, rx0⟩ := conf_form hr
  have Rx0 := Lib.hid rx0
  clear hr rx0
  obtain ⟨bx0, qx0, rfl, sx0⟩ := conf_form hr2
  have Sx0 := Lib.hid sx0
  clear hr2 sx0
  have hsz : ∀ (w : World) o, (w.alloc o).heap.size = w.heap.size + 1 := fun w o => by simp
  have A0 := Lib.hid ((Bx.new 43 #[.slice ax0 x0.length px0, .int .i64 x1, .int .i64 x2, .int .i64 x3, .int .i64 x4, .int .i64 x5] w).alloc (Obj.cells #[.slice bx0 x0.length qx0, .int .i64 x1, .int .i64 x2, .int .i64 x3, .int .i64 x4, .int .i64 x5] 43))
  have B0 := Bx.new 43 #[.slice bx0 x0.length qx0, .int .i64 x1, .int .i64 x2, .int .i64 x3, .int .i64 x4, .int .i64 x5] (w.alloc (Obj.cells #[.slice ax0 x0.length px0, .int .i64 x1, .int .i64 x2, .int .i64 x3, .int .i64 x4, .int .i64 x5] 43))
  rw [hsz] at B0
  have X0 := Lib.hid B0
  clear B0 hsz
  have HB0 := Lib.hid (((Below.refl w.heap.size w).alloc (Nat.le_refl _) (Obj.cells #[.slice ax0 x0.length px0, .int .i64 x1, .int .i64 x2, .int .i64 x3, .int .i64 x4, .int .i64 x5] 43)).alloc (by simp) (Obj.cells #[.slice bx0 x0.length qx0, .int .i64 x1, .int .i64 x2, .int .i64 x3, .int .i64 x4, .int .i64 x5] 43))
  have nx1 : (x1 != x1) = false := by simp
  have nx2 : (x2 != x2) = false := by simp
  have nx3 : (x3 != x3) = false := by simp
  have nx4 : (x4 != x4) = false := by simp
  have nx5 : (x5 != x5) = false := by simp
  show Calls _ _ #[.agg #[.slice ax0 x0.length px0, .int .i64 x1, .int .i64 x2, .int .i64 x3, .int .i64 x4, .int .i64 x5], .agg #[.slice bx0 x0.length qx0, .int .i64 x1, .int .i64 x2, .int .i64 x3, .int .i64 x4, .int .i64 x5]] w _
  go_enter Tryz.func43, Tryz.ntmps43
  go_wp2_with fail
  generalize (w.alloc (Obj.cells #[.slice ax0 x0.length px0, .int .i64 x1, .int .i64 x2, .int .i64 x3, .int .i64 x4, .int .i64 x5] 43)).alloc (Obj.cells #[.slice bx0 x0.length qx0, .int .i64 x1, .int .i64 x2, .int .i64 x3, .int .i64 x4, .int .i64 x5] 43) = y0 at A0 X0 HB0 ⊢
  refine (eqMConfS [.slice ax0 x0.length px0] [.slice bx0 x0.length qx0] x0 _ (by omega) (mConfS.rd_later Rx0.out HB0.out) (mConfS.rd_later Sx0.out HB0.out)).mono ?_
  rintro e y1 ⟨rfl, hb⟩
  have A1 := Lib.hid (A0.out.later hb)
  have X1 := Lib.hid (X0.out.later hb)
  have HB1 := Lib.hid (HB0.out.trans (hb.mono HB0.out.size))
  clear hb
  have g0 := A1.out.cell 0 _ rfl
  have g1 := A1.out.cell 1 _ rfl
  have g2 := A1.out.cell 2 _ rfl
  have g3 := A1.out.cell 3 _ rfl
  have g4 := A1.out.cell 4 _ rfl
  have g5 := A1.out.cell 5 _ rfl
  have k0 := X1.out.cell 0 _ rfl
  have k1 := X1.out.cell 1 _ rfl
  have k2 := X1.out.cell 2 _ rfl
  have k3 := X1.out.cell 3 _ rfl
  have k4 := X1.out.cell 4 _ rfl
  have k5 := X1.out.cell 5 _ rfl
  go_wp2
  go_ret
  exact ⟨rfl, HB1.out⟩
end Go.Proofs.YtdhaelaoackfkaaGreat.KD

namespace Go.Proofs.YtdhaelaoackfkaaGreat.KD
open Go.RowKit Rows3 GR
set_option linter.unusedVariables false

def doneK : Kn (Int × Int × Bool × Int × Int × Int × Int) := prod int (prod int (prod bool (prod int (prod int (prod int int)))))
theorem done_form {cs : List Value} {x0 : Int} {x1 : Int} {x2 : Bool} {x3 : Int} {x4 : Int} {x5 : Int} {x6 : Int} {w : World} (h : doneK.rd cs (x0, x1, x2, x3, x4, x5, x6) w) :
    cs = [.int .i64 x0, .int .i64 x1, .bool x2, .int .i64 x3, .int .i64 x4, .int .i64 x5, .int .i64 x6] := by
  obtain ⟨c0, r0, rfl, h0, c1, r1, rfl, h1, c2, r2, rfl, h2, c3, r3, rfl, h3, c4, r4, rfl, h4, c5, r5, rfl, h5, h6⟩ := h
  obtain rfl := h0
  obtain rfl := h1
  obtain rfl := h2
  obtain rfl := h3
  obtain rfl := h4
  obtain rfl := h5
  obtain rfl := h6
  rfl
theorem done_rd  {x0 : Int} {x1 : Int} {x2 : Bool} {x3 : Int} {x4 : Int} {x5 : Int} {x6 : Int} {w : World}  : doneK.rd [.int .i64 x0, .int .i64 x1, .bool x2, .int .i64 x3, .int .i64 x4, .int .i64 x5, .int .i64 x6] (x0, x1, x2, x3, x4, x5, x6) w :=
  ⟨[.int .i64 x0], _, rfl, rfl, ⟨[.int .i64 x1], _, rfl, rfl, ⟨[.bool x2], _, rfl, rfl, ⟨[.int .i64 x3], _, rfl, rfl, ⟨[.int .i64 x4], _, rfl, rfl, ⟨[.int .i64 x5], _, rfl, rfl, rfl⟩⟩⟩⟩⟩⟩
theorem done_capz (F : Foot) (x0 : Int) (x1 : Int) (x2 : Bool) (x3 : Int) (x4 : Int) (x5 : Int) (x6 : Int) (w : World) : doneK.cap F [.int .i64 x0, .int .i64 x1, .bool x2, .int .i64 x3, .int .i64 x4, .int .i64 x5, .int .i64 x6] (x0, x1, x2, x3, x4, x5, x6) w :=
  ⟨[.int .i64 x0], _, fun _ => False, fun _ => False, rfl, fun _ h => h.elim, fun _ h => h.elim, rfl, ⟨[.int .i64 x1], _, fun _ => False, fun _ => False, rfl, fun _ h => h.elim, fun _ h => h.elim, rfl, ⟨[.bool x2], _, fun _ => False, fun _ => False, rfl, fun _ h => h.elim, fun _ h => h.elim, rfl, ⟨[.int .i64 x3], _, fun _ => False, fun _ => False, rfl, fun _ h => h.elim, fun _ h => h.elim, rfl, ⟨[.int .i64 x4], _, fun _ => False, fun _ => False, rfl, fun _ h => h.elim, fun _ h => h.elim, rfl, ⟨[.int .i64 x5], _, fun _ => False, fun _ => False, rfl, fun _ h => h.elim, fun _ h => h.elim, rfl, rfl⟩⟩⟩⟩⟩⟩
theorem done_mI (x0 : Int) (x1 : Int) (x2 : Bool) (x3 : Int) (x4 : Int) (x5 : Int) (x6 : Int) (k : Int) : doneK.mI (x0, x1, x2, x3, x4, x5, x6) k = (k, k + 1, ((k + 1 + 1) % 3 == 0), k + 1 + 1 + 1, k + 1 + 1 + 1 + 1, k + 1 + 1 + 1 + 1 + 1, k + 1 + 1 + 1 + 1 + 1 + 1) := rfl
theorem done_cI (x0 : Int) (x1 : Int) (x2 : Bool) (x3 : Int) (x4 : Int) (x5 : Int) (x6 : Int) : doneK.cI (x0, x1, x2, x3, x4, x5, x6) = 7 := by
  show (1 + (1 + (1 + (1 + (1 + (1 + 1)))))) = _
  omega
set_option maxRecDepth 100000 in
theorem toDone : ToC doneK agg 67 := by
  intro cs x w hs hr
  obtain ⟨x0, x1, x2, x3, x4, x5, x6⟩ := x
  obtain rfl := done_form hr
  have hsz : ∀ (w : World) o, (w.alloc o).heap.size = w.heap.size + 1 := fun w o => by simp
  have A1 := ((Bx.new 118 #[.int .i64 x0, .int .i64 x1, .bool x2, .int .i64 x3, .int .i64 x4, .int .i64 x5, .int .i64 x6] w).alloc (Obj.cells #[.int .i64 0, .int .i64 0, .bool false, .int .i64 0, .int .i64 0, .int .i64 0, .int .i64 0] 109)).alloc (Obj.cells #[.int .i64 x0, .int .i64 x1, .bool x2, .int .i64 x3, .int .i64 x4, .int .i64 x5, .int .i64 x6] 109)
  have A0 := ((Bx.new 118 #[.int .i64 x0, .int .i64 x1, .bool x2, .int .i64 x3, .int .i64 x4, .int .i64 x5, .int .i64 x6] w).alloc (Obj.cells #[.int .i64 0, .int .i64 0, .bool false, .int .i64 0, .int .i64 0, .int .i64 0, .int .i64 0] 109)).alloc (Obj.cells #[.int .i64 0, .int .i64 0, .bool false, .int .i64 0, .int .i64 0, .int .i64 0, .int .i64 0] 109)
  have A2 := (Bx.new 109 #[.int .i64 0, .int .i64 0, .bool false, .int .i64 0, .int .i64 0, .int .i64 0, .int .i64 0] (w.alloc (Obj.cells #[.int .i64 x0, .int .i64 x1, .bool x2, .int .i64 x3, .int .i64 x4, .int .i64 x5, .int .i64 x6] 118))).alloc (Obj.cells #[.int .i64 x0, .int .i64 x1, .bool x2, .int .i64 x3, .int .i64 x4, .int .i64 x5, .int .i64 x6] 109)
  have A3 := Bx.new 109 #[.int .i64 x0, .int .i64 x1, .bool x2, .int .i64 x3, .int .i64 x4, .int .i64 x5, .int .i64 x6] ((w.alloc (Obj.cells #[.int .i64 x0, .int .i64 x1, .bool x2, .int .i64 x3, .int .i64 x4, .int .i64 x5, .int .i64 x6] 118)).alloc (Obj.cells #[.int .i64 0, .int .i64 0, .bool false, .int .i64 0, .int .i64 0, .int .i64 0, .int .i64 0] 109))
  rw [hsz] at A2
  rw [hsz, hsz] at A3
  have g0 := A1.cell 0 _ rfl
  have h0 := A0.cell 0 _ rfl
  have k0 := A2.cell 0 _ rfl
  have z0 := A2.warm 0
  have m0 := A3.cell 0 _ rfl
  have g1 := A1.cell 1 _ rfl
  have h1 := A0.cell 1 _ rfl
  have k1 := A2.cell 1 _ rfl
  have z1 := A2.warm 1
  have m1 := A3.cell 1 _ rfl
  have g2 := A1.cell 2 _ rfl
  have h2 := A0.cell 2 _ rfl
  have k2 := A2.cell 2 _ rfl
  have z2 := A2.warm 2
  have m2 := A3.cell 2 _ rfl
  have g3 := A1.cell 3 _ rfl
  have h3 := A0.cell 3 _ rfl
  have k3 := A2.cell 3 _ rfl
  have z3 := A2.warm 3
  have m3 := A3.cell 3 _ rfl
  have g4 := A1.cell 4 _ rfl
  have h4 := A0.cell 4 _ rfl
  have k4 := A2.cell 4 _ rfl
  have z4 := A2.warm 4
  have m4 := A3.cell 4 _ rfl
  have g5 := A1.cell 5 _ rfl
  have h5 := A0.cell 5 _ rfl
  have k5 := A2.cell 5 _ rfl
  have z5 := A2.warm 5
  have m5 := A3.cell 5 _ rfl
  have g6 := A1.cell 6 _ rfl
  have h6 := A0.cell 6 _ rfl
  have k6 := A2.cell 6 _ rfl
  have z6 := A2.warm 6
  have m6 := A3.cell 6 _ rfl
  clear A1 A0 A2 A3 hsz hr hs
  show Calls _ _ #[.agg #[.int .i64 x0, .int .i64 x1, .bool x2, .int .i64 x3, .int .i64 x4, .int .i64 x5, .int .i64 x6]] w _
  go_enter Tryz.func67, Tryz.ntmps67
  go_wp2_with fail
  refine bodyPost_ret (v := .agg #[.int .i64 x0, .int .i64 x1, .bool x2, .int .i64 x3, .int .i64 x4, .int .i64 x5, .int .i64 x6]) (by simp [results, Tryz.results67, go_sem]) rfl ⟨[.int .i64 x0, .int .i64 x1, .bool x2, .int .i64 x3, .int .i64 x4, .int .i64 x5, .int .i64 x6], rfl, done_capz _ x0 x1 x2 x3 x4 x5 x6 _, ?_⟩
  exact (((Below.refl w.heap.size w).alloc (Nat.le_refl _) _).alloc (by simp) _).alloc (by simp; omega) _
set_option maxRecDepth 100000 in
theorem eqDone : EqC doneK agg 86 := by
  intro cs ds x w hs hr hr2
  obtain ⟨x0, x1, x2, x3, x4, x5, x6⟩ := x
  obtain rfl := done_form hr
  obtain rfl := done_form hr2
  have hsz : ∀ (w : World) o, (w.alloc o).heap.size = w.heap.size + 1 := fun w o => by simp
  have A0 := (Bx.new 109 #[.int .i64 x0, .int .i64 x1, .bool x2, .int .i64 x3, .int .i64 x4, .int .i64 x5, .int .i64 x6] w).alloc (Obj.cells #[.int .i64 x0, .int .i64 x1, .bool x2, .int .i64 x3, .int .i64 x4, .int .i64 x5, .int .i64 x6] 109)
  have B0 := Bx.new 109 #[.int .i64 x0, .int .i64 x1, .bool x2, .int .i64 x3, .int .i64 x4, .int .i64 x5, .int .i64 x6] (w.alloc (Obj.cells #[.int .i64 x0, .int .i64 x1, .bool x2, .int .i64 x3, .int .i64 x4, .int .i64 x5, .int .i64 x6] 109))
  rw [hsz] at B0
  have g0 := A0.cell 0 _ rfl
  have k0 := B0.cell 0 _ rfl
  have g1 := A0.cell 1 _ rfl
  have k1 := B0.cell 1 _ rfl
  have g2 := A0.cell 2 _ rfl
  have k2 := B0.cell 2 _ rfl
  have g3 := A0.cell 3 _ rfl
  have k3 := B0.cell 3 _ rfl
  have g4 := A0.cell 4 _ rfl
  have k4 := B0.cell 4 _ rfl
  have g5 := A0.cell 5 _ rfl
  have k5 := B0.cell 5 _ rfl
  have g6 := A0.cell 6 _ rfl
  have k6 := B0.cell 6 _ rfl
  have HB := Lib.hid (((Below.refl w.heap.size w).alloc (Nat.le_refl _) (Obj.cells #[.int .i64 x0, .int .i64 x1, .bool x2, .int .i64 x3, .int .i64 x4, .int .i64 x5, .int .i64 x6] 109)).alloc (by simp) (Obj.cells #[.int .i64 x0, .int .i64 x1, .bool x2, .int .i64 x3, .int .i64 x4, .int .i64 x5, .int .i64 x6] 109))
  clear A0 B0 hsz hr hr2 hs
  have nx0 : (x0 != x0) = false := by simp
  have nx1 : (x1 != x1) = false := by simp
  have nx2 : (x2 != x2) = false := by simp
  have nx3 : (x3 != x3) = false := by simp
  have nx4 : (x4 != x4) = false := by simp
  have nx5 : (x5 != x5) = false := by simp
  have nx6 : (x6 != x6) = false := by simp
  show Calls _ _ #[.agg #[.int .i64 x0, .int .i64 x1, .bool x2, .int .i64 x3, .int .i64 x4, .int .i64 x5, .int .i64 x6], .agg #[.int .i64 x0, .int .i64 x1, .bool x2, .int .i64 x3, .int .i64 x4, .int .i64 x5, .int .i64 x6]] w _
  go_enter Tryz.func86, Tryz.ntmps86
  go_wp2
  go_ret
  exact ⟨rfl, HB.out⟩
end Go.Proofs.YtdhaelaoackfkaaGreat.KD

namespace Go.Proofs.YtdhaelaoackfkaaGreat.KD
open Go.RowKit Rows3 GR
set_option linter.unusedVariables false

def doneS : Kn (List (Int × Int × Bool × Int × Int × Int × Int)) := row doneK (by decide)
set_option maxHeartbeats 4000000 in
set_option maxRecDepth 100000 in
theorem szDoneS : SzC doneS one 17 := by
  intro cs l L w hr h0 h1
  obtain ⟨ad, cp, rfl, hl1, hl2⟩ := row_form hr
  have HR := Lib.hid hr
  rw [show doneS.sz l = szL doneK l from rfl]
  have hall : szL doneK l = l.length := by
    clear hr hl1 HR h0 h1
    induction l with
    | nil => rfl
    | cons x l ih => simp only [szL, List.length_cons, ih]; show 1 + 0 + l.length = _; omega
  obtain ⟨n, hn⟩ : ∃ n, l.length = n := ⟨_, rfl⟩
  have HN := Lib.hid hn
  rw [hn] at hl1
  have hle : n ≤ 9223372036854775807 := by omega
  rw [hall, hn]
  clear hr hn hall HR HN hl1 hl2
  show Calls _ _ #[.slice ad n cp, .int .i64 L] w _
  by_cases h : (n : Int) ≤ L
  · have He := Lib.hid (szW_yes h)
    have h2 : ¬ L - (n : Int) < 0 := by omega
    go_enter Tryz.func17, Tryz.ntmps17
    go_wp2
    go_ret
    exact ⟨by rw [He.out]; rfl, Below.refl _ _⟩
  · have He := Lib.hid (szW_no (by omega : L < (n : Int)))
    have h2 : L - (n : Int) < 0 := by omega
    go_enter Tryz.func17, Tryz.ntmps17
    go_wp2
    go_ret
    exact ⟨by rw [He.out]; rfl, Below.refl _ _⟩
theorem info_iDone : (Tryz.prog.info? 109).map (fun i => (i.zero, i.size, decide (i.bytes ≤ 1000))) = some (some (.agg #[.int .i64 0, .int .i64 0, .bool false, .int .i64 0, .int .i64 0, .int .i64 0, .int .i64 0]), 7, true) := by kernel_rfl
set_option maxHeartbeats 4000000 in
set_option maxRecDepth 100000 in
theorem toDoneS : ToC doneS one 35 := by
  intro cs l w hs hr
  obtain ⟨ad, cp, rfl, hl1, hl2⟩ := row_form hr
  have HR := Lib.hid hr
  have hln : l.length ≤ 2000000 := Nat.le_trans (szL_len doneK l) hs
  have HSZ := Lib.hid (show szL doneK l ≤ 2000000 from hs)
  obtain ⟨n, hn⟩ : ∃ n, l.length = n := ⟨_, rfl⟩
  have HN := Lib.hid hn
  rw [hn] at hln ⊢
  obtain ⟨i0, hi, hz0, hz1, hz2⟩ := info_parts' info_iDone
  have hmk := fun W => make_runK (P := Tryz.prog) 51 109 i0 _ Tryz.underlying51 hi hz0 7 hz1 hz2 n hln W
  have Ho0 : Hid (doneS.cap (fun k => w.heap.size ≤ k) [.slice (some ⟨w.heap.size, 0, none⟩) n n] (midT l (0, 0, false, 0, 0, 0, 0) 0) (w.alloc (.cells (madeCells #[.int .i64 0, .int .i64 0, .bool false, .int .i64 0, .int .i64 0, .int .i64 0, .int .i64 0] (n * 7)) 109))) := Lib.hid (by rw [midT_zero, hn]; exact row_made w n #[.int .i64 0, .int .i64 0, .bool false, .int .i64 0, .int .i64 0, .int .i64 0, .int .i64 0] (0, 0, false, 0, 0, 0, 0) 109 rfl (fun w => done_capz _ 0 0 false 0 0 0 0 w) hln)
  clear hr hn hl1 hl2 hi hz0 hz1 hz2 hs
  show Calls _ _ #[.slice ad n cp] w _
  go_enter Tryz.func35, Tryz.ntmps35
  go_wp2
  clear hmk
  go_loopw [4] (fun i wr => ∃ j : Nat, j ≤ n ∧ i = .int .i64 j ∧ doneS.cap (fun k => w.heap.size ≤ k) [.slice (some ⟨w.heap.size, 0, none⟩) n n] (midT l (0, 0, false, 0, 0, 0, 0) j) wr ∧ Below w.heap.size w wr) (fun i _ => n - (intOf i).toNat)
  case atStart => exact ⟨0, by omega, rfl, Ho0.out, (Below.refl _ _).alloc (Nat.le_refl _) _⟩
  case round =>
    obtain ⟨j, hj, rfl, hown, hb⟩ := hrel
    have Ho := Lib.hid hown
    clear hown
    by_cases hlt : j < n
    · obtain ⟨x, hx⟩ := get_of (l := l) (i := j) (by rw [HN.out]; exact hlt)
      have hsx : doneK.sz x ≤ 2000000 := Nat.le_trans (szL_mem doneK (List.mem_of_getElem? hx)) HSZ.out
      have Hst := Lib.hid (midT_step (0, 0, false, 0, 0, 0, 0) hx)
      have Hb0 := Lib.hid hb
      obtain ⟨x0, x1, x2, x3, x4, x5, x6⟩ := x
      obtain ⟨b, o, _, es, e, _, _, lt, c, x⟩ := row_rd HR.out hx
      cases e
      have hrx := x
      obtain rfl := done_form x
      have g0 : w.cell? ⟨b, o + j * 7, none⟩ = some (.int .i64 x0) := c 0 _ rfl
      have g1 : w.cell? ⟨b, o + j * 7 + 1, none⟩ = some (.int .i64 x1) := c 1 _ rfl
      have g2 : w.cell? ⟨b, o + j * 7 + 2, none⟩ = some (.bool x2) := c 2 _ rfl
      have g3 : w.cell? ⟨b, o + j * 7 + 3, none⟩ = some (.int .i64 x3) := c 3 _ rfl
      have g4 : w.cell? ⟨b, o + j * 7 + 4, none⟩ = some (.int .i64 x4) := c 4 _ rfl
      have g5 : w.cell? ⟨b, o + j * 7 + 5, none⟩ = some (.int .i64 x5) := c 5 _ rfl
      have g6 : w.cell? ⟨b, o + j * 7 + 6, none⟩ = some (.int .i64 x6) := c 6 _ rfl
      rw [← bel_cells hb lt] at g0 g1 g2 g3 g4 g5 g6
      have Hx := Lib.hid (doneK.rd_later hrx hb)
      clear hx hrx c x hb
      obtain ⟨g, og, cg, es, E, eg, _, _, hgF, hgl, hes, hseg, _, hE, cont⟩ := row_at Ho.out (midT_at (0, 0, false, 0, 0, 0, 0) (by rw [HN.out]; exact hlt))
      rw [midT_len _ (by rw [HN.out]; omega), HN.out] at eg
      simp at eg
      obtain ⟨⟨rfl, rfl⟩, rfl⟩ := eg
      have hoff : 0 + j * doneK.n = j * 7 := by rw [Nat.zero_add]; rfl
      rw [hoff] at hseg cont
      obtain ⟨v0, v1, v2, v3, v4, v5, v6, rfl⟩ : ∃ v0 v1 v2 v3 v4 v5 v6, es = [v0, v1, v2, v3, v4, v5, v6] := by
        match es, (show es.length = 7 from hes) with
        | [v0, v1, v2, v3, v4, v5, v6], _ => exact ⟨_, _, _, _, _, _, _, rfl⟩
      have Hseg := Lib.hid hseg
      have Cont := Lib.hid cont
      clear hseg cont hE hes
      go_wp2_with fail
      refine (toDone [.int .i64 x0, .int .i64 x1, .bool x2, .int .i64 x3, .int .i64 x4, .int .i64 x5, .int .i64 x6] (x0, x1, x2, x3, x4, x5, x6) _ hsx Hx.out).mono ?_
      rintro e w2 ⟨us, he, hc, hb2⟩
      obtain rfl := done_form (doneK.cap_rd hc)
      obtain rfl : e = .returned (.agg #[.int .i64 x0, .int .i64 x1, .bool x2, .int .i64 x3, .int .i64 x4, .int .i64 x5, .int .i64 x6]) := he
      have hs2 := Hseg.out.later hb2
      have f0 := hs2.cell 0 _ rfl (n := j * 7) rfl
      have f1 := hs2.cell 1 _ rfl (n := j * 7 + 1) rfl
      have f2 := hs2.cell 2 _ rfl (n := j * 7 + 2) rfl
      have f3 := hs2.cell 3 _ rfl (n := j * 7 + 3) rfl
      have f4 := hs2.cell 4 _ rfl (n := j * 7 + 4) rfl
      have f5 := hs2.cell 5 _ rfl (n := j * 7 + 5) rfl
      have f6 := hs2.cell 6 _ rfl (n := j * 7 + 6) rfl
      have z0 := hs2.warm (j * 7)
      have z1 := hs2.warm (j * 7 + 1)
      have z2 := hs2.warm (j * 7 + 2)
      have z3 := hs2.warm (j * 7 + 3)
      have z4 := hs2.warm (j * 7 + 4)
      have z5 := hs2.warm (j * 7 + 5)
      have z6 := hs2.warm (j * 7 + 6)
      have Hch := Lib.hid (((((((((Chg.refl w.heap.size (j * 7) (j * 7 + doneK.n) E wr).later hb2).set (n := j * 7) (by omega) (by show _ < j * 7 + 7; omega) (.int .i64 x0)).set (n := j * 7 + 1) (by omega) (by show _ < j * 7 + 7; omega) (.int .i64 x1)).set (n := j * 7 + 2) (by omega) (by show _ < j * 7 + 7; omega) (.bool x2)).set (n := j * 7 + 3) (by omega) (by show _ < j * 7 + 7; omega) (.int .i64 x3)).set (n := j * 7 + 4) (by omega) (by show _ < j * 7 + 7; omega) (.int .i64 x4)).set (n := j * 7 + 5) (by omega) (by show _ < j * 7 + 7; omega) (.int .i64 x5)).set (n := j * 7 + 6) (by omega) (by show _ < j * 7 + 7; omega) (.int .i64 x6))
      have Hsg := Lib.hid ((((((((hs2.set 0 (.int .i64 x0) (n := j * 7) rfl).set 1 (.int .i64 x1) (n := j * 7 + 1) rfl).set 2 (.bool x2) (n := j * 7 + 2) rfl).set 3 (.int .i64 x3) (n := j * 7 + 3) rfl).set 4 (.int .i64 x4) (n := j * 7 + 4) rfl).set 5 (.int .i64 x5) (n := j * 7 + 5) rfl).set 6 (.int .i64 x6) (n := j * 7 + 6) rfl))
      have Hc := Lib.hid hc
      have Hb2 := Lib.hid hb2
      clear hc hb2 hs2 g0 g1 g2 g3 g4 g5 g6
      go_wp2_with fail
      go_roundw
      case rel =>
        refine ⟨j + 1, by omega, by go_num, ?_, ?_⟩
        · have ht : Turn (fun k => k = w.heap.size) w2 _ := (((((((Turn.refl (fun k => k = w.heap.size) w2).set (p := ⟨w.heap.size, j * 7, none⟩) rfl (.int .i64 x0)).set (p := ⟨w.heap.size, j * 7 + 1, none⟩) rfl (.int .i64 x1)).set (p := ⟨w.heap.size, j * 7 + 2, none⟩) rfl (.bool x2)).set (p := ⟨w.heap.size, j * 7 + 3, none⟩) rfl (.int .i64 x3)).set (p := ⟨w.heap.size, j * 7 + 4, none⟩) rfl (.int .i64 x4)).set (p := ⟨w.heap.size, j * 7 + 5, none⟩) rfl (.int .i64 x5)).set (p := ⟨w.heap.size, j * 7 + 6, none⟩) rfl (.int .i64 x6)
          rw [← Hst.out]
          exact doneS.cap_wide (Cont.out _ [.int .i64 x0, .int .i64 x1, .bool x2, .int .i64 x3, .int .i64 x4, .int .i64 x5, .int .i64 x6] (x0, x1, x2, x3, x4, x5, x6) (fun k => wr.heap.size ≤ k) Hch.out Hsg.out rfl (doneK.cap_turn Hc.out ht (fun k _ hk he => by omega)) (fun k hk => .inr hk)) (fun k _ hk => by rcases hk with h | h <;> omega)
        · iterate 7 refine Below.setCell ?_ (by exact Nat.le_refl _) _
          exact Hb0.out.trans (Hb2.out.mono Hb0.out.size)
      case measure => simp [intOf]; omega
    · obtain rfl : j = n := by omega
      go_wp2
      go_ret
      refine ⟨[_], rfl, ?_, hb⟩
      have h := Ho.out
      rw [← HN.out, midT_all] at h
      rw [← HN.out]
      exact h
set_option maxHeartbeats 4000000 in
set_option maxRecDepth 100000 in
theorem eqDoneS : EqC doneS one 50 := by
  intro cs ds l w hs hr hr2
  obtain ⟨ad, cp, rfl, hl1, hl2⟩ := row_form hr
  obtain ⟨bd, dp, rfl, _, _⟩ := row_form hr2
  have HR := Lib.hid hr
  have HR2 := Lib.hid hr2
  have hln : l.length ≤ 2000000 := Nat.le_trans (szL_len doneK l) hs
  have HSZ := Lib.hid (show szL doneK l ≤ 2000000 from hs)
  obtain ⟨n, hn⟩ : ∃ n, l.length = n := ⟨_, rfl⟩
  have HN := Lib.hid hn
  rw [hn] at hln ⊢
  clear hr hr2 hn hl1 hl2 hs
  have hne : (((n : Nat) : Int) != ((n : Nat) : Int)) = false := by simp
  show Calls _ _ #[.slice ad n cp, .slice bd n dp] w _
  go_enter Tryz.func50, Tryz.ntmps50
  go_wp2
  go_loopw [5] (fun i wr => ∃ j : Nat, j ≤ n ∧ i = .int .i64 j ∧ Below w.heap.size w wr) (fun i _ => n - (intOf i).toNat)
  case atStart => exact ⟨0, by omega, rfl, Below.refl _ _⟩
  case round =>
    obtain ⟨j, hj, rfl, hb⟩ := hrel
    by_cases hlt : j < n
    · obtain ⟨x, hx⟩ := get_of (l := l) (i := j) (by rw [HN.out]; exact hlt)
      have hsx : doneK.sz x ≤ 2000000 := Nat.le_trans (szL_mem doneK (List.mem_of_getElem? hx)) HSZ.out
      have Hb0 := Lib.hid hb
      obtain ⟨x0, x1, x2, x3, x4, x5, x6⟩ := x
      obtain ⟨lb, lo, _, les, el, _, _, llt, lc, lx⟩ := row_rd HR.out hx
      cases el
      have lr := lx
      obtain rfl := done_form lx
      have g0 : w.cell? ⟨lb, lo + j * 7, none⟩ = some (.int .i64 x0) := lc 0 _ rfl
      have g1 : w.cell? ⟨lb, lo + j * 7 + 1, none⟩ = some (.int .i64 x1) := lc 1 _ rfl
      have g2 : w.cell? ⟨lb, lo + j * 7 + 2, none⟩ = some (.bool x2) := lc 2 _ rfl
      have g3 : w.cell? ⟨lb, lo + j * 7 + 3, none⟩ = some (.int .i64 x3) := lc 3 _ rfl
      have g4 : w.cell? ⟨lb, lo + j * 7 + 4, none⟩ = some (.int .i64 x4) := lc 4 _ rfl
      have g5 : w.cell? ⟨lb, lo + j * 7 + 5, none⟩ = some (.int .i64 x5) := lc 5 _ rfl
      have g6 : w.cell? ⟨lb, lo + j * 7 + 6, none⟩ = some (.int .i64 x6) := lc 6 _ rfl
      rw [← bel_cells hb llt] at g0 g1 g2 g3 g4 g5 g6
      obtain ⟨mb, mo, _, mes, em, _, _, mlt, mc, mx⟩ := row_rd HR2.out hx
      cases em
      have mr := mx
      obtain rfl := done_form mx
      have k0 : w.cell? ⟨mb, mo + j * 7, none⟩ = some (.int .i64 x0) := mc 0 _ rfl
      have k1 : w.cell? ⟨mb, mo + j * 7 + 1, none⟩ = some (.int .i64 x1) := mc 1 _ rfl
      have k2 : w.cell? ⟨mb, mo + j * 7 + 2, none⟩ = some (.bool x2) := mc 2 _ rfl
      have k3 : w.cell? ⟨mb, mo + j * 7 + 3, none⟩ = some (.int .i64 x3) := mc 3 _ rfl
      have k4 : w.cell? ⟨mb, mo + j * 7 + 4, none⟩ = some (.int .i64 x4) := mc 4 _ rfl
      have k5 : w.cell? ⟨mb, mo + j * 7 + 5, none⟩ = some (.int .i64 x5) := mc 5 _ rfl
      have k6 : w.cell? ⟨mb, mo + j * 7 + 6, none⟩ = some (.int .i64 x6) := mc 6 _ rfl
      rw [← bel_cells hb mlt] at k0 k1 k2 k3 k4 k5 k6
      have Hx := Lib.hid (doneK.rd_later lr hb)
      have Hy := Lib.hid (doneK.rd_later mr hb)
      clear hx lr mr lc mc lx mx hb
      replace g0 := fun d os => cell_regrown g0 d os
      replace k0 := fun d os => cell_regrown k0 d os
      replace g1 := fun d os => cell_regrown g1 d os
      replace k1 := fun d os => cell_regrown k1 d os
      replace g2 := fun d os => cell_regrown g2 d os
      replace k2 := fun d os => cell_regrown k2 d os
      replace g3 := fun d os => cell_regrown g3 d os
      replace k3 := fun d os => cell_regrown k3 d os
      replace g4 := fun d os => cell_regrown g4 d os
      replace k4 := fun d os => cell_regrown k4 d os
      replace g5 := fun d os => cell_regrown g5 d os
      replace k5 := fun d os => cell_regrown k5 d os
      replace g6 := fun d os => cell_regrown g6 d os
      replace k6 := fun d os => cell_regrown k6 d os
      go_wp2_with fail
      refine wp_region_quiet_below (by kernel_rfl) (by kernel_rfl) ?_
      repeat (go_big_quiet_step ((go_at_call 86; exact Calls.regrown_of (eqDone [.int .i64 x0, .int .i64 x1, .bool x2, .int .i64 x3, .int .i64 x4, .int .i64 x5, .int .i64 x6] [.int .i64 x0, .int .i64 x1, .bool x2, .int .i64 x3, .int .i64 x4, .int .i64 x5, .int .i64 x6] (x0, x1, x2, x3, x4, x5, x6) _ hsx (doneK.rd_later Hx.out (below_regrown wr _ _)) (doneK.rd_later Hy.out (below_regrown wr _ _))))))
      refine wpQuiet_nil ?_
      rintro _ ⟨⟨dq, osq⟩, rfl⟩
      have hbw := below_regrown wr dq osq
      generalize Sort.grow (redrawn wr dq) osq = w2 at hbw
      clear g0 k0 g1 k1 g2 k2 g3 k3 g4 k4 g5 k5 g6 k6
      go_wp2_with fail
      go_roundw
      case rel => exact ⟨j + 1, by omega, by go_num, Hb0.out.trans (hbw.mono Hb0.out.size)⟩
      case measure => simp [intOf]; omega
    · go_wp2
      go_ret
      exact ⟨rfl, hb⟩
end Go.Proofs.YtdhaelaoackfkaaGreat.KD
