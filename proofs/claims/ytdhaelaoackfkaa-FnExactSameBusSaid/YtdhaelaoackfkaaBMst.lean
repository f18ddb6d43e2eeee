
/-
  Are two masters, two rows of masters the same (slices.EqualFunc with SameMst). (Made by wip/gbus.py.)
-/
import Derived.Test.YtdhaelaoackfkaaBEq
import Derived.Test.YtdhaelaoackfkaaMst8
import Derived.Test.YtdhaelaoackfkaaMstI4
import Derived.Test.YtdhaelaoackfkaaGKR13
namespace Go.Proofs.Ytdhaelaoackfkaa.KD
open Go.RowKit Rows3 GR Num
set_option linter.unusedVariables false
theorem implSameM_is {cs ds : List Value} {x y : MstX} {b : Bool} (hb : same x y = b) (hx : mstK.sz x ≤ 2000000) (hy : mstK.sz y ≤ 2000000) (w : World) (h : mstK.rd cs x w) (h' : mstK.rd ds y w) :
    Calls Try.prog 67 #[agg cs, agg ds] w fun e w' => e = .returned (.bool b) ∧ Below w.heap.size w w' := by
  obtain ⟨q, be, dn, tr, pa, br⟩ := x
  obtain ⟨q', be', dn', tr', pa', br'⟩ := y
  subst hb
  exact implSameMst cs ds q be dn tr pa br q' be' dn' tr' pa' br' hx hy w h h'
theorem specSameM_is {cs ds : List Value} {x y : MstX} {b : Bool} (hb : same x y = b) (hx : mstK.sz x ≤ 2000000) (hy : mstK.sz y ≤ 2000000) (w : World) (h : mstK.rd cs x w) (h' : mstK.rd ds y w) :
    Calls Try.prog 57 #[agg cs, agg ds] w fun e w' => e = .returned (.bool b) ∧ Below w.heap.size w w' := by
  obtain ⟨q, be, dn, tr, pa, br⟩ := x
  obtain ⟨q', be', dn', tr', pa', br'⟩ := y
  subst hb
  exact specSameMst cs ds q be dn tr pa br q' be' dn' tr' pa' br' hx hy w h h'
set_option maxHeartbeats 8000000 in
set_option maxRecDepth 100000 in
theorem implEqFuncM (a0 : Option Addr) (n p0 : Nat) (q : List MstX) (a0' : Option Addr) (n' p0' : Nat) (q' : List MstX) (hn : q.length = n) (hn' : q'.length = n') (hs : mstS.sz q ≤ 2000000) (hs' : mstS.sz q' ≤ 2000000) (w : World) (h : mstS.rd [.slice a0 n p0] q w) (h' : mstS.rd [.slice a0' n' p0'] q' w) :
    Calls Try.prog 66 #[.slice a0 n p0, .slice a0' n' p0', .func (.func 67) #[] #[]] w fun e w' => e = .returned (.bool (same q q')) ∧ Below w.heap.size w w' := by
  have hl : n ≤ 2000000 := by have := szL_len mstK q; have e : mstS.sz q = szL mstK q := rfl; omega
  have HSZ := Lib.hid hs
  have HSZ' := Lib.hid hs'
  have HN := Lib.hid hn
  have HN' := Lib.hid hn'
  have H0 := Lib.hid h
  have H0' := Lib.hid h'
  obtain ⟨R, hR0⟩ : ∃ R, same q q' = R := ⟨_, rfl⟩
  rw [hR0]
  have HR := Lib.hid hR0
  clear h h' hn hn' hs hs' hR0
  by_cases hnn : n = n'
  · subst hnn
    have hne : (((n : Nat) : Int) != ((n : Nat) : Int)) = false := by simp
    go_enter Try.func66, Try.ntmps66
    go_wp2_with fail
    go_loopw [17] (fun i wr => ∃ j : Nat, j ≤ n ∧ i = .int .i64 j ∧ Hid (upTo q q' j) ∧ Hid (Below w.heap.size w wr)) (fun i _ => n - (intOf i).toNat)
    case atStart => exact ⟨0, by omega, rfl, Lib.hid rfl, Lib.hid (Below.refl _ _)⟩
    case round =>
      obtain ⟨j, hj, rfl, HQ, HB⟩ := hrel
      by_cases hlt : j < n
      · obtain ⟨x, hx⟩ := get_of (l := q) (i := j) (by rw [HN.out]; exact hlt)
        obtain ⟨y, hy⟩ := get_of (l := q') (i := j) (by rw [HN'.out]; exact hlt)
        have hsx : mstK.sz x ≤ 2000000 := Nat.le_trans (szL_mem mstK (List.mem_of_getElem? hx)) HSZ.out
        have hsy : mstK.sz y ≤ 2000000 := Nat.le_trans (szL_mem mstK (List.mem_of_getElem? hy)) HSZ'.out
        have HX := Lib.hid hx
        have HY := Lib.hid hy
        obtain ⟨u, hu⟩ : ∃ u, same x y = u := ⟨_, rfl⟩
        have HU := Lib.hid hu
        have HSX := Lib.hid hsx
        have HSY := Lib.hid hsy
        obtain ⟨b, o, _, es, e, _, _, lt, c, rx⟩ := row_rd H0.out hx
        simp at e
        obtain ⟨rfl, -, rfl⟩ := e
        obtain ⟨b2, o2, _, es2, e2, _, _, lt2, c2, ry⟩ := row_rd H0'.out hy
        simp at e2
        obtain ⟨rfl, -, rfl⟩ := e2
        obtain ⟨x0, x1, x2, x3, x4, x5⟩ := x
        obtain ⟨y0, y1, y2, y3, y4, y5⟩ := y
        have hrx := rx
        have hry := ry
        obtain ⟨ax, px, rfl, _⟩ := mst_form rx
        obtain ⟨ay, py, rfl, _⟩ := mst_form ry
        have g0 : w.cell? ⟨b, o + j * 6, none⟩ = some (.slice ax x0.length px) := c 0 _ rfl
        have g1 : w.cell? ⟨b, o + j * 6 + 1, none⟩ = some (.int .i64 x1) := c 1 _ rfl
        have g2 : w.cell? ⟨b, o + j * 6 + 2, none⟩ = some (.int .i64 x2) := c 2 _ rfl
        have g3 : w.cell? ⟨b, o + j * 6 + 3, none⟩ = some (.int .i64 x3) := c 3 _ rfl
        have g4 : w.cell? ⟨b, o + j * 6 + 4, none⟩ = some (.bool x4) := c 4 _ rfl
        have g5 : w.cell? ⟨b, o + j * 6 + 5, none⟩ = some (.bool x5) := c 5 _ rfl
        rw [← bel_cells HB.out lt] at g0 g1 g2 g3 g4 g5
        have k0 : w.cell? ⟨b2, o2 + j * 6, none⟩ = some (.slice ay y0.length py) := c2 0 _ rfl
        have k1 : w.cell? ⟨b2, o2 + j * 6 + 1, none⟩ = some (.int .i64 y1) := c2 1 _ rfl
        have k2 : w.cell? ⟨b2, o2 + j * 6 + 2, none⟩ = some (.int .i64 y2) := c2 2 _ rfl
        have k3 : w.cell? ⟨b2, o2 + j * 6 + 3, none⟩ = some (.int .i64 y3) := c2 3 _ rfl
        have k4 : w.cell? ⟨b2, o2 + j * 6 + 4, none⟩ = some (.bool y4) := c2 4 _ rfl
        have k5 : w.cell? ⟨b2, o2 + j * 6 + 5, none⟩ = some (.bool y5) := c2 5 _ rfl
        rw [← bel_cells HB.out lt2] at k0 k1 k2 k3 k4 k5
        have hba := ((Below.refl wr.heap.size wr).alloc (Nat.le_refl _) (Obj.cells #[.slice ax x0.length px, .int .i64 x1, .int .i64 x2, .int .i64 x3, .bool x4, .bool x5] 70)).alloc (by simp) (Obj.cells #[.slice ay y0.length py, .int .i64 y1, .int .i64 y2, .int .i64 y3, .bool y4, .bool y5] 70)
        have Hx := Lib.hid (mstK.rd_later (mstK.rd_later hrx HB.out) hba)
        have Hy := Lib.hid (mstK.rd_later (mstK.rd_later hry HB.out) hba)
        have HB1 := Lib.hid (HB.out.trans (hba.mono HB.out.size))
        have k0' := (bel_cells ((Below.refl wr.heap.size wr).alloc (Nat.le_refl _) (Obj.cells #[.slice ax x0.length px, .int .i64 x1, .int .i64 x2, .int .i64 x3, .bool x4, .bool x5] 70)) (Nat.lt_of_lt_of_le lt2 HB.out.size) (o2 + j * 6)).trans k0
        have k1' := (bel_cells ((Below.refl wr.heap.size wr).alloc (Nat.le_refl _) (Obj.cells #[.slice ax x0.length px, .int .i64 x1, .int .i64 x2, .int .i64 x3, .bool x4, .bool x5] 70)) (Nat.lt_of_lt_of_le lt2 HB.out.size) (o2 + j * 6 + 1)).trans k1
        have k2' := (bel_cells ((Below.refl wr.heap.size wr).alloc (Nat.le_refl _) (Obj.cells #[.slice ax x0.length px, .int .i64 x1, .int .i64 x2, .int .i64 x3, .bool x4, .bool x5] 70)) (Nat.lt_of_lt_of_le lt2 HB.out.size) (o2 + j * 6 + 2)).trans k2
        have k3' := (bel_cells ((Below.refl wr.heap.size wr).alloc (Nat.le_refl _) (Obj.cells #[.slice ax x0.length px, .int .i64 x1, .int .i64 x2, .int .i64 x3, .bool x4, .bool x5] 70)) (Nat.lt_of_lt_of_le lt2 HB.out.size) (o2 + j * 6 + 3)).trans k3
        have k4' := (bel_cells ((Below.refl wr.heap.size wr).alloc (Nat.le_refl _) (Obj.cells #[.slice ax x0.length px, .int .i64 x1, .int .i64 x2, .int .i64 x3, .bool x4, .bool x5] 70)) (Nat.lt_of_lt_of_le lt2 HB.out.size) (o2 + j * 6 + 4)).trans k4
        have k5' := (bel_cells ((Below.refl wr.heap.size wr).alloc (Nat.le_refl _) (Obj.cells #[.slice ax x0.length px, .int .i64 x1, .int .i64 x2, .int .i64 x3, .bool x4, .bool x5] 70)) (Nat.lt_of_lt_of_le lt2 HB.out.size) (o2 + j * 6 + 5)).trans k5
        clear hx hy c c2 rx ry hrx hry hu hsx hsy lt lt2 hba
        cases u with
        | true =>
          go_wp2_with fail
          refine (implSameM_is HU.out HSX.out HSY.out _ Hx.out Hy.out).mono ?_
          rintro e w2 ⟨rfl, hb⟩
          clear g0 g1 g2 g3 g4 g5 k0 k1 k2 k3 k4 k5 k0' k1' k2' k3' k4' k5'
          go_wp2_with fail
          go_roundw
          case rel => exact ⟨j + 1, by omega, by go_num, Lib.hid (upTo_step HQ.out HX.out HY.out HU.out), Lib.hid (HB1.out.trans (hb.mono HB1.out.size))⟩
          case measure => simp [intOf]; omega
        | false =>
          go_wp2_with fail
          refine (implSameM_is HU.out HSX.out HSY.out _ Hx.out Hy.out).mono ?_
          rintro e w2 ⟨rfl, hb⟩
          clear g0 g1 g2 g3 g4 g5 k0 k1 k2 k3 k4 k5 k0' k1' k2' k3' k4' k5'
          go_wp2_with fail
          go_ret
          have hf : R = false := by rw [← HR.out]; exact same_no (upTo_bad HX.out HY.out HU.out)
          exact ⟨by rw [hf]; rfl, HB1.out.trans (hb.mono HB1.out.size)⟩
      · obtain rfl : j = n := by omega
        have hqq := upTo_all HN.out HN'.out HQ.out
        have hf : R = true := by rw [← HR.out, same_iff]; exact hqq
        go_wp2_with fail
        go_ret
        exact ⟨by rw [hf]; rfl, HB.out⟩
  · have hne : (((n : Nat) : Int) != ((n' : Nat) : Int)) = true := by simp; omega
    have hf : R = false := by rw [← HR.out]; exact same_no (fun e => hnn (by rw [← HN.out, ← HN'.out, e]))
    go_enter Try.func66, Try.ntmps66
    go_wp2_with fail
    go_ret
    exact ⟨by rw [hf]; rfl, Below.refl _ _⟩
end Go.Proofs.Ytdhaelaoackfkaa.KD
