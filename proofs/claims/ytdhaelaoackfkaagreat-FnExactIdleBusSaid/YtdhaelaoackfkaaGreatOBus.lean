
/-
  A Bus that comes in, as data. (Made by wip/gk.py.)
-/
import Derived.Test.YtdhaelaoackfkaaGreatKBus
import Derived.Test.YtdhaelaoackfkaaGreatGO13
import Derived.Lib.SmallJoins
import Derived.Deep.Slices
import Derived.Deep.Fields
import Derived.ChangeSame
namespace Go.Proofs.YtdhaelaoackfkaaGreat.KD
open Go.RowKit Go.Joins Go.WideShapes Go.ChangeShapes Go.Deep Rows3 GR
set_option linter.unusedVariables false

set_option maxRecDepth 100000 in
theorem trod_bus {H : Type} {enc : TypeId × Value → H} {w : World} {base : Nat} {sp : Nat → Bool} {held : Bool} {fuel : Nat} {cs : List Value} {y : DataW H × List MemPlace} (hsp : ∀ b, sp b = true) (hln : cs.length = 37)
    (h : DataW.trod enc Tryz.prog w base sp held fuel 38 cs = some y) : ∃ x, busK.rd cs x w := by
  obtain ⟨c0, t0, rfl, l0⟩ := len_cons hln
  clear hln
  obtain ⟨c1, t1, rfl, l1⟩ := len_cons l0
  clear l0
  obtain ⟨c2, t2, rfl, l2⟩ := len_cons l1
  clear l1
  obtain ⟨c3, t3, rfl, l3⟩ := len_cons l2
  clear l2
  obtain ⟨c4, t4, rfl, l4⟩ := len_cons l3
  clear l3
  obtain ⟨c5, t5, rfl, l5⟩ := len_cons l4
  clear l4
  obtain ⟨c6, t6, rfl, l6⟩ := len_cons l5
  clear l5
  obtain ⟨c7, t7, rfl, l7⟩ := len_cons l6
  clear l6
  obtain ⟨c8, t8, rfl, l8⟩ := len_cons l7
  clear l7
  obtain ⟨c9, t9, rfl, l9⟩ := len_cons l8
  clear l8
  obtain ⟨c10, t10, rfl, l10⟩ := len_cons l9
  clear l9
  obtain ⟨c11, t11, rfl, l11⟩ := len_cons l10
  clear l10
  obtain ⟨c12, t12, rfl, l12⟩ := len_cons l11
  clear l11
  obtain ⟨c13, t13, rfl, l13⟩ := len_cons l12
  clear l12
  obtain ⟨c14, t14, rfl, l14⟩ := len_cons l13
  clear l13
  obtain ⟨c15, t15, rfl, l15⟩ := len_cons l14
  clear l14
  obtain ⟨c16, t16, rfl, l16⟩ := len_cons l15
  clear l15
  obtain ⟨c17, t17, rfl, l17⟩ := len_cons l16
  clear l16
  obtain ⟨c18, t18, rfl, l18⟩ := len_cons l17
  clear l17
  obtain ⟨c19, t19, rfl, l19⟩ := len_cons l18
  clear l18
  obtain ⟨c20, t20, rfl, l20⟩ := len_cons l19
  clear l19
  obtain ⟨c21, t21, rfl, l21⟩ := len_cons l20
  clear l20
  obtain ⟨c22, t22, rfl, l22⟩ := len_cons l21
  clear l21
  obtain ⟨c23, t23, rfl, l23⟩ := len_cons l22
  clear l22
  obtain ⟨c24, t24, rfl, l24⟩ := len_cons l23
  clear l23
  obtain ⟨c25, t25, rfl, l25⟩ := len_cons l24
  clear l24
  obtain ⟨c26, t26, rfl, l26⟩ := len_cons l25
  clear l25
  obtain ⟨c27, t27, rfl, l27⟩ := len_cons l26
  clear l26
  obtain ⟨c28, t28, rfl, l28⟩ := len_cons l27
  clear l27
  obtain ⟨c29, t29, rfl, l29⟩ := len_cons l28
  clear l28
  obtain ⟨c30, t30, rfl, l30⟩ := len_cons l29
  clear l29
  obtain ⟨c31, t31, rfl, l31⟩ := len_cons l30
  clear l30
  obtain ⟨c32, t32, rfl, l32⟩ := len_cons l31
  clear l31
  obtain ⟨c33, t33, rfl, l33⟩ := len_cons l32
  clear l32
  obtain ⟨c34, t34, rfl, l34⟩ := len_cons l33
  clear l33
  obtain ⟨c35, t35, rfl, l35⟩ := len_cons l34
  clear l34
  obtain ⟨c36, t36, rfl, l36⟩ := len_cons l35
  clear l35
  obtain rfl := List.length_eq_zero_iff.1 l36
  · skip
    obtain ⟨xs, n, _, _, _, hl, hx⟩ := DataW.trod_struct Tryz.underlying38 h
    have hs0 : Tryz.prog.cellsOf 24 = 6 := by kernel_rfl
    have hs1 : Tryz.prog.cellsOf 3 = 1 := by kernel_rfl
    have hs2 : Tryz.prog.cellsOf 25 = 1 := by kernel_rfl
    have hs3 : Tryz.prog.cellsOf 27 = 2 := by kernel_rfl
    have hs4 : Tryz.prog.cellsOf 28 = 1 := by kernel_rfl
    have hs5 : Tryz.prog.cellsOf 29 = 1 := by kernel_rfl
    have hs6 : Tryz.prog.cellsOf 31 = 8 := by kernel_rfl
    have hs7 : Tryz.prog.cellsOf 35 = 4 := by kernel_rfl
    have hs8 : Tryz.prog.cellsOf 36 = 1 := by kernel_rfl
    have f0 := hx 0 _ rfl
    have f1 := hx 1 _ rfl
    have f2 := hx 2 _ rfl
    have f3 := hx 3 _ rfl
    have f4 := hx 4 _ rfl
    have f5 := hx 5 _ rfl
    have f6 := hx 6 _ rfl
    have f7 := hx 7 _ rfl
    have f8 := hx 8 _ rfl
    have f9 := hx 9 _ rfl
    have f10 := hx 10 _ rfl
    have f11 := hx 11 _ rfl
    have f12 := hx 12 _ rfl
    have f13 := hx 13 _ rfl
    simp [hs0, hs1, hs2, hs3, hs4, hs5, hs6, hs7, hs8] at f0 f1 f2 f3 f4 f5 f6 f7 f8 f9 f10 f11 f12 f13
    match xs, (show xs.length = 14 from hl) with
    | [y0, y1, y2, y3, y4, y5, y6, y7, y8, y9, y10, y11, y12, y13], _ =>
      simp at f0 f1 f2 f3 f4 f5 f6 f7 f8 f9 f10 f11 f12 f13
      obtain ⟨⟨x00, x01, x02, x03, x04, x05⟩, hx0⟩ := trod_conf hsp rfl f0
      obtain ⟨x1, g1, _, _⟩ := DataW.trod_int Tryz.underlying3 f1
      simp at g1
      subst g1
      obtain ⟨x2, rx2⟩ := trod_mstS hsp f2
      obtain ⟨⟨x30, x31⟩, hx3⟩ := trod_wrr hsp rfl f3
      obtain ⟨x4, rx4⟩ := trod_bucketS hsp f4
      obtain ⟨x5, rx5⟩ := trod_ints hsp f5
      obtain ⟨x6, g6, _, _⟩ := DataW.trod_int Tryz.underlying3 f6
      simp at g6
      subst g6
      obtain ⟨x7, g7, _, _⟩ := DataW.trod_int Tryz.underlying3 f7
      simp at g7
      subst g7
      obtain ⟨x8, g8, _, _⟩ := DataW.trod_int Tryz.underlying3 f8
      simp at g8
      subst g8
      obtain ⟨⟨x90, x91, x92, x93, x94, x95, x96, x97⟩, hx9⟩ := trod_beat hsp rfl f9
      obtain ⟨⟨x100, x101, x102, x103, x104, x105, x106, x107⟩, hx10⟩ := trod_beat hsp rfl f10
      obtain ⟨⟨x110, ⟨x1110, x1111, x1112⟩⟩, hx11⟩ := trod_model hsp rfl f11
      obtain ⟨x12, g12, _, _⟩ := DataW.trod_int Tryz.underlying3 f12
      simp at g12
      subst g12
      obtain ⟨x13, rx13⟩ := trod_doneS hsp f13
      exact ⟨((x00, x01, x02, x03, x04, x05), x1, x2, (x30, x31), x4, x5, x6, x7, x8, (x90, x91, x92, x93, x94, x95, x96, x97), (x100, x101, x102, x103, x104, x105, x106, x107), (x110, (x1110, x1111, x1112)), x12, x13), ⟨[c0, c1, c2, c3, c4, c5], _, rfl, hx0, ⟨[.int .i64 x1], _, rfl, rfl, ⟨[c7], _, rfl, rx2, ⟨[c8, c9], _, rfl, hx3, ⟨[c10], _, rfl, rx4, ⟨[c11], _, rfl, rx5, ⟨[.int .i64 x6], _, rfl, rfl, ⟨[.int .i64 x7], _, rfl, rfl, ⟨[.int .i64 x8], _, rfl, rfl, ⟨[c15, c16, c17, c18, c19, c20, c21, c22], _, rfl, hx9, ⟨[c23, c24, c25, c26, c27, c28, c29, c30], _, rfl, hx10, ⟨[c31, c32, c33, c34], _, rfl, hx11, ⟨[.int .i64 x12], _, rfl, rfl, rx13⟩⟩⟩⟩⟩⟩⟩⟩⟩⟩⟩⟩⟩⟩
set_option maxRecDepth 100000 in
theorem open_bus {H : Type} {enc : TypeId × Value → H} {w : World} {base : Nat} {held : Bool} {r : Reach} {b0 : Nat} {v : Value} {d : DataW H} {p : List MemPlace}
    (hv : Value.okWide Tryz.prog w r b0 38 v) (h : DataW.Trod enc Tryz.prog w base (fun _ => true) held 38 v d p) : ∃ (u : List Value) (x : (List (Int × Bool × Int × Int) × Int × Int × Int × Int × Int) × Int × List (List (Bool × Int × Int × Int × Bool × List Int) × Int × Int × Int × Bool × Bool) × (Int × Int) × List (Int × Int) × List Int × Int × Int × Int × (Bool × Int × Int × Bool × Int × Int × Int × Bool) × (Bool × Int × Int × Bool × Int × Int × Int × Bool) × (List Int × (List Int × Int × List Int)) × Int × List (Int × Int × Bool × Int × Int × Int × Int)), v = .agg u.toArray ∧ busK.rd u x w := by
  obtain ⟨cs, rfl, hsz⟩ := okWide_struct Tryz.underlying38 hv
  obtain ⟨fuel, hf⟩ := h
  obtain ⟨x, hx⟩ := trod_bus (cs := cs.toList) (fun _ => rfl) (by rw [Array.length_toList]; exact hsz.trans (by kernel_rfl : Tryz.prog.cellsOf 38 = 37)) (by simpa [Value.cells] using hf)
  exact ⟨cs.toList, x, rfl, hx⟩
end Go.Proofs.YtdhaelaoackfkaaGreat.KD
