/-
  For every string the program's ReadReq answers as its model does, a request of its own memory each time, where the library's tables and errors hold what its text lays in them (the card ties them to it).
-/
import Derived.Test.YtccgoggkpfaloaaDoorCards
import Derived.Test.YtccgoggkpfaloaaDoorTie
import Derived.WalkKit
import Derived.ProofKit
import Derived.OpenShut
import Derived.ShutString
import Derived.ChangeOld
import Derived.Below
import Derived.Deep.DeepHandedRow
import Derived.Lib.LaidTab
import Derived.Test.YtccgoggkpfaloaaDoorRead2
import Derived.Test.YtccgoggkpfaloaaDoorRead6
import Derived.Test.YtccgoggkpfaloaaDoorRead7
import Derived.Stop.LaidErr
namespace Go.Proofs.YtccgoggkpfaloaaDoor.fnExactReadReq
open Go.ChangeShapes Go.WideShapes Go.ChangeAt Go.RowKit
open Go.ChangeMaps (open_string shut_string)
set_option linter.unusedVariables false

theorem own : ownKnob Tryd.prog.godebug = none := by kernel_rfl
open Num Rows3
theorem pow_of {w : World} (h : laidMetH Tryd.prog Rows.fnExactReadReqRow.laid w) : Pow w :=
  Lib.tabIs_of_head (rest := []) gPow (t := 90) (e := 77) (n := 20) (by kernel_rfl) Tryd.underlying90 Tryd.underlying77 (by kernel_rfl) (by kernel_rfl)
    (show laidMetH Tryd.prog [("internal/strconv.uint64pow10", Rows.laid_internal_strconv_uint64pow10)] w from h.filter (fun x => x.1 == "internal/strconv.uint64pow10"))
theorem star : "*" ++ "errors.errorString" = "*errors.errorString" := by decide
theorem rowS (u : TypeId) (h : Tryd.prog.typeName? 3 u = some "*errors.errorString") : u = 109 :=
  typeName_ptr_named (nm := "errors.errorString") (by rw [star]; kernel_rfl) (by kernel_rfl) (by decide) u (by rw [star]; exact h)
theorem errs_of {w : World} (h : laidMetH Tryd.prog Rows.fnExactReadReqRow.laid w) : Errs w := by
  have h1 : laidMet Tryd.prog [("strconv.ErrSyntax", Rows.laid_strconv_ErrSyntax)] w := h.filter (fun x => x.1 == "strconv.ErrSyntax")
  have h2 : laidMet Tryd.prog [("strconv.ErrRange", Rows.laid_strconv_ErrRange)] w := h.filter (fun x => x.1 == "strconv.ErrRange")
  obtain ⟨a0, s0, hv0, -, -, -⟩ := laid_sentinel h1 (g := 4) (by kernel_rfl) (by kernel_rfl) Tryd.underlying57 rowS Tryd.underlying109 Tryd.underlying111 rfl rfl Tryd.underlying9 (by kernel_rfl) (by kernel_rfl)
  obtain ⟨a1, s1, hv1, -, -, -⟩ := laid_sentinel h2 (g := 5) (by kernel_rfl) (by kernel_rfl) Tryd.underlying57 rowS Tryd.underlying109 Tryd.underlying111 rfl rfl Tryd.underlying9 (by kernel_rfl) (by kernel_rfl)
  exact ⟨⟨_, _, hv0⟩, ⟨_, _, hv1⟩⟩
set_option maxHeartbeats 4000000 in
set_option maxRecDepth 100000 in
theorem walk (a0 : ByteArray) (w : World) (w0 : a0.size ≤ maxLen) (hL : laidMetH Tryd.prog Rows.fnExactReadReqRow.laid w) :
    Calls Tryd.prog 4 #[.string a0] w fun e w' => e = .returned (.bool true) ∧ Below w.heap.size w w' := by
  have Htab := Lib.hid (pow_of hL)
  have Herr := Lib.hid (errs_of hL)
  clear hL
  unfold maxLen at w0
  by_cases h : 1048576 < a0.size
  · go_enter Tryd.func4, Tryd.ntmps4
    go_wp2
    go_ret
    exact ⟨rfl, Below.refl _ _⟩
  · have hs : a0.size ≤ 1048576 := by omega
    go_enter Tryd.func4, Tryd.ntmps4
    go_wp2_with fail
    refine (specRead a0 hs _).mono ?_
    rintro e w1 ⟨q, x, y, z, lk, v0, l, b, rfl, ho0, hb1, hr⟩
    have hl8 : l.length ≤ 2000000 := Nat.le_trans hr.len (by decide)
    obtain ⟨ad0, cap0, rfl⟩ := ho0.slice
    have Hr := Lib.hid hr
    have Ho0 := Lib.hid ho0
    have B1 := Blk.new 27 (.bool q) (.int .i64 x) (.int .i64 y) (.int .i64 z) (.bool lk) (.slice ad0 l.length cap0) w1
    have b2 := (Below.refl w1.heap.size w1).alloc (Nat.le_refl _) (.cells #[.bool q, .int .i64 x, .int .i64 y, .int .i64 z, .bool lk, .slice ad0 l.length cap0] 27)
    have Z2 := Lib.hid (hb1.trans (b2.mono hb1.size))
    have Ho2 := Lib.hid (ho0.later b2)
    have Ht2 := Lib.hid (Htab.out.below Z2.out)
    have He2 := Lib.hid (errs_below Herr.out Z2.out)
    have hsz1 := hb1.size
    have A1 := Blk.new 27 (.bool false) (.int .i64 0) (.int .i64 0) (.int .i64 0) (.bool false) (.slice none 0 0) w1
    obtain ⟨f0, f1, f2, f3, f4, f5⟩ := A1.warm
    obtain ⟨w2, hw2⟩ : ∃ w2, w1.alloc (.cells #[.bool q, .int .i64 x, .int .i64 y, .int .i64 z, .bool lk, .slice ad0 l.length cap0] 27) = w2 := ⟨_, rfl⟩
    rw [hw2] at B1 b2 Z2 Ho2 Ht2 He2
    have hs2 := b2.size
    have B2 := Lib.hid B1
    clear hr hb1 ho0 A1 B1 b2
    go_wp2_with fail
    clear hw2 f0 f1 f2 f3 f4 f5
    refine (implRead a0 hs w2 He2.out Ht2.out).mono ?_
    rintro e w3 ⟨q', x', y', z', lk', v1, l', b', rfl, ho1, hb3, hr'⟩
    obtain ⟨rfl, rfl, rfl, rfl, rfl, rfl, rfl⟩ := Hr.out.uniq hr'
    obtain ⟨ad1, cap1, rfl⟩ := ho1.slice
    have Z3 := Lib.hid (Z2.out.trans (hb3.mono Z2.out.size))
    have Ho3 := Lib.hid (Ho2.out.later hb3)
    have B3 := Lib.hid (B2.out.later hb3)
    have hs3 := hb3.size
    have G3 := Blk.new 27 (.bool q) (.int .i64 x) (.int .i64 y) (.int .i64 z) (.bool lk) (.slice ad1 l.length cap1) w3
    have b4 := (Below.refl w3.heap.size w3).alloc (Nat.le_refl _) (.cells #[.bool q, .int .i64 x, .int .i64 y, .int .i64 z, .bool lk, .slice ad1 l.length cap1] 27)
    have Z4 := Lib.hid (Z3.out.trans (b4.mono Z3.out.size))
    have Ho4 := Lib.hid (Ho3.out.later b4)
    have Hp4 := Lib.hid (ho1.later b4)
    have B4 := Lib.hid (B3.out.later b4)
    have A3 := Blk.new 27 (.bool false) (.int .i64 0) (.int .i64 0) (.int .i64 0) (.bool false) (.slice none 0 0) w3
    obtain ⟨f0, f1, f2, f3, f4, f5⟩ := A3.warm
    obtain ⟨w4, hw4⟩ : ∃ w4, w3.alloc (.cells #[.bool q, .int .i64 x, .int .i64 y, .int .i64 z, .bool lk, .slice ad1 l.length cap1] 27) = w4 := ⟨_, rfl⟩
    rw [hw4] at G3 b4 Z4 Ho4 Hp4 B4
    have hs4 := b4.size
    have G4 := Lib.hid G3
    have hl3 := B3.out.lt
    have hwne : w1.heap.size < w3.heap.size := Nat.lt_of_lt_of_le B2.out.lt hs3
    obtain ⟨g0, g1, g2, g3, g4, g5⟩ := B4.out.cells
    obtain ⟨k0, k1, k2, k3, k4, k5⟩ := G4.out.cells
    have hbb : (b != b) = false := by simp
    have hbb2 : (b == b) = true := by simp
    clear hr' ho1 hb3 G3 A3 b4
    go_wp2_with fail
    refine (eqReq_same q x y z lk (.slice ad1 l.length cap1) (.slice ad0 l.length cap0) l hl8 w4 Hp4.out.rd Ho4.out.rd).mono ?_
    rintro e w5 ⟨rfl, hb5⟩
    have Z5 := Lib.hid (Z4.out.trans (hb5.mono Z4.out.size))
    have Ho5 := Lib.hid (Ho4.out.later hb5)
    have Hp5 := Lib.hid (Hp4.out.later hb5)
    have B5 := Lib.hid (B4.out.later hb5)
    have G5 := Lib.hid (G4.out.later hb5)
    have hs5 := hb5.size
    clear hb5 g0 g1 g2 g3 g4 g5 k0 k1 k2 k3 k4 k5 f0 f1 f2 f3 f4 f5
    obtain ⟨g0, g1, g2, g3, g4, g5⟩ := B5.out.cells
    obtain ⟨k0, k1, k2, k3, k4, k5⟩ := G5.out.cells
    go_wp2_with fail
    have hs25 : w2.heap.size ≤ w5.heap.size := Nat.le_trans hs3 (Nat.le_trans hs4 hs5)
    have hne := own_ne (T := 27) (by decide) Hp5.out G5.out
    have Hne := Lib.hid hne
    clear hne
    refine (markReq_own q x y z lk w2.heap.size (.slice ad1 l.length cap1) l 1 (by omega) (by omega) hl8 w5 hs25 Hp5.out).mono ?_
    rintro e w6 ⟨rfl, hp6, hb6, hsame⟩
    have Z6 := Lib.hid (Z5.out.trans (hb6.mono (Nat.le_trans hsz1 hs2)))
    have Ho6 := Lib.hid (Ho5.out.below hb6 (fun k hk => (World.ownsRow.lt Ho2.out k hk).2))
    have Hp6 := Lib.hid hp6
    have B6 := Lib.hid (B5.out.below hb6 B2.out.lt)
    have G6 := Lib.hid (blk_same G5.out (hsame _ G5.out.lt Hne.out))
    have hs6 := hb6.size
    have hq : ((1 + (l.length : Int)) != (1 + (l.length : Int))) = false := by simp
    have hp : ¬ (1 + (l.length : Int) < 0) := by omega
    clear hb6 hp6 hsame g0 g1 g2 g3 g4 g5 k0 k1 k2 k3 k4 k5
    obtain ⟨k0, k1, k2, k3, k4, k5⟩ := G6.out.cells
    go_wp2_with fail
    refine (heldReq_same q x y z lk (.slice ad1 l.length cap1) 1 l.length (by omega) (by omega) hl8 w6 Hp6.out.rd).mono ?_
    rintro e w7 ⟨rfl, hb7⟩
    have Z7 := Lib.hid (Z6.out.trans (hb7.mono Z6.out.size))
    have Ho7 := Lib.hid (Ho6.out.later hb7)
    have Hp7 := Lib.hid (Hp6.out.later hb7)
    have B7 := Lib.hid (B6.out.later hb7)
    have G7 := Lib.hid (G6.out.later hb7)
    have hs7 := hb7.size
    have He7 := Lib.hid (errs_below Herr.out Z7.out)
    have Ht7 := Lib.hid (Htab.out.below Z7.out)
    clear hb7 k0 k1 k2 k3 k4 k5
    go_wp2_with fail
    refine (implRead a0 hs w7 He7.out Ht7.out).mono ?_
    rintro e w8 ⟨q', x', y', z', lk', v2, l', b', rfl, ho2, hb8, hr'⟩
    obtain ⟨rfl, rfl, rfl, rfl, rfl, rfl, rfl⟩ := Hr.out.uniq hr'
    obtain ⟨ad2, cap2, rfl⟩ := ho2.slice
    have Z8 := Lib.hid (Z7.out.trans (hb8.mono Z7.out.size))
    have G8 := Blk.new 27 (.bool q) (.int .i64 x) (.int .i64 y) (.int .i64 z) (.bool lk) (.slice ad2 l.length cap2) w8
    have b9 := (Below.refl w8.heap.size w8).alloc (Nat.le_refl _) (.cells #[.bool q, .int .i64 x, .int .i64 y, .int .i64 z, .bool lk, .slice ad2 l.length cap2] 27)
    have Z9 := Lib.hid (Z8.out.trans (b9.mono Z8.out.size))
    have Ho9 := Lib.hid ((Ho7.out.later hb8).later b9)
    have Hp9 := Lib.hid ((Hp7.out.later hb8).later b9)
    have Hq9 := Lib.hid (ho2.later b9)
    have B9 := Lib.hid ((B7.out.later hb8).later b9)
    have G9 := Lib.hid ((G7.out.later hb8).later b9)
    have A8 := Blk.new 27 (.bool false) (.int .i64 0) (.int .i64 0) (.int .i64 0) (.bool false) (.slice none 0 0) w8
    obtain ⟨f0, f1, f2, f3, f4, f5⟩ := A8.warm
    obtain ⟨w9, hw9⟩ : ∃ w9, w8.alloc (.cells #[.bool q, .int .i64 x, .int .i64 y, .int .i64 z, .bool lk, .slice ad2 l.length cap2] 27) = w9 := ⟨_, rfl⟩
    rw [hw9] at G8 b9 Z9 Ho9 Hp9 Hq9 B9 G9
    have hs8 := hb8.size
    have hs9 := b9.size
    have H9 := Lib.hid G8
    obtain ⟨g0, g1, g2, g3, g4, g5⟩ := B9.out.cells
    obtain ⟨k0, k1, k2, k3, k4, k5⟩ := H9.out.cells
    clear hr' ho2 hb8 G8 A8 b9
    go_wp2_with fail
    refine (eqReq_same q x y z lk (.slice ad2 l.length cap2) (.slice ad0 l.length cap0) l hl8 w9 Hq9.out.rd Ho9.out.rd).mono ?_
    rintro e w10 ⟨rfl, hb10⟩
    have Z10 := Lib.hid (Z9.out.trans (hb10.mono Z9.out.size))
    have Hp10 := Lib.hid (Hp9.out.later hb10)
    have G10 := Lib.hid (G9.out.later hb10)
    clear hb10 g0 g1 g2 g3 g4 g5 k0 k1 k2 k3 k4 k5 f0 f1 f2 f3 f4 f5
    obtain ⟨k0, k1, k2, k3, k4, k5⟩ := G10.out.cells
    go_wp2_with fail
    refine (heldReq_same q x y z lk (.slice ad1 l.length cap1) 1 l.length (by omega) (by omega) hl8 w10 Hp10.out.rd).mono ?_
    rintro e w11 ⟨rfl, hb11⟩
    have Z11 := Lib.hid (Z10.out.trans (hb11.mono Z10.out.size))
    clear hb11
    go_wp2
    go_ret
    exact ⟨rfl, Z11.out⟩

set_option maxRecDepth 100000 in
theorem contract (H : Type) (enc : TypeId × Value → H) (W : World) (base : Nat) (args : Array Value) (ds gs : List (DataW H)) (before : List MemPlace)
    (hval : ∀ (j : Nat) t v, Tryd.f4.params[j]? = some t → args[j]? = some v → Value.okWide Tryd.prog W .any base t v)
    (hW : DataW.Whole enc Tryd.prog Tryd.f4.params.toList Rows.fnExactReadReqSpec.vars false W args.toList ds gs before) (hL : laidMetH Tryd.prog Rows.fnExactReadReqRow.laid W) :
    Calls Tryd.prog 4 args W fun e W' => ∃ v, e = .returned v ∧ Rows.fnExactReadReqSpec.post enc Tryd.prog Tryd.f4 false true false false W args v W' := by
  have hW' := hW
  obtain ⟨p, q, hA0, hV, rfl, hfz, hnd⟩ := hW
  have hA : DataW.TrodAll enc Tryd.prog W 0 (fun _ => true) true Tryd.f4.params.toList args.toList ds p := hA0
  rw [Tryd.params4] at hA hval
  obtain ⟨v0, vs0, d0, ds0, p0, q0, hargs, rfl, rfl, h0, r0⟩ := trodAll_cons hA
  obtain ⟨rfl, rfl, rfl⟩ := trodAll_nil r0
  obtain rfl : args = #[v0] := by cases args; simp_all
  obtain ⟨rfl, rfl⟩ := trodVars_none hV
  obtain ⟨a0, rfl, rfl, rfl, w0⟩ := open_string Tryd.underlying9 (hval 0 9 v0 rfl rfl) h0
  clear hA0
  refine (walk a0 W w0 hL).mono fun e W' ⟨he, bel⟩ => ?_
  subst he
  exact ⟨_, rfl, _, _, _, [], _, [], hW', (trodAll_cons_mk (shut_bool Tryd.underlying4 _) trodAll_mk0), (trodAll_cons_mk (shut_string Tryd.underlying9 w0) trodAll_mk0), rfl, bel.frame _, fun h => by cases h⟩

noncomputable def low : Nat := (World.holding Tryd.prog default ⟨#[], #[], []⟩).heap.size
noncomputable def laidWorld (os : Os) : World :=
  let w0 := World.holding Tryd.prog os ⟨#[.cells #[.string ⟨#[118, 97, 108, 117, 101, 32, 111, 117, 116, 32, 111, 102, 32, 114, 97, 110, 103, 101]⟩] 111, .cells #[.string ⟨#[105, 110, 118, 97, 108, 105, 100, 32, 115, 121, 110, 116, 97, 120]⟩] 111], #[], []⟩
  { w0 with heap := (((((((w0.heap.modify 6 fun
      | .cells _ t frozen => .cells #[.int .u8 0, .int .u8 1, .int .u8 28, .int .u8 2, .int .u8 29, .int .u8 14, .int .u8 24, .int .u8 3, .int .u8 30, .int .u8 22, .int .u8 20, .int .u8 15, .int .u8 25, .int .u8 17, .int .u8 4, .int .u8 8, .int .u8 31, .int .u8 27, .int .u8 13, .int .u8 23, .int .u8 21, .int .u8 19, .int .u8 16, .int .u8 7, .int .u8 26, .int .u8 12, .int .u8 18, .int .u8 6, .int .u8 11, .int .u8 5, .int .u8 10, .int .u8 9] t frozen
      | o => o).modify 7 fun
      | .cells _ t frozen => .cells #[.int .u8 0, .int .u8 1, .int .u8 56, .int .u8 2, .int .u8 57, .int .u8 49, .int .u8 28, .int .u8 3, .int .u8 61, .int .u8 58, .int .u8 42, .int .u8 50, .int .u8 38, .int .u8 29, .int .u8 17, .int .u8 4, .int .u8 62, .int .u8 47, .int .u8 59, .int .u8 36, .int .u8 45, .int .u8 43, .int .u8 51, .int .u8 22, .int .u8 53, .int .u8 39, .int .u8 33, .int .u8 30, .int .u8 24, .int .u8 18, .int .u8 12, .int .u8 5, .int .u8 63, .int .u8 55, .int .u8 48, .int .u8 27, .int .u8 60, .int .u8 41, .int .u8 37, .int .u8 16, .int .u8 46, .int .u8 35, .int .u8 44, .int .u8 21, .int .u8 52, .int .u8 32, .int .u8 23, .int .u8 11, .int .u8 54, .int .u8 26, .int .u8 40, .int .u8 15, .int .u8 34, .int .u8 20, .int .u8 31, .int .u8 10, .int .u8 25, .int .u8 14, .int .u8 19, .int .u8 9, .int .u8 13, .int .u8 8, .int .u8 7, .int .u8 6] t frozen
      | o => o).modify 1 fun
      | .cells _ t frozen => .cells #[.int .u64 1, .int .u64 10, .int .u64 100, .int .u64 1000, .int .u64 10000, .int .u64 100000, .int .u64 1000000, .int .u64 10000000, .int .u64 100000000, .int .u64 1000000000, .int .u64 10000000000, .int .u64 100000000000, .int .u64 1000000000000, .int .u64 10000000000000, .int .u64 100000000000000, .int .u64 1000000000000000, .int .u64 10000000000000000, .int .u64 100000000000000000, .int .u64 1000000000000000000, .int .u64 10000000000000000000] t frozen
      | o => o).modify 3 fun
      | .cells _ t frozen => .cells #[.int .u8 128, .int .u8 191, .int .u8 160, .int .u8 191, .int .u8 128, .int .u8 159, .int .u8 144, .int .u8 191, .int .u8 128, .int .u8 143, .int .u8 0, .int .u8 0, .int .u8 0, .int .u8 0, .int .u8 0, .int .u8 0, .int .u8 0, .int .u8 0, .int .u8 0, .int .u8 0, .int .u8 0, .int .u8 0, .int .u8 0, .int .u8 0, .int .u8 0, .int .u8 0, .int .u8 0, .int .u8 0, .int .u8 0, .int .u8 0, .int .u8 0, .int .u8 0] t frozen
      | o => o).modify 2 fun
      | .cells _ t frozen => .cells #[.int .u8 240, .int .u8 240, .int .u8 240, .int .u8 240, .int .u8 240, .int .u8 240, .int .u8 240, .int .u8 240, .int .u8 240, .int .u8 240, .int .u8 240, .int .u8 240, .int .u8 240, .int .u8 240, .int .u8 240, .int .u8 240, .int .u8 240, .int .u8 240, .int .u8 240, .int .u8 240, .int .u8 240, .int .u8 240, .int .u8 240, .int .u8 240, .int .u8 240, .int .u8 240, .int .u8 240, .int .u8 240, .int .u8 240, .int .u8 240, .int .u8 240, .int .u8 240, .int .u8 240, .int .u8 240, .int .u8 240, .int .u8 240, .int .u8 240, .int .u8 240, .int .u8 240, .int .u8 240, .int .u8 240, .int .u8 240, .int .u8 240, .int .u8 240, .int .u8 240, .int .u8 240, .int .u8 240, .int .u8 240, .int .u8 240, .int .u8 240, .int .u8 240, .int .u8 240, .int .u8 240, .int .u8 240, .int .u8 240, .int .u8 240, .int .u8 240, .int .u8 240, .int .u8 240, .int .u8 240, .int .u8 240, .int .u8 240, .int .u8 240, .int .u8 240, .int .u8 240, .int .u8 240, .int .u8 240, .int .u8 240, .int .u8 240, .int .u8 240, .int .u8 240, .int .u8 240, .int .u8 240, .int .u8 240, .int .u8 240, .int .u8 240, .int .u8 240, .int .u8 240, .int .u8 240, .int .u8 240, .int .u8 240, .int .u8 240, .int .u8 240, .int .u8 240, .int .u8 240, .int .u8 240, .int .u8 240, .int .u8 240, .int .u8 240, .int .u8 240, .int .u8 240, .int .u8 240, .int .u8 240, .int .u8 240, .int .u8 240, .int .u8 240, .int .u8 240, .int .u8 240, .int .u8 240, .int .u8 240, .int .u8 240, .int .u8 240, .int .u8 240, .int .u8 240, .int .u8 240, .int .u8 240, .int .u8 240, .int .u8 240, .int .u8 240, .int .u8 240, .int .u8 240, .int .u8 240, .int .u8 240, .int .u8 240, .int .u8 240, .int .u8 240, .int .u8 240, .int .u8 240, .int .u8 240, .int .u8 240, .int .u8 240, .int .u8 240, .int .u8 240, .int .u8 240, .int .u8 240, .int .u8 240, .int .u8 240, .int .u8 240, .int .u8 241, .int .u8 241, .int .u8 241, .int .u8 241, .int .u8 241, .int .u8 241, .int .u8 241, .int .u8 241, .int .u8 241, .int .u8 241, .int .u8 241, .int .u8 241, .int .u8 241, .int .u8 241, .int .u8 241, .int .u8 241, .int .u8 241, .int .u8 241, .int .u8 241, .int .u8 241, .int .u8 241, .int .u8 241, .int .u8 241, .int .u8 241, .int .u8 241, .int .u8 241, .int .u8 241, .int .u8 241, .int .u8 241, .int .u8 241, .int .u8 241, .int .u8 241, .int .u8 241, .int .u8 241, .int .u8 241, .int .u8 241, .int .u8 241, .int .u8 241, .int .u8 241, .int .u8 241, .int .u8 241, .int .u8 241, .int .u8 241, .int .u8 241, .int .u8 241, .int .u8 241, .int .u8 241, .int .u8 241, .int .u8 241, .int .u8 241, .int .u8 241, .int .u8 241, .int .u8 241, .int .u8 241, .int .u8 241, .int .u8 241, .int .u8 241, .int .u8 241, .int .u8 241, .int .u8 241, .int .u8 241, .int .u8 241, .int .u8 241, .int .u8 241, .int .u8 241, .int .u8 241, .int .u8 2, .int .u8 2, .int .u8 2, .int .u8 2, .int .u8 2, .int .u8 2, .int .u8 2, .int .u8 2, .int .u8 2, .int .u8 2, .int .u8 2, .int .u8 2, .int .u8 2, .int .u8 2, .int .u8 2, .int .u8 2, .int .u8 2, .int .u8 2, .int .u8 2, .int .u8 2, .int .u8 2, .int .u8 2, .int .u8 2, .int .u8 2, .int .u8 2, .int .u8 2, .int .u8 2, .int .u8 2, .int .u8 2, .int .u8 2, .int .u8 19, .int .u8 3, .int .u8 3, .int .u8 3, .int .u8 3, .int .u8 3, .int .u8 3, .int .u8 3, .int .u8 3, .int .u8 3, .int .u8 3, .int .u8 3, .int .u8 3, .int .u8 35, .int .u8 3, .int .u8 3, .int .u8 52, .int .u8 4, .int .u8 4, .int .u8 4, .int .u8 68, .int .u8 241, .int .u8 241, .int .u8 241, .int .u8 241, .int .u8 241, .int .u8 241, .int .u8 241, .int .u8 241, .int .u8 241, .int .u8 241, .int .u8 241] t frozen
      | o => o).modify 5 fun
      | .cells _ t frozen => .cells #[.iface 109 (.pointer (some ⟨low + 0, 0, none⟩))] t frozen
      | o => o).modify 4 fun
      | .cells _ t frozen => .cells #[.iface 109 (.pointer (some ⟨low + 1, 0, none⟩))] t frozen
      | o => o) }
theorem laid_met (os : Os) : laidMet Tryd.prog Rows.fnExactReadReqRow.laid ((laidWorld os).forCall (fun _ _ => 0) ⟨#[], #[.string ByteArray.empty], []⟩).memory :=
  laidMet_of_run (ps := [.cell 6 0, .cell 6 1, .cell 6 2, .cell 6 3, .cell 6 4, .cell 6 5, .cell 6 6, .cell 6 7, .cell 6 8, .cell 6 9, .cell 6 10, .cell 6 11, .cell 6 12, .cell 6 13, .cell 6 14, .cell 6 15, .cell 6 16, .cell 6 17, .cell 6 18, .cell 6 19, .cell 6 20, .cell 6 21, .cell 6 22, .cell 6 23, .cell 6 24, .cell 6 25, .cell 6 26, .cell 6 27, .cell 6 28, .cell 6 29, .cell 6 30, .cell 6 31, .cell 7 0, .cell 7 1, .cell 7 2, .cell 7 3, .cell 7 4, .cell 7 5, .cell 7 6, .cell 7 7, .cell 7 8, .cell 7 9, .cell 7 10, .cell 7 11, .cell 7 12, .cell 7 13, .cell 7 14, .cell 7 15, .cell 7 16, .cell 7 17, .cell 7 18, .cell 7 19, .cell 7 20, .cell 7 21, .cell 7 22, .cell 7 23, .cell 7 24, .cell 7 25, .cell 7 26, .cell 7 27, .cell 7 28, .cell 7 29, .cell 7 30, .cell 7 31, .cell 7 32, .cell 7 33, .cell 7 34, .cell 7 35, .cell 7 36, .cell 7 37, .cell 7 38, .cell 7 39, .cell 7 40, .cell 7 41, .cell 7 42, .cell 7 43, .cell 7 44, .cell 7 45, .cell 7 46, .cell 7 47, .cell 7 48, .cell 7 49, .cell 7 50, .cell 7 51, .cell 7 52, .cell 7 53, .cell 7 54, .cell 7 55, .cell 7 56, .cell 7 57, .cell 7 58, .cell 7 59, .cell 7 60, .cell 7 61, .cell 7 62, .cell 7 63, .cell 1 0, .cell 1 1, .cell 1 2, .cell 1 3, .cell 1 4, .cell 1 5, .cell 1 6, .cell 1 7, .cell 1 8, .cell 1 9, .cell 1 10, .cell 1 11, .cell 1 12, .cell 1 13, .cell 1 14, .cell 1 15, .cell 1 16, .cell 1 17, .cell 1 18, .cell 1 19, .cell 3 0, .cell 3 1, .cell 3 2, .cell 3 3, .cell 3 4, .cell 3 5, .cell 3 6, .cell 3 7, .cell 3 8, .cell 3 9, .cell 3 10, .cell 3 11, .cell 3 12, .cell 3 13, .cell 3 14, .cell 3 15, .cell 3 16, .cell 3 17, .cell 3 18, .cell 3 19, .cell 3 20, .cell 3 21, .cell 3 22, .cell 3 23, .cell 3 24, .cell 3 25, .cell 3 26, .cell 3 27, .cell 3 28, .cell 3 29, .cell 3 30, .cell 3 31, .cell 5 0, .cell (low + 0) 0, .cell 4 0, .cell (low + 1) 0, .cell 2 0, .cell 2 1, .cell 2 2, .cell 2 3, .cell 2 4, .cell 2 5, .cell 2 6, .cell 2 7, .cell 2 8, .cell 2 9, .cell 2 10, .cell 2 11, .cell 2 12, .cell 2 13, .cell 2 14, .cell 2 15, .cell 2 16, .cell 2 17, .cell 2 18, .cell 2 19, .cell 2 20, .cell 2 21, .cell 2 22, .cell 2 23, .cell 2 24, .cell 2 25, .cell 2 26, .cell 2 27, .cell 2 28, .cell 2 29, .cell 2 30, .cell 2 31, .cell 2 32, .cell 2 33, .cell 2 34, .cell 2 35, .cell 2 36, .cell 2 37, .cell 2 38, .cell 2 39, .cell 2 40, .cell 2 41, .cell 2 42, .cell 2 43, .cell 2 44, .cell 2 45, .cell 2 46, .cell 2 47, .cell 2 48, .cell 2 49, .cell 2 50, .cell 2 51, .cell 2 52, .cell 2 53, .cell 2 54, .cell 2 55, .cell 2 56, .cell 2 57, .cell 2 58, .cell 2 59, .cell 2 60, .cell 2 61, .cell 2 62, .cell 2 63, .cell 2 64, .cell 2 65, .cell 2 66, .cell 2 67, .cell 2 68, .cell 2 69, .cell 2 70, .cell 2 71, .cell 2 72, .cell 2 73, .cell 2 74, .cell 2 75, .cell 2 76, .cell 2 77, .cell 2 78, .cell 2 79, .cell 2 80, .cell 2 81, .cell 2 82, .cell 2 83, .cell 2 84, .cell 2 85, .cell 2 86, .cell 2 87, .cell 2 88, .cell 2 89, .cell 2 90, .cell 2 91, .cell 2 92, .cell 2 93, .cell 2 94, .cell 2 95, .cell 2 96, .cell 2 97, .cell 2 98, .cell 2 99, .cell 2 100, .cell 2 101, .cell 2 102, .cell 2 103, .cell 2 104, .cell 2 105, .cell 2 106, .cell 2 107, .cell 2 108, .cell 2 109, .cell 2 110, .cell 2 111, .cell 2 112, .cell 2 113, .cell 2 114, .cell 2 115, .cell 2 116, .cell 2 117, .cell 2 118, .cell 2 119, .cell 2 120, .cell 2 121, .cell 2 122, .cell 2 123, .cell 2 124, .cell 2 125, .cell 2 126, .cell 2 127, .cell 2 128, .cell 2 129, .cell 2 130, .cell 2 131, .cell 2 132, .cell 2 133, .cell 2 134, .cell 2 135, .cell 2 136, .cell 2 137, .cell 2 138, .cell 2 139, .cell 2 140, .cell 2 141, .cell 2 142, .cell 2 143, .cell 2 144, .cell 2 145, .cell 2 146, .cell 2 147, .cell 2 148, .cell 2 149, .cell 2 150, .cell 2 151, .cell 2 152, .cell 2 153, .cell 2 154, .cell 2 155, .cell 2 156, .cell 2 157, .cell 2 158, .cell 2 159, .cell 2 160, .cell 2 161, .cell 2 162, .cell 2 163, .cell 2 164, .cell 2 165, .cell 2 166, .cell 2 167, .cell 2 168, .cell 2 169, .cell 2 170, .cell 2 171, .cell 2 172, .cell 2 173, .cell 2 174, .cell 2 175, .cell 2 176, .cell 2 177, .cell 2 178, .cell 2 179, .cell 2 180, .cell 2 181, .cell 2 182, .cell 2 183, .cell 2 184, .cell 2 185, .cell 2 186, .cell 2 187, .cell 2 188, .cell 2 189, .cell 2 190, .cell 2 191, .cell 2 192, .cell 2 193, .cell 2 194, .cell 2 195, .cell 2 196, .cell 2 197, .cell 2 198, .cell 2 199, .cell 2 200, .cell 2 201, .cell 2 202, .cell 2 203, .cell 2 204, .cell 2 205, .cell 2 206, .cell 2 207, .cell 2 208, .cell 2 209, .cell 2 210, .cell 2 211, .cell 2 212, .cell 2 213, .cell 2 214, .cell 2 215, .cell 2 216, .cell 2 217, .cell 2 218, .cell 2 219, .cell 2 220, .cell 2 221, .cell 2 222, .cell 2 223, .cell 2 224, .cell 2 225, .cell 2 226, .cell 2 227, .cell 2 228, .cell 2 229, .cell 2 230, .cell 2 231, .cell 2 232, .cell 2 233, .cell 2 234, .cell 2 235, .cell 2 236, .cell 2 237, .cell 2 238, .cell 2 239, .cell 2 240, .cell 2 241, .cell 2 242, .cell 2 243, .cell 2 244, .cell 2 245, .cell 2 246, .cell 2 247, .cell 2 248, .cell 2 249, .cell 2 250, .cell 2 251, .cell 2 252, .cell 2 253, .cell 2 254, .cell 2 255]) 8 (by kernel_rfl) (by kernel_rfl) (by kernel_rfl)
theorem reads (os : Os) {H : Type} (enc : TypeId × Value → H) : ∃ places, DataW.whole enc Tryd.prog ((laidWorld os).forCall (fun _ _ => 0) ⟨#[], #[.string ByteArray.empty], []⟩).memory Tryd.f4.params.toList Rows.fnExactReadReqSpec.vars false (#[.string ByteArray.empty] : Array Value).toList 8 = some ([.lit (.string [])], [], places) :=
  ⟨[], by kernel_rfl⟩

set_option maxRecDepth 100000 in
theorem lifted (os : Os) (started : os.Started) (H : Type) (enc : TypeId × Value → H) (F : Stop.Interp) :
    ReturnsInHanded {} Tryd.checked os 4 .any ((OpenSpec.ofChange Rows.fnExactReadReqSpec).preRow enc Tryd.prog Tryd.f4 Rows.fnExactReadReqRow.domain false Rows.fnExactReadReqRow.laid) (((OpenSpec.ofChange Rows.fnExactReadReqSpec).at F).post enc Tryd.prog Tryd.f4 false true false false) := by
  obtain ⟨places, hx⟩ := reads os enc
  refine returnsInHanded_of_row (C := Tryd.checked) (s := OpenSpec.ofChange Rows.fnExactReadReqSpec) own started (by kernel_rfl) Tryd.func4
    (witness_row_at (enc := enc) (C := Tryd.checked) false (laidWorld os) #[.string ByteArray.empty] rfl (by kernel_rfl) (by kernel_rfl) (by kernel_rfl)
      (OpenSpec.preRow_of_cond 8 hx (by kernel_rfl) (fun k hk => by cases hk) (by kernel_rfl) (laid_met os))) ?_
  intro W base args ds gs before hval hW _ _ _ hL _ _
  exact contract H enc W base args ds gs before hval hW hL

theorem said : Rows.FnExactReadReqSaid :=
  OpenClaim.holds_of_cond 4 Tryd.f4 rfl rfl rfl rfl rfl rfl rfl ⟨rfl, rfl, rfl, rfl, rfl⟩ rfl rfl rfl rfl rfl (by kernel_rfl) Tryd.func4 (by kernel_rfl)
    (of_decide_eq_true (by kernel_rfl)) (by unfold Func.isWrapper; first | (rw [if_pos (by decide +kernel)]; kernel_rfl) | (rw [if_neg (by decide +kernel)]; exact ⟨rfl, rfl⟩))
    (fun os started H enc _ F => by rw [OpenClaim.pre_eq_preRow]; exact lifted os started H enc F)

theorem plain (f : FuncId) (fn : Func) (hf : Tryd.pinned.checked.prog.funcNamed "loop.example/g01623/laws.FnExactReadReq" = some f) (hfn : Tryd.pinned.checked.prog.funcs[f]? = some fn) :
    true = Tryd.pinned.checked.prog.looks [] ∧ ∀ (j : Nat) t, fn.params[j]? = some t → Tryd.pinned.checked.prog.wantsStandIn t = false := by
  obtain rfl : f = 4 := Option.some.inj ((show Tryd.prog.funcNamed "loop.example/g01623/laws.FnExactReadReq" = some 4 by kernel_rfl).symm.trans hf) |>.symm
  obtain rfl : fn = Tryd.f4 := (Option.some.inj (Tryd.func4.symm.trans hfn)).symm
  refine ⟨by kernel_rfl, fun j t ht => ?_⟩
  rw [Tryd.params4] at ht
  have hm : t ∈ (#[9] : Array TypeId) := Array.mem_of_getElem? ht
  obtain rfl : t = 9 := by simpa using hm
  exact (show Tryd.prog.wantsStandIn 9 = false by kernel_rfl)

theorem proved : Rows.FnExactReadReqCardSaid :=
  Claim7.holds_tied_plain_at .later [] _ _ _ _ said (fun _ h => by cases h) (by kernel_rfl) (fun _ h => by cases h) fnExactReadReq_row_tie rfl ⟨rfl, rfl⟩ (by kernel_rfl) rfl plain (by kernel_rfl)
#print axioms proved
end Go.Proofs.YtccgoggkpfaloaaDoor.fnExactReadReq
