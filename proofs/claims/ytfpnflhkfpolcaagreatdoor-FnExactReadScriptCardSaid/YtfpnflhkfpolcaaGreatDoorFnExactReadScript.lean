/-
  For every string the program's ReadScript answers as its model does, a script of its own memory each time, where the library's tables and errors hold what its text lays in them (the card ties them to it).
-/
import Derived.Test.YtfpnflhkfpolcaaGreatDoorCards
import Derived.Test.YtfpnflhkfpolcaaGreatDoorTie
import Derived.WalkKit
import Derived.ProofKit
import Derived.OpenShut
import Derived.ShutString
import Derived.ChangeOld
import Derived.Below
import Derived.Deep.DeepHandedRow
import Derived.Lib.LaidTab
import Derived.Test.YtfpnflhkfpolcaaGreatDoorSI5
import Derived.Stop.LaidErr
namespace Go.Proofs.YtfpnflhkfpolcaaGreatDoor.fnExactReadScript
open Go.ChangeShapes Go.WideShapes Go.ChangeAt Go.RowKit
open Go.ChangeMaps (open_string shut_string)
set_option linter.unusedVariables false

theorem own : ownKnob Tryz.prog.godebug = none := by kernel_rfl
open KD Num Rows3 GR
theorem pow_of {w : World} (h : laidMetH Tryz.prog Rows.fnExactReadScriptRow.laid w) : Pow w :=
  Lib.tabIs_of_head (rest := []) gPow (t := 133) (e := 107) (n := 20) (by kernel_rfl) Tryz.underlying133 Tryz.underlying107 (by kernel_rfl) (by kernel_rfl)
    (show laidMetH Tryz.prog [("internal/strconv.uint64pow10", Rows.laid_internal_strconv_uint64pow10)] w from h.filter (fun x => x.1 == "internal/strconv.uint64pow10"))
theorem star : "*" ++ "errors.errorString" = "*errors.errorString" := by decide
theorem rowS (u : TypeId) (h : Tryz.prog.typeName? 3 u = some "*errors.errorString") : u = 121 :=
  typeName_ptr_named (nm := "errors.errorString") (by rw [star]; kernel_rfl) (by kernel_rfl) (by decide) u (by rw [star]; exact h)
theorem errs_of {w : World} (h : laidMetH Tryz.prog Rows.fnExactReadScriptRow.laid w) : Errs w := by
  have h1 : laidMet Tryz.prog [("strconv.ErrSyntax", Rows.laid_strconv_ErrSyntax)] w := h.filter (fun x => x.1 == "strconv.ErrSyntax")
  have h2 : laidMet Tryz.prog [("strconv.ErrRange", Rows.laid_strconv_ErrRange)] w := h.filter (fun x => x.1 == "strconv.ErrRange")
  obtain ⟨a0, s0, hv0, -, -, -⟩ := laid_sentinel h1 (g := 1) (by kernel_rfl) (by kernel_rfl) Tryz.underlying77 rowS Tryz.underlying121 Tryz.underlying123 rfl rfl Tryz.underlying9 (by kernel_rfl) (by kernel_rfl)
  obtain ⟨a1, s1, hv1, -, -, -⟩ := laid_sentinel h2 (g := 2) (by kernel_rfl) (by kernel_rfl) Tryz.underlying77 rowS Tryz.underlying121 Tryz.underlying123 rfl rfl Tryz.underlying9 (by kernel_rfl) (by kernel_rfl)
  exact ⟨⟨_, _, hv0⟩, ⟨_, _, hv1⟩⟩
theorem nT_ge (l : List Int) : l.length ≤ (nT l).length := by
  induction l with
  | nil => simp
  | cons n l ih => rw [nT_cons]; simp; omega
theorem ln_ge (nm : List UInt8) (l : List Int) : l.length ≤ ((lnL nm l).flatMap (· ++ [10])).length := by
  by_cases h : l = []
  · subst h; simp
  · rw [lnL_T h]; have := nT_ge l; simp; omega
theorem posts_sz : ∀ (l : List PoX), (∀ p ∈ l, pOk p) → KD.szL postK l ≤ (FL l).length
  | [], _ => by simp [KD.szL]
  | (d0, d1, q, x, y, z, k, d) :: l, h => by
    have h1 := posts_sz l (fun q hq => h q (by simp [hq]))
    have h2 : d.length ≤ 8 := rq_len8' (h (d0, d1, q, x, y, z, k, d) (by simp))
    have h3 : postK.sz (d0, d1, q, x, y, z, k, d) = d.length := by
      rw [post_sz]
      show 0 + (0 + (0 + (0 + (0 + KD.szL KD.int d)))) = _
      rw [sz_ints]; omega
    have i0 : 1 ≤ (Lib.itoa d0).length := List.length_pos_iff.2 (itoa_ne d0)
    have i1 : 1 ≤ (Lib.itoa d1).length := List.length_pos_iff.2 (itoa_ne d1)
    rw [FL_cons, KD.szL, h3]
    unfold pL postL
    simp only [List.length_append, List.length_cons, List.length_nil]
    omega
theorem rs_sz {s : List UInt8} {z : ScX} {b : Bool} (h : RS s z b) (hs : s.length ≤ 1048576) : scriptK.sz z ≤ 2000000 := by
  obtain ⟨z0, z1, z2⟩ := z
  rw [script_sz]
  rcases h with ⟨-, h1, h2⟩ | ⟨-, h1, -⟩
  · have h3 := congrArg List.length (sT_parts (z0, z1, z2))
    rw [h2, List.length_append, List.length_append] at h3
    have h4 := posts_sz z0 h1.1
    have h5 := ln_ge waitsL z1
    have h6 := ln_ge saysL z2
    have e0 : postS.sz z0 = KD.szL postK z0 := rfl
    have e1 : ints.sz z1 = z1.length := sz_ints z1
    have e2 : ints.sz z2 = z2.length := sz_ints z2
    rw [e0, e1, e2]
    dsimp only at h3
    omega
  · simp only [Prod.mk.injEq] at h1
    obtain ⟨rfl, rfl, rfl⟩ := h1
    decide
set_option maxHeartbeats 16000000 in
set_option maxRecDepth 100000 in
theorem walk (a0 : ByteArray) (w : World) (w0 : a0.size ≤ maxLen) (hL : laidMetH Tryz.prog Rows.fnExactReadScriptRow.laid w) :
    Calls Tryz.prog 3 #[.string a0] w fun e w' => e = .returned (.bool true) ∧ Below w.heap.size w w' := by
  have Htab := Lib.hid (pow_of hL)
  have Herr := Lib.hid (errs_of hL)
  clear hL
  unfold maxLen at w0
  revert w
  intro y0 Htab Herr
  by_cases h : 1048576 < a0.size
  · go_enter Tryz.func3, Tryz.ntmps3
    go_wp2
    go_ret
    exact ⟨rfl, Below.refl _ _⟩
  have hs : a0.size ≤ 1048576 := by omega
  have HS := Lib.hid hs
  have HB_0 := Lib.hid (Below.refl y0.heap.size y0)
  go_enter Tryz.func3, Tryz.ntmps3
  go_wp2_with fail
  refine (specReadScript a0 HS.out _).mono ?_
  rintro e y1 ⟨us, z, b, he, hc, hb, hr⟩
  obtain ⟨z0, z1, z2⟩ := z
  obtain ⟨waz0, wpz0, waz1, wpz1, waz2, wpz2, rfl, _, _, _⟩ := script_form (scriptK.cap_rd hc)
  obtain rfl : e = .returned (.tuple #[.agg #[.slice waz0 z0.length wpz0, .slice waz1 z1.length wpz1, .slice waz2 z2.length wpz2], .bool b]) := he
  have HRS := Lib.hid hr
  have hz : Hid (scriptK.sz (z0, z1, z2) ≤ 2000000) := Lib.hid (rs_sz hr (by simpa using hs))
  obtain ⟨Q, hQ⟩ : ∃ Q : Int, 1 + (scriptK.cT (z0, z1, z2) : Int) = Q := ⟨_, rfl⟩
  have hQ0 : ¬ Q < 0 := by omega
  have hQQ : (Q != Q) = false := by simp
  have HQ := Lib.hid hQ
  have hQl : Hid (1 + (scriptK.cT (z0, z1, z2) : Int) ≤ 4611686018427387904) := Lib.hid (by have h1 := scriptK.cT_le (z0, z1, z2); have h2 := hz.out; omega)
  have hbb : (b != b) = false := by simp
  have hbb2 : (b == b) = true := by simp
  clear hQ hr
  have HB_1 := Lib.hid (HB_0.out.trans (hb.mono HB_0.out.size))
  have RW_1 := Lib.hid (scriptK.cap_rd hc)
  clear HB_0
  clear hb hc
  have ab := (Below.refl y1.heap.size y1).alloc (Nat.le_refl _) (Obj.cells #[.slice waz0 z0.length wpz0, .slice waz1 z1.length wpz1, .slice waz2 z2.length wpz2] 25)
  have Z2 := Lib.hid ab.size
  have HB_2 := Lib.hid (HB_1.out.trans (ab.mono HB_1.out.size))
  have RW_2 := Lib.hid (scriptK.rd_later RW_1.out ab)
  have BW_2 := Lib.hid (Bx.new 25 #[.slice waz0 z0.length wpz0, .slice waz1 z1.length wpz1, .slice waz2 z2.length wpz2] y1)
  clear HB_1 RW_1
  clear ab
  have A1 := Bx.new 25 #[.slice none 0 0, .slice none 0 0, .slice none 0 0] y1
  have f0 := A1.warm 0
  have f1 := A1.warm 1
  have f2 := A1.warm 2
  go_wp2_with fail
  clear A1 f0 f1 f2
  generalize y1.alloc (Obj.cells #[.slice waz0 z0.length wpz0, .slice waz1 z1.length wpz1, .slice waz2 z2.length wpz2] 25) = y2 at HB_2 RW_2 BW_2 Z2 ⊢
  have CA_2 := Lib.hid (Below.refl y2.heap.size y2)
  have ZG := Lib.hid CA_2.out.size
  refine (implReadScript a0 HS.out _ (Htab.out.below HB_2.out) (errs_below Herr.out HB_2.out)).mono ?_
  rintro e y3 ⟨us, z', b', he, hc, hb, hr⟩
  obtain ⟨rfl, rfl⟩ := HRS.out.uniq hr
  obtain ⟨gaz0, gpz0, gaz1, gpz1, gaz2, gpz2, rfl, _, _, _⟩ := script_form (scriptK.cap_rd hc)
  obtain rfl : e = .returned (.tuple #[.agg #[.slice gaz0 z0.length gpz0, .slice gaz1 z1.length gpz1, .slice gaz2 z2.length gpz2], .bool b]) := he
  have CA_3 := Lib.hid (CA_2.out.trans (hb.mono CA_2.out.size))
  have G_3 := Lib.hid (scriptK.cap_top hc)
  clear CA_2
  clear hb hc hr
  have ab := (Below.refl y3.heap.size y3).alloc (Nat.le_refl _) (Obj.cells #[.slice gaz0 z0.length gpz0, .slice gaz1 z1.length gpz1, .slice gaz2 z2.length gpz2] 25)
  have Z4 := Lib.hid ab.size
  have CA_4 := Lib.hid (CA_3.out.trans (ab.mono CA_3.out.size))
  have G_4 := Lib.hid (scriptK.cap_later G_3.out ab)
  have BG_4 := Lib.hid (Bx.new 25 #[.slice gaz0 z0.length gpz0, .slice gaz1 z1.length gpz1, .slice gaz2 z2.length gpz2] y3)
  clear CA_3 G_3
  clear ab
  have A1 := Bx.new 25 #[.slice none 0 0, .slice none 0 0, .slice none 0 0] y3
  have f0 := A1.warm 0
  have f1 := A1.warm 1
  have f2 := A1.warm 2
  go_upto_region 5 with fail
  clear A1 f0 f1 f2
  generalize y3.alloc (Obj.cells #[.slice gaz0 z0.length gpz0, .slice gaz1 z1.length gpz1, .slice gaz2 z2.length gpz2] 25) = y4 at CA_4 G_4 BG_4 Z4 ⊢
  have gBW_0 := (BW_2.out.later CA_4.out).cell 0 (.slice waz0 z0.length wpz0) rfl
  have gBW_1 := (BW_2.out.later CA_4.out).cell 1 (.slice waz1 z1.length wpz1) rfl
  have gBW_2 := (BW_2.out.later CA_4.out).cell 2 (.slice waz2 z2.length wpz2) rfl
  have gBG_0 := BG_4.out.cell 0 (.slice gaz0 z0.length gpz0) rfl
  have gBG_1 := BG_4.out.cell 1 (.slice gaz1 z1.length gpz1) rfl
  have gBG_2 := BG_4.out.cell 2 (.slice gaz2 z2.length gpz2) rfl
  go_wp2_with fail
  clear gBW_0 gBW_1 gBW_2 gBG_0 gBG_1 gBG_2
  refine (eqScript [.slice gaz0 z0.length gpz0, .slice gaz1 z1.length gpz1, .slice gaz2 z2.length gpz2] [.slice waz0 z0.length wpz0, .slice waz1 z1.length wpz1, .slice waz2 z2.length wpz2] (z0, z1, z2) _ hz.out (scriptK.cap_rd G_4.out) (scriptK.rd_later RW_2.out CA_4.out)).mono ?_
  rintro e y5 ⟨rfl, hb⟩
  have CA_5 := Lib.hid (CA_4.out.trans (hb.mono CA_4.out.size))
  have G_5 := Lib.hid (scriptK.cap_later G_4.out hb)
  have BG_5 := Lib.hid (BG_4.out.later hb)
  clear CA_4 G_4 BG_4
  clear hb
  have gBG_0 := BG_5.out.cell 0 (.slice gaz0 z0.length gpz0) rfl
  have gBG_1 := BG_5.out.cell 1 (.slice gaz1 z1.length gpz1) rfl
  have gBG_2 := BG_5.out.cell 2 (.slice gaz2 z2.length gpz2) rfl
  go_wp2_with fail
  clear gBG_0 gBG_1 gBG_2
  refine (markScript _ [.slice gaz0 z0.length gpz0, .slice gaz1 z1.length gpz1, .slice gaz2 z2.length gpz2] (z0, z1, z2) 1 _ hz.out (by omega) hQl.out G_5.out).mono ?_
  rintro e y6 ⟨rfl, hc, ht⟩
  rw [HQ.out]
  have CA_6 := Lib.hid (CA_5.out.trans (ht.below CA_5.out.size (fun k hk => Nat.le_trans ZG.out hk.1)))
  have G_6 := Lib.hid (hc)
  have BG_6 : Hid (Bx 25 y3.heap.size #[.slice gaz0 z0.length gpz0, .slice gaz1 z1.length gpz1, .slice gaz2 z2.length gpz2] y6) := Lib.hid ((ht.block _ BG_5.out.lt (fun hx => by have h2 := hx.2; omega)).trans BG_5.out)
  clear hc ht CA_5 G_5 BG_5
  have gBG_0 := BG_6.out.cell 0 (.slice gaz0 z0.length gpz0) rfl
  have gBG_1 := BG_6.out.cell 1 (.slice gaz1 z1.length gpz1) rfl
  have gBG_2 := BG_6.out.cell 2 (.slice gaz2 z2.length gpz2) rfl
  go_wp2_with fail
  clear gBG_0 gBG_1 gBG_2
  refine (heldScript [.slice gaz0 z0.length gpz0, .slice gaz1 z1.length gpz1, .slice gaz2 z2.length gpz2] (z0, z1, z2) 1 _ hz.out (by omega) hQl.out (scriptK.cap_rd G_6.out)).mono ?_
  rintro e y7 ⟨rfl, hb⟩
  rw [HQ.out]
  have CA_7 := Lib.hid (CA_6.out.trans (hb.mono CA_6.out.size))
  have G_7 := Lib.hid (scriptK.cap_later G_6.out hb)
  have BG_7 := Lib.hid (BG_6.out.later hb)
  clear CA_6 G_6 BG_6
  clear hb
  have HY7 := Lib.hid (HB_2.out.trans (CA_7.out.mono HB_2.out.size))
  go_wp2_with fail
  refine (implReadScript a0 HS.out _ (Htab.out.below HY7.out) (errs_below Herr.out HY7.out)).mono ?_
  rintro e y8 ⟨us, z', b', he, hc, hb, hr⟩
  obtain ⟨rfl, rfl⟩ := HRS.out.uniq hr
  obtain ⟨haz0, hpz0, haz1, hpz1, haz2, hpz2, rfl, _, _, _⟩ := script_form (scriptK.cap_rd hc)
  obtain rfl : e = .returned (.tuple #[.agg #[.slice haz0 z0.length hpz0, .slice haz1 z1.length hpz1, .slice haz2 z2.length hpz2], .bool b]) := he
  have CA_8 := Lib.hid (CA_7.out.trans (hb.mono CA_7.out.size))
  have G_8 := Lib.hid (scriptK.cap_later G_7.out hb)
  have BG_8 := Lib.hid (BG_7.out.later hb)
  have RH_8 := Lib.hid (scriptK.cap_rd hc)
  clear CA_7 G_7 BG_7
  clear hb hc hr
  have ab := (Below.refl y8.heap.size y8).alloc (Nat.le_refl _) (Obj.cells #[.slice haz0 z0.length hpz0, .slice haz1 z1.length hpz1, .slice haz2 z2.length hpz2] 25)
  have Z9 := Lib.hid ab.size
  have CA_9 := Lib.hid (CA_8.out.trans (ab.mono CA_8.out.size))
  have G_9 := Lib.hid (scriptK.cap_later G_8.out ab)
  have BG_9 := Lib.hid (BG_8.out.later ab)
  have RH_9 := Lib.hid (scriptK.rd_later RH_8.out ab)
  have BH_9 := Lib.hid (Bx.new 25 #[.slice haz0 z0.length hpz0, .slice haz1 z1.length hpz1, .slice haz2 z2.length hpz2] y8)
  clear CA_8 G_8 BG_8 RH_8
  clear ab
  have A1 := Bx.new 25 #[.slice none 0 0, .slice none 0 0, .slice none 0 0] y8
  have f0 := A1.warm 0
  have f1 := A1.warm 1
  have f2 := A1.warm 2
  go_upto_region 16 with fail
  clear A1 f0 f1 f2
  generalize y8.alloc (Obj.cells #[.slice haz0 z0.length hpz0, .slice haz1 z1.length hpz1, .slice haz2 z2.length hpz2] 25) = y9 at CA_9 G_9 BG_9 RH_9 BH_9 Z9 ⊢
  have gBW_0 := (BW_2.out.later CA_9.out).cell 0 (.slice waz0 z0.length wpz0) rfl
  have gBW_1 := (BW_2.out.later CA_9.out).cell 1 (.slice waz1 z1.length wpz1) rfl
  have gBW_2 := (BW_2.out.later CA_9.out).cell 2 (.slice waz2 z2.length wpz2) rfl
  have gBH_0 := BH_9.out.cell 0 (.slice haz0 z0.length hpz0) rfl
  have gBH_1 := BH_9.out.cell 1 (.slice haz1 z1.length hpz1) rfl
  have gBH_2 := BH_9.out.cell 2 (.slice haz2 z2.length hpz2) rfl
  go_wp2_with fail
  clear gBW_0 gBW_1 gBW_2 gBH_0 gBH_1 gBH_2
  refine (eqScript [.slice haz0 z0.length hpz0, .slice haz1 z1.length hpz1, .slice haz2 z2.length hpz2] [.slice waz0 z0.length wpz0, .slice waz1 z1.length wpz1, .slice waz2 z2.length wpz2] (z0, z1, z2) _ hz.out RH_9.out (scriptK.rd_later RW_2.out CA_9.out)).mono ?_
  rintro e y10 ⟨rfl, hb⟩
  have CA_10 := Lib.hid (CA_9.out.trans (hb.mono CA_9.out.size))
  have G_10 := Lib.hid (scriptK.cap_later G_9.out hb)
  have BG_10 := Lib.hid (BG_9.out.later hb)
  clear CA_9 G_9 BG_9 RH_9 BH_9
  clear hb
  have gBG_0 := BG_10.out.cell 0 (.slice gaz0 z0.length gpz0) rfl
  have gBG_1 := BG_10.out.cell 1 (.slice gaz1 z1.length gpz1) rfl
  have gBG_2 := BG_10.out.cell 2 (.slice gaz2 z2.length gpz2) rfl
  go_wp2_with fail
  clear gBG_0 gBG_1 gBG_2
  refine (heldScript [.slice gaz0 z0.length gpz0, .slice gaz1 z1.length gpz1, .slice gaz2 z2.length gpz2] (z0, z1, z2) 1 _ hz.out (by omega) hQl.out (scriptK.cap_rd G_10.out)).mono ?_
  rintro e y11 ⟨rfl, hb⟩
  rw [HQ.out]
  have CA_11 := Lib.hid (CA_10.out.trans (hb.mono CA_10.out.size))
  clear CA_10 G_10 BG_10
  clear hb
  go_wp2
  go_ret
  exact ⟨rfl, (HB_2.out.trans (CA_11.out.mono HB_2.out.size))⟩

set_option maxRecDepth 100000 in
theorem contract (H : Type) (enc : TypeId × Value → H) (W : World) (base : Nat) (args : Array Value) (ds gs : List (DataW H)) (before : List MemPlace)
    (hval : ∀ (j : Nat) t v, Tryz.f3.params[j]? = some t → args[j]? = some v → Value.okWide Tryz.prog W .any base t v)
    (hW : DataW.Whole enc Tryz.prog Tryz.f3.params.toList Rows.fnExactReadScriptSpec.vars false W args.toList ds gs before) (hL : laidMetH Tryz.prog Rows.fnExactReadScriptRow.laid W) :
    Calls Tryz.prog 3 args W fun e W' => ∃ v, e = .returned v ∧ Rows.fnExactReadScriptSpec.post enc Tryz.prog Tryz.f3 false true false false W args v W' := by
  have hW' := hW
  obtain ⟨p, q, hA0, hV, rfl, hfz, hnd⟩ := hW
  have hA : DataW.TrodAll enc Tryz.prog W 0 (fun _ => true) true Tryz.f3.params.toList args.toList ds p := hA0
  rw [Tryz.params3] at hA hval
  obtain ⟨v0, vs0, d0, ds0, p0, q0, hargs, rfl, rfl, h0, r0⟩ := trodAll_cons hA
  obtain ⟨rfl, rfl, rfl⟩ := trodAll_nil r0
  obtain rfl : args = #[v0] := by cases args; simp_all
  obtain ⟨rfl, rfl⟩ := trodVars_none hV
  obtain ⟨a0, rfl, rfl, rfl, w0⟩ := open_string Tryz.underlying9 (hval 0 9 v0 rfl rfl) h0
  clear hA0
  refine (walk a0 W w0 hL).mono fun e W' ⟨he, bel⟩ => ?_
  subst he
  exact ⟨_, rfl, _, _, _, [], _, [], hW', (trodAll_cons_mk (shut_bool Tryz.underlying4 _) trodAll_mk0), (trodAll_cons_mk (shut_string Tryz.underlying9 w0) trodAll_mk0), rfl, bel.frame _, fun h => by cases h⟩

noncomputable def low : Nat := (World.holding Tryz.prog default ⟨#[], #[], []⟩).heap.size
noncomputable def laidWorld (os : Os) : World :=
  let w0 := World.holding Tryz.prog os ⟨#[.cells #[.string ⟨#[118, 97, 108, 117, 101, 32, 111, 117, 116, 32, 111, 102, 32, 114, 97, 110, 103, 101]⟩] 123, .cells #[.string ⟨#[105, 110, 118, 97, 108, 105, 100, 32, 115, 121, 110, 116, 97, 120]⟩] 123], #[], []⟩
  { w0 with heap := (((((((w0.heap.modify 6 fun
      | .cells _ t frozen => .cells #[.int .u8 0, .int .u8 1, .int .u8 28, .int .u8 2, .int .u8 29, .int .u8 14, .int .u8 24, .int .u8 3, .int .u8 30, .int .u8 22, .int .u8 20, .int .u8 15, .int .u8 25, .int .u8 17, .int .u8 4, .int .u8 8, .int .u8 31, .int .u8 27, .int .u8 13, .int .u8 23, .int .u8 21, .int .u8 19, .int .u8 16, .int .u8 7, .int .u8 26, .int .u8 12, .int .u8 18, .int .u8 6, .int .u8 11, .int .u8 5, .int .u8 10, .int .u8 9] t frozen
      | o => o).modify 7 fun
      | .cells _ t frozen => .cells #[.int .u8 0, .int .u8 1, .int .u8 56, .int .u8 2, .int .u8 57, .int .u8 49, .int .u8 28, .int .u8 3, .int .u8 61, .int .u8 58, .int .u8 42, .int .u8 50, .int .u8 38, .int .u8 29, .int .u8 17, .int .u8 4, .int .u8 62, .int .u8 47, .int .u8 59, .int .u8 36, .int .u8 45, .int .u8 43, .int .u8 51, .int .u8 22, .int .u8 53, .int .u8 39, .int .u8 33, .int .u8 30, .int .u8 24, .int .u8 18, .int .u8 12, .int .u8 5, .int .u8 63, .int .u8 55, .int .u8 48, .int .u8 27, .int .u8 60, .int .u8 41, .int .u8 37, .int .u8 16, .int .u8 46, .int .u8 35, .int .u8 44, .int .u8 21, .int .u8 52, .int .u8 32, .int .u8 23, .int .u8 11, .int .u8 54, .int .u8 26, .int .u8 40, .int .u8 15, .int .u8 34, .int .u8 20, .int .u8 31, .int .u8 10, .int .u8 25, .int .u8 14, .int .u8 19, .int .u8 9, .int .u8 13, .int .u8 8, .int .u8 7, .int .u8 6] t frozen
      | o => o).modify 5 fun
      | .cells _ t frozen => .cells #[.int .u64 1, .int .u64 10, .int .u64 100, .int .u64 1000, .int .u64 10000, .int .u64 100000, .int .u64 1000000, .int .u64 10000000, .int .u64 100000000, .int .u64 1000000000, .int .u64 10000000000, .int .u64 100000000000, .int .u64 1000000000000, .int .u64 10000000000000, .int .u64 100000000000000, .int .u64 1000000000000000, .int .u64 10000000000000000, .int .u64 100000000000000000, .int .u64 1000000000000000000, .int .u64 10000000000000000000] t frozen
      | o => o).modify 4 fun
      | .cells _ t frozen => .cells #[.int .u8 128, .int .u8 191, .int .u8 160, .int .u8 191, .int .u8 128, .int .u8 159, .int .u8 144, .int .u8 191, .int .u8 128, .int .u8 143, .int .u8 0, .int .u8 0, .int .u8 0, .int .u8 0, .int .u8 0, .int .u8 0, .int .u8 0, .int .u8 0, .int .u8 0, .int .u8 0, .int .u8 0, .int .u8 0, .int .u8 0, .int .u8 0, .int .u8 0, .int .u8 0, .int .u8 0, .int .u8 0, .int .u8 0, .int .u8 0, .int .u8 0, .int .u8 0] t frozen
      | o => o).modify 3 fun
      | .cells _ t frozen => .cells #[.int .u8 240, .int .u8 240, .int .u8 240, .int .u8 240, .int .u8 240, .int .u8 240, .int .u8 240, .int .u8 240, .int .u8 240, .int .u8 240, .int .u8 240, .int .u8 240, .int .u8 240, .int .u8 240, .int .u8 240, .int .u8 240, .int .u8 240, .int .u8 240, .int .u8 240, .int .u8 240, .int .u8 240, .int .u8 240, .int .u8 240, .int .u8 240, .int .u8 240, .int .u8 240, .int .u8 240, .int .u8 240, .int .u8 240, .int .u8 240, .int .u8 240, .int .u8 240, .int .u8 240, .int .u8 240, .int .u8 240, .int .u8 240, .int .u8 240, .int .u8 240, .int .u8 240, .int .u8 240, .int .u8 240, .int .u8 240, .int .u8 240, .int .u8 240, .int .u8 240, .int .u8 240, .int .u8 240, .int .u8 240, .int .u8 240, .int .u8 240, .int .u8 240, .int .u8 240, .int .u8 240, .int .u8 240, .int .u8 240, .int .u8 240, .int .u8 240, .int .u8 240, .int .u8 240, .int .u8 240, .int .u8 240, .int .u8 240, .int .u8 240, .int .u8 240, .int .u8 240, .int .u8 240, .int .u8 240, .int .u8 240, .int .u8 240, .int .u8 240, .int .u8 240, .int .u8 240, .int .u8 240, .int .u8 240, .int .u8 240, .int .u8 240, .int .u8 240, .int .u8 240, .int .u8 240, .int .u8 240, .int .u8 240, .int .u8 240, .int .u8 240, .int .u8 240, .int .u8 240, .int .u8 240, .int .u8 240, .int .u8 240, .int .u8 240, .int .u8 240, .int .u8 240, .int .u8 240, .int .u8 240, .int .u8 240, .int .u8 240, .int .u8 240, .int .u8 240, .int .u8 240, .int .u8 240, .int .u8 240, .int .u8 240, .int .u8 240, .int .u8 240, .int .u8 240, .int .u8 240, .int .u8 240, .int .u8 240, .int .u8 240, .int .u8 240, .int .u8 240, .int .u8 240, .int .u8 240, .int .u8 240, .int .u8 240, .int .u8 240, .int .u8 240, .int .u8 240, .int .u8 240, .int .u8 240, .int .u8 240, .int .u8 240, .int .u8 240, .int .u8 240, .int .u8 240, .int .u8 240, .int .u8 240, .int .u8 240, .int .u8 240, .int .u8 241, .int .u8 241, .int .u8 241, .int .u8 241, .int .u8 241, .int .u8 241, .int .u8 241, .int .u8 241, .int .u8 241, .int .u8 241, .int .u8 241, .int .u8 241, .int .u8 241, .int .u8 241, .int .u8 241, .int .u8 241, .int .u8 241, .int .u8 241, .int .u8 241, .int .u8 241, .int .u8 241, .int .u8 241, .int .u8 241, .int .u8 241, .int .u8 241, .int .u8 241, .int .u8 241, .int .u8 241, .int .u8 241, .int .u8 241, .int .u8 241, .int .u8 241, .int .u8 241, .int .u8 241, .int .u8 241, .int .u8 241, .int .u8 241, .int .u8 241, .int .u8 241, .int .u8 241, .int .u8 241, .int .u8 241, .int .u8 241, .int .u8 241, .int .u8 241, .int .u8 241, .int .u8 241, .int .u8 241, .int .u8 241, .int .u8 241, .int .u8 241, .int .u8 241, .int .u8 241, .int .u8 241, .int .u8 241, .int .u8 241, .int .u8 241, .int .u8 241, .int .u8 241, .int .u8 241, .int .u8 241, .int .u8 241, .int .u8 241, .int .u8 241, .int .u8 241, .int .u8 241, .int .u8 2, .int .u8 2, .int .u8 2, .int .u8 2, .int .u8 2, .int .u8 2, .int .u8 2, .int .u8 2, .int .u8 2, .int .u8 2, .int .u8 2, .int .u8 2, .int .u8 2, .int .u8 2, .int .u8 2, .int .u8 2, .int .u8 2, .int .u8 2, .int .u8 2, .int .u8 2, .int .u8 2, .int .u8 2, .int .u8 2, .int .u8 2, .int .u8 2, .int .u8 2, .int .u8 2, .int .u8 2, .int .u8 2, .int .u8 2, .int .u8 19, .int .u8 3, .int .u8 3, .int .u8 3, .int .u8 3, .int .u8 3, .int .u8 3, .int .u8 3, .int .u8 3, .int .u8 3, .int .u8 3, .int .u8 3, .int .u8 3, .int .u8 35, .int .u8 3, .int .u8 3, .int .u8 52, .int .u8 4, .int .u8 4, .int .u8 4, .int .u8 68, .int .u8 241, .int .u8 241, .int .u8 241, .int .u8 241, .int .u8 241, .int .u8 241, .int .u8 241, .int .u8 241, .int .u8 241, .int .u8 241, .int .u8 241] t frozen
      | o => o).modify 2 fun
      | .cells _ t frozen => .cells #[.iface 121 (.pointer (some ⟨low + 0, 0, none⟩))] t frozen
      | o => o).modify 1 fun
      | .cells _ t frozen => .cells #[.iface 121 (.pointer (some ⟨low + 1, 0, none⟩))] t frozen
      | o => o) }
theorem laid_met (os : Os) : laidMet Tryz.prog Rows.fnExactReadScriptRow.laid ((laidWorld os).forCall (fun _ _ => 0) ⟨#[], #[.string ByteArray.empty], []⟩).memory :=
  laidMet_of_run (ps := [.cell 6 0, .cell 6 1, .cell 6 2, .cell 6 3, .cell 6 4, .cell 6 5, .cell 6 6, .cell 6 7, .cell 6 8, .cell 6 9, .cell 6 10, .cell 6 11, .cell 6 12, .cell 6 13, .cell 6 14, .cell 6 15, .cell 6 16, .cell 6 17, .cell 6 18, .cell 6 19, .cell 6 20, .cell 6 21, .cell 6 22, .cell 6 23, .cell 6 24, .cell 6 25, .cell 6 26, .cell 6 27, .cell 6 28, .cell 6 29, .cell 6 30, .cell 6 31, .cell 7 0, .cell 7 1, .cell 7 2, .cell 7 3, .cell 7 4, .cell 7 5, .cell 7 6, .cell 7 7, .cell 7 8, .cell 7 9, .cell 7 10, .cell 7 11, .cell 7 12, .cell 7 13, .cell 7 14, .cell 7 15, .cell 7 16, .cell 7 17, .cell 7 18, .cell 7 19, .cell 7 20, .cell 7 21, .cell 7 22, .cell 7 23, .cell 7 24, .cell 7 25, .cell 7 26, .cell 7 27, .cell 7 28, .cell 7 29, .cell 7 30, .cell 7 31, .cell 7 32, .cell 7 33, .cell 7 34, .cell 7 35, .cell 7 36, .cell 7 37, .cell 7 38, .cell 7 39, .cell 7 40, .cell 7 41, .cell 7 42, .cell 7 43, .cell 7 44, .cell 7 45, .cell 7 46, .cell 7 47, .cell 7 48, .cell 7 49, .cell 7 50, .cell 7 51, .cell 7 52, .cell 7 53, .cell 7 54, .cell 7 55, .cell 7 56, .cell 7 57, .cell 7 58, .cell 7 59, .cell 7 60, .cell 7 61, .cell 7 62, .cell 7 63, .cell 5 0, .cell 5 1, .cell 5 2, .cell 5 3, .cell 5 4, .cell 5 5, .cell 5 6, .cell 5 7, .cell 5 8, .cell 5 9, .cell 5 10, .cell 5 11, .cell 5 12, .cell 5 13, .cell 5 14, .cell 5 15, .cell 5 16, .cell 5 17, .cell 5 18, .cell 5 19, .cell 4 0, .cell 4 1, .cell 4 2, .cell 4 3, .cell 4 4, .cell 4 5, .cell 4 6, .cell 4 7, .cell 4 8, .cell 4 9, .cell 4 10, .cell 4 11, .cell 4 12, .cell 4 13, .cell 4 14, .cell 4 15, .cell 4 16, .cell 4 17, .cell 4 18, .cell 4 19, .cell 4 20, .cell 4 21, .cell 4 22, .cell 4 23, .cell 4 24, .cell 4 25, .cell 4 26, .cell 4 27, .cell 4 28, .cell 4 29, .cell 4 30, .cell 4 31, .cell 2 0, .cell (low + 0) 0, .cell 1 0, .cell (low + 1) 0, .cell 3 0, .cell 3 1, .cell 3 2, .cell 3 3, .cell 3 4, .cell 3 5, .cell 3 6, .cell 3 7, .cell 3 8, .cell 3 9, .cell 3 10, .cell 3 11, .cell 3 12, .cell 3 13, .cell 3 14, .cell 3 15, .cell 3 16, .cell 3 17, .cell 3 18, .cell 3 19, .cell 3 20, .cell 3 21, .cell 3 22, .cell 3 23, .cell 3 24, .cell 3 25, .cell 3 26, .cell 3 27, .cell 3 28, .cell 3 29, .cell 3 30, .cell 3 31, .cell 3 32, .cell 3 33, .cell 3 34, .cell 3 35, .cell 3 36, .cell 3 37, .cell 3 38, .cell 3 39, .cell 3 40, .cell 3 41, .cell 3 42, .cell 3 43, .cell 3 44, .cell 3 45, .cell 3 46, .cell 3 47, .cell 3 48, .cell 3 49, .cell 3 50, .cell 3 51, .cell 3 52, .cell 3 53, .cell 3 54, .cell 3 55, .cell 3 56, .cell 3 57, .cell 3 58, .cell 3 59, .cell 3 60, .cell 3 61, .cell 3 62, .cell 3 63, .cell 3 64, .cell 3 65, .cell 3 66, .cell 3 67, .cell 3 68, .cell 3 69, .cell 3 70, .cell 3 71, .cell 3 72, .cell 3 73, .cell 3 74, .cell 3 75, .cell 3 76, .cell 3 77, .cell 3 78, .cell 3 79, .cell 3 80, .cell 3 81, .cell 3 82, .cell 3 83, .cell 3 84, .cell 3 85, .cell 3 86, .cell 3 87, .cell 3 88, .cell 3 89, .cell 3 90, .cell 3 91, .cell 3 92, .cell 3 93, .cell 3 94, .cell 3 95, .cell 3 96, .cell 3 97, .cell 3 98, .cell 3 99, .cell 3 100, .cell 3 101, .cell 3 102, .cell 3 103, .cell 3 104, .cell 3 105, .cell 3 106, .cell 3 107, .cell 3 108, .cell 3 109, .cell 3 110, .cell 3 111, .cell 3 112, .cell 3 113, .cell 3 114, .cell 3 115, .cell 3 116, .cell 3 117, .cell 3 118, .cell 3 119, .cell 3 120, .cell 3 121, .cell 3 122, .cell 3 123, .cell 3 124, .cell 3 125, .cell 3 126, .cell 3 127, .cell 3 128, .cell 3 129, .cell 3 130, .cell 3 131, .cell 3 132, .cell 3 133, .cell 3 134, .cell 3 135, .cell 3 136, .cell 3 137, .cell 3 138, .cell 3 139, .cell 3 140, .cell 3 141, .cell 3 142, .cell 3 143, .cell 3 144, .cell 3 145, .cell 3 146, .cell 3 147, .cell 3 148, .cell 3 149, .cell 3 150, .cell 3 151, .cell 3 152, .cell 3 153, .cell 3 154, .cell 3 155, .cell 3 156, .cell 3 157, .cell 3 158, .cell 3 159, .cell 3 160, .cell 3 161, .cell 3 162, .cell 3 163, .cell 3 164, .cell 3 165, .cell 3 166, .cell 3 167, .cell 3 168, .cell 3 169, .cell 3 170, .cell 3 171, .cell 3 172, .cell 3 173, .cell 3 174, .cell 3 175, .cell 3 176, .cell 3 177, .cell 3 178, .cell 3 179, .cell 3 180, .cell 3 181, .cell 3 182, .cell 3 183, .cell 3 184, .cell 3 185, .cell 3 186, .cell 3 187, .cell 3 188, .cell 3 189, .cell 3 190, .cell 3 191, .cell 3 192, .cell 3 193, .cell 3 194, .cell 3 195, .cell 3 196, .cell 3 197, .cell 3 198, .cell 3 199, .cell 3 200, .cell 3 201, .cell 3 202, .cell 3 203, .cell 3 204, .cell 3 205, .cell 3 206, .cell 3 207, .cell 3 208, .cell 3 209, .cell 3 210, .cell 3 211, .cell 3 212, .cell 3 213, .cell 3 214, .cell 3 215, .cell 3 216, .cell 3 217, .cell 3 218, .cell 3 219, .cell 3 220, .cell 3 221, .cell 3 222, .cell 3 223, .cell 3 224, .cell 3 225, .cell 3 226, .cell 3 227, .cell 3 228, .cell 3 229, .cell 3 230, .cell 3 231, .cell 3 232, .cell 3 233, .cell 3 234, .cell 3 235, .cell 3 236, .cell 3 237, .cell 3 238, .cell 3 239, .cell 3 240, .cell 3 241, .cell 3 242, .cell 3 243, .cell 3 244, .cell 3 245, .cell 3 246, .cell 3 247, .cell 3 248, .cell 3 249, .cell 3 250, .cell 3 251, .cell 3 252, .cell 3 253, .cell 3 254, .cell 3 255]) 8 (by kernel_rfl) (by kernel_rfl) (by kernel_rfl)
theorem reads (os : Os) {H : Type} (enc : TypeId × Value → H) : ∃ places, DataW.whole enc Tryz.prog ((laidWorld os).forCall (fun _ _ => 0) ⟨#[], #[.string ByteArray.empty], []⟩).memory Tryz.f3.params.toList Rows.fnExactReadScriptSpec.vars false (#[.string ByteArray.empty] : Array Value).toList 8 = some ([.lit (.string [])], [], places) :=
  ⟨[], by kernel_rfl⟩

set_option maxRecDepth 100000 in
theorem lifted (os : Os) (started : os.Started) (H : Type) (enc : TypeId × Value → H) (F : Stop.Interp) :
    ReturnsInHanded {} Tryz.checked os 3 .any ((OpenSpec.ofChange Rows.fnExactReadScriptSpec).preRow enc Tryz.prog Tryz.f3 Rows.fnExactReadScriptRow.domain false Rows.fnExactReadScriptRow.laid) (((OpenSpec.ofChange Rows.fnExactReadScriptSpec).at F).post enc Tryz.prog Tryz.f3 false true false false) := by
  obtain ⟨places, hx⟩ := reads os enc
  refine returnsInHanded_of_row (C := Tryz.checked) (s := OpenSpec.ofChange Rows.fnExactReadScriptSpec) own started (by kernel_rfl) Tryz.func3
    (witness_row_at (enc := enc) (C := Tryz.checked) false (laidWorld os) #[.string ByteArray.empty] rfl (by kernel_rfl) (by kernel_rfl) (by kernel_rfl)
      (OpenSpec.preRow_of_cond 8 hx (by kernel_rfl) (fun k hk => by cases hk) (by kernel_rfl) (laid_met os))) ?_
  intro W base args ds gs before hval hW _ _ _ hL _ _
  exact contract H enc W base args ds gs before hval hW hL

theorem said : Rows.FnExactReadScriptSaid :=
  OpenClaim.holds_of_cond 3 Tryz.f3 rfl rfl rfl rfl rfl rfl rfl ⟨rfl, rfl, rfl, rfl, rfl⟩ rfl rfl rfl rfl rfl (by kernel_rfl) Tryz.func3 (by kernel_rfl)
    (of_decide_eq_true (by kernel_rfl)) (by unfold Func.isWrapper; first | (rw [if_pos (by decide +kernel)]; kernel_rfl) | (rw [if_neg (by decide +kernel)]; exact ⟨rfl, rfl⟩))
    (fun os started H enc _ F => by rw [OpenClaim.pre_eq_preRow]; exact lifted os started H enc F)

theorem plain (f : FuncId) (fn : Func) (hf : Tryz.pinned.checked.prog.funcNamed "loop.example/g01623/laws.FnExactReadScript" = some f) (hfn : Tryz.pinned.checked.prog.funcs[f]? = some fn) :
    true = Tryz.pinned.checked.prog.looks [] ∧ ∀ (j : Nat) t, fn.params[j]? = some t → Tryz.pinned.checked.prog.wantsStandIn t = false := by
  obtain rfl : f = 3 := Option.some.inj ((show Tryz.prog.funcNamed "loop.example/g01623/laws.FnExactReadScript" = some 3 by kernel_rfl).symm.trans hf) |>.symm
  obtain rfl : fn = Tryz.f3 := (Option.some.inj (Tryz.func3.symm.trans hfn)).symm
  refine ⟨by kernel_rfl, fun j t ht => ?_⟩
  rw [Tryz.params3] at ht
  have hm : t ∈ (#[9] : Array TypeId) := Array.mem_of_getElem? ht
  obtain rfl : t = 9 := by simpa using hm
  exact (show Tryz.prog.wantsStandIn 9 = false by kernel_rfl)

theorem proved : Rows.FnExactReadScriptCardSaid :=
  Claim7.holds_tied_plain_at .later [] _ _ _ _ said (fun _ h => by cases h) (by kernel_rfl) (fun _ h => by cases h) fnExactReadScript_row_tie rfl ⟨rfl, rfl⟩ (by kernel_rfl) rfl plain (by kernel_rfl)
#print axioms proved
end Go.Proofs.YtfpnflhkfpolcaaGreatDoor.fnExactReadScript
