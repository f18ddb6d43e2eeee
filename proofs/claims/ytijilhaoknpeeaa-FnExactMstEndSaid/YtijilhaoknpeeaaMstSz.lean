
/-
  The sizes of what the functions on masters return.
-/
import Derived.Test.YtijilhaoknpeeaaMst9
import Derived.Test.YtijilhaoknpeeaaMst10
namespace Go.Proofs.Ytijilhaoknpeeaa.KD
open Go.RowKit Rows3 GR Num
set_option linter.unusedVariables false

theorem mst_szq {q q' : List ReqX} {be dn tr be' dn' tr' : Int} {pa br pa' br' : Bool} (h : reqS.sz q' ≤ reqS.sz q) : mstK.sz (q', be', dn', tr', pa', br') ≤ mstK.sz (q, be, dn, tr, pa, br) := by rw [mst_sz, mst_sz]; exact h
theorem issue_sz {q : List ReqX} {be dn tr : Int} {pa br : Bool} {z : MstX} {f : Bool} (hs : mstK.sz (q, be, dn, tr, pa, br) ≤ 2000000) (h : issueM q be dn tr pa br = (z, f)) : mstK.sz z ≤ 2000000 := by
  unfold issueM at h
  split at h <;> (obtain ⟨rfl, -⟩ := Prod.mk.inj h; exact Nat.le_trans (mst_szq (Nat.le_refl _)) hs)
theorem back_sz {q : List ReqX} {be dn tr : Int} {pa br : Bool} {z : MstX} {f : Bool} (hs : mstK.sz (q, be, dn, tr, pa, br) ≤ 2000000) (h : backM q be dn tr pa br = (z, f)) : mstK.sz z ≤ 2000000 := by
  unfold backM at h
  split at h <;> (obtain ⟨rfl, -⟩ := Prod.mk.inj h; exact Nat.le_trans (mst_szq (Nat.le_refl _)) hs)
theorem tail_sz (q : List ReqX) : reqS.sz q.tail ≤ reqS.sz q := by
  cases q with
  | nil => exact Nat.le_refl _
  | cons r q =>
    show KD.szL reqK q ≤ KD.szL reqK (r :: q)
    simp only [KD.szL]
    omega
theorem end_sz {q : List ReqX} {be dn tr : Int} {pa br : Bool} {z : MstX} {f : Bool} (hs : mstK.sz (q, be, dn, tr, pa, br) ≤ 2000000) (h : endM q be dn tr pa br = (z, f)) : mstK.sz z ≤ 2000000 := by
  unfold endM at h
  split at h
  · split at h <;> (obtain ⟨rfl, -⟩ := Prod.mk.inj h)
    · exact Nat.le_trans (mst_szq (tail_sz q)) hs
    · exact Nat.le_trans (mst_szq (Nat.le_refl _)) hs
  · obtain ⟨rfl, -⟩ := Prod.mk.inj h; exact Nat.le_trans (mst_szq (Nat.le_refl _)) hs
theorem szL_app (q : List ReqX) (r : ReqX) : KD.szL reqK (q ++ [r]) = KD.szL reqK q + (1 + reqK.sz r) := by
  induction q with
  | nil => simp [KD.szL]
  | cons x q ih => simp only [List.cons_append, KD.szL, ih]; omega
theorem post_sz {q : List ReqX} {be dn tr : Int} {pa br : Bool} {r : ReqX} {z : MstX} {f : Bool} (hs : mstK.sz (q, be, dn, tr, pa, br) + reqK.sz r ≤ 1999999) (h : postM q be dn tr pa br r = (z, f)) : mstK.sz z ≤ 2000000 := by
  rw [mst_sz] at hs
  have hs : KD.szL reqK q + reqK.sz r ≤ 1999999 := hs
  unfold postM at h
  split at h <;> (obtain ⟨rfl, -⟩ := Prod.mk.inj h)
  · rw [mst_sz]; show KD.szL reqK (q ++ [r]) ≤ _; rw [szL_app]; omega
  · rw [mst_sz]; show KD.szL reqK q ≤ _; omega
end Go.Proofs.Ytijilhaoknpeeaa.KD
