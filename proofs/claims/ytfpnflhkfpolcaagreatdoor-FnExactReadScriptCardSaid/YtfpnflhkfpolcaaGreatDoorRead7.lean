
/-
  ReadReq says one thing of a text; the marks of a request of the call's own.
-/
import Derived.Test.YtfpnflhkfpolcaaGreatDoorReadM
import Derived.Test.YtfpnflhkfpolcaaGreatDoorReq
namespace Go.Proofs.YtfpnflhkfpolcaaGreatDoor.Num
open Go.RowKit Rows3 Bytes

theorem itB_num {x : Int} (h0 : 0 ≤ x) (h1 : x < 4294967296) : NumOf (itB x) x := by
  refine ⟨by omega, by omega, fun d a b e => ?_⟩
  have h2 := itB_digits h0
  rw [e, itB_digits a] at h2
  have h3 := (decDigits_facts x.toNat).1
  have h4 := (decDigits_facts d.toNat).1
  rw [h2] at h4
  omega
theorem ParseR.self {q : Bool} {x y z : Int} {lk : Bool} {l : List Int} (hok : okR q x y z l = true) : ParseR (wordsL q x y z lk l) q x y z lk l := by
  obtain ⟨hy, hz, hx0, hx1, hl8, hd⟩ := okR_facts hok
  have hw := wordsL_len q x y z lk l
  refine ⟨hw.1, (wrQ_wrW q).symm, itB_num hx0 (by omega), (sizeN_szWd hy).symm, (burstN_buWd hz).symm, ?_⟩
  have hrest : ∀ i, i < l.length → NumOf ((l.map itB).getD i ByteArray.empty) (l.getD i 0) := fun i hi => by
    have h := hd i hi
    rw [show (l.map itB).getD i ByteArray.empty = itB l[i] by simp [List.getD, hi], getD_lt hi]
    rw [getD_lt hi] at h
    exact itB_num h.1 h.2
  cases lk with
  | true => exact ⟨5, .inl ⟨rfl, rfl, by unfold wordsL; simp, rfl⟩, by unfold wordsL; simp, fun i hi => by rw [Nat.add_comm]; exact hrest i hi⟩
  | false =>
    have hsh : ∀ i, (wordsL q x y z false l).getD (4 + i) ByteArray.empty = (l.map itB).getD i ByteArray.empty := fun i => by rw [Nat.add_comm]; rfl
    refine ⟨4, .inr ⟨rfl, rfl, fun h => ?_⟩, by unfold wordsL; simp, fun i hi => by rw [hsh]; exact hrest i hi⟩
    have hl4 : (wordsL q x y z false l).length = l.length + 4 := by unfold wordsL; simp
    have hp0 : 0 < l.length := by omega
    have h8 := hd 0 hp0
    rw [getD_lt hp0] at h8
    rw [show (wordsL q x y z false l).getD 4 ByteArray.empty = (l.map itB).getD 0 ByteArray.empty from hsh 0, show (l.map itB).getD 0 ByteArray.empty = itB l[0] by simp [List.getD, hp0]]
    exact itB_lock h8.1
theorem RQ.uniq {s : ByteArray} {q q' : Bool} {x y z x' y' z' : Int} {lk lk' : Bool} {l l' : List Int} {b b' : Bool} (h : RQ s q x y z lk l b) (h' : RQ s q' x' y' z' lk' l' b') : q = q' ∧ x = x' ∧ y = y' ∧ z = z' ∧ lk = lk' ∧ l = l' ∧ b = b' := by
  rcases h with ⟨rfl, hok, hs⟩ | ⟨rfl, rfl, rfl, rfl, rfl, rfl, rfl, hno⟩
  · rcases h' with ⟨rfl, hok', hs'⟩ | ⟨-, -, -, -, -, -, -, hno'⟩
    · have h1 := ParseR.self (lk := lk) hok
      rw [← cutW_words hok hs, cutW_words hok' hs'] at h1
      obtain ⟨a, b, c, d, e, f⟩ := h1.uniq hok'
      exact ⟨a, b, c, d, e, f, rfl⟩
    · exact absurd hs (hno' _ _ _ _ _ _ hok)
  · rcases h' with ⟨rfl, hok', hs'⟩ | ⟨rfl, rfl, rfl, rfl, rfl, rfl, rfl, -⟩
    · exact absurd hs' (hno _ _ _ _ _ _ hok')
    · exact ⟨rfl, rfl, rfl, rfl, rfl, rfl, rfl⟩
theorem RQ.len {s : ByteArray} {q : Bool} {x y z : Int} {lk : Bool} {l : List Int} {b : Bool} (h : RQ s q x y z lk l b) : l.length ≤ 8 := by
  rcases h with ⟨-, hok, -⟩ | ⟨-, -, -, -, -, -, rfl, -⟩
  · exact (okR_facts hok).2.2.2.2.1
  · simp
end Go.Proofs.YtfpnflhkfpolcaaGreatDoor.Num
