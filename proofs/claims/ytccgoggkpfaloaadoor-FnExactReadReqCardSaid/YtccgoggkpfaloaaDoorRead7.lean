
/-
  ReadReq says one thing of a text; the marks of a request of the call's own.
-/
import Derived.Test.YtccgoggkpfaloaaDoorReadM
import Derived.Test.YtccgoggkpfaloaaDoorReq
namespace Go.Proofs.YtccgoggkpfaloaaDoor.Num
open Go.RowKit Rows3 Bytes

theorem itB_num {x : Int} (h0 : 0 ≤ x) (h1 : x < 4294967296) : NumOf (itB x) x := by
  refine ⟨by omega, by omega, fun d a b e => ?_⟩
  have h2 := itB_digits h0
  rw [e, itB_digits a] at h2
  have h3 := (decDigits_facts x.toNat).1
  have h4 := (decDigits_facts d.toNat).1
  rw [h2] at h4
  omega
theorem ParseR.self {q : Bool} {x y z : Int} {lk : Bool} {l : List Int} (hok : okR q x y z l = true) : ParseR (wordsL q x y z lk l) q x y z lk l := by
  obtain ⟨hy, hz, hx0, hx1, hl8, hd⟩ := okR_facts hok
  have hw := wordsL_len q x y z lk l
  refine ⟨hw.1, (wrQ_wrW q).symm, itB_num hx0 (by omega), (sizeN_szWd hy).symm, (burstN_buWd hz).symm, ?_⟩
  have hrest : ∀ i, i < l.length → NumOf ((l.map itB).getD i ByteArray.empty) (l.getD i 0) := fun i hi => by
    have h := hd i hi
    rw [show (l.map itB).getD i ByteArray.empty = itB l[i] by simp [List.getD, hi], getD_lt hi]
    rw [getD_lt hi] at h
    exact itB_num h.1 h.2
  cases lk with
  | true => exact ⟨5, .inl ⟨rfl, rfl, by unfold wordsL; simp, rfl⟩, by unfold wordsL; simp, fun i hi => by rw [Nat.add_comm]; exact hrest i hi⟩
  | false =>
    have hsh : ∀ i, (wordsL q x y z false l).getD (4 + i) ByteArray.empty = (l.map itB).getD i ByteArray.empty := fun i => by rw [Nat.add_comm]; rfl
    refine ⟨4, .inr ⟨rfl, rfl, fun h => ?_⟩, by unfold wordsL; simp, fun i hi => by rw [hsh]; exact hrest i hi⟩
    have hl4 : (wordsL q x y z false l).length = l.length + 4 := by unfold wordsL; simp
    have hp0 : 0 < l.length := by omega
    have h8 := hd 0 hp0
    rw [getD_lt hp0] at h8
    rw [show (wordsL q x y z false l).getD 4 ByteArray.empty = (l.map itB).getD 0 ByteArray.empty from hsh 0, show (l.map itB).getD 0 ByteArray.empty = itB l[0] by simp [List.getD, hp0]]
    exact itB_lock h8.1
theorem RQ.uniq {s : ByteArray} {q q' : Bool} {x y z x' y' z' : Int} {lk lk' : Bool} {l l' : List Int} {b b' : Bool} (h : RQ s q x y z lk l b) (h' : RQ s q' x' y' z' lk' l' b') : q = q' ∧ x = x' ∧ y = y' ∧ z = z' ∧ lk = lk' ∧ l = l' ∧ b = b' := by
  rcases h with ⟨rfl, hok, hs⟩ | ⟨rfl, rfl, rfl, rfl, rfl, rfl, rfl, hno⟩
  · rcases h' with ⟨rfl, hok', hs'⟩ | ⟨-, -, -, -, -, -, -, hno'⟩
    · have h1 := ParseR.self (lk := lk) hok
      rw [← cutW_words hok hs, cutW_words hok' hs'] at h1
      obtain ⟨a, b, c, d, e, f⟩ := h1.uniq hok'
      exact ⟨a, b, c, d, e, f, rfl⟩
    · exact absurd hs (hno' _ _ _ _ _ _ hok)
  · rcases h' with ⟨rfl, hok', hs'⟩ | ⟨rfl, rfl, rfl, rfl, rfl, rfl, rfl, -⟩
    · exact absurd hs' (hno _ _ _ _ _ _ hok')
    · exact ⟨rfl, rfl, rfl, rfl, rfl, rfl, rfl⟩
theorem RQ.len {s : ByteArray} {q : Bool} {x y z : Int} {lk : Bool} {l : List Int} {b : Bool} (h : RQ s q x y z lk l b) : l.length ≤ 8 := by
  rcases h with ⟨-, hok, -⟩ | ⟨-, -, -, -, -, -, rfl, -⟩
  · exact (okR_facts hok).2.2.2.2.1
  · simp
theorem markReq_own (q : Bool) (x y z : Int) (lk : Bool) (B : Nat) (v : Value) (l : List Int) (k : Int) (hk0 : 0 ≤ k) (hk1 : k ≤ 2000000) (hn : l.length ≤ 2000000) (w : World) (hB : B ≤ w.heap.size) (hv : OwnI B v l w) :
    Calls Tryd.prog 12 #[.agg #[.bool q, .int .i64 x, .int .i64 y, .int .i64 z, .bool lk, v], .int .i64 k] w fun e w' => e = .returned (.int .i64 (k + l.length)) ∧ OwnI B v (marks k l.length) w' ∧ Below B w w' ∧ ∀ k, k < w.heap.size → v.ownBlock ≠ some k → w'.heap[k]? = w.heap[k]? := by
  have hv1 := Lib.hid (hv.alloc (.cells #[.bool q, .int .i64 x, .int .i64 y, .int .i64 z, .bool lk, v] 27))
  have hb1 := Lib.hid ((Below.refl B w).alloc hB (.cells #[.bool q, .int .i64 x, .int .i64 y, .int .i64 z, .bool lk, v] 27))
  have Hv := Lib.hid hv
  obtain ⟨ad, cap, rfl⟩ := hv.slice
  clear hv
  go_enter Tryd.func12, Tryd.ntmps12
  go_wp2_with fail
  refine (mark_own B _ l k hk0 hk1 hn _ hv1.out).mono ?_
  rintro e w2 ⟨rfl, ho2, hg2⟩
  have Hb2 := Lib.hid (hb1.out.grown hg2 (by simp; omega) (fun k hk => (World.ownsRow.lt hv1.out k hk).1))
  have Ho2 := Lib.hid ho2
  have Hs2 : Hid (∀ k, k < w.heap.size → (Value.slice ad l.length cap).ownBlock ≠ some k → w2.heap[k]? = w.heap[k]?) := Lib.hid (fun k hk hne => by
    rw [hg2.block k (by simp; omega) (fun e => hne e.symm)]
    exact Below.heap_alloc w _ k hk)
  clear ho2 hg2
  go_wp2
  go_ret
  exact ⟨rfl, Ho2.out, Hb2.out, Hs2.out⟩
theorem heldReq_same (q : Bool) (x y z : Int) (lk : Bool) (v : Value) (k : Int) (n : Nat) (hk0 : 0 ≤ k) (hk1 : k ≤ 2000000) (hn : n ≤ 2000000) (w : World) (hv : RdI v (marks k n) w) :
    Calls Tryd.prog 13 #[.agg #[.bool q, .int .i64 x, .int .i64 y, .int .i64 z, .bool lk, v], .int .i64 k] w fun e w' => e = .returned (.int .i64 (k + n)) ∧ Below w.heap.size w w' := by
  have Hv := Lib.hid hv
  obtain ⟨ad, cap, rfl, hr⟩ := hv
  clear hr
  go_enter Tryd.func13, Tryd.ntmps13
  go_wp2_with fail
  refine (held_same _ k n hk0 hk1 hn _ (rdI_alloc Hv.out _)).mono ?_
  rintro e w2 ⟨rfl, hb2⟩
  have Hb2 := Lib.hid hb2
  have hp : ¬ (k + (n : Int) < 0) := by omega
  clear hb2
  go_wp2
  go_ret
  exact ⟨rfl, below_alloc1 (Below.refl _ _) (Nat.le_refl _) Hb2.out⟩
end Go.Proofs.YtccgoggkpfaloaaDoor.Num
