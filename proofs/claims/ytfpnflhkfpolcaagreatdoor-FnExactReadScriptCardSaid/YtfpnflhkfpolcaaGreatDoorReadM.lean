
/-
  What is read of a text: plain facts; what each operation leaves where a request is made.
-/
import Derived.Test.YtfpnflhkfpolcaaGreatDoorReadJ
import Derived.Test.YtfpnflhkfpolcaaGreatDoorFill
import Derived.Test.YtfpnflhkfpolcaaGreatDoorInv2
import Derived.Deep.RegionLaw
namespace Go.Proofs.YtfpnflhkfpolcaaGreatDoor.Num
open Go.RowKit Rows3 Bytes

/-- the number of a size's word, of a burst's; -1 where it is none. -/
def sizeN (s : ByteArray) : Int := if s = ⟨#[98, 121, 116, 101]⟩ then 0 else if s = ⟨#[104, 97, 108, 102]⟩ then 1 else if s = ⟨#[119, 111, 114, 100]⟩ then 2 else -1
def burstN (s : ByteArray) : Int := if s = ⟨#[111, 110, 101]⟩ then 0 else if s = ⟨#[102, 111, 117, 114]⟩ then 1 else if s = ⟨#[119, 114, 97, 112]⟩ then 2 else if s = ⟨#[101, 105, 103, 104, 116]⟩ then 3 else -1
def wrQ (s : ByteArray) : Bool := decide (s = ⟨#[119, 114, 105, 116, 101]⟩)
theorem sizeN_bd (s : ByteArray) : -1 ≤ sizeN s ∧ sizeN s ≤ 2 := by unfold sizeN; (repeat' split) <;> omega
theorem burstN_bd (s : ByteArray) : -1 ≤ burstN s ∧ burstN s ≤ 3 := by unfold burstN; (repeat' split) <;> omega
theorem find_size {s : ByteArray} {w : World} {e : Ending} {w' : World} (h : FindP [⟨#[98, 121, 116, 101]⟩, ⟨#[104, 97, 108, 102]⟩, ⟨#[119, 111, 114, 100]⟩] s w e w') : e = .returned (.int .i64 (sizeN s)) ∧ w = w' := by
  obtain ⟨n, he, hn, hw⟩ := h
  refine ⟨?_, hw⟩
  rw [he]
  congr 2
  rcases hn with ⟨h0, h1, h2, h3⟩ | ⟨rfl, h3⟩
  · obtain ⟨k, rfl⟩ := Int.eq_ofNat_of_zero_le h0
    simp only [Int.toNat_natCast, List.length_cons, List.length_nil] at h1 h2 h3 ⊢
    have : k = 0 ∨ k = 1 ∨ k = 2 := by omega
    rcases this with rfl | rfl | rfl
    · have e2 : _ = s := h2; subst e2; rfl
    · have e2 : _ = s := h2; subst e2; rfl
    · have e2 : _ = s := h2; subst e2; rfl
  · have a0 : ¬ (⟨#[98, 121, 116, 101]⟩ : ByteArray) = s := h3 0 (by simp)
    have a1 : ¬ (⟨#[104, 97, 108, 102]⟩ : ByteArray) = s := h3 1 (by simp)
    have a2 : ¬ (⟨#[119, 111, 114, 100]⟩ : ByteArray) = s := h3 2 (by simp)
    unfold sizeN
    rw [if_neg (fun h => a0 h.symm), if_neg (fun h => a1 h.symm), if_neg (fun h => a2 h.symm)]
theorem find_burst {s : ByteArray} {w : World} {e : Ending} {w' : World} (h : FindP [⟨#[111, 110, 101]⟩, ⟨#[102, 111, 117, 114]⟩, ⟨#[119, 114, 97, 112]⟩, ⟨#[101, 105, 103, 104, 116]⟩] s w e w') : e = .returned (.int .i64 (burstN s)) ∧ w = w' := by
  obtain ⟨n, he, hn, hw⟩ := h
  refine ⟨?_, hw⟩
  rw [he]
  congr 2
  rcases hn with ⟨h0, h1, h2, h3⟩ | ⟨rfl, h3⟩
  · obtain ⟨k, rfl⟩ := Int.eq_ofNat_of_zero_le h0
    simp only [Int.toNat_natCast, List.length_cons, List.length_nil] at h1 h2 h3 ⊢
    have : k = 0 ∨ k = 1 ∨ k = 2 ∨ k = 3 := by omega
    rcases this with rfl | rfl | rfl | rfl
    · have e2 : _ = s := h2; subst e2; rfl
    · have e2 : _ = s := h2; subst e2; rfl
    · have e2 : _ = s := h2; subst e2; rfl
    · have e2 : _ = s := h2; subst e2; rfl
  · have a0 : ¬ (⟨#[111, 110, 101]⟩ : ByteArray) = s := h3 0 (by simp)
    have a1 : ¬ (⟨#[102, 111, 117, 114]⟩ : ByteArray) = s := h3 1 (by simp)
    have a2 : ¬ (⟨#[119, 114, 97, 112]⟩ : ByteArray) = s := h3 2 (by simp)
    have a3 : ¬ (⟨#[101, 105, 103, 104, 116]⟩ : ByteArray) = s := h3 3 (by simp)
    unfold burstN
    rw [if_neg (fun h => a0 h.symm), if_neg (fun h => a1 h.symm), if_neg (fun h => a2 h.symm), if_neg (fun h => a3 h.symm)]
/-- what each operation leaves where the model makes its request. -/
def MkV (g n cp B : Nat) (W0 W1 W2 : ByteArray) : Nat → Value → World → Prop
  | 0, v, _ => v = .slice (some ⟨g, 0, none⟩) n cp
  | 1, v, _ => v = .pointer (some ⟨g, 0, none⟩)
  | 2, v, _ => v = .string W0
  | 3, v, _ => v = .bool (wrQ W0)
  | 4, v, w => RdS v [⟨#[98, 121, 116, 101]⟩, ⟨#[104, 97, 108, 102]⟩, ⟨#[119, 111, 114, 100]⟩] w
  | 5, v, _ => v = .slice (some ⟨g, 0, none⟩) n cp
  | 6, v, _ => v = .pointer (some ⟨g, 1, none⟩)
  | 7, v, _ => v = .string W1
  | 8, v, _ => v = .int .i64 (sizeN W1)
  | 9, v, w => RdS v [⟨#[111, 110, 101]⟩, ⟨#[102, 111, 117, 114]⟩, ⟨#[119, 114, 97, 112]⟩, ⟨#[101, 105, 103, 104, 116]⟩] w
  | 10, v, _ => v = .slice (some ⟨g, 0, none⟩) n cp
  | 11, v, _ => v = .pointer (some ⟨g, 2, none⟩)
  | 12, v, _ => v = .string W2
  | 13, v, _ => v = .int .i64 (burstN W2)
  | 14, v, _ => v = .agg #[.bool (wrQ W0), .int .i64 0, .int .i64 (sizeN W1), .int .i64 (burstN W2), .bool false, .slice none 0 0]
  | 15, v, w => ∃ h, v = .pointer (some ⟨h, 0, none⟩) ∧ B ≤ h ∧ h < w.heap.size ∧ Blk 35 h (.bool false) (.int .i64 0) (.int .i64 0) (.int .i64 0) (.bool false) (.slice none 0 0) w
  | _, _, _ => True
theorem MkV_big {g n cp B : Nat} {W0 W1 W2 : ByteArray} (i : Nat) (v : Value) (w : World) (h : 16 ≤ i) : MkV g n cp B W0 W1 W2 i v w := by
  unfold MkV; split <;> first | trivial | omega
theorem MkV.later {g n cp B : Nat} {W0 W1 W2 : ByteArray} (i : Nat) (v : Value) (w w' : World) (h : Below w.heap.size w w') (hv : MkV g n cp B W0 W1 W2 i v w) : MkV g n cp B W0 W1 W2 i v w' := by
  unfold MkV at hv ⊢
  split at hv
  all_goals first
    | exact hv
    | exact RdS.below hv h
    | (obtain ⟨k, h1, h2, h3, h4⟩ := hv; exact ⟨k, h1, h2, Nat.lt_of_lt_of_le h3 h.size, h4.later h⟩)
theorem MkV.at15 {g n cp B : Nat} {W0 W1 W2 : ByteArray} {v : Value} {w : World} (h : MkV g n cp B W0 W1 W2 15 v w) :
    ∃ k, v = .pointer (some ⟨k, 0, none⟩) ∧ B ≤ k ∧ k < w.heap.size ∧ Blk 35 k (.bool false) (.int .i64 0) (.int .i64 0) (.int .i64 0) (.bool false) (.slice none 0 0) w := h
theorem MkV.at14 {g n cp B : Nat} {W0 W1 W2 : ByteArray} {v : Value} {w : World} (h : MkV g n cp B W0 W1 W2 14 v w) :
    v = .agg #[.bool (wrQ W0), .int .i64 0, .int .i64 (sizeN W1), .int .i64 (burstN W2), .bool false, .slice none 0 0] := h
/-- what the model makes of a text's pieces. -/
def ParseR (ws : List ByteArray) (q : Bool) (x y z : Int) (lk : Bool) (l : List Int) : Prop :=
  4 ≤ ws.length ∧ q = wrQ (ws.getD 0 ByteArray.empty) ∧ NumOf (ws.getD 3 ByteArray.empty) x ∧ y = sizeN (ws.getD 1 ByteArray.empty) ∧ z = burstN (ws.getD 2 ByteArray.empty) ∧
  ∃ k : Nat, ((lk = true ∧ k = 5 ∧ 4 < ws.length ∧ ws.getD 4 ByteArray.empty = ⟨#[108, 111, 99, 107]⟩) ∨ (lk = false ∧ k = 4 ∧ (4 < ws.length → ws.getD 4 ByteArray.empty ≠ ⟨#[108, 111, 99, 107]⟩))) ∧
    l.length + k = ws.length ∧ ∀ i, i < l.length → NumOf (ws.getD (k + i) ByteArray.empty) (l.getD i 0)
/-- what ReadReq says of s: the request whose text it is. -/
def RQ (s : ByteArray) (q : Bool) (x y z : Int) (lk : Bool) (l : List Int) (b : Bool) : Prop :=
  (b = true ∧ okR q x y z l = true ∧ txtB q x y z lk l = s) ∨
  (b = false ∧ q = false ∧ x = 0 ∧ y = 0 ∧ z = 0 ∧ lk = false ∧ l = [] ∧ ∀ q' x' y' z' lk' l', okR q' x' y' z' l' = true → txtB q' x' y' z' lk' l' ≠ s)
/-- append of one number to a row of the call's own, as a step of a statement that draws its order. -/
theorem wp_appI {o : Oper} {a : Act} {K : Act → World → Prop} {Q : Exit → Act → World → Prop} (s x : Operand)
    (ho : o.op = .call { callee := .builtin .append, args := #[s, x], argTypes := #[23, 23] })
    (B : Nat) (v : Value) (l : List Int) (w : World) (c : Int) (hs : a.eval s = v) (hx : a.eval x = .slice (some ⟨w.heap.size, 0, none⟩) 1 1)
    (hown : OwnI B v l w) (hB : B ≤ w.heap.size) (hl : l.length + 1 ≤ 17592186044416)
    (h : ∀ v' w', OwnI B v' (l ++ [c]) w' → Below B w w' → (∀ k, k < w.heap.size → v.ownBlock ≠ some k → w'.heap[k]? = w.heap[k]?) → K (a.put o.dst v') w') :
    o.wp Tryz.prog a (w.alloc (.cells #[.int .i64 c] 3)) K Q := by
  obtain ⟨i, hi, hz, hsz, hby⟩ := info_parts info_int
  refine wp_append_own _ s x 23 ho B 3 i (.int .i64 0) 1 8 Tryz.underlying23 hi hz hsz hby rfl (by decide) v l.length (intCells l) hs (hown.alloc _) ⟨w.heap.size, 0, none⟩ 1 1 [.int .i64 c] hx rfl ?_ ?_ ?_ (by omega) (by simp; omega) ?_
  · exact cell_one_new w _ _
  · intro u hu; simp at hu; subst hu; rfl
  · unfold maxLen; omega
  · intro v' w' hown' hgr _
    refine h v' w' ?_ ?_ ?_
    · unfold OwnI; rw [intCells_append, List.length_append]; exact hown'
    · exact (((Below.refl B w).alloc hB _)).grown hgr (by simp; omega) (fun k hk => (World.ownsRow.lt hown k hk).1)
    · intro k hk hne
      rw [hgr.block k (by simp; omega) (fun e => hne e.symm)]
      exact Below.heap_alloc w _ k hk
def ReqP (s : ByteArray) (w : World) (e : Ending) (w' : World) : Prop :=
  ∃ q x y z lk v l b, e = .returned (.tuple #[.agg #[.bool q, .int .i64 x, .int .i64 y, .int .i64 z, .bool lk, v], .bool b]) ∧ OwnI w.heap.size v l w' ∧ Below w.heap.size w w' ∧ RQ s q x y z lk l b
theorem txtB_ok {s : ByteArray} {q : Bool} {x y z : Int} {lk : Bool} {l : List Int} (h4 : 2 ≤ (cutW s).length) (h : txtB q x y z lk l = s) : okR q x y z l = true := by
  cases hok : okR q x y z l with
  | true => rfl
  | false =>
    unfold txtB at h
    rw [hok] at h
    subst h
    simp [cutW, cutB, ByteArray.size] at h4
theorem rq_true {s : ByteArray} {q : Bool} {x y z : Int} {lk : Bool} {l : List Int} (h4 : 4 ≤ (cutW s).length) (h : txtB q x y z lk l = s) : RQ s q x y z lk l true := .inl ⟨rfl, txtB_ok (by omega) h, h⟩
theorem wrQ_wrW (q : Bool) : wrQ (wrW q) = q := by cases q <;> decide
theorem sizeN_szWd {y : Int} (h : ∃ k : Nat, y = (k : Int) ∧ k < 3) : sizeN (szWd y) = y := by
  obtain ⟨k, rfl, hk⟩ := h
  have : k = 0 ∨ k = 1 ∨ k = 2 := by omega
  rcases this with rfl | rfl | rfl <;> decide
theorem burstN_buWd {z : Int} (h : ∃ k : Nat, z = (k : Int) ∧ k < 4) : burstN (buWd z) = z := by
  obtain ⟨k, rfl, hk⟩ := h
  have : k = 0 ∨ k = 1 ∨ k = 2 ∨ k = 3 := by omega
  rcases this with rfl | rfl | rfl | rfl <;> decide
theorem itB_lock {d : Int} (h : 0 ≤ d) : itB d ≠ ⟨#[108, 111, 99, 107]⟩ := by
  intro e
  have h1 := itB_digits h
  rw [e] at h1
  have := (decDigits_facts d.toNat).2.2.2.2.2.1 108 (by rw [← h1]; simp)
  have e : (108 : UInt8).toNat = 108 := rfl
  omega
/-- what is made of a request's words is that request. -/
theorem ParseR.uniq {q q' : Bool} {x y z x' y' z' : Int} {lk lk' : Bool} {l l' : List Int} (hok : okR q' x' y' z' l' = true) (hp : ParseR (wordsL q' x' y' z' lk' l') q x y z lk l) : q = q' ∧ x = x' ∧ y = y' ∧ z = z' ∧ lk = lk' ∧ l = l' := by
  obtain ⟨hy, hz, hx0, hx1, hl8, hd⟩ := okR_facts hok
  obtain ⟨-, h0, h3, h1, h2, k, hk, hlen, hnum⟩ := hp
  have e0 : (wordsL q' x' y' z' lk' l').getD 0 ByteArray.empty = wrW q' := rfl
  have e1 : (wordsL q' x' y' z' lk' l').getD 1 ByteArray.empty = szWd y' := rfl
  have e2 : (wordsL q' x' y' z' lk' l').getD 2 ByteArray.empty = buWd z' := rfl
  have e3 : (wordsL q' x' y' z' lk' l').getD 3 ByteArray.empty = itB x' := rfl
  rw [e0, wrQ_wrW] at h0
  rw [e1, sizeN_szWd hy] at h1
  rw [e2, burstN_buWd hz] at h2
  rw [e3] at h3
  have hxx : x = x' := h3.2.2 x' hx0 (by omega) rfl
  have hrest : ∀ kk : Nat, (∀ i, (wordsL q' x' y' z' lk' l').getD (kk + i) ByteArray.empty = (l'.map itB).getD i ByteArray.empty) → l.length = l'.length → (∀ i, i < l.length → NumOf ((wordsL q' x' y' z' lk' l').getD (kk + i) ByteArray.empty) (l.getD i 0)) → l = l' := by
    intro kk hkk hll hn
    apply List.ext_getElem hll
    intro i hi hi'
    have h5 := hn i hi
    rw [hkk i, show (l'.map itB).getD i ByteArray.empty = itB l'[i] by simp [List.getD, hi'], getD_lt hi] at h5
    have h6 := hd i hi'
    rw [getD_lt hi'] at h6
    exact h5.2.2 _ h6.1 h6.2 rfl
  cases lk' with
  | true =>
    have e4 : (wordsL q' x' y' z' true l').getD 4 ByteArray.empty = ⟨#[108, 111, 99, 107]⟩ := rfl
    have hl5 : (wordsL q' x' y' z' true l').length = l'.length + 5 := by unfold wordsL; simp
    rcases hk with ⟨rfl, rfl, -, -⟩ | ⟨-, -, hne⟩
    · refine ⟨h0, hxx, h1, h2, rfl, hrest 5 (fun i => ?_) (by omega) hnum⟩
      rw [Nat.add_comm]; rfl
    · exact absurd e4 (hne (by omega))
  | false =>
    have hl4 : (wordsL q' x' y' z' false l').length = l'.length + 4 := by unfold wordsL; simp
    have hsh : ∀ i, (wordsL q' x' y' z' false l').getD (4 + i) ByteArray.empty = (l'.map itB).getD i ByteArray.empty := fun i => by rw [Nat.add_comm]; rfl
    rcases hk with ⟨rfl, rfl, h5, h6⟩ | ⟨rfl, rfl, hne⟩
    · have hp0 : 0 < l'.length := by omega
      have h7 := hsh 0
      rw [Nat.add_zero, h6, show (l'.map itB).getD 0 ByteArray.empty = itB l'[0] by simp [List.getD, hp0]] at h7
      have h8 := hd 0 hp0
      rw [getD_lt hp0] at h8
      exact absurd h7.symm (itB_lock h8.1)
    · exact ⟨h0, hxx, h1, h2, rfl, hrest 4 hsh (by omega) hnum⟩
theorem rq_false {s : ByteArray} {q : Bool} {x y z : Int} {lk : Bool} {l : List Int} (hp : ParseR (cutW s) q x y z lk l) (h : txtB q x y z lk l ≠ s) : RQ s false 0 0 0 false [] false := by
  refine .inr ⟨rfl, rfl, rfl, rfl, rfl, rfl, rfl, fun q' x' y' z' lk' l' hok hs => h ?_⟩
  rw [cutW_words hok hs] at hp
  obtain ⟨rfl, rfl, rfl, rfl, rfl, rfl⟩ := hp.uniq hok
  exact hs
theorem ReqP.mk {s : ByteArray} {w w' : World} {e : Ending} {q : Bool} {x y z : Int} {lk : Bool} {v : Value} {l : List Int} {b : Bool} (h1 : e = .returned (.tuple #[.agg #[.bool q, .int .i64 x, .int .i64 y, .int .i64 z, .bool lk, v], .bool b]))
    (h2 : OwnI w.heap.size v l w') (h3 : Below w.heap.size w w') (h4 : RQ s q x y z lk l b) : ReqP s w e w' := ⟨q, x, y, z, lk, v, l, b, h1, h2, h3, h4⟩
/-- what the loop over the data holds at its head. -/
def DataS (ws : List ByteArray) (k h B : Nat) (q : Bool) (x y z : Int) (lk : Bool) (w1 : World) (m : Nat) (wr : World) : Prop :=
  ∃ (ad : Option Addr) (cap : Nat) (l : List Int), l.length = m ∧ OwnI B (.slice ad m cap) l wr ∧ Blk 35 h (.bool q) (.int .i64 x) (.int .i64 y) (.int .i64 z) (.bool lk) (.slice ad m cap) wr ∧
    (∀ i, i < m → NumOf (ws.getD (k + i) ByteArray.empty) (l.getD i 0)) ∧ Below B w1 wr
theorem DataS.start {ws : List ByteArray} {k h B : Nat} {q : Bool} {x y z : Int} {lk : Bool} {w1 wr : World} (hb : Blk 35 h (.bool q) (.int .i64 x) (.int .i64 y) (.int .i64 z) (.bool lk) (.slice none 0 0) wr) (hB : Below B w1 wr) : DataS ws k h B q x y z lk w1 0 wr :=
  ⟨none, 0, [], rfl, OwnI.nil _ _, hb, fun i hi => by omega, hB⟩
theorem read_short {s : ByteArray} (h : (cutW s).length < 4) : RQ s false 0 0 0 false [] false := by
  refine .inr ⟨rfl, rfl, rfl, rfl, rfl, rfl, rfl, fun q' x' y' z' lk' l' hok hs => ?_⟩
  rw [cutW_words hok hs] at h
  have := wordsL_len q' x' y' z' lk' l'
  omega
/-- an operation that names no slot is none of the first n. -/
theorem none_tail {ops : Array Oper} {Φ : Nat → Value → World → Prop} (n : Nat) (hd : ((List.range n).all fun i => (Inv.dstOf ops i).isSome) = true) (hbig : ∀ i v w, n ≤ i → Φ i v w) (i : Nat) (v : Value) (w : World) (h : Inv.dstOf ops i = none) : Φ i v w := by
  refine hbig i v w (Nat.le_of_not_lt fun hi => ?_)
  have := List.all_eq_true.1 hd i (List.mem_range.2 hi)
  rw [h] at this; cases this
end Go.Proofs.YtfpnflhkfpolcaaGreatDoor.Num
