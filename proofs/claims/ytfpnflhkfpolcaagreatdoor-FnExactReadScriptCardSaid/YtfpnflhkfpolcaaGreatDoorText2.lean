
/-
  The text of a request: what the program's ReqText returns.
-/
import Derived.Test.YtfpnflhkfpolcaaGreatDoorText
import Derived.Test.YtfpnflhkfpolcaaGreatDoorStrRow
import Derived.Test.YtfpnflhkfpolcaaGreatDoorShelfS
namespace Go.Proofs.YtfpnflhkfpolcaaGreatDoor.Num
open Go.RowKit Rows3 Bytes

theorem implWr (q : Bool) (w : World) : Calls Tryz.prog 65 #[.bool q] w fun e w' => e = .returned (.string (wrW q)) ∧ w = w' := by
  cases q
  all_goals
    go_enter Tryz.func65, Tryz.ntmps65
    go_wp2
    go_ret
    exact ⟨rfl, rfl⟩
theorem implSz (y : Int) (w : World) : Calls Tryz.prog 67 #[.int .i64 y] w fun e w' => e = .returned (.string (szWd y)) ∧ w = w' := by
  go_enter Tryz.func67, Tryz.ntmps67
  go_wp2
  all_goals
    go_ret
    simp_all [szWd]
theorem implBu (z : Int) (w : World) : Calls Tryz.prog 68 #[.int .i64 z] w fun e w' => e = .returned (.string (buWd z)) ∧ w = w' := by
  go_enter Tryz.func68, Tryz.ntmps68
  go_wp2
  all_goals
    go_ret
    simp_all [buWd]

/-- what each operation of the program's first sentence leaves. -/
def WrdV (b0 B : Nat) (q : Bool) (x y z : Int) : Nat → Value → World → Prop
  | 0, v, _ => v = .pointer (some ⟨b0, 0, none⟩)
  | 1, v, _ => v = .bool q
  | 2, v, _ => v = .string (wrW q)
  | 3, v, _ => v = .pointer (some ⟨b0, 2, none⟩)
  | 4, v, _ => v = .int .i64 y
  | 5, v, _ => v = .string (szWd y)
  | 6, v, _ => v = .pointer (some ⟨b0, 3, none⟩)
  | 7, v, _ => v = .int .i64 z
  | 8, v, _ => v = .string (buWd z)
  | 9, v, _ => v = .pointer (some ⟨b0, 1, none⟩)
  | 10, v, _ => v = .int .i64 x
  | 11, v, _ => v = .string (itB x)
  | 12, v, w => OwnS B v [wrW q, szWd y, buWd z, itB x] w
  | 13, v, w => OwnS B v [wrW q, szWd y, buWd z, itB x] w
  | _, _, _ => True
theorem WrdV_big {b0 B : Nat} {q : Bool} {x y z : Int} (i : Nat) (v : Value) (w : World) (h : 14 ≤ i) : WrdV b0 B q x y z i v w := by
  unfold WrdV; split <;> first | trivial | omega
theorem WrdV.later {b0 B : Nat} {q : Bool} {x y z : Int} (i : Nat) (v : Value) (w w' : World) (h : Below w.heap.size w w') (hv : WrdV b0 B q x y z i v w) : WrdV b0 B q x y z i v w' := by
  unfold WrdV at hv ⊢
  split at hv
  all_goals first
    | exact hv
    | exact hv.later h
/-- the words of a request. -/
def wordsL (q : Bool) (x y z : Int) (lk : Bool) (l : List Int) : List ByteArray := [wrW q, szWd y, buWd z, itB x] ++ (if lk then [⟨#[108, 111, 99, 107]⟩] else []) ++ l.map itB
theorem wordsL_snoc (q : Bool) (x y z : Int) (lk : Bool) (l : List Int) (j : Nat) (h : j < l.length) : wordsL q x y z lk (l.take j) ++ [itB (l.getD j 0)] = wordsL q x y z lk (l.take (j + 1)) := by
  unfold wordsL
  rw [List.take_succ_eq_append_getElem h, List.map_append, List.append_assoc, getD_lt h]
  rfl
theorem ba_eq {L : List UInt8} {A : ByteArray} (h : L = A.data.toList) : (⟨L.toArray⟩ : ByteArray) = A := by subst h; cases A; simp
theorem ownS_open {B : Nat} {v : Value} {l : List ByteArray} {w : World} (h : OwnS B v l w) (h0 : 0 < l.length) :
    ∃ g cap, v = .slice (some ⟨g, 0, none⟩) l.length cap ∧ g < w.heap.size ∧ l.length ≤ cap ∧ ∀ (j : Nat) x, l[j]? = some x → w.cell? ⟨g, 0 + j, none⟩ = some (.string x) := by
  have h' := h
  rcases h.2 with ⟨_, h1⟩ | ⟨g, cap, cur, rfl, hb, hg, hn, hm, hs, ht⟩
  · omega
  · refine ⟨g, cap, rfl, (Array.getElem?_eq_some_iff.1 hg).1, hn, fun j x hx => ?_⟩
    have hj : j < l.length := (List.getElem?_eq_some_iff.1 hx).1
    have h2 := h'.cell (i := j) hj
    rw [Nat.zero_add, h2]
    congr 2
    rw [getDS_lt hj]
    exact (List.getElem?_eq_some_iff.1 hx).2
theorem wordsL_len (q : Bool) (x y z : Int) (lk : Bool) (l : List Int) : 4 ≤ (wordsL q x y z lk l).length ∧ (wordsL q x y z lk l).length ≤ 5 + l.length := by
  unfold wordsL; cases lk <;> simp <;> omega
theorem words_join (q : Bool) (x y z : Int) (lk : Bool) (l : List Int) : (⟨(Lib.join ((wordsL q x y z lk l).map (·.data.toList)) (⟨#[32]⟩ : ByteArray).data.toList).toArray⟩ : ByteArray) = headB q x y z lk ++ tailB l := by
  apply ba_eq
  have hm : ∀ m : List Int, Lib.joinTail [32] (m.map fun d => (itB d).data.toList) = tailL m := by
    intro m
    induction m with
    | nil => rfl
    | cons d m ih => rw [List.map_cons, show Lib.joinTail [32] ((itB d).data.toList :: m.map fun d => (itB d).data.toList) = ([32] ++ (itB d).data.toList) ++ Lib.joinTail [32] (m.map fun d => (itB d).data.toList) from rfl, ih]; rfl
  have happ : ∀ a b : List (List UInt8), Lib.joinTail [32] (a ++ b) = Lib.joinTail [32] a ++ Lib.joinTail [32] b := by intro a b; simp [Lib.joinTail]
  have hl : l.map ((fun x : ByteArray => x.data.toList) ∘ itB) = l.map fun d => (itB d).data.toList := rfl
  unfold wordsL headB tailB
  rw [List.map_append, List.map_append, List.map_map, hl]
  cases lk
  · rw [show (if false = true then [(⟨#[108, 111, 99, 107]⟩ : ByteArray)] else []) = [] from rfl, show (if false = true then (⟨#[32, 108, 111, 99, 107]⟩ : ByteArray) else ⟨#[]⟩) = ⟨#[]⟩ from rfl]
    simp only [List.map_cons, List.map_nil, List.append_nil, List.cons_append, List.nil_append, Lib.join_cons]
    simp [Lib.joinTail, ByteArray.data_append, ← hm]
  · rw [show (if true = true then [(⟨#[108, 111, 99, 107]⟩ : ByteArray)] else []) = [⟨#[108, 111, 99, 107]⟩] from rfl, show (if true = true then (⟨#[32, 108, 111, 99, 107]⟩ : ByteArray) else ⟨#[]⟩) = ⟨#[32, 108, 111, 99, 107]⟩ from rfl]
    simp only [List.map_cons, List.map_nil, List.cons_append, List.nil_append, Lib.join_cons]
    simp [Lib.joinTail, ByteArray.data_append, ← hm]
theorem words_bytes (q : Bool) (x y z : Int) (lk : Bool) (l : List Int) (hx : -9223372036854775808 ≤ x) (hx' : x ≤ 9223372036854775807) (hl : l.length ≤ 8) (hd : ∀ i, i < l.length → 0 ≤ l.getD i 0 ∧ l.getD i 0 < 4294967296) :
    (Lib.join ((wordsL q x y z lk l).map (·.data.toList)) (⟨#[32]⟩ : ByteArray).data.toList).length ≤ 1000 := by
  have h1 := congrArg ByteArray.size (words_join q x y z lk l)
  have h2 : ∀ L : List UInt8, (⟨L.toArray⟩ : ByteArray).size = L.length := fun L => by simp [ByteArray.size]
  rw [h2] at h1
  rw [h1]
  have h3 := wrW_size q
  have h4 := szWd_size y
  have h5 := buWd_size z
  have h6 := itB_size x hx hx'
  have h7 := tailB_size l hl hd l.length
  rw [List.take_length] at h7
  have h8 : (if lk = true then (⟨#[32, 108, 111, 99, 107]⟩ : ByteArray) else ⟨#[]⟩).size ≤ 5 := by cases lk <;> decide
  have h9 : (⟨#[32]⟩ : ByteArray).size = 1 := rfl
  unfold headB
  simp only [ByteArray.size_append]
  omega
set_option maxHeartbeats 4000000 in
set_option maxRecDepth 100000 in
theorem implText (q : Bool) (x y z : Int) (lk : Bool) (v : Value) (l : List Int) (hl : l.length ≤ 2000000) (w : World) (hv : RdI v l w) (htab : Pow w) :
    Calls Tryz.prog 51 #[.agg #[.bool q, .int .i64 x, .int .i64 y, .int .i64 z, .bool lk, v]] w fun e w' => e = .returned (.string (txtB q x y z lk l)) ∧ Below w.heap.size w w' := by
  have Htab := Lib.hid htab
  obtain ⟨ad, cap, rfl, hr⟩ := hv
  obtain ⟨ok, hok⟩ : ∃ ok, okR q x y z l = ok := ⟨_, rfl⟩
  have Hok := Lib.hid hok
  clear htab
  go_enter Tryz.func51, Tryz.ntmps51
  go_wp2_with fail
  refine (implReqOk _ _ _ _ _ _ l hl _ (rdI_alloc ⟨ad, cap, rfl, hr⟩ _)).mono ?_
  rintro e w1 ⟨rfl, hb1⟩
  rw [Hok.out]
  have B1 := Lib.hid ((Blk.new 35 (.bool q) (.int .i64 x) (.int .i64 y) (.int .i64 z) (.bool lk) (.slice ad l.length cap) w).later hb1)
  have Hb1 := Lib.hid (below_alloc1 (Below.refl w.heap.size w) (Nat.le_refl _) hb1)
  have Hr := Lib.hid (show RdI (.slice ad l.length cap) l w from ⟨ad, cap, rfl, hr⟩)
  clear hr hb1
  cases ok with
  | false =>
    have He := Lib.hid (show txtB q x y z lk l = ⟨#[]⟩ by unfold txtB; rw [hok]; rfl)
    clear hok
    go_wp2
    go_ret
    exact ⟨by rw [He.out]; rfl, Hb1.out⟩
  | true =>
    obtain ⟨-, -, hx0, hx1, hl8, hd8⟩ := okR_facts hok
    have Hd8 := Lib.hid hd8
    have He := Lib.hid (show txtB q x y z lk l = headB q x y z lk ++ tailB l by unfold txtB; rw [hok]; rfl)
    have Hx1 : Hid (-9223372036854775808 ≤ x) := Lib.hid (by omega)
    have Hx2 : Hid (x ≤ 9223372036854775807) := Lib.hid (by omega)
    have Htab1 := Lib.hid (Htab.out.below Hb1.out)
    obtain ⟨g0, g1, g2, g3, g4, g5⟩ := B1.out.cells
    have hlt := B1.out.lt
    clear hok hd8 hx0 hx1
    go_wp2_with fail
    refine Inv.region_inv2 [9, 10, 11, 12, 13, 14, 15, 16, 17, 18, 19, 20, 21, 3] (by kernel_rfl) (by kernel_rfl) (by kernel_rfl) (Below w1.heap.size w1) (WrdV w.heap.size w1.heap.size q x y z) (fun w' w'' => Below w'.heap.size w' w'') (fun i v w' w'' => WrdV.later i v w' w'') (Inv.none_of 14 (by kernel_rfl) rfl (fun i v w' h => WrdV_big i v w' h)) (Below.refl _ _).drew ?_ ?_
    · clear g4 g5
      intro i o ho listed a w' s hl haft K hK
      match i, ho with
      | 0, ho =>
        simp only [List.getElem?_toArray, List.getElem?_cons_zero, Option.some.injEq] at ho
        subst ho
        have d : a.tmps.getD 1 undef = .pointer (some ⟨w.heap.size, 0, none⟩) := s.other 1 (fun jj _ e => Inv.none_at (t := 1) (by kernel_rfl) e)
        unfold Oper.wp
        go_simp
        exact hK _ _ s.cls (Below.refl _ _) rfl
      | 1, ho =>
        simp only [List.getElem?_toArray, List.getElem?_cons_zero, List.getElem?_cons_succ, Option.some.injEq] at ho
        subst ho
        have d0 : a.tmps.getD 9 undef = .pointer (some ⟨w.heap.size, 0, none⟩) := s.val 0 (by decide) (haft ⟨0, .data⟩ (by simp) rfl)
        have c0 := (s.cls.cell (p := ⟨w.heap.size, 0, none⟩) hlt).trans g0
        unfold Oper.wp
        go_simp
        exact hK _ _ s.cls (Below.refl _ _) rfl
      | 2, ho =>
        simp only [List.getElem?_toArray, List.getElem?_cons_zero, List.getElem?_cons_succ, Option.some.injEq] at ho
        subst ho
        have d1 : a.tmps.getD 10 undef = .bool q := s.val 1 (by decide) (haft ⟨1, .data⟩ (by simp) rfl)
        unfold Oper.wp
        go_simp
        refine (implWr q _).mono ?_
        rintro e w'' ⟨rfl, rfl⟩
        exact hK _ _ s.cls (Below.refl _ _) rfl
      | 3, ho =>
        simp only [List.getElem?_toArray, List.getElem?_cons_zero, List.getElem?_cons_succ, Option.some.injEq] at ho
        subst ho
        have d : a.tmps.getD 1 undef = .pointer (some ⟨w.heap.size, 0, none⟩) := s.other 1 (fun jj _ e => Inv.none_at (t := 1) (by kernel_rfl) e)
        unfold Oper.wp
        go_simp
        exact hK _ _ s.cls (Below.refl _ _) rfl
      | 4, ho =>
        simp only [List.getElem?_toArray, List.getElem?_cons_zero, List.getElem?_cons_succ, Option.some.injEq] at ho
        subst ho
        have d3 : a.tmps.getD 12 undef = .pointer (some ⟨w.heap.size, 2, none⟩) := s.val 3 (by decide) (haft ⟨3, .data⟩ (by simp) rfl)
        have c2 := (s.cls.cell (p := ⟨w.heap.size, 2, none⟩) hlt).trans g2
        unfold Oper.wp
        go_simp
        exact hK _ _ s.cls (Below.refl _ _) rfl
      | 5, ho =>
        simp only [List.getElem?_toArray, List.getElem?_cons_zero, List.getElem?_cons_succ, Option.some.injEq] at ho
        subst ho
        have d4 : a.tmps.getD 13 undef = .int .i64 y := s.val 4 (by decide) (haft ⟨4, .data⟩ (by simp) rfl)
        unfold Oper.wp
        go_simp
        refine (implSz y _).mono ?_
        rintro e w'' ⟨rfl, rfl⟩
        exact hK _ _ s.cls (Below.refl _ _) rfl
      | 6, ho =>
        simp only [List.getElem?_toArray, List.getElem?_cons_zero, List.getElem?_cons_succ, Option.some.injEq] at ho
        subst ho
        have d : a.tmps.getD 1 undef = .pointer (some ⟨w.heap.size, 0, none⟩) := s.other 1 (fun jj _ e => Inv.none_at (t := 1) (by kernel_rfl) e)
        unfold Oper.wp
        go_simp
        exact hK _ _ s.cls (Below.refl _ _) rfl
      | 7, ho =>
        simp only [List.getElem?_toArray, List.getElem?_cons_zero, List.getElem?_cons_succ, Option.some.injEq] at ho
        subst ho
        have d6 : a.tmps.getD 15 undef = .pointer (some ⟨w.heap.size, 3, none⟩) := s.val 6 (by decide) (haft ⟨6, .data⟩ (by simp) rfl)
        have c3 := (s.cls.cell (p := ⟨w.heap.size, 3, none⟩) hlt).trans g3
        unfold Oper.wp
        go_simp
        exact hK _ _ s.cls (Below.refl _ _) rfl
      | 8, ho =>
        simp only [List.getElem?_toArray, List.getElem?_cons_zero, List.getElem?_cons_succ, Option.some.injEq] at ho
        subst ho
        have d7 : a.tmps.getD 16 undef = .int .i64 z := s.val 7 (by decide) (haft ⟨7, .data⟩ (by simp) rfl)
        unfold Oper.wp
        go_simp
        refine (implBu z _).mono ?_
        rintro e w'' ⟨rfl, rfl⟩
        exact hK _ _ s.cls (Below.refl _ _) rfl
      | 9, ho =>
        simp only [List.getElem?_toArray, List.getElem?_cons_zero, List.getElem?_cons_succ, Option.some.injEq] at ho
        subst ho
        have d : a.tmps.getD 1 undef = .pointer (some ⟨w.heap.size, 0, none⟩) := s.other 1 (fun jj _ e => Inv.none_at (t := 1) (by kernel_rfl) e)
        unfold Oper.wp
        go_simp
        exact hK _ _ s.cls (Below.refl _ _) rfl
      | 10, ho =>
        simp only [List.getElem?_toArray, List.getElem?_cons_zero, List.getElem?_cons_succ, Option.some.injEq] at ho
        subst ho
        have d9 : a.tmps.getD 18 undef = .pointer (some ⟨w.heap.size, 1, none⟩) := s.val 9 (by decide) (haft ⟨9, .data⟩ (by simp) rfl)
        have c1 := (s.cls.cell (p := ⟨w.heap.size, 1, none⟩) hlt).trans g1
        unfold Oper.wp
        go_simp
        exact hK _ _ s.cls (Below.refl _ _) rfl
      | 11, ho =>
        simp only [List.getElem?_toArray, List.getElem?_cons_zero, List.getElem?_cons_succ, Option.some.injEq] at ho
        subst ho
        have d10 : a.tmps.getD 19 undef = .int .i64 x := s.val 10 (by decide) (haft ⟨10, .data⟩ (by simp) rfl)
        unfold Oper.wp
        go_simp
        refine (implDec_any x Hx1.out Hx2.out _ (Htab1.out.below s.cls)).mono ?_
        rintro e w'' ⟨rfl, hb⟩
        exact hK _ _ (s.cls.trans (hb.mono s.cls.size)) hb rfl
      | 12, ho =>
        simp only [List.getElem?_toArray, List.getElem?_cons_zero, List.getElem?_cons_succ, Option.some.injEq] at ho
        subst ho
        have d2 : a.tmps.getD 11 undef = .string (wrW q) := s.val 2 (by decide) (haft ⟨2, .data⟩ (by simp) rfl)
        have d5 : a.tmps.getD 14 undef = .string (szWd y) := s.val 5 (by decide) (haft ⟨5, .data⟩ (by simp) rfl)
        have d8 : a.tmps.getD 17 undef = .string (buWd z) := s.val 8 (by decide) (haft ⟨8, .data⟩ (by simp) rfl)
        have d11 : a.tmps.getD 20 undef = .string (itB x) := s.val 11 (by decide) (haft ⟨11, .data⟩ (by simp) rfl)
        rw [Array.getD_eq_getD_getElem?] at d2 d5 d8 d11
        unfold Oper.wp
        go_simp
        exact hK _ _ (s.cls.alloc s.cls.size _) ((Below.refl _ _).alloc (Nat.le_refl _) _) (OwnS.full w1.heap.size w' s.cls.size [wrW q, szWd y, buWd z, itB x] 4 rfl (by decide) #[.string (wrW q), .string (szWd y), .string (buWd z), .string (itB x)] rfl)
      | 13, ho =>
        simp only [List.getElem?_toArray, List.getElem?_cons_zero, List.getElem?_cons_succ, Option.some.injEq] at ho
        subst ho
        obtain ⟨u, d12⟩ : ∃ u, a.tmps.getD 21 undef = u := ⟨_, rfl⟩
        have ho : OwnS w1.heap.size u [wrW q, szWd y, buWd z, itB x] w' := by
          have h := s.val 12 (by decide) (haft ⟨12, .data⟩ (by simp) rfl)
          rw [← d12]; exact h
        have Ho := Lib.hid ho
        clear ho
        unfold Oper.wp
        go_simp
        exact hK _ _ s.cls (Below.refl _ _) Ho.out
      | n + 14, ho => simp at ho
    · intro f w2 hb2 hval
      obtain ⟨v3, h3⟩ : ∃ v, f 3 = v := ⟨_, rfl⟩
      have ho : OwnS w1.heap.size v3 [wrW q, szWd y, buWd z, itB x] w2 := by rw [← h3]; exact hval 13 (by decide)
      simp only [Inv.setAll, List.setIfInBounds_toArray, List.set_cons_zero, List.set_cons_succ]
      rw [h3]
      obtain ⟨ad3, cap3, rfl⟩ := ho.slice
      have Ho := Lib.hid ho
      have B2 := Lib.hid (B1.out.later hb2)
      have Hb2 := Lib.hid (Hb1.out.trans (hb2.mono Hb1.out.size))
      have hsz2 : w1.heap.size ≤ w2.heap.size := hb2.size
      have Hb12 := Lib.hid hb2
      clear h3 hval hb2 g0 g1 g2 g3 g4 g5 ho
      obtain ⟨g0, g1, g2, g3, g4, g5⟩ := B2.out.cells
      obtain ⟨n, hn⟩ : ∃ n, l.length = n := ⟨_, rfl⟩
      have Hn := Lib.hid hn
      have Hl8 := Lib.hid hl8
      rw [hn] at hl8 g5
      have Hwb := Lib.hid (fun LK => words_bytes q x y z LK l Hx1.out Hx2.out Hl8.out Hd8.out)
      obtain ⟨LK, hLK⟩ : ∃ b, lk = b := ⟨_, rfl⟩
      have HLK := Lib.hid hLK
      clear hn hLK
      cases lk
      case' false =>
        go_wp2_with fail
        have Ho3 : Hid (OwnS w1.heap.size (.slice ad3 4 cap3) (wordsL q x y z LK (l.take 0)) w2) := Lib.hid (by rw [← HLK.out]; exact Ho.out)
        have Hb3 : Hid (Below w1.heap.size w1 w2) := Hb12
      case' true =>
        go_wp2_with (at_builtin; (refine appS rfl _ _ rfl w1.heap.size (.slice ad3 4 cap3) [wrW q, szWd y, buWd z, itB x] w2 ⟨#[108, 111, 99, 107]⟩ rfl rfl Ho.out hsz2 (by simp) ?_); intro v' w3 hown3 hb3; have Ho3 : Hid (OwnS w1.heap.size v' (wordsL q x y z LK (l.take 0)) w3) := Lib.hid (by rw [← HLK.out]; exact hown3); have Hb3 := Lib.hid (Hb12.out.trans hb3); have c5 := (hb3.cell (p := ⟨w.heap.size, 5, none⟩) hlt).trans g5; clear hown3 hb3)
      all_goals
        clear g0 g1 g2 g3 g4 g5
        go_loopw [3, 30] (fun s i wr => ∃ m : Nat, m ≤ n ∧ i = .int .i64 m ∧ OwnS w1.heap.size s (wordsL q x y z LK (l.take m)) wr ∧ Below w1.heap.size w1 wr) (fun _ i _ => n - (intOf i).toNat)
        case atStart => exact ⟨0, by omega, rfl, Ho3.out, Hb3.out⟩
        case round =>
          obtain ⟨m, hm, rfl, ho, hbr⟩ := hrel
          have Hbr := Lib.hid hbr
          by_cases hlt2 : m < n
          · obtain ⟨_, _, e, hrd⟩ := Hr.out.below (Hb1.out.trans (hbr.mono Hb1.out.size))
            cases e
            rw [Hn.out] at hrd
            obtain ⟨bb, o, rfl, hb1, hc1⟩ := hrd m hlt2
            have hd := Hd8.out m (by rw [Hn.out]; exact hlt2)
            have Hs := Lib.hid (wordsL_snoc q x y z LK l m (by rw [Hn.out]; exact hlt2))
            obtain ⟨d, hdd⟩ : ∃ d, l.getD m 0 = d := ⟨_, rfl⟩
            rw [hdd] at hc1 hd Hs
            obtain ⟨D, hD⟩ : ∃ D : ByteArray, (⟨(Lib.itoa d).toArray⟩ : ByteArray) = D := ⟨_, rfl⟩
            rw [show itB d = D from hD] at Hs
            have HD := Lib.hid hD
            have Hd1 : Hid (-9223372036854775808 ≤ d) := Lib.hid (by omega)
            have Hd2 : Hid (d ≤ 9223372036854775807) := Lib.hid (by omega)
            have Ho := Lib.hid ho
            have hwl := (wordsL_len q x y z LK (l.take m)).2
            rw [List.length_take] at hwl
            have Hwl : Hid ((wordsL q x y z LK (l.take m)).length + 1 ≤ 8000000000000) := Lib.hid (by omega)
            clear hdd hD hrd hbr ho hwl
            go_wp2_with fail
            refine (implDec_any d Hd1.out Hd2.out _ (Htab1.out.below Hbr.out)).mono ?_
            rintro e w4 ⟨rfl, hw4⟩
            rw [HD.out]
            have Ho4 := Lib.hid (Ho.out.later hw4)
            have Hb4 := Lib.hid (Hbr.out.trans (hw4.mono Hbr.out.size))
            have hsz4 := Hb4.out.size
            clear hw4
            go_wp2_with (at_builtin; (refine appS rfl _ _ rfl w1.heap.size u3 (wordsL q x y z LK (l.take m)) w4 D rfl rfl Ho4.out hsz4 Hwl.out ?_); intro v5 w5 hown5 hb5; have Ho5 := Lib.hid hown5; have Hb5 := Lib.hid (Hb4.out.trans hb5); clear hown5 hb5)
            go_roundw
            case rel => exact ⟨m + 1, by omega, by go_num, by rw [← Hs.out]; exact Ho5.out, Hb5.out⟩
            case measure => simp [intOf]; omega
          · obtain rfl : m = n := by omega
            rw [List.take_of_length_le (by rw [Hn.out]; exact Nat.le_refl _)] at ho
            have hwl := wordsL_len q x y z LK l
            obtain ⟨g, cp, rfl, hgl, hcap, hcells⟩ := ownS_open ho (by omega)
            have Hc := Lib.hid hcells
            have Hcap := Lib.hid hcap
            have Hwl2 : Hid ((wordsL q x y z LK l).length ≤ 140737488355328) := Lib.hid (by have := Hl8.out; omega)
            clear hcells ho hcap hbr hwl
            go_wp2_with fail
            refine (Tryz.strings_Join g 0 cp (wordsL q x y z LK l) ⟨#[32]⟩ _ Hc.out hgl Hwl2.out Hcap.out (Nat.le_trans (Hwb.out LK) (by decide))).mono ?_
            rintro e w6 ⟨rfl, hb6⟩
            go_wp2
            go_ret
            exact ⟨by rw [He.out, words_join, ← HLK.out]; rfl, Hb1.out.trans ((Hbr.out.trans (hb6.mono Hbr.out.size)).mono Hb1.out.size)⟩
end Go.Proofs.YtfpnflhkfpolcaaGreatDoor.Num
