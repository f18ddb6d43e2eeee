
/-
  The text of a request: ReqText, for the program and for its model.
-/
import Derived.Test.YtfpnflhkfpolcaaGreatDoorReqOk
import Derived.Test.YtfpnflhkfpolcaaGreatDoorSz
import Derived.Test.YtfpnflhkfpolcaaGreatDoorInv
import Derived.Test.YtfpnflhkfpolcaaGreatDoorDec
import Derived.Deep.RegionWith
namespace Go.Proofs.YtfpnflhkfpolcaaGreatDoor.Num
open Go.RowKit Rows3 Bytes

def wrW (q : Bool) : ByteArray := if q then ⟨#[119, 114, 105, 116, 101]⟩ else ⟨#[114, 101, 97, 100]⟩
def szWd (y : Int) : ByteArray := if y = 0 then ⟨#[98, 121, 116, 101]⟩ else if y = 1 then ⟨#[104, 97, 108, 102]⟩ else if y = 2 then ⟨#[119, 111, 114, 100]⟩ else ⟨#[]⟩
def buWd (z : Int) : ByteArray := if z = 0 then ⟨#[111, 110, 101]⟩ else if z = 1 then ⟨#[102, 111, 117, 114]⟩ else if z = 2 then ⟨#[119, 114, 97, 112]⟩ else if z = 3 then ⟨#[101, 105, 103, 104, 116]⟩ else ⟨#[]⟩
def itB (x : Int) : ByteArray := ⟨(Lib.itoa x).toArray⟩

/-- what each operation of the model's first sentence leaves. -/
def TxtV (b0 : Nat) (W Y Z X : ByteArray) (x : Int) (k j : Nat) : Nat → Value → World → Prop
  | 0, v, _ => v = .string W
  | 1, v, _ => v = .string (W ++ ⟨#[32]⟩)
  | 2, v, w => ∃ g, v = .slice (some ⟨g, 0, none⟩) 3 3 ∧ g < w.heap.size ∧ w.cell? ⟨g, k, none⟩ = some (.string Y)
  | 3, v, _ => v = .pointer (some ⟨b0, 2, none⟩)
  | 4, v, _ => v = .int .i64 k
  | 5, v, w => ∃ g, v = .pointer (some ⟨g, k, none⟩) ∧ g < w.heap.size ∧ w.cell? ⟨g, k, none⟩ = some (.string Y)
  | 6, v, _ => v = .string Y
  | 7, v, _ => v = .string (W ++ ⟨#[32]⟩ ++ Y)
  | 8, v, _ => v = .string (W ++ ⟨#[32]⟩ ++ Y ++ ⟨#[32]⟩)
  | 9, v, w => ∃ g, v = .slice (some ⟨g, 0, none⟩) 4 4 ∧ g < w.heap.size ∧ w.cell? ⟨g, j, none⟩ = some (.string Z)
  | 10, v, _ => v = .pointer (some ⟨b0, 3, none⟩)
  | 11, v, _ => v = .int .i64 j
  | 12, v, w => ∃ g, v = .pointer (some ⟨g, j, none⟩) ∧ g < w.heap.size ∧ w.cell? ⟨g, j, none⟩ = some (.string Z)
  | 13, v, _ => v = .string Z
  | 14, v, _ => v = .string (W ++ ⟨#[32]⟩ ++ Y ++ ⟨#[32]⟩ ++ Z)
  | 15, v, _ => v = .string (W ++ ⟨#[32]⟩ ++ Y ++ ⟨#[32]⟩ ++ Z ++ ⟨#[32]⟩)
  | 16, v, _ => v = .pointer (some ⟨b0, 1, none⟩)
  | 17, v, _ => v = .int .i64 x
  | 18, v, _ => v = .string X
  | 19, v, _ => v = .string (W ++ ⟨#[32]⟩ ++ Y ++ ⟨#[32]⟩ ++ Z ++ ⟨#[32]⟩ ++ X)
  | 20, v, _ => v = .string (W ++ ⟨#[32]⟩ ++ Y ++ ⟨#[32]⟩ ++ Z ++ ⟨#[32]⟩ ++ X)
  | _, _, _ => True
theorem TxtV_big {b0 : Nat} {W Y Z X : ByteArray} {x : Int} {k j : Nat} (i : Nat) (v : Value) (w : World) (h : 21 ≤ i) : TxtV b0 W Y Z X x k j i v w := by
  unfold TxtV; split <;> first | trivial | omega
theorem TxtV.later {b0 : Nat} {W Y Z X : ByteArray} {x : Int} {k j : Nat} (i : Nat) (v : Value) (w w' : World) (h : Below w.heap.size w w') (hv : TxtV b0 W Y Z X x k j i v w) : TxtV b0 W Y Z X x k j i v w' := by
  unfold TxtV at hv ⊢
  split at hv
  all_goals first
    | exact hv
    | (obtain ⟨g, h1, h2, h3⟩ := hv; exact ⟨g, h1, Nat.lt_of_lt_of_le h2 h.size, by rw [h.cell (p := ⟨g, _, none⟩) h2]; exact h3⟩)
theorem okR_facts {q : Bool} {x y z : Int} {l : List Int} (h : okR q x y z l = true) :
    (∃ k : Nat, y = (k : Int) ∧ k < 3) ∧ (∃ j : Nat, z = (j : Int) ∧ j < 4) ∧ 0 ≤ x ∧ x < 512 ∧ l.length ≤ 8 ∧ ∀ i, i < l.length → 0 ≤ l.getD i 0 ∧ l.getD i 0 < 4294967296 := by
  unfold okR at h
  rw [Bool.and_eq_true] at h
  obtain ⟨h1, h2⟩ := h
  have hb := beats_ok h1
  have hlen : 0 < (addrsW x y z).length := by
    unfold okL at h1; rw [Bool.and_eq_true, decide_eq_true_iff] at h1; exact h1.1
  obtain ⟨-, hx0, hx1, -, hy⟩ := addrsW_getD hlen
  rw [show itW x y z 0 = x from rfl] at hx0 hx1
  refine ⟨?_, ?_, hx0, hx1, ?_⟩
  · rcases bytesW_cases y with e | ⟨e, _⟩ | ⟨e, _⟩ | ⟨e, _⟩
    · omega
    · exact ⟨0, e, by decide⟩
    · exact ⟨1, e, by decide⟩
    · exact ⟨2, e, by decide⟩
  · have : ¬ (z < 0 ∨ 3 < z) := fun h => by rw [beatsW_no h] at hb; omega
    exact ⟨z.toNat, by omega, by omega⟩
  · have hbd := beatsW_bd z
    have hlb := limW_bd y
    cases q with
    | false =>
      rw [if_neg (by simp), decide_eq_true_iff] at h2
      exact ⟨by omega, fun i hi => by omega⟩
    | true =>
      rw [if_pos rfl, Bool.and_eq_true, decide_eq_true_iff, List.all_eq_true] at h2
      refine ⟨by omega, fun i hi => ?_⟩
      have := (inLB_iff _ _).1 (h2.2 (l.getD i 0) (by rw [getD_lt hi]; exact List.getElem_mem hi))
      omega
theorem app_nil (V : ByteArray) : V ++ (⟨#[]⟩ : ByteArray) = V := ByteArray.append_empty
theorem wrW_size (q : Bool) : (wrW q).size ≤ 5 := by cases q <;> decide
theorem szWd_size (y : Int) : (szWd y).size ≤ 4 := by unfold szWd; (repeat' split) <;> decide
theorem buWd_size (z : Int) : (buWd z).size ≤ 5 := by unfold buWd; (repeat' split) <;> decide
theorem itB_size (x : Int) (h0 : -9223372036854775808 ≤ x) (h1 : x ≤ 9223372036854775807) : (itB x).size ≤ 21 := by
  have := Lib.itoa_length_le x h0 h1
  unfold itB; simp [ByteArray.size]; omega
/-- a separator and a numeral, for each number. -/
def tailL (l : List Int) : List UInt8 := l.flatMap fun d => 32 :: Lib.itoa d
def tailB (l : List Int) : ByteArray := ⟨(tailL l).toArray⟩
theorem tailB_snoc (H : ByteArray) (l : List Int) (j : Nat) (h : j < l.length) : H ++ tailB (l.take j) ++ ⟨#[32]⟩ ++ ⟨(Lib.itoa (l.getD j 0)).toArray⟩ = H ++ tailB (l.take (j + 1)) := by
  rw [ByteArray.append_assoc, ByteArray.append_assoc, List.take_succ_eq_append_getElem h]
  congr 1
  unfold tailB
  rw [show (⟨#[32]⟩ : ByteArray) = ⟨[32].toArray⟩ from rfl, ByteArray.mk_append_mk, ByteArray.mk_append_mk, getD_lt h]
  simp only [tailL, List.flatMap_append, List.flatMap_cons, List.flatMap_nil, List.append_nil]
  rfl
theorem tailB_size (l : List Int) (h : l.length ≤ 8) (hd : ∀ i, i < l.length → 0 ≤ l.getD i 0 ∧ l.getD i 0 < 4294967296) (j : Nat) : (tailB (l.take j)).size ≤ 176 := by
  have h1 : ∀ m : List Int, (∀ d ∈ m, 0 ≤ d ∧ d < 4294967296) → (tailL m).length ≤ 22 * m.length := by
    intro m
    induction m with
    | nil => intro _; simp [tailL]
    | cons d m ih =>
      intro hm
      have h2 := hm d (by simp)
      have h3 := Lib.itoa_length_le d (by omega) (by omega)
      have h4 := ih (fun e he => hm e (by simp [he]))
      rw [show tailL (d :: m) = (32 :: Lib.itoa d) ++ tailL m from rfl, List.length_append, List.length_cons, List.length_cons]
      omega
  have h5 := h1 (l.take j) (fun d hd' => by
    obtain ⟨i, hi, rfl⟩ := List.getElem_of_mem (List.mem_of_mem_take hd')
    have := hd i hi
    rwa [getD_lt hi] at this)
  have h6 : (l.take j).length ≤ 8 := by rw [List.length_take]; omega
  unfold tailB
  simp [ByteArray.size]
  omega
def headB (q : Bool) (x y z : Int) (lk : Bool) : ByteArray :=
  (wrW q ++ ⟨#[32]⟩ ++ szWd y ++ ⟨#[32]⟩ ++ buWd z ++ ⟨#[32]⟩ ++ itB x) ++ (if lk then ⟨#[32, 108, 111, 99, 107]⟩ else ⟨#[]⟩)
/-- the text of a request; none of what is no request. -/
def txtB (q : Bool) (x y z : Int) (lk : Bool) (l : List Int) : ByteArray := if okR q x y z l then headB q x y z lk ++ tailB l else ⟨#[]⟩
set_option maxHeartbeats 4000000 in
set_option maxRecDepth 100000 in
theorem specText (q : Bool) (x y z : Int) (lk : Bool) (v : Value) (l : List Int) (hl : l.length ≤ 2000000) (w : World) (hv : RdI v l w) :
    Calls Tryz.prog 23 #[.agg #[.bool q, .int .i64 x, .int .i64 y, .int .i64 z, .bool lk, v]] w fun e w' => e = .returned (.string (txtB q x y z lk l)) ∧ Below w.heap.size w w' := by
  obtain ⟨ad, cap, rfl, hr⟩ := hv
  go_enter Tryz.func23, Tryz.ntmps23
  obtain ⟨ok, hok⟩ : ∃ ok, okR q x y z l = ok := ⟨_, rfl⟩
  have Hok := Lib.hid hok
  go_wp2_with fail
  refine (specReqOk _ _ _ _ _ _ l hl _ (rdI_alloc ⟨ad, cap, rfl, hr⟩ _)).mono ?_
  rintro e w1 ⟨rfl, hb1⟩
  rw [Hok.out]
  have B1 := Lib.hid ((Blk.new 35 (.bool q) (.int .i64 x) (.int .i64 y) (.int .i64 z) (.bool lk) (.slice ad l.length cap) w).later hb1)
  have Hb1 := Lib.hid (below_alloc1 (Below.refl w.heap.size w) (Nat.le_refl _) hb1)
  have Hr := Lib.hid (show RdI (.slice ad l.length cap) l w from ⟨ad, cap, rfl, hr⟩)
  clear hr hb1
  cases ok with
  | false =>
    have He := Lib.hid (show txtB q x y z lk l = ⟨#[]⟩ by unfold txtB; rw [hok]; rfl)
    clear hok
    go_wp2
    go_ret
    exact ⟨by rw [He.out]; rfl, Hb1.out⟩
  | true =>
    obtain ⟨⟨k, hk, hk3⟩, ⟨j, hj, hj4⟩, hx0, hx1, hl8, hd8⟩ := okR_facts hok
    have Hd8 := Lib.hid hd8
    have hW5 := wrW_size q
    have hY4 := szWd_size y
    have hZ5 := buWd_size z
    have hX21 := itB_size x (by omega) (by omega)
    have He := Lib.hid (show txtB q x y z lk l = headB q x y z lk ++ tailB l by unfold txtB; rw [hok]; rfl)
    subst hk hj
    obtain ⟨W, hW⟩ : ∃ W : ByteArray, wrW q = W := ⟨_, rfl⟩
    obtain ⟨X, hX⟩ : ∃ X : ByteArray, itB x = X := ⟨_, rfl⟩
    obtain ⟨Y, hY⟩ : ∃ Y : ByteArray, szWd k = Y := ⟨_, rfl⟩
    obtain ⟨Z, hZ⟩ : ∃ Z : ByteArray, buWd j = Z := ⟨_, rfl⟩
    have Hh := Lib.hid (show headB q x k j lk = (W ++ ⟨#[32]⟩ ++ Y ++ ⟨#[32]⟩ ++ Z ++ ⟨#[32]⟩ ++ X) ++ (if lk then ⟨#[32, 108, 111, 99, 107]⟩ else ⟨#[]⟩) by unfold headB; rw [hW, hX, hY, hZ])
    rw [hW] at hW5
    rw [hX] at hX21
    rw [hY] at hY4
    rw [hZ] at hZ5
    have HX := Lib.hid hX
    have Hx1 : Hid (-9223372036854775808 ≤ x) := Lib.hid (by omega)
    have Hx2 : Hid (x ≤ 9223372036854775807) := Lib.hid (by omega)
    have t1 : ¬ 9223372036854775807 < W.size + 1 := by omega
    have t7 : ¬ 9223372036854775807 < W.size + 1 + Y.size := by omega
    have t8 : ¬ 9223372036854775807 < W.size + 1 + Y.size + 1 := by omega
    have t14 : ¬ 9223372036854775807 < W.size + 1 + Y.size + 1 + Z.size := by omega
    have t15 : ¬ 9223372036854775807 < W.size + 1 + Y.size + 1 + Z.size + 1 := by omega
    have t19 : ¬ 9223372036854775807 < W.size + 1 + Y.size + 1 + Z.size + 1 + X.size := by omega
    have HA : Hid (∀ w' : World, (w'.alloc (.cells #[.string ⟨#[98, 121, 116, 101]⟩, .string ⟨#[104, 97, 108, 102]⟩, .string ⟨#[119, 111, 114, 100]⟩] 9)).cell? ⟨w'.heap.size, k, none⟩ = some (.string Y)) := by
      refine Lib.hid fun w' => ?_
      rw [← hY]
      have : k = 0 ∨ k = 1 ∨ k = 2 := by omega
      rcases this with rfl | rfl | rfl <;> simp [szWd]
    have HB : Hid (∀ w' : World, (w'.alloc (.cells #[.string ⟨#[111, 110, 101]⟩, .string ⟨#[102, 111, 117, 114]⟩, .string ⟨#[119, 114, 97, 112]⟩, .string ⟨#[101, 105, 103, 104, 116]⟩] 9)).cell? ⟨w'.heap.size, j, none⟩ = some (.string Z)) := by
      refine Lib.hid fun w' => ?_
      rw [← hZ]
      have : j = 0 ∨ j = 1 ∨ j = 2 ∨ j = 3 := by omega
      rcases this with rfl | rfl | rfl | rfl <;> simp [buWd]
    have hk3' : (k : Int) < 3 := by omega
    have hj4' : (j : Int) < 4 := by omega
    obtain ⟨g0, g1, g2, g3, g4, g5⟩ := B1.out.cells
    have hlt := B1.out.lt
    have HW := Lib.hid hW
    clear hok hd8 hW hX hY hZ hk3 hj4
    cases q
    all_goals
      go_wp2_with fail
      first
        | rw [show (⟨#[114, 101, 97, 100]⟩ : ByteArray) = W from HW.out]
        | rw [show (⟨#[119, 114, 105, 116, 101]⟩ : ByteArray) = W from HW.out]
      refine Inv.region_inv2 [10, 11, 12, 13, 14, 15, 16, 17, 18, 19, 20, 21, 22, 23, 24, 25, 26, 27, 28, 29, 3] (by kernel_rfl) (by kernel_rfl) (by kernel_rfl) (Below w1.heap.size w1) (TxtV w.heap.size W Y Z X x k j) (fun w' w'' => Below w'.heap.size w' w'') (fun i v w' w'' => TxtV.later i v w' w'') (Inv.none_of 21 (by kernel_rfl) rfl (fun i v w' h => TxtV_big i v w' h)) (Below.refl _ _).drew ?_ ?_
      · clear g0 g4 g5
        intro i o ho listed a w' s hl haft K hK
        match i, ho with
        | 0, ho =>
          simp only [List.getElem?_toArray, List.getElem?_cons_zero, Option.some.injEq] at ho
          subst ho
          have d : a.tmps.getD 3 undef = .string W := s.other 3 (fun jj hjj e => by
            obtain rfl := Inv.only_at (i := 20) (by kernel_rfl) e
            exact Inv.not_both hl (s.closed 20 _ rfl hjj ⟨0, .phase⟩ (by simp) rfl))
          unfold Oper.wp
          go_simp
          exact hK _ _ s.cls (Below.refl _ _) rfl
        | 1, ho =>
          simp only [List.getElem?_toArray, List.getElem?_cons_zero, List.getElem?_cons_succ, Option.some.injEq] at ho
          subst ho
          have d0 : a.tmps.getD 10 undef = .string W := s.val 0 (by decide) (haft ⟨0, .data⟩ (by simp) rfl)
          unfold Oper.wp
          go_simp
          exact hK _ _ s.cls (Below.refl _ _) rfl
        | 2, ho =>
          simp only [List.getElem?_toArray, List.getElem?_cons_zero, List.getElem?_cons_succ, Option.some.injEq] at ho
          subst ho
          unfold Oper.wp
          go_simp
          exact hK _ _ (s.cls.alloc s.cls.size _) ((Below.refl _ _).alloc (Nat.le_refl _) _) ⟨w'.heap.size, rfl, by simp, HA.out w'⟩
        | 3, ho =>
          simp only [List.getElem?_toArray, List.getElem?_cons_zero, List.getElem?_cons_succ, Option.some.injEq] at ho
          subst ho
          have d : a.tmps.getD 1 undef = .pointer (some ⟨w.heap.size, 0, none⟩) := s.other 1 (fun jj _ e => Inv.none_at (t := 1) (by kernel_rfl) e)
          unfold Oper.wp
          go_simp
          exact hK _ _ s.cls (Below.refl _ _) rfl
        | 4, ho =>
          simp only [List.getElem?_toArray, List.getElem?_cons_zero, List.getElem?_cons_succ, Option.some.injEq] at ho
          subst ho
          have d3 : a.tmps.getD 13 undef = .pointer (some ⟨w.heap.size, 2, none⟩) := s.val 3 (by decide) (haft ⟨3, .data⟩ (by simp) rfl)
          have c2 := (s.cls.cell (p := ⟨w.heap.size, 2, none⟩) hlt).trans g2
          unfold Oper.wp
          go_simp
          exact hK _ _ s.cls (Below.refl _ _) rfl
        | 5, ho =>
          simp only [List.getElem?_toArray, List.getElem?_cons_zero, List.getElem?_cons_succ, Option.some.injEq] at ho
          subst ho
          obtain ⟨g, d2, hg, hc⟩ : ∃ g, a.tmps.getD 12 undef = .slice (some ⟨g, 0, none⟩) 3 3 ∧ g < w'.heap.size ∧ w'.cell? ⟨g, k, none⟩ = some (.string Y) := s.val 2 (by decide) (haft ⟨2, .data⟩ (by simp) rfl)
          have d4 : a.tmps.getD 14 undef = .int .i64 k := s.val 4 (by decide) (haft ⟨4, .data⟩ (by simp) rfl)
          unfold Oper.wp
          go_simp
          exact hK _ _ s.cls (Below.refl _ _) ⟨g, rfl, hg, hc⟩
        | 6, ho =>
          simp only [List.getElem?_toArray, List.getElem?_cons_zero, List.getElem?_cons_succ, Option.some.injEq] at ho
          subst ho
          obtain ⟨g, d5, hg, hc⟩ : ∃ g, a.tmps.getD 15 undef = .pointer (some ⟨g, k, none⟩) ∧ g < w'.heap.size ∧ w'.cell? ⟨g, k, none⟩ = some (.string Y) := s.val 5 (by decide) (haft ⟨5, .data⟩ (by simp) rfl)
          unfold Oper.wp
          go_simp
          exact hK _ _ s.cls (Below.refl _ _) rfl
        | 7, ho =>
          simp only [List.getElem?_toArray, List.getElem?_cons_zero, List.getElem?_cons_succ, Option.some.injEq] at ho
          subst ho
          have d1 : a.tmps.getD 11 undef = .string (W ++ ⟨#[32]⟩) := s.val 1 (by decide) (haft ⟨1, .data⟩ (by simp) rfl)
          have d6 : a.tmps.getD 16 undef = .string Y := s.val 6 (by decide) (haft ⟨6, .data⟩ (by simp) rfl)
          unfold Oper.wp
          go_simp
          exact hK _ _ s.cls (Below.refl _ _) rfl
        | 8, ho =>
          simp only [List.getElem?_toArray, List.getElem?_cons_zero, List.getElem?_cons_succ, Option.some.injEq] at ho
          subst ho
          have d7 : a.tmps.getD 17 undef = .string (W ++ ⟨#[32]⟩ ++ Y) := s.val 7 (by decide) (haft ⟨7, .data⟩ (by simp) rfl)
          unfold Oper.wp
          go_simp
          exact hK _ _ s.cls (Below.refl _ _) rfl
        | 9, ho =>
          simp only [List.getElem?_toArray, List.getElem?_cons_zero, List.getElem?_cons_succ, Option.some.injEq] at ho
          subst ho
          unfold Oper.wp
          go_simp
          exact hK _ _ (s.cls.alloc s.cls.size _) ((Below.refl _ _).alloc (Nat.le_refl _) _) ⟨w'.heap.size, rfl, by simp, HB.out w'⟩
        | 10, ho =>
          simp only [List.getElem?_toArray, List.getElem?_cons_zero, List.getElem?_cons_succ, Option.some.injEq] at ho
          subst ho
          have d : a.tmps.getD 1 undef = .pointer (some ⟨w.heap.size, 0, none⟩) := s.other 1 (fun jj _ e => Inv.none_at (t := 1) (by kernel_rfl) e)
          unfold Oper.wp
          go_simp
          exact hK _ _ s.cls (Below.refl _ _) rfl
        | 11, ho =>
          simp only [List.getElem?_toArray, List.getElem?_cons_zero, List.getElem?_cons_succ, Option.some.injEq] at ho
          subst ho
          have d10 : a.tmps.getD 20 undef = .pointer (some ⟨w.heap.size, 3, none⟩) := s.val 10 (by decide) (haft ⟨10, .data⟩ (by simp) rfl)
          have c3 := (s.cls.cell (p := ⟨w.heap.size, 3, none⟩) hlt).trans g3
          unfold Oper.wp
          go_simp
          exact hK _ _ s.cls (Below.refl _ _) rfl
        | 12, ho =>
          simp only [List.getElem?_toArray, List.getElem?_cons_zero, List.getElem?_cons_succ, Option.some.injEq] at ho
          subst ho
          obtain ⟨g, d9, hg, hc⟩ : ∃ g, a.tmps.getD 19 undef = .slice (some ⟨g, 0, none⟩) 4 4 ∧ g < w'.heap.size ∧ w'.cell? ⟨g, j, none⟩ = some (.string Z) := s.val 9 (by decide) (haft ⟨9, .data⟩ (by simp) rfl)
          have d11 : a.tmps.getD 21 undef = .int .i64 j := s.val 11 (by decide) (haft ⟨11, .data⟩ (by simp) rfl)
          unfold Oper.wp
          go_simp
          exact hK _ _ s.cls (Below.refl _ _) ⟨g, rfl, hg, hc⟩
        | 13, ho =>
          simp only [List.getElem?_toArray, List.getElem?_cons_zero, List.getElem?_cons_succ, Option.some.injEq] at ho
          subst ho
          obtain ⟨g, d12, hg, hc⟩ : ∃ g, a.tmps.getD 22 undef = .pointer (some ⟨g, j, none⟩) ∧ g < w'.heap.size ∧ w'.cell? ⟨g, j, none⟩ = some (.string Z) := s.val 12 (by decide) (haft ⟨12, .data⟩ (by simp) rfl)
          unfold Oper.wp
          go_simp
          exact hK _ _ s.cls (Below.refl _ _) rfl
        | 14, ho =>
          simp only [List.getElem?_toArray, List.getElem?_cons_zero, List.getElem?_cons_succ, Option.some.injEq] at ho
          subst ho
          have d8 : a.tmps.getD 18 undef = .string (W ++ ⟨#[32]⟩ ++ Y ++ ⟨#[32]⟩) := s.val 8 (by decide) (haft ⟨8, .data⟩ (by simp) rfl)
          have d13 : a.tmps.getD 23 undef = .string Z := s.val 13 (by decide) (haft ⟨13, .data⟩ (by simp) rfl)
          unfold Oper.wp
          go_simp
          exact hK _ _ s.cls (Below.refl _ _) rfl
        | 15, ho =>
          simp only [List.getElem?_toArray, List.getElem?_cons_zero, List.getElem?_cons_succ, Option.some.injEq] at ho
          subst ho
          have d14 : a.tmps.getD 24 undef = .string (W ++ ⟨#[32]⟩ ++ Y ++ ⟨#[32]⟩ ++ Z) := s.val 14 (by decide) (haft ⟨14, .data⟩ (by simp) rfl)
          unfold Oper.wp
          go_simp
          exact hK _ _ s.cls (Below.refl _ _) rfl
        | 16, ho =>
          simp only [List.getElem?_toArray, List.getElem?_cons_zero, List.getElem?_cons_succ, Option.some.injEq] at ho
          subst ho
          have d : a.tmps.getD 1 undef = .pointer (some ⟨w.heap.size, 0, none⟩) := s.other 1 (fun jj _ e => Inv.none_at (t := 1) (by kernel_rfl) e)
          unfold Oper.wp
          go_simp
          exact hK _ _ s.cls (Below.refl _ _) rfl
        | 17, ho =>
          simp only [List.getElem?_toArray, List.getElem?_cons_zero, List.getElem?_cons_succ, Option.some.injEq] at ho
          subst ho
          have d16 : a.tmps.getD 26 undef = .pointer (some ⟨w.heap.size, 1, none⟩) := s.val 16 (by decide) (haft ⟨16, .data⟩ (by simp) rfl)
          have c1 := (s.cls.cell (p := ⟨w.heap.size, 1, none⟩) hlt).trans g1
          unfold Oper.wp
          go_simp
          exact hK _ _ s.cls (Below.refl _ _) rfl
        | 18, ho =>
          simp only [List.getElem?_toArray, List.getElem?_cons_zero, List.getElem?_cons_succ, Option.some.injEq] at ho
          subst ho
          have d17 : a.tmps.getD 27 undef = .int .i64 x := s.val 17 (by decide) (haft ⟨17, .data⟩ (by simp) rfl)
          unfold Oper.wp
          go_simp
          refine (specDec_any x Hx1.out Hx2.out _).mono ?_
          rintro e w'' ⟨rfl, hb⟩
          exact hK _ _ (s.cls.trans (hb.mono s.cls.size)) hb (show Value.string (itB x) = .string X by rw [HX.out])
        | 19, ho =>
          simp only [List.getElem?_toArray, List.getElem?_cons_zero, List.getElem?_cons_succ, Option.some.injEq] at ho
          subst ho
          have d15 : a.tmps.getD 25 undef = .string (W ++ ⟨#[32]⟩ ++ Y ++ ⟨#[32]⟩ ++ Z ++ ⟨#[32]⟩) := s.val 15 (by decide) (haft ⟨15, .data⟩ (by simp) rfl)
          have d18 : a.tmps.getD 28 undef = .string X := s.val 18 (by decide) (haft ⟨18, .data⟩ (by simp) rfl)
          unfold Oper.wp
          go_simp
          exact hK _ _ s.cls (Below.refl _ _) rfl
        | 20, ho =>
          simp only [List.getElem?_toArray, List.getElem?_cons_zero, List.getElem?_cons_succ, Option.some.injEq] at ho
          subst ho
          have d19 : a.tmps.getD 29 undef = .string (W ++ ⟨#[32]⟩ ++ Y ++ ⟨#[32]⟩ ++ Z ++ ⟨#[32]⟩ ++ X) := s.val 19 (by decide) (haft ⟨19, .data⟩ (by simp) rfl)
          unfold Oper.wp
          go_simp
          exact hK _ _ s.cls (Below.refl _ _) rfl
        | n + 21, ho => simp at ho
      · intro f w2 hb2 hval
        have h20 : f 3 = .string (W ++ ⟨#[32]⟩ ++ Y ++ ⟨#[32]⟩ ++ Z ++ ⟨#[32]⟩ ++ X) := hval 20 (by decide)
        simp only [Inv.setAll, List.setIfInBounds_toArray, List.set_cons_zero, List.set_cons_succ]
        rw [h20]
        obtain ⟨V, hV⟩ : ∃ V, W ++ ⟨#[32]⟩ ++ Y ++ ⟨#[32]⟩ ++ Z ++ ⟨#[32]⟩ ++ X = V := ⟨_, rfl⟩
        have hV38 : V.size ≤ 38 := by
          rw [← hV]
          simp only [ByteArray.size_append]
          have h1 : (⟨#[32]⟩ : ByteArray).size = 1 := rfl
          omega
        rw [hV] at Hh ⊢
        have B2 := Lib.hid (B1.out.later hb2)
        have Hb2 := Lib.hid (Hb1.out.trans (hb2.mono Hb1.out.size))
        clear hV h20 hval hb2 g0 g1 g2 g3 g4 g5 t1 t7 t8 t14 t15 t19 hx0 hx1 hW5 hX21 hY4 hZ5 hk3' hj4' HW HX
        obtain ⟨g0, g1, g2, g3, g4, g5⟩ := B2.out.cells
        obtain ⟨n, hn⟩ : ∃ n, l.length = n := ⟨_, rfl⟩
        have Hn := Lib.hid hn
        have Hl8 := Lib.hid hl8
        have h38 : ¬ 9223372036854775807 < V.size + 5 := by omega
        rw [hn] at hl8 g5
        obtain ⟨H, hH⟩ : ∃ H : ByteArray, V ++ (if lk then ⟨#[32, 108, 111, 99, 107]⟩ else ⟨#[]⟩) = H := ⟨_, rfl⟩
        rw [hH] at Hh
        have hH43 : H.size ≤ 43 := by
          rw [← hH, ByteArray.size_append]
          have : (if lk = true then (⟨#[32, 108, 111, 99, 107]⟩ : ByteArray) else ⟨#[]⟩).size ≤ 5 := by cases lk <;> decide
          omega
        have HV : Hid ((if lk = true then V ++ ⟨#[32, 108, 111, 99, 107]⟩ else V) = H) := Lib.hid (by
          rw [← hH]
          cases lk
          · exact (app_nil V).symm
          · rfl)
        have HT := Lib.hid (fun i => tailB_size l Hl8.out Hd8.out i)
        clear hH hn hV38
        cases lk
        all_goals
          go_wp2_with fail
          first
            | rw [show V = H from HV.out]
            | rw [show V ++ ⟨#[32, 108, 111, 99, 107]⟩ = H from HV.out]
          go_loopw [3, 4] (fun s i wr => ∃ m : Nat, m ≤ n ∧ i = .int .i64 m ∧ s = .string (H ++ tailB (l.take m)) ∧ Below w2.heap.size w2 wr) (fun _ i _ => n - (intOf i).toNat)
          case atStart => exact ⟨0, by omega, rfl, congrArg Value.string (app_nil H).symm, Below.refl _ _⟩
          case round =>
            obtain ⟨m, hm, rfl, rfl, hbr⟩ := hrel
            have Hbr := Lib.hid (Hb2.out.trans (hbr.mono Hb2.out.size))
            have Hbr2 := Lib.hid hbr
            have Br := Lib.hid (B2.out.later hbr)
            obtain ⟨g0, g1, g2, g3, g4, g5⟩ := Br.out.cells
            rw [Hn.out] at g5
            obtain ⟨T, hT⟩ : ∃ T, tailB (l.take m) = T := ⟨_, rfl⟩
            have hT176 : T.size ≤ 176 := by rw [← hT]; exact HT.out m
            by_cases hlt : m < n
            · obtain ⟨_, _, e, hrd⟩ := Hr.out.below Hbr.out
              cases e
              rw [Hn.out] at hrd
              obtain ⟨bb, o, rfl, hb1, hc1⟩ := hrd m hlt
              have hd := Hd8.out m (by rw [Hn.out]; exact hlt)
              have Hs := Lib.hid (tailB_snoc H l m (by rw [Hn.out]; exact hlt))
              rw [hT] at Hs ⊢
              obtain ⟨d, hdd⟩ : ∃ d, l.getD m 0 = d := ⟨_, rfl⟩
              rw [hdd] at hc1 hd Hs
              have hD21 := itB_size d (by omega) (by omega)
              obtain ⟨D, hD⟩ : ∃ D : ByteArray, (⟨(Lib.itoa d).toArray⟩ : ByteArray) = D := ⟨_, rfl⟩
              rw [show itB d = D from hD] at hD21
              rw [hD] at Hs
              have HD := Lib.hid hD
              have u1 : ¬ 9223372036854775807 < H.size + T.size + 1 := by omega
              have u2 : ¬ 9223372036854775807 < H.size + T.size + 1 + D.size := by omega
              have Hd1 : Hid (-9223372036854775808 ≤ d) := Lib.hid (by omega)
              have Hd2 : Hid (d ≤ 9223372036854775807) := Lib.hid (by omega)
              clear hT hdd hD hrd hbr
              go_wp2_with (go_at_call 25; refine (specDec_any d Hd1.out Hd2.out _).mono ?_; rintro e w4 ⟨rfl, hw4⟩; rw [HD.out])
              go_roundw
              case rel => exact ⟨m + 1, by omega, by go_num, by rw [← Hs.out], Hbr2.out.trans (hw4.mono Hbr2.out.size)⟩
              case measure => simp [intOf]; omega
            · obtain rfl : m = n := by omega
              have Hf := Lib.hid (show tailB (l.take m) = tailB l by rw [List.take_of_length_le (by rw [Hn.out]; exact Nat.le_refl _)])
              rw [Hf.out]
              clear hT
              go_wp2
              go_ret
              exact ⟨by rw [He.out, Hh.out]; rfl, Hbr.out⟩
end Go.Proofs.YtfpnflhkfpolcaaGreatDoor.Num
