
/-
  What the program's ReadReq returns.
-/
import Derived.Test.YtfpnflhkfpolcaaGreatDoorRead4
import Derived.Test.YtfpnflhkfpolcaaGreatDoorShelfS
import Derived.Shelf.Strings.Split
import Derived.Lib.IndexBytes
namespace Go.Proofs.YtfpnflhkfpolcaaGreatDoor.Num
open Go.RowKit Rows3 Bytes

theorem ib_none : ∀ x : List UInt8, 32 ∉ x → Lib.indexByte x 32 = -1
  | [], _ => rfl
  | b :: l, h => by
    have h1 : (b == 32) = false := by rw [beq_eq_false_iff_ne]; intro e; exact h (by simp [e])
    have ih := ib_none l (fun hm => h (by simp [hm]))
    rw [Lib.indexByte, h1, ih]; rfl
theorem ib_at : ∀ x t : List UInt8, 32 ∉ x → Lib.indexByte (x ++ 32 :: t) 32 = x.length
  | [], t, _ => rfl
  | b :: l, t, h => by
    have h1 : (b == 32) = false := by rw [beq_eq_false_iff_ne]; intro e; exact h (by simp [e])
    have ih := ib_at l t (fun hm => h (by simp [hm]))
    have h2 : ((l.length : Int) == -1) = false := by rw [beq_eq_false_iff_ne]; omega
    rw [List.cons_append, Lib.indexByte, h1, ih, h2]
    simp
theorem splitK_join : ∀ (k : Nat) (x : List UInt8) (r : List (List UInt8)), 32 ∉ x → (∀ p ∈ r, 32 ∉ p) → r.length ≤ k → Lib.splitK [32] 0 k (x ++ Lib.joinTail [32] r) = x :: r
  | 0, x, [], _, _, _ => by simp [Lib.splitK, Lib.joinTail]
  | 0, x, y :: r, _, _, h => by simp at h
  | k + 1, x, [], hx, _, _ => by
    rw [show x ++ Lib.joinTail [32] [] = x by simp [Lib.joinTail], Lib.splitK, Lib.index_one, ib_none x hx]; rfl
  | k + 1, x, y :: r, hx, hr, h => by
    have h2 : ((x.length : Int) == -1) = false := by rw [beq_eq_false_iff_ne]; omega
    rw [joinTail_cons, Lib.splitK, Lib.index_one, ib_at x _ hx, h2]
    have ih := splitK_join k y r (hr y (by simp)) (fun p hp => hr p (by simp [hp])) (by simp at h; exact h)
    have e1 : (x ++ 32 :: (y ++ Lib.joinTail [32] r)).take ((x.length : Int).toNat + 0) = x := by simp
    have e2 : (x ++ 32 :: (y ++ Lib.joinTail [32] r)).drop ((x.length : Int).toNat + [(32 : UInt8)].length) = y ++ Lib.joinTail [32] r := by
      rw [show ((x.length : Int).toNat + [(32 : UInt8)].length) = x.length + 1 by simp]
      rw [List.drop_append]; simp
    rw [e1, e2, ih]; simp
theorem splitK_len : ∀ (k : Nat) (x : List UInt8) (r : List (List UInt8)), 32 ∉ x → (∀ p ∈ r, 32 ∉ p) → k ≤ r.length → (Lib.splitK [32] 0 k (x ++ Lib.joinTail [32] r)).length = k + 1
  | 0, x, r, _, _, _ => by simp [Lib.splitK]
  | k + 1, x, [], _, _, h => by simp at h
  | k + 1, x, y :: r, hx, hr, h => by
    have h2 : ((x.length : Int) == -1) = false := by rw [beq_eq_false_iff_ne]; omega
    rw [joinTail_cons, Lib.splitK, Lib.index_one, ib_at x _ hx, h2]
    have ih := splitK_len k y r (hr y (by simp)) (fun p hp => hr p (by simp [hp])) (by simp at h; exact h)
    have e2 : (x ++ 32 :: (y ++ Lib.joinTail [32] r)).drop ((x.length : Int).toNat + [(32 : UInt8)].length) = y ++ Lib.joinTail [32] r := by
      rw [show ((x.length : Int).toNat + [(32 : UInt8)].length) = x.length + 1 by simp]
      rw [List.drop_append]; simp
    rw [e2]; simp [ih]
theorem splitB_cut (s : ByteArray) (k : Nat) : ((cutW s).length ≤ k + 1 → Lib.splitB ⟨#[32]⟩ 0 k s = cutW s) ∧ (k + 1 ≤ (cutW s).length → (Lib.splitB ⟨#[32]⟩ 0 k s).length = k + 1) := by
  obtain ⟨h1, h2⟩ := cutW_join s
  have h3 := Lib.splitB_data ⟨#[32]⟩ 0 k s
  have hl := cutW_len s
  cases hc : cutW s with
  | nil => rw [hc] at hl; simp at hl
  | cons a r =>
    rw [hc] at h1 h2
    rw [List.map_cons, Lib.join_cons] at h1
    rw [← h1] at h3
    have hx := h2 a (by simp)
    have hr : ∀ p ∈ r.map (·.data.toList), 32 ∉ p := fun p hp => by
      obtain ⟨b, hb, rfl⟩ := List.mem_map.1 hp
      exact h2 b (by simp [hb])
    refine ⟨fun h => ?_, fun h => ?_⟩
    · have := splitK_join k a.data.toList (r.map (·.data.toList)) hx hr (by simp at h ⊢; omega)
      apply map_data_inj
      rw [h3]; exact this
    · have := splitK_len k a.data.toList (r.map (·.data.toList)) hx hr (by simp at h ⊢; omega)
      rw [← List.length_map (f := (·.data.toList)), h3]; exact this
theorem read_long {s : ByteArray} (h : 13 < (cutW s).length) : RQ s false 0 0 0 false [] false := by
  refine .inr ⟨rfl, rfl, rfl, rfl, rfl, rfl, rfl, fun q' x' y' z' lk' l' hok hs => ?_⟩
  rw [cutW_words hok hs] at h
  have h1 := wordsL_len q' x' y' z' lk' l'
  have h2 := (okR_facts hok).2.2.2.2.1
  omega
/-- what SplitN leaves. -/
def SpP (s : ByteArray) (w : World) (e : Ending) (w' : World) : Prop :=
  ∃ ws g cp, e = .returned (.slice (some ⟨g, 0, none⟩) ws.length cp) ∧ ws.length ≤ cp ∧ cp ≤ 14 ∧ ((cutW s).length ≤ 13 → ws = cutW s) ∧ (ws.length ≤ 13 → (cutW s).length ≤ 13) ∧ g < w'.heap.size ∧
    (∀ j, j < ws.length → w'.cell? ⟨g, j, none⟩ = some (.string (ws.getD j ByteArray.empty))) ∧ Below w.heap.size w w'
theorem implSplit0 (s : ByteArray) (hs : s.size ≤ 1048576) (w : World) :
    Calls Tryz.prog (Tryz.lays147_ren.f 147) #[.string s, .string ⟨#[32]⟩, .int .i64 14] w fun e w' => e = .returned (.slice (some ⟨w.heap.size, 0, none⟩) (Lib.splitB ⟨#[32]⟩ 0 (min 14 (s.size + 1) - 1) s).length (min 14 (s.size + 1))) ∧ w' = w.alloc (.cells (Lib.cellsOf (Lib.splitB ⟨#[32]⟩ 0 (min 14 (s.size + 1) - 1) s) (min 14 (s.size + 1))) (Tryz.lays147_ren.t 9)) := by
  have L := Tryz.lays147
  have c := Any.strings_genSplit_core (P := Tryz.prog) (ρ := Tryz.lays147_ren) { L with } info_str s ⟨#[32]⟩ 0 14 (min 14 (s.size + 1)) w (by omega) (by decide) (by decide)
    (fun x c hx => (Any.strings_Index_one { L with } x 32 _).mono fun e w' ⟨he, hw⟩ => ⟨by rw [he]; show _ = Ending.returned (Value.int .i64 (Lib.index x.data.toList [32])); rw [Lib.index_one], hw⟩)
    ((Any.strings_Count_one { L with } s 32 w).mono fun e w' ⟨he, hw⟩ => ⟨by rw [he]; show _ = Ending.returned (Value.int .i64 ((Lib.count s.data.toList [32] : Nat) : Int)); rw [Lib.count_one]; rfl, hw⟩)
    (by decide) (by decide) (by rw [if_neg (by decide)]; omega)
  have t3 := L.t3; have t9 := L.t9; have t31 := L.t31
  have a3 := L.a3; have a9 := L.a9; have a31 := L.a31
  have z3 := L.z3; have v3 := L.v3; have z9 := L.z9; have v9 := L.v9; have z31 := L.z31; have v31 := L.v31
  have e221 : ∀ args w, (callFunc (Tryz.lays147_ren.f 221) args).run Tryz.prog w = .ok (.enter (Tryz.lays147_ren.f 221) args) w := enters_of L.f221 (by kernel_rfl) rfl
  go_enter L.f147, Body.n147_ntmps Tryz.lays147_ren
  go_wp2_with (go_at_fn (Tryz.lays147_ren.f 221); refine c.mono ?_; rintro e w' ⟨rfl, hw⟩; rw [hw])
  go_ret
  exact ⟨rfl, rfl⟩
theorem implSplit (s : ByteArray) (hs : s.size ≤ 1048576) (w : World) : Calls Tryz.prog 36 #[.string s, .string ⟨#[32]⟩, .int .i64 14] w (SpP s w) := by
  refine (implSplit0 s hs w).mono (fun e w' ⟨he, hw⟩ => ?_)
  obtain ⟨k, hk⟩ : ∃ k, min 14 (s.size + 1) - 1 = k := ⟨_, rfl⟩
  have hk1 : min 14 (s.size + 1) = k + 1 := by omega
  rw [hk, hk1] at he hw
  obtain ⟨h1, h2⟩ := splitB_cut s k
  have h3 := cutW_len s
  have h4 := Lib.splitB_length_le ⟨#[32]⟩ 0 k s
  generalize hL : Lib.splitB ⟨#[32]⟩ 0 k s = L at he hw h1 h2 h4
  refine ⟨L, w.heap.size, k + 1, he, by omega, by omega, fun h => h1 (by omega), fun h => ?_, by rw [hw]; simp, fun j hj => ?_, by rw [hw]; exact (Below.refl _ _).alloc (Nat.le_refl _) _⟩
  · by_cases h5 : k + 1 ≤ (cutW s).length
    · have := h2 h5; omega
    · omega
  · rw [hw]
    rw [World.cell?_alloc_new]
    unfold Lib.cellsOf
    rw [List.getElem?_toArray, List.getElem?_append_left (by simpa using hj), List.getElem?_map, List.getElem?_eq_getElem hj]
    simp [List.getD, hj]
end Go.Proofs.YtfpnflhkfpolcaaGreatDoor.Num
