
/-
  Split, SplitN, Cut, CutPrefix of the library, as ReadScript of the program uses them.
-/
import Derived.Test.YtfpnflhkfpolcaaGreatDoorSMath
import Derived.Test.YtfpnflhkfpolcaaGreatDoorRead5
import Derived.Deep.RegionWith
namespace Go.Proofs.YtfpnflhkfpolcaaGreatDoor.Num
open Go.RowKit Rows3

theorem count_tail (c : UInt8) : ∀ (r : List (List UInt8)), (∀ p ∈ r, c ∉ p) → (Lib.joinTail [c] r).count c = r.length
  | [], _ => rfl
  | x :: r, h => by
    have h1 : x.count c = 0 := List.count_eq_zero.2 (h x (by simp))
    rw [Cut.joinTail_cons, List.count_cons_self, List.count_append, h1, count_tail c r (fun p hp => h p (by simp [hp]))]; simp
theorem cut_count (c : UInt8) (s : ByteArray) : s.data.toList.count c + 1 = (Cut.cutWs c s).length := by
  obtain ⟨h1, h2⟩ := Cut.cutWs_join c s
  have hl := (Cut.cutWs_len c s).1
  cases hc : Cut.cutWs c s with
  | nil => rw [hc] at hl; simp at hl
  | cons x r =>
    rw [hc] at h1 h2
    rw [List.map_cons, Lib.join_cons] at h1
    have h3 : x.data.toList.count c = 0 := List.count_eq_zero.2 (h2 x (by simp))
    rw [← h1, List.count_append, h3, count_tail c _ (fun p hp => by obtain ⟨y, hy, rfl⟩ := List.mem_map.1 hp; exact h2 y (by simp [hy]))]
    simp
/-- what Split leaves. -/
def SpA (s : ByteArray) (w : World) (e : Ending) (w' : World) : Prop :=
  ∃ g, e = .returned (.slice (some ⟨g, 0, none⟩) (Cut.cutWs 32 s).length (Cut.cutWs 32 s).length) ∧ g < w'.heap.size ∧ (∀ j, j < (Cut.cutWs 32 s).length → w'.cell? ⟨g, j, none⟩ = some (.string ((Cut.cutWs 32 s).getD j ByteArray.empty))) ∧ Below w.heap.size w w'
theorem implSplitA (s : ByteArray) (hs : s.size ≤ 1048576) (w : World) : Calls Tryz.prog 34 #[.string s, .string ⟨#[32]⟩] w (SpA s w) := by
  have L := Tryz.lays146
  obtain ⟨k, hk⟩ : ∃ k, s.data.toList.count 32 = k := ⟨_, rfl⟩
  have hkl := cut_count 32 s
  rw [hk] at hkl
  have hsp := (Cut.splitB_cut 32 s k).1 (by omega)
  have hcb : Lib.countB s ⟨#[32]⟩ = k := by rw [← hk, ← Lib.count_one]
  have hcl := (Cut.cutWs_len 32 s).2
  have c := Any.strings_genSplit_core (P := Tryz.prog) (ρ := Tryz.lays146_ren) { L with } info_str s ⟨#[32]⟩ 0 (-1) (k + 1) w (by omega) (by decide) (by decide)
    (fun x c hx => (Any.strings_Index_one { L with } x 32 _).mono fun e w' ⟨he, hw⟩ => ⟨by rw [he]; show _ = Ending.returned (Value.int .i64 (Lib.index x.data.toList [32])); rw [Lib.index_one], hw⟩)
    ((Any.strings_Count_one { L with } s 32 w).mono fun e w' ⟨he, hw⟩ => ⟨by rw [he]; show _ = Ending.returned (Value.int .i64 ((Lib.count s.data.toList [32] : Nat) : Int)); rw [Lib.count_one]; rfl, hw⟩)
    (by decide) (by decide) (by rw [if_pos (by decide), hcb]; omega)
  rw [Nat.add_sub_cancel, hsp] at c
  have e2 : Lib.cellsOf (Cut.cutWs 32 s) (k + 1) = ((Cut.cutWs 32 s).map Value.string).toArray := by rw [hkl]; exact Lib.cellsOf_full _
  rw [e2, hkl] at c
  have t3 := L.t3; have t9 := L.t9; have t31 := L.t31
  have a3 := L.a3; have a9 := L.a9; have a31 := L.a31
  have z3 := L.z3; have v3 := L.v3; have z9 := L.z9; have v9 := L.v9; have z31 := L.z31; have v31 := L.v31
  have e221 : ∀ args w, (callFunc (Tryz.lays146_ren.f 221) args).run Tryz.prog w = .ok (.enter (Tryz.lays146_ren.f 221) args) w := enters_of L.f221 (by kernel_rfl) rfl
  refine Calls.mono (R := fun e w' => e = .returned (.slice (some ⟨w.heap.size, 0, none⟩) (Cut.cutWs 32 s).length (Cut.cutWs 32 s).length) ∧ w' = w.alloc (.cells ((Cut.cutWs 32 s).map Value.string).toArray (Tryz.lays146_ren.t 9))) ?_ (fun e w' ⟨he, hw⟩ => ⟨w.heap.size, he, by rw [hw]; simp, fun j hj => ?_, by rw [hw]; exact (Below.refl _ _).alloc (Nat.le_refl _) _⟩)
  · show Calls Tryz.prog (Tryz.lays146_ren.f 146) _ _ _
    go_enter L.f146, Body.n146_ntmps Tryz.lays146_ren
    go_wp2_with (go_at_fn (Tryz.lays146_ren.f 221); refine c.mono ?_; rintro e w' ⟨rfl, hw⟩; rw [hw])
    go_ret
    exact ⟨rfl, rfl⟩
  · rw [hw, World.cell?_alloc_new, List.getElem?_toArray, List.getElem?_map, List.getElem?_eq_getElem hj]
    simp [List.getD, hj]
/-- what SplitN leaves of a line, at four. -/
def SpQ (s : ByteArray) (w : World) (e : Ending) (w' : World) : Prop :=
  ∃ ws g cp, e = .returned (.slice (some ⟨g, 0, none⟩) ws.length cp) ∧ ws.length ≤ cp ∧ cp ≤ 4 ∧ (((Cut.cutWs 32 s).length ≤ 3 ∧ ws.length ≤ 3) ∨ ∃ y0 y1 y2 y3 r, Cut.cutWs 32 s = y0 :: y1 :: y2 :: y3 :: r ∧ ws = [y0, y1, y2, BA (y3.data.toList ++ Lib.joinTail [32] (r.map (·.data.toList)))]) ∧ g < w'.heap.size ∧
    (∀ j, j < ws.length → w'.cell? ⟨g, j, none⟩ = some (.string (ws.getD j ByteArray.empty))) ∧ Below w.heap.size w w'
theorem splitB3 {s y0 y1 y2 y3 : ByteArray} {r : List ByteArray} (h : Cut.cutWs 32 s = y0 :: y1 :: y2 :: y3 :: r) : Lib.splitB ⟨#[32]⟩ 0 3 s = [y0, y1, y2, BA (y3.data.toList ++ Lib.joinTail [32] (r.map (·.data.toList)))] := by
  obtain ⟨h1, h2⟩ := Cut.cutWs_join 32 s
  rw [h] at h1 h2
  apply Cut.map_data_inj
  rw [Lib.splitB_data, ← h1]
  simp only [List.map_cons, List.map_nil, BA_data]
  rw [Lib.join_cons, Cut.joinTail_cons, Cut.joinTail_cons, Cut.joinTail_cons]
  have st : ∀ (k : Nat) (x t : List UInt8), 32 ∉ x → Lib.splitK [32] 0 (k + 1) (x ++ 32 :: t) = x :: Lib.splitK [32] 0 k t := by
    intro k x t hx
    have e2 : ((x.length : Int) == -1) = false := by rw [beq_eq_false_iff_ne]; omega
    rw [Lib.splitK, Lib.index_one, Cut.ib_at 32 x _ hx, e2]
    have e3 : (x ++ 32 :: t).take ((x.length : Int).toNat + 0) = x := by simp
    have e4 : (x ++ 32 :: t).drop ((x.length : Int).toNat + [(32 : UInt8)].length) = t := by
      rw [show ((x.length : Int).toNat + [(32 : UInt8)].length) = x.length + 1 by simp, List.drop_append]; simp
    rw [e3, e4]; simp
  show Lib.splitK [32] 0 3 _ = _
  rw [st 2 _ _ (h2 y0 (by simp)), st 1 _ _ (h2 y1 (by simp)), st 0 _ _ (h2 y2 (by simp)), Lib.splitK]
theorem implSplitQ (s : ByteArray) (hs : s.size ≤ 1048576) (w : World) : Calls Tryz.prog 36 #[.string s, .string ⟨#[32]⟩, .int .i64 4] w (SpQ s w) := by
  have L := Tryz.lays147
  have c := Any.strings_genSplit_core (P := Tryz.prog) (ρ := Tryz.lays147_ren) { L with } info_str s ⟨#[32]⟩ 0 4 (min 4 (s.size + 1)) w (by omega) (by decide) (by decide)
    (fun x c hx => (Any.strings_Index_one { L with } x 32 _).mono fun e w' ⟨he, hw⟩ => ⟨by rw [he]; show _ = Ending.returned (Value.int .i64 (Lib.index x.data.toList [32])); rw [Lib.index_one], hw⟩)
    ((Any.strings_Count_one { L with } s 32 w).mono fun e w' ⟨he, hw⟩ => ⟨by rw [he]; show _ = Ending.returned (Value.int .i64 ((Lib.count s.data.toList [32] : Nat) : Int)); rw [Lib.count_one]; rfl, hw⟩)
    (by decide) (by decide) (by rw [if_neg (by decide)]; omega)
  have t3 := L.t3; have t9 := L.t9; have t31 := L.t31
  have a3 := L.a3; have a9 := L.a9; have a31 := L.a31
  have z3 := L.z3; have v3 := L.v3; have z9 := L.z9; have v9 := L.v9; have z31 := L.z31; have v31 := L.v31
  have e221 : ∀ args w, (callFunc (Tryz.lays147_ren.f 221) args).run Tryz.prog w = .ok (.enter (Tryz.lays147_ren.f 221) args) w := enters_of L.f221 (by kernel_rfl) rfl
  refine Calls.mono (R := fun e w' => e = .returned (.slice (some ⟨w.heap.size, 0, none⟩) (Lib.splitB ⟨#[32]⟩ 0 (min 4 (s.size + 1) - 1) s).length (min 4 (s.size + 1))) ∧ w' = w.alloc (.cells (Lib.cellsOf (Lib.splitB ⟨#[32]⟩ 0 (min 4 (s.size + 1) - 1) s) (min 4 (s.size + 1))) (Tryz.lays147_ren.t 9))) ?_ (fun e w' ⟨he, hw⟩ => ?_)
  · show Calls Tryz.prog (Tryz.lays147_ren.f 147) _ _ _
    go_enter L.f147, Body.n147_ntmps Tryz.lays147_ren
    go_wp2_with (go_at_fn (Tryz.lays147_ren.f 221); refine c.mono ?_; rintro e w' ⟨rfl, hw⟩; rw [hw])
    go_ret
    exact ⟨rfl, rfl⟩
  · obtain ⟨k, hk⟩ : ∃ k, min 4 (s.size + 1) - 1 = k := ⟨_, rfl⟩
    have hk1 : min 4 (s.size + 1) = k + 1 := by omega
    rw [hk, hk1] at he hw
    obtain ⟨h1, h2⟩ := Cut.splitB_cut 32 s k
    have h3 := Cut.cutWs_len 32 s
    have h4 := Lib.splitB_length_le ⟨#[32]⟩ 0 k s
    have h5 : ((Cut.cutWs 32 s).length ≤ 3 ∧ (Lib.splitB ⟨#[32]⟩ 0 k s).length ≤ 3) ∨ ∃ y0 y1 y2 y3 r, Cut.cutWs 32 s = y0 :: y1 :: y2 :: y3 :: r ∧ Lib.splitB ⟨#[32]⟩ 0 k s = [y0, y1, y2, BA (y3.data.toList ++ Lib.joinTail [32] (r.map (·.data.toList)))] := by
      by_cases h3' : (Cut.cutWs 32 s).length ≤ 3
      · refine .inl ⟨h3', ?_⟩
        by_cases hkk : (Cut.cutWs 32 s).length ≤ k + 1
        · rw [h1 hkk]; exact h3'
        · omega
      · right
        obtain rfl : k = 3 := by omega
        match hc : Cut.cutWs 32 s with
        | [] => rw [hc] at h3'; simp at h3'
        | [_] => rw [hc] at h3'; simp at h3'
        | [_, _] => rw [hc] at h3'; simp at h3'
        | [_, _, _] => rw [hc] at h3'; simp at h3'
        | y0 :: y1 :: y2 :: y3 :: r => exact ⟨y0, y1, y2, y3, r, rfl, splitB3 hc⟩
    generalize hL : Lib.splitB ⟨#[32]⟩ 0 k s = L at he hw h4 h5
    refine ⟨L, w.heap.size, k + 1, he, by omega, by omega, h5, by rw [hw]; simp, fun j hj => ?_, by rw [hw]; exact (Below.refl _ _).alloc (Nat.le_refl _) _⟩
    rw [hw, World.cell?_alloc_new]
    unfold Lib.cellsOf
    rw [List.getElem?_toArray, List.getElem?_append_left (by simpa using hj), List.getElem?_map, List.getElem?_eq_getElem hj]
    simp [List.getD, hj]
/-- what Cut leaves, at the end of a line. -/
def CutP (s : ByteArray) (w : World) (e : Ending) (w' : World) : Prop :=
  (10 ∉ s.data.toList ∧ e = .returned (.tuple #[.string s, .string ⟨#[]⟩, .bool false]) ∧ Below w.heap.size w w') ∨
  ∃ a b, s.data.toList = a ++ 10 :: b ∧ 10 ∉ a ∧ e = .returned (.tuple #[.string (BA a), .string (BA b), .bool true]) ∧ Below w.heap.size w w'
theorem first_sign (c : UInt8) : ∀ l : List UInt8, c ∈ l → ∃ a b, l = a ++ c :: b ∧ c ∉ a
  | [], h => by simp at h
  | x :: l, h => by
    by_cases hx : x = c
    · exact ⟨[], l, by rw [hx]; rfl, by simp⟩
    · obtain ⟨a, b, e, hn⟩ := first_sign c l (by rcases List.mem_cons.1 h with h | h; exact absurd h.symm hx; exact h)
      exact ⟨x :: a, b, by rw [e]; rfl, by simp [hn]; exact fun e => hx e.symm⟩
set_option maxRecDepth 100000 in
theorem implCut0 (s : ByteArray) (hs : s.size ≤ 1048576) (w : World) : Calls Tryz.prog 33 #[.string s, .string ⟨#[10]⟩] w (CutP s w) := by
  by_cases hm : 10 ∈ s.data.toList
  · obtain ⟨a, b, hab, hna⟩ := first_sign 10 _ hm
    have HI := Lib.hid (show Lib.indexByte s.data.toList 10 = (a.length : Int) by rw [hab]; exact Cut.ib_at 10 a b hna)
    have hlen : s.size = a.length + 1 + b.length := by have := congrArg List.length hab; simp at this; omega
    obtain ⟨n, hn⟩ : ∃ n, a.length = n := ⟨_, rfl⟩
    have HA := Lib.hid (show s.extract 0 n = BA a by
      apply ba_inj; rw [BA_data, ByteArray.data_extract, Array.toList_extract, List.extract_eq_take_drop, hab, ← hn]; simp)
    have HB := Lib.hid (show s.extract (n + 1) s.size = BA b by
      apply ba_inj; rw [BA_data, ByteArray.data_extract, Array.toList_extract, List.extract_eq_take_drop, hab, ← hn, hlen]; simp)
    have HH := Lib.hid (show s.data.toList = a ++ 10 :: b ∧ 10 ∉ a from ⟨hab, hna⟩)
    have c1 : (0 : Int) ≤ (n : Int) := by omega
    have c2 : (n : Int) ≤ (s.size : Int) := by omega
    have c3 : (n : Int) + 1 ≤ (s.size : Int) := by omega
    have c4 : (0 : Int) ≤ (n : Int) + 1 := by omega
    have f1 : IntKind.i64.wrap ((n : Int) + 1) = (n : Int) + 1 := IntWalk.i64_in _ (by omega)
    have f2 : ((n : Int) + 1).toNat = n + 1 := by omega
    have c5 : n ≤ s.size := by omega
    have c6 : n + 1 ≤ s.size := by omega
    rw [hn] at HI
    clear hm hab hna hlen hn
    go_enter Tryz.func33, Tryz.ntmps33
    go_wp2_with (go_at_call 44; refine (Tryz.stringslite_Index_one s 10 _).mono ?_; rintro e w' ⟨rfl, rfl⟩; rw [HI.out])
    go_region
    go_wp2
    go_ret3
    refine .inr ⟨a, b, HH.out.1, HH.out.2, by rw [← HA.out, ← HB.out]; rfl, ?_⟩
    exact (Below.refl _ _).drew
  · have HI := Lib.hid (show Lib.indexByte s.data.toList 10 = -1 from Cut.ib_none 10 _ hm)
    have HM := Lib.hid hm
    clear hm
    go_enter Tryz.func33, Tryz.ntmps33
    go_wp2_with (go_at_call 44; refine (Tryz.stringslite_Index_one s 10 _).mono ?_; rintro e w' ⟨rfl, rfl⟩; rw [HI.out])
    go_ret3
    exact .inl ⟨HM.out, rfl, Below.refl _ _⟩
set_option maxRecDepth 100000 in
theorem implCut (s : ByteArray) (hs : s.size ≤ 1048576) (w : World) : Calls Tryz.prog 27 #[.string s, .string ⟨#[10]⟩] w (CutP s w) := by
  go_enter Tryz.func27, Tryz.ntmps27
  go_wp2_with fail
  refine (implCut0 s hs _).mono ?_
  rintro e w' (⟨h, rfl, hb⟩ | ⟨a, b, h1, h2, rfl, hb⟩)
  · go_wp2
    go_ret3
    exact .inl ⟨h, rfl, hb⟩
  · go_wp2
    go_ret3
    exact .inr ⟨a, b, h1, h2, rfl, hb⟩
end Go.Proofs.YtfpnflhkfpolcaaGreatDoor.Num
