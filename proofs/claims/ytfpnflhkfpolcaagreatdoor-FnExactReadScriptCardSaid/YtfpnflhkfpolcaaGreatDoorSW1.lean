
/-
  Numbers of words, and a line of numbers, as the model has them (l21Nums, l21List).
-/
import Derived.Test.YtfpnflhkfpolcaaGreatDoorSMath
import Derived.Test.YtfpnflhkfpolcaaGreatDoorKScript
namespace Go.Proofs.YtfpnflhkfpolcaaGreatDoor.Num
open Go.RowKit Rows3

theorem bel_cells' {B : Nat} {w w' : World} (h : Below B w w') {b : Nat} (hb : b < B) {i : Nat} : w'.cell? ⟨b, i, none⟩ = w.cell? ⟨b, i, none⟩ := h.cell (p := ⟨b, i, none⟩) hb
/-- a new row of the numbers of words. -/
def NumsP (l : List ByteArray) (w : World) (e : Ending) (w' : World) : Prop := ∃ v ns, e = .returned v ∧ N18s l ns ∧ OwnI w.heap.size v ns w' ∧ Below w.heap.size w w'
theorem n18_snoc {l : List ByteArray} {ns : List Int} {k : Nat} {n : Int} (hk : ns.length = k) (h : ∀ i, i < k → N18 (l.getD i ByteArray.empty) (ns.getD i 0)) (hn : N18 (l.getD k ByteArray.empty) n) :
    ∀ i, i < k + 1 → N18 (l.getD i ByteArray.empty) ((ns ++ [n]).getD i 0) := by
  intro i hi
  by_cases hik : i < k
  · rw [show (ns ++ [n]).getD i 0 = ns.getD i 0 by simp only [List.getD]; rw [List.getElem?_append_left (by omega)]]
    exact h i hik
  · obtain rfl : i = k := by omega
    rw [show (ns ++ [n]).getD i 0 = n by simp only [List.getD]; rw [List.getElem?_append_right (by omega), hk]; simp]
    exact hn
set_option maxHeartbeats 1000000 in
set_option maxRecDepth 100000 in
theorem specNums (v : Value) (l : List ByteArray) (hl : l.length ≤ 2000000) (hs : ∀ j, (l.getD j ByteArray.empty).size ≤ 1048576) (w : World) (hv : RdS v l w) :
    Calls Tryz.prog 10 #[v] w (NumsP l w) := by
  obtain ⟨ad, cap, rfl, hr⟩ := hv
  obtain ⟨n, hn⟩ : ∃ n, l.length = n := ⟨_, rfl⟩
  have HR := Lib.hid hr
  have HN := Lib.hid hn
  have HS := Lib.hid hs
  rw [hn] at hl ⊢
  clear hr hn hs
  go_enter Tryz.func10, Tryz.ntmps10
  go_wp2
  go_loopw [3, 4] (fun o i wr => ∃ (k : Nat) (ns : List Int), k ≤ n ∧ i = .int .i64 k ∧ ns.length = k ∧ (∀ i, i < k → N18 (l.getD i ByteArray.empty) (ns.getD i 0)) ∧ OwnI w.heap.size o ns wr ∧ Below w.heap.size w wr) (fun _ i _ => n - (intOf i).toNat)
  case atStart => exact ⟨0, [], by omega, rfl, rfl, fun i hi => by omega, OwnI.made _ _ (Nat.le_refl _), (Below.refl _ _).alloc (Nat.le_refl _) _⟩
  case round =>
    obtain ⟨k, ns, hk, rfl, hnk, hall, ho, hb⟩ := hrel
    have hbs := hb.size
    have Ho := Lib.hid ho
    have Hb := Lib.hid hb
    have Hall := Lib.hid hall
    have Hnk := Lib.hid hnk
    clear ho hb hall hnk
    by_cases hlt : k < n
    · obtain ⟨bb, o, rfl, hb1, hc1⟩ := HR.out k (by rw [HN.out]; exact hlt)
      rw [← bel_cells' Hb.out hb1] at hc1
      have hsz := HS.out k
      obtain ⟨s, hs⟩ : ∃ s, l.getD k ByteArray.empty = s := ⟨_, rfl⟩
      rw [hs] at hc1 hsz
      have HSZ := Lib.hid hsz
      have Hs := Lib.hid hs
      have Hlen : Hid (ns.length + 1 ≤ 17592186044416) := Lib.hid (by rw [Hnk.out]; omega)
      clear hs hsz
      go_wp2_with (first
        | (go_at_call 21; refine (specNum18 s HSZ.out _).mono ?_; rintro e w1 ⟨m, rfl, hm, rfl⟩; have Hm := Lib.hid hm; clear hm)
        | (at_builtin; (refine appI rfl _ _ rfl w.heap.size u3 ns wr m rfl rfl Ho.out hbs Hlen.out ?_); intro v' w1 hown1 hb1; have Ho1 := Lib.hid hown1; have Hb1 := Lib.hid (Hb.out.trans hb1); clear hown1 hb1))
      go_roundw
      case rel => exact ⟨k + 1, ns ++ [m], by omega, by go_num, by rw [List.length_append, Hnk.out]; rfl, n18_snoc Hnk.out Hall.out (by rw [Hs.out]; exact Hm.out), Ho1.out, Hb1.out⟩
      case measure => simp [intOf]; omega
    · obtain rfl : k = n := by omega
      have H := Lib.hid (show N18s l ns from ⟨by rw [Hnk.out, HN.out], fun i hi => Hall.out i (by rw [← Hnk.out]; exact hi)⟩)
      go_wp2
      go_ret
      exact ⟨_, ns, rfl, H.out, Ho.out, Hb.out⟩

/-- a name and numbers: a line. -/
def lB (nm : ByteArray) (l : List Int) : ByteArray := if l = [] then ⟨#[]⟩ else BA (nm.data.toList ++ nT l ++ [10])
theorem BA_app (a b : List UInt8) : BA a ++ BA b = BA (a ++ b) := by apply ba_inj; rw [BA_data]; simp [BA]
theorem nT_snoc (l : List Int) (k : Nat) (h : k < l.length) : nT (l.take (k + 1)) = nT (l.take k) ++ (32 :: Lib.itoa (l.getD k 0)) := by
  rw [List.take_succ_eq_append_getElem h, show l.getD k 0 = l[k] by simp [List.getD, h]]
  unfold nT
  simp only [List.flatMap_append, List.flatMap_cons, List.flatMap_nil, List.append_nil]
theorem nT_len {l : List Int} (h : ∀ n ∈ l, In18 n) : (nT l).length ≤ 20 * l.length := by
  induction l with
  | nil => simp [nT]
  | cons n l ih =>
    have h1 := itoa_len19 (h n (by simp))
    have h2 := ih (fun m hm => h m (by simp [hm]))
    rw [nT_cons]; simp; omega
set_option maxHeartbeats 1000000 in
set_option maxRecDepth 100000 in
theorem specList (nm : ByteArray) (hnm : nm.size ≤ 10) (v : Value) (l : List Int) (hl : l.length ≤ 2000000) (hin : ∀ n ∈ l, In18 n) (w : World) (hv : RdI v l w) :
    Calls Tryz.prog 24 #[.string nm, v] w fun e w' => e = .returned (.string (lB nm l)) ∧ Below w.heap.size w w' := by
  obtain ⟨ad, cap, rfl, hr⟩ := hv
  obtain ⟨n, hn⟩ : ∃ n, l.length = n := ⟨_, rfl⟩
  have HR := Lib.hid hr
  have HN := Lib.hid hn
  have HI := Lib.hid hin
  rw [hn] at hl ⊢
  clear hr hn hin
  by_cases h0 : n = 0
  · subst h0
    have He := Lib.hid (show lB nm l = ⟨#[]⟩ by unfold lB; rw [if_pos (List.length_eq_zero_iff.1 HN.out)])
    go_enter Tryz.func24, Tryz.ntmps24
    go_wp2
    go_ret
    exact ⟨by rw [He.out]; rfl, Below.refl _ _⟩
  · have He := Lib.hid (show lB nm l = BA (nm.data.toList ++ nT l ++ [10]) by unfold lB; rw [if_neg (fun e => h0 (by rw [← HN.out, e]; rfl))])
    have hn0 : ((n : Int) == 0) = false := by rw [beq_eq_false_iff_ne]; omega
    go_enter Tryz.func24, Tryz.ntmps24
    go_wp2_with fail
    go_loopw [5, 6] (fun s i wr => ∃ k : Nat, k ≤ n ∧ i = .int .i64 k ∧ s = .string (BA (nm.data.toList ++ nT (l.take k))) ∧ Below w.heap.size w wr) (fun _ i _ => n - (intOf i).toNat)
    case atStart => exact ⟨0, by omega, rfl, by simp [nT, data_BA], Below.refl _ _⟩
    case round =>
      obtain ⟨k, hk, rfl, rfl, hb⟩ := hrel
      have Hb := Lib.hid hb
      clear hb
      have hT : (nT (l.take k)).length ≤ 20 * k := by
        have := nT_len (l := l.take k) (fun m hm => HI.out m (List.mem_of_mem_take hm))
        rw [List.length_take, HN.out] at this; omega
      have hds : nm.data.toList.length = nm.size := by simp
      have hTs : (BA (nm.data.toList ++ nT (l.take k))).size ≤ 40000010 := by
        show (nm.data.toList ++ nT (l.take k)).toArray.size ≤ _
        rw [List.size_toArray, List.length_append]; omega
      clear hT hds
      by_cases hlt : k < n
      · obtain ⟨bb, o, rfl, hb1, hc1⟩ := HR.out k (by rw [HN.out]; exact hlt)
        rw [← bel_cells' Hb.out hb1] at hc1
        have hd := HI.out (l.getD k 0) (by rw [show l.getD k 0 = l[k]'(by rw [HN.out]; exact hlt) by simp [List.getD, HN.out, hlt]]; exact List.getElem_mem _)
        have Hs := Lib.hid (show nm.data.toList ++ nT (l.take (k + 1)) = (nm.data.toList ++ nT (l.take k)) ++ [32] ++ Lib.itoa (l.getD k 0) by rw [nT_snoc l k (by rw [HN.out]; exact hlt)]; simp)
        obtain ⟨d, hdd⟩ : ∃ d, l.getD k 0 = d := ⟨_, rfl⟩
        rw [hdd] at hc1 hd Hs
        have hd19 := itoa_len19 hd
        have hD21 : (BA (Lib.itoa d)).size ≤ 19 := by show (Lib.itoa d).toArray.size ≤ _; rw [List.size_toArray]; exact hd19
        have HD := Lib.hid (show (⟨(Lib.itoa d).toArray⟩ : ByteArray) = BA (Lib.itoa d) from rfl)
        unfold In18 at hd
        have Hd1 : Hid (-9223372036854775808 ≤ d) := Lib.hid (by omega)
        have Hd2 : Hid (d ≤ 9223372036854775807) := Lib.hid (by omega)
        obtain ⟨T, hT⟩ : ∃ T, BA (nm.data.toList ++ nT (l.take k)) = T := ⟨_, rfl⟩
        have HT := Lib.hid hT
        obtain ⟨D, hDD⟩ : ∃ D, BA (Lib.itoa d) = D := ⟨_, rfl⟩
        have HDD := Lib.hid hDD
        rw [hT] at hTs ⊢
        rw [hDD] at hD21 HD
        have u1 : ¬ 9223372036854775807 < T.size + 1 := by omega
        have u2 : ¬ 9223372036854775807 < T.size + 1 + D.size := by omega
        clear hdd hT hDD hd hd19
        go_wp2_with (go_at_call 25; refine (specDec_any d Hd1.out Hd2.out _).mono ?_; rintro e w4 ⟨rfl, hw4⟩; rw [HD.out])
        go_roundw
        case rel => exact ⟨k + 1, by omega, by go_num, by rw [Hs.out, ← BA_app, ← BA_app, HT.out, HDD.out]; rfl, Hb.out.trans (hw4.mono Hb.out.size)⟩
        case measure => simp [intOf]; omega
      · obtain rfl : k = n := by omega
        have Hf := Lib.hid (show BA (nm.data.toList ++ nT (l.take k)) ++ ⟨#[10]⟩ = BA (nm.data.toList ++ nT l ++ [10]) by rw [List.take_of_length_le (by rw [HN.out]; exact Nat.le_refl _), ← BA_app]; rfl)
        obtain ⟨T, hT⟩ : ∃ T, BA (nm.data.toList ++ nT (l.take k)) = T := ⟨_, rfl⟩
        rw [hT] at hTs Hf ⊢
        have u1 : ¬ 9223372036854775807 < T.size + 1 := by omega
        clear hT
        go_wp2
        go_ret
        exact ⟨by rw [He.out, ← Hf.out]; rfl, Hb.out⟩
end Go.Proofs.YtfpnflhkfpolcaaGreatDoor.Num
