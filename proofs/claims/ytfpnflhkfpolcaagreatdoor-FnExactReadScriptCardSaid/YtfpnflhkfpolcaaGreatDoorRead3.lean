
/-
  The program's small functions for reading a request: a word's number, a request out of its words.
-/
import Derived.Test.YtfpnflhkfpolcaaGreatDoorReadM
import Derived.Stop.LaidErr
import Derived.Lib.AtoiErrMem
namespace Go.Proofs.YtfpnflhkfpolcaaGreatDoor.Num
open Go.RowKit Rows3 Bytes

theorem baEq {a b : ByteArray} (h : a = b) : (a.toList == b.toList) = true := by rw [h]; simp
theorem baNe {a b : ByteArray} (h : ¬ a = b) : (a.toList == b.toList) = false := by
  rw [beq_eq_false_iff_ne]; intro e; apply h
  rw [ByteArray.toList_eq, ByteArray.toList_eq] at e
  exact ByteArray.ext (Array.toList_inj.1 e)
set_option maxHeartbeats 4000000 in
set_option maxRecDepth 100000 in
theorem implNumSz (s : ByteArray) (w : World) : Calls Tryz.prog 66 #[.func (.func 67) #[] #[], .string s] w fun e w' => e = .returned (.int .i64 (sizeN s)) ∧ w = w' := by
  go_enter Tryz.func66, Tryz.ntmps66
  go_wp2_with fail
  go_loop [5] (fun i => ∃ k : Nat, k ≤ 3 ∧ i = .int .i64 k ∧ ∀ j : Nat, j < k → ¬ s = szWd j) (fun i => 3 - (intOf i).toNat)
  case atStart => exact ⟨0, by omega, rfl, fun j hj => by omega⟩
  case round =>
    obtain ⟨k, hk, rfl, hne⟩ := hrel
    have Hne := Lib.hid hne
    clear hne
    have hk' : k = 0 ∨ k = 1 ∨ k = 2 ∨ k = 3 := by omega
    rcases hk' with rfl | rfl | rfl | rfl
    · by_cases hs : s = ⟨#[98, 121, 116, 101]⟩
      · have q1 : ([98, 121, 116, 101] == s.toList) = true := by rw [hs, ByteArray.toList_eq]; rfl
        have He := Lib.hid (show sizeN s = 0 by rw [hs]; rfl)
        clear hs
        go_wp2_with (go_at_call 67; refine (implSz _ _).mono ?_; rintro e w' ⟨rfl, rfl⟩; rw [show szWd 0 = ⟨#[98, 121, 116, 101]⟩ from rfl])
        go_ret
        exact ⟨by rw [He.out]; rfl, rfl⟩
      · have q1 : ([98, 121, 116, 101] == s.toList) = false := by
          rw [beq_eq_false_iff_ne]; intro e; apply hs
          rw [ByteArray.toList_eq] at e
          exact ByteArray.ext (Array.toList_inj.1 e.symm)
        have Hs := Lib.hid hs
        clear hs
        go_wp2_with (go_at_call 67; refine (implSz _ _).mono ?_; rintro e w' ⟨rfl, rfl⟩; rw [show szWd 0 = ⟨#[98, 121, 116, 101]⟩ from rfl])
        go_round
        case rel =>
          refine ⟨1, by omega, by go_num, fun j hj => ?_⟩
          by_cases hjk : j = 0
          · rw [hjk]; exact Hs.out
          · exact Hne.out j (by omega)
        case measure => simp [intOf]
    · by_cases hs : s = ⟨#[104, 97, 108, 102]⟩
      · have q1 : ([104, 97, 108, 102] == s.toList) = true := by rw [hs, ByteArray.toList_eq]; rfl
        have He := Lib.hid (show sizeN s = 1 by rw [hs]; rfl)
        clear hs
        go_wp2_with (go_at_call 67; refine (implSz _ _).mono ?_; rintro e w' ⟨rfl, rfl⟩; rw [show szWd 1 = ⟨#[104, 97, 108, 102]⟩ from rfl])
        go_ret
        exact ⟨by rw [He.out]; rfl, rfl⟩
      · have q1 : ([104, 97, 108, 102] == s.toList) = false := by
          rw [beq_eq_false_iff_ne]; intro e; apply hs
          rw [ByteArray.toList_eq] at e
          exact ByteArray.ext (Array.toList_inj.1 e.symm)
        have Hs := Lib.hid hs
        clear hs
        go_wp2_with (go_at_call 67; refine (implSz _ _).mono ?_; rintro e w' ⟨rfl, rfl⟩; rw [show szWd 1 = ⟨#[104, 97, 108, 102]⟩ from rfl])
        go_round
        case rel =>
          refine ⟨2, by omega, by go_num, fun j hj => ?_⟩
          by_cases hjk : j = 1
          · rw [hjk]; exact Hs.out
          · exact Hne.out j (by omega)
        case measure => simp [intOf]
    · by_cases hs : s = ⟨#[119, 111, 114, 100]⟩
      · have q1 : ([119, 111, 114, 100] == s.toList) = true := by rw [hs, ByteArray.toList_eq]; rfl
        have He := Lib.hid (show sizeN s = 2 by rw [hs]; rfl)
        clear hs
        go_wp2_with (go_at_call 67; refine (implSz _ _).mono ?_; rintro e w' ⟨rfl, rfl⟩; rw [show szWd 2 = ⟨#[119, 111, 114, 100]⟩ from rfl])
        go_ret
        exact ⟨by rw [He.out]; rfl, rfl⟩
      · have q1 : ([119, 111, 114, 100] == s.toList) = false := by
          rw [beq_eq_false_iff_ne]; intro e; apply hs
          rw [ByteArray.toList_eq] at e
          exact ByteArray.ext (Array.toList_inj.1 e.symm)
        have Hs := Lib.hid hs
        clear hs
        go_wp2_with (go_at_call 67; refine (implSz _ _).mono ?_; rintro e w' ⟨rfl, rfl⟩; rw [show szWd 2 = ⟨#[119, 111, 114, 100]⟩ from rfl])
        go_round
        case rel =>
          refine ⟨3, by omega, by go_num, fun j hj => ?_⟩
          by_cases hjk : j = 2
          · rw [hjk]; exact Hs.out
          · exact Hne.out j (by omega)
        case measure => simp [intOf]
    · have He := Lib.hid (show sizeN s = -1 by
        unfold sizeN
        rw [if_neg (show ¬ s = ⟨#[98, 121, 116, 101]⟩ from Hne.out 0 (by omega)), if_neg (show ¬ s = ⟨#[104, 97, 108, 102]⟩ from Hne.out 1 (by omega)), if_neg (show ¬ s = ⟨#[119, 111, 114, 100]⟩ from Hne.out 2 (by omega))])
      go_wp2_with (go_at_call 67; refine (implSz _ _).mono ?_; rintro e w' ⟨rfl, rfl⟩; rw [show szWd 3 = ⟨#[]⟩ from rfl])
      go_ret
      exact ⟨by rw [He.out]; rfl, rfl⟩
set_option maxHeartbeats 4000000 in
set_option maxRecDepth 100000 in
theorem implNumBu (s : ByteArray) (w : World) : Calls Tryz.prog 66 #[.func (.func 68) #[] #[], .string s] w fun e w' => e = .returned (.int .i64 (burstN s)) ∧ w = w' := by
  go_enter Tryz.func66, Tryz.ntmps66
  go_wp2_with fail
  go_loop [5] (fun i => ∃ k : Nat, k ≤ 4 ∧ i = .int .i64 k ∧ ∀ j : Nat, j < k → ¬ s = buWd j) (fun i => 4 - (intOf i).toNat)
  case atStart => exact ⟨0, by omega, rfl, fun j hj => by omega⟩
  case round =>
    obtain ⟨k, hk, rfl, hne⟩ := hrel
    have Hne := Lib.hid hne
    clear hne
    have hk' : k = 0 ∨ k = 1 ∨ k = 2 ∨ k = 3 ∨ k = 4 := by omega
    rcases hk' with rfl | rfl | rfl | rfl | rfl
    · by_cases hs : s = ⟨#[111, 110, 101]⟩
      · have q1 : ([111, 110, 101] == s.toList) = true := by rw [hs, ByteArray.toList_eq]; rfl
        have He := Lib.hid (show burstN s = 0 by rw [hs]; rfl)
        clear hs
        go_wp2_with (go_at_call 68; refine (implBu _ _).mono ?_; rintro e w' ⟨rfl, rfl⟩; rw [show buWd 0 = ⟨#[111, 110, 101]⟩ from rfl])
        go_ret
        exact ⟨by rw [He.out]; rfl, rfl⟩
      · have q1 : ([111, 110, 101] == s.toList) = false := by
          rw [beq_eq_false_iff_ne]; intro e; apply hs
          rw [ByteArray.toList_eq] at e
          exact ByteArray.ext (Array.toList_inj.1 e.symm)
        have Hs := Lib.hid hs
        clear hs
        go_wp2_with (go_at_call 68; refine (implBu _ _).mono ?_; rintro e w' ⟨rfl, rfl⟩; rw [show buWd 0 = ⟨#[111, 110, 101]⟩ from rfl])
        go_round
        case rel =>
          refine ⟨1, by omega, by go_num, fun j hj => ?_⟩
          by_cases hjk : j = 0
          · rw [hjk]; exact Hs.out
          · exact Hne.out j (by omega)
        case measure => simp [intOf]
    · by_cases hs : s = ⟨#[102, 111, 117, 114]⟩
      · have q1 : ([102, 111, 117, 114] == s.toList) = true := by rw [hs, ByteArray.toList_eq]; rfl
        have He := Lib.hid (show burstN s = 1 by rw [hs]; rfl)
        clear hs
        go_wp2_with (go_at_call 68; refine (implBu _ _).mono ?_; rintro e w' ⟨rfl, rfl⟩; rw [show buWd 1 = ⟨#[102, 111, 117, 114]⟩ from rfl])
        go_ret
        exact ⟨by rw [He.out]; rfl, rfl⟩
      · have q1 : ([102, 111, 117, 114] == s.toList) = false := by
          rw [beq_eq_false_iff_ne]; intro e; apply hs
          rw [ByteArray.toList_eq] at e
          exact ByteArray.ext (Array.toList_inj.1 e.symm)
        have Hs := Lib.hid hs
        clear hs
        go_wp2_with (go_at_call 68; refine (implBu _ _).mono ?_; rintro e w' ⟨rfl, rfl⟩; rw [show buWd 1 = ⟨#[102, 111, 117, 114]⟩ from rfl])
        go_round
        case rel =>
          refine ⟨2, by omega, by go_num, fun j hj => ?_⟩
          by_cases hjk : j = 1
          · rw [hjk]; exact Hs.out
          · exact Hne.out j (by omega)
        case measure => simp [intOf]
    · by_cases hs : s = ⟨#[119, 114, 97, 112]⟩
      · have q1 : ([119, 114, 97, 112] == s.toList) = true := by rw [hs, ByteArray.toList_eq]; rfl
        have He := Lib.hid (show burstN s = 2 by rw [hs]; rfl)
        clear hs
        go_wp2_with (go_at_call 68; refine (implBu _ _).mono ?_; rintro e w' ⟨rfl, rfl⟩; rw [show buWd 2 = ⟨#[119, 114, 97, 112]⟩ from rfl])
        go_ret
        exact ⟨by rw [He.out]; rfl, rfl⟩
      · have q1 : ([119, 114, 97, 112] == s.toList) = false := by
          rw [beq_eq_false_iff_ne]; intro e; apply hs
          rw [ByteArray.toList_eq] at e
          exact ByteArray.ext (Array.toList_inj.1 e.symm)
        have Hs := Lib.hid hs
        clear hs
        go_wp2_with (go_at_call 68; refine (implBu _ _).mono ?_; rintro e w' ⟨rfl, rfl⟩; rw [show buWd 2 = ⟨#[119, 114, 97, 112]⟩ from rfl])
        go_round
        case rel =>
          refine ⟨3, by omega, by go_num, fun j hj => ?_⟩
          by_cases hjk : j = 2
          · rw [hjk]; exact Hs.out
          · exact Hne.out j (by omega)
        case measure => simp [intOf]
    · by_cases hs : s = ⟨#[101, 105, 103, 104, 116]⟩
      · have q1 : ([101, 105, 103, 104, 116] == s.toList) = true := by rw [hs, ByteArray.toList_eq]; rfl
        have He := Lib.hid (show burstN s = 3 by rw [hs]; rfl)
        clear hs
        go_wp2_with (go_at_call 68; refine (implBu _ _).mono ?_; rintro e w' ⟨rfl, rfl⟩; rw [show buWd 3 = ⟨#[101, 105, 103, 104, 116]⟩ from rfl])
        go_ret
        exact ⟨by rw [He.out]; rfl, rfl⟩
      · have q1 : ([101, 105, 103, 104, 116] == s.toList) = false := by
          rw [beq_eq_false_iff_ne]; intro e; apply hs
          rw [ByteArray.toList_eq] at e
          exact ByteArray.ext (Array.toList_inj.1 e.symm)
        have Hs := Lib.hid hs
        clear hs
        go_wp2_with (go_at_call 68; refine (implBu _ _).mono ?_; rintro e w' ⟨rfl, rfl⟩; rw [show buWd 3 = ⟨#[101, 105, 103, 104, 116]⟩ from rfl])
        go_round
        case rel =>
          refine ⟨4, by omega, by go_num, fun j hj => ?_⟩
          by_cases hjk : j = 3
          · rw [hjk]; exact Hs.out
          · exact Hne.out j (by omega)
        case measure => simp [intOf]
    · have He := Lib.hid (show burstN s = -1 by
        unfold burstN
        rw [if_neg (show ¬ s = ⟨#[111, 110, 101]⟩ from Hne.out 0 (by omega)), if_neg (show ¬ s = ⟨#[102, 111, 117, 114]⟩ from Hne.out 1 (by omega)), if_neg (show ¬ s = ⟨#[119, 114, 97, 112]⟩ from Hne.out 2 (by omega)), if_neg (show ¬ s = ⟨#[101, 105, 103, 104, 116]⟩ from Hne.out 3 (by omega))])
      go_wp2_with (go_at_call 68; refine (implBu _ _).mono ?_; rintro e w' ⟨rfl, rfl⟩; rw [show buWd 4 = ⟨#[]⟩ from rfl])
      go_ret
      exact ⟨by rw [He.out]; rfl, rfl⟩

/-- the library's two errors hold what they were made to hold. -/
def Errs (w : World) : Prop := (∃ tp p, w.var? Tryz.prog "strconv.ErrSyntax" = some #[.iface tp p]) ∧ (∃ tp p, w.var? Tryz.prog "strconv.ErrRange" = some #[.iface tp p])
theorem var_lt {P : Program} {w : World} {n : String} {g : Nat} {cs : Array Value} (hg : P.globalNamed n = some g) (hv : w.var? P n = some cs) : g < w.heap.size := by
  unfold World.var? at hv
  rw [hg] at hv
  simp only [Option.bind_some] at hv
  rcases Nat.lt_or_ge g w.heap.size with h | h
  · exact h
  · rw [Array.getElem?_eq_none h] at hv; simp at hv
theorem errs_below {w w' : World} (h : Errs w) (hb : Below w.heap.size w w') : Errs w' := by
  obtain ⟨⟨t1, p1, h1⟩, ⟨t2, p2, h2⟩⟩ := h
  exact ⟨⟨t1, p1, var?_below hb (g := 1) (by kernel_rfl) (var_lt (g := 1) (by kernel_rfl) h1) h1⟩, ⟨t2, p2, var?_below hb (g := 2) (by kernel_rfl) (var_lt (g := 2) (by kernel_rfl) h2) h2⟩⟩
theorem atoi_itB {d : Int} (h0 : 0 ≤ d) (h1 : d < 4294967296) : Lib.atoiAll (itB d).data.toList = .ok d := by
  rw [itB_digits h0]
  have hf := decDigits_facts d.toNat
  have hlen := hf.2.2.2.2.2.2 10 (by omega) (by omega)
  rw [Lib.atoiAll_short _ (by omega)]
  have e : Lib.atoi (Lib.decDigits d.toNat) = some d := by
    cases hc : Lib.decDigits d.toNat with
    | nil => rw [hc] at hf; simp at hf
    | cons b r =>
      have hb := hf.2.2.2.2.2.1 b (by rw [hc]; simp)
      have h1 : (b == 45) = false := by rw [beq_eq_false_iff_ne]; rintro rfl; simp at hb
      have h2 : (b == 43) = false := by rw [beq_eq_false_iff_ne]; rintro rfl; simp at hb
      simp only [Lib.atoi, h1, h2, Lib.decNat]
      rw [← hc, hf.2.2.2.2.1]
      simp [hc]; omega
  rw [e]; rfl
def NumB (s : ByteArray) (w : World) (e : Ending) (w' : World) : Prop := ∃ n : Int, e = .returned (.int .i64 n) ∧ NumOf s n ∧ Below w.heap.size w w'
theorem NumB.mk {s : ByteArray} {w w' : World} {e : Ending} {n : Int} (h1 : e = .returned (.int .i64 n)) (h2 : NumOf s n) (h3 : Below w.heap.size w w') : NumB s w e w' := ⟨n, h1, h2, h3⟩
theorem num_of_atoi {s : ByteArray} {v : Int} (h : Lib.atoiAll s.data.toList = .ok v) : NumOf s v := by
  have hb := Lib.atoiAll_bounds h
  exact ⟨hb.1, hb.2, fun d h0 h1 e => by rw [e, atoi_itB h0 h1] at h; cases h; rfl⟩
theorem num_no_atoi {s : ByteArray} (h : ∀ v, Lib.atoiAll s.data.toList ≠ .ok v) : NumOf s (-1) :=
  NumOf.none (by omega) (by omega) fun d h0 h1 e => h d (by rw [e]; exact atoi_itB h0 h1)
set_option maxRecDepth 100000 in
theorem implNum (s : ByteArray) (hs : s.size ≤ 1048576) (w : World) (herr : Errs w) : Calls Tryz.prog 69 #[.string s] w (NumB s w) := by
  obtain ⟨⟨tp1, p1, hv1⟩, ⟨tp2, p2, hv2⟩⟩ := herr
  have Hv1 := Lib.hid hv1
  have Hv2 := Lib.hid hv2
  clear hv1 hv2
  rcases h : Lib.atoiAll s.data.toList with v | _ | _
  · have hb := Lib.atoiAll_bounds h
    have Hn := Lib.hid (num_of_atoi h)
    have H := Lib.hid h
    clear h
    go_enter Tryz.func69, Tryz.ntmps69
    go_wp2_with fail
    refine (Any.strconv_Atoi_ok Tryz.laysC172 s (by omega) v H.out _).mono ?_
    rintro e w1 ⟨rfl, hw1⟩
    have hb1 : Below w.heap.size w w1 := by
      rcases hw1 with rfl | ⟨t, rfl⟩
      · exact Below.refl _ _
      · exact Lib.bytesWorld_below _ _ _
    clear hw1
    go_wp2
    go_ret
    exact NumB.mk rfl Hn.out hb1
  · have Hn := Lib.hid (num_no_atoi (s := s) (fun v e => by rw [h] at e; cases e))
    have H := Lib.hid h
    clear h
    go_enter Tryz.func69, Tryz.ntmps69
    go_wp2_with fail
    refine (Any.strconv_Atoi_syntax_var Tryz.laysC172 s (by omega) H.out tp1 p1 _ Hv1.out).mono ?_
    rintro e w1 ⟨N, rfl, hN, hb, hb1⟩
    clear hb
    go_wp2
    go_ret
    exact NumB.mk rfl Hn.out hb1
  · have Hn := Lib.hid (num_no_atoi (s := s) (fun v e => by rw [h] at e; cases e))
    have H := Lib.hid h
    clear h
    go_enter Tryz.func69, Tryz.ntmps69
    go_wp2_with fail
    refine (Any.strconv_Atoi_range_var Tryz.laysC172 s (by omega) H.out tp2 p2 _ Hv2.out).mono ?_
    rintro e w1 ⟨N, rfl, hN, hb, hb1⟩
    clear hb
    go_wp2
    go_ret
    exact NumB.mk rfl Hn.out hb1
end Go.Proofs.YtfpnflhkfpolcaaGreatDoor.Num
