
/-
  The model's small functions for reading a request: cutting a text at its blanks, finding a word, a word's number.
-/
import Derived.Test.YtfpnflhkfpolcaaGreatDoorText
import Derived.Test.YtfpnflhkfpolcaaGreatDoorStrRow
import Derived.Test.YtfpnflhkfpolcaaGreatDoorDecMath
namespace Go.Proofs.YtfpnflhkfpolcaaGreatDoor.Num
open Go.RowKit Rows3 Bytes

/-- the pieces that end before byte k, and where the next one begins. -/
def cutB (s : ByteArray) : Nat → List ByteArray × Nat
  | 0 => ([], 0)
  | k + 1 => if s.data.toList.getD k 0 = 32 then ((cutB s k).1 ++ [s.extract (cutB s k).2 k], k + 1) else cutB s k
/-- all pieces. -/
def cutW (s : ByteArray) : List ByteArray := (cutB s s.size).1 ++ [s.extract (cutB s s.size).2 s.size]
theorem cutB_bd (s : ByteArray) (k : Nat) : (cutB s k).2 ≤ k ∧ (cutB s k).1.length ≤ k := by
  induction k with
  | zero => simp [cutB]
  | succ k ih =>
    unfold cutB
    split
    · simp; omega
    · omega
theorem cutW_len (s : ByteArray) : 1 ≤ (cutW s).length ∧ (cutW s).length ≤ s.size + 1 := by
  have := cutB_bd s s.size
  unfold cutW; simp; omega
theorem getD_of5 (s : ByteArray) (k : Nat) (h : k < s.size) : s.data.toList.getD k 0 = s[k] := by
  simp [List.getD, h]; rfl
set_option maxHeartbeats 1000000 in
set_option maxRecDepth 100000 in
theorem specCut (s : ByteArray) (hs : s.size ≤ 1048576) (w : World) :
    Calls Tryz.prog 9 #[.string s, .int .u8 32] w (NewS (cutW s) w) := by
  go_enter Tryz.func9, Tryz.ntmps9
  go_wp2
  go_loopw [5, 6, 7] (fun o f i wr => ∃ k fr : Nat, k ≤ s.size ∧ i = .int .i64 k ∧ f = .int .i64 fr ∧ (cutB s k).2 = fr ∧ OwnS w.heap.size o (cutB s k).1 wr ∧ Below w.heap.size w wr) (fun _ _ i _ => s.size - (intOf i).toNat)
  case atStart => exact ⟨0, 0, by omega, rfl, rfl, rfl, OwnS.made _ _ (Nat.le_refl _), (Below.refl _ _).alloc (Nat.le_refl _) _⟩
  case round =>
    obtain ⟨k, fr, hk, rfl, rfl, hfr, ho, hb⟩ := hrel
    have hbd := cutB_bd s k
    rw [hfr] at hbd
    have hbs := hb.size
    have hfk := hbd.1
    have Ho := Lib.hid ho
    have Hb := Lib.hid hb
    have Hlen : Hid ((cutB s k).1.length + 1 ≤ 8000000000000) := Lib.hid (by omega)
    have Hfr := Lib.hid hfr
    clear ho hb hfr
    by_cases hlt : k < s.size
    · have hb8 : s[k].toNat < 256 := s[k].toNat_lt
      have f1 : IntKind.i64.wrap ((k : Int) + 1) = (k : Int) + 1 := IntWalk.i64_in _ (by omega)
      by_cases h32 : s[k].toNat = 32
      · have Hs := Lib.hid (show cutB s (k + 1) = ((cutB s k).1 ++ [s.extract fr k], k + 1) by
          rw [cutB, if_pos (by rw [getD_of5 s k hlt]; exact UInt8.toNat_inj.1 h32), Hfr.out])
        have hq : ((s[k].toNat : Int) == 32) = true := by rw [beq_iff_eq]; omega
        clear h32
        go_wp2_with (at_builtin; (refine appS rfl _ _ rfl w.heap.size u5 (cutB s k).1 wr (s.extract fr k) rfl rfl Ho.out hbs Hlen.out ?_); intro v' w1 hown1 hb1; have Ho1 := Lib.hid hown1; have Hb1 := Lib.hid (Hb.out.trans hb1); clear hown1 hb1)
        go_roundw
        case rel => exact ⟨k + 1, k + 1, by omega, by go_num, by go_num, by rw [Hs.out], by rw [Hs.out]; exact Ho1.out, Hb1.out⟩
        case measure => simp [intOf]; omega
      · have Hs := Lib.hid (show cutB s (k + 1) = cutB s k by
          rw [cutB, if_neg (by rw [getD_of5 s k hlt]; intro e; exact h32 (by rw [e]; rfl))])
        have hq : ((s[k].toNat : Int) == 32) = false := by rw [beq_eq_false_iff_ne]; omega
        clear h32
        go_wp2
        go_roundw
        case rel => exact ⟨k + 1, fr, by omega, by go_num, rfl, by rw [Hs.out]; exact Hfr.out, by rw [Hs.out]; exact Ho.out, Hb.out⟩
        case measure => simp [intOf]; omega
    · obtain rfl : k = s.size := by omega
      have Hw := Lib.hid (show cutW s = (cutB s s.size).1 ++ [s.extract fr s.size] by unfold cutW; rw [Hfr.out])
      go_wp2_with (at_builtin; (refine appS rfl _ _ rfl w.heap.size u5 (cutB s s.size).1 wr (s.extract fr s.size) rfl rfl Ho.out hbs Hlen.out ?_); intro v' w1 hown1 hb1; have Ho1 := Lib.hid hown1; have Hb1 := Lib.hid (Hb.out.trans hb1); clear hown1 hb1)
      go_ret
      exact ⟨_, rfl, by rw [Hw.out]; exact Ho1.out, Hb1.out⟩

/-- where a word stands in a list; -1 where it doesn't. -/
def findW (l : List ByteArray) (s : ByteArray) (k : Nat) : Prop := ∀ i, i < k → ¬ l.getD i ByteArray.empty = s
/-- what finding a word ends with. -/
def FindP (l : List ByteArray) (s : ByteArray) (w : World) (e : Ending) (w' : World) : Prop :=
  ∃ n : Int, e = .returned (.int .i64 n) ∧ ((0 ≤ n ∧ n < l.length ∧ l.getD n.toNat ByteArray.empty = s ∧ findW l s n.toNat) ∨ (n = -1 ∧ findW l s l.length)) ∧ w = w'
theorem FindP.hit {l : List ByteArray} {s : ByteArray} {w w' : World} {e : Ending} {k : Nat} (he : e = .returned (.int .i64 (k : Int))) (hk : k < l.length) (h : l.getD k ByteArray.empty = s) (hf : findW l s k) (hw : w = w') : FindP l s w e w' :=
  ⟨k, he, .inl ⟨by omega, by omega, by rw [Int.toNat_natCast]; exact h, by rw [Int.toNat_natCast]; exact hf⟩, hw⟩
theorem FindP.miss {l : List ByteArray} {s : ByteArray} {w w' : World} {e : Ending} (he : e = .returned (.int .i64 (-1))) (hf : findW l s l.length) (hw : w = w') : FindP l s w e w' := ⟨-1, he, .inr ⟨rfl, hf⟩, hw⟩
set_option maxRecDepth 100000 in
theorem specFind (v : Value) (l : List ByteArray) (s : ByteArray) (hl : l.length ≤ 100) (w : World) (hv : RdS v l w) :
    Calls Tryz.prog 22 #[v, .string s] w (FindP l s w) := by
  obtain ⟨ad, cap, rfl, h1⟩ := hv
  obtain ⟨n, hn⟩ : ∃ n, l.length = n := ⟨_, rfl⟩
  rw [hn] at h1 hl ⊢
  have H1 := Lib.hid h1
  have Hn := Lib.hid hn
  clear h1 hn
  go_enter Tryz.func22, Tryz.ntmps22
  go_wp2
  go_loop [5] (fun i => ∃ k : Nat, k ≤ n ∧ i = .int .i64 k ∧ findW l s k) (fun i => n - (intOf i).toNat)
  case atStart => exact ⟨0, by omega, rfl, fun i hi => by omega⟩
  case round =>
    obtain ⟨k, hk, rfl, hf⟩ := hrel
    have Hf := Lib.hid hf
    clear hf
    by_cases hlt : k < n
    · obtain ⟨b, o, rfl, hb1, hc1⟩ := H1.out k hlt
      obtain ⟨t, ht⟩ : ∃ t, l.getD k ByteArray.empty = t := ⟨_, rfl⟩
      rw [ht] at hc1
      have Ht := Lib.hid ht
      clear ht
      by_cases he : t = s
      · have hq : (t.toList == s.toList) = true := by rw [he]; simp
        have He := Lib.hid he
        clear he
        go_wp2
        go_ret
        exact FindP.hit (k := k) rfl (by rw [Hn.out]; exact hlt) (by rw [Ht.out]; exact He.out) Hf.out rfl
      · have hq : (t.toList == s.toList) = false := by
          rw [beq_eq_false_iff_ne]; intro e; apply he
          rw [ByteArray.toList_eq, ByteArray.toList_eq] at e
          exact ByteArray.ext (Array.toList_inj.1 e)
        have He := Lib.hid he
        clear he
        go_wp2
        go_round
        case rel =>
          refine ⟨k + 1, by omega, by go_num, fun i hi => ?_⟩
          by_cases hik : i = k
          · rw [hik, Ht.out]; exact He.out
          · exact Hf.out i (by omega)
        case measure => simp [intOf]; omega
    · obtain rfl : k = n := by omega
      go_wp2
      go_ret
      exact FindP.miss rfl (by rw [Hn.out]; exact Hf.out) rfl

/-- a word's number, or some other number: where the word is the numeral of a number below 2^32, that number. -/
def NumOf (s : ByteArray) (n : Int) : Prop := -9223372036854775808 ≤ n ∧ n ≤ 9223372036854775807 ∧ ∀ d : Int, 0 ≤ d → d < 4294967296 → s = itB d → n = d
def NumP (s : ByteArray) (w : World) (e : Ending) (w' : World) : Prop := ∃ n : Int, e = .returned (.int .i64 n) ∧ NumOf s n ∧ w = w'
theorem NumP.mk {s : ByteArray} {w w' : World} {e : Ending} {n : Int} (h1 : e = .returned (.int .i64 n)) (h2 : NumOf s n) (h3 : w = w') : NumP s w e w' := ⟨n, h1, h2, h3⟩
theorem NumOf.none {s : ByteArray} {n : Int} (h0 : -9223372036854775808 ≤ n) (h1 : n ≤ 9223372036854775807) (h : ∀ d : Int, 0 ≤ d → d < 4294967296 → s ≠ itB d) : NumOf s n := ⟨h0, h1, fun d a b e => absurd e (h d a b)⟩
theorem itB_digits {d : Int} (h0 : 0 ≤ d) : (itB d).data.toList = Lib.decDigits d.toNat := by
  unfold itB
  rcases itoa_cases d with ⟨_, e⟩ | ⟨h, _⟩
  · simp [e]
  · omega
/-- all digits among the first k. -/
def Digs (s : ByteArray) (k : Nat) : Prop := ∀ i, i < k → 48 ≤ (s.data.toList.getD i 0).toNat ∧ (s.data.toList.getD i 0).toNat ≤ 57
/-- what a text of digits alone says. -/
theorem NumOf.digs {s : ByteArray} (h18 : s.size ≤ 18 ∨ s.size = 0) (_ : Digs s s.size) : NumOf s (nv (s.data.toList.take s.size) : Nat) := by
  have hf : s.data.toList.take s.size = s.data.toList := List.take_of_length_le (by simp)
  rw [hf]
  have h1 := nv_lt s.data.toList
  have h2 : s.data.toList.length ≤ 18 := by simp; omega
  have h3 := Nat.lt_of_lt_of_le h1 (Nat.le_trans (Nat.pow_le_pow_right (by decide) h2) (show 10 ^ 18 ≤ 1000000000000000000 by decide))
  refine ⟨by omega, by omega, fun d h0 h4 e => ?_⟩
  have h5 : s.data.toList = Lib.decDigits d.toNat := by rw [e]; exact itB_digits h0
  rw [h5, (decDigits_facts d.toNat).1]; omega
theorem NumOf.nodig {s : ByteArray} (h : ¬ Digs s s.size) : NumOf s 0 := by
  refine NumOf.none (by omega) (by omega) fun d h0 h1 e => h fun i hi => ?_
  have h5 : s.data.toList = Lib.decDigits d.toNat := by rw [e]; exact itB_digits h0
  have hi' : i < s.data.toList.length := by simpa using hi
  have h6 := (decDigits_facts d.toNat).2.2.2.2.2.1 s.data.toList[i] (by rw [← h5]; exact List.getElem_mem hi')
  rw [show s.data.toList.getD i 0 = s.data.toList[i] by simp [List.getD, hi]]
  exact h6
theorem NumOf.long {s : ByteArray} (h : 18 < s.size) : NumOf s 0 := by
  refine NumOf.none (by omega) (by omega) fun d h0 h1 e => ?_
  have h5 : s.data.toList = Lib.decDigits d.toNat := by rw [e]; exact itB_digits h0
  have h6 := (decDigits_facts d.toNat).2.2.2.2.2.2 10 (by omega) (by omega)
  rw [← h5] at h6
  simp at h6
  omega
set_option maxHeartbeats 2000000 in
set_option maxRecDepth 100000 in
theorem specNum (s : ByteArray) (hs : s.size ≤ 1048576) (w : World) : Calls Tryz.prog 21 #[.string s] w (NumP s w) := by
  by_cases h45 : ∃ hp : 0 < s.size, s[0].toNat = 45
  · obtain ⟨hp, h45⟩ := h45
    have hno : ∀ n : Int, -9223372036854775808 ≤ n → n ≤ 9223372036854775807 → NumOf s n := fun n a b => NumOf.none a b fun d h0 h1 e => by
      have h5 : s.data.toList = Lib.decDigits d.toNat := by rw [e]; exact itB_digits h0
      have h2 := (decDigits_facts d.toNat).2.2.2.2.2.1 (s.data.toList.getD 0 0) (by rw [← h5, show s.data.toList.getD 0 0 = s.data.toList[0]'(by simpa using hp) by simp [List.getD, hp]]; exact List.getElem_mem _)
      rw [getD_of5 s 0 hp] at h2
      omega
    have Hno := Lib.hid hno
    have hq : ((s[0].toNat : Int) == 45) = true := by rw [beq_iff_eq]; omega
    obtain ⟨t, ht⟩ : ∃ t, s.extract 1 s.size = t := ⟨_, rfl⟩
    have Ht := Lib.hid ht
    have hts : t.size ≤ 1048576 := by rw [← ht, ByteArray.size_extract]; omega
    clear hno ht h45
    go_enter Tryz.func21, Tryz.ntmps21
    go_wp2_with fail
    rw [show s.extract 1 s.size = t from Ht.out]
    go_loop [4, 5] (fun n i => ∃ k : Nat, k ≤ t.size ∧ (t.size ≤ 18 ∨ k = 0) ∧ i = .int .i64 k ∧ n = .int .i64 (nv (t.data.toList.take k)) ∧ Digs t k) (fun _ i => t.size - (intOf i).toNat)
    case atStart => exact ⟨0, by omega, .inr rfl, rfl, rfl, fun i hi => by omega⟩
    case round =>
      obtain ⟨k, hk, h18, rfl, rfl, hdg⟩ := hrel
      have Hd := Lib.hid hdg
      have hv : nv (t.data.toList.take k) < 1000000000000000000 := by
        have h1 := nv_lt (t.data.toList.take k)
        have h2 : (t.data.toList.take k).length ≤ 18 := by rw [List.length_take]; omega
        exact Nat.lt_of_lt_of_le h1 (Nat.le_trans (Nat.pow_le_pow_right (by decide) h2) (by decide))
      clear hdg
      by_cases hlt : k < t.size
      · have hb8 : t[k].toNat < 256 := t[k].toNat_lt
        have Hg := Lib.hid (getD_of5 t k hlt)
        have Hv := Lib.hid (show nv (t.data.toList.take (k + 1)) = nvS (nv (t.data.toList.take k)) t[k] by rw [List.take_succ_eq_append_getElem (by simpa using hlt), nv_snoc]; rfl)
        have Hx := Lib.hid (show nv (t.data.toList.take k) < 10 ^ k from Nat.lt_of_lt_of_le (nv_lt _) (Nat.pow_le_pow_right (by decide) (by simp; omega)))
        generalize nv (t.data.toList.take k) = x at hv Hv Hx ⊢
        by_cases hb1 : t[k].toNat < 48
        · have Hn := Lib.hid ((fun (_ : ¬ Digs t t.size) => Hno.out 0 (by omega) (by omega)) (fun hd => by have := hd k hlt; rw [Hg.out] at this; omega))
          go_wp2
          go_ret
          exact NumP.mk rfl Hn.out rfl
        · by_cases hb2 : 57 < t[k].toNat
          · have Hn := Lib.hid ((fun (_ : ¬ Digs t t.size) => Hno.out 0 (by omega) (by omega)) (fun hd => by have := hd k hlt; rw [Hg.out] at this; omega))
            go_wp2
            go_ret
            exact NumP.mk rfl Hn.out rfl
          · by_cases hbig : 18 < t.size
            · have Hn := Lib.hid ((fun _ => Hno.out 0 (by omega) (by omega)) hbig)
              go_wp2
              go_ret
              exact NumP.mk rfl Hn.out rfl
            · have h17 : x < 100000000000000000 := Nat.lt_of_lt_of_le Hx.out (Nat.le_trans (Nat.pow_le_pow_right (by decide) (show k ≤ 17 by omega)) (by decide))
              have f1 : IntKind.i64.wrap ((x : Int) * 10) = (x : Int) * 10 := IntWalk.i64_in _ (by omega)
              have f2 : IntKind.i64.wrap ((x : Int) * 10 + (t[k].toNat : Int)) = (x : Int) * 10 + (t[k].toNat : Int) := IntWalk.i64_in _ (by omega)
              have f3 : IntKind.i64.wrap ((x : Int) * 10 + (t[k].toNat : Int) - 48) = (x : Int) * 10 + (t[k].toNat : Int) - 48 := IntWalk.i64_in _ (by omega)
              go_wp2
              clear f1 f2 f3
              go_round
              case rel =>
                refine ⟨k + 1, by omega, .inl (by omega), by go_num, ?_, fun i hi => ?_⟩
                · rw [Hv.out, nvS, if_pos ⟨by omega, by omega⟩]; go_num
                · by_cases hik : i = k
                  · rw [hik, Hg.out]; exact ⟨by omega, by omega⟩
                  · exact Hd.out i (by omega)
              case measure => simp [intOf]; omega
      · obtain rfl : k = t.size := by omega
        have Hn := Lib.hid ((fun _ => Hno.out _ (show -9223372036854775808 ≤ -((nv (t.data.toList.take t.size) : Nat) : Int) by omega) (by omega)) Hd.out)
        generalize nv (t.data.toList.take t.size) = x at Hn hv ⊢
        have f1 : IntKind.i64.wrap (-(x : Int)) = -(x : Int) := IntWalk.i64_in _ (by omega)
        go_wp2
        go_ret
        exact NumP.mk rfl Hn.out rfl
  · have hq : ∀ hp : 0 < s.size, ((s[0].toNat : Int) == 45) = false := fun hp => by rw [beq_eq_false_iff_ne]; intro e; exact h45 ⟨hp, by omega⟩
    clear h45
    by_cases hp : 0 < s.size
    · have hq1 := hq hp
      clear hq
      go_enter Tryz.func21, Tryz.ntmps21
      go_wp2
      go_loop [4, 5] (fun n i => ∃ k : Nat, k ≤ s.size ∧ (s.size ≤ 18 ∨ k = 0) ∧ i = .int .i64 k ∧ n = .int .i64 (nv (s.data.toList.take k)) ∧ Digs s k) (fun _ i => s.size - (intOf i).toNat)
      case atStart => exact ⟨0, by omega, .inr rfl, rfl, rfl, fun i hi => by omega⟩
      case round =>
        obtain ⟨k, hk, h18, rfl, rfl, hdg⟩ := hrel
        have Hd := Lib.hid hdg
        have hv : nv (s.data.toList.take k) < 1000000000000000000 := by
          have h1 := nv_lt (s.data.toList.take k)
          have h2 : (s.data.toList.take k).length ≤ 18 := by rw [List.length_take]; omega
          exact Nat.lt_of_lt_of_le h1 (Nat.le_trans (Nat.pow_le_pow_right (by decide) h2) (by decide))
        clear hdg
        by_cases hlt : k < s.size
        · have hb8 : s[k].toNat < 256 := s[k].toNat_lt
          have Hg := Lib.hid (getD_of5 s k hlt)
          have Hv := Lib.hid (show nv (s.data.toList.take (k + 1)) = nvS (nv (s.data.toList.take k)) s[k] by rw [List.take_succ_eq_append_getElem (by simpa using hlt), nv_snoc]; rfl)
          have Hx := Lib.hid (show nv (s.data.toList.take k) < 10 ^ k from Nat.lt_of_lt_of_le (nv_lt _) (Nat.pow_le_pow_right (by decide) (by simp; omega)))
          generalize nv (s.data.toList.take k) = x at hv Hv Hx ⊢
          by_cases hb1 : s[k].toNat < 48
          · have Hn := Lib.hid (NumOf.nodig (fun hd => by have := hd k hlt; rw [Hg.out] at this; omega))
            go_wp2
            go_ret
            exact NumP.mk rfl Hn.out rfl
          · by_cases hb2 : 57 < s[k].toNat
            · have Hn := Lib.hid (NumOf.nodig (fun hd => by have := hd k hlt; rw [Hg.out] at this; omega))
              go_wp2
              go_ret
              exact NumP.mk rfl Hn.out rfl
            · by_cases hbig : 18 < s.size
              · have Hn := Lib.hid (NumOf.long hbig)
                go_wp2
                go_ret
                exact NumP.mk rfl Hn.out rfl
              · have h17 : x < 100000000000000000 := Nat.lt_of_lt_of_le Hx.out (Nat.le_trans (Nat.pow_le_pow_right (by decide) (show k ≤ 17 by omega)) (by decide))
                have f1 : IntKind.i64.wrap ((x : Int) * 10) = (x : Int) * 10 := IntWalk.i64_in _ (by omega)
                have f2 : IntKind.i64.wrap ((x : Int) * 10 + (s[k].toNat : Int)) = (x : Int) * 10 + (s[k].toNat : Int) := IntWalk.i64_in _ (by omega)
                have f3 : IntKind.i64.wrap ((x : Int) * 10 + (s[k].toNat : Int) - 48) = (x : Int) * 10 + (s[k].toNat : Int) - 48 := IntWalk.i64_in _ (by omega)
                go_wp2
                clear f1 f2 f3
                go_round
                case rel =>
                  refine ⟨k + 1, by omega, .inl (by omega), by go_num, ?_, fun i hi => ?_⟩
                  · rw [Hv.out, nvS, if_pos ⟨by omega, by omega⟩]; go_num
                  · by_cases hik : i = k
                    · rw [hik, Hg.out]; exact ⟨by omega, by omega⟩
                    · exact Hd.out i (by omega)
                case measure => simp [intOf]; omega
        · obtain rfl : k = s.size := by omega
          have Hn := Lib.hid ((fun hd => NumOf.digs h18 hd) Hd.out)
          generalize nv (s.data.toList.take s.size) = x at Hn hv ⊢
          have f1 : IntKind.i64.wrap ((x : Int)) = (x : Int) := IntWalk.i64_in _ (by omega)
          go_wp2
          go_ret
          exact NumP.mk rfl Hn.out rfl
    · have hz : s.size = 0 := by omega
      clear hq
      go_enter Tryz.func21, Tryz.ntmps21
      go_wp2
      go_loop [4, 5] (fun n i => ∃ k : Nat, k ≤ s.size ∧ (s.size ≤ 18 ∨ k = 0) ∧ i = .int .i64 k ∧ n = .int .i64 (nv (s.data.toList.take k)) ∧ Digs s k) (fun _ i => s.size - (intOf i).toNat)
      case atStart => exact ⟨0, by omega, .inr rfl, rfl, rfl, fun i hi => by omega⟩
      case round =>
        obtain ⟨k, hk, h18, rfl, rfl, hdg⟩ := hrel
        have Hd := Lib.hid hdg
        have hv : nv (s.data.toList.take k) < 1000000000000000000 := by
          have h1 := nv_lt (s.data.toList.take k)
          have h2 : (s.data.toList.take k).length ≤ 18 := by rw [List.length_take]; omega
          exact Nat.lt_of_lt_of_le h1 (Nat.le_trans (Nat.pow_le_pow_right (by decide) h2) (by decide))
        clear hdg
        by_cases hlt : k < s.size
        · omega
        · obtain rfl : k = s.size := by omega
          have Hn := Lib.hid ((fun hd => NumOf.digs h18 hd) Hd.out)
          generalize nv (s.data.toList.take s.size) = x at Hn hv ⊢
          have f1 : IntKind.i64.wrap ((x : Int)) = (x : Int) := IntWalk.i64_in _ (by omega)
          go_wp2
          go_ret
          exact NumP.mk rfl Hn.out rfl
end Go.Proofs.YtfpnflhkfpolcaaGreatDoor.Num
