
/-
  The text of a request that FnReqs draws.
-/
import Derived.Test.YtcggaihooepglaaGreatDoorDraw5
import Derived.Test.YtcggaihooepglaaGreatDoorCur4
import Derived.Test.YtcggaihooepglaaGreatDoorText2
namespace Go.Proofs.YtcggaihooepglaaGreatDoor.Cur
open Go.RowKit Bytes Num Rows3

/-- some text drawn. -/
def DrewT (m D c : Nat) (w : World) (e : Ending) (w' : World) : Prop := ∃ s : ByteArray, e = .returned (.string s) ∧ s.size ≤ m ∧ CuD D c w' ∧ Only c w w'
theorem spoilD_size (len : Nat) (z : List Int) (t : ByteArray) (s : St) : (spoilD len z t s).1.size ≤ t.size + 3 := by
  have h1 : ∀ x : UInt8, (⟨#[x]⟩ : ByteArray).size = 1 := fun _ => rfl
  unfold spoilD
  split
  · have h := textD_length len z 3 s (by omega)
    show (List.toArray _).size ≤ _
    rw [List.size_toArray]
    omega
  · dsimp only
    split
    · simp only [ByteArray.size_append, ByteArray.size_extract]; omega
    · split
      · simp only [ByteArray.size_append, ByteArray.size_extract, h1]; omega
      · split
        · simp only [ByteArray.size_extract]; omega
        · simp only [ByteArray.size_append, ByteArray.size_extract, h1]; omega
theorem spoilC (D c : Nat) (t : ByteArray) (ht : t.size ≤ 100000) (w : World) (h : CuD D c w) :
    Calls Tryz.prog 26 #[.pointer (some ⟨c, 0, none⟩), .string t] w (DrewT (t.size + 3) D c w) := by
  obtain ⟨hc, hl, a, len, cap, z, s, h, hr⟩ := h
  exact (spoil_any c a len cap z s t ht w h).mono fun _ _ ⟨h1, h2, h3⟩ => ⟨_, h1, spoilD_size len z t s, ⟨hc, Nat.le_trans hl h3.size, a, len, cap, z, _, h2, hr⟩, h3⟩
def Strs (b : Nat) (zs : List ByteArray) (w : World) : Prop := w.heap[b]? = some (.cells (zs.map Value.string).toArray 9 (0, 0))
theorem Strs.cell {b : Nat} {zs : List ByteArray} {w : World} (h : Strs b zs w) {i : Nat} (hi : i < zs.length) : w.cell? ⟨b, i, none⟩ = some (.string (zs.getD i ByteArray.empty)) := by
  unfold Strs at h
  rw [cell_of_row w b i _ 9 (0, 0) h]
  simp [List.getD, hi]
theorem Strs.new (w : World) (zs : List ByteArray) (xs : Array Value) (h : xs = (zs.map Value.string).toArray) : Strs w.heap.size zs (w.alloc (.cells xs 9)) := by
  rw [h]; exact heap_alloc_new w _
theorem pickT (D c b : Nat) (zs : List ByteArray) (n m : Nat) (hn : zs.length = n) (h0 : 0 < n) (h1 : n ≤ 1000) (hm : ∀ s ∈ zs, s.size ≤ m) (hbc : b ≠ c) (w : World) (hz : Strs b zs w) (h : CuD D c w) :
    Calls Tryz.prog 27 #[.pointer (some ⟨c, 0, none⟩), .slice (some ⟨b, 0, none⟩) n n] w (DrewT m D c w) := by
  have Hn := Lib.hid hn
  have Hm := Lib.hid hm
  clear hn hm
  have hblt : b < w.heap.size := (Array.getElem?_eq_some_iff.1 hz).1
  go_enter Tryz.func27, Tryz.ntmps27
  go_wp2_with fail
  refine (belowC D c n (by omega) (by omega) _ h).mono ?_
  rintro e w1 ⟨x, ⟨hx0, hx1⟩, rfl, hC1, hO1⟩
  obtain ⟨k, rfl⟩ := Int.eq_ofNat_of_zero_le hx0
  have hkn : k < n := by omega
  have hcell : w1.cell? ⟨b, k, none⟩ = some (.string (zs.getD k ByteArray.empty)) := by rw [hO1.cell hblt hbc]; exact hz.cell (by rw [Hn.out]; exact hkn)
  have hsz : Hid ((zs.getD k ByteArray.empty).size ≤ m) := Lib.hid (by
    have hk : k < zs.length := by rw [Hn.out]; exact hkn
    have e : zs.getD k ByteArray.empty = zs[k] := by simp [List.getD, hk]
    rw [e]; exact Hm.out _ (List.getElem_mem hk))
  clear hz
  generalize zs.getD k ByteArray.empty = y at hcell hsz
  go_wp2
  go_ret
  exact ⟨y, rfl, hsz.out, hC1, hO1⟩
theorem txtB_size (q : Bool) (x y z : Int) (lk : Bool) (l : List Int) : (txtB q x y z lk l).size ≤ 1000 := by
  unfold txtB
  split
  · rename_i h
    obtain ⟨-, -, hx0, hx1, hl, hd⟩ := okR_facts h
    have h3 := wrW_size q
    have h4 := szWd_size y
    have h5 := buWd_size z
    have h6 := itB_size x (by omega) (by omega)
    have h7 := tailB_size l hl hd l.length
    rw [List.take_length] at h7
    have h8 : (if lk = true then (⟨#[32, 108, 111, 99, 107]⟩ : ByteArray) else ⟨#[]⟩).size ≤ 5 := by cases lk <;> decide
    have h9 : (⟨#[32]⟩ : ByteArray).size = 1 := rfl
    unfold headB
    simp only [ByteArray.size_append]
    omega
  · exact Nat.zero_le _
def litsR (T : ByteArray) : List ByteArray := [⟨#[]⟩, ⟨#[114, 101, 97, 100, 32, 119, 111, 114, 100, 32, 111, 110, 101, 32, 48]⟩, ⟨#[114, 101, 97, 100, 32, 119, 111, 114, 100, 32, 111, 110, 101, 32, 50]⟩, ⟨#[114, 101, 97, 100, 32, 119, 111, 114, 100, 32, 111, 110, 101, 32, 48, 32, 53]⟩, ⟨#[119, 114, 105, 116, 101, 32, 98, 121, 116, 101, 32, 111, 110, 101, 32, 51, 32, 50, 53, 54]⟩, ⟨#[119, 114, 105, 116, 101, 32, 98, 121, 116, 101, 32, 111, 110, 101, 32, 51, 32, 50, 53, 53]⟩, ⟨#[114, 101, 97, 100, 32, 119, 111, 114, 100, 32, 102, 111, 117, 114, 32, 54, 48]⟩, ⟨#[114, 101, 97, 100, 32, 119, 111, 114, 100, 32, 119, 114, 97, 112, 32, 54, 48, 32, 108, 111, 99, 107]⟩, ⟨#[114, 101, 97, 100, 32, 32, 111, 110, 101, 32, 48]⟩, T ++ ⟨#[32]⟩]
theorem litsR_size (T : ByteArray) (h : T.size ≤ 1000) : ∀ s ∈ litsR T, s.size ≤ 1100 := by
  intro s hs
  have h1 : (⟨#[32]⟩ : ByteArray).size = 1 := rfl
  simp only [litsR, List.mem_cons, List.not_mem_nil, or_false] at hs
  rcases hs with rfl | rfl | rfl | rfl | rfl | rfl | rfl | rfl | rfl | rfl
  all_goals first
    | (rw [ByteArray.size_append, h1]; omega)
    | decide
set_option maxRecDepth 100000 in
theorem drawReadR_any (a : Option Addr) (len cap : Nat) (z : List Int) (w : World) (h : CodeIn a len z w) :
    Calls Tryz.prog 8 #[.slice a len cap] w fun e w' => ∃ s : ByteArray, e = .returned (.string s) ∧ s.size ≤ 1048576 ∧ Below w.heap.size w w' := by
  have hh := h
  go_enter Tryz.func8, Tryz.ntmps8
  go_wp2_with fail
  refine (newC a len cap z _ hh).mono ?_
  rintro e w1 ⟨c, rfl, hc, hC1, hb1⟩
  have hcw := hC1.lt
  have Hb1 := Lib.hid hb1
  clear hh h hb1
  go_wp2_with fail
  refine (req_any _ c _ hC1).mono ?_
  rintro e w2 ⟨q, x, y, zz, lk, v, l, rfl, ho, hl, hC2, hO2⟩
  obtain ⟨ad, cap2, rfl⟩ := ho.slice
  have hsz := txtB_size q x y zz lk l
  obtain ⟨T, hT⟩ : ∃ T, txtB q x y zz lk l = T := ⟨_, rfl⟩
  rw [hT] at hsz
  have HT := Lib.hid hT
  have HO2 := Lib.hid hO2
  have HS := Lib.hid hsz
  have hl2 : Hid (l.length ≤ 2000000) := Lib.hid (by omega)
  have Hor := Lib.hid ho.rd
  have HC2 := Lib.hid hC2
  clear hT ho hl hC1 hC2 hO2 hsz
  go_wp2_with fail
  refine (specText q x y zz lk _ l hl2.out _ Hor.out).mono ?_
  rintro e w3 ⟨rfl, hb3⟩
  rw [HT.out]
  have hC3 := HC2.out.below hb3
  have HO3 := Lib.hid (HO2.out.below2 hb3)
  clear hb3
  go_wp2_with fail
  refine (belowC _ c 4 (by omega) (by omega) _ hC3).mono ?_
  rintro e w4 ⟨k, ⟨hk0, hk1⟩, rfl, hC4, hO4⟩
  have HO4 := Lib.hid (HO3.out.trans hO4)
  have HC4 := Lib.hid hC4
  have Fin : ∀ (s : ByteArray) (w' : World), s.size ≤ 100000 → Only c w1 w' → Hid (s.size ≤ 1048576 ∧ Below w.heap.size w w') := fun s w' h1 h2 => Lib.hid ⟨by omega, Hb1.out.trans (h2.belowB hc Hb1.out.size)⟩
  have HF := Lib.hid Fin
  clear hC3 hC4 hO4 Fin
  by_cases k2 : 2 ≤ k
  · have e0 : (k == 0) = false := by rw [beq_eq_false_iff_ne]; omega
    have e1 : (k == 1) = false := by rw [beq_eq_false_iff_ne]; omega
    go_wp2
    go_ret
    exact ⟨T, rfl, (HF.out T _ (Nat.le_trans HS.out (by decide)) HO4.out).out⟩
  · have hk : k = 0 ∨ k = 1 := by omega
    clear k2 hk0 hk1
    rcases hk with rfl | rfl
    · go_wp2_with fail
      refine (spoilC _ c T (Nat.le_trans HS.out (by decide)) _ HC4.out).mono ?_
      rintro e w5 ⟨s, rfl, hs, hC5, hO5⟩
      have F := HF.out s w5 (by have := HS.out; omega) (HO4.out.trans hO5)
      clear hs hC5 hO5
      go_wp2
      go_ret
      exact ⟨s, rfl, F.out⟩
    · have hlt : w4.heap.size ≠ c := by have := HC4.out.le; omega
      have hal := Lib.hid ((Below.refl w4.heap.size w4).alloc (Nat.le_refl _) (.cells (((litsR T).map Value.string).toArray) 9))
      have htl : ¬ 9223372036854775807 < T.size + 1 := by have := HS.out; omega
      go_wp2_with fail
      refine (pickT _ c _ (litsR T) 10 1100 rfl (by omega) (by omega) (litsR_size T HS.out) hlt _ (Strs.new w4 (litsR T) _ rfl) (HC4.out.below hal.out)).mono ?_
      rintro e w5 ⟨s, rfl, hs, hC5, hO5⟩
      have F := HF.out s w5 (by omega) ((HO4.out.below2 hal.out).trans hO5)
      clear hs hC5 hO5
      go_wp2
      go_ret
      exact ⟨s, rfl, F.out⟩
end Go.Proofs.YtcggaihooepglaaGreatDoor.Cur
