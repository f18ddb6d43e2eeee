
/-
  The configuration and the text that FnConfs draws.
-/
import Derived.Test.YtcggaihooepglaaDoorDraw7
import Derived.Test.YtcggaihooepglaaDoorCur4
namespace Go.Proofs.YtcggaihooepglaaDoor.Cur
open Go.RowKit Bytes Num GR

/-- some text drawn. -/
def DrewT (m D c : Nat) (w : World) (e : Ending) (w' : World) : Prop := ∃ s : ByteArray, e = .returned (.string s) ∧ s.size ≤ m ∧ CuD D c w' ∧ Only c w w'
theorem spoilD_size (len : Nat) (z : List Int) (t : ByteArray) (s : St) : (spoilD len z t s).1.size ≤ t.size + 3 := by
  have h1 : ∀ x : UInt8, (⟨#[x]⟩ : ByteArray).size = 1 := fun _ => rfl
  unfold spoilD
  split
  · have h := textD_length len z 3 s (by omega)
    show (List.toArray _).size ≤ _
    rw [List.size_toArray]
    omega
  · dsimp only
    split
    · simp only [ByteArray.size_append, ByteArray.size_extract]; omega
    · split
      · simp only [ByteArray.size_append, ByteArray.size_extract, h1]; omega
      · split
        · simp only [ByteArray.size_extract]; omega
        · simp only [ByteArray.size_append, ByteArray.size_extract, h1]; omega
theorem spoilC (D c : Nat) (t : ByteArray) (ht : t.size ≤ 100000) (w : World) (h : CuD D c w) :
    Calls Tryd.prog 31 #[.pointer (some ⟨c, 0, none⟩), .string t] w (DrewT (t.size + 3) D c w) := by
  obtain ⟨hc, hl, a, len, cap, z, s, h, hr⟩ := h
  exact (spoil_any c a len cap z s t ht w h).mono fun _ _ ⟨h1, h2, h3⟩ => ⟨_, h1, spoilD_size len z t s, ⟨hc, Nat.le_trans hl h3.size, a, len, cap, z, _, h2, hr⟩, h3⟩
def Strs (b : Nat) (zs : List ByteArray) (w : World) : Prop := w.heap[b]? = some (.cells (zs.map Value.string).toArray 9 (0, 0))
theorem Strs.cell {b : Nat} {zs : List ByteArray} {w : World} (h : Strs b zs w) {i : Nat} (hi : i < zs.length) : w.cell? ⟨b, i, none⟩ = some (.string (zs.getD i ByteArray.empty)) := by
  unfold Strs at h
  rw [cell_of_row w b i _ 9 (0, 0) h]
  simp [List.getD, hi]
theorem Strs.new (w : World) (zs : List ByteArray) (xs : Array Value) (h : xs = (zs.map Value.string).toArray) : Strs w.heap.size zs (w.alloc (.cells xs 9)) := by
  rw [h]; exact heap_alloc_new w _
theorem pickT (D c b : Nat) (zs : List ByteArray) (n m : Nat) (hn : zs.length = n) (h0 : 0 < n) (h1 : n ≤ 1000) (hm : ∀ s ∈ zs, s.size ≤ m) (hbc : b ≠ c) (w : World) (hz : Strs b zs w) (h : CuD D c w) :
    Calls Tryd.prog 32 #[.pointer (some ⟨c, 0, none⟩), .slice (some ⟨b, 0, none⟩) n n] w (DrewT m D c w) := by
  have Hn := Lib.hid hn
  have Hm := Lib.hid hm
  clear hn hm
  have hblt : b < w.heap.size := (Array.getElem?_eq_some_iff.1 hz).1
  go_enter Tryd.func32, Tryd.ntmps32
  go_wp2_with fail
  refine (belowC D c n (by omega) (by omega) _ h).mono ?_
  rintro e w1 ⟨x, ⟨hx0, hx1⟩, rfl, hC1, hO1⟩
  obtain ⟨k, rfl⟩ := Int.eq_ofNat_of_zero_le hx0
  have hkn : k < n := by omega
  have hcell : w1.cell? ⟨b, k, none⟩ = some (.string (zs.getD k ByteArray.empty)) := by rw [hO1.cell hblt hbc]; exact hz.cell (by rw [Hn.out]; exact hkn)
  have hsz : Hid ((zs.getD k ByteArray.empty).size ≤ m) := Lib.hid (by
    have hk : k < zs.length := by rw [Hn.out]; exact hkn
    have e : zs.getD k ByteArray.empty = zs[k] := by simp [List.getD, hk]
    rw [e]; exact Hm.out _ (List.getElem_mem hk))
  clear hz
  generalize zs.getD k ByteArray.empty = y at hcell hsz
  go_wp2
  go_ret
  exact ⟨y, rfl, hsz.out, hC1, hO1⟩
theorem txtC_size (l : List MC) (q mw mr ms lm : Int) : (txtC l q mw mr ms lm).size ≤ 400 := by
  unfold txtC
  split
  · rename_i h
    have hf := okC_facts h
    have h1 := headC_size hf
    have h2 := tailM_size hf l.length
    rw [List.take_of_length_le (Nat.le_refl _)] at h2
    rw [ByteArray.size_append]; omega
  · exact Nat.zero_le _
def lits : List ByteArray := [⟨#[]⟩, ⟨#[49, 32, 48, 32, 48, 32, 49, 32, 49]⟩, ⟨#[49, 32, 48, 32, 48, 32, 49, 32, 49, 32, 49]⟩, ⟨#[49, 32, 48, 32, 48, 32, 49, 32, 49, 32, 49, 58, 53, 48, 58, 49]⟩, ⟨#[49, 32, 48, 32, 48, 32, 49, 32, 49, 32, 49, 58, 52, 57, 58, 49]⟩, ⟨#[49, 32, 48, 32, 48, 32, 49, 32, 49, 32, 49, 58, 53, 48]⟩, ⟨#[49, 32, 48, 32, 48, 32, 49, 32, 49, 32, 32, 49]⟩, ⟨#[53, 32, 48, 32, 48, 32, 49, 32, 49, 32, 49]⟩]
/-- some configuration, new. -/
def SomeC (m : Nat) (w : World) (e : Ending) (w' : World) : Prop :=
  ∃ v l q mw mr ms lm, e = .returned (.agg #[v, .int .i64 q, .int .i64 mw, .int .i64 mr, .int .i64 ms, .int .i64 lm]) ∧ Own mcK 50 w.heap.size v l w' ∧ l.length ≤ m ∧ Below w.heap.size w w'
set_option maxRecDepth 100000 in
theorem drawConf_any (a : Option Addr) (len cap : Nat) (z : List Int) (w : World) (h : CodeIn a len z w) : Calls Tryd.prog 7 #[.slice a len cap] w (SomeC 4 w) := by
  have hh := h
  have B0 := Bx.new 26 #[.slice none 0 0, .int .i64 0, .int .i64 0, .int .i64 0, .int .i64 0, .int .i64 0] w
  go_enter Tryd.func7, Tryd.ntmps7
  go_wp2_with fail
  refine (newC a len cap z _ (hh.below ((Below.refl _ _).alloc (Nat.le_refl _) _))).mono ?_
  rintro e w1 ⟨c, rfl, hc, hC1, hb1⟩
  have hcw := hC1.lt
  go_wp2_with fail
  refine (confAny_any _ c _ hC1).mono ?_
  rintro e w2 ⟨v, l, q, mw, mr, ms, lm, rfl, ho, -, hl, hC2, hO2⟩
  obtain ⟨ad, cap2, rfl⟩ := ho.slice
  have hb01 := below_alloc1 (Below.refl w.heap.size w) (Nat.le_refl _) hb1
  have hs1 := hb1.size
  have hs1' : w.heap.size + 1 ≤ w1.heap.size := by simpa using hs1
  have hc' : w.heap.size + 1 ≤ c := by simpa using hc
  have B2 := bx_only (B0.later hb1) hO2 (by omega)
  have hb02 := hb01.trans (hO2.belowB (B := w.heap.size) (by omega) (by omega))
  obtain ⟨q0, q1, q2, q3, q4, q5⟩ := B2.cells6
  have r0 := B2.warm 0
  have r1 := B2.warm 1
  have r2 := B2.warm 2
  have r3 := B2.warm 3
  have r4 := B2.warm 4
  have r5 := B2.warm 5
  have Fin : Hid (SomeC 4 w (.returned (.agg #[.slice ad l.length cap2, .int .i64 q, .int .i64 mw, .int .i64 mr, .int .i64 ms, .int .i64 lm])) (filled w2 w.heap.size (.slice ad l.length cap2) q mw mr ms lm)) := Lib.hid (by
    refine ⟨_, l, q, mw, mr, ms, lm, rfl, Own.mono (B := w1.heap.size) ?_ (by omega), hl, ?_⟩
    · unfold filled
      iterate 6 refine Own.setBelow ?_ (by dsimp only; omega) _
      exact ho
    · unfold filled
      iterate 6 refine Below.setCell ?_ (by exact Nat.le_refl _) _
      exact hb02)
  clear B2 B0 ho hl hb01 hb02 hC2 hO2 hb1 hC1 hh h
  go_wp2_with fail
  refine bodyPost_ret (v := .agg #[.slice ad l.length cap2, .int .i64 q, .int .i64 mw, .int .i64 mr, .int .i64 ms, .int .i64 lm]) (by simp [results, Tryd.results7, go_sem, q0, q1, q2, q3, q4, q5]) rfl ?_
  exact Fin.out
set_option maxRecDepth 100000 in
theorem drawRead_any (a : Option Addr) (len cap : Nat) (z : List Int) (w : World) (h : CodeIn a len z w) :
    Calls Tryd.prog 10 #[.slice a len cap] w fun e w' => ∃ s : ByteArray, e = .returned (.string s) ∧ s.size ≤ 1048576 ∧ Below w.heap.size w w' := by
  have hh := h
  go_enter Tryd.func10, Tryd.ntmps10
  go_wp2_with fail
  refine (newC a len cap z _ hh).mono ?_
  rintro e w1 ⟨c, rfl, hc, hC1, hb1⟩
  have hcw := hC1.lt
  have Hb1 := Lib.hid hb1
  clear hh h hb1
  go_wp2_with fail
  refine (conf_any _ c _ hC1).mono ?_
  rintro e w2 ⟨v, l, q, mw, mr, ms, lm, rfl, ho, -, hl, hC2, hO2⟩
  obtain ⟨ad, cap2, rfl⟩ := ho.slice
  have hsz := txtC_size l q mw mr ms lm
  obtain ⟨T, hT⟩ : ∃ T, txtC l q mw mr ms lm = T := ⟨_, rfl⟩
  rw [hT] at hsz
  have HT := Lib.hid hT
  have HO2 := Lib.hid hO2
  have HS := Lib.hid hsz
  have hl2 : Hid (l.length ≤ 2000000) := Lib.hid (by omega)
  have Hor := Lib.hid ho.rd
  have HC2 := Lib.hid hC2
  clear hT ho hl hC1 hC2 hO2 hsz
  go_wp2_with fail
  refine (specConfText_is HT.out hl2.out _ Hor.out).mono ?_
  rintro e w3 ⟨rfl, hb3⟩
  have hC3 := HC2.out.below hb3
  have HO3 := Lib.hid (HO2.out.below2 hb3)
  clear hb3
  go_wp2_with fail
  refine (belowC _ c 4 (by omega) (by omega) _ hC3).mono ?_
  rintro e w4 ⟨k, ⟨hk0, hk1⟩, rfl, hC4, hO4⟩
  have HO4 := Lib.hid (HO3.out.trans hO4)
  have HC4 := Lib.hid hC4
  have Fin : ∀ (s : ByteArray) (w' : World), s.size ≤ 100000 → Only c w1 w' → Hid (s.size ≤ 1048576 ∧ Below w.heap.size w w') := fun s w' h1 h2 => Lib.hid ⟨by omega, Hb1.out.trans (h2.belowB hc Hb1.out.size)⟩
  have HF := Lib.hid Fin
  clear hC3 hC4 hO4 Fin
  by_cases k2 : 2 ≤ k
  · have e0 : (k == 0) = false := by rw [beq_eq_false_iff_ne]; omega
    have e1 : (k == 1) = false := by rw [beq_eq_false_iff_ne]; omega
    go_wp2
    go_ret
    exact ⟨T, rfl, (HF.out T _ (Nat.le_trans HS.out (by decide)) HO4.out).out⟩
  · have hk : k = 0 ∨ k = 1 := by omega
    clear k2 hk0 hk1
    rcases hk with rfl | rfl
    · go_wp2_with fail
      refine (spoilC _ c T (Nat.le_trans HS.out (by decide)) _ HC4.out).mono ?_
      rintro e w5 ⟨s, rfl, hs, hC5, hO5⟩
      have F := HF.out s w5 (by have := HS.out; omega) (HO4.out.trans hO5)
      clear hs hC5 hO5
      go_wp2
      go_ret
      exact ⟨s, rfl, F.out⟩
    · have hlt : w4.heap.size ≠ c := by have := HC4.out.le; omega
      have hal := Lib.hid ((Below.refl w4.heap.size w4).alloc (Nat.le_refl _) (.cells ((lits.map Value.string).toArray) 9))
      go_wp2_with fail
      refine (pickT _ c _ lits 8 100 rfl (by omega) (by omega) (by decide) hlt _ (Strs.new w4 lits _ rfl) (HC4.out.below hal.out)).mono ?_
      rintro e w5 ⟨s, rfl, hs, hC5, hO5⟩
      have F := HF.out s w5 (by omega) ((HO4.out.below2 hal.out).trans hO5)
      clear hs hC5 hO5
      go_wp2
      go_ret
      exact ⟨s, rfl, F.out⟩
end Go.Proofs.YtcggaihooepglaaDoor.Cur
