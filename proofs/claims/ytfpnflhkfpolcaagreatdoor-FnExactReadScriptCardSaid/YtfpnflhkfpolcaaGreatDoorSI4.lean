
/-
  readPost of the program.
-/
import Derived.Test.YtfpnflhkfpolcaaGreatDoorSI2
import Derived.Test.YtfpnflhkfpolcaaGreatDoorRead6
import Derived.Deep.Cut
namespace Go.Proofs.YtfpnflhkfpolcaaGreatDoor.Num
open Go.RowKit Rows3 GR

def PostP (s : ByteArray) (w : World) (e : Ending) (w' : World) : Prop :=
  (∃ d0 d1 q x y z lk v l, e = .returned (.tuple #[.agg #[.int .i64 d0, .int .i64 d1, .bool q, .int .i64 x, .int .i64 y, .int .i64 z, .bool lk, v], .bool true]) ∧ OwnI w.heap.size v l w' ∧ Below w.heap.size w w' ∧ pOk (d0, d1, q, x, y, z, lk, l) ∧ pL (d0, d1, q, x, y, z, lk, l) = s.data.toList) ∨
  (e = .returned (.tuple #[.agg #[.int .i64 0, .int .i64 0, .bool false, .int .i64 0, .int .i64 0, .int .i64 0, .bool false, .slice none 0 0], .bool false]) ∧ Below w.heap.size w w' ∧ ∀ p, pOk p → pL p ≠ s.data.toList)
theorem PostP.no {s : ByteArray} {w w' : World} {e : Ending} (h1 : e = .returned (.tuple #[.agg #[.int .i64 0, .int .i64 0, .bool false, .int .i64 0, .int .i64 0, .int .i64 0, .bool false, .slice none 0 0], .bool false])) (h2 : Below w.heap.size w w') (h3 : ∀ p, pOk p → pL p ≠ s.data.toList) : PostP s w e w' := .inr ⟨h1, h2, h3⟩
theorem PostP.yes {s : ByteArray} {w w' : World} {e : Ending} {d0 d1 : Int} {q : Bool} {x y z : Int} {lk : Bool} {v : Value} {l : List Int} (h1 : e = .returned (.tuple #[.agg #[.int .i64 d0, .int .i64 d1, .bool q, .int .i64 x, .int .i64 y, .int .i64 z, .bool lk, v], .bool true])) (h2 : OwnI w.heap.size v l w') (h3 : Below w.heap.size w w') (h4 : pOk (d0, d1, q, x, y, z, lk, l)) (h5 : pL (d0, d1, q, x, y, z, lk, l) = s.data.toList) : PostP s w e w' := .inl ⟨d0, d1, q, x, y, z, lk, v, l, h1, h2, h3, h4, h5⟩
theorem cut_of_post {s : ByteArray} {p : PoX} (h : pOk p) (e : pL p = s.data.toList) : Cut.cutWs 32 s = (⟨#[112, 111, 115, 116]⟩ : ByteArray) :: itB p.1 :: itB p.2.1 :: wordsL p.2.2.1 p.2.2.2.1 p.2.2.2.2.1 p.2.2.2.2.2.1 p.2.2.2.2.2.2.1 p.2.2.2.2.2.2.2 := by
  rw [← data_BA s, ← e]; exact cut_post h
theorem post_short {s : ByteArray} (h : (Cut.cutWs 32 s).length ≤ 3) (p : PoX) (hp : pOk p) : pL p ≠ s.data.toList := by
  intro e
  rw [cut_of_post hp e] at h
  have := (rB_words hp.2.2).2
  simp only [List.length_cons] at h
  omega
theorem post_parts {s y0 y1 y2 y3 : ByteArray} {r : List ByteArray} (hc : Cut.cutWs 32 s = y0 :: y1 :: y2 :: y3 :: r) {p : PoX} (hp : pOk p) (e : pL p = s.data.toList) :
    y0 = ⟨#[112, 111, 115, 116]⟩ ∧ y1 = itB p.1 ∧ y2 = itB p.2.1 ∧ BA (y3.data.toList ++ Lib.joinTail [32] (r.map (·.data.toList))) = rB p.2.2 := by
  have h := cut_of_post hp e
  rw [hc] at h
  simp only [List.cons.injEq] at h
  obtain ⟨h0, h1, h2, h3⟩ := h
  refine ⟨h0, h1, h2, ?_⟩
  apply ba_inj
  rw [BA_data]
  show _ = rT p.2.2
  rw [rT_words hp.2.2, ← h3, List.map_cons, Lib.join_cons]
theorem line_join {s y0 y1 y2 y3 : ByteArray} {r : List ByteArray} (hc : Cut.cutWs 32 s = y0 :: y1 :: y2 :: y3 :: r) : s.data.toList = y0.data.toList ++ 32 :: (y1.data.toList ++ 32 :: (y2.data.toList ++ 32 :: (BA (y3.data.toList ++ Lib.joinTail [32] (r.map (·.data.toList)))).data.toList)) := by
  have h := (Cut.cutWs_join 32 s).1
  rw [hc] at h
  rw [← h, BA_data]
  simp only [List.map_cons]
  rw [Lib.join_cons, Cut.joinTail_cons, Cut.joinTail_cons, Cut.joinTail_cons]
theorem piece_sz {s y0 y1 y2 y3 : ByteArray} {r : List ByteArray} (hs : s.size ≤ 1048576) (hc : Cut.cutWs 32 s = y0 :: y1 :: y2 :: y3 :: r) : y1.size ≤ 1048576 ∧ y2.size ≤ 1048576 ∧ (BA (y3.data.toList ++ Lib.joinTail [32] (r.map (·.data.toList)))).size ≤ 1048576 := by
  have h := congrArg List.length (line_join hc)
  have e : ∀ b : ByteArray, b.data.toList.length = b.size := fun b => by simp
  simp only [List.length_append, List.length_cons, e] at h
  omega
def z8 : Array Value := #[.int .i64 0, .int .i64 0, .bool false, .int .i64 0, .int .i64 0, .int .i64 0, .bool false, .slice none 0 0]
theorem cells8 {T : TypeId} {b : Nat} {c0 c1 c2 c3 c4 c5 c6 c7 : Value} {w : World} (h : Bx T b #[c0, c1, c2, c3, c4, c5, c6, c7] w) :
    w.cell? ⟨b, 0, none⟩ = some c0 ∧ w.cell? ⟨b, 1, none⟩ = some c1 ∧ w.cell? ⟨b, 2, none⟩ = some c2 ∧ w.cell? ⟨b, 3, none⟩ = some c3 ∧ w.cell? ⟨b, 4, none⟩ = some c4 ∧ w.cell? ⟨b, 5, none⟩ = some c5 ∧ w.cell? ⟨b, 6, none⟩ = some c6 ∧ w.cell? ⟨b, 7, none⟩ = some c7 :=
  ⟨h.cell 0 _ rfl, h.cell 1 _ rfl, h.cell 2 _ rfl, h.cell 3 _ rfl, h.cell 4 _ rfl, h.cell 5 _ rfl, h.cell 6 _ rfl, h.cell 7 _ rfl⟩
theorem warm8 {T : TypeId} {b : Nat} {c0 c1 c2 c3 c4 c5 c6 c7 : Value} {w : World} (h : Bx T b #[c0, c1, c2, c3, c4, c5, c6, c7] w) :
    w.frozen? ⟨b, 0, none⟩ = false ∧ w.frozen? ⟨b, 1, none⟩ = false ∧ w.frozen? ⟨b, 2, none⟩ = false ∧ w.frozen? ⟨b, 3, none⟩ = false ∧ w.frozen? ⟨b, 4, none⟩ = false ∧ w.frozen? ⟨b, 5, none⟩ = false ∧ w.frozen? ⟨b, 6, none⟩ = false ∧ w.frozen? ⟨b, 7, none⟩ = false :=
  ⟨h.warm 0, h.warm 1, h.warm 2, h.warm 3, h.warm 4, h.warm 5, h.warm 6, h.warm 7⟩
/-- a post's eight cells, stored. -/
def fill8 (w : World) (b : Nat) (d0 d1 d2 d3 d4 d5 d6 d7 : Value) : World := (((((((w.setCell ⟨b, 0, none⟩ d0).setCell ⟨b, 1, none⟩ d1).setCell ⟨b, 2, none⟩ d2).setCell ⟨b, 3, none⟩ d3).setCell ⟨b, 4, none⟩ d4).setCell ⟨b, 5, none⟩ d5).setCell ⟨b, 6, none⟩ d6).setCell ⟨b, 7, none⟩ d7
theorem bx_fill8 {T b : Nat} {c0 c1 c2 c3 c4 c5 c6 c7 : Value} {w : World} (h : Bx T b #[c0, c1, c2, c3, c4, c5, c6, c7] w) (d0 d1 d2 d3 d4 d5 d6 d7 : Value) : Bx T b #[d0, d1, d2, d3, d4, d5, d6, d7] (fill8 w b d0 d1 d2 d3 d4 d5 d6 d7) := by
  have h0 : Bx T b #[d0, c1, c2, c3, c4, c5, c6, c7] _ := h.set 0 d0
  have h1 : Bx T b #[d0, d1, c2, c3, c4, c5, c6, c7] _ := h0.set 1 d1
  have h2 : Bx T b #[d0, d1, d2, c3, c4, c5, c6, c7] _ := h1.set 2 d2
  have h3 : Bx T b #[d0, d1, d2, d3, c4, c5, c6, c7] _ := h2.set 3 d3
  have h4 : Bx T b #[d0, d1, d2, d3, d4, c5, c6, c7] _ := h3.set 4 d4
  have h5 : Bx T b #[d0, d1, d2, d3, d4, d5, c6, c7] _ := h4.set 5 d5
  have h6 : Bx T b #[d0, d1, d2, d3, d4, d5, d6, c7] _ := h5.set 6 d6
  have h7 : Bx T b #[d0, d1, d2, d3, d4, d5, d6, d7] _ := h6.set 7 d7
  exact h7
theorem below_fill8 {B : Nat} {a w : World} {b : Nat} (h : Below B a w) (hb : B ≤ b) (d0 d1 d2 d3 d4 d5 d6 d7 : Value) : Below B a (fill8 w b d0 d1 d2 d3 d4 d5 d6 d7) :=
  (((((((h.setCell hb d0).setCell hb d1).setCell hb d2).setCell hb d3).setCell hb d4).setCell hb d5).setCell hb d6).setCell hb d7
theorem own_fill8 {B h : Nat} {v : Value} {l : List Int} {w : World} {c0 c1 c2 c3 c4 c5 c6 c7 : Value} (ho : OwnI B v l w) (hb : Bx 39 h #[c0, c1, c2, c3, c4, c5, c6, c7] w) (d0 d1 d2 d3 d4 d5 d6 d7 : Value) : OwnI B v l (fill8 w h d0 d1 d2 d3 d4 d5 d6 d7) := by
  have hne : v.ownBlock ≠ some h := by
    rcases ho.2 with ⟨rfl, _⟩ | ⟨g, cap, cur, rfl, _, hg, _⟩
    · intro e; cases e
    · intro e
      obtain rfl : g = h := by injection e
      have h1 : w.heap[g]? = some (Obj.cells #[c0, c1, c2, c3, c4, c5, c6, c7] 39) := hb
      rw [hg] at h1
      injection h1 with h2
      injection h2 with _ h3
      exact absurd h3 (by decide)
  have st : ∀ {w : World} (i : Nat) (u : Value), OwnI B v l w → OwnI B v l (w.setCell ⟨h, i, none⟩ u) := fun i u h1 => own_set_ne h1 (a := ⟨h, i, none⟩) hne u
  exact st 7 _ (st 6 _ (st 5 _ (st 4 _ (st 3 _ (st 2 _ (st 1 _ (st 0 _ ho)))))))
theorem post_yes {s y0 y1 y2 E : ByteArray} {d0 d1 : Int} {q : Bool} {x y z : Int} {lk : Bool} {l : List Int} (h0 : y0 = ⟨#[112, 111, 115, 116]⟩) (hl : s.data.toList = y0.data.toList ++ 32 :: (y1.data.toList ++ 32 :: (y2.data.toList ++ 32 :: E.data.toList)))
    (h1 : RD18 y1.data.toList d0 true) (h2 : RD18 y2.data.toList d1 true) (h3 : RQ E q x y z lk l true) : pOk (d0, d1, q, x, y, z, lk, l) ∧ pL (d0, d1, q, x, y, z, lk, l) = s.data.toList := by
  rcases h1 with ⟨-, a1, a2⟩ | ⟨h, _⟩
  · rcases h2 with ⟨-, b1, b2⟩ | ⟨h, _⟩
    · rcases h3 with ⟨-, c1, c2⟩ | ⟨h, _⟩
      · refine ⟨⟨a1, b1, c1⟩, ?_⟩
        rw [hl, h0, ← a2, ← b2]
        unfold pL
        show postL ++ 32 :: (Lib.itoa d0 ++ 32 :: (Lib.itoa d1 ++ 32 :: (txtB q x y z lk l).data.toList)) = _
        rw [c2]; rfl
      · cases h
    · cases h
  · cases h
theorem post_no {s y0 y1 y2 E : ByteArray} {d0 d1 : Int} {q : Bool} {x y z : Int} {lk : Bool} {l : List Int} {b0 b1 b2 : Bool}
    (hp : ∀ p : PoX, pOk p → pL p = s.data.toList → y0 = ⟨#[112, 111, 115, 116]⟩ ∧ y1 = itB p.1 ∧ y2 = itB p.2.1 ∧ E = rB p.2.2)
    (h1 : RD18 y1.data.toList d0 b0) (h2 : RD18 y2.data.toList d1 b1) (h3 : RQ E q x y z lk l b2) (hb : ¬ (b0 = true ∧ b1 = true ∧ b2 = true)) : ∀ p, pOk p → pL p ≠ s.data.toList := by
  intro p hpk e
  obtain ⟨-, e1, e2, e3⟩ := hp p hpk e
  have ed : ∀ n, (itB n).data.toList = Lib.itoa n := fun n => by show (Lib.itoa n).toArray.toList = _; simp
  apply hb
  refine ⟨?_, ?_, ?_⟩
  · rcases h1 with ⟨h, _⟩ | ⟨-, -, h⟩
    · exact h
    · exact absurd (by rw [e1, ed]) (h p.1 hpk.1)
  · rcases h2 with ⟨h, _⟩ | ⟨-, -, h⟩
    · exact h
    · exact absurd (by rw [e2, ed]) (h p.2.1 hpk.2.1)
  · rcases h3 with ⟨h, _⟩ | ⟨-, -, -, -, -, -, -, h⟩
    · exact h
    · exact absurd (by rw [e3]; rfl) (h _ _ _ _ p.2.2.2.2.2.2.1 _ hpk.2.2)
set_option maxHeartbeats 8000000 in
set_option maxRecDepth 100000 in
theorem implPost (s : ByteArray) (hs : s.size ≤ 1048576) (w : World) (htab : Pow w) (herr : Errs w) : Calls Tryz.prog 29 #[.string s] w (PostP s w) := by
  have Htab := Lib.hid htab
  have Herr := Lib.hid herr
  have HS := Lib.hid hs
  have R0 := Lib.hid (Bx.new 39 #[.int .i64 0, .int .i64 0, .bool false, .int .i64 0, .int .i64 0, .int .i64 0, .bool false, .slice none 0 0] w)
  have HB0 := Lib.hid ((Below.refl w.heap.size w).alloc (Nat.le_refl _) (Obj.cells #[.int .i64 0, .int .i64 0, .bool false, .int .i64 0, .int .i64 0, .int .i64 0, .bool false, .slice none 0 0] 39))
  clear htab herr hs
  go_enter Tryz.func29, Tryz.ntmps29
  go_wp2_with fail
  generalize w.alloc _ = w0 at R0 HB0 ⊢
  refine (implSplitQ s HS.out _).mono ?_
  rintro e w1 ⟨ws, g, cp, rfl, hcp, hcp4, hws, hg, hcell, hb⟩
  have R1 := Lib.hid (R0.out.later hb)
  have HB1 := Lib.hid (HB0.out.trans (hb.mono HB0.out.size))
  clear hb R0 HB0
  rcases hws with ⟨hsh, hw3⟩ | ⟨y0, y1, y2, y3, r, hc, rfl⟩
  · have Hno := Lib.hid (post_short hsh)
    obtain ⟨n, hn⟩ : ∃ n, ws.length = n := ⟨_, rfl⟩
    rw [hn] at hw3 ⊢
    have hn3 : (n : Int) ≤ 3 := by omega
    obtain ⟨r0, r1, r2, r3, r4, r5, r6, r7⟩ := cells8 R1.out
    obtain ⟨f0, f1, f2, f3, f4, f5, f6, f7⟩ := warm8 R1.out
    clear hcell hn hcp hsh
    go_wp2_with fail
    obtain ⟨e0, e1, e2, e3, e4, e5, e6, e7⟩ := cells8 (bx_fill8 R1.out (.int .i64 0) (.int .i64 0) (.bool false) (.int .i64 0) (.int .i64 0) (.int .i64 0) (.bool false) (.slice none 0 0))
    unfold fill8 at e0 e1 e2 e3 e4 e5 e6 e7
    refine bodyPost_ret (v := .tuple #[.agg #[.int .i64 0, .int .i64 0, .bool false, .int .i64 0, .int .i64 0, .int .i64 0, .bool false, .slice none 0 0], .bool false]) (by simp [results, Tryz.results29, go_sem, e0, e1, e2, e3, e4, e5, e6, e7]) rfl ?_
    exact PostP.no rfl (below_fill8 HB1.out (Nat.le_refl _) _ _ _ _ _ _ _ _) Hno.out
  · have c0 : w1.cell? ⟨g, 0, none⟩ = some (.string y0) := hcell 0 (by simp)
    have c1 : w1.cell? ⟨g, 1, none⟩ = some (.string y1) := hcell 1 (by simp)
    have c2 : w1.cell? ⟨g, 2, none⟩ = some (.string y2) := hcell 2 (by simp)
    obtain ⟨E, hE⟩ : ∃ E, BA (y3.data.toList ++ Lib.joinTail [32] (r.map (·.data.toList))) = E := ⟨_, rfl⟩
    have c3 : w1.cell? ⟨g, 3, none⟩ = some (.string E) := by rw [← hE]; exact hcell 3 (by simp)
    have HPP := Lib.hid (fun (p : PoX) (hp : pOk p) (e : pL p = s.data.toList) => post_parts hc hp e)
    have hlj := line_join hc
    obtain ⟨hz1, hz2, hz3⟩ := piece_sz HS.out hc
    rw [hE] at hlj hz3 HPP
    have HLJ := Lib.hid hlj
    have HZ1 := Lib.hid hz1
    have HZ2 := Lib.hid hz2
    have HZ3 := Lib.hid hz3
    clear hc hcell hE hlj hz1 hz2 hz3
    simp only [List.length_cons, List.length_nil] at hcp ⊢
    obtain rfl : cp = 4 := by omega
    by_cases hpo : y0 = ⟨#[112, 111, 115, 116]⟩
    · have q1 : (y0.toList != [112, 111, 115, 116]) = false := by rw [hpo, ByteArray.toList_eq]; rfl
      have q2 : (y0.toList == [112, 111, 115, 116]) = true := by rw [hpo, ByteArray.toList_eq]; rfl
      have HPO := Lib.hid hpo
      clear hpo
      go_wp2_with fail
      refine (implReadDecimal18 y1 HZ1.out _ (Htab.out.below HB1.out) (errs_below Herr.out HB1.out)).mono ?_
      rintro e w2 ⟨d0, b0, rfl, hd0, hb⟩
      have HD0 := Lib.hid hd0
      have R2 := Lib.hid (R1.out.later hb)
      have HB2 := Lib.hid (HB1.out.trans (hb.mono HB1.out.size))
      have k2 := (bel_cells' hb hg (i := 2)).trans c2
      have k3 := (bel_cells' hb hg (i := 3)).trans c3
      have hg2 := Nat.lt_of_lt_of_le hg hb.size
      clear hd0 hb c0 c1 c2 c3
      go_wp2_with fail
      refine (implReadDecimal18 y2 HZ2.out _ (Htab.out.below HB2.out) (errs_below Herr.out HB2.out)).mono ?_
      rintro e w3 ⟨d1, b1, rfl, hd1, hb⟩
      have HD1 := Lib.hid hd1
      have R3 := Lib.hid (R2.out.later hb)
      have HB3 := Lib.hid (HB2.out.trans (hb.mono HB2.out.size))
      have j3 := (bel_cells' hb hg2 (i := 3)).trans k3
      clear hd1 hb k2 k3
      go_wp2_with fail
      refine (implRead E HZ3.out _ (errs_below Herr.out HB3.out) (Htab.out.below HB3.out)).mono ?_
      rintro e w4 ⟨q, x, y, z, lk, v, l, b2, rfl, ho, hb, hr⟩
      obtain ⟨ad, cp', rfl⟩ := ho.slice
      have HRQ := Lib.hid hr
      have R4 := Lib.hid (R3.out.later hb)
      have HB4 := Lib.hid (HB3.out.trans (hb.mono HB3.out.size))
      have HO4 := Lib.hid (ho.mono HB3.out.size)
      have A1 := Bx.new 35 #[.bool false, .int .i64 0, .int .i64 0, .int .i64 0, .bool false, .slice none 0 0] w4
      have g0 := A1.warm 0
      have g1 := A1.warm 1
      have g2 := A1.warm 2
      have g3 := A1.warm 3
      have g4 := A1.warm 4
      have g5 := A1.warm 5
      have G := Lib.hid (Bx.new 35 #[.bool q, .int .i64 x, .int .i64 y, .int .i64 z, .bool lk, .slice ad l.length cp'] w4)
      have hal := (Below.refl w4.heap.size w4).alloc (Nat.le_refl _) (Obj.cells #[.bool q, .int .i64 x, .int .i64 y, .int .i64 z, .bool lk, .slice ad l.length cp'] 35)
      have R5 := Lib.hid (R4.out.later hal)
      have HB5 := Lib.hid (HB4.out.trans (hal.mono HB4.out.size))
      have HO5 := Lib.hid (HO4.out.later hal)
      have hlt45 := HB4.out.size
      have hr4 := R4.out.lt
      clear ho hb hr A1 hal j3
      go_upto_region 7 with fail
      generalize w4.alloc _ = w5 at G R5 HB5 HO5 ⊢
      clear g0 g1 g2 g3 g4 g5
      by_cases hall : b0 = true ∧ b1 = true ∧ b2 = true
      · obtain ⟨rfl, rfl, rfl⟩ := hall
        have HY := Lib.hid (post_yes HPO.out HLJ.out HD0.out HD1.out HRQ.out)
        obtain ⟨h0, h1, h2, h3, h4, h5⟩ := G.out.cells6
        obtain ⟨r0, r1, r2, r3, r4, r5, r6, r7⟩ := cells8 R5.out
        obtain ⟨f0, f1, f2, f3, f4, f5, f6, f7⟩ := warm8 R5.out
        go_wp2_with fail
        obtain ⟨e0, e1, e2, e3, e4, e5, e6, e7⟩ := cells8 (bx_fill8 R5.out (.int .i64 d0) (.int .i64 d1) (.bool q) (.int .i64 x) (.int .i64 y) (.int .i64 z) (.bool lk) (.slice ad l.length cp'))
        unfold fill8 at e0 e1 e2 e3 e4 e5 e6 e7
        refine bodyPost_ret (v := .tuple #[.agg #[.int .i64 d0, .int .i64 d1, .bool q, .int .i64 x, .int .i64 y, .int .i64 z, .bool lk, .slice ad l.length cp'], .bool true]) (by simp [results, Tryz.results29, go_sem, e0, e1, e2, e3, e4, e5, e6, e7]) rfl ?_
        exact PostP.yes rfl (own_fill8 HO5.out R5.out _ _ _ _ _ _ _ _) (below_fill8 HB5.out (Nat.le_refl _) _ _ _ _ _ _ _ _) HY.out.1 HY.out.2
      · have HNO := Lib.hid (post_no HPP.out HD0.out HD1.out HRQ.out hall)
        rcases (show b0 = false ∨ b0 = true ∧ b1 = false ∨ b0 = true ∧ b1 = true ∧ b2 = false by revert hall; cases b0 <;> cases b1 <;> cases b2 <;> simp) with rfl | ⟨rfl, rfl⟩ | ⟨rfl, rfl, rfl⟩
        all_goals
          obtain ⟨r0, r1, r2, r3, r4, r5, r6, r7⟩ := cells8 R5.out
          obtain ⟨f0, f1, f2, f3, f4, f5, f6, f7⟩ := warm8 R5.out
          go_wp2_with fail
          obtain ⟨e0, e1, e2, e3, e4, e5, e6, e7⟩ := cells8 (bx_fill8 R5.out (.int .i64 0) (.int .i64 0) (.bool false) (.int .i64 0) (.int .i64 0) (.int .i64 0) (.bool false) (.slice none 0 0))
          unfold fill8 at e0 e1 e2 e3 e4 e5 e6 e7
          refine bodyPost_ret (v := .tuple #[.agg #[.int .i64 0, .int .i64 0, .bool false, .int .i64 0, .int .i64 0, .int .i64 0, .bool false, .slice none 0 0], .bool false]) (by simp [results, Tryz.results29, go_sem, e0, e1, e2, e3, e4, e5, e6, e7]) rfl ?_
          exact PostP.no rfl (below_fill8 HB5.out (Nat.le_refl _) _ _ _ _ _ _ _ _) HNO.out
    · have q1 : (y0.toList != [112, 111, 115, 116]) = true := by
        rw [bne_iff_ne, ByteArray.toList_eq]; intro e; exact hpo (ba_inj e)
      have q2 : (y0.toList == [112, 111, 115, 116]) = false := by
        rw [beq_eq_false_iff_ne, ByteArray.toList_eq]; intro e; exact hpo (ba_inj e)
      have Hno := Lib.hid (show ∀ p, pOk p → pL p ≠ s.data.toList from fun p hp e => hpo (HPP.out p hp e).1)
      clear hpo
      obtain ⟨r0, r1, r2, r3, r4, r5, r6, r7⟩ := cells8 R1.out
      obtain ⟨f0, f1, f2, f3, f4, f5, f6, f7⟩ := warm8 R1.out
      go_wp2_with fail
      obtain ⟨e0, e1, e2, e3, e4, e5, e6, e7⟩ := cells8 (bx_fill8 R1.out (.int .i64 0) (.int .i64 0) (.bool false) (.int .i64 0) (.int .i64 0) (.int .i64 0) (.bool false) (.slice none 0 0))
      unfold fill8 at e0 e1 e2 e3 e4 e5 e6 e7
      refine bodyPost_ret (v := .tuple #[.agg #[.int .i64 0, .int .i64 0, .bool false, .int .i64 0, .int .i64 0, .int .i64 0, .bool false, .slice none 0 0], .bool false]) (by simp [results, Tryz.results29, go_sem, e0, e1, e2, e3, e4, e5, e6, e7]) rfl ?_
      exact PostP.no rfl (below_fill8 HB1.out (Nat.le_refl _) _ _ _ _ _ _ _ _) Hno.out
end Go.Proofs.YtfpnflhkfpolcaaGreatDoor.Num
