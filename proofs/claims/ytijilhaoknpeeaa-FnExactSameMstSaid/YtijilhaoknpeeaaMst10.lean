
/-
  MstPost of the model. (Made by wip/gmst10.py.)
-/
import Derived.Test.YtijilhaoknpeeaaMst6
import Derived.Test.YtijilhaoknpeeaaAppJ
import Derived.Deep.Cut
namespace Go.Proofs.Ytijilhaoknpeeaa.KD
open Go.RowKit Rows3 GR Num
set_option linter.unusedVariables false

def postM (q : List ReqX) (be dn tr : Int) (pa br : Bool) (r : ReqX) : MstX × Bool := if rightM q be dn tr pa br = true ∧ okQ r = true ∧ q.length ≠ 4 then ((q ++ [r], be, dn, tr, pa, br), true) else ((q, be, dn, tr, pa, br), false)
/-- what each operation of the append's sentence leaves. -/
def RP (bX n : Nat) (au : Option Addr) (pu : Nat) (q : List ReqX) (x0 : Bool) (x1 x2 x3 : Int) (x4 : Bool) (x5 : List Int) (ax : Option Addr) (px : Nat) (B : Nat) (G : Foot) : Nat → Value → World → Prop
  | 0, v, _ => v = .pointer (some ⟨bX, 0, none⟩)
  | 1, v, _ => v = .slice au n pu
  | 2, v, _ => v = .agg #[.bool x0, .int .i64 x1, .int .i64 x2, .int .i64 x3, .bool x4, .slice ax x5.length px]
  | 3, v, w => ∃ ay py, v = .agg #[.bool x0, .int .i64 x1, .int .i64 x2, .int .i64 x3, .bool x4, .slice ay x5.length py] ∧ reqK.cap (fun k => B ≤ k) [.bool x0, .int .i64 x1, .int .i64 x2, .int .i64 x3, .bool x4, .slice ay x5.length py] (x0, x1, x2, x3, x4, x5) w
  | 4, v, w => ∃ g ay py, v = .slice (some ⟨g, 0, none⟩) 1 1 ∧ B ≤ g ∧ w.heap[g]? = some (.cells #[.bool x0, .int .i64 x1, .int .i64 x2, .int .i64 x3, .bool x4, .slice ay x5.length py] 35) ∧ reqK.cap (fun k => B ≤ k) [.bool x0, .int .i64 x1, .int .i64 x2, .int .i64 x3, .bool x4, .slice ay x5.length py] (x0, x1, x2, x3, x4, x5) w
  | 5, v, w => ∃ ad cp, v = .slice ad (n + 1) cp ∧ reqS.cap G [v] (q ++ [(x0, x1, x2, x3, x4, x5)]) w
  | 6, v, _ => v = .pointer (some ⟨bX, 0, none⟩)
  | _, _, _ => True
theorem RP.step {bX n : Nat} {au : Option Addr} {pu : Nat} {q : List ReqX} {x0 : Bool} {x1 x2 x3 : Int} {x4 : Bool} {x5 : List Int} {ax : Option Addr} {px : Nat} {B : Nat} {G : Foot} {w w' : World} {F : Foot} (ht : Turn F w w') (hF : ∀ k, F k → k < B) (j : Nat) (u : Value) (hj5 : j ≠ 5) (hj : RP bX n au pu q x0 x1 x2 x3 x4 x5 ax px B G j u w) : RP bX n au pu q x0 x1 x2 x3 x4 x5 ax px B G j u w' := by
  match j, hj with
  | 0, hj => have e : u = _ := hj; exact e
  | 1, hj => have e : u = _ := hj; exact e
  | 2, hj => have e : u = _ := hj; exact e
  | 3, hj => obtain ⟨ay, py, h1, h2⟩ := hj; exact ⟨ay, py, h1, reqK.cap_turn h2 ht (fun k _ h3 h4 => by have := hF k h4; omega)⟩
  | 4, hj => obtain ⟨g, ay, py, h1, h2, h3, h4⟩ := hj; exact ⟨g, ay, py, h1, h2, (ht.block g (Array.getElem?_eq_some_iff.1 h3).1 (fun hf => by have := hF g hf; omega)).trans h3, reqK.cap_turn h4 ht (fun k _ h5 h6 => by have := hF k h6; omega)⟩
  | 5, hj => exact absurd rfl hj5
  | 6, hj => have e : u = _ := hj; exact e
  | n + 7, _ => trivial
theorem RP.later {bX n : Nat} {au : Option Addr} {pu : Nat} {q : List ReqX} {x0 : Bool} {x1 x2 x3 : Int} {x4 : Bool} {x5 : List Int} {ax : Option Addr} {px : Nat} {B : Nat} {G : Foot} {w w' : World} (hb : Below w.heap.size w w') (j : Nat) (u : Value) (hj : RP bX n au pu q x0 x1 x2 x3 x4 x5 ax px B G j u w) : RP bX n au pu q x0 x1 x2 x3 x4 x5 ax px B G j u w' := by
  by_cases h : j = 5
  · subst h
    obtain ⟨ad, cp, h1, h2⟩ := hj
    exact ⟨ad, cp, h1, reqS.cap_later h2 hb⟩
  · exact RP.step (F := fun _ => False) (Turn.later hb) (fun _ h => h.elim) j u h hj
theorem RP.none {bX n : Nat} {au : Option Addr} {pu : Nat} {q : List ReqX} {x0 : Bool} {x1 x2 x3 : Int} {x4 : Bool} {x5 : List Int} {ax : Option Addr} {px : Nat} {B : Nat} {G : Foot} (i : Nat) (v : Value) (w : World) (h : 7 ≤ i) : RP bX n au pu q x0 x1 x2 x3 x4 x5 ax px B G i v w := by
  obtain ⟨n, rfl⟩ : ∃ n, i = n + 7 := ⟨i - 7, by omega⟩
  trivial
theorem reqOk_is {cs : List Value} {x : ReqX} {b : Bool} (hm : okQ x = b) (hs : reqK.sz x ≤ 2000000) (w : World) (h : reqK.rd cs x w) :
    Calls Try.prog 69 #[agg cs] w fun e w' => e = .returned (.bool b) ∧ Below w.heap.size w w' := by
  obtain ⟨x0, x1, x2, x3, x4, x5⟩ := x
  rw [← hm]; exact specReqX cs x0 x1 x2 x3 x4 x5 hs w h
theorem unlisted_up {ops : Array Oper} {a0 a : Act} {C : World → Prop} {Φ : Nat → Value → World → Prop} {listed : Array Bool} {w : World} (s : Inv.St .any ops a0 C Φ listed a w) {i j : Nat} {oj : Oper} (ho : ops[j]? = some oj) (he : ∃ e ∈ oj.after, Region.binds .any e = true ∧ e.on = i) (h : listed.getD i false = false) : listed.getD j false = false := by
  obtain ⟨e, h1, h2, rfl⟩ := he
  cases hj : listed.getD j false with
  | false => rfl
  | true => rw [s.closed j oj ho hj e h1 h2] at h; cases h
set_option maxHeartbeats 8000000 in
set_option maxRecDepth 100000 in
theorem specPost (cs ds : List Value) (q : List ReqX) (be dn tr : Int) (pa br : Bool) (x0 : Bool) (x1 x2 x3 : Int) (x4 : Bool) (x5 : List Int) (hs : mstK.sz (q, be, dn, tr, pa, br) ≤ 2000000) (hq : reqK.sz (x0, x1, x2, x3, x4, x5) ≤ 2000000) (w : World) (h : mstK.rd cs (q, be, dn, tr, pa, br) w) (hx : reqK.rd ds (x0, x1, x2, x3, x4, x5) w) :
    Calls Try.prog 27 #[agg cs, agg ds] w (MstB (postM q be dn tr pa br (x0, x1, x2, x3, x4, x5)) w) := by
  obtain ⟨a0, p0, rfl, _⟩ := mst_form h
  obtain ⟨ax, px, rfl, _⟩ := rd_req hx
  have HQL := Lib.hid (mst_len hs)
  obtain ⟨n, hn⟩ : ∃ n, q.length = n := ⟨_, rfl⟩
  have HN := Lib.hid hn
  rw [hn] at h ⊢
  have HS := Lib.hid hs
  have HQZ := Lib.hid hq
  have H := Lib.hid h
  have HX := Lib.hid hx
  have hsz : ∀ (w : World) o, (w.alloc o).heap.size = w.heap.size + 1 := fun w o => by simp
  have A0 := Lib.hid (((Bx.new 26 #[.slice a0 n p0, .int .i64 be, .int .i64 dn, .int .i64 tr, .bool pa, .bool br] w).alloc (Obj.cells #[.bool x0, .int .i64 x1, .int .i64 x2, .int .i64 x3, .bool x4, .slice ax x5.length px] 35)).alloc (Obj.cells #[.slice none 0 0, .int .i64 0, .int .i64 0, .int .i64 0, .bool false, .bool false] 26))
  have B0 := (Bx.new 35 #[.bool x0, .int .i64 x1, .int .i64 x2, .int .i64 x3, .bool x4, .slice ax x5.length px] (w.alloc (Obj.cells #[.slice a0 n p0, .int .i64 be, .int .i64 dn, .int .i64 tr, .bool pa, .bool br] 26))).alloc (Obj.cells #[.slice none 0 0, .int .i64 0, .int .i64 0, .int .i64 0, .bool false, .bool false] 26)
  rw [hsz] at B0
  have D0 := Bx.new 26 #[.slice none 0 0, .int .i64 0, .int .i64 0, .int .i64 0, .bool false, .bool false] ((w.alloc (Obj.cells #[.slice a0 n p0, .int .i64 be, .int .i64 dn, .int .i64 tr, .bool pa, .bool br] 26)).alloc (Obj.cells #[.bool x0, .int .i64 x1, .int .i64 x2, .int .i64 x3, .bool x4, .slice ax x5.length px] 35))
  rw [hsz, hsz] at D0
  have R0 := Lib.hid B0
  have X0 := Lib.hid D0
  have HB0 := Lib.hid ((((Below.refl w.heap.size w).alloc (Nat.le_refl _) (Obj.cells #[.slice a0 n p0, .int .i64 be, .int .i64 dn, .int .i64 tr, .bool pa, .bool br] 26)).alloc (by simp) (Obj.cells #[.bool x0, .int .i64 x1, .int .i64 x2, .int .i64 x3, .bool x4, .slice ax x5.length px] 35)).alloc (by simp; omega) (Obj.cells #[.slice none 0 0, .int .i64 0, .int .i64 0, .int .i64 0, .bool false, .bool false] 26))
  obtain ⟨T, hT⟩ : ∃ T, rightM q be dn tr pa br = T := ⟨_, rfl⟩
  have HT := Lib.hid hT
  obtain ⟨U, hU⟩ : ∃ U, okQ (x0, x1, x2, x3, x4, x5) = U := ⟨_, rfl⟩
  have HU := Lib.hid hU
  obtain ⟨R, hR⟩ : ∃ R, postM q be dn tr pa br (x0, x1, x2, x3, x4, x5) = R := ⟨_, rfl⟩
  have HR := Lib.hid hR
  rw [hR]
  clear B0 D0 hsz h hx hn hs hq hT hU hR
  show Calls _ _ #[.agg #[.slice a0 n p0, .int .i64 be, .int .i64 dn, .int .i64 tr, .bool pa, .bool br], .agg #[.bool x0, .int .i64 x1, .int .i64 x2, .int .i64 x3, .bool x4, .slice ax x5.length px]] w _
  go_enter Try.func27, Try.ntmps27
  go_wp2_with fail
  generalize ((w.alloc _).alloc _).alloc _ = y0 at A0 R0 X0 HB0 ⊢
  refine (spec12Copy [.slice a0 n p0, .int .i64 be, .int .i64 dn, .int .i64 tr, .bool pa, .bool br] q be dn tr pa br HS.out _ (mstK.rd_later H.out HB0.out)).mono ?_
  rintro e y1 ⟨us, he, hc, hb⟩
  obtain ⟨a1, p1, rfl, _⟩ := mst_form (mstK.cap_rd hc)
  rw [HN.out] at he hc
  obtain rfl : e = .returned (.agg #[.slice a1 n p1, .int .i64 be, .int .i64 dn, .int .i64 tr, .bool pa, .bool br]) := he
  have ab := (Below.refl y1.heap.size y1).alloc (Nat.le_refl _) (Obj.cells #[.slice a1 n p1, .int .i64 be, .int .i64 dn, .int .i64 tr, .bool pa, .bool br] 26)
  have A1 := Lib.hid ((A0.out.later hb).later ab)
  have R1 := Lib.hid ((R0.out.later hb).later ab)
  have X1 := Lib.hid ((X0.out.later hb).later ab)
  have N1 := Lib.hid (Bx.new 26 #[.slice a1 n p1, .int .i64 be, .int .i64 dn, .int .i64 tr, .bool pa, .bool br] y1)
  have HB1 := Lib.hid ((HB0.out.trans (hb.mono HB0.out.size)).trans (ab.mono (Nat.le_trans HB0.out.size hb.size)))
  have C1 := Lib.hid (mstK.cap_later (mstK.cap_top hc) ab)
  have hlt : w.heap.size + 2 < y0.heap.size := X0.out.lt
  have hlt1 : y0.heap.size ≤ y1.heap.size := hb.size
  obtain ⟨g0, g1, g2, g3, g4, g5⟩ := Bx.cells6 (A0.out.later hb)
  obtain ⟨j0, j1, j2, j3, j4, j5⟩ := Bx.cells6 A1.out
  have W1 := Bx.new 26 #[.slice none 0 0, .int .i64 0, .int .i64 0, .int .i64 0, .bool false, .bool false] y1
  obtain ⟨w0', w1', w2', w3', w4', w5'⟩ := warm6 W1
  clear hc hb ab W1
  obtain ⟨b, hbb⟩ : ∃ b, y1.heap.size = b := ⟨_, rfl⟩
  go_wp2_with fail
  clear g0 g1 g2 g3 g4 g5 j0 j1 j2 j3 j4 j5 w0' w1' w2' w3' w4' w5'
  generalize y1.alloc (Obj.cells #[.slice a1 n p1, .int .i64 be, .int .i64 dn, .int .i64 tr, .bool pa, .bool br] 26) = y2 at A1 R1 X1 N1 HB1 C1 ⊢
  refine (right_is HT.out HS.out _ (mstK.rd_later H.out HB1.out)).mono ?_
  rintro e y3 ⟨rfl, hb⟩
  have A3 := Lib.hid (A1.out.later hb)
  have R3 := Lib.hid (R1.out.later hb)
  have N3 := Lib.hid (N1.out.later hb)
  have X3 := Lib.hid (X1.out.later hb)
  have HB3 := Lib.hid (HB1.out.trans (hb.mono HB1.out.size))
  have C3 := Lib.hid (mstK.cap_later C1.out hb)
  rw [hbb] at N3 C3 hlt1
  have hb3 : b < y3.heap.size := N3.out.lt
  have hne : ¬ w.heap.size + 2 = b := by omega
  clear hb hbb A0 A1 R0 R1 N1 X0 X1 HB0 HB1 C1
  have stay : ∀ (y4 : World), Below y3.heap.size y3 y4 → ∀ y5, Turn (fun i => i = w.heap.size + 2 ∨ i = b) y4 y5 → mstK.cap (fun i => w.heap.size ≤ i) [.slice a1 n p1, .int .i64 be, .int .i64 dn, .int .i64 tr, .bool pa, .bool br] (q, be, dn, tr, pa, br) y5 := fun y4 h4 y5 ht => by
    obtain ⟨c1, p1', F1, e1, h1, h2⟩ := cap_mst C3.out
    rw [HN.out] at e1 h1
    simp at e1
    obtain ⟨rfl, rfl⟩ := e1
    exact mst_cap (reqS.cap_turn (reqS.cap_later h1 h4) ht (fun i _ h3 h4 => by have := h2 i h3; omega)) (fun i hi => by have := h2 i hi; omega)
  have Stay := Lib.hid stay
  clear stay
  cases T with
  | false =>
    obtain rfl : R = ((q, be, dn, tr, pa, br), false) := by rw [← HR.out]; unfold postM; rw [HT.out]; simp
    obtain ⟨m0, m1, m2, m3, m4, m5⟩ := Bx.cells6 N3.out
    have Last := Lib.hid (Stay.out y3 (Below.refl _ _))
    obtain ⟨k0, k1, k2, k3, k4, k5⟩ := Bx.cells6 X3.out
    obtain ⟨z0, z1, z2, z3, z4, z5⟩ := warm6 X3.out
    obtain ⟨e0, e1, e2, e3, e4, e5⟩ := Bx.cells6 (show Bx 26 (w.heap.size + 2) #[.slice a1 n p1, .int .i64 be, .int .i64 dn, .int .i64 tr, .bool pa, .bool br] _ from (((((X3.out.set 0 (.slice a1 n p1)).set 1 (.int .i64 be)).set 2 (.int .i64 dn)).set 3 (.int .i64 tr)).set 4 (.bool pa)).set 5 (.bool br))
    go_wp2_with fail
    refine bodyPost_ret (v := .tuple #[.agg #[.slice a1 n p1, .int .i64 be, .int .i64 dn, .int .i64 tr, .bool pa, .bool br], .bool false]) (by simp [results, Try.results27, go_sem, e0, e1, e2, e3, e4, e5]) rfl ⟨_, rfl, Last.out _ ?_, ?_⟩
    · iterate 6 refine Turn.set (F := fun k => k = w.heap.size + 2 ∨ k = b) ?_ (.inl rfl) _
      exact Turn.refl _ _
    · iterate 6 refine Below.setCell ?_ (by first | omega | (dsimp only; omega)) _
      exact HB3.out
  | true =>
    obtain ⟨m0, m1, m2, m3, m4, m5⟩ := Bx.cells6 N3.out
    obtain ⟨q0, q1, q2, q3, q4, q5⟩ := Bx.cells6 R3.out
    go_wp2_with fail
    refine (reqOk_is HU.out HQZ.out _ (reqK.rd_later HX.out HB3.out)).mono ?_
    rintro e y4 ⟨rfl, hb⟩
    have A4 := Lib.hid (A3.out.later hb)
    have R4 := Lib.hid (R3.out.later hb)
    have N4 := Lib.hid (N3.out.later hb)
    have X4 := Lib.hid (X3.out.later hb)
    have HB4 := Lib.hid (HB3.out.trans (hb.mono HB3.out.size))
    have Last := Lib.hid (Stay.out y4 hb)
    have C4 := Lib.hid (mstK.cap_later C3.out hb)
    have hb4 : b < y4.heap.size := N4.out.lt
    clear hb m0 m1 m2 m3 m4 m5 q0 q1 q2 q3 q4 q5
    obtain ⟨m0, m1, m2, m3, m4, m5⟩ := Bx.cells6 N4.out
    cases U with
    | false =>
      obtain rfl : R = ((q, be, dn, tr, pa, br), false) := by rw [← HR.out]; unfold postM; rw [HU.out]; simp
      obtain ⟨k0, k1, k2, k3, k4, k5⟩ := Bx.cells6 X4.out
      obtain ⟨z0, z1, z2, z3, z4, z5⟩ := warm6 X4.out
      obtain ⟨e0, e1, e2, e3, e4, e5⟩ := Bx.cells6 (show Bx 26 (w.heap.size + 2) #[.slice a1 n p1, .int .i64 be, .int .i64 dn, .int .i64 tr, .bool pa, .bool br] _ from (((((X4.out.set 0 (.slice a1 n p1)).set 1 (.int .i64 be)).set 2 (.int .i64 dn)).set 3 (.int .i64 tr)).set 4 (.bool pa)).set 5 (.bool br))
      go_wp2_with fail
      refine bodyPost_ret (v := .tuple #[.agg #[.slice a1 n p1, .int .i64 be, .int .i64 dn, .int .i64 tr, .bool pa, .bool br], .bool false]) (by simp [results, Try.results27, go_sem, e0, e1, e2, e3, e4, e5]) rfl ⟨_, rfl, Last.out _ ?_, ?_⟩
      · iterate 6 refine Turn.set (F := fun k => k = w.heap.size + 2 ∨ k = b) ?_ (.inl rfl) _
        exact Turn.refl _ _
      · iterate 6 refine Below.setCell ?_ (by first | omega | (dsimp only; omega)) _
        exact HB4.out
    | true =>
      obtain ⟨l0, l1, l2, l3, l4, l5⟩ := Bx.cells6 A4.out
      by_cases hq4 : n = 4
      · subst hq4
        obtain rfl : R = ((q, be, dn, tr, pa, br), false) := by rw [← HR.out]; unfold postM; rw [HN.out]; simp
        obtain ⟨k0, k1, k2, k3, k4, k5⟩ := Bx.cells6 X4.out
        obtain ⟨z0, z1, z2, z3, z4, z5⟩ := warm6 X4.out
        obtain ⟨e0, e1, e2, e3, e4, e5⟩ := Bx.cells6 (show Bx 26 (w.heap.size + 2) #[.slice a1 4 p1, .int .i64 be, .int .i64 dn, .int .i64 tr, .bool pa, .bool br] _ from (((((X4.out.set 0 (.slice a1 4 p1)).set 1 (.int .i64 be)).set 2 (.int .i64 dn)).set 3 (.int .i64 tr)).set 4 (.bool pa)).set 5 (.bool br))
        go_wp2_with fail
        refine bodyPost_ret (v := .tuple #[.agg #[.slice a1 4 p1, .int .i64 be, .int .i64 dn, .int .i64 tr, .bool pa, .bool br], .bool false]) (by simp [results, Try.results27, go_sem, e0, e1, e2, e3, e4, e5]) rfl ⟨_, rfl, Last.out _ ?_, ?_⟩
        · iterate 6 refine Turn.set (F := fun k => k = w.heap.size + 2 ∨ k = b) ?_ (.inl rfl) _
          exact Turn.refl _ _
        · iterate 6 refine Below.setCell ?_ (by first | omega | (dsimp only; omega)) _
          exact HB4.out
      · obtain rfl : R = ((q ++ [(x0, x1, x2, x3, x4, x5)], be, dn, tr, pa, br), true) := by rw [← HR.out]; unfold postM; rw [HT.out, HU.out, if_pos ⟨rfl, rfl, by rw [HN.out]; exact hq4⟩]
        have hn4 : ((n : Int) == 4) = false := by rw [beq_eq_false_iff_ne]; omega
        obtain ⟨au, pu, F0, e1, cc, ss⟩ := cap_mst (mstK.cap_top C4.out)
        rw [HN.out] at e1 cc
        simp at e1
        obtain ⟨rfl, rfl⟩ := e1
        have S0 : Hid (∀ k, F0 k → k < y4.heap.size) := Lib.hid (fun k hk => (ss k hk).2)
        have SB : Hid (∀ k, F0 k → w.heap.size + 2 < k ∧ k < b) := Lib.hid (fun k hk => by have := (ss k hk).1; exact ⟨by omega, by omega⟩)
        have CC := Lib.hid cc
        have HL4 := Lib.hid (show q.length + 1 ≤ 4000000 by have := HQL.out; omega)
        have XB := Lib.hid N4.out
        have N6 := Lib.hid N4.out
        have X5 := Lib.hid X4.out
        have HB5 := Lib.hid HB4.out
        have RB := Lib.hid R4.out
        have HRQ := Lib.hid (reqK.rd_later HX.out HB4.out)
        have NX := Lib.hid (show ¬ F0 b from fun hf => by have := SB.out _ hf; omega)
        have NR := Lib.hid (show ¬ F0 (w.heap.size + 1) from fun hf => by have := SB.out _ hf; omega)
        have xc0 := m0
        obtain ⟨h0, h1, h2, h3, h4, h5⟩ := Bx.cells6 RB.out
        clear cc ss m1 m2 m3 m4 m5
        go_upto_region 4 with fail
        refine Inv.region_tailJ 7 5 (by decide) [24, 25, 26, 27, 28, 29, 30] (by kernel_rfl) (by kernel_rfl) (by kernel_rfl) (by kernel_rfl) (by kernel_rfl) (CJ F0 y4) (RP (b) n a1 p1 q x0 x1 x2 x3 x4 x5 ax px y4.heap.size (fun k => F0 k ∨ y4.heap.size ≤ k)) ?_ ((Below.refl _ _).drew) ?_ ?_
        · intro i v w' hi
          exact RP.none i v w' (none_at 7 (by kernel_rfl) i hi)
        · intro i o ho hi16 listed ac w' s hcl hln hl haft K hK
          have hT := hcl.turn
          match i, ho with
          | 0, ho =>
            simp only [List.getElem?_toArray, List.getElem?_cons_zero, Option.some.injEq] at ho
            subst ho
            have e6 : ac.tmps.getD 6 undef = .pointer (some ⟨b, 0, none⟩) := s.other 6 (fun jj _ e => Inv.none_at (t := 6) (by kernel_rfl) e)
            unfold Oper.wp
            go_simp
            exact hK _ _ (by rw [if_neg (by decide)]; exact hcl) (fun _ _ _ hj => hj) rfl
          | 1, ho =>
            simp only [List.getElem?_toArray, List.getElem?_cons_zero, List.getElem?_cons_succ, Option.some.injEq] at ho
            subst ho
            have e24 : ac.tmps.getD 24 undef = .pointer (some ⟨b, 0, none⟩) := s.val 0 (by decide) (haft ⟨0, .data⟩ (by simp) rfl)
            have c := (turnC hT (i := 0) XB.out.lt NX.out).trans xc0
            unfold Oper.wp
            go_simp
            exact hK _ _ (by rw [if_neg (by decide)]; exact hcl) (fun _ _ _ hj => hj) rfl
          | 2, ho =>
            simp only [List.getElem?_toArray, List.getElem?_cons_zero, List.getElem?_cons_succ, Option.some.injEq] at ho
            subst ho
            have e3 : ac.tmps.getD 3 undef = .pointer (some ⟨w.heap.size + 1, 0, none⟩) := s.other 3 (fun jj _ e => Inv.none_at (t := 3) (by kernel_rfl) e)
            have c0 := (turnC hT (i := 0) RB.out.lt NR.out).trans h0
            have c1 := (turnC hT (i := 1) RB.out.lt NR.out).trans h1
            have c2 := (turnC hT (i := 2) RB.out.lt NR.out).trans h2
            have c3 := (turnC hT (i := 3) RB.out.lt NR.out).trans h3
            have c4 := (turnC hT (i := 4) RB.out.lt NR.out).trans h4
            have c5 := (turnC hT (i := 5) RB.out.lt NR.out).trans h5
            unfold Oper.wp
            go_simp
            exact hK _ _ (by rw [if_neg (by decide)]; exact hcl) (fun _ _ _ hj => hj) rfl
          | 3, ho =>
            simp only [List.getElem?_toArray, List.getElem?_cons_zero, List.getElem?_cons_succ, Option.some.injEq] at ho
            subst ho
            have e26 : ac.tmps.getD 26 undef = .agg #[.bool x0, .int .i64 x1, .int .i64 x2, .int .i64 x3, .bool x4, .slice ax x5.length px] := s.val 2 (by decide) (haft ⟨2, .data⟩ (by simp) rfl)
            have hn4 := unlisted_up s (i := 3) (j := 4) rfl ⟨⟨3, .data⟩, by simp, rfl, rfl⟩ (unlisted hl)
            have hn5 := unlisted_up s (i := 4) (j := 5) rfl ⟨⟨4, .data⟩, by simp, rfl, rfl⟩ hn4
            have hbl : Below y4.heap.size y4 w' := by rw [hn5] at hcl; exact hcl
            unfold Oper.wp
            go_simp
            refine (spec5CopyX [.bool x0, .int .i64 x1, .int .i64 x2, .int .i64 x3, .bool x4, .slice ax x5.length px] x0 x1 x2 x3 x4 x5 HQZ.out _ (reqK.rd_later HRQ.out hbl)).mono ?_
            rintro e w7 ⟨us, he, hc, hb⟩
            obtain ⟨ay, py, rfl, _⟩ := rd_req (reqK.cap_rd hc)
            obtain rfl : e = .returned (.agg #[.bool x0, .int .i64 x1, .int .i64 x2, .int .i64 x3, .bool x4, .slice ay x5.length py]) := he
            exact hK _ _ (by rw [if_neg (by decide)]; exact hcl.later hb) (fun j u _ hj => RP.later hb j u hj) ⟨ay, py, rfl, reqK.cap_wide hc (fun k _ hk => Nat.le_trans hbl.size hk)⟩
          | 4, ho =>
            simp only [List.getElem?_toArray, List.getElem?_cons_zero, List.getElem?_cons_succ, Option.some.injEq] at ho
            subst ho
            obtain ⟨ay, py, e27, hc⟩ : RP (b) n a1 p1 q x0 x1 x2 x3 x4 x5 ax px y4.heap.size (fun k => F0 k ∨ y4.heap.size ≤ k) 3 (ac.tmps.getD 27 undef) w' := s.val 3 (by decide) (haft ⟨3, .data⟩ (by simp) rfl)
            rw [Array.getD_eq_getD_getElem?] at e27
            unfold Oper.wp
            go_simp
            exact hK _ _ (by rw [if_neg (by decide)]; exact hcl.later ((Below.refl _ _).alloc (Nat.le_refl _) _)) (fun j u _ hj => RP.later ((Below.refl _ _).alloc (Nat.le_refl _) _) j u hj) ⟨_, ay, py, rfl, hT.size, heap_alloc_new _ _, reqK.cap_alloc hc _⟩
          | 5, ho =>
            simp only [List.getElem?_toArray, List.getElem?_cons_zero, List.getElem?_cons_succ, Option.some.injEq] at ho
            subst ho
            have e25 : ac.tmps.getD 25 undef = .slice a1 n p1 := s.val 1 (by decide) (haft ⟨1, .data⟩ (by simp) rfl)
            obtain ⟨g9, ay, py, e28, hg9, hgc, hc9⟩ : RP (b) n a1 p1 q x0 x1 x2 x3 x4 x5 ax px y4.heap.size (fun k => F0 k ∨ y4.heap.size ≤ k) 4 (ac.tmps.getD 28 undef) w' := s.val 4 (by decide) (haft ⟨4, .data⟩ (by simp) rfl)
            have hn5 := unlisted hl
            have hbl : Below y4.heap.size y4 w' := by rw [hn5] at hcl; exact hcl
            refine appJ 24 35 Try.underlying24 elReq (.tmp 25) (.tmp 28) rfl F0 (fun k => y4.heap.size ≤ k) (.slice a1 n p1) q (x0, x1, x2, x3, x4, x5) #[.bool x0, .int .i64 x1, .int .i64 x2, .int .i64 x3, .bool x4, .slice ay x5.length py] g9 w' e25 e28 hgc (reqS.cap_later CC.out hbl) hc9 (fun k _ h1 h2 => by have := S0.out k h2; omega) (req_one x0 x1 x2 x3 x4 ay x5.length py) HL4.out (fun v7 w7 hcap7 ht7 => ?_)
            obtain ⟨a7, p7, ev7, _, _⟩ := row_form (reqS.cap_rd hcap7)
            rw [List.length_append, List.length_singleton, HN.out] at ev7
            have ev8 : v7 = .slice a7 (n + 1) p7 := by simpa using ev7
            refine hK _ _ ?_ (fun j u hj hjj => RP.step ht7 (fun k hk => S0.out k hk) j u hj hjj) ⟨a7, p7, ev8, reqS.cap_wide hcap7 (fun k _ hk => ?_)⟩
            · rw [if_pos rfl]
              exact (show Turn F0 y4 w7 from (Turn.later hbl).trans ht7)
            · rcases hk with hk | hk | hk
              · exact .inl hk
              · exact .inr hk
              · exact .inr (Nat.le_trans hbl.size hk)
          | 6, ho =>
            simp only [List.getElem?_toArray, List.getElem?_cons_zero, List.getElem?_cons_succ, Option.some.injEq] at ho
            subst ho
            have e6 : ac.tmps.getD 6 undef = .pointer (some ⟨b, 0, none⟩) := s.other 6 (fun jj _ e => Inv.none_at (t := 6) (by kernel_rfl) e)
            unfold Oper.wp
            go_simp
            exact hK _ _ (by rw [if_neg (by decide)]; exact hcl) (fun _ _ _ hj => hj) rfl
          | n + 7, ho => omega
        · intro f w6 o ho hC hv
          have hT : Turn F0 y4 w6 := hC.turn
          obtain ⟨a7, p7, e29, hcap7⟩ : RP (b) n a1 p1 q x0 x1 x2 x3 x4 x5 ax px y4.heap.size (fun k => F0 k ∨ y4.heap.size ≤ k) 5 (f 29) w6 := hv 5 (by decide)
          have e30 : f 30 = .pointer (some ⟨b, 0, none⟩) := hv 6 (by decide)
          simp only [Inv.setAll, List.setIfInBounds_toArray, List.set_cons_zero, List.set_cons_succ]
          rw [e29] at hcap7
          rw [e29, e30]
          simp only [List.getElem?_toArray, List.getElem?_cons_zero, List.getElem?_cons_succ, Option.some.injEq] at ho
          subst ho
          have X6 := bx_turn N6.out hT (fun hf => by have := S0.out _ hf; have := SB.out _ hf; omega)
          have XR := bx_turn X5.out hT (fun hf => by have := SB.out _ hf; omega)
          have xw := X6.warm 0
          obtain ⟨v0, v1, v2, v3, v4, v5⟩ := Bx.cells6 X6
          have hcapF : reqS.cap (fun k => w.heap.size ≤ k ∧ k ≠ w.heap.size + 2 ∧ k ≠ b) [.slice a7 (n + 1) p7] (q ++ [(x0, x1, x2, x3, x4, x5)]) w6 := reqS.cap_wide hcap7 (fun k _ hk => by
            rcases hk with hk | hk
            · have := SB.out k hk; have := S0.out k hk; exact ⟨by omega, by omega, by omega⟩
            · exact ⟨by omega, by omega, by omega⟩)
          have HC6 := Lib.hid hcapF
          have HB6 := Lib.hid (HB5.out.trans (hT.below HB5.out.size (fun k hk => by have := SB.out k hk; omega)))
          have NX := Lib.hid (X6.set 0 (.slice a7 (n + 1) p7))
          have XRX := Lib.hid (XR.far (p := ⟨b, 0, none⟩) hne (.slice a7 (n + 1) p7))
          have HB7 := Lib.hid (HB6.out.setCell (p := ⟨b, 0, none⟩) (by dsimp only; omega) (.slice a7 (n + 1) p7))
          have HC7 := Lib.hid (reqS.cap_set (p := ⟨b, 0, none⟩) HC6.out (fun hf => hf.2.2 rfl) (.slice a7 (n + 1) p7))
          clear hv hcap7 e29 e30 hC X6 XR hT hcapF
          unfold Oper.wp
          go_simp
          generalize w6.setCell ⟨b, 0, none⟩ (.slice a7 (n + 1) p7) = w8 at NX XRX HB7 HC7 ⊢
          clear xw v0 v1 v2 v3 v4 v5
          obtain ⟨m0, m1, m2, m3, m4, m5⟩ := Bx.cells6 NX.out
          obtain ⟨k0, k1, k2, k3, k4, k5⟩ := Bx.cells6 XRX.out
          obtain ⟨z0, z1, z2, z3, z4, z5⟩ := warm6 XRX.out
          obtain ⟨e0, e1, e2, e3, e4, e5⟩ := Bx.cells6 (show Bx 26 (w.heap.size + 2) #[.slice a7 (n + 1) p7, .int .i64 be, .int .i64 dn, .int .i64 tr, .bool pa, .bool br] _ from (((((XRX.out.set 0 (.slice a7 (n + 1) p7)).set 1 (.int .i64 be)).set 2 (.int .i64 dn)).set 3 (.int .i64 tr)).set 4 (.bool pa)).set 5 (.bool br))
          go_wp2_with fail
          refine bodyPost_ret (v := .tuple #[.agg #[.slice a7 (n + 1) p7, .int .i64 be, .int .i64 dn, .int .i64 tr, .bool pa, .bool br], .bool true]) (by simp [results, Try.results27, go_sem, e0, e1, e2, e3, e4, e5]) rfl ⟨_, rfl, mst_cap (reqS.cap_turn (G := fun k => k = w.heap.size + 2 ∨ k = b) HC7.out ?_ (fun k _ h3 h4 => by rcases h4 with h4 | h4; exact h3.2.1 h4; exact h3.2.2 h4)) (fun k hk => hk.1), ?_⟩
          · iterate 6 refine Turn.set (F := fun k => k = w.heap.size + 2 ∨ k = b) ?_ (.inl rfl) _
            exact Turn.refl _ _
          · iterate 6 refine Below.setCell ?_ (by first | omega | (dsimp only; omega)) _
            exact HB7.out

end Go.Proofs.Ytijilhaoknpeeaa.KD
