
/-
  The masters that are drawn: spec.l12Mst.
-/
import Derived.Test.YtijilhaoknpeeaaMst9
import Derived.Test.YtijilhaoknpeeaaMst10
import Derived.Test.YtijilhaoknpeeaaDrawQ
import Derived.Deep.RegionWith
namespace Go.Proofs.Ytijilhaoknpeeaa.Cur
open Go.RowKit Bytes Num Rows3 GR KD
set_option linter.unusedVariables false

theorem only_turnM {c : Nat} {w w' : World} (h : Only c w w') : Turn (fun k => k = c) w w' := ⟨h.os, h.tape, h.output, h.size, h.block⟩
theorem cap_onlyM {α : Type} (K : Kn α) {F : Foot} {cs : List Value} {x : α} {c : Nat} {w w' : World} (h : K.cap F cs x w) (hO : Only c w w') (hc : ¬ F c) : K.cap F cs x w' :=
  K.cap_turn h (only_turnM hO) (fun k _ h1 h2 => hc (h2 ▸ h1))
theorem bx_onlyM {T b c : Nat} {cs : Array Value} {w w' : World} (h : Bx T b cs w) (hO : Only c w w') (hc : b ≠ c) : Bx T b cs w' := (hO.block b h.lt hc).trans h
theorem only_undrewM {c : Nat} {w w' : World} (h : Only c w.drew w') : Only c w w' := ⟨h.os, h.tape, h.output, h.size, h.block⟩
/-- a master of at most n requests, each of at most 9 numbers. -/
def Sm (n : Nat) (x : MstX) : Prop := x.1.length ≤ n ∧ ∀ r ∈ x.1, r.2.2.2.2.2.length ≤ 9
theorem req_szM (r : ReqX) : reqK.sz r = r.2.2.2.2.2.length := by
  obtain ⟨x0, x1, x2, x3, x4, x5⟩ := r
  rw [req_sz]; exact sz_ints x5
theorem szL_small : ∀ (q : List ReqX) (m : Nat), (∀ r ∈ q, r.2.2.2.2.2.length ≤ m) → KD.szL reqK q ≤ q.length * (m + 1)
  | [], m, _ => by simp [KD.szL]
  | r :: q, m, h => by
    have h1 := szL_small q m (fun r hr => h r (List.mem_cons_of_mem _ hr))
    have h2 := h r (List.mem_cons_self ..)
    have h3 := req_szM r
    simp only [KD.szL, List.length_cons, Nat.add_mul]
    omega
theorem Sm.sz {n : Nat} {x : MstX} (h : Sm n x) (hn : n ≤ 1000) : mstK.sz x ≤ 2000000 := by
  obtain ⟨x0, x1, x2, x3, x4, x5⟩ := x
  rw [mst_sz]
  have h1 := szL_small x0 9 h.2
  have h2 : x0.length ≤ n := h.1
  show KD.szL reqK x0 ≤ _
  have h3 : x0.length * 10 ≤ 1000 * 10 := Nat.mul_le_mul (Nat.le_trans h2 hn) (Nat.le_refl _)
  omega
theorem Sm.mono {n m : Nat} {x : MstX} (h : Sm n x) (hn : n ≤ m) : Sm m x := ⟨Nat.le_trans h.1 hn, h.2⟩
theorem Sm.post {n : Nat} {q : List ReqX} {be dn tr : Int} {pa br : Bool} {r : ReqX} (h : Sm n (q, be, dn, tr, pa, br)) (hr : r.2.2.2.2.2.length ≤ 9) : Sm (n + 1) (postM q be dn tr pa br r).1 := by
  unfold postM
  split
  · refine ⟨?_, fun x hx => ?_⟩
    · show (q ++ [r]).length ≤ _
      have := h.1; simp at this ⊢; omega
    · rcases List.mem_append.1 hx with hx | hx
      · exact h.2 x hx
      · rw [List.mem_singleton.1 hx]; exact hr
  · exact h.mono (Nat.le_succ _)
theorem Sm.issue {n : Nat} {q : List ReqX} {be dn tr : Int} {pa br : Bool} (h : Sm n (q, be, dn, tr, pa, br)) : Sm n (issueM q be dn tr pa br).1 := by
  unfold issueM; split <;> exact h
theorem Sm.back {n : Nat} {q : List ReqX} {be dn tr : Int} {pa br : Bool} (h : Sm n (q, be, dn, tr, pa, br)) : Sm n (backM q be dn tr pa br).1 := by
  unfold backM; split <;> exact h
theorem Sm.ends {n : Nat} {q : List ReqX} {be dn tr : Int} {pa br : Bool} (h : Sm n (q, be, dn, tr, pa, br)) : Sm n (endM q be dn tr pa br).1 := by
  unfold endM
  split
  · split
    · refine ⟨?_, fun x hx => h.2 x (List.mem_of_mem_tail hx)⟩
      show q.tail.length ≤ n
      have := h.1; simp at this ⊢; omega
    · exact h
  · exact h
/-- the master stands in its block. -/
def StM (D c : Nat) (w : World) (n : Nat) (wr : World) : Prop :=
  ∃ a p q be dn tr pa br, Sm n (q, be, dn, tr, pa, br) ∧ Bx 26 (w.heap.size + 1) #[.slice a q.length p, .int .i64 be, .int .i64 dn, .int .i64 tr, .bool pa, .bool br] wr ∧ mstK.cap (fun k => w.heap.size + 2 ≤ k) [.slice a q.length p, .int .i64 be, .int .i64 dn, .int .i64 tr, .bool pa, .bool br] (q, be, dn, tr, pa, br) wr ∧ Bx 26 w.heap.size #[.slice none 0 0, .int .i64 0, .int .i64 0, .int .i64 0, .bool false, .bool false] wr ∧ CuD D c wr ∧ Only c w wr
theorem StM.mono {D c n m : Nat} {w wr : World} (h : StM D c w n wr) (hn : n ≤ m) : StM D c w m wr := by
  obtain ⟨a, p, q, be, dn, tr, pa, br, h1, h2⟩ := h
  exact ⟨a, p, q, be, dn, tr, pa, br, h1.mono hn, h2⟩
theorem StM.drawn {D c n : Nat} {w wr w' : World} (h : StM D c w n wr) (hC : CuD D c w') (hO : Only c wr w') (hcw : c < w.heap.size) : StM D c w n w' := by
  obtain ⟨a, p, q, be, dn, tr, pa, br, h1, h2, h3, h4, h5, h6⟩ := h
  exact ⟨a, p, q, be, dn, tr, pa, br, h1, bx_onlyM h2 hO (by omega), cap_onlyM mstK h3 hO (by omega), bx_onlyM h4 hO (by omega), hC, h6.trans hO⟩
abbrev set6 (b : Nat) (v : Value) (be dn tr : Int) (pa br : Bool) (y : World) : World :=
  (((((y.setCell ⟨b, 0, none⟩ v).setCell ⟨b, 1, none⟩ (.int .i64 be)).setCell ⟨b, 2, none⟩ (.int .i64 dn)).setCell ⟨b, 3, none⟩ (.int .i64 tr)).setCell ⟨b, 4, none⟩ (.bool pa)).setCell ⟨b, 5, none⟩ (.bool br)
theorem StM.put {D c n : Nat} {w y : World} {c0 c1 c2 c3 c4 c5 : Value} {a : Option Addr} {p : Nat} {q : List ReqX} {be dn tr : Int} {pa br : Bool} (hD : D ≤ w.heap.size) (hs : Sm n (q, be, dn, tr, pa, br)) (hX : Bx 26 (w.heap.size + 1) #[c0, c1, c2, c3, c4, c5] y)
    (hc : mstK.cap (fun k => w.heap.size + 2 ≤ k) [.slice a q.length p, .int .i64 be, .int .i64 dn, .int .i64 tr, .bool pa, .bool br] (q, be, dn, tr, pa, br) y) (hR : Bx 26 w.heap.size #[.slice none 0 0, .int .i64 0, .int .i64 0, .int .i64 0, .bool false, .bool false] y) (hC : CuD D c y) (hO : Only c w y) :
    StM D c w n (set6 (w.heap.size + 1) (.slice a q.length p) be dn tr pa br y) := by
  have hb : Below (w.heap.size + 1) y (set6 (w.heap.size + 1) (.slice a q.length p) be dn tr pa br y) := by
    iterate 6 refine Below.setCell ?_ (by dsimp only; omega) _
    exact Below.refl _ _
  have ht : Turn (fun k => k = w.heap.size + 1) y (set6 (w.heap.size + 1) (.slice a q.length p) be dn tr pa br y) := by
    iterate 6 refine Turn.set (F := fun k => k = w.heap.size + 1) ?_ rfl _
    exact Turn.refl _ _
  exact ⟨a, p, q, be, dn, tr, pa, br, hs, (((((hX.set 0 _).set 1 _).set 2 _).set 3 _).set 4 _).set 5 _, mstK.cap_turn hc ht (fun k _ h1 h2 => by omega), hR.below hb (Nat.lt_succ_self _), hC.belowB hb (by omega), hO.transB (hb.mono (Nat.le_succ _))⟩
/-- some master drawn, of at most n requests. -/
def DrewMs (n D c : Nat) (w : World) (e : Ending) (w' : World) : Prop :=
  ∃ us x, e = .returned (agg us) ∧ Sm n x ∧ mstK.cap (fun k => w.heap.size ≤ k) us x w' ∧ CuD D c w' ∧ Only c w w'
theorem StM.fin {D c n : Nat} {w y : World} {a : Option Addr} {p : Nat} {q : List ReqX} {be dn tr : Int} {pa br : Bool} (hD : D ≤ w.heap.size) (hs : Sm n (q, be, dn, tr, pa, br))
    (hc : mstK.cap (fun k => w.heap.size + 2 ≤ k) [.slice a q.length p, .int .i64 be, .int .i64 dn, .int .i64 tr, .bool pa, .bool br] (q, be, dn, tr, pa, br) y) (hC : CuD D c y) (hO : Only c w y) :
    DrewMs n D c w (.returned (.agg #[.slice a q.length p, .int .i64 be, .int .i64 dn, .int .i64 tr, .bool pa, .bool br])) (set6 w.heap.size (.slice a q.length p) be dn tr pa br y) := by
  have hb : Below w.heap.size y (set6 w.heap.size (.slice a q.length p) be dn tr pa br y) := by
    iterate 6 refine Below.setCell ?_ (by exact Nat.le_refl _) _
    exact Below.refl _ _
  have ht : Turn (fun k => k = w.heap.size) y (set6 w.heap.size (.slice a q.length p) be dn tr pa br y) := by
    iterate 6 refine Turn.set (F := fun k => k = w.heap.size) ?_ rfl _
    exact Turn.refl _ _
  exact ⟨_, _, rfl, hs, mstK.cap_wide (mstK.cap_turn hc ht (fun k _ h1 h2 => by omega)) (fun k _ hk => by omega), hC.belowB hb hD, hO.transB hb⟩
theorem req_own {B : Nat} {q lk : Bool} {x y z : Int} {v : Value} {l : List Int} {w : World} (h : OwnI B v l w) (hl : l.length ≤ 9) : reqK.cap (fun k => B ≤ k) [.bool q, .int .i64 x, .int .i64 y, .int .i64 z, .bool lk, v] (q, x, y, z, lk, l) w :=
  req_cap (cap_own h (by omega)) (fun _ hk => hk)
set_option maxHeartbeats 8000000 in
set_option maxRecDepth 100000 in
theorem mst_any (D c : Nat) (w : World) (h : CuD D c w) : Calls Try.prog 94 #[.pointer (some ⟨c, 0, none⟩)] w (DrewMs 3 D c w) := by
  have hD := h.le
  have hcD := h.lt
  have hcw : c < w.heap.size := by omega
  have hsz : ∀ (w : World) o, (w.alloc o).heap.size = w.heap.size + 1 := fun w o => by simp
  have B0 := (Bx.new 26 #[.slice none 0 0, .int .i64 0, .int .i64 0, .int .i64 0, .bool false, .bool false] w).alloc (.cells #[.slice none 0 0, .int .i64 0, .int .i64 0, .int .i64 0, .bool false, .bool false] 26)
  have M0 := Bx.new 26 #[.slice none 0 0, .int .i64 0, .int .i64 0, .int .i64 0, .bool false, .bool false] (w.alloc (.cells #[.slice none 0 0, .int .i64 0, .int .i64 0, .int .i64 0, .bool false, .bool false] 26))
  rw [hsz] at M0
  have L0 : Hid (StM D c w 0 ((w.alloc (.cells #[.slice none 0 0, .int .i64 0, .int .i64 0, .int .i64 0, .bool false, .bool false] 26)).alloc (.cells #[.slice none 0 0, .int .i64 0, .int .i64 0, .int .i64 0, .bool false, .bool false] 26))) :=
    Lib.hid ⟨none, 0, [], 0, 0, 0, false, false, ⟨Nat.le_refl _, fun _ hr => by cases hr⟩, M0, mst_cap (row_nil (fun _ => False) _) (fun _ hk => hk.elim), B0, (h.alloc _).alloc _, ((Only.refl c w).alloc _).alloc _⟩
  clear B0 M0 hsz
  go_enter Try.func94, Try.ntmps94
  go_wp2_with fail
  generalize (w.alloc _).alloc _ = y0 at L0 ⊢
  have HC0 := Lib.hid (show CuD D c y0 from by obtain ⟨a, p, q, be, dn, tr, pa, br, h1, h2, h3, h4, h5, h6⟩ := L0.out; exact h5)
  refine (belowC D c 4 (by omega) (by omega) _ HC0.out).mono ?_
  rintro e y1 ⟨k, ⟨hk0, hk1⟩, rfl, hC1, hO1⟩
  have L1 := Lib.hid (L0.out.drawn hC1 hO1 hcw)
  clear L0 hC1 hO1 HC0
  go_wp2_with fail
  go_loopw [4] (fun i wr => ∃ k : Int, i = .int .i64 k ∧ 0 ≤ k ∧ k ≤ 3 ∧ StM D c w (3 - k).toNat wr) (fun i _ => (intOf i).toNat)
  case atStart => exact ⟨k, rfl, hk0, by omega, L1.out.mono (Nat.zero_le _)⟩
  case round =>
    clear hk0 hk1 L1
    obtain ⟨k, rfl, hk0, hk3, hst⟩ := hrel
    have L2 := Lib.hid hst
    clear hst
    by_cases hk : 0 < k
    · obtain ⟨a, p, q, be, dn, tr, pa, br, hs, hx, hc, hr, hC, hO⟩ := L2.out
      have HS := Lib.hid hs
      have HX := Lib.hid hx
      have HCp := Lib.hid hc
      have HR := Lib.hid hr
      have HC := Lib.hid hC
      have HO := Lib.hid hO
      have hlt := hx.lt
      have hne : w.heap.size + 1 ≠ c := by omega
      have hne0 : w.heap.size ≠ c := by omega
      obtain ⟨m0, m1, m2, m3, m4, m5⟩ := Bx.cells6 hx
      clear hs hx hc hr hC hO L2
      go_upto_region 5 with fail
      generalize wr = y at HX HCp HR HC HO hlt m0 m1 m2 m3 m4 m5 ⊢
      have HCD := Lib.hid HC.out.drew
      go_region_with (first
        | (go_at_call 27; refine (specPost [.slice a q.length p, .int .i64 be, .int .i64 dn, .int .i64 tr, .bool pa, .bool br] [.bool rq, .int .i64 rx, .int .i64 ry, .int .i64 rz, .bool rl, .slice ad rd.length cp] q be dn tr pa br rq rx ry rz rl rd (HS.out.sz (by omega)) (by rw [req_szM]; have := rn; dsimp only; omega) _ (mstK.cap_rd (cap_onlyM mstK HCp.out hO2 (by omega))) (reqK.cap_rd (req_own ro (by omega)))).mono ?_; obtain ⟨E, hE⟩ : ∃ E, postM q be dn tr pa br (rq, rx, ry, rz, rl, rd) = E := ⟨_, rfl⟩; have hs3 := HS.out.post (r := (rq, rx, ry, rz, rl, rd)) (show rd.length ≤ 9 by omega); rw [hE] at hs3; rw [hE]; obtain ⟨⟨q3, be3, dn3, tr3, pa3, br3⟩, b3⟩ := E; rintro e y3 ⟨us, he, hc3, hb3⟩; obtain ⟨a3, p3, rfl, _⟩ := mst_form (mstK.cap_rd hc3); obtain rfl : e = .returned (.tuple #[.agg #[.slice a3 q3.length p3, .int .i64 be3, .int .i64 dn3, .int .i64 tr3, .bool pa3, .bool br3], .bool b3]) := he; have hk3' : ∀ i, y3.cell? ⟨w.heap.size + 1, i, none⟩ = y2.cell? ⟨w.heap.size + 1, i, none⟩ := fun i => hb3.cell (p := ⟨w.heap.size + 1, i, none⟩) (Nat.lt_of_lt_of_le hlt hO2.size); obtain ⟨f0, f1, f2, f3, f4, f5⟩ := warm6 ((bx_onlyM HX.out hO2 hne).later hb3))
        | (go_at_call 102; refine (req_any D c _ HCD.out).mono ?_; rintro e y2 ⟨rq, rx, ry, rz, rl, rv, rd, rfl, ro, rn, hC2, hO2'⟩; have hO2 := only_undrewM hO2'; clear hO2'; obtain ⟨ad, cp, rfl⟩ := ro.slice; have hk2 : ∀ i, y2.cell? ⟨w.heap.size + 1, i, none⟩ = y.cell? ⟨w.heap.size + 1, i, none⟩ := fun i => hO2.cell hlt hne))
      all_goals
        have HP := Lib.hid (StM.put hD hs3 ((bx_onlyM HX.out hO2 hne).later hb3) (mstK.cap_wide hc3 (fun k _ hk => Nat.le_trans (Nat.le_trans (show w.heap.size + 2 ≤ y.heap.size from hlt) hO2.size) hk)) ((bx_onlyM HR.out hO2 hne0).later hb3) (hC2.below hb3) ((HO.out.trans hO2).trans (Only.of_below hb3)))
        clear hs3 hc3 hb3 hk3' f0 f1 f2 f3 f4 f5 hk2 ro rn hC2 hO2 m0 m1 m2 m3 m4 m5 HX HCp HR HC HO HCD HS
        dsimp only [set6] at HP
        generalize World.setCell _ _ _ = y5 at HP ⊢
        go_wp2_with fail
        go_roundw
        case rel => exact ⟨k - 1, by go_num, by omega, by omega, HP.out.mono (by omega)⟩
        case measure => simp [intOf]; omega
    · have L3 := Lib.hid (L2.out.mono (m := 3) (by omega))
      clear L2
      have HC3 := Lib.hid (show CuD D c wr from by obtain ⟨a, p, q, be, dn, tr, pa, br, h1, h2, h3, h4, h5, h6⟩ := L3.out; exact h5)
      go_wp2_with fail
      refine (belowC D c 7 (by omega) (by omega) _ HC3.out).mono ?_
      rintro e y1 ⟨k', ⟨hk0', hk1'⟩, rfl, hC1, hO1⟩
      have L4 := Lib.hid (L3.out.drawn hC1 hO1 hcw)
      clear L3 hC1 hO1 HC3
      go_wp2_with fail
      go_loopw [5] (fun i wr => ∃ k : Int, i = .int .i64 k ∧ 0 ≤ k ∧ k ≤ 7 ∧ StM D c w 3 wr) (fun i _ => (intOf i).toNat)
      case atStart => exact ⟨k', rfl, hk0', by omega, L4.out⟩
      case round =>
        clear hk0' hk1' hk hk0 hk3 L4
        obtain ⟨k, rfl, hk0, hk3, hst⟩ := hrel
        have L4 := Lib.hid hst
        clear hst
        by_cases hk : 0 < k
        · have HC3 := Lib.hid (show CuD D c wr from by obtain ⟨a, p, q, be, dn, tr, pa, br, h1, h2, h3, h4, h5, h6⟩ := L4.out; exact h5)
          go_wp2_with fail
          refine (belowC D c 4 (by omega) (by omega) _ HC3.out).mono ?_
          rintro e y2 ⟨x, ⟨hx0, hx1⟩, rfl, hC2, hO2⟩
          have L5 := Lib.hid (L4.out.drawn hC2 hO2 hcw)
          clear L4 HC3 hC2 hO2
          have hx : x = 0 ∨ x = 1 ∨ x = 2 ∨ x = 3 := by omega
          clear hx0 hx1
          rcases hx with rfl | rfl | rfl | rfl
          · obtain ⟨a, p, q, be, dn, tr, pa, br, hs, hx, hc, hr, hC, hO⟩ := L5.out
            have hlt := hx.lt
            obtain ⟨m0, m1, m2, m3, m4, m5⟩ := Bx.cells6 hx
            go_wp2_with fail
            refine (specIssue [.slice a q.length p, .int .i64 be, .int .i64 dn, .int .i64 tr, .bool pa, .bool br] q be dn tr pa br (hs.sz (by omega)) _ (mstK.cap_rd hc)).mono ?_
            obtain ⟨E, hE⟩ : ∃ E, issueM q be dn tr pa br = E := ⟨_, rfl⟩
            have hs3 := hs.issue
            rw [hE] at hs3
            rw [hE]
            obtain ⟨⟨q3, be3, dn3, tr3, pa3, br3⟩, b3⟩ := E
            rintro e y3 ⟨us, he, hc3, hb3⟩
            obtain ⟨a3, p3, rfl, _⟩ := mst_form (mstK.cap_rd hc3)
            obtain rfl : e = .returned (.tuple #[.agg #[.slice a3 q3.length p3, .int .i64 be3, .int .i64 dn3, .int .i64 tr3, .bool pa3, .bool br3], .bool b3]) := he
            obtain ⟨f0, f1, f2, f3, f4, f5⟩ := warm6 (hx.later hb3)
            obtain ⟨n0, n1, n2, n3, n4, n5⟩ := Bx.cells6 (hx.later hb3)
            have HP := Lib.hid (StM.put hD hs3 (hx.later hb3) (mstK.cap_wide hc3 (fun k _ hk => Nat.le_trans (show w.heap.size + 2 ≤ y2.heap.size from hlt) hk)) (hr.later hb3) (hC.below hb3) (hO.trans (Only.of_below hb3)))
            clear hs hx hc hr hC hO m0 m1 m2 m3 m4 m5 hs3 hc3 hb3 L5
            dsimp only [set6] at HP
            go_wp2_with fail
            generalize World.setCell _ _ _ = y5 at HP ⊢
            go_roundw
            case rel => exact ⟨k - 1, by go_num, by omega, by omega, HP.out⟩
            case measure => simp [intOf]; omega
          · obtain ⟨a, p, q, be, dn, tr, pa, br, hs, hx, hc, hr, hC, hO⟩ := L5.out
            have hlt := hx.lt
            obtain ⟨m0, m1, m2, m3, m4, m5⟩ := Bx.cells6 hx
            go_wp2_with fail
            refine (specIssue [.slice a q.length p, .int .i64 be, .int .i64 dn, .int .i64 tr, .bool pa, .bool br] q be dn tr pa br (hs.sz (by omega)) _ (mstK.cap_rd hc)).mono ?_
            obtain ⟨E, hE⟩ : ∃ E, issueM q be dn tr pa br = E := ⟨_, rfl⟩
            have hs3 := hs.issue
            rw [hE] at hs3
            rw [hE]
            obtain ⟨⟨q3, be3, dn3, tr3, pa3, br3⟩, b3⟩ := E
            rintro e y3 ⟨us, he, hc3, hb3⟩
            obtain ⟨a3, p3, rfl, _⟩ := mst_form (mstK.cap_rd hc3)
            obtain rfl : e = .returned (.tuple #[.agg #[.slice a3 q3.length p3, .int .i64 be3, .int .i64 dn3, .int .i64 tr3, .bool pa3, .bool br3], .bool b3]) := he
            obtain ⟨f0, f1, f2, f3, f4, f5⟩ := warm6 (hx.later hb3)
            obtain ⟨n0, n1, n2, n3, n4, n5⟩ := Bx.cells6 (hx.later hb3)
            have HP := Lib.hid (StM.put hD hs3 (hx.later hb3) (mstK.cap_wide hc3 (fun k _ hk => Nat.le_trans (show w.heap.size + 2 ≤ y2.heap.size from hlt) hk)) (hr.later hb3) (hC.below hb3) (hO.trans (Only.of_below hb3)))
            clear hs hx hc hr hC hO m0 m1 m2 m3 m4 m5 hs3 hc3 hb3 L5
            dsimp only [set6] at HP
            go_wp2_with fail
            generalize World.setCell _ _ _ = y5 at HP ⊢
            go_roundw
            case rel => exact ⟨k - 1, by go_num, by omega, by omega, HP.out⟩
            case measure => simp [intOf]; omega
          · obtain ⟨a, p, q, be, dn, tr, pa, br, hs, hx, hc, hr, hC, hO⟩ := L5.out
            have hlt := hx.lt
            obtain ⟨m0, m1, m2, m3, m4, m5⟩ := Bx.cells6 hx
            go_wp2_with fail
            refine (specEnd [.slice a q.length p, .int .i64 be, .int .i64 dn, .int .i64 tr, .bool pa, .bool br] q be dn tr pa br (hs.sz (by omega)) _ (mstK.cap_rd hc)).mono ?_
            obtain ⟨E, hE⟩ : ∃ E, endM q be dn tr pa br = E := ⟨_, rfl⟩
            have hs3 := hs.ends
            rw [hE] at hs3
            rw [hE]
            obtain ⟨⟨q3, be3, dn3, tr3, pa3, br3⟩, b3⟩ := E
            rintro e y3 ⟨us, he, hc3, hb3⟩
            obtain ⟨a3, p3, rfl, _⟩ := mst_form (mstK.cap_rd hc3)
            obtain rfl : e = .returned (.tuple #[.agg #[.slice a3 q3.length p3, .int .i64 be3, .int .i64 dn3, .int .i64 tr3, .bool pa3, .bool br3], .bool b3]) := he
            obtain ⟨f0, f1, f2, f3, f4, f5⟩ := warm6 (hx.later hb3)
            obtain ⟨n0, n1, n2, n3, n4, n5⟩ := Bx.cells6 (hx.later hb3)
            have HP := Lib.hid (StM.put hD hs3 (hx.later hb3) (mstK.cap_wide hc3 (fun k _ hk => Nat.le_trans (show w.heap.size + 2 ≤ y2.heap.size from hlt) hk)) (hr.later hb3) (hC.below hb3) (hO.trans (Only.of_below hb3)))
            clear hs hx hc hr hC hO m0 m1 m2 m3 m4 m5 hs3 hc3 hb3 L5
            dsimp only [set6] at HP
            go_wp2_with fail
            generalize World.setCell _ _ _ = y5 at HP ⊢
            go_roundw
            case rel => exact ⟨k - 1, by go_num, by omega, by omega, HP.out⟩
            case measure => simp [intOf]; omega
          · obtain ⟨a, p, q, be, dn, tr, pa, br, hs, hx, hc, hr, hC, hO⟩ := L5.out
            have hlt := hx.lt
            obtain ⟨m0, m1, m2, m3, m4, m5⟩ := Bx.cells6 hx
            go_wp2_with fail
            refine (specBack [.slice a q.length p, .int .i64 be, .int .i64 dn, .int .i64 tr, .bool pa, .bool br] q be dn tr pa br (hs.sz (by omega)) _ (mstK.cap_rd hc)).mono ?_
            obtain ⟨E, hE⟩ : ∃ E, backM q be dn tr pa br = E := ⟨_, rfl⟩
            have hs3 := hs.back
            rw [hE] at hs3
            rw [hE]
            obtain ⟨⟨q3, be3, dn3, tr3, pa3, br3⟩, b3⟩ := E
            rintro e y3 ⟨us, he, hc3, hb3⟩
            obtain ⟨a3, p3, rfl, _⟩ := mst_form (mstK.cap_rd hc3)
            obtain rfl : e = .returned (.tuple #[.agg #[.slice a3 q3.length p3, .int .i64 be3, .int .i64 dn3, .int .i64 tr3, .bool pa3, .bool br3], .bool b3]) := he
            obtain ⟨f0, f1, f2, f3, f4, f5⟩ := warm6 (hx.later hb3)
            obtain ⟨n0, n1, n2, n3, n4, n5⟩ := Bx.cells6 (hx.later hb3)
            have HP := Lib.hid (StM.put hD hs3 (hx.later hb3) (mstK.cap_wide hc3 (fun k _ hk => Nat.le_trans (show w.heap.size + 2 ≤ y2.heap.size from hlt) hk)) (hr.later hb3) (hC.below hb3) (hO.trans (Only.of_below hb3)))
            clear hs hx hc hr hC hO m0 m1 m2 m3 m4 m5 hs3 hc3 hb3 L5
            dsimp only [set6] at HP
            go_wp2_with fail
            generalize World.setCell _ _ _ = y5 at HP ⊢
            go_roundw
            case rel => exact ⟨k - 1, by go_num, by omega, by omega, HP.out⟩
            case measure => simp [intOf]; omega
        · obtain ⟨a, p, q, be, dn, tr, pa, br, hs, hx, hc, hr, hC, hO⟩ := L4.out
          have hlt := hx.lt
          obtain ⟨m0, m1, m2, m3, m4, m5⟩ := Bx.cells6 hx
          obtain ⟨z0, z1, z2, z3, z4, z5⟩ := warm6 hr
          have Fin := Lib.hid (StM.fin hD hs hc hC hO)
          have RR := Lib.hid (Bx.cells6 (show Bx 26 w.heap.size #[.slice a q.length p, .int .i64 be, .int .i64 dn, .int .i64 tr, .bool pa, .bool br] _ from (((((hr.set 0 (.slice a q.length p)).set 1 (.int .i64 be)).set 2 (.int .i64 dn)).set 3 (.int .i64 tr)).set 4 (.bool pa)).set 5 (.bool br)))
          obtain ⟨q0, q1, q2, q3, q4, q5⟩ := Bx.cells6 hr
          clear hs hx hc hr hC hO L4
          go_wp2_with fail
          obtain ⟨r0, r1, r2, r3, r4, r5⟩ := RR.out
          refine bodyPost_ret (v := .agg #[.slice a q.length p, .int .i64 be, .int .i64 dn, .int .i64 tr, .bool pa, .bool br]) (by simp [results, Try.results94, go_sem, r0, r1, r2, r3, r4, r5]) rfl ?_
          exact Fin.out
end Go.Proofs.Ytijilhaoknpeeaa.Cur
