
/-
  A copy of a master: the model's l12Copy.
-/
import Derived.Test.YtijilhaoknpeeaaMst4
namespace Go.Proofs.Ytijilhaoknpeeaa.KD
open Go.RowKit Rows3 GR Num
set_option linter.unusedVariables false

theorem info_iReqT : (Try.prog.info? 35).map (fun i => (i.zero, i.size, decide (i.bytes ≤ 1000))) = some (some (.agg #[.bool false, .int .i64 0, .int .i64 0, .int .i64 0, .bool false, .slice none 0 0]), 6, true) := by kernel_rfl
theorem elReq : ElT reqK 35 := by
  obtain ⟨j, h1, h2, h3, h4⟩ := info_parts' info_iReqT
  exact ⟨j, _, h1, h2, h3, rfl, h4⟩
theorem row_empty {α : Type} {K : Kn α} {hn : K.n ≤ 64} {F : Foot} {g : Nat} {T : TypeId} {w : World} (hF : F g) (hg : w.heap[g]? = some (.cells #[] T)) : (row K hn).cap F [.slice (some ⟨g, 0, none⟩) 0 0] [] w :=
  ⟨_, _, rfl, ⟨Nat.le_refl _, Nat.zero_le _⟩, .inr ⟨g, 0, #[], T, rfl, hF, hg, by simp, fun _ _ => False, fun _ _ h => h.elim, fun _ _ _ _ h => h.elim, fun i x hi => by simp at hi⟩⟩
theorem bx_turn {T b : Nat} {cs : Array Value} {w w' : World} {G : Foot} (h : Bx T b cs w) (ht : Turn G w w') (hG : ¬ G b) : Bx T b cs w' := (ht.block b h.lt hG).trans h
theorem req_one (q : Bool) (x y z : Int) (k : Bool) (ad : Option Addr) (n p : Nat) : ∀ u ∈ [Value.bool q, .int .i64 x, .int .i64 y, .int .i64 z, .bool k, .slice ad n p], u.oneCell' = true := by
  intro u hu
  simp at hu
  rcases hu with rfl | rfl | rfl | rfl | rfl | rfl <;> rfl
/-- a master of the call's own. -/
def NewMst (x : MstX) (w : World) (e : Ending) (w' : World) : Prop := ∃ us, e = .returned (agg us) ∧ mstK.cap (fun k => w.heap.size ≤ k) us x w' ∧ Below w.heap.size w w'
set_option maxHeartbeats 8000000 in
set_option maxRecDepth 100000 in
theorem spec12Copy (cs : List Value) (q : List ReqX) (be dn tr : Int) (pa br : Bool) (hs : mstK.sz (q, be, dn, tr, pa, br) ≤ 2000000) (w : World) (h : mstK.rd cs (q, be, dn, tr, pa, br) w) :
    Calls Try.prog 58 #[agg cs] w (NewMst (q, be, dn, tr, pa, br) w) := by
  obtain ⟨a0, p0, rfl, h0⟩ := mst_form h
  have hl := mst_len hs
  have HSZ := Lib.hid (mst_rows hs)
  obtain ⟨n, hn⟩ : ∃ n, q.length = n := ⟨_, rfl⟩
  have HN := Lib.hid hn
  rw [hn] at hl h0 ⊢
  have hsz : ∀ (w : World) o, (w.alloc o).heap.size = w.heap.size + 1 := fun w o => by simp
  have A0 := Lib.hid ((Bx.new 26 #[.slice a0 n p0, .int .i64 be, .int .i64 dn, .int .i64 tr, .bool pa, .bool br] w).alloc (Obj.cells #[.slice none 0 0, .int .i64 0, .int .i64 0, .int .i64 0, .bool false, .bool false] 26))
  have B0 := Bx.new 26 #[.slice none 0 0, .int .i64 0, .int .i64 0, .int .i64 0, .bool false, .bool false] (w.alloc (Obj.cells #[.slice a0 n p0, .int .i64 be, .int .i64 dn, .int .i64 tr, .bool pa, .bool br] 26))
  rw [hsz] at B0
  have X0 := Lib.hid B0
  have hb0 := ((Below.refl w.heap.size w).alloc (Nat.le_refl _) (Obj.cells #[.slice a0 n p0, .int .i64 be, .int .i64 dn, .int .i64 tr, .bool pa, .bool br] 26)).alloc (by simp) (Obj.cells #[.slice none 0 0, .int .i64 0, .int .i64 0, .int .i64 0, .bool false, .bool false] 26)
  have HB0 := Lib.hid hb0
  have hy : ((w.alloc (Obj.cells #[.slice a0 n p0, .int .i64 be, .int .i64 dn, .int .i64 tr, .bool pa, .bool br] 26)).alloc (Obj.cells #[.slice none 0 0, .int .i64 0, .int .i64 0, .int .i64 0, .bool false, .bool false] 26)).heap.size = w.heap.size + 2 := by simp
  have HY := Lib.hid hy
  have H0 := Lib.hid h0
  clear h h0 hn hs B0 hsz hb0 hy
  show Calls _ _ #[.agg #[.slice a0 n p0, .int .i64 be, .int .i64 dn, .int .i64 tr, .bool pa, .bool br]] w _
  go_enter Try.func58, Try.ntmps58
  go_wp2_with fail
  have be0 := Lib.hid ((Below.refl ((w.alloc (Obj.cells #[.slice a0 n p0, .int .i64 be, .int .i64 dn, .int .i64 tr, .bool pa, .bool br] 26)).alloc (Obj.cells #[.slice none 0 0, .int .i64 0, .int .i64 0, .int .i64 0, .bool false, .bool false] 26)).heap.size ((w.alloc (Obj.cells #[.slice a0 n p0, .int .i64 be, .int .i64 dn, .int .i64 tr, .bool pa, .bool br] 26)).alloc (Obj.cells #[.slice none 0 0, .int .i64 0, .int .i64 0, .int .i64 0, .bool false, .bool false] 26))).alloc (Nat.le_refl _) (Obj.cells #[] 35))
  have hg0 : (((w.alloc (Obj.cells #[.slice a0 n p0, .int .i64 be, .int .i64 dn, .int .i64 tr, .bool pa, .bool br] 26)).alloc (Obj.cells #[.slice none 0 0, .int .i64 0, .int .i64 0, .int .i64 0, .bool false, .bool false] 26)).alloc (Obj.cells #[] 35)).heap[w.heap.size + 1 + 1]? = some (Obj.cells #[] 35) := by
    have h1 := heap_alloc_new ((w.alloc (Obj.cells #[.slice a0 n p0, .int .i64 be, .int .i64 dn, .int .i64 tr, .bool pa, .bool br] 26)).alloc (Obj.cells #[.slice none 0 0, .int .i64 0, .int .i64 0, .int .i64 0, .bool false, .bool false] 26)) (Obj.cells #[] 35)
    rwa [HY.out] at h1
  have HG0 := Lib.hid hg0
  clear hg0
  go_loopw [3, 4] (fun s i wr => ∃ (j : Nat) (u : Value), j ≤ n ∧ i = .int .i64 j ∧ s = u ∧ Hid (reqS.cap (fun k => w.heap.size + 2 ≤ k) [u] (q.take j) wr) ∧ Hid (Bx 26 w.heap.size #[.slice a0 n p0, .int .i64 be, .int .i64 dn, .int .i64 tr, .bool pa, .bool br] wr) ∧ Hid (Bx 26 (w.heap.size + 1) #[.slice none 0 0, .int .i64 0, .int .i64 0, .int .i64 0, .bool false, .bool false] wr) ∧ Hid (Below w.heap.size w wr)) (fun _ i _ => n - (intOf i).toNat)
  case atStart => exact ⟨0, _, by omega, rfl, rfl, Lib.hid (row_empty (by omega) HG0.out), Lib.hid (A0.out.later be0.out), Lib.hid (X0.out.later be0.out), Lib.hid (HB0.out.trans (be0.out.mono HB0.out.size))⟩
  case round =>
    obtain ⟨j, u, hj, rfl, hsu, HU, A, X, HB⟩ := hrel
    have b0 := A.out.cell 0 _ rfl
    obtain ⟨au, pu, eu, _, _⟩ := row_form (reqS.cap_rd HU.out)
    have htl : (q.take j).length = j := by rw [List.length_take, HN.out]; omega
    rw [htl] at eu
    obtain rfl : u = .slice au j pu := by simpa using eu
    subst hsu
    clear eu htl
    have hs2 : w.heap.size + 2 ≤ wr.heap.size := by have := X.out.lt; omega
    by_cases hlt : j < n
    · obtain ⟨x, hx⟩ := get_of (l := q) (i := j) (by rw [HN.out]; exact hlt)
      have hsx : reqK.sz x ≤ 2000000 := Nat.le_trans (szL_mem reqK (List.mem_of_getElem? hx)) HSZ.out
      have Htk := Lib.hid (take_snoc' hx)
      obtain ⟨x0, x1, x2, x3, x4, x5⟩ := x
      obtain ⟨b, o, _, es, e, _, _, lt, c, rx⟩ := row_rd H0.out hx
      simp at e
      obtain ⟨rfl, -, rfl⟩ := e
      have hrx := rx
      obtain ⟨ax, px, rfl, _⟩ := rd_req rx
      have g0 : w.cell? ⟨b, o + j * 6, none⟩ = some (.bool x0) := c 0 _ rfl
      have g1 : w.cell? ⟨b, o + j * 6 + 1, none⟩ = some (.int .i64 x1) := c 1 _ rfl
      have g2 : w.cell? ⟨b, o + j * 6 + 2, none⟩ = some (.int .i64 x2) := c 2 _ rfl
      have g3 : w.cell? ⟨b, o + j * 6 + 3, none⟩ = some (.int .i64 x3) := c 3 _ rfl
      have g4 : w.cell? ⟨b, o + j * 6 + 4, none⟩ = some (.bool x4) := c 4 _ rfl
      have g5 : w.cell? ⟨b, o + j * 6 + 5, none⟩ = some (.slice ax x5.length px) := c 5 _ rfl
      rw [← bel_cells HB.out lt] at g0 g1 g2 g3 g4 g5
      have Hx := Lib.hid (reqK.rd_later hrx HB.out)
      clear hx c rx hrx
      go_wp2_with fail
      refine (spec5CopyX [.bool x0, .int .i64 x1, .int .i64 x2, .int .i64 x3, .bool x4, .slice ax x5.length px] x0 x1 x2 x3 x4 x5 hsx _ Hx.out).mono ?_
      rintro e w2 ⟨us, he, hc, hb⟩
      obtain ⟨ay, py, rfl, _⟩ := rd_req (reqK.cap_rd hc)
      obtain rfl : e = .returned (.agg #[.bool x0, .int .i64 x1, .int .i64 x2, .int .i64 x3, .bool x4, .slice ay x5.length py]) := he
      have HU2 := Lib.hid (reqS.cap_later (reqS.cap_top HU.out) hb)
      have HC2 := Lib.hid hc
      have A2 := Lib.hid (A.out.later hb)
      have X2 := Lib.hid (X.out.later hb)
      have HB2 := Lib.hid (HB.out.trans (hb.mono HB.out.size))
      have hs3 : w.heap.size + 2 ≤ w2.heap.size := Nat.le_trans hs2 hb.size
      have hl4 : (q.take j).length + 1 ≤ 4000000 := by rw [List.length_take]; omega
      have HL4 := Lib.hid hl4
      have H1c := Lib.hid (req_one x0 x1 x2 x3 x4 ay x5.length py)
      clear hb hc g0 g1 g2 g3 g4 g5 b0 hl4
      go_wp2_with (at_builtin; refine appRow 24 35 Try.underlying24 elReq rfl _ _ rfl (fun k => w.heap.size + 2 ≤ k ∧ k < wr.heap.size) (fun k => wr.heap.size ≤ k) (.slice au j pu) (q.take j) (x0, x1, x2, x3, x4, x5) #[.bool x0, .int .i64 x1, .int .i64 x2, .int .i64 x3, .bool x4, .slice ay x5.length py] w2 rfl rfl HU2.out HC2.out (fun k _ h1 h2 => by omega) H1c.out HL4.out ?_; intro u' w3 hcap ht; have HU3 := Lib.hid hcap; have HT3 := Lib.hid ht; clear hcap ht)
      go_roundw
      case rel =>
        refine ⟨j + 1, u', by omega, by go_num, rfl, Lib.hid ?_, Lib.hid (bx_turn A2.out HT3.out (by omega)), Lib.hid (bx_turn X2.out HT3.out (by omega)), Lib.hid (HB2.out.trans (HT3.out.below HB2.out.size (fun k hk => by omega)))⟩
        rw [Htk.out]
        exact reqS.cap_wide HU3.out (fun k _ hk => by rcases hk with ⟨h1, _⟩ | h1 | h1 <;> omega)
      case measure => simp [intOf]; omega
    · obtain rfl : j = n := by omega
      have HU3 : Hid (reqS.cap (fun k => w.heap.size + 2 ≤ k) [.slice au j pu] q wr) := Lib.hid (by
        have h1 := HU.out
        rwa [List.take_of_length_le (by rw [HN.out]; omega)] at h1)
      obtain ⟨y0, y1, y2, y3, y4, y5⟩ := (show _ ∧ _ ∧ _ ∧ _ ∧ _ ∧ _ from ⟨A.out.warm 0, A.out.warm 1, A.out.warm 2, A.out.warm 3, A.out.warm 4, A.out.warm 5⟩)
      obtain ⟨j0, j1, j2, j3, j4, j5⟩ := Bx.cells6 (show Bx 26 w.heap.size #[.slice au j pu, .int .i64 be, .int .i64 dn, .int .i64 tr, .bool pa, .bool br] _ from A.out.set 0 (.slice au j pu))
      have XX := X.out.far (p := ⟨w.heap.size, 0, none⟩) (by dsimp only; omega) (.slice au j pu)
      obtain ⟨k0, k1, k2, k3, k4, k5⟩ := Bx.cells6 XX
      have z0 := XX.warm 0
      have z1 := XX.warm 1
      have z2 := XX.warm 2
      have z3 := XX.warm 3
      have z4 := XX.warm 4
      have z5 := XX.warm 5
      obtain ⟨e0, e1, e2, e3, e4, e5⟩ := Bx.cells6 (show Bx 26 (w.heap.size + 1) #[.slice au j pu, .int .i64 be, .int .i64 dn, .int .i64 tr, .bool pa, .bool br] _ from (((((XX.set 0 (.slice au j pu)).set 1 (.int .i64 be)).set 2 (.int .i64 dn)).set 3 (.int .i64 tr)).set 4 (.bool pa)).set 5 (.bool br))
      clear XX
      go_wp2_with fail
      refine bodyPost_ret (v := .agg #[.slice au j pu, .int .i64 be, .int .i64 dn, .int .i64 tr, .bool pa, .bool br]) (by simp [results, Try.results58, go_sem, e0, e1, e2, e3, e4, e5]) rfl ⟨_, rfl, ?_, ?_⟩
      · have ht : ∀ w5, Turn (fun k => k = w.heap.size ∨ k = w.heap.size + 1) wr w5 → mstK.cap (fun k => w.heap.size ≤ k) [.slice au j pu, .int .i64 be, .int .i64 dn, .int .i64 tr, .bool pa, .bool br] (q, be, dn, tr, pa, br) w5 := fun w5 ht =>
          mst_cap (Fx0 := fun k => w.heap.size + 2 ≤ k) (reqS.cap_turn HU3.out ht (fun k _ h1 h2 => by omega)) (fun k hk => by omega)
        refine ht _ ?_
        iterate 6 refine Turn.set (F := fun k => k = w.heap.size ∨ k = w.heap.size + 1) ?_ (.inr rfl) _
        refine Turn.set (F := fun k => k = w.heap.size ∨ k = w.heap.size + 1) ?_ (.inl rfl) _
        exact Turn.refl _ _
      · iterate 7 refine Below.setCell ?_ (by first | omega | (dsimp only; omega)) _
        exact HB.out
end Go.Proofs.Ytijilhaoknpeeaa.KD
