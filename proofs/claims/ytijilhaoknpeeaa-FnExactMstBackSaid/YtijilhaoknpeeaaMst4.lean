
/-
  Copies of a request and of a master: the model's l5Copy, l12Copy.
-/
import Derived.Test.YtijilhaoknpeeaaMst3
namespace Go.Proofs.Ytijilhaoknpeeaa.KD
open Go.RowKit Rows3 GR Num
set_option linter.unusedVariables false

set_option maxRecDepth 100000 in
theorem spec5Copy (q : Bool) (x y z : Int) (k : Bool) (v : Value) (l : List Int) (hl : l.length ≤ 2000000) (w : World) (hv : RdI v l w) :
    Calls Try.prog 70 #[.agg #[.bool q, .int .i64 x, .int .i64 y, .int .i64 z, .bool k, v]] w fun e w' =>
      ∃ u, e = .returned (.agg #[.bool q, .int .i64 x, .int .i64 y, .int .i64 z, .bool k, u]) ∧ OwnI w.heap.size u l w' ∧ Below w.heap.size w w' := by
  have hv0 := hv
  obtain ⟨ad, cap, rfl⟩ : ∃ ad cap, v = .slice ad l.length cap := (let ⟨ad, cap, e, _⟩ := hv; ⟨ad, cap, e⟩)
  obtain ⟨n, hn⟩ : ∃ n, l.length = n := ⟨_, rfl⟩
  rw [hn] at hv0 ⊢
  have hsz : ∀ (w : World) o, (w.alloc o).heap.size = w.heap.size + 1 := fun w o => by simp
  have HL : Hid (([] : List Int).length + l.length ≤ 17592186044416) := Lib.hid (by simp; omega)
  have HB2 := Lib.hid (((Below.refl w.heap.size w).alloc (Nat.le_refl _) (Obj.cells #[.bool q, .int .i64 x, .int .i64 y, .int .i64 z, .bool k, .slice ad n cap] 35)).alloc (by simp) (Obj.cells #[.bool false, .int .i64 0, .int .i64 0, .int .i64 0, .bool false, .slice none 0 0] 35))
  have HB3 := Lib.hid (HB2.out.alloc (by simp; omega) (Obj.cells #[] 3))
  have A1 := Lib.hid (((Bx.new 35 #[.bool q, .int .i64 x, .int .i64 y, .int .i64 z, .bool k, .slice ad n cap] w).alloc (Obj.cells #[.bool false, .int .i64 0, .int .i64 0, .int .i64 0, .bool false, .slice none 0 0] 35)).alloc (Obj.cells #[] 3))
  have A2 := ((Bx.new 35 #[.bool false, .int .i64 0, .int .i64 0, .int .i64 0, .bool false, .slice none 0 0] (w.alloc (Obj.cells #[.bool q, .int .i64 x, .int .i64 y, .int .i64 z, .bool k, .slice ad n cap] 35))).alloc (Obj.cells #[] 3))
  rw [hsz] at A2
  have HA2 := Lib.hid A2
  have Hn := OwnI.made (w.heap.size + 1 + 1) ((w.alloc (Obj.cells #[.bool q, .int .i64 x, .int .i64 y, .int .i64 z, .bool k, .slice ad n cap] 35)).alloc (Obj.cells #[.bool false, .int .i64 0, .int .i64 0, .int .i64 0, .bool false, .slice none 0 0] 35)) (by simp)
  rw [show ((w.alloc (Obj.cells #[.bool q, .int .i64 x, .int .i64 y, .int .i64 z, .bool k, .slice ad n cap] 35)).alloc (Obj.cells #[.bool false, .int .i64 0, .int .i64 0, .int .i64 0, .bool false, .slice none 0 0] 35)).heap.size = w.heap.size + 1 + 1 by simp] at Hn
  have HNN := Lib.hid Hn
  have Hv1 := Lib.hid (hv0.below HB3.out)
  have hw3 : w.heap.size + 1 + 1 ≤ (((w.alloc (Obj.cells #[.bool q, .int .i64 x, .int .i64 y, .int .i64 z, .bool k, .slice ad n cap] 35)).alloc (Obj.cells #[.bool false, .int .i64 0, .int .i64 0, .int .i64 0, .bool false, .slice none 0 0] 35)).alloc (Obj.cells #[] 3)).heap.size := by simp
  have HW3 := Lib.hid hw3
  clear A2 hsz hn hv hv0 hl Hn hw3
  go_enter Try.func70, Try.ntmps70
  go_wp2_with (at_builtin; refine appAllR rfl _ _ rfl (w.heap.size + 1 + 1) (.slice (some ⟨w.heap.size + 1 + 1, 0, none⟩) 0 0) (.slice ad n cap) [] l _ rfl rfl HNN.out Hv1.out HW3.out HL.out ?_; intro v' w2 hown2 hb2; have Ho2 := Lib.hid hown2; obtain ⟨ad2, cap2, rfl⟩ := hown2.slice; have Hb2 := Lib.hid hb2; obtain ⟨g0, g1, g2, g3, g4, g5⟩ := (A1.out.below hb2 (by omega)).cells6; have y5 := (A1.out.below hb2 (by omega)).warm 5; obtain ⟨e0, e1, e2, e3, e4, e5⟩ := (HA2.out.below hb2 (by omega)).cells6; have z0 := (HA2.out.below hb2 (by omega)).warm 0; have z1 := (HA2.out.below hb2 (by omega)).warm 1; have z2 := (HA2.out.below hb2 (by omega)).warm 2; have z3 := (HA2.out.below hb2 (by omega)).warm 3; have z4 := (HA2.out.below hb2 (by omega)).warm 4; have z5 := (HA2.out.below hb2 (by omega)).warm 5; clear hown2 hb2)
  refine bodyPost_ret (v := .agg #[.bool q, .int .i64 x, .int .i64 y, .int .i64 z, .bool k, .slice ad2 ([] ++ l).length cap2]) (by simp [results, Try.results70, go_sem, e0, e1, e2, e3, e4, e5]) rfl ⟨_, rfl, ?_, ?_⟩
  · refine OwnI.mono (B := w.heap.size + 1 + 1) ?_ (by omega)
    iterate 7 refine setBelow ?_ (by dsimp only; omega) _
    exact Ho2.out
  · iterate 7 refine Below.setCell ?_ (by dsimp only; omega) _
    exact HB3.out.trans (Hb2.out.mono (by omega))
theorem spec5CopyX (cs : List Value) (q : Bool) (x y z : Int) (k : Bool) (l : List Int) (hs : reqK.sz (q, x, y, z, k, l) ≤ 2000000) (w : World) (h : reqK.rd cs (q, x, y, z, k, l) w) :
    Calls Try.prog 70 #[agg cs] w fun e w' => ∃ us, e = .returned (agg us) ∧ reqK.cap (fun i => w.heap.size ≤ i) us (q, x, y, z, k, l) w' ∧ Below w.heap.size w w' := by
  obtain ⟨a, p, rfl, h0⟩ := rd_req h
  refine (spec5Copy q x y z k _ l (req_len hs) w h0).mono ?_
  rintro e w' ⟨u, rfl, ho, hb⟩
  exact ⟨_, rfl, req_cap (cap_own ho (by have := req_len hs; omega)) (fun _ h => h), hb⟩
end Go.Proofs.Ytijilhaoknpeeaa.KD
