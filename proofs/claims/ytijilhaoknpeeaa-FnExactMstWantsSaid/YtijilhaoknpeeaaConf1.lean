
/-
  A configuration as the laws hand it on: its copy, its size; are two the same.
-/
import Derived.Test.YtijilhaoknpeeaaGRow
import Derived.Lib.QuietBelow
namespace Go.Proofs.Ytijilhaoknpeeaa.Num
open Go.RowKit GR

/-- a master's numbers. -/
structure MC where
  wt : Int
  pr : Bool
  ev : Int
  cp : Int
deriving DecidableEq, Inhabited
def mcK : Kd MC := ⟨4, fun m => [.int .i64 m.wt, .bool m.pr, .int .i64 m.ev, .int .i64 m.cp], fun _ => rfl⟩
def mc0 : MC := ⟨0, false, 0, 0⟩
theorem mc_at {b o i : Nat} {m : MC} {w : World} (h : ∀ j u, (mcK.enc m)[j]? = some u → w.cell? ⟨b, o + i * mcK.k + j, none⟩ = some u) :
    w.cell? ⟨b, o + i * 4, none⟩ = some (.int .i64 m.wt) ∧ w.cell? ⟨b, o + i * 4 + 1, none⟩ = some (.bool m.pr) ∧ w.cell? ⟨b, o + i * 4 + 2, none⟩ = some (.int .i64 m.ev) ∧ w.cell? ⟨b, o + i * 4 + 3, none⟩ = some (.int .i64 m.cp) :=
  ⟨h 0 _ rfl, h 1 _ rfl, h 2 _ rfl, h 3 _ rfl⟩
theorem mc_at0 {b i : Nat} {m : MC} {w : World} (h : ∀ j u, (mcK.enc m)[j]? = some u → w.cell? ⟨b, i * mcK.k + j, none⟩ = some u) :
    w.cell? ⟨b, i * 4, none⟩ = some (.int .i64 m.wt) ∧ w.cell? ⟨b, i * 4 + 1, none⟩ = some (.bool m.pr) ∧ w.cell? ⟨b, i * 4 + 2, none⟩ = some (.int .i64 m.ev) ∧ w.cell? ⟨b, i * 4 + 3, none⟩ = some (.int .i64 m.cp) :=
  ⟨h 0 _ rfl, h 1 _ rfl, h 2 _ rfl, h 3 _ rfl⟩
theorem info_mc : (Try.prog.info? 120).map (fun i => (i.zero, i.size, i.bytes)) = some (some (.agg #[.int .i64 0, .bool false, .int .i64 0, .int .i64 0]), 4, 32) := by kernel_rfl
theorem size_alloc1 (w : World) (a : Obj) : (w.alloc a).heap.size = w.heap.size + 1 := by simp
theorem size_alloc3 (w : World) (a b c : Obj) : (((w.alloc a).alloc b).alloc c).heap.size = w.heap.size + 1 + 1 + 1 := by simp
theorem size_mc : mcK.k = 4 := rfl
theorem below_cells {B : Nat} {w w' : World} (h : Below B w w') {b : Nat} (hb : b < B) (i : Nat) : w'.cell? ⟨b, i, none⟩ = w.cell? ⟨b, i, none⟩ := h.cell (p := ⟨b, i, none⟩) hb

set_option maxRecDepth 100000 in
theorem toMC_any (a : Int) (p : Bool) (b c : Int) (w : World) :
    Calls Try.prog 113 #[.agg #[.int .i64 a, .bool p, .int .i64 b, .int .i64 c]] w fun e w' => e = .returned (.agg #[.int .i64 a, .bool p, .int .i64 b, .int .i64 c]) ∧ Below w.heap.size w w' := by
  go_enter Try.func113, Try.ntmps113
  go_wp2
  refine bodyPost_ret (v := .agg #[.int .i64 a, .bool p, .int .i64 b, .int .i64 c]) (by simp [results, Try.results113, go_sem]) rfl ⟨rfl, ?_⟩
  exact (((Below.refl _ _).alloc (Nat.le_refl _) _).alloc (by simp) _).alloc (by simp; omega) _

/-- a new row of masters' numbers. -/
def NewM (l : List MC) (w : World) (e : Ending) (w' : World) : Prop := ∃ v, e = .returned v ∧ Own mcK 120 w.heap.size v l w' ∧ Below w.heap.size w w'
set_option maxRecDepth 100000 in
theorem toMCS_any (v : Value) (l : List MC) (hl : l.length ≤ 2000000) (w : World) (hv : Rd mcK v l w) :
    Calls Try.prog 84 #[v] w (NewM l w) := by
  obtain ⟨ad, cap, rfl, h1⟩ := hv
  obtain ⟨n, hln⟩ : ∃ n, l.length = n := ⟨_, rfl⟩
  rw [hln] at hl ⊢
  have H1 := Lib.hid h1
  have HL := Lib.hid hln
  clear h1 hln
  obtain ⟨i0, hi, hz0, hz1, hz2⟩ := info_parts info_mc
  have hmk := fun W => make_run (P := Try.prog) mcK 64 120 i0 _ Try.underlying64 hi hz0 hz1 (by rw [hz2]; omega) n hl W
  have Ho0 := Lib.hid (Own.make0 (K := mcK) (T := 120) w.heap.size w (Nat.le_refl _) n hl mc0 (.agg #[.int .i64 0, .bool false, .int .i64 0, .int .i64 0]) rfl)
  clear hi hz0 hz1 hz2
  go_enter Try.func84, Try.ntmps84
  go_wp2
  clear hmk
  go_loopw [4] (fun i wr => ∃ k : Nat, k ≤ n ∧ i = .int .i64 k ∧ Own mcK 120 w.heap.size (.slice (some ⟨w.heap.size, 0, none⟩) n n) (l.take k ++ List.replicate (n - k) mc0) wr ∧ Below w.heap.size w wr) (fun i _ => n - (intOf i).toNat)
  case atStart => exact ⟨0, by omega, rfl, by rw [List.take_zero, List.nil_append, Nat.sub_zero]; exact Ho0.out, (Below.refl _ _).alloc (Nat.le_refl _) _⟩
  case round =>
    obtain ⟨k, hk, rfl, hown, hb⟩ := hrel
    by_cases hlt : k < n
    · obtain ⟨x, hx⟩ := get_of (l := l) (i := k) (by rw [HL.out]; exact hlt)
      obtain ⟨b, o, rfl, hb1, hc1⟩ := H1.out k x hx
      obtain ⟨g0, g1, g2, g3⟩ := mc_at hc1
      rw [← below_cells hb hb1] at g0 g1 g2 g3
      have Hs := Lib.hid (GR.take_set (a0 := mc0) hx HL.out)
      have Ho := Lib.hid hown
      clear hown hc1 hx
      go_wp2_with fail
      refine (toMC_any _ _ _ _ _).mono ?_
      rintro e w1 ⟨rfl, hb2⟩
      have hown := Ho.out.later hb2
      have Hb := Lib.hid (hb.trans (hb2.mono hb.size))
      have hlt2 : k < (l.take k ++ List.replicate (n - k) mc0).length := by simp [HL.out]; omega
      obtain ⟨y, hy⟩ := get_of hlt2
      obtain ⟨f0, f1, f2, f3⟩ := mc_at0 (hown.at_ k y hy)
      have z0 := hown.frozen (k * 4)
      have z1 := hown.frozen (k * 4 + 1)
      have z2 := hown.frozen (k * 4 + 2)
      have z3 := hown.frozen (k * 4 + 3)
      have Ho2 := Lib.hid (hown.set k hlt2 x)
      clear hown hy Ho hb hb2 hlt2 g0 g1 g2 g3
      go_wp2_with fail
      go_roundw
      case rel =>
        refine ⟨k + 1, by omega, by go_num, ?_, below_sets (mcK.enc x) (Nat.le_refl _) (k * mcK.k) Hb.out⟩
        rw [← Hs.out]
        exact Ho2.out.1
      case measure => simp [intOf]; omega
    · obtain rfl : k = n := by omega
      have h := Lib.hid hown
      clear hown
      go_wp2
      go_ret
      refine ⟨_, rfl, ?_, hb⟩
      have h := h.out
      rwa [Nat.sub_self, List.replicate_zero, List.append_nil, List.take_of_length_le (by rw [HL.out]; omega)] at h

set_option maxRecDepth 100000 in
theorem eqMC_same (a : Int) (p : Bool) (b c : Int) (w : World) :
    Calls Try.prog 117 #[.agg #[.int .i64 a, .bool p, .int .i64 b, .int .i64 c], .agg #[.int .i64 a, .bool p, .int .i64 b, .int .i64 c]] w fun e w' => e = .returned (.bool true) ∧ Below w.heap.size w w' := by
  have ha : (a != a) = false := by simp
  have hp : (p != p) = false := by simp
  have hb : (b != b) = false := by simp
  have hc : (c != c) = false := by simp
  go_enter Try.func117, Try.ntmps117
  go_wp2
  go_ret
  exact ⟨rfl, (((Below.refl _ _).alloc (Nat.le_refl _) _).alloc (by simp) _)⟩

/-- the size that is left. -/
def szL (L : Int) (n : Nat) : Int := if (n : Int) ≤ L then L - (n : Int) else -1
theorem szL_yes {L : Int} {n : Nat} (h : (n : Int) ≤ L) : szL L n = L - (n : Int) := if_pos h
theorem szL_no {L : Int} {n : Nat} (h : L < (n : Int)) : szL L n = -1 := if_neg (by omega)
theorem szMC_any (v : Value) (L : Int) (n : Nat) (w : World) (hv : ∃ ad cap, v = .slice ad n cap) (h0 : 0 ≤ L) (h1 : L ≤ 1048576) (hl : n ≤ 9223372036854775807) :
    Calls Try.prog 81 #[v, .int .i64 L] w fun e w' => e = .returned (.int .i64 (szL L n)) ∧ w = w' := by
  obtain ⟨ad, cap, rfl⟩ := hv
  by_cases h : (n : Int) ≤ L
  · have He := Lib.hid (szL_yes h)
    have h2 : ¬ L - (n : Int) < 0 := by omega
    go_enter Try.func81, Try.ntmps81
    go_wp2
    go_ret
    exact ⟨by rw [He.out]; rfl, rfl⟩
  · have He := Lib.hid (szL_no (by omega : L < (n : Int)))
    have h2 : L - (n : Int) < 0 := by omega
    go_enter Try.func81, Try.ntmps81
    go_wp2
    go_ret
    exact ⟨by rw [He.out]; rfl, rfl⟩
theorem szConf_any (v : Value) (q mw mr ms lm : Int) (L : Int) (n : Nat) (w : World) (hv : ∃ ad cap, v = .slice ad n cap) (h0 : 0 ≤ L) (h1 : L ≤ 1048576) (hl : n ≤ 9223372036854775807) :
    Calls Try.prog 39 #[.agg #[v, .int .i64 q, .int .i64 mw, .int .i64 mr, .int .i64 ms, .int .i64 lm], .int .i64 L] w fun e w' => e = .returned (.int .i64 (szL L n)) ∧ Below w.heap.size w w' := by
  obtain ⟨ad, cap, rfl⟩ := hv
  obtain ⟨m, hm⟩ : ∃ m : Int, szL L n = m := ⟨_, rfl⟩
  have hm0 : -1 ≤ m := by rw [← hm]; unfold szL; split <;> omega
  have hm1 : m ≤ 1048576 := by rw [← hm]; unfold szL; split <;> omega
  have Hm := Lib.hid hm
  rw [hm]
  clear hm
  by_cases h : m < 0
  · obtain rfl : m = -1 := by omega
    go_enter Try.func39, Try.ntmps39
    go_wp2_with (go_at_call 81; refine (szMC_any _ L n _ ⟨_, _, rfl⟩ h0 h1 hl).mono ?_; rintro e w' ⟨rfl, rfl⟩; rw [Hm.out])
    go_ret
    exact ⟨rfl, (Below.refl _ _).alloc (Nat.le_refl _) _⟩
  · go_enter Try.func39, Try.ntmps39
    go_wp2_with (go_at_call 81; refine (szMC_any _ L n _ ⟨_, _, rfl⟩ h0 h1 hl).mono ?_; rintro e w' ⟨rfl, rfl⟩; rw [Hm.out])
    go_ret
    exact ⟨rfl, (Below.refl _ _).alloc (Nat.le_refl _) _⟩

set_option maxRecDepth 100000 in
theorem toConf_any (v : Value) (l : List MC) (q mw mr ms lm : Int) (hl : l.length ≤ 2000000) (w : World) (hv : Rd mcK v l w) :
    Calls Try.prog 42 #[.agg #[v, .int .i64 q, .int .i64 mw, .int .i64 mr, .int .i64 ms, .int .i64 lm]] w fun e w' =>
      ∃ u, e = .returned (.agg #[u, .int .i64 q, .int .i64 mw, .int .i64 mr, .int .i64 ms, .int .i64 lm]) ∧ Own mcK 120 w.heap.size u l w' ∧ Below w.heap.size w w' := by
  have Hv := Lib.hid hv
  obtain ⟨ad, cap, rfl⟩ := hv.slice
  clear hv
  go_enter Try.func42, Try.ntmps42
  go_wp2_with fail
  refine (toMCS_any _ l hl _ (by exact ((Hv.out.alloc _).alloc _).alloc _)).mono ?_
  rintro e w1 ⟨u, rfl, ho, hb⟩
  obtain ⟨ad1, cap1, rfl⟩ := ho.slice
  have hsz : ∀ (w : World) o, (w.alloc o).heap.size = w.heap.size + 1 := fun w o => by simp
  have A1 := (((Bx.new 59 #[.slice ad l.length cap, .int .i64 q, .int .i64 mw, .int .i64 mr, .int .i64 ms, .int .i64 lm] w).alloc (Obj.cells #[.slice none 0 0, .int .i64 0, .int .i64 0, .int .i64 0, .int .i64 0, .int .i64 0] 66)).alloc (Obj.cells #[.slice none 0 0, .int .i64 0, .int .i64 0, .int .i64 0, .int .i64 0, .int .i64 0] 66)).later hb
  have A2 := ((Bx.new 66 #[.slice none 0 0, .int .i64 0, .int .i64 0, .int .i64 0, .int .i64 0, .int .i64 0] (w.alloc (Obj.cells #[.slice ad l.length cap, .int .i64 q, .int .i64 mw, .int .i64 mr, .int .i64 ms, .int .i64 lm] 59))).alloc (Obj.cells #[.slice none 0 0, .int .i64 0, .int .i64 0, .int .i64 0, .int .i64 0, .int .i64 0] 66)).later hb
  have A3 := (Bx.new 66 #[.slice none 0 0, .int .i64 0, .int .i64 0, .int .i64 0, .int .i64 0, .int .i64 0] ((w.alloc (Obj.cells #[.slice ad l.length cap, .int .i64 q, .int .i64 mw, .int .i64 mr, .int .i64 ms, .int .i64 lm] 59)).alloc (Obj.cells #[.slice none 0 0, .int .i64 0, .int .i64 0, .int .i64 0, .int .i64 0, .int .i64 0] 66))).later hb
  rw [hsz] at A2
  rw [hsz, hsz] at A3
  have Ho := Lib.hid ho
  have Hb := Lib.hid (hb.mono (B' := w.heap.size) (by simp; omega))
  obtain ⟨c0, c1, c2, c3, c4, c5⟩ := A1.cells6
  obtain ⟨g0, g1, g2, g3, g4, g5⟩ := A2.cells6
  obtain ⟨e0, e1, e2, e3, e4, e5⟩ := A3.cells6
  have y0 := A2.warm 0
  have y1 := A2.warm 1
  have y2 := A2.warm 2
  have y3 := A2.warm 3
  have y4 := A2.warm 4
  have y5 := A2.warm 5
  have z0 := A3.warm 0
  have z1 := A3.warm 1
  have z2 := A3.warm 2
  have z3 := A3.warm 3
  have z4 := A3.warm 4
  have z5 := A3.warm 5
  clear A1 A2 A3 ho hb hsz
  go_wp2_with fail
  refine bodyPost_ret (v := .agg #[.slice ad1 l.length cap1, .int .i64 q, .int .i64 mw, .int .i64 mr, .int .i64 ms, .int .i64 lm]) (by simp [results, Try.results42, go_sem, g0, g1, g2, g3, g4, g5]) rfl ⟨_, rfl, ?_, ?_⟩
  · refine Own.mono (B := w.heap.size + 1 + 1 + 1) ?_ (by omega)
    iterate 12 refine Own.setBelow ?_ (by dsimp only; omega) _
    have h := Ho.out
    simp only [size_alloc3] at h
    exact h
  · iterate 12 refine Below.setCell ?_ (by dsimp only; omega) _
    exact ((((Below.refl _ _).alloc (Nat.le_refl _) _).alloc (by simp) _).alloc (by simp; omega) _).trans Hb.out

set_option maxRecDepth 100000 in
theorem eqMCS_same (v u : Value) (l : List MC) (hl : l.length ≤ 2000000) (w : World) (hv : Rd mcK v l w) (hu : Rd mcK u l w) :
    Calls Try.prog 87 #[v, u] w fun e w' => e = .returned (.bool true) ∧ Below w.heap.size w w' := by
  obtain ⟨ad, cap, rfl, h1⟩ := hv
  obtain ⟨bd, cbp, rfl, h2⟩ := hu
  obtain ⟨n, hln⟩ : ∃ n, l.length = n := ⟨_, rfl⟩
  rw [hln] at hl ⊢
  have H1 := Lib.hid h1
  have H2 := Lib.hid h2
  have HL := Lib.hid hln
  clear h1 h2 hln
  have hne : (((n : Nat) : Int) != ((n : Nat) : Int)) = false := by simp
  go_enter Try.func87, Try.ntmps87
  go_wp2
  go_loopw [5] (fun i wr => ∃ k : Nat, k ≤ n ∧ i = .int .i64 k ∧ Below w.heap.size w wr) (fun i _ => n - (intOf i).toNat)
  case atStart => exact ⟨0, by omega, rfl, Below.refl _ _⟩
  case round =>
    obtain ⟨k, hk, rfl, hb⟩ := hrel
    by_cases hlt : k < n
    · obtain ⟨x, hx⟩ := get_of (l := l) (i := k) (by rw [HL.out]; exact hlt)
      obtain ⟨b, o, rfl, hb1, hc1⟩ := H1.out k x hx
      obtain ⟨b', o', rfl, hb2, hc2⟩ := H2.out k x hx
      obtain ⟨g0, g1, g2, g3⟩ := mc_at hc1
      obtain ⟨e0, e1, e2, e3⟩ := mc_at hc2
      rw [← below_cells hb hb1] at g0 g1 g2 g3
      rw [← below_cells hb hb2] at e0 e1 e2 e3
      replace g0 := fun d os => cell_regrown g0 d os
      replace g1 := fun d os => cell_regrown g1 d os
      replace g2 := fun d os => cell_regrown g2 d os
      replace g3 := fun d os => cell_regrown g3 d os
      replace e0 := fun d os => cell_regrown e0 d os
      replace e1 := fun d os => cell_regrown e1 d os
      replace e2 := fun d os => cell_regrown e2 d os
      replace e3 := fun d os => cell_regrown e3 d os
      have Hb := Lib.hid hb
      clear hc1 hc2 hx
      go_wp2_with fail
      refine wp_region_quiet_below (by kernel_rfl) (by kernel_rfl) ?_
      repeat (go_big_quiet_step ((go_at_call 117; exact Calls.regrown_of (eqMC_same _ _ _ _ _))))
      refine wpQuiet_nil ?_
      rintro _ ⟨⟨dq, osq⟩, rfl⟩
      have hbw := below_regrown wr dq osq
      generalize Sort.grow (redrawn wr dq) osq = w2 at hbw
      clear g0 g1 g2 g3 e0 e1 e2 e3
      go_wp2_with fail
      go_roundw
      case rel => exact ⟨k + 1, by omega, by go_num, Hb.out.trans (hbw.mono Hb.out.size)⟩
      case measure => simp [intOf]; omega
    · go_wp2
      go_ret
      exact ⟨rfl, hb⟩

set_option maxRecDepth 100000 in
theorem eqConf_same (v u : Value) (l : List MC) (q mw mr ms lm : Int) (hl : l.length ≤ 2000000) (w : World) (hv : Rd mcK v l w) (hu : Rd mcK u l w) :
    Calls Try.prog 45 #[.agg #[v, .int .i64 q, .int .i64 mw, .int .i64 mr, .int .i64 ms, .int .i64 lm], .agg #[u, .int .i64 q, .int .i64 mw, .int .i64 mr, .int .i64 ms, .int .i64 lm]] w fun e w' => e = .returned (.bool true) ∧ Below w.heap.size w w' := by
  have Hv := Lib.hid hv
  have Hu := Lib.hid hu
  obtain ⟨ad, cap, rfl⟩ := hv.slice
  obtain ⟨bd, cbp, rfl⟩ := hu.slice
  have h0 : (q != q) = false := by simp
  have h1 : (mw != mw) = false := by simp
  have h2 : (mr != mr) = false := by simp
  have h3 : (ms != ms) = false := by simp
  have h4 : (lm != lm) = false := by simp
  clear hv hu
  go_enter Try.func45, Try.ntmps45
  go_wp2_with fail
  refine (eqMCS_same _ _ l hl _ ((Hv.out.alloc _).alloc _) ((Hu.out.alloc _).alloc _)).mono ?_
  rintro e w1 ⟨rfl, hb⟩
  have A1 := ((Bx.new 66 #[.slice ad l.length cap, .int .i64 q, .int .i64 mw, .int .i64 mr, .int .i64 ms, .int .i64 lm] w).alloc (Obj.cells #[.slice bd l.length cbp, .int .i64 q, .int .i64 mw, .int .i64 mr, .int .i64 ms, .int .i64 lm] 66)).later hb
  have A2 := (Bx.new 66 #[.slice bd l.length cbp, .int .i64 q, .int .i64 mw, .int .i64 mr, .int .i64 ms, .int .i64 lm] (w.alloc (Obj.cells #[.slice ad l.length cap, .int .i64 q, .int .i64 mw, .int .i64 mr, .int .i64 ms, .int .i64 lm] 66))).later hb
  rw [size_alloc1] at A2
  obtain ⟨c0, c1, c2, c3, c4, c5⟩ := A1.cells6
  obtain ⟨g0, g1, g2, g3, g4, g5⟩ := A2.cells6
  have Hb := Lib.hid (below_alloc1 ((Below.refl w.heap.size _).alloc (Nat.le_refl _) _) (by simp) hb)
  clear A1 A2 hb
  go_wp2
  go_ret
  exact ⟨rfl, Hb.out⟩
end Go.Proofs.Ytijilhaoknpeeaa.Num
