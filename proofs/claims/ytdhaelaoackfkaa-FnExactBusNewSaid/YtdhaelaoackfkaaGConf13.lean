/-
  Several texts in one: Conf1, Conf2, Conf3, Conf4, ConfKn.
-/
import Derived.Test.YtdhaelaoackfkaaGRow
import Derived.Lib.QuietBelow
import Derived.IntWalk
import Derived.WalkSmall
import Derived.Test.YtdhaelaoackfkaaKConf
namespace Go.Proofs.Ytdhaelaoackfkaa.Num
open Go.RowKit GR

/-- a master's numbers. -/
structure MC where
  wt : Int
  pr : Bool
  ev : Int
  cp : Int
deriving DecidableEq, Inhabited
def mcK : Kd MC := ⟨4, fun m => [.int .i64 m.wt, .bool m.pr, .int .i64 m.ev, .int .i64 m.cp], fun _ => rfl⟩
def mc0 : MC := ⟨0, false, 0, 0⟩
theorem mc_at {b o i : Nat} {m : MC} {w : World} (h : ∀ j u, (mcK.enc m)[j]? = some u → w.cell? ⟨b, o + i * mcK.k + j, none⟩ = some u) :
    w.cell? ⟨b, o + i * 4, none⟩ = some (.int .i64 m.wt) ∧ w.cell? ⟨b, o + i * 4 + 1, none⟩ = some (.bool m.pr) ∧ w.cell? ⟨b, o + i * 4 + 2, none⟩ = some (.int .i64 m.ev) ∧ w.cell? ⟨b, o + i * 4 + 3, none⟩ = some (.int .i64 m.cp) :=
  ⟨h 0 _ rfl, h 1 _ rfl, h 2 _ rfl, h 3 _ rfl⟩
theorem mc_at0 {b i : Nat} {m : MC} {w : World} (h : ∀ j u, (mcK.enc m)[j]? = some u → w.cell? ⟨b, i * mcK.k + j, none⟩ = some u) :
    w.cell? ⟨b, i * 4, none⟩ = some (.int .i64 m.wt) ∧ w.cell? ⟨b, i * 4 + 1, none⟩ = some (.bool m.pr) ∧ w.cell? ⟨b, i * 4 + 2, none⟩ = some (.int .i64 m.ev) ∧ w.cell? ⟨b, i * 4 + 3, none⟩ = some (.int .i64 m.cp) :=
  ⟨h 0 _ rfl, h 1 _ rfl, h 2 _ rfl, h 3 _ rfl⟩
theorem info_mc : (Try.prog.info? 75).map (fun i => (i.zero, i.size, i.bytes)) = some (some (.agg #[.int .i64 0, .bool false, .int .i64 0, .int .i64 0]), 4, 32) := by kernel_rfl
theorem size_alloc1 (w : World) (a : Obj) : (w.alloc a).heap.size = w.heap.size + 1 := by simp
theorem size_alloc3 (w : World) (a b c : Obj) : (((w.alloc a).alloc b).alloc c).heap.size = w.heap.size + 1 + 1 + 1 := by simp
theorem size_mc : mcK.k = 4 := rfl
theorem below_cells {B : Nat} {w w' : World} (h : Below B w w') {b : Nat} (hb : b < B) (i : Nat) : w'.cell? ⟨b, i, none⟩ = w.cell? ⟨b, i, none⟩ := h.cell (p := ⟨b, i, none⟩) hb

set_option maxRecDepth 100000 in
theorem toMC_any (a : Int) (p : Bool) (b c : Int) (w : World) :
    Calls Try.prog 76 #[.agg #[.int .i64 a, .bool p, .int .i64 b, .int .i64 c]] w fun e w' => e = .returned (.agg #[.int .i64 a, .bool p, .int .i64 b, .int .i64 c]) ∧ Below w.heap.size w w' := by
  go_enter Try.func76, Try.ntmps76
  go_wp2
  refine bodyPost_ret (v := .agg #[.int .i64 a, .bool p, .int .i64 b, .int .i64 c]) (by simp [results, Try.results76, go_sem]) rfl ⟨rfl, ?_⟩
  exact (((Below.refl _ _).alloc (Nat.le_refl _) _).alloc (by simp) _).alloc (by simp; omega) _

/-- a new row of masters' numbers. -/
def NewM (l : List MC) (w : World) (e : Ending) (w' : World) : Prop := ∃ v, e = .returned v ∧ Own mcK 75 w.heap.size v l w' ∧ Below w.heap.size w w'
set_option maxRecDepth 100000 in
theorem toMCS_any (v : Value) (l : List MC) (hl : l.length ≤ 2000000) (w : World) (hv : Rd mcK v l w) :
    Calls Try.prog 23 #[v] w (NewM l w) := by
  obtain ⟨ad, cap, rfl, h1⟩ := hv
  obtain ⟨n, hln⟩ : ∃ n, l.length = n := ⟨_, rfl⟩
  rw [hln] at hl ⊢
  have H1 := Lib.hid h1
  have HL := Lib.hid hln
  clear h1 hln
  obtain ⟨i0, hi, hz0, hz1, hz2⟩ := info_parts info_mc
  have hmk := fun W => make_run (P := Try.prog) mcK 26 75 i0 _ Try.underlying26 hi hz0 hz1 (by rw [hz2]; omega) n hl W
  have Ho0 := Lib.hid (Own.make0 (K := mcK) (T := 75) w.heap.size w (Nat.le_refl _) n hl mc0 (.agg #[.int .i64 0, .bool false, .int .i64 0, .int .i64 0]) rfl)
  clear hi hz0 hz1 hz2
  go_enter Try.func23, Try.ntmps23
  go_wp2
  clear hmk
  go_loopw [4] (fun i wr => ∃ k : Nat, k ≤ n ∧ i = .int .i64 k ∧ Own mcK 75 w.heap.size (.slice (some ⟨w.heap.size, 0, none⟩) n n) (l.take k ++ List.replicate (n - k) mc0) wr ∧ Below w.heap.size w wr) (fun i _ => n - (intOf i).toNat)
  case atStart => exact ⟨0, by omega, rfl, by rw [List.take_zero, List.nil_append, Nat.sub_zero]; exact Ho0.out, (Below.refl _ _).alloc (Nat.le_refl _) _⟩
  case round =>
    obtain ⟨k, hk, rfl, hown, hb⟩ := hrel
    by_cases hlt : k < n
    · obtain ⟨x, hx⟩ := get_of (l := l) (i := k) (by rw [HL.out]; exact hlt)
      obtain ⟨b, o, rfl, hb1, hc1⟩ := H1.out k x hx
      obtain ⟨g0, g1, g2, g3⟩ := mc_at hc1
      rw [← below_cells hb hb1] at g0 g1 g2 g3
      have Hs := Lib.hid (GR.take_set (a0 := mc0) hx HL.out)
      have Ho := Lib.hid hown
      clear hown hc1 hx
      go_wp2_with fail
      refine (toMC_any _ _ _ _ _).mono ?_
      rintro e w1 ⟨rfl, hb2⟩
      have hown := Ho.out.later hb2
      have Hb := Lib.hid (hb.trans (hb2.mono hb.size))
      have hlt2 : k < (l.take k ++ List.replicate (n - k) mc0).length := by simp [HL.out]; omega
      obtain ⟨y, hy⟩ := get_of hlt2
      obtain ⟨f0, f1, f2, f3⟩ := mc_at0 (hown.at_ k y hy)
      have z0 := hown.frozen (k * 4)
      have z1 := hown.frozen (k * 4 + 1)
      have z2 := hown.frozen (k * 4 + 2)
      have z3 := hown.frozen (k * 4 + 3)
      have Ho2 := Lib.hid (hown.set k hlt2 x)
      clear hown hy Ho hb hb2 hlt2 g0 g1 g2 g3
      go_wp2_with fail
      go_roundw
      case rel =>
        refine ⟨k + 1, by omega, by go_num, ?_, below_sets (mcK.enc x) (Nat.le_refl _) (k * mcK.k) Hb.out⟩
        rw [← Hs.out]
        exact Ho2.out.1
      case measure => simp [intOf]; omega
    · obtain rfl : k = n := by omega
      have h := Lib.hid hown
      clear hown
      go_wp2
      go_ret
      refine ⟨_, rfl, ?_, hb⟩
      have h := h.out
      rwa [Nat.sub_self, List.replicate_zero, List.append_nil, List.take_of_length_le (by rw [HL.out]; omega)] at h

set_option maxRecDepth 100000 in
theorem eqMC_same (a : Int) (p : Bool) (b c : Int) (w : World) :
    Calls Try.prog 87 #[.agg #[.int .i64 a, .bool p, .int .i64 b, .int .i64 c], .agg #[.int .i64 a, .bool p, .int .i64 b, .int .i64 c]] w fun e w' => e = .returned (.bool true) ∧ Below w.heap.size w w' := by
  have ha : (a != a) = false := by simp
  have hp : (p != p) = false := by simp
  have hb : (b != b) = false := by simp
  have hc : (c != c) = false := by simp
  go_enter Try.func87, Try.ntmps87
  go_wp2
  go_ret
  exact ⟨rfl, (((Below.refl _ _).alloc (Nat.le_refl _) _).alloc (by simp) _)⟩

/-- the size that is left. -/
def szL (L : Int) (n : Nat) : Int := if (n : Int) ≤ L then L - (n : Int) else -1
theorem szL_yes {L : Int} {n : Nat} (h : (n : Int) ≤ L) : szL L n = L - (n : Int) := if_pos h
theorem szL_no {L : Int} {n : Nat} (h : L < (n : Int)) : szL L n = -1 := if_neg (by omega)
theorem szMC_any (v : Value) (L : Int) (n : Nat) (w : World) (hv : ∃ ad cap, v = .slice ad n cap) (h0 : 0 ≤ L) (h1 : L ≤ 1048576) (hl : n ≤ 9223372036854775807) :
    Calls Try.prog 18 #[v, .int .i64 L] w fun e w' => e = .returned (.int .i64 (szL L n)) ∧ w = w' := by
  obtain ⟨ad, cap, rfl⟩ := hv
  by_cases h : (n : Int) ≤ L
  · have He := Lib.hid (szL_yes h)
    have h2 : ¬ L - (n : Int) < 0 := by omega
    go_enter Try.func18, Try.ntmps18
    go_wp2
    go_ret
    exact ⟨by rw [He.out]; rfl, rfl⟩
  · have He := Lib.hid (szL_no (by omega : L < (n : Int)))
    have h2 : L - (n : Int) < 0 := by omega
    go_enter Try.func18, Try.ntmps18
    go_wp2
    go_ret
    exact ⟨by rw [He.out]; rfl, rfl⟩
theorem szConf_any (v : Value) (q mw mr ms lm : Int) (L : Int) (n : Nat) (w : World) (hv : ∃ ad cap, v = .slice ad n cap) (h0 : 0 ≤ L) (h1 : L ≤ 1048576) (hl : n ≤ 9223372036854775807) :
    Calls Try.prog 5 #[.agg #[v, .int .i64 q, .int .i64 mw, .int .i64 mr, .int .i64 ms, .int .i64 lm], .int .i64 L] w fun e w' => e = .returned (.int .i64 (szL L n)) ∧ Below w.heap.size w w' := by
  obtain ⟨ad, cap, rfl⟩ := hv
  obtain ⟨m, hm⟩ : ∃ m : Int, szL L n = m := ⟨_, rfl⟩
  have hm0 : -1 ≤ m := by rw [← hm]; unfold szL; split <;> omega
  have hm1 : m ≤ 1048576 := by rw [← hm]; unfold szL; split <;> omega
  have Hm := Lib.hid hm
  rw [hm]
  clear hm
  by_cases h : m < 0
  · obtain rfl : m = -1 := by omega
    go_enter Try.func5, Try.ntmps5
    go_wp2_with (go_at_call 18; refine (szMC_any _ L n _ ⟨_, _, rfl⟩ h0 h1 hl).mono ?_; rintro e w' ⟨rfl, rfl⟩; rw [Hm.out])
    go_ret
    exact ⟨rfl, (Below.refl _ _).alloc (Nat.le_refl _) _⟩
  · go_enter Try.func5, Try.ntmps5
    go_wp2_with (go_at_call 18; refine (szMC_any _ L n _ ⟨_, _, rfl⟩ h0 h1 hl).mono ?_; rintro e w' ⟨rfl, rfl⟩; rw [Hm.out])
    go_ret
    exact ⟨rfl, (Below.refl _ _).alloc (Nat.le_refl _) _⟩

set_option maxRecDepth 100000 in
theorem toConf_any (v : Value) (l : List MC) (q mw mr ms lm : Int) (hl : l.length ≤ 2000000) (w : World) (hv : Rd mcK v l w) :
    Calls Try.prog 7 #[.agg #[v, .int .i64 q, .int .i64 mw, .int .i64 mr, .int .i64 ms, .int .i64 lm]] w fun e w' =>
      ∃ u, e = .returned (.agg #[u, .int .i64 q, .int .i64 mw, .int .i64 mr, .int .i64 ms, .int .i64 lm]) ∧ Own mcK 75 w.heap.size u l w' ∧ Below w.heap.size w w' := by
  have Hv := Lib.hid hv
  obtain ⟨ad, cap, rfl⟩ := hv.slice
  clear hv
  go_enter Try.func7, Try.ntmps7
  go_wp2_with fail
  refine (toMCS_any _ l hl _ (by exact ((Hv.out.alloc _).alloc _).alloc _)).mono ?_
  rintro e w1 ⟨u, rfl, ho, hb⟩
  obtain ⟨ad1, cap1, rfl⟩ := ho.slice
  have hsz : ∀ (w : World) o, (w.alloc o).heap.size = w.heap.size + 1 := fun w o => by simp
  have A1 := (((Bx.new 24 #[.slice ad l.length cap, .int .i64 q, .int .i64 mw, .int .i64 mr, .int .i64 ms, .int .i64 lm] w).alloc (Obj.cells #[.slice none 0 0, .int .i64 0, .int .i64 0, .int .i64 0, .int .i64 0, .int .i64 0] 28)).alloc (Obj.cells #[.slice none 0 0, .int .i64 0, .int .i64 0, .int .i64 0, .int .i64 0, .int .i64 0] 28)).later hb
  have A2 := ((Bx.new 28 #[.slice none 0 0, .int .i64 0, .int .i64 0, .int .i64 0, .int .i64 0, .int .i64 0] (w.alloc (Obj.cells #[.slice ad l.length cap, .int .i64 q, .int .i64 mw, .int .i64 mr, .int .i64 ms, .int .i64 lm] 24))).alloc (Obj.cells #[.slice none 0 0, .int .i64 0, .int .i64 0, .int .i64 0, .int .i64 0, .int .i64 0] 28)).later hb
  have A3 := (Bx.new 28 #[.slice none 0 0, .int .i64 0, .int .i64 0, .int .i64 0, .int .i64 0, .int .i64 0] ((w.alloc (Obj.cells #[.slice ad l.length cap, .int .i64 q, .int .i64 mw, .int .i64 mr, .int .i64 ms, .int .i64 lm] 24)).alloc (Obj.cells #[.slice none 0 0, .int .i64 0, .int .i64 0, .int .i64 0, .int .i64 0, .int .i64 0] 28))).later hb
  rw [hsz] at A2
  rw [hsz, hsz] at A3
  have Ho := Lib.hid ho
  have Hb := Lib.hid (hb.mono (B' := w.heap.size) (by simp; omega))
  obtain ⟨c0, c1, c2, c3, c4, c5⟩ := A1.cells6
  obtain ⟨g0, g1, g2, g3, g4, g5⟩ := A2.cells6
  obtain ⟨e0, e1, e2, e3, e4, e5⟩ := A3.cells6
  have y0 := A2.warm 0
  have y1 := A2.warm 1
  have y2 := A2.warm 2
  have y3 := A2.warm 3
  have y4 := A2.warm 4
  have y5 := A2.warm 5
  have z0 := A3.warm 0
  have z1 := A3.warm 1
  have z2 := A3.warm 2
  have z3 := A3.warm 3
  have z4 := A3.warm 4
  have z5 := A3.warm 5
  clear A1 A2 A3 ho hb hsz
  go_wp2_with fail
  refine bodyPost_ret (v := .agg #[.slice ad1 l.length cap1, .int .i64 q, .int .i64 mw, .int .i64 mr, .int .i64 ms, .int .i64 lm]) (by simp [results, Try.results7, go_sem, g0, g1, g2, g3, g4, g5]) rfl ⟨_, rfl, ?_, ?_⟩
  · refine Own.mono (B := w.heap.size + 1 + 1 + 1) ?_ (by omega)
    iterate 12 refine Own.setBelow ?_ (by dsimp only; omega) _
    have h := Ho.out
    simp only [size_alloc3] at h
    exact h
  · iterate 12 refine Below.setCell ?_ (by dsimp only; omega) _
    exact ((((Below.refl _ _).alloc (Nat.le_refl _) _).alloc (by simp) _).alloc (by simp; omega) _).trans Hb.out

set_option maxRecDepth 100000 in
theorem eqMCS_same (v u : Value) (l : List MC) (hl : l.length ≤ 2000000) (w : World) (hv : Rd mcK v l w) (hu : Rd mcK u l w) :
    Calls Try.prog 35 #[v, u] w fun e w' => e = .returned (.bool true) ∧ Below w.heap.size w w' := by
  obtain ⟨ad, cap, rfl, h1⟩ := hv
  obtain ⟨bd, cbp, rfl, h2⟩ := hu
  obtain ⟨n, hln⟩ : ∃ n, l.length = n := ⟨_, rfl⟩
  rw [hln] at hl ⊢
  have H1 := Lib.hid h1
  have H2 := Lib.hid h2
  have HL := Lib.hid hln
  clear h1 h2 hln
  have hne : (((n : Nat) : Int) != ((n : Nat) : Int)) = false := by simp
  go_enter Try.func35, Try.ntmps35
  go_wp2
  go_loopw [5] (fun i wr => ∃ k : Nat, k ≤ n ∧ i = .int .i64 k ∧ Below w.heap.size w wr) (fun i _ => n - (intOf i).toNat)
  case atStart => exact ⟨0, by omega, rfl, Below.refl _ _⟩
  case round =>
    obtain ⟨k, hk, rfl, hb⟩ := hrel
    by_cases hlt : k < n
    · obtain ⟨x, hx⟩ := get_of (l := l) (i := k) (by rw [HL.out]; exact hlt)
      obtain ⟨b, o, rfl, hb1, hc1⟩ := H1.out k x hx
      obtain ⟨b', o', rfl, hb2, hc2⟩ := H2.out k x hx
      obtain ⟨g0, g1, g2, g3⟩ := mc_at hc1
      obtain ⟨e0, e1, e2, e3⟩ := mc_at hc2
      rw [← below_cells hb hb1] at g0 g1 g2 g3
      rw [← below_cells hb hb2] at e0 e1 e2 e3
      replace g0 := fun d os => cell_regrown g0 d os
      replace g1 := fun d os => cell_regrown g1 d os
      replace g2 := fun d os => cell_regrown g2 d os
      replace g3 := fun d os => cell_regrown g3 d os
      replace e0 := fun d os => cell_regrown e0 d os
      replace e1 := fun d os => cell_regrown e1 d os
      replace e2 := fun d os => cell_regrown e2 d os
      replace e3 := fun d os => cell_regrown e3 d os
      have Hb := Lib.hid hb
      clear hc1 hc2 hx
      go_wp2_with fail
      refine wp_region_quiet_below (by kernel_rfl) (by kernel_rfl) ?_
      repeat (go_big_quiet_step ((go_at_call 87; exact Calls.regrown_of (eqMC_same _ _ _ _ _))))
      refine wpQuiet_nil ?_
      rintro _ ⟨⟨dq, osq⟩, rfl⟩
      have hbw := below_regrown wr dq osq
      generalize Sort.grow (redrawn wr dq) osq = w2 at hbw
      clear g0 g1 g2 g3 e0 e1 e2 e3
      go_wp2_with fail
      go_roundw
      case rel => exact ⟨k + 1, by omega, by go_num, Hb.out.trans (hbw.mono Hb.out.size)⟩
      case measure => simp [intOf]; omega
    · go_wp2
      go_ret
      exact ⟨rfl, hb⟩

set_option maxRecDepth 100000 in
theorem eqConf_same (v u : Value) (l : List MC) (q mw mr ms lm : Int) (hl : l.length ≤ 2000000) (w : World) (hv : Rd mcK v l w) (hu : Rd mcK u l w) :
    Calls Try.prog 10 #[.agg #[v, .int .i64 q, .int .i64 mw, .int .i64 mr, .int .i64 ms, .int .i64 lm], .agg #[u, .int .i64 q, .int .i64 mw, .int .i64 mr, .int .i64 ms, .int .i64 lm]] w fun e w' => e = .returned (.bool true) ∧ Below w.heap.size w w' := by
  have Hv := Lib.hid hv
  have Hu := Lib.hid hu
  obtain ⟨ad, cap, rfl⟩ := hv.slice
  obtain ⟨bd, cbp, rfl⟩ := hu.slice
  have h0 : (q != q) = false := by simp
  have h1 : (mw != mw) = false := by simp
  have h2 : (mr != mr) = false := by simp
  have h3 : (ms != ms) = false := by simp
  have h4 : (lm != lm) = false := by simp
  clear hv hu
  go_enter Try.func10, Try.ntmps10
  go_wp2_with fail
  refine (eqMCS_same _ _ l hl _ ((Hv.out.alloc _).alloc _) ((Hu.out.alloc _).alloc _)).mono ?_
  rintro e w1 ⟨rfl, hb⟩
  have A1 := ((Bx.new 28 #[.slice ad l.length cap, .int .i64 q, .int .i64 mw, .int .i64 mr, .int .i64 ms, .int .i64 lm] w).alloc (Obj.cells #[.slice bd l.length cbp, .int .i64 q, .int .i64 mw, .int .i64 mr, .int .i64 ms, .int .i64 lm] 28)).later hb
  have A2 := (Bx.new 28 #[.slice bd l.length cbp, .int .i64 q, .int .i64 mw, .int .i64 mr, .int .i64 ms, .int .i64 lm] (w.alloc (Obj.cells #[.slice ad l.length cap, .int .i64 q, .int .i64 mw, .int .i64 mr, .int .i64 ms, .int .i64 lm] 28))).later hb
  rw [size_alloc1] at A2
  obtain ⟨c0, c1, c2, c3, c4, c5⟩ := A1.cells6
  obtain ⟨g0, g1, g2, g3, g4, g5⟩ := A2.cells6
  have Hb := Lib.hid (below_alloc1 ((Below.refl w.heap.size _).alloc (Nat.le_refl _) _) (by simp) hb)
  clear A1 A2 hb
  go_wp2
  go_ret
  exact ⟨rfl, Hb.out⟩
end Go.Proofs.Ytdhaelaoackfkaa.Num

namespace Go.Proofs.Ytdhaelaoackfkaa.Num
open Go.RowKit GR

/-- is it within bounds. -/
def inB (x lo hi : Int) : Bool := decide (lo ≤ x) && decide (x ≤ hi)
theorem inB_yes {x lo hi : Int} (h1 : lo ≤ x) (h2 : x ≤ hi) : inB x lo hi = true := by simp [inB, h1, h2]
theorem inB_no {x lo hi : Int} (h : x < lo ∨ hi < x) : inB x lo hi = false := by
  unfold inB; rcases h with h | h
  · rw [decide_eq_false (by omega)]; rfl
  · rw [decide_eq_false (p := x ≤ hi) (by omega)]; simp
theorem inB_iff {x lo hi : Int} : inB x lo hi = true ↔ lo ≤ x ∧ x ≤ hi := by simp [inB]
theorem l1In_any (x lo hi : Int) (w : World) :
    Calls Try.prog 72 #[.int .i64 x, .int .i64 lo, .int .i64 hi] w fun e w' => e = .returned (.bool (inB x lo hi)) ∧ w = w' := by
  by_cases h0 : lo ≤ x
  · by_cases h1 : x ≤ hi
    · have He := Lib.hid (inB_yes h0 h1)
      go_enter Try.func72, Try.ntmps72
      go_wp2
      go_ret
      exact ⟨by rw [He.out]; rfl, rfl⟩
    · have He := Lib.hid (inB_no (x := x) (lo := lo) (hi := hi) (by omega))
      go_enter Try.func72, Try.ntmps72
      go_wp2
      go_ret
      exact ⟨by rw [He.out]; rfl, rfl⟩
  · have h0' : x < lo := by omega
    have He := Lib.hid (inB_no (x := x) (lo := lo) (hi := hi) (by omega))
    go_enter Try.func72, Try.ntmps72
    go_wp2
    go_ret
    exact ⟨by rw [He.out]; rfl, rfl⟩
theorem within_any (x lo hi : Int) (w : World) :
    Calls Try.prog 78 #[.int .i64 x, .int .i64 lo, .int .i64 hi] w fun e w' => e = .returned (.bool (inB x lo hi)) ∧ w = w' := by
  by_cases h0 : lo ≤ x
  · by_cases h1 : x ≤ hi
    · have He := Lib.hid (inB_yes h0 h1)
      go_enter Try.func78, Try.ntmps78
      go_wp2
      go_ret
      exact ⟨by rw [He.out]; rfl, rfl⟩
    · have He := Lib.hid (inB_no (x := x) (lo := lo) (hi := hi) (by omega))
      go_enter Try.func78, Try.ntmps78
      go_wp2
      go_ret
      exact ⟨by rw [He.out]; rfl, rfl⟩
  · have h0' : x < lo := by omega
    have He := Lib.hid (inB_no (x := x) (lo := lo) (hi := hi) (by omega))
    go_enter Try.func78, Try.ntmps78
    go_wp2
    go_ret
    exact ⟨by rw [He.out]; rfl, rfl⟩
theorem within_is {x lo hi : Int} {b : Bool} (h : inB x lo hi = b) (w : World) :
    Calls Try.prog 78 #[.int .i64 x, .int .i64 lo, .int .i64 hi] w fun e w' => e = .returned (.bool b) ∧ w = w' := by rw [← h]; exact within_any x lo hi w
theorem l1In_is {x lo hi : Int} {b : Bool} (h : inB x lo hi = b) (w : World) :
    Calls Try.prog 72 #[.int .i64 x, .int .i64 lo, .int .i64 hi] w fun e w' => e = .returned (.bool b) ∧ w = w' := by rw [← h]; exact l1In_any x lo hi w
theorem l1In_isB {x lo hi : Int} {b : Bool} (h : inB x lo hi = b) (w : World) :
    Calls Try.prog 72 #[.int .i64 x, .int .i64 lo, .int .i64 hi] w fun e w' => e = .returned (.bool b) ∧ Below w.heap.size w w' :=
  (l1In_is h w).mono fun _ _ ⟨h1, h2⟩ => ⟨h1, h2 ▸ Below.refl _ _⟩

/-- the cost of a beat. -/
def costW (mr mw : Int) : Int := if inB mr 0 3 && inB mw 0 3 then (mr + 2) * (mw + 6) else 0
theorem costW_bd (mr mw : Int) : 0 ≤ costW mr mw ∧ costW mr mw ≤ 45 := by
  unfold costW; split
  · rename_i h
    rw [Bool.and_eq_true, inB_iff, inB_iff] at h
    obtain ⟨⟨h1, h2⟩, h3, h4⟩ := h
    have hmr : mr = 0 ∨ mr = 1 ∨ mr = 2 ∨ mr = 3 := by omega
    rcases hmr with rfl | rfl | rfl | rfl <;> omega
  · omega
/-- the slot. -/
def slotW (mr mw lm : Int) : Int := if costW mr mw ≠ 0 ∧ inB lm 1 40 = true then 2 * costW mr mw + lm else 0
theorem slotW_bd (mr mw lm : Int) : 0 ≤ slotW mr mw lm ∧ slotW mr mw lm ≤ 130 := by
  have h0 := costW_bd mr mw
  unfold slotW; split
  · rename_i h
    have := inB_iff.1 h.2
    omega
  · omega
set_option maxRecDepth 100000 in
theorem specCost (ad : Option Addr) (n cap : Nat) (q mw mr ms lm : Int) (w : World) :
    Calls Try.prog 105 #[.agg #[.slice ad n cap, .int .i64 q, .int .i64 mw, .int .i64 mr, .int .i64 ms, .int .i64 lm]] w fun e w' => e = .returned (.int .i64 (costW mr mw)) ∧ Below w.heap.size w w' := by
  obtain ⟨b1, h1⟩ : ∃ b, inB mr 0 3 = b := ⟨_, rfl⟩
  obtain ⟨b2, h2⟩ : ∃ b, inB mw 0 3 = b := ⟨_, rfl⟩
  have H1 := Lib.hid h1
  have H2 := Lib.hid h2
  have He := Lib.hid (show costW mr mw = if b1 && b2 then (mr + 2) * (mw + 6) else 0 by unfold costW; rw [h1, h2])
  by_cases hb : b1 = true ∧ b2 = true
  · obtain ⟨rfl, rfl⟩ := hb
    obtain ⟨h3, h4⟩ := inB_iff.1 h1
    obtain ⟨h5, h6⟩ := inB_iff.1 h2
    have hw : IntKind.i64.wrap ((mr + 2) * (mw + 6)) = (mr + 2) * (mw + 6) := by
      have hmr : mr = 0 ∨ mr = 1 ∨ mr = 2 ∨ mr = 3 := by omega
      rcases hmr with rfl | rfl | rfl | rfl <;> exact IntWalk.i64_in _ (by omega)
    clear h1 h2
    go_enter Try.func105, Try.ntmps105
    go_wp2_with (go_at_call 72; first | ((with_reducible refine (l1In_is H1.out _).mono ?_); rintro e w' ⟨rfl, rfl⟩) | ((with_reducible refine (l1In_is H2.out _).mono ?_); rintro e w' ⟨rfl, rfl⟩))
    go_ret
    exact ⟨by rw [He.out, Bool.and_self, if_pos rfl]; rfl, (Below.refl _ _).alloc (Nat.le_refl _) _⟩
  · have Hz := Lib.hid (show costW mr mw = 0 by rw [He.out, if_neg (by simpa using hb)])
    clear h1 h2 He
    cases b1 with
    | false =>
      go_enter Try.func105, Try.ntmps105
      go_wp2_with (go_at_call 72; ((with_reducible refine (l1In_is H1.out _).mono ?_); rintro e w' ⟨rfl, rfl⟩))
      go_ret
      exact ⟨by rw [Hz.out]; rfl, (Below.refl _ _).alloc (Nat.le_refl _) _⟩
    | true =>
      obtain rfl : b2 = false := by simpa using hb
      go_enter Try.func105, Try.ntmps105
      go_wp2_with (go_at_call 72; first | ((with_reducible refine (l1In_is H1.out _).mono ?_); rintro e w' ⟨rfl, rfl⟩) | ((with_reducible refine (l1In_is H2.out _).mono ?_); rintro e w' ⟨rfl, rfl⟩))
      go_ret
      exact ⟨by rw [Hz.out]; rfl, (Below.refl _ _).alloc (Nat.le_refl _) _⟩
set_option maxRecDepth 100000 in
theorem implCost (ad : Option Addr) (n cap : Nat) (q mw mr ms lm : Int) (w : World) :
    Calls Try.prog 106 #[.agg #[.slice ad n cap, .int .i64 q, .int .i64 mw, .int .i64 mr, .int .i64 ms, .int .i64 lm]] w fun e w' => e = .returned (.int .i64 (costW mr mw)) ∧ Below w.heap.size w w' := by
  obtain ⟨b1, h1⟩ : ∃ b, inB mr 0 3 = b := ⟨_, rfl⟩
  obtain ⟨b2, h2⟩ : ∃ b, inB mw 0 3 = b := ⟨_, rfl⟩
  have H1 := Lib.hid h1
  have H2 := Lib.hid h2
  have He := Lib.hid (show costW mr mw = if b1 && b2 then (mr + 2) * (mw + 6) else 0 by unfold costW; rw [h1, h2])
  by_cases hb : b1 = true ∧ b2 = true
  · obtain ⟨rfl, rfl⟩ := hb
    obtain ⟨h3, h4⟩ := inB_iff.1 h1
    obtain ⟨h5, h6⟩ := inB_iff.1 h2
    have hw : IntKind.i64.wrap ((mr + 2) * (mw + 6)) = (mr + 2) * (mw + 6) := by
      have hmr : mr = 0 ∨ mr = 1 ∨ mr = 2 ∨ mr = 3 := by omega
      rcases hmr with rfl | rfl | rfl | rfl <;> exact IntWalk.i64_in _ (by omega)
    clear h1 h2
    go_enter Try.func106, Try.ntmps106
    go_wp2_with (go_at_call 78; first | ((with_reducible refine (within_is H1.out _).mono ?_); rintro e w' ⟨rfl, rfl⟩) | ((with_reducible refine (within_is H2.out _).mono ?_); rintro e w' ⟨rfl, rfl⟩))
    go_ret
    exact ⟨by rw [He.out, Bool.and_self, if_pos rfl]; rfl, (Below.refl _ _).alloc (Nat.le_refl _) _⟩
  · have Hz := Lib.hid (show costW mr mw = 0 by rw [He.out, if_neg (by simpa using hb)])
    clear h1 h2 He
    cases b1 with
    | false =>
      go_enter Try.func106, Try.ntmps106
      go_wp2_with (go_at_call 78; ((with_reducible refine (within_is H1.out _).mono ?_); rintro e w' ⟨rfl, rfl⟩))
      go_ret
      exact ⟨by rw [Hz.out]; rfl, (Below.refl _ _).alloc (Nat.le_refl _) _⟩
    | true =>
      obtain rfl : b2 = false := by simpa using hb
      go_enter Try.func106, Try.ntmps106
      go_wp2_with (go_at_call 78; first | ((with_reducible refine (within_is H1.out _).mono ?_); rintro e w' ⟨rfl, rfl⟩) | ((with_reducible refine (within_is H2.out _).mono ?_); rintro e w' ⟨rfl, rfl⟩))
      go_ret
      exact ⟨by rw [Hz.out]; rfl, (Below.refl _ _).alloc (Nat.le_refl _) _⟩

theorem specCost_is {ad : Option Addr} {n cap : Nat} {q mw mr ms lm c : Int} (h : costW mr mw = c) (w : World) :
    Calls Try.prog 105 #[.agg #[.slice ad n cap, .int .i64 q, .int .i64 mw, .int .i64 mr, .int .i64 ms, .int .i64 lm]] w fun e w' => e = .returned (.int .i64 c) ∧ Below w.heap.size w w' := by rw [← h]; exact specCost ad n cap q mw mr ms lm w

theorem slotW_of {mr mw lm c : Int} (hc : costW mr mw = c) : slotW mr mw lm = if c ≠ 0 ∧ inB lm 1 40 = true then 2 * c + lm else 0 := by unfold slotW; rw [hc]
set_option maxRecDepth 100000 in
theorem implSlot (ad : Option Addr) (n cap : Nat) (q mw mr ms lm : Int) (w : World) :
    Calls Try.prog 77 #[.agg #[.slice ad n cap, .int .i64 q, .int .i64 mw, .int .i64 mr, .int .i64 ms, .int .i64 lm]] w fun e w' => e = .returned (.int .i64 (slotW mr mw lm)) ∧ Below w.heap.size w w' := by
  obtain ⟨c, hc⟩ : ∃ c, costW mr mw = c := ⟨_, rfl⟩
  have hbd := costW_bd mr mw
  rw [hc] at hbd
  obtain ⟨c0, c1⟩ := hbd
  have Hs := Lib.hid (slotW_of (lm := lm) hc)
  have Hc := Lib.hid hc
  have A := Bx.new 28 #[.slice ad n cap, .int .i64 q, .int .i64 mw, .int .i64 mr, .int .i64 ms, .int .i64 lm] w
  clear hc
  by_cases hz : c = 0
  · subst hz
    have Hz := Lib.hid (show slotW mr mw lm = 0 by rw [Hs.out, if_neg (by simp)])
    clear A c0 c1 Hs
    go_enter Try.func77, Try.ntmps77
    go_wp2_with fail
    refine (implCost _ _ _ _ _ _ _ _ _).mono ?_
    rintro e w1 ⟨rfl, hb⟩
    rw [Hc.out]
    go_wp2
    go_ret
    exact ⟨by rw [Hz.out]; rfl, below_alloc1 (Below.refl _ _) (Nat.le_refl _) hb⟩
  · obtain ⟨b, hb⟩ : ∃ b, inB lm 1 40 = b := ⟨_, rfl⟩
    have Hb := Lib.hid hb
    have hcz : (c == 0) = false := by simpa using hz
    cases b with
    | false =>
      have Hz := Lib.hid (show slotW mr mw lm = 0 by rw [Hs.out, if_neg (by rw [hb]; simp)])
      clear hb Hs hz
      go_enter Try.func77, Try.ntmps77
      go_wp2_with fail
      refine (implCost _ _ _ _ _ _ _ _ _).mono ?_
      rintro e w1 ⟨rfl, hb⟩
      rw [Hc.out]
      obtain ⟨g0, g1, g2, g3, g4, g5⟩ := (A.later hb).cells6
      have Hw := Lib.hid (below_alloc1 (Below.refl _ _) (Nat.le_refl _) hb)
      clear A hb
      go_wp2_with (go_at_call 78; ((with_reducible refine (within_is Hb.out _).mono ?_); rintro e w' ⟨rfl, rfl⟩))
      go_ret
      exact ⟨by rw [Hz.out]; rfl, Hw.out⟩
    | true =>
      obtain ⟨h3, h4⟩ := inB_iff.1 hb
      have Hz := Lib.hid (show slotW mr mw lm = 2 * c + lm by rw [Hs.out, if_pos ⟨hz, hb⟩])
      clear hb Hs hz
      go_enter Try.func77, Try.ntmps77
      go_wp2_with fail
      refine (implCost _ _ _ _ _ _ _ _ _).mono ?_
      rintro e w1 ⟨rfl, hb⟩
      rw [Hc.out]
      obtain ⟨g0, g1, g2, g3, g4, g5⟩ := (A.later hb).cells6
      have Hw := Lib.hid (below_alloc1 (Below.refl _ _) (Nat.le_refl _) hb)
      clear A hb
      go_wp2_with (go_at_call 78; ((with_reducible refine (within_is Hb.out _).mono ?_); rintro e w' ⟨rfl, rfl⟩))
      go_ret
      exact ⟨by rw [Hz.out]; rfl, Hw.out⟩
set_option maxRecDepth 100000 in
theorem specSlot (ad : Option Addr) (n cap : Nat) (q mw mr ms lm : Int) (w : World) :
    Calls Try.prog 73 #[.agg #[.slice ad n cap, .int .i64 q, .int .i64 mw, .int .i64 mr, .int .i64 ms, .int .i64 lm]] w fun e w' => e = .returned (.int .i64 (slotW mr mw lm)) ∧ Below w.heap.size w w' := by
  obtain ⟨c, hc⟩ : ∃ c, costW mr mw = c := ⟨_, rfl⟩
  have hbd := costW_bd mr mw
  rw [hc] at hbd
  obtain ⟨c0, c1⟩ := hbd
  have Hs := Lib.hid (slotW_of (lm := lm) hc)
  have Hc := Lib.hid hc
  have A := Bx.new 28 #[.slice ad n cap, .int .i64 q, .int .i64 mw, .int .i64 mr, .int .i64 ms, .int .i64 lm] w
  clear hc
  by_cases hz : c = 0
  · subst hz
    have Hz := Lib.hid (show slotW mr mw lm = 0 by rw [Hs.out, if_neg (by simp)])
    clear A c0 c1 Hs
    go_enter Try.func73, Try.ntmps73
    go_wp2_with fail
    refine (specCost _ _ _ _ _ _ _ _ _).mono ?_
    rintro e w1 ⟨rfl, hb⟩
    rw [Hc.out]
    go_wp2
    go_ret
    exact ⟨by rw [Hz.out]; rfl, below_alloc1 (Below.refl _ _) (Nat.le_refl _) hb⟩
  · obtain ⟨b, hb⟩ : ∃ b, inB lm 1 40 = b := ⟨_, rfl⟩
    have Hb := Lib.hid hb
    have hcz : (c == 0) = false := by simpa using hz
    cases b with
    | false =>
      have Hz := Lib.hid (show slotW mr mw lm = 0 by rw [Hs.out, if_neg (by rw [hb]; simp)])
      clear hb Hs hz
      go_enter Try.func73, Try.ntmps73
      go_wp2_with fail
      refine (specCost _ _ _ _ _ _ _ _ _).mono ?_
      rintro e w1 ⟨rfl, hb⟩
      rw [Hc.out]
      obtain ⟨g0, g1, g2, g3, g4, g5⟩ := (A.later hb).cells6
      have Hw := Lib.hid (below_alloc1 (Below.refl _ _) (Nat.le_refl _) hb)
      clear A hb
      go_wp2_with (go_at_call 72; ((with_reducible refine (l1In_is Hb.out _).mono ?_); rintro e w' ⟨rfl, rfl⟩))
      go_ret
      exact ⟨by rw [Hz.out]; rfl, Hw.out⟩
    | true =>
      obtain ⟨h3, h4⟩ := inB_iff.1 hb
      have Hz := Lib.hid (show slotW mr mw lm = 2 * c + lm by rw [Hs.out, if_pos ⟨hz, hb⟩])
      clear hb Hs hz
      go_enter Try.func73, Try.ntmps73
      go_wp2_with fail
      refine (specCost _ _ _ _ _ _ _ _ _).mono ?_
      rintro e w1 ⟨rfl, hb⟩
      rw [Hc.out]
      obtain ⟨g0, g1, g2, g3, g4, g5⟩ := (A.later hb).cells6
      have Hw := Lib.hid (below_alloc1 (Below.refl _ _) (Nat.le_refl _) hb)
      clear A hb
      go_wp2_with (go_at_call 72; ((with_reducible refine (l1In_is Hb.out _).mono ?_); rintro e w' ⟨rfl, rfl⟩))
      replace g0 := fun d os => cell_regrown g0 d os
      replace g1 := fun d os => cell_regrown g1 d os
      replace g2 := fun d os => cell_regrown g2 d os
      replace g3 := fun d os => cell_regrown g3 d os
      replace g4 := fun d os => cell_regrown g4 d os
      replace g5 := fun d os => cell_regrown g5 d os
      refine wp_region_quiet_below (by kernel_rfl) (by kernel_rfl) ?_
      repeat (go_big_quiet_step ((go_at_call 105; exact Calls.regrown_of (specCost_is Hc.out _))))
      refine wpQuiet_nil ?_
      rintro _ ⟨⟨dq, osq⟩, rfl⟩
      have Hbw := Lib.hid (below_regrown w1 dq osq)
      clear g0 g1 g2 g3 g4 g5
      go_wp2_with fail
      go_ret
      exact ⟨by rw [Hz.out]; rfl, Hw.out.trans (Hbw.out.mono Hw.out.size)⟩
end Go.Proofs.Ytdhaelaoackfkaa.Num

namespace Go.Proofs.Ytdhaelaoackfkaa.Num
open Go.RowKit GR

/-- are a master's numbers right. -/
def okM (L : Int) (m : MC) : Bool := inB m.wt 1 4 && (if m.pr then inB m.ev L 1000 && inB m.cp 1 8 else m.ev == 0 && m.cp == 0)
def prioN (l : List MC) : Nat := l.countP (·.pr)
def leastW (l : List MC) (mr mw lm : Int) : Int := 2 * (prioN l : Int) * slotW mr mw lm
/-- is it a configuration. -/
def okC (l : List MC) (q mw mr ms lm : Int) : Bool :=
  l.all (okM (leastW l mr mw lm)) && (inB l.length 1 4 && (inB q 1 4 && (decide (0 < costW mr mw) && (inB ms 1 12 && inB lm 1 40))))
theorem prioN_le (l : List MC) : prioN l ≤ l.length := List.countP_le_length
theorem prio_step {l : List MC} {k : Nat} {x : MC} (hx : l[k]? = some x) : prioN (l.take (k + 1)) = prioN (l.take k) + if x.pr then 1 else 0 := by
  obtain ⟨h, rfl⟩ := List.getElem?_eq_some_iff.1 hx
  unfold prioN
  rw [List.take_succ_eq_append_getElem h, List.countP_append]
  congr 1
  cases hp : l[k].pr <;> simp [hp]
theorem all_step {l : List MC} {p : MC → Bool} {k : Nat} {x : MC} (hx : l[k]? = some x) (h : (l.take k).all p = true) (h1 : p x = true) : (l.take (k + 1)).all p = true := by
  obtain ⟨hk, rfl⟩ := List.getElem?_eq_some_iff.1 hx
  rw [List.take_succ_eq_append_getElem hk, List.all_append, h, List.all_cons, h1]; rfl
theorem all_bad {l : List MC} {p : MC → Bool} {k : Nat} {x : MC} (hx : l[k]? = some x) (h1 : p x = false) : l.all p = false := by
  rw [List.all_eq_false]
  exact ⟨x, List.mem_of_getElem? hx, by rw [h1]; simp⟩

theorem mul_bd {a b A B : Int} (h0 : 0 ≤ a) (h1 : a ≤ A) (h2 : 0 ≤ b) (h3 : b ≤ B) : 0 ≤ a * b ∧ a * b ≤ A * B :=
  ⟨Int.mul_nonneg h0 h2, Int.mul_le_mul h1 h3 h2 (by omega)⟩
set_option maxRecDepth 100000 in
theorem implPrio (v : Value) (l : List MC) (q mw mr ms lm : Int) (hl : l.length ≤ 2000000) (w : World) (hv : Rd mcK v l w) :
    Calls Try.prog 79 #[.agg #[v, .int .i64 q, .int .i64 mw, .int .i64 mr, .int .i64 ms, .int .i64 lm]] w fun e w' => e = .returned (.int .i64 (prioN l)) ∧ Below w.heap.size w w' := by
  obtain ⟨ad, cap, rfl, h1⟩ := hv
  obtain ⟨n, hln⟩ : ∃ n, l.length = n := ⟨_, rfl⟩
  rw [hln] at hl ⊢
  have H1 := Lib.hid h1
  have HL := Lib.hid hln
  clear h1 hln
  go_enter Try.func79, Try.ntmps79
  go_wp2
  go_loopw [3, 9] (fun q i wr => ∃ k c : Nat, k ≤ n ∧ c ≤ k ∧ q = .int .i64 c ∧ i = .int .i64 k ∧ prioN (l.take k) = c ∧ Below w.heap.size w wr) (fun _ i _ => n - (intOf i).toNat)
  case atStart => exact ⟨0, 0, by omega, by omega, rfl, rfl, rfl, (Below.refl _ _).alloc (Nat.le_refl _) _⟩
  case round =>
    obtain ⟨k, c, hk, hc, rfl, rfl, hp, hb⟩ := hrel
    have Hp := Lib.hid hp
    clear hp
    by_cases hlt : k < n
    · obtain ⟨x, hx⟩ := get_of (l := l) (i := k) (by rw [HL.out]; exact hlt)
      obtain ⟨b, o, rfl, hb1, hc1⟩ := H1.out k x hx
      obtain ⟨g0, g1, g2, g3⟩ := mc_at hc1
      rw [← below_cells hb hb1] at g0 g1 g2 g3
      have Hs := Lib.hid (prio_step hx)
      clear hc1 hx
      obtain ⟨p, hp⟩ : ∃ p, x.pr = p := ⟨_, rfl⟩
      rw [hp] at g1
      have HP := Lib.hid hp
      clear hp
      have Hb := Lib.hid (hb.alloc hb.size (Obj.cells #[.int .i64 x.wt, .bool p, .int .i64 x.ev, .int .i64 x.cp] 75))
      cases p with
      | false =>
        go_wp2
        go_roundw
        case rel => exact ⟨k + 1, c, by omega, by omega, rfl, by go_num, by rw [Hs.out, HP.out, Hp.out]; rfl, Hb.out⟩
        case measure => simp [intOf]; omega
      | true =>
        go_wp2
        go_roundw
        case rel => exact ⟨k + 1, c + 1, by omega, by omega, by go_num, by go_num, by rw [Hs.out, HP.out, Hp.out]; rfl, Hb.out⟩
        case measure => simp [intOf]; omega
    · obtain rfl : k = n := by omega
      go_wp2
      go_ret
      exact ⟨by rw [← Hp.out, List.take_of_length_le (by rw [HL.out]; omega)]; rfl, hb⟩
set_option maxRecDepth 100000 in
theorem implMOk (a : Int) (p : Bool) (b c L : Int) (w : World) :
    Calls Try.prog 80 #[.agg #[.int .i64 a, .bool p, .int .i64 b, .int .i64 c], .int .i64 L] w fun e w' => e = .returned (.bool (okM L ⟨a, p, b, c⟩)) ∧ Below w.heap.size w w' := by
  obtain ⟨b1, h1⟩ : ∃ x, inB a 1 4 = x := ⟨_, rfl⟩
  obtain ⟨b2, h2⟩ : ∃ x, inB b L 1000 = x := ⟨_, rfl⟩
  obtain ⟨b3, h3⟩ : ∃ x, inB c 1 8 = x := ⟨_, rfl⟩
  obtain ⟨b4, h4⟩ : ∃ x, (b == 0) = x := ⟨_, rfl⟩
  obtain ⟨b5, h5⟩ : ∃ x, (c == 0) = x := ⟨_, rfl⟩
  have He := Lib.hid (show okM L ⟨a, p, b, c⟩ = (b1 && (if p then b2 && b3 else b4 && b5)) by unfold okM; rw [h1, h2, h3, h4, h5])
  have H1 := Lib.hid h1
  have H2 := Lib.hid h2
  have H3 := Lib.hid h3
  clear h1 h2 h3
  cases b1 with
  | false =>
    go_enter Try.func80, Try.ntmps80
    go_wp2_with (go_at_call 78; ((with_reducible refine (within_is H1.out _).mono ?_); rintro e w' ⟨rfl, rfl⟩))
    go_ret
    exact ⟨by rw [He.out]; rfl, (Below.refl _ _).alloc (Nat.le_refl _) _⟩
  | true =>
    cases p with
    | false =>
      cases b4 <;> cases b5
      all_goals
        go_enter Try.func80, Try.ntmps80
        go_wp2_with (go_at_call 78; ((with_reducible refine (within_is H1.out _).mono ?_); rintro e w' ⟨rfl, rfl⟩))
        go_ret
        exact ⟨by rw [He.out]; rfl, (Below.refl _ _).alloc (Nat.le_refl _) _⟩
    | true =>
      cases b2 <;> cases b3
      all_goals
        go_enter Try.func80, Try.ntmps80
        go_wp2_with (go_at_call 78; first | ((with_reducible refine (within_is H1.out _).mono ?_); rintro e w' ⟨rfl, rfl⟩) | ((with_reducible refine (within_is H2.out _).mono ?_); rintro e w' ⟨rfl, rfl⟩) | ((with_reducible refine (within_is H3.out _).mono ?_); rintro e w' ⟨rfl, rfl⟩))
        go_ret
        exact ⟨by rw [He.out]; rfl, (Below.refl _ _).alloc (Nat.le_refl _) _⟩
theorem slot_pos {mr mw lm : Int} (h : ¬ slotW mr mw lm = 0) : 0 < costW mr mw ∧ inB lm 1 40 = true := by
  unfold slotW at h
  have h0 := (costW_bd mr mw).1
  split at h
  · rename_i h1; exact ⟨by omega, h1.2⟩
  · exact absurd rfl h
theorem okC_slot {l : List MC} {q mw mr ms lm : Int} (h : slotW mr mw lm = 0) : okC l q mw mr ms lm = false := by
  have h0 := costW_bd mr mw
  unfold slotW at h
  split at h
  · rename_i h1
    have := inB_iff.1 h1.2
    omega
  · rename_i h1
    unfold okC
    rw [Bool.eq_false_iff]
    intro h2
    simp only [Bool.and_eq_true, decide_eq_true_iff] at h2
    exact h1 ⟨by omega, h2.2.2.2.2.2⟩

set_option maxHeartbeats 1000000 in
set_option maxRecDepth 100000 in
theorem implConfOk (v : Value) (l : List MC) (q mw mr ms lm : Int) (hl : l.length ≤ 2000000) (w : World) (hv : Rd mcK v l w) :
    Calls Try.prog 24 #[.agg #[v, .int .i64 q, .int .i64 mw, .int .i64 mr, .int .i64 ms, .int .i64 lm]] w fun e w' => e = .returned (.bool (okC l q mw mr ms lm)) ∧ Below w.heap.size w w' := by
  have Hv := Lib.hid hv
  obtain ⟨ad, cap, rfl, h1⟩ := hv
  obtain ⟨n, hln⟩ : ∃ n, l.length = n := ⟨_, rfl⟩
  rw [hln] at hl Hv ⊢
  have H1 := Lib.hid h1
  have HL := Lib.hid hln
  obtain ⟨S, hS⟩ : ∃ S, slotW mr mw lm = S := ⟨_, rfl⟩
  have hSb := slotW_bd mr mw lm
  rw [hS] at hSb
  obtain ⟨S0, S1⟩ := hSb
  have HS := Lib.hid hS
  have A := Bx.new 28 #[.slice ad n cap, .int .i64 q, .int .i64 mw, .int .i64 mr, .int .i64 ms, .int .i64 lm] w
  obtain ⟨bq, hq⟩ : ∃ x, inB q 1 4 = x := ⟨_, rfl⟩
  obtain ⟨bs, hs⟩ : ∃ x, inB ms 1 12 = x := ⟨_, rfl⟩
  have HQ := Lib.hid hq
  have HM := Lib.hid hs
  clear h1 hln
  by_cases hz : S = 0
  · subst hz
    have He := Lib.hid (okC_slot (l := l) (q := q) (ms := ms) hS)
    clear hS A hq hs
    go_enter Try.func24, Try.ntmps24
    go_wp2_with fail
    refine (implSlot _ _ _ _ _ _ _ _ _).mono ?_
    rintro e w1 ⟨rfl, hb⟩
    rw [HS.out]
    go_wp2
    go_ret
    exact ⟨by rw [He.out]; rfl, below_alloc1 (Below.refl _ _) (Nat.le_refl _) hb⟩
  · have hz0 : (S == 0) = false := by simpa using hz
    have hc := slot_pos (by rw [hS]; exact hz)
    have HO := Lib.hid (show okC l q mw mr ms lm = (l.all (okM (leastW l mr mw lm)) && (inB n 1 4 && (bq && bs))) by
      unfold okC; rw [hq, hs, decide_eq_true hc.1, hc.2]
      have : (l.length : Int) = (n : Int) := by rw [HL.out]
      rw [this]; simp)
    clear hS hc hz hq hs
    by_cases hqs : bq = true ∧ bs = true
    · obtain ⟨rfl, rfl⟩ := hqs
      obtain ⟨bn, hn⟩ : ∃ x, inB (n : Int) 1 4 = x := ⟨_, rfl⟩
      have HN := Lib.hid hn
      cases bn with
      | false =>
        have He := Lib.hid (show okC l q mw mr ms lm = false by rw [HO.out, hn]; simp)
        clear hn
        go_enter Try.func24, Try.ntmps24
        go_wp2_with fail
        refine (implSlot _ _ _ _ _ _ _ _ _).mono ?_
        rintro e w1 ⟨rfl, hb⟩
        rw [HS.out]
        obtain ⟨g0, g1, g2, g3, g4, g5⟩ := (A.later hb).cells6
        have Hw := Lib.hid (below_alloc1 (Below.refl _ _) (Nat.le_refl _) hb)
        clear A hb
        go_wp2_with (go_at_call 78; first | ((with_reducible refine (within_is HQ.out _).mono ?_); rintro e w' ⟨rfl, rfl⟩) | ((with_reducible refine (within_is HM.out _).mono ?_); rintro e w' ⟨rfl, rfl⟩) | ((with_reducible refine (within_is HN.out _).mono ?_); rintro e w' ⟨rfl, rfl⟩))
        go_ret
        exact ⟨by rw [He.out]; rfl, Hw.out⟩
      | true =>
        obtain ⟨n1, n4⟩ := inB_iff.1 hn
        have HE := Lib.hid (show okC l q mw mr ms lm = l.all (okM (leastW l mr mw lm)) by rw [HO.out, hn]; simp)
        obtain ⟨P, hP⟩ : ∃ P, prioN l = P := ⟨_, rfl⟩
        have hPn : P ≤ n := by rw [← hP, ← HL.out]; exact prioN_le l
        have HP := Lib.hid hP
        have hm1 : wrap64 (2 * S * (P : Int)) = 2 * S * (P : Int) := by
          have := mul_bd (a := 2 * S) (b := (P : Int)) (A := 260) (B := 4) (by omega) (by omega) (by omega) (by omega)
          exact IntWalk.wrap64_in _ (by omega)
        obtain ⟨L, hL⟩ : ∃ L, 2 * S * (P : Int) = L := ⟨_, rfl⟩
        have Hm1 := Lib.hid (hm1.trans hL)
        clear hm1
        have HLL := Lib.hid (show leastW l mr mw lm = L by unfold leastW; rw [HS.out, HP.out, ← hL, Int.mul_assoc, Int.mul_assoc, Int.mul_comm S])
        clear hn hP hL
        go_enter Try.func24, Try.ntmps24
        go_wp2_with fail
        refine (implSlot _ _ _ _ _ _ _ _ _).mono ?_
        rintro e w1 ⟨rfl, hb⟩
        rw [HS.out]
        have A1 := A.later hb
        obtain ⟨g0, g1, g2, g3, g4, g5⟩ := A1.cells6
        have Hw := Lib.hid (below_alloc1 (Below.refl _ _) (Nat.le_refl _) hb)
        have Hv1 := Lib.hid (Hv.out.below Hw.out)
        clear A hb
        go_wp2_with (go_at_call 78; first | ((with_reducible refine (within_is HQ.out _).mono ?_); rintro e w' ⟨rfl, rfl⟩) | ((with_reducible refine (within_is HM.out _).mono ?_); rintro e w' ⟨rfl, rfl⟩) | ((with_reducible refine (within_is HN.out _).mono ?_); rintro e w' ⟨rfl, rfl⟩))
        refine (implPrio _ l _ _ _ _ _ (by rw [HL.out]; exact hl) _ Hv1.out).mono ?_
        rintro e w2 ⟨rfl, hb2⟩
        rw [HP.out]
        obtain ⟨k0, k1, k2, k3, k4, k5⟩ := (A1.later hb2).cells6
        have Hw2 := Lib.hid (Hw.out.trans (hb2.mono Hw.out.size))
        clear A1 hb2 g0 g1 g2 g3 g4 g5
        go_wp2_with fail
        rw [Hm1.out]
        go_loopw [36] (fun i wr => ∃ k : Nat, k ≤ n ∧ i = .int .i64 k ∧ (l.take k).all (okM L) = true ∧ Below w.heap.size w wr) (fun i _ => n - (intOf i).toNat)
        case atStart => exact ⟨0, by omega, rfl, by simp, Hw2.out⟩
        case round =>
          obtain ⟨k, hk, rfl, ha, hb⟩ := hrel
          have Ha := Lib.hid ha
          clear ha
          by_cases hlt : k < n
          · obtain ⟨x, hx⟩ := get_of (l := l) (i := k) (by rw [HL.out]; exact hlt)
            obtain ⟨b, o, rfl, hb1, hc1⟩ := H1.out k x hx
            obtain ⟨g0, g1, g2, g3⟩ := mc_at hc1
            rw [← below_cells hb hb1] at g0 g1 g2 g3
            have Hx := Lib.hid hx
            have Hb := Lib.hid (hb.alloc hb.size (Obj.cells #[.int .i64 x.wt, .bool x.pr, .int .i64 x.ev, .int .i64 x.cp] 75))
            obtain ⟨bx, hbx⟩ : ∃ bx, okM L ⟨x.wt, x.pr, x.ev, x.cp⟩ = bx := ⟨_, rfl⟩
            have HX := Lib.hid hbx
            have hbsz : w.heap.size ≤ (wr.alloc (Obj.cells #[.int .i64 x.wt, .bool x.pr, .int .i64 x.ev, .int .i64 x.cp] 75)).heap.size := Hb.out.size
            clear hc1 hx hbx
            cases bx with
            | true =>
              go_wp2_with fail
              refine (implMOk _ _ _ _ _ _).mono ?_
              rintro e w3 ⟨rfl, hb3⟩
              rw [HX.out]
              have Hb3 := Lib.hid (Hb.out.trans (hb3.mono hbsz))
              clear hb3 g0 g1 g2 g3
              go_wp2_with fail
              go_roundw
              case rel => exact ⟨k + 1, by omega, by go_num, all_step Hx.out Ha.out HX.out, Hb3.out⟩
              case measure => simp [intOf]; omega
            | false =>
              have He := Lib.hid (all_bad (p := okM L) Hx.out HX.out)
              go_wp2_with fail
              refine (implMOk _ _ _ _ _ _).mono ?_
              rintro e w3 ⟨rfl, hb3⟩
              rw [HX.out]
              have Hb3 := Lib.hid (Hb.out.trans (hb3.mono hbsz))
              clear hb3 g0 g1 g2 g3
              go_wp2_with fail
              go_ret
              exact ⟨by rw [HE.out, HLL.out, He.out]; rfl, Hb3.out⟩
          · obtain rfl : k = n := by omega
            go_wp2
            go_ret
            refine ⟨?_, hb⟩
            have := Ha.out
            rw [List.take_of_length_le (by rw [HL.out]; omega)] at this
            rw [HE.out, HLL.out, this]; rfl
    · have He := Lib.hid (show okC l q mw mr ms lm = false by
        rw [HO.out]; cases bq <;> cases bs <;> simp_all)
      cases bq <;> cases bs
      all_goals first
        | exact absurd ⟨rfl, rfl⟩ hqs
        | (clear hqs
           go_enter Try.func24, Try.ntmps24
           go_wp2_with fail
           refine (implSlot _ _ _ _ _ _ _ _ _).mono ?_
           rintro e w1 ⟨rfl, hb⟩
           rw [HS.out]
           obtain ⟨g0, g1, g2, g3, g4, g5⟩ := (A.later hb).cells6
           have Hw := Lib.hid (below_alloc1 (Below.refl _ _) (Nat.le_refl _) hb)
           clear A hb
           go_wp2_with (go_at_call 78; first | ((with_reducible refine (within_is HQ.out _).mono ?_); rintro e w' ⟨rfl, rfl⟩) | ((with_reducible refine (within_is HM.out _).mono ?_); rintro e w' ⟨rfl, rfl⟩))
           go_ret
           exact ⟨by rw [He.out]; rfl, Hw.out⟩)
end Go.Proofs.Ytdhaelaoackfkaa.Num

namespace Go.Proofs.Ytdhaelaoackfkaa.Num
open Go.RowKit GR

set_option maxRecDepth 100000 in
theorem specLim (ad : Option Addr) (n cap : Nat) (q mw mr ms lm : Int) (w : World) :
    Calls Try.prog 74 #[.agg #[.slice ad n cap, .int .i64 q, .int .i64 mw, .int .i64 mr, .int .i64 ms, .int .i64 lm]] w fun e w' => e = .returned (.bool (inB q 1 4 && (decide (0 < costW mr mw) && (inB ms 1 12 && inB lm 1 40)))) ∧ Below w.heap.size w w' := by
  obtain ⟨c, hc⟩ : ∃ c, costW mr mw = c := ⟨_, rfl⟩
  have hbd := costW_bd mr mw
  rw [hc] at hbd ⊢
  obtain ⟨c0, c1⟩ := hbd
  have Hc := Lib.hid hc
  obtain ⟨bq, hq⟩ : ∃ x, inB q 1 4 = x := ⟨_, rfl⟩
  obtain ⟨bs, hs⟩ : ∃ x, inB ms 1 12 = x := ⟨_, rfl⟩
  obtain ⟨bl, hl⟩ : ∃ x, inB lm 1 40 = x := ⟨_, rfl⟩
  have HQ := Lib.hid hq
  have HM := Lib.hid hs
  have HK := Lib.hid hl
  rw [hq, hs, hl]
  have A := Bx.new 28 #[.slice ad n cap, .int .i64 q, .int .i64 mw, .int .i64 mr, .int .i64 ms, .int .i64 lm] w
  clear hc hq hs hl
  cases bq with
  | false =>
    go_enter Try.func74, Try.ntmps74
    go_wp2_with (go_at_call 72; ((with_reducible refine (l1In_is HQ.out _).mono ?_); rintro e w' ⟨rfl, rfl⟩))
    go_ret
    exact ⟨rfl, (Below.refl _ _).alloc (Nat.le_refl _) _⟩
  | true =>
    by_cases hz : 0 < c
    · have hz0 : decide (0 < c) = true := by simp [hz]
      cases bs <;> cases bl
      all_goals
        go_enter Try.func74, Try.ntmps74
        go_wp2_with (go_at_call 72; ((with_reducible refine (l1In_is HQ.out _).mono ?_); rintro e w' ⟨rfl, rfl⟩))
        refine (specCost_is Hc.out _).mono ?_
        rintro e w1 ⟨rfl, hb⟩
        obtain ⟨g0, g1, g2, g3, g4, g5⟩ := (A.later hb).cells6
        have Hw := Lib.hid (below_alloc1 (Below.refl _ _) (Nat.le_refl _) hb)
        clear hb
        go_wp2_with (go_at_call 72; first | ((with_reducible refine (l1In_is HM.out _).mono ?_); rintro e w' ⟨rfl, rfl⟩) | ((with_reducible refine (l1In_is HK.out _).mono ?_); rintro e w' ⟨rfl, rfl⟩))
        go_ret
        exact ⟨by simp [hz], Hw.out⟩
    · obtain rfl : c = 0 := by omega
      clear c0 c1 hz
      go_enter Try.func74, Try.ntmps74
      go_wp2_with (go_at_call 72; ((with_reducible refine (l1In_is HQ.out _).mono ?_); rintro e w' ⟨rfl, rfl⟩))
      refine (specCost_is Hc.out _).mono ?_
      rintro e w1 ⟨rfl, hb⟩
      go_wp2
      go_ret
      exact ⟨rfl, below_alloc1 (Below.refl _ _) (Nat.le_refl _) hb⟩
theorem specSlot_is {ad : Option Addr} {n cap : Nat} {q mw mr ms lm c : Int} (h : slotW mr mw lm = c) (w : World) :
    Calls Try.prog 73 #[.agg #[.slice ad n cap, .int .i64 q, .int .i64 mw, .int .i64 mr, .int .i64 ms, .int .i64 lm]] w fun e w' => e = .returned (.int .i64 c) ∧ Below w.heap.size w w' := by rw [← h]; exact specSlot ad n cap q mw mr ms lm w
set_option maxHeartbeats 2000000 in
set_option maxRecDepth 100000 in
theorem specConfOk (v : Value) (l : List MC) (q mw mr ms lm : Int) (hl : l.length ≤ 2000000) (w : World) (hv : Rd mcK v l w) :
    Calls Try.prog 19 #[.agg #[v, .int .i64 q, .int .i64 mw, .int .i64 mr, .int .i64 ms, .int .i64 lm]] w fun e w' => e = .returned (.bool (okC l q mw mr ms lm)) ∧ Below w.heap.size w w' := by
  obtain ⟨ad, cap, rfl, h1⟩ := hv
  obtain ⟨n, hln⟩ : ∃ n, l.length = n := ⟨_, rfl⟩
  rw [hln] at hl ⊢
  have H1 := Lib.hid h1
  have HL := Lib.hid hln
  obtain ⟨S, hS⟩ : ∃ S, slotW mr mw lm = S := ⟨_, rfl⟩
  have hSb := slotW_bd mr mw lm
  rw [hS] at hSb
  obtain ⟨S0, S1⟩ := hSb
  have HS := Lib.hid hS
  have A := Lib.hid (Bx.new 28 #[.slice ad n cap, .int .i64 q, .int .i64 mw, .int .i64 mr, .int .i64 ms, .int .i64 lm] w)
  have Hw := Lib.hid ((Below.refl w.heap.size w).alloc (Nat.le_refl _) (Obj.cells #[.slice ad n cap, .int .i64 q, .int .i64 mw, .int .i64 mr, .int .i64 ms, .int .i64 lm] 28))
  clear h1 hln hS
  go_enter Try.func19, Try.ntmps19
  go_wp2_with fail
  go_loopw [3, 4] (fun u i wr => ∃ k c : Nat, k ≤ n ∧ c ≤ k ∧ u = .int .i64 c ∧ i = .int .i64 k ∧ prioN (l.take k) = c ∧ wr = w.alloc (Obj.cells #[.slice ad n cap, .int .i64 q, .int .i64 mw, .int .i64 mr, .int .i64 ms, .int .i64 lm] 28)) (fun _ i _ => n - (intOf i).toNat)
  case atStart => exact ⟨0, 0, by omega, by omega, rfl, rfl, rfl, rfl⟩
  case round =>
    obtain ⟨k, c, hk, hc, rfl, rfl, hp, rfl⟩ := hrel
    have Hp := Lib.hid hp
    clear hp
    by_cases hlt : k < n
    · obtain ⟨x, hx⟩ := get_of (l := l) (i := k) (by rw [HL.out]; exact hlt)
      obtain ⟨b, o, rfl, hb1, hc1⟩ := H1.out k x hx
      obtain ⟨-, g1, -, -⟩ := mc_at hc1
      rw [← below_cells Hw.out hb1] at g1
      have Hs := Lib.hid (prio_step hx)
      clear hc1 hx
      obtain ⟨p, hp⟩ : ∃ p, x.pr = p := ⟨_, rfl⟩
      rw [hp] at g1
      have HP := Lib.hid hp
      clear hp
      cases p with
      | false =>
        go_wp2
        go_roundw
        case rel => exact ⟨k + 1, c, by omega, by omega, rfl, by go_num, by rw [Hs.out, HP.out, Hp.out]; rfl, by trivial⟩
        case measure => simp [intOf]; omega
      | true =>
        go_wp2
        go_roundw
        case rel => exact ⟨k + 1, c + 1, by omega, by omega, by go_num, by go_num, by rw [Hs.out, HP.out, Hp.out]; rfl, by trivial⟩
        case measure => simp [intOf]; omega
    · obtain rfl : n = k := by omega
      have hP : prioN l = c := by rw [← Hp.out, List.take_of_length_le (by rw [HL.out]; omega)]
      have HP := Lib.hid hP
      have HLL := Lib.hid (show wrap64 (2 * (c : Int) * S) = leastW l mr mw lm by
        have := mul_bd (a := 2 * (c : Int)) (b := S) (A := 4000000) (B := 130) (by omega) (by omega) (by omega) (by omega)
        rw [IntWalk.wrap64_in _ (by omega)]
        unfold leastW; rw [HS.out, HP.out])
      clear hP hlt hk
      generalize w.alloc (Obj.cells #[.slice ad n cap, .int .i64 q, .int .i64 mw, .int .i64 mr, .int .i64 ms, .int .i64 lm] 28) = ww at A Hw ⊢
      have hA := A.out.lt
      obtain ⟨L, hL⟩ : ∃ L, leastW l mr mw lm = L := ⟨_, rfl⟩
      rw [hL] at HLL
      have HE := Lib.hid (show okC l q mw mr ms lm = (l.all (okM L) && (inB n 1 4 && (inB q 1 4 && (decide (0 < costW mr mw) && (inB ms 1 12 && inB lm 1 40))))) by
        unfold okC; rw [hL]; have : (l.length : Int) = (n : Int) := by rw [HL.out]
        rw [this])
      clear hL
      obtain ⟨g0, g1, g2, g3, g4, g5⟩ := A.out.cells6
      go_wp2_with fail
      clear g0 g1 g2 g3 g4 g5
      go_loopw [5] (fun i wr => ∃ k : Nat, k ≤ n ∧ i = .int .i64 k ∧ (l.take k).all (okM L) = true ∧ Below ww.heap.size ww wr) (fun i _ => n - (intOf i).toNat)
      case atStart => exact ⟨0, by omega, rfl, by simp, Below.refl _ _⟩
      case round =>
        obtain ⟨k, hk, rfl, ha, hb⟩ := hrel
        have Ha := Lib.hid ha
        have Hb := Lib.hid hb
        have A1 := Lib.hid (A.out.later hb)
        have Hbw := Lib.hid (Hw.out.trans (hb.mono Hw.out.size))
        obtain ⟨g0, g1, g2, g3, g4, g5⟩ := A1.out.cells6
        clear ha hb
        by_cases hlt : k < n
        · obtain ⟨x, hx⟩ := get_of (l := l) (i := k) (by rw [HL.out]; exact hlt)
          obtain ⟨b, o, rfl, hb1, hc1⟩ := H1.out k x hx
          obtain ⟨k0, k1, k2, k3⟩ := mc_at hc1
          rw [← below_cells Hbw.out hb1] at k0 k1 k2 k3
          have Hx := Lib.hid hx
          clear hc1 hx
          obtain ⟨a0, p, b0, c0⟩ := x
          dsimp only at k0 k1 k2 k3
          obtain ⟨b1, e1⟩ : ∃ y, inB a0 1 4 = y := ⟨_, rfl⟩
          obtain ⟨b2, e2⟩ : ∃ y, inB b0 L 1000 = y := ⟨_, rfl⟩
          obtain ⟨b3, e3⟩ : ∃ y, inB c0 1 8 = y := ⟨_, rfl⟩
          obtain ⟨b4, e4⟩ : ∃ y, (b0 != 0) = y := ⟨_, rfl⟩
          obtain ⟨b5, e5⟩ : ∃ y, (c0 != 0) = y := ⟨_, rfl⟩
          have f4 : (b0 == 0) = !b4 := by rw [← e4, bne, Bool.not_not]
          have f5 : (c0 == 0) = !b5 := by rw [← e5, bne, Bool.not_not]
          have HO := Lib.hid (show okM L ⟨a0, p, b0, c0⟩ = (b1 && (if p then b2 && b3 else !b4 && !b5)) by unfold okM; rw [e1, e2, e3, f4, f5])
          have E1 := Lib.hid e1
          have E2 := Lib.hid (show inB b0 (wrap64 (2 * (c : Int) * S)) 1000 = b2 by rw [HLL.out]; exact e2)
          have E3 := Lib.hid e3
          clear e1 e2 e3 f4 f5
          have hreg : ∀ {bb : Nat}, bb < wr.heap.size → ∀ i u, wr.cell? ⟨bb, i, none⟩ = some u → ∀ d os, (Sort.grow (redrawn (wr.alloc (Obj.cells #[.int .i64 a0, .bool p, .int .i64 b0, .int .i64 c0] 75)) d) os).cell? ⟨bb, i, none⟩ = some u := fun hbb i u hu d os => cell_regrown ((below_cells ((Below.refl wr.heap.size wr).alloc (Nat.le_refl _) _) hbb i).trans hu) d os
          have X := Bx.new 75 #[.int .i64 a0, .bool p, .int .i64 b0, .int .i64 c0] wr
          obtain ⟨x0, x1, x2, x3⟩ := X.cells4
          have hA1 := A1.out.lt
          have y0 := fun d os => cell_regrown x0 d os
          have y1 := fun d os => cell_regrown x1 d os
          have y2 := fun d os => cell_regrown x2 d os
          have y3 := fun d os => cell_regrown x3 d os
          have z0 := hreg hA1 0 _ g0
          have z1 := hreg hA1 1 _ g1
          have z2 := hreg hA1 2 _ g2
          have z3 := hreg hA1 3 _ g3
          have z4 := hreg hA1 4 _ g4
          have z5 := hreg hA1 5 _ g5
          have Hal := Lib.hid ((Below.refl wr.heap.size wr).alloc (Nat.le_refl _) (Obj.cells #[.int .i64 a0, .bool p, .int .i64 b0, .int .i64 c0] 75))
          clear hreg X x0 x1 x2 x3
          cases b1 with
          | false =>
            have He := Lib.hid (all_bad (p := okM L) Hx.out (by rw [HO.out]; rfl))
            go_wp2_with fail
            refine wp_region_quiet_below (by kernel_rfl) (by kernel_rfl) ?_
            repeat (go_big_quiet_step (first | (go_at_call 72; first | (with_reducible exact Calls.regrown_of (l1In_isB E1.out _)) | (with_reducible exact Calls.regrown_of (l1In_isB E2.out _)) | (with_reducible exact Calls.regrown_of (l1In_isB E3.out _))) | (go_at_call 73; exact Calls.regrown_of (specSlot_is HS.out _))))
            refine wpQuiet_nil ?_
            rintro _ ⟨⟨dq, osq⟩, rfl⟩
            have Hq := Lib.hid (Hal.out.trans ((below_regrown (wr.alloc (Obj.cells #[.int .i64 a0, .bool _, .int .i64 b0, .int .i64 c0] 75)) dq osq).mono Hal.out.size))
            clear y0 y1 y2 y3 z0 z1 z2 z3 z4 z5 g0 g1 g2 g3 g4 g5
            go_wp2_with fail
            go_ret
            exact ⟨by rw [HE.out, He.out]; rfl, Hbw.out.trans (Hq.out.mono Hbw.out.size)⟩
          | true =>
            cases p with
            | false =>
              cases b4 with
              | true =>
                have He := Lib.hid (all_bad (p := okM L) Hx.out (by rw [HO.out]; rfl))
                go_wp2_with fail
                refine wp_region_quiet_below (by kernel_rfl) (by kernel_rfl) ?_
                repeat (go_big_quiet_step (first | (go_at_call 72; first | (with_reducible exact Calls.regrown_of (l1In_isB E1.out _)) | (with_reducible exact Calls.regrown_of (l1In_isB E2.out _)) | (with_reducible exact Calls.regrown_of (l1In_isB E3.out _))) | (go_at_call 73; exact Calls.regrown_of (specSlot_is HS.out _))))
                refine wpQuiet_nil ?_
                rintro _ ⟨⟨dq, osq⟩, rfl⟩
                have Hq := Lib.hid (Hal.out.trans ((below_regrown (wr.alloc (Obj.cells #[.int .i64 a0, .bool _, .int .i64 b0, .int .i64 c0] 75)) dq osq).mono Hal.out.size))
                clear y0 y1 y2 y3 z0 z1 z2 z3 z4 z5 g0 g1 g2 g3 g4 g5
                go_wp2_with fail
                go_ret
                exact ⟨by rw [HE.out, He.out]; rfl, Hbw.out.trans (Hq.out.mono Hbw.out.size)⟩
              | false =>
                cases b5 with
                | true =>
                  have He := Lib.hid (all_bad (p := okM L) Hx.out (by rw [HO.out]; rfl))
                  go_wp2_with fail
                  refine wp_region_quiet_below (by kernel_rfl) (by kernel_rfl) ?_
                  repeat (go_big_quiet_step (first | (go_at_call 72; first | (with_reducible exact Calls.regrown_of (l1In_isB E1.out _)) | (with_reducible exact Calls.regrown_of (l1In_isB E2.out _)) | (with_reducible exact Calls.regrown_of (l1In_isB E3.out _))) | (go_at_call 73; exact Calls.regrown_of (specSlot_is HS.out _))))
                  refine wpQuiet_nil ?_
                  rintro _ ⟨⟨dq, osq⟩, rfl⟩
                  have Hq := Lib.hid (Hal.out.trans ((below_regrown (wr.alloc (Obj.cells #[.int .i64 a0, .bool _, .int .i64 b0, .int .i64 c0] 75)) dq osq).mono Hal.out.size))
                  clear y0 y1 y2 y3 z0 z1 z2 z3 z4 z5 g0 g1 g2 g3 g4 g5
                  go_wp2_with fail
                  go_ret
                  exact ⟨by rw [HE.out, He.out]; rfl, Hbw.out.trans (Hq.out.mono Hbw.out.size)⟩
                | false =>
                  have Hs := Lib.hid (all_step (p := okM L) Hx.out Ha.out (by rw [HO.out]; rfl))
                  go_wp2_with fail
                  refine wp_region_quiet_below (by kernel_rfl) (by kernel_rfl) ?_
                  repeat (go_big_quiet_step (first | (go_at_call 72; first | (with_reducible exact Calls.regrown_of (l1In_isB E1.out _)) | (with_reducible exact Calls.regrown_of (l1In_isB E2.out _)) | (with_reducible exact Calls.regrown_of (l1In_isB E3.out _))) | (go_at_call 73; exact Calls.regrown_of (specSlot_is HS.out _))))
                  refine wpQuiet_nil ?_
                  rintro _ ⟨⟨dq, osq⟩, rfl⟩
                  have Hq := Lib.hid (Hal.out.trans ((below_regrown (wr.alloc (Obj.cells #[.int .i64 a0, .bool _, .int .i64 b0, .int .i64 c0] 75)) dq osq).mono Hal.out.size))
                  clear y0 y1 y2 y3 z0 z1 z2 z3 z4 z5 g0 g1 g2 g3 g4 g5
                  go_wp2_with fail
                  go_roundw
                  case rel => exact ⟨k + 1, by omega, by go_num, Hs.out, Hb.out.trans (Hq.out.mono Hb.out.size)⟩
                  case measure => simp [intOf]; omega
            | true =>
              cases b2 with
              | false =>
                have He := Lib.hid (all_bad (p := okM L) Hx.out (by rw [HO.out]; rfl))
                go_wp2_with fail
                refine wp_region_quiet_below (by kernel_rfl) (by kernel_rfl) ?_
                repeat (go_big_quiet_step (first | (go_at_call 72; first | (with_reducible exact Calls.regrown_of (l1In_isB E1.out _)) | (with_reducible exact Calls.regrown_of (l1In_isB E2.out _)) | (with_reducible exact Calls.regrown_of (l1In_isB E3.out _))) | (go_at_call 73; exact Calls.regrown_of (specSlot_is HS.out _))))
                refine wpQuiet_nil ?_
                rintro _ ⟨⟨dq, osq⟩, rfl⟩
                have Hq := Lib.hid (Hal.out.trans ((below_regrown (wr.alloc (Obj.cells #[.int .i64 a0, .bool _, .int .i64 b0, .int .i64 c0] 75)) dq osq).mono Hal.out.size))
                clear y0 y1 y2 y3 z0 z1 z2 z3 z4 z5 g0 g1 g2 g3 g4 g5
                go_wp2_with fail
                go_ret
                exact ⟨by rw [HE.out, He.out]; rfl, Hbw.out.trans (Hq.out.mono Hbw.out.size)⟩
              | true =>
                cases b3 with
                | false =>
                  have He := Lib.hid (all_bad (p := okM L) Hx.out (by rw [HO.out]; rfl))
                  go_wp2_with fail
                  refine wp_region_quiet_below (by kernel_rfl) (by kernel_rfl) ?_
                  repeat (go_big_quiet_step (first | (go_at_call 72; first | (with_reducible exact Calls.regrown_of (l1In_isB E1.out _)) | (with_reducible exact Calls.regrown_of (l1In_isB E2.out _)) | (with_reducible exact Calls.regrown_of (l1In_isB E3.out _))) | (go_at_call 73; exact Calls.regrown_of (specSlot_is HS.out _))))
                  refine wpQuiet_nil ?_
                  rintro _ ⟨⟨dq, osq⟩, rfl⟩
                  have Hq := Lib.hid (Hal.out.trans ((below_regrown (wr.alloc (Obj.cells #[.int .i64 a0, .bool _, .int .i64 b0, .int .i64 c0] 75)) dq osq).mono Hal.out.size))
                  clear y0 y1 y2 y3 z0 z1 z2 z3 z4 z5 g0 g1 g2 g3 g4 g5
                  go_wp2_with fail
                  go_ret
                  exact ⟨by rw [HE.out, He.out]; rfl, Hbw.out.trans (Hq.out.mono Hbw.out.size)⟩
                | true =>
                  have Hs := Lib.hid (all_step (p := okM L) Hx.out Ha.out (by rw [HO.out]; rfl))
                  go_wp2_with fail
                  refine wp_region_quiet_below (by kernel_rfl) (by kernel_rfl) ?_
                  repeat (go_big_quiet_step (first | (go_at_call 72; first | (with_reducible exact Calls.regrown_of (l1In_isB E1.out _)) | (with_reducible exact Calls.regrown_of (l1In_isB E2.out _)) | (with_reducible exact Calls.regrown_of (l1In_isB E3.out _))) | (go_at_call 73; exact Calls.regrown_of (specSlot_is HS.out _))))
                  refine wpQuiet_nil ?_
                  rintro _ ⟨⟨dq, osq⟩, rfl⟩
                  have Hq := Lib.hid (Hal.out.trans ((below_regrown (wr.alloc (Obj.cells #[.int .i64 a0, .bool _, .int .i64 b0, .int .i64 c0] 75)) dq osq).mono Hal.out.size))
                  clear y0 y1 y2 y3 z0 z1 z2 z3 z4 z5 g0 g1 g2 g3 g4 g5
                  go_wp2_with fail
                  go_roundw
                  case rel => exact ⟨k + 1, by omega, by go_num, Hs.out, Hb.out.trans (Hq.out.mono Hb.out.size)⟩
                  case measure => simp [intOf]; omega
        · obtain rfl : n = k := by omega
          have Hal := Lib.hid (show l.all (okM L) = true by have := Ha.out; rwa [List.take_of_length_le (by rw [HL.out]; omega)] at this)
          obtain ⟨bn, hn⟩ : ∃ x, inB (n : Int) 1 4 = x := ⟨_, rfl⟩
          have HN := Lib.hid hn
          rw [hn] at HE
          clear hn
          have hsz := A1.out.lt
          cases bn with
          | false =>
            go_wp2_with (go_at_call 72; ((with_reducible refine (l1In_is HN.out _).mono ?_); rintro e w' ⟨rfl, rfl⟩))
            go_ret
            exact ⟨by rw [HE.out, Hal.out]; rfl, Hbw.out⟩
          | true =>
            obtain ⟨B, hB⟩ : ∃ B, (inB q 1 4 && (decide (0 < costW mr mw) && (inB ms 1 12 && inB lm 1 40))) = B := ⟨_, rfl⟩
            rw [hB] at HE
            have HB := Lib.hid hB
            clear hB
            go_wp2_with (go_at_call 72; ((with_reducible refine (l1In_is HN.out _).mono ?_); rintro e w' ⟨rfl, rfl⟩))
            refine (specLim _ _ _ _ _ _ _ _ _).mono ?_
            rintro e w5 ⟨rfl, hb5⟩
            rw [HB.out]
            have Hb5 := Lib.hid (Hbw.out.trans (hb5.mono Hbw.out.size))
            clear hb5
            go_wp2_with fail
            go_ret
            exact ⟨by rw [HE.out, Hal.out]; rfl, Hb5.out⟩
end Go.Proofs.Ytdhaelaoackfkaa.Num

namespace Go.Proofs.Ytdhaelaoackfkaa.KD
open Go.RowKit Rows3 GR Num
set_option linter.unusedVariables false

abbrev ConfX := List (Int × Bool × Int × Int) × Int × Int × Int × Int × Int
def mcOf (x : Int × Bool × Int × Int) : MC := ⟨x.1, x.2.1, x.2.2.1, x.2.2.2⟩
theorem rd_mconfs {v : Value} {l : List (Int × Bool × Int × Int)} {w : World} (h : mConfS.rd [v] l w) : Rd mcK v (l.map mcOf) w := by
  obtain ⟨ad, cp, e, hl, h⟩ := h
  obtain rfl : v = .slice ad l.length cp := by simpa using e
  refine ⟨ad, cp, by rw [List.length_map], fun i x hi => ?_⟩
  rw [List.getElem?_map] at hi
  obtain ⟨y, hy, rfl⟩ := Option.map_eq_some_iff.1 hi
  obtain ⟨b, o, es, e1, h1, h2, h3⟩ := h i y hy
  obtain ⟨y0, y1, y2, y3⟩ := y
  obtain rfl := mConf_form h3
  exact ⟨b, o, e1, h1, fun j u hu => h2 j u hu⟩
theorem rd_conf {cs : List Value} {l : List (Int × Bool × Int × Int)} {q mw mr ms lm : Int} {w : World} (h : confK.rd cs (l, q, mw, mr, ms, lm) w) :
    ∃ a0 p0, cs = [.slice a0 l.length p0, .int .i64 q, .int .i64 mw, .int .i64 mr, .int .i64 ms, .int .i64 lm] ∧ Rd mcK (.slice a0 l.length p0) (l.map mcOf) w := by
  obtain ⟨a0, p0, rfl, h0⟩ := conf_form h
  exact ⟨a0, p0, rfl, rd_mconfs h0⟩
/-- is it a configuration. -/
def okX (c : ConfX) : Bool := okC (c.1.map mcOf) c.2.1 c.2.2.1 c.2.2.2.1 c.2.2.2.2.1 c.2.2.2.2.2
theorem conf_len {l : List (Int × Bool × Int × Int)} {q mw mr ms lm : Int} (h : confK.sz (l, q, mw, mr, ms, lm) ≤ 2000000) : l.length ≤ 2000000 := by
  rw [conf_sz] at h
  have := szL_len mConfK l
  have e : mConfS.sz l = szL mConfK l := rfl
  omega
theorem specConfX (cs : List Value) (l : List (Int × Bool × Int × Int)) (q mw mr ms lm : Int) (hl : l.length ≤ 2000000) (w : World) (h : confK.rd cs (l, q, mw, mr, ms, lm) w) :
    Calls Try.prog 19 #[agg cs] w fun e w' => e = .returned (.bool (okX (l, q, mw, mr, ms, lm))) ∧ Below w.heap.size w w' := by
  obtain ⟨a0, p0, rfl, h0⟩ := rd_conf h
  exact specConfOk _ (l.map mcOf) q mw mr ms lm (by rw [List.length_map]; exact hl) w h0
theorem implConfX (cs : List Value) (l : List (Int × Bool × Int × Int)) (q mw mr ms lm : Int) (hl : l.length ≤ 2000000) (w : World) (h : confK.rd cs (l, q, mw, mr, ms, lm) w) :
    Calls Try.prog 24 #[agg cs] w fun e w' => e = .returned (.bool (okX (l, q, mw, mr, ms, lm))) ∧ Below w.heap.size w w' := by
  obtain ⟨a0, p0, rfl, h0⟩ := rd_conf h
  exact implConfOk _ (l.map mcOf) q mw mr ms lm (by rw [List.length_map]; exact hl) w h0
end Go.Proofs.Ytdhaelaoackfkaa.KD
