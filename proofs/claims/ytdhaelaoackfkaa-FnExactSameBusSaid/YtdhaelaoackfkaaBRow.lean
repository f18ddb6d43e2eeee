
/-
  Are two rows of structs the same: slices.Equal on buckets and on log entries, the model's own way on log entries. (Made by wip/gbus.py.)
-/
import Derived.Test.YtdhaelaoackfkaaBEq
import Derived.Test.YtdhaelaoackfkaaKBucketS
import Derived.Test.YtdhaelaoackfkaaGK13
import Derived.Test.YtdhaelaoackfkaaGConf13
import Derived.Deep.RegionHeld3
namespace Go.Proofs.Ytdhaelaoackfkaa.KD
open Go.RowKit Rows3 GR Num
set_option linter.unusedVariables false
set_option maxHeartbeats 8000000 in
set_option maxRecDepth 100000 in
theorem equalBuckets (a0 : Option Addr) (n p0 : Nat) (l : List (Int × Int)) (a1 : Option Addr) (n1 p1 : Nat) (m : List (Int × Int)) (hn : l.length = n) (hn1 : m.length = n1) (hs : n ≤ 2000000) (w : World) (h : bucketS.rd [.slice a0 n p0] l w) (h1 : bucketS.rd [.slice a1 n1 p1] m w) :
    Calls Try.prog 68 #[.slice a0 n p0, .slice a1 n1 p1] w fun e w' => e = .returned (.bool (same l m)) ∧ Below w.heap.size w w' := by
  have HN := Lib.hid hn
  have HM := Lib.hid hn1
  have H0 := Lib.hid h
  have H1 := Lib.hid h1
  obtain ⟨R, hR0⟩ : ∃ R, same l m = R := ⟨_, rfl⟩
  rw [hR0]
  have HR := Lib.hid hR0
  clear h h1 hn hn1 hR0
  by_cases hnn : n = n1
  · subst hnn
    have hne : (((n : Nat) : Int) != ((n : Nat) : Int)) = false := by simp
    go_enter Try.func68, Try.ntmps68
    go_wp2_with fail
    go_loopw [13] (fun i wr => ∃ j : Nat, j ≤ n ∧ i = .int .i64 j ∧ Hid (upTo l m j) ∧ Hid (Below w.heap.size w wr)) (fun i _ => n - (intOf i).toNat)
    case atStart => exact ⟨0, by omega, rfl, Lib.hid rfl, Lib.hid (Below.refl _ _)⟩
    case round =>
      obtain ⟨j, hj, rfl, HQ, HB⟩ := hrel
      by_cases hlt : j < n
      · obtain ⟨x, hx⟩ := get_of (l := l) (i := j) (by rw [HN.out]; exact hlt)
        obtain ⟨y, hy⟩ := get_of (l := m) (i := j) (by rw [HM.out]; exact hlt)
        have HX := Lib.hid hx
        have HY := Lib.hid hy
        obtain ⟨u, hu⟩ : ∃ u, same x y = u := ⟨_, rfl⟩
        have HU := Lib.hid hu
        obtain ⟨b, o, _, es, e, _, _, lt, c, rx⟩ := row_rd H0.out hx
        simp at e
        obtain ⟨rfl, -, rfl⟩ := e
        obtain ⟨b2, o2, _, es2, e2, _, _, lt2, c2, ry⟩ := row_rd H1.out hy
        simp at e2
        obtain ⟨rfl, -, rfl⟩ := e2
        obtain ⟨x0, x1⟩ := x
        obtain ⟨y0, y1⟩ := y
        obtain rfl := bucket_form rx
        obtain rfl := bucket_form ry
        have g0 : w.cell? ⟨b, o + j * 2, none⟩ = some (.int .i64 x0) := c 0 _ rfl
        have g1 : w.cell? ⟨b, o + j * 2 + 1, none⟩ = some (.int .i64 x1) := c 1 _ rfl
        rw [← bel_cells HB.out lt] at g0 g1
        have k0 : w.cell? ⟨b2, o2 + j * 2, none⟩ = some (.int .i64 y0) := c2 0 _ rfl
        have k1 : w.cell? ⟨b2, o2 + j * 2 + 1, none⟩ = some (.int .i64 y1) := c2 1 _ rfl
        rw [← bel_cells HB.out lt2] at k0 k1
        have hq := neqBucket x0 x1 y0 y1
        rw [hu] at hq
        have hgd := guardBucket
        clear c c2 rx ry hx hy hu lt lt2
        cases u with
        | true =>
          go_wp2_with fail
          go_quiet (fail)
          go_wp2_with fail
          go_roundw
          case rel => exact ⟨j + 1, by omega, by go_num, Lib.hid (upTo_step HQ.out HX.out HY.out HU.out), Lib.hid ⟨HB.out.os, HB.out.tape, HB.out.output, HB.out.size, HB.out.block⟩⟩
          case measure => simp [intOf]; omega
        | false =>
          have hf : R = false := by rw [← HR.out]; exact same_no (upTo_bad HX.out HY.out HU.out)
          subst hf
          go_wp2_with fail
          go_quiet (fail)
          go_wp2_with fail
          go_ret
          exact ⟨rfl, ⟨HB.out.os, HB.out.tape, HB.out.output, HB.out.size, HB.out.block⟩⟩
      · obtain rfl : j = n := by omega
        have hf : R = true := by rw [← HR.out, same_iff]; exact upTo_all HN.out HM.out HQ.out
        subst hf
        go_wp2_with fail
        go_ret
        exact ⟨rfl, HB.out⟩
  · have hne : (((n : Nat) : Int) != ((n1 : Nat) : Int)) = true := by simp; omega
    have hf : R = false := by rw [← HR.out]; exact same_no (fun e => hnn (by rw [← HN.out, ← HM.out, e]))
    subst hf
    go_enter Try.func68, Try.ntmps68
    go_wp2_with fail
    go_ret
    exact ⟨rfl, Below.refl _ _⟩
set_option maxHeartbeats 8000000 in
set_option maxRecDepth 100000 in
theorem equalDones (a0 : Option Addr) (n p0 : Nat) (l : List (Int × Int × Bool × Int × Int × Int × Int)) (a1 : Option Addr) (n1 p1 : Nat) (m : List (Int × Int × Bool × Int × Int × Int × Int)) (hn : l.length = n) (hn1 : m.length = n1) (hs : n ≤ 2000000) (w : World) (h : doneS.rd [.slice a0 n p0] l w) (h1 : doneS.rd [.slice a1 n1 p1] m w) :
    Calls Try.prog 71 #[.slice a0 n p0, .slice a1 n1 p1] w fun e w' => e = .returned (.bool (same l m)) ∧ Below w.heap.size w w' := by
  have HN := Lib.hid hn
  have HM := Lib.hid hn1
  have H0 := Lib.hid h
  have H1 := Lib.hid h1
  obtain ⟨R, hR0⟩ : ∃ R, same l m = R := ⟨_, rfl⟩
  rw [hR0]
  have HR := Lib.hid hR0
  clear h h1 hn hn1 hR0
  by_cases hnn : n = n1
  · subst hnn
    have hne : (((n : Nat) : Int) != ((n : Nat) : Int)) = false := by simp
    go_enter Try.func71, Try.ntmps71
    go_wp2_with fail
    go_loopw [13] (fun i wr => ∃ j : Nat, j ≤ n ∧ i = .int .i64 j ∧ Hid (upTo l m j) ∧ Hid (Below w.heap.size w wr)) (fun i _ => n - (intOf i).toNat)
    case atStart => exact ⟨0, by omega, rfl, Lib.hid rfl, Lib.hid (Below.refl _ _)⟩
    case round =>
      obtain ⟨j, hj, rfl, HQ, HB⟩ := hrel
      by_cases hlt : j < n
      · obtain ⟨x, hx⟩ := get_of (l := l) (i := j) (by rw [HN.out]; exact hlt)
        obtain ⟨y, hy⟩ := get_of (l := m) (i := j) (by rw [HM.out]; exact hlt)
        have HX := Lib.hid hx
        have HY := Lib.hid hy
        obtain ⟨u, hu⟩ : ∃ u, same x y = u := ⟨_, rfl⟩
        have HU := Lib.hid hu
        obtain ⟨b, o, _, es, e, _, _, lt, c, rx⟩ := row_rd H0.out hx
        simp at e
        obtain ⟨rfl, -, rfl⟩ := e
        obtain ⟨b2, o2, _, es2, e2, _, _, lt2, c2, ry⟩ := row_rd H1.out hy
        simp at e2
        obtain ⟨rfl, -, rfl⟩ := e2
        obtain ⟨x0, x1, x2, x3, x4, x5, x6⟩ := x
        obtain ⟨y0, y1, y2, y3, y4, y5, y6⟩ := y
        obtain rfl := done_form rx
        obtain rfl := done_form ry
        have g0 : w.cell? ⟨b, o + j * 7, none⟩ = some (.int .i64 x0) := c 0 _ rfl
        have g1 : w.cell? ⟨b, o + j * 7 + 1, none⟩ = some (.int .i64 x1) := c 1 _ rfl
        have g2 : w.cell? ⟨b, o + j * 7 + 2, none⟩ = some (.bool x2) := c 2 _ rfl
        have g3 : w.cell? ⟨b, o + j * 7 + 3, none⟩ = some (.int .i64 x3) := c 3 _ rfl
        have g4 : w.cell? ⟨b, o + j * 7 + 4, none⟩ = some (.int .i64 x4) := c 4 _ rfl
        have g5 : w.cell? ⟨b, o + j * 7 + 5, none⟩ = some (.int .i64 x5) := c 5 _ rfl
        have g6 : w.cell? ⟨b, o + j * 7 + 6, none⟩ = some (.int .i64 x6) := c 6 _ rfl
        rw [← bel_cells HB.out lt] at g0 g1 g2 g3 g4 g5 g6
        have k0 : w.cell? ⟨b2, o2 + j * 7, none⟩ = some (.int .i64 y0) := c2 0 _ rfl
        have k1 : w.cell? ⟨b2, o2 + j * 7 + 1, none⟩ = some (.int .i64 y1) := c2 1 _ rfl
        have k2 : w.cell? ⟨b2, o2 + j * 7 + 2, none⟩ = some (.bool y2) := c2 2 _ rfl
        have k3 : w.cell? ⟨b2, o2 + j * 7 + 3, none⟩ = some (.int .i64 y3) := c2 3 _ rfl
        have k4 : w.cell? ⟨b2, o2 + j * 7 + 4, none⟩ = some (.int .i64 y4) := c2 4 _ rfl
        have k5 : w.cell? ⟨b2, o2 + j * 7 + 5, none⟩ = some (.int .i64 y5) := c2 5 _ rfl
        have k6 : w.cell? ⟨b2, o2 + j * 7 + 6, none⟩ = some (.int .i64 y6) := c2 6 _ rfl
        rw [← bel_cells HB.out lt2] at k0 k1 k2 k3 k4 k5 k6
        have hq := neqDone x0 x1 x2 x3 x4 x5 x6 y0 y1 y2 y3 y4 y5 y6
        rw [hu] at hq
        have hgd := guardDone
        clear c c2 rx ry hx hy hu lt lt2
        cases u with
        | true =>
          go_wp2_with fail
          go_quiet (fail)
          go_wp2_with fail
          go_roundw
          case rel => exact ⟨j + 1, by omega, by go_num, Lib.hid (upTo_step HQ.out HX.out HY.out HU.out), Lib.hid ⟨HB.out.os, HB.out.tape, HB.out.output, HB.out.size, HB.out.block⟩⟩
          case measure => simp [intOf]; omega
        | false =>
          have hf : R = false := by rw [← HR.out]; exact same_no (upTo_bad HX.out HY.out HU.out)
          subst hf
          go_wp2_with fail
          go_quiet (fail)
          go_wp2_with fail
          go_ret
          exact ⟨rfl, ⟨HB.out.os, HB.out.tape, HB.out.output, HB.out.size, HB.out.block⟩⟩
      · obtain rfl : j = n := by omega
        have hf : R = true := by rw [← HR.out, same_iff]; exact upTo_all HN.out HM.out HQ.out
        subst hf
        go_wp2_with fail
        go_ret
        exact ⟨rfl, HB.out⟩
  · have hne : (((n : Nat) : Int) != ((n1 : Nat) : Int)) = true := by simp; omega
    have hf : R = false := by rw [← HR.out]; exact same_no (fun e => hnn (by rw [← HN.out, ← HM.out, e]))
    subst hf
    go_enter Try.func71, Try.ntmps71
    go_wp2_with fail
    go_ret
    exact ⟨rfl, Below.refl _ _⟩
set_option maxHeartbeats 8000000 in
set_option maxRecDepth 100000 in
theorem spec13Same (a0 : Option Addr) (n p0 : Nat) (l : List (Int × Int × Bool × Int × Int × Int × Int)) (a1 : Option Addr) (n1 p1 : Nat) (m : List (Int × Int × Bool × Int × Int × Int × Int)) (hn : l.length = n) (hn1 : m.length = n1) (hs : n ≤ 2000000) (w : World) (h : doneS.rd [.slice a0 n p0] l w) (h1 : doneS.rd [.slice a1 n1 p1] m w) :
    Calls Try.prog 56 #[.slice a0 n p0, .slice a1 n1 p1] w fun e w' => e = .returned (.bool (same l m)) ∧ Below w.heap.size w w' := by
  have HN := Lib.hid hn
  have HM := Lib.hid hn1
  have H0 := Lib.hid h
  have H1 := Lib.hid h1
  obtain ⟨R, hR0⟩ : ∃ R, same l m = R := ⟨_, rfl⟩
  rw [hR0]
  have HR := Lib.hid hR0
  clear h h1 hn hn1 hR0
  by_cases hnn : n = n1
  · subst hnn
    have hne : (((n : Nat) : Int) != ((n : Nat) : Int)) = false := by simp
    go_enter Try.func56, Try.ntmps56
    go_wp2_with fail
    go_loopw [5] (fun i wr => ∃ j : Nat, j ≤ n ∧ i = .int .i64 j ∧ Hid (upTo l m j) ∧ Hid (Below w.heap.size w wr)) (fun i _ => n - (intOf i).toNat)
    case atStart => exact ⟨0, by omega, rfl, Lib.hid rfl, Lib.hid (Below.refl _ _)⟩
    case round =>
      obtain ⟨j, hj, rfl, HQ, HB⟩ := hrel
      by_cases hlt : j < n
      · obtain ⟨x, hx⟩ := get_of (l := l) (i := j) (by rw [HN.out]; exact hlt)
        obtain ⟨y, hy⟩ := get_of (l := m) (i := j) (by rw [HM.out]; exact hlt)
        have HX := Lib.hid hx
        have HY := Lib.hid hy
        obtain ⟨u, hu⟩ : ∃ u, same x y = u := ⟨_, rfl⟩
        have HU := Lib.hid hu
        obtain ⟨b, o, _, es, e, _, _, lt, c, rx⟩ := row_rd H0.out hx
        simp at e
        obtain ⟨rfl, -, rfl⟩ := e
        obtain ⟨b2, o2, _, es2, e2, _, _, lt2, c2, ry⟩ := row_rd H1.out hy
        simp at e2
        obtain ⟨rfl, -, rfl⟩ := e2
        obtain ⟨x0, x1, x2, x3, x4, x5, x6⟩ := x
        obtain ⟨y0, y1, y2, y3, y4, y5, y6⟩ := y
        obtain rfl := done_form rx
        obtain rfl := done_form ry
        have g0 : w.cell? ⟨b, o + j * 7, none⟩ = some (.int .i64 x0) := c 0 _ rfl
        have g1 : w.cell? ⟨b, o + j * 7 + 1, none⟩ = some (.int .i64 x1) := c 1 _ rfl
        have g2 : w.cell? ⟨b, o + j * 7 + 2, none⟩ = some (.bool x2) := c 2 _ rfl
        have g3 : w.cell? ⟨b, o + j * 7 + 3, none⟩ = some (.int .i64 x3) := c 3 _ rfl
        have g4 : w.cell? ⟨b, o + j * 7 + 4, none⟩ = some (.int .i64 x4) := c 4 _ rfl
        have g5 : w.cell? ⟨b, o + j * 7 + 5, none⟩ = some (.int .i64 x5) := c 5 _ rfl
        have g6 : w.cell? ⟨b, o + j * 7 + 6, none⟩ = some (.int .i64 x6) := c 6 _ rfl
        rw [← bel_cells HB.out lt] at g0 g1 g2 g3 g4 g5 g6
        have k0 : w.cell? ⟨b2, o2 + j * 7, none⟩ = some (.int .i64 y0) := c2 0 _ rfl
        have k1 : w.cell? ⟨b2, o2 + j * 7 + 1, none⟩ = some (.int .i64 y1) := c2 1 _ rfl
        have k2 : w.cell? ⟨b2, o2 + j * 7 + 2, none⟩ = some (.bool y2) := c2 2 _ rfl
        have k3 : w.cell? ⟨b2, o2 + j * 7 + 3, none⟩ = some (.int .i64 y3) := c2 3 _ rfl
        have k4 : w.cell? ⟨b2, o2 + j * 7 + 4, none⟩ = some (.int .i64 y4) := c2 4 _ rfl
        have k5 : w.cell? ⟨b2, o2 + j * 7 + 5, none⟩ = some (.int .i64 y5) := c2 5 _ rfl
        have k6 : w.cell? ⟨b2, o2 + j * 7 + 6, none⟩ = some (.int .i64 y6) := c2 6 _ rfl
        rw [← bel_cells HB.out lt2] at k0 k1 k2 k3 k4 k5 k6
        have hq := neqDone x0 x1 x2 x3 x4 x5 x6 y0 y1 y2 y3 y4 y5 y6
        rw [hu] at hq
        have hgd := guardDone
        clear c c2 rx ry hx hy hu lt lt2
        cases u with
        | true =>
          go_wp2_with fail
          go_quiet (fail)
          go_wp2_with fail
          go_roundw
          case rel => exact ⟨j + 1, by omega, by go_num, Lib.hid (upTo_step HQ.out HX.out HY.out HU.out), Lib.hid ⟨HB.out.os, HB.out.tape, HB.out.output, HB.out.size, HB.out.block⟩⟩
          case measure => simp [intOf]; omega
        | false =>
          have hf : R = false := by rw [← HR.out]; exact same_no (upTo_bad HX.out HY.out HU.out)
          subst hf
          go_wp2_with fail
          go_quiet (fail)
          go_wp2_with fail
          go_ret
          exact ⟨rfl, ⟨HB.out.os, HB.out.tape, HB.out.output, HB.out.size, HB.out.block⟩⟩
      · obtain rfl : j = n := by omega
        have hf : R = true := by rw [← HR.out, same_iff]; exact upTo_all HN.out HM.out HQ.out
        subst hf
        go_wp2_with fail
        go_ret
        exact ⟨rfl, HB.out⟩
  · have hne : (((n : Nat) : Int) != ((n1 : Nat) : Int)) = true := by simp; omega
    have hf : R = false := by rw [← HR.out]; exact same_no (fun e => hnn (by rw [← HN.out, ← HM.out, e]))
    subst hf
    go_enter Try.func56, Try.ntmps56
    go_wp2_with fail
    go_ret
    exact ⟨rfl, Below.refl _ _⟩

end Go.Proofs.Ytdhaelaoackfkaa.KD
