
/-
  Posts as the laws hand them on: their size.
-/
import Derived.Test.YtijilhaoknpeeaaPost1
namespace Go.Proofs.Ytijilhaoknpeeaa.Num
open Go.RowKit GR Rows3

theorem szI7_any (v : Value) (L : Int) (n : Nat) (w : World) (hv : ∃ ad cap, v = .slice ad n cap) (h0 : 0 ≤ L) (h1 : L ≤ 1048576) (hl : n ≤ 9223372036854775807) :
    Calls Try.prog 73 #[v, .int .i64 L] w fun e w' => e = .returned (.int .i64 (szL L n)) ∧ w = w' := by
  obtain ⟨ad, cap, rfl⟩ := hv
  by_cases h : (n : Int) ≤ L
  · have He := Lib.hid (szL_yes h)
    have h2 : ¬ L - (n : Int) < 0 := by omega
    go_enter Try.func73, Try.ntmps73
    go_wp2
    go_ret
    exact ⟨by rw [He.out]; rfl, rfl⟩
  · have He := Lib.hid (szL_no (by omega : L < (n : Int)))
    have h2 : L - (n : Int) < 0 := by omega
    go_enter Try.func73, Try.ntmps73
    go_wp2
    go_ret
    exact ⟨by rw [He.out]; rfl, rfl⟩
theorem szReq7_any (q : Bool) (x y z : Int) (k : Bool) (v : Value) (L : Int) (n : Nat) (w : World) (hv : ∃ ad cap, v = .slice ad n cap) (h0 : 0 ≤ L) (h1 : L ≤ 1048576) (hl : n ≤ 9223372036854775807) :
    Calls Try.prog 46 #[.agg #[.bool q, .int .i64 x, .int .i64 y, .int .i64 z, .bool k, v], .int .i64 L] w fun e w' => e = .returned (.int .i64 (szL L n)) ∧ Below w.heap.size w w' := by
  obtain ⟨ad, cap, rfl⟩ := hv
  obtain ⟨m, hm⟩ : ∃ m : Int, szL L n = m := ⟨_, rfl⟩
  have hm0 : -1 ≤ m := by rw [← hm]; unfold szL; split <;> omega
  have hm1 : m ≤ 1048576 := by rw [← hm]; unfold szL; split <;> omega
  have Hm := Lib.hid hm
  rw [hm]
  clear hm
  by_cases h : m < 0
  · obtain rfl : m = -1 := by omega
    go_enter Try.func46, Try.ntmps46
    go_wp2_with (go_at_call 73; refine (szI7_any _ L n _ ⟨_, _, rfl⟩ h0 h1 hl).mono ?_; rintro e w' ⟨rfl, rfl⟩; rw [Hm.out])
    go_ret
    exact ⟨rfl, (Below.refl _ _).alloc (Nat.le_refl _) _⟩
  · go_enter Try.func46, Try.ntmps46
    go_wp2_with (go_at_call 73; refine (szI7_any _ L n _ ⟨_, _, rfl⟩ h0 h1 hl).mono ?_; rintro e w' ⟨rfl, rfl⟩; rw [Hm.out])
    go_ret
    exact ⟨rfl, (Below.refl _ _).alloc (Nat.le_refl _) _⟩
/-- a post's value. -/
def pvV (p : PC) (v : Value) : Value := .agg #[.int .i64 p.t, .int .i64 p.who, .bool p.wr, .int .i64 p.ad, .int .i64 p.sz, .int .i64 p.bu, .bool p.lk, v]
theorem szPost_any (a b : Int) (q : Bool) (x y z : Int) (k : Bool) (v : Value) (L : Int) (n : Nat) (w : World) (hv : ∃ ad cap, v = .slice ad n cap) (h0 : 0 ≤ L) (h1 : L ≤ 1048576) (hl : n ≤ 9223372036854775807) :
    Calls Try.prog 109 #[.agg #[.int .i64 a, .int .i64 b, .bool q, .int .i64 x, .int .i64 y, .int .i64 z, .bool k, v], .int .i64 L] w fun e w' => e = .returned (.int .i64 (szL L n)) ∧ Below w.heap.size w w' := by
  obtain ⟨ad, cap, rfl⟩ := hv
  obtain ⟨m, hm⟩ : ∃ m : Int, szL L n = m := ⟨_, rfl⟩
  have hm0 : -1 ≤ m := by rw [← hm]; unfold szL; split <;> omega
  have hm1 : m ≤ 1048576 := by rw [← hm]; unfold szL; split <;> omega
  have Hm := Lib.hid hm
  rw [hm]
  clear hm
  have hb0 := (Below.refl w.heap.size w).alloc (Nat.le_refl _) (.cells #[.int .i64 a, .int .i64 b, .bool q, .int .i64 x, .int .i64 y, .int .i64 z, .bool k, .slice ad n cap] 117)
  have Hb0 := Lib.hid hb0
  clear hb0
  by_cases h : m < 0
  · obtain rfl : m = -1 := by omega
    go_enter Try.func109, Try.ntmps109
    go_wp2_with fail
    refine (szReq7_any _ _ _ _ _ _ L n _ ⟨_, _, rfl⟩ h0 h1 hl).mono ?_
    rintro e w' ⟨rfl, hb1⟩
    rw [Hm.out]
    go_wp2
    go_ret
    exact ⟨rfl, Hb0.out.trans (hb1.mono (by simp))⟩
  · go_enter Try.func109, Try.ntmps109
    go_wp2_with fail
    refine (szReq7_any _ _ _ _ _ _ L n _ ⟨_, _, rfl⟩ h0 h1 hl).mono ?_
    rintro e w' ⟨rfl, hb1⟩
    rw [Hm.out]
    go_wp2
    go_ret
    exact ⟨rfl, Hb0.out.trans (hb1.mono (by simp))⟩
/-- the numbers that posts hold. -/
def lenP (l : List PC) : Nat := (l.map fun p => p.da.length).sum
theorem lenP_step {l : List PC} {k : Nat} {p : PC} (h : l[k]? = some p) : lenP (l.take (k + 1)) = lenP (l.take k) + p.da.length := by
  obtain ⟨hk, rfl⟩ := List.getElem?_eq_some_iff.1 h
  unfold lenP
  rw [List.take_succ_eq_append_getElem hk, List.map_append, List.sum_append]
  simp
theorem lenP_le (l : List PC) (k : Nat) : lenP (l.take k) ≤ lenP l := by
  conv => rhs; rw [← List.take_append_drop k l]
  unfold lenP
  rw [List.map_append, List.sum_append]
  omega
theorem cells3 {T : TypeId} {b : Nat} {c0 c1 c2 : Value} {w : World} (h : Bx T b #[c0, c1, c2] w) :
    w.cell? ⟨b, 0, none⟩ = some c0 ∧ w.cell? ⟨b, 1, none⟩ = some c1 ∧ w.cell? ⟨b, 2, none⟩ = some c2 :=
  ⟨h.cell 0 _ rfl, h.cell 1 _ rfl, h.cell 2 _ rfl⟩
theorem cells8 {T : TypeId} {b : Nat} {c0 c1 c2 c3 c4 c5 c6 c7 : Value} {w : World} (h : Bx T b #[c0, c1, c2, c3, c4, c5, c6, c7] w) :
    w.cell? ⟨b, 0, none⟩ = some c0 ∧ w.cell? ⟨b, 1, none⟩ = some c1 ∧ w.cell? ⟨b, 2, none⟩ = some c2 ∧ w.cell? ⟨b, 3, none⟩ = some c3 ∧ w.cell? ⟨b, 4, none⟩ = some c4 ∧ w.cell? ⟨b, 5, none⟩ = some c5 ∧ w.cell? ⟨b, 6, none⟩ = some c6 ∧ w.cell? ⟨b, 7, none⟩ = some c7 :=
  ⟨h.cell 0 _ rfl, h.cell 1 _ rfl, h.cell 2 _ rfl, h.cell 3 _ rfl, h.cell 4 _ rfl, h.cell 5 _ rfl, h.cell 6 _ rfl, h.cell 7 _ rfl⟩
/-- what szPostS leaves. -/
def szP (L : Int) (l : List PC) : Int := if (l.length : Int) + (lenP l : Int) ≤ L then L - (l.length : Int) - (lenP l : Int) else -1
theorem szP_no {L : Int} {l : List PC} (h : L < (l.length : Int) + (lenP l : Int)) : szP L l = -1 := if_neg (by omega)
theorem szP_yes {L : Int} {l : List PC} (h : (l.length : Int) + (lenP l : Int) ≤ L) : szP L l = L - (l.length : Int) - (lenP l : Int) := if_pos h
theorem szP_bd {L : Int} (l : List PC) (h0 : 0 ≤ L) : -1 ≤ szP L l ∧ szP L l ≤ L := by unfold szP; split <;> omega
set_option maxRecDepth 100000 in
theorem szPostS_any (v : Value) (l : List PC) (L : Int) (w : World) (hv : RdP v l w) (h0 : 0 ≤ L) (h1 : L ≤ 1048576) (hl : l.length ≤ 9223372036854775807) (hd : ∀ y ∈ l, y.da.length ≤ 9223372036854775807) :
    Calls Try.prog 72 #[v, .int .i64 L] w fun e w' => e = .returned (.int .i64 (szP L l)) ∧ Below w.heap.size w w' := by
  obtain ⟨lv, hlv, hr, he⟩ := hv
  obtain ⟨ad, cap, rfl, hr⟩ := hr
  obtain ⟨n, hln⟩ : ∃ n, lv.length = n := ⟨_, rfl⟩
  have hll : l.length = n := by rw [← hlv, List.length_map, hln]
  rw [hll] at hl
  rw [hln]
  by_cases hbig : L < (n : Int)
  · have He := Lib.hid (szP_no (L := L) (l := l) (by rw [hll]; omega))
    have h2 : L - (n : Int) < 0 := by omega
    clear hr he hd hlv
    go_enter Try.func72, Try.ntmps72
    go_wp2
    go_ret
    exact ⟨by rw [He.out]; rfl, Below.refl _ _⟩
  · have h2 : ¬ L - (n : Int) < 0 := by omega
    have HR := Lib.hid hr
    have HE := Lib.hid he
    have HD := Lib.hid hd
    have HV := Lib.hid hlv
    have HL := Lib.hid hln
    have HN := Lib.hid hll
    clear hr he hd hlv hln hll
    go_enter Try.func72, Try.ntmps72
    go_wp2
    go_loopw [1, 5] (fun u i wr => ∃ (k : Nat) (m : Int), k ≤ n ∧ i = .int .i64 k ∧ u = .int .i64 m ∧ 0 ≤ m ∧ m = L - (n : Int) - (lenP (l.take k) : Int) ∧ Below w.heap.size w wr) (fun _ i _ => n - (intOf i).toNat)
    case atStart => exact ⟨0, _, by omega, rfl, rfl, by omega, by simp [lenP], Below.refl _ _⟩
    case round =>
      obtain ⟨k, m, hk, rfl, rfl, hm0, hm, hb⟩ := hrel
      have hm1 : m ≤ 1048576 := by omega
      have HM := Lib.hid hm
      clear hm
      by_cases hlt : k < n
      · obtain ⟨x, hx⟩ := get_of (l := lv) (i := k) (by rw [HL.out]; exact hlt)
        obtain ⟨b, o, rfl, hb1, hc1⟩ := HR.out k x hx
        obtain ⟨g0, g1, g2, g3, g4, g5, g6, g7⟩ := pv_at hc1
        rw [← below_cells hb hb1] at g0 g1 g2 g3 g4 g5 g6 g7
        have hxl : l[k]? = some x.1 := by rw [← HV.out, List.getElem?_map, hx]; rfl
        have hs := lenP_step hxl
        have hsl := lenP_le l (k + 1)
        have hdx := HD.out x.1 (List.mem_of_getElem? hxl)
        have hsh := (HE.out x (mem_of hx))
        obtain ⟨ax, cx, hax, -⟩ := hsh
        rw [hax] at g7
        obtain ⟨q, hq⟩ : ∃ q, x.1.da.length = q := ⟨_, rfl⟩
        rw [hq] at hs hdx g7
        by_cases hfit : (q : Int) ≤ m
        · have Hz := Lib.hid (szL_yes hfit)
          have Hs := Lib.hid hs
          have Hb := Lib.hid hb
          clear hc1 hx hxl hsl hax hq hs hb
          go_wp2_with fail
          refine (szPost_any _ _ _ _ _ _ _ _ m q _ ⟨_, _, rfl⟩ hm0 hm1 hdx).mono ?_
          rintro e w1 ⟨rfl, hb2⟩
          rw [Hz.out]
          have h3 : ¬ m - (q : Int) < 0 := by omega
          have Hb2 := Lib.hid (Hb.out.trans (hb2.mono Hb.out.size))
          clear hb2 g0 g1 g2 g3 g4 g5 g6 g7
          go_wp2_with fail
          go_roundw
          case rel => exact ⟨k + 1, _, by omega, by go_num, rfl, by omega, by have := HM.out; have := Hs.out; omega, Hb2.out⟩
          case measure => simp [intOf]; omega
        · have Hz := Lib.hid (szL_no (L := m) (n := q) (by omega))
          have He := Lib.hid (szP_no (L := L) (l := l) (by have := HM.out; rw [HN.out]; omega))
          have Hb := Lib.hid hb
          clear hc1 hx hxl hsl hax hq hs hb
          go_wp2_with fail
          refine (szPost_any _ _ _ _ _ _ _ _ m q _ ⟨_, _, rfl⟩ hm0 hm1 hdx).mono ?_
          rintro e w1 ⟨rfl, hb2⟩
          rw [Hz.out]
          have Hb2 := Lib.hid (Hb.out.trans (hb2.mono Hb.out.size))
          clear hb2 g0 g1 g2 g3 g4 g5 g6 g7
          go_wp2_with fail
          go_ret
          exact ⟨by rw [He.out]; rfl, Hb2.out⟩
      · obtain rfl : n = k := by omega
        have He : szP L l = m := by
          have h4 := HM.out
          rw [List.take_of_length_le (by rw [HN.out]; omega)] at h4
          rw [szP_yes (by rw [HN.out]; omega), HN.out, h4]
        have He := Lib.hid He
        have Hb := Lib.hid hb
        clear hb
        go_wp2
        go_ret
        exact ⟨by rw [He.out]; rfl, Hb.out⟩
/-- what szScript leaves. -/
def szS (L : Int) (l : List PC) (a b : Nat) : Int := if (l.length : Int) + (lenP l : Int) + (a : Int) + (b : Int) ≤ L then L - (l.length : Int) - (lenP l : Int) - (a : Int) - (b : Int) else -1
theorem szS_bd {L : Int} (l : List PC) (a b : Nat) (h0 : 0 ≤ L) : -1 ≤ szS L l a b ∧ szS L l a b ≤ L := by
  have h1 := h0
  unfold szS; split <;> omega
theorem szS_no1 {L : Int} {l : List PC} {a b : Nat} (h : szP L l = -1) : szS L l a b = -1 := by
  unfold szP at h; unfold szS; split at h
  · omega
  · rw [if_neg (by omega)]
theorem szS_no2 {L m : Int} {l : List PC} {a b : Nat} (h : szP L l = m) (hm : 0 ≤ m) (h2 : szL m a = -1) : szS L l a b = -1 := by
  unfold szP at h; unfold szL at h2; unfold szS; split at h
  · split at h2
    · omega
    · rw [if_neg (by omega)]
  · omega
theorem szS_is {L m m2 : Int} {l : List PC} {a b : Nat} (h : szP L l = m) (hm : 0 ≤ m) (h2 : szL m a = m2) (hm2 : 0 ≤ m2) : szS L l a b = szL m2 b := by
  unfold szP at h; unfold szL at h2 ⊢; unfold szS; split at h
  · split at h2
    · split
      · rw [if_pos (by omega)]; omega
      · rw [if_neg (by omega)]
    · omega
  · omega
theorem szS_fit {L : Int} {l : List PC} {a b : Nat} (h : ¬ szS L l a b < 0) (h1 : L ≤ 1048576) : l.length ≤ 1048576 ∧ lenP l ≤ 1048576 ∧ a ≤ 1048576 ∧ b ≤ 1048576 := by
  unfold szS at h; split at h <;> omega
theorem lenP_mem {l : List PC} {p : PC} (h : p ∈ l) : p.da.length ≤ lenP l := by
  obtain ⟨i, hi⟩ := List.mem_iff_getElem?.1 h
  have h1 := lenP_step hi
  have h2 := lenP_le l (i + 1)
  omega
set_option maxHeartbeats 2000000 in
set_option maxRecDepth 100000 in
theorem szScript_any (u wv sv : Value) (l : List PC) (a b : Nat) (L : Int) (w : World) (hv : RdP u l w) (hw : ∃ ad cap, wv = .slice ad a cap) (hs : ∃ ad cap, sv = .slice ad b cap) (h0 : 0 ≤ L) (h1 : L ≤ 1048576)
    (hl : l.length ≤ 9223372036854775807) (hd : ∀ y ∈ l, y.da.length ≤ 9223372036854775807) (ha : a ≤ 9223372036854775807) (hb : b ≤ 9223372036854775807) :
    Calls Try.prog 29 #[.agg #[u, wv, sv], .int .i64 L] w fun e w' => e = .returned (.int .i64 (szS L l a b)) ∧ Below w.heap.size w w' := by
  have Hv := Lib.hid hv
  obtain ⟨ad, cap, rfl⟩ := hv.slice
  obtain ⟨ad1, cap1, rfl⟩ := hw
  obtain ⟨ad2, cap2, rfl⟩ := hs
  obtain ⟨m, hm⟩ : ∃ m, szP L l = m := ⟨_, rfl⟩
  have hmb := szP_bd l h0
  rw [hm] at hmb
  obtain ⟨hmb0, hmb1⟩ := hmb
  have Hm := Lib.hid hm
  have B0 := Lib.hid (Bx.new 42 #[.slice ad l.length cap, .slice ad1 a cap1, .slice ad2 b cap2] w)
  have HD := Lib.hid hd
  clear hv hm hd
  by_cases hm0 : m < 0
  · obtain rfl : m = -1 := by omega
    have He := Lib.hid (szS_no1 (a := a) (b := b) Hm.out)
    go_enter Try.func29, Try.ntmps29
    go_wp2_with fail
    refine (szPostS_any _ l L _ (Hv.out.alloc _) h0 h1 hl HD.out).mono ?_
    rintro e w1 ⟨rfl, hb1⟩
    rw [Hm.out]
    go_wp2
    go_ret
    exact ⟨by rw [He.out]; rfl, below_alloc1 (Below.refl _ _) (Nat.le_refl _) hb1⟩
  · obtain ⟨m2, hm2⟩ : ∃ m2, szL m a = m2 := ⟨_, rfl⟩
    have hmb2 : -1 ≤ m2 ∧ m2 ≤ m := by rw [← hm2]; unfold szL; split <;> omega
    obtain ⟨hmb2, hmb3⟩ := hmb2
    have Hm2 := Lib.hid hm2
    clear hm2
    by_cases hm20 : m2 < 0
    · obtain rfl : m2 = -1 := by omega
      have He := Lib.hid (szS_no2 (b := b) Hm.out (by omega) Hm2.out)
      go_enter Try.func29, Try.ntmps29
      go_wp2_with fail
      refine (szPostS_any _ l L _ (Hv.out.alloc _) h0 h1 hl HD.out).mono ?_
      rintro e w1 ⟨rfl, hb1⟩
      rw [Hm.out]
      obtain ⟨g0, g1, g2⟩ := cells3 (B0.out.later hb1)
      have Hb1 := Lib.hid (below_alloc1 (Below.refl w.heap.size w) (Nat.le_refl _) hb1)
      clear hb1
      go_wp2_with (go_at_call 73; refine (szI7_any _ m a _ ⟨_, _, rfl⟩ (by omega) (by omega) ha).mono ?_; rintro e w' ⟨rfl, rfl⟩; rw [Hm2.out])
      go_ret
      exact ⟨by rw [He.out]; rfl, Hb1.out⟩
    · obtain ⟨m3, hm3⟩ : ∃ m3, szL m2 b = m3 := ⟨_, rfl⟩
      have hmb4 : -1 ≤ m3 ∧ m3 ≤ m2 := by rw [← hm3]; unfold szL; split <;> omega
      obtain ⟨hmb4, hmb5⟩ := hmb4
      have Hm3 := Lib.hid hm3
      have He := Lib.hid ((szS_is (b := b) Hm.out (by omega) Hm2.out (by omega)).trans hm3)
      clear hm3
      by_cases hm30 : m3 < 0
      · obtain rfl : m3 = -1 := by omega
        go_enter Try.func29, Try.ntmps29
        go_wp2_with fail
        refine (szPostS_any _ l L _ (Hv.out.alloc _) h0 h1 hl HD.out).mono ?_
        rintro e w1 ⟨rfl, hb1⟩
        rw [Hm.out]
        obtain ⟨g0, g1, g2⟩ := cells3 (B0.out.later hb1)
        have Hb1 := Lib.hid (below_alloc1 (Below.refl w.heap.size w) (Nat.le_refl _) hb1)
        clear hb1
        go_wp2_with (go_at_call 73; first | ((with_reducible refine (szI7_any _ m a _ ⟨_, _, rfl⟩ (by omega) (by omega) ha).mono ?_); rintro e w' ⟨rfl, rfl⟩; rw [Hm2.out]) | ((with_reducible refine (szI7_any _ m2 b _ ⟨_, _, rfl⟩ (by omega) (by omega) hb).mono ?_); rintro e w' ⟨rfl, rfl⟩; rw [Hm3.out]))
        go_ret
        exact ⟨by rw [He.out]; rfl, Hb1.out⟩
      · go_enter Try.func29, Try.ntmps29
        go_wp2_with fail
        refine (szPostS_any _ l L _ (Hv.out.alloc _) h0 h1 hl HD.out).mono ?_
        rintro e w1 ⟨rfl, hb1⟩
        rw [Hm.out]
        obtain ⟨g0, g1, g2⟩ := cells3 (B0.out.later hb1)
        have Hb1 := Lib.hid (below_alloc1 (Below.refl w.heap.size w) (Nat.le_refl _) hb1)
        clear hb1
        go_wp2_with (go_at_call 73; first | ((with_reducible refine (szI7_any _ m a _ ⟨_, _, rfl⟩ (by omega) (by omega) ha).mono ?_); rintro e w' ⟨rfl, rfl⟩; rw [Hm2.out]) | ((with_reducible refine (szI7_any _ m2 b _ ⟨_, _, rfl⟩ (by omega) (by omega) hb).mono ?_); rintro e w' ⟨rfl, rfl⟩; rw [Hm3.out]))
        go_ret
        exact ⟨by rw [He.out]; rfl, Hb1.out⟩
end Go.Proofs.Ytijilhaoknpeeaa.Num
