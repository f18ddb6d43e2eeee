/-
  Several texts in one: BOkI8, BOkI9.
-/
import Derived.Test.YtdhaelaoackfkaaGreatGOd13
import Derived.Test.YtdhaelaoackfkaaGreatGOa13
namespace Go.Proofs.YtdhaelaoackfkaaGreat.KD
open Go.RowKit Rows3 GR Num
set_option linter.unusedVariables false
/-- the beats counted so far. -/
def cntW (j : Nat) (av : Bool) (aw : Int) (dv : Bool) (dw : Int) (i : Int) : Int := (if 1 ≤ j ∧ av = true ∧ aw = i then 1 else 0) + (if 2 ≤ j ∧ dv = true ∧ dw = i then 1 else 0)
theorem cnt_0 (av : Bool) (aw : Int) (dv : Bool) (dw : Int) (i : Int) : cntW 0 av aw dv dw i = 0 := by unfold cntW; rw [if_neg (by omega), if_neg (by omega)]; rfl
theorem cnt_2 (av : Bool) (aw : Int) (dv : Bool) (dw : Int) (i : Int) : cntW 2 av aw dv dw i = waysW av aw dv dw i := by unfold cntW waysW; simp
theorem cnt_bd (j : Nat) (av : Bool) (aw : Int) (dv : Bool) (dw : Int) (i : Int) : 0 ≤ cntW j av aw dv dw i ∧ cntW j av aw dv dw i ≤ 2 := by
  unfold cntW; split <;> split <;> omega
theorem cnt_1 (av : Bool) (aw : Int) (dv : Bool) (dw : Int) (i : Int) : cntW 1 av aw dv dw i = if av = true ∧ aw = i then 1 else 0 := by unfold cntW; simp
theorem cnt_s (av : Bool) (aw : Int) (dv : Bool) (dw : Int) (i : Int) : cntW 2 av aw dv dw i = cntW 1 av aw dv dw i + if dv = true ∧ dw = i then 1 else 0 := by unfold cntW; simp
/-- a row of counts. -/
def CntR (n j : Nat) (av : Bool) (aw : Int) (dv : Bool) (dw : Int) (k1 : Nat) (w : World) : Prop := ∃ ca : Array Value, Bx 3 k1 ca w ∧ ∀ i : Nat, i < n → ca[i]? = some (.int .i64 (cntW j av aw dv dw i))
theorem CntR.later {n j : Nat} {av : Bool} {aw : Int} {dv : Bool} {dw : Int} {k1 : Nat} {w w' : World} (h : CntR n j av aw dv dw k1 w) (hb : Below w.heap.size w w') : CntR n j av aw dv dw k1 w' := by
  obtain ⟨ca, h1, h2⟩ := h; exact ⟨ca, h1.later hb, h2⟩
theorem CntR.same {n j j' : Nat} {av : Bool} {aw : Int} {dv : Bool} {dw : Int} {k1 : Nat} {w : World} (h : CntR n j av aw dv dw k1 w) (he : ∀ i : Nat, i < n → cntW j' av aw dv dw i = cntW j av aw dv dw i) : CntR n j' av aw dv dw k1 w := by
  obtain ⟨ca, h1, h2⟩ := h; exact ⟨ca, h1, fun i hi => by rw [he i hi]; exact h2 i hi⟩
theorem CntR.up {n j j' : Nat} {av : Bool} {aw : Int} {dv : Bool} {dw : Int} {k1 k : Nat} {w : World} {v : Int} (h : CntR n j av aw dv dw k1 w) (hk : k < n) (hv : v = cntW j' av aw dv dw k) (he : ∀ i : Nat, i < n → i ≠ k → cntW j' av aw dv dw i = cntW j av aw dv dw i) : CntR n j' av aw dv dw k1 (w.setCell ⟨k1, k, none⟩ (.int .i64 v)) := by
  obtain ⟨ca, h1, h2⟩ := h
  refine ⟨_, h1.set k _, fun i hi => ?_⟩
  by_cases e : i = k
  · subst e
    have hs : i < ca.size := by have := (Array.getElem?_eq_some_iff.1 (h2 i hi)).1; exact this
    rw [Array.getElem?_setIfInBounds_self_of_lt hs, hv]
  · rw [Array.getElem?_setIfInBounds_ne (fun e2 => e e2.symm), he i hi e]; exact h2 i hi
theorem CntR.cell {n j : Nat} {av : Bool} {aw : Int} {dv : Bool} {dw : Int} {k1 i : Nat} {w : World} (h : CntR n j av aw dv dw k1 w) (hi : i < n) : w.cell? ⟨k1, i, none⟩ = some (.int .i64 (cntW j av aw dv dw i)) ∧ w.frozen? ⟨k1, i, none⟩ = false := by
  obtain ⟨ca, h1, h2⟩ := h; exact ⟨h1.cell i _ (h2 i hi), h1.warm i⟩
theorem CntR.new (n : Nat) (av : Bool) (aw : Int) (dv : Bool) (dw : Int) (w : World) : CntR n 0 av aw dv dw w.heap.size (w.alloc (.cells (madeCells #[.int .i64 0] n) 3)) := by
  refine ⟨_, Bx.new _ _ _, fun i hi => ?_⟩
  rw [cnt_0, ← Array.getElem?_toList, toList_madeCells_one]
  simp [hi]
set_option maxHeartbeats 16000000 in
set_option maxRecDepth 100000 in
theorem implAhead (arr : Array Value) (l : List (Int × Bool × Int × Int)) (qu : Int) (mw : Int) (mr : Int) (ms : Int) (lm : Int) (now : Int) (M : List (List (Bool × Int × Int × Int × Bool × List Int) × Int × Int × Int × Bool × Bool)) (tu : Int) (cr : Int) (bk : List (Int × Int)) (sp : List Int) (ho : Int) (he : Int) (la : Int) (av : Bool) (aw : Int) (ab : Int) (af : Bool) (ay : Int) (al : Int) (ar : Int) (az : Bool) (dv : Bool) (dw : Int) (db : Int) (df : Bool) (dy : Int) (dl : Int) (dr : Int) (dz : Bool) (mem : List Int) (rg : List Int) (ti : Int) (ff : List Int) (pk : Int) (lg : List (Int × Int × Bool × Int × Int × Int × Int)) (Al : Option Addr) (Pl : Nat) (AM : Option Addr) (PM : Nat) (Abk : Option Addr) (Pbk : Nat) (Asp : Option Addr) (Psp : Nat) (Amem : Option Addr) (Pmem : Nat) (Arg : Option Addr) (Prg : Nat) (Aff : Option Addr) (Pff : Nat) (Alg : Option Addr) (Plg : Nat) (nl nM nb ns ng : Nat) (w : World) (v : BV arr l qu mw mr ms lm now M tu cr bk sp ho he la av aw ab af ay al ar az dv dw db df dy dl dr dz mem rg ti ff pk lg Al Pl AM PM Abk Pbk Asp Psp Amem Pmem Arg Prg Aff Pff Alg Plg nl nM nb ns ng w) (z : BZ 0 l M bk sp mem rg ff lg) (hlM : M.length = l.length) (hbd : MstsBd M) (ha : av = true → ∃ j : Nat, aw = j ∧ j < M.length) (hd : dv = true → ∃ j : Nat, dw = j ∧ j < M.length) :
    Calls Tryz.prog 40 #[.agg arr] w fun e w' => e = .returned (.bool (tt (AheadP M av aw dv dw))) ∧ Below w.heap.size w w' := by
  have HV := Lib.hid v
  have HZ := Lib.hid z
  clear v z
  obtain ⟨R, hR0⟩ : ∃ R, (tt (AheadP M av aw dv dw)) = R := ⟨_, rfl⟩
  rw [hR0]
  have HR := Lib.hid hR0
  clear hR0
  have B := Bx.new 53 arr w
  have hb0 := (Below.refl w.heap.size w).alloc (Nat.le_refl _) (Obj.cells arr 53)
  obtain ⟨y0, hy0⟩ : ∃ y, w.alloc (Obj.cells arr 53) = y := ⟨_, rfl⟩
  rw [hy0] at B hb0
  have B_0 := Lib.hid B
  have HB_0 := Lib.hid hb0
  clear B hb0
  have hlM2 : nM ≤ 2000000 := by rw [← HV.out.nM]; exact HZ.out.zMl
  rw [HV.out.nM] at ha hd
  have HA := Lib.hid ha
  have HD := Lib.hid hd
  have HBD := Lib.hid hbd
  clear ha hd hbd hlM
  have hmk := fun W => makeI nM hlM2 W
  go_enter Tryz.func40, Tryz.ntmps40
  go_upto_region 1 with fail
  have gB7 := B_0.out.cell 7 _ HV.out.c7
  go_upto_region 2 with fail
  clear hy0
  clear gB7
  have K := CntR.new nM av aw dv dw y0
  have hba := (Below.refl y0.heap.size y0).alloc (Nat.le_refl _) (.cells (madeCells #[.int .i64 0] nM) 3)
  have B_1 := Lib.hid (B_0.out.later hba)
  have HB_1 := Lib.hid (HB_0.out.trans (hba.mono HB_0.out.size))
  have hk0 : w.heap.size < y0.heap.size := B_0.out.lt
  clear B_0 HB_0 hba
  obtain ⟨k1, hk1⟩ : ∃ k, y0.heap.size = k := ⟨_, rfl⟩
  rw [hk1] at K hk0
  have K_1 := Lib.hid K
  clear K
  generalize y0.alloc (.cells (madeCells #[.int .i64 0] nM) 3) = y1 at B_1 HB_1 K_1 ⊢
  try rw [hk1]
  clear hk1 hmk
  have gB15 := B_1.out.cell 15 _ HV.out.c15
  have gB16 := B_1.out.cell 16 _ HV.out.c16
  have gB17 := B_1.out.cell 17 _ HV.out.c17
  have gB18 := B_1.out.cell 18 _ HV.out.c18
  have gB19 := B_1.out.cell 19 _ HV.out.c19
  have gB20 := B_1.out.cell 20 _ HV.out.c20
  have gB21 := B_1.out.cell 21 _ HV.out.c21
  have gB22 := B_1.out.cell 22 _ HV.out.c22
  have gB23 := B_1.out.cell 23 _ HV.out.c23
  have gB24 := B_1.out.cell 24 _ HV.out.c24
  have gB25 := B_1.out.cell 25 _ HV.out.c25
  have gB26 := B_1.out.cell 26 _ HV.out.c26
  have gB27 := B_1.out.cell 27 _ HV.out.c27
  have gB28 := B_1.out.cell 28 _ HV.out.c28
  have gB29 := B_1.out.cell 29 _ HV.out.c29
  have gB30 := B_1.out.cell 30 _ HV.out.c30
  have hk12 : k1 < y1.heap.size := by obtain ⟨ca, h1, _⟩ := K_1.out; exact h1.lt
  have K2 := Bx.new 47 #[.bool av, .int .i64 aw, .int .i64 ab, .bool af, .int .i64 ay, .int .i64 al, .int .i64 ar, .bool az, .bool dv, .int .i64 dw, .int .i64 db, .bool df, .int .i64 dy, .int .i64 dl, .int .i64 dr, .bool dz] y1
  have hba := (Below.refl y1.heap.size y1).alloc (Nat.le_refl _) (Obj.cells #[.bool av, .int .i64 aw, .int .i64 ab, .bool af, .int .i64 ay, .int .i64 al, .int .i64 ar, .bool az, .bool dv, .int .i64 dw, .int .i64 db, .bool df, .int .i64 dy, .int .i64 dl, .int .i64 dr, .bool dz] 47)
  have B_2 := Lib.hid (B_1.out.later hba)
  have HB_2 := Lib.hid (HB_1.out.trans (hba.mono HB_1.out.size))
  have K_2 := Lib.hid (K_1.out.later hba)
  clear hba
  obtain ⟨k2, hk2⟩ : ∃ k, y1.heap.size = k := ⟨_, rfl⟩
  rw [hk2] at K2 hk12
  have L_2 := Lib.hid K2
  clear K2
  repeat (first | go_values | go_skip | go_guarded | go_step | go_upon | go_back)
  clear gB15 gB16 gB17 gB18 gB19 gB20 gB21 gB22 gB23 gB24 gB25 gB26 gB27 gB28 gB29 gB30 K_1 B_1 HB_1
  generalize y1.alloc (Obj.cells #[.bool av, .int .i64 aw, .int .i64 ab, .bool af, .int .i64 ay, .int .i64 al, .int .i64 ar, .bool az, .bool dv, .int .i64 dw, .int .i64 db, .bool df, .int .i64 dy, .int .i64 dl, .int .i64 dr, .bool dz] 47) = y2 at B_2 HB_2 K_2 L_2 ⊢
  try rw [hk2]
  clear hk2
  go_loopw [18] (fun i wr => ∃ j : Nat, j ≤ 2 ∧ i = .int .i64 j ∧ Hid (CntR nM j av aw dv dw k1 wr) ∧ Hid (Bx 47 k2 #[.bool av, .int .i64 aw, .int .i64 ab, .bool af, .int .i64 ay, .int .i64 al, .int .i64 ar, .bool az, .bool dv, .int .i64 dw, .int .i64 db, .bool df, .int .i64 dy, .int .i64 dl, .int .i64 dr, .bool dz] wr) ∧ Hid (Bx 53 w.heap.size arr wr) ∧ Hid (Below w.heap.size w wr)) (fun i _ => 2 - (intOf i).toNat)
  case atStart => exact ⟨0, by omega, rfl, K_2, L_2, B_2, HB_2⟩
  case round =>
    clear K_2 L_2 B_2 HB_2
    obtain ⟨j, hj, rfl, K_0, L_0, B_0, HB_0⟩ := hrel
    by_cases hlt : j < 2
    · skip
      have hjj : j = 0 ∨ j = 1 := by omega
      rcases hjj with rfl | rfl
      · skip
        have l0 := L_0.out.cell 0 _ rfl
        have l1 := L_0.out.cell 1 _ rfl
        have l2 := L_0.out.cell 2 _ rfl
        have l3 := L_0.out.cell 3 _ rfl
        have l4 := L_0.out.cell 4 _ rfl
        have l5 := L_0.out.cell 5 _ rfl
        have l6 := L_0.out.cell 6 _ rfl
        have l7 := L_0.out.cell 7 _ rfl
        have hba := (Below.refl wr.heap.size wr).alloc (Nat.le_refl _) (Obj.cells #[.bool av, .int .i64 aw, .int .i64 ab, .bool af, .int .i64 ay, .int .i64 al, .int .i64 ar, .bool az] 47)
        have B_1 := Lib.hid (B_0.out.later hba)
        have HB_1 := Lib.hid (HB_0.out.trans (hba.mono HB_0.out.size))
        have K_1 := Lib.hid (K_0.out.later hba)
        have L_1 := Lib.hid (L_0.out.later hba)
        have X_1 := Lib.hid (Bx.new 47 #[.bool av, .int .i64 aw, .int .i64 ab, .bool af, .int .i64 ay, .int .i64 al, .int .i64 ar, .bool az] wr)
        clear hba
        go_upto_region 5 with fail
        clear l0 l1 l2 l3 l4 l5 l6 l7 K_0 L_0 B_0 HB_0
        generalize wr.alloc (Obj.cells #[.bool av, .int .i64 aw, .int .i64 ab, .bool af, .int .i64 ay, .int .i64 al, .int .i64 ar, .bool az] 47) = w2 at B_1 HB_1 K_1 L_1 X_1 ⊢
        have gx0 := X_1.out.cell 0 _ rfl
        have gx1 := X_1.out.cell 1 _ rfl
        cases av
        · skip
          have K_2 := Lib.hid (K_1.out.same (j' := 1) (fun i _ => by unfold cntW; simp))
          repeat (first | go_values | go_skip | go_guarded | go_step | go_upon | go_back)
          go_roundw
          case rel => exact ⟨1, by omega, by go_num, K_2, L_1, B_1, HB_1⟩
          case measure => simp [intOf]
        · obtain ⟨k, hk, hkn⟩ := HA.out rfl
          subst hk
          obtain ⟨cc, hcc⟩ := K_1.out.cell hkn
          obtain ⟨x, hx⟩ : ∃ x, cntW 0 true k dv dw k = x := ⟨_, rfl⟩
          have hxb := cnt_bd 0 true k dv dw k
          rw [hx] at hxb cc
          obtain ⟨hx0, hx1⟩ := hxb
          have hin : (0 : Int) ≤ (k : Int) ∧ (k : Int) < ((nM : Nat) : Int) := by omega
          have K_2 := Lib.hid (K_1.out.up (j' := 1) (v := x + 1) hkn (by rw [← hx]; rw [cnt_0, cnt_1]; simp) (fun i _ hi => by rw [cnt_0, cnt_1, if_neg (by rintro ⟨-, e⟩; omega)]))
          have L_2 := Lib.hid (L_1.out.far (p := ⟨k1, k, none⟩) (by dsimp only; omega) (.int .i64 (x + 1)))
          have B_2 := Lib.hid (B_1.out.far (p := ⟨k1, k, none⟩) (by dsimp only; omega) (.int .i64 (x + 1)))
          have HB_2 := Lib.hid (HB_1.out.setCell (p := ⟨k1, k, none⟩) (by dsimp only; omega) (.int .i64 (x + 1)))
          clear hx K_1 L_1 B_1 HB_1
          repeat (first | go_values | go_skip | go_guarded | go_step | go_upon | go_back)
          go_roundw
          case rel => exact ⟨1, by omega, by go_num, K_2, L_2, B_2, HB_2⟩
          case measure => simp [intOf]
      · skip
        have l0 := L_0.out.cell 8 _ rfl
        have l1 := L_0.out.cell 9 _ rfl
        have l2 := L_0.out.cell 10 _ rfl
        have l3 := L_0.out.cell 11 _ rfl
        have l4 := L_0.out.cell 12 _ rfl
        have l5 := L_0.out.cell 13 _ rfl
        have l6 := L_0.out.cell 14 _ rfl
        have l7 := L_0.out.cell 15 _ rfl
        have hba := (Below.refl wr.heap.size wr).alloc (Nat.le_refl _) (Obj.cells #[.bool dv, .int .i64 dw, .int .i64 db, .bool df, .int .i64 dy, .int .i64 dl, .int .i64 dr, .bool dz] 47)
        have B_1 := Lib.hid (B_0.out.later hba)
        have HB_1 := Lib.hid (HB_0.out.trans (hba.mono HB_0.out.size))
        have K_1 := Lib.hid (K_0.out.later hba)
        have L_1 := Lib.hid (L_0.out.later hba)
        have X_1 := Lib.hid (Bx.new 47 #[.bool dv, .int .i64 dw, .int .i64 db, .bool df, .int .i64 dy, .int .i64 dl, .int .i64 dr, .bool dz] wr)
        clear hba
        go_upto_region 5 with fail
        clear l0 l1 l2 l3 l4 l5 l6 l7 K_0 L_0 B_0 HB_0
        generalize wr.alloc (Obj.cells #[.bool dv, .int .i64 dw, .int .i64 db, .bool df, .int .i64 dy, .int .i64 dl, .int .i64 dr, .bool dz] 47) = w2 at B_1 HB_1 K_1 L_1 X_1 ⊢
        have gx0 := X_1.out.cell 0 _ rfl
        have gx1 := X_1.out.cell 1 _ rfl
        cases dv
        · skip
          have K_2 := Lib.hid (K_1.out.same (j' := 2) (fun i _ => by rw [cnt_s]; simp))
          repeat (first | go_values | go_skip | go_guarded | go_step | go_upon | go_back)
          go_roundw
          case rel => exact ⟨2, by omega, by go_num, K_2, L_1, B_1, HB_1⟩
          case measure => simp [intOf]
        · obtain ⟨k, hk, hkn⟩ := HD.out rfl
          subst hk
          obtain ⟨cc, hcc⟩ := K_1.out.cell hkn
          obtain ⟨x, hx⟩ : ∃ x, cntW 1 av aw true k k = x := ⟨_, rfl⟩
          have hxb := cnt_bd 1 av aw true k k
          rw [hx] at hxb cc
          obtain ⟨hx0, hx1⟩ := hxb
          have hin : (0 : Int) ≤ (k : Int) ∧ (k : Int) < ((nM : Nat) : Int) := by omega
          have K_2 := Lib.hid (K_1.out.up (j' := 2) (v := x + 1) hkn (by rw [← hx]; rw [cnt_s]; simp) (fun i _ hi => by rw [cnt_s, if_neg (by rintro ⟨-, e⟩; omega)]; simp))
          have L_2 := Lib.hid (L_1.out.far (p := ⟨k1, k, none⟩) (by dsimp only; omega) (.int .i64 (x + 1)))
          have B_2 := Lib.hid (B_1.out.far (p := ⟨k1, k, none⟩) (by dsimp only; omega) (.int .i64 (x + 1)))
          have HB_2 := Lib.hid (HB_1.out.setCell (p := ⟨k1, k, none⟩) (by dsimp only; omega) (.int .i64 (x + 1)))
          clear hx K_1 L_1 B_1 HB_1
          repeat (first | go_values | go_skip | go_guarded | go_step | go_upon | go_back)
          go_roundw
          case rel => exact ⟨2, by omega, by go_num, K_2, L_2, B_2, HB_2⟩
          case measure => simp [intOf]
    · obtain rfl : j = 2 := by omega
      have g7 := B_0.out.cell 7 _ HV.out.c7
      repeat (first | go_values | go_skip | go_guarded | go_step | go_upon | go_back)
      clear g7
      go_loopw [35] (fun i wr => ∃ j : Nat, j ≤ nM ∧ i = .int .i64 j ∧ Hid (∀ k m, k < j → M[k]? = some m → m.2.1 - m.2.2.1 = waysW av aw dv dw (k : Int)) ∧ Hid (CntR nM 2 av aw dv dw k1 wr) ∧ Hid (Below w.heap.size w wr)) (fun i _ => nM - (intOf i).toNat)
      case atStart => exact ⟨0, by omega, rfl, Lib.hid (fun k m hk => by omega), K_0, HB_0⟩
      case round =>
        clear K_0 L_0 B_0 HB_0
        obtain ⟨j, hj, rfl, HQ, K_0, HB_0⟩ := hrel
        by_cases hlt : j < nM
        · skip
          obtain ⟨m, hxm⟩ := get_of (l := M) (i := j) (by rw [HV.out.nM]; exact hlt)
          have HXm := Lib.hid hxm
          obtain ⟨bm, om, _, esm, em, _, _, ltm, cm, rm⟩ := row_rd HV.out.rM hxm
          simp at em
          obtain ⟨rfl, -, rfl⟩ := em
          obtain ⟨m0, m1, m2, m3, m4, m5⟩ := m
          have Rm := Lib.hid rm
          obtain ⟨am, pm, rfl, _⟩ := mst_form rm
          have Em0 := Lib.hid (show w.cell? ⟨bm, om + j * 6, none⟩ = some (.slice am m0.length pm) from cm 0 _ rfl)
          have Em1 := Lib.hid (show w.cell? ⟨bm, om + j * 6 + 1, none⟩ = some (.int .i64 m1) from cm 1 _ rfl)
          have Em2 := Lib.hid (show w.cell? ⟨bm, om + j * 6 + 2, none⟩ = some (.int .i64 m2) from cm 2 _ rfl)
          have Em3 := Lib.hid (show w.cell? ⟨bm, om + j * 6 + 3, none⟩ = some (.int .i64 m3) from cm 3 _ rfl)
          have Em4 := Lib.hid (show w.cell? ⟨bm, om + j * 6 + 4, none⟩ = some (.bool m4) from cm 4 _ rfl)
          have Em5 := Lib.hid (show w.cell? ⟨bm, om + j * 6 + 5, none⟩ = some (.bool m5) from cm 5 _ rfl)
          have LTm := Lib.hid ltm
          clear hxm cm rm ltm
          have hbm := HBD.out j _ HXm.out
          dsimp only at hbm
          obtain ⟨hbm0, hbm1, hbm2⟩ := hbm
          have hin : (0 : Int) ≤ (j : Int) ∧ (j : Int) < ((nM : Nat) : Int) := by omega
          have hm0 := ((bel_cells HB_0.out LTm.out _).trans Em0.out)
          have hm1 := ((bel_cells HB_0.out LTm.out _).trans Em1.out)
          have hm2 := ((bel_cells HB_0.out LTm.out _).trans Em2.out)
          have hm3 := ((bel_cells HB_0.out LTm.out _).trans Em3.out)
          have hm4 := ((bel_cells HB_0.out LTm.out _).trans Em4.out)
          have hm5 := ((bel_cells HB_0.out LTm.out _).trans Em5.out)
          have hba := (Below.refl wr.heap.size wr).alloc (Nat.le_refl _) (Obj.cells #[.slice am m0.length pm, .int .i64 m1, .int .i64 m2, .int .i64 m3, .bool m4, .bool m5] 70)
          have HB_1 := Lib.hid (HB_0.out.trans (hba.mono HB_0.out.size))
          have K_1 := Lib.hid (K_0.out.later hba)
          have X_1 := Lib.hid (Bx.new 70 #[.slice am m0.length pm, .int .i64 m1, .int .i64 m2, .int .i64 m3, .bool m4, .bool m5] wr)
          clear hba K_0 HB_0
          go_upto_region 11 with fail
          clear hm0 hm1 hm2 hm3 hm4 hm5
          generalize wr.alloc (Obj.cells #[.slice am m0.length pm, .int .i64 m1, .int .i64 m2, .int .i64 m3, .bool m4, .bool m5] 70) = w2 at HB_1 K_1 X_1 ⊢
          obtain ⟨x, hx⟩ : ∃ x, cntW 2 av aw dv dw j = x := ⟨_, rfl⟩
          have HX2 := Lib.hid ((cnt_2 av aw dv dw j).symm.trans hx)
          have gc := fun d os => cell_regrown (hx ▸ (K_1.out.cell hlt).1) d os
          have gX1 := fun d os => cell_regrown (X_1.out.cell 1 _ rfl) d os
          have gX2 := fun d os => cell_regrown (X_1.out.cell 2 _ rfl) d os
          clear hx
          by_cases he : m1 - m2 = x
          rotate_left
          · have he2 : (m1 - m2 != x) = true := by simp [he]
            have hf : R = false := by
              rw [← HR.out]
              exact tt_no (fun h => he (by have := h j _ HXm.out; dsimp only at this; rw [this]; exact HX2.out))
            subst hf
            clear he
            refine wp_region_quiet_below (by kernel_rfl) (by kernel_rfl) ?_
            repeat (go_big_quiet_step (fail))
            refine wpQuiet_nil ?_
            rintro _ ⟨qq, rfl⟩
            have hq := below_regrown w2 qq.d qq.os
            clear gc gX1 gX2
            have K_2 := Lib.hid (K_1.out.later hq)
            have HB_2 := Lib.hid (HB_1.out.trans (hq.mono HB_1.out.size))
            clear hq K_1 HB_1
            repeat (first | go_values | go_skip | go_guarded | go_step | go_upon | go_back)
            go_ret
            exact ⟨rfl, HB_2.out⟩
          have he2 : (m1 - m2 != x) = false := by simp [he]
          have HE := Lib.hid he
          clear he
          refine wp_region_quiet_below (by kernel_rfl) (by kernel_rfl) ?_
          repeat (go_big_quiet_step (fail))
          refine wpQuiet_nil ?_
          rintro _ ⟨qq, rfl⟩
          have hq := below_regrown w2 qq.d qq.os
          clear gc gX1 gX2
          have K_2 := Lib.hid (K_1.out.later hq)
          have HB_2 := Lib.hid (HB_1.out.trans (hq.mono HB_1.out.size))
          clear hq K_1 HB_1
          generalize Sort.grow (redrawn w2 qq.d) qq.os = w3 at K_2 HB_2 ⊢
          have HQ2 : Hid (∀ k m, k < j + 1 → M[k]? = some m → m.2.1 - m.2.2.1 = waysW av aw dv dw (k : Int)) := Lib.hid (fun k m hk hm => by
            by_cases e : k = j
            · subst e
              rw [HXm.out] at hm
              cases hm
              dsimp only
              rw [HE.out]; exact HX2.out.symm
            · exact HQ.out k m (by omega) hm)
          repeat (first | go_values | go_skip | go_guarded | go_step | go_upon | go_back)
          go_roundw
          case rel => exact ⟨j + 1, by omega, by go_num, HQ2, K_2, HB_2⟩
          case measure => simp [intOf]; omega
        · obtain rfl : j = nM := by omega
          have hf : R = true := by
            rw [← HR.out]
            exact tt_yes (fun k m hm => HQ.out k m (by have := (List.getElem?_eq_some_iff.1 hm).1; rw [HV.out.nM] at this; exact this) hm)
          subst hf
          repeat (first | go_values | go_skip | go_guarded | go_step | go_upon | go_back)
          go_ret
          exact ⟨rfl, HB_0.out⟩

end Go.Proofs.YtdhaelaoackfkaaGreat.KD

namespace Go.Proofs.YtdhaelaoackfkaaGreat.KD
open Go.RowKit Rows3 GR Num
set_option linter.unusedVariables false
theorem ret_is {P : Program} {f : FuncId} {args : Array Value} {w : World} {b c : Bool} (hb : b = c) (h : Calls P f args w fun e w' => e = .returned (.bool b) ∧ Below w.heap.size w w') : Calls P f args w fun e w' => e = .returned (.bool c) ∧ Below w.heap.size w w' := hb ▸ h
/-- what a valid master's counts are. -/
theorem mst_bd {q : List ReqX} {be dn tr : Int} {pa br : Bool} {c : ConfX} (h : okMst q be dn tr pa br c = true) : 0 ≤ dn ∧ dn ≤ be ∧ be ≤ 100 := by
  unfold okMst rightM at h
  simp only [Bool.and_eq_true] at h
  obtain ⟨-, ⟨-, -, -, h⟩, -⟩ := h
  have hb := (beats0_bd q).2
  split at h
  · simp only [Bool.and_eq_true, beq_iff_eq] at h; omega
  · simp only [Bool.and_eq_true, decide_eq_true_eq] at h; omega
theorem msts_bd {l : List (Int × Bool × Int × Int)} {qu mw mr ms lm : Int} {M : List MstX} {bk : List (Int × Int)} {sp : List Int} (hL : LensP l M bk sp) (hA : AllP l qu mw mr ms lm M bk sp) : MstsBd M := by
  intro i m hm
  have hi := (List.getElem?_eq_some_iff.1 hm).1
  obtain ⟨b, hb⟩ := GR.get_of (l := bk) (i := i) (by rw [hL.2.1, ← hL.1]; exact hi)
  obtain ⟨s, hs⟩ := GR.get_of (l := sp) (i := i) (by rw [hL.2.2, ← hL.1]; exact hi)
  obtain ⟨c, hc⟩ := GR.get_of (l := l) (i := i) (by rw [← hL.1]; exact hi)
  exact mst_bd (hA i m b s c hm hb hs hc).1
theorem addr_in {M : List MstX} {sp : List Int} {av : Bool} {aw ab : Int} {af : Bool} {ay al ar : Int} {az : Bool} (h : AddrP M sp av aw ab af ay al ar az) : av = true → ∃ j : Nat, aw = j ∧ j < M.length := by
  intro e
  unfold AddrP at h
  rw [if_pos e] at h
  obtain ⟨-, -, j, m, h1, h2, -⟩ := h
  exact ⟨j, h1, (List.getElem?_eq_some_iff.1 h2).1⟩
theorem data_in {M : List MstX} {sp : List Int} {mw mr ho : Int} {av dv : Bool} {dw db : Int} {df : Bool} {dy dl dr : Int} {dz : Bool} (h : DataP M sp mw mr ho av dv dw db df dy dl dr dz) : dv = true → ∃ j : Nat, dw = j ∧ j < M.length := by
  intro e
  unfold DataP at h
  rw [if_pos e] at h
  obtain ⟨-, -, -, j, m, h1, h2, -⟩ := h
  exact ⟨j, h1, (List.getElem?_eq_some_iff.1 h2).1⟩
set_option maxHeartbeats 16000000 in
set_option maxRecDepth 100000 in
theorem implBusOkV (arr : Array Value) (l : List (Int × Bool × Int × Int)) (qu : Int) (mw : Int) (mr : Int) (ms : Int) (lm : Int) (now : Int) (M : List (List (Bool × Int × Int × Int × Bool × List Int) × Int × Int × Int × Bool × Bool)) (tu : Int) (cr : Int) (bk : List (Int × Int)) (sp : List Int) (ho : Int) (he : Int) (la : Int) (av : Bool) (aw : Int) (ab : Int) (af : Bool) (ay : Int) (al : Int) (ar : Int) (az : Bool) (dv : Bool) (dw : Int) (db : Int) (df : Bool) (dy : Int) (dl : Int) (dr : Int) (dz : Bool) (mem : List Int) (rg : List Int) (ti : Int) (ff : List Int) (pk : Int) (lg : List (Int × Int × Bool × Int × Int × Int × Int)) (Al : Option Addr) (Pl : Nat) (AM : Option Addr) (PM : Nat) (Abk : Option Addr) (Pbk : Nat) (Asp : Option Addr) (Psp : Nat) (Amem : Option Addr) (Pmem : Nat) (Arg : Option Addr) (Prg : Nat) (Aff : Option Addr) (Pff : Nat) (Alg : Option Addr) (Plg : Nat) (nl nM nb ns ng : Nat) (w : World) (v : BV arr l qu mw mr ms lm now M tu cr bk sp ho he la av aw ab af ay al ar az dv dw db df dy dl dr dz mem rg ti ff pk lg Al Pl AM PM Abk Pbk Asp Psp Amem Pmem Arg Prg Aff Pff Alg Plg nl nM nb ns ng w) (z : BZ 0 l M bk sp mem rg ff lg) :
    Calls Tryz.prog 8 #[.agg arr] w fun e w' => e = .returned (.bool (tt (GoodBus ((l, qu, mw, mr, ms, lm), now, M, (tu, cr), bk, sp, ho, he, la, (av, aw, ab, af, ay, al, ar, az), (dv, dw, db, df, dy, dl, dr, dz), (mem, (rg, ti, ff)), pk, lg)))) ∧ Below w.heap.size w w' := by
  have HV := Lib.hid v
  have HZ := Lib.hid z
  clear v z
  obtain ⟨R, hR0⟩ : ∃ R, (tt (GoodBus ((l, qu, mw, mr, ms, lm), now, M, (tu, cr), bk, sp, ho, he, la, (av, aw, ab, af, ay, al, ar, az), (dv, dw, db, df, dy, dl, dr, dz), (mem, (rg, ti, ff)), pk, lg))) = R := ⟨_, rfl⟩
  rw [hR0]
  have HR := Lib.hid hR0
  clear hR0
  have B := Bx.new 53 arr w
  have hb0 := (Below.refl w.heap.size w).alloc (Nat.le_refl _) (Obj.cells arr 53)
  obtain ⟨y0, hy0⟩ : ∃ y, w.alloc (Obj.cells arr 53) = y := ⟨_, rfl⟩
  rw [hy0] at B hb0
  have B_0 := Lib.hid B
  have HB_0 := Lib.hid hb0
  clear B hb0
  go_enter Tryz.func8, Tryz.ntmps8
  go_upto_region 1 with fail
  clear hy0
  have HG : Hid (GoodBus ((l, qu, mw, mr, ms, lm), now, M, (tu, cr), bk, sp, ho, he, la, (av, aw, ab, af, ay, al, ar, az), (dv, dw, db, df, dy, dl, dr, dz), (mem, (rg, ti, ff)), pk, lg) ↔ (PartsP l qu mw mr ms lm now tu cr la pk mem rg ti ff ∧ LensP l M bk sp ∧ AllP l qu mw mr ms lm M bk sp ∧ AddrP M sp av aw ab af ay al ar az ∧ DataP M sp mw mr ho av dv dw db df dy dl dr dz ∧ AheadP M av aw dv dw ∧ HoldP M sp ho he lm ∧ LockP M ho ∧ LogP l.length now lg)) := Lib.hid Iff.rfl
  obtain ⟨c1, hc1⟩ : ∃ c, tt (PartsP l qu mw mr ms lm now tu cr la pk mem rg ti ff) = c := ⟨_, rfl⟩
  have C1 := Lib.hid hc1
  clear hc1
  cases c1
  · have hf : R = false := by rw [← HR.out]; exact tt_no (fun g => tt_not C1.out (by have h := HG.out.1 g; exact h.1))
    subst hf
    refine wp_region_det ?_
    repeat (first
      | (go_big_quiet_want; refine quiet_load (T := 53) (x := .tmp 1) (g := w.heap.size) (cs := arr) rfl rfl B_0.out Tryz.underlying53 rfl (by rw [HV.out.size]; kernel_rfl) ?_; simp only [Act.put, List.setIfInBounds_toArray, List.set_cons_succ, List.set_cons_zero]; go_big_quiet_on)
      | go_big_quiet_step (first
      | (go_at_call 36; exact Calls.regrown_of (ret_is C1.out (implParts arr l qu mw mr ms lm now M tu cr bk sp ho he la av aw ab af ay al ar az dv dw db df dy dl dr dz mem rg ti ff pk lg Al Pl AM PM Abk Pbk Asp Psp Amem Pmem Arg Prg Aff Pff Alg Plg nl nM nb ns ng _ (HV.out.later (below_rg HB_0.out _ _)) HZ.out)))))
    refine wpQuiet_nil ?_
    rintro _ ⟨qq, rfl⟩
    have hq := below_regrown y0 qq.d qq.os
    have B_1 := Lib.hid (B_0.out.later hq)
    have HB_1 := Lib.hid (HB_0.out.trans (hq.mono HB_0.out.size))
    clear B_0 HB_0 hq 
    repeat (first | go_values | go_skip | go_guarded | go_step | go_upon | go_back)
    go_ret
    exact ⟨rfl, HB_1.out⟩
  have HP1 := Lib.hid (tt_of C1.out)
  have HOK := Lib.hid HP1.out.1
  have HNW := Lib.hid HP1.out.2.1
  have HMW := Lib.hid (conf_bd HOK.out).2.2.1
  obtain ⟨c2, hc2⟩ : ∃ c, tt (LensP l M bk sp ∧ AllP l qu mw mr ms lm M bk sp) = c := ⟨_, rfl⟩
  have C2 := Lib.hid hc2
  clear hc2
  cases c2
  · have hf : R = false := by rw [← HR.out]; exact tt_no (fun g => tt_not C2.out (by have h := HG.out.1 g; exact ⟨h.2.1, h.2.2.1⟩))
    subst hf
    refine wp_region_det ?_
    repeat (first
      | (go_big_quiet_want; refine quiet_load (T := 53) (x := .tmp 1) (g := w.heap.size) (cs := arr) rfl rfl B_0.out Tryz.underlying53 rfl (by rw [HV.out.size]; kernel_rfl) ?_; simp only [Act.put, List.setIfInBounds_toArray, List.set_cons_succ, List.set_cons_zero]; go_big_quiet_on)
      | go_big_quiet_step (first
      | (go_at_call 36; exact Calls.regrown_of (ret_is C1.out (implParts arr l qu mw mr ms lm now M tu cr bk sp ho he la av aw ab af ay al ar az dv dw db df dy dl dr dz mem rg ti ff pk lg Al Pl AM PM Abk Pbk Asp Psp Amem Pmem Arg Prg Aff Pff Alg Plg nl nM nb ns ng _ (HV.out.later (below_rg HB_0.out _ _)) HZ.out)))
      | (go_at_call 37; exact Calls.regrown_of (ret_is C2.out (implMasters arr l qu mw mr ms lm now M tu cr bk sp ho he la av aw ab af ay al ar az dv dw db df dy dl dr dz mem rg ti ff pk lg Al Pl AM PM Abk Pbk Asp Psp Amem Pmem Arg Prg Aff Pff Alg Plg nl nM nb ns ng _ (HV.out.later (below_rg HB_0.out _ _)) HZ.out HOK.out)))))
    refine wpQuiet_nil ?_
    rintro _ ⟨qq, rfl⟩
    have hq := below_regrown y0 qq.d qq.os
    have B_1 := Lib.hid (B_0.out.later hq)
    have HB_1 := Lib.hid (HB_0.out.trans (hq.mono HB_0.out.size))
    clear B_0 HB_0 hq 
    repeat (first | go_values | go_skip | go_guarded | go_step | go_upon | go_back)
    go_ret
    exact ⟨rfl, HB_1.out⟩
  have HP2 := Lib.hid (tt_of C2.out)
  have HLM := Lib.hid HP2.out.1.1
  have HLS := Lib.hid HP2.out.1.2.2
  have HBD := Lib.hid (msts_bd HP2.out.1 HP2.out.2)
  obtain ⟨c3, hc3⟩ : ∃ c, tt (AddrP M sp av aw ab af ay al ar az) = c := ⟨_, rfl⟩
  have C3 := Lib.hid hc3
  clear hc3
  cases c3
  · have hf : R = false := by rw [← HR.out]; exact tt_no (fun g => tt_not C3.out (by have h := HG.out.1 g; exact h.2.2.2.1))
    subst hf
    refine wp_region_det ?_
    repeat (first
      | (go_big_quiet_want; refine quiet_load (T := 53) (x := .tmp 1) (g := w.heap.size) (cs := arr) rfl rfl B_0.out Tryz.underlying53 rfl (by rw [HV.out.size]; kernel_rfl) ?_; simp only [Act.put, List.setIfInBounds_toArray, List.set_cons_succ, List.set_cons_zero]; go_big_quiet_on)
      | go_big_quiet_step (first
      | (go_at_call 36; exact Calls.regrown_of (ret_is C1.out (implParts arr l qu mw mr ms lm now M tu cr bk sp ho he la av aw ab af ay al ar az dv dw db df dy dl dr dz mem rg ti ff pk lg Al Pl AM PM Abk Pbk Asp Psp Amem Pmem Arg Prg Aff Pff Alg Plg nl nM nb ns ng _ (HV.out.later (below_rg HB_0.out _ _)) HZ.out)))
      | (go_at_call 37; exact Calls.regrown_of (ret_is C2.out (implMasters arr l qu mw mr ms lm now M tu cr bk sp ho he la av aw ab af ay al ar az dv dw db df dy dl dr dz mem rg ti ff pk lg Al Pl AM PM Abk Pbk Asp Psp Amem Pmem Arg Prg Aff Pff Alg Plg nl nM nb ns ng _ (HV.out.later (below_rg HB_0.out _ _)) HZ.out HOK.out)))
      | (go_at_call 38; exact Calls.regrown_of (ret_is C3.out (implAddr arr l qu mw mr ms lm now M tu cr bk sp ho he la av aw ab af ay al ar az dv dw db df dy dl dr dz mem rg ti ff pk lg Al Pl AM PM Abk Pbk Asp Psp Amem Pmem Arg Prg Aff Pff Alg Plg nl nM nb ns ng _ (HV.out.later (below_rg HB_0.out _ _)) HZ.out HLM.out HLS.out HBD.out)))))
    refine wpQuiet_nil ?_
    rintro _ ⟨qq, rfl⟩
    have hq := below_regrown y0 qq.d qq.os
    have B_1 := Lib.hid (B_0.out.later hq)
    have HB_1 := Lib.hid (HB_0.out.trans (hq.mono HB_0.out.size))
    clear B_0 HB_0 hq 
    repeat (first | go_values | go_skip | go_guarded | go_step | go_upon | go_back)
    go_ret
    exact ⟨rfl, HB_1.out⟩
  have HIA := Lib.hid (addr_in (tt_of C3.out))
  obtain ⟨c4, hc4⟩ : ∃ c, tt (DataP M sp mw mr ho av dv dw db df dy dl dr dz) = c := ⟨_, rfl⟩
  have C4 := Lib.hid hc4
  clear hc4
  cases c4
  · have hf : R = false := by rw [← HR.out]; exact tt_no (fun g => tt_not C4.out (by have h := HG.out.1 g; exact h.2.2.2.2.1))
    subst hf
    refine wp_region_det ?_
    repeat (first
      | (go_big_quiet_want; refine quiet_load (T := 53) (x := .tmp 1) (g := w.heap.size) (cs := arr) rfl rfl B_0.out Tryz.underlying53 rfl (by rw [HV.out.size]; kernel_rfl) ?_; simp only [Act.put, List.setIfInBounds_toArray, List.set_cons_succ, List.set_cons_zero]; go_big_quiet_on)
      | go_big_quiet_step (first
      | (go_at_call 36; exact Calls.regrown_of (ret_is C1.out (implParts arr l qu mw mr ms lm now M tu cr bk sp ho he la av aw ab af ay al ar az dv dw db df dy dl dr dz mem rg ti ff pk lg Al Pl AM PM Abk Pbk Asp Psp Amem Pmem Arg Prg Aff Pff Alg Plg nl nM nb ns ng _ (HV.out.later (below_rg HB_0.out _ _)) HZ.out)))
      | (go_at_call 37; exact Calls.regrown_of (ret_is C2.out (implMasters arr l qu mw mr ms lm now M tu cr bk sp ho he la av aw ab af ay al ar az dv dw db df dy dl dr dz mem rg ti ff pk lg Al Pl AM PM Abk Pbk Asp Psp Amem Pmem Arg Prg Aff Pff Alg Plg nl nM nb ns ng _ (HV.out.later (below_rg HB_0.out _ _)) HZ.out HOK.out)))
      | (go_at_call 38; exact Calls.regrown_of (ret_is C3.out (implAddr arr l qu mw mr ms lm now M tu cr bk sp ho he la av aw ab af ay al ar az dv dw db df dy dl dr dz mem rg ti ff pk lg Al Pl AM PM Abk Pbk Asp Psp Amem Pmem Arg Prg Aff Pff Alg Plg nl nM nb ns ng _ (HV.out.later (below_rg HB_0.out _ _)) HZ.out HLM.out HLS.out HBD.out)))
      | (go_at_call 39; exact Calls.regrown_of (ret_is C4.out (implData arr l qu mw mr ms lm now M tu cr bk sp ho he la av aw ab af ay al ar az dv dw db df dy dl dr dz mem rg ti ff pk lg Al Pl AM PM Abk Pbk Asp Psp Amem Pmem Arg Prg Aff Pff Alg Plg nl nM nb ns ng _ (HV.out.later (below_rg HB_0.out _ _)) HZ.out HLM.out HLS.out HBD.out HMW.out)))))
    refine wpQuiet_nil ?_
    rintro _ ⟨qq, rfl⟩
    have hq := below_regrown y0 qq.d qq.os
    have B_1 := Lib.hid (B_0.out.later hq)
    have HB_1 := Lib.hid (HB_0.out.trans (hq.mono HB_0.out.size))
    clear B_0 HB_0 hq 
    repeat (first | go_values | go_skip | go_guarded | go_step | go_upon | go_back)
    go_ret
    exact ⟨rfl, HB_1.out⟩
  have HID := Lib.hid (data_in (tt_of C4.out))
  obtain ⟨c5, hc5⟩ : ∃ c, tt (AheadP M av aw dv dw) = c := ⟨_, rfl⟩
  have C5 := Lib.hid hc5
  clear hc5
  cases c5
  · have hf : R = false := by rw [← HR.out]; exact tt_no (fun g => tt_not C5.out (by have h := HG.out.1 g; exact h.2.2.2.2.2.1))
    subst hf
    refine wp_region_det ?_
    repeat (first
      | (go_big_quiet_want; refine quiet_load (T := 53) (x := .tmp 1) (g := w.heap.size) (cs := arr) rfl rfl B_0.out Tryz.underlying53 rfl (by rw [HV.out.size]; kernel_rfl) ?_; simp only [Act.put, List.setIfInBounds_toArray, List.set_cons_succ, List.set_cons_zero]; go_big_quiet_on)
      | go_big_quiet_step (first
      | (go_at_call 36; exact Calls.regrown_of (ret_is C1.out (implParts arr l qu mw mr ms lm now M tu cr bk sp ho he la av aw ab af ay al ar az dv dw db df dy dl dr dz mem rg ti ff pk lg Al Pl AM PM Abk Pbk Asp Psp Amem Pmem Arg Prg Aff Pff Alg Plg nl nM nb ns ng _ (HV.out.later (below_rg HB_0.out _ _)) HZ.out)))
      | (go_at_call 37; exact Calls.regrown_of (ret_is C2.out (implMasters arr l qu mw mr ms lm now M tu cr bk sp ho he la av aw ab af ay al ar az dv dw db df dy dl dr dz mem rg ti ff pk lg Al Pl AM PM Abk Pbk Asp Psp Amem Pmem Arg Prg Aff Pff Alg Plg nl nM nb ns ng _ (HV.out.later (below_rg HB_0.out _ _)) HZ.out HOK.out)))
      | (go_at_call 38; exact Calls.regrown_of (ret_is C3.out (implAddr arr l qu mw mr ms lm now M tu cr bk sp ho he la av aw ab af ay al ar az dv dw db df dy dl dr dz mem rg ti ff pk lg Al Pl AM PM Abk Pbk Asp Psp Amem Pmem Arg Prg Aff Pff Alg Plg nl nM nb ns ng _ (HV.out.later (below_rg HB_0.out _ _)) HZ.out HLM.out HLS.out HBD.out)))
      | (go_at_call 39; exact Calls.regrown_of (ret_is C4.out (implData arr l qu mw mr ms lm now M tu cr bk sp ho he la av aw ab af ay al ar az dv dw db df dy dl dr dz mem rg ti ff pk lg Al Pl AM PM Abk Pbk Asp Psp Amem Pmem Arg Prg Aff Pff Alg Plg nl nM nb ns ng _ (HV.out.later (below_rg HB_0.out _ _)) HZ.out HLM.out HLS.out HBD.out HMW.out)))
      | (go_at_call 40; exact Calls.regrown_of (ret_is C5.out (implAhead arr l qu mw mr ms lm now M tu cr bk sp ho he la av aw ab af ay al ar az dv dw db df dy dl dr dz mem rg ti ff pk lg Al Pl AM PM Abk Pbk Asp Psp Amem Pmem Arg Prg Aff Pff Alg Plg nl nM nb ns ng _ (HV.out.later (below_rg HB_0.out _ _)) HZ.out HLM.out HBD.out HIA.out HID.out)))))
    refine wpQuiet_nil ?_
    rintro _ ⟨qq, rfl⟩
    have hq := below_regrown y0 qq.d qq.os
    have B_1 := Lib.hid (B_0.out.later hq)
    have HB_1 := Lib.hid (HB_0.out.trans (hq.mono HB_0.out.size))
    clear B_0 HB_0 hq 
    repeat (first | go_values | go_skip | go_guarded | go_step | go_upon | go_back)
    go_ret
    exact ⟨rfl, HB_1.out⟩
  obtain ⟨c6, hc6⟩ : ∃ c, tt (HoldP M sp ho he lm ∧ LockP M ho) = c := ⟨_, rfl⟩
  have C6 := Lib.hid hc6
  clear hc6
  cases c6
  · have hf : R = false := by rw [← HR.out]; exact tt_no (fun g => tt_not C6.out (by have h := HG.out.1 g; exact ⟨h.2.2.2.2.2.2.1, h.2.2.2.2.2.2.2.1⟩))
    subst hf
    refine wp_region_det ?_
    repeat (first
      | (go_big_quiet_want; refine quiet_load (T := 53) (x := .tmp 1) (g := w.heap.size) (cs := arr) rfl rfl B_0.out Tryz.underlying53 rfl (by rw [HV.out.size]; kernel_rfl) ?_; simp only [Act.put, List.setIfInBounds_toArray, List.set_cons_succ, List.set_cons_zero]; go_big_quiet_on)
      | go_big_quiet_step (first
      | (go_at_call 36; exact Calls.regrown_of (ret_is C1.out (implParts arr l qu mw mr ms lm now M tu cr bk sp ho he la av aw ab af ay al ar az dv dw db df dy dl dr dz mem rg ti ff pk lg Al Pl AM PM Abk Pbk Asp Psp Amem Pmem Arg Prg Aff Pff Alg Plg nl nM nb ns ng _ (HV.out.later (below_rg HB_0.out _ _)) HZ.out)))
      | (go_at_call 37; exact Calls.regrown_of (ret_is C2.out (implMasters arr l qu mw mr ms lm now M tu cr bk sp ho he la av aw ab af ay al ar az dv dw db df dy dl dr dz mem rg ti ff pk lg Al Pl AM PM Abk Pbk Asp Psp Amem Pmem Arg Prg Aff Pff Alg Plg nl nM nb ns ng _ (HV.out.later (below_rg HB_0.out _ _)) HZ.out HOK.out)))
      | (go_at_call 38; exact Calls.regrown_of (ret_is C3.out (implAddr arr l qu mw mr ms lm now M tu cr bk sp ho he la av aw ab af ay al ar az dv dw db df dy dl dr dz mem rg ti ff pk lg Al Pl AM PM Abk Pbk Asp Psp Amem Pmem Arg Prg Aff Pff Alg Plg nl nM nb ns ng _ (HV.out.later (below_rg HB_0.out _ _)) HZ.out HLM.out HLS.out HBD.out)))
      | (go_at_call 39; exact Calls.regrown_of (ret_is C4.out (implData arr l qu mw mr ms lm now M tu cr bk sp ho he la av aw ab af ay al ar az dv dw db df dy dl dr dz mem rg ti ff pk lg Al Pl AM PM Abk Pbk Asp Psp Amem Pmem Arg Prg Aff Pff Alg Plg nl nM nb ns ng _ (HV.out.later (below_rg HB_0.out _ _)) HZ.out HLM.out HLS.out HBD.out HMW.out)))
      | (go_at_call 40; exact Calls.regrown_of (ret_is C5.out (implAhead arr l qu mw mr ms lm now M tu cr bk sp ho he la av aw ab af ay al ar az dv dw db df dy dl dr dz mem rg ti ff pk lg Al Pl AM PM Abk Pbk Asp Psp Amem Pmem Arg Prg Aff Pff Alg Plg nl nM nb ns ng _ (HV.out.later (below_rg HB_0.out _ _)) HZ.out HLM.out HBD.out HIA.out HID.out)))
      | (go_at_call 41; exact Calls.regrown_of (ret_is C6.out (implHolder arr l qu mw mr ms lm now M tu cr bk sp ho he la av aw ab af ay al ar az dv dw db df dy dl dr dz mem rg ti ff pk lg Al Pl AM PM Abk Pbk Asp Psp Amem Pmem Arg Prg Aff Pff Alg Plg nl nM nb ns ng _ (HV.out.later (below_rg HB_0.out _ _)) HZ.out HLM.out HLS.out)))))
    refine wpQuiet_nil ?_
    rintro _ ⟨qq, rfl⟩
    have hq := below_regrown y0 qq.d qq.os
    have B_1 := Lib.hid (B_0.out.later hq)
    have HB_1 := Lib.hid (HB_0.out.trans (hq.mono HB_0.out.size))
    clear B_0 HB_0 hq 
    repeat (first | go_values | go_skip | go_guarded | go_step | go_upon | go_back)
    go_ret
    exact ⟨rfl, HB_1.out⟩
  obtain ⟨c7, hc7⟩ : ∃ c, tt (LogP l.length now lg) = c := ⟨_, rfl⟩
  have C7 := Lib.hid hc7
  clear hc7
  cases c7
  · have hf : R = false := by rw [← HR.out]; exact tt_no (fun g => tt_not C7.out (by have h := HG.out.1 g; exact h.2.2.2.2.2.2.2.2))
    subst hf
    refine wp_region_det ?_
    repeat (first
      | (go_big_quiet_want; refine quiet_load (T := 53) (x := .tmp 1) (g := w.heap.size) (cs := arr) rfl rfl B_0.out Tryz.underlying53 rfl (by rw [HV.out.size]; kernel_rfl) ?_; simp only [Act.put, List.setIfInBounds_toArray, List.set_cons_succ, List.set_cons_zero]; go_big_quiet_on)
      | go_big_quiet_step (first
      | (go_at_call 36; exact Calls.regrown_of (ret_is C1.out (implParts arr l qu mw mr ms lm now M tu cr bk sp ho he la av aw ab af ay al ar az dv dw db df dy dl dr dz mem rg ti ff pk lg Al Pl AM PM Abk Pbk Asp Psp Amem Pmem Arg Prg Aff Pff Alg Plg nl nM nb ns ng _ (HV.out.later (below_rg HB_0.out _ _)) HZ.out)))
      | (go_at_call 37; exact Calls.regrown_of (ret_is C2.out (implMasters arr l qu mw mr ms lm now M tu cr bk sp ho he la av aw ab af ay al ar az dv dw db df dy dl dr dz mem rg ti ff pk lg Al Pl AM PM Abk Pbk Asp Psp Amem Pmem Arg Prg Aff Pff Alg Plg nl nM nb ns ng _ (HV.out.later (below_rg HB_0.out _ _)) HZ.out HOK.out)))
      | (go_at_call 38; exact Calls.regrown_of (ret_is C3.out (implAddr arr l qu mw mr ms lm now M tu cr bk sp ho he la av aw ab af ay al ar az dv dw db df dy dl dr dz mem rg ti ff pk lg Al Pl AM PM Abk Pbk Asp Psp Amem Pmem Arg Prg Aff Pff Alg Plg nl nM nb ns ng _ (HV.out.later (below_rg HB_0.out _ _)) HZ.out HLM.out HLS.out HBD.out)))
      | (go_at_call 39; exact Calls.regrown_of (ret_is C4.out (implData arr l qu mw mr ms lm now M tu cr bk sp ho he la av aw ab af ay al ar az dv dw db df dy dl dr dz mem rg ti ff pk lg Al Pl AM PM Abk Pbk Asp Psp Amem Pmem Arg Prg Aff Pff Alg Plg nl nM nb ns ng _ (HV.out.later (below_rg HB_0.out _ _)) HZ.out HLM.out HLS.out HBD.out HMW.out)))
      | (go_at_call 40; exact Calls.regrown_of (ret_is C5.out (implAhead arr l qu mw mr ms lm now M tu cr bk sp ho he la av aw ab af ay al ar az dv dw db df dy dl dr dz mem rg ti ff pk lg Al Pl AM PM Abk Pbk Asp Psp Amem Pmem Arg Prg Aff Pff Alg Plg nl nM nb ns ng _ (HV.out.later (below_rg HB_0.out _ _)) HZ.out HLM.out HBD.out HIA.out HID.out)))
      | (go_at_call 41; exact Calls.regrown_of (ret_is C6.out (implHolder arr l qu mw mr ms lm now M tu cr bk sp ho he la av aw ab af ay al ar az dv dw db df dy dl dr dz mem rg ti ff pk lg Al Pl AM PM Abk Pbk Asp Psp Amem Pmem Arg Prg Aff Pff Alg Plg nl nM nb ns ng _ (HV.out.later (below_rg HB_0.out _ _)) HZ.out HLM.out HLS.out)))
      | (go_at_call 42; exact Calls.regrown_of (ret_is C7.out (implLog arr l qu mw mr ms lm now M tu cr bk sp ho he la av aw ab af ay al ar az dv dw db df dy dl dr dz mem rg ti ff pk lg Al Pl AM PM Abk Pbk Asp Psp Amem Pmem Arg Prg Aff Pff Alg Plg nl nM nb ns ng _ (HV.out.later (below_rg HB_0.out _ _)) HZ.out HNW.out)))))
    refine wpQuiet_nil ?_
    rintro _ ⟨qq, rfl⟩
    have hq := below_regrown y0 qq.d qq.os
    have B_1 := Lib.hid (B_0.out.later hq)
    have HB_1 := Lib.hid (HB_0.out.trans (hq.mono HB_0.out.size))
    clear B_0 HB_0 hq 
    repeat (first | go_values | go_skip | go_guarded | go_step | go_upon | go_back)
    go_ret
    exact ⟨rfl, HB_1.out⟩
  have hf : R = true := by rw [← HR.out]; exact tt_yes (HG.out.2 ⟨HP1.out, HP2.out.1, HP2.out.2, tt_of C3.out, tt_of C4.out, tt_of C5.out, (tt_of C6.out).1, (tt_of C6.out).2, tt_of C7.out⟩)
  subst hf
  refine wp_region_det ?_
  repeat (first
    | (go_big_quiet_want; refine quiet_load (T := 53) (x := .tmp 1) (g := w.heap.size) (cs := arr) rfl rfl B_0.out Tryz.underlying53 rfl (by rw [HV.out.size]; kernel_rfl) ?_; simp only [Act.put, List.setIfInBounds_toArray, List.set_cons_succ, List.set_cons_zero]; go_big_quiet_on)
    | go_big_quiet_step (first
    | (go_at_call 36; exact Calls.regrown_of (ret_is C1.out (implParts arr l qu mw mr ms lm now M tu cr bk sp ho he la av aw ab af ay al ar az dv dw db df dy dl dr dz mem rg ti ff pk lg Al Pl AM PM Abk Pbk Asp Psp Amem Pmem Arg Prg Aff Pff Alg Plg nl nM nb ns ng _ (HV.out.later (below_rg HB_0.out _ _)) HZ.out)))
    | (go_at_call 37; exact Calls.regrown_of (ret_is C2.out (implMasters arr l qu mw mr ms lm now M tu cr bk sp ho he la av aw ab af ay al ar az dv dw db df dy dl dr dz mem rg ti ff pk lg Al Pl AM PM Abk Pbk Asp Psp Amem Pmem Arg Prg Aff Pff Alg Plg nl nM nb ns ng _ (HV.out.later (below_rg HB_0.out _ _)) HZ.out HOK.out)))
    | (go_at_call 38; exact Calls.regrown_of (ret_is C3.out (implAddr arr l qu mw mr ms lm now M tu cr bk sp ho he la av aw ab af ay al ar az dv dw db df dy dl dr dz mem rg ti ff pk lg Al Pl AM PM Abk Pbk Asp Psp Amem Pmem Arg Prg Aff Pff Alg Plg nl nM nb ns ng _ (HV.out.later (below_rg HB_0.out _ _)) HZ.out HLM.out HLS.out HBD.out)))
    | (go_at_call 39; exact Calls.regrown_of (ret_is C4.out (implData arr l qu mw mr ms lm now M tu cr bk sp ho he la av aw ab af ay al ar az dv dw db df dy dl dr dz mem rg ti ff pk lg Al Pl AM PM Abk Pbk Asp Psp Amem Pmem Arg Prg Aff Pff Alg Plg nl nM nb ns ng _ (HV.out.later (below_rg HB_0.out _ _)) HZ.out HLM.out HLS.out HBD.out HMW.out)))
    | (go_at_call 40; exact Calls.regrown_of (ret_is C5.out (implAhead arr l qu mw mr ms lm now M tu cr bk sp ho he la av aw ab af ay al ar az dv dw db df dy dl dr dz mem rg ti ff pk lg Al Pl AM PM Abk Pbk Asp Psp Amem Pmem Arg Prg Aff Pff Alg Plg nl nM nb ns ng _ (HV.out.later (below_rg HB_0.out _ _)) HZ.out HLM.out HBD.out HIA.out HID.out)))
    | (go_at_call 41; exact Calls.regrown_of (ret_is C6.out (implHolder arr l qu mw mr ms lm now M tu cr bk sp ho he la av aw ab af ay al ar az dv dw db df dy dl dr dz mem rg ti ff pk lg Al Pl AM PM Abk Pbk Asp Psp Amem Pmem Arg Prg Aff Pff Alg Plg nl nM nb ns ng _ (HV.out.later (below_rg HB_0.out _ _)) HZ.out HLM.out HLS.out)))
    | (go_at_call 42; exact Calls.regrown_of (ret_is C7.out (implLog arr l qu mw mr ms lm now M tu cr bk sp ho he la av aw ab af ay al ar az dv dw db df dy dl dr dz mem rg ti ff pk lg Al Pl AM PM Abk Pbk Asp Psp Amem Pmem Arg Prg Aff Pff Alg Plg nl nM nb ns ng _ (HV.out.later (below_rg HB_0.out _ _)) HZ.out HNW.out)))))
  refine wpQuiet_nil ?_
  rintro _ ⟨qq, rfl⟩
  have hq := below_regrown y0 qq.d qq.os
  have B_1 := Lib.hid (B_0.out.later hq)
  have HB_1 := Lib.hid (HB_0.out.trans (hq.mono HB_0.out.size))
  clear B_0 HB_0 hq 
  repeat (first | go_values | go_skip | go_guarded | go_step | go_upon | go_back)
  go_ret
  exact ⟨rfl, HB_1.out⟩
theorem implBusOk (cs : List Value) (x : BusX) (hs : busK.sz x ≤ 2000000) (w : World) (h : busK.rd cs x w) :
    Calls Tryz.prog 8 #[agg cs] w fun e w' => e = .returned (.bool (tt (GoodBus x))) ∧ Below w.heap.size w w' := by
  have h := (by simpa using h : busK.rd cs.toArray.toList x w)
  unfold agg
  generalize cs.toArray = arr at h ⊢
  obtain ⟨⟨l, qu, mw, mr, ms, lm⟩, now, M, ⟨tu, cr⟩, bk, sp, ho, he, la, ⟨av, aw, ab, af, ay, al, ar, az⟩, ⟨dv, dw, db, df, dy, dl, dr, dz⟩, ⟨mem, ⟨rg, ti, ff⟩⟩, pk, lg⟩ := x
  obtain ⟨Al, Pl, AM, PM, Abk, Pbk, Asp, Psp, Amem, Pmem, Arg, Prg, Aff, Pff, Alg, Plg, nl, nM, nb, ns, ng, v⟩ := bus_at h
  exact implBusOkV _ _ _ _ _ _ _ _ _ _ _ _ _ _ _ _ _ _ _ _ _ _ _ _ _ _ _ _ _ _ _ _ _ _ _ _ _ _ _ _ _ _ _ _ _ _ _ _ _ _ _ _ _ _ _ _ _ _ _ _ v (bus_z hs)

end Go.Proofs.YtdhaelaoackfkaaGreat.KD
