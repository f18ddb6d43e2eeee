
/-
  Are two buses the same: the model's SameBus. (Made by wip/gbus.py.)
-/
import Derived.Test.YtdhaelaoackfkaaBSame
namespace Go.Proofs.Ytdhaelaoackfkaa.KD
open Go.RowKit Rows3 GR Num
set_option linter.unusedVariables false
set_option maxHeartbeats 16000000 in
set_option maxRecDepth 100000 in
theorem specSameBus (cs ds : List Value) (x y : BusX) (hs : busK.sz x ≤ 2000000) (hs' : busK.sz y ≤ 2000000) (w : World) (h : busK.rd cs x w) (h' : busK.rd ds y w) :
    Calls Try.prog 15 #[agg cs, agg ds] w fun e w' => e = .returned (.bool (same x y)) ∧ Below w.heap.size w w' := by
  have h := (by simpa using h : busK.rd cs.toArray.toList x w)
  have h' := (by simpa using h' : busK.rd ds.toArray.toList y w)
  unfold agg
  generalize cs.toArray = arr at h ⊢
  generalize ds.toArray = brr at h' ⊢
  obtain ⟨⟨l, qu, mw, mr, ms, lm⟩, now, M, ⟨tu, cr⟩, bk, sp, ho, he, la, ⟨av, aw, ab, af, ay, al, ar, az⟩, ⟨dv, dw, db, df, dy, dl, dr, dz⟩, ⟨mem, ⟨rg, ti, ff⟩⟩, pk, lg⟩ := x
  obtain ⟨⟨l', qu', mw', mr', ms', lm'⟩, now', M', ⟨tu', cr'⟩, bk', sp', ho', he', la', ⟨av', aw', ab', af', ay', al', ar', az'⟩, ⟨dv', dw', db', df', dy', dl', dr', dz'⟩, ⟨mem', ⟨rg', ti', ff'⟩⟩, pk', lg'⟩ := y
  obtain ⟨Al, Pl, AM, PM, Abk, Pbk, Asp, Psp, Amem, Pmem, Arg, Prg, Aff, Pff, Alg, Plg, nl, nM, nb, ns, ng, v⟩ := bus_at h
  obtain ⟨Al', Pl', AM', PM', Abk', Pbk', Asp', Psp', Amem', Pmem', Arg', Prg', Aff', Pff', Alg', Plg', nl', nM', nb', ns', ng', u⟩ := bus_at h'
  have HV := Lib.hid v
  have HU := Lib.hid u
  have HZ := Lib.hid (bus_z hs)
  have HZ' := Lib.hid (bus_z hs')
  clear h h' v u hs hs'
  obtain ⟨R, hR0⟩ : ∃ R, same (((l, qu, mw, mr, ms, lm), now, M, (tu, cr), bk, sp, ho, he, la, (av, aw, ab, af, ay, al, ar, az), (dv, dw, db, df, dy, dl, dr, dz), (mem, (rg, ti, ff)), pk, lg) : BusX) ((l', qu', mw', mr', ms', lm'), now', M', (tu', cr'), bk', sp', ho', he', la', (av', aw', ab', af', ay', al', ar', az'), (dv', dw', db', df', dy', dl', dr', dz'), (mem', (rg', ti', ff')), pk', lg') = R := ⟨_, rfl⟩
  rw [show same (((l, qu, mw, mr, ms, lm), now, M, (tu, cr), bk, sp, ho, he, la, (av, aw, ab, af, ay, al, ar, az), (dv, dw, db, df, dy, dl, dr, dz), (mem, (rg, ti, ff)), pk, lg) : BusX) ((l', qu', mw', mr', ms', lm'), now', M', (tu', cr'), bk', sp', ho', he', la', (av', aw', ab', af', ay', al', ar', az'), (dv', dw', db', df', dy', dl', dr', dz'), (mem', (rg', ti', ff')), pk', lg') = R from hR0]
  have HR := Lib.hid hR0
  clear hR0
  have hsz : ∀ (w : World) o, (w.alloc o).heap.size = w.heap.size + 1 := fun w o => by simp
  obtain ⟨y0, hy0⟩ : ∃ y, (w.alloc (Obj.cells arr 42)).alloc (Obj.cells brr 42) = y := ⟨_, rfl⟩
  have A := (Bx.new 42 arr w).alloc (Obj.cells brr 42)
  have B := Bx.new 42 brr (w.alloc (Obj.cells arr 42))
  rw [hsz] at B
  have hb0 := ((Below.refl w.heap.size w).alloc (Nat.le_refl _) (Obj.cells arr 42)).alloc (by simp) (Obj.cells brr 42)
  rw [hy0] at A B hb0
  have A_0 := Lib.hid A
  have B_0 := Lib.hid B
  have HB_0 := Lib.hid hb0
  clear A B hb0 hsz
  go_enter Try.func15, Try.ntmps15
  go_upto_region 1 with fail
  dsimp only [List.append]
  have gA0 := A_0.out.cell 0 _ HV.out.c0
  have gA1 := A_0.out.cell 1 _ HV.out.c1
  have gA2 := A_0.out.cell 2 _ HV.out.c2
  have gA3 := A_0.out.cell 3 _ HV.out.c3
  have gA4 := A_0.out.cell 4 _ HV.out.c4
  have gA5 := A_0.out.cell 5 _ HV.out.c5
  have gB0 := B_0.out.cell 0 _ HU.out.c0
  have gB1 := B_0.out.cell 1 _ HU.out.c1
  have gB2 := B_0.out.cell 2 _ HU.out.c2
  have gB3 := B_0.out.cell 3 _ HU.out.c3
  have gB4 := B_0.out.cell 4 _ HU.out.c4
  have gB5 := B_0.out.cell 5 _ HU.out.c5
  obtain ⟨c, hc⟩ : ∃ c, same (l, qu, mw, mr, ms, lm) (l', qu', mw', mr', ms', lm') = c := ⟨_, rfl⟩
  have HC := Lib.hid hc
  clear hc
  repeat (first | go_values | go_skip | go_guarded | go_step | go_upon | go_back)
  refine (specSameConf_is HC.out HZ.out.zl _ (conf_rd (mConfS.rd_later HV.out.rl HB_0.out)) (conf_rd (mConfS.rd_later HU.out.rl HB_0.out))).mono ?_
  rintro e y1 ⟨rfl, hb⟩
  dsimp only
  clear gA0 gA1 gA2 gA3 gA4 gA5 gB0 gB1 gB2 gB3 gB4 gB5
  have A_1 := Lib.hid (A_0.out.later hb)
  have B_1 := Lib.hid (B_0.out.later hb)
  have HB_1 := Lib.hid (HB_0.out.trans (hb.mono HB_0.out.size))
  clear A_0 B_0 HB_0 hb hy0
  cases c
  · have hd := same_ne HC.out
    have hf : R = false := by rw [← HR.out]; exact same_no (fun e => hd (congrArg (fun z : BusX => z.1) e))
    subst hf
    repeat (first | go_values | go_skip | go_guarded | go_step | go_upon | go_back)
    go_ret
    exact ⟨rfl, HB_1.out⟩
  have he := same_eq HC.out
  clear HC
  simp only [Prod.mk.injEq] at he
  obtain ⟨rfl, rfl, rfl, rfl, rfl, rfl⟩ := he
  have gA6 := A_1.out.cell 6 _ HV.out.c6
  have gA7 := A_1.out.cell 7 _ HV.out.c7
  have gA10 := A_1.out.cell 10 _ HV.out.c10
  have gA11 := A_1.out.cell 11 _ HV.out.c11
  have gB6 := B_1.out.cell 6 _ HU.out.c6
  have gB7 := B_1.out.cell 7 _ HU.out.c7
  have gB10 := B_1.out.cell 10 _ HU.out.c10
  have gB11 := B_1.out.cell 11 _ HU.out.c11
  by_cases hd : now = now'
  rotate_left
  · skip
    have hf : R = false := by rw [← HR.out]; exact same_no (fun e => hd (congrArg (fun z : BusX => z.2.1) e))
    subst hf
    repeat (first | go_values | go_skip | go_guarded | go_step | go_upon | go_back)
    go_ret
    exact ⟨rfl, HB_1.out⟩
  subst hd
  by_cases hd0 : nM = nM'
  rotate_left
  · have hd : M ≠ M' := fun e => hd0 (by rw [← HV.out.nM, ← HU.out.nM, e])
    have hne : (((nM : Nat) : Int) != ((nM' : Nat) : Int)) = true := by simp; omega
    have hf : R = false := by rw [← HR.out]; exact same_no (fun e => hd (congrArg (fun z : BusX => z.2.2.1) e))
    subst hf
    repeat (first | go_values | go_skip | go_guarded | go_step | go_upon | go_back)
    go_ret
    exact ⟨rfl, HB_1.out⟩
  subst hd0
  have hnM : (((nM : Nat) : Int) != ((nM : Nat) : Int)) = false := by simp
  by_cases hd0 : nb = nb'
  rotate_left
  · have hd : bk ≠ bk' := fun e => hd0 (by rw [← HV.out.nbk, ← HU.out.nbk, e])
    have hne : (((nb : Nat) : Int) != ((nb' : Nat) : Int)) = true := by simp; omega
    have hf : R = false := by rw [← HR.out]; exact same_no (fun e => hd (congrArg (fun z : BusX => z.2.2.2.2.1) e))
    subst hf
    repeat (first | go_values | go_skip | go_guarded | go_step | go_upon | go_back)
    go_ret
    exact ⟨rfl, HB_1.out⟩
  subst hd0
  have hnbk : (((nb : Nat) : Int) != ((nb : Nat) : Int)) = false := by simp
  obtain ⟨c, hc⟩ : ∃ c, same sp sp' = c := ⟨_, rfl⟩
  have HC := Lib.hid hc
  clear hc
  repeat (first | go_values | go_skip | go_guarded | go_step | go_upon | go_back)
  refine (l5Ints_is HC.out HV.out.nsp HU.out.nsp HZ.out.zs _ (ints.rd_later HV.out.rsp HB_1.out) (ints.rd_later HU.out.rsp HB_1.out)).mono ?_
  rintro e y5 ⟨rfl, hb⟩
  dsimp only
  clear gA6 gA7 gA10 gA11 gB6 gB7 gB10 gB11
  have A_2 := Lib.hid (A_1.out.later hb)
  have B_2 := Lib.hid (B_1.out.later hb)
  have HB_2 := Lib.hid (HB_1.out.trans (hb.mono HB_1.out.size))
  clear A_1 B_1 HB_1 hb 
  cases c
  · have hd := same_ne HC.out
    have hf : R = false := by rw [← HR.out]; exact same_no (fun e => hd (congrArg (fun z : BusX => z.2.2.2.2.2.1) e))
    subst hf
    repeat (first | go_values | go_skip | go_guarded | go_step | go_upon | go_back)
    go_ret
    exact ⟨rfl, HB_2.out⟩
  have he := same_eq HC.out
  clear HC
  subst he
  obtain rfl : ns = ns' := by rw [← HV.out.nsp, ← HU.out.nsp]
  have gA8 := A_2.out.cell 8 _ HV.out.c8
  have gA9 := A_2.out.cell 9 _ HV.out.c9
  have gA12 := A_2.out.cell 12 _ HV.out.c12
  have gA13 := A_2.out.cell 13 _ HV.out.c13
  have gA14 := A_2.out.cell 14 _ HV.out.c14
  have gA15 := A_2.out.cell 15 _ HV.out.c15
  have gA16 := A_2.out.cell 16 _ HV.out.c16
  have gA17 := A_2.out.cell 17 _ HV.out.c17
  have gA18 := A_2.out.cell 18 _ HV.out.c18
  have gA19 := A_2.out.cell 19 _ HV.out.c19
  have gA20 := A_2.out.cell 20 _ HV.out.c20
  have gA21 := A_2.out.cell 21 _ HV.out.c21
  have gA22 := A_2.out.cell 22 _ HV.out.c22
  have gA23 := A_2.out.cell 23 _ HV.out.c23
  have gA24 := A_2.out.cell 24 _ HV.out.c24
  have gA25 := A_2.out.cell 25 _ HV.out.c25
  have gA26 := A_2.out.cell 26 _ HV.out.c26
  have gA27 := A_2.out.cell 27 _ HV.out.c27
  have gA28 := A_2.out.cell 28 _ HV.out.c28
  have gA29 := A_2.out.cell 29 _ HV.out.c29
  have gA30 := A_2.out.cell 30 _ HV.out.c30
  have gA31 := A_2.out.cell 31 _ HV.out.c31
  have gA32 := A_2.out.cell 32 _ HV.out.c32
  have gA33 := A_2.out.cell 33 _ HV.out.c33
  have gA34 := A_2.out.cell 34 _ HV.out.c34
  have gB8 := B_2.out.cell 8 _ HU.out.c8
  have gB9 := B_2.out.cell 9 _ HU.out.c9
  have gB12 := B_2.out.cell 12 _ HU.out.c12
  have gB13 := B_2.out.cell 13 _ HU.out.c13
  have gB14 := B_2.out.cell 14 _ HU.out.c14
  have gB15 := B_2.out.cell 15 _ HU.out.c15
  have gB16 := B_2.out.cell 16 _ HU.out.c16
  have gB17 := B_2.out.cell 17 _ HU.out.c17
  have gB18 := B_2.out.cell 18 _ HU.out.c18
  have gB19 := B_2.out.cell 19 _ HU.out.c19
  have gB20 := B_2.out.cell 20 _ HU.out.c20
  have gB21 := B_2.out.cell 21 _ HU.out.c21
  have gB22 := B_2.out.cell 22 _ HU.out.c22
  have gB23 := B_2.out.cell 23 _ HU.out.c23
  have gB24 := B_2.out.cell 24 _ HU.out.c24
  have gB25 := B_2.out.cell 25 _ HU.out.c25
  have gB26 := B_2.out.cell 26 _ HU.out.c26
  have gB27 := B_2.out.cell 27 _ HU.out.c27
  have gB28 := B_2.out.cell 28 _ HU.out.c28
  have gB29 := B_2.out.cell 29 _ HU.out.c29
  have gB30 := B_2.out.cell 30 _ HU.out.c30
  have gB31 := B_2.out.cell 31 _ HU.out.c31
  have gB32 := B_2.out.cell 32 _ HU.out.c32
  have gB33 := B_2.out.cell 33 _ HU.out.c33
  have gB34 := B_2.out.cell 34 _ HU.out.c34
  by_cases hd : (tu, cr) = (tu', cr')
  rotate_left
  · skip
    have hq := fun w => neqWrr tu cr tu' cr' w
    rw [same_no hd] at hq
    have hgd := guardWrr
    have hf : R = false := by rw [← HR.out]; exact same_no (fun e => hd (congrArg (fun z : BusX => z.2.2.2.1) e))
    subst hf
    repeat (first | go_values | go_skip | go_guarded | go_step | go_upon | go_back)
    go_ret
    exact ⟨rfl, HB_2.out⟩
  simp only [Prod.mk.injEq] at hd
  obtain ⟨rfl, rfl⟩ := hd
  have hqarb := fun w => neqWrr tu cr tu cr w
  simp only [same_yes] at hqarb
  have hgarb := guardWrr
  by_cases hd : ho = ho'
  rotate_left
  · skip
    have hf : R = false := by rw [← HR.out]; exact same_no (fun e => hd (congrArg (fun z : BusX => z.2.2.2.2.2.2.1) e))
    subst hf
    repeat (first | go_values | go_skip | go_guarded | go_step | go_upon | go_back)
    go_ret
    exact ⟨rfl, HB_2.out⟩
  subst hd
  by_cases hd : he = he'
  rotate_left
  · skip
    have hf : R = false := by rw [← HR.out]; exact same_no (fun e => hd (congrArg (fun z : BusX => z.2.2.2.2.2.2.2.1) e))
    subst hf
    repeat (first | go_values | go_skip | go_guarded | go_step | go_upon | go_back)
    go_ret
    exact ⟨rfl, HB_2.out⟩
  subst hd
  by_cases hd : la = la'
  rotate_left
  · skip
    have hf : R = false := by rw [← HR.out]; exact same_no (fun e => hd (congrArg (fun z : BusX => z.2.2.2.2.2.2.2.2.1) e))
    subst hf
    repeat (first | go_values | go_skip | go_guarded | go_step | go_upon | go_back)
    go_ret
    exact ⟨rfl, HB_2.out⟩
  subst hd
  by_cases hd : (av, aw, ab, af, ay, al, ar, az) = (av', aw', ab', af', ay', al', ar', az')
  rotate_left
  · skip
    have hq := fun w => neqBeat av aw ab af ay al ar az av' aw' ab' af' ay' al' ar' az' w
    rw [same_no hd] at hq
    have hgd := guardBeat
    have hf : R = false := by rw [← HR.out]; exact same_no (fun e => hd (congrArg (fun z : BusX => z.2.2.2.2.2.2.2.2.2.1) e))
    subst hf
    repeat (first | go_values | go_skip | go_guarded | go_step | go_upon | go_back)
    go_ret
    exact ⟨rfl, HB_2.out⟩
  simp only [Prod.mk.injEq] at hd
  obtain ⟨rfl, rfl, rfl, rfl, rfl, rfl, rfl, rfl⟩ := hd
  have hqaddr := fun w => neqBeat av aw ab af ay al ar az av aw ab af ay al ar az w
  simp only [same_yes] at hqaddr
  have hgaddr := guardBeat
  by_cases hd : (dv, dw, db, df, dy, dl, dr, dz) = (dv', dw', db', df', dy', dl', dr', dz')
  rotate_left
  · skip
    have hq := fun w => neqBeat dv dw db df dy dl dr dz dv' dw' db' df' dy' dl' dr' dz' w
    rw [same_no hd] at hq
    have hgd := guardBeat
    have hf : R = false := by rw [← HR.out]; exact same_no (fun e => hd (congrArg (fun z : BusX => z.2.2.2.2.2.2.2.2.2.2.1) e))
    subst hf
    repeat (first | go_values | go_skip | go_guarded | go_step | go_upon | go_back)
    go_ret
    exact ⟨rfl, HB_2.out⟩
  simp only [Prod.mk.injEq] at hd
  obtain ⟨rfl, rfl, rfl, rfl, rfl, rfl, rfl, rfl⟩ := hd
  have hqdata := fun w => neqBeat dv dw db df dy dl dr dz dv dw db df dy dl dr dz w
  simp only [same_yes] at hqdata
  have hgdata := guardBeat
  obtain ⟨c, hc⟩ : ∃ c, same (mem, (rg, ti, ff)) (mem', (rg', ti', ff')) = c := ⟨_, rfl⟩
  have HC := Lib.hid hc
  clear hc
  repeat (first | go_values | go_skip | go_guarded | go_step | go_upon | go_back)
  refine (specSameModel_is HC.out HZ.out.zm HZ.out.zr HZ.out.zf _ (model_rd (ints.rd_later HV.out.rmem HB_2.out) (ints.rd_later HV.out.rrg HB_2.out) (ints.rd_later HV.out.rff HB_2.out)) (model_rd (ints.rd_later HU.out.rmem HB_2.out) (ints.rd_later HU.out.rrg HB_2.out) (ints.rd_later HU.out.rff HB_2.out))).mono ?_
  rintro e y12 ⟨rfl, hb⟩
  dsimp only
  clear gA8 gA9 gA12 gA13 gA14 gA15 gA16 gA17 gA18 gA19 gA20 gA21 gA22 gA23 gA24 gA25 gA26 gA27 gA28 gA29 gA30 gA31 gA32 gA33 gA34 gB8 gB9 gB12 gB13 gB14 gB15 gB16 gB17 gB18 gB19 gB20 gB21 gB22 gB23 gB24 gB25 gB26 gB27 gB28 gB29 gB30 gB31 gB32 gB33 gB34
  have A_3 := Lib.hid (A_2.out.later hb)
  have B_3 := Lib.hid (B_2.out.later hb)
  have HB_3 := Lib.hid (HB_2.out.trans (hb.mono HB_2.out.size))
  clear A_2 B_2 HB_2 hb 
  cases c
  · have hd := same_ne HC.out
    have hf : R = false := by rw [← HR.out]; exact same_no (fun e => hd (congrArg (fun z : BusX => z.2.2.2.2.2.2.2.2.2.2.2.1) e))
    subst hf
    repeat (first | go_values | go_skip | go_guarded | go_step | go_upon | go_back)
    go_ret
    exact ⟨rfl, HB_3.out⟩
  have he := same_eq HC.out
  clear HC
  simp only [Prod.mk.injEq] at he
  obtain ⟨rfl, rfl, rfl, rfl⟩ := he
  have gA35 := A_3.out.cell 35 _ HV.out.c35
  have gA36 := A_3.out.cell 36 _ HV.out.c36
  have gB35 := B_3.out.cell 35 _ HU.out.c35
  have gB36 := B_3.out.cell 36 _ HU.out.c36
  by_cases hd : pk = pk'
  rotate_left
  · skip
    have hf : R = false := by rw [← HR.out]; exact same_no (fun e => hd (congrArg (fun z : BusX => z.2.2.2.2.2.2.2.2.2.2.2.2.1) e))
    subst hf
    repeat (first | go_values | go_skip | go_guarded | go_step | go_upon | go_back)
    go_ret
    exact ⟨rfl, HB_3.out⟩
  subst hd
  obtain ⟨c, hc⟩ : ∃ c, same lg lg' = c := ⟨_, rfl⟩
  have HC := Lib.hid hc
  clear hc
  repeat (first | go_values | go_skip | go_guarded | go_step | go_upon | go_back)
  refine (l13Same_is HC.out HV.out.nlg HU.out.nlg (by rw [← HV.out.nlg]; exact HZ.out.zg) _ (doneS.rd_later HV.out.rlg HB_3.out) (doneS.rd_later HU.out.rlg HB_3.out)).mono ?_
  rintro e y14 ⟨rfl, hb⟩
  dsimp only
  clear gA35 gA36 gB35 gB36
  have A_4 := Lib.hid (A_3.out.later hb)
  have B_4 := Lib.hid (B_3.out.later hb)
  have HB_4 := Lib.hid (HB_3.out.trans (hb.mono HB_3.out.size))
  clear A_3 B_3 HB_3 hb 
  cases c
  · have hd := same_ne HC.out
    have hf : R = false := by rw [← HR.out]; exact same_no (fun e => hd (congrArg (fun z : BusX => z.2.2.2.2.2.2.2.2.2.2.2.2.2) e))
    subst hf
    repeat (first | go_values | go_skip | go_guarded | go_step | go_upon | go_back)
    go_ret
    exact ⟨rfl, HB_4.out⟩
  have he := same_eq HC.out
  clear HC
  subst he
  obtain rfl : ng = ng' := by rw [← HV.out.nlg, ← HU.out.nlg]
  have hlM : nM ≤ 2000000 := by rw [← HV.out.nM]; exact HZ.out.zMl
  have hlb : nb ≤ 2000000 := by rw [← HV.out.nbk]; exact HZ.out.zb
  repeat (first | go_values | go_skip | go_guarded | go_step | go_upon | go_back)
  go_loopw [5] (fun i wr => ∃ j : Nat, j ≤ nM ∧ i = .int .i64 j ∧ Hid (upTo M M' j) ∧ Hid (Bx 42 w.heap.size arr wr) ∧ Hid (Bx 42 (w.heap.size + 1) brr wr) ∧ Hid (Below w.heap.size w wr)) (fun i _ => nM - (intOf i).toNat)
  case atStart => exact ⟨0, by omega, rfl, Lib.hid rfl, A_4, B_4, HB_4⟩
  case round =>
    clear A_4 B_4 HB_4
    obtain ⟨j, hj, rfl, HQ, A_0, B_0, HB_0⟩ := hrel
    by_cases hlt : j < nM
    · obtain ⟨x, hx⟩ := get_of (l := M) (i := j) (by rw [HV.out.nM]; exact hlt)
      obtain ⟨y, hy⟩ := get_of (l := M') (i := j) (by rw [HU.out.nM]; exact hlt)
      have hsx : mstK.sz x ≤ 2000000 := HZ.out.zi _ (List.mem_of_getElem? hx)
      have hsy : mstK.sz y ≤ 2000000 := HZ'.out.zi _ (List.mem_of_getElem? hy)
      have HX := Lib.hid hx
      have HY := Lib.hid hy
      have HSX := Lib.hid hsx
      have HSY := Lib.hid hsy
      obtain ⟨u, hu⟩ : ∃ u, same x y = u := ⟨_, rfl⟩
      have HU2 := Lib.hid hu
      obtain ⟨b, o, _, es, e, _, _, lt, c, rx⟩ := row_rd HV.out.rM hx
      simp at e
      obtain ⟨rfl, -, rfl⟩ := e
      obtain ⟨b2, o2, _, es2, e2, _, _, lt2, c2, ry⟩ := row_rd HU.out.rM hy
      simp at e2
      obtain ⟨rfl, -, rfl⟩ := e2
      obtain ⟨x0, x1, x2, x3, x4, x5⟩ := x
      obtain ⟨y0_, y1_, y2_, y3_, y4_, y5_⟩ := y
      have hrx := rx
      have hry := ry
      obtain ⟨ax, px, rfl, _⟩ := mst_form rx
      obtain ⟨ay, py, rfl, _⟩ := mst_form ry
      have g0 : w.cell? ⟨b, o + j * 6, none⟩ = some (.slice ax x0.length px) := c 0 _ rfl
      have g1 : w.cell? ⟨b, o + j * 6 + 1, none⟩ = some (.int .i64 x1) := c 1 _ rfl
      have g2 : w.cell? ⟨b, o + j * 6 + 2, none⟩ = some (.int .i64 x2) := c 2 _ rfl
      have g3 : w.cell? ⟨b, o + j * 6 + 3, none⟩ = some (.int .i64 x3) := c 3 _ rfl
      have g4 : w.cell? ⟨b, o + j * 6 + 4, none⟩ = some (.bool x4) := c 4 _ rfl
      have g5 : w.cell? ⟨b, o + j * 6 + 5, none⟩ = some (.bool x5) := c 5 _ rfl
      rw [← bel_cells HB_0.out lt] at g0 g1 g2 g3 g4 g5
      have k0 : w.cell? ⟨b2, o2 + j * 6, none⟩ = some (.slice ay y0_.length py) := c2 0 _ rfl
      have k1 : w.cell? ⟨b2, o2 + j * 6 + 1, none⟩ = some (.int .i64 y1_) := c2 1 _ rfl
      have k2 : w.cell? ⟨b2, o2 + j * 6 + 2, none⟩ = some (.int .i64 y2_) := c2 2 _ rfl
      have k3 : w.cell? ⟨b2, o2 + j * 6 + 3, none⟩ = some (.int .i64 y3_) := c2 3 _ rfl
      have k4 : w.cell? ⟨b2, o2 + j * 6 + 4, none⟩ = some (.bool y4_) := c2 4 _ rfl
      have k5 : w.cell? ⟨b2, o2 + j * 6 + 5, none⟩ = some (.bool y5_) := c2 5 _ rfl
      rw [← bel_cells HB_0.out lt2] at k0 k1 k2 k3 k4 k5
      have Hx := Lib.hid (mstK.rd_later hrx HB_0.out)
      have Hy := Lib.hid (mstK.rd_later hry HB_0.out)
      clear hx hy c c2 rx ry hrx hry hu hsx hsy lt lt2
      have hin : (0 : Int) ≤ (j : Int) ∧ (j : Int) < ((nM : Nat) : Int) := by omega
      have s7 := A_0.out.cell 7 _ HV.out.c7
      have t7 := B_0.out.cell 7 _ HU.out.c7
      repeat (first | go_values | go_skip | go_guarded | go_step | go_upon | go_back)
      have G0 := cell_regrown g0
      have G1 := cell_regrown g1
      have G2 := cell_regrown g2
      have G3 := cell_regrown g3
      have G4 := cell_regrown g4
      have G5 := cell_regrown g5
      have K0 := cell_regrown k0
      have K1 := cell_regrown k1
      have K2 := cell_regrown k2
      have K3 := cell_regrown k3
      have K4 := cell_regrown k4
      have K5 := cell_regrown k5
      have S7 := cell_regrown s7
      have T7 := cell_regrown t7
      clear g0 g1 g2 g3 g4 g5 k0 k1 k2 k3 k4 k5 s7 t7
      refine wp_region_quiet_below (by kernel_rfl) (by kernel_rfl) ?_
      repeat (go_big_quiet_step (first
        | (go_at_call 57; exact Calls.regrown_of (specSameM_is HU2.out HSX.out HSY.out _ (mstK.rd_later Hx.out (below_regrown _ _ _)) (mstK.rd_later Hy.out (below_regrown _ _ _))))))
      refine wpQuiet_nil ?_
      rintro _ ⟨qq, rfl⟩
      have hq := below_regrown wr qq.d qq.os
      have A_1 := Lib.hid (A_0.out.later hq)
      have B_1 := Lib.hid (B_0.out.later hq)
      have HB_1 := Lib.hid (HB_0.out.trans (hq.mono HB_0.out.size))
      clear hq G0 G1 G2 G3 G4 G5 K0 K1 K2 K3 K4 K5 S7 T7 A_0 B_0 HB_0
      generalize Sort.grow (redrawn wr qq.d) qq.os = w3 at A_1 B_1 HB_1 ⊢
      cases u
      · have hd : M ≠ M' := upTo_bad HX.out HY.out HU2.out
        have hf : R = false := by rw [← HR.out]; exact same_no (fun e => hd (congrArg (fun z : BusX => z.2.2.1) e))
        subst hf
        clear hd
        repeat (first | go_values | go_skip | go_guarded | go_step | go_upon | go_back)
        go_ret
        exact ⟨rfl, HB_1.out⟩
      repeat (first | go_values | go_skip | go_guarded | go_step | go_upon | go_back)
      go_roundw
      case rel => exact ⟨j + 1, by omega, by go_num, Lib.hid (upTo_step HQ.out HX.out HY.out HU2.out), A_1, B_1, HB_1⟩
      case measure => simp [intOf]; omega
    · obtain rfl : j = nM := by omega
      have hqq := upTo_all HV.out.nM HU.out.nM HQ.out
      subst hqq
      clear HQ hj hlt
      have s7 := A_0.out.cell 7 _ HV.out.c7
      have s10 := A_0.out.cell 10 _ HV.out.c10
      repeat (first | go_values | go_skip | go_guarded | go_step | go_upon | go_back)
      clear s7 s10
      go_loopw [6] (fun i wr => ∃ j : Nat, j ≤ nb ∧ i = .int .i64 j ∧ Hid (upTo bk bk' j) ∧ Hid (Bx 42 w.heap.size arr wr) ∧ Hid (Bx 42 (w.heap.size + 1) brr wr) ∧ Hid (Below w.heap.size w wr)) (fun i _ => nb - (intOf i).toNat)
      case atStart => exact ⟨0, by omega, rfl, Lib.hid rfl, A_0, B_0, HB_0⟩
      case round =>
        clear A_0 B_0 HB_0
        obtain ⟨j, hj, rfl, HQ, A_0, B_0, HB_0⟩ := hrel
        by_cases hlt : j < nb
        · obtain ⟨x, hx⟩ := get_of (l := bk) (i := j) (by rw [HV.out.nbk]; exact hlt)
          obtain ⟨y, hy⟩ := get_of (l := bk') (i := j) (by rw [HU.out.nbk]; exact hlt)
          have HX := Lib.hid hx
          have HY := Lib.hid hy
          obtain ⟨u, hu⟩ : ∃ u, same x y = u := ⟨_, rfl⟩
          have HU2 := Lib.hid hu
          obtain ⟨b, o, _, es, e, _, _, lt, c, rx⟩ := row_rd HV.out.rbk hx
          simp at e
          obtain ⟨rfl, -, rfl⟩ := e
          obtain ⟨b2, o2, _, es2, e2, _, _, lt2, c2, ry⟩ := row_rd HU.out.rbk hy
          simp at e2
          obtain ⟨rfl, -, rfl⟩ := e2
          obtain ⟨x0, x1⟩ := x
          obtain ⟨y0_, y1_⟩ := y
          obtain rfl := bucket_form rx
          obtain rfl := bucket_form ry
          have g0 : w.cell? ⟨b, o + j * 2, none⟩ = some (.int .i64 x0) := c 0 _ rfl
          have g1 : w.cell? ⟨b, o + j * 2 + 1, none⟩ = some (.int .i64 x1) := c 1 _ rfl
          have k0 : w.cell? ⟨b2, o2 + j * 2, none⟩ = some (.int .i64 y0_) := c2 0 _ rfl
          have k1 : w.cell? ⟨b2, o2 + j * 2 + 1, none⟩ = some (.int .i64 y1_) := c2 1 _ rfl
          rw [← bel_cells HB_0.out lt] at g0 g1
          rw [← bel_cells HB_0.out lt2] at k0 k1
          have hq := neqBucket x0 x1 y0_ y1_
          rw [hu] at hq
          have hgd := guardBucket
          clear c c2 rx ry hx hy hu lt lt2
          have hin : (0 : Int) ≤ (j : Int) ∧ (j : Int) < ((nb : Nat) : Int) := by omega
          have s10 := A_0.out.cell 10 _ HV.out.c10
          have t10 := B_0.out.cell 10 _ HU.out.c10
          repeat (first | go_values | go_skip | go_guarded | go_step | go_upon | go_back)
          go_quiet (fail)
          cases u
          · have hd : bk ≠ bk' := upTo_bad HX.out HY.out HU2.out
            have hf : R = false := by rw [← HR.out]; exact same_no (fun e => hd (congrArg (fun z : BusX => z.2.2.2.2.1) e))
            subst hf
            clear hd
            repeat (first | go_values | go_skip | go_guarded | go_step | go_upon | go_back)
            go_ret
            exact ⟨rfl, ⟨HB_0.out.os, HB_0.out.tape, HB_0.out.output, HB_0.out.size, HB_0.out.block⟩⟩
          repeat (first | go_values | go_skip | go_guarded | go_step | go_upon | go_back)
          go_roundw
          case rel => exact ⟨j + 1, by omega, by go_num, Lib.hid (upTo_step HQ.out HX.out HY.out HU2.out), A_0, B_0, Lib.hid ⟨HB_0.out.os, HB_0.out.tape, HB_0.out.output, HB_0.out.size, HB_0.out.block⟩⟩
          case measure => simp [intOf]; omega
        · obtain rfl : j = nb := by omega
          have hqq := upTo_all HV.out.nbk HU.out.nbk HQ.out
          subst hqq
          have hf : R = true := by rw [← HR.out]; exact same_yes _
          subst hf
          have s10 := A_0.out.cell 10 _ HV.out.c10
          repeat (first | go_values | go_skip | go_guarded | go_step | go_upon | go_back)
          go_ret
          exact ⟨rfl, HB_0.out⟩

end Go.Proofs.Ytdhaelaoackfkaa.KD
