
/-
  Are two buses the same: the program's SameBus. (Made by wip/gbus.py.)
-/
import Derived.Test.YtdhaelaoackfkaaBusV
import Derived.Test.YtdhaelaoackfkaaBRow
import Derived.Test.YtdhaelaoackfkaaBMst
import Derived.Test.YtdhaelaoackfkaaConf5
import Derived.Test.YtdhaelaoackfkaaMod1
import Derived.Test.YtdhaelaoackfkaaEqAny
import Derived.Test.YtdhaelaoackfkaaQDet
import Derived.Deep.RegionHeld3
import Derived.Deep.Cut
namespace Go.Proofs.Ytdhaelaoackfkaa.KD
open Go.RowKit Rows3 GR Num
set_option linter.unusedVariables false
theorem mcOf_inj {x y : Int × Bool × Int × Int} (h : mcOf x = mcOf y) : x = y := by
  obtain ⟨a, b, c, d⟩ := x
  obtain ⟨a', b', c', d'⟩ := y
  simp only [mcOf, MC.mk.injEq] at h
  obtain ⟨rfl, rfl, rfl, rfl⟩ := h
  rfl
theorem map_mcOf {l m : List (Int × Bool × Int × Int)} (h : l.map mcOf = m.map mcOf) : l = m := by
  induction l generalizing m with
  | nil => cases m with
    | nil => rfl
    | cons a t => simp at h
  | cons a t ih => cases m with
    | nil => simp at h
    | cons b u =>
      simp only [List.map_cons, List.cons.injEq] at h
      rw [mcOf_inj h.1, ih h.2]
theorem sameC_same (l : List (Int × Bool × Int × Int)) (q mw mr ms lm : Int) (l' : List (Int × Bool × Int × Int)) (q' mw' mr' ms' lm' : Int) : sameC (l.map mcOf) q mw mr ms lm (l'.map mcOf) q' mw' mr' ms' lm' = same (l, q, mw, mr, ms, lm) (l', q', mw', mr', ms', lm') := by
  rw [Bool.eq_iff_iff, same_iff]
  unfold sameC sameL
  simp only [Bool.and_eq_true, decide_eq_true_eq, beq_iff_eq, Prod.mk.injEq]
  exact ⟨fun h => ⟨map_mcOf h.1, h.2⟩, fun h => ⟨by rw [h.1], h.2⟩⟩
theorem sameM_same (l r : List Int) (t : Int) (f l' r' : List Int) (t' : Int) (f' : List Int) : sameM l r t f l' r' t' f' = same (l, (r, t, f)) (l', (r', t', f')) := by
  rw [Bool.eq_iff_iff, same_iff]; exact sameM_iff l r t f l' r' t' f'
theorem eqLB_same (l m : List Int) : eqLB l m = same l m := by
  rw [Bool.eq_iff_iff, same_iff]; unfold eqLB; simp
theorem implSameConf_is {cs ds : List Value} {l : List (Int × Bool × Int × Int)} {q mw mr ms lm : Int} {l' : List (Int × Bool × Int × Int)} {q' mw' mr' ms' lm' : Int} {c : Bool} (hc : same (l, q, mw, mr, ms, lm) (l', q', mw', mr', ms', lm') = c) (hl : l.length ≤ 2000000) (w : World) (h : confK.rd cs (l, q, mw, mr, ms, lm) w) (h' : confK.rd ds (l', q', mw', mr', ms', lm') w) :
    Calls Try.prog 65 #[agg cs, agg ds] w fun e w' => e = .returned (.bool c) ∧ Below w.heap.size w w' := by
  obtain ⟨a0, p0, rfl, h0⟩ := rd_conf h
  obtain ⟨a0', p0', rfl, h0'⟩ := rd_conf h'
  rw [← hc, ← sameC_same]
  exact implSameConf _ (l.map mcOf) q mw mr ms lm _ (l'.map mcOf) q' mw' mr' ms' lm' (by rw [List.length_map]; exact hl) w h0 h0'
theorem implSameModel_is {cs ds : List Value} {l r : List Int} {t : Int} {f l' r' : List Int} {t' : Int} {f' : List Int} {c : Bool} (hc : same (l, (r, t, f)) (l', (r', t', f')) = c) (hl : l.length ≤ 2000000) (hr : r.length ≤ 2000000) (hf : f.length ≤ 2000000) (w : World) (h : modelK.rd cs (l, (r, t, f)) w) (h' : modelK.rd ds (l', (r', t', f')) w) :
    Calls Try.prog 70 #[agg cs, agg ds] w fun e w' => e = .returned (.bool c) ∧ Below w.heap.size w w' := by
  rw [← hc, ← sameM_same]
  exact implSameModel cs ds l r t f l' r' t' f' hl hr hf w h h'
theorem specSameConf_is {cs ds : List Value} {l : List (Int × Bool × Int × Int)} {q mw mr ms lm : Int} {l' : List (Int × Bool × Int × Int)} {q' mw' mr' ms' lm' : Int} {c : Bool} (hc : same (l, q, mw, mr, ms, lm) (l', q', mw', mr', ms', lm') = c) (hl : l.length ≤ 2000000) (w : World) (h : confK.rd cs (l, q, mw, mr, ms, lm) w) (h' : confK.rd ds (l', q', mw', mr', ms', lm') w) :
    Calls Try.prog 53 #[agg cs, agg ds] w fun e w' => e = .returned (.bool c) ∧ Below w.heap.size w w' := by
  obtain ⟨a0, p0, rfl, h0⟩ := rd_conf h
  obtain ⟨a0', p0', rfl, h0'⟩ := rd_conf h'
  rw [← hc, ← sameC_same]
  exact specSameConf _ (l.map mcOf) q mw mr ms lm _ (l'.map mcOf) q' mw' mr' ms' lm' (by rw [List.length_map]; exact hl) w h0 h0'
theorem specSameModel_is {cs ds : List Value} {l r : List Int} {t : Int} {f l' r' : List Int} {t' : Int} {f' : List Int} {c : Bool} (hc : same (l, (r, t, f)) (l', (r', t', f')) = c) (hl : l.length ≤ 2000000) (hr : r.length ≤ 2000000) (hf : f.length ≤ 2000000) (w : World) (h : modelK.rd cs (l, (r, t, f)) w) (h' : modelK.rd ds (l', (r', t', f')) w) :
    Calls Try.prog 55 #[agg cs, agg ds] w fun e w' => e = .returned (.bool c) ∧ Below w.heap.size w w' := by
  rw [← hc, ← sameM_same]
  exact specSameModel cs ds l r t f l' r' t' f' hl hr hf w h h'
theorem equalInts_is {a0 : Option Addr} {n p0 : Nat} {l : List Int} {a1 : Option Addr} {n1 p1 : Nat} {m : List Int} {c : Bool} (hc : same l m = c) (hn : l.length = n) (hn1 : m.length = n1) (hl : l.length ≤ 2000000) (w : World) (h : ints.rd [.slice a0 n p0] l w) (h' : ints.rd [.slice a1 n1 p1] m w) :
    Calls Try.prog 69 #[.slice a0 n p0, .slice a1 n1 p1] w fun e w' => e = .returned (.bool c) ∧ Below w.heap.size w w' := by
  obtain ⟨_, _, e0, _, R0⟩ := rd_ints h
  obtain ⟨_, _, e1, _, R1⟩ := rd_ints h'
  cases e0
  cases e1
  rw [← hc, ← eqLB_same]
  exact (equal_any _ _ l m hl w R0 R1).mono (fun e w' h => by obtain ⟨h1, d, rfl⟩ := h; exact ⟨h1, ⟨rfl, rfl, rfl, Nat.le_refl _, fun _ _ => rfl⟩⟩)
theorem l5Ints_is {a0 : Option Addr} {n p0 : Nat} {l : List Int} {a1 : Option Addr} {n1 p1 : Nat} {m : List Int} {c : Bool} (hc : same l m = c) (hn : l.length = n) (hn1 : m.length = n1) (hl : l.length ≤ 2000000) (w : World) (h : ints.rd [.slice a0 n p0] l w) (h' : ints.rd [.slice a1 n1 p1] m w) :
    Calls Try.prog 54 #[.slice a0 n p0, .slice a1 n1 p1] w fun e w' => e = .returned (.bool c) ∧ Below w.heap.size w w' := by
  obtain ⟨_, _, e0, _, R0⟩ := rd_ints h
  obtain ⟨_, _, e1, _, R1⟩ := rd_ints h'
  cases e0
  cases e1
  rw [← hc, ← eqLB_same]
  exact (l5Ints_any _ _ l m hl w R0 R1).mono (fun e w' h => by obtain ⟨h1, d, rfl⟩ := h; exact ⟨h1, ⟨rfl, rfl, rfl, Nat.le_refl _, fun _ _ => rfl⟩⟩)
theorem eqBuckets_is {a0 : Option Addr} {n p0 : Nat} {l : List (Int × Int)} {a1 : Option Addr} {n1 p1 : Nat} {m : List (Int × Int)} {c : Bool} (hc : same l m = c) (hn : l.length = n) (hn1 : m.length = n1) (hl : n ≤ 2000000) (w : World) (h : bucketS.rd [.slice a0 n p0] l w) (h' : bucketS.rd [.slice a1 n1 p1] m w) :
    Calls Try.prog 68 #[.slice a0 n p0, .slice a1 n1 p1] w fun e w' => e = .returned (.bool c) ∧ Below w.heap.size w w' := by
  rw [← hc]; exact equalBuckets a0 n p0 l a1 n1 p1 m hn hn1 hl w h h'
theorem eqDones_is {a0 : Option Addr} {n p0 : Nat} {l : List (Int × Int × Bool × Int × Int × Int × Int)} {a1 : Option Addr} {n1 p1 : Nat} {m : List (Int × Int × Bool × Int × Int × Int × Int)} {c : Bool} (hc : same l m = c) (hn : l.length = n) (hn1 : m.length = n1) (hl : n ≤ 2000000) (w : World) (h : doneS.rd [.slice a0 n p0] l w) (h' : doneS.rd [.slice a1 n1 p1] m w) :
    Calls Try.prog 71 #[.slice a0 n p0, .slice a1 n1 p1] w fun e w' => e = .returned (.bool c) ∧ Below w.heap.size w w' := by
  rw [← hc]; exact equalDones a0 n p0 l a1 n1 p1 m hn hn1 hl w h h'
theorem l13Same_is {a0 : Option Addr} {n p0 : Nat} {l : List (Int × Int × Bool × Int × Int × Int × Int)} {a1 : Option Addr} {n1 p1 : Nat} {m : List (Int × Int × Bool × Int × Int × Int × Int)} {c : Bool} (hc : same l m = c) (hn : l.length = n) (hn1 : m.length = n1) (hl : n ≤ 2000000) (w : World) (h : doneS.rd [.slice a0 n p0] l w) (h' : doneS.rd [.slice a1 n1 p1] m w) :
    Calls Try.prog 56 #[.slice a0 n p0, .slice a1 n1 p1] w fun e w' => e = .returned (.bool c) ∧ Below w.heap.size w w' := by
  rw [← hc]; exact spec13Same a0 n p0 l a1 n1 p1 m hn hn1 hl w h h'
theorem eqFuncM_is {a0 : Option Addr} {n p0 : Nat} {q : List MstX} {a0' : Option Addr} {n' p0' : Nat} {q' : List MstX} {c : Bool} (hc : same q q' = c) (hn : q.length = n) (hn' : q'.length = n') (hs : mstS.sz q ≤ 2000000) (hs' : mstS.sz q' ≤ 2000000) (w : World) (h : mstS.rd [.slice a0 n p0] q w) (h' : mstS.rd [.slice a0' n' p0'] q' w) :
    Calls Try.prog 66 #[.slice a0 n p0, .slice a0' n' p0', .func (.func 67) #[] #[]] w fun e w' => e = .returned (.bool c) ∧ Below w.heap.size w w' := hc ▸ implEqFuncM a0 n p0 q a0' n' p0' q' hn hn' hs hs' w h h'
set_option maxHeartbeats 16000000 in
set_option maxRecDepth 100000 in
theorem implSameBus (cs ds : List Value) (x y : BusX) (hs : busK.sz x ≤ 2000000) (hs' : busK.sz y ≤ 2000000) (w : World) (h : busK.rd cs x w) (h' : busK.rd ds y w) :
    Calls Try.prog 17 #[agg cs, agg ds] w fun e w' => e = .returned (.bool (same x y)) ∧ Below w.heap.size w w' := by
  have h := (by simpa using h : busK.rd cs.toArray.toList x w)
  have h' := (by simpa using h' : busK.rd ds.toArray.toList y w)
  unfold agg
  generalize cs.toArray = arr at h ⊢
  generalize ds.toArray = brr at h' ⊢
  obtain ⟨⟨l, qu, mw, mr, ms, lm⟩, now, M, ⟨tu, cr⟩, bk, sp, ho, he, la, ⟨av, aw, ab, af, ay, al, ar, az⟩, ⟨dv, dw, db, df, dy, dl, dr, dz⟩, ⟨mem, ⟨rg, ti, ff⟩⟩, pk, lg⟩ := x
  obtain ⟨⟨l', qu', mw', mr', ms', lm'⟩, now', M', ⟨tu', cr'⟩, bk', sp', ho', he', la', ⟨av', aw', ab', af', ay', al', ar', az'⟩, ⟨dv', dw', db', df', dy', dl', dr', dz'⟩, ⟨mem', ⟨rg', ti', ff'⟩⟩, pk', lg'⟩ := y
  obtain ⟨Al, Pl, AM, PM, Abk, Pbk, Asp, Psp, Amem, Pmem, Arg, Prg, Aff, Pff, Alg, Plg, nl, nM, nb, ns, ng, v⟩ := bus_at h
  obtain ⟨Al', Pl', AM', PM', Abk', Pbk', Asp', Psp', Amem', Pmem', Arg', Prg', Aff', Pff', Alg', Plg', nl', nM', nb', ns', ng', u⟩ := bus_at h'
  have HV := Lib.hid v
  have HU := Lib.hid u
  have HZ := Lib.hid (bus_z hs)
  have HZ' := Lib.hid (bus_z hs')
  clear h h' v u hs hs'
  obtain ⟨R, hR0⟩ : ∃ R, same (((l, qu, mw, mr, ms, lm), now, M, (tu, cr), bk, sp, ho, he, la, (av, aw, ab, af, ay, al, ar, az), (dv, dw, db, df, dy, dl, dr, dz), (mem, (rg, ti, ff)), pk, lg) : BusX) ((l', qu', mw', mr', ms', lm'), now', M', (tu', cr'), bk', sp', ho', he', la', (av', aw', ab', af', ay', al', ar', az'), (dv', dw', db', df', dy', dl', dr', dz'), (mem', (rg', ti', ff')), pk', lg') = R := ⟨_, rfl⟩
  rw [show same (((l, qu, mw, mr, ms, lm), now, M, (tu, cr), bk, sp, ho, he, la, (av, aw, ab, af, ay, al, ar, az), (dv, dw, db, df, dy, dl, dr, dz), (mem, (rg, ti, ff)), pk, lg) : BusX) ((l', qu', mw', mr', ms', lm'), now', M', (tu', cr'), bk', sp', ho', he', la', (av', aw', ab', af', ay', al', ar', az'), (dv', dw', db', df', dy', dl', dr', dz'), (mem', (rg', ti', ff')), pk', lg') = R from hR0]
  have HR := Lib.hid hR0
  clear hR0
  have hsz : ∀ (w : World) o, (w.alloc o).heap.size = w.heap.size + 1 := fun w o => by simp
  obtain ⟨y0, hy0⟩ : ∃ y, (w.alloc (Obj.cells arr 42)).alloc (Obj.cells brr 42) = y := ⟨_, rfl⟩
  have A := (Bx.new 42 arr w).alloc (Obj.cells brr 42)
  have B := Bx.new 42 brr (w.alloc (Obj.cells arr 42))
  rw [hsz] at B
  have hb0 := ((Below.refl w.heap.size w).alloc (Nat.le_refl _) (Obj.cells arr 42)).alloc (by simp) (Obj.cells brr 42)
  rw [hy0] at A B hb0
  have A_0 := Lib.hid A
  have B_0 := Lib.hid B
  have HB_0 := Lib.hid hb0
  clear A B hb0 hsz
  go_enter Try.func17, Try.ntmps17
  go_upto_region 1 with fail
  dsimp only [List.append]
  have gA0 := A_0.out.cell 0 _ HV.out.c0
  have gA1 := A_0.out.cell 1 _ HV.out.c1
  have gA2 := A_0.out.cell 2 _ HV.out.c2
  have gA3 := A_0.out.cell 3 _ HV.out.c3
  have gA4 := A_0.out.cell 4 _ HV.out.c4
  have gA5 := A_0.out.cell 5 _ HV.out.c5
  have gB0 := B_0.out.cell 0 _ HU.out.c0
  have gB1 := B_0.out.cell 1 _ HU.out.c1
  have gB2 := B_0.out.cell 2 _ HU.out.c2
  have gB3 := B_0.out.cell 3 _ HU.out.c3
  have gB4 := B_0.out.cell 4 _ HU.out.c4
  have gB5 := B_0.out.cell 5 _ HU.out.c5
  obtain ⟨c, hc⟩ : ∃ c, same (l, qu, mw, mr, ms, lm) (l', qu', mw', mr', ms', lm') = c := ⟨_, rfl⟩
  have HC := Lib.hid hc
  clear hc
  repeat (first | go_values | go_skip | go_guarded | go_step | go_upon | go_back)
  refine (implSameConf_is HC.out HZ.out.zl _ (conf_rd (mConfS.rd_later HV.out.rl HB_0.out)) (conf_rd (mConfS.rd_later HU.out.rl HB_0.out))).mono ?_
  rintro e y1 ⟨rfl, hb⟩
  dsimp only
  clear gA0 gA1 gA2 gA3 gA4 gA5 gB0 gB1 gB2 gB3 gB4 gB5
  have A_1 := Lib.hid (A_0.out.later hb)
  have B_1 := Lib.hid (B_0.out.later hb)
  have HB_1 := Lib.hid (HB_0.out.trans (hb.mono HB_0.out.size))
  clear A_0 B_0 HB_0 hb hy0
  cases c
  · have hd := same_ne HC.out
    have hf : R = false := by rw [← HR.out]; exact same_no (fun e => hd (congrArg (fun z : BusX => z.1) e))
    subst hf
    repeat (first | go_values | go_skip | go_guarded | go_step | go_upon | go_back)
    go_ret
    exact ⟨rfl, HB_1.out⟩
  have he := same_eq HC.out
  clear HC
  simp only [Prod.mk.injEq] at he
  obtain ⟨rfl, rfl, rfl, rfl, rfl, rfl⟩ := he
  have gA6 := A_1.out.cell 6 _ HV.out.c6
  have gA7 := A_1.out.cell 7 _ HV.out.c7
  have gB6 := B_1.out.cell 6 _ HU.out.c6
  have gB7 := B_1.out.cell 7 _ HU.out.c7
  by_cases hd : now = now'
  rotate_left
  · skip
    have hf : R = false := by rw [← HR.out]; exact same_no (fun e => hd (congrArg (fun z : BusX => z.2.1) e))
    subst hf
    repeat (first | go_values | go_skip | go_guarded | go_step | go_upon | go_back)
    go_ret
    exact ⟨rfl, HB_1.out⟩
  subst hd
  obtain ⟨c, hc⟩ : ∃ c, same M M' = c := ⟨_, rfl⟩
  have HC := Lib.hid hc
  clear hc
  repeat (first | go_values | go_skip | go_guarded | go_step | go_upon | go_back)
  refine (eqFuncM_is HC.out HV.out.nM HU.out.nM HZ.out.zM HZ'.out.zM _ (mstS.rd_later HV.out.rM HB_1.out) (mstS.rd_later HU.out.rM HB_1.out)).mono ?_
  rintro e y3 ⟨rfl, hb⟩
  dsimp only
  clear gA6 gA7 gB6 gB7
  have A_2 := Lib.hid (A_1.out.later hb)
  have B_2 := Lib.hid (B_1.out.later hb)
  have HB_2 := Lib.hid (HB_1.out.trans (hb.mono HB_1.out.size))
  clear A_1 B_1 HB_1 hb 
  cases c
  · have hd := same_ne HC.out
    have hf : R = false := by rw [← HR.out]; exact same_no (fun e => hd (congrArg (fun z : BusX => z.2.2.1) e))
    subst hf
    repeat (first | go_values | go_skip | go_guarded | go_step | go_upon | go_back)
    go_ret
    exact ⟨rfl, HB_2.out⟩
  have he := same_eq HC.out
  clear HC
  subst he
  obtain rfl : nM = nM' := by rw [← HV.out.nM, ← HU.out.nM]
  have gA8 := A_2.out.cell 8 _ HV.out.c8
  have gA9 := A_2.out.cell 9 _ HV.out.c9
  have gA10 := A_2.out.cell 10 _ HV.out.c10
  have gB8 := B_2.out.cell 8 _ HU.out.c8
  have gB9 := B_2.out.cell 9 _ HU.out.c9
  have gB10 := B_2.out.cell 10 _ HU.out.c10
  by_cases hd : (tu, cr) = (tu', cr')
  rotate_left
  · skip
    have hq := fun w => eqlWrr tu cr tu' cr' w
    rw [same_no hd] at hq
    have hgd := guardWrr
    have hf : R = false := by rw [← HR.out]; exact same_no (fun e => hd (congrArg (fun z : BusX => z.2.2.2.1) e))
    subst hf
    repeat (first | go_values | go_skip | go_guarded | go_step | go_upon | go_back)
    go_ret
    exact ⟨rfl, HB_2.out⟩
  simp only [Prod.mk.injEq] at hd
  obtain ⟨rfl, rfl⟩ := hd
  have hqarb := fun w => eqlWrr tu cr tu cr w
  simp only [same_yes] at hqarb
  have hgarb := guardWrr
  obtain ⟨c, hc⟩ : ∃ c, same bk bk' = c := ⟨_, rfl⟩
  have HC := Lib.hid hc
  clear hc
  repeat (first | go_values | go_skip | go_guarded | go_step | go_upon | go_back)
  refine (eqBuckets_is HC.out HV.out.nbk HU.out.nbk (by rw [← HV.out.nbk]; exact HZ.out.zb) _ (bucketS.rd_later HV.out.rbk HB_2.out) (bucketS.rd_later HU.out.rbk HB_2.out)).mono ?_
  rintro e y5 ⟨rfl, hb⟩
  dsimp only
  clear gA8 gA9 gA10 gB8 gB9 gB10
  have A_3 := Lib.hid (A_2.out.later hb)
  have B_3 := Lib.hid (B_2.out.later hb)
  have HB_3 := Lib.hid (HB_2.out.trans (hb.mono HB_2.out.size))
  clear A_2 B_2 HB_2 hb 
  cases c
  · have hd := same_ne HC.out
    have hf : R = false := by rw [← HR.out]; exact same_no (fun e => hd (congrArg (fun z : BusX => z.2.2.2.2.1) e))
    subst hf
    repeat (first | go_values | go_skip | go_guarded | go_step | go_upon | go_back)
    go_ret
    exact ⟨rfl, HB_3.out⟩
  have he := same_eq HC.out
  clear HC
  subst he
  obtain rfl : nb = nb' := by rw [← HV.out.nbk, ← HU.out.nbk]
  have gA11 := A_3.out.cell 11 _ HV.out.c11
  have gB11 := B_3.out.cell 11 _ HU.out.c11
  obtain ⟨c, hc⟩ : ∃ c, same sp sp' = c := ⟨_, rfl⟩
  have HC := Lib.hid hc
  clear hc
  repeat (first | go_values | go_skip | go_guarded | go_step | go_upon | go_back)
  refine (equalInts_is HC.out HV.out.nsp HU.out.nsp HZ.out.zs _ (ints.rd_later HV.out.rsp HB_3.out) (ints.rd_later HU.out.rsp HB_3.out)).mono ?_
  rintro e y6 ⟨rfl, hb⟩
  dsimp only
  clear gA11 gB11
  have A_4 := Lib.hid (A_3.out.later hb)
  have B_4 := Lib.hid (B_3.out.later hb)
  have HB_4 := Lib.hid (HB_3.out.trans (hb.mono HB_3.out.size))
  clear A_3 B_3 HB_3 hb 
  cases c
  · have hd := same_ne HC.out
    have hf : R = false := by rw [← HR.out]; exact same_no (fun e => hd (congrArg (fun z : BusX => z.2.2.2.2.2.1) e))
    subst hf
    repeat (first | go_values | go_skip | go_guarded | go_step | go_upon | go_back)
    go_ret
    exact ⟨rfl, HB_4.out⟩
  have he := same_eq HC.out
  clear HC
  subst he
  obtain rfl : ns = ns' := by rw [← HV.out.nsp, ← HU.out.nsp]
  have gA12 := A_4.out.cell 12 _ HV.out.c12
  have gA13 := A_4.out.cell 13 _ HV.out.c13
  have gA14 := A_4.out.cell 14 _ HV.out.c14
  have gA15 := A_4.out.cell 15 _ HV.out.c15
  have gA16 := A_4.out.cell 16 _ HV.out.c16
  have gA17 := A_4.out.cell 17 _ HV.out.c17
  have gA18 := A_4.out.cell 18 _ HV.out.c18
  have gA19 := A_4.out.cell 19 _ HV.out.c19
  have gA20 := A_4.out.cell 20 _ HV.out.c20
  have gA21 := A_4.out.cell 21 _ HV.out.c21
  have gA22 := A_4.out.cell 22 _ HV.out.c22
  have gA23 := A_4.out.cell 23 _ HV.out.c23
  have gA24 := A_4.out.cell 24 _ HV.out.c24
  have gA25 := A_4.out.cell 25 _ HV.out.c25
  have gA26 := A_4.out.cell 26 _ HV.out.c26
  have gA27 := A_4.out.cell 27 _ HV.out.c27
  have gA28 := A_4.out.cell 28 _ HV.out.c28
  have gA29 := A_4.out.cell 29 _ HV.out.c29
  have gA30 := A_4.out.cell 30 _ HV.out.c30
  have gA31 := A_4.out.cell 31 _ HV.out.c31
  have gA32 := A_4.out.cell 32 _ HV.out.c32
  have gA33 := A_4.out.cell 33 _ HV.out.c33
  have gA34 := A_4.out.cell 34 _ HV.out.c34
  have gB12 := B_4.out.cell 12 _ HU.out.c12
  have gB13 := B_4.out.cell 13 _ HU.out.c13
  have gB14 := B_4.out.cell 14 _ HU.out.c14
  have gB15 := B_4.out.cell 15 _ HU.out.c15
  have gB16 := B_4.out.cell 16 _ HU.out.c16
  have gB17 := B_4.out.cell 17 _ HU.out.c17
  have gB18 := B_4.out.cell 18 _ HU.out.c18
  have gB19 := B_4.out.cell 19 _ HU.out.c19
  have gB20 := B_4.out.cell 20 _ HU.out.c20
  have gB21 := B_4.out.cell 21 _ HU.out.c21
  have gB22 := B_4.out.cell 22 _ HU.out.c22
  have gB23 := B_4.out.cell 23 _ HU.out.c23
  have gB24 := B_4.out.cell 24 _ HU.out.c24
  have gB25 := B_4.out.cell 25 _ HU.out.c25
  have gB26 := B_4.out.cell 26 _ HU.out.c26
  have gB27 := B_4.out.cell 27 _ HU.out.c27
  have gB28 := B_4.out.cell 28 _ HU.out.c28
  have gB29 := B_4.out.cell 29 _ HU.out.c29
  have gB30 := B_4.out.cell 30 _ HU.out.c30
  have gB31 := B_4.out.cell 31 _ HU.out.c31
  have gB32 := B_4.out.cell 32 _ HU.out.c32
  have gB33 := B_4.out.cell 33 _ HU.out.c33
  have gB34 := B_4.out.cell 34 _ HU.out.c34
  by_cases hd : ho = ho'
  rotate_left
  · skip
    have hf : R = false := by rw [← HR.out]; exact same_no (fun e => hd (congrArg (fun z : BusX => z.2.2.2.2.2.2.1) e))
    subst hf
    repeat (first | go_values | go_skip | go_guarded | go_step | go_upon | go_back)
    go_ret
    exact ⟨rfl, HB_4.out⟩
  subst hd
  by_cases hd : he = he'
  rotate_left
  · skip
    have hf : R = false := by rw [← HR.out]; exact same_no (fun e => hd (congrArg (fun z : BusX => z.2.2.2.2.2.2.2.1) e))
    subst hf
    repeat (first | go_values | go_skip | go_guarded | go_step | go_upon | go_back)
    go_ret
    exact ⟨rfl, HB_4.out⟩
  subst hd
  by_cases hd : la = la'
  rotate_left
  · skip
    have hf : R = false := by rw [← HR.out]; exact same_no (fun e => hd (congrArg (fun z : BusX => z.2.2.2.2.2.2.2.2.1) e))
    subst hf
    repeat (first | go_values | go_skip | go_guarded | go_step | go_upon | go_back)
    go_ret
    exact ⟨rfl, HB_4.out⟩
  subst hd
  by_cases hd : (av, aw, ab, af, ay, al, ar, az) = (av', aw', ab', af', ay', al', ar', az')
  rotate_left
  · skip
    have hq := fun w => eqlBeat av aw ab af ay al ar az av' aw' ab' af' ay' al' ar' az' w
    rw [same_no hd] at hq
    have hgd := guardBeat
    have hf : R = false := by rw [← HR.out]; exact same_no (fun e => hd (congrArg (fun z : BusX => z.2.2.2.2.2.2.2.2.2.1) e))
    subst hf
    repeat (first | go_values | go_skip | go_guarded | go_step | go_upon | go_back)
    go_ret
    exact ⟨rfl, HB_4.out⟩
  simp only [Prod.mk.injEq] at hd
  obtain ⟨rfl, rfl, rfl, rfl, rfl, rfl, rfl, rfl⟩ := hd
  have hqaddr := fun w => eqlBeat av aw ab af ay al ar az av aw ab af ay al ar az w
  simp only [same_yes] at hqaddr
  have hgaddr := guardBeat
  by_cases hd : (dv, dw, db, df, dy, dl, dr, dz) = (dv', dw', db', df', dy', dl', dr', dz')
  rotate_left
  · skip
    have hq := fun w => eqlBeat dv dw db df dy dl dr dz dv' dw' db' df' dy' dl' dr' dz' w
    rw [same_no hd] at hq
    have hgd := guardBeat
    have hf : R = false := by rw [← HR.out]; exact same_no (fun e => hd (congrArg (fun z : BusX => z.2.2.2.2.2.2.2.2.2.2.1) e))
    subst hf
    repeat (first | go_values | go_skip | go_guarded | go_step | go_upon | go_back)
    go_ret
    exact ⟨rfl, HB_4.out⟩
  simp only [Prod.mk.injEq] at hd
  obtain ⟨rfl, rfl, rfl, rfl, rfl, rfl, rfl, rfl⟩ := hd
  have hqdata := fun w => eqlBeat dv dw db df dy dl dr dz dv dw db df dy dl dr dz w
  simp only [same_yes] at hqdata
  have hgdata := guardBeat
  obtain ⟨c, hc⟩ : ∃ c, same (mem, (rg, ti, ff)) (mem', (rg', ti', ff')) = c := ⟨_, rfl⟩
  have HC := Lib.hid hc
  clear hc
  repeat (first | go_values | go_skip | go_guarded | go_step | go_upon | go_back)
  refine (implSameModel_is HC.out HZ.out.zm HZ.out.zr HZ.out.zf _ (model_rd (ints.rd_later HV.out.rmem HB_4.out) (ints.rd_later HV.out.rrg HB_4.out) (ints.rd_later HV.out.rff HB_4.out)) (model_rd (ints.rd_later HU.out.rmem HB_4.out) (ints.rd_later HU.out.rrg HB_4.out) (ints.rd_later HU.out.rff HB_4.out))).mono ?_
  rintro e y12 ⟨rfl, hb⟩
  dsimp only
  clear gA12 gA13 gA14 gA15 gA16 gA17 gA18 gA19 gA20 gA21 gA22 gA23 gA24 gA25 gA26 gA27 gA28 gA29 gA30 gA31 gA32 gA33 gA34 gB12 gB13 gB14 gB15 gB16 gB17 gB18 gB19 gB20 gB21 gB22 gB23 gB24 gB25 gB26 gB27 gB28 gB29 gB30 gB31 gB32 gB33 gB34
  have A_5 := Lib.hid (A_4.out.later hb)
  have B_5 := Lib.hid (B_4.out.later hb)
  have HB_5 := Lib.hid (HB_4.out.trans (hb.mono HB_4.out.size))
  clear A_4 B_4 HB_4 hb 
  cases c
  · have hd := same_ne HC.out
    have hf : R = false := by rw [← HR.out]; exact same_no (fun e => hd (congrArg (fun z : BusX => z.2.2.2.2.2.2.2.2.2.2.2.1) e))
    subst hf
    repeat (first | go_values | go_skip | go_guarded | go_step | go_upon | go_back)
    go_ret
    exact ⟨rfl, HB_5.out⟩
  have he := same_eq HC.out
  clear HC
  simp only [Prod.mk.injEq] at he
  obtain ⟨rfl, rfl, rfl, rfl⟩ := he
  have gA35 := A_5.out.cell 35 _ HV.out.c35
  have gA36 := A_5.out.cell 36 _ HV.out.c36
  have gB35 := B_5.out.cell 35 _ HU.out.c35
  have gB36 := B_5.out.cell 36 _ HU.out.c36
  by_cases hd : pk = pk'
  rotate_left
  · skip
    have hf : R = false := by rw [← HR.out]; exact same_no (fun e => hd (congrArg (fun z : BusX => z.2.2.2.2.2.2.2.2.2.2.2.2.1) e))
    subst hf
    repeat (first | go_values | go_skip | go_guarded | go_step | go_upon | go_back)
    go_ret
    exact ⟨rfl, HB_5.out⟩
  subst hd
  obtain ⟨c, hc⟩ : ∃ c, same lg lg' = c := ⟨_, rfl⟩
  have HC := Lib.hid hc
  clear hc
  repeat (first | go_values | go_skip | go_guarded | go_step | go_upon | go_back)
  refine (eqDones_is HC.out HV.out.nlg HU.out.nlg (by rw [← HV.out.nlg]; exact HZ.out.zg) _ (doneS.rd_later HV.out.rlg HB_5.out) (doneS.rd_later HU.out.rlg HB_5.out)).mono ?_
  rintro e y14 ⟨rfl, hb⟩
  dsimp only
  clear gA35 gA36 gB35 gB36
  have A_6 := Lib.hid (A_5.out.later hb)
  have B_6 := Lib.hid (B_5.out.later hb)
  have HB_6 := Lib.hid (HB_5.out.trans (hb.mono HB_5.out.size))
  clear A_5 B_5 HB_5 hb 
  cases c
  · have hd := same_ne HC.out
    have hf : R = false := by rw [← HR.out]; exact same_no (fun e => hd (congrArg (fun z : BusX => z.2.2.2.2.2.2.2.2.2.2.2.2.2) e))
    subst hf
    repeat (first | go_values | go_skip | go_guarded | go_step | go_upon | go_back)
    go_ret
    exact ⟨rfl, HB_6.out⟩
  have he := same_eq HC.out
  clear HC
  subst he
  obtain rfl : ng = ng' := by rw [← HV.out.nlg, ← HU.out.nlg]
  have hf : R = true := by rw [← HR.out]; exact same_yes _
  subst hf
  repeat (first | go_values | go_skip | go_guarded | go_step | go_upon | go_back)
  go_ret
  exact ⟨rfl, HB_6.out⟩

end Go.Proofs.Ytdhaelaoackfkaa.KD
