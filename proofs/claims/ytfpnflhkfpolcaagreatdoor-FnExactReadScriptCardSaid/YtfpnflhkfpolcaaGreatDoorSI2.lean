
/-
  readNumbers and readListLine of the program.
-/
import Derived.Test.YtfpnflhkfpolcaaGreatDoorSI1
import Derived.Test.YtfpnflhkfpolcaaGreatDoorRDec18
import Derived.Test.YtfpnflhkfpolcaaGreatDoorSW1
namespace Go.Proofs.YtfpnflhkfpolcaaGreatDoor.Num
open Go.RowKit Rows3

def nJ (ns : List Int) : List UInt8 := Lib.join (ns.map Lib.itoa) [32]
theorem map_itB (ns : List Int) : (ns.map itB).map (·.data.toList) = ns.map Lib.itoa := by
  rw [List.map_map]
  apply List.map_congr_left
  intro n _
  show (Lib.itoa n).toArray.toList = _
  simp
theorem nJ_cut {s : ByteArray} {ns : List Int} (h0 : ns ≠ []) (h : nJ ns = s.data.toList) : Cut.cutWs 32 s = ns.map itB := by
  refine cutWs_eq (by simpa using h0) (by rw [map_itB]; exact h) fun p hp => ?_
  obtain ⟨n, _, rfl⟩ := List.mem_map.1 hp
  exact itB_no n not_dig32
theorem nT_nJ {ns : List Int} (h : ns ≠ []) : nT ns = 32 :: nJ ns := by
  rw [← joinTail_nT, map_itB, joinTail_join (by simpa using h)]; rfl
def NumsI (s : ByteArray) (w : World) (e : Ending) (w' : World) : Prop :=
  (∃ v ns, e = .returned (.tuple #[v, .bool true]) ∧ OwnI w.heap.size v ns w' ∧ Below w.heap.size w w' ∧ ns ≠ [] ∧ (∀ n ∈ ns, In18 n) ∧ nJ ns = s.data.toList) ∨
  (e = .returned (.tuple #[.slice none 0 0, .bool false]) ∧ Below w.heap.size w w' ∧ ∀ ns, ns ≠ [] → (∀ n ∈ ns, In18 n) → nJ ns ≠ s.data.toList)
theorem NumsI.yes {s : ByteArray} {w : World} {e : Ending} {w' : World} {v : Value} {ns : List Int} (h1 : e = .returned (.tuple #[v, .bool true])) (h2 : OwnI w.heap.size v ns w') (h3 : Below w.heap.size w w') (h4 : ns ≠ []) (h5 : ∀ n ∈ ns, In18 n) (h6 : nJ ns = s.data.toList) : NumsI s w e w' := .inl ⟨v, ns, h1, h2, h3, h4, h5, h6⟩
theorem NumsI.no {s : ByteArray} {w : World} {e : Ending} {w' : World} (h1 : e = .returned (.tuple #[.slice none 0 0, .bool false])) (h3 : Below w.heap.size w w') (h4 : ∀ ns, ns ≠ [] → (∀ n ∈ ns, In18 n) → nJ ns ≠ s.data.toList) : NumsI s w e w' := .inr ⟨h1, h3, h4⟩
def RdN (ws : List ByteArray) (ns : List Int) : Prop := ∀ i, i < ns.length → In18 (ns.getD i 0) ∧ Lib.itoa (ns.getD i 0) = (ws.getD i ByteArray.empty).data.toList
theorem RdN.snoc {ws : List ByteArray} {ns : List Int} {n : Int} (h : RdN ws ns) (h1 : In18 n) (h2 : Lib.itoa n = (ws.getD ns.length ByteArray.empty).data.toList) : RdN ws (ns ++ [n]) := by
  intro i hi
  rw [List.length_append, List.length_singleton] at hi
  by_cases hik : i < ns.length
  · rw [show (ns ++ [n]).getD i 0 = ns.getD i 0 by simp only [List.getD]; rw [List.getElem?_append_left (by omega)]]
    exact h i hik
  · obtain rfl : i = ns.length := by omega
    rw [show (ns ++ [n]).getD ns.length 0 = n by simp [List.getD]]
    exact ⟨h1, h2⟩
theorem RdN.done {s : ByteArray} {ns : List Int} (h : RdN (Cut.cutWs 32 s) ns) (hl : ns.length = (Cut.cutWs 32 s).length) : ns ≠ [] ∧ (∀ n ∈ ns, In18 n) ∧ nJ ns = s.data.toList := by
  have h0 := (Cut.cutWs_len 32 s).1
  refine ⟨fun e => by rw [e] at hl; simp at hl; omega, fun n hn => ?_, ?_⟩
  · obtain ⟨i, hi, rfl⟩ := List.getElem_of_mem hn
    have := (h i hi).1
    rwa [show ns.getD i 0 = ns[i] by simp [List.getD, hi]] at this
  · have e : ns.map Lib.itoa = (Cut.cutWs 32 s).map (·.data.toList) := by
      refine List.ext_getElem (by simp [hl]) fun i hi hj => ?_
      simp only [List.length_map] at hi hj
      have := (h i hi).2
      rw [show ns.getD i 0 = ns[i] by simp [List.getD, hi], getDS_lt hj] at this
      simpa using this
    unfold nJ
    rw [e]
    exact (Cut.cutWs_join 32 s).1
theorem nums_bad {s : ByteArray} {k : Nat} (hk : k < (Cut.cutWs 32 s).length) (h : ∀ m, In18 m → Lib.itoa m ≠ ((Cut.cutWs 32 s).getD k ByteArray.empty).data.toList) : ∀ ns, ns ≠ [] → (∀ n ∈ ns, In18 n) → nJ ns ≠ s.data.toList := by
  intro ns h0 h1 e
  have hc := nJ_cut h0 e
  rw [hc, List.length_map] at hk
  refine h ns[k] (h1 _ (List.getElem_mem hk)) ?_
  rw [hc, show (ns.map itB).getD k ByteArray.empty = itB ns[k] by simp [List.getD, hk]]
  show _ = (Lib.itoa ns[k]).toArray.toList
  simp
set_option maxHeartbeats 2000000 in
set_option maxRecDepth 100000 in
theorem implNums (s : ByteArray) (hs : s.size ≤ 1048576) (w : World) (htab : Pow w) (herr : Errs w) : Calls Tryz.prog 28 #[.string s] w (NumsI s w) := by
  have Htab := Lib.hid htab
  have Herr := Lib.hid herr
  have HS := Lib.hid hs
  clear htab herr
  go_enter Tryz.func28, Tryz.ntmps28
  go_wp2_with fail
  refine (implSplitA s hs _).mono ?_
  rintro e w1 ⟨g, rfl, hg, hcell, hb⟩
  have hlen := Cut.cutWs_len 32 s
  obtain ⟨ws, hws⟩ : ∃ ws, Cut.cutWs 32 s = ws := ⟨_, rfl⟩
  rw [hws] at hcell hlen ⊢
  obtain ⟨n, hn⟩ : ∃ n, ws.length = n := ⟨_, rfl⟩
  have HWS := Lib.hid hws
  have HN := Lib.hid hn
  have HC := Lib.hid hcell
  have HB := Lib.hid hb
  rw [hn] at hlen ⊢
  have hn2 : n ≤ 1048577 := by omega
  clear hcell hb hws hn
  go_wp2_with fail
  go_loopw [4, 12] (fun o i wr => ∃ (k : Nat) (ns : List Int), k ≤ n ∧ i = .int .i64 k ∧ ns.length = k ∧ RdN ws ns ∧ OwnI w1.heap.size o ns wr ∧ Below w1.heap.size w1 wr) (fun _ i _ => n - (intOf i).toNat)
  case atStart => exact ⟨0, [], by omega, rfl, rfl, fun i hi => by simp at hi, OwnI.nil _ _, Below.refl _ _⟩
  case round =>
    obtain ⟨k, ns, hk, rfl, hnk, hall, ho, hbr⟩ := hrel
    have hbw := HB.out.trans (hbr.mono HB.out.size)
    have hbs := hbw.size
    have Ho := Lib.hid ho
    have Hb := Lib.hid hbw
    have Hb1 := Lib.hid hbr
    have Hall := Lib.hid hall
    have Hnk := Lib.hid hnk
    clear ho hbr hbw hall hnk
    by_cases hlt : k < n
    · have hc1 := (bel_cells' Hb1.out hg (i := k)).trans (HC.out k (by rw [HN.out]; exact hlt))
      have hsz : (ws.getD k ByteArray.empty).size ≤ 1048576 := by rw [← HWS.out]; exact Nat.le_trans (Cut.cutWs_size 32 s k) HS.out
      obtain ⟨W, hW⟩ : ∃ W, ws.getD k ByteArray.empty = W := ⟨_, rfl⟩
      rw [hW] at hc1 hsz
      have HW := Lib.hid hW
      have HSZ := Lib.hid hsz
      have Hlen : Hid (ns.length + 1 ≤ 17592186044416) := Lib.hid (by rw [Hnk.out]; omega)
      clear hW hsz
      go_wp2_with fail
      refine (implReadDecimal18 W HSZ.out _ (Htab.out.below Hb.out) (errs_below Herr.out Hb.out)).mono ?_
      rintro e w2 ⟨m, b, rfl, hm, hb2⟩
      have Hm := Lib.hid hm
      have Ho2 := Lib.hid (Ho.out.later hb2)
      have Hb2 := Lib.hid (Hb.out.trans (hb2.mono Hb.out.size))
      have Hb12 := Lib.hid (Hb1.out.trans (hb2.mono Hb1.out.size))
      have hbs2 := Hb12.out.size
      clear hm hb2 hc1
      cases b with
      | false =>
        have Hbad := Lib.hid (nums_bad (s := s) (k := k) (by rw [HWS.out, HN.out]; exact hlt) (by
          rw [HWS.out, HW.out]
          rcases Hm.out with ⟨h, _⟩ | ⟨_, _, h⟩
          · cases h
          · exact h))
        go_wp2_with fail
        go_ret2
        exact NumsI.no rfl Hb2.out Hbad.out
      | true =>
        obtain ⟨h18, hit⟩ : In18 m ∧ Lib.itoa m = W.data.toList := by
          rcases Hm.out with ⟨_, h1, h2⟩ | ⟨h, _⟩
          · exact ⟨h1, h2⟩
          · cases h
        have Hsn := Lib.hid (Hall.out.snoc h18 (by rw [Hnk.out, HW.out]; exact hit))
        clear h18 hit
        go_wp2_with (at_builtin; (refine appI rfl _ _ rfl w1.heap.size u4 ns w2 m rfl rfl Ho2.out hbs2 Hlen.out ?_); intro v' w3 hown1 hb1; have Ho3 := Lib.hid hown1; have Hb3 := Lib.hid hb1; clear hown1 hb1)
        go_roundw
        case rel => exact ⟨k + 1, ns ++ [m], by omega, by go_num, by rw [List.length_append, Hnk.out]; rfl, Hsn.out, Ho3.out, Hb12.out.trans Hb3.out⟩
        case measure => simp [intOf]; omega
    · obtain rfl : k = n := by omega
      obtain ⟨h1, h2, h3⟩ := RdN.done (s := s) (by rw [HWS.out]; exact Hall.out) (by rw [HWS.out, HN.out]; exact Hnk.out)
      have H1 := Lib.hid h1
      have H2 := Lib.hid h2
      have H3 := Lib.hid h3
      clear h1 h2 h3
      go_wp2_with fail
      go_ret2
      exact NumsI.yes rfl (Ho.out.mono HB.out.size) Hb.out H1.out H2.out H3.out
end Go.Proofs.YtfpnflhkfpolcaaGreatDoor.Num
namespace Go.Proofs.YtfpnflhkfpolcaaGreatDoor.Num
open Go.RowKit Rows3

def LineP (nm s : ByteArray) (w : World) (e : Ending) (w' : World) : Prop :=
  (e = .returned (.tuple #[.slice none 0 0, .string s, .bool true]) ∧ ¬ (nm.data.toList ++ [32]) <+: s.data.toList ∧ Below w.heap.size w w') ∨
  (∃ v ns rest, e = .returned (.tuple #[v, .string rest, .bool true]) ∧ OwnI w.heap.size v ns w' ∧ ns ≠ [] ∧ (∀ n ∈ ns, In18 n) ∧ s.data.toList = nm.data.toList ++ nT ns ++ 10 :: rest.data.toList ∧ Below w.heap.size w w') ∨
  (∃ rest, e = .returned (.tuple #[.slice none 0 0, .string rest, .bool false]) ∧ rest.size ≤ s.size ∧ (nm.data.toList ++ [32]) <+: s.data.toList ∧ (∀ ns r, ns ≠ [] → (∀ n ∈ ns, In18 n) → s.data.toList ≠ nm.data.toList ++ nT ns ++ 10 :: r) ∧ Below w.heap.size w w')
theorem LineP.a {nm s : ByteArray} {w w' : World} {e : Ending} (h1 : e = .returned (.tuple #[.slice none 0 0, .string s, .bool true])) (h2 : ¬ (nm.data.toList ++ [32]) <+: s.data.toList) (h3 : Below w.heap.size w w') : LineP nm s w e w' := .inl ⟨h1, h2, h3⟩
theorem LineP.b {nm s rest : ByteArray} {w w' : World} {e : Ending} {v : Value} {ns : List Int} (h1 : e = .returned (.tuple #[v, .string rest, .bool true])) (h2 : OwnI w.heap.size v ns w') (h3 : ns ≠ []) (h4 : ∀ n ∈ ns, In18 n) (h5 : s.data.toList = nm.data.toList ++ nT ns ++ 10 :: rest.data.toList) (h6 : Below w.heap.size w w') : LineP nm s w e w' := .inr (.inl ⟨v, ns, rest, h1, h2, h3, h4, h5, h6⟩)
theorem LineP.c {nm s rest : ByteArray} {w w' : World} {e : Ending} (h1 : e = .returned (.tuple #[.slice none 0 0, .string rest, .bool false])) (h2 : rest.size ≤ s.size) (h3 : (nm.data.toList ++ [32]) <+: s.data.toList) (h4 : ∀ ns r, ns ≠ [] → (∀ n ∈ ns, In18 n) → s.data.toList ≠ nm.data.toList ++ nT ns ++ 10 :: r) (h5 : Below w.heap.size w w') : LineP nm s w e w' := .inr (.inr ⟨rest, h1, h2, h3, h4, h5⟩)
theorem BA_len (l : List UInt8) : (BA l).size = l.length := by show l.toArray.size = _; rw [List.size_toArray]
theorem nJ_no10 (ns : List Int) : 10 ∉ nJ ns := by
  refine join_no (by decide) _ fun p hp => ?_
  obtain ⟨n, _, rfl⟩ := List.mem_map.1 hp
  exact itoa_no n not_dig10
set_option maxHeartbeats 2000000 in
set_option maxRecDepth 100000 in
theorem implLine (nm : ByteArray) (hnm : nm.size ≤ 10) (s : ByteArray) (hs : s.size ≤ 1048576) (w : World) (htab : Pow w) (herr : Errs w) : Calls Tryz.prog 13 #[.string s, .string nm] w (LineP nm s w) := by
  have Htab := Lib.hid htab
  have Herr := Lib.hid herr
  have HS := Lib.hid hs
  have u1 : ¬ 9223372036854775807 < nm.size + 1 := by omega
  obtain ⟨P, hP⟩ : ∃ P, nm ++ ⟨#[32]⟩ = P := ⟨_, rfl⟩
  have HP := Lib.hid hP
  have HPL := Lib.hid (show P.data.toList = nm.data.toList ++ [32] by rw [← hP]; simp)
  clear htab herr hP
  go_enter Tryz.func13, Tryz.ntmps13
  go_wp2_with fail
  rw [show nm ++ ⟨#[32]⟩ = P from HP.out]
  refine (Tryz.strings_CutPrefix s P _).mono ?_
  rintro e w1 ⟨rfl, hw⟩
  obtain rfl : w = w1 := hw.symm
  cases hpf : Lib.hasPrefix s.data.toList P.data.toList with
  | false =>
    have Hn := Lib.hid (show ¬ (nm.data.toList ++ [32]) <+: s.data.toList by
      rw [← HPL.out]
      intro h
      unfold Lib.hasPrefix at hpf
      rw [List.isPrefixOf_iff_prefix.2 h] at hpf; cases hpf)
    clear hpf hw
    go_wp2_with fail
    go_ret3
    exact LineP.a rfl Hn.out (Below.refl _ _)
  | true =>
    have hpre : (nm.data.toList ++ [32]) <+: s.data.toList := by
      rw [← HPL.out]
      unfold Lib.hasPrefix at hpf
      exact List.isPrefixOf_iff_prefix.1 hpf
    have ht : (⟨(Lib.trimPrefix s.data.toList P.data.toList).toArray⟩ : ByteArray) = BA (s.data.toList.drop P.data.toList.length) := by
      unfold Lib.trimPrefix
      rw [if_pos hpf]; rfl
    obtain ⟨T, hT⟩ : ∃ T, BA (s.data.toList.drop P.data.toList.length) = T := ⟨_, rfl⟩
    rw [ht, hT]
    have HT := Lib.hid (show s.data.toList = nm.data.toList ++ 32 :: T.data.toList by
      obtain ⟨r, hr⟩ := hpre
      rw [← hT, BA_data, HPL.out, ← hr, List.drop_left]; simp)
    have HPre := Lib.hid hpre
    have HTZ := Lib.hid (show T.size ≤ 1048576 by
      have e1 : T.data.toList.length = T.size := by simp
      have e2 : s.data.toList.length = s.size := by simp
      have := congrArg List.length HT.out
      simp only [List.length_append, List.length_cons] at this
      omega)
    clear hpf hpre ht hT hw
    go_wp2_with fail
    refine (implCut T HTZ.out _).mono ?_
    rintro e w1 (⟨h10, rfl, hb⟩ | ⟨a, b, hab, hna, rfl, hb⟩)
    · have Hno := Lib.hid (show ∀ ns r, ns ≠ [] → (∀ n ∈ ns, In18 n) → s.data.toList ≠ nm.data.toList ++ nT ns ++ 10 :: r by
        intro ns r h0 _ e
        rw [HT.out, nT_nJ h0, List.append_assoc] at e
        have e2 := (List.cons.inj (List.append_cancel_left e)).2
        apply h10
        rw [e2]; simp)
      have Hb := Lib.hid hb
      clear h10 hb
      go_wp2_with fail
      go_ret3
      exact LineP.c rfl (Nat.zero_le _) HPre.out Hno.out Hb.out
    · have HAB := Lib.hid hab
      have HNA := Lib.hid hna
      have Hb := Lib.hid hb
      have hzz : a.length + 1 + b.length = T.size := by
        have e1 : T.data.toList.length = T.size := by simp
        have := congrArg List.length hab
        simp only [List.length_append, List.length_cons] at this
        omega
      have hz0 : T.size ≤ s.size := by
        have e1 : T.data.toList.length = T.size := by simp
        have e2 : s.data.toList.length = s.size := by simp
        have := congrArg List.length HT.out
        simp only [List.length_append, List.length_cons] at this
        omega
      have HAZ := Lib.hid (show (BA a).size ≤ 1048576 by rw [BA_len]; have := HTZ.out; omega)
      have HBZ := Lib.hid (show (BA b).size ≤ s.size by rw [BA_len]; omega)
      obtain ⟨A, hA⟩ : ∃ A, BA a = A := ⟨_, rfl⟩
      obtain ⟨B, hB⟩ : ∃ B, BA b = B := ⟨_, rfl⟩
      have HA := Lib.hid hA
      have HB := Lib.hid hB
      rw [hA, hB]
      rw [hA] at HAZ
      rw [hB] at HBZ
      clear hab hna hb hzz hz0 hA hB
      go_wp2_with fail
      refine (implNums A HAZ.out _ (Htab.out.below Hb.out) (errs_below Herr.out Hb.out)).mono ?_
      rintro e w2 (⟨v, ns, rfl, ho, hb2, h0, h1, h2⟩ | ⟨rfl, hb2, h2⟩)
      · have H1 := Lib.hid h1
        have H0 := Lib.hid h0
        have Ho := Lib.hid (ho.mono Hb.out.size)
        have Hb2 := Lib.hid (Hb.out.trans (hb2.mono Hb.out.size))
        have He := Lib.hid (show s.data.toList = nm.data.toList ++ nT ns ++ 10 :: B.data.toList by
          rw [HT.out, HAB.out, nT_nJ h0, h2, ← HA.out, ← HB.out, BA_data, BA_data]; simp)
        obtain ⟨ad, cp, rfl⟩ := ho.slice
        clear h0 h1 h2 ho hb2
        go_wp2_with fail
        go_ret3
        exact LineP.b rfl Ho.out H0.out H1.out He.out Hb2.out
      · have Hno := Lib.hid (show ∀ ns r, ns ≠ [] → (∀ n ∈ ns, In18 n) → s.data.toList ≠ nm.data.toList ++ nT ns ++ 10 :: r by
          intro ns r h0 h1 e
          rw [HT.out, nT_nJ h0, List.append_assoc] at e
          have e2 := (List.cons.inj (List.append_cancel_left e)).2
          rw [HAB.out] at e2
          have hh : ∀ (r : List UInt8) (x : UInt8), (10 :: r).head? = some x → ¬ x ≠ 10 := by intro r x hx; simp at hx; simp [hx]
          obtain ⟨e3, -⟩ := span_inj (· ≠ 10) a (nJ ns) _ _ (fun x hx e => HNA.out (e ▸ hx)) (fun x hx e => nJ_no10 ns (e ▸ hx)) (hh _) (hh _) e2
          exact h2 ns h0 h1 (by rw [← e3, ← HA.out, BA_data]))
        have Hb2 := Lib.hid (Hb.out.trans (hb2.mono Hb.out.size))
        clear h2 hb2
        go_wp2_with fail
        go_ret3
        exact LineP.c rfl HBZ.out HPre.out Hno.out Hb2.out
end Go.Proofs.YtfpnflhkfpolcaaGreatDoor.Num
