
/-
  readPosts and ReadScript of the program.
-/
import Derived.Test.YtfpnflhkfpolcaaGreatDoorSI4
import Derived.Test.YtfpnflhkfpolcaaGreatDoorSW3
namespace Go.Proofs.YtfpnflhkfpolcaaGreatDoor.Num
open Go.RowKit Rows3 GR KD

def FL (l : List PoX) : List UInt8 := (l.map pL).flatMap (· ++ [10])
theorem FL_cons (p : PoX) (l : List PoX) : FL (p :: l) = pL p ++ 10 :: FL l := by unfold FL; simp
theorem FL_snoc (l : List PoX) (p : PoX) : FL (l ++ [p]) = FL l ++ (pL p ++ [10]) := by unfold FL; simp
theorem FL_len (l : List PoX) : l.length ≤ (FL l).length := by
  induction l with
  | nil => simp [FL]
  | cons p l ih => rw [FL_cons]; simp; omega
theorem head10n (r : List UInt8) (x : UInt8) (hx : (10 :: r).head? = some x) : ¬ x ≠ 10 := by simp at hx; simp [hx]
theorem FL_split : ∀ (ps qs : List PoX) (t : List UInt8), (∀ p ∈ ps, pOk p) → (∀ p ∈ qs, pOk p) → FL qs = FL ps ++ t → ∃ rs, qs = ps ++ rs ∧ FL rs = t
  | [], qs, t, _, _, h => ⟨qs, rfl, h⟩
  | p :: ps, [], t, _, _, h => by rw [FL_cons] at h; simp [FL] at h
  | p :: ps, q :: qs, t, h1, h2, h => by
    rw [FL_cons, FL_cons, List.append_assoc] at h
    obtain ⟨e, h3⟩ := span_inj (· ≠ 10) _ _ _ _ (fun x hx e => pL_no10 (h2 q (by simp)) (e ▸ hx)) (fun x hx e => pL_no10 (h1 p (by simp)) (e ▸ hx)) (head10n _) (head10n _) h
    obtain rfl := pL_inj (h2 q (by simp)) (h1 p (by simp)) e
    obtain ⟨rs, rfl, h5⟩ := FL_split ps qs t (fun p hp => h1 p (by simp [hp])) (fun p hp => h2 p (by simp [hp])) (List.cons.inj h3).2
    exact ⟨rs, rfl, h5⟩
/-- where the rest is no post's line and more, there is no way. -/
theorem FL_no {ps : List PoX} {s sr : List UInt8} (hps : ∀ p ∈ ps, pOk p) (hs : s = FL ps ++ sr) (hne : sr ≠ []) (hno : ∀ p t, pOk p → sr ≠ pL p ++ 10 :: t) : ∀ qs, (∀ p ∈ qs, pOk p) → FL qs ≠ s := by
  intro qs hq e
  obtain ⟨rs, rfl, h⟩ := FL_split ps qs sr hps hq (e.trans hs)
  cases rs with
  | nil => exact hne (by rw [← h]; rfl)
  | cons r rs => exact hno r (FL rs) (hq r (by simp)) (by rw [← h, FL_cons])
def PostsP (s : ByteArray) (w : World) (e : Ending) (w' : World) : Prop :=
  (∃ u ps, e = .returned (.tuple #[u, .bool true]) ∧ postS.cap (fun k => w.heap.size ≤ k) [u] ps w' ∧ Below w.heap.size w w' ∧ (∀ p ∈ ps, pOk p) ∧ FL ps = s.data.toList) ∨
  (e = .returned (.tuple #[.slice none 0 0, .bool false]) ∧ Below w.heap.size w w' ∧ ∀ ps, (∀ p ∈ ps, pOk p) → FL ps ≠ s.data.toList)
theorem PostsP.yes {s : ByteArray} {w w' : World} {e : Ending} {u : Value} {ps : List PoX} (h1 : e = .returned (.tuple #[u, .bool true])) (h2 : postS.cap (fun k => w.heap.size ≤ k) [u] ps w') (h3 : Below w.heap.size w w') (h4 : ∀ p ∈ ps, pOk p) (h5 : FL ps = s.data.toList) : PostsP s w e w' := .inl ⟨u, ps, h1, h2, h3, h4, h5⟩
theorem PostsP.no {s : ByteArray} {w w' : World} {e : Ending} (h1 : e = .returned (.tuple #[.slice none 0 0, .bool false])) (h2 : Below w.heap.size w w') (h3 : ∀ ps, (∀ p ∈ ps, pOk p) → FL ps ≠ s.data.toList) : PostsP s w e w' := .inr ⟨h1, h2, h3⟩
theorem rq_len8' {d0 d1 : Int} {q : Bool} {x y z : Int} {lk : Bool} {l : List Int} (h : pOk (d0, d1, q, x, y, z, lk, l)) : l.length ≤ 8 := (okR_facts h.2.2).2.2.2.2.1
structure PSt (s : ByteArray) (w wr : World) (sr : ByteArray) (ps : List PoX) (u : Value) : Prop where
  sz : sr.size ≤ s.size
  eq : s.data.toList = FL ps ++ sr.data.toList
  ok : ∀ p ∈ ps, pOk p
  cap : postS.cap (fun k => w.heap.size ≤ k) [u] ps wr
  bel : Below w.heap.size w wr
set_option maxHeartbeats 8000000 in
set_option maxRecDepth 100000 in
theorem implPosts (s : ByteArray) (hs : s.size ≤ 1048576) (w : World) (htab : Pow w) (herr : Errs w) : Calls Tryz.prog 14 #[.string s] w (PostsP s w) := by
  have Htab := Lib.hid htab
  have Herr := Lib.hid herr
  have HS := Lib.hid hs
  clear htab herr hs
  go_enter Tryz.func14, Tryz.ntmps14
  go_wp2_with fail
  go_loopw [0, 4] (fun t o wr => ∃ (sr : ByteArray) (ps : List PoX) (u : Value), t = .string sr ∧ o = u ∧ Hid (PSt s w wr sr ps u)) (fun t _ _ => match t with | .string x => x.size | _ => 0)
  case atStart => exact ⟨s, [], _, rfl, rfl, Lib.hid ⟨Nat.le_refl _, rfl, fun _ h => by simp at h, row_nil _ _, Below.refl _ _⟩⟩
  case round =>
    obtain ⟨sr, ps, u, rfl, hou, H⟩ := hrel
    subst hou
    have hrz : sr.size ≤ 1048576 := Nat.le_trans H.out.sz HS.out
    have HRZ := Lib.hid hrz
    have Hb := Lib.hid H.out.bel
    have hbs := Hb.out.size
    by_cases hne : sr = ⟨#[]⟩
    · have q1 : sr.toList.isEmpty = true := by rw [hne, ByteArray.toList_eq]; rfl
      have HE := Lib.hid (show FL ps = s.data.toList by rw [H.out.eq, hne]; simp)
      clear hne hrz
      go_wp2_with fail
      go_ret2
      exact PostsP.yes rfl H.out.cap Hb.out H.out.ok HE.out
    · have q1 := toList_neB hne
      have HNE := Lib.hid (show sr.data.toList ≠ [] from fun e => hne (ba_inj e))
      clear hne hrz
      go_wp2_with fail
      refine (implCut sr HRZ.out _).mono ?_
      rintro e w1 (⟨h10, rfl, hb⟩ | ⟨a, b, hab, hna, rfl, hb⟩)
      · have Hno := Lib.hid (FL_no H.out.ok H.out.eq HNE.out (fun p t _ e => h10 (by rw [e]; simp)))
        have HB1 := Lib.hid (Hb.out.trans (hb.mono Hb.out.size))
        clear h10 hb
        go_wp2_with fail
        refine (implPost sr HRZ.out _ (Htab.out.below HB1.out) (errs_below Herr.out HB1.out)).mono ?_
        rintro e w2 (⟨d0, d1, q, x, y, z, lk, v, l, rfl, ho, hb2, hok, hpl⟩ | ⟨rfl, hb2, hno⟩)
        · obtain ⟨ad, cp, rfl⟩ := ho.slice
          have HB2 := Lib.hid (HB1.out.trans (hb2.mono HB1.out.size))
          clear ho hb2 hok hpl
          have A1 := Bx.new 39 #[.int .i64 0, .int .i64 0, .bool false, .int .i64 0, .int .i64 0, .int .i64 0, .bool false, .slice none 0 0] w2
          obtain ⟨f0, f1, f2, f3, f4, f5, f6, f7⟩ := warm8 A1
          have G := Lib.hid (Bx.new 39 #[.int .i64 d0, .int .i64 d1, .bool q, .int .i64 x, .int .i64 y, .int .i64 z, .bool lk, .slice ad l.length cp] w2)
          have hal := (Below.refl w2.heap.size w2).alloc (Nat.le_refl _) (Obj.cells #[.int .i64 d0, .int .i64 d1, .bool q, .int .i64 x, .int .i64 y, .int .i64 z, .bool lk, .slice ad l.length cp] 39)
          have HB3 := Lib.hid (HB2.out.trans (hal.mono HB2.out.size))
          clear hal A1
          go_upto_region 5 with fail
          generalize w2.alloc _ = w3 at G HB3 ⊢
          clear f0 f1 f2 f3 f4 f5 f6 f7
          go_wp2_with fail
          go_ret2
          exact PostsP.no rfl HB3.out Hno.out
        · have HB2 := Lib.hid (HB1.out.trans (hb2.mono HB1.out.size))
          clear hb2 hno
          have A1 := Bx.new 39 #[.int .i64 0, .int .i64 0, .bool false, .int .i64 0, .int .i64 0, .int .i64 0, .bool false, .slice none 0 0] w2
          obtain ⟨f0, f1, f2, f3, f4, f5, f6, f7⟩ := warm8 A1
          have G := Lib.hid (Bx.new 39 #[.int .i64 0, .int .i64 0, .bool false, .int .i64 0, .int .i64 0, .int .i64 0, .bool false, .slice none 0 0] w2)
          have hal := (Below.refl w2.heap.size w2).alloc (Nat.le_refl _) (Obj.cells #[.int .i64 0, .int .i64 0, .bool false, .int .i64 0, .int .i64 0, .int .i64 0, .bool false, .slice none 0 0] 39)
          have HB3 := Lib.hid (HB2.out.trans (hal.mono HB2.out.size))
          clear hal A1
          go_upto_region 5 with fail
          generalize w2.alloc _ = w3 at G HB3 ⊢
          clear f0 f1 f2 f3 f4 f5 f6 f7
          go_wp2_with fail
          go_ret2
          exact PostsP.no rfl HB3.out Hno.out
      · have HAB := Lib.hid hab
        have HNA := Lib.hid hna
        have HB1 := Lib.hid (Hb.out.trans (hb.mono Hb.out.size))
        have hzz : a.length + 1 + b.length = sr.size := by
          have e1 : sr.data.toList.length = sr.size := by simp
          have := congrArg List.length hab
          simp only [List.length_append, List.length_cons] at this
          omega
        have HAZ := Lib.hid (show (BA a).size ≤ 1048576 by rw [BA_len]; have := HRZ.out; omega)
        have HBZ := Lib.hid (show (BA b).size < sr.size by rw [BA_len]; omega)
        have h01 := hb.size
        have HH1 := Lib.hid hb
        obtain ⟨A, hA⟩ : ∃ A, BA a = A := ⟨_, rfl⟩
        obtain ⟨B, hB⟩ : ∃ B, BA b = B := ⟨_, rfl⟩
        have HA := Lib.hid hA
        have HB := Lib.hid hB
        rw [hA, hB]
        rw [hA] at HAZ
        rw [hB] at HBZ
        clear hab hna hb hzz hA hB
        go_wp2_with fail
        refine (implPost A HAZ.out _ (Htab.out.below HB1.out) (errs_below Herr.out HB1.out)).mono ?_
        rintro e w2 (⟨d0, d1, q, x, y, z, lk, v, l, rfl, ho, hb2, hok, hpl⟩ | ⟨rfl, hb2, hno⟩)
        · obtain ⟨ad, cp, rfl⟩ := ho.slice
          have HB2 := Lib.hid (HB1.out.trans (hb2.mono HB1.out.size))
          have HOK := Lib.hid hok
          have HPL := Lib.hid hpl
          have hl8 := rq_len8' hok
          obtain ⟨a7, p7, eu, _, _⟩ := row_form (postS.cap_rd H.out.cap)
          obtain rfl : u4 = .slice a7 ps.length p7 := by simpa using eu
          have hps : ps.length + 1 ≤ 4000000 := by
            have h1 := FL_len ps
            have h2 := congrArg List.length H.out.eq
            have e1 : s.data.toList.length = s.size := by simp
            rw [List.length_append] at h2
            have := HS.out
            omega
          have HL4 := Lib.hid hps
          have H1c := Lib.hid (post_one d0 d1 q x y z lk ad l.length cp)
          have h12 := hb2.size
          have hl5 : l.length ≤ 9223372036854775807 := by omega
          have HL5 := Lib.hid hl5
          have H02 := Lib.hid (HH1.out.trans (hb2.mono h01))
          have HO := Lib.hid (ho.mono h01)
          clear ho hb2 hok hpl eu hps hl8 hl5
          have A1 := Bx.new 39 #[.int .i64 0, .int .i64 0, .bool false, .int .i64 0, .int .i64 0, .int .i64 0, .bool false, .slice none 0 0] w2
          obtain ⟨f0, f1, f2, f3, f4, f5, f6, f7⟩ := warm8 A1
          have G := Lib.hid (Bx.new 39 #[.int .i64 d0, .int .i64 d1, .bool q, .int .i64 x, .int .i64 y, .int .i64 z, .bool lk, .slice ad l.length cp] w2)
          have hal := (Below.refl w2.heap.size w2).alloc (Nat.le_refl _) (Obj.cells #[.int .i64 d0, .int .i64 d1, .bool q, .int .i64 x, .int .i64 y, .int .i64 z, .bool lk, .slice ad l.length cp] 39)
          have HB3 := Lib.hid (HB2.out.trans (hal.mono HB2.out.size))
          have CC := Lib.hid (postS.cap_later (postS.cap_top H.out.cap) (H02.out.trans (hal.mono H02.out.size)))
          have HPC := Lib.hid (postK.cap_later (post_cap (x0 := d0) (x1 := d1) (x20 := q) (x21 := x) (x22 := y) (x23 := z) (x24 := lk) (cap_own HO.out HL5.out) (fun k hk => hk)) hal)
          clear hal A1
          go_upto_region 5 with fail
          generalize w2.alloc _ = w3 at G HB3 CC HPC ⊢
          clear f0 f1 f2 f3 f4 f5 f6 f7
          obtain ⟨h0, h1, h2, h3, h4, h5, h6, h7⟩ := cells8 G.out
          go_wp2_with (at_builtin; refine appRow 22 39 Tryz.underlying22 elPost rfl _ _ rfl (fun k => w.heap.size ≤ k ∧ k < wr.heap.size) (fun k => wr.heap.size ≤ k) (.slice a7 ps.length p7) ps (d0, d1, q, x, y, z, lk, l) #[.int .i64 d0, .int .i64 d1, .bool q, .int .i64 x, .int .i64 y, .int .i64 z, .bool lk, .slice ad l.length cp] w3 rfl rfl CC.out HPC.out (fun k _ h1 h2 => by omega) H1c.out HL4.out ?_; intro u' w4 hcap ht; have HC4 := Lib.hid hcap; have HT4 := Lib.hid ht; clear hcap ht)
          go_roundw
          case rel =>
            refine ⟨B, ps ++ [(d0, d1, q, x, y, z, lk, l)], u', rfl, rfl, Lib.hid ⟨Nat.le_of_lt (Nat.lt_of_lt_of_le HBZ.out H.out.sz), ?_, ?_, ?_, HB3.out.trans (HT4.out.below HB3.out.size (fun k hk => hk.1))⟩⟩
            · rw [H.out.eq, HAB.out, FL_snoc, HPL.out, ← HA.out, ← HB.out, BA_data, BA_data]; simp
            · intro p hp
              rcases List.mem_append.1 hp with hp | hp
              · exact H.out.ok p hp
              · simp at hp; subst hp; exact HOK.out
            · refine postS.cap_wide HC4.out (fun k _ hk => ?_)
              rcases hk with hk | hk | hk
              · exact hk.1
              · exact Nat.le_trans hbs hk
              · exact Nat.le_trans HB3.out.size hk
          case measure => exact HBZ.out
        · have HB2 := Lib.hid (HB1.out.trans (hb2.mono HB1.out.size))
          have Hno := Lib.hid (FL_no H.out.ok H.out.eq HNE.out (fun p t hp e => by
            rw [HAB.out] at e
            obtain ⟨e3, -⟩ := span_inj (· ≠ 10) a (pL p) _ _ (fun x hx e => HNA.out (e ▸ hx)) (fun x hx e => pL_no10 hp (e ▸ hx)) (head10n _) (head10n _) e
            exact hno p hp (by rw [← e3, ← HA.out, BA_data])))
          clear hb2 hno
          have A1 := Bx.new 39 #[.int .i64 0, .int .i64 0, .bool false, .int .i64 0, .int .i64 0, .int .i64 0, .bool false, .slice none 0 0] w2
          obtain ⟨f0, f1, f2, f3, f4, f5, f6, f7⟩ := warm8 A1
          have G := Lib.hid (Bx.new 39 #[.int .i64 0, .int .i64 0, .bool false, .int .i64 0, .int .i64 0, .int .i64 0, .bool false, .slice none 0 0] w2)
          have hal := (Below.refl w2.heap.size w2).alloc (Nat.le_refl _) (Obj.cells #[.int .i64 0, .int .i64 0, .bool false, .int .i64 0, .int .i64 0, .int .i64 0, .bool false, .slice none 0 0] 39)
          have HB3 := Lib.hid (HB2.out.trans (hal.mono HB2.out.size))
          clear hal A1
          go_upto_region 5 with fail
          generalize w2.alloc _ = w3 at G HB3 ⊢
          clear f0 f1 f2 f3 f4 f5 f6 f7
          go_wp2_with fail
          go_ret2
          exact PostsP.no rfl HB3.out Hno.out
end Go.Proofs.YtfpnflhkfpolcaaGreatDoor.Num
namespace Go.Proofs.YtfpnflhkfpolcaaGreatDoor.Num
open Go.RowKit Rows3 GR KD

def LineF (nm s : ByteArray) (ns : List Int) (rest : ByteArray) (b : Bool) : Prop :=
  (b = true ∧ ns = [] ∧ rest = s ∧ ¬ (nm.data.toList ++ [32]) <+: s.data.toList) ∨
  (b = true ∧ ns ≠ [] ∧ (∀ n ∈ ns, In18 n) ∧ s.data.toList = nm.data.toList ++ nT ns ++ 10 :: rest.data.toList) ∨
  (b = false ∧ (nm.data.toList ++ [32]) <+: s.data.toList ∧ ∀ ns r, ns ≠ [] → (∀ n ∈ ns, In18 n) → s.data.toList ≠ nm.data.toList ++ nT ns ++ 10 :: r)
theorem LineP.q {nm s : ByteArray} {w w' : World} {e : Ending} (h : LineP nm s w e w') : ∃ v ns rest b, e = .returned (.tuple #[v, .string rest, .bool b]) ∧ OwnI w.heap.size v ns w' ∧ Below w.heap.size w w' ∧ rest.size ≤ s.size ∧ ns.length ≤ s.size ∧ LineF nm s ns rest b := by
  rcases h with ⟨he, hn, hb⟩ | ⟨v, ns, rest, he, ho, h0, h1, h2, hb⟩ | ⟨rest, he, hz, hp, hno, hb⟩
  · exact ⟨_, [], s, true, he, OwnI.nil _ _, hb, Nat.le_refl _, Nat.zero_le _, .inl ⟨rfl, rfl, rfl, hn⟩⟩
  · have e1 : s.data.toList.length = s.size := by simp
    have e2 : rest.data.toList.length = rest.size := by simp
    have e3 := congrArg List.length h2
    have e4 : ns.length ≤ (nT ns).length := by
      clear h0 h1 h2 ho e3
      induction ns with
      | nil => simp
      | cons n ns ih => rw [nT_cons]; simp; omega
    simp only [List.length_append, List.length_cons] at e3
    exact ⟨v, ns, rest, true, he, ho, hb, by omega, by omega, .inr (.inl ⟨rfl, h0, h1, h2⟩)⟩
  · exact ⟨_, [], rest, false, he, OwnI.nil _ _, hb, hz, Nat.zero_le _, .inr (.inr ⟨rfl, hp, hno⟩)⟩
def PostsF (s : ByteArray) (ps : List PoX) (b : Bool) : Prop := (b = true ∧ (∀ p ∈ ps, pOk p) ∧ FL ps = s.data.toList) ∨ (b = false ∧ ∀ ps, (∀ p ∈ ps, pOk p) → FL ps ≠ s.data.toList)
theorem PostsP.q {s : ByteArray} {w w' : World} {e : Ending} (h : PostsP s w e w') : ∃ u ps b, e = .returned (.tuple #[u, .bool b]) ∧ postS.cap (fun k => w.heap.size ≤ k) [u] ps w' ∧ Below w.heap.size w w' ∧ PostsF s ps b := by
  rcases h with ⟨u, ps, he, hc, hb, h1, h2⟩ | ⟨he, hb, h1⟩
  · exact ⟨u, ps, true, he, hc, hb, .inl ⟨rfl, h1, h2⟩⟩
  · exact ⟨_, [], false, he, row_nil _ _, hb, .inr ⟨rfl, h1⟩⟩
theorem lnL_T {nm : List UInt8} {l : List Int} (h : l ≠ []) : (lnL nm l).flatMap (· ++ [10]) = nm ++ nT l ++ [10] := by unfold lnL; rw [if_neg h]; simp
theorem lnL_N (nm : List UInt8) : (lnL nm []).flatMap (· ++ [10]) = [] := by simp [lnL]
theorem Line_yes {nm s rest : ByteArray} {ns : List Int} (h : LineF nm s ns rest true) : (∀ n ∈ ns, In18 n) ∧ s.data.toList = (lnL nm.data.toList ns).flatMap (· ++ [10]) ++ rest.data.toList := by
  rcases h with ⟨-, rfl, rfl, _⟩ | ⟨-, h0, h1, h2⟩ | ⟨h, _⟩
  · exact ⟨fun _ h => by simp at h, by rw [lnL_N]; rfl⟩
  · exact ⟨h1, by rw [lnL_T h0, h2]; simp⟩
  · cases h
theorem Line_step {nm s rest : ByteArray} {ns l : List Int} {b : Bool} {t : List UInt8} {c : UInt8} (hc : nm.data.toList.head? = some c) (ht : t.head? ≠ some c) (h : LineF nm s ns rest b) (hl : ∀ n ∈ l, In18 n) (e : s.data.toList = (lnL nm.data.toList l).flatMap (· ++ [10]) ++ t) :
    b = true ∧ ns = l ∧ rest.data.toList = t := by
  by_cases hl0 : l = []
  · subst hl0
    rw [lnL_N, List.nil_append] at e
    have hno : ∀ r, s.data.toList ≠ nm.data.toList ++ r := by
      intro r e2
      rw [← e, e2] at ht
      apply ht
      rw [List.head?_append, hc]; rfl
    rcases h with ⟨h1, h2, h3, -⟩ | ⟨-, -, -, h3⟩ | ⟨-, ⟨r, h3⟩, -⟩
    · exact ⟨h1, h2, by rw [h3]; exact e⟩
    · exact absurd (by rw [h3, List.append_assoc]) (hno _)
    · exact absurd (by rw [← h3, List.append_assoc]) (hno _)
  · rw [lnL_T hl0, List.append_assoc, List.singleton_append] at e
    rcases h with ⟨-, -, -, h4⟩ | ⟨h1, h2, -, h4⟩ | ⟨-, -, h4⟩
    · exfalso
      apply h4
      rw [e, nT_nJ hl0]
      exact ⟨nJ l ++ 10 :: t, by simp⟩
    · rw [h4] at e
      rw [List.append_assoc, List.append_assoc] at e
      obtain ⟨e1, e2⟩ := span_inj (· ≠ 10) (nT ns) (nT l) _ _ (fun x hx e => nT_no10 ns (e ▸ hx)) (fun x hx e => nT_no10 l (e ▸ hx)) (head10n _) (head10n _) (List.append_cancel_left e)
      exact ⟨h1, nT_inj _ _ e1, (List.cons.inj e2).2⟩
    · exact absurd e (h4 l t hl0 hl)
theorem FL_head (ps : List PoX) (c : UInt8) (h : c ≠ 112) : (FL ps).head? ≠ some c := by
  cases ps with
  | nil => simp [FL]
  | cons p ps => rw [FL_cons]; show some 112 ≠ some c; intro e; exact h (Option.some.inj e).symm
theorem says_head (l : List Int) (ps : List PoX) : ((lnL saysL l).flatMap (· ++ [10]) ++ FL ps).head? ≠ some 119 := by
  by_cases hl : l = []
  · subst hl; rw [lnL_N, List.nil_append]; exact FL_head ps 119 (by decide)
  · rw [lnL_T hl]; show some 115 ≠ some 119; decide
theorem sT_parts (x : ScX) : sT x = (lnL waitsL x.2.1).flatMap (· ++ [10]) ++ ((lnL saysL x.2.2).flatMap (· ++ [10]) ++ FL x.1) := by
  unfold sT lns FL
  simp only [List.flatMap_append, List.append_assoc]
theorem RS_all {s r1 r2 : ByteArray} {l1 l2 : List Int} {ps : List PoX} (h1 : LineF ⟨#[119, 97, 105, 116, 115]⟩ s l1 r1 true) (h2 : LineF ⟨#[115, 97, 121, 115]⟩ r1 l2 r2 true) (h3 : PostsF r2 ps true) : RS s.data.toList (ps, l1, l2) true := by
  obtain ⟨a1, a2⟩ := Line_yes h1
  obtain ⟨b1, b2⟩ := Line_yes h2
  rcases h3 with ⟨-, c1, c2⟩ | ⟨h, _⟩
  · refine .inl ⟨rfl, ⟨c1, a1, b1⟩, ?_⟩
    rw [sT_parts, a2, b2, ← c2]; rfl
  · cases h
theorem RS_not {s r1 r2 : ByteArray} {l1 l2 : List Int} {ps : List PoX} {b1 b2 b3 : Bool} (h1 : LineF ⟨#[119, 97, 105, 116, 115]⟩ s l1 r1 b1) (h2 : LineF ⟨#[115, 97, 121, 115]⟩ r1 l2 r2 b2) (h3 : PostsF r2 ps b3) (hb : ¬ (b1 = true ∧ b2 = true ∧ b3 = true)) : RS s.data.toList ([], [], []) false := by
  refine .inr ⟨rfl, rfl, fun y hy e => hb ?_⟩
  rw [sT_parts] at e
  obtain ⟨e1, -, e2⟩ := Line_step (c := 119) rfl (says_head y.2.2 y.1) h1 hy.2.1 e.symm
  obtain ⟨e3, -, e4⟩ := Line_step (c := 115) rfl (FL_head y.1 115 (by decide)) h2 hy.2.2 e2
  refine ⟨e1, e3, ?_⟩
  rcases h3 with ⟨h, _⟩ | ⟨-, h⟩
  · exact h
  · exact absurd e4.symm (h y.1 hy.1)
set_option maxHeartbeats 8000000 in
set_option maxRecDepth 100000 in
theorem implReadScript (s : ByteArray) (hs : s.size ≤ 1048576) (w : World) (htab : Pow w) (herr : Errs w) : Calls Tryz.prog 5 #[.string s] w (ScP s w) := by
  have Htab := Lib.hid htab
  have Herr := Lib.hid herr
  have HS := Lib.hid hs
  have R0 := Lib.hid (Bx.new 25 #[.slice none 0 0, .slice none 0 0, .slice none 0 0] w)
  have HB0 := Lib.hid ((Below.refl w.heap.size w).alloc (Nat.le_refl _) (Obj.cells #[.slice none 0 0, .slice none 0 0, .slice none 0 0] 25))
  clear htab herr hs
  go_enter Tryz.func5, Tryz.ntmps5
  go_wp2_with fail
  generalize w.alloc _ = w0 at R0 HB0 ⊢
  have HR0L := Lib.hid R0.out.lt
  refine (implLine ⟨#[119, 97, 105, 116, 115]⟩ (by decide) s HS.out _ (Htab.out.below HB0.out) (errs_below Herr.out HB0.out)).mono ?_
  intro e w1 hq
  obtain ⟨v1, l1, r1, b1, rfl, ho, hb, hz, hln1, hf⟩ := hq.q
  obtain ⟨ad1, cp1, rfl⟩ := ho.slice
  have HO1 := Lib.hid ho
  have HF1 := Lib.hid hf
  have HZ1 := Lib.hid (Nat.le_trans hz HS.out)
  have R1 := Lib.hid (R0.out.later hb)
  have HB1 := Lib.hid (HB0.out.trans (hb.mono HB0.out.size))
  have h01 := hb.size
  clear hq ho hf hb hz R0
  go_wp2_with fail
  refine (implLine ⟨#[115, 97, 121, 115]⟩ (by decide) r1 HZ1.out _ (Htab.out.below HB1.out) (errs_below Herr.out HB1.out)).mono ?_
  intro e w2 hq
  obtain ⟨v2, l2, r2, b2, rfl, ho, hb, hz, hln2, hf⟩ := hq.q
  obtain ⟨ad2, cp2, rfl⟩ := ho.slice
  have HO1b := Lib.hid (HO1.out.later hb)
  have HO2 := Lib.hid ho
  have HF2 := Lib.hid hf
  have HZ2 := Lib.hid (Nat.le_trans hz HZ1.out)
  have R2 := Lib.hid (R1.out.later hb)
  have HB2 := Lib.hid (HB1.out.trans (hb.mono HB1.out.size))
  have h12 := hb.size
  have HC1 := Lib.hid (ints.cap_later (ints.cap_top (cap_own HO1.out (by have := HS.out; omega))) hb)
  have HC2 := Lib.hid (ints.cap_top (cap_own HO2.out (by have := HZ1.out; omega)))
  clear hq ho hf hb hz R1
  go_wp2_with fail
  refine (implPosts r2 HZ2.out _ (Htab.out.below HB2.out) (errs_below Herr.out HB2.out)).mono ?_
  intro e w3 hq
  obtain ⟨u, ps, b3, rfl, hc, hb, hf⟩ := hq.q
  obtain ⟨a7, p7, eu, _, _⟩ := row_form (postS.cap_rd hc)
  obtain rfl : u = .slice a7 ps.length p7 := by simpa using eu
  have C1 := Lib.hid (ints.cap_later HC1.out hb)
  have C2 := Lib.hid (ints.cap_later HC2.out hb)
  have C3 := Lib.hid hc
  have HF3 := Lib.hid hf
  have R3 := Lib.hid (R2.out.later hb)
  have HB3 := Lib.hid (HB2.out.trans (hb.mono HB2.out.size))
  have h0 := HB0.out.size
  have hr0 : w.heap.size < w0.heap.size := HR0L.out
  clear hq hc hf hb eu
  obtain ⟨g0, g1, g2⟩ := bx3 R3.out
  have f0 := R3.out.warm 0
  have f1 := R3.out.warm 1
  have f2 := R3.out.warm 2
  by_cases hall : b1 = true ∧ b2 = true ∧ b3 = true
  · obtain ⟨rfl, rfl, rfl⟩ := hall
    have HR := Lib.hid (RS_all HF1.out HF2.out HF3.out)
    go_wp2_with fail
    obtain ⟨e0, e1, e2⟩ := bx3 (show Bx 25 w.heap.size #[.slice a7 ps.length p7, .slice ad1 l1.length cp1, .slice ad2 l2.length cp2] _ from ((R3.out.set 0 (.slice a7 ps.length p7)).set 1 (.slice ad1 l1.length cp1)).set 2 (.slice ad2 l2.length cp2))
    refine bodyPost_ret (v := .tuple #[.agg #[.slice a7 ps.length p7, .slice ad1 l1.length cp1, .slice ad2 l2.length cp2], .bool true]) (by simp [results, Tryz.results5, go_sem, e0, e1, e2]) rfl ?_
    refine ScP.mk (z := (ps, l1, l2)) (b := true) rfl ?_ ?_ HR.out
    · have hcap : scriptK.cap (fun k => w0.heap.size ≤ k) [.slice a7 ps.length p7, .slice ad1 l1.length cp1, .slice ad2 l2.length cp2] (ps, l1, l2) w3 := script_cap C3.out C1.out C2.out (fun k hk => Nat.le_trans h01 (Nat.le_trans h12 hk)) (fun k hk => hk.1) (fun k hk => Nat.le_trans h01 hk.1) (fun k h1 h2 => by omega) (fun k h1 h2 => by omega) (fun k h1 h2 => by omega)
      refine scriptK.cap_wide (F := fun k => w0.heap.size ≤ k) ?_ (fun k _ hk => Nat.le_trans h0 hk)
      iterate 3 refine scriptK.cap_set ?_ (by dsimp only; omega) _
      exact hcap
    · iterate 3 refine Below.setCell ?_ (by exact Nat.le_refl _) _
      exact HB3.out
  · have HR := Lib.hid (RS_not HF1.out HF2.out HF3.out hall)
    rcases (show b1 = false ∨ b1 = true ∧ b2 = false ∨ b1 = true ∧ b2 = true ∧ b3 = false by revert hall; cases b1 <;> cases b2 <;> cases b3 <;> simp) with rfl | ⟨rfl, rfl⟩ | ⟨rfl, rfl, rfl⟩
    all_goals
      go_wp2_with fail
      obtain ⟨e0, e1, e2⟩ := bx3 (show Bx 25 w.heap.size #[.slice none 0 0, .slice none 0 0, .slice none 0 0] _ from ((R3.out.set 0 (.slice none 0 0)).set 1 (.slice none 0 0)).set 2 (.slice none 0 0))
      refine bodyPost_ret (v := .tuple #[.agg #[.slice none 0 0, .slice none 0 0, .slice none 0 0], .bool false]) (by simp [results, Tryz.results5, go_sem, e0, e1, e2]) rfl ?_
      refine ScP.mk (z := ([], [], [])) (b := false) rfl ?_ ?_ HR.out
      · exact script_cap (Fx0 := fun _ => False) (Fx1 := fun _ => False) (Fx2 := fun _ => False) (row_nil _ _) (row_nil _ _) (row_nil _ _) (fun _ h => h.elim) (fun _ h => h.elim) (fun _ h => h.elim) (fun _ h => h.elim) (fun _ h => h.elim) (fun _ h => h.elim)
      · iterate 3 refine Below.setCell ?_ (by exact Nat.le_refl _) _
        exact HB3.out
end Go.Proofs.YtfpnflhkfpolcaaGreatDoor.Num
