
/-
  The marks of a row of posts of the call's own: written, and found again.
-/
import Derived.Test.YtijilhaoknpeeaaPost2
import Derived.Test.YtijilhaoknpeeaaEq
namespace Go.Proofs.Ytijilhaoknpeeaa.Num
open Go.RowKit GR Rows3

/-- nothing has turned but blocks from B up to C. -/
structure Mid (B C : Nat) (w w' : World) : Prop where
  os : w'.os = w.os
  tape : w'.tape = w.tape
  output : w'.output = w.output
  size : w.heap.size ≤ w'.heap.size
  block : ∀ k, k < w.heap.size → (k < B ∨ C ≤ k) → w'.heap[k]? = w.heap[k]?
theorem Mid.refl (B C : Nat) (w : World) : Mid B C w w := ⟨rfl, rfl, rfl, Nat.le_refl _, fun _ _ _ => rfl⟩
theorem Mid.trans {B C : Nat} {a b c : World} (h : Mid B C a b) (k : Mid B C b c) : Mid B C a c :=
  ⟨k.os.trans h.os, k.tape.trans h.tape, k.output.trans h.output, Nat.le_trans h.size k.size, fun i hi hn => (k.block i (Nat.lt_of_lt_of_le hi h.size) hn).trans (h.block i hi hn)⟩
theorem Mid.below {B C : Nat} {w w' : World} (h : Mid B C w w') (hB : B ≤ w.heap.size) : Below B w w' := ⟨h.os, h.tape, h.output, h.size, fun k hk => h.block k (by omega) (.inl hk)⟩
theorem Mid.later {B C : Nat} {w w' : World} (h : Below w.heap.size w w') : Mid B C w w' := ⟨h.os, h.tape, h.output, h.size, fun k hk _ => h.block k hk⟩
theorem Mid.grown {B C : Nat} {w w' : World} {r : Option Nat} (h : w.grownBy w' r) (hr : ∀ k, r = some k → B ≤ k ∧ k < C) : Mid B C w w' :=
  ⟨h.os, h.tape, h.output, h.size, fun k hk hn => h.block k hk (fun e => by have := hr k e.symm; omega)⟩
theorem Mid.own {α : Type} {K : Kd α} {T B C D : Nat} {v : Value} {l : List α} {w w' : World} (hm : Mid B C w w') (h : Own K T D v l w) (hD : C ≤ D) : Own K T D v l w' := by
  have h' := h
  obtain ⟨h1, h2⟩ := h
  refine ⟨h1, ?_⟩
  rcases h2 with h2 | ⟨g, cp, cur, rfl, hb, hg, rest⟩
  · exact .inl h2
  · exact .inr ⟨g, cp, cur, rfl, hb, by rw [hm.block g (World.ownsRow.lt h' g rfl).2 (.inr (by omega))]; exact hg, rest⟩
theorem Mid.ownI {B C D : Nat} {v : Value} {l : List Int} {w w' : World} (hm : Mid B C w w') (h : OwnI D v l w) (hD : C ≤ D) : OwnI D v l w' := by
  have h' := h
  obtain ⟨h1, h2⟩ := h
  refine ⟨h1, ?_⟩
  rcases h2 with h2 | ⟨g, cp, cur, rfl, hb, hg, rest⟩
  · exact .inl h2
  · exact .inr ⟨g, cp, cur, rfl, hb, by rw [hm.block g (World.ownsRow.lt h' g rfl).2 (.inr (by omega))]; exact hg, rest⟩
theorem Mid.ownP {B C D : Nat} {v : Value} {l : List PC} {w w' : World} (hm : Mid B C w w') (h : OwnP D v l w) (hD : C ≤ D) : OwnP D v l w' := by
  obtain ⟨lv, e, h1, h2, h3⟩ := h
  exact ⟨lv, e, hm.own h1 hD, fun x hx => hm.ownI (h2 x hx) hD, h3⟩
/-- a row of posts and a row of numbers do not share a block. -/
theorem apart_T {B C : Nat} {u v : Value} {l : List Int} {lv : List (PC × Value)} {w : World} (h : OwnI B u l w) (h' : Own pvK 92 C v lv w) : ∀ k, u.ownBlock = some k → v.ownBlock ≠ some k := by
  intro k hk hk'
  rcases h.2 with ⟨rfl, _⟩ | ⟨g, cp, cur, rfl, hb, hg, _⟩
  · simp [Value.ownBlock] at hk
  rcases h'.2 with ⟨rfl, _⟩ | ⟨g', cp', cur', rfl, hb', hg', _⟩
  · simp [Value.ownBlock] at hk'
  simp [Value.ownBlock] at hk hk'
  subst hk hk'
  rw [hg] at hg'
  simp at hg'
/-- the marks of one post, from x on. -/
def mkP (x : Int) (n : Nat) : PC := ⟨x, x + 1, ((x + 1 + 1) % 3 == 0), x + 1 + 1 + 1, x + 1 + 1 + 1 + 1, x + 1 + 1 + 1 + 1 + 1, ((x + 1 + 1 + 1 + 1 + 1 + 1) % 3 == 0), marks (x + 1 + 1 + 1 + 1 + 1 + 1 + 1) n⟩
def offP (l : List PC) (j : Nat) : Nat := 7 * j + lenP (l.take j)
theorem offP_zero (l : List PC) : offP l 0 = 0 := by simp [offP, lenP]
theorem offP_step {l : List PC} {j : Nat} {x : PC} (h : l[j]? = some x) : offP l (j + 1) = offP l j + 7 + x.da.length := by unfold offP; rw [lenP_step h]; omega
theorem offP_le (l : List PC) (j : Nat) : offP l j ≤ 7 * j + lenP l := by have := lenP_le l j; unfold offP; omega
def marksP (k : Int) (l : List PC) : List PC := (List.range l.length).map fun j => mkP (k + (offP l j : Int)) (l.getD j pc0).da.length
theorem marksP_length (k : Int) (l : List PC) : (marksP k l).length = l.length := by simp [marksP]
theorem marksP_at {k : Int} {l : List PC} {j : Nat} {x : PC} (h : l[j]? = some x) : (marksP k l)[j]? = some (mkP (k + (offP l j : Int)) x.da.length) := by
  have hj := (List.getElem?_eq_some_iff.1 h).1
  have e : l.getD j pc0 = x := by rw [List.getD_eq_getElem?_getD, h]; rfl
  simp only [marksP, List.getElem?_map, List.getElem?_range hj, Option.map_some, e]
/-- seven of the eight cells are stored: the list stays the one it was. -/
def pvE7 (p : PC) : List Value := [.int .i64 p.t, .int .i64 p.who, .bool p.wr, .int .i64 p.ad, .int .i64 p.sz, .int .i64 p.bu, .bool p.lk]
theorem setsAt_app (us vs : List Value) : ∀ (xs : List Value) (p : Nat), setsAt xs p (us ++ vs) = setsAt (setsAt xs p us) (p + us.length) vs := by
  induction us with
  | nil => intro xs p; rfl
  | cons u us ih => intro xs p; rw [List.cons_append, setsAt, ih, setsAt, List.length_cons, show p + 1 + us.length = p + (us.length + 1) by omega]
theorem setsAt_far (us : List Value) : ∀ (xs : List Value) (p q : Nat), p + us.length ≤ q → (setsAt xs p us)[q]? = xs[q]? := by
  induction us with
  | nil => intro xs p q _; rfl
  | cons u us ih => intro xs p q h; rw [List.length_cons] at h; rw [setsAt, ih _ _ _ (by omega), List.getElem?_set_ne (by omega)]
theorem set_same (xs : List Value) (p : Nat) (u : Value) (h : xs[p]? = some u) : xs.set p u = xs := by
  obtain ⟨h1, rfl⟩ := List.getElem?_eq_some_iff.1 h
  exact List.set_getElem_self h1
theorem own_set7 {B g n cap : Nat} {l : List (PC × Value)} {w : World} (h : Own pvK 92 B (.slice (some ⟨g, 0, none⟩) n cap) l w) {i : Nat} {x : PC × Value} (hx : l[i]? = some x) (p : PC) :
    Own pvK 92 B (.slice (some ⟨g, 0, none⟩) n cap) (l.set i (p, x.2)) (setsW w g (i * 8) (pvE7 p)) ∧ w.grownBy (setsW w g (i * 8) (pvE7 p)) (some g) := by
  have hi := (List.getElem?_eq_some_iff.1 hx).1
  obtain ⟨ad, cp, e⟩ := Own.slice h
  cases e
  obtain ⟨h1, h2⟩ := owns_sets (pvE7 p) (i * 8) h
  refine ⟨?_, h2⟩
  unfold Own
  rw [List.length_set, ← flatE_set pvK l i (p, x.2) hi]
  have e1 : pvK.enc (p, x.2) = pvE7 p ++ [x.2] := rfl
  have e2 : setsAt (flatE pvK l) (i * pvK.k) (pvK.enc (p, x.2)) = setsAt (flatE pvK l) (i * 8) (pvE7 p) := by
    rw [e1, setsAt_app, size_pv]
    show (setsAt (flatE pvK l) (i * 8) (pvE7 p)).set (i * 8 + 7) x.2 = _
    refine set_same _ _ _ ?_
    rw [setsAt_far _ _ _ _ (by show i * 8 + 7 ≤ _; omega)]
    exact flatE_at pvK l i x hx 7 _ rfl
  rw [e2]
  exact h1

set_option maxRecDepth 100000 in
set_option maxHeartbeats 1000000 in
theorem heldPostS_any (v : Value) (l : List PC) (k : Int) (hk0 : 0 ≤ k) (hk1 : k ≤ 2000000) (hl : l.length ≤ 2000000) (hd : lenP l ≤ 2000000) (w : World) (hv : RdP v (marksP k l) w) :
    Calls Try.prog 37 #[v, .int .i64 k] w fun e w' => e = .returned (.int .i64 (k + (offP l l.length : Int))) ∧ Below w.heap.size w w' := by
  obtain ⟨lv, hlv, ⟨ad, cap, rfl, h1⟩, e1⟩ := hv
  obtain ⟨n, hln⟩ : ∃ n, lv.length = n := ⟨_, rfl⟩
  have hll : l.length = n := by
    have h3 := congrArg List.length hlv
    rw [List.length_map, marksP_length] at h3
    omega
  rw [hll] at hl ⊢
  rw [hln]
  have H1 := Lib.hid h1
  have E1 := Lib.hid e1
  have HV := Lib.hid hlv
  have HL := Lib.hid hln
  have HN := Lib.hid hll
  clear h1 e1 hlv hln hll
  go_enter Try.func37, Try.ntmps37
  go_wp2
  go_loopw [1, 5] (fun q i wr => ∃ j : Nat, j ≤ n ∧ i = .int .i64 j ∧ q = .int .i64 (k + (offP l j : Int)) ∧ Below w.heap.size w wr) (fun _ i _ => n - (intOf i).toNat)
  case atStart => exact ⟨0, by omega, rfl, by rw [offP_zero]; simp, Below.refl _ _⟩
  case round =>
    obtain ⟨j, hj, rfl, rfl, hb⟩ := hrel
    have hle := offP_le l j
    obtain ⟨X, hX⟩ : ∃ X : Int, k + (offP l j : Int) = X := ⟨_, rfl⟩
    have hX0 : 0 ≤ X := by omega
    have hX1 : X ≤ 20000000 := by omega
    have HX := Lib.hid hX
    clear hle
    by_cases hlt : j < n
    · obtain ⟨x, hx⟩ := get_of (l := lv) (i := j) (by rw [HL.out]; exact hlt)
      obtain ⟨y, hy⟩ := get_of (l := l) (i := j) (by rw [HN.out]; exact hlt)
      have hm := marksP_at (k := k) hy
      rw [← HV.out, List.getElem?_map, hx, hX] at hm
      have hxm : x.1 = mkP X y.da.length := by simpa using hm
      obtain ⟨b, o, rfl, hb1, hc1⟩ := H1.out j x hx
      obtain ⟨g0, g1, g2, g3, g4, g5, g6, g7⟩ := pv_at hc1
      rw [← below_cells hb hb1] at g0 g1 g2 g3 g4 g5 g6 g7
      have R1 := (E1.out x (mem_of hx)).below hb
      rw [hxm] at g0 g1 g2 g3 g4 g5 g6 R1
      unfold mkP at g0 g1 g2 g3 g4 g5 g6 R1
      dsimp only at g0 g1 g2 g3 g4 g5 g6 R1
      have HR1 := Lib.hid R1
      obtain ⟨ax, cx, hax, -⟩ := R1
      rw [hax] at g7 HR1
      have hyn := lenP_mem (List.mem_of_getElem? hy)
      have Hs := Lib.hid (offP_step hy)
      obtain ⟨q, hq⟩ : ∃ q, y.da.length = q := ⟨_, rfl⟩
      rw [hq] at g7 HR1 hyn Hs
      have hq1 : q ≤ 2000000 := by omega
      rw [marks_length] at g7 HR1
      have Hb := Lib.hid hb
      have e0 : (X != X) = false := by simp
      have e1 : (X + 1 != X + 1) = false := by simp
      have e3 : (X + 1 + 1 + 1 != X + 1 + 1 + 1) = false := by simp
      have e4 : (X + 1 + 1 + 1 + 1 != X + 1 + 1 + 1 + 1) = false := by simp
      have e5 : (X + 1 + 1 + 1 + 1 + 1 != X + 1 + 1 + 1 + 1 + 1) = false := by simp
      rw [hX]
      clear hc1 hx hy hm hxm hq hax hX hyn hb
      go_wp2_with fail
      refine (held_same _ (X + 1 + 1 + 1 + 1 + 1 + 1 + 1) q (by omega) (by omega) hq1 _ HR1.out).mono ?_
      rintro e w1 ⟨rfl, hb2⟩
      have Hb2 := Lib.hid (Hb.out.trans (hb2.mono Hb.out.size))
      have hp : ¬ (X + 1 + 1 + 1 + 1 + 1 + 1 + 1 + (q : Int) < 0) := by omega
      clear hb2 g0 g1 g2 g3 g4 g5 g6 g7
      go_wp2_with fail
      go_roundw
      case rel => exact ⟨j + 1, by omega, by go_num, by have := HX.out; have := Hs.out; congr 1; omega, Hb2.out⟩
      case measure => simp [intOf]; omega
    · obtain rfl : j = n := by omega
      clear hX
      go_wp2
      go_ret
      exact ⟨rfl, hb⟩
/-- a row of posts of the call's own, all of it in blocks from B up to C. -/
def OwnPC (B C : Nat) (v : Value) (l : List PC) (w : World) : Prop :=
  ∃ lv : List (PC × Value), lv.map (·.1) = l ∧ Own pvK 92 B v lv w ∧ ElO B lv w ∧ Ap lv ∧ (∀ b, v.ownBlock = some b → b < C) ∧ ∀ x ∈ lv, ∀ b, x.2.ownBlock = some b → b < C
theorem OwnP.cap {B : Nat} {v : Value} {l : List PC} {w : World} (h : OwnP B v l w) : OwnPC B w.heap.size v l w := by
  obtain ⟨lv, e, h1, h2, h3⟩ := h
  exact ⟨lv, e, h1, h2, h3, fun b hb => (World.ownsRow.lt h1 b hb).2, fun x hx b hb => (World.ownsRow.lt (h2 x hx) b hb).2⟩
theorem OwnPC.own {B C : Nat} {v : Value} {l : List PC} {w : World} (h : OwnPC B C v l w) : OwnP B v l w := by
  obtain ⟨lv, e, h1, h2, h3, _⟩ := h; exact ⟨lv, e, h1, h2, h3⟩
theorem OwnPC.later {B C : Nat} {v : Value} {l : List PC} {w w' : World} (h : OwnPC B C v l w) (hb : Below w.heap.size w w') : OwnPC B C v l w' := by
  obtain ⟨lv, e, h1, h2, h3, h4⟩ := h; exact ⟨lv, e, h1.later hb, h2.later hb, h3, h4⟩
theorem Ap.of_map {lv mv : List (PC × Value)} (h : Ap lv) (e : mv.map (·.2) = lv.map (·.2)) : Ap mv := by
  have h1 : (lv.map (·.2)).Pairwise fun u u' => ∀ k, u.ownBlock = some k → u'.ownBlock ≠ some k := List.pairwise_map.2 h
  rw [← e] at h1
  exact List.pairwise_map.1 h1
theorem mem_map2 {lv mv : List (PC × Value)} (e : mv.map (·.2) = lv.map (·.2)) {x : PC × Value} (hx : x ∈ mv) : ∃ y ∈ lv, y.2 = x.2 := by
  have h1 : x.2 ∈ mv.map (·.2) := List.mem_map_of_mem hx
  rw [e] at h1
  obtain ⟨y, hy, e⟩ := List.mem_map.1 h1
  exact ⟨y, hy, e⟩
theorem mid_at {dn lv : List (PC × Value)} {j : Nat} {x : PC × Value} (hd : dn.length = j) (hx : lv[j]? = some x) : (dn ++ lv.drop j)[j]? = some x := by
  rw [List.getElem?_append_right (by omega), hd, Nat.sub_self, List.getElem?_drop]; simpa using hx
theorem mid_cons {lv : List (PC × Value)} {j : Nat} {x : PC × Value} (hx : lv[j]? = some x) : lv.drop j = x :: lv.drop (j + 1) := by
  obtain ⟨h, rfl⟩ := List.getElem?_eq_some_iff.1 hx
  exact List.drop_eq_getElem_cons h
theorem mid_put {dn lv : List (PC × Value)} {j : Nat} {x : PC × Value} (hd : dn.length = j) (hx : lv[j]? = some x) (y : PC × Value) : (dn ++ lv.drop j).set j y = (dn ++ [y]) ++ lv.drop (j + 1) := by
  rw [mid_cons hx, List.set_append_right (s := dn) (t := x :: lv.drop (j + 1)) j y (by omega), hd, Nat.sub_self, List.append_assoc]; rfl
theorem ElO.apart {B C : Nat} {lv mv : List (PC × Value)} {w : World} {g n cap : Nat} (h : ElO B lv w) (ho : Own pvK 92 C (.slice (some ⟨g, 0, none⟩) n cap) mv w) (p : Nat) (us : List Value) : ElO B lv (setsW w g p us) := fun x hx =>
  own_apart_sets us p (h x hx) (fun e => apart_T (h x hx) ho g e rfl)
/-- the round's end: the marks stand in one more element. -/
theorem ElO.mark {B : Nat} {dn lv : List (PC × Value)} {j : Nat} {x : PC × Value} {w w' : World} (h : ElO B (dn ++ lv.drop j) w) (hx : lv[j]? = some x) (ha : Ap (dn ++ lv.drop j)) (p : PC) (hp : OwnI B x.2 p.da w') (hg : w.grownBy w' x.2.ownBlock) :
    ElO B ((dn ++ [(p, x.2)]) ++ lv.drop (j + 1)) w' := by
  rw [mid_cons hx] at h ha
  unfold Ap at ha
  rw [List.pairwise_append, List.pairwise_cons] at ha
  intro y hy
  rw [List.append_assoc] at hy
  rcases List.mem_append.1 hy with h1 | h1
  · exact (h y (List.mem_append.2 (.inl h1))).far hg (fun k hk e => ha.2.2 y h1 x (List.mem_cons_self ..) k hk e.symm)
  · rcases List.mem_append.1 h1 with h2 | h2
    · obtain rfl : y = (p, x.2) := by simpa using h2
      exact hp
    · exact (h y (List.mem_append.2 (.inr (List.mem_cons_of_mem _ h2)))).far hg (fun k hk e => ha.2.1.1 y h2 k e.symm hk)
theorem take_mark {k : Int} {l : List PC} {j : Nat} {y : PC} {dn : List (PC × Value)} {u : Value} {X : Int} (hd : dn.map (·.1) = (marksP k l).take j) (hy : l[j]? = some y) (hX : k + (offP l j : Int) = X) : (dn ++ [(mkP X y.da.length, u)]).map (·.1) = (marksP k l).take (j + 1) := by
  have h := marksP_at (k := k) hy
  obtain ⟨h1, e⟩ := List.getElem?_eq_some_iff.1 h
  rw [List.map_append, hd, List.take_succ_eq_append_getElem h1, e, hX]
  rfl
set_option maxRecDepth 100000 in
set_option maxHeartbeats 2000000 in
theorem markPostS_any (B C : Nat) (v : Value) (l : List PC) (k : Int) (hk0 : 0 ≤ k) (hk1 : k ≤ 2000000) (hl : l.length ≤ 2000000) (hd : lenP l ≤ 2000000) (w : World) (hv : OwnPC B C v l w) :
    Calls Try.prog 36 #[v, .int .i64 k] w fun e w' => e = .returned (.int .i64 (k + (offP l l.length : Int))) ∧ OwnPC B C v (marksP k l) w' ∧ Mid B C w w' := by
  obtain ⟨lv, hlv, ho, he, ha, hc, hcx⟩ := hv
  have ho' := ho
  rcases ho'.2 with ⟨rfl, h0⟩ | ⟨g, cap, cur, rfl, _⟩
  · obtain rfl : lv = [] := List.length_eq_zero_iff.1 h0
    obtain rfl : l = [] := by simpa using hlv.symm
    have Hv := Lib.hid (show OwnPC B C (.slice none 0 0) (marksP k []) w from ⟨[], rfl, ho, he, ha, hc, hcx⟩)
    clear ho ho' h0 he ha hc hcx hlv
    go_enter Try.func36, Try.ntmps36
    go_wp2
    go_loop [1, 5] (fun q i => q = .int .i64 k ∧ i = .int .i64 0) (fun _ _ => 0)
    case atStart => exact ⟨rfl, rfl⟩
    case round =>
      obtain ⟨rfl, rfl⟩ := hrel
      go_wp2
      go_ret
      exact ⟨by simp [offP, lenP], Hv.out, Mid.refl _ _ _⟩
  · clear ho'
    obtain ⟨n, hln⟩ : ∃ n, lv.length = n := ⟨_, rfl⟩
    have hll : l.length = n := by rw [← hlv, List.length_map, hln]
    rw [hll] at hl ⊢
    rw [hln]
    rw [hln] at ho hc
    have hgC := hc g rfl
    have hgB := (World.ownsRow.lt ho g rfl).1
    have HO := Lib.hid ho
    have HE := Lib.hid he
    have HA := Lib.hid ha
    have HCX := Lib.hid hcx
    have HC := Lib.hid hc
    have HV := Lib.hid hlv
    have HL := Lib.hid hln
    have HN := Lib.hid hll
    clear ho he ha hc hcx hlv hln hll
    go_enter Try.func36, Try.ntmps36
    go_wp2
    go_loopw [1, 5] (fun q i wr => ∃ (j : Nat) (dn : List (PC × Value)), j ≤ n ∧ i = .int .i64 j ∧ q = .int .i64 (k + (offP l j : Int)) ∧ dn.length = j ∧ dn.map (·.1) = (marksP k l).take j ∧ (dn ++ lv.drop j).map (·.2) = lv.map (·.2) ∧
      Own pvK 92 B (.slice (some ⟨g, 0, none⟩) n cap) (dn ++ lv.drop j) wr ∧ ElO B (dn ++ lv.drop j) wr ∧ Mid B C w wr) (fun _ i _ => n - (intOf i).toNat)
    case atStart => exact ⟨0, [], by omega, rfl, by rw [offP_zero]; simp, rfl, rfl, by simp, by simpa using HO.out, by simpa using HE.out, Mid.refl _ _ _⟩
    case round =>
      obtain ⟨j, dn, hj, rfl, rfl, hdl, hdm, hds, hown, hel, hmid⟩ := hrel
      have hle := offP_le l j
      obtain ⟨X, hX⟩ : ∃ X : Int, k + (offP l j : Int) = X := ⟨_, rfl⟩
      have hX0 : 0 ≤ X := by omega
      have hX1 : X ≤ 20000000 := by omega
      have HX := Lib.hid hX
      have HDL := Lib.hid hdl
      have HDM := Lib.hid hdm
      have HDS := Lib.hid hds
      have HOW := Lib.hid hown
      have HEL := Lib.hid hel
      have HMI := Lib.hid hmid
      clear hle hdl hdm hds hel hmid
      by_cases hlt : j < n
      · obtain ⟨x, hx⟩ := get_of (l := lv) (i := j) (by rw [HL.out]; exact hlt)
        obtain ⟨y, hy⟩ := get_of (l := l) (i := j) (by rw [HN.out]; exact hlt)
        have hxy : x.1 = y := by
          have h3 := hy
          rw [← HV.out, List.getElem?_map, hx] at h3
          simpa using h3
        have hmx := mid_at HDL.out hx
        obtain ⟨f0, f1, f2, f3, f4, f5, f6, f7⟩ := pv_at0 (hown.at_ j x hmx)
        have z0 := hown.frozen (j * 8)
        have z1 := hown.frozen (j * 8 + 1)
        have z2 := hown.frozen (j * 8 + 2)
        have z3 := hown.frozen (j * 8 + 3)
        have z4 := hown.frozen (j * 8 + 4)
        have z5 := hown.frozen (j * 8 + 5)
        have z6 := hown.frozen (j * 8 + 6)
        have z7 := hown.frozen (j * 8 + 7)
        obtain ⟨q, hq⟩ : ∃ q, y.da.length = q := ⟨_, rfl⟩
        have hyn := lenP_mem (List.mem_of_getElem? hy)
        rw [hq] at hyn
        have hq1 : q ≤ 2000000 := by omega
        have Hs := Lib.hid (offP_step hy)
        have O7 := own_set7 hown hmx (mkP X q)
        rw [mid_put HDL.out hx] at O7
        have E7 := HEL.out.apart hown (j * 8) (pvE7 (mkP X q))
        have hxo := E7 x (List.mem_of_getElem? hmx)
        have Hmem := Lib.hid (List.mem_of_getElem? hmx)
        have HO7 := Lib.hid O7.1
        have HG7 := Lib.hid O7.2
        have HE7 := Lib.hid E7
        have Hxo := Lib.hid hxo
        have Hq := Lib.hid hq
        have Hy := Lib.hid hy
        have Hx := Lib.hid hx
        have Hxy := Lib.hid hxy
        have HTM := Lib.hid (take_mark (u := x.2) HDM.out hy hX)
        obtain ⟨ax, cx, hax⟩ := hxo.slice
        rw [hxy, hq] at hax
        rw [hax] at f7
        have Hax := Lib.hid hax
        have HXX := Lib.hid hX
        rw [hX]
        clear hown hx hy hmx hq hyn O7 E7 hxo hax hX hxy
        go_wp2_with fail
        have hxl : x.1.da.length = q := by rw [Hxy.out]; exact Hq.out
        have hmk := mark_own B (.slice ax q cx) x.1.da (X + 1 + 1 + 1 + 1 + 1 + 1 + 1) (by omega) (by omega) (by rw [hxl]; exact hq1) _ (by rw [← Hax.out]; exact Hxo.out)
        rw [hxl] at hmk
        have Hxl := Lib.hid hxl
        clear hxl
        refine hmk.mono ?_
        rintro e w1 ⟨rfl, hom, hgm⟩
        rw [← Hax.out] at hom hgm
        have Ho8 := Lib.hid (HO7.out.far hgm (fun b hb e => apart_T Hxo.out HO7.out b e.symm hb))
        have He8 := Lib.hid (HE7.out.mark Hx.out (HA.out.of_map HDS.out) (mkP X q) hom hgm)
        have Hm8 := Lib.hid (HMI.out.trans ((Mid.grown HG7.out (fun b hb => (Option.some.inj hb) ▸ ⟨hgB, hgC⟩)).trans (Mid.grown hgm (fun b hb => ⟨(World.ownsRow.lt Hxo.out b hb).1, HCX.out x (mem_of Hx.out) b hb⟩))))
        clear hom hgm hmk f0 f1 f2 f3 f4 f5 f6 f7 z0 z1 z2 z3 z4 z5 z6 z7
        go_wp2_with fail
        go_roundw
        case rel =>
          refine ⟨j + 1, dn ++ [(mkP X q, x.2)], by omega, by go_num, by have := HX.out; have := Hs.out; have := Hq.out; congr 1; omega, by rw [List.length_append, HDL.out]; rfl, by have h := HTM.out; rwa [Hq.out] at h, ?_, Ho8.out, He8.out, Hm8.out⟩
          have h := HDS.out
          rw [mid_cons Hx.out] at h
          simpa using h
        case measure => simp [intOf]; omega
      · obtain rfl : j = n := by omega
        rw [hX]
        clear hown hX
        go_wp2
        go_ret
        have e0 : lv.drop j = [] := List.drop_of_length_le (by rw [HL.out]; omega)
        have h1 := HOW.out
        have h2 := HEL.out
        have h3 := HDS.out
        have h4 := HDM.out
        rw [e0, List.append_nil] at h1 h2 h3
        rw [List.take_of_length_le (by rw [marksP_length, HN.out]; omega)] at h4
        exact ⟨by rw [HX.out]; rfl, ⟨dn, h4, h1, h2, HA.out.of_map h3, HC.out, fun x hx b hb => by obtain ⟨y, hy, e⟩ := mem_map2 h3 hx; exact HCX.out y hy b (by rw [e]; exact hb)⟩, HMI.out⟩
end Go.Proofs.Ytijilhaoknpeeaa.Num
