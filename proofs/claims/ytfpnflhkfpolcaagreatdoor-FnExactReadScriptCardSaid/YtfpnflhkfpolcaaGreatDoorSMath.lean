
/-
  The text of a script; what can be read of it in one way only.
-/
import Derived.Test.YtfpnflhkfpolcaaGreatDoorCut
import Derived.Test.YtfpnflhkfpolcaaGreatDoorDec18
import Derived.Test.YtfpnflhkfpolcaaGreatDoorRead7
namespace Go.Proofs.YtfpnflhkfpolcaaGreatDoor.Num
open Go.RowKit Rows3

abbrev RqX := Bool × Int × Int × Int × Bool × List Int
abbrev PoX := Int × Int × RqX
abbrev ScX := List PoX × List Int × List Int
def rOk (r : RqX) : Prop := okR r.1 r.2.1 r.2.2.1 r.2.2.2.1 r.2.2.2.2.2 = true
def rB (r : RqX) : ByteArray := txtB r.1 r.2.1 r.2.2.1 r.2.2.2.1 r.2.2.2.2.1 r.2.2.2.2.2
def rT (r : RqX) : List UInt8 := (rB r).data.toList
def pOk (p : PoX) : Prop := In18 p.1 ∧ In18 p.2.1 ∧ rOk p.2.2
def sOk (x : ScX) : Prop := (∀ p ∈ x.1, pOk p) ∧ (∀ n ∈ x.2.1, In18 n) ∧ ∀ n ∈ x.2.2, In18 n
/-- numbers, a blank ahead of each. -/
def nT (l : List Int) : List UInt8 := l.flatMap (fun n => 32 :: Lib.itoa n)
def waitsL : List UInt8 := [119, 97, 105, 116, 115]
def saysL : List UInt8 := [115, 97, 121, 115]
def postL : List UInt8 := [112, 111, 115, 116]
/-- a post's line. -/
def pL (p : PoX) : List UInt8 := postL ++ 32 :: (Lib.itoa p.1 ++ 32 :: (Lib.itoa p.2.1 ++ 32 :: rT p.2.2))
/-- the lines of a script. -/
def lnL (nm : List UInt8) (l : List Int) : List (List UInt8) := if l = [] then [] else [nm ++ nT l]
def lns (x : ScX) : List (List UInt8) := lnL waitsL x.2.1 ++ lnL saysL x.2.2 ++ x.1.map pL
def sT (x : ScX) : List UInt8 := (lns x).flatMap (· ++ [10])
/-- what ReadScript says of a text. -/
def RS (s : List UInt8) (x : ScX) (b : Bool) : Prop := (b = true ∧ sOk x ∧ sT x = s) ∨ (b = false ∧ x = ([], [], []) ∧ ∀ y, sOk y → sT y ≠ s)

/-- a first part of which every sign has p, the next one not. -/
theorem span_inj {α : Type} (p : α → Prop) : ∀ (a b t u : List α), (∀ x ∈ a, p x) → (∀ x ∈ b, p x) → (∀ x, t.head? = some x → ¬ p x) → (∀ x, u.head? = some x → ¬ p x) → a ++ t = b ++ u → a = b ∧ t = u
  | [], [], t, u, _, _, _, _, h => ⟨rfl, h⟩
  | [], y :: b, t, u, _, hb, ht, _, h => by
    exact absurd (hb y (by simp)) (ht y (by rw [show t = y :: (b ++ u) from h]; rfl))
  | x :: a, [], t, u, ha, _, _, hu, h => by
    exact absurd (ha x (by simp)) (hu x (by rw [show u = x :: (a ++ t) from h.symm]; rfl))
  | x :: a, y :: b, t, u, ha, hb, ht, hu, h => by
    have h' : x :: (a ++ t) = y :: (b ++ u) := h
    obtain ⟨rfl, h2⟩ := List.cons.inj h'
    obtain ⟨rfl, h3⟩ := span_inj p a b t u (fun z hz => ha z (by simp [hz])) (fun z hz => hb z (by simp [hz])) ht hu h2
    exact ⟨rfl, h3⟩
/-- a sign of a numeral. -/
def DigS (c : UInt8) : Prop := c = 45 ∨ (48 ≤ c.toNat ∧ c.toNat ≤ 57)
theorem itoa_digS (m : Int) : ∀ c ∈ Lib.itoa m, DigS c := by
  intro c hc
  rcases itoa_cases m with ⟨_, e⟩ | ⟨_, e⟩ <;> rw [e] at hc
  · exact .inr ((decDigits_facts _).2.2.2.2.2.1 c hc)
  · rcases List.mem_cons.1 hc with rfl | hc
    · exact .inl rfl
    · exact .inr ((decDigits_facts _).2.2.2.2.2.1 c hc)
theorem itoa_ne (m : Int) : Lib.itoa m ≠ [] := by
  rcases itoa_cases m with ⟨_, e⟩ | ⟨_, e⟩ <;> rw [e]
  · intro h
    have := (decDigits_facts m.toNat).2.2.2.1
    rw [h] at this; simp at this
  · simp
theorem not_dig32 : ¬ DigS 32 := by unfold DigS; decide
theorem not_dig10 : ¬ DigS 10 := by unfold DigS; decide
theorem itoa_no (m : Int) {c : UInt8} (h : ¬ DigS c) : c ∉ Lib.itoa m := fun hm => h (itoa_digS m c hm)
theorem itoa_span {m n : Int} {t u : List UInt8} (ht : ∀ x, t.head? = some x → ¬ DigS x) (hu : ∀ x, u.head? = some x → ¬ DigS x) (h : Lib.itoa m ++ t = Lib.itoa n ++ u) : m = n ∧ t = u := by
  obtain ⟨h1, h2⟩ := span_inj DigS _ _ _ _ (itoa_digS m) (itoa_digS n) ht hu h
  exact ⟨itoa_inj h1, h2⟩
theorem head32 (l : List UInt8) : ∀ x, (32 :: l).head? = some x → ¬ DigS x := by intro x h; simp at h; subst h; exact not_dig32
theorem head10 (l : List UInt8) : ∀ x, (10 :: l).head? = some x → ¬ DigS x := by intro x h; simp at h; subst h; exact not_dig10
theorem headN (l : List Int) (r : List UInt8) : ∀ x, (nT l ++ 10 :: r).head? = some x → ¬ DigS x := by
  cases l with
  | nil => exact head10 r
  | cons n l => exact head32 _
theorem headN' (l : List Int) : ∀ x, (nT l).head? = some x → ¬ DigS x := by
  cases l with
  | nil => intro x h; simp [nT] at h
  | cons n l => exact head32 _
theorem nT_cons (n : Int) (l : List Int) : nT (n :: l) = 32 :: (Lib.itoa n ++ nT l) := rfl
theorem nT_inj : ∀ (l l' : List Int), nT l = nT l' → l = l'
  | [], [], _ => rfl
  | [], n :: l', h => by rw [nT_cons] at h; simp [nT] at h
  | n :: l, [], h => by rw [nT_cons] at h; simp [nT] at h
  | n :: l, n' :: l', h => by
    rw [nT_cons, nT_cons] at h
    obtain ⟨rfl, h2⟩ := itoa_span (headN' l) (headN' l') (List.cons.inj h).2
    rw [nT_inj l l' h2]
theorem nT_no10 (l : List Int) : 10 ∉ nT l := by
  intro h
  obtain ⟨n, _, hn⟩ := List.mem_flatMap.1 h
  rcases List.mem_cons.1 hn with h1 | h1
  · exact absurd h1 (by decide)
  · exact itoa_no n not_dig10 h1
theorem words_no10 {q : Bool} {x y z : Int} {lk : Bool} {l : List Int} : ∀ p ∈ wordsL q x y z lk l, 10 ∉ p.data.toList := by
  intro p hp
  unfold wordsL at hp
  simp only [List.mem_append, List.mem_cons, List.not_mem_nil, or_false, List.mem_map] at hp
  rcases hp with ((rfl | rfl | rfl | rfl) | hp) | ⟨d, hm, rfl⟩
  · cases q <;> decide
  · unfold szWd; (repeat' split) <;> decide
  · unfold buWd; (repeat' split) <;> decide
  · show 10 ∉ (Lib.itoa x).toArray.toList
    simpa using itoa_no x not_dig10
  · cases lk
    · simp at hp
    · simp at hp; subst hp; decide
  · show 10 ∉ (Lib.itoa d).toArray.toList
    simpa using itoa_no d not_dig10
theorem rT_words {r : RqX} (h : rOk r) : rT r = Lib.join ((wordsL r.1 r.2.1 r.2.2.1 r.2.2.2.1 r.2.2.2.2.1 r.2.2.2.2.2).map (·.data.toList)) [32] := by
  unfold rOk at h
  unfold rT rB txtB
  rw [if_pos h]
  rw [← words_join]
theorem join_no {c : UInt8} (hc : c ≠ 32) : ∀ (r : List (List UInt8)), (∀ p ∈ r, c ∉ p) → c ∉ Lib.join r [32]
  | [], _ => by simp [Lib.join_nil]
  | x :: r, h => by
    rw [Lib.join_cons]
    intro hm
    rcases List.mem_append.1 hm with h1 | h1
    · exact h x (by simp) h1
    · unfold Lib.joinTail at h1
      obtain ⟨p, hp, h2⟩ := List.mem_flatten.1 h1
      obtain ⟨y, hy, rfl⟩ := List.mem_map.1 hp
      rcases List.mem_append.1 h2 with h3 | h3
      · simp at h3; exact hc h3
      · exact h y (by simp [hy]) h3
theorem rT_no10 {r : RqX} (h : rOk r) : 10 ∉ rT r := by
  rw [rT_words h]
  refine join_no (by decide) _ fun p hp => ?_
  obtain ⟨y, hy, rfl⟩ := List.mem_map.1 hp
  exact words_no10 y hy
theorem rT_inj {r r' : RqX} (h : rOk r) (h' : rOk r') (e : rT r = rT r') : r = r' := by
  obtain ⟨q, x, y, z, k, l⟩ := r
  obtain ⟨q', x', y', z', k', l'⟩ := r'
  have e1 : rB (q, x, y, z, k, l) = rB (q', x', y', z', k', l') := ba_inj e
  obtain ⟨rfl, rfl, rfl, rfl, rfl, rfl, _⟩ := RQ.uniq (s := rB (q, x, y, z, k, l)) (.inl ⟨rfl, h, rfl⟩) (.inl ⟨rfl, h', e1.symm⟩)
  rfl
theorem pL_no10 {p : PoX} (h : pOk p) : 10 ∉ pL p := by
  have h1 := itoa_no p.1 not_dig10
  have h2 := itoa_no p.2.1 not_dig10
  have h3 := rT_no10 h.2.2
  unfold pL postL
  simp [h1, h2, h3]
theorem pL_inj {p p' : PoX} (h : pOk p) (h' : pOk p') (e : pL p = pL p') : p = p' := by
  obtain ⟨a, b, r⟩ := p
  obtain ⟨a', b', r'⟩ := p'
  unfold pL at e
  have e1 := (List.cons.inj (List.append_cancel_left e)).2
  obtain ⟨rfl, e2⟩ := itoa_span (head32 _) (head32 _) e1
  obtain ⟨rfl, e3⟩ := itoa_span (head32 _) (head32 _) (List.cons.inj e2).2
  obtain rfl : r = r' := rT_inj h.2.2 h'.2.2 (List.cons.inj e3).2
  rfl
theorem lnL_inj {nm : List UInt8} {l l' : List Int} (h : lnL nm l = lnL nm l') : l = l' := by
  unfold lnL at h
  split at h
  · split at h
    · simp_all
    · simp at h
  · split at h
    · simp at h
    · exact nT_inj _ _ (List.append_cancel_left (List.cons.inj h).1)
theorem map_pL_inj : ∀ (l l' : List PoX), (∀ p ∈ l, pOk p) → (∀ p ∈ l', pOk p) → l.map pL = l'.map pL → l = l'
  | [], [], _, _, _ => rfl
  | [], p :: l', _, _, h => by simp at h
  | p :: l, [], _, _, h => by simp at h
  | p :: l, p' :: l', h1, h2, h => by
    simp only [List.map_cons, List.cons.injEq] at h
    rw [pL_inj (h1 p (by simp)) (h2 p' (by simp)) h.1, map_pL_inj l l' (fun q hq => h1 q (by simp [hq])) (fun q hq => h2 q (by simp [hq])) h.2]
def hd (c : UInt8) (l : List UInt8) : Bool := l.head? == some c
theorem lnL_hd (nm : List UInt8) (c : UInt8) (h : nm.head? = some c) (l : List Int) : ∀ x ∈ lnL nm l, hd c x = true := by
  intro x hx
  unfold lnL at hx
  split at hx
  · simp at hx
  · simp at hx
    subst hx
    cases nm with
    | nil => simp at h
    | cons y nm => simp at h; subst h; simp [hd]
theorem pL_hd (l : List PoX) : ∀ x ∈ l.map pL, hd 112 x = true := by
  intro x hx
  obtain ⟨p, _, rfl⟩ := List.mem_map.1 hx
  rfl
theorem hd_ne {c d : UInt8} {x : List UInt8} (h : hd c x = true) (hcd : c ≠ d) : hd d x = false := by
  unfold hd at h ⊢
  rw [beq_iff_eq] at h
  rw [h, beq_eq_false_iff_ne]
  intro e
  exact hcd (Option.some.inj e)
theorem filter_all {l : List (List UInt8)} {c : UInt8} (h : ∀ x ∈ l, hd c x = true) : l.filter (hd c) = l := List.filter_eq_self.2 h
theorem filter_no {l : List (List UInt8)} {c d : UInt8} (h : ∀ x ∈ l, hd c x = true) (hcd : c ≠ d) : l.filter (hd d) = [] :=
  List.filter_eq_nil_iff.2 fun x hx e => by rw [hd_ne (h x hx) hcd] at e; exact absurd e (by simp)
theorem lns_inj {x y : ScX} (hx : sOk x) (hy : sOk y) (h : lns x = lns y) : x = y := by
  have W := fun l => lnL_hd waitsL 119 rfl l
  have S := fun l => lnL_hd saysL 115 rfl l
  have h1 := congrArg (List.filter (hd 119)) h
  have h2 := congrArg (List.filter (hd 115)) h
  have h3 := congrArg (List.filter (hd 112)) h
  unfold lns at h1 h2 h3
  simp only [List.filter_append] at h1 h2 h3
  rw [filter_all (W _), filter_no (S _) (by decide), filter_no (pL_hd _) (by decide), filter_all (W _), filter_no (S _) (by decide), filter_no (pL_hd _) (by decide)] at h1
  rw [filter_no (W _) (by decide), filter_all (S _), filter_no (pL_hd _) (by decide), filter_no (W _) (by decide), filter_all (S _), filter_no (pL_hd _) (by decide)] at h2
  rw [filter_no (W _) (by decide), filter_no (S _) (by decide), filter_all (pL_hd _), filter_no (W _) (by decide), filter_no (S _) (by decide), filter_all (pL_hd _)] at h3
  simp only [List.append_nil, List.nil_append] at h1 h2 h3
  obtain ⟨a, b, c⟩ := x
  obtain ⟨a', b', c'⟩ := y
  obtain rfl : a = a' := map_pL_inj _ _ hx.1 hy.1 h3
  obtain rfl : b = b' := lnL_inj h1
  obtain rfl : c = c' := lnL_inj h2
  rfl
theorem flat10_inj : ∀ (A B : List (List UInt8)), (∀ p ∈ A, 10 ∉ p) → (∀ p ∈ B, 10 ∉ p) → A.flatMap (· ++ [10]) = B.flatMap (· ++ [10]) → A = B
  | [], [], _, _, _ => rfl
  | [], b :: B, _, _, h => by simp at h
  | a :: A, [], _, _, h => by simp at h
  | a :: A, b :: B, h1, h2, h => by
    simp only [List.flatMap_cons, List.append_assoc, List.singleton_append] at h
    have hh : ∀ (r : List UInt8) (x : UInt8), (10 :: r).head? = some x → ¬ x ≠ 10 := by intro r x hx; simp at hx; simp [hx]
    obtain ⟨rfl, h4⟩ := span_inj (· ≠ 10) a b _ _ (fun x hx e => h1 a (by simp) (e ▸ hx)) (fun x hx e => h2 b (by simp) (e ▸ hx)) (hh _) (hh _) h
    rw [flat10_inj A B (fun p hp => h1 p (by simp [hp])) (fun p hp => h2 p (by simp [hp])) (List.cons.inj h4).2]
theorem lnL_no10 {nm : List UInt8} (h : 10 ∉ nm) (l : List Int) : ∀ p ∈ lnL nm l, 10 ∉ p := by
  intro p hp
  unfold lnL at hp
  split at hp
  · simp at hp
  · simp at hp
    subst hp
    intro hm
    rcases List.mem_append.1 hm with h1 | h1
    · exact h h1
    · exact nT_no10 l h1
theorem lns_no10 {x : ScX} (h : sOk x) : ∀ p ∈ lns x, 10 ∉ p := by
  intro p hp
  unfold lns at hp
  rcases List.mem_append.1 hp with hp | hp
  · rcases List.mem_append.1 hp with hp | hp
    · exact lnL_no10 (by decide) _ p hp
    · exact lnL_no10 (by decide) _ p hp
  · obtain ⟨q, hq, rfl⟩ := List.mem_map.1 hp
    exact pL_no10 (h.1 q hq)
theorem sT_inj {x y : ScX} (hx : sOk x) (hy : sOk y) (h : sT x = sT y) : x = y :=
  lns_inj hx hy (flat10_inj _ _ (lns_no10 hx) (lns_no10 hy) h)
theorem RS.uniq {s : List UInt8} {x x' : ScX} {b b' : Bool} (h : RS s x b) (h' : RS s x' b') : x = x' ∧ b = b' := by
  rcases h with ⟨rfl, h1, h2⟩ | ⟨rfl, rfl, h2⟩ <;> rcases h' with ⟨rfl, g1, g2⟩ | ⟨rfl, rfl, g2⟩
  · exact ⟨sT_inj h1 g1 (h2.trans g2.symm), rfl⟩
  · exact absurd h2 (g2 _ h1)
  · exact absurd g2 (h2 _ g1)
  · exact ⟨rfl, rfl⟩
end Go.Proofs.YtfpnflhkfpolcaaGreatDoor.Num
namespace Go.Proofs.YtfpnflhkfpolcaaGreatDoor.Num
open Go.RowKit Rows3

def N18s (ws : List ByteArray) (ns : List Int) : Prop := ns.length = ws.length ∧ ∀ i, i < ns.length → N18 (ws.getD i ByteArray.empty) (ns.getD i 0)
def RQx (s : ByteArray) (r : RqX) (b : Bool) : Prop := RQ s r.1 r.2.1 r.2.2.1 r.2.2.2.1 r.2.2.2.2.1 r.2.2.2.2.2 b
def restB (s : ByteArray) (w : List ByteArray) : ByteArray := s.extract (min s.size ((w.getD 0 ByteArray.empty).size + (w.getD 1 ByteArray.empty).size + (w.getD 2 ByteArray.empty).size + 3)) s.size
/-- what one line makes of what was read before. -/
def PLn (s : ByteArray) (w : List ByteArray) (x z : ScX) : Prop :=
  (w.getD 0 ByteArray.empty = ⟨#[119, 97, 105, 116, 115]⟩ ∧ ∃ ns, N18s w.tail ns ∧ z = (x.1, ns, x.2.2)) ∨
  (w.getD 0 ByteArray.empty ≠ ⟨#[119, 97, 105, 116, 115]⟩ ∧ w.getD 0 ByteArray.empty = ⟨#[115, 97, 121, 115]⟩ ∧ ∃ ns, N18s w.tail ns ∧ z = (x.1, x.2.1, ns)) ∨
  (w.getD 0 ByteArray.empty ≠ ⟨#[119, 97, 105, 116, 115]⟩ ∧ w.getD 0 ByteArray.empty ≠ ⟨#[115, 97, 121, 115]⟩ ∧ 3 < w.length ∧ ∃ a b r bb, N18 (w.getD 1 ByteArray.empty) a ∧ N18 (w.getD 2 ByteArray.empty) b ∧ RQx (restB s w) r bb ∧ z = (x.1 ++ [(a, b, r)], x.2)) ∨
  (w.getD 0 ByteArray.empty ≠ ⟨#[119, 97, 105, 116, 115]⟩ ∧ w.getD 0 ByteArray.empty ≠ ⟨#[115, 97, 121, 115]⟩ ∧ w.length ≤ 3 ∧ z = x)
def PLs : List ByteArray → ScX → ScX → Prop
  | [], x, z => z = x
  | l :: ls, x, z => ∃ y, PLn l (Cut.cutWs 32 l) x y ∧ PLs ls y z
theorem PLs.app : ∀ (a b : List ByteArray) {x z : ScX}, PLs (a ++ b) x z ↔ ∃ y, PLs a x y ∧ PLs b y z
  | [], b, x, z => ⟨fun h => ⟨x, rfl, h⟩, fun ⟨y, h1, h2⟩ => by obtain rfl : y = x := h1; exact h2⟩
  | l :: a, b, x, z => ⟨fun ⟨y, h1, h2⟩ => by obtain ⟨u, h3, h4⟩ := (PLs.app a b).1 h2; exact ⟨u, ⟨y, h1, h3⟩, h4⟩, fun ⟨u, ⟨y, h1, h3⟩, h4⟩ => ⟨y, h1, (PLs.app a b).2 ⟨u, h3, h4⟩⟩⟩
theorem PLs.snoc {ls : List ByteArray} {l : ByteArray} {x y z : ScX} (h : PLs ls x y) (h2 : PLn l (Cut.cutWs 32 l) y z) : PLs (ls ++ [l]) x z := (PLs.app _ _).2 ⟨y, h, z, h2, rfl⟩
theorem N18s.all {ws : List ByteArray} {ns : List Int} (h : N18s ws ns) : ∀ n ∈ ns, In18 n := by
  intro n hn
  obtain ⟨i, hi, rfl⟩ := List.getElem_of_mem hn
  have := (h.2 i hi).1
  rwa [show ns.getD i 0 = ns[i] by simp [List.getD, hi]] at this
theorem RQx.ok {s : ByteArray} {r : RqX} {b : Bool} (h : RQx s r b) : rOk r := by
  obtain ⟨q, x, y, z, k, l⟩ := r
  rcases h with ⟨-, h, -⟩ | ⟨-, h1, h2, h3, h4, h5, h6, -⟩
  · exact h
  · dsimp only at h1 h2 h3 h4 h5 h6
    subst h1 h2 h3 h4 h5 h6
    show okR false 0 0 0 [] = true
    decide
theorem PLn.ok {s : ByteArray} {w : List ByteArray} {x z : ScX} (h : PLn s w x z) (hx : sOk x) : sOk z := by
  rcases h with ⟨-, ns, h, rfl⟩ | ⟨-, -, ns, h, rfl⟩ | ⟨-, -, -, a, b, r, bb, h1, h2, h3, rfl⟩ | ⟨-, -, -, rfl⟩
  · exact ⟨hx.1, h.all, hx.2.2⟩
  · exact ⟨hx.1, hx.2.1, h.all⟩
  · refine ⟨fun p hp => ?_, hx.2⟩
    rcases List.mem_append.1 hp with hp | hp
    · exact hx.1 p hp
    · simp at hp; subst hp; exact ⟨h1.1, h2.1, h3.ok⟩
  · exact hx
theorem PLs.ok : ∀ {ls : List ByteArray} {x z : ScX}, PLs ls x z → sOk x → sOk z
  | [], x, z, h, hx => by obtain rfl : z = x := h; exact hx
  | l :: ls, x, z, ⟨y, h1, h2⟩, hx => h2.ok (h1.ok hx)

def BA (l : List UInt8) : ByteArray := ⟨l.toArray⟩
theorem BA_data (l : List UInt8) : (BA l).data.toList = l := by simp [BA]
theorem BA_itB (n : Int) : BA (Lib.itoa n) = itB n := rfl
theorem data_BA (b : ByteArray) : BA b.data.toList = b := ba_inj (BA_data _)
theorem cutWs_eq {c : UInt8} {s : ByteArray} {r : List ByteArray} (h0 : r ≠ []) (h : Lib.join (r.map (·.data.toList)) [c] = s.data.toList) (hn : ∀ p ∈ r, c ∉ p.data.toList) : Cut.cutWs c s = r := by
  obtain ⟨h1, h2⟩ := Cut.cutWs_join c s
  have hl := (Cut.cutWs_len c s).1
  refine Cut.map_data_inj _ _ (Cut.join_inj c (fun e => ?_) (fun e => ?_) (fun p hp => ?_) (fun p hp => ?_) (h1.trans h.symm))
  · have := congrArg List.length e; simp at this; rw [this] at hl; simp at hl
  · simp at e; exact h0 e
  · obtain ⟨a, ha, rfl⟩ := List.mem_map.1 hp; exact h2 a ha
  · obtain ⟨a, ha, rfl⟩ := List.mem_map.1 hp; exact hn a ha
theorem joinTail_join {c : UInt8} : ∀ {r : List (List UInt8)}, r ≠ [] → Lib.joinTail [c] r = c :: Lib.join r [c]
  | [], h => absurd rfl h
  | x :: r, _ => by rw [Cut.joinTail_cons, Lib.join_cons]
theorem joinTail_nT : ∀ (l : List Int), Lib.joinTail [32] ((l.map itB).map (·.data.toList)) = nT l
  | [] => rfl
  | n :: l => by
    rw [List.map_cons, List.map_cons, Cut.joinTail_cons, joinTail_nT l, nT_cons]
    show 32 :: ((Lib.itoa n).toArray.toList ++ nT l) = _
    simp
theorem itB_no (n : Int) {c : UInt8} (h : ¬ DigS c) : c ∉ (itB n).data.toList := by
  show c ∉ (Lib.itoa n).toArray.toList
  simpa using itoa_no n h
theorem cut_names {nm : ByteArray} (hn : 32 ∉ nm.data.toList) (l : List Int) : Cut.cutWs 32 (BA (nm.data.toList ++ nT l)) = nm :: l.map itB := by
  refine cutWs_eq (by simp) ?_ fun p hp => ?_
  · rw [List.map_cons, Lib.join_cons, joinTail_nT, BA_data]
  · rcases List.mem_cons.1 hp with rfl | hp
    · exact hn
    · obtain ⟨n, _, rfl⟩ := List.mem_map.1 hp
      exact itB_no n not_dig32
theorem N18.itB {n m : Int} (h : N18 (itB n) m) (hn : In18 n) : m = n := h.2 n hn (by show _ = (Lib.itoa n).toArray.toList; simp)
theorem N18s.itB {l ns : List Int} (h : N18s (l.map itB) ns) (hl : ∀ n ∈ l, In18 n) : ns = l := by
  obtain ⟨h1, h2⟩ := h
  rw [List.length_map] at h1
  refine List.ext_getElem h1 fun i hi hj => ?_
  have h3 := h2 i hi
  rw [show (l.map Num.itB).getD i ByteArray.empty = Num.itB l[i] by simp [List.getD, hj], show ns.getD i 0 = ns[i] by simp [List.getD, hi]] at h3
  exact h3.itB (hl _ (List.getElem_mem hj))
theorem waits_line {l : List Int} (hl : ∀ n ∈ l, In18 n) {x z : ScX} (h0 : x.2.1 = []) (h : PLs ((lnL waitsL l).map BA) x z) : z = (x.1, l, x.2.2) := by
  unfold lnL at h
  split at h
  · obtain rfl : z = x := h
    subst_vars
    rw [← h0]
  · obtain ⟨y, h1, rfl⟩ := h
    rw [show waitsL = (⟨#[119, 97, 105, 116, 115]⟩ : ByteArray).data.toList from rfl, cut_names (by decide)] at h1
    rcases h1 with ⟨-, ns, h, rfl⟩ | ⟨h, -⟩ | ⟨h, -⟩ | ⟨h, -⟩
    · rw [N18s.itB h hl]
    · exact absurd rfl h
    · exact absurd rfl h
    · exact absurd rfl h
theorem says_line {l : List Int} (hl : ∀ n ∈ l, In18 n) {x z : ScX} (h0 : x.2.2 = []) (h : PLs ((lnL saysL l).map BA) x z) : z = (x.1, x.2.1, l) := by
  unfold lnL at h
  split at h
  · obtain rfl : z = x := h
    subst_vars
    rw [← h0]
  · obtain ⟨y, h1, rfl⟩ := h
    rw [show saysL = (⟨#[115, 97, 121, 115]⟩ : ByteArray).data.toList from rfl, cut_names (by decide)] at h1
    rcases h1 with ⟨h, -⟩ | ⟨-, -, ns, h, rfl⟩ | ⟨-, h, -⟩ | ⟨-, h, -⟩
    · exact absurd h (by show (⟨#[115, 97, 121, 115]⟩ : ByteArray) ≠ ⟨#[119, 97, 105, 116, 115]⟩; decide)
    · rw [N18s.itB h hl]
    · exact absurd rfl h
    · exact absurd rfl h
theorem rB_words {r : RqX} (_ : rOk r) : wordsL r.1 r.2.1 r.2.2.1 r.2.2.2.1 r.2.2.2.2.1 r.2.2.2.2.2 ≠ [] ∧ 4 ≤ (wordsL r.1 r.2.1 r.2.2.1 r.2.2.2.1 r.2.2.2.2.1 r.2.2.2.2.2).length := by
  have := wordsL_len r.1 r.2.1 r.2.2.1 r.2.2.2.1 r.2.2.2.2.1 r.2.2.2.2.2
  refine ⟨fun e => ?_, by omega⟩
  rw [e] at this; simp at this
theorem cut_post {p : PoX} (h : pOk p) : Cut.cutWs 32 (BA (pL p)) = (⟨#[112, 111, 115, 116]⟩ : ByteArray) :: itB p.1 :: itB p.2.1 :: wordsL p.2.2.1 p.2.2.2.1 p.2.2.2.2.1 p.2.2.2.2.2.1 p.2.2.2.2.2.2.1 p.2.2.2.2.2.2.2 := by
  have hw := rB_words h.2.2
  refine cutWs_eq (by simp) ?_ fun q hq => ?_
  · simp only [List.map_cons]
    rw [Lib.join_cons, Cut.joinTail_cons, Cut.joinTail_cons, joinTail_join (by simpa using hw.1), ← rT_words h.2.2, BA_data]
    unfold pL postL
    have e : ∀ n, (itB n).data.toList = Lib.itoa n := fun n => by show (Lib.itoa n).toArray.toList = _; simp
    rw [e, e]
  · simp only [List.mem_cons] at hq
    rcases hq with rfl | rfl | rfl | hq
    · decide
    · exact itB_no _ not_dig32
    · exact itB_no _ not_dig32
    · exact words_no32 h.2.2 q hq
theorem rest_post {p : PoX} (h : pOk p) : restB (BA (pL p)) (Cut.cutWs 32 (BA (pL p))) = rB p.2.2 := by
  rw [cut_post h]
  unfold restB
  have e : ∀ n, (itB n).size = (Lib.itoa n).length := fun n => by show (Lib.itoa n).toArray.size = _; simp
  have hs : (BA (pL p)).size = (pL p).length := by show (pL p).toArray.size = _; simp
  show (BA (pL p)).extract (min (BA (pL p)).size (4 + (itB p.1).size + (itB p.2.1).size + 3)) (BA (pL p)).size = _
  rw [e, e, hs]
  have hp : pL p = (postL ++ 32 :: (Lib.itoa p.1 ++ 32 :: (Lib.itoa p.2.1 ++ [32]))) ++ rT p.2.2 := by unfold pL; simp
  have hl : (pL p).length = (4 + (Lib.itoa p.1).length + (Lib.itoa p.2.1).length + 3) + (rT p.2.2).length := by rw [hp]; simp [postL]; omega
  rw [Nat.min_eq_right (by omega)]
  apply ba_inj
  show _ = rT p.2.2
  have h1 : (4 + (Lib.itoa p.1).length + (Lib.itoa p.2.1).length + 3) = (postL ++ 32 :: (Lib.itoa p.1 ++ 32 :: (Lib.itoa p.2.1 ++ [32]))).length := by simp [postL]; omega
  rw [ByteArray.data_extract, Array.toList_extract, BA_data, List.extract_eq_take_drop, hl]
  rw [h1, hp, List.drop_left, List.take_of_length_le (by omega)]
theorem post_lines : ∀ (ps : List PoX), (∀ p ∈ ps, pOk p) → ∀ {x z : ScX}, PLs ((ps.map pL).map BA) x z → z = (x.1 ++ ps, x.2)
  | [], _, x, z, h => by obtain rfl : z = x := h; simp
  | p :: ps, hp, x, z, h => by
    obtain ⟨y, h1, h2⟩ := h
    have h0 := hp p (by simp)
    have hr := rest_post h0
    have e2 := post_lines ps (fun q hq => hp q (by simp [hq])) h2
    unfold PLn at h1
    rw [hr, cut_post h0] at h1
    rcases h1 with ⟨h, -⟩ | ⟨-, h, -⟩ | ⟨-, -, -, a, b, r, bb, g1, g2, g3, rfl⟩ | ⟨-, -, h, -⟩
    · exact absurd h (by show (⟨#[112, 111, 115, 116]⟩ : ByteArray) ≠ ⟨#[119, 97, 105, 116, 115]⟩; decide)
    · exact absurd h (by show (⟨#[112, 111, 115, 116]⟩ : ByteArray) ≠ ⟨#[115, 97, 121, 115]⟩; decide)
    · obtain ⟨a', b', r'⟩ := p
      obtain rfl := N18.itB (n := a') g1 h0.1
      obtain rfl := N18.itB (n := b') g2 h0.2.1
      obtain ⟨q, x1, x2, x3, x4, x5⟩ := r
      obtain ⟨q', y1, y2, y3, y4, y5⟩ := r'
      obtain ⟨rfl, rfl, rfl, rfl, rfl, rfl, -⟩ := RQ.uniq (s := rB (q', y1, y2, y3, y4, y5)) g3 (.inl ⟨rfl, h0.2.2, rfl⟩)
      rw [e2]; simp
    · simp only [List.length_cons] at h
      have := (rB_words h0.2.2).2
      omega
theorem last_line {x z : ScX} (h : PLs [BA []] x z) : z = x := by
  obtain ⟨y, h1, rfl⟩ := h
  rw [show Cut.cutWs 32 (BA []) = [BA []] from rfl] at h1
  rcases h1 with ⟨h, -⟩ | ⟨-, h, -⟩ | ⟨-, -, h, -⟩ | ⟨-, -, -, h⟩
  · exact absurd h (by show BA [] ≠ _; decide)
  · exact absurd h (by show BA [] ≠ _; decide)
  · simp at h
  · exact h
theorem cut_lines {S : ByteArray} {y : ScX} (hy : sOk y) (h : sT y = S.data.toList) : Cut.cutWs 10 S = (lns y).map BA ++ [BA []] := by
  refine cutWs_eq (by simp) ?_ fun p hp => ?_
  · rw [List.map_append, List.map_map, List.map_cons, List.map_nil, Cut.join_snoc, ← h]
    have e : (fun x : ByteArray => x.data.toList) ∘ BA = id := by funext l; exact BA_data l
    rw [e, List.map_id, BA_data, List.append_nil]; rfl
  · rcases List.mem_append.1 hp with hp | hp
    · obtain ⟨l, hl, rfl⟩ := List.mem_map.1 hp
      rw [BA_data]; exact lns_no10 hy l hl
    · simp at hp; subst hp; rw [BA_data]; simp
theorem PLs.text {S : ByteArray} {y z : ScX} (hy : sOk y) (h : sT y = S.data.toList) (hp : PLs (Cut.cutWs 10 S) ([], [], []) z) : z = y := by
  rw [cut_lines hy h] at hp
  obtain ⟨a, h1, h2⟩ := (PLs.app _ _).1 hp
  obtain rfl := last_line h2
  unfold lns at h1
  rw [List.map_append, List.map_append] at h1
  obtain ⟨b, h3, h4⟩ := (PLs.app _ _).1 h1
  obtain ⟨c, h5, h6⟩ := (PLs.app _ _).1 h3
  obtain rfl := waits_line hy.2.1 rfl h5
  obtain rfl := says_line hy.2.2 rfl h6
  rw [post_lines _ hy.1 h4]; rfl
theorem ok_nil : sOk ([], [], []) := ⟨fun _ h => by simp at h, fun _ h => by simp at h, fun _ h => by simp at h⟩
theorem RS.yes {S : ByteArray} {z : ScX} (hp : PLs (Cut.cutWs 10 S) ([], [], []) z) (h : sT z = S.data.toList) : RS S.data.toList z true := .inl ⟨rfl, hp.ok ok_nil, h⟩
theorem RS.no {S : ByteArray} {z : ScX} (hp : PLs (Cut.cutWs 10 S) ([], [], []) z) (h : sT z ≠ S.data.toList) : RS S.data.toList ([], [], []) false :=
  .inr ⟨rfl, rfl, fun y hy e => h (by rw [PLs.text hy e hp]; exact e)⟩
end Go.Proofs.YtfpnflhkfpolcaaGreatDoor.Num
