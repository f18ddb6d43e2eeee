
/-
  When a bus is valid, said of its data. (Made by wip/gbus.py.)
-/
import Derived.Test.YtdhaelaoackfkaaGreatBusV
import Derived.Test.YtdhaelaoackfkaaGreatGConf13
import Derived.Test.YtdhaelaoackfkaaGreatMst3
import Derived.Test.YtdhaelaoackfkaaGreatMod1
import Derived.Test.YtdhaelaoackfkaaGreatWrr1
import Derived.Test.YtdhaelaoackfkaaGreatBuckC
import Derived.Test.YtdhaelaoackfkaaGreatGA13
import Derived.Test.YtdhaelaoackfkaaGreatMst8
namespace Go.Proofs.YtdhaelaoackfkaaGreat.KD
open Go.RowKit Rows3 GR Num
set_option linter.unusedVariables false
/-- is it so. -/
noncomputable def tt (p : Prop) : Bool := @decide p (Classical.propDecidable _)
theorem tt_iff (p : Prop) : tt p = true ↔ p := by unfold tt; exact @decide_eq_true_iff _ (Classical.propDecidable _)
theorem tt_yes {p : Prop} (h : p) : tt p = true := (tt_iff p).2 h
theorem tt_no {p : Prop} (h : ¬ p) : tt p = false := by rw [← Bool.not_eq_true, tt_iff]; exact h
theorem tt_of {p : Prop} (h : tt p = true) : p := (tt_iff p).1 h
theorem tt_not {p : Prop} (h : tt p = false) : ¬ p := fun hp => by rw [tt_yes hp] at h; cases h
theorem tt_congr {p q : Prop} (h : p ↔ q) : tt p = tt q := by rw [Bool.eq_iff_iff, tt_iff, tt_iff]; exact h
/-- does a master's first request want the bus for itself. -/
def locksM (m : MstX) : Bool :=
  match m.1 with
  | [] => false
  | r :: _ => r.2.2.2.2.1 && !m.2.2.2.2.2
/-- a beat that is granted. -/
def AddrP (M : List MstX) (sp : List Int) (av : Bool) (aw ab : Int) (af : Bool) (ay al ar : Int) (az : Bool) : Prop :=
  if av = true then (1 ≤ ay ∧ ay ≤ 3) ∧ (al = 0 ∧ ar = 0 ∧ az = false) ∧ ∃ (j : Nat) (m : MstX), aw = j ∧ M[j]? = some m ∧ sp[j]? = some 0 ∧ ab = m.2.1 - 1
  else (av, aw, ab, af, ay, al, ar, az) = (false, 0, 0, false, 0, 0, 0, false)
/-- a beat at its slave. -/
def DataP (M : List MstX) (sp : List Int) (mw mr ho : Int) (av : Bool) (dv : Bool) (dw db : Int) (df : Bool) (dy dl dr : Int) (dz : Bool) : Prop :=
  if dv = true then (1 ≤ dy ∧ dy ≤ 3) ∧ (0 ≤ dl ∧ dl ≤ mw + 2) ∧ (dz = true → dl = 0 ∧ dr ≠ 0 ∧ av = false) ∧
    ∃ (j : Nat) (m : MstX), dw = j ∧ M[j]? = some m ∧ sp[j]? = some 0 ∧ db = m.2.2.1 ∧ (dr = 0 ∨ dr = 1 ∨ (dr = 2 ∧ m.2.2.2.1 < mr) ∨ (dr = 3 ∧ m.2.2.2.2.1 = false ∧ ho ≠ dw))
  else (dv, dw, db, df, dy, dl, dr, dz) = (false, 0, 0, false, 0, 0, 0, false)
/-- how many beats of a master are on their way. -/
def waysW (av : Bool) (aw : Int) (dv : Bool) (dw : Int) (i : Int) : Int := (if av = true ∧ aw = i then 1 else 0) + (if dv = true ∧ dw = i then 1 else 0)
def AheadP (M : List MstX) (av : Bool) (aw : Int) (dv : Bool) (dw : Int) : Prop := ∀ (i : Nat) m, M[i]? = some m → m.2.1 - m.2.2.1 = waysW av aw dv dw i
/-- who holds the bus may. -/
def HoldP (M : List MstX) (sp : List Int) (ho he lm : Int) : Prop :=
  (ho = -1 ∧ he = 0) ∨ ((0 ≤ he ∧ he ≤ lm) ∧ ∃ (j : Nat) (m : MstX), ho = j ∧ M[j]? = some m ∧ sp[j]? = some 0 ∧ locksM m = true)
/-- who has to hold the bus does. -/
def LockP (M : List MstX) (ho : Int) : Prop := ∀ (i : Nat) m, M[i]? = some m → 0 < m.2.1 → locksM m = true → ho = i
/-- the parts of the whole bus. -/
def PartsP (l : List (Int × Bool × Int × Int)) (qu mw mr ms lm now tu cr la pk : Int) (mem rg : List Int) (ti : Int) (ff : List Int) : Prop :=
  okX (l, qu, mw, mr, ms, lm) = true ∧ (0 ≤ now ∧ now ≤ 4000) ∧ okWr tu cr (l, qu, mw, mr, ms, lm) = true ∧ (-1 ≤ la ∧ la ≤ (l.length : Int) - 1) ∧ okM mem rg ti ff = true ∧ (0 ≤ pk ∧ pk ≤ now)
def LensP (l : List (Int × Bool × Int × Int)) (M : List MstX) (bk : List (Int × Int)) (sp : List Int) : Prop := M.length = l.length ∧ bk.length = l.length ∧ sp.length = l.length
/-- each master's parts. -/
def EachP (l : List (Int × Bool × Int × Int)) (qu mw mr ms lm : Int) (M : List MstX) (bk : List (Int × Int)) (sp : List Int) (i : Nat) : Prop :=
  ∀ m b s c, M[i]? = some m → bk[i]? = some b → sp[i]? = some s → l[i]? = some c → okMst m.1 m.2.1 m.2.2.1 m.2.2.2.1 m.2.2.2.2.1 m.2.2.2.2.2 (l, qu, mw, mr, ms, lm) = true ∧ okB c.2.1 c.2.2.1 c.2.2.2 b.1 b.2 = true ∧ (0 ≤ s ∧ s ≤ ms)
def AllP (l : List (Int × Bool × Int × Int)) (qu mw mr ms lm : Int) (M : List MstX) (bk : List (Int × Int)) (sp : List Int) : Prop := ∀ i, EachP l qu mw mr ms lm M bk sp i
/-- an entry of the log. -/
def EntryP (n : Nat) (now : Int) (lg : List (Int × Int × Bool × Int × Int × Int × Int)) (i : Nat) : Prop :=
  ∀ d, lg[i]? = some d → (0 ≤ d.1 ∧ d.1 ≤ now - 1) ∧ (∀ k e, k + 1 = i → lg[k]? = some e → e.1 < d.1) ∧ (0 ≤ d.2.1 ∧ d.2.1 ≤ (n : Int) - 1) ∧ alB d.2.2.2.1 d.2.2.2.2.1 = true ∧ (0 ≤ d.2.2.2.1 ∧ d.2.2.2.1 ≤ 511) ∧ (0 ≤ d.2.2.2.2.2.1 ∧ d.2.2.2.2.2.1 < limW d.2.2.2.2.1) ∧ (d.2.2.2.2.2.2 = 0 ∨ d.2.2.2.2.2.2 = 1)
def LogP (n : Nat) (now : Int) (lg : List (Int × Int × Bool × Int × Int × Int × Int)) : Prop := ∀ i, EntryP n now lg i
/-- is it a bus. -/
def GoodBus (x : BusX) : Prop :=
  match x with
  | ((l, qu, mw, mr, ms, lm), now, M, (tu, cr), bk, sp, ho, he, la, (av, aw, ab, af, ay, al, ar, az), (dv, dw, db, df, dy, dl, dr, dz), (mem, (rg, ti, ff)), pk, lg) =>
    PartsP l qu mw mr ms lm now tu cr la pk mem rg ti ff ∧ LensP l M bk sp ∧ AllP l qu mw mr ms lm M bk sp ∧ AddrP M sp av aw ab af ay al ar az ∧ DataP M sp mw mr ho av dv dw db df dy dl dr dz ∧
    AheadP M av aw dv dw ∧ HoldP M sp ho he lm ∧ LockP M ho ∧ LogP l.length now lg

end Go.Proofs.YtdhaelaoackfkaaGreat.KD
