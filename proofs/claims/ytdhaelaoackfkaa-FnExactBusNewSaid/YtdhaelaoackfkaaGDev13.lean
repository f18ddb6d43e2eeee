/-
  Several texts in one: Dev5, Dev6, Dev7, Dev8, Dev9, Lane3, Lane4.
-/
import Derived.Test.YtdhaelaoackfkaaDev4
import Derived.Test.YtdhaelaoackfkaaLane2
import Derived.Outline
namespace Go.Proofs.Ytdhaelaoackfkaa.KD
open Go.RowKit Rows3 GR Num
set_option linter.unusedVariables false

theorem doW_bad {a v : Int} {r : List Int} {t : Int} {f : List Int} (h : wordB v = false) : doW a v r t f = ((r, t, f), 0, false) := if_pos h
theorem doW_reg {a v : Int} {r : List Int} {t : Int} {f : List Int} (h : wordB v = true) (h1 : regB a = true) : doW a v r t f = ((r.set (a / 4).toNat v, t, f), v, true) := by
  unfold doW; rw [if_neg (by rw [h]; simp), if_pos h1]
theorem doW_tim {v : Int} {r : List Int} {t : Int} {f : List Int} (h : wordB v = true) : doW 16 v r t f = ((r, v, f), v, true) := by
  unfold doW; rw [if_neg (by rw [h]; simp), if_neg (by rw [regB_iff]; omega), if_pos rfl]
theorem doW_fif {v : Int} {r : List Int} {t : Int} {f : List Int} (h : wordB v = true) (hl : f.length < 4) : doW 20 v r t f = ((r, t, f ++ [v]), v, true) := by
  unfold doW; rw [if_neg (by rw [h]; simp), if_neg (by rw [regB_iff]; omega), if_neg (by omega), if_pos ⟨rfl, hl⟩]
theorem doW_no {a v : Int} {r : List Int} {t : Int} {f : List Int} (h : wordB v = true) (h1 : regB a = false) (h2 : ¬ a = 16) (h3 : ¬ (a = 20 ∧ f.length < 4)) : doW a v r t f = ((r, t, f), 0, false) := by
  unfold doW; rw [if_neg (by rw [h]; simp), if_neg (by rw [h1]; simp), if_neg h2, if_neg h3]
/-- the three cells of a result behind three stores. -/
theorem Bx.three {T : TypeId} {b : Nat} {c0 c1 c2 : Value} {w : World} (h : Bx T b #[c0, c1, c2] w) (u0 u1 u2 : Value) :
    Bx T b #[u0, u1, u2] (((w.setCell ⟨b, 0, none⟩ u0).setCell ⟨b, 1, none⟩ u1).setCell ⟨b, 2, none⟩ u2) := ((h.set 0 u0).set 1 u1).set 2 u2
theorem OwnDev.turn2 {B : Nat} {rv fv : Value} {r f : List Int} {w w' : World} {G : Foot} (h : OwnDev B rv fv r f w) (ht : Turn G w w') (h0 : ∀ k, rv.ownBlock = some k → ¬ G k) (h2 : ∀ k, fv.ownBlock = some k → ¬ G k) : OwnDev B rv fv r f w' :=
  ⟨own_turn h.1 ht h0, own_turn h.2.1 ht h2, h.2.2⟩
end Go.Proofs.Ytdhaelaoackfkaa.KD

namespace Go.Proofs.Ytdhaelaoackfkaa.KD
open Go.RowKit Rows3 GR Num
set_option linter.unusedVariables false

theorem doR_reg {a : Int} {r : List Int} {t : Int} {f : List Int} (h1 : regB a = true) : doR a r t f = ((r, t, f), r.getD (a / 4).toNat 0, true) := if_pos h1
theorem doR_tim {r : List Int} {t : Int} {f : List Int} : doR 16 r t f = ((r, (t + 1) % 4294967296, f), t, true) := by
  unfold doR; rw [if_neg (by rw [regB_iff]; omega), if_pos rfl]
theorem doR_fif {r : List Int} {t : Int} {f : List Int} (hl : 0 < f.length) : doR 20 r t f = ((r, t, f.tail), f.getD 0 0, true) := by
  unfold doR; rw [if_neg (by rw [regB_iff]; omega), if_neg (by omega), if_pos ⟨rfl, hl⟩]
theorem doR_no {a : Int} {r : List Int} {t : Int} {f : List Int} (h1 : regB a = false) (h2 : ¬ a = 16) (h3 : ¬ (a = 20 ∧ 0 < f.length)) : doR a r t f = ((r, t, f), 0, false) := by
  unfold doR; rw [if_neg (by rw [h1]; simp), if_neg h2, if_neg h3]
theorem Turn.drew {F : Foot} {w w' : World} (h : Turn F w w') : Turn F w w'.drew := ⟨h.os, h.tape, h.output, h.size, h.block⟩
theorem own_base {B g n p : Nat} {l : List Int} {w : World} (h : OwnI B (.slice (some ⟨g, 0, none⟩) n p) l w) : RawI (fun k => k = g) g 0 0 [] w := by
  rcases h.2 with ⟨e, _⟩ | ⟨g', cp, cur, e, hb, hg, _⟩
  · cases e
  · cases e
    exact ⟨rfl, cur, _, hg, Nat.zero_le _, fun i x hi => by simp at hi⟩
theorem own_tail {B g n p : Nat} {l : List Int} {w : World} (h : OwnI B (.slice (some ⟨g, 0, none⟩) n p) l w) (hp : 0 < p) : RawI (fun k => k = g) g 1 (p - 1) l.tail w := by
  rcases h.2 with ⟨e, _⟩ | ⟨g', cp, cur, e, hb, hg, _, _, hcs, _⟩
  · cases e
  · cases e
    refine ⟨rfl, cur, _, hg, by omega, fun i x hi => ?_⟩
    have hi2 : l[i + 1]? = some x := by
      cases l with
      | nil => simp at hi
      | cons y l => simpa using hi
    have hc := h.cell (i := i + 1) (List.getElem?_eq_some_iff.1 hi2).1
    rw [getD_some hi2, cell_of_row w g _ cur _ (0, 0) hg] at hc
    rw [Nat.add_comm]; exact hc
end Go.Proofs.Ytdhaelaoackfkaa.KD

namespace Go.Proofs.Ytdhaelaoackfkaa.KD
open Go.RowKit Rows3 GR Num
set_option linter.unusedVariables false

theorem doD_bad {wr : Bool} {a v : Int} {r : List Int} {t : Int} {f : List Int} (h : okD r t f = false) : doD wr a v r t f = ((r, t, f), 0, false) := if_pos h
theorem doD_w {a v : Int} {r : List Int} {t : Int} {f : List Int} (h : okD r t f = true) : doD true a v r t f = doW a v r t f := by
  unfold doD; rw [if_neg (by rw [h]; simp), if_pos rfl]
theorem doD_r {a v : Int} {r : List Int} {t : Int} {f : List Int} (h : okD r t f = true) : doD false a v r t f = doR a r t f := by
  unfold doD; rw [if_neg (by rw [h]; simp), if_neg (by simp)]
theorem okD_facts {r : List Int} {t : Int} {f : List Int} (h : okD r t f = true) : r.length = 4 ∧ f.length ≤ 4 ∧ 0 ≤ t ∧ t < 4294967296 := by
  unfold okD at h
  simp only [Bool.and_eq_true, beq_iff_eq, decide_eq_true_eq] at h
  obtain ⟨h1, _, h3, h4, _⟩ := h
  have := (wordB_iff t).1 h3
  exact ⟨by omega, by omega, this.1, this.2⟩
end Go.Proofs.Ytdhaelaoackfkaa.KD

namespace Go.Proofs.Ytdhaelaoackfkaa.KD
open Go.RowKit Rows3 GR Num
set_option linter.unusedVariables false

theorem in12_is {a : Int} {R : Bool} (h : regB a = R) (hm : a % 4 = 0) (w : World) : Calls Try.prog 72 #[.int .i64 a, .int .i64 0, .int .i64 12] w fun e w' => e = .returned (.bool R) ∧ w = w' := by
  have hi := regB_iff a
  rw [h] at hi
  cases R with
  | true => have := hi.1 rfl; exact sl1In_yes _ _ _ (by omega) (by omega) _
  | false =>
    have hn : ¬ (a = 0 ∨ a = 4 ∨ a = 8 ∨ a = 12) := fun h => by have := hi.2 h; cases this
    exact sl1In_no _ _ _ (by omega) _
theorem qWordE (v : Int) (u : Bool) (h : wordB v = u) (w : World) : Calls Try.prog 72 #[.int .i64 v, .int .i64 0, .int .i64 4294967295] w fun e w' => e = .returned (.bool u) ∧ w = w' := by
  rw [← h]; exact specIn v 2 4294967295 rfl w
theorem doD_odd {wr : Bool} {a v : Int} {r : List Int} {t : Int} {f : List Int} (h : ¬ a % 4 = 0) : doD wr a v r t f = ((r, t, f), 0, false) := by
  have hg : regB a = false := by rw [← Bool.not_eq_true, regB_iff]; omega
  cases ho : okD r t f with
  | false => exact doD_bad ho
  | true =>
    cases wr with
    | true =>
      rw [doD_w ho]
      cases hv : wordB v with
      | false => exact doW_bad hv
      | true => exact doW_no hv hg (by omega) (by omega)
    | false => rw [doD_r ho]; exact doR_no hg (by omega) (by omega)
end Go.Proofs.Ytdhaelaoackfkaa.KD

namespace Go.Proofs.Ytdhaelaoackfkaa.KD
open Go.RowKit Rows3 GR Num

theorem dev_len0 {r : List Int} {t : Int} {f : List Int} (h : devK.sz (r, t, f) ≤ 2000000) : r.length ≤ 2000000 := by
  rw [dev_sz] at h; have e : ints.sz r = r.length := sz_ints r; omega
theorem dev_len2 {r : List Int} {t : Int} {f : List Int} (h : devK.sz (r, t, f) ≤ 2000000) : f.length ≤ 2000000 := by
  rw [dev_sz] at h; have e : ints.sz f = f.length := sz_ints f; omega
theorem doD_sz {wr : Bool} {a v : Int} {r : List Int} {t : Int} {f : List Int} {r' : List Int} {t' : Int} {f' : List Int} {n : Int} {k : Bool} (h : devK.sz (r, t, f) ≤ 2000000) (hd : doD wr a v r t f = ((r', t', f'), n, k)) : devK.sz (r', t', f') ≤ 2000000 := by
  have h0 := dev_len0 h
  have h2 := dev_len2 h
  have same : devK.sz (r, t, f) ≤ 2000000 := h
  have small : ∀ (r1 : List Int) (t1 : Int) (f1 : List Int), r1.length ≤ 8 → f1.length ≤ 8 → devK.sz (r1, t1, f1) ≤ 2000000 := fun r1 t1 f1 h1 h2 => by
    rw [dev_sz]; have e1 : ints.sz r1 = r1.length := sz_ints r1; have e2 : ints.sz f1 = f1.length := sz_ints f1; omega
  cases ho : okD r t f with
  | false => rw [doD_bad ho] at hd; cases hd; exact same
  | true =>
    obtain ⟨h4, hf4, _, _⟩ := okD_facts ho
    cases wr with
    | true =>
      rw [doD_w ho] at hd
      unfold doW at hd
      split at hd
      · cases hd; exact same
      · split at hd
        · cases hd; exact small _ _ _ (by rw [List.length_set]; omega) (by omega)
        · split at hd
          · cases hd; exact small _ _ _ (by omega) (by omega)
          · split at hd
            · cases hd; exact small _ _ _ (by omega) (by rw [List.length_append]; simp; omega)
            · cases hd; exact same
    | false =>
      rw [doD_r ho] at hd
      unfold doR at hd
      split at hd
      · cases hd; exact same
      · split at hd
        · cases hd; exact small _ _ _ (by omega) (by omega)
        · split at hd
          · cases hd; exact small _ _ _ (by omega) (by rw [List.length_tail]; omega)
          · cases hd; exact same
end Go.Proofs.Ytdhaelaoackfkaa.KD

namespace Go.Proofs.Ytdhaelaoackfkaa.Num
open Go.RowKit Rows3

/-- the number of the first n bytes from a on, the least first. -/
def leV (l : List Int) (a : Nat) : Nat → Int
  | 0 => 0
  | j + 1 => leV l a j + l.getD (a + j) 0 * 256 ^ j
/-- the same read from the other end: t bytes of n are done. -/
def hiV (l : List Int) (a n : Nat) : Nat → Int
  | 0 => 0
  | t + 1 => hiV l a n t * 256 + l.getD (a + (n - 1 - t)) 0
theorem hiV_leV (l : List Int) (a n : Nat) (h : n = 1 ∨ n = 2 ∨ n = 4) : hiV l a n n = leV l a n := by
  rcases h with rfl | rfl | rfl
  · simp [hiV, leV]
  · simp [hiV, leV]; omega
  · simp [hiV, leV]; omega
theorem byte_at {l : List Int} (h : ∀ x ∈ l, 0 ≤ x ∧ x ≤ 255) (i : Nat) : 0 ≤ l.getD i 0 ∧ l.getD i 0 ≤ 255 := by
  by_cases hi : i < l.length
  · rw [getD_lt hi]; exact h _ (List.getElem_mem hi)
  · rw [List.getD, List.getElem?_eq_none (by omega)]; simp
theorem leV_bd {l : List Int} (h : ∀ x ∈ l, 0 ≤ x ∧ x ≤ 255) (a n : Nat) : 0 ≤ leV l a n ∧ leV l a n < 256 ^ n := by
  induction n with
  | zero => simp [leV]
  | succ n ih =>
    have hb := byte_at h (a + n)
    rw [leV, Int.pow_succ]
    have hp : (0 : Int) < 256 ^ n := Int.pow_pos (by decide)
    have h1 : 0 ≤ l.getD (a + n) 0 * 256 ^ n := Int.mul_nonneg hb.1 (by omega)
    have h2 : l.getD (a + n) 0 * 256 ^ n ≤ 255 * 256 ^ n := Int.mul_le_mul_of_nonneg_right hb.2 (by omega)
    omega
theorem hiV_bd {l : List Int} (h : ∀ x ∈ l, 0 ≤ x ∧ x ≤ 255) (a n t : Nat) : 0 ≤ hiV l a n t ∧ hiV l a n t < 256 ^ t := by
  induction t with
  | zero => simp [hiV]
  | succ t ih =>
    have hb := byte_at h (a + (n - 1 - t))
    rw [hiV, Int.pow_succ]
    omega
/-- what GetNum answers. -/
def getB (l : List Int) (a k : Int) : Bool := memB l && fitB l.length a k
def getW (l : List Int) (a k : Int) : Int := if getB l a k = true then leV l a.toNat (bytesW k).toNat else 0
theorem getW_no {l : List Int} {a k : Int} (h : getB l a k = false) : getW l a k = 0 := by unfold getW; rw [h]; rfl
/-- what is known where a number fits. -/
theorem getB_yes {l : List Int} {a k : Int} (h : getB l a k = true) : ∃ A n : Nat, a = A ∧ bytesW k = n ∧ (n = 1 ∨ n = 2 ∨ n = 4) ∧ A + n ≤ l.length ∧ l.length ≤ 512 ∧ (∀ x ∈ l, 0 ≤ x ∧ x ≤ 255) ∧ getW l a k = leV l A n := by
  have h' := h
  unfold getB at h
  rw [Bool.and_eq_true, memB_iff, fitB_iff] at h
  obtain ⟨⟨h1, h2⟩, h3, h4, _, h5⟩ := h
  obtain ⟨A, rfl⟩ := Int.eq_ofNat_of_zero_le h4
  refine ⟨A, (bytesW k).toNat, rfl, by omega, ?_, by omega, h1, h2, ?_⟩
  · rcases bytesW_cases k with e | ⟨_, e⟩ | ⟨_, e⟩ | ⟨_, e⟩ <;> omega
  · unfold getW; rw [if_pos h', Int.toNat_natCast]
theorem orV (x y : Int) (m : Nat) (h0 : 0 ≤ x) (h1 : x < 2 ^ m) (h2 : 0 ≤ y) (hm : m ≤ 24) (h3 : y ≤ 255) : bits .or .i64 x (y * 2 ^ m) = x + y * 2 ^ m := by
  have hp : (0 : Int) < 2 ^ m := Int.pow_pos (by decide)
  have hp2 : (2 : Int) ^ m ≤ 16777216 := by
    have : (2 : Nat) ^ m ≤ 2 ^ 24 := Nat.pow_le_pow_right (by decide) hm
    have h : ((2 ^ m : Nat) : Int) ≤ ((2 ^ 24 : Nat) : Int) := by omega
    simpa using h
  have h4 : 0 ≤ y * 2 ^ m := Int.mul_nonneg h2 (by omega)
  have h5 : y * 2 ^ m ≤ 255 * 16777216 := Int.mul_le_mul h3 hp2 (by omega) (by omega)
  have hc : bits .or .i64 x (y * 2 ^ m) = bits .or .i64 (y * 2 ^ m) x := by simp [bits, BitVec.or_comm]
  rw [hc, bits_join .i64 63 (by decide) (fun n h0 h1 => by rw [IntKind.wrap_i64]; omega) m _ _ (by omega) (by simp) (by omega) h0 h1 (by omega)]
  omega

end Go.Proofs.Ytdhaelaoackfkaa.Num

namespace Go.Proofs.Ytdhaelaoackfkaa.Num
open Go.RowKit Rows3

/-- the first n bytes of v, the least first, from a on. -/
def putL (l : List Int) (a : Nat) (v : Int) : Nat → List Int
  | 0 => l
  | j + 1 => (putL l a v j).set (a + j) (v / 256 ^ j % 256)
theorem putL_length (l : List Int) (a : Nat) (v : Int) (n : Nat) : (putL l a v n).length = l.length := by
  induction n with
  | zero => rfl
  | succ n ih => rw [putL, List.length_set, ih]
def putB (l : List Int) (a k v : Int) : Bool := getB l a k && inLB v k
def putW (l : List Int) (a k v : Int) : List Int := if putB l a k v = true then putL l a.toNat v (bytesW k).toNat else l
theorem putW_no {l : List Int} {a k v : Int} (h : putB l a k v = false) : putW l a k v = l := by unfold putW; rw [h]; rfl
theorem putW_length (l : List Int) (a k v : Int) : (putW l a k v).length = l.length := by
  unfold putW; split
  · rw [putL_length]
  · rfl
theorem putB_yes {l : List Int} {a k v : Int} (h : putB l a k v = true) : ∃ A n : Nat, a = A ∧ bytesW k = n ∧ (n = 1 ∨ n = 2 ∨ n = 4) ∧ A + n ≤ l.length ∧ l.length ≤ 512 ∧ (∀ x ∈ l, 0 ≤ x ∧ x ≤ 255) ∧ 0 ≤ v ∧ v < 4294967296 ∧ putW l a k v = putL l A v n := by
  have h' := h
  unfold putB at h
  rw [Bool.and_eq_true] at h
  obtain ⟨A, n, rfl, h2, h3, h4, h5, h6, _⟩ := getB_yes h.1
  have h7 := (inLB_iff v k).1 h.2
  refine ⟨A, n, rfl, h2, h3, h4, h5, h6, h7.1, Int.lt_of_lt_of_le h7.2 (limW_bd k).2, ?_⟩
  unfold putW; rw [if_pos h', h2]; rfl
/-- a new row that holds l, and a truth value. -/
def NewIB (l : List Int) (b : Bool) (w : World) (e : Ending) (w' : World) : Prop := ∃ v, e = .returned (.tuple #[v, .bool b]) ∧ OwnI w.heap.size v l w' ∧ Below w.heap.size w w'
theorem and8 (x : Int) (h0 : 0 ≤ x) (h1 : x < 9223372036854775808) : bits .and .i64 x 255 = x % 256 :=
  bits_mask .i64 63 (by decide) (fun n h0 h1 => by rw [IntKind.wrap_i64]; omega) 8 (by decide) x h0 h1

end Go.Proofs.Ytdhaelaoackfkaa.Num
