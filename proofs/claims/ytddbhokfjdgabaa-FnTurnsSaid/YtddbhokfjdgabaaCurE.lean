
/-
  The drawing cursor where what it draws is of no account: some number within its bounds.
-/
import Derived.Test.YtddbhokfjdgabaaCur2
namespace Go.Proofs.Ytddbhokfjdgabaa.Cur
open Go.RowKit Bytes

/-- block c is a cursor. -/
def Cu (c : Nat) (w : World) : Prop := ∃ (a : Option Addr) (len cap : Nat) (z : List Int) (s : St), At c a len cap z s w
theorem Cu.lt {c : Nat} {w : World} (h : Cu c w) : c < w.heap.size := by obtain ⟨a, len, cap, z, s, h⟩ := h; exact h.lt
theorem Cu.below {c : Nat} {w w' : World} (h : Cu c w) (hb : Below w.heap.size w w') : Cu c w' := by
  obtain ⟨a, len, cap, z, s, h⟩ := h; exact ⟨a, len, cap, z, s, h.below hb⟩
theorem Cu.drew {c : Nat} {w : World} (h : Cu c w) : Cu c w.drew := by obtain ⟨a, len, cap, z, s, h⟩ := h; exact ⟨a, len, cap, z, s, h.drew⟩
theorem Cu.drewN {c : Nat} {w : World} (h : Cu c w) (n : Nat) : Cu c (w.drewN n) := by obtain ⟨a, len, cap, z, s, h⟩ := h; exact ⟨a, len, cap, z, s, h.drewN n⟩
theorem Cu.alloc {c : Nat} {w : World} (h : Cu c w) (o : Obj) : Cu c (w.alloc o) := h.below ((Below.refl _ _).alloc (Nat.le_refl _) o)

def Drew (P : Int → Prop) (c : Nat) (w : World) (e : Ending) (w' : World) : Prop := ∃ x : Int, P x ∧ e = .returned (.int .i64 x) ∧ Cu c w' ∧ Only c w w'
theorem newE (a : Option Addr) (len cap : Nat) (z : List Int) (w : World) (h : CodeIn a len z w) :
    Calls Try.prog 31 #[.slice a len cap] w fun e w' => ∃ c, e = .returned (.pointer (some ⟨c, 0, none⟩)) ∧ w.heap.size ≤ c ∧ Cu c w' ∧ Below w.heap.size w w' :=
  (new_any a len cap z w h).mono fun _ _ ⟨c, h1, h2, h3, h4⟩ => ⟨c, h1, h2, ⟨a, len, cap, z, _, h3⟩, h4⟩
theorem belowE (c : Nat) (n : Int) (hn : 0 < n) (hn2 : n ≤ 9223372036854775807) (w : World) (h : Cu c w) :
    Calls Try.prog 54 #[.pointer (some ⟨c, 0, none⟩), .int .i64 n] w (Drew (fun x => 0 ≤ x ∧ x < n) c w) := by
  obtain ⟨a, len, cap, z, s, h⟩ := h
  exact (below_any c a len cap z s n hn hn2 w h).mono fun _ _ ⟨h1, h2, h3⟩ => ⟨_, belowD_bd len z n s hn, h1, ⟨a, len, cap, z, _, h2⟩, h3⟩
theorem byteE (c : Nat) (w : World) (h : Cu c w) :
    Calls Try.prog 72 #[.pointer (some ⟨c, 0, none⟩)] w (Drew (fun x => 0 ≤ x ∧ x < 256) c w) := by
  obtain ⟨a, len, cap, z, s, h⟩ := h
  exact (byte_any c a len cap z s w h).mono fun _ _ ⟨h1, h2, h3⟩ => ⟨_, byteD_bd len z s, h1, ⟨a, len, cap, z, _, h2⟩, h3⟩
theorem onceE (c : Nat) (n : Int) (hn : 0 < n) (hn2 : n ≤ 9223372036854775807) (w : World) (h : Cu c w) :
    Calls Try.prog 33 #[.pointer (some ⟨c, 0, none⟩), .int .i64 n] w fun e w' => ∃ x : Bool, e = .returned (.bool x) ∧ Cu c w' ∧ Only c w w' := by
  obtain ⟨a, len, cap, z, s, h⟩ := h
  exact (once_any c a len cap z s n hn hn2 w h).mono fun _ _ ⟨h1, h2, h3⟩ => ⟨_, h1, ⟨a, len, cap, z, _, h2⟩, h3⟩
theorem pickE (c b : Nat) (zs : List Int) (n : Nat) (hn : zs.length = n) (h0 : 0 < n) (h1 : n ≤ 1000) (hbc : b ≠ c) (w : World) (hz : Ints b zs w) (h : Cu c w) :
    Calls Try.prog 55 #[.pointer (some ⟨c, 0, none⟩), .slice (some ⟨b, 0, none⟩) n n] w (Drew (fun x => x ∈ zs) c w) := by
  obtain ⟨a, len, cap, z, s, h⟩ := h
  refine (pickInt_any c a len cap z s b zs n hn h0 h1 hbc w hz h).mono fun _ _ ⟨h1, h2, h3⟩ => ⟨_, ?_, h1, ⟨a, len, cap, z, _, h2⟩, h3⟩
  have hb := belowD_bd len z n s (by omega)
  have : (belowD len z n s).1.toNat < zs.length := by omega
  simp [List.getD, this]
/-- the literal's block. -/
theorem Ints.new (w : World) (zs : List Int) (xs : Array Value) (h : xs = (zs.map (Value.int .i64)).toArray) : Ints w.heap.size zs (w.alloc (.cells xs 3)) := by
  subst h; exact heap_alloc_new w _
/-- the code that a law takes. -/
theorem codeInE {w : World} {a : Option Addr} {len cap : Nat} {zs : List Int} (h : (a = none ∧ len = 0 ∧ cap = 0 ∧ zs = []) ∨ ∃ x, a = some x ∧ len ≤ cap ∧ cap ≤ maxLen ∧ zs.length = cap ∧ (∀ i, i < zs.length → w.cell? (x.add i) = some (.int .u8 (zs.getD i 0))) ∧ ∀ n ∈ zs, (Lit.int .u8 n).wf = true) (hl : len ≤ 1048576) : CodeIn a len zs w := by
  rcases h with ⟨rfl, rfl, rfl, rfl⟩ | ⟨x, rfl, h1, h2, h3, h4, h5⟩
  · exact ⟨fun i hi => by omega, fun i => by simp [List.getD], by omega⟩
  · refine ⟨fun i hi => ?_, fun i => ?_, hl⟩
    · have hc := h4 i (by omega)
      obtain ⟨b, o, spot⟩ := x
      have hs : spot = none := by
        have h0 := h4 0 (by omega)
        simpa [Addr.add] using World.cell?_spot h0
      subst hs
      have e : (⟨b, o, none⟩ : Addr).add i = ⟨b, o + i, none⟩ := by unfold Addr.add; split <;> simp_all
      rw [e] at hc
      exact ⟨b, o, rfl, World.block_lt_of_cell? _ _ hc, hc⟩
    · by_cases hi : i < zs.length
      · have hm : zs.getD i 0 ∈ zs := by simp [List.getD, hi]
        have := h5 _ hm
        simp only [Lit.wf, Bool.and_eq_true, decide_eq_true_eq] at this
        rw [show IntKind.u8.min = 0 from rfl, show IntKind.u8.max = 255 from rfl] at this
        omega
      · have : zs.getD i 0 = 0 := by simp [List.getD, List.getElem?_eq_none (show zs.length ≤ i by omega)]
        rw [this]; omega
theorem bigE_yes (a : Option Addr) (len cap : Nat) (h : 1048576 < len) (w : World) :
    Calls Try.prog 9 #[.slice a len cap] w fun e w' => e = .returned (.bool true) ∧ w = w' := by
  go_enter Try.func9, Try.ntmps9
  go_wp2
  go_ret
  exact ⟨by simp; omega, rfl⟩
theorem bigE_no (a : Option Addr) (len cap : Nat) (h : ¬ 1048576 < len) (w : World) :
    Calls Try.prog 9 #[.slice a len cap] w fun e w' => e = .returned (.bool false) ∧ w = w' := by
  go_enter Try.func9, Try.ntmps9
  go_wp2
  go_ret
  exact ⟨by simp; omega, rfl⟩
end Go.Proofs.Ytddbhokfjdgabaa.Cur
