
/-
  The drawing cursor where what it draws is of no account, and the cursor lies below a bound D: what happens from D on leaves it as it stands.
-/
import Derived.Test.YtddbhokfjdgabaaCurE
namespace Go.Proofs.Ytddbhokfjdgabaa.Cur
open Go.RowKit Bytes

/-- block c is a cursor; it and the code that it reads lie below D. -/
def CuD (D c : Nat) (w : World) : Prop := c < D ∧ D ≤ w.heap.size ∧ ∃ (a : Option Addr) (len cap : Nat) (z : List Int) (s : St), At c a len cap z s w ∧ ∀ x, a = some x → 0 < len → x.block < D
theorem CuD.lt {D c : Nat} {w : World} (h : CuD D c w) : c < D := h.1
theorem CuD.le {D c : Nat} {w : World} (h : CuD D c w) : D ≤ w.heap.size := h.2.1
theorem CuD.cu {D c : Nat} {w : World} (h : CuD D c w) : Cu c w := by obtain ⟨_, _, a, len, cap, z, s, h, _⟩ := h; exact ⟨a, len, cap, z, s, h⟩
theorem Cu.toD {c : Nat} {w : World} (h : Cu c w) : CuD w.heap.size c w := by
  have hl := h.lt
  obtain ⟨a, len, cap, z, s, h⟩ := h; exact ⟨hl, Nat.le_refl _, a, len, cap, z, s, h, h.reach⟩
theorem CuD.belowB {D B c : Nat} {w w' : World} (h : CuD D c w) (hb : Below B w w') (hB : D ≤ B) : CuD D c w' := by
  obtain ⟨hc, hl, a, len, cap, z, s, h, hr⟩ := h
  exact ⟨hc, Nat.le_trans hl hb.size, a, len, cap, z, s, h.belowB (hb.mono hB) hc hr, hr⟩
theorem CuD.below {D c : Nat} {w w' : World} (h : CuD D c w) (hb : Below w.heap.size w w') : CuD D c w' := h.belowB hb h.le
theorem CuD.alloc {D c : Nat} {w : World} (h : CuD D c w) (o : Obj) : CuD D c (w.alloc o) := h.below ((Below.refl _ _).alloc (Nat.le_refl _) o)
theorem CuD.drewN {D c : Nat} {w : World} (h : CuD D c w) (n : Nat) : CuD D c (w.drewN n) := by
  obtain ⟨hc, hl, a, len, cap, z, s, h, hr⟩ := h
  exact ⟨hc, hl, a, len, cap, z, s, h.drewN n, hr⟩
theorem CuD.drew {D c : Nat} {w : World} (h : CuD D c w) : CuD D c w.drew := h.drewN 1
theorem CuD.mono {D E c : Nat} {w : World} (h : CuD D c w) (hE : D ≤ E) (hw : E ≤ w.heap.size) : CuD E c w := by
  obtain ⟨hc, hl, a, len, cap, z, s, h, hr⟩ := h
  exact ⟨Nat.lt_of_lt_of_le hc hE, hw, a, len, cap, z, s, h, fun x e hl => Nat.lt_of_lt_of_le (hr x e hl) hE⟩

def DrewD (P : Int → Prop) (D c : Nat) (w : World) (e : Ending) (w' : World) : Prop := ∃ x : Int, P x ∧ e = .returned (.int .i64 x) ∧ CuD D c w' ∧ Only c w w'
/-- a truth value drawn. -/
def DrewB (D c : Nat) (w : World) (e : Ending) (w' : World) : Prop := ∃ x : Bool, e = .returned (.bool x) ∧ CuD D c w' ∧ Only c w w'
theorem newC (a : Option Addr) (len cap : Nat) (z : List Int) (w : World) (h : CodeIn a len z w) :
    Calls Try.prog 31 #[.slice a len cap] w fun e w' => ∃ c, e = .returned (.pointer (some ⟨c, 0, none⟩)) ∧ w.heap.size ≤ c ∧ CuD w'.heap.size c w' ∧ Below w.heap.size w w' :=
  (newE a len cap z w h).mono fun _ _ ⟨c, h1, h2, h3, h4⟩ => ⟨c, h1, h2, h3.toD, h4⟩
theorem belowC (D c : Nat) (n : Int) (hn : 0 < n) (hn2 : n ≤ 9223372036854775807) (w : World) (h : CuD D c w) :
    Calls Try.prog 54 #[.pointer (some ⟨c, 0, none⟩), .int .i64 n] w (DrewD (fun x => 0 ≤ x ∧ x < n) D c w) := by
  obtain ⟨hc, hl, a, len, cap, z, s, h, hr⟩ := h
  exact (below_any c a len cap z s n hn hn2 w h).mono fun _ _ ⟨h1, h2, h3⟩ => ⟨_, belowD_bd len z n s hn, h1, ⟨hc, Nat.le_trans hl h3.size, a, len, cap, z, _, h2, hr⟩, h3⟩
theorem byteC (D c : Nat) (w : World) (h : CuD D c w) :
    Calls Try.prog 72 #[.pointer (some ⟨c, 0, none⟩)] w (DrewD (fun x => 0 ≤ x ∧ x < 256) D c w) := by
  obtain ⟨hc, hl, a, len, cap, z, s, h, hr⟩ := h
  exact (byte_any c a len cap z s w h).mono fun _ _ ⟨h1, h2, h3⟩ => ⟨_, byteD_bd len z s, h1, ⟨hc, Nat.le_trans hl h3.size, a, len, cap, z, _, h2, hr⟩, h3⟩
theorem onceC (D c : Nat) (n : Int) (hn : 0 < n) (hn2 : n ≤ 9223372036854775807) (w : World) (h : CuD D c w) :
    Calls Try.prog 33 #[.pointer (some ⟨c, 0, none⟩), .int .i64 n] w (DrewB D c w) := by
  obtain ⟨hc, hl, a, len, cap, z, s, h, hr⟩ := h
  exact (once_any c a len cap z s n hn hn2 w h).mono fun _ _ ⟨h1, h2, h3⟩ => ⟨_, h1, ⟨hc, Nat.le_trans hl h3.size, a, len, cap, z, _, h2, hr⟩, h3⟩
theorem pickC (D c b : Nat) (zs : List Int) (n : Nat) (hn : zs.length = n) (h0 : 0 < n) (h1 : n ≤ 1000) (hbc : b ≠ c) (w : World) (hz : Ints b zs w) (h : CuD D c w) :
    Calls Try.prog 55 #[.pointer (some ⟨c, 0, none⟩), .slice (some ⟨b, 0, none⟩) n n] w (DrewD (fun x => x ∈ zs) D c w) := by
  obtain ⟨hc, hl, a, len, cap, z, s, h, hr⟩ := h
  refine (pickInt_any c a len cap z s b zs n hn h0 h1 hbc w hz h).mono fun _ _ ⟨h1, h2, h3⟩ => ⟨_, ?_, h1, ⟨hc, Nat.le_trans hl h3.size, a, len, cap, z, _, h2, hr⟩, h3⟩
  have hb := belowD_bd len z n s (by omega)
  have : (belowD len z n s).1.toNat < zs.length := by omega
  simp [List.getD, this]
/-- a draw, then something from the draw's own blocks on. -/
theorem Only.transD {c : Nat} {w w1 w2 : World} (h : Only c w w1) (k : Below w.heap.size w1 w2) : Only c w w2 := h.transB k
/-- the draw of a number out of a literal list. -/
theorem pickLit (D c : Nat) (zs : List Int) (n : Nat) (hn : zs.length = n) (h0 : 0 < n) (h1 : n ≤ 1000) (w : World) (h : CuD D c w) (xs : Array Value) (hx : xs = (zs.map (Value.int .i64)).toArray) :
    Calls Try.prog 55 #[.pointer (some ⟨c, 0, none⟩), .slice (some ⟨w.heap.size, 0, none⟩) n n] (w.alloc (.cells xs 3)) (DrewD (fun x => x ∈ zs) D c w) := by
  have hcw : w.heap.size ≠ c := by have := h.lt; have := h.le; omega
  refine (pickC D c w.heap.size zs n hn h0 h1 hcw _ (Ints.new w zs xs hx) (h.alloc _)).mono fun _ _ ⟨x, p1, p2, p3, p4⟩ => ⟨x, p1, p2, p3, ((Only.refl c w).alloc _).trans p4⟩
end Go.Proofs.Ytddbhokfjdgabaa.Cur
