
/-
  A post as it lies in memory, with its list of numbers; rows of posts that can be read, and rows of posts of the call's own.
-/
import Derived.Test.YtijilhaoknpeeaaConf1
import Derived.Test.YtijilhaoknpeeaaReq
namespace Go.Proofs.Ytijilhaoknpeeaa.Num
open Go.RowKit GR Rows3

/-- a post. -/
structure PC where
  t : Int
  who : Int
  wr : Bool
  ad : Int
  sz : Int
  bu : Int
  lk : Bool
  da : List Int
def pc0 : PC := ⟨0, 0, false, 0, 0, 0, false, []⟩
/-- a post's cells; its list is the slice v. -/
def pvE (x : PC × Value) : List Value := [.int .i64 x.1.t, .int .i64 x.1.who, .bool x.1.wr, .int .i64 x.1.ad, .int .i64 x.1.sz, .int .i64 x.1.bu, .bool x.1.lk, x.2]
def pvK : Kd (PC × Value) := ⟨8, pvE, fun _ => rfl⟩
def pv0 : PC × Value := (pc0, .slice none 0 0)
theorem size_pv : pvK.k = 8 := rfl
theorem pv_at {b o i : Nat} {x : PC × Value} {w : World} (h : ∀ j u, (pvK.enc x)[j]? = some u → w.cell? ⟨b, o + i * pvK.k + j, none⟩ = some u) :
    w.cell? ⟨b, o + i * 8, none⟩ = some (.int .i64 x.1.t) ∧ w.cell? ⟨b, o + i * 8 + 1, none⟩ = some (.int .i64 x.1.who) ∧ w.cell? ⟨b, o + i * 8 + 2, none⟩ = some (.bool x.1.wr) ∧ w.cell? ⟨b, o + i * 8 + 3, none⟩ = some (.int .i64 x.1.ad) ∧
    w.cell? ⟨b, o + i * 8 + 4, none⟩ = some (.int .i64 x.1.sz) ∧ w.cell? ⟨b, o + i * 8 + 5, none⟩ = some (.int .i64 x.1.bu) ∧ w.cell? ⟨b, o + i * 8 + 6, none⟩ = some (.bool x.1.lk) ∧ w.cell? ⟨b, o + i * 8 + 7, none⟩ = some x.2 :=
  ⟨h 0 _ rfl, h 1 _ rfl, h 2 _ rfl, h 3 _ rfl, h 4 _ rfl, h 5 _ rfl, h 6 _ rfl, h 7 _ rfl⟩
theorem pv_at0 {b i : Nat} {x : PC × Value} {w : World} (h : ∀ j u, (pvK.enc x)[j]? = some u → w.cell? ⟨b, i * pvK.k + j, none⟩ = some u) :
    w.cell? ⟨b, i * 8, none⟩ = some (.int .i64 x.1.t) ∧ w.cell? ⟨b, i * 8 + 1, none⟩ = some (.int .i64 x.1.who) ∧ w.cell? ⟨b, i * 8 + 2, none⟩ = some (.bool x.1.wr) ∧ w.cell? ⟨b, i * 8 + 3, none⟩ = some (.int .i64 x.1.ad) ∧
    w.cell? ⟨b, i * 8 + 4, none⟩ = some (.int .i64 x.1.sz) ∧ w.cell? ⟨b, i * 8 + 5, none⟩ = some (.int .i64 x.1.bu) ∧ w.cell? ⟨b, i * 8 + 6, none⟩ = some (.bool x.1.lk) ∧ w.cell? ⟨b, i * 8 + 7, none⟩ = some x.2 :=
  ⟨h 0 _ rfl, h 1 _ rfl, h 2 _ rfl, h 3 _ rfl, h 4 _ rfl, h 5 _ rfl, h 6 _ rfl, h 7 _ rfl⟩
theorem info_pv3 : (Try.prog.info? 92).map (fun i => (i.zero, i.size, i.bytes)) = some (some (.agg #[.int .i64 0, .int .i64 0, .bool false, .int .i64 0, .int .i64 0, .int .i64 0, .bool false, .slice none 0 0]), 8, 80) := by kernel_rfl
theorem info_pv : (Try.prog.info? 92).map (fun i => (i.zero, i.size)) = some (some (.agg #[.int .i64 0, .int .i64 0, .bool false, .int .i64 0, .int .i64 0, .int .i64 0, .bool false, .slice none 0 0]), 8) := by kernel_rfl
theorem bytes_pv : ((Try.prog.info? 92).map (fun i => decide (i.bytes ≤ 1000))) = some true := by kernel_rfl
/-- the same of every element. -/
def ElR (lv : List (PC × Value)) (w : World) : Prop := ∀ x ∈ lv, RdI x.2 x.1.da w
def ElO (B : Nat) (lv : List (PC × Value)) (w : World) : Prop := ∀ x ∈ lv, OwnI B x.2 x.1.da w
/-- no two lie in one block. -/
def Ap (lv : List (PC × Value)) : Prop := lv.Pairwise fun x y => ∀ k, x.2.ownBlock = some k → y.2.ownBlock ≠ some k
theorem ElR.below {lv : List (PC × Value)} {w w' : World} (h : ElR lv w) (hb : Below w.heap.size w w') : ElR lv w' := fun x hx => (h x hx).below hb
theorem ElO.later {B : Nat} {lv : List (PC × Value)} {w w' : World} (h : ElO B lv w) (hb : Below w.heap.size w w') : ElO B lv w' := fun x hx => (h x hx).later hb
theorem ElO.mono {B B' : Nat} {lv : List (PC × Value)} {w : World} (h : ElO B lv w) (hB : B' ≤ B) : ElO B' lv w := fun x hx => (h x hx).mono hB
theorem ElO.rd {B : Nat} {lv : List (PC × Value)} {w : World} (h : ElO B lv w) : ElR lv w := fun x hx => (h x hx).rd
theorem own_apart {B : Nat} {v : Value} {l : List Int} {w : World} (h : OwnI B v l w) {a : Addr} (ha : v.ownBlock ≠ some a.block) (u : Value) : OwnI B v l (w.setCell a u) := by
  obtain ⟨h1, h2⟩ := h
  refine ⟨h1, ?_⟩
  rcases h2 with h2 | ⟨g, cp, cur, rfl, hb, hg, rest⟩
  · exact .inl h2
  · exact .inr ⟨g, cp, cur, rfl, hb, by rw [Below.heap_setCell w a u g (fun e => ha (by rw [← e]; rfl))]; exact hg, rest⟩
theorem own_apart_sets {B : Nat} {v : Value} {l : List Int} {g : Nat} (us : List Value) : ∀ {w : World} (p : Nat), OwnI B v l w → v.ownBlock ≠ some g → OwnI B v l (setsW w g p us) := by
  induction us with
  | nil => intro w p h _; exact h
  | cons u us ih => intro w p h hg; exact ih (p + 1) (own_apart h (a := ⟨g, p, none⟩) hg u) hg
theorem ElO.sets {B : Nat} {lv : List (PC × Value)} {w : World} {g : Nat} (h : ElO B lv w) (hg : g < B) (p : Nat) (us : List Value) : ElO B lv (setsW w g p us) := fun x hx =>
  own_apart_sets us p (h x hx) (fun e => by have := (World.ownsRow.lt (h x hx) g e).1; omega)
/-- a row of posts that can be read. -/
def RdP (v : Value) (l : List PC) (w : World) : Prop := ∃ lv : List (PC × Value), lv.map (·.1) = l ∧ Rd pvK v lv w ∧ ElR lv w
theorem RdP.below {v : Value} {l : List PC} {w w' : World} (h : RdP v l w) (hb : Below w.heap.size w w') : RdP v l w' := by
  obtain ⟨lv, e, h1, h2⟩ := h; exact ⟨lv, e, h1.below hb, h2.below hb⟩
theorem RdP.alloc {v : Value} {l : List PC} {w : World} (h : RdP v l w) (o : Obj) : RdP v l (w.alloc o) := h.below ((Below.refl _ _).alloc (Nat.le_refl _) o)
theorem RdP.slice {v : Value} {l : List PC} {w : World} (h : RdP v l w) : ∃ ad cap, v = .slice ad l.length cap := by
  obtain ⟨lv, rfl, h1, _⟩ := h; rw [List.length_map]; exact h1.slice
/-- a row of posts of the call's own. -/
def OwnP (B : Nat) (v : Value) (l : List PC) (w : World) : Prop := ∃ lv : List (PC × Value), lv.map (·.1) = l ∧ Own pvK 92 B v lv w ∧ ElO B lv w ∧ Ap lv
theorem OwnP.later {B : Nat} {v : Value} {l : List PC} {w w' : World} (h : OwnP B v l w) (hb : Below w.heap.size w w') : OwnP B v l w' := by
  obtain ⟨lv, e, h1, h2, h3⟩ := h; exact ⟨lv, e, h1.later hb, h2.later hb, h3⟩
theorem OwnP.mono {B B' : Nat} {v : Value} {l : List PC} {w : World} (h : OwnP B v l w) (hB : B' ≤ B) : OwnP B' v l w := by
  obtain ⟨lv, e, h1, h2, h3⟩ := h; exact ⟨lv, e, h1.mono hB, h2.mono hB, h3⟩
theorem OwnP.rd {B : Nat} {v : Value} {l : List PC} {w : World} (h : OwnP B v l w) : RdP v l w := by
  obtain ⟨lv, e, h1, h2, h3⟩ := h; exact ⟨lv, e, h1.rd, h2.rd⟩
theorem OwnP.slice {B : Nat} {v : Value} {l : List PC} {w : World} (h : OwnP B v l w) : ∃ ad cap, v = .slice ad l.length cap := h.rd.slice
theorem OwnP.setBelow {B : Nat} {v : Value} {l : List PC} {w : World} (h : OwnP B v l w) {a : Addr} (ha : a.block < B) (u : Value) : OwnP B v l (w.setCell a u) := by
  obtain ⟨lv, e, h1, h2, h3⟩ := h
  exact ⟨lv, e, h1.setBelow ha u, fun x hx => Num.setBelow (h2 x hx) ha u, h3⟩
/-- one more, made behind the others. -/
theorem Ap.push {B C : Nat} {lv : List (PC × Value)} {w : World} (h : Ap lv) (h1 : ElO B lv w) {x : PC × Value} {w' : World} (hx : OwnI C x.2 x.1.da w') (hC : w.heap.size ≤ C) : Ap (lv ++ [x]) := by
  refine List.pairwise_append.2 ⟨h, List.pairwise_singleton _ _, ?_⟩
  intro a ha b hb k hk e
  obtain rfl : b = x := by simpa using hb
  have h2 := (World.ownsRow.lt (h1 a ha) k hk).2
  have h3 := (World.ownsRow.lt hx k e).1
  omega
theorem ElO.push {B : Nat} {lv : List (PC × Value)} {w : World} (h : ElO B lv w) {x : PC × Value} (hx : OwnI B x.2 x.1.da w) : ElO B (lv ++ [x]) w := by
  intro y hy
  rcases List.mem_append.1 hy with h1 | h1
  · exact h y h1
  · obtain rfl : y = x := by simpa using h1
    exact hx
theorem ElO.nil (B : Nat) (w : World) : ElO B [] w := fun x hx => by cases hx
theorem Ap.nil : Ap [] := List.Pairwise.nil
theorem push_set {α : Type} {done : List α} {n k : Nat} {z x : α} (hd : done.length = k) (hk : k < n) : (done ++ List.replicate (n - k) z).set k x = (done ++ [x]) ++ List.replicate (n - (k + 1)) z := by
  subst hd
  rw [List.set_append_right (s := done) (t := List.replicate (n - done.length) z) done.length x (Nat.le_refl _), Nat.sub_self]
  obtain ⟨d, hd⟩ : ∃ d, n - done.length = d + 1 := ⟨n - done.length - 1, by omega⟩
  rw [hd, show n - (done.length + 1) = d by omega, List.replicate_succ, List.append_assoc]
  rfl
theorem map_push {lv done : List (PC × Value)} {k : Nat} {x : PC × Value} {u : Value} (hd : done.map (·.1) = (lv.map (·.1)).take k) (hx : lv[k]? = some x) : (done ++ [(x.1, u)]).map (·.1) = (lv.map (·.1)).take (k + 1) := by
  obtain ⟨h, rfl⟩ := List.getElem?_eq_some_iff.1 hx
  rw [List.map_append, hd, List.take_succ_eq_append_getElem (by simpa using h)]
  simp
theorem mem_of {lv : List (PC × Value)} {k : Nat} {x : PC × Value} (hx : lv[k]? = some x) : x ∈ lv := List.mem_of_getElem? hx
end Go.Proofs.Ytijilhaoknpeeaa.Num
