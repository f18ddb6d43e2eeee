
/-
  A new bus as data; its cells. (Made by wip/gbnew.py.)
-/
import Derived.Test.YtdhaelaoackfkaaKBus
import Derived.Test.YtdhaelaoackfkaaBNew1
import Derived.Test.YtdhaelaoackfkaaBigS
import Derived.Test.YtdhaelaoackfkaaMod2
namespace Go.Proofs.Ytdhaelaoackfkaa.KD
open Go.RowKit Rows3 GR Num
set_option linter.unusedVariables false
/-- the cells of a new bus. -/
def busA (v0 : Value) (q mw mr ms lm : Int) (v7 v10 v11 : Value) (ho la : Int) (v31 v32 v34 : Value) : Array Value :=
  #[v0, .int .i64 q, .int .i64 mw, .int .i64 mr, .int .i64 ms, .int .i64 lm, .int .i64 0, v7, .int .i64 0, .int .i64 0, v10, v11, .int .i64 ho, .int .i64 0, .int .i64 la, .bool false, .int .i64 0, .int .i64 0, .bool false, .int .i64 0, .int .i64 0, .int .i64 0, .bool false, .bool false, .int .i64 0, .int .i64 0, .bool false, .int .i64 0, .int .i64 0, .int .i64 0, .bool false, v31, v32, .int .i64 0, v34, .int .i64 0, .slice none 0 0]
/-- a new bus as data. -/
def busW (l : List (Int × Bool × Int × Int)) (q mw mr ms lm : Int) (M : List (List (Bool × Int × Int × Int × Bool × List Int) × Int × Int × Int × Bool × Bool)) (bk : List (Int × Int)) (sp : List Int) (ho la : Int) (mem rg ff : List Int) : (List (Int × Bool × Int × Int) × Int × Int × Int × Int × Int) × Int × List (List (Bool × Int × Int × Int × Bool × List Int) × Int × Int × Int × Bool × Bool) × (Int × Int) × List (Int × Int) × List Int × Int × Int × Int × (Bool × Int × Int × Bool × Int × Int × Int × Bool) × (Bool × Int × Int × Bool × Int × Int × Int × Bool) × (List Int × (List Int × Int × List Int)) × Int × List (Int × Int × Bool × Int × Int × Int × Int) :=
  ((l, q, mw, mr, ms, lm), 0, M, (0, 0), bk, sp, ho, 0, la, (false, 0, 0, false, 0, 0, 0, false), (false, 0, 0, false, 0, 0, 0, false), (mem, (rg, 0, ff)), 0, [])
def mst0 : List (Bool × Int × Int × Int × Bool × List Int) × Int × Int × Int × Bool × Bool := ([], 0, 0, 0, false, false)
def bkt (x : Int × Bool × Int × Int) : Int × Int := (newB x.2.1 x.2.2.2, 0)
/-- what BusNew returns. -/
def newBus (c : ConfX) : ((List (Int × Bool × Int × Int) × Int × Int × Int × Int × Int) × Int × List (List (Bool × Int × Int × Int × Bool × List Int) × Int × Int × Int × Bool × Bool) × (Int × Int) × List (Int × Int) × List Int × Int × Int × Int × (Bool × Int × Int × Bool × Int × Int × Int × Bool) × (Bool × Int × Int × Bool × Int × Int × Int × Bool) × (List Int × (List Int × Int × List Int)) × Int × List (Int × Int × Bool × Int × Int × Int × Int)) × Bool :=
  if okX c then (busW c.1 c.2.1 c.2.2.1 c.2.2.2.1 c.2.2.2.2.1 c.2.2.2.2.2 (List.replicate c.1.length mst0) (c.1.map bkt) (List.replicate c.1.length 0) (-1) (-1) (List.replicate 192 0) [0, 0, 0, 0] [], true)
  else (busW [] 0 0 0 0 0 [] [] [] 0 0 [] [] [], false)
theorem newBus_no {l : List (Int × Bool × Int × Int)} {q mw mr ms lm : Int} (h : okX (l, q, mw, mr, ms, lm) = false) : newBus (l, q, mw, mr, ms, lm) = (busW [] 0 0 0 0 0 [] [] [] 0 0 [] [] [], false) := by unfold newBus; rw [h]; rfl
theorem newBus_yes {l : List (Int × Bool × Int × Int)} {q mw mr ms lm : Int} (h : okX (l, q, mw, mr, ms, lm) = true) : newBus (l, q, mw, mr, ms, lm) = (busW l q mw mr ms lm (List.replicate l.length mst0) (l.map bkt) (List.replicate l.length 0) (-1) (-1) (List.replicate 192 0) [0, 0, 0, 0] [], true) := by unfold newBus; rw [h]; rfl
theorem busA_size (v0 : Value) (q mw mr ms lm : Int) (v7 v10 v11 : Value) (ho la : Int) (v31 v32 v34 : Value) : (busA v0 q mw mr ms lm v7 v10 v11 ho la v31 v32 v34).size = 37 := rfl
theorem busA_at7 (v0 : Value) (q mw mr ms lm : Int) (v7 v10 v11 : Value) (ho la : Int) (v31 v32 v34 : Value) : (busA v0 q mw mr ms lm v7 v10 v11 ho la v31 v32 v34)[7]? = some v7 := rfl
theorem busA_at10 (v0 : Value) (q mw mr ms lm : Int) (v7 v10 v11 : Value) (ho la : Int) (v31 v32 v34 : Value) : (busA v0 q mw mr ms lm v7 v10 v11 ho la v31 v32 v34)[10]? = some v10 := rfl
theorem busA_at11 (v0 : Value) (q mw mr ms lm : Int) (v7 v10 v11 : Value) (ho la : Int) (v31 v32 v34 : Value) : (busA v0 q mw mr ms lm v7 v10 v11 ho la v31 v32 v34)[11]? = some v11 := rfl
theorem busA_set7 (v0 : Value) (q mw mr ms lm : Int) (v7 v10 v11 : Value) (ho la : Int) (v31 v32 v34 v : Value) : (busA v0 q mw mr ms lm v7 v10 v11 ho la v31 v32 v34).setIfInBounds 7 v = busA v0 q mw mr ms lm v v10 v11 ho la v31 v32 v34 := rfl
theorem busA_set10 (v0 : Value) (q mw mr ms lm : Int) (v7 v10 v11 : Value) (ho la : Int) (v31 v32 v34 v : Value) : (busA v0 q mw mr ms lm v7 v10 v11 ho la v31 v32 v34).setIfInBounds 10 v = busA v0 q mw mr ms lm v7 v v11 ho la v31 v32 v34 := rfl
theorem busA_set11 (v0 : Value) (q mw mr ms lm : Int) (v7 v10 v11 : Value) (ho la : Int) (v31 v32 v34 v : Value) : (busA v0 q mw mr ms lm v7 v10 v11 ho la v31 v32 v34).setIfInBounds 11 v = busA v0 q mw mr ms lm v7 v10 v ho la v31 v32 v34 := rfl
theorem busA_ones {v0 : Value} {q mw mr ms lm : Int} {v7 v10 v11 : Value} {ho la : Int} {v31 v32 v34 : Value} (h0 : v0.oneCell' = true) (h7 : v7.oneCell' = true) (h10 : v10.oneCell' = true) (h11 : v11.oneCell' = true) (h31 : v31.oneCell' = true) (h32 : v32.oneCell' = true) (h34 : v34.oneCell' = true) : (busA v0 q mw mr ms lm v7 v10 v11 ho la v31 v32 v34).all (·.oneCell') = true := by
  unfold busA
  rw [List.all_toArray]
  simp only [List.all_cons, h0, h7, h10, h11, h31, h32, h34, List.all_nil, Bool.and_true, Bool.true_and]
  rfl
theorem bus_info : (Try.prog.info? 42).map (·.size) = some 37 := by kernel_rfl
theorem busA_info (v0 : Value) (q mw mr ms lm : Int) (v7 v10 v11 : Value) (ho la : Int) (v31 v32 v34 : Value) : (Try.prog.info? 42).map (·.size) = some (busA v0 q mw mr ms lm v7 v10 v11 ho la v31 v32 v34).size := bus_info
theorem busA_cap {F F0 F7 F10 F11 FM : Foot} {v0 v7 v10 v11 v31 v32 v34 : Value} {q mw mr ms lm ho la : Int} {l : List (Int × Bool × Int × Int)} {M : List (List (Bool × Int × Int × Int × Bool × List Int) × Int × Int × Int × Bool × Bool)} {bk : List (Int × Int)} {sp mem rg ff : List Int} {w : World}
    (h0 : mConfS.cap F0 [v0] l w) (h7 : mstS.cap F7 [v7] M w) (h10 : bucketS.cap F10 [v10] bk w) (h11 : ints.cap F11 [v11] sp w) (hM : modelK.cap FM [v31, v32, .int .i64 0, v34] (mem, (rg, 0, ff)) w)
    (s0 : ∀ k, F0 k → F k) (s7 : ∀ k, F7 k → F k) (s10 : ∀ k, F10 k → F k) (s11 : ∀ k, F11 k → F k) (sM : ∀ k, FM k → F k)
    (d0_7 : ∀ k, F0 k → ¬ F7 k) (d0_10 : ∀ k, F0 k → ¬ F10 k) (d0_11 : ∀ k, F0 k → ¬ F11 k) (d0_M : ∀ k, F0 k → ¬ FM k) (d7_10 : ∀ k, F7 k → ¬ F10 k) (d7_11 : ∀ k, F7 k → ¬ F11 k) (d7_M : ∀ k, F7 k → ¬ FM k) (d10_11 : ∀ k, F10 k → ¬ F11 k) (d10_M : ∀ k, F10 k → ¬ FM k) (d11_M : ∀ k, F11 k → ¬ FM k) :
    busK.cap F (busA v0 q mw mr ms lm v7 v10 v11 ho la v31 v32 v34).toList (busW l q mw mr ms lm M bk sp ho la mem rg ff) w := by
  obtain ⟨a31, p31, a32, p32, a34, p34, G31, G32, G34, e, q_x110, q_x1110, q_x1112, s_x110, s_x1110, s_x1112, u_x110_x1110, u_x110_x1112, u_x1110_x1112⟩ := cap_model hM
  simp only [List.cons.injEq, and_true, true_and] at e
  obtain ⟨rfl, rfl, rfl⟩ := e
  exact bus_cap (Fx13 := fun _ => False) h0 h7 h10 h11 q_x110 q_x1110 q_x1112 (row_nil _ w) s0 s7 s10 s11 (fun k hk => sM k (s_x110 k hk)) (fun k hk => sM k (s_x1110 k hk)) (fun k hk => sM k (s_x1112 k hk)) (fun _ hk => hk.elim) d0_7 d0_10 d0_11 (fun k hk hk2 => d0_M k hk (s_x110 k hk2)) (fun k hk hk2 => d0_M k hk (s_x1110 k hk2)) (fun k hk hk2 => d0_M k hk (s_x1112 k hk2)) (fun _ _ hk => hk.elim) d7_10 d7_11 (fun k hk hk2 => d7_M k hk (s_x110 k hk2)) (fun k hk hk2 => d7_M k hk (s_x1110 k hk2)) (fun k hk hk2 => d7_M k hk (s_x1112 k hk2)) (fun _ _ hk => hk.elim) d10_11 (fun k hk hk2 => d10_M k hk (s_x110 k hk2)) (fun k hk hk2 => d10_M k hk (s_x1110 k hk2)) (fun k hk hk2 => d10_M k hk (s_x1112 k hk2)) (fun _ _ hk => hk.elim) (fun k hk hk2 => d11_M k hk (s_x110 k hk2)) (fun k hk hk2 => d11_M k hk (s_x1110 k hk2)) (fun k hk hk2 => d11_M k hk (s_x1112 k hk2)) (fun _ _ hk => hk.elim) u_x110_x1110 u_x110_x1112 (fun _ _ hk => hk.elim) u_x1110_x1112 (fun _ _ hk => hk.elim) (fun _ _ hk => hk.elim)
theorem busZ_cap (F : Foot) (w : World) : busK.cap F (busA (.slice none 0 0) 0 0 0 0 0 (.slice none 0 0) (.slice none 0 0) (.slice none 0 0) 0 0 (.slice none 0 0) (.slice none 0 0) (.slice none 0 0)).toList (busW [] 0 0 0 0 0 [] [] [] 0 0 [] [] []) w :=
  busA_cap (F0 := fun _ => False) (F7 := fun _ => False) (F10 := fun _ => False) (F11 := fun _ => False) (FM := fun _ => False) (row_nil _ w) (row_nil _ w) (row_nil _ w) (cap_nil _ w) (model_cap (cap_nil (fun _ => False) w) (cap_nil (fun _ => False) w) (cap_nil (fun _ => False) w) (fun _ h => h.elim) (fun _ h => h.elim) (fun _ h => h.elim) (fun _ h _ => h.elim) (fun _ h _ => h.elim) (fun _ h _ => h.elim)) (fun _ h => h.elim) (fun _ h => h.elim) (fun _ h => h.elim) (fun _ h => h.elim) (fun _ h => h.elim) (fun _ h _ => h.elim) (fun _ h _ => h.elim) (fun _ h _ => h.elim) (fun _ h _ => h.elim) (fun _ h _ => h.elim) (fun _ h _ => h.elim) (fun _ h _ => h.elim) (fun _ h _ => h.elim) (fun _ h _ => h.elim) (fun _ h _ => h.elim)
theorem bus_built0 : Try.prog.built 42 [] = some (busA (.slice none 0 0) 0 0 0 0 0 (.slice none 0 0) (.slice none 0 0) (.slice none 0 0) 0 0 (.slice none 0 0) (.slice none 0 0) (.slice none 0 0)) := by kernel_rfl
theorem wp_build_on {P : Program} {o : Oper} {a : Act} {w : World} {K : Act → World → Prop} {Q : Exit → Act → World → Prop} (t : TypeId) (parts : Array (Nat × Operand)) (ho : o.op = .build t parts) (cells : Array Value)
    (hf : P.built t (parts.map fun (i, x) => (i, a.eval x)).toList = some cells) (h : K (a.put o.dst (.agg cells)) w) : o.wp P a w K Q :=
  wp_build t parts ho (by rw [hf]; rfl) (by rw [hf]; exact h)
theorem results_cell2 {P : Program} {fn : Func} {a d : Tmp} {t : TypeId} (h : fn.results = #[.cell a t, .tmp d]) (tmps : Array Value) (w : World) (g : Nat) (v u : Value) (ha : tmps.getD a undef = .pointer (some ⟨g, 0, none⟩)) (hd : tmps.getD d undef = u) (hrun : (loadVar t ⟨g, 0, none⟩).run P w = .ok v w) : (results fn tmps).run P w = .ok (.tuple #[v, u]) w := by
  have h2 : (asAddr (.pointer (some ⟨g, 0, none⟩))).run P w = .ok ⟨g, 0, none⟩ w := rfl
  unfold results
  rw [h]
  rw [Array.getD_eq_getD_getElem?] at ha hd
  simp [Sem.run_bind, ha, hd, h2, hrun]
end Go.Proofs.Ytdhaelaoackfkaa.KD
