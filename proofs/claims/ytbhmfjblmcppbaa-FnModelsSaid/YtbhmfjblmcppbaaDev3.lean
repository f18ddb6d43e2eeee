
/-
  append to an empty row of a literal; the model's own copy of a device.
-/
import Derived.Test.YtbhmfjblmcppbaaDev2
import Derived.Deep.RegionHeld3
namespace Go.Proofs.Ytbhmfjblmcppbaa.KD
open Go.RowKit Rows3 GR Num
set_option linter.unusedVariables false

theorem cells3 {T : TypeId} {b : Nat} {c0 c1 c2 : Value} {w : World} (h : Bx T b #[c0, c1, c2] w) :
    w.cell? ⟨b, 0, none⟩ = some c0 ∧ w.cell? ⟨b, 1, none⟩ = some c1 ∧ w.cell? ⟨b, 2, none⟩ = some c2 := ⟨h.cell 0 _ rfl, h.cell 1 _ rfl, h.cell 2 _ rfl⟩
theorem new_at {W : World} {o : Obj} {k : Nat} (h : W.heap.size = k) : (W.alloc o).heap[k]? = some o := by subst h; exact heap_alloc_new W o
theorem bx_new {W : World} {xs : Array Value} {T : TypeId} {k : Nat} (h : W.heap.size = k) : Bx T k xs (W.alloc (.cells xs T)) := new_at h
theorem bx_undrew {W : World} {xs : Array Value} {T : TypeId} {k : Nat} (h : Bx T k xs W) : Bx T k xs W.drew := h
/-- append([]int{}, src...): the old block stays as it is. -/
theorem run_append_empty (t ty : TypeId) (ht : Try.prog.underlying t = some (.slice 3)) (g : Nat) (u : Value) (m : List Int) (w : World) (hg : w.heap[g]? = some (.cells #[] 3)) (hu : RdI u m w) (hl : m.length ≤ 17592186044416) :
    ∃ v' w', (Builtin.append_ #[t, t] ty #[.slice (some ⟨g, 0, none⟩) 0 0, u]).run Try.prog w = .ok v' w' ∧ OwnI g v' m w' ∧ Below w.heap.size w w' ∧ ∀ k, v'.ownBlock = some k → k = g ∨ w.heap.size ≤ k := by
  obtain ⟨i, hi, hz, hsz, hby⟩ := info_parts info_int
  have hlt : g < w.heap.size := (Array.getElem?_eq_some_iff.1 hg).1
  have hown : w.ownsRow g 3 1 (.slice (some ⟨g, 0, none⟩) 0 0) 0 [] := ⟨rfl, .inr ⟨g, 0, #[], rfl, Nat.le_refl _, hg, Nat.le_refl _, Nat.zero_le _, rfl, rfl⟩⟩
  have hr := hu
  obtain ⟨ad, cp, rfl, hr⟩ := hr
  by_cases hm : m = []
  · subst hm
    have own : OwnI g (.slice (some ⟨g, 0, none⟩) 0 0) [] w := hown
    cases ad with
    | none => exact ⟨_, w, run_append_none g t ty 3 i 1 ht hi _ 0 cp [] w hown, own, Below.refl _ _, fun k hk => .inl (by simpa [Value.ownBlock] using hk.symm)⟩
    | some ad =>
      have h := run_append_room (P := Try.prog) w t ty 3 i ht hi g 0 0 #[] hg ad 0 cp [] (by simp) (fun j u hj => by simp at hj) (fun u hu => by cases hu) (Nat.le_refl _) (by simp)
      refine ⟨_, _, h, ?_, ?_, fun k hk => .inl (by simpa [Value.ownBlock] using hk.symm)⟩
      · exact ⟨rfl, .inr ⟨g, 0, _, rfl, Nat.le_refl _, setRow_heap w g #[] _ 3 _ hg, Nat.le_refl _, Nat.zero_le _, by simp, by simp [intCells]⟩⟩
      · refine ⟨rfl, rfl, rfl, by simp, fun k hk => ?_⟩
        by_cases hkg : k = g
        · subst hkg
          rw [setRow_heap w k #[] _ 3 _ hg, hg]; simp
        · exact setRow_other w g k _ hkg
  · obtain ⟨b, of, rfl, _, _⟩ := hr 0 (List.length_pos_iff.2 hm)
    have hn : ∀ j y, (intCells m)[j]? = some y → w.cell? ((⟨b, of, none⟩ : Addr).add j) = some y := by
      intro j y hj
      simp only [intCells, List.getElem?_map, Option.map_eq_some_iff] at hj
      obtain ⟨z, hz, rfl⟩ := hj
      obtain ⟨b', o', e, _, hc⟩ := hr j (List.getElem?_eq_some_iff.1 hz).1
      cases e
      rw [getD_some hz] at hc
      have e : (⟨b, of, none⟩ : Addr).add j = ⟨b, of + j, none⟩ := by unfold Addr.add; split <;> simp_all
      rw [e]; exact hc
    have hpos : 0 < m.length := List.length_pos_iff.2 hm
    obtain ⟨v', w', h1, h2, h3, h4⟩ := run_append_own (P := Try.prog) w g t ty 3 i (.int .i64 0) 1 8 ht hi hz hsz hby rfl (by decide) (.slice (some ⟨g, 0, none⟩) 0 0) 0 [] hown ⟨b, of, none⟩ m.length cp (intCells m) (by simp [intCells_length]) hn
      (fun z hz => by simp [intCells] at hz; obtain ⟨y, _, rfl⟩ := hz; rfl) (by unfold maxLen; omega) (by omega) (by omega)
    have hgrow := run_append_grow (P := Try.prog) w t ty 3 i (.int .i64 0) ht hi hz ⟨g, 0, none⟩ 0 0 [] (by simp) (fun j u hj => by simp at hj) ⟨b, of, none⟩ m.length cp (intCells m) (by rw [hsz]; simp [intCells_length]) hn (by omega) (by omega) (growslice_fits (by omega) (by rw [hby]; omega))
    have e := h1.symm.trans hgrow
    injection e with ev ew
    subst ev ew
    refine ⟨_, _, hgrow, ?_, ⟨rfl, rfl, rfl, by simp, fun k hk => heap_alloc_old w.drew _ hk⟩, fun k hk => .inr (by simp [Value.ownBlock] at hk; omega)⟩
    unfold OwnI
    simpa using h2
/-- one step of a region that draws. -/
theorem step_append_empty {ops : Array Oper} {o : Oper} {a : Act} {w : World} {K : Act → World → Prop} {Q : Exit → Act → World → Prop} {E : Prop} (hgd : o.guard = none) (s x : Operand)
    (ho : o.op = .call { callee := .builtin .append, args := #[s, x], argTypes := #[24, 24] }) (g : Nat) (u : Value) (m : List Int)
    (hs : a.eval s = .slice (some ⟨g, 0, none⟩) 0 0) (hx : a.eval x = u) (hg : w.heap[g]? = some (.cells #[] 3)) (hu : RdI u m w) (hl : m.length ≤ 17592186044416)
    (h : ∀ v' w', OwnI g v' m w' → Below w.heap.size w w' → (∀ k, v'.ownBlock = some k → k = g ∨ w.heap.size ≤ k) → K (a.put o.dst v') w') :
    if Region.wanted o (yielded ops a.tmps) = true then Oper.wp Try.prog o a w K Q else E := by
  have hw : Region.wanted o (yielded ops a.tmps) = true := by simp [Region.wanted, hgd]
  rw [if_pos hw]
  obtain ⟨v', w', hrun, h1, h2, h3⟩ := run_append_empty 24 o.type Try.underlying24 g u m w hg hu hl
  unfold Oper.wp
  simp [execOp, ho, resolve, invoke, builtin, hs, hx, hrun, Result.andThen]
  exact h v' w' h1 h2 h3
set_option maxHeartbeats 8000000 in
set_option maxRecDepth 100000 in
theorem specCopyDev (cs : List Value) (r : List Int) (t : Int) (f : List Int) (hr : r.length ≤ 2000000) (hf : f.length ≤ 2000000) (w : World) (h : devK.rd cs (r, t, f) w) :
    Calls Try.prog 69 #[agg cs] w (CopyD r t f w) := by
  obtain ⟨a0, p0, a2, p2, rfl, R0, R2, _, _⟩ := rd_dev h
  have H0 := Lib.hid R0
  have H2 := Lib.hid R2
  have hlr : r.length ≤ 17592186044416 := by omega
  have hlf : f.length ≤ 17592186044416 := by omega
  clear h R0 R2
  have hsz : ∀ (w : World) o, (w.alloc o).heap.size = w.heap.size + 1 := fun w o => by simp
  have A0 := Lib.hid ((Bx.new 26 #[.slice a0 r.length p0, .int .i64 t, .slice a2 f.length p2] w).alloc (Obj.cells #[.slice none 0 0, .int .i64 0, .slice none 0 0] 26))
  have B0 := Bx.new 26 #[.slice none 0 0, .int .i64 0, .slice none 0 0] (w.alloc (Obj.cells #[.slice a0 r.length p0, .int .i64 t, .slice a2 f.length p2] 26))
  rw [hsz] at B0
  have X0 := Lib.hid B0
  have HB0 := Lib.hid (((Below.refl w.heap.size w).alloc (Nat.le_refl _) (Obj.cells #[.slice a0 r.length p0, .int .i64 t, .slice a2 f.length p2] 26)).alloc (by simp) (Obj.cells #[.slice none 0 0, .int .i64 0, .slice none 0 0] 26))
  clear B0 hsz
  show Calls _ _ #[.agg #[.slice a0 r.length p0, .int .i64 t, .slice a2 f.length p2]] w _
  go_enter Try.func69, Try.ntmps69
  go_wp2_with fail
  generalize (w.alloc (Obj.cells #[.slice a0 r.length p0, .int .i64 t, .slice a2 f.length p2] 26)).alloc (Obj.cells #[.slice none 0 0, .int .i64 0, .slice none 0 0] 26) = y0 at A0 X0 HB0 ⊢
  obtain ⟨g0, g1, g2⟩ := cells3 A0.out
  have z0 := X0.out.warm 0
  have z1 := X0.out.warm 1
  have z2 := X0.out.warm 2
  obtain ⟨k0, k1, k2⟩ := cells3 X0.out
  have hlt := X0.out.lt
  have hlt0 : w.heap.size < y0.heap.size := by omega
  have hfz : ∀ (W : World) (o : Obj) (b i : Nat), b < W.heap.size → (W.alloc o).drew.frozen? ⟨b, i, none⟩ = W.frozen? ⟨b, i, none⟩ := fun W o b i hb => by
    have h : Below W.heap.size W (W.alloc o).drew := ((Below.refl _ W).alloc (Nat.le_refl _) o).drew
    exact h.frozen hb
  have hszd : ∀ (b : Nat) (W : World) (o : Obj), b < W.heap.size → b < (W.alloc o).drew.heap.size := fun b W o h => by
    have h2 : (W.alloc o).drew.heap.size = W.heap.size + 1 := by simp
    omega
  have hszw : ∀ (b : Nat) (W : World), b < W.heap.size → b < W.drew.heap.size := fun b W h => h
  have hfz2 : ∀ (W : World) (o : Obj) (b i : Nat), b < W.heap.size → (W.alloc o).frozen? ⟨b, i, none⟩ = W.frozen? ⟨b, i, none⟩ := fun W o b i hb => ((Below.refl _ W).alloc (Nat.le_refl _) o).frozen hb
  have hfzw : ∀ (W : World) (p : Addr), W.drew.frozen? p = W.frozen? p := fun W p => rfl

  have HR0 : Hid (RdI (.slice a0 r.length p0) r y0) := Lib.hid (H0.out.below HB0.out)
  have HR2 : Hid (RdI (.slice a2 f.length p2) f y0) := Lib.hid (H2.out.below HB0.out)
  go_region_held3 (fun w' => w.heap.size + 1 < w'.heap.size ∧ w'.cell? ⟨w.heap.size, 0, none⟩ = some (.slice a0 r.length p0) ∧ w'.cell? ⟨w.heap.size, 1, none⟩ = some (.int .i64 t) ∧ w'.cell? ⟨w.heap.size, 2, none⟩ = some (.slice a2 f.length p2)) (((try go_split_ands); refine ⟨by first | assumption | (simp; omega) | (simp; done), ?_⟩; go_keep)) (first
      | (refine step_append_empty rfl (.tmp 3) (.tmp 5) rfl _ _ r rfl rfl ?hg ?hu hlr ?_
         case hg => first | exact new_at rfl | (refine new_at ?_; simp; done) | exact Bx.alloc (bx_new rfl) _
         case hu => first | exact HR0.out.below ((Below.refl _ _).drew.alloc (by simp; done) _) | exact HR0.out.below ((Below.refl _ _).alloc (by simp; done) _) | exact HR0.out.below ((Below.refl _ _).alloc (by simp; done) _).drew | exact HR0.out.below (((Below.refl _ _).alloc (by simp; done) _).alloc (by simp; done) _) | exact HR0.out.below (((Below.refl _ _).alloc (by simp; done) _).alloc (by simp; done) _).drew | exact HR0.out.below (((Below.refl _ _).alloc (by simp; done) _).drew.alloc (by simp; done) _) | exact HR0.out.below (((Below.refl _ _).drew.alloc (by simp; done) _).alloc (by simp; done) _) | exact HR0.out.below (((Below.refl _ _).drew.alloc (by simp; done) _).drew.alloc (by simp; done) _)
         intro v3 w3 ho hb hd
         obtain ⟨ad3, cp3, rfl⟩ := ho.slice
         have hC : Below y0.heap.size y0 w3 := by
           first
           | exact ((Below.refl y0.heap.size y0).drew.alloc (by simp; done) _).trans (hb.mono (by simp; done))
           | exact (((Below.refl y0.heap.size y0).drew.alloc (by simp; done) _).drew.alloc (by simp; done) _).trans (hb.mono (by simp; omega))
           | exact (((Below.refl y0.heap.size y0).alloc (by simp; done) _).drew.alloc (by simp; done) _).trans (hb.mono (by simp; omega))
           | exact (((Below.refl y0.heap.size y0).drew.alloc (by simp; done) _).alloc (by simp; done) _).trans (hb.mono (by simp; omega))
           | exact (((Below.refl y0.heap.size y0).alloc (by simp; done) _).alloc (by simp; done) _).trans (hb.mono (by simp; omega))
           | exact ((Below.refl y0.heap.size y0).alloc (by simp; done) _).trans (hb.mono (by simp; done))
           | exact (((Below.refl y0.heap.size y0).alloc (by simp; done) _).drew).trans (hb.mono (by simp; done))
           | exact (((Below.refl y0.heap.size y0).alloc (by simp; done) _).alloc (by simp; done) _).drew.trans (hb.mono (by simp; omega))
         have ho3 := Lib.hid (ho.mono (B' := y0.heap.size) (by first | omega | (simp; done) | (simp; omega)))
         have hb3 := Lib.hid hb
         have hd3 := Lib.hid hd
         have hB3 := Lib.hid hC
         have hz3 := Lib.hid hC.size
         obtain ⟨j0, j1, j2⟩ := cells3 (A0.out.below hC hlt0)
         obtain ⟨j3, j4, j5⟩ := cells3 (X0.out.below hC hlt)
         have j6 := (X0.out.below hC hlt).warm 0
         have j7 := (X0.out.below hC hlt).warm 1
         have j8 := (X0.out.below hC hlt).warm 2
         have hs3 : w.heap.size + 1 < w3.heap.size := Nat.lt_of_lt_of_le hlt hC.size
         clear ho hb hd hC)
      | (refine step_append_empty rfl (.tmp 9) (.tmp 11) rfl _ _ f rfl rfl ?hg ?hu hlf ?_
         case hg => first
           | exact new_at rfl
           | (refine Bx.later ?_ hb3.out; first
             | (refine bx_new ?_; simp; done)
             | exact Bx.alloc (bx_new rfl) _
             | (refine bx_undrew ?_; first | (refine bx_new ?_; simp; done) | exact Bx.alloc (bx_new rfl) _))
         case hu => first | exact HR2.out.below hB3.out.drew | exact HR2.out.below (hB3.out.drew.alloc hz3.out _) | exact HR2.out.below (hB3.out.alloc hz3.out _) | exact HR2.out.below hB3.out
         intro v9 w9 ho9 hb9 hd9
         have hB9 : Below w3.heap.size w3 w9 := by
           first
           | exact (Below.refl w3.heap.size w3).drew.trans hb9
           | exact hb9
           | exact ((Below.refl w3.heap.size w3).drew.alloc (Nat.le_refl _) _).trans (hb9.mono (by simp; done))
           | exact ((Below.refl w3.heap.size w3).alloc (Nat.le_refl _) _).trans (hb9.mono (by simp; done))
         have hC9 := hB3.out.trans (hB9.mono hz3.out)
         obtain ⟨ad9, cp9, rfl⟩ := ho9.slice
         have OD := Lib.hid (show OwnDev y0.heap.size _ _ r f w9 from ⟨ho3.out.later hB9, ho9.mono (by have := hz3.out; simp; try omega), fun k h1 h2 => by
           have a1 := hd3.out k h1
           have a2 := hd9 k h2
           have a3 := hb3.out.size
           have a4 := (World.ownsRow.lt ho3.out k h1).2
           simp at a1 a2 a3 a4
           omega⟩)
         have HC9 := Lib.hid hC9
         obtain ⟨q0, q1, q2⟩ := cells3 (A0.out.below hC9 hlt0)
         obtain ⟨q3, q4, q5⟩ := cells3 (X0.out.below hC9 hlt)
         have q6 := (X0.out.below hC9 hlt).warm 0
         have q7 := (X0.out.below hC9 hlt).warm 1
         have q8 := (X0.out.below hC9 hlt).warm 2
         have hs9 : w.heap.size + 1 < w9.heap.size := Nat.lt_of_lt_of_le hlt hC9.size
         clear ho9 hb9 hd9 hB9 hC9))
  all_goals
    have XF := (((X0.out.below HC9.out hlt).set 0 (.slice ad3 r.length cp3)).set 1 (.int .i64 t)).set 2 (.slice ad9 f.length cp9)
    have e0 := XF.cell 0 (.slice ad3 r.length cp3) rfl
    have e1 := XF.cell 1 (.int .i64 t) rfl
    have e2 := XF.cell 2 (.slice ad9 f.length cp9) rfl
    clear XF
  all_goals go_wp2_with fail
  all_goals refine bodyPost_ret (v := .agg #[.slice ad3 r.length cp3, .int .i64 t, .slice ad9 f.length cp9]) (by simp [results, Try.results69, go_sem, e0, e1, e2]) rfl ⟨_, _, rfl, ?_, ?_⟩
  any_goals
    refine (OwnDev.turn OD.out (G := fun k => k = w.heap.size + 1) ?_ (fun k _ h1 h2 => by omega)).mono (by omega)
    iterate 3 refine Turn.set ?_ (by simp) _
    exact Turn.refl _ _
  all_goals
    iterate 3 refine Below.setCell ?_ (by dsimp only; omega) _
    exact HB0.out.trans (HC9.out.mono (by omega))
end Go.Proofs.Ytbhmfjblmcppbaa.KD
