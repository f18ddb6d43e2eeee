
/-
  A copy of a script whose parts lie apart; marks written into it.
-/
import Derived.Test.YtijilhaoknpeeaaPost3
import Derived.Test.YtijilhaoknpeeaaPMark
namespace Go.Proofs.Ytijilhaoknpeeaa.Num
open Go.RowKit GR Rows3

theorem OwnPC.setBelow {B C : Nat} {v : Value} {l : List PC} {w : World} (h : OwnPC B C v l w) {a : Addr} (ha : a.block < B) (u : Value) : OwnPC B C v l (w.setCell a u) := by
  obtain ⟨lv, e, h1, h2, h3, h4⟩ := h
  exact ⟨lv, e, h1.setBelow ha u, fun x hx => Num.setBelow (h2 x hx) ha u, h3, h4⟩
theorem OwnPC.mono {B B' C : Nat} {v : Value} {l : List PC} {w : World} (h : OwnPC B C v l w) (hB : B' ≤ B) : OwnPC B' C v l w := by
  obtain ⟨lv, e, h1, h2, h3, h4⟩ := h
  exact ⟨lv, e, h1.mono hB, h2.mono hB, h3, h4⟩
/-- a script of the call's own: its posts lie below its waits, these below what it says. -/
def ApS (B : Nat) (u wv sv : Value) (l : List PC) (m k : List Int) (w : World) : Prop :=
  ∃ C D, B ≤ C ∧ C ≤ D ∧ D ≤ w.heap.size ∧ OwnPC B C u l w ∧ OwnI C wv m w ∧ (∀ b, wv.ownBlock = some b → b < D) ∧ OwnI D sv k w
theorem ApS.posts {B : Nat} {u wv sv : Value} {l : List PC} {m k : List Int} {w : World} (h : ApS B u wv sv l m k w) : OwnP B u l w := by
  obtain ⟨C, D, h0, h1, h2, h3, h4, h5, h6⟩ := h
  exact h3.own
theorem ApS.waits {B : Nat} {u wv sv : Value} {l : List PC} {m k : List Int} {w : World} (h : ApS B u wv sv l m k w) : OwnI B wv m w := by
  obtain ⟨C, D, h0, h1, h2, h3, h4, h5, h6⟩ := h
  exact h4.mono h0
theorem ApS.says {B : Nat} {u wv sv : Value} {l : List PC} {m k : List Int} {w : World} (h : ApS B u wv sv l m k w) : OwnI B sv k w := by
  obtain ⟨C, D, h0, h1, h2, h3, h4, h5, h6⟩ := h
  exact h6.mono (Nat.le_trans h0 h1)
/-- the same, all of it below block E. -/
def ApE (B E : Nat) (u wv sv : Value) (l : List PC) (m k : List Int) (w : World) : Prop :=
  ∃ C D, B ≤ C ∧ C ≤ D ∧ D ≤ E ∧ OwnPC B C u l w ∧ OwnI C wv m w ∧ (∀ b, wv.ownBlock = some b → b < D) ∧ OwnI D sv k w ∧ ∀ b, sv.ownBlock = some b → b < E
theorem ApS.top {B : Nat} {u wv sv : Value} {l : List PC} {m k : List Int} {w : World} (h : ApS B u wv sv l m k w) : ApE B w.heap.size u wv sv l m k w := by
  obtain ⟨C, D, h0, h1, h2, h3, h4, h5, h6⟩ := h
  exact ⟨C, D, h0, h1, h2, h3, h4, h5, h6, fun b hb => (World.ownsRow.lt h6 b hb).2⟩
theorem ApE.later {B E : Nat} {u wv sv : Value} {l : List PC} {m k : List Int} {w w' : World} (h : ApE B E u wv sv l m k w) (hb : Below w.heap.size w w') : ApE B E u wv sv l m k w' := by
  obtain ⟨C, D, h0, h1, h2, h3, h4, h5, h6, h7⟩ := h
  exact ⟨C, D, h0, h1, h2, h3.later hb, h4.later hb, h5, h6.later hb, h7⟩
theorem Mid.wide {B C B' C' : Nat} {w w' : World} (h : Mid B C w w') (hB : B' ≤ B) (hC : C ≤ C') : Mid B' C' w w' := ⟨h.os, h.tape, h.output, h.size, fun k hk hn => h.block k hk (by omega)⟩
theorem Mid.bx {B C b : Nat} {T : TypeId} {cs : Array Value} {w w' : World} (h : Mid B C w w') (hx : Bx T b cs w) (hC : C ≤ b) : Bx T b cs w' := (h.block b hx.lt (.inr hC)).trans hx

set_option maxRecDepth 100000 in
theorem toScript_ap (u wv sv : Value) (l : List PC) (m k : List Int) (hl : l.length ≤ 2000000) (hd : ∀ y ∈ l, y.da.length ≤ 2000000) (hm : m.length ≤ 2000000) (hk : k.length ≤ 2000000) (w : World) (hu : RdP u l w) (hw : RdI wv m w) (hs : RdI sv k w) :
    Calls Try.prog 31 #[.agg #[u, wv, sv]] w fun e w' => ∃ u' wv' sv', e = .returned (.agg #[u', wv', sv']) ∧ ApS w.heap.size u' wv' sv' l m k w' ∧ Below w.heap.size w w' := by
  have Hu := Lib.hid hu
  have Hw := Lib.hid hw
  have Hs := Lib.hid hs
  have HD := Lib.hid hd
  obtain ⟨ad, cap, rfl⟩ := hu.slice
  obtain ⟨ad1, cap1, rfl, hr1⟩ := hw
  obtain ⟨ad2, cap2, rfl, hr2⟩ := hs
  clear hu hr1 hr2 hd
  have hsz : ∀ (w : World) o, (w.alloc o).heap.size = w.heap.size + 1 := fun w o => by simp
  have A1 := Lib.hid (((Bx.new 42 #[.slice ad l.length cap, .slice ad1 m.length cap1, .slice ad2 k.length cap2] w).alloc (Obj.cells #[.slice none 0 0, .slice none 0 0, .slice none 0 0] 47)).alloc (Obj.cells #[.slice none 0 0, .slice none 0 0, .slice none 0 0] 47))
  have A2 := (Bx.new 47 #[.slice none 0 0, .slice none 0 0, .slice none 0 0] (w.alloc (Obj.cells #[.slice ad l.length cap, .slice ad1 m.length cap1, .slice ad2 k.length cap2] 42))).alloc (Obj.cells #[.slice none 0 0, .slice none 0 0, .slice none 0 0] 47)
  have A3 := Bx.new 47 #[.slice none 0 0, .slice none 0 0, .slice none 0 0] ((w.alloc (Obj.cells #[.slice ad l.length cap, .slice ad1 m.length cap1, .slice ad2 k.length cap2] 42)).alloc (Obj.cells #[.slice none 0 0, .slice none 0 0, .slice none 0 0] 47))
  rw [hsz] at A2
  rw [hsz, hsz] at A3
  have HA2 := Lib.hid A2
  have HA3 := Lib.hid A3
  have HB0 := Lib.hid ((((Below.refl w.heap.size w).alloc (Nat.le_refl _) (Obj.cells #[.slice ad l.length cap, .slice ad1 m.length cap1, .slice ad2 k.length cap2] 42)).alloc (by simp) (Obj.cells #[.slice none 0 0, .slice none 0 0, .slice none 0 0] 47)).alloc (by simp; omega) (Obj.cells #[.slice none 0 0, .slice none 0 0, .slice none 0 0] 47))
  have hn3 := Lib.hid (size_alloc3 w (Obj.cells #[.slice ad l.length cap, .slice ad1 m.length cap1, .slice ad2 k.length cap2] 42) (Obj.cells #[.slice none 0 0, .slice none 0 0, .slice none 0 0] 47) (Obj.cells #[.slice none 0 0, .slice none 0 0, .slice none 0 0] 47))
  clear A2 A3 hsz
  go_enter Try.func31, Try.ntmps31
  go_wp2_with fail
  generalize ((w.alloc (Obj.cells #[.slice ad l.length cap, .slice ad1 m.length cap1, .slice ad2 k.length cap2] 42)).alloc (Obj.cells #[.slice none 0 0, .slice none 0 0, .slice none 0 0] 47)).alloc (Obj.cells #[.slice none 0 0, .slice none 0 0, .slice none 0 0] 47) = w0 at A1 HA2 HA3 HB0 hn3 ⊢
  refine (toPostS_any _ l hl HD.out _ (Hu.out.below HB0.out)).mono ?_
  rintro e w1 ⟨u1, rfl, hou, hb1⟩
  obtain ⟨adu, capu, rfl⟩ := hou.slice
  have A3 := HA3.out.later hb1
  have z0 := A3.warm 0
  obtain ⟨g0, g1, g2⟩ := cells3 A3
  obtain ⟨a0, a1, a2⟩ := cells3 (A1.out.later hb1)
  have X3 := Lib.hid (show Bx 47 (w.heap.size + 1 + 1) #[.slice adu l.length capu, .slice none 0 0, .slice none 0 0] (w1.setCell ⟨w.heap.size + 1 + 1, 0, none⟩ (.slice adu l.length capu)) from A3.set 0 (.slice adu l.length capu))
  have X1 := Lib.hid ((A1.out.later hb1).far (p := ⟨w.heap.size + 1 + 1, 0, none⟩) (by dsimp only; omega) (.slice adu l.length capu))
  have X2 := Lib.hid ((HA2.out.later hb1).far (p := ⟨w.heap.size + 1 + 1, 0, none⟩) (by dsimp only; omega) (.slice adu l.length capu))
  have hC0 : w.heap.size + 1 + 1 + 1 ≤ w1.heap.size := by have := hb1.size; have := hn3.out; omega
  have hC1 : (w1.setCell ⟨w.heap.size + 1 + 1, 0, none⟩ (.slice adu l.length capu)).heap.size = w1.heap.size := by simp [World.setCell]
  have HC0 := Lib.hid hC0
  have HC1 := Lib.hid hC1
  have Xu := Lib.hid ((hou.cap.mono (by rw [hn3.out]; exact Nat.le_refl _) : OwnPC (w.heap.size + 1 + 1 + 1) w1.heap.size _ _ _).setBelow (a := ⟨w.heap.size + 1 + 1, 0, none⟩) (by dsimp only; omega) (.slice adu l.length capu))
  have XB := Lib.hid ((HB0.out.trans (hb1.mono HB0.out.size)).setCell (p := ⟨w.heap.size + 1 + 1, 0, none⟩) (by dsimp only; omega) (.slice adu l.length capu))
  have hz : w.heap.size + 1 + 1 + 1 ≤ (w1.setCell ⟨w.heap.size + 1 + 1, 0, none⟩ (.slice adu l.length capu)).heap.size := by have := hb1.size; have := hn3.out; simp [World.setCell]; omega
  have Hz := Lib.hid hz
  clear A3 hou hb1 hz hC0 hC1
  go_wp2_with fail
  clear z0 g0 g1 g2 a0 a1 a2
  generalize w1.setCell ⟨w.heap.size + 1 + 1, 0, none⟩ (.slice adu l.length capu) = y1 at X1 X2 X3 Xu XB Hz HC1 ⊢
  refine (toInts_any _ m hm _ (Hw.out.below XB.out)).mono ?_
  rintro e w2 ⟨u2, rfl, hos, hb2⟩
  obtain ⟨ads, caps, rfl⟩ := hos.slice
  have A3 := X3.out.later hb2
  have z1 := A3.warm 1
  obtain ⟨g0, g1, g2⟩ := cells3 A3
  obtain ⟨a0, a1, a2⟩ := cells3 (X1.out.later hb2)
  have Y3 := Lib.hid (show Bx 47 (w.heap.size + 1 + 1) #[.slice adu l.length capu, .slice ads m.length caps, .slice none 0 0] (w2.setCell ⟨w.heap.size + 1 + 1, 1, none⟩ (.slice ads m.length caps)) from A3.set 1 (.slice ads m.length caps))
  have Y1 := Lib.hid ((X1.out.later hb2).far (p := ⟨w.heap.size + 1 + 1, 1, none⟩) (by dsimp only; omega) (.slice ads m.length caps))
  have Y2 := Lib.hid ((X2.out.later hb2).far (p := ⟨w.heap.size + 1 + 1, 1, none⟩) (by dsimp only; omega) (.slice ads m.length caps))
  have Yu := Lib.hid ((Xu.out.later hb2).setBelow (a := ⟨w.heap.size + 1 + 1, 1, none⟩) (by dsimp only; omega) (.slice ads m.length caps))
  have HS2 := Lib.hid (fun b hb => (World.ownsRow.lt hos b hb).2)
  have HD0 : Hid (w1.heap.size ≤ w2.heap.size) := Lib.hid (by rw [← HC1.out]; exact hb2.size)
  have HD1 : Hid ((w2.setCell ⟨w.heap.size + 1 + 1, 1, none⟩ (.slice ads m.length caps)).heap.size = w2.heap.size) := Lib.hid (by simp [World.setCell])
  have Ys := Lib.hid (setBelow (hos.mono (B' := w1.heap.size) (by rw [HC1.out]; exact Nat.le_refl _)) (a := ⟨w.heap.size + 1 + 1, 1, none⟩) (by have := HC0.out; dsimp only; omega) (.slice ads m.length caps))
  have YB := Lib.hid ((XB.out.trans (hb2.mono (Nat.le_trans (by omega) Hz.out))).setCell (p := ⟨w.heap.size + 1 + 1, 1, none⟩) (by dsimp only; omega) (.slice ads m.length caps))
  have hz : w.heap.size + 1 + 1 + 1 ≤ (w2.setCell ⟨w.heap.size + 1 + 1, 1, none⟩ (.slice ads m.length caps)).heap.size := by have := hb2.size; have := Hz.out; simp [World.setCell]; omega
  have Hz2 := Lib.hid hz
  clear A3 hos hb2 hz X1 X2 X3 Xu XB
  go_wp2_with fail
  clear z1 g0 g1 g2 a0 a1 a2
  generalize w2.setCell ⟨w.heap.size + 1 + 1, 1, none⟩ (.slice ads m.length caps) = y2 at Y1 Y2 Y3 Yu Ys YB Hz2 HD1 ⊢
  refine (toInts_any _ k hk _ (Hs.out.below YB.out)).mono ?_
  rintro e w3 ⟨u3, rfl, hot, hb3⟩
  obtain ⟨adt, capt, rfl⟩ := hot.slice
  have A3 := Y3.out.later hb3
  have A2 := Y2.out.later hb3
  have z2 := A3.warm 2
  obtain ⟨g0, g1, g2⟩ := cells3 A3
  obtain ⟨e0, e1, e2⟩ := cells3 A2
  have f0 := A2.warm 0
  have f1 := A2.warm 1
  have f2 := A2.warm 2
  have Zu := Lib.hid (Yu.out.later hb3)
  have Zs := Lib.hid (Ys.out.later hb3)
  have Zt := Lib.hid (hot.mono (B' := w2.heap.size) (by rw [HD1.out]; exact Nat.le_refl _))
  have ZB := Lib.hid (YB.out.trans (hb3.mono (Nat.le_trans (by omega) Hz2.out)))
  have HE3 : Hid (w2.heap.size ≤ w3.heap.size) := Lib.hid (by rw [← HD1.out]; exact hb3.size)
  clear A3 A2 hot hb3 Y1 Y2 Y3 Yu Ys YB
  go_wp2_with fail
  refine bodyPost_ret (v := .agg #[.slice adu l.length capu, .slice ads m.length caps, .slice adt k.length capt]) (by simp [results, Try.results31, go_sem, e0, e1, e2]) rfl ⟨_, _, _, rfl, ⟨w1.heap.size, w2.heap.size, by have := HC0.out; omega, HD0.out, by have := HE3.out; simpa [World.setCell] using this, ?_, ?_, HS2.out, ?_⟩, ?_⟩
  · refine OwnPC.mono (B := w.heap.size + 1 + 1 + 1) ?_ (by omega)
    iterate 4 refine OwnPC.setBelow ?_ (by dsimp only; omega) _
    exact Zu.out
  · iterate 4 refine setBelow ?_ (by have := HC0.out; dsimp only; omega) _
    exact Zs.out
  · iterate 4 refine setBelow ?_ (by have := HC0.out; have := HD0.out; dsimp only; omega) _
    exact Zt.out
  · iterate 4 refine Below.setCell ?_ (by dsimp only; omega) _
    exact ZB.out

set_option maxHeartbeats 1000000 in
set_option maxRecDepth 100000 in
theorem markScript_any (B E : Nat) (u wv sv : Value) (l : List PC) (m k : List Int) (hl : l.length ≤ 1500000) (hd : lenP l ≤ 1500000) (hm : m.length ≤ 1500000) (hk : k.length ≤ 1500000) (w : World) (hv : ApE B E u wv sv l m k w) (hE : E ≤ w.heap.size) :
    Calls Try.prog 35 #[.agg #[u, wv, sv], .int .i64 1] w fun e w' => (∃ n : Int, 0 ≤ n ∧ n ≤ 100000000 ∧ e = .returned (.int .i64 n)) ∧ Mid B E w w' := by
  obtain ⟨C, D, h0, h1, h2, hp, hw, hwD, hs, hsE⟩ := hv
  obtain ⟨ad, cap, rfl⟩ := hp.own.slice
  obtain ⟨ad1, cap1, rfl⟩ := hw.slice
  obtain ⟨ad2, cap2, rfl⟩ := hs.slice
  have HA := Lib.hid ((Below.refl w.heap.size w).alloc (Nat.le_refl _) (Obj.cells #[.slice ad l.length cap, .slice ad1 m.length cap1, .slice ad2 k.length cap2] 47))
  have HP := Lib.hid (hp.later HA.out)
  have HW := Lib.hid (hw.later HA.out)
  have HS := Lib.hid (hs.later HA.out)
  have HWD := Lib.hid hwD
  have HSE := Lib.hid hsE
  have B0 := Lib.hid (Bx.new 47 #[.slice ad l.length cap, .slice ad1 m.length cap1, .slice ad2 k.length cap2] w)
  clear hp hw hwD hs hsE
  go_enter Try.func35, Try.ntmps35
  go_wp2_with fail
  refine (markPostS_any B C _ l 1 (by omega) (by omega) (by omega) (by omega) _ HP.out).mono ?_
  rintro e w1 ⟨rfl, ho1, hm1⟩
  obtain ⟨K, hK⟩ : ∃ K : Int, 1 + (offP l l.length : Int) = K := ⟨_, rfl⟩
  have hK0 : 0 ≤ K := by omega
  have hK1 : K ≤ 20000000 := by have := offP_le l l.length; omega
  rw [hK]
  have B1 := Lib.hid (hm1.bx B0.out (by omega))
  have W1 := Lib.hid (hm1.ownI HW.out (Nat.le_refl _))
  have S1 := Lib.hid (hm1.ownI HS.out h1)
  have M1 := Lib.hid ((Mid.later (B := B) (C := E) HA.out).trans (hm1.wide (Nat.le_refl _) (by omega)))
  obtain ⟨g0, g1, g2⟩ := cells3 B1.out
  clear ho1 hm1 hK
  go_wp2_with fail
  refine (mark_own C _ m K hK0 (by omega) (by omega) _ W1.out).mono ?_
  rintro e w2 ⟨rfl, ho2, hg2⟩
  obtain ⟨K2, hK2⟩ : ∃ K2 : Int, K + (m.length : Int) = K2 := ⟨_, rfl⟩
  have hK20 : 0 ≤ K2 := by omega
  have hK21 : K2 ≤ 30000000 := by omega
  rw [hK2]
  have hm2 : Mid C D w1 w2 := Mid.grown hg2 (fun b hb => ⟨(World.ownsRow.lt W1.out b hb).1, HWD.out b hb⟩)
  have B2 := Lib.hid (hm2.bx B1.out (by omega))
  have S2 := Lib.hid (hm2.ownI S1.out (Nat.le_refl _))
  have M2 := Lib.hid (M1.out.trans (hm2.wide h0 (by omega)))
  clear ho2 hg2 hm2 hK2 g0 g1 g2
  obtain ⟨g0, g1, g2⟩ := cells3 B2.out
  go_wp2_with fail
  refine (mark_own D _ k K2 hK20 (by omega) (by omega) _ S2.out).mono ?_
  rintro e w3 ⟨rfl, ho3, hg3⟩
  have hm3 : Mid D E w2 w3 := Mid.grown hg3 (fun b hb => ⟨(World.ownsRow.lt S2.out b hb).1, HSE.out b hb⟩)
  have M3 := Lib.hid (M2.out.trans (hm3.wide (by omega) (Nat.le_refl _)))
  clear ho3 hg3 hm3 g0 g1 g2
  go_wp2_with fail
  go_ret
  exact ⟨⟨_, by omega, by omega, rfl⟩, M3.out⟩
end Go.Proofs.Ytijilhaoknpeeaa.Num
