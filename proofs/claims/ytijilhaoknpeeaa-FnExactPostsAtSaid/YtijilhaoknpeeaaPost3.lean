
/-
  Posts and scripts as the laws hand them on: their copies.
-/
import Derived.Test.YtijilhaoknpeeaaPost2
namespace Go.Proofs.Ytijilhaoknpeeaa.Num
open Go.RowKit GR Rows3

set_option maxRecDepth 100000 in
theorem toPost_any (a b : Int) (q : Bool) (x y z : Int) (k : Bool) (v : Value) (l : List Int) (hl : l.length ≤ 2000000) (w : World) (hv : RdI v l w) :
    Calls Try.prog 110 #[.agg #[.int .i64 a, .int .i64 b, .bool q, .int .i64 x, .int .i64 y, .int .i64 z, .bool k, v]] w fun e w' =>
      ∃ u, e = .returned (.agg #[.int .i64 a, .int .i64 b, .bool q, .int .i64 x, .int .i64 y, .int .i64 z, .bool k, u]) ∧ OwnI w.heap.size u l w' ∧ Below w.heap.size w w' := by
  have Hv := Lib.hid hv
  obtain ⟨ad, cap, rfl, hr⟩ := hv
  clear hr
  go_enter Try.func110, Try.ntmps110
  go_wp2_with fail
  refine (toReq_any _ _ _ _ _ _ l hl _ (rdI_alloc (rdI_alloc (rdI_alloc Hv.out _) _) _)).mono ?_
  rintro e w1 ⟨u, rfl, ho, hb⟩
  obtain ⟨ad1, cap1, rfl⟩ := ho.slice
  have hsz : ∀ (w : World) o, (w.alloc o).heap.size = w.heap.size + 1 := fun w o => by simp
  have A2 := ((Bx.new 92 #[.int .i64 0, .int .i64 0, .bool false, .int .i64 0, .int .i64 0, .int .i64 0, .bool false, .slice none 0 0] (w.alloc (Obj.cells #[.int .i64 a, .int .i64 b, .bool q, .int .i64 x, .int .i64 y, .int .i64 z, .bool k, .slice ad l.length cap] 117))).alloc (Obj.cells #[.int .i64 a, .int .i64 b, .bool false, .int .i64 0, .int .i64 0, .int .i64 0, .bool false, .slice none 0 0] 92)).later hb
  have A3 := (Bx.new 92 #[.int .i64 a, .int .i64 b, .bool false, .int .i64 0, .int .i64 0, .int .i64 0, .bool false, .slice none 0 0] ((w.alloc (Obj.cells #[.int .i64 a, .int .i64 b, .bool q, .int .i64 x, .int .i64 y, .int .i64 z, .bool k, .slice ad l.length cap] 117)).alloc (Obj.cells #[.int .i64 0, .int .i64 0, .bool false, .int .i64 0, .int .i64 0, .int .i64 0, .bool false, .slice none 0 0] 92))).later hb
  rw [hsz] at A2
  rw [hsz, hsz] at A3
  have Ho := Lib.hid ho
  have Hb := Lib.hid (hb.mono (B' := w.heap.size) (by simp; omega))
  obtain ⟨g0, g1, g2, g3, g4, g5, g6, g7⟩ := cells8 A2
  obtain ⟨e0, e1, e2, e3, e4, e5, e6, e7⟩ := cells8 A3
  have y0 := A2.warm 0
  have y1 := A2.warm 1
  have y2 := A2.warm 2
  have y3 := A2.warm 3
  have y4 := A2.warm 4
  have y5 := A2.warm 5
  have y6 := A2.warm 6
  have y7 := A2.warm 7
  have z2 := A3.warm 2
  have z3 := A3.warm 3
  have z4 := A3.warm 4
  have z5 := A3.warm 5
  have z6 := A3.warm 6
  have z7 := A3.warm 7
  clear A2 A3 ho hb hsz
  go_wp2_with fail
  refine bodyPost_ret (v := .agg #[.int .i64 a, .int .i64 b, .bool q, .int .i64 x, .int .i64 y, .int .i64 z, .bool k, .slice ad1 l.length cap1]) (by simp [results, Try.results110, go_sem, g0, g1, g2, g3, g4, g5, g6, g7]) rfl ⟨_, rfl, ?_, ?_⟩
  · refine OwnI.mono (B := w.heap.size + 1 + 1 + 1) ?_ (by omega)
    iterate 14 refine setBelow ?_ (by dsimp only; omega) _
    have h := Ho.out
    simp only [size_alloc3] at h
    exact h
  · iterate 14 refine Below.setCell ?_ (by dsimp only; omega) _
    exact ((((Below.refl _ _).alloc (Nat.le_refl _) _).alloc (by simp) _).alloc (by simp; omega) _).trans Hb.out

/-- a new row of posts. -/
def NewP (l : List PC) (w : World) (e : Ending) (w' : World) : Prop := ∃ v, e = .returned v ∧ OwnP w.heap.size v l w' ∧ Below w.heap.size w w'
set_option maxHeartbeats 1000000 in
set_option maxRecDepth 100000 in
theorem toPostS_any (v : Value) (l : List PC) (hl : l.length ≤ 2000000) (hd : ∀ y ∈ l, y.da.length ≤ 2000000) (w : World) (hv : RdP v l w) :
    Calls Try.prog 74 #[v] w (NewP l w) := by
  obtain ⟨lv, hlv, hr, he⟩ := hv
  obtain ⟨ad, cap, rfl, h1⟩ := hr
  obtain ⟨n, hln⟩ : ∃ n, lv.length = n := ⟨_, rfl⟩
  have hll : l.length = n := by rw [← hlv, List.length_map, hln]
  rw [hll] at hl
  rw [hln]
  have H1 := Lib.hid h1
  have HE := Lib.hid he
  have HD := Lib.hid hd
  have HV := Lib.hid hlv
  have HL := Lib.hid hln
  have HN := Lib.hid hll
  clear h1 he hd hlv hln hll
  obtain ⟨i0, hi, hz0, hz1, hz2⟩ := info_parts info_pv3
  have hmk := fun W => make_run (P := Try.prog) pvK 44 92 i0 _ Try.underlying44 hi hz0 hz1 (by rw [hz2]; omega) n hl W
  have Ho0 := Lib.hid (Own.make0 (K := pvK) (T := 92) w.heap.size w (Nat.le_refl _) n hl pv0 (.agg #[.int .i64 0, .int .i64 0, .bool false, .int .i64 0, .int .i64 0, .int .i64 0, .bool false, .slice none 0 0]) rfl)
  clear hi hz0 hz1 hz2
  go_enter Try.func74, Try.ntmps74
  go_wp2
  clear hmk
  go_loopw [4] (fun i wr => ∃ (k : Nat) (done : List (PC × Value)), k ≤ n ∧ i = .int .i64 k ∧ done.length = k ∧ done.map (·.1) = (lv.map (·.1)).take k ∧ Own pvK 92 w.heap.size (.slice (some ⟨w.heap.size, 0, none⟩) n n) (done ++ List.replicate (n - k) pv0) wr ∧ ElO (w.heap.size + 1) done wr ∧ Ap done ∧ Below w.heap.size w wr) (fun i _ => n - (intOf i).toNat)
  case atStart => exact ⟨0, [], by omega, rfl, rfl, rfl, by rw [List.nil_append, Nat.sub_zero]; exact Ho0.out, ElO.nil _ _, Ap.nil, (Below.refl _ _).alloc (Nat.le_refl _) _⟩
  case round =>
    obtain ⟨k, done, hk, rfl, hdk, hdm, hown, helo, hap, hb⟩ := hrel
    have HDK := Lib.hid hdk
    have HDM := Lib.hid hdm
    have HEL := Lib.hid helo
    have HAP := Lib.hid hap
    have Ho := Lib.hid hown
    clear hdk hdm helo hap
    by_cases hlt : k < n
    · obtain ⟨x, hx⟩ := get_of (l := lv) (i := k) (by rw [HL.out]; exact hlt)
      obtain ⟨b, o, rfl, hb1, hc1⟩ := H1.out k x hx
      obtain ⟨g0, g1, g2, g3, g4, g5, g6, g7⟩ := pv_at hc1
      rw [← below_cells hb hb1] at g0 g1 g2 g3 g4 g5 g6 g7
      have Hx := Lib.hid hx
      have hsh := HE.out x (mem_of hx)
      obtain ⟨ax, cx, hax, -⟩ := id hsh
      have hdx := HD.out x.1 (by rw [← HV.out]; exact List.mem_map_of_mem (mem_of hx))
      have Hrx := Lib.hid (show RdI (.slice ax x.1.da.length cx) x.1.da wr from hax ▸ hsh.below hb)
      rw [hax] at g7
      have Hb0 := Lib.hid hb
      have hwn : w.heap.size < wr.heap.size := (World.ownsRow.lt Ho.out _ rfl).2
      clear hown hc1 hx hsh hax hb
      go_wp2_with fail
      refine (toPost_any _ _ _ _ _ _ _ _ x.1.da hdx _ Hrx.out).mono ?_
      rintro e w1 ⟨u, rfl, hou, hb2⟩
      obtain ⟨au, cu, rfl⟩ := hou.slice
      have hown := Ho.out.later hb2
      have Hb := Lib.hid (Hb0.out.trans (hb2.mono Hb0.out.size))
      have hlt2 : k < (done ++ List.replicate (n - k) pv0).length := by rw [List.length_append, HDK.out, List.length_replicate]; omega
      obtain ⟨y, hy⟩ := get_of hlt2
      obtain ⟨f0, f1, f2, f3, f4, f5, f6, f7⟩ := pv_at0 (hown.at_ k y hy)
      have z0 := hown.frozen (k * 8)
      have z1 := hown.frozen (k * 8 + 1)
      have z2 := hown.frozen (k * 8 + 2)
      have z3 := hown.frozen (k * 8 + 3)
      have z4 := hown.frozen (k * 8 + 4)
      have z5 := hown.frozen (k * 8 + 5)
      have z6 := hown.frozen (k * 8 + 6)
      have z7 := hown.frozen (k * 8 + 7)
      have Ho2 := Lib.hid (hown.set k hlt2 (x.1, .slice au x.1.da.length cu))
      have Hs := Lib.hid (push_set (z := pv0) (x := (x.1, Value.slice au x.1.da.length cu)) HDK.out hlt)
      have Hm := Lib.hid (map_push (u := .slice au x.1.da.length cu) HDM.out Hx.out)
      have Hap := Lib.hid (HAP.out.push HEL.out (x := (x.1, .slice au x.1.da.length cu)) hou (Nat.le_refl _))
      have Hel := Lib.hid ((HEL.out.later hb2).push (x := (x.1, .slice au x.1.da.length cu)) (hou.mono hwn))
      clear hown hy hb2 hlt2 g0 g1 g2 g3 g4 g5 g6 g7 hou
      go_wp2_with fail
      go_roundw
      case rel =>
        refine ⟨k + 1, done ++ [(x.1, .slice au x.1.da.length cu)], by omega, by go_num, by rw [List.length_append, HDK.out]; rfl, Hm.out, ?_, ?_, Hap.out, below_sets (pvK.enc (x.1, .slice au x.1.da.length cu)) (Nat.le_refl _) (k * pvK.k) Hb.out⟩
        · rw [← Hs.out]
          exact Ho2.out.1
        · exact Hel.out.sets (Nat.lt_succ_self _) (k * pvK.k) (pvK.enc (x.1, .slice au x.1.da.length cu))
      case measure => simp [intOf]; omega
    · obtain rfl : k = n := by omega
      have h := Lib.hid hown
      clear hown
      go_wp2
      go_ret
      refine ⟨_, rfl, ⟨done, ?_, ?_, HEL.out.mono (Nat.le_succ _), HAP.out⟩, hb⟩
      · rw [HDM.out, HV.out, List.take_of_length_le (by rw [HN.out]; omega)]
      · have h := h.out
        rwa [Nat.sub_self, List.replicate_zero, List.append_nil] at h

set_option maxRecDepth 100000 in
theorem toScript_any (u wv sv : Value) (l : List PC) (m k : List Int) (hl : l.length ≤ 2000000) (hd : ∀ y ∈ l, y.da.length ≤ 2000000) (hm : m.length ≤ 2000000) (hk : k.length ≤ 2000000) (w : World) (hu : RdP u l w) (hw : RdI wv m w) (hs : RdI sv k w) :
    Calls Try.prog 31 #[.agg #[u, wv, sv]] w fun e w' => ∃ u' wv' sv', e = .returned (.agg #[u', wv', sv']) ∧ OwnP w.heap.size u' l w' ∧ OwnI w.heap.size wv' m w' ∧ OwnI w.heap.size sv' k w' ∧ Below w.heap.size w w' := by
  have Hu := Lib.hid hu
  have Hw := Lib.hid hw
  have Hs := Lib.hid hs
  have HD := Lib.hid hd
  obtain ⟨ad, cap, rfl⟩ := hu.slice
  obtain ⟨ad1, cap1, rfl, hr1⟩ := hw
  obtain ⟨ad2, cap2, rfl, hr2⟩ := hs
  clear hu hr1 hr2 hd
  have hsz : ∀ (w : World) o, (w.alloc o).heap.size = w.heap.size + 1 := fun w o => by simp
  have A1 := Lib.hid (((Bx.new 42 #[.slice ad l.length cap, .slice ad1 m.length cap1, .slice ad2 k.length cap2] w).alloc (Obj.cells #[.slice none 0 0, .slice none 0 0, .slice none 0 0] 47)).alloc (Obj.cells #[.slice none 0 0, .slice none 0 0, .slice none 0 0] 47))
  have A2 := (Bx.new 47 #[.slice none 0 0, .slice none 0 0, .slice none 0 0] (w.alloc (Obj.cells #[.slice ad l.length cap, .slice ad1 m.length cap1, .slice ad2 k.length cap2] 42))).alloc (Obj.cells #[.slice none 0 0, .slice none 0 0, .slice none 0 0] 47)
  have A3 := Bx.new 47 #[.slice none 0 0, .slice none 0 0, .slice none 0 0] ((w.alloc (Obj.cells #[.slice ad l.length cap, .slice ad1 m.length cap1, .slice ad2 k.length cap2] 42)).alloc (Obj.cells #[.slice none 0 0, .slice none 0 0, .slice none 0 0] 47))
  rw [hsz] at A2
  rw [hsz, hsz] at A3
  have HA2 := Lib.hid A2
  have HA3 := Lib.hid A3
  have HB0 := Lib.hid ((((Below.refl w.heap.size w).alloc (Nat.le_refl _) (Obj.cells #[.slice ad l.length cap, .slice ad1 m.length cap1, .slice ad2 k.length cap2] 42)).alloc (by simp) (Obj.cells #[.slice none 0 0, .slice none 0 0, .slice none 0 0] 47)).alloc (by simp; omega) (Obj.cells #[.slice none 0 0, .slice none 0 0, .slice none 0 0] 47))
  have hn3 := Lib.hid (size_alloc3 w (Obj.cells #[.slice ad l.length cap, .slice ad1 m.length cap1, .slice ad2 k.length cap2] 42) (Obj.cells #[.slice none 0 0, .slice none 0 0, .slice none 0 0] 47) (Obj.cells #[.slice none 0 0, .slice none 0 0, .slice none 0 0] 47))
  clear A2 A3 hsz
  go_enter Try.func31, Try.ntmps31
  go_wp2_with fail
  generalize ((w.alloc (Obj.cells #[.slice ad l.length cap, .slice ad1 m.length cap1, .slice ad2 k.length cap2] 42)).alloc (Obj.cells #[.slice none 0 0, .slice none 0 0, .slice none 0 0] 47)).alloc (Obj.cells #[.slice none 0 0, .slice none 0 0, .slice none 0 0] 47) = w0 at A1 HA2 HA3 HB0 hn3 ⊢
  refine (toPostS_any _ l hl HD.out _ (Hu.out.below HB0.out)).mono ?_
  rintro e w1 ⟨u1, rfl, hou, hb1⟩
  obtain ⟨adu, capu, rfl⟩ := hou.slice
  have A3 := HA3.out.later hb1
  have z0 := A3.warm 0
  obtain ⟨g0, g1, g2⟩ := cells3 A3
  obtain ⟨a0, a1, a2⟩ := cells3 (A1.out.later hb1)
  have X3 := Lib.hid (show Bx 47 (w.heap.size + 1 + 1) #[.slice adu l.length capu, .slice none 0 0, .slice none 0 0] (w1.setCell ⟨w.heap.size + 1 + 1, 0, none⟩ (.slice adu l.length capu)) from A3.set 0 (.slice adu l.length capu))
  have X1 := Lib.hid ((A1.out.later hb1).far (p := ⟨w.heap.size + 1 + 1, 0, none⟩) (by dsimp only; omega) (.slice adu l.length capu))
  have X2 := Lib.hid ((HA2.out.later hb1).far (p := ⟨w.heap.size + 1 + 1, 0, none⟩) (by dsimp only; omega) (.slice adu l.length capu))
  have Xu := Lib.hid ((hou.mono (by rw [hn3.out]; exact Nat.le_refl _) : OwnP (w.heap.size + 1 + 1 + 1) _ _ _).setBelow (a := ⟨w.heap.size + 1 + 1, 0, none⟩) (by dsimp only; omega) (.slice adu l.length capu))
  have XB := Lib.hid ((HB0.out.trans (hb1.mono HB0.out.size)).setCell (p := ⟨w.heap.size + 1 + 1, 0, none⟩) (by dsimp only; omega) (.slice adu l.length capu))
  have hz : w.heap.size + 1 + 1 + 1 ≤ (w1.setCell ⟨w.heap.size + 1 + 1, 0, none⟩ (.slice adu l.length capu)).heap.size := by have := hb1.size; have := hn3.out; simp [World.setCell]; omega
  have Hz := Lib.hid hz
  clear A3 hou hb1 hz
  go_wp2_with fail
  clear z0 g0 g1 g2 a0 a1 a2
  generalize w1.setCell ⟨w.heap.size + 1 + 1, 0, none⟩ (.slice adu l.length capu) = y1 at X1 X2 X3 Xu XB Hz ⊢
  refine (toInts_any _ m hm _ (Hw.out.below XB.out)).mono ?_
  rintro e w2 ⟨u2, rfl, hos, hb2⟩
  obtain ⟨ads, caps, rfl⟩ := hos.slice
  have A3 := X3.out.later hb2
  have z1 := A3.warm 1
  obtain ⟨g0, g1, g2⟩ := cells3 A3
  obtain ⟨a0, a1, a2⟩ := cells3 (X1.out.later hb2)
  have Y3 := Lib.hid (show Bx 47 (w.heap.size + 1 + 1) #[.slice adu l.length capu, .slice ads m.length caps, .slice none 0 0] (w2.setCell ⟨w.heap.size + 1 + 1, 1, none⟩ (.slice ads m.length caps)) from A3.set 1 (.slice ads m.length caps))
  have Y1 := Lib.hid ((X1.out.later hb2).far (p := ⟨w.heap.size + 1 + 1, 1, none⟩) (by dsimp only; omega) (.slice ads m.length caps))
  have Y2 := Lib.hid ((X2.out.later hb2).far (p := ⟨w.heap.size + 1 + 1, 1, none⟩) (by dsimp only; omega) (.slice ads m.length caps))
  have Yu := Lib.hid ((Xu.out.later hb2).setBelow (a := ⟨w.heap.size + 1 + 1, 1, none⟩) (by dsimp only; omega) (.slice ads m.length caps))
  have Ys := Lib.hid (setBelow (hos.mono Hz.out) (a := ⟨w.heap.size + 1 + 1, 1, none⟩) (by dsimp only; omega) (.slice ads m.length caps))
  have YB := Lib.hid ((XB.out.trans (hb2.mono (Nat.le_trans (by omega) Hz.out))).setCell (p := ⟨w.heap.size + 1 + 1, 1, none⟩) (by dsimp only; omega) (.slice ads m.length caps))
  have hz : w.heap.size + 1 + 1 + 1 ≤ (w2.setCell ⟨w.heap.size + 1 + 1, 1, none⟩ (.slice ads m.length caps)).heap.size := by have := hb2.size; have := Hz.out; simp [World.setCell]; omega
  have Hz2 := Lib.hid hz
  clear A3 hos hb2 hz X1 X2 X3 Xu XB
  go_wp2_with fail
  clear z1 g0 g1 g2 a0 a1 a2
  generalize w2.setCell ⟨w.heap.size + 1 + 1, 1, none⟩ (.slice ads m.length caps) = y2 at Y1 Y2 Y3 Yu Ys YB Hz2 ⊢
  refine (toInts_any _ k hk _ (Hs.out.below YB.out)).mono ?_
  rintro e w3 ⟨u3, rfl, hot, hb3⟩
  obtain ⟨adt, capt, rfl⟩ := hot.slice
  have A3 := Y3.out.later hb3
  have A2 := Y2.out.later hb3
  have z2 := A3.warm 2
  obtain ⟨g0, g1, g2⟩ := cells3 A3
  obtain ⟨e0, e1, e2⟩ := cells3 A2
  have f0 := A2.warm 0
  have f1 := A2.warm 1
  have f2 := A2.warm 2
  have Zu := Lib.hid (Yu.out.later hb3)
  have Zs := Lib.hid (Ys.out.later hb3)
  have Zt := Lib.hid (hot.mono Hz2.out)
  have ZB := Lib.hid (YB.out.trans (hb3.mono (Nat.le_trans (by omega) Hz2.out)))
  clear A3 A2 hot hb3 Y1 Y2 Y3 Yu Ys YB
  go_wp2_with fail
  refine bodyPost_ret (v := .agg #[.slice adu l.length capu, .slice ads m.length caps, .slice adt k.length capt]) (by simp [results, Try.results31, go_sem, e0, e1, e2]) rfl ⟨_, _, _, rfl, ?_, ?_, ?_, ?_⟩
  · refine OwnP.mono (B := w.heap.size + 1 + 1 + 1) ?_ (by omega)
    iterate 4 refine OwnP.setBelow ?_ (by dsimp only; omega) _
    exact Zu.out
  · refine OwnI.mono (B := w.heap.size + 1 + 1 + 1) ?_ (by omega)
    iterate 4 refine setBelow ?_ (by dsimp only; omega) _
    exact Zs.out
  · refine OwnI.mono (B := w.heap.size + 1 + 1 + 1) ?_ (by omega)
    iterate 4 refine setBelow ?_ (by dsimp only; omega) _
    exact Zt.out
  · iterate 4 refine Below.setCell ?_ (by dsimp only; omega) _
    exact ZB.out
end Go.Proofs.Ytijilhaoknpeeaa.Num
