
/-
  Are two posts, two rows of posts, two scripts the same: of two that read alike the laws' own functions say yes.
-/
import Derived.Test.YtijilhaoknpeeaaPost2
namespace Go.Proofs.Ytijilhaoknpeeaa.Num
open Go.RowKit GR Rows3

set_option maxRecDepth 100000 in
theorem eqPost_same (a b : Int) (q : Bool) (x y z : Int) (k : Bool) (v u : Value) (l : List Int) (hl : l.length ≤ 2000000) (w : World) (hv : RdI v l w) (hu : RdI u l w) :
    Calls Try.prog 76 #[.agg #[.int .i64 a, .int .i64 b, .bool q, .int .i64 x, .int .i64 y, .int .i64 z, .bool k, v], .agg #[.int .i64 a, .int .i64 b, .bool q, .int .i64 x, .int .i64 y, .int .i64 z, .bool k, u]] w fun e w' => e = .returned (.bool true) ∧ Below w.heap.size w w' := by
  have Hv := Lib.hid hv
  have Hu := Lib.hid hu
  obtain ⟨ad, cap, rfl, hr⟩ := hv
  obtain ⟨bd, cbp, rfl, hr'⟩ := hu
  clear hr hr'
  have ha : (a != a) = false := by simp
  have hb : (b != b) = false := by simp
  go_enter Try.func76, Try.ntmps76
  go_wp2_with fail
  refine (eqReq_same _ _ _ _ _ _ _ l hl _ (rdI_alloc (rdI_alloc Hv.out _) _) (rdI_alloc (rdI_alloc Hu.out _) _)).mono ?_
  rintro e w1 ⟨rfl, hb⟩
  go_wp2
  go_ret
  exact ⟨rfl, below_alloc1 ((Below.refl _ _).alloc (Nat.le_refl _) _) (by simp) hb⟩
set_option maxHeartbeats 1000000 in
set_option maxRecDepth 100000 in
theorem eqPostS_same (v u : Value) (l : List PC) (hl : l.length ≤ 2000000) (hd : ∀ y ∈ l, y.da.length ≤ 2000000) (w : World) (hv : RdP v l w) (hu : RdP u l w) :
    Calls Try.prog 33 #[v, u] w fun e w' => e = .returned (.bool true) ∧ Below w.heap.size w w' := by
  obtain ⟨lv, rfl, ⟨ad, cap, rfl, h1⟩, e1⟩ := hv
  obtain ⟨lu, hlu, ⟨bd, cbp, rfl, h2⟩, e2⟩ := hu
  obtain ⟨n, hln⟩ : ∃ n, lv.length = n := ⟨_, rfl⟩
  have hlm : lu.length = n := by
    have h3 := congrArg List.length hlu
    simp only [List.length_map] at h3
    omega
  rw [List.length_map, hln] at hl
  rw [hln, hlm]
  have H1 := Lib.hid h1
  have H2 := Lib.hid h2
  have E1 := Lib.hid e1
  have E2 := Lib.hid e2
  have HU := Lib.hid hlu
  have HD := Lib.hid hd
  have HL := Lib.hid hln
  have HM := Lib.hid hlm
  clear h1 h2 e1 e2 hlu hd hln hlm
  have hne : (((n : Nat) : Int) != ((n : Nat) : Int)) = false := by simp
  go_enter Try.func33, Try.ntmps33
  go_wp2
  go_loopw [5] (fun i wr => ∃ k : Nat, k ≤ n ∧ i = .int .i64 k ∧ Below w.heap.size w wr) (fun i _ => n - (intOf i).toNat)
  case atStart => exact ⟨0, by omega, rfl, Below.refl _ _⟩
  case round =>
    obtain ⟨k, hk, rfl, hb⟩ := hrel
    by_cases hlt : k < n
    · obtain ⟨x, hx⟩ := get_of (l := lv) (i := k) (by rw [HL.out]; exact hlt)
      obtain ⟨x', hx'⟩ := get_of (l := lu) (i := k) (by rw [HM.out]; exact hlt)
      have hxx : x'.1 = x.1 := by
        have h3 : (lu.map (·.1))[k]? = (lv.map (·.1))[k]? := by rw [HU.out]
        rw [List.getElem?_map, List.getElem?_map, hx, hx'] at h3
        simpa using h3
      obtain ⟨b, o, rfl, hb1, hc1⟩ := H1.out k x hx
      obtain ⟨b', o', rfl, hb2, hc2⟩ := H2.out k x' hx'
      obtain ⟨g0, g1, g2, g3, g4, g5, g6, g7⟩ := pv_at hc1
      obtain ⟨e0, e1, e2, e3, e4, e5, e6, e7⟩ := pv_at hc2
      rw [← below_cells hb hb1] at g0 g1 g2 g3 g4 g5 g6 g7
      rw [← below_cells hb hb2] at e0 e1 e2 e3 e4 e5 e6 e7
      have hdx := HD.out x.1 (List.mem_map_of_mem (mem_of hx))
      have R1 := (E1.out x (mem_of hx)).below hb
      have R2 := (E2.out x' (mem_of hx')).below hb
      rw [hxx] at e0 e1 e2 e3 e4 e5 e6 R2
      have HR1 := Lib.hid R1
      have HR2 := Lib.hid R2
      obtain ⟨ax, cx, hax, -⟩ := R1
      obtain ⟨ay, cy, hay, -⟩ := R2
      rw [hax] at g7 HR1
      rw [hay] at e7 HR2
      replace g0 := fun d os => cell_regrown g0 d os
      replace g1 := fun d os => cell_regrown g1 d os
      replace g2 := fun d os => cell_regrown g2 d os
      replace g3 := fun d os => cell_regrown g3 d os
      replace g4 := fun d os => cell_regrown g4 d os
      replace g5 := fun d os => cell_regrown g5 d os
      replace g6 := fun d os => cell_regrown g6 d os
      replace g7 := fun d os => cell_regrown g7 d os
      replace e0 := fun d os => cell_regrown e0 d os
      replace e1 := fun d os => cell_regrown e1 d os
      replace e2 := fun d os => cell_regrown e2 d os
      replace e3 := fun d os => cell_regrown e3 d os
      replace e4 := fun d os => cell_regrown e4 d os
      replace e5 := fun d os => cell_regrown e5 d os
      replace e6 := fun d os => cell_regrown e6 d os
      replace e7 := fun d os => cell_regrown e7 d os
      have Hb := Lib.hid hb
      clear hc1 hc2 hx hx' hxx hax hay
      go_wp2_with fail
      refine wp_region_quiet_below (by kernel_rfl) (by kernel_rfl) ?_
      repeat (go_big_quiet_step ((go_at_call 76; exact Calls.regrown_of (eqPost_same _ _ _ _ _ _ _ _ _ _ hdx _ (HR1.out.below (below_regrown wr _ _)) (HR2.out.below (below_regrown wr _ _))))))
      refine wpQuiet_nil ?_
      rintro _ ⟨⟨dq, osq⟩, rfl⟩
      have hbw := below_regrown wr dq osq
      generalize Sort.grow (redrawn wr dq) osq = w2 at hbw
      clear g0 g1 g2 g3 g4 g5 g6 g7 e0 e1 e2 e3 e4 e5 e6 e7
      go_wp2_with fail
      go_roundw
      case rel => exact ⟨k + 1, by omega, by go_num, Hb.out.trans (hbw.mono Hb.out.size)⟩
      case measure => simp [intOf]; omega
    · go_wp2
      go_ret
      exact ⟨rfl, hb⟩

set_option maxRecDepth 100000 in
theorem eqScript_same (u wv sv u' wv' sv' : Value) (l : List PC) (m k : List Int) (hl : l.length ≤ 2000000) (hd : ∀ y ∈ l, y.da.length ≤ 2000000) (hm : m.length ≤ 2000000) (hk : k.length ≤ 2000000) (w : World)
    (hu : RdP u l w) (hw : RdI wv m w) (hs : RdI sv k w) (hu' : RdP u' l w) (hw' : RdI wv' m w) (hs' : RdI sv' k w) :
    Calls Try.prog 34 #[.agg #[u, wv, sv], .agg #[u', wv', sv']] w fun e w' => e = .returned (.bool true) ∧ Below w.heap.size w w' := by
  have Hu := Lib.hid hu
  have Hw := Lib.hid hw
  have Hs := Lib.hid hs
  have Hu' := Lib.hid hu'
  have Hw' := Lib.hid hw'
  have Hs' := Lib.hid hs'
  have HD := Lib.hid hd
  obtain ⟨ad, cap, rfl⟩ := hu.slice
  obtain ⟨bd, cbp, rfl⟩ := hu'.slice
  obtain ⟨ad1, cap1, rfl, hr1⟩ := hw
  obtain ⟨ad2, cap2, rfl, hr2⟩ := hs
  obtain ⟨bd1, cbp1, rfl, hr3⟩ := hw'
  obtain ⟨bd2, cbp2, rfl, hr4⟩ := hs'
  clear hu hu' hr1 hr2 hr3 hr4 hd
  have hsz : ∀ (w : World) o, (w.alloc o).heap.size = w.heap.size + 1 := fun w o => by simp
  have A1 := Lib.hid ((Bx.new 47 #[.slice ad l.length cap, .slice ad1 m.length cap1, .slice ad2 k.length cap2] w).alloc (Obj.cells #[.slice bd l.length cbp, .slice bd1 m.length cbp1, .slice bd2 k.length cbp2] 47))
  have A2 := Bx.new 47 #[.slice bd l.length cbp, .slice bd1 m.length cbp1, .slice bd2 k.length cbp2] (w.alloc (Obj.cells #[.slice ad l.length cap, .slice ad1 m.length cap1, .slice ad2 k.length cap2] 47))
  rw [hsz] at A2
  have HA2 := Lib.hid A2
  have HB0 := Lib.hid (((Below.refl w.heap.size w).alloc (Nat.le_refl _) (Obj.cells #[.slice ad l.length cap, .slice ad1 m.length cap1, .slice ad2 k.length cap2] 47)).alloc (by simp) (Obj.cells #[.slice bd l.length cbp, .slice bd1 m.length cbp1, .slice bd2 k.length cbp2] 47))
  clear A2 hsz
  go_enter Try.func34, Try.ntmps34
  go_wp2_with fail
  generalize (w.alloc (Obj.cells #[.slice ad l.length cap, .slice ad1 m.length cap1, .slice ad2 k.length cap2] 47)).alloc (Obj.cells #[.slice bd l.length cbp, .slice bd1 m.length cbp1, .slice bd2 k.length cbp2] 47) = w0 at A1 HA2 HB0 ⊢
  refine (eqPostS_same _ _ l hl HD.out _ (Hu.out.below HB0.out) (Hu'.out.below HB0.out)).mono ?_
  rintro e w1 ⟨rfl, hb1⟩
  have B1 := Lib.hid (A1.out.later hb1)
  have B2 := Lib.hid (HA2.out.later hb1)
  have HB1 := Lib.hid (HB0.out.trans (hb1.mono HB0.out.size))
  clear hb1
  obtain ⟨g0, g1, g2⟩ := cells3 B1.out
  obtain ⟨e0, e1, e2⟩ := cells3 B2.out
  go_wp2_with fail
  refine (eqI_same _ _ m hm _ (Hw.out.below HB1.out) (Hw'.out.below HB1.out)).mono ?_
  rintro e w2 ⟨rfl, hb2⟩
  have C1 := Lib.hid (B1.out.later hb2)
  have C2 := Lib.hid (B2.out.later hb2)
  have HB2 := Lib.hid (HB1.out.trans (hb2.mono HB1.out.size))
  clear hb2 g0 g1 g2 e0 e1 e2
  obtain ⟨g0, g1, g2⟩ := cells3 C1.out
  obtain ⟨e0, e1, e2⟩ := cells3 C2.out
  go_wp2_with fail
  refine (eqI_same _ _ k hk _ (Hs.out.below HB2.out) (Hs'.out.below HB2.out)).mono ?_
  rintro e w3 ⟨rfl, hb3⟩
  have HB3 := Lib.hid (HB2.out.trans (hb3.mono HB2.out.size))
  clear hb3
  go_wp2
  go_ret
  exact ⟨rfl, HB3.out⟩
end Go.Proofs.Ytijilhaoknpeeaa.Num
