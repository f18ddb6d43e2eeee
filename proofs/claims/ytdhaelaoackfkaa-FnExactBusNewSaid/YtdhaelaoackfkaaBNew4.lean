
/-
  BusNew of the model. (Made by wip/gbnew.py.)
-/
import Derived.Test.YtdhaelaoackfkaaBNew3
import Derived.Test.YtdhaelaoackfkaaRowApp
namespace Go.Proofs.Ytdhaelaoackfkaa.KD
open Go.RowKit Rows3 GR Num
set_option linter.unusedVariables false
theorem elMstN : ElT mstK 70 := by
  obtain ⟨i, hi, hz, hsz, hby⟩ := info_parts' info_iMstN
  exact ⟨i, _, hi, hz, hsz, rfl, hby⟩
theorem elIntN : ElT int 3 := by
  obtain ⟨i, hi, hz, hsz, hby⟩ := info_parts' (i := Try.prog.info? 3) (z := .int .i64 0) (n := 1) (by kernel_rfl)
  exact ⟨i, _, hi, hz, hsz, rfl, hby⟩
theorem bus_built2 {n : Nat} (a1 b0 b1 b2 : Option Addr) (p1 q0 q1 q2 : Nat) (q mw mr ms lm : Int) : Try.prog.built 42 [(0, .agg #[.slice a1 n p1, .int .i64 q, .int .i64 mw, .int .i64 mr, .int .i64 ms, .int .i64 lm]), (6, .int .i64 (-1)), (8, .int .i64 (-1)), (11, .agg #[.slice b0 192 q0, .slice b1 4 q1, .int .i64 0, .slice b2 0 q2])] = some (busA (.slice a1 n p1) q mw mr ms lm (.slice none 0 0) (.slice none 0 0) (.slice none 0 0) (-1) (-1) (.slice b0 192 q0) (.slice b1 4 q1) (.slice b2 0 q2)) := by kernel_rfl
/-- the three rows that grow: the masters' states, the buckets, the splits. -/
def Rows4 (FM FB FS : Foot) (am au az : Option Addr) (pm pu pz j : Nat) (l : List (Int × Bool × Int × Int)) (lo gB : Nat) (w : World) : Prop :=
  mstS.cap FM [.slice am j pm] (List.replicate j mst0) w ∧ bucketS.cap FB [.slice au j pu] ((l.take j).map bkt) w ∧ ints.cap FS [.slice az j pz] (List.replicate j 0) w ∧
  (∀ k, FM k → lo ≤ k ∧ k < w.heap.size) ∧ (∀ k, FB k → lo ≤ k ∧ k < w.heap.size) ∧ (∀ k, FS k → lo ≤ k ∧ k < w.heap.size) ∧ (∀ k, FM k → ¬ FB k) ∧ (∀ k, FM k → ¬ FS k) ∧ (∀ k, FB k → ¬ FS k)
theorem rep_snoc {α : Type} (j : Nat) (x : α) : List.replicate j x ++ [x] = List.replicate (j + 1) x := by rw [List.replicate_succ']
set_option maxHeartbeats 16000000 in
set_option maxRecDepth 100000 in
theorem specBusNew (cs : List Value) (l : List (Int × Bool × Int × Int)) (q mw mr ms lm : Int) (hl : l.length ≤ 2000000) (w : World) (h : confK.rd cs (l, q, mw, mr, ms, lm) w) :
    Calls Try.prog 6 #[agg cs] w fun e w' => ∃ us : Array Value, e = .returned (.tuple #[.agg us, .bool (newBus (l, q, mw, mr, ms, lm)).2]) ∧ busK.cap (fun k => w.heap.size ≤ k) us.toList (newBus (l, q, mw, mr, ms, lm)).1 w' ∧ Below w.heap.size w w' := by
  obtain ⟨a, p, rfl, h0⟩ := conf_form h
  have HL := Lib.hid hl
  have hsx : Hid (okX (l, q, mw, mr, ms, lm) = true → 1 ≤ l.length ∧ l.length ≤ 4) := Lib.hid okX_len
  obtain ⟨n, hn⟩ : ∃ n, l.length = n := ⟨_, rfl⟩
  have HN := Lib.hid hn
  obtain ⟨D, hD⟩ : ∃ D, newBus (l, q, mw, mr, ms, lm) = D := ⟨_, rfl⟩
  have HD := Lib.hid hD
  rw [hD]
  rw [hn] at h0 ⊢
  have hsz : ∀ (w : World) o, (w.alloc o).heap.size = w.heap.size + 1 := fun w o => by simp
  have A0 := Lib.hid ((Bx.new 28 #[.slice a n p, .int .i64 q, .int .i64 mw, .int .i64 mr, .int .i64 ms, .int .i64 lm] w).alloc (Obj.cells #[.slice none 0 0, .int .i64 0, .int .i64 0, .int .i64 0, .int .i64 0, .int .i64 0, .int .i64 0, .slice none 0 0, .int .i64 0, .int .i64 0, .slice none 0 0, .slice none 0 0, .int .i64 0, .int .i64 0, .int .i64 0, .bool false, .int .i64 0, .int .i64 0, .bool false, .int .i64 0, .int .i64 0, .int .i64 0, .bool false, .bool false, .int .i64 0, .int .i64 0, .bool false, .int .i64 0, .int .i64 0, .int .i64 0, .bool false, .slice none 0 0, .slice none 0 0, .int .i64 0, .slice none 0 0, .int .i64 0, .slice none 0 0] 42))
  have B0 := Bx.new 42 #[.slice none 0 0, .int .i64 0, .int .i64 0, .int .i64 0, .int .i64 0, .int .i64 0, .int .i64 0, .slice none 0 0, .int .i64 0, .int .i64 0, .slice none 0 0, .slice none 0 0, .int .i64 0, .int .i64 0, .int .i64 0, .bool false, .int .i64 0, .int .i64 0, .bool false, .int .i64 0, .int .i64 0, .int .i64 0, .bool false, .bool false, .int .i64 0, .int .i64 0, .bool false, .int .i64 0, .int .i64 0, .int .i64 0, .bool false, .slice none 0 0, .slice none 0 0, .int .i64 0, .slice none 0 0, .int .i64 0, .slice none 0 0] (w.alloc (Obj.cells #[.slice a n p, .int .i64 q, .int .i64 mw, .int .i64 mr, .int .i64 ms, .int .i64 lm] 28))
  rw [hsz] at B0
  have X0 : Hid (Bx 42 (w.heap.size + 1) (busA (.slice none 0 0) 0 0 0 0 0 (.slice none 0 0) (.slice none 0 0) (.slice none 0 0) 0 0 (.slice none 0 0) (.slice none 0 0) (.slice none 0 0)) _) := Lib.hid B0
  have HB0 := Lib.hid (((Below.refl w.heap.size w).alloc (Nat.le_refl _) (Obj.cells #[.slice a n p, .int .i64 q, .int .i64 mw, .int .i64 mr, .int .i64 ms, .int .i64 lm] 28)).alloc (by simp) (Obj.cells #[.slice none 0 0, .int .i64 0, .int .i64 0, .int .i64 0, .int .i64 0, .int .i64 0, .int .i64 0, .slice none 0 0, .int .i64 0, .int .i64 0, .slice none 0 0, .slice none 0 0, .int .i64 0, .int .i64 0, .int .i64 0, .bool false, .int .i64 0, .int .i64 0, .bool false, .int .i64 0, .int .i64 0, .int .i64 0, .bool false, .bool false, .int .i64 0, .int .i64 0, .bool false, .int .i64 0, .int .i64 0, .int .i64 0, .bool false, .slice none 0 0, .slice none 0 0, .int .i64 0, .slice none 0 0, .int .i64 0, .slice none 0 0] 42))
  have H0 := Lib.hid (mConfS.rd_later h0 (((Below.refl w.heap.size w).alloc (Nat.le_refl _) (Obj.cells #[.slice a n p, .int .i64 q, .int .i64 mw, .int .i64 mr, .int .i64 ms, .int .i64 lm] 28)).alloc (by simp) (Obj.cells #[.slice none 0 0, .int .i64 0, .int .i64 0, .int .i64 0, .int .i64 0, .int .i64 0, .int .i64 0, .slice none 0 0, .int .i64 0, .int .i64 0, .slice none 0 0, .slice none 0 0, .int .i64 0, .int .i64 0, .int .i64 0, .bool false, .int .i64 0, .int .i64 0, .bool false, .int .i64 0, .int .i64 0, .int .i64 0, .bool false, .bool false, .int .i64 0, .int .i64 0, .bool false, .int .i64 0, .int .i64 0, .int .i64 0, .bool false, .slice none 0 0, .slice none 0 0, .int .i64 0, .slice none 0 0, .int .i64 0, .slice none 0 0] 42)))
  clear h h0 hn hl hsz B0 hD
  show Calls _ _ #[.agg #[.slice a n p, .int .i64 q, .int .i64 mw, .int .i64 mr, .int .i64 ms, .int .i64 lm]] w _
  go_enter Try.func6, Try.ntmps6
  go_upto_region 1 with fail
  generalize (w.alloc (Obj.cells #[.slice a n p, .int .i64 q, .int .i64 mw, .int .i64 mr, .int .i64 ms, .int .i64 lm] 28)).alloc (Obj.cells #[.slice none 0 0, .int .i64 0, .int .i64 0, .int .i64 0, .int .i64 0, .int .i64 0, .int .i64 0, .slice none 0 0, .int .i64 0, .int .i64 0, .slice none 0 0, .slice none 0 0, .int .i64 0, .int .i64 0, .int .i64 0, .bool false, .int .i64 0, .int .i64 0, .bool false, .int .i64 0, .int .i64 0, .int .i64 0, .bool false, .bool false, .int .i64 0, .int .i64 0, .bool false, .int .i64 0, .int .i64 0, .int .i64 0, .bool false, .slice none 0 0, .slice none 0 0, .int .i64 0, .slice none 0 0, .int .i64 0, .slice none 0 0] 42) = y0 at A0 X0 HB0 H0 ⊢
  obtain ⟨g0, g1, g2, g3, g4, g5⟩ := A0.out.cells6
  go_wp2_with fail
  obtain ⟨R, hR⟩ : ∃ R, okX (l, q, mw, mr, ms, lm) = R := ⟨_, rfl⟩
  have HR := Lib.hid hR
  have HQ := specConfX _ l q mw mr ms lm HL.out _ (conf_rd (x1 := q) (x2 := mw) (x3 := mr) (x4 := ms) (x5 := lm) H0.out)
  rw [hR] at HQ
  clear hR
  refine HQ.mono ?_
  clear HQ
  rintro e y1 ⟨rfl, hb⟩
  have A1 := Lib.hid (A0.out.later hb)
  have X1 := Lib.hid (X0.out.later hb)
  have HB1 := Lib.hid (HB0.out.trans (hb.mono HB0.out.size))
  have H1 := Lib.hid (mConfS.rd_later H0.out hb)
  clear hb A0 X0 HB0 H0 g0 g1 g2 g3 g4 g5
  dsimp only
  cases R
  · obtain rfl : D = (busW [] 0 0 0 0 0 [] [] [] 0 0 [] [] [], false) := by rw [← HD.out]; exact newBus_no HR.out
    repeat (first | (refine wp_build_on 42 _ rfl (busA (.slice none 0 0) 0 0 0 0 0 (.slice none 0 0) (.slice none 0 0) (.slice none 0 0) 0 0 (.slice none 0 0) (.slice none 0 0) (.slice none 0 0)) bus_built0 ?_) | (refine wp_store_row 42 _ _ rfl (w.heap.size + 1) (busA (.slice none 0 0) 0 0 0 0 0 (.slice none 0 0) (.slice none 0 0) (.slice none 0 0) 0 0 (.slice none 0 0) (.slice none 0 0) (.slice none 0 0)) rfl rfl 42 (busA (.slice none 0 0) 0 0 0 0 0 (.slice none 0 0) (.slice none 0 0) (.slice none 0 0) 0 0 (.slice none 0 0) (.slice none 0 0) (.slice none 0 0)) X1.out (busA_info ..) rfl (busA_ones rfl rfl rfl rfl rfl rfl rfl) ?_) | go_values | go_skip | go_guarded | go_step | go_upon | go_back)
    have X2 := bx_row (brr := busA (.slice none 0 0) 0 0 0 0 0 (.slice none 0 0) (.slice none 0 0) (.slice none 0 0) 0 0 (.slice none 0 0) (.slice none 0 0) (.slice none 0 0)) X1.out
    have hrun := run_loadVar_row (P := Try.prog) _ (w.heap.size + 1) 42 42 (busA (.slice none 0 0) 0 0 0 0 0 (.slice none 0 0) (.slice none 0 0) (.slice none 0 0) 0 0 (.slice none 0 0) (.slice none 0 0) (.slice none 0 0)) (0, 0) _ X2 Try.underlying42 rfl (busA_info ..)
    refine bodyPost_ret (v := .tuple #[.agg (busA (.slice none 0 0) 0 0 0 0 0 (.slice none 0 0) (.slice none 0 0) (.slice none 0 0) 0 0 (.slice none 0 0) (.slice none 0 0) (.slice none 0 0)), .bool false]) (results_cell2 Try.results6 _ _ (w.heap.size + 1) _ _ rfl rfl hrun) rfl ⟨_, rfl, busZ_cap _ _, ?_⟩
    exact below_setRow HB1.out (by omega) _
  · obtain ⟨hn1, hn4⟩ := hsx.out HR.out
    rw [HN.out] at hn1 hn4
    obtain rfl : D = (busW l q mw mr ms lm (List.replicate n mst0) (l.map bkt) (List.replicate n 0) (-1) (-1) (List.replicate 192 0) [0, 0, 0, 0] [], true) := by rw [← HD.out, newBus_yes HR.out, HN.out]
    clear HD HR hsx
    have hlt0 : w.heap.size + 1 < y1.heap.size := X1.out.lt
    obtain ⟨g0, g1, g2, g3, g4, g5⟩ := A1.out.cells6
    go_wp2_with fail
    have HQ := specCopyConf _ l q mw mr ms lm HL.out (by rw [HN.out]; exact hn1) y1 (conf_rd (x1 := q) (x2 := mw) (x3 := mr) (x4 := ms) (x5 := lm) H1.out)
    refine HQ.mono ?_
    clear HQ g0 g1 g2 g3 g4 g5
    rintro e y2 ⟨v, rfl, hc, hb⟩
    obtain ⟨a1, p1, ev, _⟩ := row_form (K := mConfK) (mConfS.cap_rd hc)
    rw [HN.out] at ev
    obtain rfl : v = .slice a1 n p1 := by simpa using ev
    have C2 := Lib.hid (mConfS.cap_top hc)
    have HY2 := Lib.hid hb
    clear hc hb ev
    dsimp only
    go_wp2_with fail
    refine (specModelNew y2).mono ?_
    rintro e y3 ⟨us, he, hc, hb⟩
    obtain ⟨b0, q0, b1, q1, b2, q2, rfl⟩ := model_four hc
    obtain rfl : e = .returned (.agg #[.slice b0 192 q0, .slice b1 4 q1, .int .i64 0, .slice b2 0 q2]) := he
    have CM3 := Lib.hid (modelK.cap_top hc)
    have C3 := Lib.hid (mConfS.cap_later C2.out hb)
    have HY3 := Lib.hid (HY2.out.trans (hb.mono HY2.out.size))
    have hz2 := HY2.out.size
    have hz3 := hb.size
    clear hc hb C2 HY2
    dsimp only
    have hal := (Below.refl y3.heap.size y3).alloc (Nat.le_refl _) (Obj.cells #[.slice none 0 0, .int .i64 0, .int .i64 0, .int .i64 0, .int .i64 0, .int .i64 0, .int .i64 0, .slice none 0 0, .int .i64 0, .int .i64 0, .slice none 0 0, .slice none 0 0, .int .i64 0, .int .i64 0, .int .i64 0, .bool false, .int .i64 0, .int .i64 0, .bool false, .int .i64 0, .int .i64 0, .int .i64 0, .bool false, .bool false, .int .i64 0, .int .i64 0, .bool false, .int .i64 0, .int .i64 0, .int .i64 0, .bool false, .slice none 0 0, .slice none 0 0, .int .i64 0, .slice none 0 0, .int .i64 0, .slice none 0 0] 42)
    have hT := below_setRow hal (Nat.le_refl _) (busA (.slice a1 n p1) q mw mr ms lm (.slice none 0 0) (.slice none 0 0) (.slice none 0 0) (-1) (-1) (.slice b0 192 q0) (.slice b1 4 q1) (.slice b2 0 q2))
    have XB : Hid (Bx 42 y3.heap.size (busA (.slice a1 n p1) q mw mr ms lm (.slice none 0 0) (.slice none 0 0) (.slice none 0 0) (-1) (-1) (.slice b0 192 q0) (.slice b1 4 q1) (.slice b2 0 q2)) _) := Lib.hid (bx_row (brr := busA (.slice a1 n p1) q mw mr ms lm (.slice none 0 0) (.slice none 0 0) (.slice none 0 0) (-1) (-1) (.slice b0 192 q0) (.slice b1 4 q1) (.slice b2 0 q2)) (Bx.new 42 #[.slice none 0 0, .int .i64 0, .int .i64 0, .int .i64 0, .int .i64 0, .int .i64 0, .int .i64 0, .slice none 0 0, .int .i64 0, .int .i64 0, .slice none 0 0, .slice none 0 0, .int .i64 0, .int .i64 0, .int .i64 0, .bool false, .int .i64 0, .int .i64 0, .bool false, .int .i64 0, .int .i64 0, .int .i64 0, .bool false, .bool false, .int .i64 0, .int .i64 0, .bool false, .int .i64 0, .int .i64 0, .int .i64 0, .bool false, .slice none 0 0, .slice none 0 0, .int .i64 0, .slice none 0 0, .int .i64 0, .slice none 0 0] y3))
    have C0 := Lib.hid (mConfS.cap_later C3.out hT)
    have CM := Lib.hid (modelK.cap_later CM3.out hT)
    have HY := Lib.hid (HY3.out.trans (hT.mono HY3.out.size))
    clear hal hT
    iterate 2 (first | go_values | go_skip | go_guarded | go_step | go_upon | go_back)
    refine wp_build_on 42 _ rfl (busA (.slice a1 n p1) q mw mr ms lm (.slice none 0 0) (.slice none 0 0) (.slice none 0 0) (-1) (-1) (.slice b0 192 q0) (.slice b1 4 q1) (.slice b2 0 q2)) ?hb ?_
    case hb => simp only [List.map_toArray, List.map_cons, List.map_nil]; exact bus_built2 ..
    repeat ((fail_if_success (first | (show Code.wp _ (Code.region 4 _ _) _ _ _) | (show Code.wp _ ((Code.region 4 _ _).seq _) _ _ _) | (show Code.wp _ (((Code.region 4 _ _).seq _).seq _) _ _ _))); first | (refine wp_store_row 42 _ _ rfl y3.heap.size (busA (.slice a1 n p1) q mw mr ms lm (.slice none 0 0) (.slice none 0 0) (.slice none 0 0) (-1) (-1) (.slice b0 192 q0) (.slice b1 4 q1) (.slice b2 0 q2)) rfl rfl 42 _ (Bx.new _ _ _) (busA_info ..) rfl (busA_ones rfl rfl rfl rfl rfl rfl rfl) ?_) | go_values | go_skip | go_guarded | go_step | go_upon | go_back)
    generalize (y3.alloc (Obj.cells #[.slice none 0 0, .int .i64 0, .int .i64 0, .int .i64 0, .int .i64 0, .int .i64 0, .int .i64 0, .slice none 0 0, .int .i64 0, .int .i64 0, .slice none 0 0, .slice none 0 0, .int .i64 0, .int .i64 0, .int .i64 0, .bool false, .int .i64 0, .int .i64 0, .bool false, .int .i64 0, .int .i64 0, .int .i64 0, .bool false, .bool false, .int .i64 0, .int .i64 0, .bool false, .int .i64 0, .int .i64 0, .int .i64 0, .bool false, .slice none 0 0, .slice none 0 0, .int .i64 0, .slice none 0 0, .int .i64 0, .slice none 0 0] 42)).setRow y3.heap.size (busA (.slice a1 n p1) q mw mr ms lm (.slice none 0 0) (.slice none 0 0) (.slice none 0 0) (-1) (-1) (.slice b0 192 q0) (.slice b1 4 q1) (.slice b2 0 q2)) = y4 at XB C0 CM HY ⊢
    obtain ⟨gB, hgB⟩ : ∃ g, y3.heap.size = g := ⟨_, rfl⟩
    rw [hgB] at XB ⊢
    simp only [Act.put]
    clear C3 CM3 HY3
    have A2 := Lib.hid (A1.out.later HY.out)
    have hxb := XB.out.lt
    have hnn : (n : Int) ≤ 4 := by omega
    have gc := A2.out.cell 0 _ rfl
    go_wp2_with fail
    clear gc
    go_loopw [5] (fun i wr => ∃ j : Nat, j ≤ n ∧ i = .int .i64 j ∧ Hid (∃ am pm au pu az pz FM FB FS, Bx 42 gB (busA (.slice a1 n p1) q mw mr ms lm (.slice am j pm) (.slice au j pu) (.slice az j pz) (-1) (-1) (.slice b0 192 q0) (.slice b1 4 q1) (.slice b2 0 q2)) wr ∧ Rows4 FM FB FS am au az pm pu pz j l y4.heap.size gB wr ∧ Turn (fun k => k = gB ∨ y4.heap.size ≤ k) y4 wr)) (fun i _ => n - (intOf i).toNat)
    case atStart => exact ⟨0, by omega, rfl, Lib.hid ⟨none, 0, none, 0, none, 0, fun _ => False, fun _ => False, fun _ => False, XB.out, ⟨row_nil _ _, row_nil _ _, cap_nil _ _, fun _ h => h.elim, fun _ h => h.elim, fun _ h => h.elim, fun _ h => h.elim, fun _ h => h.elim, fun _ h => h.elim⟩, Turn.refl _ _⟩⟩
    case round =>
      obtain ⟨j, hj, rfl, hE⟩ := hrel
      obtain ⟨am, pm, au, pu, az, pz, FM, F0, FS, hX, ⟨hM, hB, hS, sM, sB, sS, dMB, dMS, dBS⟩, ht⟩ := hE.out
      have hys := HY.out.size
      have hwr := ht.size
      have XR := Lib.hid hX
      have CMr := Lib.hid hM
      have CBr := Lib.hid hB
      have CSr := Lib.hid hS
      have SM := Lib.hid sM
      have SB := Lib.hid sB
      have SS := Lib.hid sS
      have DMB := Lib.hid dMB
      have DMS := Lib.hid dMS
      have DBS := Lib.hid dBS
      have TR := Lib.hid ht
      have AR := Lib.hid (bx_turned A2.out ht (fun h => by rcases h with h | h <;> omega))
      have HBR := Lib.hid (HY.out.trans (ht.below hys (fun k hk => by rcases hk with hk | hk <;> omega)))
      clear hX hM hB hS sM sB sS dMB dMS dBS ht hE
      have gc := AR.out.cell 0 _ rfl
      by_cases hlt : j < n
      · obtain ⟨x, hx⟩ := get_of (l := l) (i := j) (by rw [HN.out]; exact hlt)
        obtain ⟨b, o, _, es, e, _, _, lt, c, rx⟩ := row_rd H1.out hx
        simp at e
        obtain ⟨rfl, -, rfl⟩ := e
        obtain ⟨x0, x1, x2, x3⟩ := x
        obtain rfl := mConf_form rx
        have K0 := Lib.hid (show y1.cell? ⟨b, o + j * 4, none⟩ = some (.int .i64 x0) from c 0 _ rfl)
        have K1 := Lib.hid (show y1.cell? ⟨b, o + j * 4 + 1, none⟩ = some (.bool x1) from c 1 _ rfl)
        have K2 := Lib.hid (show y1.cell? ⟨b, o + j * 4 + 2, none⟩ = some (.int .i64 x2) from c 2 _ rfl)
        have K3 := Lib.hid (show y1.cell? ⟨b, o + j * 4 + 3, none⟩ = some (.int .i64 x3) from c 3 _ rfl)
        have HXJ := Lib.hid hx
        have HLT := Lib.hid lt
        clear c rx hx lt
        go_upto_region 7 with fail
        have x7 := XR.out.cell 7 _ (busA_at7 ..)
        have hfm : ¬ FM gB := fun h => by have := SM.out _ h; omega
        have hl6 : (List.replicate j mst0).length + 1 ≤ 4000000 := by rw [List.length_replicate]; omega
        go_upto_region 8 with (at_builtin; refine appRow 29 70 Try.underlying29 elMstN rfl _ _ rfl FM (fun _ => False) (.slice am j pm) (List.replicate j mst0) mst0 #[.slice none 0 0, .int .i64 0, .int .i64 0, .int .i64 0, .bool false, .bool false] wr rfl rfl CMr.out (mst_cap (row_nil (fun _ => False) _) (fun _ h => h)) (fun _ _ h => h.elim) (by intro u hu; simp at hu; rcases hu with rfl | rfl | rfl | rfl | rfl | rfl <;> rfl) hl6 ?_; intro v6 w6 hcap6 ht6; obtain ⟨a6, p6, ev6, _⟩ := row_form (K := mstK) (mstS.cap_rd hcap6); rw [List.length_append, List.length_singleton, List.length_replicate] at ev6; obtain rfl : v6 = .slice a6 (j + 1) p6 := (by simpa using ev6); rw [rep_snoc] at hcap6; have hc6 := Lib.hid hcap6; have ht6' := Lib.hid ht6; have X6 := Lib.hid (bx_turned XR.out ht6 hfm); have x76 := X6.out.cell 7 _ (busA_at7 ..); have xw6 := X6.out.warm 7; clear hcap6 ht6 ev6)
        have hS6 : Turn (fun k => k = gB) w6 (w6.setCell ⟨gB, 7, none⟩ (.slice a6 (j + 1) p6)) := Turn.set (F := fun k => k = gB) (Turn.refl _ _) rfl _
        have T6 := Lib.hid ((ht6'.out.wide (G := fun k => FM k ∨ k = gB) (fun k hk => .inl hk)).trans (hS6.wide (fun k hk => .inr hk)))
        have XR4 : Hid (Bx 42 gB (busA (.slice a1 n p1) q mw mr ms lm (.slice a6 (j + 1) p6) (.slice au j pu) (.slice az j pz) (-1) (-1) (.slice b0 192 q0) (.slice b1 4 q1) (.slice b2 0 q2)) (w6.setCell ⟨gB, 7, none⟩ (.slice a6 (j + 1) p6))) := Lib.hid (X6.out.set 7 (.slice a6 (j + 1) p6))
        have CM4 := Lib.hid (mstS.cap_top (mstS.cap_turn hc6.out hS6 (fun k _ hk e => by subst e; have := X6.out.lt; rcases hk with hk | hk | hk; exact hfm hk; exact hk.elim; have := XR.out.lt; omega)))
        have hw6 : wr.heap.size ≤ w6.heap.size := ht6'.out.size
        have hw6' : (w6.setCell ⟨gB, 7, none⟩ (.slice a6 (j + 1) p6)).heap.size = w6.heap.size := by simp [World.setCell]
        have HW4 := Lib.hid (show wr.heap.size ≤ (w6.setCell ⟨gB, 7, none⟩ (.slice a6 (j + 1) p6)).heap.size by omega)
        clear hw6 hw6'
        generalize w6.setCell ⟨gB, 7, none⟩ (.slice a6 (j + 1) p6) = w4 at T6 XR4 CM4 HW4 ⊢
        clear hS6 x7 x76 xw6 hl6 gc
        have FBg : ∀ k, F0 k → ¬ (FM k ∨ k = gB) := fun k hk h => by rcases h with h | h; exact DMB.out k h hk; have := SB.out k hk; omega
        have FSg : ∀ k, FS k → ¬ (FM k ∨ k = gB) := fun k hk h => by rcases h with h | h; exact DMS.out k h hk; have := SS.out k hk; omega
        obtain ⟨bs, hbs⟩ : ∃ bs, (l.take j).map bkt = bs := ⟨_, rfl⟩
        have CR4 : Hid (bucketS.cap F0 [.slice au j pu] bs w4) := Lib.hid (by rw [← hbs]; exact bucketS.cap_turn CBr.out T6.out (fun k _ hk => FBg k hk))
        have CS4 := Lib.hid (ints.cap_turn CSr.out T6.out (fun k _ hk => FSg k hk))
        have HBS : Hid (bs.length = j) := Lib.hid (by rw [← hbs, List.length_map, List.length_take]; have := HN.out; omega)
        have HBT : Hid (bs ++ [(newB x1 x3, 0)] = (l.take (j + 1)).map bkt) := Lib.hid (by rw [← hbs]; exact (take_bkt HXJ.out).symm)
        have S0 : Hid (∀ k, F0 k → k < w4.heap.size) := Lib.hid (fun k hk => Nat.lt_of_lt_of_le (SB.out k hk).2 HW4.out)
        have NX : Hid (¬ F0 gB) := Lib.hid (fun h => FBg _ h (.inr rfl))
        have hfar : ∀ k, k < y4.heap.size → k ≠ gB → ¬ (FM k ∨ k = gB) := fun k h1 h2 h => by rcases h with h | h; have := SM.out k h; omega; exact h2 h
        have NA : Hid (¬ F0 w.heap.size) := Lib.hid (fun h => by have := SB.out _ h; omega)
        have NB_ : Hid (¬ F0 b) := Lib.hid (fun h => by have := SB.out _ h; have := HLT.out; omega)
        have A4 := Lib.hid (bx_turned AR.out T6.out (hfar _ (by omega) (by omega)))
        have HBR4 := HBR.out.trans (T6.out.below (B := y1.heap.size) (by omega) (fun k hk => by rcases hk with h | h; have := SM.out k h; omega; omega))
        have HLB := Lib.hid (Nat.lt_of_lt_of_le HLT.out HBR4.size)
        have k0 := (bel_cells HBR4 HLT.out _).trans K0.out
        have k1 := (bel_cells HBR4 HLT.out _).trans K1.out
        have k2 := (bel_cells HBR4 HLT.out _).trans K2.out
        have k3 := (bel_cells HBR4 HLT.out _).trans K3.out
        have HL4 : Hid (bs.length + 1 ≤ 4000000) := Lib.hid (by have := HBS.out; omega)
        have xc10 := XR4.out.cell 10 _ (busA_at10 ..)
        have ac0 := A4.out.cell 0 _ rfl
        clear hbs FBg FSg hfar HBR4
        refine Inv.region_tailJ 11 9 (by decide) [27, 28, 29, 30, 31, 32, 33, 34, 35, 36, 37] (by kernel_rfl) (by kernel_rfl) (by kernel_rfl) (by kernel_rfl) (by kernel_rfl) (CJ F0 w4) (fun i => BP gB au j pu x0 x1 x2 x3 bs w4.heap.size (fun k => F0 k ∨ w4.heap.size ≤ k) w.heap.size n b o p (kM i)) ?_ ((Below.refl _ _).drew) ?_ ?_
        · intro i v w' hi
          have h7 := none_at 11 (by kernel_rfl) i hi
          show BP gB au j pu x0 x1 x2 x3 bs w4.heap.size (fun k => F0 k ∨ w4.heap.size ≤ k) w.heap.size n b o p (kM i) v w'
          rw [kM_none h7]
          exact trivial
        · intro i o7 ho7 hi7 listed ac w' s hcl hln hl haft K hK
          have hT := hcl.turn
          match i, ho7 with
          | 0, ho =>
            simp only [List.getElem?_toArray, List.getElem?_cons_zero, Option.some.injEq] at ho
            subst ho
            have e4 : ac.tmps.getD 4 undef = .pointer (some ⟨gB, 0, none⟩) := s.other 4 (fun jj _ e => Inv.none_at (t := 4) (by kernel_rfl) e)
            unfold Oper.wp
            go_simp
            exact hK _ _ (by rw [if_neg (by decide)]; exact hcl) (fun _ _ _ hj => hj) rfl
          | 1, ho =>
            simp only [List.getElem?_toArray, List.getElem?_cons_zero, List.getElem?_cons_succ, Option.some.injEq] at ho
            subst ho
            have e0 : ac.tmps.getD 27 undef = .pointer (some ⟨gB, 10, none⟩) := s.val 0 (by decide) (haft ⟨0, .data⟩ (by simp) rfl)
            have c := (turnC hT (i := 10) XR4.out.lt NX.out).trans xc10
            unfold Oper.wp
            go_simp
            exact hK _ _ (by rw [if_neg (by decide)]; exact hcl) (fun _ _ _ hj => hj) rfl
          | 2, ho =>
            simp only [List.getElem?_toArray, List.getElem?_cons_zero, List.getElem?_cons_succ, Option.some.injEq] at ho
            subst ho
            have e1 : ac.tmps.getD 1 undef = .pointer (some ⟨w.heap.size, 0, none⟩) := s.other 1 (fun jj _ e => Inv.none_at (t := 1) (by kernel_rfl) e)
            unfold Oper.wp
            go_simp
            exact hK _ _ (by rw [if_neg (by decide)]; exact hcl) (fun _ _ _ hj => hj) rfl
          | 3, ho =>
            simp only [List.getElem?_toArray, List.getElem?_cons_zero, List.getElem?_cons_succ, Option.some.injEq] at ho
            subst ho
            have e0 : ac.tmps.getD 29 undef = .pointer (some ⟨w.heap.size, 0, none⟩) := s.val 2 (by decide) (haft ⟨2, .data⟩ (by simp) rfl)
            have c := (turnC hT (i := 0) A4.out.lt NA.out).trans ac0
            unfold Oper.wp
            go_simp
            exact hK _ _ (by rw [if_neg (by decide)]; exact hcl) (fun _ _ _ hj => hj) rfl
          | 4, ho =>
            simp only [List.getElem?_toArray, List.getElem?_cons_zero, List.getElem?_cons_succ, Option.some.injEq] at ho
            subst ho
            have e5 : ac.tmps.getD 5 undef = .int .i64 (j : Int) := s.other 5 (fun jj _ e => Inv.none_at (t := 5) (by kernel_rfl) e)
            unfold Oper.wp
            go_simp
            exact hK _ _ (by rw [if_neg (by decide)]; exact hcl) (fun _ _ _ hj => hj) rfl
          | 5, ho =>
            simp only [List.getElem?_toArray, List.getElem?_cons_zero, List.getElem?_cons_succ, Option.some.injEq] at ho
            subst ho
            have e0 : ac.tmps.getD 30 undef = .slice (some ⟨b, o, none⟩) n p := s.val 3 (by decide) (haft ⟨3, .data⟩ (by simp) rfl)
            have e1 : ac.tmps.getD 31 undef = .int .i64 (j : Int) := s.val 4 (by decide) (haft ⟨4, .data⟩ (by simp) rfl)
            unfold Oper.wp
            go_simp
            exact hK _ _ (by rw [if_neg (by decide)]; exact hcl) (fun _ _ _ hj => hj) rfl
          | 6, ho =>
            simp only [List.getElem?_toArray, List.getElem?_cons_zero, List.getElem?_cons_succ, Option.some.injEq] at ho
            subst ho
            have e0 : ac.tmps.getD 32 undef = .pointer (some ⟨b, o + j * 4, none⟩) := s.val 5 (by decide) (haft ⟨5, .data⟩ (by simp) rfl)
            have c0 := (turnC hT (i := o + j * 4) HLB.out NB_.out).trans k0
            have c1 := (turnC hT (i := o + j * 4 + 1) HLB.out NB_.out).trans k1
            have c2 := (turnC hT (i := o + j * 4 + 2) HLB.out NB_.out).trans k2
            have c3 := (turnC hT (i := o + j * 4 + 3) HLB.out NB_.out).trans k3
            unfold Oper.wp
            go_simp
            exact hK _ _ (by rw [if_neg (by decide)]; exact hcl) (fun _ _ _ hj => hj) rfl
          | 7, ho =>
            simp only [List.getElem?_toArray, List.getElem?_cons_zero, List.getElem?_cons_succ, Option.some.injEq] at ho
            subst ho
            have e6 : ac.tmps.getD 33 undef = .agg #[.int .i64 x0, .bool x1, .int .i64 x2, .int .i64 x3] := s.val 6 (by decide) (haft ⟨6, .data⟩ (by simp) rfl)
            have hn4 := unlistedU s (i := 7) (j := 8) rfl ⟨⟨7, .data⟩, by simp, rfl, rfl⟩ (unlisted hl)
            have hn5 := unlistedU s (i := 8) (j := 9) rfl ⟨⟨8, .data⟩, by simp, rfl, rfl⟩ hn4
            have hbl : Below w4.heap.size w4 w' := by rw [hn5] at hcl; exact hcl
            unfold Oper.wp
            go_simp
            refine (specNew x0 x2 x3 x1 w').mono ?_
            rintro e w7 ⟨rfl, hb⟩
            exact hK _ _ (by rw [if_neg (by decide)]; exact hcl.later hb) (fun jj u _ hj => BP.later hb _ u hj) rfl
          | 8, ho =>
            simp only [List.getElem?_toArray, List.getElem?_cons_zero, List.getElem?_cons_succ, Option.some.injEq] at ho
            subst ho
            have e7 : ac.tmps.getD 34 undef = .agg #[.int .i64 (newB x1 x3), .int .i64 0] := s.val 7 (by decide) (haft ⟨7, .data⟩ (by simp) rfl)
            rw [Array.getD_eq_getD_getElem?] at e7
            unfold Oper.wp
            go_simp
            exact hK _ _ (by rw [if_neg (by decide)]; exact hcl.later ((Below.refl _ _).alloc (Nat.le_refl _) _)) (fun jj u _ hj => BP.later ((Below.refl _ _).alloc (Nat.le_refl _) _) _ u hj) ⟨_, rfl, hT.size, heap_alloc_new _ _⟩
          | 9, ho =>
            simp only [List.getElem?_toArray, List.getElem?_cons_zero, List.getElem?_cons_succ, Option.some.injEq] at ho
            subst ho
            have e1 : ac.tmps.getD 28 undef = .slice au j pu := s.val 1 (by decide) (haft ⟨1, .data⟩ (by simp) rfl)
            obtain ⟨g9, e8, hg9, hgc⟩ := s.val 8 (by decide) (haft ⟨8, .data⟩ (by simp) rfl)
            have e9 : ac.tmps.getD 35 undef = _ := e8
            have hn5 := unlisted hl
            have hbl : Below w4.heap.size w4 w' := by rw [hn5] at hcl; exact hcl
            refine appJ 32 72 Try.underlying32 elBucket (.tmp 28) (.tmp 35) rfl F0 (fun _ => False) (.slice au j pu) bs (newB x1 x3, 0) #[.int .i64 (newB x1 x3), .int .i64 0] g9 w' e1 e9 hgc (bucketS.cap_later CR4.out hbl) (bucket_capz _ _ _ _) (fun k _ h1 => h1.elim) (by intro u hu; simp at hu; rcases hu with rfl | rfl <;> rfl) HL4.out (fun v7 w7 hcap7 ht7 => ?_)
            obtain ⟨a7, p7, ev7, _, _⟩ := row_form (K := bucketK) (bucketS.cap_rd hcap7)
            rw [List.length_append, List.length_singleton, HBS.out] at ev7
            have ev8 : v7 = .slice a7 (j + 1) p7 := by simpa using ev7
            refine hK _ _ ?_ (fun jj u hj hjj => BP.step ht7 (fun k hk => S0.out k hk) _ u (fun h => hj (kM_five h)) hjj) ⟨a7, p7, ev8, bucketS.cap_wide hcap7 (fun k _ hk => ?_)⟩
            · rw [if_pos rfl]
              exact (show Turn F0 w4 w7 from (Turn.later hbl).trans ht7)
            · rcases hk with hk | hk | hk
              · exact .inl hk
              · exact hk.elim
              · exact .inr (Nat.le_trans hbl.size hk)
          | 10, ho =>
            simp only [List.getElem?_toArray, List.getElem?_cons_zero, List.getElem?_cons_succ, Option.some.injEq] at ho
            subst ho
            have e4 : ac.tmps.getD 4 undef = .pointer (some ⟨gB, 0, none⟩) := s.other 4 (fun jj _ e => Inv.none_at (t := 4) (by kernel_rfl) e)
            unfold Oper.wp
            go_simp
            exact hK _ _ (by rw [if_neg (by decide)]; exact hcl) (fun _ _ _ hj => hj) rfl
          | n + 11, ho => omega
        · intro f7 w6 o7 ho hC hv
          have hT : Turn F0 w4 w6 := hC.turn
          obtain ⟨a7, p7, e35, hcap7⟩ := hv 9 (by decide)
          have d35 : f7 36 = .slice a7 (j + 1) p7 := e35
          have d36 : f7 37 = .pointer (some ⟨gB, 10, none⟩) := hv 10 (by decide)
          have hcap8 : bucketS.cap _ [f7 36] _ w6 := hcap7
          simp only [Inv.setAll, List.setIfInBounds_toArray, List.set_cons_zero, List.set_cons_succ]
          rw [d35] at hcap8
          rw [d35, d36]
          simp only [List.getElem?_toArray, List.getElem?_cons_zero, List.getElem?_cons_succ, Option.some.injEq] at ho
          subst ho
          have X6 := bx_turned XR4.out hT NX.out
          have xw := X6.warm 10
          have x10 := X6.cell 10 _ (busA_at10 ..)
          have X7 := Lib.hid (X6.set 10 (.slice a7 (j + 1) p7))
          have hS : Turn (fun k => k = gB) w6 (w6.setCell ⟨gB, 10, none⟩ (.slice a7 (j + 1) p7)) := Turn.set (F := fun k => k = gB) (Turn.refl _ _) rfl _
          have CR7 := Lib.hid (bucketS.cap_turn hcap8 hS (fun k _ hk e => by rcases hk with hk | hk; exact NX.out (e ▸ hk); exact Nat.not_le_of_lt XR4.out.lt (e ▸ hk)))
          have TR7 := Lib.hid ((hT.wide (G := fun k => F0 k ∨ k = gB) (fun k hk => .inl hk)).trans (hS.wide (fun k hk => .inr hk)))
          rw [busA_set10] at X7
          rw [HBT.out] at CR7
          unfold Oper.wp
          go_simp
          clear hv e35 d35 d36 hcap7 hcap8 hC hT X6 xw x10 hS
          generalize w6.setCell ⟨gB, 10, none⟩ (.slice a7 (j + 1) p7) = w8 at X7 CR7 TR7 ⊢
          have hfs : ¬ FS gB := fun h => by have := SS.out _ h; omega
          have FSg : ∀ k, FS k → ¬ (F0 k ∨ k = gB) := fun k hk h => by rcases h with h | h; exact DBS.out k h hk; have := SS.out k hk; omega
          have CS8 := Lib.hid (ints.cap_turn CS4.out TR7.out (fun k _ hk => FSg k hk))
          have x11 := X7.out.cell 11 _ (busA_at11 ..)
          have hl9 : (List.replicate j (0 : Int)).length + 1 ≤ 4000000 := by rw [List.length_replicate]; omega
          clear k0 k1 k2 k3 xc10 ac0 FSg
          go_upto_region 6 with (at_builtin; refine appRow (K := int) (hn := by decide) 33 3 Try.underlying33 elIntN rfl _ _ rfl FS (fun _ => False) (.slice az j pz) (List.replicate j 0) 0 #[.int .i64 0] w8 rfl rfl CS8.out rfl (fun _ _ h => h.elim) (by intro u hu; simp at hu; subst hu; rfl) hl9 ?_; intro v9 w9 hcap9 ht9; obtain ⟨a8, p8, ev9, _⟩ := row_form (K := int) (ints.cap_rd hcap9); rw [List.length_append, List.length_singleton, List.length_replicate] at ev9; obtain rfl : v9 = .slice a8 (j + 1) p8 := (by simpa using ev9); rw [rep_snoc] at hcap9; have hc9 := Lib.hid hcap9; have ht9' := Lib.hid ht9; have X9 := Lib.hid (bx_turned X7.out ht9 hfs); have x119 := X9.out.cell 11 _ (busA_at11 ..); have xw9 := X9.out.warm 11; clear hcap9 ht9 ev9)
          have hS9 : Turn (fun k => k = gB) w9 (w9.setCell ⟨gB, 11, none⟩ (.slice a8 (j + 1) p8)) := Turn.set (F := fun k => k = gB) (Turn.refl _ _) rfl _
          have T9 := Lib.hid ((ht9'.out.wide (G := fun k => FS k ∨ k = gB) (fun k hk => .inl hk)).trans (hS9.wide (fun k hk => .inr hk)))
          have XR9 := Lib.hid (X9.out.set 11 (.slice a8 (j + 1) p8))
          rw [busA_set11] at XR9
          have CS9 := Lib.hid (ints.cap_top (ints.cap_turn hc9.out hS9 (fun k _ hk e => by subst e; rcases hk with hk | hk | hk; exact hfs hk; exact hk.elim; have := X7.out.lt; omega)))
          have hw9 := ht9'.out.size
          have hw9' : (w9.setCell ⟨gB, 11, none⟩ (.slice a8 (j + 1) p8)).heap.size = w9.heap.size := by simp [World.setCell]
          have HW9 := Lib.hid (show w8.heap.size ≤ (w9.setCell ⟨gB, 11, none⟩ (.slice a8 (j + 1) p8)).heap.size by omega)
          have HW8 := Lib.hid TR7.out.size
          clear hw9 hw9' x11 x119 xw9 hl9
          generalize w9.setCell ⟨gB, 11, none⟩ (.slice a8 (j + 1) p8) = wz at T9 XR9 CS9 HW9 ⊢
          clear hS9
          go_wp2_with fail
          go_roundw
          case rel =>
            have hw4 := HW4.out
            have hw8 := HW8.out
            have hw9 := HW9.out
            have sm : ∀ k, FM k → y4.heap.size ≤ k ∧ k < wr.heap.size := SM.out
            have sb : ∀ k, F0 k → y4.heap.size ≤ k ∧ k < wr.heap.size := SB.out
            have ss : ∀ k, FS k → y4.heap.size ≤ k ∧ k < wr.heap.size := SS.out
            have CM8 := mstS.cap_turn CM4.out TR7.out (fun k hk4 hk h => by
              rcases h with h | h
              · rcases hk.1 with hk | hk | hk
                · exact DMB.out k hk h
                · exact hk
                · have := (sb k h).2; omega
              · subst h
                rcases hk.1 with hk | hk | hk
                · exact hfm hk
                · exact hk
                · omega)
            have CM9 := mstS.cap_turn CM8 T9.out (fun k hk4 hk h => by
              rcases h with h | h
              · rcases hk.1 with hk | hk | hk
                · exact DMS.out k hk h
                · exact hk
                · have := (ss k h).2; omega
              · subst h
                rcases hk.1 with hk | hk | hk
                · exact hfm hk
                · exact hk
                · omega)
            have CB9 := bucketS.cap_turn (bucketS.cap_top CR7.out) T9.out (fun k hk8 hk h => by
              rcases h with h | h
              · rcases hk.1 with hk | hk
                · exact DBS.out k hk h
                · have := (ss k h).2; omega
              · subst h
                rcases hk.1 with hk | hk
                · exact NX.out hk
                · have := XR.out.lt; omega)
            have TZ : Turn (fun k => k = gB ∨ y4.heap.size ≤ k) y4 wz := ((TR.out.trans (T6.out.wide (fun k hk => by rcases hk with h | h; exact .inr (sm k h).1; exact .inl h))).trans (TR7.out.wide (fun k hk => by rcases hk with h | h; exact .inr (sb k h).1; exact .inl h))).trans (T9.out.wide (fun k hk => by rcases hk with h | h; exact .inr (ss k h).1; exact .inl h))
            refine ⟨j + 1, by omega, by go_num, Lib.hid ⟨a6, p6, a7, p7, a8, p8, _, _, _, XR9.out, ⟨CM9, CB9, CS9.out, ?_, ?_, ?_, ?_, ?_, ?_⟩, TZ⟩⟩
            · intro k hk; rcases hk.1 with h | h | h
              · have := sm k h; omega
              · exact h.elim
              · have := hk.2; omega
            · intro k hk; rcases hk.1 with h | h
              · have := sb k h; omega
              · have := hk.2; omega
            · intro k hk; rcases hk.1 with h | h | h
              · have := ss k h; omega
              · exact h.elim
              · have := hk.2; omega
            · intro k hk hk2; rcases hk.1 with h | h | h
              · rcases hk2.1 with g | g
                · exact DMB.out k h g
                · have := sm k h; omega
              · exact h
              · rcases hk2.1 with g | g
                · have := sb k g; omega
                · have := hk.2; omega
            · intro k hk hk2; rcases hk.1 with h | h | h
              · rcases hk2.1 with g | g | g
                · exact DMS.out k h g
                · exact g
                · have := sm k h; omega
              · exact h
              · rcases hk2.1 with g | g | g
                · have := ss k g; omega
                · exact g
                · have := hk.2; omega
            · intro k hk hk2; rcases hk.1 with h | h
              · rcases hk2.1 with g | g | g
                · exact DBS.out k h g
                · exact g
                · have := sb k h; omega
              · rcases hk2.1 with g | g | g
                · have := ss k g; omega
                · exact g
                · have := hk.2; omega
          case measure => simp [intOf]; omega
      · skip
        obtain rfl : j = n := by omega
        have XE := Lib.hid (bx_turned (X1.out.later HY.out) TR.out (fun h => by rcases h with h | h <;> omega))
        repeat (first | (refine wp_load_row 42 _ rfl gB rfl 42 (busA (.slice a1 j p1) q mw mr ms lm (.slice am j pm) (.slice au j pu) (.slice az j pz) (-1) (-1) (.slice b0 192 q0) (.slice b1 4 q1) (.slice b2 0 q2)) (0, 0) _ XR.out Try.underlying42 rfl (busA_info ..) ?_) | (refine wp_store_row 42 _ _ rfl (w.heap.size + 1) (busA (.slice a1 j p1) q mw mr ms lm (.slice am j pm) (.slice au j pu) (.slice az j pz) (-1) (-1) (.slice b0 192 q0) (.slice b1 4 q1) (.slice b2 0 q2)) rfl rfl 42 (busA (.slice none 0 0) 0 0 0 0 0 (.slice none 0 0) (.slice none 0 0) (.slice none 0 0) 0 0 (.slice none 0 0) (.slice none 0 0) (.slice none 0 0)) XE.out (busA_info ..) rfl (busA_ones rfl rfl rfl rfl rfl rfl rfl) ?_) | go_values | go_skip | go_guarded | go_step | go_upon | go_back)
        have X2 := bx_row (brr := busA (.slice a1 j p1) q mw mr ms lm (.slice am j pm) (.slice au j pu) (.slice az j pz) (-1) (-1) (.slice b0 192 q0) (.slice b1 4 q1) (.slice b2 0 q2)) XE.out
        have hrun := run_loadVar_row (P := Try.prog) _ (w.heap.size + 1) 42 42 (busA (.slice a1 j p1) q mw mr ms lm (.slice am j pm) (.slice au j pu) (.slice az j pz) (-1) (-1) (.slice b0 192 q0) (.slice b1 4 q1) (.slice b2 0 q2)) (0, 0) _ X2 Try.underlying42 rfl (busA_info ..)
        have TE : Turn (fun k => k = gB ∨ y4.heap.size ≤ k ∨ k = w.heap.size + 1) y4 (wr.setRow (w.heap.size + 1) (busA (.slice a1 j p1) q mw mr ms lm (.slice am j pm) (.slice au j pu) (.slice az j pz) (-1) (-1) (.slice b0 192 q0) (.slice b1 4 q1) (.slice b2 0 q2))) := (TR.out.wide (fun k hk => by rcases hk with h | h; exact .inl h; exact .inr (.inl h))).trans (Turn.row (F := fun k => k = gB ∨ y4.heap.size ≤ k ∨ k = w.heap.size + 1) (Turn.refl _ _) (.inr (.inr rfl)) _)
        have TW : Turn (fun k => k = w.heap.size + 1) wr (wr.setRow (w.heap.size + 1) (busA (.slice a1 j p1) q mw mr ms lm (.slice am j pm) (.slice au j pu) (.slice az j pz) (-1) (-1) (.slice b0 192 q0) (.slice b1 4 q1) (.slice b2 0 q2))) := Turn.row (F := fun k => k = w.heap.size + 1) (Turn.refl _ _) rfl _
        have sm := SM.out
        have sb := SB.out
        have ss := SS.out
        have hbk : (l.take j).map bkt = l.map bkt := by rw [List.take_of_length_le (by rw [HN.out]; exact Nat.le_refl _)]
        have CBE := bucketS.cap_turn CBr.out TW (fun k _ hk e => by have := sb k hk; omega)
        rw [hbk] at CBE
        refine bodyPost_ret (v := .tuple #[.agg (busA (.slice a1 j p1) q mw mr ms lm (.slice am j pm) (.slice au j pu) (.slice az j pz) (-1) (-1) (.slice b0 192 q0) (.slice b1 4 q1) (.slice b2 0 q2)), .bool true]) (results_cell2 Try.results6 _ _ (w.heap.size + 1) _ _ rfl rfl hrun) rfl ⟨_, rfl, busA_cap (mConfS.cap_turn C0.out TE (fun k _ hk h => ?_)) (mstS.cap_turn CMr.out TW (fun k _ hk e => ?_)) CBE (ints.cap_turn CSr.out TW (fun k _ hk e => ?_)) (modelK.cap_turn CM.out TE (fun k _ hk h => ?_)) (fun k hk => ?_) (fun k hk => ?_) (fun k hk => ?_) (fun k hk => ?_) (fun k hk => ?_) (fun k hk h2 => ?_) (fun k hk h2 => ?_) (fun k hk h2 => ?_) (fun k hk h2 => ?_) DMB.out DMS.out (fun k hk h2 => ?_) DBS.out (fun k hk h2 => ?_) (fun k hk h2 => ?_), ?_⟩
        · rcases h with h | h | h <;> omega
        · have := sm k hk; omega
        · have := ss k hk; omega
        · rcases h with h | h | h <;> omega
        · omega
        · have := sm k hk; omega
        · have := sb k hk; omega
        · have := ss k hk; omega
        · omega
        · have := sm k h2; omega
        · have := sb k h2; omega
        · have := ss k h2; omega
        · omega
        · have := sm k hk; omega
        · have := sb k hk; omega
        · have := ss k hk; omega
        · exact below_setRow (HB1.out.trans (HBR.out.mono HB1.out.size)) (by omega) _
end Go.Proofs.Ytdhaelaoackfkaa.KD
