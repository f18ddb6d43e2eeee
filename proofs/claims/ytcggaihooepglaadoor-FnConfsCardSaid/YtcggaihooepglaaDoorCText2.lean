
/-
  The text of a configuration: what the program's ConfText returns.
-/
import Derived.Test.YtcggaihooepglaaDoorCText
import Derived.Test.YtcggaihooepglaaDoorStrRow
import Derived.Test.YtcggaihooepglaaDoorShelfS
import Derived.Test.YtcggaihooepglaaDoorFresh
namespace Go.Proofs.YtcggaihooepglaaDoor.Num
open Go.RowKit GR Bytes Rows3

theorem implDec_is {n : Int} {D : ByteArray} (h : decB n = D) (h0 : -9223372036854775808 ≤ n) (h1 : n ≤ 9223372036854775807) (w : World) (htab : Pow w) :
    Calls Tryd.prog 26 #[.int .i64 n] w fun e w' => e = .returned (.string D) ∧ Below w.heap.size w w' := by rw [← h]; exact implDec_any n h0 h1 w htab
theorem pow_regrown {w : World} (h : Pow w) (d : Nat) (os : Array Obj) : Pow (Sort.grow (redrawn w d) os) := h.below (below_regrown w d os)
set_option maxHeartbeats 1000000 in
set_option maxRecDepth 100000 in
theorem implWord (a0 : Int) (p : Bool) (b0 c0 : Int) (ha : 0 ≤ a0 ∧ a0 ≤ 1000) (hb : 0 ≤ b0 ∧ b0 ≤ 1000) (hc : 0 ≤ c0 ∧ c0 ≤ 1000) (w : World) (htab : Pow w) :
    Calls Tryd.prog 27 #[.agg #[.int .i64 a0, .bool p, .int .i64 b0, .int .i64 c0]] w fun e w' => e = .returned (.string (mB ⟨a0, p, b0, c0⟩)) ∧ Below w.heap.size w w' := by
  obtain ⟨a1, a2⟩ := ha
  obtain ⟨b1, b2⟩ := hb
  obtain ⟨c1, c2⟩ := hc
  have Ht := Lib.hid htab
  obtain ⟨W, hW⟩ : ∃ D, decB a0 = D := ⟨_, rfl⟩
  obtain ⟨V, hV⟩ : ∃ D, decB b0 = D := ⟨_, rfl⟩
  obtain ⟨U, hU⟩ : ∃ D, decB c0 = D := ⟨_, rfl⟩
  have s1 : W.size ≤ 21 := by rw [← hW]; exact decB_size _ (by omega) (by omega)
  have s2 : V.size ≤ 21 := by rw [← hV]; exact decB_size _ (by omega) (by omega)
  have s3 : U.size ≤ 21 := by rw [← hU]; exact decB_size _ (by omega) (by omega)
  have HW := Lib.hid hW
  have HV := Lib.hid hV
  have HU := Lib.hid hU
  have Hm := Lib.hid (show mB ⟨a0, p, b0, c0⟩ = W ++ (if p then ⟨#[58]⟩ ++ V ++ ⟨#[58]⟩ ++ U else ⟨#[]⟩) by unfold mB; rw [hW, hV, hU])
  clear htab hW hV hU
  cases p with
  | false =>
    go_enter Tryd.func27, Tryd.ntmps27
    go_wp2_with fail
    refine (implDec_is HW.out (by omega) (by omega) _ (Ht.out.below ((Below.refl _ _).alloc (Nat.le_refl _) _))).mono ?_
    rintro e w1 ⟨rfl, hb⟩
    go_wp2
    go_ret
    exact ⟨by rw [Hm.out, if_neg (by simp), app_nil]; rfl, below_alloc1 (Below.refl _ _) (Nat.le_refl _) hb⟩
  | true =>
    have A := Bx.new 50 #[.int .i64 a0, .bool true, .int .i64 b0, .int .i64 c0] w
    obtain ⟨g0, g1, g2, g3⟩ := A.cells4
    have Hw := Lib.hid ((Below.refl w.heap.size w).alloc (Nat.le_refl _) (Obj.cells #[.int .i64 a0, .bool true, .int .i64 b0, .int .i64 c0] 50))
    have Ht1 := Lib.hid (Ht.out.below Hw.out)
    have y0 := fun d os => cell_regrown g0 d os
    have y2 := fun d os => cell_regrown g2 d os
    have y3 := fun d os => cell_regrown g3 d os
    have v1 : ¬ 9223372036854775807 < W.size + 1 := by omega
    have v2 : ¬ 9223372036854775807 < W.size + 1 + V.size := by omega
    have v3 : ¬ 9223372036854775807 < W.size + 1 + V.size + 1 := by omega
    have v4 : ¬ 9223372036854775807 < W.size + 1 + V.size + 1 + U.size := by omega
    clear A g0 g1 g2 g3
    go_enter Tryd.func27, Tryd.ntmps27
    go_wp2_with fail
    refine wp_region_quiet_below (by kernel_rfl) (by kernel_rfl) ?_
    repeat (go_big_quiet_step ((go_at_call 26; first | (with_reducible exact Calls.regrown_of (implDec_is HW.out (by omega) (by omega) _ (pow_regrown Ht1.out _ _))) | (with_reducible exact Calls.regrown_of (implDec_is HV.out (by omega) (by omega) _ (pow_regrown Ht1.out _ _))) | (with_reducible exact Calls.regrown_of (implDec_is HU.out (by omega) (by omega) _ (pow_regrown Ht1.out _ _))))))
    refine wpQuiet_nil ?_
    rintro _ ⟨⟨dq, osq⟩, rfl⟩
    have hbq := below_regrown (w.alloc (Obj.cells #[.int .i64 a0, .bool true, .int .i64 b0, .int .i64 c0] 50)) dq osq
    generalize Sort.grow (redrawn (w.alloc (Obj.cells #[.int .i64 a0, .bool true, .int .i64 b0, .int .i64 c0] 50)) dq) osq = w2 at hbq
    have Hw2 := Lib.hid (Hw.out.trans (hbq.mono Hw.out.size))
    clear hbq y0 y2 y3
    go_wp2
    go_ret
    exact ⟨by rw [Hm.out]; simp only [if_true, ByteArray.append_assoc]; rfl, Hw2.out⟩

/-- the words of a configuration. -/
def wordsC (q mw mr ms lm : Int) (l : List MC) : List ByteArray := [decB q, decB mw, decB mr, decB ms, decB lm] ++ l.map mB
theorem wordsC_snoc {q mw mr ms lm : Int} {l : List MC} {k : Nat} {x : MC} (hx : l[k]? = some x) : wordsC q mw mr ms lm (l.take k) ++ [mB x] = wordsC q mw mr ms lm (l.take (k + 1)) := by
  obtain ⟨h, rfl⟩ := List.getElem?_eq_some_iff.1 hx
  unfold wordsC
  rw [List.take_succ_eq_append_getElem h, List.map_append, List.append_assoc]
  rfl
theorem wordsC_len (q mw mr ms lm : Int) (l : List MC) : (wordsC q mw mr ms lm l).length = 5 + l.length := by unfold wordsC; simp; omega
theorem ba_of {L : List UInt8} {A : ByteArray} (h : L = A.data.toList) : (⟨L.toArray⟩ : ByteArray) = A := by subst h; cases A; simp
theorem wordsC_join (q mw mr ms lm : Int) (l : List MC) : (⟨(Lib.join ((wordsC q mw mr ms lm l).map (·.data.toList)) (⟨#[32]⟩ : ByteArray).data.toList).toArray⟩ : ByteArray) = headC q mw mr ms lm ++ tailM l := by
  apply ba_of
  have hm : ∀ m : List MC, Lib.joinTail [32] (m.map fun d => (mB d).data.toList) = m.flatMap fun d => 32 :: (mB d).data.toList := by
    intro m
    induction m with
    | nil => rfl
    | cons d m ih => rw [List.map_cons, show Lib.joinTail [32] ((mB d).data.toList :: m.map fun d => (mB d).data.toList) = ([32] ++ (mB d).data.toList) ++ Lib.joinTail [32] (m.map fun d => (mB d).data.toList) from rfl, ih]; rfl
  have hl : l.map ((fun x : ByteArray => x.data.toList) ∘ mB) = l.map fun d => (mB d).data.toList := rfl
  unfold wordsC headC tailM
  rw [List.map_append, List.map_map, hl]
  simp only [List.map_cons, List.map_nil, List.cons_append, List.nil_append, Lib.join_cons]
  simp [Lib.joinTail, ByteArray.data_append, ← hm]
theorem wordsC_bytes {l : List MC} {q mw mr ms lm : Int} (h : CFacts l q mw mr ms lm) : (Lib.join ((wordsC q mw mr ms lm l).map (·.data.toList)) (⟨#[32]⟩ : ByteArray).data.toList).length ≤ 1000 := by
  have h1 := congrArg ByteArray.size (wordsC_join q mw mr ms lm l)
  have h2 : ∀ L : List UInt8, (⟨L.toArray⟩ : ByteArray).size = L.length := fun L => List.size_toArray
  rw [h2] at h1
  rw [h1, ByteArray.size_append]
  have h3 := headC_size h
  have h4 := tailM_size h l.length
  rw [List.take_length] at h4
  omega
theorem ownS_cells {B : Nat} {v : Value} {l : List ByteArray} {w : World} (h : OwnS B v l w) (h0 : 0 < l.length) :
    ∃ g cap, v = .slice (some ⟨g, 0, none⟩) l.length cap ∧ g < w.heap.size ∧ l.length ≤ cap ∧ ∀ (j : Nat) x, l[j]? = some x → w.cell? ⟨g, 0 + j, none⟩ = some (.string x) := by
  have h' := h
  rcases h.2 with ⟨_, h1⟩ | ⟨g, cap, cur, rfl, hb, hg, hn, hm, hs, ht⟩
  · omega
  · refine ⟨g, cap, rfl, (Array.getElem?_eq_some_iff.1 hg).1, hn, fun j x hx => ?_⟩
    have hj : j < l.length := (List.getElem?_eq_some_iff.1 hx).1
    have h2 := h'.cell (i := j) hj
    rw [Nat.zero_add, h2]
    congr 2
    rw [getDS_lt hj]
    exact (List.getElem?_eq_some_iff.1 hx).2
theorem implConfOk_is {v : Value} {l : List MC} {q mw mr ms lm : Int} {b : Bool} (h : okC l q mw mr ms lm = b) (hl : l.length ≤ 2000000) (w : World) (hv : Rd mcK v l w) :
    Calls Tryd.prog 13 #[.agg #[v, .int .i64 q, .int .i64 mw, .int .i64 mr, .int .i64 ms, .int .i64 lm]] w fun e w' => e = .returned (.bool b) ∧ Below w.heap.size w w' := by rw [← h]; exact implConfOk v l q mw mr ms lm hl w hv
/-- five words in a row of the call's own. -/
def frW (B : Nat) (l : List ByteArray) : Fresh.Fr := ⟨fun v => ∃ g, v = .slice (some ⟨g, 0, none⟩) l.length l.length, fun v w => OwnS B v l w⟩
theorem frW_stable {B : Nat} {l : List ByteArray} : ∀ v w w', Below w.heap.size w w' → (frW B l).ph v w → (frW B l).ph v w' := fun _ _ _ hb h => h.later hb
set_option maxHeartbeats 4000000 in
set_option maxRecDepth 100000 in
theorem implConfText (v : Value) (l : List MC) (q mw mr ms lm : Int) (hl : l.length ≤ 2000000) (w : World) (hv : Rd mcK v l w) (htab : Pow w) :
    Calls Tryd.prog 9 #[.agg #[v, .int .i64 q, .int .i64 mw, .int .i64 mr, .int .i64 ms, .int .i64 lm]] w fun e w' => e = .returned (.string (txtC l q mw mr ms lm)) ∧ Below w.heap.size w w' := by
  have Hv := Lib.hid hv
  have Ht := Lib.hid htab
  obtain ⟨ad, cap, rfl, h1⟩ := hv
  have H1 := Lib.hid h1
  obtain ⟨ok, hok⟩ : ∃ b, okC l q mw mr ms lm = b := ⟨_, rfl⟩
  have Hok := Lib.hid hok
  have A := Bx.new 26 #[.slice ad l.length cap, .int .i64 q, .int .i64 mw, .int .i64 mr, .int .i64 ms, .int .i64 lm] w
  clear h1 htab
  cases ok with
  | false =>
    have He := Lib.hid (show txtC l q mw mr ms lm = ⟨#[]⟩ by unfold txtC; rw [hok]; rfl)
    clear hok A
    go_enter Tryd.func9, Tryd.ntmps9
    go_wp2_with fail
    refine (implConfOk_is Hok.out hl _ (Hv.out.alloc _)).mono ?_
    rintro e w1 ⟨rfl, hb⟩
    go_wp2
    go_ret
    exact ⟨by rw [He.out]; rfl, below_alloc1 (Below.refl _ _) (Nat.le_refl _) hb⟩
  | true =>
    have hf := okC_facts hok
    have Hf := Lib.hid hf
    have He := Lib.hid (show txtC l q mw mr ms lm = headC q mw mr ms lm ++ tailM l by unfold txtC; rw [hok]; rfl)
    obtain ⟨q0, q1⟩ := hf.q
    obtain ⟨mw0, mw1⟩ := hf.mw
    obtain ⟨mr0, mr1⟩ := hf.mr
    obtain ⟨ms0, ms1⟩ := hf.ms
    obtain ⟨lm0, lm1⟩ := hf.lm
    obtain ⟨D1, e1⟩ : ∃ D, decB q = D := ⟨_, rfl⟩
    obtain ⟨D2, e2⟩ : ∃ D, decB mw = D := ⟨_, rfl⟩
    obtain ⟨D3, e3⟩ : ∃ D, decB mr = D := ⟨_, rfl⟩
    obtain ⟨D4, e4⟩ : ∃ D, decB ms = D := ⟨_, rfl⟩
    obtain ⟨D5, e5⟩ : ∃ D, decB lm = D := ⟨_, rfl⟩
    have E1 := Lib.hid e1
    have E2 := Lib.hid e2
    have E3 := Lib.hid e3
    have E4 := Lib.hid e4
    have E5 := Lib.hid e5
    have HW := Lib.hid (show wordsC q mw mr ms lm (l.take 0) = [D1, D2, D3, D4, D5] by unfold wordsC; rw [e1, e2, e3, e4, e5]; simp)
    clear hok e1 e2 e3 e4 e5 hf
    go_enter Tryd.func9, Tryd.ntmps9
    go_wp2_with fail
    refine (implConfOk_is Hok.out hl _ (Hv.out.alloc _)).mono ?_
    rintro e w1 ⟨rfl, hb⟩
    have A1 := Lib.hid (A.later hb)
    obtain ⟨g0, g1, g2, g3, g4, g5⟩ := A1.out.cells6
    have Hw1 := Lib.hid (below_alloc1 (Below.refl _ _) (Nat.le_refl _) hb)
    have Ht1 := Lib.hid (Ht.out.below Hw1.out)
    have y1 := fun d os => cell_regrown g1 d os
    have y2 := fun d os => cell_regrown g2 d os
    have y3 := fun d os => cell_regrown g3 d os
    have y4 := fun d os => cell_regrown g4 d os
    have y5 := fun d os => cell_regrown g5 d os
    clear hb A
    go_wp2_with fail
    refine Fresh.wp_fresh (fun w' => ∃ p : Regrown, w' = Sort.grow (redrawn w1 p.d) p.os) (fun _ w' w'' => Below w'.heap.size w' w'') (fun i => if i = 2 then some (Fresh.frV (.string D1)) else if i = 5 then some (Fresh.frV (.string D2)) else if i = 8 then some (Fresh.frV (.string D3)) else if i = 11 then some (Fresh.frV (.string D4)) else if i = 14 then some (Fresh.frV (.string D5)) else if i = 15 then some (frW w1.heap.size [D1, D2, D3, D4, D5]) else none) (by kernel_rfl) (by kernel_rfl) (by kernel_rfl) (by kernel_rfl) ?_ (Fresh.cls_of (Below.refl _ _).drew) ?_
    · intro _ i fr hfr _ _
      repeat' split at hfr
      all_goals first
        | (cases hfr; exact Fresh.frV_stable)
        | (cases hfr; exact frW_stable)
        | cases hfr
    · iterate 2 (refine Fresh.step_plain rfl rfl rfl (fun K hK => ?_); go_big_quiet_op; refine hK _ ?_; clear hK K)
      refine Fresh.step_fresh _ rfl rfl ?_ ⟨_, rfl⟩ ?_
      · rintro w6 hC -
        go_simp
        exact Fresh.call_frV hC (implDec_is E1.out (by omega) (by omega) _ (Ht1.out.below (Fresh.below_of hC)))
      rintro v rfl
      go_simp
      iterate 2 (refine Fresh.step_plain rfl rfl rfl (fun K hK => ?_); go_big_quiet_op; refine hK _ ?_; clear hK K)
      refine Fresh.step_fresh _ rfl rfl ?_ ⟨_, rfl⟩ ?_
      · rintro w6 hC -
        go_simp
        exact Fresh.call_frV hC (implDec_is E2.out (by omega) (by omega) _ (Ht1.out.below (Fresh.below_of hC)))
      rintro v rfl
      go_simp
      iterate 2 (refine Fresh.step_plain rfl rfl rfl (fun K hK => ?_); go_big_quiet_op; refine hK _ ?_; clear hK K)
      refine Fresh.step_fresh _ rfl rfl ?_ ⟨_, rfl⟩ ?_
      · rintro w6 hC -
        go_simp
        exact Fresh.call_frV hC (implDec_is E3.out (by omega) (by omega) _ (Ht1.out.below (Fresh.below_of hC)))
      rintro v rfl
      go_simp
      iterate 2 (refine Fresh.step_plain rfl rfl rfl (fun K hK => ?_); go_big_quiet_op; refine hK _ ?_; clear hK K)
      refine Fresh.step_fresh _ rfl rfl ?_ ⟨_, rfl⟩ ?_
      · rintro w6 hC -
        go_simp
        exact Fresh.call_frV hC (implDec_is E4.out (by omega) (by omega) _ (Ht1.out.below (Fresh.below_of hC)))
      rintro v rfl
      go_simp
      iterate 2 (refine Fresh.step_plain rfl rfl rfl (fun K hK => ?_); go_big_quiet_op; refine hK _ ?_; clear hK K)
      refine Fresh.step_fresh _ rfl rfl ?_ ⟨_, rfl⟩ ?_
      · rintro w6 hC -
        go_simp
        exact Fresh.call_frV hC (implDec_is E5.out (by omega) (by omega) _ (Ht1.out.below (Fresh.below_of hC)))
      rintro v rfl
      go_simp
      refine Fresh.step_fresh _ rfl rfl ?_ ⟨_, 0, rfl⟩ ?_
      · rintro w6 hC -
        have hb6 := Fresh.below_of hC
        go_simp
        exact Fresh.value_of ⟨⟨_, rfl⟩, OwnS.full w1.heap.size w6 hb6.size [D1, D2, D3, D4, D5] 5 rfl (by omega) _ rfl, (Below.refl _ _).alloc (Nat.le_refl _) _, Fresh.cls_of (hb6.alloc hb6.size _)⟩
      rintro v ⟨g, rfl⟩
      go_simp
      refine Fresh.step_plain rfl rfl rfl (fun K hK => ?_)
      go_big_quiet_op
      refine hK _ ?_
      clear hK K
      refine Fresh.step_end (fun w2 hC hF => ?_)
      have hb2 := Fresh.below_of hC
      have ho : OwnS w1.heap.size (.slice (some ⟨g, 0, none⟩) 5 5) [D1, D2, D3, D4, D5] w2 := Fresh.fact_of (hF 15)
      have Ho := Lib.hid ho
      have Hb2 := Lib.hid hb2
      have Hw2 := Lib.hid (Hw1.out.trans (hb2.mono Hw1.out.size))
      have A2 := Lib.hid (A1.out.later hb2)
      clear hC hF ho hb2 y1 y2 y3 y4 y5 g0 g1 g2 g3 g4 g5 q0 q1 mw0 mw1 mr0 mr1 ms0 ms1 lm0 lm1
      obtain ⟨g0, g1, g2, g3, g4, g5⟩ := A2.out.cells6
      have hln := Hf.out.len
      have HM := Lib.hid Hf.out.m
      obtain ⟨n, hn⟩ : ∃ n, l.length = n := ⟨_, rfl⟩
      have HL := Lib.hid hn
      rw [hn] at g0 hl hln ⊢
      clear hn
      go_wp2_with fail
      clear g0 g1 g2 g3 g4 g5
      go_loopw [3, 28] (fun s i wr => ∃ m : Nat, m ≤ n ∧ i = .int .i64 m ∧ OwnS w1.heap.size s (wordsC q mw mr ms lm (l.take m)) wr ∧ Below w1.heap.size w1 wr) (fun _ i _ => n - (intOf i).toNat)
      case atStart => exact ⟨0, by omega, rfl, by rw [HW.out]; exact Ho.out, Hb2.out⟩
      case round =>
        obtain ⟨k, hk, rfl, ho, hbr⟩ := hrel
        have Hor := Lib.hid ho
        have Hbr := Lib.hid hbr
        have Hbw := Lib.hid (Hw1.out.trans (hbr.mono Hw1.out.size))
        by_cases hlt : k < n
        · obtain ⟨x, hx⟩ := get_of (l := l) (i := k) (by rw [HL.out]; exact hlt)
          obtain ⟨b, o, rfl, hb1, hc1⟩ := H1.out k x hx
          obtain ⟨k0, k1, k2, k3⟩ := mc_at hc1
          rw [← below_cells Hbw.out hb1] at k0 k1 k2 k3
          have hxm := HM.out x (List.mem_of_getElem? hx)
          have Hs := Lib.hid (wordsC_snoc (q := q) (mw := mw) (mr := mr) (ms := ms) (lm := lm) hx)
          have hwl := wordsC_len q mw mr ms lm (l.take k)
          rw [List.length_take] at hwl
          have Hwl : Hid ((wordsC q mw mr ms lm (l.take k)).length + 1 ≤ 8000000000000) := Lib.hid (by omega)
          clear hc1 hx hwl ho
          obtain ⟨a0, p, b0, c0⟩ := x
          dsimp only at k0 k1 k2 k3 hxm
          obtain ⟨⟨a1, a2⟩, ⟨b1, b2⟩, ⟨c1, c2⟩, -⟩ := hxm
          obtain ⟨D, hD⟩ : ∃ D, mB ⟨a0, p, b0, c0⟩ = D := ⟨_, rfl⟩
          rw [hD] at Hs
          have HD := Lib.hid hD
          have Hra := Lib.hid (show 0 ≤ a0 ∧ a0 ≤ 1000 by omega)
          have Hrb := Lib.hid (show 0 ≤ b0 ∧ b0 ≤ 1000 by omega)
          have Hrc := Lib.hid (show 0 ≤ c0 ∧ c0 ≤ 1000 by omega)
          have Hal := Lib.hid (Hbr.out.alloc Hbr.out.size (Obj.cells #[.int .i64 a0, .bool p, .int .i64 b0, .int .i64 c0] 50))
          have Hoa := Lib.hid (Hor.out.later ((Below.refl _ _).alloc (Nat.le_refl _) (Obj.cells #[.int .i64 a0, .bool p, .int .i64 b0, .int .i64 c0] 50)))
          clear hD hbr a1 a2 b1 b2 c1 c2
          go_wp2_with fail
          refine (implWord _ _ _ _ Hra.out Hrb.out Hrc.out _ (Ht1.out.below Hal.out)).mono ?_
          rintro e w4 ⟨rfl, hw4⟩
          rw [HD.out]
          have Ho4 := Lib.hid (Hoa.out.later hw4)
          have Hb4 := Lib.hid (Hal.out.trans (hw4.mono Hal.out.size))
          have hsz4 := Hb4.out.size
          clear hw4 k0 k1 k2 k3
          go_wp2_with (at_builtin; (refine appS rfl _ _ rfl w1.heap.size u3 (wordsC q mw mr ms lm (l.take k)) w4 D rfl rfl Ho4.out hsz4 Hwl.out ?_); intro v5 w5 hown5 hb5; have Ho5 := Lib.hid hown5; have Hb5 := Lib.hid (Hb4.out.trans hb5); clear hown5 hb5)
          go_roundw
          case rel => exact ⟨k + 1, by omega, by go_num, by rw [← Hs.out]; exact Ho5.out, Hb5.out⟩
          case measure => simp [intOf]; omega
        · obtain rfl : n = k := by omega
          rw [List.take_of_length_le (by rw [HL.out]; exact Nat.le_refl _)] at ho
          have hwl := wordsC_len q mw mr ms lm l
          obtain ⟨g', cp, rfl, hgl, hcap, hcells⟩ := ownS_cells ho (by omega)
          have Hc := Lib.hid hcells
          have Hcap := Lib.hid hcap
          have Hwl2 : Hid ((wordsC q mw mr ms lm l).length ≤ 140737488355328) := Lib.hid (by have := HL.out; omega)
          clear hcells ho hcap hbr hwl Hor
          go_wp2_with fail
          refine (Tryd.strings_Join g' 0 cp (wordsC q mw mr ms lm l) ⟨#[32]⟩ _ Hc.out hgl Hwl2.out Hcap.out (Nat.le_trans (wordsC_bytes Hf.out) (by decide))).mono ?_
          rintro e w6 ⟨rfl, hb6⟩
          go_wp2
          go_ret
          exact ⟨by rw [He.out, wordsC_join]; rfl, Hw1.out.trans ((Hbr.out.trans (hb6.mono Hbr.out.size)).mono Hw1.out.size)⟩
end Go.Proofs.YtcggaihooepglaaDoor.Num
