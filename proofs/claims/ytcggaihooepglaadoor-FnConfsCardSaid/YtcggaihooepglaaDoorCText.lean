
/-
  The text of a configuration: what the model's ConfText returns.
-/
import Derived.Test.YtcggaihooepglaaDoorConf4
import Derived.Test.YtcggaihooepglaaDoorDec
namespace Go.Proofs.YtcggaihooepglaaDoor.Num
open Go.RowKit GR Bytes

def decB (x : Int) : ByteArray := ⟨(Lib.itoa x).toArray⟩
theorem decB_size (x : Int) (h0 : -9223372036854775808 ≤ x) (h1 : x ≤ 9223372036854775807) : (decB x).size ≤ 21 := by
  have := Lib.itoa_length_le x h0 h1
  unfold decB; simp [ByteArray.size]; omega
theorem specDec_is {n : Int} {D : ByteArray} (h : decB n = D) (h0 : -9223372036854775808 ≤ n) (h1 : n ≤ 9223372036854775807) (w : World) :
    Calls Tryd.prog 44 #[.int .i64 n] w fun e w' => e = .returned (.string D) ∧ Below w.heap.size w w' := by rw [← h]; exact specDec_any n h0 h1 w
/-- a master's word. -/
def mB (m : MC) : ByteArray := decB m.wt ++ (if m.pr then ⟨#[58]⟩ ++ decB m.ev ++ ⟨#[58]⟩ ++ decB m.cp else ⟨#[]⟩)
theorem app_nil (V : ByteArray) : V ++ (⟨#[]⟩ : ByteArray) = V := ByteArray.append_empty
/-- a blank and a word, for each master. -/
def tailM (l : List MC) : ByteArray := ⟨(l.flatMap fun m => 32 :: (mB m).data.toList).toArray⟩
theorem tailM_snoc {l : List MC} {k : Nat} {x : MC} (hx : l[k]? = some x) : tailM (l.take (k + 1)) = tailM (l.take k) ++ (⟨#[32]⟩ ++ mB x) := by
  obtain ⟨h, rfl⟩ := List.getElem?_eq_some_iff.1 hx
  rw [List.take_succ_eq_append_getElem h]
  unfold tailM
  rw [List.flatMap_append]
  apply ByteArray.ext
  apply Array.ext'
  simp [ByteArray.data_append]
def headC (q mw mr ms lm : Int) : ByteArray := decB q ++ ⟨#[32]⟩ ++ decB mw ++ ⟨#[32]⟩ ++ decB mr ++ ⟨#[32]⟩ ++ decB ms ++ ⟨#[32]⟩ ++ decB lm
/-- the text of a configuration; none of what is no configuration. -/
def txtC (l : List MC) (q mw mr ms lm : Int) : ByteArray := if okC l q mw mr ms lm then headC q mw mr ms lm ++ tailM l else ⟨#[]⟩
/-- what is known of a configuration's numbers. -/
structure CFacts (l : List MC) (q mw mr ms lm : Int) : Prop where
  len0 : 1 ≤ l.length
  len : l.length ≤ 4
  q : 1 ≤ q ∧ q ≤ 4
  mw : 0 ≤ mw ∧ mw ≤ 3
  mr : 0 ≤ mr ∧ mr ≤ 3
  ms : 1 ≤ ms ∧ ms ≤ 12
  lm : 1 ≤ lm ∧ lm ≤ 40
  m : ∀ x ∈ l, (1 ≤ x.wt ∧ x.wt ≤ 4) ∧ (0 ≤ x.ev ∧ x.ev ≤ 1000) ∧ (0 ≤ x.cp ∧ x.cp ≤ 8) ∧ (x.pr = false → x.ev = 0 ∧ x.cp = 0)
theorem okC_facts {l : List MC} {q mw mr ms lm : Int} (h : okC l q mw mr ms lm = true) : CFacts l q mw mr ms lm := by
  unfold okC at h
  simp only [Bool.and_eq_true, decide_eq_true_iff, inB_iff, List.all_eq_true] at h
  obtain ⟨hm, hl, hq, hc, hs, hk⟩ := h
  have hc2 : inB mr 0 3 = true ∧ inB mw 0 3 = true := by
    unfold costW at hc
    split at hc
    · rename_i h; rwa [Bool.and_eq_true] at h
    · omega
  refine ⟨by omega, by omega, hq, inB_iff.1 hc2.2, inB_iff.1 hc2.1, hs, hk, fun x hx => ?_⟩
  have h1 := hm x hx
  unfold okM at h1
  rw [Bool.and_eq_true, inB_iff] at h1
  obtain ⟨h2, h3⟩ := h1
  have hL : 0 ≤ leastW l mr mw lm := by
    have := slotW_bd mr mw lm
    unfold leastW
    exact Int.mul_nonneg (by omega) this.1
  cases hp : x.pr with
  | true =>
    rw [hp, if_pos rfl, Bool.and_eq_true, inB_iff, inB_iff] at h3
    exact ⟨h2, by omega, by omega, fun h => by cases h⟩
  | false =>
    rw [hp, if_neg (by simp), Bool.and_eq_true, beq_iff_eq, beq_iff_eq] at h3
    exact ⟨h2, by omega, by omega, fun _ => h3⟩
theorem mB_size {m : MC} (h : (1 ≤ m.wt ∧ m.wt ≤ 4) ∧ (0 ≤ m.ev ∧ m.ev ≤ 1000) ∧ (0 ≤ m.cp ∧ m.cp ≤ 8)) : (mB m).size ≤ 65 := by
  have h1 := decB_size m.wt (by omega) (by omega)
  have h2 := decB_size m.ev (by omega) (by omega)
  have h3 := decB_size m.cp (by omega) (by omega)
  have h4 : (⟨#[58]⟩ : ByteArray).size = 1 := rfl
  have h5 : (⟨#[]⟩ : ByteArray).size = 0 := rfl
  unfold mB
  split <;> simp only [ByteArray.size_append] <;> omega
theorem tailM_size {l : List MC} {q mw mr ms lm : Int} (h : CFacts l q mw mr ms lm) (k : Nat) : (tailM (l.take k)).size ≤ 264 := by
  have h1 : ∀ m : List MC, (∀ x ∈ m, (mB x).size ≤ 65) → (m.flatMap fun m => 32 :: (mB m).data.toList).length ≤ 66 * m.length := by
    intro m
    induction m with
    | nil => intro _; simp
    | cons x m ih =>
      intro hm
      have h2 := hm x (by simp)
      have h3 := ih (fun y hy => hm y (by simp [hy]))
      rw [List.flatMap_cons, List.length_append, List.length_cons, List.length_cons]
      have h4 : (mB x).data.toList.length = (mB x).size := by rw [Array.length_toList]; rfl
      omega
  have h5 := h1 (l.take k) (fun x hx => by
    have := h.m x (List.mem_of_mem_take hx)
    exact mB_size ⟨this.1, this.2.1, this.2.2.1⟩)
  have h6 : (l.take k).length ≤ 4 := by rw [List.length_take]; have := h.len; omega
  unfold tailM
  show (List.toArray _).size ≤ 264
  rw [List.size_toArray]
  omega
theorem headC_size {l : List MC} {q mw mr ms lm : Int} (h : CFacts l q mw mr ms lm) : (headC q mw mr ms lm).size ≤ 109 := by
  have h1 := decB_size q (by have := h.q; omega) (by have := h.q; omega)
  have h2 := decB_size mw (by have := h.mw; omega) (by have := h.mw; omega)
  have h3 := decB_size mr (by have := h.mr; omega) (by have := h.mr; omega)
  have h4 := decB_size ms (by have := h.ms; omega) (by have := h.ms; omega)
  have h5 := decB_size lm (by have := h.lm; omega) (by have := h.lm; omega)
  have h6 : (⟨#[32]⟩ : ByteArray).size = 1 := rfl
  unfold headC
  simp only [ByteArray.size_append]
  omega
theorem specConfOk_is {v : Value} {l : List MC} {q mw mr ms lm : Int} {b : Bool} (h : okC l q mw mr ms lm = b) (hl : l.length ≤ 2000000) (w : World) (hv : Rd mcK v l w) :
    Calls Tryd.prog 12 #[.agg #[v, .int .i64 q, .int .i64 mw, .int .i64 mr, .int .i64 ms, .int .i64 lm]] w fun e w' => e = .returned (.bool b) ∧ Below w.heap.size w w' := by rw [← h]; exact specConfOk v l q mw mr ms lm hl w hv
set_option maxHeartbeats 4000000 in
set_option maxRecDepth 100000 in
theorem specConfText (v : Value) (l : List MC) (q mw mr ms lm : Int) (hl : l.length ≤ 2000000) (w : World) (hv : Rd mcK v l w) :
    Calls Tryd.prog 17 #[.agg #[v, .int .i64 q, .int .i64 mw, .int .i64 mr, .int .i64 ms, .int .i64 lm]] w fun e w' => e = .returned (.string (txtC l q mw mr ms lm)) ∧ Below w.heap.size w w' := by
  have Hv := Lib.hid hv
  obtain ⟨ad, cap, rfl, h1⟩ := hv
  have H1 := Lib.hid h1
  obtain ⟨ok, hok⟩ : ∃ b, okC l q mw mr ms lm = b := ⟨_, rfl⟩
  have Hok := Lib.hid hok
  have A := Bx.new 26 #[.slice ad l.length cap, .int .i64 q, .int .i64 mw, .int .i64 mr, .int .i64 ms, .int .i64 lm] w
  clear h1
  cases ok with
  | false =>
    have He := Lib.hid (show txtC l q mw mr ms lm = ⟨#[]⟩ by unfold txtC; rw [hok]; rfl)
    clear hok A
    go_enter Tryd.func17, Tryd.ntmps17
    go_wp2_with fail
    refine (specConfOk_is Hok.out hl _ (Hv.out.alloc _)).mono ?_
    rintro e w1 ⟨rfl, hb⟩
    go_wp2
    go_ret
    exact ⟨by rw [He.out]; rfl, below_alloc1 (Below.refl _ _) (Nat.le_refl _) hb⟩
  | true =>
    have hf := okC_facts hok
    have Hf := Lib.hid hf
    have He := Lib.hid (show txtC l q mw mr ms lm = headC q mw mr ms lm ++ tailM l by unfold txtC; rw [hok]; rfl)
    obtain ⟨q0, q1⟩ := hf.q
    obtain ⟨mw0, mw1⟩ := hf.mw
    obtain ⟨mr0, mr1⟩ := hf.mr
    obtain ⟨ms0, ms1⟩ := hf.ms
    obtain ⟨lm0, lm1⟩ := hf.lm
    obtain ⟨D1, e1⟩ : ∃ D, decB q = D := ⟨_, rfl⟩
    obtain ⟨D2, e2⟩ : ∃ D, decB mw = D := ⟨_, rfl⟩
    obtain ⟨D3, e3⟩ : ∃ D, decB mr = D := ⟨_, rfl⟩
    obtain ⟨D4, e4⟩ : ∃ D, decB ms = D := ⟨_, rfl⟩
    obtain ⟨D5, e5⟩ : ∃ D, decB lm = D := ⟨_, rfl⟩
    have s1 : D1.size ≤ 21 := by rw [← e1]; exact decB_size _ (by omega) (by omega)
    have s2 : D2.size ≤ 21 := by rw [← e2]; exact decB_size _ (by omega) (by omega)
    have s3 : D3.size ≤ 21 := by rw [← e3]; exact decB_size _ (by omega) (by omega)
    have s4 : D4.size ≤ 21 := by rw [← e4]; exact decB_size _ (by omega) (by omega)
    have s5 : D5.size ≤ 21 := by rw [← e5]; exact decB_size _ (by omega) (by omega)
    have E1 := Lib.hid e1
    have E2 := Lib.hid e2
    have E3 := Lib.hid e3
    have E4 := Lib.hid e4
    have E5 := Lib.hid e5
    have HH := Lib.hid (show D1 ++ ⟨#[32]⟩ ++ D2 ++ ⟨#[32]⟩ ++ D3 ++ ⟨#[32]⟩ ++ D4 ++ ⟨#[32]⟩ ++ D5 = headC q mw mr ms lm by unfold headC; rw [e1, e2, e3, e4, e5])
    clear hok e1 e2 e3 e4 e5
    have t1 : ¬ 9223372036854775807 < D1.size + 1 := by omega
    have t2 : ¬ 9223372036854775807 < D1.size + 1 + D2.size := by omega
    have t3 : ¬ 9223372036854775807 < D1.size + 1 + D2.size + 1 := by omega
    have t4 : ¬ 9223372036854775807 < D1.size + 1 + D2.size + 1 + D3.size := by omega
    have t5 : ¬ 9223372036854775807 < D1.size + 1 + D2.size + 1 + D3.size + 1 := by omega
    have t6 : ¬ 9223372036854775807 < D1.size + 1 + D2.size + 1 + D3.size + 1 + D4.size := by omega
    have t7 : ¬ 9223372036854775807 < D1.size + 1 + D2.size + 1 + D3.size + 1 + D4.size + 1 := by omega
    have t8 : ¬ 9223372036854775807 < D1.size + 1 + D2.size + 1 + D3.size + 1 + D4.size + 1 + D5.size := by omega
    go_enter Tryd.func17, Tryd.ntmps17
    go_wp2_with fail
    refine (specConfOk_is Hok.out hl _ (Hv.out.alloc _)).mono ?_
    rintro e w1 ⟨rfl, hb⟩
    have A1 := Lib.hid (A.later hb)
    obtain ⟨g0, g1, g2, g3, g4, g5⟩ := A1.out.cells6
    have Hw1 := Lib.hid (below_alloc1 (Below.refl _ _) (Nat.le_refl _) hb)
    have y1 := fun d os => cell_regrown g1 d os
    have y2 := fun d os => cell_regrown g2 d os
    have y3 := fun d os => cell_regrown g3 d os
    have y4 := fun d os => cell_regrown g4 d os
    have y5 := fun d os => cell_regrown g5 d os
    clear hb A
    go_wp2_with fail
    refine wp_region_quiet_below (by kernel_rfl) (by kernel_rfl) ?_
    repeat (go_big_quiet_step ((go_at_call 44; first | (with_reducible exact Calls.regrown_of (specDec_is E1.out (by omega) (by omega) _)) | (with_reducible exact Calls.regrown_of (specDec_is E2.out (by omega) (by omega) _)) | (with_reducible exact Calls.regrown_of (specDec_is E3.out (by omega) (by omega) _)) | (with_reducible exact Calls.regrown_of (specDec_is E4.out (by omega) (by omega) _)) | (with_reducible exact Calls.regrown_of (specDec_is E5.out (by omega) (by omega) _)))))
    refine wpQuiet_nil ?_
    rintro _ ⟨⟨dq, osq⟩, rfl⟩
    have hbq := below_regrown w1 dq osq
    generalize Sort.grow (redrawn w1 dq) osq = w2 at hbq
    have Hw2 := Lib.hid (Hw1.out.trans (hbq.mono Hw1.out.size))
    have A2 := Lib.hid (A1.out.later hbq)
    clear hbq y1 y2 y3 y4 y5 g0 g1 g2 g3 g4 g5
    obtain ⟨H, hH⟩ : ∃ H, headC q mw mr ms lm = H := ⟨_, rfl⟩
    have hHs : H.size ≤ 109 := by rw [← hH]; exact headC_size hf
    rw [HH.out, hH]
    rw [hH] at He
    have HT := Lib.hid (fun k => tailM_size hf k)
    have hln := hf.len
    have HM := Lib.hid hf.m
    obtain ⟨n, hn⟩ : ∃ n, l.length = n := ⟨_, rfl⟩
    have HL := Lib.hid hn
    rw [hn] at A2 hl hln ⊢
    clear hn hH HH hf Hf s1 s2 s3 s4 s5 t1 t2 t3 t4 t5 t6 t7 t8 q0 q1 mw0 mw1 mr0 mr1 ms0 ms1 lm0 lm1 A1
    go_wp2_with fail
    go_loopw [3, 4] (fun s i wr => ∃ k : Nat, k ≤ n ∧ i = .int .i64 k ∧ s = .string (H ++ tailM (l.take k)) ∧ Below w2.heap.size w2 wr) (fun _ i _ => n - (intOf i).toNat)
    case atStart => exact ⟨0, by omega, rfl, congrArg Value.string (app_nil H).symm, Below.refl _ _⟩
    case round =>
      obtain ⟨k, hk, rfl, rfl, hbr⟩ := hrel
      have Hbr := Lib.hid (Hw2.out.trans (hbr.mono Hw2.out.size))
      have Hbr2 := Lib.hid hbr
      have Ar := Lib.hid (A2.out.later hbr)
      obtain ⟨g0, g1, g2, g3, g4, g5⟩ := Ar.out.cells6
      obtain ⟨T, hT⟩ : ∃ T, tailM (l.take k) = T := ⟨_, rfl⟩
      have hTs : T.size ≤ 264 := by rw [← hT]; exact HT.out k
      have HTT := Lib.hid hT
      rw [hT]
      clear hT hbr
      by_cases hlt : k < n
      · obtain ⟨x, hx⟩ := get_of (l := l) (i := k) (by rw [HL.out]; exact hlt)
        obtain ⟨b, o, rfl, hb1, hc1⟩ := H1.out k x hx
        obtain ⟨k0, k1, k2, k3⟩ := mc_at hc1
        rw [← below_cells Hbr.out hb1] at k0 k1 k2 k3
        have hxm := HM.out x (List.mem_of_getElem? hx)
        have Hs := Lib.hid (tailM_snoc hx)
        rw [HTT.out] at Hs
        clear hc1 hx
        obtain ⟨a0, p, b0, c0⟩ := x
        dsimp only at k0 k1 k2 k3 hxm
        obtain ⟨⟨a1, a2⟩, ⟨b1, b2⟩, ⟨c1, c2⟩, -⟩ := hxm
        obtain ⟨W, hW⟩ : ∃ D, decB a0 = D := ⟨_, rfl⟩
        obtain ⟨V, hV⟩ : ∃ D, decB b0 = D := ⟨_, rfl⟩
        obtain ⟨U, hU⟩ : ∃ D, decB c0 = D := ⟨_, rfl⟩
        have s1 : W.size ≤ 21 := by rw [← hW]; exact decB_size _ (by omega) (by omega)
        have s2 : V.size ≤ 21 := by rw [← hV]; exact decB_size _ (by omega) (by omega)
        have s3 : U.size ≤ 21 := by rw [← hU]; exact decB_size _ (by omega) (by omega)
        have HW := Lib.hid hW
        have HV := Lib.hid hV
        have HU := Lib.hid hU
        have Hm := Lib.hid (show H ++ tailM (l.take (k + 1)) = H ++ T ++ ⟨#[32]⟩ ++ (W ++ (if p then ⟨#[58]⟩ ++ V ++ ⟨#[58]⟩ ++ U else ⟨#[]⟩)) by
          rw [Hs.out, ← ByteArray.append_assoc, ← ByteArray.append_assoc]
          unfold mB; rw [hW, hV, hU])
        clear hW hV hU
        have u1 : ¬ 9223372036854775807 < H.size + T.size + 1 := by omega
        have u2 : ¬ 9223372036854775807 < H.size + T.size + 1 + W.size := by omega
        have X := Bx.new 50 #[.int .i64 a0, .bool p, .int .i64 b0, .int .i64 c0] wr
        go_wp2_with fail
        refine (specDec_is HW.out (by omega) (by omega) _).mono ?_
        rintro e w3 ⟨rfl, hb3⟩
        have X3 := X.later hb3
        obtain ⟨x0, x1, x2, x3⟩ := X3.cells4
        have Hw3 := Lib.hid (below_alloc1 Hbr2.out Hbr2.out.size hb3)
        clear X hb3 k0 k1 k2 k3 g0 g1 g2 g3 g4 g5 u1
        cases p with
        | false =>
          clear X3
          go_wp2_with fail
          go_roundw
          case rel => exact ⟨k + 1, by omega, by go_num, by rw [Hm.out, if_neg (by simp), app_nil], Hw3.out⟩
          case measure => simp [intOf]; omega
        | true =>
          obtain ⟨G, hG⟩ : ∃ G : ByteArray, H ++ T ++ ⟨#[32]⟩ ++ W = G := ⟨_, rfl⟩
          have s4 : G.size ≤ 400 := by
            rw [← hG]; simp only [ByteArray.size_append]
            have : (⟨#[32]⟩ : ByteArray).size = 1 := rfl
            omega
          have HG := Lib.hid hG
          have v1 : ¬ 9223372036854775807 < G.size + 1 := by omega
          have v2 : ¬ 9223372036854775807 < G.size + 1 + V.size := by omega
          have v3 : ¬ 9223372036854775807 < G.size + 1 + V.size + 1 := by omega
          have v4 : ¬ 9223372036854775807 < G.size + 1 + V.size + 1 + U.size := by omega
          have y2 := fun d os => cell_regrown x2 d os
          have y3 := fun d os => cell_regrown x3 d os
          clear X3 hG
          go_wp2_with fail
          rw [HG.out]
          refine wp_region_quiet_below (by kernel_rfl) (by kernel_rfl) ?_
          repeat (go_big_quiet_step ((go_at_call 44; first | (with_reducible exact Calls.regrown_of (specDec_is HV.out (by omega) (by omega) _)) | (with_reducible exact Calls.regrown_of (specDec_is HU.out (by omega) (by omega) _)))))
          refine wpQuiet_nil ?_
          rintro _ ⟨⟨dq, osq⟩, rfl⟩
          have hbq := below_regrown w3 dq osq
          generalize Sort.grow (redrawn w3 dq) osq = w4 at hbq
          have Hw4 := Lib.hid (Hw3.out.trans (hbq.mono Hw3.out.size))
          clear hbq y2 y3 x0 x1 x2 x3
          go_wp2_with fail
          go_roundw
          case rel => exact ⟨k + 1, by omega, by go_num, by rw [Hm.out, ← HG.out]; simp only [if_true, ByteArray.append_assoc], Hw4.out⟩
          case measure => simp [intOf]; omega
      · obtain rfl : n = k := by omega
        have hT : T = tailM l := by rw [← HTT.out, List.take_of_length_le (by rw [HL.out]; omega)]
        have HTl := Lib.hid hT
        clear hT
        go_wp2_with fail
        go_ret
        exact ⟨by rw [He.out, ← HTl.out]; rfl, Hbr.out⟩
end Go.Proofs.YtcggaihooepglaaDoor.Num
