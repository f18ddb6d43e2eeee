
/-
  A number written into a copy of a memory: what PutNum returns, for the program and for its model.
-/
import Derived.Test.YtbhmfjblmcppbaaLane3
namespace Go.Proofs.Ytbhmfjblmcppbaa.Num
open Go.RowKit Rows3

/-- the first n bytes of v, the least first, from a on. -/
def putL (l : List Int) (a : Nat) (v : Int) : Nat → List Int
  | 0 => l
  | j + 1 => (putL l a v j).set (a + j) (v / 256 ^ j % 256)
theorem putL_length (l : List Int) (a : Nat) (v : Int) (n : Nat) : (putL l a v n).length = l.length := by
  induction n with
  | zero => rfl
  | succ n ih => rw [putL, List.length_set, ih]
def putB (l : List Int) (a k v : Int) : Bool := getB l a k && inLB v k
def putW (l : List Int) (a k v : Int) : List Int := if putB l a k v = true then putL l a.toNat v (bytesW k).toNat else l
theorem putW_no {l : List Int} {a k v : Int} (h : putB l a k v = false) : putW l a k v = l := by unfold putW; rw [h]; rfl
theorem putW_length (l : List Int) (a k v : Int) : (putW l a k v).length = l.length := by
  unfold putW; split
  · rw [putL_length]
  · rfl
theorem putB_yes {l : List Int} {a k v : Int} (h : putB l a k v = true) : ∃ A n : Nat, a = A ∧ bytesW k = n ∧ (n = 1 ∨ n = 2 ∨ n = 4) ∧ A + n ≤ l.length ∧ l.length ≤ 512 ∧ (∀ x ∈ l, 0 ≤ x ∧ x ≤ 255) ∧ 0 ≤ v ∧ v < 4294967296 ∧ putW l a k v = putL l A v n := by
  have h' := h
  unfold putB at h
  rw [Bool.and_eq_true] at h
  obtain ⟨A, n, rfl, h2, h3, h4, h5, h6, _⟩ := getB_yes h.1
  have h7 := (inLB_iff v k).1 h.2
  refine ⟨A, n, rfl, h2, h3, h4, h5, h6, h7.1, Int.lt_of_lt_of_le h7.2 (limW_bd k).2, ?_⟩
  unfold putW; rw [if_pos h', h2]; rfl
/-- a new row that holds l, and a truth value. -/
def NewIB (l : List Int) (b : Bool) (w : World) (e : Ending) (w' : World) : Prop := ∃ v, e = .returned (.tuple #[v, .bool b]) ∧ OwnI w.heap.size v l w' ∧ Below w.heap.size w w'
theorem and8 (x : Int) (h0 : 0 ≤ x) (h1 : x < 9223372036854775808) : bits .and .i64 x 255 = x % 256 :=
  bits_mask .i64 63 (by decide) (fun n h0 h1 => by rw [IntKind.wrap_i64]; omega) 8 (by decide) x h0 h1

set_option maxHeartbeats 1000000 in
set_option maxRecDepth 100000 in
theorem implPut (C : Nat) (s : Value) (l : List Int) (hl : l.length ≤ 2000000) (a k v : Int) (w : World) (hv : OwnI C s l w) :
    Calls Try.prog 76 #[s, .int .i64 a, .int .i64 k, .int .i64 v] w (NewIB (putW l a k v) (putB l a k v) w) := by
  have Hv := Lib.hid hv
  obtain ⟨ad, cap, rfl⟩ := hv.slice
  have Hr := Lib.hid hv.rd
  have HL := Lib.hid hl
  obtain ⟨n, hln⟩ : ∃ n, l.length = n := ⟨_, rfl⟩
  have HN := Lib.hid hln
  have HG := Lib.hid (show putB l a k v = ((memB l && fitB n a k) && inLB v k) by rw [← hln]; rfl)
  cases hp : putB l a k v with
  | false =>
    rw [putW_no hp]
    obtain ⟨M, hM⟩ : ∃ M, memB l = M := ⟨_, rfl⟩
    obtain ⟨F, hF⟩ : ∃ F, fitB n a k = F := ⟨_, rfl⟩
    obtain ⟨I, hI⟩ : ∃ I, inLB v k = I := ⟨_, rfl⟩
    have hmf : ((M && F) && I) = false := by rw [← hM, ← hF, ← hI, ← HG.out, hp]
    have HM := Lib.hid hM
    have HF := Lib.hid hF
    have HI := Lib.hid hI
    rw [hln] at hl Hv Hr ⊢
    clear hM hF hI hp HG hln hv
    have cases3 : (M = false ∧ Hid True) ∨ (M = true ∧ F = false) ∨ (M = true ∧ F = true ∧ I = false) := by
      cases M
      · exact .inl ⟨rfl, Lib.hid trivial⟩
      · cases F
        · exact .inr (.inl ⟨rfl, rfl⟩)
        · cases I
          · exact .inr (.inr ⟨rfl, rfl, rfl⟩)
          · cases hmf
    clear hmf
    rcases cases3 with ⟨rfl, _⟩ | ⟨rfl, rfl⟩ | ⟨rfl, rfl, rfl⟩
    all_goals
      go_enter Try.func76, Try.ntmps76
      go_wp2_with fail
      refine (clone_own C _ l HL.out _ Hv.out).mono ?_
      rintro e w1 ⟨u, rfl, hu, hb1⟩
      have Hu := Lib.hid hu
      have Hr1 := Lib.hid (Hr.out.below hb1)
      clear hu
      go_wp2_with fail
      refine (implMemOk _ l HL.out _ Hr1.out).mono ?_
      rintro e w2 ⟨rfl, rfl⟩
      rw [HM.out]
    · go_wp2
      go_ret2
      exact ⟨_, rfl, Hu.out, hb1⟩
    · go_wp2_with (go_at_call 81; refine (implFits _ _ _ hl _ _ _).mono ?_; rintro e w' ⟨rfl, rfl⟩; rw [HF.out])
      go_ret2
      exact ⟨_, rfl, Hu.out, hb1⟩
    · go_wp2_with (first
        | (go_at_call 81; refine (implFits _ _ _ hl _ _ _).mono ?_; rintro e w' ⟨rfl, rfl⟩; rw [HF.out])
        | (go_at_call 72; refine (implIn _ _ _).mono ?_; rintro e w' ⟨rfl, rfl⟩; rw [HI.out]))
      go_ret2
      exact ⟨_, rfl, Hu.out, hb1⟩
  | true =>
    obtain ⟨A, m, rfl, hm, hm3, hfit, h512, hby, hv0, hv1, hpw⟩ := putB_yes hp
    rw [hpw]
    rw [HG.out, Bool.and_eq_true, Bool.and_eq_true] at hp
    have HM := Lib.hid hp.1.1
    have HF := Lib.hid hp.1.2
    have HI := Lib.hid hp.2
    have Hm := Lib.hid hm
    rw [hln] at hl Hv Hr hfit h512 ⊢
    clear hpw hm hby hln hp HG hv
    have hm4 : m ≤ 4 := by omega
    go_enter Try.func76, Try.ntmps76
    go_wp2_with fail
    refine (clone_own C _ l HL.out _ Hv.out).mono ?_
    rintro e w1 ⟨u, rfl, hu, hb1⟩
    have hu' := hu
    rcases hu'.2 with ⟨_, h0⟩ | ⟨g, cp, cur, rfl, hbg, _⟩
    · exfalso; rw [HN.out] at h0; omega
    clear hu'
    rw [HN.out] at hu ⊢
    have Hu := Lib.hid hu
    have Hr1 := Lib.hid (Hr.out.below hb1)
    clear hu
    go_wp2_with fail
    refine (implMemOk _ l HL.out _ Hr1.out).mono ?_
    rintro e w2 ⟨rfl, rfl⟩
    rw [HM.out]
    go_wp2_with (first
      | (go_at_call 81; refine (implFits _ _ _ hl _ _ _).mono ?_; rintro e w' ⟨rfl, rfl⟩; rw [HF.out])
      | (go_at_call 72; refine (implIn _ _ _).mono ?_; rintro e w' ⟨rfl, rfl⟩; rw [HI.out])
      | (go_at_call 82; refine (implBytes _ _).mono ?_; rintro e w' ⟨rfl, rfl⟩; rw [Hm.out]))
    go_loopw [33] (fun i wr => ∃ j : Nat, j ≤ m ∧ i = .int .i64 j ∧ OwnI w.heap.size (.slice (some ⟨g, 0, none⟩) n cp) (putL l A v j) wr ∧ Below w.heap.size w wr) (fun i _ => m - (intOf i).toNat)
    case atStart => exact ⟨0, by omega, rfl, Hu.out, hb1⟩
    case round =>
      obtain ⟨j, hj, rfl, hown, hb⟩ := hrel
      have Ho := Lib.hid hown
      by_cases hlt : j < m
      · have hc := hown.cell (i := A + j) (by rw [putL_length, HN.out]; omega)
        have hf := hown.frozen (A + j)
        have Hs := Lib.hid (show putL l A v (j + 1) = (putL l A v j).set (A + j) (v / 256 ^ j % 256) from rfl)
        generalize (putL l A v j).getD (A + j) 0 = y at hc
        have hj4 : j = 0 ∨ j = 1 ∨ j = 2 ∨ j = 3 := by omega
        clear hown
        rcases hj4 with rfl | rfl | rfl | rfl
        · rw [Nat.add_zero] at hc hf
          have h8 := Lib.hid (and8 v hv0 (by omega))
          go_wp2
          go_roundw
          case rel =>
            refine ⟨1, by omega, by go_num, ?_, hb.setCell hbg _⟩
            rw [Hs.out, Nat.add_zero, h8.out, show v / 256 ^ 0 = v by simp]
            exact Ho.out.set A _
          case measure => simp [intOf]; omega
        · have h8 := Lib.hid (and8 (v / 256) (by omega) (by omega))
          go_wp2
          go_roundw
          case rel =>
            refine ⟨2, by omega, by go_num, ?_, hb.setCell hbg _⟩
            rw [Hs.out, h8.out]
            exact Ho.out.set (A + 1) _
          case measure => simp [intOf]; omega
        · have h8 := Lib.hid (and8 (v / 65536) (by omega) (by omega))
          go_wp2
          go_roundw
          case rel =>
            refine ⟨3, by omega, by go_num, ?_, hb.setCell hbg _⟩
            rw [Hs.out, h8.out]
            exact Ho.out.set (A + 2) _
          case measure => simp [intOf]; omega
        · have h8 := Lib.hid (and8 (v / 16777216) (by omega) (by omega))
          go_wp2
          go_roundw
          case rel =>
            refine ⟨4, by omega, by go_num, ?_, hb.setCell hbg _⟩
            rw [Hs.out, h8.out]
            exact Ho.out.set (A + 3) _
          case measure => simp [intOf]; omega
      · obtain rfl : j = m := by omega
        clear hown
        go_wp2
        go_ret2
        exact ⟨_, rfl, Ho.out, hb⟩

set_option maxHeartbeats 1000000 in
set_option maxRecDepth 100000 in
theorem specPut (C : Nat) (s : Value) (l : List Int) (hl : l.length ≤ 2000000) (a k v : Int) (w : World) (hv : OwnI C s l w) :
    Calls Try.prog 39 #[s, .int .i64 a, .int .i64 k, .int .i64 v] w (NewIB (putW l a k v) (putB l a k v) w) := by
  have hsl := hv.slice
  have Hr0 := hv.rd
  have HL := Lib.hid hl
  have Hn := Lib.hid (OwnI.made w.heap.size w (Nat.le_refl _))
  have hal := (Below.refl w.heap.size w).alloc (Nat.le_refl _) (.cells #[] 3)
  have Hv1 := Lib.hid (hv.later hal)
  have hsz : w.heap.size ≤ (w.alloc (.cells #[] 3)).heap.size := by simp
  have HL2 : Hid (([] : List Int).length + l.length ≤ 17592186044416) := Lib.hid (by simp; omega)
  have HG := Lib.hid (show putB l a k v = ((memB l && fitB l.length a k) && inLB v k) from rfl)
  have hlb := limW_bd k
  generalize hlim : limW k = lim at hlb
  have Hlim := Lib.hid hlim
  clear hv hlim
  cases hp : putB l a k v with
  | false =>
    rw [putW_no hp]
    obtain ⟨M, hM⟩ : ∃ M, (memB l && fitB l.length a k) = M := ⟨_, rfl⟩
    obtain ⟨I, hI⟩ : ∃ I, inLB v k = I := ⟨_, rfl⟩
    have hmf : (M && I) = false := by rw [← hM, ← hI, ← HG.out, hp]
    have HM := Lib.hid hM
    have HI := Lib.hid hI
    obtain ⟨ad, cap, rfl⟩ := hsl
    obtain ⟨n, hln⟩ : ∃ n, l.length = n := ⟨_, rfl⟩
    have HN := Lib.hid hln
    have Hr := Lib.hid Hr0
    rw [hln] at Hv1 Hr ⊢
    clear hM hI hp HG hln hl Hr0
    cases M
    · go_enter Try.func39, Try.ntmps39
      go_wp2_with (at_builtin; refine appAllI rfl _ _ rfl w.heap.size C (.slice (some ⟨w.heap.size, 0, none⟩) 0 0) (.slice ad n cap) [] l _ rfl rfl Hn.out Hv1.out hsz HL2.out ?_; intro u w2 hown2 hb2; have Ho2 := Lib.hid hown2; clear hown2)
      refine (specFits _ l HL.out _ _ _ (Hr.out.below (hal.trans hb2))).mono ?_
      rintro e w' ⟨rfl, rfl⟩
      rw [HM.out]
      go_wp2
      go_ret2
      exact ⟨_, rfl, Ho2.out, hal.trans hb2⟩
    · cases I
      · go_enter Try.func39, Try.ntmps39
        go_wp2_with (at_builtin; refine appAllI rfl _ _ rfl w.heap.size C (.slice (some ⟨w.heap.size, 0, none⟩) 0 0) (.slice ad n cap) [] l _ rfl rfl Hn.out Hv1.out hsz HL2.out ?_; intro u w2 hown2 hb2; have Ho2 := Lib.hid hown2; clear hown2)
        refine (specFits _ l HL.out _ _ _ (Hr.out.below (hal.trans hb2))).mono ?_
        rintro e w' ⟨rfl, rfl⟩
        rw [HM.out]
        go_wp2_with fail
        refine (specLimit _ _).mono ?_
        rintro e w' ⟨rfl, rfl⟩
        rw [Hlim.out]
        go_wp2_with fail
        refine (specIn v k _ (by rw [Hlim.out]) _).mono ?_
        rintro e w' ⟨rfl, rfl⟩
        rw [HI.out]
        go_wp2
        go_ret2
        exact ⟨_, rfl, Ho2.out, hal.trans hb2⟩
      · cases hmf
  | true =>
    obtain ⟨A, m, rfl, hm, hm3, hfit, h512, hby, hv0, hv1, hpw⟩ := putB_yes hp
    rw [hpw]
    rw [HG.out, Bool.and_eq_true] at hp
    have HM := Lib.hid hp.1
    have HI := Lib.hid hp.2
    have Hm := Lib.hid hm
    obtain ⟨ad, cap, rfl⟩ := hsl
    obtain ⟨n, hln⟩ : ∃ n, l.length = n := ⟨_, rfl⟩
    have HN := Lib.hid hln
    have Hr := Lib.hid Hr0
    rw [hln] at Hv1 Hr hfit h512 ⊢
    clear hpw hm hby hln hp HG hl Hr0
    have hm4 : m ≤ 4 := by omega
    go_enter Try.func39, Try.ntmps39
    go_wp2_with (at_builtin; refine appAllI rfl _ _ rfl w.heap.size C (.slice (some ⟨w.heap.size, 0, none⟩) 0 0) (.slice ad n cap) [] l _ rfl rfl Hn.out Hv1.out hsz HL2.out ?_; intro u w2 hown2 hb2; have Ho2 := Lib.hid hown2; clear hown2)
    rcases Ho2.out.2 with ⟨_, h0⟩ | ⟨g, cp, cur, rfl, hbg, _⟩
    · exfalso; rw [List.nil_append, HN.out] at h0; omega
    have Ho3 : Hid (OwnI w.heap.size (.slice (some ⟨g, 0, none⟩) n cp) l w2) := by
      have h := Ho2.out
      rw [List.nil_append, HN.out] at h
      exact Lib.hid h
    rw [List.nil_append, HN.out]
    clear Ho2
    refine (specFits _ l HL.out _ _ _ (Hr.out.below (hal.trans hb2))).mono ?_
    rintro e w' ⟨rfl, rfl⟩
    rw [HM.out]
    go_wp2_with fail
    refine (specLimit _ _).mono ?_
    rintro e w' ⟨rfl, rfl⟩
    rw [Hlim.out]
    go_wp2_with fail
    refine (specIn v k _ (by rw [Hlim.out]) _).mono ?_
    rintro e w' ⟨rfl, rfl⟩
    rw [HI.out]
    go_wp2_with fail
    have hb02 := hal.trans hb2
    go_loopw [3, 11] (fun x i wr => ∃ j : Nat, j ≤ m ∧ i = .int .i64 j ∧ x = .int .i64 (v / 256 ^ j) ∧ OwnI w.heap.size (.slice (some ⟨g, 0, none⟩) n cp) (putL l A v j) wr ∧ Below w.heap.size w wr) (fun _ i _ => m - (intOf i).toNat)
    case atStart => exact ⟨0, by omega, rfl, by simp, Ho3.out, hb02⟩
    case round =>
      obtain ⟨j, hj, rfl, rfl, hown, hb⟩ := hrel
      have Ho := Lib.hid hown
      by_cases hlt : j < m
      · have hc := hown.cell (i := A + j) (by rw [putL_length, HN.out]; omega)
        have hf := hown.frozen (A + j)
        have Hs := Lib.hid (show putL l A v (j + 1) = (putL l A v j).set (A + j) (v / 256 ^ j % 256) from rfl)
        generalize (putL l A v j).getD (A + j) 0 = y at hc
        obtain ⟨q, hq⟩ : ∃ q, v / 256 ^ j = q := ⟨_, rfl⟩
        have hq1 : 0 ≤ q ∧ q < 4294967296 := by
          have hj4 : j = 0 ∨ j = 1 ∨ j = 2 ∨ j = 3 := by omega
          rcases hj4 with rfl | rfl | rfl | rfl <;> simp at hq <;> omega
        have hq2 := Lib.hid (show v / 256 ^ (j + 1) = q / 256 by
          have hj4 : j = 0 ∨ j = 1 ∨ j = 2 ∨ j = 3 := by omega
          rcases hj4 with rfl | rfl | rfl | rfl <;> simp at hq ⊢ <;> omega)
        obtain ⟨hq0, hq1⟩ := hq1
        rw [hq] at Hs ⊢
        clear hown hq
        go_wp2_with fail
        refine (specBytes _ _).mono ?_
        rintro e w' ⟨rfl, rfl⟩
        rw [Hm.out]
        go_wp2
        go_roundw
        case rel =>
          refine ⟨j + 1, by omega, by go_num, by rw [hq2.out], ?_, hb.setCell hbg _⟩
          rw [Hs.out]
          exact Ho.out.set (A + j) _
        case measure => simp [intOf]; omega
      · obtain rfl : j = m := by omega
        clear hown
        go_wp2_with fail
        refine (specBytes _ _).mono ?_
        rintro e w' ⟨rfl, rfl⟩
        rw [Hm.out]
        go_wp2
        go_ret2
        exact ⟨_, rfl, Ho.out, hb⟩
end Go.Proofs.Ytbhmfjblmcppbaa.Num
