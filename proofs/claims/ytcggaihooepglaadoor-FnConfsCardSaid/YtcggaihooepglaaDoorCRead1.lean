
/-
  What is read of a configuration's words: numbers, masters; SplitN.
-/
import Derived.Test.YtcggaihooepglaaDoorCut
import Derived.Test.YtcggaihooepglaaDoorCText2
import Derived.Test.YtcggaihooepglaaDoorReadDec
import Derived.Stop.LaidErr
import Derived.Lib.AtoiErrMem
namespace Go.Proofs.YtcggaihooepglaaDoor.Num
open Go.RowKit Rows3 Bytes Cut GR

/-- n is what s says, where s is the numeral of a small number. -/
def Nm (s : ByteArray) (n : Int) : Prop := -9223372036854775808 ≤ n ∧ n ≤ 9223372036854775807 ∧ ∀ d : Int, 0 ≤ d → d ≤ 1000 → s = decB d → n = d
theorem decB_data (d : Int) : (decB d).data.toList = Lib.itoa d := rfl
theorem decB_inj {a b : Int} (h : decB a = decB b) : a = b := itoa_inj (by rw [← decB_data, h, decB_data])
theorem nm_of_rd {s : ByteArray} {n : Int} {b : Bool} (h : RD s.data.toList n b) : Nm s n := by
  rcases h with ⟨_, h1, h2⟩ | ⟨_, rfl, h2⟩
  · unfold In9 at h1
    exact ⟨by omega, by omega, fun d _ _ e => itoa_inj (by rw [h2, e, decB_data])⟩
  · exact ⟨by omega, by omega, fun d h0 h1 e => absurd (by rw [e, decB_data]) (h2 d ⟨by omega, by omega⟩)⟩
def NmP (s : ByteArray) (w : World) (e : Ending) (w' : World) : Prop := ∃ n b, e = .returned (.tuple #[.int .i64 n, .bool b]) ∧ Nm s n ∧ Below w.heap.size w w'
theorem specRD (s : ByteArray) (hs : s.size ≤ maxLen) (w : World) : Calls Tryd.prog 34 #[.string s] w (NmP s w) :=
  (specReadDec_any s hs w).mono fun _ _ ⟨n, b, he, hr, hb⟩ => ⟨n, b, he, nm_of_rd hr, hb⟩
def NmB (s : ByteArray) (w : World) (e : Ending) (w' : World) : Prop := ∃ n : Int, e = .returned (.int .i64 n) ∧ Nm s n ∧ Below w.heap.size w w'
theorem NmB.mk {s : ByteArray} {w w' : World} {e : Ending} {n : Int} (h1 : e = .returned (.int .i64 n)) (h2 : Nm s n) (h3 : Below w.heap.size w w') : NmB s w e w' := ⟨n, h1, h2, h3⟩
theorem nm_of_atoi {s : ByteArray} {v : Int} (h : Lib.atoiAll s.data.toList = .ok v) : Nm s v := by
  have hb := Lib.atoiAll_bounds h
  exact ⟨hb.1, hb.2, fun d h0 h1 e => by rw [e, decB_data, atoi_itoa ⟨by omega, by omega⟩] at h; cases h; rfl⟩
theorem nm_no_atoi {s : ByteArray} (h : ∀ v, Lib.atoiAll s.data.toList ≠ .ok v) : Nm s (-1) :=
  ⟨by omega, by omega, fun d h0 h1 e => absurd (by rw [e, decB_data]; exact atoi_itoa ⟨by omega, by omega⟩) (h d)⟩
theorem var_lt {P : Program} {w : World} {n : String} {g : Nat} {cs : Array Value} (hg : P.globalNamed n = some g) (hv : w.var? P n = some cs) : g < w.heap.size := by
  unfold World.var? at hv
  rw [hg] at hv
  simp only [Option.bind_some] at hv
  rcases Nat.lt_or_ge g w.heap.size with h | h
  · exact h
  · rw [Array.getElem?_eq_none h] at hv; simp at hv
theorem errs_below {w w' : World} (h : Errs w) (hb : Below w.heap.size w w') : Errs w' := by
  obtain ⟨⟨t1, p1, h1⟩, ⟨t2, p2, h2⟩⟩ := h
  exact ⟨⟨t1, p1, var?_below hb (g := 3) (by kernel_rfl) (var_lt (g := 3) (by kernel_rfl) h1) h1⟩, ⟨t2, p2, var?_below hb (g := 4) (by kernel_rfl) (var_lt (g := 4) (by kernel_rfl) h2) h2⟩⟩
set_option maxRecDepth 100000 in
theorem implNm (s : ByteArray) (hs : s.size ≤ 1048576) (w : World) (herr : Errs w) : Calls Tryd.prog 51 #[.string s] w (NmB s w) := by
  obtain ⟨⟨tp1, p1, hv1⟩, ⟨tp2, p2, hv2⟩⟩ := herr
  have Hv1 := Lib.hid hv1
  have Hv2 := Lib.hid hv2
  clear hv1 hv2
  rcases h : Lib.atoiAll s.data.toList with v | _ | _
  · have hb := Lib.atoiAll_bounds h
    have Hn := Lib.hid (nm_of_atoi h)
    have H := Lib.hid h
    clear h
    go_enter Tryd.func51, Tryd.ntmps51
    go_wp2_with fail
    refine (Any.strconv_Atoi_ok Tryd.laysC172 s (by omega) v H.out _).mono ?_
    rintro e w1 ⟨rfl, hw1⟩
    have hb1 : Below w.heap.size w w1 := by
      rcases hw1 with rfl | ⟨t, rfl⟩
      · exact Below.refl _ _
      · exact Lib.bytesWorld_below _ _ _
    clear hw1
    go_wp2
    go_ret
    exact NmB.mk rfl Hn.out hb1
  · have Hn := Lib.hid (nm_no_atoi (s := s) (fun v e => by rw [h] at e; cases e))
    have H := Lib.hid h
    clear h
    go_enter Tryd.func51, Tryd.ntmps51
    go_wp2_with fail
    refine (Any.strconv_Atoi_syntax_var Tryd.laysC172 s (by omega) H.out tp1 p1 _ Hv1.out).mono ?_
    rintro e w1 ⟨N, rfl, hN, hb, hb1⟩
    clear hb
    go_wp2
    go_ret
    exact NmB.mk rfl Hn.out hb1
  · have Hn := Lib.hid (nm_no_atoi (s := s) (fun v e => by rw [h] at e; cases e))
    have H := Lib.hid h
    clear h
    go_enter Tryd.func51, Tryd.ntmps51
    go_wp2_with fail
    refine (Any.strconv_Atoi_range_var Tryd.laysC172 s (by omega) H.out tp2 p2 _ Hv2.out).mono ?_
    rintro e w1 ⟨N, rfl, hN, hb, hb1⟩
    clear hb
    go_wp2
    go_ret
    exact NmB.mk rfl Hn.out hb1

/-- the pieces of a text are no longer than it. -/
theorem splitK_size (c : UInt8) : ∀ (k : Nat) (l : List UInt8), ∀ p ∈ Lib.splitK [c] 0 k l, p.length ≤ l.length
  | 0, l, p, h => by simp [Lib.splitK] at h; subst h; exact Nat.le_refl _
  | k + 1, l, p, h => by
    rw [Lib.splitK] at h
    split at h
    · simp at h; subst h; exact Nat.le_refl _
    · rcases List.mem_cons.1 h with rfl | h
      · simp; omega
      · have := splitK_size c k _ p h
        simp at this; omega
/-- what SplitN leaves. -/
def SpC (c : UInt8) (N : Nat) (s : ByteArray) (w : World) (e : Ending) (w' : World) : Prop :=
  ∃ ws g cp, e = .returned (.slice (some ⟨g, 0, none⟩) ws.length cp) ∧ ws.length ≤ cp ∧ cp ≤ N ∧ ((cutWs c s).length ≤ N → ws = cutWs c s) ∧ (N ≤ (cutWs c s).length → ws.length = N) ∧ (∀ p ∈ ws, p.size ≤ s.size) ∧ g < w'.heap.size ∧
    (∀ j, j < ws.length → w'.cell? ⟨g, j, none⟩ = some (.string (ws.getD j ByteArray.empty))) ∧ Below w.heap.size w w'
theorem spC_of {c : UInt8} {N : Nat} (hN : 1 ≤ N) {s : ByteArray} {w : World} {e : Ending} {w' : World} (h : e = .returned (.slice (some ⟨w.heap.size, 0, none⟩) (Lib.splitB ⟨#[c]⟩ 0 (min N (s.size + 1) - 1) s).length (min N (s.size + 1))) ∧ w' = w.alloc (.cells (Lib.cellsOf (Lib.splitB ⟨#[c]⟩ 0 (min N (s.size + 1) - 1) s) (min N (s.size + 1))) 9)) : SpC c N s w e w' := by
  obtain ⟨he, hw⟩ := h
  obtain ⟨k, hk⟩ : ∃ k, min N (s.size + 1) - 1 = k := ⟨_, rfl⟩
  have hk1 : min N (s.size + 1) = k + 1 := by omega
  rw [hk, hk1] at he hw
  obtain ⟨h1, h2⟩ := splitB_cut c s k
  have h3 := cutWs_len c s
  have h4 := Lib.splitB_length_le ⟨#[c]⟩ 0 k s
  have h5 := Lib.splitB_data ⟨#[c]⟩ 0 k s
  generalize hL : Lib.splitB ⟨#[c]⟩ 0 k s = L at he hw h1 h2 h4 h5
  refine ⟨L, w.heap.size, k + 1, he, by omega, by omega, fun h => h1 (by omega), fun h => by rw [h2 (by omega)]; omega, fun p hp => ?_, by rw [hw]; simp, fun j hj => ?_, by rw [hw]; exact (Below.refl _ _).alloc (Nat.le_refl _) _⟩
  · have hm : p.data.toList ∈ L.map (·.data.toList) := List.mem_map.2 ⟨p, hp, rfl⟩
    rw [h5] at hm
    have := splitK_size c k _ _ hm
    simpa using this
  · rw [hw]
    rw [World.cell?_alloc_new]
    unfold Lib.cellsOf
    rw [List.getElem?_toArray, List.getElem?_append_left (by simpa using hj), List.getElem?_map, List.getElem?_eq_getElem hj]
    simp [List.getD, hj]
theorem implSplit10 (s : ByteArray) (hs : s.size ≤ 1048576) (w : World) : Calls Tryd.prog 24 #[.string s, .string ⟨#[32]⟩, .int .i64 10] w (SpC 32 10 s w) := by
  have L := Tryd.lays147
  have c := Any.strings_genSplit_core (P := Tryd.prog) (ρ := Tryd.lays147_ren) { L with } info_str s ⟨#[32]⟩ 0 10 (min 10 (s.size + 1)) w (by omega) (by decide) (by decide)
    (fun x c hx => (Any.strings_Index_one { L with } x 32 _).mono fun e w' ⟨he, hw⟩ => ⟨by rw [he]; show _ = Ending.returned (Value.int .i64 (Lib.index x.data.toList [32])); rw [Lib.index_one], hw⟩)
    ((Any.strings_Count_one { L with } s 32 w).mono fun e w' ⟨he, hw⟩ => ⟨by rw [he]; show _ = Ending.returned (Value.int .i64 ((Lib.count s.data.toList [32] : Nat) : Int)); rw [Lib.count_one]; rfl, hw⟩)
    (by decide) (by decide) (by rw [if_neg (by decide)]; omega)
  have t3 := L.t3; have t9 := L.t9; have t31 := L.t31
  have a3 := L.a3; have a9 := L.a9; have a31 := L.a31
  have z3 := L.z3; have v3 := L.v3; have z9 := L.z9; have v9 := L.v9; have z31 := L.z31; have v31 := L.v31
  have e221 : ∀ args w, (callFunc (Tryd.lays147_ren.f 221) args).run Tryd.prog w = .ok (.enter (Tryd.lays147_ren.f 221) args) w := enters_of L.f221 (by kernel_rfl) rfl
  refine Calls.mono (R := fun e w' => e = .returned (.slice (some ⟨w.heap.size, 0, none⟩) (Lib.splitB ⟨#[32]⟩ 0 (min 10 (s.size + 1) - 1) s).length (min 10 (s.size + 1))) ∧ w' = w.alloc (.cells (Lib.cellsOf (Lib.splitB ⟨#[32]⟩ 0 (min 10 (s.size + 1) - 1) s) (min 10 (s.size + 1))) (Tryd.lays147_ren.t 9))) ?_ (fun e w' h => spC_of (by omega) h)
  show Calls Tryd.prog (Tryd.lays147_ren.f 147) _ _ _
  go_enter L.f147, Body.n147_ntmps Tryd.lays147_ren
  go_wp2_with (go_at_fn (Tryd.lays147_ren.f 221); refine c.mono ?_; rintro e w' ⟨rfl, hw⟩; rw [hw])
  go_ret
  exact ⟨rfl, rfl⟩
theorem implSplit3 (s : ByteArray) (hs : s.size ≤ 1048576) (w : World) : Calls Tryd.prog 24 #[.string s, .string ⟨#[58]⟩, .int .i64 3] w (SpC 58 3 s w) := by
  have L := Tryd.lays147
  have c := Any.strings_genSplit_core (P := Tryd.prog) (ρ := Tryd.lays147_ren) { L with } info_str s ⟨#[58]⟩ 0 3 (min 3 (s.size + 1)) w (by omega) (by decide) (by decide)
    (fun x c hx => (Any.strings_Index_one { L with } x 58 _).mono fun e w' ⟨he, hw⟩ => ⟨by rw [he]; show _ = Ending.returned (Value.int .i64 (Lib.index x.data.toList [58])); rw [Lib.index_one], hw⟩)
    ((Any.strings_Count_one { L with } s 58 w).mono fun e w' ⟨he, hw⟩ => ⟨by rw [he]; show _ = Ending.returned (Value.int .i64 ((Lib.count s.data.toList [58] : Nat) : Int)); rw [Lib.count_one]; rfl, hw⟩)
    (by decide) (by decide) (by rw [if_neg (by decide)]; omega)
  have t3 := L.t3; have t9 := L.t9; have t31 := L.t31
  have a3 := L.a3; have a9 := L.a9; have a31 := L.a31
  have z3 := L.z3; have v3 := L.v3; have z9 := L.z9; have v9 := L.v9; have z31 := L.z31; have v31 := L.v31
  have e221 : ∀ args w, (callFunc (Tryd.lays147_ren.f 221) args).run Tryd.prog w = .ok (.enter (Tryd.lays147_ren.f 221) args) w := enters_of L.f221 (by kernel_rfl) rfl
  refine Calls.mono (R := fun e w' => e = .returned (.slice (some ⟨w.heap.size, 0, none⟩) (Lib.splitB ⟨#[58]⟩ 0 (min 3 (s.size + 1) - 1) s).length (min 3 (s.size + 1))) ∧ w' = w.alloc (.cells (Lib.cellsOf (Lib.splitB ⟨#[58]⟩ 0 (min 3 (s.size + 1) - 1) s) (min 3 (s.size + 1))) (Tryd.lays147_ren.t 9))) ?_ (fun e w' h => spC_of (by omega) h)
  show Calls Tryd.prog (Tryd.lays147_ren.f 147) _ _ _
  go_enter L.f147, Body.n147_ntmps Tryd.lays147_ren
  go_wp2_with (go_at_fn (Tryd.lays147_ren.f 221); refine c.mono ?_; rintro e w' ⟨rfl, hw⟩; rw [hw])
  go_ret
  exact ⟨rfl, rfl⟩
end Go.Proofs.YtcggaihooepglaaDoor.Num
