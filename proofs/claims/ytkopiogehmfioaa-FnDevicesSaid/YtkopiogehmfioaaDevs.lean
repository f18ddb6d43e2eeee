
/-
  The law on devices: what is done with one.
-/
import Derived.Test.YtkopiogehmfioaaDrawD3
import Derived.Deep.RegionLaw
namespace Go.Proofs.Ytkopiogehmfioaa.KD
open Go.RowKit Rows3 GR Num
set_option linter.unusedVariables false

theorem okD_iff (r : List Int) (t : Int) (f : List Int) : okD r t f = true ↔ r.length = 4 ∧ wordsB r = true ∧ wordB t = true ∧ f.length ≤ 4 ∧ wordsB f = true := by
  unfold okD
  simp only [Bool.and_eq_true, beq_iff_eq, decide_eq_true_eq]
  constructor
  · rintro ⟨a, b, c, d, e⟩; exact ⟨by omega, b, c, by omega, e⟩
  · rintro ⟨a, b, c, d, e⟩; exact ⟨by omega, b, c, by omega, e⟩
theorem wordsB_iff (l : List Int) : wordsB l = true ↔ ∀ x ∈ l, wordB x = true := by unfold wordsB; rw [List.all_eq_true]
theorem doD_no {wr : Bool} {a v : Int} {r : List Int} {t : Int} {f : List Int} {r' : List Int} {t' : Int} {f' : List Int} {n : Int} (hd : doD wr a v r t f = ((r', t', f'), n, false)) : n = 0 ∧ r' = r ∧ t' = t ∧ f' = f := by
  cases ho : okD r t f with
  | false => rw [doD_bad ho] at hd; cases hd; exact ⟨rfl, rfl, rfl, rfl⟩
  | true =>
    cases wr with
    | true =>
      rw [doD_w ho] at hd
      unfold doW at hd
      split at hd
      · cases hd; exact ⟨rfl, rfl, rfl, rfl⟩
      · split at hd
        · cases hd
        · split at hd
          · cases hd
          · split at hd
            · cases hd
            · cases hd; exact ⟨rfl, rfl, rfl, rfl⟩
    | false =>
      rw [doD_r ho] at hd
      unfold doR at hd
      split at hd
      · cases hd
      · split at hd
        · cases hd
        · split at hd
          · cases hd
          · cases hd; exact ⟨rfl, rfl, rfl, rfl⟩
theorem doD_yes {wr : Bool} {a v : Int} {r : List Int} {t : Int} {f : List Int} {r' : List Int} {t' : Int} {f' : List Int} {n : Int} (hd : doD wr a v r t f = ((r', t', f'), n, true)) : okD r t f = true ∧ okD r' t' f' = true ∧ (wr = true → n = v) := by
  cases ho : okD r t f with
  | false => rw [doD_bad ho] at hd; cases hd
  | true =>
    refine ⟨rfl, ?_⟩
    obtain ⟨h4, hr, ht, hf4, hf⟩ := (okD_iff r t f).1 ho
    cases wr with
    | true =>
      rw [doD_w ho] at hd
      unfold doW at hd
      split at hd
      · cases hd
      · rename_i hv
        have hv : wordB v = true := by simpa using hv
        split at hd
        · cases hd
          refine ⟨(okD_iff _ _ _).2 ⟨by simpa using h4, ?_, ht, hf4, hf⟩, fun _ => rfl⟩
          rw [wordsB_iff] at hr ⊢
          intro x hx
          rcases List.mem_or_eq_of_mem_set hx with h | h
          · exact hr x h
          · rw [h]; exact hv
        · split at hd
          · cases hd; exact ⟨(okD_iff _ _ _).2 ⟨h4, hr, hv, hf4, hf⟩, fun _ => rfl⟩
          · split at hd
            · rename_i hh
              cases hd
              refine ⟨(okD_iff _ _ _).2 ⟨h4, hr, ht, by rw [List.length_append]; simp; omega, ?_⟩, fun _ => rfl⟩
              rw [wordsB_iff] at hf ⊢
              intro x hx
              rcases List.mem_append.1 hx with h | h
              · exact hf x h
              · rw [List.mem_singleton.1 h]; exact hv
            · cases hd
    | false =>
      rw [doD_r ho] at hd
      unfold doR at hd
      split at hd
      · cases hd; exact ⟨ho, fun h => by cases h⟩
      · split at hd
        · cases hd
          exact ⟨(okD_iff _ _ _).2 ⟨h4, hr, (wordB_iff _).2 ⟨by omega, by omega⟩, hf4, hf⟩, fun h => by cases h⟩
        · split at hd
          · cases hd
            refine ⟨(okD_iff _ _ _).2 ⟨h4, hr, ht, by rw [List.length_tail]; omega, ?_⟩, fun h => by cases h⟩
            rw [wordsB_iff] at hf ⊢
            intro x hx
            exact hf x (List.mem_of_mem_tail hx)
          · cases hd
theorem doD_reg {a v : Int} {r : List Int} {t : Int} {f : List Int} {r' : List Int} {t' : Int} {f' : List Int} {n : Int} (hd : doD true a v r t f = ((r', t', f'), n, true)) (ha : a < 16) : ∃ d, doD false a 0 r' t' f' = (d, v, true) := by
  obtain ⟨ho, ho', _⟩ := doD_yes hd
  obtain ⟨h4, _⟩ := (okD_iff r t f).1 ho
  rw [doD_w ho] at hd
  unfold doW at hd
  split at hd
  · cases hd
  · split at hd
    · rename_i hR
      cases hd
      rw [doD_r ho']
      unfold doR
      rw [if_pos hR]
      have h := (regB_iff a).1 hR
      have hi : (a / 4).toNat < r.length := by omega
      have e : (r.set (a / 4).toNat v).getD (a / 4).toNat 0 = v := by simp [List.getD, hi]
      rw [e]
      exact ⟨_, rfl⟩
    · split at hd
      · omega
      · split at hd
        · omega
        · cases hd
theorem doD_push {v : Int} {r : List Int} {t : Int} {f : List Int} {r' : List Int} {t' : Int} {f' : List Int} {n : Int} (hd : doD true 20 v r t f = ((r', t', f'), n, true)) : f' = f ++ [v] := by
  obtain ⟨ho, ho', _⟩ := doD_yes hd
  have hR : ¬ regB 20 = true := by rw [regB_iff]; omega
  rw [doD_w ho] at hd
  unfold doW at hd
  split at hd
  · cases hd
  · rw [if_neg (by decide)] at hd
    split at hd
    · cases hd; rfl
    · cases hd
theorem doD_pop {v : Int} {r : List Int} {t : Int} {f : List Int} {r' : List Int} {t' : Int} {f' : List Int} {n : Int} (hd : doD false 20 v r t f = ((r', t', f'), n, true)) : 0 < f.length ∧ f' = f.tail ∧ n = f.getD 0 0 := by
  obtain ⟨ho, ho', _⟩ := doD_yes hd
  have hR : ¬ regB 20 = true := by rw [regB_iff]; omega
  rw [doD_r ho] at hd
  unfold doR at hd
  rw [if_neg hR, if_neg (by decide)] at hd
  split at hd
  · rename_i hh; cases hd; exact ⟨hh.2, rfl, rfl⟩
  · cases hd
theorem sameT (cs ds : List Value) (r : List Int) (t : Int) (f : List Int) (hr : r.length ≤ 2000000) (hf : f.length ≤ 2000000) (w : World) (h : devK.rd cs (r, t, f) w) (h' : devK.rd ds (r, t, f) w) :
    Calls Try.prog 12 #[agg cs, agg ds] w fun e w' => e = .returned (.bool true) ∧ Below w.heap.size w w' := by
  have := specSameDev cs ds r t f r t f hr hf w h h'
  rwa [(sameD_iff r t f r t f).2 rfl] at this
theorem okI (cs : List Value) {r : List Int} {t : Int} {f : List Int} {b : Bool} (hb : okD r t f = b) (hr : r.length ≤ 2000000) (hf : f.length ≤ 2000000) (w : World) (h : devK.rd cs (r, t, f) w) :
    Calls Try.prog 13 #[agg cs] w fun e w' => e = .returned (.bool b) ∧ Below w.heap.size w w' := hb ▸ implDevOk cs r t f hr hf w h
theorem okS (cs : List Value) {r : List Int} {t : Int} {f : List Int} {b : Bool} (hb : okD r t f = b) (hr : r.length ≤ 2000000) (hf : f.length ≤ 2000000) (w : World) (h : devK.rd cs (r, t, f) w) :
    Calls Try.prog 14 #[agg cs] w fun e w' => e = .returned (.bool b) ∧ Below w.heap.size w w' := hb ▸ specDevOk cs r t f hr hf w h
theorem rd_fifo {ad : Option Addr} {n cp : Nat} {l : List Int} {w : World} (h : ints.rd [.slice ad n cp] l w) {i : Nat} (hi : i < l.length) : ∃ b o, ad = some ⟨b, o, none⟩ ∧ w.cell? ⟨b, o + i, none⟩ = some (.int .i64 (l.getD i 0)) := by
  obtain ⟨ad', cp', e, _, ad2, cp2, e2, h2⟩ := rd_ints h
  cases e
  cases e2
  obtain ⟨b, o, e, _, hc⟩ := h2 i hi
  exact ⟨b, o, e, hc⟩
theorem ints_sz (l : List Int) : ints.sz l = l.length := sz_ints l
set_option maxHeartbeats 8000000 in
set_option maxRecDepth 100000 in
theorem devs_all (a : Option Addr) (len cap : Nat) (z : List Int) (w : World) (hC : Cur.CodeIn a len z w) :
    Calls Try.prog 3 #[.slice a len cap] w fun e w' => e = .returned (.bool true) ∧ Below w.heap.size w w' := by
  have HC := Lib.hid hC
  have hlen : ¬ 1048576 < len := by have := hC.2.2; omega
  clear hC
  go_enter Try.func3, Try.ntmps3
  go_wp2_with fail
  refine (Cur.bigE_no a len cap hlen _).mono ?_
  rintro e w0 ⟨rfl, rfl⟩
  go_wp2_with fail
  refine (Cur.drawDo_any a len cap z _ HC.out).mono ?_
  rintro e w1 ⟨us, wr, ad, v, he, ⟨r, t, f, hr4, hf5, hcap⟩, hb1⟩
  have rd1 := devK.cap_rd hcap
  obtain ⟨a0, p0, a2, p2, rfl, _, _⟩ := dev_form rd1
  obtain ⟨⟨⟨r', t', f'⟩, n, k⟩, hD⟩ : ∃ D, doD wr ad v r t f = D := ⟨_, rfl⟩
  obtain ⟨l0, hl0⟩ : ∃ l0, r.length = l0 := ⟨_, rfl⟩
  obtain ⟨l2, hl2⟩ : ∃ l2, f.length = l2 := ⟨_, rfl⟩
  rw [hl0, hl2] at he rd1
  obtain rfl : e = .returned (.tuple #[.agg #[.slice a0 l0 p0, .int .i64 t, .slice a2 l2 p2], .bool wr, .int .i64 ad, .int .i64 v]) := he
  have hr : r.length ≤ 2000000 := by omega
  have hf : f.length ≤ 2000000 := by omega
  have XA := Bx.new 26 #[.slice a0 l0 p0, .int .i64 t, .slice a2 l2 p2] w1
  have ba := (Below.refl w1.heap.size w1).alloc (Nat.le_refl _) (.cells #[.slice a0 l0 p0, .int .i64 t, .slice a2 l2 p2] 26)
  have rda := devK.rd_later rd1 ba
  have bA := Lib.hid (hb1.trans (ba.mono hb1.size))
  obtain ⟨b1, hb1e⟩ : ∃ b1, w1.heap.size = b1 := ⟨_, rfl⟩
  rw [hb1e] at XA
  go_wp2_with fail
  clear ba hcap rd1
  generalize w1.alloc (.cells #[.slice a0 l0 p0, .int .i64 t, .slice a2 l2 p2] 26) = W1 at bA XA rda ⊢
  refine (implDevDo _ wr ad v r t f hr hf _ rda).mono ?_
  rw [hD]
  rintro e w2 ⟨xs, he, hcx, hbx⟩
  have rdx := devK.cap_rd hcx
  obtain ⟨c0, q0, c2, q2, rfl, _, _⟩ := dev_form rdx
  obtain ⟨m0, hm0⟩ : ∃ m0, r'.length = m0 := ⟨_, rfl⟩
  obtain ⟨m2, hm2⟩ : ∃ m2, f'.length = m2 := ⟨_, rfl⟩
  dsimp only at he rdx
  rw [hm0, hm2] at he rdx
  obtain rfl : e = .returned (.tuple #[.agg #[.slice c0 m0 q0, .int .i64 t', .slice c2 m2 q2], .int .i64 n, .bool k]) := he
  have bx := (Below.refl w2.heap.size w2).alloc (Nat.le_refl _) (.cells #[.slice c0 m0 q0, .int .i64 t', .slice c2 m2 q2] 26)
  have XB := Bx.new 26 #[.slice c0 m0 q0, .int .i64 t', .slice c2 m2 q2] w2
  have XA2 := (XA.later hbx).later bx
  have rda2 := devK.rd_later (devK.rd_later rda hbx) bx
  have rdx2 := devK.rd_later rdx bx
  have bA2 := Lib.hid ((bA.out.trans (hbx.mono bA.out.size)).trans (bx.mono (Nat.le_trans bA.out.size hbx.size)))
  obtain ⟨b2, hb2e⟩ : ∃ b2, w2.heap.size = b2 := ⟨_, rfl⟩
  rw [hb2e] at XB
  obtain ⟨g0, g1, g2⟩ := cells3 XA2
  clear XA rda rdx hcx bx hbx bA hb1e
  go_wp2_with fail
  clear g0 g1 g2
  generalize w2.alloc (.cells #[.slice c0 m0 q0, .int .i64 t', .slice c2 m2 q2] 26) = W2 at bA2 XA2 XB rda2 rdx2 ⊢
  refine (specDevDo _ wr ad v r t f hr hf _ rda2).mono ?_
  rw [hD]
  rintro e w3 ⟨ys, he, hcy, hby⟩
  have rdy := devK.cap_rd hcy
  obtain ⟨d0, s0, d2, s2, rfl, _, _⟩ := dev_form rdy
  dsimp only at he rdy
  rw [hm0, hm2] at he rdy
  obtain rfl : e = .returned (.tuple #[.agg #[.slice d0 m0 s0, .int .i64 t', .slice d2 m2 s2], .int .i64 n, .bool k]) := he
  have bx := (Below.refl w3.heap.size w3).alloc (Nat.le_refl _) (.cells #[.slice d0 m0 s0, .int .i64 t', .slice d2 m2 s2] 26)
  have XY := Bx.new 26 #[.slice d0 m0 s0, .int .i64 t', .slice d2 m2 s2] w3
  have XA3 := (XA2.later hby).later bx
  have XB3 := (XB.later hby).later bx
  have rda3 := devK.rd_later (devK.rd_later rda2 hby) bx
  have rdx3 := devK.rd_later (devK.rd_later rdx2 hby) bx
  have rdy3 := devK.rd_later rdy bx
  have bA3 := Lib.hid ((bA2.out.trans (hby.mono bA2.out.size)).trans (bx.mono (Nat.le_trans bA2.out.size hby.size)))
  obtain ⟨b3, hb3e⟩ : ∃ b3, w3.heap.size = b3 := ⟨_, rfl⟩
  rw [hb3e] at XY
  clear XA2 XB rda2 rdx2 rdy hcy bx hby bA2 hb2e
  go_wp2_with fail
  generalize w3.alloc (.cells #[.slice d0 m0 s0, .int .i64 t', .slice d2 m2 s2] 26) = W3 at bA3 XA3 XB3 XY rda3 rdx3 rdy3 ⊢
  have hr' : r'.length ≤ 2000000 := by have := dev_len0 (doD_sz (wr := wr) (a := ad) (v := v) (r := r) (t := t) (f := f) (by rw [dev_sz, ints_sz, ints_sz]; omega) hD); exact this
  have hf' : f'.length ≤ 2000000 := by have := dev_len2 (doD_sz (wr := wr) (a := ad) (v := v) (r := r) (t := t) (f := f) (by rw [dev_sz, ints_sz, ints_sz]; omega) hD); exact this
  obtain ⟨ok, hok⟩ : ∃ ok, okD r t f = ok := ⟨_, rfl⟩
  have Hok := Lib.hid hok
  have Rd := Lib.hid rda3
  have Rx := Lib.hid rdx3
  have Ry := Lib.hid rdy3
  obtain ⟨g0, g1, g2⟩ := cells3 XA3
  obtain ⟨h0, h1, h2⟩ := cells3 XB3
  obtain ⟨i0, i1, i2⟩ := cells3 XY
  have y0 := cell_regrown g0
  have y1 := cell_regrown g1
  have y2 := cell_regrown g2
  have z0 := cell_regrown h0
  have z1 := cell_regrown h1
  have z2 := cell_regrown h2
  have x0 := cell_regrown i0
  have x1 := cell_regrown i1
  have x2 := cell_regrown i2
  have HA := Lib.hid XA3
  have HB := Lib.hid XB3
  clear g0 g1 g2 h0 h1 h2 i0 i1 i2 XA3 XB3 XY rda3 rdx3 rdy3 hok
  refine wp_region_quiet_below (by kernel_rfl) (by kernel_rfl) ?_
  repeat (go_big_quiet_step (first
    | (go_at_call 12; exact Calls.regrown_of (sameT _ _ r' t' f' hr' hf' _ (devK.rd_later Rx.out (below_regrown _ _ _)) (devK.rd_later Ry.out (below_regrown _ _ _))))
    | (go_at_call 13; exact Calls.regrown_of (okI _ Hok.out hr hf _ (devK.rd_later Rd.out (below_regrown _ _ _))))
    | (go_at_call 14; exact Calls.regrown_of (okS _ Hok.out hr hf _ (devK.rd_later Rd.out (below_regrown _ _ _))))))
  refine wpQuiet_nil ?_
  rintro _ ⟨p, rfl⟩
  have hq := below_regrown W3 p.d p.os
  have bA4 := Lib.hid (bA3.out.trans (hq.mono bA3.out.size))
  have HA4 := Lib.hid (HA.out.later hq)
  have HB4 := Lib.hid (HB.out.later hq)
  have Rd4 := Lib.hid (devK.rd_later Rd.out hq)
  have Rx4 := Lib.hid (devK.rd_later Rx.out hq)
  clear y0 y1 y2 z0 z1 z2 x0 x1 x2 hq bA3 HA HB Rd Rx Ry hb1 hr4 hf5
  generalize Sort.grow (redrawn W3 p.d) p.os = W4 at bA4 HA4 HB4 Rd4 Rx4 ⊢
  obtain ⟨g0, g1, g2⟩ := cells3 HA4.out
  obtain ⟨h0, h1, h2⟩ := cells3 HB4.out
  cases k with
  | false =>
    obtain ⟨rfl, rfl, rfl, rfl⟩ := doD_no hD
    have HD := Lib.hid hD
    clear hD
    go_wp2_with (first
      | (go_at_call 12; refine (sameT _ _ _ _ _ hr hf _ Rx4.out Rd4.out).mono ?_; rintro e w5 ⟨rfl, hb5⟩; have Hb5 := Lib.hid hb5; clear hb5)
      | fail)
    go_ret
    exact ⟨rfl, bA4.out.trans (Hb5.out.mono bA4.out.size)⟩
  | true =>
    obtain ⟨ho, ho', hnv⟩ := doD_yes hD
    cases wr with
    | true =>
      obtain rfl := hnv rfl
      by_cases h16 : ad < 16
      · obtain ⟨⟨r4, t4, f4⟩, hE⟩ := doD_reg hD h16
        have HD := Lib.hid hD
        clear hD hnv
        go_wp2_with (first
          | (go_at_call 13; refine (okI _ ho' hr' hf' _ Rx4.out).mono ?_; rintro e w5 ⟨rfl, hb5⟩; have bA5 := Lib.hid (bA4.out.trans (hb5.mono bA4.out.size)); have HA5 := Lib.hid (HA4.out.later hb5); have HB5 := Lib.hid (HB4.out.later hb5); have Rd5 := Lib.hid (devK.rd_later Rd4.out hb5); have Rx5 := Lib.hid (devK.rd_later Rx4.out hb5); clear g0 g1 g2 h0 h1 h2 hb5; obtain ⟨g0, g1, g2⟩ := cells3 HA5.out; obtain ⟨h0, h1, h2⟩ := cells3 HB5.out)
          | fail)
        refine (implDevDo _ false ad 0 r' t' f' hr' hf' _ Rx5.out).mono ?_
        rw [hE]
        rintro e w6 ⟨us6, he, hc6, hb6⟩
        obtain ⟨j0, k0, j2, k2, rfl, _, _⟩ := dev_form (devK.cap_rd hc6)
        obtain ⟨i0, hi0⟩ : ∃ i0, r4.length = i0 := ⟨_, rfl⟩
        obtain ⟨i2, hi2⟩ : ∃ i2, f4.length = i2 := ⟨_, rfl⟩
        dsimp only at he
        rw [hi0, hi2] at he
        obtain rfl : e = .returned (.tuple #[.agg #[.slice j0 i0 k0, .int .i64 t4, .slice j2 i2 k2], .int .i64 n, .bool true]) := he
        have b6 := Lib.hid ((hb6.alloc (o := .cells #[.slice j0 i0 k0, .int .i64 t4, .slice j2 i2 k2] 26) hb6.size).mono bA5.out.size)
        clear hb6 hc6
        go_wp2_with fail
        go_ret
        exact ⟨rfl, bA5.out.trans b6.out⟩
      · by_cases h20 : ad = 20
        · subst h20
          obtain rfl := doD_push hD
          obtain rfl : m2 = l2 + 1 := by rw [← hm2, List.length_append, hl2]; rfl
          have FX : ∀ W, devK.rd [.slice c0 m0 q0, .int .i64 t', .slice c2 (l2 + 1) q2] (r', t', f ++ [n]) W → ∃ b o, c2 = some ⟨b, o, none⟩ ∧ W.cell? ⟨b, o + l2, none⟩ = some (.int .i64 n) := fun W h => by
            obtain ⟨_, _, _, _, e, _, h2⟩ := dev_form h
            simp at e
            obtain ⟨_, ec, _, _⟩ := e
            obtain ⟨b, o, e1, h3⟩ := rd_fifo h2 (i := l2) (by simp; omega)
            have e2 : (f ++ [n]).getD l2 0 = n := by rw [← hl2]; simp [List.getD]
            exact ⟨b, o, ec.trans e1, by rw [h3, e2]⟩
          obtain ⟨gb, ob, rfl, _⟩ := FX _ Rx4.out
          have FY := Lib.hid (fun W h => by
            obtain ⟨b, o, e, h3⟩ := FX W h
            cases e
            exact h3 : ∀ W, devK.rd [.slice c0 m0 q0, .int .i64 t', .slice (some ⟨gb, ob, none⟩) (l2 + 1) q2] (r', t', f ++ [n]) W → W.cell? ⟨gb, ob + l2, none⟩ = some (.int .i64 n))
          have hlb : l2 ≤ 2000000 := by omega
          clear hD hnv FX
          go_wp2_with (first
            | (go_at_call 13; refine (okI _ ho' hr' hf' _ Rx4.out).mono ?_; rintro e w5 ⟨rfl, hb5⟩; have bA5 := Lib.hid (bA4.out.trans (hb5.mono bA4.out.size)); have HA5 := Lib.hid (HA4.out.later hb5); have HB5 := Lib.hid (HB4.out.later hb5); have Rd5 := Lib.hid (devK.rd_later Rd4.out hb5); have Rx5 := Lib.hid (devK.rd_later Rx4.out hb5); clear g0 g1 g2 h0 h1 h2 hb5; obtain ⟨g0, g1, g2⟩ := cells3 HA5.out; obtain ⟨h0, h1, h2⟩ := cells3 HB5.out; have hx := FY.out _ Rx5.out)
            | fail)
          go_ret
          exact ⟨rfl, bA5.out⟩
        · clear hD hnv
          go_wp2_with (first
            | (go_at_call 13; refine (okI _ ho' hr' hf' _ Rx4.out).mono ?_; rintro e w5 ⟨rfl, hb5⟩; have bA5 := Lib.hid (bA4.out.trans (hb5.mono bA4.out.size)); have HA5 := Lib.hid (HA4.out.later hb5); have HB5 := Lib.hid (HB4.out.later hb5); have Rd5 := Lib.hid (devK.rd_later Rd4.out hb5); have Rx5 := Lib.hid (devK.rd_later Rx4.out hb5); clear g0 g1 g2 h0 h1 h2 hb5; obtain ⟨g0, g1, g2⟩ := cells3 HA5.out; obtain ⟨h0, h1, h2⟩ := cells3 HB5.out)
            | fail)
          go_ret
          exact ⟨rfl, bA5.out⟩
    | false =>
      by_cases h20 : ad = 20
      · subst h20
        obtain ⟨hpos, rfl, hn⟩ := doD_pop hD
        obtain rfl : l2 = m2 + 1 := by rw [← hm2, List.length_tail, ← hl2]; omega
        have FX : ∀ W, devK.rd [.slice a0 l0 p0, .int .i64 t, .slice a2 (m2 + 1) p2] (r, t, f) W → ∃ b o, a2 = some ⟨b, o, none⟩ ∧ W.cell? ⟨b, o, none⟩ = some (.int .i64 n) := fun W h => by
          obtain ⟨_, _, _, _, e, _, h2⟩ := dev_form h
          simp at e
          obtain ⟨_, ec, _, _⟩ := e
          obtain ⟨b, o, e1, h3⟩ := rd_fifo h2 (i := 0) hpos
          exact ⟨b, o, ec.trans e1, by rw [hn]; exact h3⟩
        obtain ⟨gb, ob, rfl, _⟩ := FX _ Rd4.out
        have FY := Lib.hid (fun W h => by
          obtain ⟨b, o, e, h3⟩ := FX W h
          cases e
          exact h3 : ∀ W, devK.rd [.slice a0 l0 p0, .int .i64 t, .slice (some ⟨gb, ob, none⟩) (m2 + 1) p2] (r, t, f) W → W.cell? ⟨gb, ob, none⟩ = some (.int .i64 n))
        have hlb : m2 ≤ 2000000 := by omega
        clear hD hnv FX hn
        go_wp2_with (first
          | (go_at_call 13; refine (okI _ ho' hr' hf' _ Rx4.out).mono ?_; rintro e w5 ⟨rfl, hb5⟩; have bA5 := Lib.hid (bA4.out.trans (hb5.mono bA4.out.size)); have HA5 := Lib.hid (HA4.out.later hb5); have HB5 := Lib.hid (HB4.out.later hb5); have Rd5 := Lib.hid (devK.rd_later Rd4.out hb5); have Rx5 := Lib.hid (devK.rd_later Rx4.out hb5); clear g0 g1 g2 h0 h1 h2 hb5; obtain ⟨g0, g1, g2⟩ := cells3 HA5.out; obtain ⟨h0, h1, h2⟩ := cells3 HB5.out; have hx := FY.out _ Rd5.out)
          | fail)
        go_ret
        exact ⟨rfl, bA5.out⟩
      · clear hD hnv
        go_wp2_with (first
          | (go_at_call 13; refine (okI _ ho' hr' hf' _ Rx4.out).mono ?_; rintro e w5 ⟨rfl, hb5⟩; have bA5 := Lib.hid (bA4.out.trans (hb5.mono bA4.out.size)); have HA5 := Lib.hid (HA4.out.later hb5); have HB5 := Lib.hid (HB4.out.later hb5); have Rd5 := Lib.hid (devK.rd_later Rd4.out hb5); have Rx5 := Lib.hid (devK.rd_later Rx4.out hb5); clear g0 g1 g2 h0 h1 h2 hb5; obtain ⟨g0, g1, g2⟩ := cells3 HA5.out; obtain ⟨h0, h1, h2⟩ := cells3 HB5.out)
          | fail)
        go_ret
        exact ⟨rfl, bA5.out⟩
end Go.Proofs.Ytkopiogehmfioaa.KD
