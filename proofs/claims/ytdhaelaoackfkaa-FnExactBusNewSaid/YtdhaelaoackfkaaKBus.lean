
/-
  Bus as data; what the laws' own functions do with it. (Made by wip/gk.py.)
-/
import Derived.Test.YtdhaelaoackfkaaKBeat
import Derived.Test.YtdhaelaoackfkaaKBucketS
import Derived.Test.YtdhaelaoackfkaaKConf
import Derived.Test.YtdhaelaoackfkaaKDoneS
import Derived.Test.YtdhaelaoackfkaaKModel
import Derived.Test.YtdhaelaoackfkaaKMstS
import Derived.Test.YtdhaelaoackfkaaKWrr
import Derived.Test.YtdhaelaoackfkaaKdI
import Derived.Test.YtdhaelaoackfkaaGRow
import Derived.Outline
import Derived.Test.YtdhaelaoackfkaaBigS
import Derived.Deep.Cut
namespace Go.Proofs.Ytdhaelaoackfkaa.KD
open Go.RowKit Rows3 GR
set_option linter.unusedVariables false

def busK : Kn ((List (Int × Bool × Int × Int) × Int × Int × Int × Int × Int) × Int × List (List (Bool × Int × Int × Int × Bool × List Int) × Int × Int × Int × Bool × Bool) × (Int × Int) × List (Int × Int) × List Int × Int × Int × Int × (Bool × Int × Int × Bool × Int × Int × Int × Bool) × (Bool × Int × Int × Bool × Int × Int × Int × Bool) × (List Int × (List Int × Int × List Int)) × Int × List (Int × Int × Bool × Int × Int × Int × Int)) := prod confK (prod int (prod mstS (prod wrrK (prod bucketS (prod ints (prod int (prod int (prod int (prod beatK (prod beatK (prod modelK (prod int doneS))))))))))))
theorem bus_form {cs : List Value} {x00 : List (Int × Bool × Int × Int)} {x01 : Int} {x02 : Int} {x03 : Int} {x04 : Int} {x05 : Int} {x1 : Int} {x2 : List (List (Bool × Int × Int × Int × Bool × List Int) × Int × Int × Int × Bool × Bool)} {x30 : Int} {x31 : Int} {x4 : List (Int × Int)} {x5 : List Int} {x6 : Int} {x7 : Int} {x8 : Int} {x90 : Bool} {x91 : Int} {x92 : Int} {x93 : Bool} {x94 : Int} {x95 : Int} {x96 : Int} {x97 : Bool} {x100 : Bool} {x101 : Int} {x102 : Int} {x103 : Bool} {x104 : Int} {x105 : Int} {x106 : Int} {x107 : Bool} {x110 : List Int} {x1110 : List Int} {x1111 : Int} {x1112 : List Int} {x12 : Int} {x13 : List (Int × Int × Bool × Int × Int × Int × Int)} {w : World} (h : busK.rd cs ((x00, x01, x02, x03, x04, x05), x1, x2, (x30, x31), x4, x5, x6, x7, x8, (x90, x91, x92, x93, x94, x95, x96, x97), (x100, x101, x102, x103, x104, x105, x106, x107), (x110, (x1110, x1111, x1112)), x12, x13) w) :
    ∃ ax00 px00 ax2 px2 ax4 px4 ax5 px5 ax110 px110 ax1110 px1110 ax1112 px1112 ax13 px13, cs = [.slice ax00 x00.length px00, .int .i64 x01, .int .i64 x02, .int .i64 x03, .int .i64 x04, .int .i64 x05, .int .i64 x1, .slice ax2 x2.length px2, .int .i64 x30, .int .i64 x31, .slice ax4 x4.length px4, .slice ax5 x5.length px5, .int .i64 x6, .int .i64 x7, .int .i64 x8, .bool x90, .int .i64 x91, .int .i64 x92, .bool x93, .int .i64 x94, .int .i64 x95, .int .i64 x96, .bool x97, .bool x100, .int .i64 x101, .int .i64 x102, .bool x103, .int .i64 x104, .int .i64 x105, .int .i64 x106, .bool x107, .slice ax110 x110.length px110, .slice ax1110 x1110.length px1110, .int .i64 x1111, .slice ax1112 x1112.length px1112, .int .i64 x12, .slice ax13 x13.length px13] ∧ mConfS.rd [.slice ax00 x00.length px00] x00 w ∧ mstS.rd [.slice ax2 x2.length px2] x2 w ∧ bucketS.rd [.slice ax4 x4.length px4] x4 w ∧ ints.rd [.slice ax5 x5.length px5] x5 w ∧ ints.rd [.slice ax110 x110.length px110] x110 w ∧ ints.rd [.slice ax1110 x1110.length px1110] x1110 w ∧ ints.rd [.slice ax1112 x1112.length px1112] x1112 w ∧ doneS.rd [.slice ax13 x13.length px13] x13 w := by
  obtain ⟨c0, r0, rfl, h0, c1, r1, rfl, h1, c2, r2, rfl, h2, c3, r3, rfl, h3, c4, r4, rfl, h4, c5, r5, rfl, h5, c6, r6, rfl, h6, c7, r7, rfl, h7, c8, r8, rfl, h8, c9, r9, rfl, h9, c10, r10, rfl, h10, c11, r11, rfl, h11, c12, r12, rfl, h12, h13⟩ := h
  obtain ⟨ax00, px00, rfl, qx00⟩ := conf_form h0
  obtain rfl := h1
  have t2 := h2
  obtain ⟨ax2, px2, rfl, _⟩ := t2
  obtain rfl := wrr_form h3
  have t4 := h4
  obtain ⟨ax4, px4, rfl, _⟩ := t4
  have t5 := h5
  obtain ⟨ax5, px5, rfl, _⟩ := t5
  obtain rfl := h6
  obtain rfl := h7
  obtain rfl := h8
  obtain rfl := beat_form h9
  obtain rfl := beat_form h10
  obtain ⟨ax110, px110, ax1110, px1110, ax1112, px1112, rfl, qx110, qx1110, qx1112⟩ := model_form h11
  obtain rfl := h12
  have t13 := h13
  obtain ⟨ax13, px13, rfl, _⟩ := t13
  exact ⟨_, _, _, _, _, _, _, _, _, _, _, _, _, _, _, _, rfl, qx00, h2, h4, h5, qx110, qx1110, qx1112, h13⟩
theorem bus_rd {ux00 ux2 ux4 ux5 ux110 ux1110 ux1112 ux13 : Value} {x00 : List (Int × Bool × Int × Int)} {x01 : Int} {x02 : Int} {x03 : Int} {x04 : Int} {x05 : Int} {x1 : Int} {x2 : List (List (Bool × Int × Int × Int × Bool × List Int) × Int × Int × Int × Bool × Bool)} {x30 : Int} {x31 : Int} {x4 : List (Int × Int)} {x5 : List Int} {x6 : Int} {x7 : Int} {x8 : Int} {x90 : Bool} {x91 : Int} {x92 : Int} {x93 : Bool} {x94 : Int} {x95 : Int} {x96 : Int} {x97 : Bool} {x100 : Bool} {x101 : Int} {x102 : Int} {x103 : Bool} {x104 : Int} {x105 : Int} {x106 : Int} {x107 : Bool} {x110 : List Int} {x1110 : List Int} {x1111 : Int} {x1112 : List Int} {x12 : Int} {x13 : List (Int × Int × Bool × Int × Int × Int × Int)} {w : World} (hx00 : mConfS.rd [ux00] x00 w) (hx2 : mstS.rd [ux2] x2 w) (hx4 : bucketS.rd [ux4] x4 w) (hx5 : ints.rd [ux5] x5 w) (hx110 : ints.rd [ux110] x110 w) (hx1110 : ints.rd [ux1110] x1110 w) (hx1112 : ints.rd [ux1112] x1112 w) (hx13 : doneS.rd [ux13] x13 w) : busK.rd [ux00, .int .i64 x01, .int .i64 x02, .int .i64 x03, .int .i64 x04, .int .i64 x05, .int .i64 x1, ux2, .int .i64 x30, .int .i64 x31, ux4, ux5, .int .i64 x6, .int .i64 x7, .int .i64 x8, .bool x90, .int .i64 x91, .int .i64 x92, .bool x93, .int .i64 x94, .int .i64 x95, .int .i64 x96, .bool x97, .bool x100, .int .i64 x101, .int .i64 x102, .bool x103, .int .i64 x104, .int .i64 x105, .int .i64 x106, .bool x107, ux110, ux1110, .int .i64 x1111, ux1112, .int .i64 x12, ux13] ((x00, x01, x02, x03, x04, x05), x1, x2, (x30, x31), x4, x5, x6, x7, x8, (x90, x91, x92, x93, x94, x95, x96, x97), (x100, x101, x102, x103, x104, x105, x106, x107), (x110, (x1110, x1111, x1112)), x12, x13) w :=
  ⟨[ux00, .int .i64 x01, .int .i64 x02, .int .i64 x03, .int .i64 x04, .int .i64 x05], _, rfl, conf_rd hx00, ⟨[.int .i64 x1], _, rfl, rfl, ⟨[ux2], _, rfl, hx2, ⟨[.int .i64 x30, .int .i64 x31], _, rfl, wrr_rd , ⟨[ux4], _, rfl, hx4, ⟨[ux5], _, rfl, hx5, ⟨[.int .i64 x6], _, rfl, rfl, ⟨[.int .i64 x7], _, rfl, rfl, ⟨[.int .i64 x8], _, rfl, rfl, ⟨[.bool x90, .int .i64 x91, .int .i64 x92, .bool x93, .int .i64 x94, .int .i64 x95, .int .i64 x96, .bool x97], _, rfl, beat_rd , ⟨[.bool x100, .int .i64 x101, .int .i64 x102, .bool x103, .int .i64 x104, .int .i64 x105, .int .i64 x106, .bool x107], _, rfl, beat_rd , ⟨[ux110, ux1110, .int .i64 x1111, ux1112], _, rfl, model_rd hx110 hx1110 hx1112, ⟨[.int .i64 x12], _, rfl, rfl, hx13⟩⟩⟩⟩⟩⟩⟩⟩⟩⟩⟩⟩⟩
theorem cap_bus {F : Foot} {cs : List Value} {x00 : List (Int × Bool × Int × Int)} {x01 : Int} {x02 : Int} {x03 : Int} {x04 : Int} {x05 : Int} {x1 : Int} {x2 : List (List (Bool × Int × Int × Int × Bool × List Int) × Int × Int × Int × Bool × Bool)} {x30 : Int} {x31 : Int} {x4 : List (Int × Int)} {x5 : List Int} {x6 : Int} {x7 : Int} {x8 : Int} {x90 : Bool} {x91 : Int} {x92 : Int} {x93 : Bool} {x94 : Int} {x95 : Int} {x96 : Int} {x97 : Bool} {x100 : Bool} {x101 : Int} {x102 : Int} {x103 : Bool} {x104 : Int} {x105 : Int} {x106 : Int} {x107 : Bool} {x110 : List Int} {x1110 : List Int} {x1111 : Int} {x1112 : List Int} {x12 : Int} {x13 : List (Int × Int × Bool × Int × Int × Int × Int)} {w : World} (h : busK.cap F cs ((x00, x01, x02, x03, x04, x05), x1, x2, (x30, x31), x4, x5, x6, x7, x8, (x90, x91, x92, x93, x94, x95, x96, x97), (x100, x101, x102, x103, x104, x105, x106, x107), (x110, (x1110, x1111, x1112)), x12, x13) w) :
    ∃ ax00 px00 ax2 px2 ax4 px4 ax5 px5 ax110 px110 ax1110 px1110 ax1112 px1112 ax13 px13 Fx00 Fx2 Fx4 Fx5 Fx110 Fx1110 Fx1112 Fx13, cs = [.slice ax00 x00.length px00, .int .i64 x01, .int .i64 x02, .int .i64 x03, .int .i64 x04, .int .i64 x05, .int .i64 x1, .slice ax2 x2.length px2, .int .i64 x30, .int .i64 x31, .slice ax4 x4.length px4, .slice ax5 x5.length px5, .int .i64 x6, .int .i64 x7, .int .i64 x8, .bool x90, .int .i64 x91, .int .i64 x92, .bool x93, .int .i64 x94, .int .i64 x95, .int .i64 x96, .bool x97, .bool x100, .int .i64 x101, .int .i64 x102, .bool x103, .int .i64 x104, .int .i64 x105, .int .i64 x106, .bool x107, .slice ax110 x110.length px110, .slice ax1110 x1110.length px1110, .int .i64 x1111, .slice ax1112 x1112.length px1112, .int .i64 x12, .slice ax13 x13.length px13] ∧ mConfS.cap Fx00 [.slice ax00 x00.length px00] x00 w ∧ mstS.cap Fx2 [.slice ax2 x2.length px2] x2 w ∧ bucketS.cap Fx4 [.slice ax4 x4.length px4] x4 w ∧ ints.cap Fx5 [.slice ax5 x5.length px5] x5 w ∧ ints.cap Fx110 [.slice ax110 x110.length px110] x110 w ∧ ints.cap Fx1110 [.slice ax1110 x1110.length px1110] x1110 w ∧ ints.cap Fx1112 [.slice ax1112 x1112.length px1112] x1112 w ∧ doneS.cap Fx13 [.slice ax13 x13.length px13] x13 w ∧ (∀ k, Fx00 k → F k) ∧ (∀ k, Fx2 k → F k) ∧ (∀ k, Fx4 k → F k) ∧ (∀ k, Fx5 k → F k) ∧ (∀ k, Fx110 k → F k) ∧ (∀ k, Fx1110 k → F k) ∧ (∀ k, Fx1112 k → F k) ∧ (∀ k, Fx13 k → F k) ∧ (∀ k, Fx00 k → ¬ Fx2 k) ∧ (∀ k, Fx00 k → ¬ Fx4 k) ∧ (∀ k, Fx00 k → ¬ Fx5 k) ∧ (∀ k, Fx00 k → ¬ Fx110 k) ∧ (∀ k, Fx00 k → ¬ Fx1110 k) ∧ (∀ k, Fx00 k → ¬ Fx1112 k) ∧ (∀ k, Fx00 k → ¬ Fx13 k) ∧ (∀ k, Fx2 k → ¬ Fx4 k) ∧ (∀ k, Fx2 k → ¬ Fx5 k) ∧ (∀ k, Fx2 k → ¬ Fx110 k) ∧ (∀ k, Fx2 k → ¬ Fx1110 k) ∧ (∀ k, Fx2 k → ¬ Fx1112 k) ∧ (∀ k, Fx2 k → ¬ Fx13 k) ∧ (∀ k, Fx4 k → ¬ Fx5 k) ∧ (∀ k, Fx4 k → ¬ Fx110 k) ∧ (∀ k, Fx4 k → ¬ Fx1110 k) ∧ (∀ k, Fx4 k → ¬ Fx1112 k) ∧ (∀ k, Fx4 k → ¬ Fx13 k) ∧ (∀ k, Fx5 k → ¬ Fx110 k) ∧ (∀ k, Fx5 k → ¬ Fx1110 k) ∧ (∀ k, Fx5 k → ¬ Fx1112 k) ∧ (∀ k, Fx5 k → ¬ Fx13 k) ∧ (∀ k, Fx110 k → ¬ Fx1110 k) ∧ (∀ k, Fx110 k → ¬ Fx1112 k) ∧ (∀ k, Fx110 k → ¬ Fx13 k) ∧ (∀ k, Fx1110 k → ¬ Fx1112 k) ∧ (∀ k, Fx1110 k → ¬ Fx13 k) ∧ (∀ k, Fx1112 k → ¬ Fx13 k) := by
  obtain ⟨c0, r0, G0, D0, rfl, d0, e0, h0, c1, r1, G1, D1, rfl, d1, e1, h1, c2, r2, G2, D2, rfl, d2, e2, h2, c3, r3, G3, D3, rfl, d3, e3, h3, c4, r4, G4, D4, rfl, d4, e4, h4, c5, r5, G5, D5, rfl, d5, e5, h5, c6, r6, G6, D6, rfl, d6, e6, h6, c7, r7, G7, D7, rfl, d7, e7, h7, c8, r8, G8, D8, rfl, d8, e8, h8, c9, r9, G9, D9, rfl, d9, e9, h9, c10, r10, G10, D10, rfl, d10, e10, h10, c11, r11, G11, D11, rfl, d11, e11, h11, c12, r12, G12, D12, rfl, d12, e12, h12, h13⟩ := h
  obtain ⟨ax00, px00, Fx00, rfl, qx00, sx00⟩ := cap_conf h0
  obtain rfl := h1
  have t2 := h2
  obtain ⟨ax2, px2, rfl, _⟩ := t2
  obtain rfl := wrr_form (wrrK.cap_rd h3)
  have t4 := h4
  obtain ⟨ax4, px4, rfl, _⟩ := t4
  have t5 := h5
  obtain ⟨ax5, px5, rfl, _⟩ := t5
  obtain rfl := h6
  obtain rfl := h7
  obtain rfl := h8
  obtain rfl := beat_form (beatK.cap_rd h9)
  obtain rfl := beat_form (beatK.cap_rd h10)
  obtain ⟨ax110, px110, ax1110, px1110, ax1112, px1112, Fx110, Fx1110, Fx1112, rfl, qx110, qx1110, qx1112, sx110, sx1110, sx1112, ux110_x1110, ux110_x1112, ux1110_x1112⟩ := cap_model h11
  obtain rfl := h12
  have t13 := h13
  obtain ⟨ax13, px13, rfl, _⟩ := t13
  exact ⟨_, _, _, _, _, _, _, _, _, _, _, _, _, _, _, _, Fx00, G2, G4, G5, Fx110, Fx1110, Fx1112, D12, rfl, qx00, h2, h4, h5, qx110, qx1110, qx1112, h13, fun k hk => (d0 k (sx00 k hk)).1, fun k hk => (e0 k (e1 k (d2 k hk).1)), fun k hk => (e0 k (e1 k (e2 k (e3 k (d4 k hk).1)))), fun k hk => (e0 k (e1 k (e2 k (e3 k (e4 k (d5 k hk).1))))), fun k hk => (e0 k (e1 k (e2 k (e3 k (e4 k (e5 k (e6 k (e7 k (e8 k (e9 k (e10 k (d11 k (sx110 k hk)).1))))))))))), fun k hk => (e0 k (e1 k (e2 k (e3 k (e4 k (e5 k (e6 k (e7 k (e8 k (e9 k (e10 k (d11 k (sx1110 k hk)).1))))))))))), fun k hk => (e0 k (e1 k (e2 k (e3 k (e4 k (e5 k (e6 k (e7 k (e8 k (e9 k (e10 k (d11 k (sx1112 k hk)).1))))))))))), fun k hk => (e0 k (e1 k (e2 k (e3 k (e4 k (e5 k (e6 k (e7 k (e8 k (e9 k (e10 k (e11 k (e12 k hk))))))))))))), fun k hk hk2 => (d0 k (sx00 k hk)).2 ((e1 k (d2 k hk2).1)), fun k hk hk2 => (d0 k (sx00 k hk)).2 ((e1 k (e2 k (e3 k (d4 k hk2).1)))), fun k hk hk2 => (d0 k (sx00 k hk)).2 ((e1 k (e2 k (e3 k (e4 k (d5 k hk2).1))))), fun k hk hk2 => (d0 k (sx00 k hk)).2 ((e1 k (e2 k (e3 k (e4 k (e5 k (e6 k (e7 k (e8 k (e9 k (e10 k (d11 k (sx110 k hk2)).1))))))))))), fun k hk hk2 => (d0 k (sx00 k hk)).2 ((e1 k (e2 k (e3 k (e4 k (e5 k (e6 k (e7 k (e8 k (e9 k (e10 k (d11 k (sx1110 k hk2)).1))))))))))), fun k hk hk2 => (d0 k (sx00 k hk)).2 ((e1 k (e2 k (e3 k (e4 k (e5 k (e6 k (e7 k (e8 k (e9 k (e10 k (d11 k (sx1112 k hk2)).1))))))))))), fun k hk hk2 => (d0 k (sx00 k hk)).2 ((e1 k (e2 k (e3 k (e4 k (e5 k (e6 k (e7 k (e8 k (e9 k (e10 k (e11 k (e12 k hk2))))))))))))), fun k hk hk2 => (d2 k hk).2 ((e3 k (d4 k hk2).1)), fun k hk hk2 => (d2 k hk).2 ((e3 k (e4 k (d5 k hk2).1))), fun k hk hk2 => (d2 k hk).2 ((e3 k (e4 k (e5 k (e6 k (e7 k (e8 k (e9 k (e10 k (d11 k (sx110 k hk2)).1))))))))), fun k hk hk2 => (d2 k hk).2 ((e3 k (e4 k (e5 k (e6 k (e7 k (e8 k (e9 k (e10 k (d11 k (sx1110 k hk2)).1))))))))), fun k hk hk2 => (d2 k hk).2 ((e3 k (e4 k (e5 k (e6 k (e7 k (e8 k (e9 k (e10 k (d11 k (sx1112 k hk2)).1))))))))), fun k hk hk2 => (d2 k hk).2 ((e3 k (e4 k (e5 k (e6 k (e7 k (e8 k (e9 k (e10 k (e11 k (e12 k hk2))))))))))), fun k hk hk2 => (d4 k hk).2 ((d5 k hk2).1), fun k hk hk2 => (d4 k hk).2 ((e5 k (e6 k (e7 k (e8 k (e9 k (e10 k (d11 k (sx110 k hk2)).1))))))), fun k hk hk2 => (d4 k hk).2 ((e5 k (e6 k (e7 k (e8 k (e9 k (e10 k (d11 k (sx1110 k hk2)).1))))))), fun k hk hk2 => (d4 k hk).2 ((e5 k (e6 k (e7 k (e8 k (e9 k (e10 k (d11 k (sx1112 k hk2)).1))))))), fun k hk hk2 => (d4 k hk).2 ((e5 k (e6 k (e7 k (e8 k (e9 k (e10 k (e11 k (e12 k hk2))))))))), fun k hk hk2 => (d5 k hk).2 ((e6 k (e7 k (e8 k (e9 k (e10 k (d11 k (sx110 k hk2)).1)))))), fun k hk hk2 => (d5 k hk).2 ((e6 k (e7 k (e8 k (e9 k (e10 k (d11 k (sx1110 k hk2)).1)))))), fun k hk hk2 => (d5 k hk).2 ((e6 k (e7 k (e8 k (e9 k (e10 k (d11 k (sx1112 k hk2)).1)))))), fun k hk hk2 => (d5 k hk).2 ((e6 k (e7 k (e8 k (e9 k (e10 k (e11 k (e12 k hk2)))))))), ux110_x1110, ux110_x1112, fun k hk hk2 => (d11 k (sx110 k hk)).2 ((e12 k hk2)), ux1110_x1112, fun k hk hk2 => (d11 k (sx1110 k hk)).2 ((e12 k hk2)), fun k hk hk2 => (d11 k (sx1112 k hk)).2 ((e12 k hk2))⟩
theorem bus_cap {F Fx00 Fx2 Fx4 Fx5 Fx110 Fx1110 Fx1112 Fx13 : Foot} {ux00 ux2 ux4 ux5 ux110 ux1110 ux1112 ux13 : Value} {x00 : List (Int × Bool × Int × Int)} {x01 : Int} {x02 : Int} {x03 : Int} {x04 : Int} {x05 : Int} {x1 : Int} {x2 : List (List (Bool × Int × Int × Int × Bool × List Int) × Int × Int × Int × Bool × Bool)} {x30 : Int} {x31 : Int} {x4 : List (Int × Int)} {x5 : List Int} {x6 : Int} {x7 : Int} {x8 : Int} {x90 : Bool} {x91 : Int} {x92 : Int} {x93 : Bool} {x94 : Int} {x95 : Int} {x96 : Int} {x97 : Bool} {x100 : Bool} {x101 : Int} {x102 : Int} {x103 : Bool} {x104 : Int} {x105 : Int} {x106 : Int} {x107 : Bool} {x110 : List Int} {x1110 : List Int} {x1111 : Int} {x1112 : List Int} {x12 : Int} {x13 : List (Int × Int × Bool × Int × Int × Int × Int)} {w : World} (hx00 : mConfS.cap Fx00 [ux00] x00 w) (hx2 : mstS.cap Fx2 [ux2] x2 w) (hx4 : bucketS.cap Fx4 [ux4] x4 w) (hx5 : ints.cap Fx5 [ux5] x5 w) (hx110 : ints.cap Fx110 [ux110] x110 w) (hx1110 : ints.cap Fx1110 [ux1110] x1110 w) (hx1112 : ints.cap Fx1112 [ux1112] x1112 w) (hx13 : doneS.cap Fx13 [ux13] x13 w)
    (sx00 : ∀ k, Fx00 k → F k) (sx2 : ∀ k, Fx2 k → F k) (sx4 : ∀ k, Fx4 k → F k) (sx5 : ∀ k, Fx5 k → F k) (sx110 : ∀ k, Fx110 k → F k) (sx1110 : ∀ k, Fx1110 k → F k) (sx1112 : ∀ k, Fx1112 k → F k) (sx13 : ∀ k, Fx13 k → F k) (ux00_x2 : ∀ k, Fx00 k → ¬ Fx2 k) (ux00_x4 : ∀ k, Fx00 k → ¬ Fx4 k) (ux00_x5 : ∀ k, Fx00 k → ¬ Fx5 k) (ux00_x110 : ∀ k, Fx00 k → ¬ Fx110 k) (ux00_x1110 : ∀ k, Fx00 k → ¬ Fx1110 k) (ux00_x1112 : ∀ k, Fx00 k → ¬ Fx1112 k) (ux00_x13 : ∀ k, Fx00 k → ¬ Fx13 k) (ux2_x4 : ∀ k, Fx2 k → ¬ Fx4 k) (ux2_x5 : ∀ k, Fx2 k → ¬ Fx5 k) (ux2_x110 : ∀ k, Fx2 k → ¬ Fx110 k) (ux2_x1110 : ∀ k, Fx2 k → ¬ Fx1110 k) (ux2_x1112 : ∀ k, Fx2 k → ¬ Fx1112 k) (ux2_x13 : ∀ k, Fx2 k → ¬ Fx13 k) (ux4_x5 : ∀ k, Fx4 k → ¬ Fx5 k) (ux4_x110 : ∀ k, Fx4 k → ¬ Fx110 k) (ux4_x1110 : ∀ k, Fx4 k → ¬ Fx1110 k) (ux4_x1112 : ∀ k, Fx4 k → ¬ Fx1112 k) (ux4_x13 : ∀ k, Fx4 k → ¬ Fx13 k) (ux5_x110 : ∀ k, Fx5 k → ¬ Fx110 k) (ux5_x1110 : ∀ k, Fx5 k → ¬ Fx1110 k) (ux5_x1112 : ∀ k, Fx5 k → ¬ Fx1112 k) (ux5_x13 : ∀ k, Fx5 k → ¬ Fx13 k) (ux110_x1110 : ∀ k, Fx110 k → ¬ Fx1110 k) (ux110_x1112 : ∀ k, Fx110 k → ¬ Fx1112 k) (ux110_x13 : ∀ k, Fx110 k → ¬ Fx13 k) (ux1110_x1112 : ∀ k, Fx1110 k → ¬ Fx1112 k) (ux1110_x13 : ∀ k, Fx1110 k → ¬ Fx13 k) (ux1112_x13 : ∀ k, Fx1112 k → ¬ Fx13 k) : busK.cap F [ux00, .int .i64 x01, .int .i64 x02, .int .i64 x03, .int .i64 x04, .int .i64 x05, .int .i64 x1, ux2, .int .i64 x30, .int .i64 x31, ux4, ux5, .int .i64 x6, .int .i64 x7, .int .i64 x8, .bool x90, .int .i64 x91, .int .i64 x92, .bool x93, .int .i64 x94, .int .i64 x95, .int .i64 x96, .bool x97, .bool x100, .int .i64 x101, .int .i64 x102, .bool x103, .int .i64 x104, .int .i64 x105, .int .i64 x106, .bool x107, ux110, ux1110, .int .i64 x1111, ux1112, .int .i64 x12, ux13] ((x00, x01, x02, x03, x04, x05), x1, x2, (x30, x31), x4, x5, x6, x7, x8, (x90, x91, x92, x93, x94, x95, x96, x97), (x100, x101, x102, x103, x104, x105, x106, x107), (x110, (x1110, x1111, x1112)), x12, x13) w :=
  ⟨[ux00, .int .i64 x01, .int .i64 x02, .int .i64 x03, .int .i64 x04, .int .i64 x05], _, (fun k => Fx00 k), (fun k => Fx2 k ∨ Fx4 k ∨ Fx5 k ∨ Fx110 k ∨ Fx1110 k ∨ Fx1112 k ∨ Fx13 k), rfl, fun k hk => ⟨sx00 k hk, fun hk2 => hk2.elim (fun hk2 => ux00_x2 k hk hk2) (fun hk2 => hk2.elim (fun hk2 => ux00_x4 k hk hk2) (fun hk2 => hk2.elim (fun hk2 => ux00_x5 k hk hk2) (fun hk2 => hk2.elim (fun hk2 => ux00_x110 k hk hk2) (fun hk2 => hk2.elim (fun hk2 => ux00_x1110 k hk hk2) (fun hk2 => hk2.elim (fun hk2 => ux00_x1112 k hk hk2) (fun hk2 => ux00_x13 k hk hk2))))))⟩, fun k hk => hk.elim (fun hk => sx2 k hk) (fun hk => hk.elim (fun hk => sx4 k hk) (fun hk => hk.elim (fun hk => sx5 k hk) (fun hk => hk.elim (fun hk => sx110 k hk) (fun hk => hk.elim (fun hk => sx1110 k hk) (fun hk => hk.elim (fun hk => sx1112 k hk) (fun hk => sx13 k hk)))))), conf_cap hx00 (fun k hk => hk) , ⟨[.int .i64 x1], _, (fun k => False), (fun k => Fx2 k ∨ Fx4 k ∨ Fx5 k ∨ Fx110 k ∨ Fx1110 k ∨ Fx1112 k ∨ Fx13 k), rfl, fun k hk => ⟨hk.elim, fun hk2 => hk.elim⟩, fun k hk => hk.elim (fun hk => (.inl hk)) (fun hk => hk.elim (fun hk => (.inr (.inl hk))) (fun hk => hk.elim (fun hk => (.inr (.inr (.inl hk)))) (fun hk => hk.elim (fun hk => (.inr (.inr (.inr (.inl hk))))) (fun hk => hk.elim (fun hk => (.inr (.inr (.inr (.inr (.inl hk)))))) (fun hk => hk.elim (fun hk => (.inr (.inr (.inr (.inr (.inr (.inl hk))))))) (fun hk => (.inr (.inr (.inr (.inr (.inr (.inr hk)))))))))))), rfl, ⟨[ux2], _, (fun k => Fx2 k), (fun k => Fx4 k ∨ Fx5 k ∨ Fx110 k ∨ Fx1110 k ∨ Fx1112 k ∨ Fx13 k), rfl, fun k hk => ⟨(.inl hk), fun hk2 => hk2.elim (fun hk2 => ux2_x4 k hk hk2) (fun hk2 => hk2.elim (fun hk2 => ux2_x5 k hk hk2) (fun hk2 => hk2.elim (fun hk2 => ux2_x110 k hk hk2) (fun hk2 => hk2.elim (fun hk2 => ux2_x1110 k hk hk2) (fun hk2 => hk2.elim (fun hk2 => ux2_x1112 k hk hk2) (fun hk2 => ux2_x13 k hk hk2)))))⟩, fun k hk => hk.elim (fun hk => (.inr (.inl hk))) (fun hk => hk.elim (fun hk => (.inr (.inr (.inl hk)))) (fun hk => hk.elim (fun hk => (.inr (.inr (.inr (.inl hk))))) (fun hk => hk.elim (fun hk => (.inr (.inr (.inr (.inr (.inl hk)))))) (fun hk => hk.elim (fun hk => (.inr (.inr (.inr (.inr (.inr (.inl hk))))))) (fun hk => (.inr (.inr (.inr (.inr (.inr (.inr hk))))))))))), hx2, ⟨[.int .i64 x30, .int .i64 x31], _, (fun k => False), (fun k => Fx4 k ∨ Fx5 k ∨ Fx110 k ∨ Fx1110 k ∨ Fx1112 k ∨ Fx13 k), rfl, fun k hk => ⟨hk.elim, fun hk2 => hk.elim⟩, fun k hk => hk.elim (fun hk => (.inl hk)) (fun hk => hk.elim (fun hk => (.inr (.inl hk))) (fun hk => hk.elim (fun hk => (.inr (.inr (.inl hk)))) (fun hk => hk.elim (fun hk => (.inr (.inr (.inr (.inl hk))))) (fun hk => hk.elim (fun hk => (.inr (.inr (.inr (.inr (.inl hk)))))) (fun hk => (.inr (.inr (.inr (.inr (.inr hk)))))))))), wrr_capz _ x30 x31 _, ⟨[ux4], _, (fun k => Fx4 k), (fun k => Fx5 k ∨ Fx110 k ∨ Fx1110 k ∨ Fx1112 k ∨ Fx13 k), rfl, fun k hk => ⟨(.inl hk), fun hk2 => hk2.elim (fun hk2 => ux4_x5 k hk hk2) (fun hk2 => hk2.elim (fun hk2 => ux4_x110 k hk hk2) (fun hk2 => hk2.elim (fun hk2 => ux4_x1110 k hk hk2) (fun hk2 => hk2.elim (fun hk2 => ux4_x1112 k hk hk2) (fun hk2 => ux4_x13 k hk hk2))))⟩, fun k hk => hk.elim (fun hk => (.inr (.inl hk))) (fun hk => hk.elim (fun hk => (.inr (.inr (.inl hk)))) (fun hk => hk.elim (fun hk => (.inr (.inr (.inr (.inl hk))))) (fun hk => hk.elim (fun hk => (.inr (.inr (.inr (.inr (.inl hk)))))) (fun hk => (.inr (.inr (.inr (.inr (.inr hk))))))))), hx4, ⟨[ux5], _, (fun k => Fx5 k), (fun k => Fx110 k ∨ Fx1110 k ∨ Fx1112 k ∨ Fx13 k), rfl, fun k hk => ⟨(.inl hk), fun hk2 => hk2.elim (fun hk2 => ux5_x110 k hk hk2) (fun hk2 => hk2.elim (fun hk2 => ux5_x1110 k hk hk2) (fun hk2 => hk2.elim (fun hk2 => ux5_x1112 k hk hk2) (fun hk2 => ux5_x13 k hk hk2)))⟩, fun k hk => hk.elim (fun hk => (.inr (.inl hk))) (fun hk => hk.elim (fun hk => (.inr (.inr (.inl hk)))) (fun hk => hk.elim (fun hk => (.inr (.inr (.inr (.inl hk))))) (fun hk => (.inr (.inr (.inr (.inr hk))))))), hx5, ⟨[.int .i64 x6], _, (fun k => False), (fun k => Fx110 k ∨ Fx1110 k ∨ Fx1112 k ∨ Fx13 k), rfl, fun k hk => ⟨hk.elim, fun hk2 => hk.elim⟩, fun k hk => hk.elim (fun hk => (.inl hk)) (fun hk => hk.elim (fun hk => (.inr (.inl hk))) (fun hk => hk.elim (fun hk => (.inr (.inr (.inl hk)))) (fun hk => (.inr (.inr (.inr hk)))))), rfl, ⟨[.int .i64 x7], _, (fun k => False), (fun k => Fx110 k ∨ Fx1110 k ∨ Fx1112 k ∨ Fx13 k), rfl, fun k hk => ⟨hk.elim, fun hk2 => hk.elim⟩, fun k hk => hk.elim (fun hk => (.inl hk)) (fun hk => hk.elim (fun hk => (.inr (.inl hk))) (fun hk => hk.elim (fun hk => (.inr (.inr (.inl hk)))) (fun hk => (.inr (.inr (.inr hk)))))), rfl, ⟨[.int .i64 x8], _, (fun k => False), (fun k => Fx110 k ∨ Fx1110 k ∨ Fx1112 k ∨ Fx13 k), rfl, fun k hk => ⟨hk.elim, fun hk2 => hk.elim⟩, fun k hk => hk.elim (fun hk => (.inl hk)) (fun hk => hk.elim (fun hk => (.inr (.inl hk))) (fun hk => hk.elim (fun hk => (.inr (.inr (.inl hk)))) (fun hk => (.inr (.inr (.inr hk)))))), rfl, ⟨[.bool x90, .int .i64 x91, .int .i64 x92, .bool x93, .int .i64 x94, .int .i64 x95, .int .i64 x96, .bool x97], _, (fun k => False), (fun k => Fx110 k ∨ Fx1110 k ∨ Fx1112 k ∨ Fx13 k), rfl, fun k hk => ⟨hk.elim, fun hk2 => hk.elim⟩, fun k hk => hk.elim (fun hk => (.inl hk)) (fun hk => hk.elim (fun hk => (.inr (.inl hk))) (fun hk => hk.elim (fun hk => (.inr (.inr (.inl hk)))) (fun hk => (.inr (.inr (.inr hk)))))), beat_capz _ x90 x91 x92 x93 x94 x95 x96 x97 _, ⟨[.bool x100, .int .i64 x101, .int .i64 x102, .bool x103, .int .i64 x104, .int .i64 x105, .int .i64 x106, .bool x107], _, (fun k => False), (fun k => Fx110 k ∨ Fx1110 k ∨ Fx1112 k ∨ Fx13 k), rfl, fun k hk => ⟨hk.elim, fun hk2 => hk.elim⟩, fun k hk => hk.elim (fun hk => (.inl hk)) (fun hk => hk.elim (fun hk => (.inr (.inl hk))) (fun hk => hk.elim (fun hk => (.inr (.inr (.inl hk)))) (fun hk => (.inr (.inr (.inr hk)))))), beat_capz _ x100 x101 x102 x103 x104 x105 x106 x107 _, ⟨[ux110, ux1110, .int .i64 x1111, ux1112], _, (fun k => Fx110 k ∨ Fx1110 k ∨ Fx1112 k), (fun k => Fx13 k), rfl, fun k hk => ⟨hk.elim (fun hk => (.inl hk)) (fun hk => hk.elim (fun hk => (.inr (.inl hk))) (fun hk => (.inr (.inr (.inl hk))))), fun hk2 => hk.elim (fun hk => ux110_x13 k hk hk2) (fun hk => hk.elim (fun hk => ux1110_x13 k hk hk2) (fun hk => ux1112_x13 k hk hk2))⟩, fun k hk => (.inr (.inr (.inr hk))), model_cap hx110 hx1110 hx1112 (fun k hk => (.inl hk)) (fun k hk => (.inr (.inl hk))) (fun k hk => (.inr (.inr hk))) ux110_x1110 ux110_x1112 ux1110_x1112, ⟨[.int .i64 x12], _, (fun k => False), (fun k => Fx13 k), rfl, fun k hk => ⟨hk.elim, fun hk2 => hk.elim⟩, fun k hk => hk, rfl, hx13⟩⟩⟩⟩⟩⟩⟩⟩⟩⟩⟩⟩⟩
theorem bus_sz (x00 : List (Int × Bool × Int × Int)) (x01 : Int) (x02 : Int) (x03 : Int) (x04 : Int) (x05 : Int) (x1 : Int) (x2 : List (List (Bool × Int × Int × Int × Bool × List Int) × Int × Int × Int × Bool × Bool)) (x30 : Int) (x31 : Int) (x4 : List (Int × Int)) (x5 : List Int) (x6 : Int) (x7 : Int) (x8 : Int) (x90 : Bool) (x91 : Int) (x92 : Int) (x93 : Bool) (x94 : Int) (x95 : Int) (x96 : Int) (x97 : Bool) (x100 : Bool) (x101 : Int) (x102 : Int) (x103 : Bool) (x104 : Int) (x105 : Int) (x106 : Int) (x107 : Bool) (x110 : List Int) (x1110 : List Int) (x1111 : Int) (x1112 : List Int) (x12 : Int) (x13 : List (Int × Int × Bool × Int × Int × Int × Int)) : busK.sz ((x00, x01, x02, x03, x04, x05), x1, x2, (x30, x31), x4, x5, x6, x7, x8, (x90, x91, x92, x93, x94, x95, x96, x97), (x100, x101, x102, x103, x104, x105, x106, x107), (x110, (x1110, x1111, x1112)), x12, x13) = confK.sz (x00, x01, x02, x03, x04, x05) + mstS.sz x2 + bucketS.sz x4 + ints.sz x5 + modelK.sz (x110, (x1110, x1111, x1112)) + doneS.sz x13 := by
  show confK.sz (x00, x01, x02, x03, x04, x05) + (0 + (mstS.sz x2 + (0 + (bucketS.sz x4 + (ints.sz x5 + (0 + (0 + (0 + (0 + (0 + (modelK.sz (x110, (x1110, x1111, x1112)) + (0 + doneS.sz x13)))))))))))) = _
  omega
theorem bus_cT (x00 : List (Int × Bool × Int × Int)) (x01 : Int) (x02 : Int) (x03 : Int) (x04 : Int) (x05 : Int) (x1 : Int) (x2 : List (List (Bool × Int × Int × Int × Bool × List Int) × Int × Int × Int × Bool × Bool)) (x30 : Int) (x31 : Int) (x4 : List (Int × Int)) (x5 : List Int) (x6 : Int) (x7 : Int) (x8 : Int) (x90 : Bool) (x91 : Int) (x92 : Int) (x93 : Bool) (x94 : Int) (x95 : Int) (x96 : Int) (x97 : Bool) (x100 : Bool) (x101 : Int) (x102 : Int) (x103 : Bool) (x104 : Int) (x105 : Int) (x106 : Int) (x107 : Bool) (x110 : List Int) (x1110 : List Int) (x1111 : Int) (x1112 : List Int) (x12 : Int) (x13 : List (Int × Int × Bool × Int × Int × Int × Int)) : busK.cT ((x00, x01, x02, x03, x04, x05), x1, x2, (x30, x31), x4, x5, x6, x7, x8, (x90, x91, x92, x93, x94, x95, x96, x97), (x100, x101, x102, x103, x104, x105, x106, x107), (x110, (x1110, x1111, x1112)), x12, x13) = confK.cT (x00, x01, x02, x03, x04, x05) + mstS.cT x2 + bucketS.cT x4 + ints.cT x5 + modelK.cT (x110, (x1110, x1111, x1112)) + doneS.cT x13 := by
  show confK.cT (x00, x01, x02, x03, x04, x05) + (0 + (mstS.cT x2 + (0 + (bucketS.cT x4 + (ints.cT x5 + (0 + (0 + (0 + (0 + (0 + (modelK.cT (x110, (x1110, x1111, x1112)) + (0 + doneS.cT x13)))))))))))) = _
  omega
theorem bus_mT (x00 : List (Int × Bool × Int × Int)) (x01 : Int) (x02 : Int) (x03 : Int) (x04 : Int) (x05 : Int) (x1 : Int) (x2 : List (List (Bool × Int × Int × Int × Bool × List Int) × Int × Int × Int × Bool × Bool)) (x30 : Int) (x31 : Int) (x4 : List (Int × Int)) (x5 : List Int) (x6 : Int) (x7 : Int) (x8 : Int) (x90 : Bool) (x91 : Int) (x92 : Int) (x93 : Bool) (x94 : Int) (x95 : Int) (x96 : Int) (x97 : Bool) (x100 : Bool) (x101 : Int) (x102 : Int) (x103 : Bool) (x104 : Int) (x105 : Int) (x106 : Int) (x107 : Bool) (x110 : List Int) (x1110 : List Int) (x1111 : Int) (x1112 : List Int) (x12 : Int) (x13 : List (Int × Int × Bool × Int × Int × Int × Int)) (k : Int) : busK.mT ((x00, x01, x02, x03, x04, x05), x1, x2, (x30, x31), x4, x5, x6, x7, x8, (x90, x91, x92, x93, x94, x95, x96, x97), (x100, x101, x102, x103, x104, x105, x106, x107), (x110, (x1110, x1111, x1112)), x12, x13) k = (confK.mT (x00, x01, x02, x03, x04, x05) (k), x1, mstS.mT x2 (k + (confK.cT (x00, x01, x02, x03, x04, x05) : Int)), (x30, x31), bucketS.mT x4 (k + (confK.cT (x00, x01, x02, x03, x04, x05) : Int) + (mstS.cT x2 : Int)), ints.mT x5 (k + (confK.cT (x00, x01, x02, x03, x04, x05) : Int) + (mstS.cT x2 : Int) + (bucketS.cT x4 : Int)), x6, x7, x8, (x90, x91, x92, x93, x94, x95, x96, x97), (x100, x101, x102, x103, x104, x105, x106, x107), modelK.mT (x110, (x1110, x1111, x1112)) (k + (confK.cT (x00, x01, x02, x03, x04, x05) : Int) + (mstS.cT x2 : Int) + (bucketS.cT x4 : Int) + (ints.cT x5 : Int)), x12, doneS.mT x13 (k + (confK.cT (x00, x01, x02, x03, x04, x05) : Int) + (mstS.cT x2 : Int) + (bucketS.cT x4 : Int) + (ints.cT x5 : Int) + (modelK.cT (x110, (x1110, x1111, x1112)) : Int))) := by
  show (confK.mT (x00, x01, x02, x03, x04, x05) (k), x1, mstS.mT x2 (k + (confK.cT (x00, x01, x02, x03, x04, x05) : Int) + ((0 : Nat) : Int)), (x30, x31), bucketS.mT x4 (k + (confK.cT (x00, x01, x02, x03, x04, x05) : Int) + ((0 : Nat) : Int) + (mstS.cT x2 : Int) + ((0 : Nat) : Int)), ints.mT x5 (k + (confK.cT (x00, x01, x02, x03, x04, x05) : Int) + ((0 : Nat) : Int) + (mstS.cT x2 : Int) + ((0 : Nat) : Int) + (bucketS.cT x4 : Int)), x6, x7, x8, (x90, x91, x92, x93, x94, x95, x96, x97), (x100, x101, x102, x103, x104, x105, x106, x107), modelK.mT (x110, (x1110, x1111, x1112)) (k + (confK.cT (x00, x01, x02, x03, x04, x05) : Int) + ((0 : Nat) : Int) + (mstS.cT x2 : Int) + ((0 : Nat) : Int) + (bucketS.cT x4 : Int) + (ints.cT x5 : Int) + ((0 : Nat) : Int) + ((0 : Nat) : Int) + ((0 : Nat) : Int) + ((0 : Nat) : Int) + ((0 : Nat) : Int)), x12, doneS.mT x13 (k + (confK.cT (x00, x01, x02, x03, x04, x05) : Int) + ((0 : Nat) : Int) + (mstS.cT x2 : Int) + ((0 : Nat) : Int) + (bucketS.cT x4 : Int) + (ints.cT x5 : Int) + ((0 : Nat) : Int) + ((0 : Nat) : Int) + ((0 : Nat) : Int) + ((0 : Nat) : Int) + ((0 : Nat) : Int) + (modelK.cT (x110, (x1110, x1111, x1112)) : Int) + ((0 : Nat) : Int))) = _
  simp
set_option maxHeartbeats 40000000 in
set_option maxRecDepth 100000 in
theorem bus_ones {arr : Array Value} {x : (List (Int × Bool × Int × Int) × Int × Int × Int × Int × Int) × Int × List (List (Bool × Int × Int × Int × Bool × List Int) × Int × Int × Int × Bool × Bool) × (Int × Int) × List (Int × Int) × List Int × Int × Int × Int × (Bool × Int × Int × Bool × Int × Int × Int × Bool) × (Bool × Int × Int × Bool × Int × Int × Int × Bool) × (List Int × (List Int × Int × List Int)) × Int × List (Int × Int × Bool × Int × Int × Int × Int)} {w : World} (h : busK.rd arr.toList x w) : arr.all (·.oneCell') = true := by
  obtain ⟨⟨x00, x01, x02, x03, x04, x05⟩, x1, x2, ⟨x30, x31⟩, x4, x5, x6, x7, x8, ⟨x90, x91, x92, x93, x94, x95, x96, x97⟩, ⟨x100, x101, x102, x103, x104, x105, x106, x107⟩, ⟨x110, ⟨x1110, x1111, x1112⟩⟩, x12, x13⟩ := x
  obtain ⟨ax00, px00, ax2, px2, ax4, px4, ax5, px5, ax110, px110, ax1110, px1110, ax1112, px1112, ax13, px13, e, _, _, _, _, _, _, _, _⟩ := bus_form h
  have e2 := congrArg List.toArray e
  rw [Array.toArray_toList] at e2
  rw [e2, List.all_toArray]
  rfl
set_option maxHeartbeats 40000000 in
set_option maxRecDepth 100000 in
theorem szBus : SzC busK agg 14 := by
  intro cs x L w hr h0 h1
  obtain ⟨⟨x00, x01, x02, x03, x04, x05⟩, x1, x2, ⟨x30, x31⟩, x4, x5, x6, x7, x8, ⟨x90, x91, x92, x93, x94, x95, x96, x97⟩, ⟨x100, x101, x102, x103, x104, x105, x106, x107⟩, ⟨x110, ⟨x1110, x1111, x1112⟩⟩, x12, x13⟩ := x
  rw [bus_sz]
  obtain ⟨ax00, px00, ax2, px2, ax4, px4, ax5, px5, ax110, px110, ax1110, px1110, ax1112, px1112, ax13, px13, rfl, rx00, rx2, rx4, rx5, rx110, rx1110, rx1112, rx13⟩ := bus_form hr
  have Rx00 := Lib.hid rx00
  have Rx2 := Lib.hid rx2
  have Rx4 := Lib.hid rx4
  have Rx5 := Lib.hid rx5
  have Rx110 := Lib.hid rx110
  have Rx1110 := Lib.hid rx1110
  have Rx1112 := Lib.hid rx1112
  have Rx13 := Lib.hid rx13
  clear hr rx00 rx2 rx4 rx5 rx110 rx1110 rx1112 rx13
  obtain ⟨n0, hn0⟩ : ∃ n, confK.sz (x00, x01, x02, x03, x04, x05) = n := ⟨_, rfl⟩
  obtain ⟨n2, hn2⟩ : ∃ n, mstS.sz x2 = n := ⟨_, rfl⟩
  obtain ⟨n4, hn4⟩ : ∃ n, bucketS.sz x4 = n := ⟨_, rfl⟩
  obtain ⟨n5, hn5⟩ : ∃ n, ints.sz x5 = n := ⟨_, rfl⟩
  obtain ⟨n11, hn11⟩ : ∃ n, modelK.sz (x110, (x1110, x1111, x1112)) = n := ⟨_, rfl⟩
  obtain ⟨n13, hn13⟩ : ∃ n, doneS.sz x13 = n := ⟨_, rfl⟩
  rw [hn0, hn2, hn4, hn5, hn11, hn13]
  obtain ⟨arr, harr⟩ : ∃ a : Array Value, #[.slice ax00 x00.length px00, .int .i64 x01, .int .i64 x02, .int .i64 x03, .int .i64 x04, .int .i64 x05, .int .i64 x1, .slice ax2 x2.length px2, .int .i64 x30, .int .i64 x31, .slice ax4 x4.length px4, .slice ax5 x5.length px5, .int .i64 x6, .int .i64 x7, .int .i64 x8, .bool x90, .int .i64 x91, .int .i64 x92, .bool x93, .int .i64 x94, .int .i64 x95, .int .i64 x96, .bool x97, .bool x100, .int .i64 x101, .int .i64 x102, .bool x103, .int .i64 x104, .int .i64 x105, .int .i64 x106, .bool x107, .slice ax110 x110.length px110, .slice ax1110 x1110.length px1110, .int .i64 x1111, .slice ax1112 x1112.length px1112, .int .i64 x12, .slice ax13 x13.length px13] = a := ⟨_, rfl⟩
  obtain ⟨y0, hy0⟩ : ∃ y, w.alloc (Obj.cells arr 60) = y := ⟨_, rfl⟩
  have B0 : Hid (Bx 60 w.heap.size #[.slice ax00 x00.length px00, .int .i64 x01, .int .i64 x02, .int .i64 x03, .int .i64 x04, .int .i64 x05, .int .i64 x1, .slice ax2 x2.length px2, .int .i64 x30, .int .i64 x31, .slice ax4 x4.length px4, .slice ax5 x5.length px5, .int .i64 x6, .int .i64 x7, .int .i64 x8, .bool x90, .int .i64 x91, .int .i64 x92, .bool x93, .int .i64 x94, .int .i64 x95, .int .i64 x96, .bool x97, .bool x100, .int .i64 x101, .int .i64 x102, .bool x103, .int .i64 x104, .int .i64 x105, .int .i64 x106, .bool x107, .slice ax110 x110.length px110, .slice ax1110 x1110.length px1110, .int .i64 x1111, .slice ax1112 x1112.length px1112, .int .i64 x12, .slice ax13 x13.length px13] y0) := Lib.hid (by rw [← hy0, ← harr]; exact Bx.new 60 #[.slice ax00 x00.length px00, .int .i64 x01, .int .i64 x02, .int .i64 x03, .int .i64 x04, .int .i64 x05, .int .i64 x1, .slice ax2 x2.length px2, .int .i64 x30, .int .i64 x31, .slice ax4 x4.length px4, .slice ax5 x5.length px5, .int .i64 x6, .int .i64 x7, .int .i64 x8, .bool x90, .int .i64 x91, .int .i64 x92, .bool x93, .int .i64 x94, .int .i64 x95, .int .i64 x96, .bool x97, .bool x100, .int .i64 x101, .int .i64 x102, .bool x103, .int .i64 x104, .int .i64 x105, .int .i64 x106, .bool x107, .slice ax110 x110.length px110, .slice ax1110 x1110.length px1110, .int .i64 x1111, .slice ax1112 x1112.length px1112, .int .i64 x12, .slice ax13 x13.length px13] w)
  have HB0 : Hid (Below w.heap.size w y0) := Lib.hid (by rw [← hy0]; exact (Below.refl w.heap.size w).alloc (Nat.le_refl _) _)
  unfold agg
  rw [harr]
  clear harr
  obtain ⟨M0, hM0⟩ : ∃ M, szW L n0 = M := ⟨_, rfl⟩
  have hb0 := szW_bd L n0 (by omega)
  rw [hM0] at hb0
  have ht0 := hM0
  have HM0 : Hid (szW L (confK.sz (x00, x01, x02, x03, x04, x05)) = M0) := Lib.hid (by rw [hn0]; exact hM0)
  by_cases c0 : M0 < 0
  · have He : Hid (szW L (n0 + n2 + n4 + n5 + n11 + n13) = -1) := Lib.hid (by rw [show n0 + n2 + n4 + n5 + n11 + n13 = n0 + (n2 + n4 + n5 + n11 + n13) from by omega]; exact szW_neg (by rw [ht0]; exact c0))
    obtain rfl : M0 = -1 := by omega
    clear hM0 ht0 hn0 hn2 hn4 hn5 hn11 hn13
    have g0 := B0.out.cell 0 _ rfl
    have g1 := B0.out.cell 1 _ rfl
    have g2 := B0.out.cell 2 _ rfl
    have g3 := B0.out.cell 3 _ rfl
    have g4 := B0.out.cell 4 _ rfl
    have g5 := B0.out.cell 5 _ rfl
    go_enter Try.func14, Try.ntmps14
    go_wp2_with fail
    clear hy0 g0 g1 g2 g3 g4 g5
    refine (szConf [.slice ax00 x00.length px00, .int .i64 x01, .int .i64 x02, .int .i64 x03, .int .i64 x04, .int .i64 x05] (x00, x01, x02, x03, x04, x05) L _ (conf_rd (mConfS.rd_later Rx00.out HB0.out)) (by omega) (by omega)).mono ?_
    rintro e y1 ⟨rfl, hb⟩
    rw [HM0.out]
    have B1 := Lib.hid (B0.out.later hb)
    have HB1 := Lib.hid (HB0.out.trans (hb.mono HB0.out.size))
    have g7 := B1.out.cell 7 _ rfl
    clear hb
    go_wp2
    go_ret
    exact ⟨by rw [He.out]; rfl, HB1.out⟩
  · skip
    obtain ⟨M1, hM1⟩ : ∃ M, szW M0 n2 = M := ⟨_, rfl⟩
    have hb1 := szW_bd M0 n2 (by omega)
    rw [hM1] at hb1
    have ht1 : szW L (n0 + n2) = M1 := by rw [← hM1, szW_pos ht0 (by omega)]
    have HM1 : Hid (szW M0 (mstS.sz x2) = M1) := Lib.hid (by rw [hn2]; exact hM1)
    by_cases c1 : M1 < 0
    · have He : Hid (szW L (n0 + n2 + n4 + n5 + n11 + n13) = -1) := Lib.hid (by rw [show n0 + n2 + n4 + n5 + n11 + n13 = n0 + n2 + (n4 + n5 + n11 + n13) from by omega]; exact szW_neg (by rw [ht1]; exact c1))
      obtain rfl : M1 = -1 := by omega
      clear hM0 hM1 ht0 ht1 hn0 hn2 hn4 hn5 hn11 hn13
      have g0 := B0.out.cell 0 _ rfl
      have g1 := B0.out.cell 1 _ rfl
      have g2 := B0.out.cell 2 _ rfl
      have g3 := B0.out.cell 3 _ rfl
      have g4 := B0.out.cell 4 _ rfl
      have g5 := B0.out.cell 5 _ rfl
      go_enter Try.func14, Try.ntmps14
      go_wp2_with fail
      clear hy0 g0 g1 g2 g3 g4 g5
      refine (szConf [.slice ax00 x00.length px00, .int .i64 x01, .int .i64 x02, .int .i64 x03, .int .i64 x04, .int .i64 x05] (x00, x01, x02, x03, x04, x05) L _ (conf_rd (mConfS.rd_later Rx00.out HB0.out)) (by omega) (by omega)).mono ?_
      rintro e y1 ⟨rfl, hb⟩
      rw [HM0.out]
      have B1 := Lib.hid (B0.out.later hb)
      have HB1 := Lib.hid (HB0.out.trans (hb.mono HB0.out.size))
      have g7 := B1.out.cell 7 _ rfl
      clear hb
      go_wp2_with fail
      refine (szMstS [.slice ax2 x2.length px2] x2 M0 _ (mstS.rd_later Rx2.out HB1.out) (by omega) (by omega)).mono ?_
      rintro e y2 ⟨rfl, hb⟩
      rw [HM1.out]
      have B2 := Lib.hid (B1.out.later hb)
      have HB2 := Lib.hid (HB1.out.trans (hb.mono HB1.out.size))
      clear g7
      have g10 := B2.out.cell 10 _ rfl
      clear hb
      go_wp2
      go_ret
      exact ⟨by rw [He.out]; rfl, HB2.out⟩
    · skip
      obtain ⟨M2, hM2⟩ : ∃ M, szW M1 n4 = M := ⟨_, rfl⟩
      have hb2 := szW_bd M1 n4 (by omega)
      rw [hM2] at hb2
      have ht2 : szW L (n0 + n2 + n4) = M2 := by rw [← hM2, szW_pos ht1 (by omega)]
      have HM2 : Hid (szW M1 (bucketS.sz x4) = M2) := Lib.hid (by rw [hn4]; exact hM2)
      by_cases c2 : M2 < 0
      · have He : Hid (szW L (n0 + n2 + n4 + n5 + n11 + n13) = -1) := Lib.hid (by rw [show n0 + n2 + n4 + n5 + n11 + n13 = n0 + n2 + n4 + (n5 + n11 + n13) from by omega]; exact szW_neg (by rw [ht2]; exact c2))
        obtain rfl : M2 = -1 := by omega
        clear hM0 hM1 hM2 ht0 ht1 ht2 hn0 hn2 hn4 hn5 hn11 hn13
        have g0 := B0.out.cell 0 _ rfl
        have g1 := B0.out.cell 1 _ rfl
        have g2 := B0.out.cell 2 _ rfl
        have g3 := B0.out.cell 3 _ rfl
        have g4 := B0.out.cell 4 _ rfl
        have g5 := B0.out.cell 5 _ rfl
        go_enter Try.func14, Try.ntmps14
        go_wp2_with fail
        clear hy0 g0 g1 g2 g3 g4 g5
        refine (szConf [.slice ax00 x00.length px00, .int .i64 x01, .int .i64 x02, .int .i64 x03, .int .i64 x04, .int .i64 x05] (x00, x01, x02, x03, x04, x05) L _ (conf_rd (mConfS.rd_later Rx00.out HB0.out)) (by omega) (by omega)).mono ?_
        rintro e y1 ⟨rfl, hb⟩
        rw [HM0.out]
        have B1 := Lib.hid (B0.out.later hb)
        have HB1 := Lib.hid (HB0.out.trans (hb.mono HB0.out.size))
        have g7 := B1.out.cell 7 _ rfl
        clear hb
        go_wp2_with fail
        refine (szMstS [.slice ax2 x2.length px2] x2 M0 _ (mstS.rd_later Rx2.out HB1.out) (by omega) (by omega)).mono ?_
        rintro e y2 ⟨rfl, hb⟩
        rw [HM1.out]
        have B2 := Lib.hid (B1.out.later hb)
        have HB2 := Lib.hid (HB1.out.trans (hb.mono HB1.out.size))
        clear g7
        have g10 := B2.out.cell 10 _ rfl
        clear hb
        go_wp2_with fail
        refine (szBucketS [.slice ax4 x4.length px4] x4 M1 _ (bucketS.rd_later Rx4.out HB2.out) (by omega) (by omega)).mono ?_
        rintro e y3 ⟨rfl, hb⟩
        rw [HM2.out]
        have B3 := Lib.hid (B2.out.later hb)
        have HB3 := Lib.hid (HB2.out.trans (hb.mono HB2.out.size))
        clear g10
        have g11 := B3.out.cell 11 _ rfl
        clear hb
        go_wp2
        go_ret
        exact ⟨by rw [He.out]; rfl, HB3.out⟩
      · skip
        obtain ⟨M3, hM3⟩ : ∃ M, szW M2 n5 = M := ⟨_, rfl⟩
        have hb3 := szW_bd M2 n5 (by omega)
        rw [hM3] at hb3
        have ht3 : szW L (n0 + n2 + n4 + n5) = M3 := by rw [← hM3, szW_pos ht2 (by omega)]
        have HM3 : Hid (szW M2 (ints.sz x5) = M3) := Lib.hid (by rw [hn5]; exact hM3)
        by_cases c3 : M3 < 0
        · have He : Hid (szW L (n0 + n2 + n4 + n5 + n11 + n13) = -1) := Lib.hid (by rw [show n0 + n2 + n4 + n5 + n11 + n13 = n0 + n2 + n4 + n5 + (n11 + n13) from by omega]; exact szW_neg (by rw [ht3]; exact c3))
          obtain rfl : M3 = -1 := by omega
          clear hM0 hM1 hM2 hM3 ht0 ht1 ht2 ht3 hn0 hn2 hn4 hn5 hn11 hn13
          have g0 := B0.out.cell 0 _ rfl
          have g1 := B0.out.cell 1 _ rfl
          have g2 := B0.out.cell 2 _ rfl
          have g3 := B0.out.cell 3 _ rfl
          have g4 := B0.out.cell 4 _ rfl
          have g5 := B0.out.cell 5 _ rfl
          go_enter Try.func14, Try.ntmps14
          go_wp2_with fail
          clear hy0 g0 g1 g2 g3 g4 g5
          refine (szConf [.slice ax00 x00.length px00, .int .i64 x01, .int .i64 x02, .int .i64 x03, .int .i64 x04, .int .i64 x05] (x00, x01, x02, x03, x04, x05) L _ (conf_rd (mConfS.rd_later Rx00.out HB0.out)) (by omega) (by omega)).mono ?_
          rintro e y1 ⟨rfl, hb⟩
          rw [HM0.out]
          have B1 := Lib.hid (B0.out.later hb)
          have HB1 := Lib.hid (HB0.out.trans (hb.mono HB0.out.size))
          have g7 := B1.out.cell 7 _ rfl
          clear hb
          go_wp2_with fail
          refine (szMstS [.slice ax2 x2.length px2] x2 M0 _ (mstS.rd_later Rx2.out HB1.out) (by omega) (by omega)).mono ?_
          rintro e y2 ⟨rfl, hb⟩
          rw [HM1.out]
          have B2 := Lib.hid (B1.out.later hb)
          have HB2 := Lib.hid (HB1.out.trans (hb.mono HB1.out.size))
          clear g7
          have g10 := B2.out.cell 10 _ rfl
          clear hb
          go_wp2_with fail
          refine (szBucketS [.slice ax4 x4.length px4] x4 M1 _ (bucketS.rd_later Rx4.out HB2.out) (by omega) (by omega)).mono ?_
          rintro e y3 ⟨rfl, hb⟩
          rw [HM2.out]
          have B3 := Lib.hid (B2.out.later hb)
          have HB3 := Lib.hid (HB2.out.trans (hb.mono HB2.out.size))
          clear g10
          have g11 := B3.out.cell 11 _ rfl
          clear hb
          go_wp2_with fail
          refine (szIntS [.slice ax5 x5.length px5] x5 M2 _ (ints.rd_later Rx5.out HB3.out) (by omega) (by omega)).mono ?_
          rintro e y4 ⟨rfl, hb⟩
          rw [HM3.out]
          have B4 := Lib.hid (B3.out.later hb)
          have HB4 := Lib.hid (HB3.out.trans (hb.mono HB3.out.size))
          clear g11
          have g31 := B4.out.cell 31 _ rfl
          have g32 := B4.out.cell 32 _ rfl
          have g33 := B4.out.cell 33 _ rfl
          have g34 := B4.out.cell 34 _ rfl
          clear hb
          go_wp2
          go_ret
          exact ⟨by rw [He.out]; rfl, HB4.out⟩
        · skip
          obtain ⟨M4, hM4⟩ : ∃ M, szW M3 n11 = M := ⟨_, rfl⟩
          have hb4 := szW_bd M3 n11 (by omega)
          rw [hM4] at hb4
          have ht4 : szW L (n0 + n2 + n4 + n5 + n11) = M4 := by rw [← hM4, szW_pos ht3 (by omega)]
          have HM4 : Hid (szW M3 (modelK.sz (x110, (x1110, x1111, x1112))) = M4) := Lib.hid (by rw [hn11]; exact hM4)
          by_cases c4 : M4 < 0
          · have He : Hid (szW L (n0 + n2 + n4 + n5 + n11 + n13) = -1) := Lib.hid (szW_neg (by rw [ht4]; exact c4))
            obtain rfl : M4 = -1 := by omega
            clear hM0 hM1 hM2 hM3 hM4 ht0 ht1 ht2 ht3 ht4 hn0 hn2 hn4 hn5 hn11 hn13
            have g0 := B0.out.cell 0 _ rfl
            have g1 := B0.out.cell 1 _ rfl
            have g2 := B0.out.cell 2 _ rfl
            have g3 := B0.out.cell 3 _ rfl
            have g4 := B0.out.cell 4 _ rfl
            have g5 := B0.out.cell 5 _ rfl
            go_enter Try.func14, Try.ntmps14
            go_wp2_with fail
            clear hy0 g0 g1 g2 g3 g4 g5
            refine (szConf [.slice ax00 x00.length px00, .int .i64 x01, .int .i64 x02, .int .i64 x03, .int .i64 x04, .int .i64 x05] (x00, x01, x02, x03, x04, x05) L _ (conf_rd (mConfS.rd_later Rx00.out HB0.out)) (by omega) (by omega)).mono ?_
            rintro e y1 ⟨rfl, hb⟩
            rw [HM0.out]
            have B1 := Lib.hid (B0.out.later hb)
            have HB1 := Lib.hid (HB0.out.trans (hb.mono HB0.out.size))
            have g7 := B1.out.cell 7 _ rfl
            clear hb
            go_wp2_with fail
            refine (szMstS [.slice ax2 x2.length px2] x2 M0 _ (mstS.rd_later Rx2.out HB1.out) (by omega) (by omega)).mono ?_
            rintro e y2 ⟨rfl, hb⟩
            rw [HM1.out]
            have B2 := Lib.hid (B1.out.later hb)
            have HB2 := Lib.hid (HB1.out.trans (hb.mono HB1.out.size))
            clear g7
            have g10 := B2.out.cell 10 _ rfl
            clear hb
            go_wp2_with fail
            refine (szBucketS [.slice ax4 x4.length px4] x4 M1 _ (bucketS.rd_later Rx4.out HB2.out) (by omega) (by omega)).mono ?_
            rintro e y3 ⟨rfl, hb⟩
            rw [HM2.out]
            have B3 := Lib.hid (B2.out.later hb)
            have HB3 := Lib.hid (HB2.out.trans (hb.mono HB2.out.size))
            clear g10
            have g11 := B3.out.cell 11 _ rfl
            clear hb
            go_wp2_with fail
            refine (szIntS [.slice ax5 x5.length px5] x5 M2 _ (ints.rd_later Rx5.out HB3.out) (by omega) (by omega)).mono ?_
            rintro e y4 ⟨rfl, hb⟩
            rw [HM3.out]
            have B4 := Lib.hid (B3.out.later hb)
            have HB4 := Lib.hid (HB3.out.trans (hb.mono HB3.out.size))
            clear g11
            have g31 := B4.out.cell 31 _ rfl
            have g32 := B4.out.cell 32 _ rfl
            have g33 := B4.out.cell 33 _ rfl
            have g34 := B4.out.cell 34 _ rfl
            clear hb
            go_wp2_with fail
            refine (szModel [.slice ax110 x110.length px110, .slice ax1110 x1110.length px1110, .int .i64 x1111, .slice ax1112 x1112.length px1112] (x110, (x1110, x1111, x1112)) M3 _ (model_rd (ints.rd_later Rx110.out HB4.out) (ints.rd_later Rx1110.out HB4.out) (ints.rd_later Rx1112.out HB4.out)) (by omega) (by omega)).mono ?_
            rintro e y5 ⟨rfl, hb⟩
            rw [HM4.out]
            have B5 := Lib.hid (B4.out.later hb)
            have HB5 := Lib.hid (HB4.out.trans (hb.mono HB4.out.size))
            clear g31 g32 g33 g34
            have g36 := B5.out.cell 36 _ rfl
            clear hb
            go_wp2
            go_ret
            exact ⟨by rw [He.out]; rfl, HB5.out⟩
          · skip
            obtain ⟨M5, hM5⟩ : ∃ M, szW M4 n13 = M := ⟨_, rfl⟩
            have hb5 := szW_bd M4 n13 (by omega)
            rw [hM5] at hb5
            have ht5 : szW L (n0 + n2 + n4 + n5 + n11 + n13) = M5 := by rw [← hM5, szW_pos ht4 (by omega)]
            have HM5 : Hid (szW M4 (doneS.sz x13) = M5) := Lib.hid (by rw [hn13]; exact hM5)
            have He := Lib.hid ht5
            clear hM0 hM1 hM2 hM3 hM4 hM5 ht0 ht1 ht2 ht3 ht4 ht5 hn0 hn2 hn4 hn5 hn11 hn13
            by_cases c5 : M5 < 0
            · obtain rfl : M5 = -1 := by omega
              have g0 := B0.out.cell 0 _ rfl
              have g1 := B0.out.cell 1 _ rfl
              have g2 := B0.out.cell 2 _ rfl
              have g3 := B0.out.cell 3 _ rfl
              have g4 := B0.out.cell 4 _ rfl
              have g5 := B0.out.cell 5 _ rfl
              go_enter Try.func14, Try.ntmps14
              go_wp2_with fail
              clear hy0 g0 g1 g2 g3 g4 g5
              refine (szConf [.slice ax00 x00.length px00, .int .i64 x01, .int .i64 x02, .int .i64 x03, .int .i64 x04, .int .i64 x05] (x00, x01, x02, x03, x04, x05) L _ (conf_rd (mConfS.rd_later Rx00.out HB0.out)) (by omega) (by omega)).mono ?_
              rintro e y1 ⟨rfl, hb⟩
              rw [HM0.out]
              have B1 := Lib.hid (B0.out.later hb)
              have HB1 := Lib.hid (HB0.out.trans (hb.mono HB0.out.size))
              have g7 := B1.out.cell 7 _ rfl
              clear hb
              go_wp2_with fail
              refine (szMstS [.slice ax2 x2.length px2] x2 M0 _ (mstS.rd_later Rx2.out HB1.out) (by omega) (by omega)).mono ?_
              rintro e y2 ⟨rfl, hb⟩
              rw [HM1.out]
              have B2 := Lib.hid (B1.out.later hb)
              have HB2 := Lib.hid (HB1.out.trans (hb.mono HB1.out.size))
              clear g7
              have g10 := B2.out.cell 10 _ rfl
              clear hb
              go_wp2_with fail
              refine (szBucketS [.slice ax4 x4.length px4] x4 M1 _ (bucketS.rd_later Rx4.out HB2.out) (by omega) (by omega)).mono ?_
              rintro e y3 ⟨rfl, hb⟩
              rw [HM2.out]
              have B3 := Lib.hid (B2.out.later hb)
              have HB3 := Lib.hid (HB2.out.trans (hb.mono HB2.out.size))
              clear g10
              have g11 := B3.out.cell 11 _ rfl
              clear hb
              go_wp2_with fail
              refine (szIntS [.slice ax5 x5.length px5] x5 M2 _ (ints.rd_later Rx5.out HB3.out) (by omega) (by omega)).mono ?_
              rintro e y4 ⟨rfl, hb⟩
              rw [HM3.out]
              have B4 := Lib.hid (B3.out.later hb)
              have HB4 := Lib.hid (HB3.out.trans (hb.mono HB3.out.size))
              clear g11
              have g31 := B4.out.cell 31 _ rfl
              have g32 := B4.out.cell 32 _ rfl
              have g33 := B4.out.cell 33 _ rfl
              have g34 := B4.out.cell 34 _ rfl
              clear hb
              go_wp2_with fail
              refine (szModel [.slice ax110 x110.length px110, .slice ax1110 x1110.length px1110, .int .i64 x1111, .slice ax1112 x1112.length px1112] (x110, (x1110, x1111, x1112)) M3 _ (model_rd (ints.rd_later Rx110.out HB4.out) (ints.rd_later Rx1110.out HB4.out) (ints.rd_later Rx1112.out HB4.out)) (by omega) (by omega)).mono ?_
              rintro e y5 ⟨rfl, hb⟩
              rw [HM4.out]
              have B5 := Lib.hid (B4.out.later hb)
              have HB5 := Lib.hid (HB4.out.trans (hb.mono HB4.out.size))
              clear g31 g32 g33 g34
              have g36 := B5.out.cell 36 _ rfl
              clear hb
              go_wp2_with fail
              refine (szDoneS [.slice ax13 x13.length px13] x13 M4 _ (doneS.rd_later Rx13.out HB5.out) (by omega) (by omega)).mono ?_
              rintro e y6 ⟨rfl, hb⟩
              rw [HM5.out]
              have B6 := Lib.hid (B5.out.later hb)
              have HB6 := Lib.hid (HB5.out.trans (hb.mono HB5.out.size))
              clear g36
              clear hb
              go_wp2
              go_ret
              exact ⟨by rw [He.out]; rfl, HB6.out⟩
            · skip
              have g0 := B0.out.cell 0 _ rfl
              have g1 := B0.out.cell 1 _ rfl
              have g2 := B0.out.cell 2 _ rfl
              have g3 := B0.out.cell 3 _ rfl
              have g4 := B0.out.cell 4 _ rfl
              have g5 := B0.out.cell 5 _ rfl
              go_enter Try.func14, Try.ntmps14
              go_wp2_with fail
              clear hy0 g0 g1 g2 g3 g4 g5
              refine (szConf [.slice ax00 x00.length px00, .int .i64 x01, .int .i64 x02, .int .i64 x03, .int .i64 x04, .int .i64 x05] (x00, x01, x02, x03, x04, x05) L _ (conf_rd (mConfS.rd_later Rx00.out HB0.out)) (by omega) (by omega)).mono ?_
              rintro e y1 ⟨rfl, hb⟩
              rw [HM0.out]
              have B1 := Lib.hid (B0.out.later hb)
              have HB1 := Lib.hid (HB0.out.trans (hb.mono HB0.out.size))
              have g7 := B1.out.cell 7 _ rfl
              clear hb
              go_wp2_with fail
              refine (szMstS [.slice ax2 x2.length px2] x2 M0 _ (mstS.rd_later Rx2.out HB1.out) (by omega) (by omega)).mono ?_
              rintro e y2 ⟨rfl, hb⟩
              rw [HM1.out]
              have B2 := Lib.hid (B1.out.later hb)
              have HB2 := Lib.hid (HB1.out.trans (hb.mono HB1.out.size))
              clear g7
              have g10 := B2.out.cell 10 _ rfl
              clear hb
              go_wp2_with fail
              refine (szBucketS [.slice ax4 x4.length px4] x4 M1 _ (bucketS.rd_later Rx4.out HB2.out) (by omega) (by omega)).mono ?_
              rintro e y3 ⟨rfl, hb⟩
              rw [HM2.out]
              have B3 := Lib.hid (B2.out.later hb)
              have HB3 := Lib.hid (HB2.out.trans (hb.mono HB2.out.size))
              clear g10
              have g11 := B3.out.cell 11 _ rfl
              clear hb
              go_wp2_with fail
              refine (szIntS [.slice ax5 x5.length px5] x5 M2 _ (ints.rd_later Rx5.out HB3.out) (by omega) (by omega)).mono ?_
              rintro e y4 ⟨rfl, hb⟩
              rw [HM3.out]
              have B4 := Lib.hid (B3.out.later hb)
              have HB4 := Lib.hid (HB3.out.trans (hb.mono HB3.out.size))
              clear g11
              have g31 := B4.out.cell 31 _ rfl
              have g32 := B4.out.cell 32 _ rfl
              have g33 := B4.out.cell 33 _ rfl
              have g34 := B4.out.cell 34 _ rfl
              clear hb
              go_wp2_with fail
              refine (szModel [.slice ax110 x110.length px110, .slice ax1110 x1110.length px1110, .int .i64 x1111, .slice ax1112 x1112.length px1112] (x110, (x1110, x1111, x1112)) M3 _ (model_rd (ints.rd_later Rx110.out HB4.out) (ints.rd_later Rx1110.out HB4.out) (ints.rd_later Rx1112.out HB4.out)) (by omega) (by omega)).mono ?_
              rintro e y5 ⟨rfl, hb⟩
              rw [HM4.out]
              have B5 := Lib.hid (B4.out.later hb)
              have HB5 := Lib.hid (HB4.out.trans (hb.mono HB4.out.size))
              clear g31 g32 g33 g34
              have g36 := B5.out.cell 36 _ rfl
              clear hb
              go_wp2_with fail
              refine (szDoneS [.slice ax13 x13.length px13] x13 M4 _ (doneS.rd_later Rx13.out HB5.out) (by omega) (by omega)).mono ?_
              rintro e y6 ⟨rfl, hb⟩
              rw [HM5.out]
              have B6 := Lib.hid (B5.out.later hb)
              have HB6 := Lib.hid (HB5.out.trans (hb.mono HB5.out.size))
              clear g36
              clear hb
              go_wp2
              go_ret
              exact ⟨by rw [He.out]; rfl, HB6.out⟩
set_option maxHeartbeats 8000000 in
set_option maxHeartbeats 40000000 in
set_option maxRecDepth 100000 in
theorem toBus : ToC busK agg 16 := by
  intro cs x w hs hr
  obtain ⟨⟨x00, x01, x02, x03, x04, x05⟩, x1, x2, ⟨x30, x31⟩, x4, x5, x6, x7, x8, ⟨x90, x91, x92, x93, x94, x95, x96, x97⟩, ⟨x100, x101, x102, x103, x104, x105, x106, x107⟩, ⟨x110, ⟨x1110, x1111, x1112⟩⟩, x12, x13⟩ := x
  rw [bus_sz] at hs
  obtain ⟨ax00, px00, ax2, px2, ax4, px4, ax5, px5, ax110, px110, ax1110, px1110, ax1112, px1112, ax13, px13, rfl, rx00, rx2, rx4, rx5, rx110, rx1110, rx1112, rx13⟩ := bus_form hr
  have Rx00 := Lib.hid rx00
  have Rx2 := Lib.hid rx2
  have Rx4 := Lib.hid rx4
  have Rx5 := Lib.hid rx5
  have Rx110 := Lib.hid rx110
  have Rx1110 := Lib.hid rx1110
  have Rx1112 := Lib.hid rx1112
  have Rx13 := Lib.hid rx13
  clear hr rx00 rx2 rx4 rx5 rx110 rx1110 rx1112 rx13
  obtain ⟨arr, harr⟩ : ∃ a : Array Value, #[.slice ax00 x00.length px00, .int .i64 x01, .int .i64 x02, .int .i64 x03, .int .i64 x04, .int .i64 x05, .int .i64 x1, .slice ax2 x2.length px2, .int .i64 x30, .int .i64 x31, .slice ax4 x4.length px4, .slice ax5 x5.length px5, .int .i64 x6, .int .i64 x7, .int .i64 x8, .bool x90, .int .i64 x91, .int .i64 x92, .bool x93, .int .i64 x94, .int .i64 x95, .int .i64 x96, .bool x97, .bool x100, .int .i64 x101, .int .i64 x102, .bool x103, .int .i64 x104, .int .i64 x105, .int .i64 x106, .bool x107, .slice ax110 x110.length px110, .slice ax1110 x1110.length px1110, .int .i64 x1111, .slice ax1112 x1112.length px1112, .int .i64 x12, .slice ax13 x13.length px13] = a := ⟨_, rfl⟩
  have hsz : ∀ (w : World) o, (w.alloc o).heap.size = w.heap.size + 1 := fun w o => by simp
  have A1 : Bx 60 w.heap.size #[.slice ax00 x00.length px00, .int .i64 x01, .int .i64 x02, .int .i64 x03, .int .i64 x04, .int .i64 x05, .int .i64 x1, .slice ax2 x2.length px2, .int .i64 x30, .int .i64 x31, .slice ax4 x4.length px4, .slice ax5 x5.length px5, .int .i64 x6, .int .i64 x7, .int .i64 x8, .bool x90, .int .i64 x91, .int .i64 x92, .bool x93, .int .i64 x94, .int .i64 x95, .int .i64 x96, .bool x97, .bool x100, .int .i64 x101, .int .i64 x102, .bool x103, .int .i64 x104, .int .i64 x105, .int .i64 x106, .bool x107, .slice ax110 x110.length px110, .slice ax1110 x1110.length px1110, .int .i64 x1111, .slice ax1112 x1112.length px1112, .int .i64 x12, .slice ax13 x13.length px13] (((w.alloc (Obj.cells arr 60)).alloc (Obj.cells #[.slice none 0 0, .int .i64 0, .int .i64 0, .int .i64 0, .int .i64 0, .int .i64 0, .int .i64 0, .slice none 0 0, .int .i64 0, .int .i64 0, .slice none 0 0, .slice none 0 0, .int .i64 0, .int .i64 0, .int .i64 0, .bool false, .int .i64 0, .int .i64 0, .bool false, .int .i64 0, .int .i64 0, .int .i64 0, .bool false, .bool false, .int .i64 0, .int .i64 0, .bool false, .int .i64 0, .int .i64 0, .int .i64 0, .bool false, .slice none 0 0, .slice none 0 0, .int .i64 0, .slice none 0 0, .int .i64 0, .slice none 0 0] 42)).alloc (Obj.cells #[.slice none 0 0, .int .i64 0, .int .i64 0, .int .i64 0, .int .i64 0, .int .i64 0, .int .i64 0, .slice none 0 0, .int .i64 0, .int .i64 0, .slice none 0 0, .slice none 0 0, .int .i64 0, .int .i64 0, .int .i64 0, .bool false, .int .i64 0, .int .i64 0, .bool false, .int .i64 0, .int .i64 0, .int .i64 0, .bool false, .bool false, .int .i64 0, .int .i64 0, .bool false, .int .i64 0, .int .i64 0, .int .i64 0, .bool false, .slice none 0 0, .slice none 0 0, .int .i64 0, .slice none 0 0, .int .i64 0, .slice none 0 0] 42)) := by rw [← harr]; exact ((Bx.new 60 _ w).alloc _).alloc _
  have A2 := (Bx.new 42 #[.slice none 0 0, .int .i64 0, .int .i64 0, .int .i64 0, .int .i64 0, .int .i64 0, .int .i64 0, .slice none 0 0, .int .i64 0, .int .i64 0, .slice none 0 0, .slice none 0 0, .int .i64 0, .int .i64 0, .int .i64 0, .bool false, .int .i64 0, .int .i64 0, .bool false, .int .i64 0, .int .i64 0, .int .i64 0, .bool false, .bool false, .int .i64 0, .int .i64 0, .bool false, .int .i64 0, .int .i64 0, .int .i64 0, .bool false, .slice none 0 0, .slice none 0 0, .int .i64 0, .slice none 0 0, .int .i64 0, .slice none 0 0] (w.alloc (Obj.cells arr 60))).alloc (Obj.cells #[.slice none 0 0, .int .i64 0, .int .i64 0, .int .i64 0, .int .i64 0, .int .i64 0, .int .i64 0, .slice none 0 0, .int .i64 0, .int .i64 0, .slice none 0 0, .slice none 0 0, .int .i64 0, .int .i64 0, .int .i64 0, .bool false, .int .i64 0, .int .i64 0, .bool false, .int .i64 0, .int .i64 0, .int .i64 0, .bool false, .bool false, .int .i64 0, .int .i64 0, .bool false, .int .i64 0, .int .i64 0, .int .i64 0, .bool false, .slice none 0 0, .slice none 0 0, .int .i64 0, .slice none 0 0, .int .i64 0, .slice none 0 0] 42)
  have A3 := Bx.new 42 #[.slice none 0 0, .int .i64 0, .int .i64 0, .int .i64 0, .int .i64 0, .int .i64 0, .int .i64 0, .slice none 0 0, .int .i64 0, .int .i64 0, .slice none 0 0, .slice none 0 0, .int .i64 0, .int .i64 0, .int .i64 0, .bool false, .int .i64 0, .int .i64 0, .bool false, .int .i64 0, .int .i64 0, .int .i64 0, .bool false, .bool false, .int .i64 0, .int .i64 0, .bool false, .int .i64 0, .int .i64 0, .int .i64 0, .bool false, .slice none 0 0, .slice none 0 0, .int .i64 0, .slice none 0 0, .int .i64 0, .slice none 0 0] ((w.alloc (Obj.cells arr 60)).alloc (Obj.cells #[.slice none 0 0, .int .i64 0, .int .i64 0, .int .i64 0, .int .i64 0, .int .i64 0, .int .i64 0, .slice none 0 0, .int .i64 0, .int .i64 0, .slice none 0 0, .slice none 0 0, .int .i64 0, .int .i64 0, .int .i64 0, .bool false, .int .i64 0, .int .i64 0, .bool false, .int .i64 0, .int .i64 0, .int .i64 0, .bool false, .bool false, .int .i64 0, .int .i64 0, .bool false, .int .i64 0, .int .i64 0, .int .i64 0, .bool false, .slice none 0 0, .slice none 0 0, .int .i64 0, .slice none 0 0, .int .i64 0, .slice none 0 0] 42))
  rw [hsz] at A2
  rw [hsz, hsz] at A3
  have HB0 := ((Below.refl w.heap.size w).alloc (Nat.le_refl _) (Obj.cells arr 60)).alloc (by simp) (Obj.cells #[.slice none 0 0, .int .i64 0, .int .i64 0, .int .i64 0, .int .i64 0, .int .i64 0, .int .i64 0, .slice none 0 0, .int .i64 0, .int .i64 0, .slice none 0 0, .slice none 0 0, .int .i64 0, .int .i64 0, .int .i64 0, .bool false, .int .i64 0, .int .i64 0, .bool false, .int .i64 0, .int .i64 0, .int .i64 0, .bool false, .bool false, .int .i64 0, .int .i64 0, .bool false, .int .i64 0, .int .i64 0, .int .i64 0, .bool false, .slice none 0 0, .slice none 0 0, .int .i64 0, .slice none 0 0, .int .i64 0, .slice none 0 0] 42)
  have HB1 := HB0.alloc (by simp; omega) (Obj.cells #[.slice none 0 0, .int .i64 0, .int .i64 0, .int .i64 0, .int .i64 0, .int .i64 0, .int .i64 0, .slice none 0 0, .int .i64 0, .int .i64 0, .slice none 0 0, .slice none 0 0, .int .i64 0, .int .i64 0, .int .i64 0, .bool false, .int .i64 0, .int .i64 0, .bool false, .int .i64 0, .int .i64 0, .int .i64 0, .bool false, .bool false, .int .i64 0, .int .i64 0, .bool false, .int .i64 0, .int .i64 0, .int .i64 0, .bool false, .slice none 0 0, .slice none 0 0, .int .i64 0, .slice none 0 0, .int .i64 0, .slice none 0 0] 42)
  have hn3 : w.heap.size + 1 + 1 + 1 ≤ (((w.alloc (Obj.cells arr 60)).alloc (Obj.cells #[.slice none 0 0, .int .i64 0, .int .i64 0, .int .i64 0, .int .i64 0, .int .i64 0, .int .i64 0, .slice none 0 0, .int .i64 0, .int .i64 0, .slice none 0 0, .slice none 0 0, .int .i64 0, .int .i64 0, .int .i64 0, .bool false, .int .i64 0, .int .i64 0, .bool false, .int .i64 0, .int .i64 0, .int .i64 0, .bool false, .bool false, .int .i64 0, .int .i64 0, .bool false, .int .i64 0, .int .i64 0, .int .i64 0, .bool false, .slice none 0 0, .slice none 0 0, .int .i64 0, .slice none 0 0, .int .i64 0, .slice none 0 0] 42)).alloc (Obj.cells #[.slice none 0 0, .int .i64 0, .int .i64 0, .int .i64 0, .int .i64 0, .int .i64 0, .int .i64 0, .slice none 0 0, .int .i64 0, .int .i64 0, .slice none 0 0, .slice none 0 0, .int .i64 0, .int .i64 0, .int .i64 0, .bool false, .int .i64 0, .int .i64 0, .bool false, .int .i64 0, .int .i64 0, .int .i64 0, .bool false, .bool false, .int .i64 0, .int .i64 0, .bool false, .int .i64 0, .int .i64 0, .int .i64 0, .bool false, .slice none 0 0, .slice none 0 0, .int .i64 0, .slice none 0 0, .int .i64 0, .slice none 0 0] 42)).heap.size := by rw [hsz, hsz, hsz]; exact Nat.le_refl _
  obtain ⟨y0, hy0⟩ : ∃ y, ((w.alloc (Obj.cells arr 60)).alloc (Obj.cells #[.slice none 0 0, .int .i64 0, .int .i64 0, .int .i64 0, .int .i64 0, .int .i64 0, .int .i64 0, .slice none 0 0, .int .i64 0, .int .i64 0, .slice none 0 0, .slice none 0 0, .int .i64 0, .int .i64 0, .int .i64 0, .bool false, .int .i64 0, .int .i64 0, .bool false, .int .i64 0, .int .i64 0, .int .i64 0, .bool false, .bool false, .int .i64 0, .int .i64 0, .bool false, .int .i64 0, .int .i64 0, .int .i64 0, .bool false, .slice none 0 0, .slice none 0 0, .int .i64 0, .slice none 0 0, .int .i64 0, .slice none 0 0] 42)).alloc (Obj.cells #[.slice none 0 0, .int .i64 0, .int .i64 0, .int .i64 0, .int .i64 0, .int .i64 0, .int .i64 0, .slice none 0 0, .int .i64 0, .int .i64 0, .slice none 0 0, .slice none 0 0, .int .i64 0, .int .i64 0, .int .i64 0, .bool false, .int .i64 0, .int .i64 0, .bool false, .int .i64 0, .int .i64 0, .int .i64 0, .bool false, .bool false, .int .i64 0, .int .i64 0, .bool false, .int .i64 0, .int .i64 0, .int .i64 0, .bool false, .slice none 0 0, .slice none 0 0, .int .i64 0, .slice none 0 0, .int .i64 0, .slice none 0 0] 42) = y := ⟨_, rfl⟩
  rw [hy0] at A1 A2 A3 HB1 hn3
  have X1_0 := Lib.hid A1
  have X2_0 := Lib.hid A2
  have X3_0 := Lib.hid A3
  have HB_0 := Lib.hid HB1
  have Hz0 := Lib.hid hn3
  clear A1 A2 A3 HB0 HB1 hn3 hsz
  have HAO : Hid (¬ w.heap.size = w.heap.size + 1 + 1) := Lib.hid (by omega)
  have HRO : Hid (¬ w.heap.size + 1 = w.heap.size + 1 + 1) := Lib.hid (by omega)
  have HLO : Hid (w.heap.size ≤ w.heap.size + 1 + 1) := Lib.hid (by omega)
  unfold agg
  rw [harr]
  clear harr
  have a0 := X1_0.out.cell 0 _ rfl
  have a1 := X1_0.out.cell 1 _ rfl
  have a2 := X1_0.out.cell 2 _ rfl
  have a3 := X1_0.out.cell 3 _ rfl
  have a4 := X1_0.out.cell 4 _ rfl
  have a5 := X1_0.out.cell 5 _ rfl
  go_enter Try.func16, Try.ntmps16
  go_wp2_with fail
  clear hy0 a0 a1 a2 a3 a4 a5
  refine (toConf [.slice ax00 x00.length px00, .int .i64 x01, .int .i64 x02, .int .i64 x03, .int .i64 x04, .int .i64 x05] (x00, x01, x02, x03, x04, x05) _ (by omega) (conf_rd (mConfS.rd_later Rx00.out HB_0.out))).mono ?_
  rintro e v1 ⟨us, he, hc, hb⟩
  obtain ⟨bx00, qx00, rfl, _⟩ := conf_form (confK.cap_rd hc)
  obtain rfl : e = .returned (.agg #[.slice bx00 x00.length qx00, .int .i64 x01, .int .i64 x02, .int .i64 x03, .int .i64 x04, .int .i64 x05]) := he
  have Vx0 := Lib.hid (confK.cap_wide (confK.cap_top hc) (G := fun k => y0.heap.size ≤ k ∧ k < v1.heap.size) (fun k _ hk => hk))
  have W1 := Lib.hid (X1_0.out.later hb)
  have W2 := Lib.hid (X2_0.out.later hb)
  have W3 := Lib.hid (X3_0.out.later hb)
  have WB := Lib.hid (HB_0.out.trans (hb.mono HB_0.out.size))
  have Wz := Lib.hid (Nat.le_trans Hz0.out hb.size)
  have Ws := Lib.hid hb.size
  have Wy0 := Lib.hid Hz0.out
  clear hc hb X1_0 X2_0 X3_0 HB_0
  have g0 := W3.out.cell 0 _ rfl
  have g1 := W3.out.cell 1 _ rfl
  have g2 := W3.out.cell 2 _ rfl
  have g3 := W3.out.cell 3 _ rfl
  have g4 := W3.out.cell 4 _ rfl
  have g5 := W3.out.cell 5 _ rfl
  have g6 := W3.out.cell 6 _ rfl
  have a6 := W1.out.cell 6 _ rfl
  have a7 := W1.out.cell 7 _ rfl
  have z0 := W3.out.warm 0
  have z1 := W3.out.warm 1
  have z2 := W3.out.warm 2
  have z3 := W3.out.warm 3
  have z4 := W3.out.warm 4
  have z5 := W3.out.warm 5
  have z6 := W3.out.warm 6
  have hTu : Turn (fun k => k = w.heap.size + 1 + 1) v1 ((((((((v1.setCell ⟨w.heap.size + 1 + 1, 0, none⟩ (.slice bx00 x00.length qx00)).setCell ⟨w.heap.size + 1 + 1, 1, none⟩ (.int .i64 x01)).setCell ⟨w.heap.size + 1 + 1, 2, none⟩ (.int .i64 x02)).setCell ⟨w.heap.size + 1 + 1, 3, none⟩ (.int .i64 x03)).setCell ⟨w.heap.size + 1 + 1, 4, none⟩ (.int .i64 x04)).setCell ⟨w.heap.size + 1 + 1, 5, none⟩ (.int .i64 x05)).setCell ⟨w.heap.size + 1 + 1, 6, none⟩ (.int .i64 x1))) := ((((((((Turn.refl (fun k => k = w.heap.size + 1 + 1) v1).set (p := ⟨w.heap.size + 1 + 1, 0, none⟩) rfl (.slice bx00 x00.length qx00)).set (p := ⟨w.heap.size + 1 + 1, 1, none⟩) rfl (.int .i64 x01)).set (p := ⟨w.heap.size + 1 + 1, 2, none⟩) rfl (.int .i64 x02)).set (p := ⟨w.heap.size + 1 + 1, 3, none⟩) rfl (.int .i64 x03)).set (p := ⟨w.heap.size + 1 + 1, 4, none⟩) rfl (.int .i64 x04)).set (p := ⟨w.heap.size + 1 + 1, 5, none⟩) rfl (.int .i64 x05)).set (p := ⟨w.heap.size + 1 + 1, 6, none⟩) rfl (.int .i64 x1))
  have X1_1 := Lib.hid (bx_turned W1.out hTu HAO.out)
  have X2_1 := Lib.hid (bx_turned W2.out hTu HRO.out)
  have Y0 : Hid (Bx 42 (w.heap.size + 1 + 1) #[.slice bx00 x00.length qx00, .int .i64 0, .int .i64 0, .int .i64 0, .int .i64 0, .int .i64 0, .int .i64 0, .slice none 0 0, .int .i64 0, .int .i64 0, .slice none 0 0, .slice none 0 0, .int .i64 0, .int .i64 0, .int .i64 0, .bool false, .int .i64 0, .int .i64 0, .bool false, .int .i64 0, .int .i64 0, .int .i64 0, .bool false, .bool false, .int .i64 0, .int .i64 0, .bool false, .int .i64 0, .int .i64 0, .int .i64 0, .bool false, .slice none 0 0, .slice none 0 0, .int .i64 0, .slice none 0 0, .int .i64 0, .slice none 0 0] ((v1.setCell ⟨w.heap.size + 1 + 1, 0, none⟩ (.slice bx00 x00.length qx00)))) := Lib.hid (W3.out.set 0 (.slice bx00 x00.length qx00))
  have Y1 : Hid (Bx 42 (w.heap.size + 1 + 1) #[.slice bx00 x00.length qx00, .int .i64 x01, .int .i64 0, .int .i64 0, .int .i64 0, .int .i64 0, .int .i64 0, .slice none 0 0, .int .i64 0, .int .i64 0, .slice none 0 0, .slice none 0 0, .int .i64 0, .int .i64 0, .int .i64 0, .bool false, .int .i64 0, .int .i64 0, .bool false, .int .i64 0, .int .i64 0, .int .i64 0, .bool false, .bool false, .int .i64 0, .int .i64 0, .bool false, .int .i64 0, .int .i64 0, .int .i64 0, .bool false, .slice none 0 0, .slice none 0 0, .int .i64 0, .slice none 0 0, .int .i64 0, .slice none 0 0] (((v1.setCell ⟨w.heap.size + 1 + 1, 0, none⟩ (.slice bx00 x00.length qx00)).setCell ⟨w.heap.size + 1 + 1, 1, none⟩ (.int .i64 x01)))) := Lib.hid (Y0.out.set 1 (.int .i64 x01))
  clear Y0
  have Y2 : Hid (Bx 42 (w.heap.size + 1 + 1) #[.slice bx00 x00.length qx00, .int .i64 x01, .int .i64 x02, .int .i64 0, .int .i64 0, .int .i64 0, .int .i64 0, .slice none 0 0, .int .i64 0, .int .i64 0, .slice none 0 0, .slice none 0 0, .int .i64 0, .int .i64 0, .int .i64 0, .bool false, .int .i64 0, .int .i64 0, .bool false, .int .i64 0, .int .i64 0, .int .i64 0, .bool false, .bool false, .int .i64 0, .int .i64 0, .bool false, .int .i64 0, .int .i64 0, .int .i64 0, .bool false, .slice none 0 0, .slice none 0 0, .int .i64 0, .slice none 0 0, .int .i64 0, .slice none 0 0] ((((v1.setCell ⟨w.heap.size + 1 + 1, 0, none⟩ (.slice bx00 x00.length qx00)).setCell ⟨w.heap.size + 1 + 1, 1, none⟩ (.int .i64 x01)).setCell ⟨w.heap.size + 1 + 1, 2, none⟩ (.int .i64 x02)))) := Lib.hid (Y1.out.set 2 (.int .i64 x02))
  clear Y1
  have Y3 : Hid (Bx 42 (w.heap.size + 1 + 1) #[.slice bx00 x00.length qx00, .int .i64 x01, .int .i64 x02, .int .i64 x03, .int .i64 0, .int .i64 0, .int .i64 0, .slice none 0 0, .int .i64 0, .int .i64 0, .slice none 0 0, .slice none 0 0, .int .i64 0, .int .i64 0, .int .i64 0, .bool false, .int .i64 0, .int .i64 0, .bool false, .int .i64 0, .int .i64 0, .int .i64 0, .bool false, .bool false, .int .i64 0, .int .i64 0, .bool false, .int .i64 0, .int .i64 0, .int .i64 0, .bool false, .slice none 0 0, .slice none 0 0, .int .i64 0, .slice none 0 0, .int .i64 0, .slice none 0 0] (((((v1.setCell ⟨w.heap.size + 1 + 1, 0, none⟩ (.slice bx00 x00.length qx00)).setCell ⟨w.heap.size + 1 + 1, 1, none⟩ (.int .i64 x01)).setCell ⟨w.heap.size + 1 + 1, 2, none⟩ (.int .i64 x02)).setCell ⟨w.heap.size + 1 + 1, 3, none⟩ (.int .i64 x03)))) := Lib.hid (Y2.out.set 3 (.int .i64 x03))
  clear Y2
  have Y4 : Hid (Bx 42 (w.heap.size + 1 + 1) #[.slice bx00 x00.length qx00, .int .i64 x01, .int .i64 x02, .int .i64 x03, .int .i64 x04, .int .i64 0, .int .i64 0, .slice none 0 0, .int .i64 0, .int .i64 0, .slice none 0 0, .slice none 0 0, .int .i64 0, .int .i64 0, .int .i64 0, .bool false, .int .i64 0, .int .i64 0, .bool false, .int .i64 0, .int .i64 0, .int .i64 0, .bool false, .bool false, .int .i64 0, .int .i64 0, .bool false, .int .i64 0, .int .i64 0, .int .i64 0, .bool false, .slice none 0 0, .slice none 0 0, .int .i64 0, .slice none 0 0, .int .i64 0, .slice none 0 0] ((((((v1.setCell ⟨w.heap.size + 1 + 1, 0, none⟩ (.slice bx00 x00.length qx00)).setCell ⟨w.heap.size + 1 + 1, 1, none⟩ (.int .i64 x01)).setCell ⟨w.heap.size + 1 + 1, 2, none⟩ (.int .i64 x02)).setCell ⟨w.heap.size + 1 + 1, 3, none⟩ (.int .i64 x03)).setCell ⟨w.heap.size + 1 + 1, 4, none⟩ (.int .i64 x04)))) := Lib.hid (Y3.out.set 4 (.int .i64 x04))
  clear Y3
  have Y5 : Hid (Bx 42 (w.heap.size + 1 + 1) #[.slice bx00 x00.length qx00, .int .i64 x01, .int .i64 x02, .int .i64 x03, .int .i64 x04, .int .i64 x05, .int .i64 0, .slice none 0 0, .int .i64 0, .int .i64 0, .slice none 0 0, .slice none 0 0, .int .i64 0, .int .i64 0, .int .i64 0, .bool false, .int .i64 0, .int .i64 0, .bool false, .int .i64 0, .int .i64 0, .int .i64 0, .bool false, .bool false, .int .i64 0, .int .i64 0, .bool false, .int .i64 0, .int .i64 0, .int .i64 0, .bool false, .slice none 0 0, .slice none 0 0, .int .i64 0, .slice none 0 0, .int .i64 0, .slice none 0 0] (((((((v1.setCell ⟨w.heap.size + 1 + 1, 0, none⟩ (.slice bx00 x00.length qx00)).setCell ⟨w.heap.size + 1 + 1, 1, none⟩ (.int .i64 x01)).setCell ⟨w.heap.size + 1 + 1, 2, none⟩ (.int .i64 x02)).setCell ⟨w.heap.size + 1 + 1, 3, none⟩ (.int .i64 x03)).setCell ⟨w.heap.size + 1 + 1, 4, none⟩ (.int .i64 x04)).setCell ⟨w.heap.size + 1 + 1, 5, none⟩ (.int .i64 x05)))) := Lib.hid (Y4.out.set 5 (.int .i64 x05))
  clear Y4
  have Y6 : Hid (Bx 42 (w.heap.size + 1 + 1) #[.slice bx00 x00.length qx00, .int .i64 x01, .int .i64 x02, .int .i64 x03, .int .i64 x04, .int .i64 x05, .int .i64 x1, .slice none 0 0, .int .i64 0, .int .i64 0, .slice none 0 0, .slice none 0 0, .int .i64 0, .int .i64 0, .int .i64 0, .bool false, .int .i64 0, .int .i64 0, .bool false, .int .i64 0, .int .i64 0, .int .i64 0, .bool false, .bool false, .int .i64 0, .int .i64 0, .bool false, .int .i64 0, .int .i64 0, .int .i64 0, .bool false, .slice none 0 0, .slice none 0 0, .int .i64 0, .slice none 0 0, .int .i64 0, .slice none 0 0] ((((((((v1.setCell ⟨w.heap.size + 1 + 1, 0, none⟩ (.slice bx00 x00.length qx00)).setCell ⟨w.heap.size + 1 + 1, 1, none⟩ (.int .i64 x01)).setCell ⟨w.heap.size + 1 + 1, 2, none⟩ (.int .i64 x02)).setCell ⟨w.heap.size + 1 + 1, 3, none⟩ (.int .i64 x03)).setCell ⟨w.heap.size + 1 + 1, 4, none⟩ (.int .i64 x04)).setCell ⟨w.heap.size + 1 + 1, 5, none⟩ (.int .i64 x05)).setCell ⟨w.heap.size + 1 + 1, 6, none⟩ (.int .i64 x1)))) := Lib.hid (Y5.out.set 6 (.int .i64 x1))
  clear Y5
  have X3_1 := Y6
  clear Y6
  have HB_1 := Lib.hid (WB.out.trans (hTu.below WB.out.size (fun k hk => hk ▸ HLO.out)))
  have Hn0 := Lib.hid (Nat.not_le_of_lt (Nat.lt_of_succ_le Wy0.out))
  have Ux0_1 := Lib.hid (confK.cap_turn Vx0.out hTu (fun k _ h1 h2 => Hn0.out (h2 ▸ h1.1)))
  have Hy1 := Lib.hid (Nat.le_trans Wz.out hTu.size)
  have Hv1_1 := Lib.hid hTu.size
  clear hTu
  clear W1 W2 W3 WB Wz Ws Vx0
  go_wp2_with fail
  clear g0 g1 g2 g3 g4 g5 g6 a6 a7 z0 z1 z2 z3 z4 z5 z6
  generalize (((((((v1.setCell ⟨w.heap.size + 1 + 1, 0, none⟩ (.slice bx00 x00.length qx00)).setCell ⟨w.heap.size + 1 + 1, 1, none⟩ (.int .i64 x01)).setCell ⟨w.heap.size + 1 + 1, 2, none⟩ (.int .i64 x02)).setCell ⟨w.heap.size + 1 + 1, 3, none⟩ (.int .i64 x03)).setCell ⟨w.heap.size + 1 + 1, 4, none⟩ (.int .i64 x04)).setCell ⟨w.heap.size + 1 + 1, 5, none⟩ (.int .i64 x05)).setCell ⟨w.heap.size + 1 + 1, 6, none⟩ (.int .i64 x1)) = y1 at X1_1 X2_1 X3_1 HB_1 Hy1 Hv1_1 Ux0_1 ⊢
  refine (toMstS [.slice ax2 x2.length px2] x2 _ (by omega) (mstS.rd_later Rx2.out HB_1.out)).mono ?_
  rintro e v2 ⟨us, he, hc, hb⟩
  obtain ⟨bx2, qx2, rfl, _⟩ := mstS.cap_rd hc
  obtain rfl : e = .returned (.slice bx2 x2.length qx2) := he
  have Vx0 := Lib.hid (confK.cap_later Ux0_1.out hb)
  have Vx2 := Lib.hid (mstS.cap_wide (mstS.cap_top hc) (G := fun k => y1.heap.size ≤ k ∧ k < v2.heap.size) (fun k _ hk => hk))
  have W1 := Lib.hid (X1_1.out.later hb)
  have W2 := Lib.hid (X2_1.out.later hb)
  have W3 := Lib.hid (X3_1.out.later hb)
  have WB := Lib.hid (HB_1.out.trans (hb.mono HB_1.out.size))
  have Wz := Lib.hid (Nat.le_trans Hy1.out hb.size)
  have Ws := Lib.hid hb.size
  have Wy1 := Lib.hid Hy1.out
  clear hc hb X1_1 X2_1 X3_1 HB_1 Ux0_1
  have g7 := W3.out.cell 7 _ rfl
  have a8 := W1.out.cell 8 _ rfl
  have a9 := W1.out.cell 9 _ rfl
  have z7 := W3.out.warm 7
  have hTu : Turn (fun k => k = w.heap.size + 1 + 1) v2 ((v2.setCell ⟨w.heap.size + 1 + 1, 7, none⟩ (.slice bx2 x2.length qx2))) := ((Turn.refl (fun k => k = w.heap.size + 1 + 1) v2).set (p := ⟨w.heap.size + 1 + 1, 7, none⟩) rfl (.slice bx2 x2.length qx2))
  have X1_2 := Lib.hid (bx_turned W1.out hTu HAO.out)
  have X2_2 := Lib.hid (bx_turned W2.out hTu HRO.out)
  have Y0 : Hid (Bx 42 (w.heap.size + 1 + 1) #[.slice bx00 x00.length qx00, .int .i64 x01, .int .i64 x02, .int .i64 x03, .int .i64 x04, .int .i64 x05, .int .i64 x1, .slice bx2 x2.length qx2, .int .i64 0, .int .i64 0, .slice none 0 0, .slice none 0 0, .int .i64 0, .int .i64 0, .int .i64 0, .bool false, .int .i64 0, .int .i64 0, .bool false, .int .i64 0, .int .i64 0, .int .i64 0, .bool false, .bool false, .int .i64 0, .int .i64 0, .bool false, .int .i64 0, .int .i64 0, .int .i64 0, .bool false, .slice none 0 0, .slice none 0 0, .int .i64 0, .slice none 0 0, .int .i64 0, .slice none 0 0] ((v2.setCell ⟨w.heap.size + 1 + 1, 7, none⟩ (.slice bx2 x2.length qx2)))) := Lib.hid (W3.out.set 7 (.slice bx2 x2.length qx2))
  have X3_2 := Y0
  clear Y0
  have HB_2 := Lib.hid (WB.out.trans (hTu.below WB.out.size (fun k hk => hk ▸ HLO.out)))
  have Hn1 := Lib.hid (Nat.not_le_of_lt (Nat.lt_of_succ_le Wy1.out))
  have Ux0_2 := Lib.hid (confK.cap_turn Vx0.out hTu (fun k _ h1 h2 => Hn0.out (h2 ▸ h1.1)))
  have Ux2_2 := Lib.hid (mstS.cap_turn Vx2.out hTu (fun k _ h1 h2 => Hn1.out (h2 ▸ h1.1)))
  have Hy2 := Lib.hid (Nat.le_trans Wz.out hTu.size)
  have Hv2_2 := Lib.hid hTu.size
  have Hv1_2 := Lib.hid (Nat.le_trans Hv1_1.out (Nat.le_trans Ws.out hTu.size))
  clear hTu
  have Hs1_1 := Hv1_1
  clear W1 W2 W3 WB Wz Ws Vx0 Vx2 Hv1_1
  go_wp2_with fail
  clear g7 a8 a9 z7
  generalize (v2.setCell ⟨w.heap.size + 1 + 1, 7, none⟩ (.slice bx2 x2.length qx2)) = y2 at X1_2 X2_2 X3_2 HB_2 Hy2 Hv1_2 Hv2_2 Ux0_2 Ux2_2 ⊢
  refine (toWrr [.int .i64 x30, .int .i64 x31] (x30, x31) _ (Nat.zero_le _) wrr_rd).mono ?_
  rintro e v3 ⟨us, he, hc, hb⟩
  obtain rfl := wrr_form (wrrK.cap_rd hc)
  obtain rfl : e = .returned (.agg #[.int .i64 x30, .int .i64 x31]) := he
  have Vx0 := Lib.hid (confK.cap_later Ux0_2.out hb)
  have Vx2 := Lib.hid (mstS.cap_later Ux2_2.out hb)
  have W1 := Lib.hid (X1_2.out.later hb)
  have W2 := Lib.hid (X2_2.out.later hb)
  have W3 := Lib.hid (X3_2.out.later hb)
  have WB := Lib.hid (HB_2.out.trans (hb.mono HB_2.out.size))
  have Wz := Lib.hid (Nat.le_trans Hy2.out hb.size)
  have Ws := Lib.hid hb.size
  have Wy2 := Lib.hid Hy2.out
  clear hc hb X1_2 X2_2 X3_2 HB_2 Ux0_2 Ux2_2
  have g8 := W3.out.cell 8 _ rfl
  have g9 := W3.out.cell 9 _ rfl
  have a10 := W1.out.cell 10 _ rfl
  have z8 := W3.out.warm 8
  have z9 := W3.out.warm 9
  have hTu : Turn (fun k => k = w.heap.size + 1 + 1) v3 (((v3.setCell ⟨w.heap.size + 1 + 1, 8, none⟩ (.int .i64 x30)).setCell ⟨w.heap.size + 1 + 1, 9, none⟩ (.int .i64 x31))) := (((Turn.refl (fun k => k = w.heap.size + 1 + 1) v3).set (p := ⟨w.heap.size + 1 + 1, 8, none⟩) rfl (.int .i64 x30)).set (p := ⟨w.heap.size + 1 + 1, 9, none⟩) rfl (.int .i64 x31))
  have X1_3 := Lib.hid (bx_turned W1.out hTu HAO.out)
  have X2_3 := Lib.hid (bx_turned W2.out hTu HRO.out)
  have Y0 : Hid (Bx 42 (w.heap.size + 1 + 1) #[.slice bx00 x00.length qx00, .int .i64 x01, .int .i64 x02, .int .i64 x03, .int .i64 x04, .int .i64 x05, .int .i64 x1, .slice bx2 x2.length qx2, .int .i64 x30, .int .i64 0, .slice none 0 0, .slice none 0 0, .int .i64 0, .int .i64 0, .int .i64 0, .bool false, .int .i64 0, .int .i64 0, .bool false, .int .i64 0, .int .i64 0, .int .i64 0, .bool false, .bool false, .int .i64 0, .int .i64 0, .bool false, .int .i64 0, .int .i64 0, .int .i64 0, .bool false, .slice none 0 0, .slice none 0 0, .int .i64 0, .slice none 0 0, .int .i64 0, .slice none 0 0] ((v3.setCell ⟨w.heap.size + 1 + 1, 8, none⟩ (.int .i64 x30)))) := Lib.hid (W3.out.set 8 (.int .i64 x30))
  have Y1 : Hid (Bx 42 (w.heap.size + 1 + 1) #[.slice bx00 x00.length qx00, .int .i64 x01, .int .i64 x02, .int .i64 x03, .int .i64 x04, .int .i64 x05, .int .i64 x1, .slice bx2 x2.length qx2, .int .i64 x30, .int .i64 x31, .slice none 0 0, .slice none 0 0, .int .i64 0, .int .i64 0, .int .i64 0, .bool false, .int .i64 0, .int .i64 0, .bool false, .int .i64 0, .int .i64 0, .int .i64 0, .bool false, .bool false, .int .i64 0, .int .i64 0, .bool false, .int .i64 0, .int .i64 0, .int .i64 0, .bool false, .slice none 0 0, .slice none 0 0, .int .i64 0, .slice none 0 0, .int .i64 0, .slice none 0 0] (((v3.setCell ⟨w.heap.size + 1 + 1, 8, none⟩ (.int .i64 x30)).setCell ⟨w.heap.size + 1 + 1, 9, none⟩ (.int .i64 x31)))) := Lib.hid (Y0.out.set 9 (.int .i64 x31))
  clear Y0
  have X3_3 := Y1
  clear Y1
  have HB_3 := Lib.hid (WB.out.trans (hTu.below WB.out.size (fun k hk => hk ▸ HLO.out)))
  have Ux0_3 := Lib.hid (confK.cap_turn Vx0.out hTu (fun k _ h1 h2 => Hn0.out (h2 ▸ h1.1)))
  have Ux2_3 := Lib.hid (mstS.cap_turn Vx2.out hTu (fun k _ h1 h2 => Hn1.out (h2 ▸ h1.1)))
  have Hy3 := Lib.hid (Nat.le_trans Wz.out hTu.size)
  have Hv3_3 := Lib.hid hTu.size
  have Hv1_3 := Lib.hid (Nat.le_trans Hv1_2.out (Nat.le_trans Ws.out hTu.size))
  have Hv2_3 := Lib.hid (Nat.le_trans Hv2_2.out (Nat.le_trans Ws.out hTu.size))
  clear hTu
  clear W1 W2 W3 WB Wz Ws Vx0 Vx2 Hv1_2 Hv2_2
  go_wp2_with fail
  clear g8 g9 a10 z8 z9
  generalize ((v3.setCell ⟨w.heap.size + 1 + 1, 8, none⟩ (.int .i64 x30)).setCell ⟨w.heap.size + 1 + 1, 9, none⟩ (.int .i64 x31)) = y3 at X1_3 X2_3 X3_3 HB_3 Hy3 Hv1_3 Hv2_3 Hv3_3 Ux0_3 Ux2_3 ⊢
  refine (toBucketS [.slice ax4 x4.length px4] x4 _ (by omega) (bucketS.rd_later Rx4.out HB_3.out)).mono ?_
  rintro e v4 ⟨us, he, hc, hb⟩
  obtain ⟨bx4, qx4, rfl, _⟩ := bucketS.cap_rd hc
  obtain rfl : e = .returned (.slice bx4 x4.length qx4) := he
  have Vx0 := Lib.hid (confK.cap_later Ux0_3.out hb)
  have Vx2 := Lib.hid (mstS.cap_later Ux2_3.out hb)
  have Vx4 := Lib.hid (bucketS.cap_wide (bucketS.cap_top hc) (G := fun k => y3.heap.size ≤ k ∧ k < v4.heap.size) (fun k _ hk => hk))
  have W1 := Lib.hid (X1_3.out.later hb)
  have W2 := Lib.hid (X2_3.out.later hb)
  have W3 := Lib.hid (X3_3.out.later hb)
  have WB := Lib.hid (HB_3.out.trans (hb.mono HB_3.out.size))
  have Wz := Lib.hid (Nat.le_trans Hy3.out hb.size)
  have Ws := Lib.hid hb.size
  have Wy3 := Lib.hid Hy3.out
  clear hc hb X1_3 X2_3 X3_3 HB_3 Ux0_3 Ux2_3
  have g10 := W3.out.cell 10 _ rfl
  have a11 := W1.out.cell 11 _ rfl
  have z10 := W3.out.warm 10
  have hTu : Turn (fun k => k = w.heap.size + 1 + 1) v4 ((v4.setCell ⟨w.heap.size + 1 + 1, 10, none⟩ (.slice bx4 x4.length qx4))) := ((Turn.refl (fun k => k = w.heap.size + 1 + 1) v4).set (p := ⟨w.heap.size + 1 + 1, 10, none⟩) rfl (.slice bx4 x4.length qx4))
  have X1_4 := Lib.hid (bx_turned W1.out hTu HAO.out)
  have X2_4 := Lib.hid (bx_turned W2.out hTu HRO.out)
  have Y0 : Hid (Bx 42 (w.heap.size + 1 + 1) #[.slice bx00 x00.length qx00, .int .i64 x01, .int .i64 x02, .int .i64 x03, .int .i64 x04, .int .i64 x05, .int .i64 x1, .slice bx2 x2.length qx2, .int .i64 x30, .int .i64 x31, .slice bx4 x4.length qx4, .slice none 0 0, .int .i64 0, .int .i64 0, .int .i64 0, .bool false, .int .i64 0, .int .i64 0, .bool false, .int .i64 0, .int .i64 0, .int .i64 0, .bool false, .bool false, .int .i64 0, .int .i64 0, .bool false, .int .i64 0, .int .i64 0, .int .i64 0, .bool false, .slice none 0 0, .slice none 0 0, .int .i64 0, .slice none 0 0, .int .i64 0, .slice none 0 0] ((v4.setCell ⟨w.heap.size + 1 + 1, 10, none⟩ (.slice bx4 x4.length qx4)))) := Lib.hid (W3.out.set 10 (.slice bx4 x4.length qx4))
  have X3_4 := Y0
  clear Y0
  have HB_4 := Lib.hid (WB.out.trans (hTu.below WB.out.size (fun k hk => hk ▸ HLO.out)))
  have Hn3 := Lib.hid (Nat.not_le_of_lt (Nat.lt_of_succ_le Wy3.out))
  have Ux0_4 := Lib.hid (confK.cap_turn Vx0.out hTu (fun k _ h1 h2 => Hn0.out (h2 ▸ h1.1)))
  have Ux2_4 := Lib.hid (mstS.cap_turn Vx2.out hTu (fun k _ h1 h2 => Hn1.out (h2 ▸ h1.1)))
  have Ux4_4 := Lib.hid (bucketS.cap_turn Vx4.out hTu (fun k _ h1 h2 => Hn3.out (h2 ▸ h1.1)))
  have Hy4 := Lib.hid (Nat.le_trans Wz.out hTu.size)
  have Hv4_4 := Lib.hid hTu.size
  have Hv1_4 := Lib.hid (Nat.le_trans Hv1_3.out (Nat.le_trans Ws.out hTu.size))
  have Hv2_4 := Lib.hid (Nat.le_trans Hv2_3.out (Nat.le_trans Ws.out hTu.size))
  have Hv3_4 := Lib.hid (Nat.le_trans Hv3_3.out (Nat.le_trans Ws.out hTu.size))
  clear hTu
  have Hs1_3 := Hv1_3
  have Hs2_3 := Hv2_3
  clear W1 W2 W3 WB Wz Ws Vx0 Vx2 Vx4 Hv1_3 Hv2_3 Hv3_3
  go_wp2_with fail
  clear g10 a11 z10
  generalize (v4.setCell ⟨w.heap.size + 1 + 1, 10, none⟩ (.slice bx4 x4.length qx4)) = y4 at X1_4 X2_4 X3_4 HB_4 Hy4 Hv1_4 Hv2_4 Hv3_4 Hv4_4 Ux0_4 Ux2_4 Ux4_4 ⊢
  refine (toIntS [.slice ax5 x5.length px5] x5 _ (by omega) (ints.rd_later Rx5.out HB_4.out)).mono ?_
  rintro e v5 ⟨us, he, hc, hb⟩
  obtain ⟨bx5, qx5, rfl, _⟩ := ints.cap_rd hc
  obtain rfl : e = .returned (.slice bx5 x5.length qx5) := he
  have Vx0 := Lib.hid (confK.cap_later Ux0_4.out hb)
  have Vx2 := Lib.hid (mstS.cap_later Ux2_4.out hb)
  have Vx4 := Lib.hid (bucketS.cap_later Ux4_4.out hb)
  have Vx5 := Lib.hid (ints.cap_wide (ints.cap_top hc) (G := fun k => y4.heap.size ≤ k ∧ k < v5.heap.size) (fun k _ hk => hk))
  have W1 := Lib.hid (X1_4.out.later hb)
  have W2 := Lib.hid (X2_4.out.later hb)
  have W3 := Lib.hid (X3_4.out.later hb)
  have WB := Lib.hid (HB_4.out.trans (hb.mono HB_4.out.size))
  have Wz := Lib.hid (Nat.le_trans Hy4.out hb.size)
  have Ws := Lib.hid hb.size
  have Wy4 := Lib.hid Hy4.out
  clear hc hb X1_4 X2_4 X3_4 HB_4 Ux0_4 Ux2_4 Ux4_4
  have g11 := W3.out.cell 11 _ rfl
  have g12 := W3.out.cell 12 _ rfl
  have g13 := W3.out.cell 13 _ rfl
  have g14 := W3.out.cell 14 _ rfl
  have a12 := W1.out.cell 12 _ rfl
  have a13 := W1.out.cell 13 _ rfl
  have a14 := W1.out.cell 14 _ rfl
  have a15 := W1.out.cell 15 _ rfl
  have a16 := W1.out.cell 16 _ rfl
  have a17 := W1.out.cell 17 _ rfl
  have a18 := W1.out.cell 18 _ rfl
  have a19 := W1.out.cell 19 _ rfl
  have a20 := W1.out.cell 20 _ rfl
  have a21 := W1.out.cell 21 _ rfl
  have a22 := W1.out.cell 22 _ rfl
  have z11 := W3.out.warm 11
  have z12 := W3.out.warm 12
  have z13 := W3.out.warm 13
  have z14 := W3.out.warm 14
  have hTu : Turn (fun k => k = w.heap.size + 1 + 1) v5 (((((v5.setCell ⟨w.heap.size + 1 + 1, 11, none⟩ (.slice bx5 x5.length qx5)).setCell ⟨w.heap.size + 1 + 1, 12, none⟩ (.int .i64 x6)).setCell ⟨w.heap.size + 1 + 1, 13, none⟩ (.int .i64 x7)).setCell ⟨w.heap.size + 1 + 1, 14, none⟩ (.int .i64 x8))) := (((((Turn.refl (fun k => k = w.heap.size + 1 + 1) v5).set (p := ⟨w.heap.size + 1 + 1, 11, none⟩) rfl (.slice bx5 x5.length qx5)).set (p := ⟨w.heap.size + 1 + 1, 12, none⟩) rfl (.int .i64 x6)).set (p := ⟨w.heap.size + 1 + 1, 13, none⟩) rfl (.int .i64 x7)).set (p := ⟨w.heap.size + 1 + 1, 14, none⟩) rfl (.int .i64 x8))
  have X1_5 := Lib.hid (bx_turned W1.out hTu HAO.out)
  have X2_5 := Lib.hid (bx_turned W2.out hTu HRO.out)
  have Y0 : Hid (Bx 42 (w.heap.size + 1 + 1) #[.slice bx00 x00.length qx00, .int .i64 x01, .int .i64 x02, .int .i64 x03, .int .i64 x04, .int .i64 x05, .int .i64 x1, .slice bx2 x2.length qx2, .int .i64 x30, .int .i64 x31, .slice bx4 x4.length qx4, .slice bx5 x5.length qx5, .int .i64 0, .int .i64 0, .int .i64 0, .bool false, .int .i64 0, .int .i64 0, .bool false, .int .i64 0, .int .i64 0, .int .i64 0, .bool false, .bool false, .int .i64 0, .int .i64 0, .bool false, .int .i64 0, .int .i64 0, .int .i64 0, .bool false, .slice none 0 0, .slice none 0 0, .int .i64 0, .slice none 0 0, .int .i64 0, .slice none 0 0] ((v5.setCell ⟨w.heap.size + 1 + 1, 11, none⟩ (.slice bx5 x5.length qx5)))) := Lib.hid (W3.out.set 11 (.slice bx5 x5.length qx5))
  have Y1 : Hid (Bx 42 (w.heap.size + 1 + 1) #[.slice bx00 x00.length qx00, .int .i64 x01, .int .i64 x02, .int .i64 x03, .int .i64 x04, .int .i64 x05, .int .i64 x1, .slice bx2 x2.length qx2, .int .i64 x30, .int .i64 x31, .slice bx4 x4.length qx4, .slice bx5 x5.length qx5, .int .i64 x6, .int .i64 0, .int .i64 0, .bool false, .int .i64 0, .int .i64 0, .bool false, .int .i64 0, .int .i64 0, .int .i64 0, .bool false, .bool false, .int .i64 0, .int .i64 0, .bool false, .int .i64 0, .int .i64 0, .int .i64 0, .bool false, .slice none 0 0, .slice none 0 0, .int .i64 0, .slice none 0 0, .int .i64 0, .slice none 0 0] (((v5.setCell ⟨w.heap.size + 1 + 1, 11, none⟩ (.slice bx5 x5.length qx5)).setCell ⟨w.heap.size + 1 + 1, 12, none⟩ (.int .i64 x6)))) := Lib.hid (Y0.out.set 12 (.int .i64 x6))
  clear Y0
  have Y2 : Hid (Bx 42 (w.heap.size + 1 + 1) #[.slice bx00 x00.length qx00, .int .i64 x01, .int .i64 x02, .int .i64 x03, .int .i64 x04, .int .i64 x05, .int .i64 x1, .slice bx2 x2.length qx2, .int .i64 x30, .int .i64 x31, .slice bx4 x4.length qx4, .slice bx5 x5.length qx5, .int .i64 x6, .int .i64 x7, .int .i64 0, .bool false, .int .i64 0, .int .i64 0, .bool false, .int .i64 0, .int .i64 0, .int .i64 0, .bool false, .bool false, .int .i64 0, .int .i64 0, .bool false, .int .i64 0, .int .i64 0, .int .i64 0, .bool false, .slice none 0 0, .slice none 0 0, .int .i64 0, .slice none 0 0, .int .i64 0, .slice none 0 0] ((((v5.setCell ⟨w.heap.size + 1 + 1, 11, none⟩ (.slice bx5 x5.length qx5)).setCell ⟨w.heap.size + 1 + 1, 12, none⟩ (.int .i64 x6)).setCell ⟨w.heap.size + 1 + 1, 13, none⟩ (.int .i64 x7)))) := Lib.hid (Y1.out.set 13 (.int .i64 x7))
  clear Y1
  have Y3 : Hid (Bx 42 (w.heap.size + 1 + 1) #[.slice bx00 x00.length qx00, .int .i64 x01, .int .i64 x02, .int .i64 x03, .int .i64 x04, .int .i64 x05, .int .i64 x1, .slice bx2 x2.length qx2, .int .i64 x30, .int .i64 x31, .slice bx4 x4.length qx4, .slice bx5 x5.length qx5, .int .i64 x6, .int .i64 x7, .int .i64 x8, .bool false, .int .i64 0, .int .i64 0, .bool false, .int .i64 0, .int .i64 0, .int .i64 0, .bool false, .bool false, .int .i64 0, .int .i64 0, .bool false, .int .i64 0, .int .i64 0, .int .i64 0, .bool false, .slice none 0 0, .slice none 0 0, .int .i64 0, .slice none 0 0, .int .i64 0, .slice none 0 0] (((((v5.setCell ⟨w.heap.size + 1 + 1, 11, none⟩ (.slice bx5 x5.length qx5)).setCell ⟨w.heap.size + 1 + 1, 12, none⟩ (.int .i64 x6)).setCell ⟨w.heap.size + 1 + 1, 13, none⟩ (.int .i64 x7)).setCell ⟨w.heap.size + 1 + 1, 14, none⟩ (.int .i64 x8)))) := Lib.hid (Y2.out.set 14 (.int .i64 x8))
  clear Y2
  have X3_5 := Y3
  clear Y3
  have HB_5 := Lib.hid (WB.out.trans (hTu.below WB.out.size (fun k hk => hk ▸ HLO.out)))
  have Hn4 := Lib.hid (Nat.not_le_of_lt (Nat.lt_of_succ_le Wy4.out))
  have Ux0_5 := Lib.hid (confK.cap_turn Vx0.out hTu (fun k _ h1 h2 => Hn0.out (h2 ▸ h1.1)))
  have Ux2_5 := Lib.hid (mstS.cap_turn Vx2.out hTu (fun k _ h1 h2 => Hn1.out (h2 ▸ h1.1)))
  have Ux4_5 := Lib.hid (bucketS.cap_turn Vx4.out hTu (fun k _ h1 h2 => Hn3.out (h2 ▸ h1.1)))
  have Ux5_5 := Lib.hid (ints.cap_turn Vx5.out hTu (fun k _ h1 h2 => Hn4.out (h2 ▸ h1.1)))
  have Hy5 := Lib.hid (Nat.le_trans Wz.out hTu.size)
  have Hv5_5 := Lib.hid hTu.size
  have Hv1_5 := Lib.hid (Nat.le_trans Hv1_4.out (Nat.le_trans Ws.out hTu.size))
  have Hv2_5 := Lib.hid (Nat.le_trans Hv2_4.out (Nat.le_trans Ws.out hTu.size))
  have Hv3_5 := Lib.hid (Nat.le_trans Hv3_4.out (Nat.le_trans Ws.out hTu.size))
  have Hv4_5 := Lib.hid (Nat.le_trans Hv4_4.out (Nat.le_trans Ws.out hTu.size))
  clear hTu
  have Hs1_4 := Hv1_4
  have Hs2_4 := Hv2_4
  have Hs4_4 := Hv4_4
  clear W1 W2 W3 WB Wz Ws Vx0 Vx2 Vx4 Vx5 Hv1_4 Hv2_4 Hv3_4 Hv4_4
  go_wp2_with fail
  clear g11 g12 g13 g14 a12 a13 a14 a15 a16 a17 a18 a19 a20 a21 a22 z11 z12 z13 z14
  generalize ((((v5.setCell ⟨w.heap.size + 1 + 1, 11, none⟩ (.slice bx5 x5.length qx5)).setCell ⟨w.heap.size + 1 + 1, 12, none⟩ (.int .i64 x6)).setCell ⟨w.heap.size + 1 + 1, 13, none⟩ (.int .i64 x7)).setCell ⟨w.heap.size + 1 + 1, 14, none⟩ (.int .i64 x8)) = y5 at X1_5 X2_5 X3_5 HB_5 Hy5 Hv1_5 Hv2_5 Hv3_5 Hv4_5 Hv5_5 Ux0_5 Ux2_5 Ux4_5 Ux5_5 ⊢
  refine (toBeat [.bool x90, .int .i64 x91, .int .i64 x92, .bool x93, .int .i64 x94, .int .i64 x95, .int .i64 x96, .bool x97] (x90, x91, x92, x93, x94, x95, x96, x97) _ (Nat.zero_le _) beat_rd).mono ?_
  rintro e v6 ⟨us, he, hc, hb⟩
  obtain rfl := beat_form (beatK.cap_rd hc)
  obtain rfl : e = .returned (.agg #[.bool x90, .int .i64 x91, .int .i64 x92, .bool x93, .int .i64 x94, .int .i64 x95, .int .i64 x96, .bool x97]) := he
  have Vx0 := Lib.hid (confK.cap_later Ux0_5.out hb)
  have Vx2 := Lib.hid (mstS.cap_later Ux2_5.out hb)
  have Vx4 := Lib.hid (bucketS.cap_later Ux4_5.out hb)
  have Vx5 := Lib.hid (ints.cap_later Ux5_5.out hb)
  have W1 := Lib.hid (X1_5.out.later hb)
  have W2 := Lib.hid (X2_5.out.later hb)
  have W3 := Lib.hid (X3_5.out.later hb)
  have WB := Lib.hid (HB_5.out.trans (hb.mono HB_5.out.size))
  have Wz := Lib.hid (Nat.le_trans Hy5.out hb.size)
  have Ws := Lib.hid hb.size
  have Wy5 := Lib.hid Hy5.out
  clear hc hb X1_5 X2_5 X3_5 HB_5 Ux0_5 Ux2_5 Ux4_5 Ux5_5
  have g15 := W3.out.cell 15 _ rfl
  have g16 := W3.out.cell 16 _ rfl
  have g17 := W3.out.cell 17 _ rfl
  have g18 := W3.out.cell 18 _ rfl
  have g19 := W3.out.cell 19 _ rfl
  have g20 := W3.out.cell 20 _ rfl
  have g21 := W3.out.cell 21 _ rfl
  have g22 := W3.out.cell 22 _ rfl
  have a23 := W1.out.cell 23 _ rfl
  have a24 := W1.out.cell 24 _ rfl
  have a25 := W1.out.cell 25 _ rfl
  have a26 := W1.out.cell 26 _ rfl
  have a27 := W1.out.cell 27 _ rfl
  have a28 := W1.out.cell 28 _ rfl
  have a29 := W1.out.cell 29 _ rfl
  have a30 := W1.out.cell 30 _ rfl
  have z15 := W3.out.warm 15
  have z16 := W3.out.warm 16
  have z17 := W3.out.warm 17
  have z18 := W3.out.warm 18
  have z19 := W3.out.warm 19
  have z20 := W3.out.warm 20
  have z21 := W3.out.warm 21
  have z22 := W3.out.warm 22
  have hTu : Turn (fun k => k = w.heap.size + 1 + 1) v6 (((((((((v6.setCell ⟨w.heap.size + 1 + 1, 15, none⟩ (.bool x90)).setCell ⟨w.heap.size + 1 + 1, 16, none⟩ (.int .i64 x91)).setCell ⟨w.heap.size + 1 + 1, 17, none⟩ (.int .i64 x92)).setCell ⟨w.heap.size + 1 + 1, 18, none⟩ (.bool x93)).setCell ⟨w.heap.size + 1 + 1, 19, none⟩ (.int .i64 x94)).setCell ⟨w.heap.size + 1 + 1, 20, none⟩ (.int .i64 x95)).setCell ⟨w.heap.size + 1 + 1, 21, none⟩ (.int .i64 x96)).setCell ⟨w.heap.size + 1 + 1, 22, none⟩ (.bool x97))) := (((((((((Turn.refl (fun k => k = w.heap.size + 1 + 1) v6).set (p := ⟨w.heap.size + 1 + 1, 15, none⟩) rfl (.bool x90)).set (p := ⟨w.heap.size + 1 + 1, 16, none⟩) rfl (.int .i64 x91)).set (p := ⟨w.heap.size + 1 + 1, 17, none⟩) rfl (.int .i64 x92)).set (p := ⟨w.heap.size + 1 + 1, 18, none⟩) rfl (.bool x93)).set (p := ⟨w.heap.size + 1 + 1, 19, none⟩) rfl (.int .i64 x94)).set (p := ⟨w.heap.size + 1 + 1, 20, none⟩) rfl (.int .i64 x95)).set (p := ⟨w.heap.size + 1 + 1, 21, none⟩) rfl (.int .i64 x96)).set (p := ⟨w.heap.size + 1 + 1, 22, none⟩) rfl (.bool x97))
  have X1_6 := Lib.hid (bx_turned W1.out hTu HAO.out)
  have X2_6 := Lib.hid (bx_turned W2.out hTu HRO.out)
  have Y0 : Hid (Bx 42 (w.heap.size + 1 + 1) #[.slice bx00 x00.length qx00, .int .i64 x01, .int .i64 x02, .int .i64 x03, .int .i64 x04, .int .i64 x05, .int .i64 x1, .slice bx2 x2.length qx2, .int .i64 x30, .int .i64 x31, .slice bx4 x4.length qx4, .slice bx5 x5.length qx5, .int .i64 x6, .int .i64 x7, .int .i64 x8, .bool x90, .int .i64 0, .int .i64 0, .bool false, .int .i64 0, .int .i64 0, .int .i64 0, .bool false, .bool false, .int .i64 0, .int .i64 0, .bool false, .int .i64 0, .int .i64 0, .int .i64 0, .bool false, .slice none 0 0, .slice none 0 0, .int .i64 0, .slice none 0 0, .int .i64 0, .slice none 0 0] ((v6.setCell ⟨w.heap.size + 1 + 1, 15, none⟩ (.bool x90)))) := Lib.hid (W3.out.set 15 (.bool x90))
  have Y1 : Hid (Bx 42 (w.heap.size + 1 + 1) #[.slice bx00 x00.length qx00, .int .i64 x01, .int .i64 x02, .int .i64 x03, .int .i64 x04, .int .i64 x05, .int .i64 x1, .slice bx2 x2.length qx2, .int .i64 x30, .int .i64 x31, .slice bx4 x4.length qx4, .slice bx5 x5.length qx5, .int .i64 x6, .int .i64 x7, .int .i64 x8, .bool x90, .int .i64 x91, .int .i64 0, .bool false, .int .i64 0, .int .i64 0, .int .i64 0, .bool false, .bool false, .int .i64 0, .int .i64 0, .bool false, .int .i64 0, .int .i64 0, .int .i64 0, .bool false, .slice none 0 0, .slice none 0 0, .int .i64 0, .slice none 0 0, .int .i64 0, .slice none 0 0] (((v6.setCell ⟨w.heap.size + 1 + 1, 15, none⟩ (.bool x90)).setCell ⟨w.heap.size + 1 + 1, 16, none⟩ (.int .i64 x91)))) := Lib.hid (Y0.out.set 16 (.int .i64 x91))
  clear Y0
  have Y2 : Hid (Bx 42 (w.heap.size + 1 + 1) #[.slice bx00 x00.length qx00, .int .i64 x01, .int .i64 x02, .int .i64 x03, .int .i64 x04, .int .i64 x05, .int .i64 x1, .slice bx2 x2.length qx2, .int .i64 x30, .int .i64 x31, .slice bx4 x4.length qx4, .slice bx5 x5.length qx5, .int .i64 x6, .int .i64 x7, .int .i64 x8, .bool x90, .int .i64 x91, .int .i64 x92, .bool false, .int .i64 0, .int .i64 0, .int .i64 0, .bool false, .bool false, .int .i64 0, .int .i64 0, .bool false, .int .i64 0, .int .i64 0, .int .i64 0, .bool false, .slice none 0 0, .slice none 0 0, .int .i64 0, .slice none 0 0, .int .i64 0, .slice none 0 0] ((((v6.setCell ⟨w.heap.size + 1 + 1, 15, none⟩ (.bool x90)).setCell ⟨w.heap.size + 1 + 1, 16, none⟩ (.int .i64 x91)).setCell ⟨w.heap.size + 1 + 1, 17, none⟩ (.int .i64 x92)))) := Lib.hid (Y1.out.set 17 (.int .i64 x92))
  clear Y1
  have Y3 : Hid (Bx 42 (w.heap.size + 1 + 1) #[.slice bx00 x00.length qx00, .int .i64 x01, .int .i64 x02, .int .i64 x03, .int .i64 x04, .int .i64 x05, .int .i64 x1, .slice bx2 x2.length qx2, .int .i64 x30, .int .i64 x31, .slice bx4 x4.length qx4, .slice bx5 x5.length qx5, .int .i64 x6, .int .i64 x7, .int .i64 x8, .bool x90, .int .i64 x91, .int .i64 x92, .bool x93, .int .i64 0, .int .i64 0, .int .i64 0, .bool false, .bool false, .int .i64 0, .int .i64 0, .bool false, .int .i64 0, .int .i64 0, .int .i64 0, .bool false, .slice none 0 0, .slice none 0 0, .int .i64 0, .slice none 0 0, .int .i64 0, .slice none 0 0] (((((v6.setCell ⟨w.heap.size + 1 + 1, 15, none⟩ (.bool x90)).setCell ⟨w.heap.size + 1 + 1, 16, none⟩ (.int .i64 x91)).setCell ⟨w.heap.size + 1 + 1, 17, none⟩ (.int .i64 x92)).setCell ⟨w.heap.size + 1 + 1, 18, none⟩ (.bool x93)))) := Lib.hid (Y2.out.set 18 (.bool x93))
  clear Y2
  have Y4 : Hid (Bx 42 (w.heap.size + 1 + 1) #[.slice bx00 x00.length qx00, .int .i64 x01, .int .i64 x02, .int .i64 x03, .int .i64 x04, .int .i64 x05, .int .i64 x1, .slice bx2 x2.length qx2, .int .i64 x30, .int .i64 x31, .slice bx4 x4.length qx4, .slice bx5 x5.length qx5, .int .i64 x6, .int .i64 x7, .int .i64 x8, .bool x90, .int .i64 x91, .int .i64 x92, .bool x93, .int .i64 x94, .int .i64 0, .int .i64 0, .bool false, .bool false, .int .i64 0, .int .i64 0, .bool false, .int .i64 0, .int .i64 0, .int .i64 0, .bool false, .slice none 0 0, .slice none 0 0, .int .i64 0, .slice none 0 0, .int .i64 0, .slice none 0 0] ((((((v6.setCell ⟨w.heap.size + 1 + 1, 15, none⟩ (.bool x90)).setCell ⟨w.heap.size + 1 + 1, 16, none⟩ (.int .i64 x91)).setCell ⟨w.heap.size + 1 + 1, 17, none⟩ (.int .i64 x92)).setCell ⟨w.heap.size + 1 + 1, 18, none⟩ (.bool x93)).setCell ⟨w.heap.size + 1 + 1, 19, none⟩ (.int .i64 x94)))) := Lib.hid (Y3.out.set 19 (.int .i64 x94))
  clear Y3
  have Y5 : Hid (Bx 42 (w.heap.size + 1 + 1) #[.slice bx00 x00.length qx00, .int .i64 x01, .int .i64 x02, .int .i64 x03, .int .i64 x04, .int .i64 x05, .int .i64 x1, .slice bx2 x2.length qx2, .int .i64 x30, .int .i64 x31, .slice bx4 x4.length qx4, .slice bx5 x5.length qx5, .int .i64 x6, .int .i64 x7, .int .i64 x8, .bool x90, .int .i64 x91, .int .i64 x92, .bool x93, .int .i64 x94, .int .i64 x95, .int .i64 0, .bool false, .bool false, .int .i64 0, .int .i64 0, .bool false, .int .i64 0, .int .i64 0, .int .i64 0, .bool false, .slice none 0 0, .slice none 0 0, .int .i64 0, .slice none 0 0, .int .i64 0, .slice none 0 0] (((((((v6.setCell ⟨w.heap.size + 1 + 1, 15, none⟩ (.bool x90)).setCell ⟨w.heap.size + 1 + 1, 16, none⟩ (.int .i64 x91)).setCell ⟨w.heap.size + 1 + 1, 17, none⟩ (.int .i64 x92)).setCell ⟨w.heap.size + 1 + 1, 18, none⟩ (.bool x93)).setCell ⟨w.heap.size + 1 + 1, 19, none⟩ (.int .i64 x94)).setCell ⟨w.heap.size + 1 + 1, 20, none⟩ (.int .i64 x95)))) := Lib.hid (Y4.out.set 20 (.int .i64 x95))
  clear Y4
  have Y6 : Hid (Bx 42 (w.heap.size + 1 + 1) #[.slice bx00 x00.length qx00, .int .i64 x01, .int .i64 x02, .int .i64 x03, .int .i64 x04, .int .i64 x05, .int .i64 x1, .slice bx2 x2.length qx2, .int .i64 x30, .int .i64 x31, .slice bx4 x4.length qx4, .slice bx5 x5.length qx5, .int .i64 x6, .int .i64 x7, .int .i64 x8, .bool x90, .int .i64 x91, .int .i64 x92, .bool x93, .int .i64 x94, .int .i64 x95, .int .i64 x96, .bool false, .bool false, .int .i64 0, .int .i64 0, .bool false, .int .i64 0, .int .i64 0, .int .i64 0, .bool false, .slice none 0 0, .slice none 0 0, .int .i64 0, .slice none 0 0, .int .i64 0, .slice none 0 0] ((((((((v6.setCell ⟨w.heap.size + 1 + 1, 15, none⟩ (.bool x90)).setCell ⟨w.heap.size + 1 + 1, 16, none⟩ (.int .i64 x91)).setCell ⟨w.heap.size + 1 + 1, 17, none⟩ (.int .i64 x92)).setCell ⟨w.heap.size + 1 + 1, 18, none⟩ (.bool x93)).setCell ⟨w.heap.size + 1 + 1, 19, none⟩ (.int .i64 x94)).setCell ⟨w.heap.size + 1 + 1, 20, none⟩ (.int .i64 x95)).setCell ⟨w.heap.size + 1 + 1, 21, none⟩ (.int .i64 x96)))) := Lib.hid (Y5.out.set 21 (.int .i64 x96))
  clear Y5
  have Y7 : Hid (Bx 42 (w.heap.size + 1 + 1) #[.slice bx00 x00.length qx00, .int .i64 x01, .int .i64 x02, .int .i64 x03, .int .i64 x04, .int .i64 x05, .int .i64 x1, .slice bx2 x2.length qx2, .int .i64 x30, .int .i64 x31, .slice bx4 x4.length qx4, .slice bx5 x5.length qx5, .int .i64 x6, .int .i64 x7, .int .i64 x8, .bool x90, .int .i64 x91, .int .i64 x92, .bool x93, .int .i64 x94, .int .i64 x95, .int .i64 x96, .bool x97, .bool false, .int .i64 0, .int .i64 0, .bool false, .int .i64 0, .int .i64 0, .int .i64 0, .bool false, .slice none 0 0, .slice none 0 0, .int .i64 0, .slice none 0 0, .int .i64 0, .slice none 0 0] (((((((((v6.setCell ⟨w.heap.size + 1 + 1, 15, none⟩ (.bool x90)).setCell ⟨w.heap.size + 1 + 1, 16, none⟩ (.int .i64 x91)).setCell ⟨w.heap.size + 1 + 1, 17, none⟩ (.int .i64 x92)).setCell ⟨w.heap.size + 1 + 1, 18, none⟩ (.bool x93)).setCell ⟨w.heap.size + 1 + 1, 19, none⟩ (.int .i64 x94)).setCell ⟨w.heap.size + 1 + 1, 20, none⟩ (.int .i64 x95)).setCell ⟨w.heap.size + 1 + 1, 21, none⟩ (.int .i64 x96)).setCell ⟨w.heap.size + 1 + 1, 22, none⟩ (.bool x97)))) := Lib.hid (Y6.out.set 22 (.bool x97))
  clear Y6
  have X3_6 := Y7
  clear Y7
  have HB_6 := Lib.hid (WB.out.trans (hTu.below WB.out.size (fun k hk => hk ▸ HLO.out)))
  have Ux0_6 := Lib.hid (confK.cap_turn Vx0.out hTu (fun k _ h1 h2 => Hn0.out (h2 ▸ h1.1)))
  have Ux2_6 := Lib.hid (mstS.cap_turn Vx2.out hTu (fun k _ h1 h2 => Hn1.out (h2 ▸ h1.1)))
  have Ux4_6 := Lib.hid (bucketS.cap_turn Vx4.out hTu (fun k _ h1 h2 => Hn3.out (h2 ▸ h1.1)))
  have Ux5_6 := Lib.hid (ints.cap_turn Vx5.out hTu (fun k _ h1 h2 => Hn4.out (h2 ▸ h1.1)))
  have Hy6 := Lib.hid (Nat.le_trans Wz.out hTu.size)
  have Hv6_6 := Lib.hid hTu.size
  have Hv1_6 := Lib.hid (Nat.le_trans Hv1_5.out (Nat.le_trans Ws.out hTu.size))
  have Hv2_6 := Lib.hid (Nat.le_trans Hv2_5.out (Nat.le_trans Ws.out hTu.size))
  have Hv3_6 := Lib.hid (Nat.le_trans Hv3_5.out (Nat.le_trans Ws.out hTu.size))
  have Hv4_6 := Lib.hid (Nat.le_trans Hv4_5.out (Nat.le_trans Ws.out hTu.size))
  have Hv5_6 := Lib.hid (Nat.le_trans Hv5_5.out (Nat.le_trans Ws.out hTu.size))
  clear hTu
  clear W1 W2 W3 WB Wz Ws Vx0 Vx2 Vx4 Vx5 Hv1_5 Hv2_5 Hv3_5 Hv4_5 Hv5_5
  go_wp2_with fail
  clear g15 g16 g17 g18 g19 g20 g21 g22 a23 a24 a25 a26 a27 a28 a29 a30 z15 z16 z17 z18 z19 z20 z21 z22
  generalize ((((((((v6.setCell ⟨w.heap.size + 1 + 1, 15, none⟩ (.bool x90)).setCell ⟨w.heap.size + 1 + 1, 16, none⟩ (.int .i64 x91)).setCell ⟨w.heap.size + 1 + 1, 17, none⟩ (.int .i64 x92)).setCell ⟨w.heap.size + 1 + 1, 18, none⟩ (.bool x93)).setCell ⟨w.heap.size + 1 + 1, 19, none⟩ (.int .i64 x94)).setCell ⟨w.heap.size + 1 + 1, 20, none⟩ (.int .i64 x95)).setCell ⟨w.heap.size + 1 + 1, 21, none⟩ (.int .i64 x96)).setCell ⟨w.heap.size + 1 + 1, 22, none⟩ (.bool x97)) = y6 at X1_6 X2_6 X3_6 HB_6 Hy6 Hv1_6 Hv2_6 Hv3_6 Hv4_6 Hv5_6 Hv6_6 Ux0_6 Ux2_6 Ux4_6 Ux5_6 ⊢
  refine (toBeat [.bool x100, .int .i64 x101, .int .i64 x102, .bool x103, .int .i64 x104, .int .i64 x105, .int .i64 x106, .bool x107] (x100, x101, x102, x103, x104, x105, x106, x107) _ (Nat.zero_le _) beat_rd).mono ?_
  rintro e v7 ⟨us, he, hc, hb⟩
  obtain rfl := beat_form (beatK.cap_rd hc)
  obtain rfl : e = .returned (.agg #[.bool x100, .int .i64 x101, .int .i64 x102, .bool x103, .int .i64 x104, .int .i64 x105, .int .i64 x106, .bool x107]) := he
  have Vx0 := Lib.hid (confK.cap_later Ux0_6.out hb)
  have Vx2 := Lib.hid (mstS.cap_later Ux2_6.out hb)
  have Vx4 := Lib.hid (bucketS.cap_later Ux4_6.out hb)
  have Vx5 := Lib.hid (ints.cap_later Ux5_6.out hb)
  have W1 := Lib.hid (X1_6.out.later hb)
  have W2 := Lib.hid (X2_6.out.later hb)
  have W3 := Lib.hid (X3_6.out.later hb)
  have WB := Lib.hid (HB_6.out.trans (hb.mono HB_6.out.size))
  have Wz := Lib.hid (Nat.le_trans Hy6.out hb.size)
  have Ws := Lib.hid hb.size
  have Wy6 := Lib.hid Hy6.out
  clear hc hb X1_6 X2_6 X3_6 HB_6 Ux0_6 Ux2_6 Ux4_6 Ux5_6
  have g23 := W3.out.cell 23 _ rfl
  have g24 := W3.out.cell 24 _ rfl
  have g25 := W3.out.cell 25 _ rfl
  have g26 := W3.out.cell 26 _ rfl
  have g27 := W3.out.cell 27 _ rfl
  have g28 := W3.out.cell 28 _ rfl
  have g29 := W3.out.cell 29 _ rfl
  have g30 := W3.out.cell 30 _ rfl
  have a31 := W1.out.cell 31 _ rfl
  have a32 := W1.out.cell 32 _ rfl
  have a33 := W1.out.cell 33 _ rfl
  have a34 := W1.out.cell 34 _ rfl
  have z23 := W3.out.warm 23
  have z24 := W3.out.warm 24
  have z25 := W3.out.warm 25
  have z26 := W3.out.warm 26
  have z27 := W3.out.warm 27
  have z28 := W3.out.warm 28
  have z29 := W3.out.warm 29
  have z30 := W3.out.warm 30
  have hTu : Turn (fun k => k = w.heap.size + 1 + 1) v7 (((((((((v7.setCell ⟨w.heap.size + 1 + 1, 23, none⟩ (.bool x100)).setCell ⟨w.heap.size + 1 + 1, 24, none⟩ (.int .i64 x101)).setCell ⟨w.heap.size + 1 + 1, 25, none⟩ (.int .i64 x102)).setCell ⟨w.heap.size + 1 + 1, 26, none⟩ (.bool x103)).setCell ⟨w.heap.size + 1 + 1, 27, none⟩ (.int .i64 x104)).setCell ⟨w.heap.size + 1 + 1, 28, none⟩ (.int .i64 x105)).setCell ⟨w.heap.size + 1 + 1, 29, none⟩ (.int .i64 x106)).setCell ⟨w.heap.size + 1 + 1, 30, none⟩ (.bool x107))) := (((((((((Turn.refl (fun k => k = w.heap.size + 1 + 1) v7).set (p := ⟨w.heap.size + 1 + 1, 23, none⟩) rfl (.bool x100)).set (p := ⟨w.heap.size + 1 + 1, 24, none⟩) rfl (.int .i64 x101)).set (p := ⟨w.heap.size + 1 + 1, 25, none⟩) rfl (.int .i64 x102)).set (p := ⟨w.heap.size + 1 + 1, 26, none⟩) rfl (.bool x103)).set (p := ⟨w.heap.size + 1 + 1, 27, none⟩) rfl (.int .i64 x104)).set (p := ⟨w.heap.size + 1 + 1, 28, none⟩) rfl (.int .i64 x105)).set (p := ⟨w.heap.size + 1 + 1, 29, none⟩) rfl (.int .i64 x106)).set (p := ⟨w.heap.size + 1 + 1, 30, none⟩) rfl (.bool x107))
  have X1_7 := Lib.hid (bx_turned W1.out hTu HAO.out)
  have X2_7 := Lib.hid (bx_turned W2.out hTu HRO.out)
  have Y0 : Hid (Bx 42 (w.heap.size + 1 + 1) #[.slice bx00 x00.length qx00, .int .i64 x01, .int .i64 x02, .int .i64 x03, .int .i64 x04, .int .i64 x05, .int .i64 x1, .slice bx2 x2.length qx2, .int .i64 x30, .int .i64 x31, .slice bx4 x4.length qx4, .slice bx5 x5.length qx5, .int .i64 x6, .int .i64 x7, .int .i64 x8, .bool x90, .int .i64 x91, .int .i64 x92, .bool x93, .int .i64 x94, .int .i64 x95, .int .i64 x96, .bool x97, .bool x100, .int .i64 0, .int .i64 0, .bool false, .int .i64 0, .int .i64 0, .int .i64 0, .bool false, .slice none 0 0, .slice none 0 0, .int .i64 0, .slice none 0 0, .int .i64 0, .slice none 0 0] ((v7.setCell ⟨w.heap.size + 1 + 1, 23, none⟩ (.bool x100)))) := Lib.hid (W3.out.set 23 (.bool x100))
  have Y1 : Hid (Bx 42 (w.heap.size + 1 + 1) #[.slice bx00 x00.length qx00, .int .i64 x01, .int .i64 x02, .int .i64 x03, .int .i64 x04, .int .i64 x05, .int .i64 x1, .slice bx2 x2.length qx2, .int .i64 x30, .int .i64 x31, .slice bx4 x4.length qx4, .slice bx5 x5.length qx5, .int .i64 x6, .int .i64 x7, .int .i64 x8, .bool x90, .int .i64 x91, .int .i64 x92, .bool x93, .int .i64 x94, .int .i64 x95, .int .i64 x96, .bool x97, .bool x100, .int .i64 x101, .int .i64 0, .bool false, .int .i64 0, .int .i64 0, .int .i64 0, .bool false, .slice none 0 0, .slice none 0 0, .int .i64 0, .slice none 0 0, .int .i64 0, .slice none 0 0] (((v7.setCell ⟨w.heap.size + 1 + 1, 23, none⟩ (.bool x100)).setCell ⟨w.heap.size + 1 + 1, 24, none⟩ (.int .i64 x101)))) := Lib.hid (Y0.out.set 24 (.int .i64 x101))
  clear Y0
  have Y2 : Hid (Bx 42 (w.heap.size + 1 + 1) #[.slice bx00 x00.length qx00, .int .i64 x01, .int .i64 x02, .int .i64 x03, .int .i64 x04, .int .i64 x05, .int .i64 x1, .slice bx2 x2.length qx2, .int .i64 x30, .int .i64 x31, .slice bx4 x4.length qx4, .slice bx5 x5.length qx5, .int .i64 x6, .int .i64 x7, .int .i64 x8, .bool x90, .int .i64 x91, .int .i64 x92, .bool x93, .int .i64 x94, .int .i64 x95, .int .i64 x96, .bool x97, .bool x100, .int .i64 x101, .int .i64 x102, .bool false, .int .i64 0, .int .i64 0, .int .i64 0, .bool false, .slice none 0 0, .slice none 0 0, .int .i64 0, .slice none 0 0, .int .i64 0, .slice none 0 0] ((((v7.setCell ⟨w.heap.size + 1 + 1, 23, none⟩ (.bool x100)).setCell ⟨w.heap.size + 1 + 1, 24, none⟩ (.int .i64 x101)).setCell ⟨w.heap.size + 1 + 1, 25, none⟩ (.int .i64 x102)))) := Lib.hid (Y1.out.set 25 (.int .i64 x102))
  clear Y1
  have Y3 : Hid (Bx 42 (w.heap.size + 1 + 1) #[.slice bx00 x00.length qx00, .int .i64 x01, .int .i64 x02, .int .i64 x03, .int .i64 x04, .int .i64 x05, .int .i64 x1, .slice bx2 x2.length qx2, .int .i64 x30, .int .i64 x31, .slice bx4 x4.length qx4, .slice bx5 x5.length qx5, .int .i64 x6, .int .i64 x7, .int .i64 x8, .bool x90, .int .i64 x91, .int .i64 x92, .bool x93, .int .i64 x94, .int .i64 x95, .int .i64 x96, .bool x97, .bool x100, .int .i64 x101, .int .i64 x102, .bool x103, .int .i64 0, .int .i64 0, .int .i64 0, .bool false, .slice none 0 0, .slice none 0 0, .int .i64 0, .slice none 0 0, .int .i64 0, .slice none 0 0] (((((v7.setCell ⟨w.heap.size + 1 + 1, 23, none⟩ (.bool x100)).setCell ⟨w.heap.size + 1 + 1, 24, none⟩ (.int .i64 x101)).setCell ⟨w.heap.size + 1 + 1, 25, none⟩ (.int .i64 x102)).setCell ⟨w.heap.size + 1 + 1, 26, none⟩ (.bool x103)))) := Lib.hid (Y2.out.set 26 (.bool x103))
  clear Y2
  have Y4 : Hid (Bx 42 (w.heap.size + 1 + 1) #[.slice bx00 x00.length qx00, .int .i64 x01, .int .i64 x02, .int .i64 x03, .int .i64 x04, .int .i64 x05, .int .i64 x1, .slice bx2 x2.length qx2, .int .i64 x30, .int .i64 x31, .slice bx4 x4.length qx4, .slice bx5 x5.length qx5, .int .i64 x6, .int .i64 x7, .int .i64 x8, .bool x90, .int .i64 x91, .int .i64 x92, .bool x93, .int .i64 x94, .int .i64 x95, .int .i64 x96, .bool x97, .bool x100, .int .i64 x101, .int .i64 x102, .bool x103, .int .i64 x104, .int .i64 0, .int .i64 0, .bool false, .slice none 0 0, .slice none 0 0, .int .i64 0, .slice none 0 0, .int .i64 0, .slice none 0 0] ((((((v7.setCell ⟨w.heap.size + 1 + 1, 23, none⟩ (.bool x100)).setCell ⟨w.heap.size + 1 + 1, 24, none⟩ (.int .i64 x101)).setCell ⟨w.heap.size + 1 + 1, 25, none⟩ (.int .i64 x102)).setCell ⟨w.heap.size + 1 + 1, 26, none⟩ (.bool x103)).setCell ⟨w.heap.size + 1 + 1, 27, none⟩ (.int .i64 x104)))) := Lib.hid (Y3.out.set 27 (.int .i64 x104))
  clear Y3
  have Y5 : Hid (Bx 42 (w.heap.size + 1 + 1) #[.slice bx00 x00.length qx00, .int .i64 x01, .int .i64 x02, .int .i64 x03, .int .i64 x04, .int .i64 x05, .int .i64 x1, .slice bx2 x2.length qx2, .int .i64 x30, .int .i64 x31, .slice bx4 x4.length qx4, .slice bx5 x5.length qx5, .int .i64 x6, .int .i64 x7, .int .i64 x8, .bool x90, .int .i64 x91, .int .i64 x92, .bool x93, .int .i64 x94, .int .i64 x95, .int .i64 x96, .bool x97, .bool x100, .int .i64 x101, .int .i64 x102, .bool x103, .int .i64 x104, .int .i64 x105, .int .i64 0, .bool false, .slice none 0 0, .slice none 0 0, .int .i64 0, .slice none 0 0, .int .i64 0, .slice none 0 0] (((((((v7.setCell ⟨w.heap.size + 1 + 1, 23, none⟩ (.bool x100)).setCell ⟨w.heap.size + 1 + 1, 24, none⟩ (.int .i64 x101)).setCell ⟨w.heap.size + 1 + 1, 25, none⟩ (.int .i64 x102)).setCell ⟨w.heap.size + 1 + 1, 26, none⟩ (.bool x103)).setCell ⟨w.heap.size + 1 + 1, 27, none⟩ (.int .i64 x104)).setCell ⟨w.heap.size + 1 + 1, 28, none⟩ (.int .i64 x105)))) := Lib.hid (Y4.out.set 28 (.int .i64 x105))
  clear Y4
  have Y6 : Hid (Bx 42 (w.heap.size + 1 + 1) #[.slice bx00 x00.length qx00, .int .i64 x01, .int .i64 x02, .int .i64 x03, .int .i64 x04, .int .i64 x05, .int .i64 x1, .slice bx2 x2.length qx2, .int .i64 x30, .int .i64 x31, .slice bx4 x4.length qx4, .slice bx5 x5.length qx5, .int .i64 x6, .int .i64 x7, .int .i64 x8, .bool x90, .int .i64 x91, .int .i64 x92, .bool x93, .int .i64 x94, .int .i64 x95, .int .i64 x96, .bool x97, .bool x100, .int .i64 x101, .int .i64 x102, .bool x103, .int .i64 x104, .int .i64 x105, .int .i64 x106, .bool false, .slice none 0 0, .slice none 0 0, .int .i64 0, .slice none 0 0, .int .i64 0, .slice none 0 0] ((((((((v7.setCell ⟨w.heap.size + 1 + 1, 23, none⟩ (.bool x100)).setCell ⟨w.heap.size + 1 + 1, 24, none⟩ (.int .i64 x101)).setCell ⟨w.heap.size + 1 + 1, 25, none⟩ (.int .i64 x102)).setCell ⟨w.heap.size + 1 + 1, 26, none⟩ (.bool x103)).setCell ⟨w.heap.size + 1 + 1, 27, none⟩ (.int .i64 x104)).setCell ⟨w.heap.size + 1 + 1, 28, none⟩ (.int .i64 x105)).setCell ⟨w.heap.size + 1 + 1, 29, none⟩ (.int .i64 x106)))) := Lib.hid (Y5.out.set 29 (.int .i64 x106))
  clear Y5
  have Y7 : Hid (Bx 42 (w.heap.size + 1 + 1) #[.slice bx00 x00.length qx00, .int .i64 x01, .int .i64 x02, .int .i64 x03, .int .i64 x04, .int .i64 x05, .int .i64 x1, .slice bx2 x2.length qx2, .int .i64 x30, .int .i64 x31, .slice bx4 x4.length qx4, .slice bx5 x5.length qx5, .int .i64 x6, .int .i64 x7, .int .i64 x8, .bool x90, .int .i64 x91, .int .i64 x92, .bool x93, .int .i64 x94, .int .i64 x95, .int .i64 x96, .bool x97, .bool x100, .int .i64 x101, .int .i64 x102, .bool x103, .int .i64 x104, .int .i64 x105, .int .i64 x106, .bool x107, .slice none 0 0, .slice none 0 0, .int .i64 0, .slice none 0 0, .int .i64 0, .slice none 0 0] (((((((((v7.setCell ⟨w.heap.size + 1 + 1, 23, none⟩ (.bool x100)).setCell ⟨w.heap.size + 1 + 1, 24, none⟩ (.int .i64 x101)).setCell ⟨w.heap.size + 1 + 1, 25, none⟩ (.int .i64 x102)).setCell ⟨w.heap.size + 1 + 1, 26, none⟩ (.bool x103)).setCell ⟨w.heap.size + 1 + 1, 27, none⟩ (.int .i64 x104)).setCell ⟨w.heap.size + 1 + 1, 28, none⟩ (.int .i64 x105)).setCell ⟨w.heap.size + 1 + 1, 29, none⟩ (.int .i64 x106)).setCell ⟨w.heap.size + 1 + 1, 30, none⟩ (.bool x107)))) := Lib.hid (Y6.out.set 30 (.bool x107))
  clear Y6
  have X3_7 := Y7
  clear Y7
  have HB_7 := Lib.hid (WB.out.trans (hTu.below WB.out.size (fun k hk => hk ▸ HLO.out)))
  have Ux0_7 := Lib.hid (confK.cap_turn Vx0.out hTu (fun k _ h1 h2 => Hn0.out (h2 ▸ h1.1)))
  have Ux2_7 := Lib.hid (mstS.cap_turn Vx2.out hTu (fun k _ h1 h2 => Hn1.out (h2 ▸ h1.1)))
  have Ux4_7 := Lib.hid (bucketS.cap_turn Vx4.out hTu (fun k _ h1 h2 => Hn3.out (h2 ▸ h1.1)))
  have Ux5_7 := Lib.hid (ints.cap_turn Vx5.out hTu (fun k _ h1 h2 => Hn4.out (h2 ▸ h1.1)))
  have Hy7 := Lib.hid (Nat.le_trans Wz.out hTu.size)
  have Hv7_7 := Lib.hid hTu.size
  have Hv1_7 := Lib.hid (Nat.le_trans Hv1_6.out (Nat.le_trans Ws.out hTu.size))
  have Hv2_7 := Lib.hid (Nat.le_trans Hv2_6.out (Nat.le_trans Ws.out hTu.size))
  have Hv3_7 := Lib.hid (Nat.le_trans Hv3_6.out (Nat.le_trans Ws.out hTu.size))
  have Hv4_7 := Lib.hid (Nat.le_trans Hv4_6.out (Nat.le_trans Ws.out hTu.size))
  have Hv5_7 := Lib.hid (Nat.le_trans Hv5_6.out (Nat.le_trans Ws.out hTu.size))
  have Hv6_7 := Lib.hid (Nat.le_trans Hv6_6.out (Nat.le_trans Ws.out hTu.size))
  clear hTu
  clear W1 W2 W3 WB Wz Ws Vx0 Vx2 Vx4 Vx5 Hv1_6 Hv2_6 Hv3_6 Hv4_6 Hv5_6 Hv6_6
  go_wp2_with fail
  clear g23 g24 g25 g26 g27 g28 g29 g30 a31 a32 a33 a34 z23 z24 z25 z26 z27 z28 z29 z30
  generalize ((((((((v7.setCell ⟨w.heap.size + 1 + 1, 23, none⟩ (.bool x100)).setCell ⟨w.heap.size + 1 + 1, 24, none⟩ (.int .i64 x101)).setCell ⟨w.heap.size + 1 + 1, 25, none⟩ (.int .i64 x102)).setCell ⟨w.heap.size + 1 + 1, 26, none⟩ (.bool x103)).setCell ⟨w.heap.size + 1 + 1, 27, none⟩ (.int .i64 x104)).setCell ⟨w.heap.size + 1 + 1, 28, none⟩ (.int .i64 x105)).setCell ⟨w.heap.size + 1 + 1, 29, none⟩ (.int .i64 x106)).setCell ⟨w.heap.size + 1 + 1, 30, none⟩ (.bool x107)) = y7 at X1_7 X2_7 X3_7 HB_7 Hy7 Hv1_7 Hv2_7 Hv3_7 Hv4_7 Hv5_7 Hv6_7 Hv7_7 Ux0_7 Ux2_7 Ux4_7 Ux5_7 ⊢
  refine (toModel [.slice ax110 x110.length px110, .slice ax1110 x1110.length px1110, .int .i64 x1111, .slice ax1112 x1112.length px1112] (x110, (x1110, x1111, x1112)) _ (by omega) (model_rd (ints.rd_later Rx110.out HB_7.out) (ints.rd_later Rx1110.out HB_7.out) (ints.rd_later Rx1112.out HB_7.out))).mono ?_
  rintro e v8 ⟨us, he, hc, hb⟩
  obtain ⟨bx110, qx110, bx1110, qx1110, bx1112, qx1112, rfl, _, _, _⟩ := model_form (modelK.cap_rd hc)
  obtain rfl : e = .returned (.agg #[.slice bx110 x110.length qx110, .slice bx1110 x1110.length qx1110, .int .i64 x1111, .slice bx1112 x1112.length qx1112]) := he
  have Vx0 := Lib.hid (confK.cap_later Ux0_7.out hb)
  have Vx2 := Lib.hid (mstS.cap_later Ux2_7.out hb)
  have Vx4 := Lib.hid (bucketS.cap_later Ux4_7.out hb)
  have Vx5 := Lib.hid (ints.cap_later Ux5_7.out hb)
  have Vx11 := Lib.hid (modelK.cap_wide (modelK.cap_top hc) (G := fun k => y7.heap.size ≤ k ∧ k < v8.heap.size) (fun k _ hk => hk))
  have W1 := Lib.hid (X1_7.out.later hb)
  have W2 := Lib.hid (X2_7.out.later hb)
  have W3 := Lib.hid (X3_7.out.later hb)
  have WB := Lib.hid (HB_7.out.trans (hb.mono HB_7.out.size))
  have Wz := Lib.hid (Nat.le_trans Hy7.out hb.size)
  have Ws := Lib.hid hb.size
  have Wy7 := Lib.hid Hy7.out
  clear hc hb X1_7 X2_7 X3_7 HB_7 Ux0_7 Ux2_7 Ux4_7 Ux5_7
  have g31 := W3.out.cell 31 _ rfl
  have g32 := W3.out.cell 32 _ rfl
  have g33 := W3.out.cell 33 _ rfl
  have g34 := W3.out.cell 34 _ rfl
  have g35 := W3.out.cell 35 _ rfl
  have a35 := W1.out.cell 35 _ rfl
  have a36 := W1.out.cell 36 _ rfl
  have z31 := W3.out.warm 31
  have z32 := W3.out.warm 32
  have z33 := W3.out.warm 33
  have z34 := W3.out.warm 34
  have z35 := W3.out.warm 35
  have hTu : Turn (fun k => k = w.heap.size + 1 + 1) v8 ((((((v8.setCell ⟨w.heap.size + 1 + 1, 31, none⟩ (.slice bx110 x110.length qx110)).setCell ⟨w.heap.size + 1 + 1, 32, none⟩ (.slice bx1110 x1110.length qx1110)).setCell ⟨w.heap.size + 1 + 1, 33, none⟩ (.int .i64 x1111)).setCell ⟨w.heap.size + 1 + 1, 34, none⟩ (.slice bx1112 x1112.length qx1112)).setCell ⟨w.heap.size + 1 + 1, 35, none⟩ (.int .i64 x12))) := ((((((Turn.refl (fun k => k = w.heap.size + 1 + 1) v8).set (p := ⟨w.heap.size + 1 + 1, 31, none⟩) rfl (.slice bx110 x110.length qx110)).set (p := ⟨w.heap.size + 1 + 1, 32, none⟩) rfl (.slice bx1110 x1110.length qx1110)).set (p := ⟨w.heap.size + 1 + 1, 33, none⟩) rfl (.int .i64 x1111)).set (p := ⟨w.heap.size + 1 + 1, 34, none⟩) rfl (.slice bx1112 x1112.length qx1112)).set (p := ⟨w.heap.size + 1 + 1, 35, none⟩) rfl (.int .i64 x12))
  have X1_8 := Lib.hid (bx_turned W1.out hTu HAO.out)
  have X2_8 := Lib.hid (bx_turned W2.out hTu HRO.out)
  have Y0 : Hid (Bx 42 (w.heap.size + 1 + 1) #[.slice bx00 x00.length qx00, .int .i64 x01, .int .i64 x02, .int .i64 x03, .int .i64 x04, .int .i64 x05, .int .i64 x1, .slice bx2 x2.length qx2, .int .i64 x30, .int .i64 x31, .slice bx4 x4.length qx4, .slice bx5 x5.length qx5, .int .i64 x6, .int .i64 x7, .int .i64 x8, .bool x90, .int .i64 x91, .int .i64 x92, .bool x93, .int .i64 x94, .int .i64 x95, .int .i64 x96, .bool x97, .bool x100, .int .i64 x101, .int .i64 x102, .bool x103, .int .i64 x104, .int .i64 x105, .int .i64 x106, .bool x107, .slice bx110 x110.length qx110, .slice none 0 0, .int .i64 0, .slice none 0 0, .int .i64 0, .slice none 0 0] ((v8.setCell ⟨w.heap.size + 1 + 1, 31, none⟩ (.slice bx110 x110.length qx110)))) := Lib.hid (W3.out.set 31 (.slice bx110 x110.length qx110))
  have Y1 : Hid (Bx 42 (w.heap.size + 1 + 1) #[.slice bx00 x00.length qx00, .int .i64 x01, .int .i64 x02, .int .i64 x03, .int .i64 x04, .int .i64 x05, .int .i64 x1, .slice bx2 x2.length qx2, .int .i64 x30, .int .i64 x31, .slice bx4 x4.length qx4, .slice bx5 x5.length qx5, .int .i64 x6, .int .i64 x7, .int .i64 x8, .bool x90, .int .i64 x91, .int .i64 x92, .bool x93, .int .i64 x94, .int .i64 x95, .int .i64 x96, .bool x97, .bool x100, .int .i64 x101, .int .i64 x102, .bool x103, .int .i64 x104, .int .i64 x105, .int .i64 x106, .bool x107, .slice bx110 x110.length qx110, .slice bx1110 x1110.length qx1110, .int .i64 0, .slice none 0 0, .int .i64 0, .slice none 0 0] (((v8.setCell ⟨w.heap.size + 1 + 1, 31, none⟩ (.slice bx110 x110.length qx110)).setCell ⟨w.heap.size + 1 + 1, 32, none⟩ (.slice bx1110 x1110.length qx1110)))) := Lib.hid (Y0.out.set 32 (.slice bx1110 x1110.length qx1110))
  clear Y0
  have Y2 : Hid (Bx 42 (w.heap.size + 1 + 1) #[.slice bx00 x00.length qx00, .int .i64 x01, .int .i64 x02, .int .i64 x03, .int .i64 x04, .int .i64 x05, .int .i64 x1, .slice bx2 x2.length qx2, .int .i64 x30, .int .i64 x31, .slice bx4 x4.length qx4, .slice bx5 x5.length qx5, .int .i64 x6, .int .i64 x7, .int .i64 x8, .bool x90, .int .i64 x91, .int .i64 x92, .bool x93, .int .i64 x94, .int .i64 x95, .int .i64 x96, .bool x97, .bool x100, .int .i64 x101, .int .i64 x102, .bool x103, .int .i64 x104, .int .i64 x105, .int .i64 x106, .bool x107, .slice bx110 x110.length qx110, .slice bx1110 x1110.length qx1110, .int .i64 x1111, .slice none 0 0, .int .i64 0, .slice none 0 0] ((((v8.setCell ⟨w.heap.size + 1 + 1, 31, none⟩ (.slice bx110 x110.length qx110)).setCell ⟨w.heap.size + 1 + 1, 32, none⟩ (.slice bx1110 x1110.length qx1110)).setCell ⟨w.heap.size + 1 + 1, 33, none⟩ (.int .i64 x1111)))) := Lib.hid (Y1.out.set 33 (.int .i64 x1111))
  clear Y1
  have Y3 : Hid (Bx 42 (w.heap.size + 1 + 1) #[.slice bx00 x00.length qx00, .int .i64 x01, .int .i64 x02, .int .i64 x03, .int .i64 x04, .int .i64 x05, .int .i64 x1, .slice bx2 x2.length qx2, .int .i64 x30, .int .i64 x31, .slice bx4 x4.length qx4, .slice bx5 x5.length qx5, .int .i64 x6, .int .i64 x7, .int .i64 x8, .bool x90, .int .i64 x91, .int .i64 x92, .bool x93, .int .i64 x94, .int .i64 x95, .int .i64 x96, .bool x97, .bool x100, .int .i64 x101, .int .i64 x102, .bool x103, .int .i64 x104, .int .i64 x105, .int .i64 x106, .bool x107, .slice bx110 x110.length qx110, .slice bx1110 x1110.length qx1110, .int .i64 x1111, .slice bx1112 x1112.length qx1112, .int .i64 0, .slice none 0 0] (((((v8.setCell ⟨w.heap.size + 1 + 1, 31, none⟩ (.slice bx110 x110.length qx110)).setCell ⟨w.heap.size + 1 + 1, 32, none⟩ (.slice bx1110 x1110.length qx1110)).setCell ⟨w.heap.size + 1 + 1, 33, none⟩ (.int .i64 x1111)).setCell ⟨w.heap.size + 1 + 1, 34, none⟩ (.slice bx1112 x1112.length qx1112)))) := Lib.hid (Y2.out.set 34 (.slice bx1112 x1112.length qx1112))
  clear Y2
  have Y4 : Hid (Bx 42 (w.heap.size + 1 + 1) #[.slice bx00 x00.length qx00, .int .i64 x01, .int .i64 x02, .int .i64 x03, .int .i64 x04, .int .i64 x05, .int .i64 x1, .slice bx2 x2.length qx2, .int .i64 x30, .int .i64 x31, .slice bx4 x4.length qx4, .slice bx5 x5.length qx5, .int .i64 x6, .int .i64 x7, .int .i64 x8, .bool x90, .int .i64 x91, .int .i64 x92, .bool x93, .int .i64 x94, .int .i64 x95, .int .i64 x96, .bool x97, .bool x100, .int .i64 x101, .int .i64 x102, .bool x103, .int .i64 x104, .int .i64 x105, .int .i64 x106, .bool x107, .slice bx110 x110.length qx110, .slice bx1110 x1110.length qx1110, .int .i64 x1111, .slice bx1112 x1112.length qx1112, .int .i64 x12, .slice none 0 0] ((((((v8.setCell ⟨w.heap.size + 1 + 1, 31, none⟩ (.slice bx110 x110.length qx110)).setCell ⟨w.heap.size + 1 + 1, 32, none⟩ (.slice bx1110 x1110.length qx1110)).setCell ⟨w.heap.size + 1 + 1, 33, none⟩ (.int .i64 x1111)).setCell ⟨w.heap.size + 1 + 1, 34, none⟩ (.slice bx1112 x1112.length qx1112)).setCell ⟨w.heap.size + 1 + 1, 35, none⟩ (.int .i64 x12)))) := Lib.hid (Y3.out.set 35 (.int .i64 x12))
  clear Y3
  have X3_8 := Y4
  clear Y4
  have HB_8 := Lib.hid (WB.out.trans (hTu.below WB.out.size (fun k hk => hk ▸ HLO.out)))
  have Hn7 := Lib.hid (Nat.not_le_of_lt (Nat.lt_of_succ_le Wy7.out))
  have Ux0_8 := Lib.hid (confK.cap_turn Vx0.out hTu (fun k _ h1 h2 => Hn0.out (h2 ▸ h1.1)))
  have Ux2_8 := Lib.hid (mstS.cap_turn Vx2.out hTu (fun k _ h1 h2 => Hn1.out (h2 ▸ h1.1)))
  have Ux4_8 := Lib.hid (bucketS.cap_turn Vx4.out hTu (fun k _ h1 h2 => Hn3.out (h2 ▸ h1.1)))
  have Ux5_8 := Lib.hid (ints.cap_turn Vx5.out hTu (fun k _ h1 h2 => Hn4.out (h2 ▸ h1.1)))
  have Ux11_8 := Lib.hid (modelK.cap_turn Vx11.out hTu (fun k _ h1 h2 => Hn7.out (h2 ▸ h1.1)))
  have Hy8 := Lib.hid (Nat.le_trans Wz.out hTu.size)
  have Hv8_8 := Lib.hid hTu.size
  have Hv1_8 := Lib.hid (Nat.le_trans Hv1_7.out (Nat.le_trans Ws.out hTu.size))
  have Hv2_8 := Lib.hid (Nat.le_trans Hv2_7.out (Nat.le_trans Ws.out hTu.size))
  have Hv3_8 := Lib.hid (Nat.le_trans Hv3_7.out (Nat.le_trans Ws.out hTu.size))
  have Hv4_8 := Lib.hid (Nat.le_trans Hv4_7.out (Nat.le_trans Ws.out hTu.size))
  have Hv5_8 := Lib.hid (Nat.le_trans Hv5_7.out (Nat.le_trans Ws.out hTu.size))
  have Hv6_8 := Lib.hid (Nat.le_trans Hv6_7.out (Nat.le_trans Ws.out hTu.size))
  have Hv7_8 := Lib.hid (Nat.le_trans Hv7_7.out (Nat.le_trans Ws.out hTu.size))
  clear hTu
  have Hs1_7 := Hv1_7
  have Hs2_7 := Hv2_7
  have Hs4_7 := Hv4_7
  have Hs5_7 := Hv5_7
  clear W1 W2 W3 WB Wz Ws Vx0 Vx2 Vx4 Vx5 Vx11 Hv1_7 Hv2_7 Hv3_7 Hv4_7 Hv5_7 Hv6_7 Hv7_7
  go_wp2_with fail
  clear g31 g32 g33 g34 g35 a35 a36 z31 z32 z33 z34 z35
  generalize (((((v8.setCell ⟨w.heap.size + 1 + 1, 31, none⟩ (.slice bx110 x110.length qx110)).setCell ⟨w.heap.size + 1 + 1, 32, none⟩ (.slice bx1110 x1110.length qx1110)).setCell ⟨w.heap.size + 1 + 1, 33, none⟩ (.int .i64 x1111)).setCell ⟨w.heap.size + 1 + 1, 34, none⟩ (.slice bx1112 x1112.length qx1112)).setCell ⟨w.heap.size + 1 + 1, 35, none⟩ (.int .i64 x12)) = y8 at X1_8 X2_8 X3_8 HB_8 Hy8 Hv1_8 Hv2_8 Hv3_8 Hv4_8 Hv5_8 Hv6_8 Hv7_8 Hv8_8 Ux0_8 Ux2_8 Ux4_8 Ux5_8 Ux11_8 ⊢
  refine (toDoneS [.slice ax13 x13.length px13] x13 _ (by omega) (doneS.rd_later Rx13.out HB_8.out)).mono ?_
  rintro e v9 ⟨us, he, hc, hb⟩
  obtain ⟨bx13, qx13, rfl, _⟩ := doneS.cap_rd hc
  obtain rfl : e = .returned (.slice bx13 x13.length qx13) := he
  have Vx0 := Lib.hid (confK.cap_later Ux0_8.out hb)
  have Vx2 := Lib.hid (mstS.cap_later Ux2_8.out hb)
  have Vx4 := Lib.hid (bucketS.cap_later Ux4_8.out hb)
  have Vx5 := Lib.hid (ints.cap_later Ux5_8.out hb)
  have Vx11 := Lib.hid (modelK.cap_later Ux11_8.out hb)
  have Vx13 := Lib.hid (doneS.cap_wide (doneS.cap_top hc) (G := fun k => y8.heap.size ≤ k ∧ k < v9.heap.size) (fun k _ hk => hk))
  have W1 := Lib.hid (X1_8.out.later hb)
  have W2 := Lib.hid (X2_8.out.later hb)
  have W3 := Lib.hid (X3_8.out.later hb)
  have WB := Lib.hid (HB_8.out.trans (hb.mono HB_8.out.size))
  have Wz := Lib.hid (Nat.le_trans Hy8.out hb.size)
  have Ws := Lib.hid hb.size
  have Wy8 := Lib.hid Hy8.out
  clear hc hb X1_8 X2_8 X3_8 HB_8 Ux0_8 Ux2_8 Ux4_8 Ux5_8 Ux11_8
  have g36 := W3.out.cell 36 _ rfl
  have z36 := W3.out.warm 36
  have hTu : Turn (fun k => k = w.heap.size + 1 + 1) v9 ((v9.setCell ⟨w.heap.size + 1 + 1, 36, none⟩ (.slice bx13 x13.length qx13))) := ((Turn.refl (fun k => k = w.heap.size + 1 + 1) v9).set (p := ⟨w.heap.size + 1 + 1, 36, none⟩) rfl (.slice bx13 x13.length qx13))
  have X1_9 := Lib.hid (bx_turned W1.out hTu HAO.out)
  have X2_9 := Lib.hid (bx_turned W2.out hTu HRO.out)
  have Y0 : Hid (Bx 42 (w.heap.size + 1 + 1) #[.slice bx00 x00.length qx00, .int .i64 x01, .int .i64 x02, .int .i64 x03, .int .i64 x04, .int .i64 x05, .int .i64 x1, .slice bx2 x2.length qx2, .int .i64 x30, .int .i64 x31, .slice bx4 x4.length qx4, .slice bx5 x5.length qx5, .int .i64 x6, .int .i64 x7, .int .i64 x8, .bool x90, .int .i64 x91, .int .i64 x92, .bool x93, .int .i64 x94, .int .i64 x95, .int .i64 x96, .bool x97, .bool x100, .int .i64 x101, .int .i64 x102, .bool x103, .int .i64 x104, .int .i64 x105, .int .i64 x106, .bool x107, .slice bx110 x110.length qx110, .slice bx1110 x1110.length qx1110, .int .i64 x1111, .slice bx1112 x1112.length qx1112, .int .i64 x12, .slice bx13 x13.length qx13] ((v9.setCell ⟨w.heap.size + 1 + 1, 36, none⟩ (.slice bx13 x13.length qx13)))) := Lib.hid (W3.out.set 36 (.slice bx13 x13.length qx13))
  have X3_9 := Y0
  clear Y0
  have HB_9 := Lib.hid (WB.out.trans (hTu.below WB.out.size (fun k hk => hk ▸ HLO.out)))
  have Hn8 := Lib.hid (Nat.not_le_of_lt (Nat.lt_of_succ_le Wy8.out))
  have Ux0_9 := Lib.hid (confK.cap_turn Vx0.out hTu (fun k _ h1 h2 => Hn0.out (h2 ▸ h1.1)))
  have Ux2_9 := Lib.hid (mstS.cap_turn Vx2.out hTu (fun k _ h1 h2 => Hn1.out (h2 ▸ h1.1)))
  have Ux4_9 := Lib.hid (bucketS.cap_turn Vx4.out hTu (fun k _ h1 h2 => Hn3.out (h2 ▸ h1.1)))
  have Ux5_9 := Lib.hid (ints.cap_turn Vx5.out hTu (fun k _ h1 h2 => Hn4.out (h2 ▸ h1.1)))
  have Ux11_9 := Lib.hid (modelK.cap_turn Vx11.out hTu (fun k _ h1 h2 => Hn7.out (h2 ▸ h1.1)))
  have Ux13_9 := Lib.hid (doneS.cap_turn Vx13.out hTu (fun k _ h1 h2 => Hn8.out (h2 ▸ h1.1)))
  have Hy9 := Lib.hid (Nat.le_trans Wz.out hTu.size)
  have Hv9_9 := Lib.hid hTu.size
  have Hv1_9 := Lib.hid (Nat.le_trans Hv1_8.out (Nat.le_trans Ws.out hTu.size))
  have Hv2_9 := Lib.hid (Nat.le_trans Hv2_8.out (Nat.le_trans Ws.out hTu.size))
  have Hv3_9 := Lib.hid (Nat.le_trans Hv3_8.out (Nat.le_trans Ws.out hTu.size))
  have Hv4_9 := Lib.hid (Nat.le_trans Hv4_8.out (Nat.le_trans Ws.out hTu.size))
  have Hv5_9 := Lib.hid (Nat.le_trans Hv5_8.out (Nat.le_trans Ws.out hTu.size))
  have Hv6_9 := Lib.hid (Nat.le_trans Hv6_8.out (Nat.le_trans Ws.out hTu.size))
  have Hv7_9 := Lib.hid (Nat.le_trans Hv7_8.out (Nat.le_trans Ws.out hTu.size))
  have Hv8_9 := Lib.hid (Nat.le_trans Hv8_8.out (Nat.le_trans Ws.out hTu.size))
  clear hTu
  have Hs1_8 := Hv1_8
  have Hs2_8 := Hv2_8
  have Hs4_8 := Hv4_8
  have Hs5_8 := Hv5_8
  have Hs8_8 := Hv8_8
  clear W1 W2 W3 WB Wz Ws Vx0 Vx2 Vx4 Vx5 Vx11 Vx13 Hv1_8 Hv2_8 Hv3_8 Hv4_8 Hv5_8 Hv6_8 Hv7_8 Hv8_8
  go_upto_region 16 with fail
  clear g36  z36
  generalize (v9.setCell ⟨w.heap.size + 1 + 1, 36, none⟩ (.slice bx13 x13.length qx13)) = y9 at X1_9 X2_9 X3_9 HB_9 Hy9 Hv1_9 Hv2_9 Hv3_9 Hv4_9 Hv5_9 Hv6_9 Hv7_9 Hv8_9 Hv9_9 Ux0_9 Ux2_9 Ux4_9 Ux5_9 Ux11_9 Ux13_9 ⊢
  obtain ⟨brr, hbrr⟩ : ∃ a : Array Value, #[.slice bx00 x00.length qx00, .int .i64 x01, .int .i64 x02, .int .i64 x03, .int .i64 x04, .int .i64 x05, .int .i64 x1, .slice bx2 x2.length qx2, .int .i64 x30, .int .i64 x31, .slice bx4 x4.length qx4, .slice bx5 x5.length qx5, .int .i64 x6, .int .i64 x7, .int .i64 x8, .bool x90, .int .i64 x91, .int .i64 x92, .bool x93, .int .i64 x94, .int .i64 x95, .int .i64 x96, .bool x97, .bool x100, .int .i64 x101, .int .i64 x102, .bool x103, .int .i64 x104, .int .i64 x105, .int .i64 x106, .bool x107, .slice bx110 x110.length qx110, .slice bx1110 x1110.length qx1110, .int .i64 x1111, .slice bx1112 x1112.length qx1112, .int .i64 x12, .slice bx13 x13.length qx13] = a := ⟨_, rfl⟩
  obtain ⟨zrr, hzrr⟩ : ∃ a : Array Value, #[.slice none 0 0, .int .i64 0, .int .i64 0, .int .i64 0, .int .i64 0, .int .i64 0, .int .i64 0, .slice none 0 0, .int .i64 0, .int .i64 0, .slice none 0 0, .slice none 0 0, .int .i64 0, .int .i64 0, .int .i64 0, .bool false, .int .i64 0, .int .i64 0, .bool false, .int .i64 0, .int .i64 0, .int .i64 0, .bool false, .bool false, .int .i64 0, .int .i64 0, .bool false, .int .i64 0, .int .i64 0, .int .i64 0, .bool false, .slice none 0 0, .slice none 0 0, .int .i64 0, .slice none 0 0, .int .i64 0, .slice none 0 0] = a := ⟨_, rfl⟩
  have B3 : Hid (Bx 42 (w.heap.size + 1 + 1) brr y9) := Lib.hid (by rw [← hbrr]; exact X3_9.out)
  have B2 : Hid (Bx 42 (w.heap.size + 1) zrr y9) := Lib.hid (by rw [← hzrr]; exact X2_9.out)
  have hib : Hid ((Try.prog.info? 42).map (·.size) = some brr.size) := Lib.hid (by rw [← hbrr]; kernel_rfl)
  have hzb : Hid (zrr.size = brr.size) := Lib.hid (by rw [← hbrr, ← hzrr]; rfl)
  have h1b : Hid (brr.all (·.oneCell') = true) := Lib.hid (by rw [← hbrr, List.all_toArray]; rfl)
  have Hbrr := Lib.hid hbrr
  clear hbrr hzrr X3_9 X2_9 X1_9
  go_step
  go_step
  refine wp_load_row 42 _ rfl (w.heap.size + 1 + 1) rfl 42 brr (0, 0) _ B3.out Try.underlying42 rfl hib.out ?_
  go_step
  go_step
  refine wp_store_row 42 _ _ rfl (w.heap.size + 1) brr rfl rfl 42 zrr B2.out hib.out hzb.out h1b.out ?_
  go_wp2_with fail
  have hres := (bx_row (brr := brr) B2.out)
  have hT : Turn (fun k => k = w.heap.size + 1 + 1 ∨ k = w.heap.size + 1) y9 (y9.setRow (w.heap.size + 1) brr) := (Turn.refl _ _).row (.inr rfl) brr
  have hrun := run_loadVar_row (P := Try.prog) _ (w.heap.size + 1) 42 42 brr (0, 0) _ hres Try.underlying42 rfl hib.out
  refine bodyPost_ret (v := .agg brr) (results_cell Try.results16 _ _ (w.heap.size + 1) _ rfl hrun) rfl ⟨[.slice bx00 x00.length qx00, .int .i64 x01, .int .i64 x02, .int .i64 x03, .int .i64 x04, .int .i64 x05, .int .i64 x1, .slice bx2 x2.length qx2, .int .i64 x30, .int .i64 x31, .slice bx4 x4.length qx4, .slice bx5 x5.length qx5, .int .i64 x6, .int .i64 x7, .int .i64 x8, .bool x90, .int .i64 x91, .int .i64 x92, .bool x93, .int .i64 x94, .int .i64 x95, .int .i64 x96, .bool x97, .bool x100, .int .i64 x101, .int .i64 x102, .bool x103, .int .i64 x104, .int .i64 x105, .int .i64 x106, .bool x107, .slice bx110 x110.length qx110, .slice bx1110 x1110.length qx1110, .int .i64 x1111, .slice bx1112 x1112.length qx1112, .int .i64 x12, .slice bx13 x13.length qx13], by (try unfold agg); rw [← Hbrr.out], ?_, ?_⟩
  · skip
    have tx0 : confK.cap (fun k => y0.heap.size ≤ k ∧ k < v1.heap.size) [.slice bx00 x00.length qx00, .int .i64 x01, .int .i64 x02, .int .i64 x03, .int .i64 x04, .int .i64 x05] (x00, x01, x02, x03, x04, x05) (y9.setRow (w.heap.size + 1) brr) := confK.cap_turn Ux0_9.out hT (fun k _ hk he => by have h1 := Wy0.out; have h2 : y0.heap.size ≤ k := hk.1; omega)
    obtain ⟨_, _, Fx00, ecs, tx00, sx00⟩ := cap_conf tx0
    cases ecs
    have tx2 : mstS.cap (fun k => y1.heap.size ≤ k ∧ k < v2.heap.size) [.slice bx2 x2.length qx2] x2 (y9.setRow (w.heap.size + 1) brr) := mstS.cap_turn Ux2_9.out hT (fun k _ hk he => by have h1 := Wy1.out; have h2 : y1.heap.size ≤ k := hk.1; omega)
    have tx4 : bucketS.cap (fun k => y3.heap.size ≤ k ∧ k < v4.heap.size) [.slice bx4 x4.length qx4] x4 (y9.setRow (w.heap.size + 1) brr) := bucketS.cap_turn Ux4_9.out hT (fun k _ hk he => by have h1 := Wy3.out; have h2 : y3.heap.size ≤ k := hk.1; omega)
    have tx5 : ints.cap (fun k => y4.heap.size ≤ k ∧ k < v5.heap.size) [.slice bx5 x5.length qx5] x5 (y9.setRow (w.heap.size + 1) brr) := ints.cap_turn Ux5_9.out hT (fun k _ hk he => by have h1 := Wy4.out; have h2 : y4.heap.size ≤ k := hk.1; omega)
    have tx11 : modelK.cap (fun k => y7.heap.size ≤ k ∧ k < v8.heap.size) [.slice bx110 x110.length qx110, .slice bx1110 x1110.length qx1110, .int .i64 x1111, .slice bx1112 x1112.length qx1112] (x110, (x1110, x1111, x1112)) (y9.setRow (w.heap.size + 1) brr) := modelK.cap_turn Ux11_9.out hT (fun k _ hk he => by have h1 := Wy7.out; have h2 : y7.heap.size ≤ k := hk.1; omega)
    obtain ⟨_, _, _, _, _, _, Fx110, Fx1110, Fx1112, ecs, tx110, tx1110, tx1112, sx110, sx1110, sx1112, ux110_x1110, ux110_x1112, ux1110_x1112⟩ := cap_model tx11
    cases ecs
    have tx13 : doneS.cap (fun k => y8.heap.size ≤ k ∧ k < v9.heap.size) [.slice bx13 x13.length qx13] x13 (y9.setRow (w.heap.size + 1) brr) := doneS.cap_turn Ux13_9.out hT (fun k _ hk he => by have h1 := Wy8.out; have h2 : y8.heap.size ≤ k := hk.1; omega)
    exact bus_cap tx00 tx2 tx4 tx5 tx110 tx1110 tx1112 tx13 (fun k hk => by have h1 := Wy0.out; have h2 : y0.heap.size ≤ k := ((sx00 k hk)).1; omega) (fun k hk => by have h1 := Wy1.out; have h2 : y1.heap.size ≤ k := (hk).1; omega) (fun k hk => by have h1 := Wy3.out; have h2 : y3.heap.size ≤ k := (hk).1; omega) (fun k hk => by have h1 := Wy4.out; have h2 : y4.heap.size ≤ k := (hk).1; omega) (fun k hk => by have h1 := Wy7.out; have h2 : y7.heap.size ≤ k := ((sx110 k hk)).1; omega) (fun k hk => by have h1 := Wy7.out; have h2 : y7.heap.size ≤ k := ((sx1110 k hk)).1; omega) (fun k hk => by have h1 := Wy7.out; have h2 : y7.heap.size ≤ k := ((sx1112 k hk)).1; omega) (fun k hk => by have h1 := Wy8.out; have h2 : y8.heap.size ≤ k := (hk).1; omega) (fun k hk hk2 => by have h1 : k < v1.heap.size := ((sx00 k hk)).2; have h2 : y1.heap.size ≤ k := (hk2).1; have h3 := Hs1_1.out; omega) (fun k hk hk2 => by have h1 : k < v1.heap.size := ((sx00 k hk)).2; have h2 : y3.heap.size ≤ k := (hk2).1; have h3 := Hs1_3.out; omega) (fun k hk hk2 => by have h1 : k < v1.heap.size := ((sx00 k hk)).2; have h2 : y4.heap.size ≤ k := (hk2).1; have h3 := Hs1_4.out; omega) (fun k hk hk2 => by have h1 : k < v1.heap.size := ((sx00 k hk)).2; have h2 : y7.heap.size ≤ k := ((sx110 k hk2)).1; have h3 := Hs1_7.out; omega) (fun k hk hk2 => by have h1 : k < v1.heap.size := ((sx00 k hk)).2; have h2 : y7.heap.size ≤ k := ((sx1110 k hk2)).1; have h3 := Hs1_7.out; omega) (fun k hk hk2 => by have h1 : k < v1.heap.size := ((sx00 k hk)).2; have h2 : y7.heap.size ≤ k := ((sx1112 k hk2)).1; have h3 := Hs1_7.out; omega) (fun k hk hk2 => by have h1 : k < v1.heap.size := ((sx00 k hk)).2; have h2 : y8.heap.size ≤ k := (hk2).1; have h3 := Hs1_8.out; omega) (fun k hk hk2 => by have h1 : k < v2.heap.size := (hk).2; have h2 : y3.heap.size ≤ k := (hk2).1; have h3 := Hs2_3.out; omega) (fun k hk hk2 => by have h1 : k < v2.heap.size := (hk).2; have h2 : y4.heap.size ≤ k := (hk2).1; have h3 := Hs2_4.out; omega) (fun k hk hk2 => by have h1 : k < v2.heap.size := (hk).2; have h2 : y7.heap.size ≤ k := ((sx110 k hk2)).1; have h3 := Hs2_7.out; omega) (fun k hk hk2 => by have h1 : k < v2.heap.size := (hk).2; have h2 : y7.heap.size ≤ k := ((sx1110 k hk2)).1; have h3 := Hs2_7.out; omega) (fun k hk hk2 => by have h1 : k < v2.heap.size := (hk).2; have h2 : y7.heap.size ≤ k := ((sx1112 k hk2)).1; have h3 := Hs2_7.out; omega) (fun k hk hk2 => by have h1 : k < v2.heap.size := (hk).2; have h2 : y8.heap.size ≤ k := (hk2).1; have h3 := Hs2_8.out; omega) (fun k hk hk2 => by have h1 : k < v4.heap.size := (hk).2; have h2 : y4.heap.size ≤ k := (hk2).1; have h3 := Hs4_4.out; omega) (fun k hk hk2 => by have h1 : k < v4.heap.size := (hk).2; have h2 : y7.heap.size ≤ k := ((sx110 k hk2)).1; have h3 := Hs4_7.out; omega) (fun k hk hk2 => by have h1 : k < v4.heap.size := (hk).2; have h2 : y7.heap.size ≤ k := ((sx1110 k hk2)).1; have h3 := Hs4_7.out; omega) (fun k hk hk2 => by have h1 : k < v4.heap.size := (hk).2; have h2 : y7.heap.size ≤ k := ((sx1112 k hk2)).1; have h3 := Hs4_7.out; omega) (fun k hk hk2 => by have h1 : k < v4.heap.size := (hk).2; have h2 : y8.heap.size ≤ k := (hk2).1; have h3 := Hs4_8.out; omega) (fun k hk hk2 => by have h1 : k < v5.heap.size := (hk).2; have h2 : y7.heap.size ≤ k := ((sx110 k hk2)).1; have h3 := Hs5_7.out; omega) (fun k hk hk2 => by have h1 : k < v5.heap.size := (hk).2; have h2 : y7.heap.size ≤ k := ((sx1110 k hk2)).1; have h3 := Hs5_7.out; omega) (fun k hk hk2 => by have h1 : k < v5.heap.size := (hk).2; have h2 : y7.heap.size ≤ k := ((sx1112 k hk2)).1; have h3 := Hs5_7.out; omega) (fun k hk hk2 => by have h1 : k < v5.heap.size := (hk).2; have h2 : y8.heap.size ≤ k := (hk2).1; have h3 := Hs5_8.out; omega) ux110_x1110 ux110_x1112 (fun k hk hk2 => by have h1 : k < v8.heap.size := ((sx110 k hk)).2; have h2 : y8.heap.size ≤ k := (hk2).1; have h3 := Hs8_8.out; omega) ux1110_x1112 (fun k hk hk2 => by have h1 : k < v8.heap.size := ((sx1110 k hk)).2; have h2 : y8.heap.size ≤ k := (hk2).1; have h3 := Hs8_8.out; omega) (fun k hk hk2 => by have h1 : k < v8.heap.size := ((sx1112 k hk)).2; have h2 : y8.heap.size ≤ k := (hk2).1; have h3 := Hs8_8.out; omega)
  · exact below_setRow HB_9.out (by omega) brr
set_option maxHeartbeats 40000000 in
set_option maxRecDepth 100000 in
theorem eqBus : EqC busK agg 9 := by
  intro cs ds x w hs hr hr2
  obtain ⟨⟨x00, x01, x02, x03, x04, x05⟩, x1, x2, ⟨x30, x31⟩, x4, x5, x6, x7, x8, ⟨x90, x91, x92, x93, x94, x95, x96, x97⟩, ⟨x100, x101, x102, x103, x104, x105, x106, x107⟩, ⟨x110, ⟨x1110, x1111, x1112⟩⟩, x12, x13⟩ := x
  rw [bus_sz] at hs
  obtain ⟨ax00, px00, ax2, px2, ax4, px4, ax5, px5, ax110, px110, ax1110, px1110, ax1112, px1112, ax13, px13, rfl, rx00, rx2, rx4, rx5, rx110, rx1110, rx1112, rx13⟩ := bus_form hr
  have Rx00 := Lib.hid rx00
  have Rx2 := Lib.hid rx2
  have Rx4 := Lib.hid rx4
  have Rx5 := Lib.hid rx5
  have Rx110 := Lib.hid rx110
  have Rx1110 := Lib.hid rx1110
  have Rx1112 := Lib.hid rx1112
  have Rx13 := Lib.hid rx13
  clear hr rx00 rx2 rx4 rx5 rx110 rx1110 rx1112 rx13
  obtain ⟨bx00, qx00, bx2, qx2, bx4, qx4, bx5, qx5, bx110, qx110, bx1110, qx1110, bx1112, qx1112, bx13, qx13, rfl, sx00, sx2, sx4, sx5, sx110, sx1110, sx1112, sx13⟩ := bus_form hr2
  have Sx00 := Lib.hid sx00
  have Sx2 := Lib.hid sx2
  have Sx4 := Lib.hid sx4
  have Sx5 := Lib.hid sx5
  have Sx110 := Lib.hid sx110
  have Sx1110 := Lib.hid sx1110
  have Sx1112 := Lib.hid sx1112
  have Sx13 := Lib.hid sx13
  clear hr2 sx00 sx2 sx4 sx5 sx110 sx1110 sx1112 sx13
  obtain ⟨arr, harr⟩ : ∃ a : Array Value, #[.slice ax00 x00.length px00, .int .i64 x01, .int .i64 x02, .int .i64 x03, .int .i64 x04, .int .i64 x05, .int .i64 x1, .slice ax2 x2.length px2, .int .i64 x30, .int .i64 x31, .slice ax4 x4.length px4, .slice ax5 x5.length px5, .int .i64 x6, .int .i64 x7, .int .i64 x8, .bool x90, .int .i64 x91, .int .i64 x92, .bool x93, .int .i64 x94, .int .i64 x95, .int .i64 x96, .bool x97, .bool x100, .int .i64 x101, .int .i64 x102, .bool x103, .int .i64 x104, .int .i64 x105, .int .i64 x106, .bool x107, .slice ax110 x110.length px110, .slice ax1110 x1110.length px1110, .int .i64 x1111, .slice ax1112 x1112.length px1112, .int .i64 x12, .slice ax13 x13.length px13] = a := ⟨_, rfl⟩
  obtain ⟨brr, hbrr⟩ : ∃ a : Array Value, #[.slice bx00 x00.length qx00, .int .i64 x01, .int .i64 x02, .int .i64 x03, .int .i64 x04, .int .i64 x05, .int .i64 x1, .slice bx2 x2.length qx2, .int .i64 x30, .int .i64 x31, .slice bx4 x4.length qx4, .slice bx5 x5.length qx5, .int .i64 x6, .int .i64 x7, .int .i64 x8, .bool x90, .int .i64 x91, .int .i64 x92, .bool x93, .int .i64 x94, .int .i64 x95, .int .i64 x96, .bool x97, .bool x100, .int .i64 x101, .int .i64 x102, .bool x103, .int .i64 x104, .int .i64 x105, .int .i64 x106, .bool x107, .slice bx110 x110.length qx110, .slice bx1110 x1110.length qx1110, .int .i64 x1111, .slice bx1112 x1112.length qx1112, .int .i64 x12, .slice bx13 x13.length qx13] = a := ⟨_, rfl⟩
  obtain ⟨y0, hy0⟩ : ∃ y, (w.alloc (Obj.cells arr 42)).alloc (Obj.cells brr 42) = y := ⟨_, rfl⟩
  have hsz : ∀ (w : World) o, (w.alloc o).heap.size = w.heap.size + 1 := fun w o => by simp
  have A0 : Hid (Bx 42 w.heap.size #[.slice ax00 x00.length px00, .int .i64 x01, .int .i64 x02, .int .i64 x03, .int .i64 x04, .int .i64 x05, .int .i64 x1, .slice ax2 x2.length px2, .int .i64 x30, .int .i64 x31, .slice ax4 x4.length px4, .slice ax5 x5.length px5, .int .i64 x6, .int .i64 x7, .int .i64 x8, .bool x90, .int .i64 x91, .int .i64 x92, .bool x93, .int .i64 x94, .int .i64 x95, .int .i64 x96, .bool x97, .bool x100, .int .i64 x101, .int .i64 x102, .bool x103, .int .i64 x104, .int .i64 x105, .int .i64 x106, .bool x107, .slice ax110 x110.length px110, .slice ax1110 x1110.length px1110, .int .i64 x1111, .slice ax1112 x1112.length px1112, .int .i64 x12, .slice ax13 x13.length px13] y0) := Lib.hid (by rw [← hy0, ← harr]; exact (Bx.new 42 #[.slice ax00 x00.length px00, .int .i64 x01, .int .i64 x02, .int .i64 x03, .int .i64 x04, .int .i64 x05, .int .i64 x1, .slice ax2 x2.length px2, .int .i64 x30, .int .i64 x31, .slice ax4 x4.length px4, .slice ax5 x5.length px5, .int .i64 x6, .int .i64 x7, .int .i64 x8, .bool x90, .int .i64 x91, .int .i64 x92, .bool x93, .int .i64 x94, .int .i64 x95, .int .i64 x96, .bool x97, .bool x100, .int .i64 x101, .int .i64 x102, .bool x103, .int .i64 x104, .int .i64 x105, .int .i64 x106, .bool x107, .slice ax110 x110.length px110, .slice ax1110 x1110.length px1110, .int .i64 x1111, .slice ax1112 x1112.length px1112, .int .i64 x12, .slice ax13 x13.length px13] w).alloc _)
  have X0 : Hid (Bx 42 (w.heap.size + 1) #[.slice bx00 x00.length qx00, .int .i64 x01, .int .i64 x02, .int .i64 x03, .int .i64 x04, .int .i64 x05, .int .i64 x1, .slice bx2 x2.length qx2, .int .i64 x30, .int .i64 x31, .slice bx4 x4.length qx4, .slice bx5 x5.length qx5, .int .i64 x6, .int .i64 x7, .int .i64 x8, .bool x90, .int .i64 x91, .int .i64 x92, .bool x93, .int .i64 x94, .int .i64 x95, .int .i64 x96, .bool x97, .bool x100, .int .i64 x101, .int .i64 x102, .bool x103, .int .i64 x104, .int .i64 x105, .int .i64 x106, .bool x107, .slice bx110 x110.length qx110, .slice bx1110 x1110.length qx1110, .int .i64 x1111, .slice bx1112 x1112.length qx1112, .int .i64 x12, .slice bx13 x13.length qx13] y0) := Lib.hid (by
    have h := Bx.new 42 #[.slice bx00 x00.length qx00, .int .i64 x01, .int .i64 x02, .int .i64 x03, .int .i64 x04, .int .i64 x05, .int .i64 x1, .slice bx2 x2.length qx2, .int .i64 x30, .int .i64 x31, .slice bx4 x4.length qx4, .slice bx5 x5.length qx5, .int .i64 x6, .int .i64 x7, .int .i64 x8, .bool x90, .int .i64 x91, .int .i64 x92, .bool x93, .int .i64 x94, .int .i64 x95, .int .i64 x96, .bool x97, .bool x100, .int .i64 x101, .int .i64 x102, .bool x103, .int .i64 x104, .int .i64 x105, .int .i64 x106, .bool x107, .slice bx110 x110.length qx110, .slice bx1110 x1110.length qx1110, .int .i64 x1111, .slice bx1112 x1112.length qx1112, .int .i64 x12, .slice bx13 x13.length qx13] (w.alloc (Obj.cells arr 42))
    rw [hsz] at h
    rw [← hy0, ← hbrr]; exact h)
  have HB0 : Hid (Below w.heap.size w y0) := Lib.hid (by rw [← hy0]; exact ((Below.refl w.heap.size w).alloc (Nat.le_refl _) _).alloc (by simp) _)
  have nx01 : (x01 != x01) = false := by simp
  have nx02 : (x02 != x02) = false := by simp
  have nx03 : (x03 != x03) = false := by simp
  have nx04 : (x04 != x04) = false := by simp
  have nx05 : (x05 != x05) = false := by simp
  have nx1 : (x1 != x1) = false := by simp
  have nx30 : (x30 != x30) = false := by simp
  have nx31 : (x31 != x31) = false := by simp
  have nx6 : (x6 != x6) = false := by simp
  have nx7 : (x7 != x7) = false := by simp
  have nx8 : (x8 != x8) = false := by simp
  have nx90 : (x90 != x90) = false := by simp
  have nx91 : (x91 != x91) = false := by simp
  have nx92 : (x92 != x92) = false := by simp
  have nx93 : (x93 != x93) = false := by simp
  have nx94 : (x94 != x94) = false := by simp
  have nx95 : (x95 != x95) = false := by simp
  have nx96 : (x96 != x96) = false := by simp
  have nx97 : (x97 != x97) = false := by simp
  have nx100 : (x100 != x100) = false := by simp
  have nx101 : (x101 != x101) = false := by simp
  have nx102 : (x102 != x102) = false := by simp
  have nx103 : (x103 != x103) = false := by simp
  have nx104 : (x104 != x104) = false := by simp
  have nx105 : (x105 != x105) = false := by simp
  have nx106 : (x106 != x106) = false := by simp
  have nx107 : (x107 != x107) = false := by simp
  have nx1111 : (x1111 != x1111) = false := by simp
  have nx12 : (x12 != x12) = false := by simp
  unfold agg
  rw [harr, hbrr]
  clear harr hbrr hsz
  have g0 := A0.out.cell 0 _ rfl
  have g1 := A0.out.cell 1 _ rfl
  have g2 := A0.out.cell 2 _ rfl
  have g3 := A0.out.cell 3 _ rfl
  have g4 := A0.out.cell 4 _ rfl
  have g5 := A0.out.cell 5 _ rfl
  have k0 := X0.out.cell 0 _ rfl
  have k1 := X0.out.cell 1 _ rfl
  have k2 := X0.out.cell 2 _ rfl
  have k3 := X0.out.cell 3 _ rfl
  have k4 := X0.out.cell 4 _ rfl
  have k5 := X0.out.cell 5 _ rfl
  go_enter Try.func9, Try.ntmps9
  go_wp2_with fail
  clear hy0
  clear g0 g1 g2 g3 g4 g5 k0 k1 k2 k3 k4 k5
  refine (eqConf [.slice ax00 x00.length px00, .int .i64 x01, .int .i64 x02, .int .i64 x03, .int .i64 x04, .int .i64 x05] [.slice bx00 x00.length qx00, .int .i64 x01, .int .i64 x02, .int .i64 x03, .int .i64 x04, .int .i64 x05] (x00, x01, x02, x03, x04, x05) _ (by omega) (conf_rd (mConfS.rd_later Rx00.out HB0.out)) (conf_rd (mConfS.rd_later Sx00.out HB0.out))).mono ?_
  rintro e y1 ⟨rfl, hb⟩
  have A1 := Lib.hid (A0.out.later hb)
  have X1 := Lib.hid (X0.out.later hb)
  have HB1 := Lib.hid (HB0.out.trans (hb.mono HB0.out.size))
  clear hb
  have g6 := A1.out.cell 6 _ rfl
  have g7 := A1.out.cell 7 _ rfl
  have k6 := X1.out.cell 6 _ rfl
  have k7 := X1.out.cell 7 _ rfl
  go_wp2_with fail
  clear g6 g7 k6 k7
  refine (eqMstS [.slice ax2 x2.length px2] [.slice bx2 x2.length qx2] x2 _ (by omega) (mstS.rd_later Rx2.out HB1.out) (mstS.rd_later Sx2.out HB1.out)).mono ?_
  rintro e y2 ⟨rfl, hb⟩
  have A2 := Lib.hid (A1.out.later hb)
  have X2 := Lib.hid (X1.out.later hb)
  have HB2 := Lib.hid (HB1.out.trans (hb.mono HB1.out.size))
  clear hb
  have g8 := A2.out.cell 8 _ rfl
  have g9 := A2.out.cell 9 _ rfl
  have k8 := X2.out.cell 8 _ rfl
  have k9 := X2.out.cell 9 _ rfl
  go_wp2_with fail
  clear g8 g9 k8 k9
  refine (eqWrr [.int .i64 x30, .int .i64 x31] [.int .i64 x30, .int .i64 x31] (x30, x31) _ (Nat.zero_le _) wrr_rd wrr_rd).mono ?_
  rintro e y3 ⟨rfl, hb⟩
  have A3 := Lib.hid (A2.out.later hb)
  have X3 := Lib.hid (X2.out.later hb)
  have HB3 := Lib.hid (HB2.out.trans (hb.mono HB2.out.size))
  clear hb
  have g10 := A3.out.cell 10 _ rfl
  have k10 := X3.out.cell 10 _ rfl
  go_wp2_with fail
  clear g10 k10
  refine (eqBucketS [.slice ax4 x4.length px4] [.slice bx4 x4.length qx4] x4 _ (by omega) (bucketS.rd_later Rx4.out HB3.out) (bucketS.rd_later Sx4.out HB3.out)).mono ?_
  rintro e y4 ⟨rfl, hb⟩
  have A4 := Lib.hid (A3.out.later hb)
  have X4 := Lib.hid (X3.out.later hb)
  have HB4 := Lib.hid (HB3.out.trans (hb.mono HB3.out.size))
  clear hb
  have g11 := A4.out.cell 11 _ rfl
  have k11 := X4.out.cell 11 _ rfl
  go_wp2_with fail
  clear g11 k11
  refine (eqIntS [.slice ax5 x5.length px5] [.slice bx5 x5.length qx5] x5 _ (by omega) (ints.rd_later Rx5.out HB4.out) (ints.rd_later Sx5.out HB4.out)).mono ?_
  rintro e y5 ⟨rfl, hb⟩
  have A5 := Lib.hid (A4.out.later hb)
  have X5 := Lib.hid (X4.out.later hb)
  have HB5 := Lib.hid (HB4.out.trans (hb.mono HB4.out.size))
  clear hb
  have g12 := A5.out.cell 12 _ rfl
  have g13 := A5.out.cell 13 _ rfl
  have g14 := A5.out.cell 14 _ rfl
  have g15 := A5.out.cell 15 _ rfl
  have g16 := A5.out.cell 16 _ rfl
  have g17 := A5.out.cell 17 _ rfl
  have g18 := A5.out.cell 18 _ rfl
  have g19 := A5.out.cell 19 _ rfl
  have g20 := A5.out.cell 20 _ rfl
  have g21 := A5.out.cell 21 _ rfl
  have g22 := A5.out.cell 22 _ rfl
  have k12 := X5.out.cell 12 _ rfl
  have k13 := X5.out.cell 13 _ rfl
  have k14 := X5.out.cell 14 _ rfl
  have k15 := X5.out.cell 15 _ rfl
  have k16 := X5.out.cell 16 _ rfl
  have k17 := X5.out.cell 17 _ rfl
  have k18 := X5.out.cell 18 _ rfl
  have k19 := X5.out.cell 19 _ rfl
  have k20 := X5.out.cell 20 _ rfl
  have k21 := X5.out.cell 21 _ rfl
  have k22 := X5.out.cell 22 _ rfl
  go_wp2_with fail
  clear g12 g13 g14 g15 g16 g17 g18 g19 g20 g21 g22 k12 k13 k14 k15 k16 k17 k18 k19 k20 k21 k22
  refine (eqBeat [.bool x90, .int .i64 x91, .int .i64 x92, .bool x93, .int .i64 x94, .int .i64 x95, .int .i64 x96, .bool x97] [.bool x90, .int .i64 x91, .int .i64 x92, .bool x93, .int .i64 x94, .int .i64 x95, .int .i64 x96, .bool x97] (x90, x91, x92, x93, x94, x95, x96, x97) _ (Nat.zero_le _) beat_rd beat_rd).mono ?_
  rintro e y6 ⟨rfl, hb⟩
  have A6 := Lib.hid (A5.out.later hb)
  have X6 := Lib.hid (X5.out.later hb)
  have HB6 := Lib.hid (HB5.out.trans (hb.mono HB5.out.size))
  clear hb
  have g23 := A6.out.cell 23 _ rfl
  have g24 := A6.out.cell 24 _ rfl
  have g25 := A6.out.cell 25 _ rfl
  have g26 := A6.out.cell 26 _ rfl
  have g27 := A6.out.cell 27 _ rfl
  have g28 := A6.out.cell 28 _ rfl
  have g29 := A6.out.cell 29 _ rfl
  have g30 := A6.out.cell 30 _ rfl
  have k23 := X6.out.cell 23 _ rfl
  have k24 := X6.out.cell 24 _ rfl
  have k25 := X6.out.cell 25 _ rfl
  have k26 := X6.out.cell 26 _ rfl
  have k27 := X6.out.cell 27 _ rfl
  have k28 := X6.out.cell 28 _ rfl
  have k29 := X6.out.cell 29 _ rfl
  have k30 := X6.out.cell 30 _ rfl
  go_wp2_with fail
  clear g23 g24 g25 g26 g27 g28 g29 g30 k23 k24 k25 k26 k27 k28 k29 k30
  refine (eqBeat [.bool x100, .int .i64 x101, .int .i64 x102, .bool x103, .int .i64 x104, .int .i64 x105, .int .i64 x106, .bool x107] [.bool x100, .int .i64 x101, .int .i64 x102, .bool x103, .int .i64 x104, .int .i64 x105, .int .i64 x106, .bool x107] (x100, x101, x102, x103, x104, x105, x106, x107) _ (Nat.zero_le _) beat_rd beat_rd).mono ?_
  rintro e y7 ⟨rfl, hb⟩
  have A7 := Lib.hid (A6.out.later hb)
  have X7 := Lib.hid (X6.out.later hb)
  have HB7 := Lib.hid (HB6.out.trans (hb.mono HB6.out.size))
  clear hb
  have g31 := A7.out.cell 31 _ rfl
  have g32 := A7.out.cell 32 _ rfl
  have g33 := A7.out.cell 33 _ rfl
  have g34 := A7.out.cell 34 _ rfl
  have k31 := X7.out.cell 31 _ rfl
  have k32 := X7.out.cell 32 _ rfl
  have k33 := X7.out.cell 33 _ rfl
  have k34 := X7.out.cell 34 _ rfl
  go_wp2_with fail
  clear g31 g32 g33 g34 k31 k32 k33 k34
  refine (eqModel [.slice ax110 x110.length px110, .slice ax1110 x1110.length px1110, .int .i64 x1111, .slice ax1112 x1112.length px1112] [.slice bx110 x110.length qx110, .slice bx1110 x1110.length qx1110, .int .i64 x1111, .slice bx1112 x1112.length qx1112] (x110, (x1110, x1111, x1112)) _ (by omega) (model_rd (ints.rd_later Rx110.out HB7.out) (ints.rd_later Rx1110.out HB7.out) (ints.rd_later Rx1112.out HB7.out)) (model_rd (ints.rd_later Sx110.out HB7.out) (ints.rd_later Sx1110.out HB7.out) (ints.rd_later Sx1112.out HB7.out))).mono ?_
  rintro e y8 ⟨rfl, hb⟩
  have A8 := Lib.hid (A7.out.later hb)
  have X8 := Lib.hid (X7.out.later hb)
  have HB8 := Lib.hid (HB7.out.trans (hb.mono HB7.out.size))
  clear hb
  have g35 := A8.out.cell 35 _ rfl
  have g36 := A8.out.cell 36 _ rfl
  have k35 := X8.out.cell 35 _ rfl
  have k36 := X8.out.cell 36 _ rfl
  go_wp2_with fail
  clear g35 g36 k35 k36
  refine (eqDoneS [.slice ax13 x13.length px13] [.slice bx13 x13.length qx13] x13 _ (by omega) (doneS.rd_later Rx13.out HB8.out) (doneS.rd_later Sx13.out HB8.out)).mono ?_
  rintro e y9 ⟨rfl, hb⟩
  have A9 := Lib.hid (A8.out.later hb)
  have X9 := Lib.hid (X8.out.later hb)
  have HB9 := Lib.hid (HB8.out.trans (hb.mono HB8.out.size))
  clear hb
  go_wp2
  go_ret
  exact ⟨rfl, HB9.out⟩
set_option maxHeartbeats 40000000 in
set_option maxRecDepth 100000 in
theorem markBus : MarkC busK agg 12 := by
  intro F cs x k0 w hs h0 h1 hc
  obtain ⟨⟨x00, x01, x02, x03, x04, x05⟩, x1, x2, ⟨x30, x31⟩, x4, x5, x6, x7, x8, ⟨x90, x91, x92, x93, x94, x95, x96, x97⟩, ⟨x100, x101, x102, x103, x104, x105, x106, x107⟩, ⟨x110, ⟨x1110, x1111, x1112⟩⟩, x12, x13⟩ := x
  rw [bus_sz] at hs
  rw [bus_cT] at h1 ⊢
  rw [bus_mT]
  obtain ⟨c0, r0, G0, L0, rfl, d0, e0, h0, c1, r1, G1, L1, rfl, d1, e1, h1, c2, r2, G2, L2, rfl, d2, e2, h2, c3, r3, G3, L3, rfl, d3, e3, h3, c4, r4, G4, L4, rfl, d4, e4, h4, c5, r5, G5, L5, rfl, d5, e5, h5, c6, r6, G6, L6, rfl, d6, e6, h6, c7, r7, G7, L7, rfl, d7, e7, h7, c8, r8, G8, L8, rfl, d8, e8, h8, c9, r9, G9, L9, rfl, d9, e9, h9, c10, r10, G10, L10, rfl, d10, e10, h10, c11, r11, G11, L11, rfl, d11, e11, h11, c12, r12, G12, L12, rfl, d12, e12, h12, h13⟩ := busK.cap_top hc
  obtain ⟨ax00, px00, rfl, _⟩ := conf_form (confK.cap_rd h0)
  obtain rfl := h1
  have t2 := h2
  obtain ⟨ax2, px2, rfl, _⟩ := t2
  obtain rfl := wrr_form (wrrK.cap_rd h3)
  have t4 := h4
  obtain ⟨ax4, px4, rfl, _⟩ := t4
  have t5 := h5
  obtain ⟨ax5, px5, rfl, _⟩ := t5
  obtain rfl := h6
  obtain rfl := h7
  obtain rfl := h8
  obtain rfl := beat_form (beatK.cap_rd h9)
  obtain rfl := beat_form (beatK.cap_rd h10)
  obtain ⟨ax110, px110, ax1110, px1110, ax1112, px1112, rfl, _, _, _⟩ := model_form (modelK.cap_rd h11)
  obtain rfl := h12
  have t13 := h13
  obtain ⟨ax13, px13, rfl, _⟩ := t13
  have Cx0_0 := Lib.hid h0
  have Sx0 : Hid (∀ k, G0 k → F k ∧ k < w.heap.size) := Lib.hid (fun k hk => (d0 k hk).1)
  have Cx2_0 := Lib.hid h2
  have Sx2 : Hid (∀ k, G2 k → F k ∧ k < w.heap.size) := Lib.hid (fun k hk => (e0 k ((e1 k ((d2 k hk).1)))))
  have Cx4_0 := Lib.hid h4
  have Sx4 : Hid (∀ k, G4 k → F k ∧ k < w.heap.size) := Lib.hid (fun k hk => (e0 k ((e1 k ((e2 k ((e3 k ((d4 k hk).1)))))))))
  have Cx5_0 := Lib.hid h5
  have Sx5 : Hid (∀ k, G5 k → F k ∧ k < w.heap.size) := Lib.hid (fun k hk => (e0 k ((e1 k ((e2 k ((e3 k ((e4 k ((d5 k hk).1)))))))))))
  have Cx11_0 := Lib.hid h11
  have Sx11 : Hid (∀ k, G11 k → F k ∧ k < w.heap.size) := Lib.hid (fun k hk => (e0 k ((e1 k ((e2 k ((e3 k ((e4 k ((e5 k ((e6 k ((e7 k ((e8 k ((e9 k ((e10 k ((d11 k hk).1)))))))))))))))))))))))
  have Cx13_0 := Lib.hid h13
  have Sx13 : Hid (∀ k, L12 k → F k ∧ k < w.heap.size) := Lib.hid (fun k hk => (e0 k ((e1 k ((e2 k ((e3 k ((e4 k ((e5 k ((e6 k ((e7 k ((e8 k ((e9 k ((e10 k ((e11 k ((e12 k hk))))))))))))))))))))))))))
  have Ux0_x2 : Hid (∀ k, G0 k → ¬ G2 k) := Lib.hid (fun k hk hk2 => (d0 k hk).2 ((e1 k ((d2 k hk2).1))))
  have Ux0_x4 : Hid (∀ k, G0 k → ¬ G4 k) := Lib.hid (fun k hk hk2 => (d0 k hk).2 ((e1 k ((e2 k ((e3 k ((d4 k hk2).1))))))))
  have Ux0_x5 : Hid (∀ k, G0 k → ¬ G5 k) := Lib.hid (fun k hk hk2 => (d0 k hk).2 ((e1 k ((e2 k ((e3 k ((e4 k ((d5 k hk2).1))))))))))
  have Ux0_x11 : Hid (∀ k, G0 k → ¬ G11 k) := Lib.hid (fun k hk hk2 => (d0 k hk).2 ((e1 k ((e2 k ((e3 k ((e4 k ((e5 k ((e6 k ((e7 k ((e8 k ((e9 k ((e10 k ((d11 k hk2).1))))))))))))))))))))))
  have Ux0_x13 : Hid (∀ k, G0 k → ¬ L12 k) := Lib.hid (fun k hk hk2 => (d0 k hk).2 ((e1 k ((e2 k ((e3 k ((e4 k ((e5 k ((e6 k ((e7 k ((e8 k ((e9 k ((e10 k ((e11 k ((e12 k hk2)))))))))))))))))))))))))
  have Ux2_x4 : Hid (∀ k, G2 k → ¬ G4 k) := Lib.hid (fun k hk hk2 => (d2 k hk).2 ((e3 k ((d4 k hk2).1))))
  have Ux2_x5 : Hid (∀ k, G2 k → ¬ G5 k) := Lib.hid (fun k hk hk2 => (d2 k hk).2 ((e3 k ((e4 k ((d5 k hk2).1))))))
  have Ux2_x11 : Hid (∀ k, G2 k → ¬ G11 k) := Lib.hid (fun k hk hk2 => (d2 k hk).2 ((e3 k ((e4 k ((e5 k ((e6 k ((e7 k ((e8 k ((e9 k ((e10 k ((d11 k hk2).1))))))))))))))))))
  have Ux2_x13 : Hid (∀ k, G2 k → ¬ L12 k) := Lib.hid (fun k hk hk2 => (d2 k hk).2 ((e3 k ((e4 k ((e5 k ((e6 k ((e7 k ((e8 k ((e9 k ((e10 k ((e11 k ((e12 k hk2)))))))))))))))))))))
  have Ux4_x5 : Hid (∀ k, G4 k → ¬ G5 k) := Lib.hid (fun k hk hk2 => (d4 k hk).2 ((d5 k hk2).1))
  have Ux4_x11 : Hid (∀ k, G4 k → ¬ G11 k) := Lib.hid (fun k hk hk2 => (d4 k hk).2 ((e5 k ((e6 k ((e7 k ((e8 k ((e9 k ((e10 k ((d11 k hk2).1))))))))))))))
  have Ux4_x13 : Hid (∀ k, G4 k → ¬ L12 k) := Lib.hid (fun k hk hk2 => (d4 k hk).2 ((e5 k ((e6 k ((e7 k ((e8 k ((e9 k ((e10 k ((e11 k ((e12 k hk2)))))))))))))))))
  have Ux5_x11 : Hid (∀ k, G5 k → ¬ G11 k) := Lib.hid (fun k hk hk2 => (d5 k hk).2 ((e6 k ((e7 k ((e8 k ((e9 k ((e10 k ((d11 k hk2).1))))))))))))
  have Ux5_x13 : Hid (∀ k, G5 k → ¬ L12 k) := Lib.hid (fun k hk hk2 => (d5 k hk).2 ((e6 k ((e7 k ((e8 k ((e9 k ((e10 k ((e11 k ((e12 k hk2)))))))))))))))
  have Ux11_x13 : Hid (∀ k, G11 k → ¬ L12 k) := Lib.hid (fun k hk hk2 => (d11 k hk).2 ((e12 k hk2)))
  have Dd0 := Lib.hid d0
  have De0 := Lib.hid e0
  have Dd1 := Lib.hid d1
  have De1 := Lib.hid e1
  have Dd2 := Lib.hid d2
  have De2 := Lib.hid e2
  have Dd3 := Lib.hid d3
  have De3 := Lib.hid e3
  have Dd4 := Lib.hid d4
  have De4 := Lib.hid e4
  have Dd5 := Lib.hid d5
  have De5 := Lib.hid e5
  have Dd6 := Lib.hid d6
  have De6 := Lib.hid e6
  have Dd7 := Lib.hid d7
  have De7 := Lib.hid e7
  have Dd8 := Lib.hid d8
  have De8 := Lib.hid e8
  have Dd9 := Lib.hid d9
  have De9 := Lib.hid e9
  have Dd10 := Lib.hid d10
  have De10 := Lib.hid e10
  have Dd11 := Lib.hid d11
  have De11 := Lib.hid e11
  have Dd12 := Lib.hid d12
  have De12 := Lib.hid e12
  clear hc d0 e0 d1 e1 d2 e2 d3 e3 d4 e4 d5 e5 d6 e6 d7 e7 d8 e8 d9 e9 d10 e10 d11 e11 d12 e12 h0 h2 h4 h5 h11 h13
  obtain ⟨arr, harr⟩ : ∃ a : Array Value, #[.slice ax00 x00.length px00, .int .i64 x01, .int .i64 x02, .int .i64 x03, .int .i64 x04, .int .i64 x05, .int .i64 x1, .slice ax2 x2.length px2, .int .i64 x30, .int .i64 x31, .slice ax4 x4.length px4, .slice ax5 x5.length px5, .int .i64 x6, .int .i64 x7, .int .i64 x8, .bool x90, .int .i64 x91, .int .i64 x92, .bool x93, .int .i64 x94, .int .i64 x95, .int .i64 x96, .bool x97, .bool x100, .int .i64 x101, .int .i64 x102, .bool x103, .int .i64 x104, .int .i64 x105, .int .i64 x106, .bool x107, .slice ax110 x110.length px110, .slice ax1110 x1110.length px1110, .int .i64 x1111, .slice ax1112 x1112.length px1112, .int .i64 x12, .slice ax13 x13.length px13] = a := ⟨_, rfl⟩
  obtain ⟨y0, hy0⟩ : ∃ y, w.alloc (Obj.cells arr 42) = y := ⟨_, rfl⟩
  have B0 : Hid (Bx 42 w.heap.size #[.slice ax00 x00.length px00, .int .i64 x01, .int .i64 x02, .int .i64 x03, .int .i64 x04, .int .i64 x05, .int .i64 x1, .slice ax2 x2.length px2, .int .i64 x30, .int .i64 x31, .slice ax4 x4.length px4, .slice ax5 x5.length px5, .int .i64 x6, .int .i64 x7, .int .i64 x8, .bool x90, .int .i64 x91, .int .i64 x92, .bool x93, .int .i64 x94, .int .i64 x95, .int .i64 x96, .bool x97, .bool x100, .int .i64 x101, .int .i64 x102, .bool x103, .int .i64 x104, .int .i64 x105, .int .i64 x106, .bool x107, .slice ax110 x110.length px110, .slice ax1110 x1110.length px1110, .int .i64 x1111, .slice ax1112 x1112.length px1112, .int .i64 x12, .slice ax13 x13.length px13] y0) := Lib.hid (by rw [← hy0, ← harr]; exact Bx.new 42 #[.slice ax00 x00.length px00, .int .i64 x01, .int .i64 x02, .int .i64 x03, .int .i64 x04, .int .i64 x05, .int .i64 x1, .slice ax2 x2.length px2, .int .i64 x30, .int .i64 x31, .slice ax4 x4.length px4, .slice ax5 x5.length px5, .int .i64 x6, .int .i64 x7, .int .i64 x8, .bool x90, .int .i64 x91, .int .i64 x92, .bool x93, .int .i64 x94, .int .i64 x95, .int .i64 x96, .bool x97, .bool x100, .int .i64 x101, .int .i64 x102, .bool x103, .int .i64 x104, .int .i64 x105, .int .i64 x106, .bool x107, .slice ax110 x110.length px110, .slice ax1110 x1110.length px1110, .int .i64 x1111, .slice ax1112 x1112.length px1112, .int .i64 x12, .slice ax13 x13.length px13] w)
  have HA : Hid (Below w.heap.size w y0) := Lib.hid (by rw [← hy0]; exact (Below.refl w.heap.size w).alloc (Nat.le_refl _) _)
  simp only [List.cons_append, List.nil_append]
  unfold agg
  rw [harr]
  clear harr
  have g0 := B0.out.cell 0 _ rfl
  have g1 := B0.out.cell 1 _ rfl
  have g2 := B0.out.cell 2 _ rfl
  have g3 := B0.out.cell 3 _ rfl
  have g4 := B0.out.cell 4 _ rfl
  have g5 := B0.out.cell 5 _ rfl
  go_enter Try.func12, Try.ntmps12
  go_wp2_with fail
  clear hy0 g0 g1 g2 g3 g4 g5
  have HT0 : Hid (Turn F w y0) := Lib.hid (Turn.later HA.out)
  have Dx0_0 := Lib.hid (confK.cap_later Cx0_0.out HA.out)
  have Dx2_0 := Lib.hid (mstS.cap_later Cx2_0.out HA.out)
  have Dx4_0 := Lib.hid (bucketS.cap_later Cx4_0.out HA.out)
  have Dx5_0 := Lib.hid (ints.cap_later Cx5_0.out HA.out)
  have Dx11_0 := Lib.hid (modelK.cap_later Cx11_0.out HA.out)
  have Dx13_0 := Lib.hid (doneS.cap_later Cx13_0.out HA.out)
  clear HA Cx0_0 Cx2_0 Cx4_0 Cx5_0 Cx11_0 Cx13_0
  refine (markConf G0 [.slice ax00 x00.length px00, .int .i64 x01, .int .i64 x02, .int .i64 x03, .int .i64 x04, .int .i64 x05] (x00, x01, x02, x03, x04, x05) k0 _ (by omega) (by omega) (by omega) Dx0_0.out).mono ?_
  rintro e y1 ⟨rfl, hc, ht⟩
  obtain ⟨k1, hk1⟩ : ∃ k, k0 + (confK.cT (x00, x01, x02, x03, x04, x05) : Int) = k := ⟨_, rfl⟩
  rw [hk1]
  have B1 : Hid (Bx 42 w.heap.size #[.slice ax00 x00.length px00, .int .i64 x01, .int .i64 x02, .int .i64 x03, .int .i64 x04, .int .i64 x05, .int .i64 x1, .slice ax2 x2.length px2, .int .i64 x30, .int .i64 x31, .slice ax4 x4.length px4, .slice ax5 x5.length px5, .int .i64 x6, .int .i64 x7, .int .i64 x8, .bool x90, .int .i64 x91, .int .i64 x92, .bool x93, .int .i64 x94, .int .i64 x95, .int .i64 x96, .bool x97, .bool x100, .int .i64 x101, .int .i64 x102, .bool x103, .int .i64 x104, .int .i64 x105, .int .i64 x106, .bool x107, .slice ax110 x110.length px110, .slice ax1110 x1110.length px1110, .int .i64 x1111, .slice ax1112 x1112.length px1112, .int .i64 x12, .slice ax13 x13.length px13] y1) := Lib.hid ((ht.block _ B0.out.lt (fun h => by have := (Sx0.out _ h).2; omega)).trans B0.out)
  have HT1 := Lib.hid (HT0.out.trans (ht.wide (fun k hk => (Sx0.out k hk).1)))
  have Dx0_1 := Lib.hid hc
  have Dx2_1 := Lib.hid (mstS.cap_turn Dx2_0.out ht (fun k _ hf hg => Ux0_x2.out k hg hf))
  have Dx4_1 := Lib.hid (bucketS.cap_turn Dx4_0.out ht (fun k _ hf hg => Ux0_x4.out k hg hf))
  have Dx5_1 := Lib.hid (ints.cap_turn Dx5_0.out ht (fun k _ hf hg => Ux0_x5.out k hg hf))
  have Dx11_1 := Lib.hid (modelK.cap_turn Dx11_0.out ht (fun k _ hf hg => Ux0_x11.out k hg hf))
  have Dx13_1 := Lib.hid (doneS.cap_turn Dx13_0.out ht (fun k _ hf hg => Ux0_x13.out k hg hf))
  clear hc ht Dx0_0 Dx2_0 Dx4_0 Dx5_0 Dx11_0 Dx13_0
  have g7 := B1.out.cell 7 _ rfl
  go_wp2_with fail
  clear g7
  refine (markMstS G2 [.slice ax2 x2.length px2] x2 k1 _ (by omega) (by omega) (by omega) Dx2_1.out).mono ?_
  rintro e y2 ⟨rfl, hc, ht⟩
  obtain ⟨k2, hk2⟩ : ∃ k, k1 + (mstS.cT x2 : Int) = k := ⟨_, rfl⟩
  rw [hk2]
  have B2 : Hid (Bx 42 w.heap.size #[.slice ax00 x00.length px00, .int .i64 x01, .int .i64 x02, .int .i64 x03, .int .i64 x04, .int .i64 x05, .int .i64 x1, .slice ax2 x2.length px2, .int .i64 x30, .int .i64 x31, .slice ax4 x4.length px4, .slice ax5 x5.length px5, .int .i64 x6, .int .i64 x7, .int .i64 x8, .bool x90, .int .i64 x91, .int .i64 x92, .bool x93, .int .i64 x94, .int .i64 x95, .int .i64 x96, .bool x97, .bool x100, .int .i64 x101, .int .i64 x102, .bool x103, .int .i64 x104, .int .i64 x105, .int .i64 x106, .bool x107, .slice ax110 x110.length px110, .slice ax1110 x1110.length px1110, .int .i64 x1111, .slice ax1112 x1112.length px1112, .int .i64 x12, .slice ax13 x13.length px13] y2) := Lib.hid ((ht.block _ B1.out.lt (fun h => by have := (Sx2.out _ h).2; omega)).trans B1.out)
  have HT2 := Lib.hid (HT1.out.trans (ht.wide (fun k hk => (Sx2.out k hk).1)))
  have Dx0_2 := Lib.hid (confK.cap_turn Dx0_1.out ht (fun k _ hf hg => Ux0_x2.out k hf hg))
  have Dx2_2 := Lib.hid hc
  have Dx4_2 := Lib.hid (bucketS.cap_turn Dx4_1.out ht (fun k _ hf hg => Ux2_x4.out k hg hf))
  have Dx5_2 := Lib.hid (ints.cap_turn Dx5_1.out ht (fun k _ hf hg => Ux2_x5.out k hg hf))
  have Dx11_2 := Lib.hid (modelK.cap_turn Dx11_1.out ht (fun k _ hf hg => Ux2_x11.out k hg hf))
  have Dx13_2 := Lib.hid (doneS.cap_turn Dx13_1.out ht (fun k _ hf hg => Ux2_x13.out k hg hf))
  clear hc ht Dx0_1 Dx2_1 Dx4_1 Dx5_1 Dx11_1 Dx13_1
  have g10 := B2.out.cell 10 _ rfl
  go_wp2_with fail
  clear g10
  refine (markBucketS G4 [.slice ax4 x4.length px4] x4 k2 _ (by omega) (by omega) (by omega) Dx4_2.out).mono ?_
  rintro e y3 ⟨rfl, hc, ht⟩
  obtain ⟨k3, hk3⟩ : ∃ k, k2 + (bucketS.cT x4 : Int) = k := ⟨_, rfl⟩
  rw [hk3]
  have B3 : Hid (Bx 42 w.heap.size #[.slice ax00 x00.length px00, .int .i64 x01, .int .i64 x02, .int .i64 x03, .int .i64 x04, .int .i64 x05, .int .i64 x1, .slice ax2 x2.length px2, .int .i64 x30, .int .i64 x31, .slice ax4 x4.length px4, .slice ax5 x5.length px5, .int .i64 x6, .int .i64 x7, .int .i64 x8, .bool x90, .int .i64 x91, .int .i64 x92, .bool x93, .int .i64 x94, .int .i64 x95, .int .i64 x96, .bool x97, .bool x100, .int .i64 x101, .int .i64 x102, .bool x103, .int .i64 x104, .int .i64 x105, .int .i64 x106, .bool x107, .slice ax110 x110.length px110, .slice ax1110 x1110.length px1110, .int .i64 x1111, .slice ax1112 x1112.length px1112, .int .i64 x12, .slice ax13 x13.length px13] y3) := Lib.hid ((ht.block _ B2.out.lt (fun h => by have := (Sx4.out _ h).2; omega)).trans B2.out)
  have HT3 := Lib.hid (HT2.out.trans (ht.wide (fun k hk => (Sx4.out k hk).1)))
  have Dx0_3 := Lib.hid (confK.cap_turn Dx0_2.out ht (fun k _ hf hg => Ux0_x4.out k hf hg))
  have Dx2_3 := Lib.hid (mstS.cap_turn Dx2_2.out ht (fun k _ hf hg => Ux2_x4.out k hf hg))
  have Dx4_3 := Lib.hid hc
  have Dx5_3 := Lib.hid (ints.cap_turn Dx5_2.out ht (fun k _ hf hg => Ux4_x5.out k hg hf))
  have Dx11_3 := Lib.hid (modelK.cap_turn Dx11_2.out ht (fun k _ hf hg => Ux4_x11.out k hg hf))
  have Dx13_3 := Lib.hid (doneS.cap_turn Dx13_2.out ht (fun k _ hf hg => Ux4_x13.out k hg hf))
  clear hc ht Dx0_2 Dx2_2 Dx4_2 Dx5_2 Dx11_2 Dx13_2
  have g11 := B3.out.cell 11 _ rfl
  go_wp2_with fail
  clear g11
  refine (markIntS G5 [.slice ax5 x5.length px5] x5 k3 _ (by omega) (by omega) (by omega) Dx5_3.out).mono ?_
  rintro e y4 ⟨rfl, hc, ht⟩
  obtain ⟨k4, hk4⟩ : ∃ k, k3 + (ints.cT x5 : Int) = k := ⟨_, rfl⟩
  rw [hk4]
  have B4 : Hid (Bx 42 w.heap.size #[.slice ax00 x00.length px00, .int .i64 x01, .int .i64 x02, .int .i64 x03, .int .i64 x04, .int .i64 x05, .int .i64 x1, .slice ax2 x2.length px2, .int .i64 x30, .int .i64 x31, .slice ax4 x4.length px4, .slice ax5 x5.length px5, .int .i64 x6, .int .i64 x7, .int .i64 x8, .bool x90, .int .i64 x91, .int .i64 x92, .bool x93, .int .i64 x94, .int .i64 x95, .int .i64 x96, .bool x97, .bool x100, .int .i64 x101, .int .i64 x102, .bool x103, .int .i64 x104, .int .i64 x105, .int .i64 x106, .bool x107, .slice ax110 x110.length px110, .slice ax1110 x1110.length px1110, .int .i64 x1111, .slice ax1112 x1112.length px1112, .int .i64 x12, .slice ax13 x13.length px13] y4) := Lib.hid ((ht.block _ B3.out.lt (fun h => by have := (Sx5.out _ h).2; omega)).trans B3.out)
  have HT4 := Lib.hid (HT3.out.trans (ht.wide (fun k hk => (Sx5.out k hk).1)))
  have Dx0_4 := Lib.hid (confK.cap_turn Dx0_3.out ht (fun k _ hf hg => Ux0_x5.out k hf hg))
  have Dx2_4 := Lib.hid (mstS.cap_turn Dx2_3.out ht (fun k _ hf hg => Ux2_x5.out k hf hg))
  have Dx4_4 := Lib.hid (bucketS.cap_turn Dx4_3.out ht (fun k _ hf hg => Ux4_x5.out k hf hg))
  have Dx5_4 := Lib.hid hc
  have Dx11_4 := Lib.hid (modelK.cap_turn Dx11_3.out ht (fun k _ hf hg => Ux5_x11.out k hg hf))
  have Dx13_4 := Lib.hid (doneS.cap_turn Dx13_3.out ht (fun k _ hf hg => Ux5_x13.out k hg hf))
  clear hc ht Dx0_3 Dx2_3 Dx4_3 Dx5_3 Dx11_3 Dx13_3
  have g31 := B4.out.cell 31 _ rfl
  have g32 := B4.out.cell 32 _ rfl
  have g33 := B4.out.cell 33 _ rfl
  have g34 := B4.out.cell 34 _ rfl
  go_wp2_with fail
  clear g31 g32 g33 g34
  refine (markModel G11 [.slice ax110 x110.length px110, .slice ax1110 x1110.length px1110, .int .i64 x1111, .slice ax1112 x1112.length px1112] (x110, (x1110, x1111, x1112)) k4 _ (by omega) (by omega) (by omega) Dx11_4.out).mono ?_
  rintro e y5 ⟨rfl, hc, ht⟩
  obtain ⟨k5, hk5⟩ : ∃ k, k4 + (modelK.cT (x110, (x1110, x1111, x1112)) : Int) = k := ⟨_, rfl⟩
  rw [hk5]
  have B5 : Hid (Bx 42 w.heap.size #[.slice ax00 x00.length px00, .int .i64 x01, .int .i64 x02, .int .i64 x03, .int .i64 x04, .int .i64 x05, .int .i64 x1, .slice ax2 x2.length px2, .int .i64 x30, .int .i64 x31, .slice ax4 x4.length px4, .slice ax5 x5.length px5, .int .i64 x6, .int .i64 x7, .int .i64 x8, .bool x90, .int .i64 x91, .int .i64 x92, .bool x93, .int .i64 x94, .int .i64 x95, .int .i64 x96, .bool x97, .bool x100, .int .i64 x101, .int .i64 x102, .bool x103, .int .i64 x104, .int .i64 x105, .int .i64 x106, .bool x107, .slice ax110 x110.length px110, .slice ax1110 x1110.length px1110, .int .i64 x1111, .slice ax1112 x1112.length px1112, .int .i64 x12, .slice ax13 x13.length px13] y5) := Lib.hid ((ht.block _ B4.out.lt (fun h => by have := (Sx11.out _ h).2; omega)).trans B4.out)
  have HT5 := Lib.hid (HT4.out.trans (ht.wide (fun k hk => (Sx11.out k hk).1)))
  have Dx0_5 := Lib.hid (confK.cap_turn Dx0_4.out ht (fun k _ hf hg => Ux0_x11.out k hf hg))
  have Dx2_5 := Lib.hid (mstS.cap_turn Dx2_4.out ht (fun k _ hf hg => Ux2_x11.out k hf hg))
  have Dx4_5 := Lib.hid (bucketS.cap_turn Dx4_4.out ht (fun k _ hf hg => Ux4_x11.out k hf hg))
  have Dx5_5 := Lib.hid (ints.cap_turn Dx5_4.out ht (fun k _ hf hg => Ux5_x11.out k hf hg))
  have Dx11_5 := Lib.hid hc
  have Dx13_5 := Lib.hid (doneS.cap_turn Dx13_4.out ht (fun k _ hf hg => Ux11_x13.out k hg hf))
  clear hc ht Dx0_4 Dx2_4 Dx4_4 Dx5_4 Dx11_4 Dx13_4
  have g36 := B5.out.cell 36 _ rfl
  go_wp2_with fail
  clear g36
  refine (markDoneS L12 [.slice ax13 x13.length px13] x13 k5 _ (by omega) (by omega) (by omega) Dx13_5.out).mono ?_
  rintro e y6 ⟨rfl, hc, ht⟩
  obtain ⟨k6, hk6⟩ : ∃ k, k5 + (doneS.cT x13 : Int) = k := ⟨_, rfl⟩
  rw [hk6]
  have B6 : Hid (Bx 42 w.heap.size #[.slice ax00 x00.length px00, .int .i64 x01, .int .i64 x02, .int .i64 x03, .int .i64 x04, .int .i64 x05, .int .i64 x1, .slice ax2 x2.length px2, .int .i64 x30, .int .i64 x31, .slice ax4 x4.length px4, .slice ax5 x5.length px5, .int .i64 x6, .int .i64 x7, .int .i64 x8, .bool x90, .int .i64 x91, .int .i64 x92, .bool x93, .int .i64 x94, .int .i64 x95, .int .i64 x96, .bool x97, .bool x100, .int .i64 x101, .int .i64 x102, .bool x103, .int .i64 x104, .int .i64 x105, .int .i64 x106, .bool x107, .slice ax110 x110.length px110, .slice ax1110 x1110.length px1110, .int .i64 x1111, .slice ax1112 x1112.length px1112, .int .i64 x12, .slice ax13 x13.length px13] y6) := Lib.hid ((ht.block _ B5.out.lt (fun h => by have := (Sx13.out _ h).2; omega)).trans B5.out)
  have HT6 := Lib.hid (HT5.out.trans (ht.wide (fun k hk => (Sx13.out k hk).1)))
  have Dx0_6 := Lib.hid (confK.cap_turn Dx0_5.out ht (fun k _ hf hg => Ux0_x13.out k hf hg))
  have Dx2_6 := Lib.hid (mstS.cap_turn Dx2_5.out ht (fun k _ hf hg => Ux2_x13.out k hf hg))
  have Dx4_6 := Lib.hid (bucketS.cap_turn Dx4_5.out ht (fun k _ hf hg => Ux4_x13.out k hf hg))
  have Dx5_6 := Lib.hid (ints.cap_turn Dx5_5.out ht (fun k _ hf hg => Ux5_x13.out k hf hg))
  have Dx11_6 := Lib.hid (modelK.cap_turn Dx11_5.out ht (fun k _ hf hg => Ux11_x13.out k hf hg))
  have Dx13_6 := Lib.hid hc
  clear hc ht Dx0_5 Dx2_5 Dx4_5 Dx5_5 Dx11_5 Dx13_5
  have He : Hid (k6 = k0 + ((confK.cT (x00, x01, x02, x03, x04, x05) + mstS.cT x2 + bucketS.cT x4 + ints.cT x5 + modelK.cT (x110, (x1110, x1111, x1112)) + doneS.cT x13 : Nat) : Int)) := Lib.hid (by omega)
  have Hk1 := Lib.hid hk1
  have Hk2 := Lib.hid hk2
  have Hk3 := Lib.hid hk3
  have Hk4 := Lib.hid hk4
  have Hk5 := Lib.hid hk5
  have Hk6 := Lib.hid hk6
  clear hk1 hk2 hk3 hk4 hk5 hk6
  go_wp2
  go_ret
  refine ⟨by rw [← He.out]; rfl, ?_, HT6.out⟩
  have E1 : Hid (k0 + (confK.cT (x00, x01, x02, x03, x04, x05) : Int) = k1) := Lib.hid (by have h1 := Hk1.out;  omega)
  have E2 : Hid (k0 + (confK.cT (x00, x01, x02, x03, x04, x05) : Int) + (mstS.cT x2 : Int) = k2) := Lib.hid (by have h1 := Hk2.out; have h3 := Hk1.out; omega)
  have E3 : Hid (k0 + (confK.cT (x00, x01, x02, x03, x04, x05) : Int) + (mstS.cT x2 : Int) + (bucketS.cT x4 : Int) = k3) := Lib.hid (by have h1 := Hk3.out; have h3 := Hk1.out; have h4 := Hk2.out; omega)
  have E4 : Hid (k0 + (confK.cT (x00, x01, x02, x03, x04, x05) : Int) + (mstS.cT x2 : Int) + (bucketS.cT x4 : Int) + (ints.cT x5 : Int) = k4) := Lib.hid (by have h1 := Hk4.out; have h3 := Hk1.out; have h4 := Hk2.out; have h5 := Hk3.out; omega)
  have E5 : Hid (k0 + (confK.cT (x00, x01, x02, x03, x04, x05) : Int) + (mstS.cT x2 : Int) + (bucketS.cT x4 : Int) + (ints.cT x5 : Int) + (modelK.cT (x110, (x1110, x1111, x1112)) : Int) = k5) := Lib.hid (by have h1 := Hk5.out; have h3 := Hk1.out; have h4 := Hk2.out; have h5 := Hk3.out; have h6 := Hk4.out; omega)
  rw [E5.out, E4.out, E3.out, E2.out, E1.out]
  refine busK.cap_wide (F := fun k => F k ∧ k < w.heap.size) ?_ (fun k _ hk => hk.1)
  exact ⟨[.slice ax00 x00.length px00, .int .i64 x01, .int .i64 x02, .int .i64 x03, .int .i64 x04, .int .i64 x05], _, G0, L0, rfl, Dd0.out, De0.out, Dx0_6.out, ⟨[.int .i64 x1], _, G1, L1, rfl, Dd1.out, De1.out, rfl, ⟨[.slice ax2 x2.length px2], _, G2, L2, rfl, Dd2.out, De2.out, Dx2_6.out, ⟨[.int .i64 x30, .int .i64 x31], _, G3, L3, rfl, Dd3.out, De3.out, wrr_capz _ x30 x31 _, ⟨[.slice ax4 x4.length px4], _, G4, L4, rfl, Dd4.out, De4.out, Dx4_6.out, ⟨[.slice ax5 x5.length px5], _, G5, L5, rfl, Dd5.out, De5.out, Dx5_6.out, ⟨[.int .i64 x6], _, G6, L6, rfl, Dd6.out, De6.out, rfl, ⟨[.int .i64 x7], _, G7, L7, rfl, Dd7.out, De7.out, rfl, ⟨[.int .i64 x8], _, G8, L8, rfl, Dd8.out, De8.out, rfl, ⟨[.bool x90, .int .i64 x91, .int .i64 x92, .bool x93, .int .i64 x94, .int .i64 x95, .int .i64 x96, .bool x97], _, G9, L9, rfl, Dd9.out, De9.out, beat_capz _ x90 x91 x92 x93 x94 x95 x96 x97 _, ⟨[.bool x100, .int .i64 x101, .int .i64 x102, .bool x103, .int .i64 x104, .int .i64 x105, .int .i64 x106, .bool x107], _, G10, L10, rfl, Dd10.out, De10.out, beat_capz _ x100 x101 x102 x103 x104 x105 x106 x107 _, ⟨[.slice ax110 x110.length px110, .slice ax1110 x1110.length px1110, .int .i64 x1111, .slice ax1112 x1112.length px1112], _, G11, L11, rfl, Dd11.out, De11.out, Dx11_6.out, ⟨[.int .i64 x12], _, G12, L12, rfl, Dd12.out, De12.out, rfl, Dx13_6.out⟩⟩⟩⟩⟩⟩⟩⟩⟩⟩⟩⟩⟩
set_option maxHeartbeats 40000000 in
set_option maxRecDepth 100000 in
theorem heldBus : HeldC busK agg 13 := by
  intro cs x k0 w hs h0 h1 hr
  obtain ⟨⟨x00, x01, x02, x03, x04, x05⟩, x1, x2, ⟨x30, x31⟩, x4, x5, x6, x7, x8, ⟨x90, x91, x92, x93, x94, x95, x96, x97⟩, ⟨x100, x101, x102, x103, x104, x105, x106, x107⟩, ⟨x110, ⟨x1110, x1111, x1112⟩⟩, x12, x13⟩ := x
  rw [bus_sz] at hs
  rw [bus_cT] at h1 ⊢
  rw [bus_mT] at hr
  obtain ⟨k1, hk1⟩ : ∃ k, k0 + (confK.cT (x00, x01, x02, x03, x04, x05) : Int) = k := ⟨_, rfl⟩
  rw [hk1] at hr
  obtain ⟨k2, hk2⟩ : ∃ k, k1 + (mstS.cT x2 : Int) = k := ⟨_, rfl⟩
  rw [hk2] at hr
  obtain ⟨k3, hk3⟩ : ∃ k, k2 + (bucketS.cT x4 : Int) = k := ⟨_, rfl⟩
  rw [hk3] at hr
  obtain ⟨k4, hk4⟩ : ∃ k, k3 + (ints.cT x5 : Int) = k := ⟨_, rfl⟩
  rw [hk4] at hr
  obtain ⟨k5, hk5⟩ : ∃ k, k4 + (modelK.cT (x110, (x1110, x1111, x1112)) : Int) = k := ⟨_, rfl⟩
  rw [hk5] at hr
  obtain ⟨k6, hk6⟩ : ∃ k, k5 + (doneS.cT x13 : Int) = k := ⟨_, rfl⟩
  obtain ⟨c0, r0, rfl, h0, c1, r1, rfl, h1, c2, r2, rfl, h2, c3, r3, rfl, h3, c4, r4, rfl, h4, c5, r5, rfl, h5, c6, r6, rfl, h6, c7, r7, rfl, h7, c8, r8, rfl, h8, c9, r9, rfl, h9, c10, r10, rfl, h10, c11, r11, rfl, h11, c12, r12, rfl, h12, h13⟩ := hr
  obtain rfl := h1
  obtain rfl := wrr_form h3
  obtain rfl := h6
  obtain rfl := h7
  obtain rfl := h8
  obtain rfl := beat_form h9
  obtain rfl := beat_form h10
  obtain rfl := h12
  obtain ⟨⟨m00, m01, m02, m03, m04, m05⟩, hm0⟩ : ∃ m, confK.mT (x00, x01, x02, x03, x04, x05) (k0) = m := ⟨_, rfl⟩
  replace h0 : confK.rd c0 (m00, m01, m02, m03, m04, m05) w := by rw [← hm0]; exact h0
  obtain ⟨am00, pm00, rfl, _⟩ := conf_form h0
  have R0 := Lib.hid h0
  have Hm0 := Lib.hid hm0
  clear h0 hm0
  obtain ⟨m2, hm2⟩ : ∃ m, mstS.mT x2 (k1) = m := ⟨_, rfl⟩
  replace h2 : mstS.rd c2 m2 w := by rw [← hm2]; exact h2
  have t2 := h2
  obtain ⟨am2, pm2, rfl, _⟩ := t2
  have R2 := Lib.hid h2
  have Hm2 := Lib.hid hm2
  clear h2 hm2
  obtain ⟨m4, hm4⟩ : ∃ m, bucketS.mT x4 (k2) = m := ⟨_, rfl⟩
  replace h4 : bucketS.rd c4 m4 w := by rw [← hm4]; exact h4
  have t4 := h4
  obtain ⟨am4, pm4, rfl, _⟩ := t4
  have R4 := Lib.hid h4
  have Hm4 := Lib.hid hm4
  clear h4 hm4
  obtain ⟨m5, hm5⟩ : ∃ m, ints.mT x5 (k3) = m := ⟨_, rfl⟩
  replace h5 : ints.rd c5 m5 w := by rw [← hm5]; exact h5
  have t5 := h5
  obtain ⟨am5, pm5, rfl, _⟩ := t5
  have R5 := Lib.hid h5
  have Hm5 := Lib.hid hm5
  clear h5 hm5
  obtain ⟨⟨m110, ⟨m1110, m1111, m1112⟩⟩, hm11⟩ : ∃ m, modelK.mT (x110, (x1110, x1111, x1112)) (k4) = m := ⟨_, rfl⟩
  replace h11 : modelK.rd c11 (m110, (m1110, m1111, m1112)) w := by rw [← hm11]; exact h11
  obtain ⟨am110, pm110, am1110, pm1110, am1112, pm1112, rfl, _, _, _⟩ := model_form h11
  have R11 := Lib.hid h11
  have Hm11 := Lib.hid hm11
  clear h11 hm11
  obtain ⟨m13, hm13⟩ : ∃ m, doneS.mT x13 (k5) = m := ⟨_, rfl⟩
  replace h13 : doneS.rd r12 m13 w := by rw [← hm13]; exact h13
  have t13 := h13
  obtain ⟨am13, pm13, rfl, _⟩ := t13
  have R13 := Lib.hid h13
  have Hm13 := Lib.hid hm13
  clear h13 hm13
  have He : Hid (k6 = k0 + ((confK.cT (x00, x01, x02, x03, x04, x05) + mstS.cT x2 + bucketS.cT x4 + ints.cT x5 + modelK.cT (x110, (x1110, x1111, x1112)) + doneS.cT x13 : Nat) : Int)) := Lib.hid (by omega)
  have hp1 : ¬ k1 < 0 := by omega
  have hq1 : 0 ≤ k1 := by omega
  have hp2 : ¬ k2 < 0 := by omega
  have hq2 : 0 ≤ k2 := by omega
  have hp3 : ¬ k3 < 0 := by omega
  have hq3 : 0 ≤ k3 := by omega
  have hp4 : ¬ k4 < 0 := by omega
  have hq4 : 0 ≤ k4 := by omega
  have hp5 : ¬ k5 < 0 := by omega
  have hq5 : 0 ≤ k5 := by omega
  have hp6 : ¬ k6 < 0 := by omega
  have hq6 : 0 ≤ k6 := by omega
  have hl0 : k0 + (confK.cT (x00, x01, x02, x03, x04, x05) : Int) ≤ 4611686018427387904 := by omega
  have Hl0 := Lib.hid hl0
  have hl1 : k1 + (mstS.cT x2 : Int) ≤ 4611686018427387904 := by omega
  have Hl1 := Lib.hid hl1
  have hl2 : k2 + (bucketS.cT x4 : Int) ≤ 4611686018427387904 := by omega
  have Hl2 := Lib.hid hl2
  have hl3 : k3 + (ints.cT x5 : Int) ≤ 4611686018427387904 := by omega
  have Hl3 := Lib.hid hl3
  have hl4 : k4 + (modelK.cT (x110, (x1110, x1111, x1112)) : Int) ≤ 4611686018427387904 := by omega
  have Hl4 := Lib.hid hl4
  have hl5 : k5 + (doneS.cT x13 : Int) ≤ 4611686018427387904 := by omega
  have Hl5 := Lib.hid hl5
  have Hk1 := Lib.hid hk1
  have Hk2 := Lib.hid hk2
  have Hk3 := Lib.hid hk3
  have Hk4 := Lib.hid hk4
  have Hk5 := Lib.hid hk5
  have Hk6 := Lib.hid hk6
  clear hk1 hk2 hk3 hk4 hk5 hk6 hl0 hl1 hl2 hl3 hl4 hl5
  obtain ⟨arr, harr⟩ : ∃ a : Array Value, #[.slice am00 m00.length pm00, .int .i64 m01, .int .i64 m02, .int .i64 m03, .int .i64 m04, .int .i64 m05, .int .i64 x1, .slice am2 m2.length pm2, .int .i64 x30, .int .i64 x31, .slice am4 m4.length pm4, .slice am5 m5.length pm5, .int .i64 x6, .int .i64 x7, .int .i64 x8, .bool x90, .int .i64 x91, .int .i64 x92, .bool x93, .int .i64 x94, .int .i64 x95, .int .i64 x96, .bool x97, .bool x100, .int .i64 x101, .int .i64 x102, .bool x103, .int .i64 x104, .int .i64 x105, .int .i64 x106, .bool x107, .slice am110 m110.length pm110, .slice am1110 m1110.length pm1110, .int .i64 m1111, .slice am1112 m1112.length pm1112, .int .i64 x12, .slice am13 m13.length pm13] = a := ⟨_, rfl⟩
  obtain ⟨y0, hy0⟩ : ∃ y, w.alloc (Obj.cells arr 42) = y := ⟨_, rfl⟩
  have B0 : Hid (Bx 42 w.heap.size #[.slice am00 m00.length pm00, .int .i64 m01, .int .i64 m02, .int .i64 m03, .int .i64 m04, .int .i64 m05, .int .i64 x1, .slice am2 m2.length pm2, .int .i64 x30, .int .i64 x31, .slice am4 m4.length pm4, .slice am5 m5.length pm5, .int .i64 x6, .int .i64 x7, .int .i64 x8, .bool x90, .int .i64 x91, .int .i64 x92, .bool x93, .int .i64 x94, .int .i64 x95, .int .i64 x96, .bool x97, .bool x100, .int .i64 x101, .int .i64 x102, .bool x103, .int .i64 x104, .int .i64 x105, .int .i64 x106, .bool x107, .slice am110 m110.length pm110, .slice am1110 m1110.length pm1110, .int .i64 m1111, .slice am1112 m1112.length pm1112, .int .i64 x12, .slice am13 m13.length pm13] y0) := Lib.hid (by rw [← hy0, ← harr]; exact Bx.new 42 #[.slice am00 m00.length pm00, .int .i64 m01, .int .i64 m02, .int .i64 m03, .int .i64 m04, .int .i64 m05, .int .i64 x1, .slice am2 m2.length pm2, .int .i64 x30, .int .i64 x31, .slice am4 m4.length pm4, .slice am5 m5.length pm5, .int .i64 x6, .int .i64 x7, .int .i64 x8, .bool x90, .int .i64 x91, .int .i64 x92, .bool x93, .int .i64 x94, .int .i64 x95, .int .i64 x96, .bool x97, .bool x100, .int .i64 x101, .int .i64 x102, .bool x103, .int .i64 x104, .int .i64 x105, .int .i64 x106, .bool x107, .slice am110 m110.length pm110, .slice am1110 m1110.length pm1110, .int .i64 m1111, .slice am1112 m1112.length pm1112, .int .i64 x12, .slice am13 m13.length pm13] w)
  have HB0 : Hid (Below w.heap.size w y0) := Lib.hid (by rw [← hy0]; exact (Below.refl w.heap.size w).alloc (Nat.le_refl _) _)
  simp only [List.cons_append, List.nil_append]
  unfold agg
  rw [harr]
  clear harr
  have g0 := B0.out.cell 0 _ rfl
  have g1 := B0.out.cell 1 _ rfl
  have g2 := B0.out.cell 2 _ rfl
  have g3 := B0.out.cell 3 _ rfl
  have g4 := B0.out.cell 4 _ rfl
  have g5 := B0.out.cell 5 _ rfl
  go_enter Try.func13, Try.ntmps13
  go_wp2_with fail
  clear hy0 g0 g1 g2 g3 g4 g5
  refine (heldConf [.slice am00 m00.length pm00, .int .i64 m01, .int .i64 m02, .int .i64 m03, .int .i64 m04, .int .i64 m05] (x00, x01, x02, x03, x04, x05) k0 _ (by omega) (by omega) Hl0.out (by rw [Hm0.out]; exact confK.rd_later R0.out HB0.out)).mono ?_
  rintro e y1 ⟨rfl, hb⟩
  rw [Hk1.out]
  have B1 := Lib.hid (B0.out.later hb)
  have HB1 := Lib.hid (HB0.out.trans (hb.mono HB0.out.size))
  clear hb
  have g7 := B1.out.cell 7 _ rfl
  go_wp2_with fail
  clear g7
  refine (heldMstS [.slice am2 m2.length pm2] x2 k1 _ (by omega) (by omega) Hl1.out (by rw [Hm2.out]; exact mstS.rd_later R2.out HB1.out)).mono ?_
  rintro e y2 ⟨rfl, hb⟩
  rw [Hk2.out]
  have B2 := Lib.hid (B1.out.later hb)
  have HB2 := Lib.hid (HB1.out.trans (hb.mono HB1.out.size))
  clear hb
  have g10 := B2.out.cell 10 _ rfl
  go_wp2_with fail
  clear g10
  refine (heldBucketS [.slice am4 m4.length pm4] x4 k2 _ (by omega) (by omega) Hl2.out (by rw [Hm4.out]; exact bucketS.rd_later R4.out HB2.out)).mono ?_
  rintro e y3 ⟨rfl, hb⟩
  rw [Hk3.out]
  have B3 := Lib.hid (B2.out.later hb)
  have HB3 := Lib.hid (HB2.out.trans (hb.mono HB2.out.size))
  clear hb
  have g11 := B3.out.cell 11 _ rfl
  go_wp2_with fail
  clear g11
  refine (heldIntS [.slice am5 m5.length pm5] x5 k3 _ (by omega) (by omega) Hl3.out (by rw [Hm5.out]; exact ints.rd_later R5.out HB3.out)).mono ?_
  rintro e y4 ⟨rfl, hb⟩
  rw [Hk4.out]
  have B4 := Lib.hid (B3.out.later hb)
  have HB4 := Lib.hid (HB3.out.trans (hb.mono HB3.out.size))
  clear hb
  have g31 := B4.out.cell 31 _ rfl
  have g32 := B4.out.cell 32 _ rfl
  have g33 := B4.out.cell 33 _ rfl
  have g34 := B4.out.cell 34 _ rfl
  go_wp2_with fail
  clear g31 g32 g33 g34
  refine (heldModel [.slice am110 m110.length pm110, .slice am1110 m1110.length pm1110, .int .i64 m1111, .slice am1112 m1112.length pm1112] (x110, (x1110, x1111, x1112)) k4 _ (by omega) (by omega) Hl4.out (by rw [Hm11.out]; exact modelK.rd_later R11.out HB4.out)).mono ?_
  rintro e y5 ⟨rfl, hb⟩
  rw [Hk5.out]
  have B5 := Lib.hid (B4.out.later hb)
  have HB5 := Lib.hid (HB4.out.trans (hb.mono HB4.out.size))
  clear hb
  have g36 := B5.out.cell 36 _ rfl
  go_wp2_with fail
  clear g36
  refine (heldDoneS [.slice am13 m13.length pm13] x13 k5 _ (by omega) (by omega) Hl5.out (by rw [Hm13.out]; exact doneS.rd_later R13.out HB5.out)).mono ?_
  rintro e y6 ⟨rfl, hb⟩
  rw [Hk6.out]
  have B6 := Lib.hid (B5.out.later hb)
  have HB6 := Lib.hid (HB5.out.trans (hb.mono HB5.out.size))
  clear hb
  go_wp2
  go_ret
  exact ⟨by rw [← He.out]; rfl, HB6.out⟩
end Go.Proofs.Ytdhaelaoackfkaa.KD
