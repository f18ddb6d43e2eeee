
/-
  A bus that lies in an array of cells: what each cell holds, what its rows read, how great its parts are. (Made by wip/gbus.py.)
-/
import Derived.Test.YtdhaelaoackfkaaGreatKBus
import Derived.Test.YtdhaelaoackfkaaGreatBigS
import Derived.Test.YtdhaelaoackfkaaGreatGConf13
import Derived.Test.YtdhaelaoackfkaaGreatOpq
import Derived.Test.YtdhaelaoackfkaaGreatBEq
namespace Go.Proofs.YtdhaelaoackfkaaGreat.KD
open Go.RowKit Rows3 GR Num
set_option linter.unusedVariables false
abbrev BusX := (List (Int × Bool × Int × Int) × Int × Int × Int × Int × Int) × Int × List (List (Bool × Int × Int × Int × Bool × List Int) × Int × Int × Int × Bool × Bool) × (Int × Int) × List (Int × Int) × List Int × Int × Int × Int × (Bool × Int × Int × Bool × Int × Int × Int × Bool) × (Bool × Int × Int × Bool × Int × Int × Int × Bool) × (List Int × (List Int × Int × List Int)) × Int × List (Int × Int × Bool × Int × Int × Int × Int)
/-- an array of cells that reads a bus, cell by cell. -/
structure BV (arr : Array Value) (l : List (Int × Bool × Int × Int)) (qu : Int) (mw : Int) (mr : Int) (ms : Int) (lm : Int) (now : Int) (M : List (List (Bool × Int × Int × Int × Bool × List Int) × Int × Int × Int × Bool × Bool)) (tu : Int) (cr : Int) (bk : List (Int × Int)) (sp : List Int) (ho : Int) (he : Int) (la : Int) (av : Bool) (aw : Int) (ab : Int) (af : Bool) (ay : Int) (al : Int) (ar : Int) (az : Bool) (dv : Bool) (dw : Int) (db : Int) (df : Bool) (dy : Int) (dl : Int) (dr : Int) (dz : Bool) (mem : List Int) (rg : List Int) (ti : Int) (ff : List Int) (pk : Int) (lg : List (Int × Int × Bool × Int × Int × Int × Int)) (Al : Option Addr) (Pl : Nat) (AM : Option Addr) (PM : Nat) (Abk : Option Addr) (Pbk : Nat) (Asp : Option Addr) (Psp : Nat) (Amem : Option Addr) (Pmem : Nat) (Arg : Option Addr) (Prg : Nat) (Aff : Option Addr) (Pff : Nat) (Alg : Option Addr) (Plg : Nat) (nl nM nb ns ng : Nat) (w : World) : Prop where
  size : arr.size = 37
  c0 : arr[0]? = some (.slice Al nl Pl)
  c1 : arr[1]? = some (.int .i64 qu)
  c2 : arr[2]? = some (.int .i64 mw)
  c3 : arr[3]? = some (.int .i64 mr)
  c4 : arr[4]? = some (.int .i64 ms)
  c5 : arr[5]? = some (.int .i64 lm)
  c6 : arr[6]? = some (.int .i64 now)
  c7 : arr[7]? = some (.slice AM nM PM)
  c8 : arr[8]? = some (.int .i64 tu)
  c9 : arr[9]? = some (.int .i64 cr)
  c10 : arr[10]? = some (.slice Abk nb Pbk)
  c11 : arr[11]? = some (.slice Asp ns Psp)
  c12 : arr[12]? = some (.int .i64 ho)
  c13 : arr[13]? = some (.int .i64 he)
  c14 : arr[14]? = some (.int .i64 la)
  c15 : arr[15]? = some (.bool av)
  c16 : arr[16]? = some (.int .i64 aw)
  c17 : arr[17]? = some (.int .i64 ab)
  c18 : arr[18]? = some (.bool af)
  c19 : arr[19]? = some (.int .i64 ay)
  c20 : arr[20]? = some (.int .i64 al)
  c21 : arr[21]? = some (.int .i64 ar)
  c22 : arr[22]? = some (.bool az)
  c23 : arr[23]? = some (.bool dv)
  c24 : arr[24]? = some (.int .i64 dw)
  c25 : arr[25]? = some (.int .i64 db)
  c26 : arr[26]? = some (.bool df)
  c27 : arr[27]? = some (.int .i64 dy)
  c28 : arr[28]? = some (.int .i64 dl)
  c29 : arr[29]? = some (.int .i64 dr)
  c30 : arr[30]? = some (.bool dz)
  c31 : arr[31]? = some (.slice Amem mem.length Pmem)
  c32 : arr[32]? = some (.slice Arg rg.length Prg)
  c33 : arr[33]? = some (.int .i64 ti)
  c34 : arr[34]? = some (.slice Aff ff.length Pff)
  c35 : arr[35]? = some (.int .i64 pk)
  c36 : arr[36]? = some (.slice Alg ng Plg)
  rl : mConfS.rd [.slice Al nl Pl] l w
  rM : mstS.rd [.slice AM nM PM] M w
  rbk : bucketS.rd [.slice Abk nb Pbk] bk w
  rsp : ints.rd [.slice Asp ns Psp] sp w
  rmem : ints.rd [.slice Amem mem.length Pmem] mem w
  rrg : ints.rd [.slice Arg rg.length Prg] rg w
  rff : ints.rd [.slice Aff ff.length Pff] ff w
  rlg : doneS.rd [.slice Alg ng Plg] lg w
  nl : l.length = nl
  nM : M.length = nM
  nbk : bk.length = nb
  nsp : sp.length = ns
  nlg : lg.length = ng
theorem bus_at {arr : Array Value} {l : List (Int × Bool × Int × Int)} {qu : Int} {mw : Int} {mr : Int} {ms : Int} {lm : Int} {now : Int} {M : List (List (Bool × Int × Int × Int × Bool × List Int) × Int × Int × Int × Bool × Bool)} {tu : Int} {cr : Int} {bk : List (Int × Int)} {sp : List Int} {ho : Int} {he : Int} {la : Int} {av : Bool} {aw : Int} {ab : Int} {af : Bool} {ay : Int} {al : Int} {ar : Int} {az : Bool} {dv : Bool} {dw : Int} {db : Int} {df : Bool} {dy : Int} {dl : Int} {dr : Int} {dz : Bool} {mem : List Int} {rg : List Int} {ti : Int} {ff : List Int} {pk : Int} {lg : List (Int × Int × Bool × Int × Int × Int × Int)} {w : World} (h : busK.rd arr.toList ((l, qu, mw, mr, ms, lm), now, M, (tu, cr), bk, sp, ho, he, la, (av, aw, ab, af, ay, al, ar, az), (dv, dw, db, df, dy, dl, dr, dz), (mem, (rg, ti, ff)), pk, lg) w) : ∃ Al Pl AM PM Abk Pbk Asp Psp Amem Pmem Arg Prg Aff Pff Alg Plg nl nM nb ns ng, BV arr l qu mw mr ms lm now M tu cr bk sp ho he la av aw ab af ay al ar az dv dw db df dy dl dr dz mem rg ti ff pk lg Al Pl AM PM Abk Pbk Asp Psp Amem Pmem Arg Prg Aff Pff Alg Plg nl nM nb ns ng w := by
  obtain ⟨Al, Pl, AM, PM, Abk, Pbk, Asp, Psp, Amem, Pmem, Arg, Prg, Aff, Pff, Alg, Plg, e, rl, rM, rbk, rsp, rmem, rrg, rff, rlg⟩ := bus_form h
  exact ⟨_, _, _, _, _, _, _, _, _, _, _, _, _, _, _, _, _, _, _, _, _, ⟨by rw [← Array.length_toList, e]; rfl, by rw [← Array.getElem?_toList, e]; rfl, by rw [← Array.getElem?_toList, e]; rfl, by rw [← Array.getElem?_toList, e]; rfl, by rw [← Array.getElem?_toList, e]; rfl, by rw [← Array.getElem?_toList, e]; rfl, by rw [← Array.getElem?_toList, e]; rfl, by rw [← Array.getElem?_toList, e]; rfl, by rw [← Array.getElem?_toList, e]; rfl, by rw [← Array.getElem?_toList, e]; rfl, by rw [← Array.getElem?_toList, e]; rfl, by rw [← Array.getElem?_toList, e]; rfl, by rw [← Array.getElem?_toList, e]; rfl, by rw [← Array.getElem?_toList, e]; rfl, by rw [← Array.getElem?_toList, e]; rfl, by rw [← Array.getElem?_toList, e]; rfl, by rw [← Array.getElem?_toList, e]; rfl, by rw [← Array.getElem?_toList, e]; rfl, by rw [← Array.getElem?_toList, e]; rfl, by rw [← Array.getElem?_toList, e]; rfl, by rw [← Array.getElem?_toList, e]; rfl, by rw [← Array.getElem?_toList, e]; rfl, by rw [← Array.getElem?_toList, e]; rfl, by rw [← Array.getElem?_toList, e]; rfl, by rw [← Array.getElem?_toList, e]; rfl, by rw [← Array.getElem?_toList, e]; rfl, by rw [← Array.getElem?_toList, e]; rfl, by rw [← Array.getElem?_toList, e]; rfl, by rw [← Array.getElem?_toList, e]; rfl, by rw [← Array.getElem?_toList, e]; rfl, by rw [← Array.getElem?_toList, e]; rfl, by rw [← Array.getElem?_toList, e]; rfl, by rw [← Array.getElem?_toList, e]; rfl, by rw [← Array.getElem?_toList, e]; rfl, by rw [← Array.getElem?_toList, e]; rfl, by rw [← Array.getElem?_toList, e]; rfl, by rw [← Array.getElem?_toList, e]; rfl, by rw [← Array.getElem?_toList, e]; rfl, rl, rM, rbk, rsp, rmem, rrg, rff, rlg, rfl, rfl, rfl, rfl, rfl⟩⟩
/-- the sizes of its parts. -/
structure BZ (u : Nat) (l : List (Int × Bool × Int × Int)) (M : List (List (Bool × Int × Int × Int × Bool × List Int) × Int × Int × Int × Bool × Bool)) (bk : List (Int × Int)) (sp : List Int) (mem rg ff : List Int) (lg : List (Int × Int × Bool × Int × Int × Int × Int)) : Prop where
  zl : l.length ≤ 2000000
  zc : mConfS.sz l ≤ 2000000
  zM : mstS.sz M ≤ 2000000
  zMl : M.length ≤ 2000000
  zb : bk.length ≤ 2000000
  zs : sp.length ≤ 2000000
  zm : mem.length ≤ 2000000
  zr : rg.length ≤ 2000000
  zf : ff.length ≤ 2000000
  zg : lg.length ≤ 2000000
  zi : ∀ x ∈ M, mstK.sz x ≤ 2000000
theorem bus_z {l : List (Int × Bool × Int × Int)} {qu : Int} {mw : Int} {mr : Int} {ms : Int} {lm : Int} {now : Int} {M : List (List (Bool × Int × Int × Int × Bool × List Int) × Int × Int × Int × Bool × Bool)} {tu : Int} {cr : Int} {bk : List (Int × Int)} {sp : List Int} {ho : Int} {he : Int} {la : Int} {av : Bool} {aw : Int} {ab : Int} {af : Bool} {ay : Int} {al : Int} {ar : Int} {az : Bool} {dv : Bool} {dw : Int} {db : Int} {df : Bool} {dy : Int} {dl : Int} {dr : Int} {dz : Bool} {mem : List Int} {rg : List Int} {ti : Int} {ff : List Int} {pk : Int} {lg : List (Int × Int × Bool × Int × Int × Int × Int)} (h : busK.sz ((l, qu, mw, mr, ms, lm), now, M, (tu, cr), bk, sp, ho, he, la, (av, aw, ab, af, ay, al, ar, az), (dv, dw, db, df, dy, dl, dr, dz), (mem, (rg, ti, ff)), pk, lg) ≤ 2000000) : BZ 0 l M bk sp mem rg ff lg := by
  rw [bus_sz, conf_sz, model_sz, dev_sz] at h
  have h1 : mConfS.sz l = szL mConfK l := rfl
  have h2 : mstS.sz M = szL mstK M := rfl
  have h3 : bucketS.sz bk = szL bucketK bk := rfl
  have h4 : ∀ x : List Int, ints.sz x = szL int x := fun _ => rfl
  have h5 : doneS.sz lg = szL doneK lg := rfl
  have g1 := szL_len mConfK l
  have g2 := szL_len mstK M
  have g3 := szL_len bucketK bk
  have g4 := fun x => szL_len int x
  have g5 := szL_len doneK lg
  have k1 := g4 sp
  have k2 := g4 mem
  have k3 := g4 rg
  have k4 := g4 ff
  rw [h4, h4, h4, h4] at h
  exact ⟨by omega, by omega, by omega, by omega, by omega, by omega, by omega, by omega, by omega, by omega, fun x hx => by have := szL_mem mstK hx; omega⟩

end Go.Proofs.YtdhaelaoackfkaaGreat.KD
