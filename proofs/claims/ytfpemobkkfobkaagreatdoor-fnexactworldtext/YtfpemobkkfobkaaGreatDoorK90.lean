/- The library's FormatInt and Join as the shelf lays them: a number from 0 on in decimal, words with blanks between; nothing that was in memory turns; the condition is the row's own: the library's table of powers of ten as the program's text lays it. -/
import Derived.Test.YtfpemobkkfobkaaGreatDoorRows
import Derived.Shelf.Strconv.Itoa4
import Derived.Shelf.Strings.OnBuilder
import Derived.Lib.LaidTab
import Derived.Lib.AppendIntMem
import Derived.Deep.DeepCutAuto
import Derived.Deep.MidRow
import Derived.Test.YtfpemobkkfobkaaGreatDoorK01
import Derived.Test.YtfpemobkkfobkaaGreatDoorK02
import Derived.Test.YtfpemobkkfobkaaGreatDoorK10
import Derived.Test.YtfpemobkkfobkaaGreatDoorK88
namespace Go.Proofs.YtfpemobkkfobkaaGreatDoor
open Go.RowKit Go.Shelf
set_option linter.unusedVariables false
set_option maxRecDepth 8000

def layFormat_ren : Go.Shelf.Ren := ⟨fun | 173 => 62 | 246 => 83 | 283 => 110 | 284 => 111 | 285 => 112 | 286 => 113 | 129 => 136 | 317 => 135 | 318 => 137 | 319 => 138 | 320 => 139 | 337 => 153 | 338 => 154 | n => n, fun | 2 => 2 | 3 => 3 | 9 => 9 | 4 => 4 | 171 => 185 | 0 => 0 | 53 => 186 | 37 => 62 | 5 => 5 | 173 => 189 | 212 => 217 | 51 => 218 | 20 => 20 | 213 => 219 | 46 => 221 | 232 => 239 | 233 => 240 | n => n, fun | 17 => 0 | 18 => 2 | 19 => 3 | n => n⟩
theorem layFormat : Go.Proofs.LaysM.n173 Tryz.prog layFormat_ren := {
  mixed := by kernel_rfl,
  f129 := Tryz.func136.trans (congrArg some (by kernel_rfl)),
  f173 := Tryz.func62.trans (congrArg some (by kernel_rfl)),
  f246 := Tryz.func83.trans (congrArg some (by kernel_rfl)),
  f283 := Tryz.func110.trans (congrArg some (by kernel_rfl)),
  f284 := Tryz.func111.trans (congrArg some (by kernel_rfl)),
  f285 := Tryz.func112.trans (congrArg some (by kernel_rfl)),
  f286 := Tryz.func113.trans (congrArg some (by kernel_rfl)),
  f317 := Tryz.func135.trans (congrArg some (by kernel_rfl)),
  f318 := Tryz.func137.trans (congrArg some (by kernel_rfl)),
  f319 := Tryz.func138.trans (congrArg some (by kernel_rfl)),
  f320 := Tryz.func139.trans (congrArg some (by kernel_rfl)),
  f337 := Tryz.func153.trans (congrArg some (by kernel_rfl)),
  f338 := Tryz.func154.trans (congrArg some (by kernel_rfl)),
  t0 := Tryz.underlying0,
  a0 := Tryz.isAgg0,
  z0 := Tryz.sizeOf0,
  v0 := Tryz.zeroValue0,
  t2 := Tryz.underlying2,
  a2 := Tryz.isAgg2,
  z2 := Tryz.sizeOf2,
  v2 := Tryz.zeroValue2,
  t3 := Tryz.underlying3,
  a3 := Tryz.isAgg3,
  z3 := Tryz.sizeOf3,
  v3 := Tryz.zeroValue3,
  t4 := Tryz.underlying4,
  a4 := Tryz.isAgg4,
  z4 := Tryz.sizeOf4,
  v4 := Tryz.zeroValue4,
  t5 := Tryz.underlying5,
  a5 := Tryz.isAgg5,
  z5 := Tryz.sizeOf5,
  v5 := Tryz.zeroValue5,
  t9 := Tryz.underlying9,
  a9 := Tryz.isAgg9,
  z9 := Tryz.sizeOf9,
  v9 := Tryz.zeroValue9,
  t20 := Tryz.underlying20,
  a20 := Tryz.isAgg20,
  z20 := Tryz.sizeOf20,
  v20 := Tryz.zeroValue20,
  t37 := Tryz.underlying62,
  a37 := Tryz.isAgg62,
  z37 := Tryz.sizeOf62,
  v37 := Tryz.zeroValue62,
  t46 := Tryz.underlying221,
  a46 := Tryz.isAgg221,
  z46 := Tryz.sizeOf221,
  v46 := Tryz.zeroValue221,
  t51 := Tryz.underlying218,
  a51 := Tryz.isAgg218,
  z51 := Tryz.sizeOf218,
  v51 := Tryz.zeroValue218,
  t53 := Tryz.underlying186,
  a53 := Tryz.isAgg186,
  z53 := Tryz.sizeOf186,
  v53 := Tryz.zeroValue186,
  t171 := Tryz.underlying185,
  a171 := Tryz.isAgg185,
  z171 := Tryz.sizeOf185,
  v171 := Tryz.zeroValue185,
  t173 := Tryz.underlying189,
  a173 := Tryz.isAgg189,
  z173 := Tryz.sizeOf189,
  v173 := Tryz.zeroValue189,
  t212 := Tryz.underlying217,
  a212 := Tryz.isAgg217,
  z212 := Tryz.sizeOf217,
  v212 := Tryz.zeroValue217,
  t213 := Tryz.underlying219,
  a213 := Tryz.isAgg219,
  z213 := Tryz.sizeOf219,
  t232 := Tryz.underlying239,
  a232 := Tryz.isAgg239,
  z232 := Tryz.sizeOf239,
  v232 := Tryz.zeroValue239,
  t233 := Tryz.underlying240,
  a233 := Tryz.isAgg240,
  z233 := Tryz.sizeOf240,
  v233 := Tryz.zeroValue240,
  g17 := by kernel_rfl,
  g18 := by kernel_rfl,
  g19 := by kernel_rfl,
  i0 := by kernel_rfl,
  i2 := by kernel_rfl,
  i3 := by kernel_rfl,
  i4 := by kernel_rfl,
  i5 := by kernel_rfl,
  i9 := by kernel_rfl,
  i20 := by kernel_rfl,
  i37 := by kernel_rfl,
  i46 := by kernel_rfl,
  i51 := by kernel_rfl,
  i53 := by kernel_rfl,
  i171 := by kernel_rfl,
  i173 := by kernel_rfl,
  i212 := by kernel_rfl,
  i232 := by kernel_rfl,
  i233 := by kernel_rfl,
  m17 := by kernel_rfl,
  m18 := by kernel_rfl,
  m19 := by kernel_rfl }
def layJoin_ren : Go.Shelf.Ren := ⟨fun | 156 => 61 | 165 => 80 | 166 => 81 | 169 => 82 | 240 => 108 | 241 => 109 | 276 => 133 | 277 => 134 | n => n, fun | 31 => 101 | 9 => 9 | 3 => 3 | 4 => 4 | 0 => 0 | 20 => 20 | 72 => 153 | 76 => 157 | 70 => 151 | 37 => 62 | 75 => 156 | 127 => 183 | 164 => 212 | 5 => 5 | 80 => 159 | n => n, fun | n => n⟩
theorem layJoin : Go.Proofs.Lays.n156 Tryz.prog layJoin_ren := {
  mixed := by kernel_rfl,
  f156 := Tryz.func61.trans (congrArg some (by kernel_rfl)),
  f165 := Tryz.func80.trans (congrArg some (by kernel_rfl)),
  f166 := Tryz.func81.trans (congrArg some (by kernel_rfl)),
  f169 := Tryz.func82.trans (congrArg some (by kernel_rfl)),
  f240 := Tryz.func108.trans (congrArg some (by kernel_rfl)),
  f241 := Tryz.func109.trans (congrArg some (by kernel_rfl)),
  f276 := Tryz.func133.trans (congrArg some (by kernel_rfl)),
  f277 := Tryz.func134.trans (congrArg some (by kernel_rfl)),
  t0 := Tryz.underlying0,
  a0 := Tryz.isAgg0,
  z0 := Tryz.sizeOf0,
  v0 := Tryz.zeroValue0,
  t3 := Tryz.underlying3,
  a3 := Tryz.isAgg3,
  z3 := Tryz.sizeOf3,
  v3 := Tryz.zeroValue3,
  t4 := Tryz.underlying4,
  a4 := Tryz.isAgg4,
  z4 := Tryz.sizeOf4,
  v4 := Tryz.zeroValue4,
  t9 := Tryz.underlying9,
  a9 := Tryz.isAgg9,
  z9 := Tryz.sizeOf9,
  v9 := Tryz.zeroValue9,
  t20 := Tryz.underlying20,
  a20 := Tryz.isAgg20,
  z20 := Tryz.sizeOf20,
  v20 := Tryz.zeroValue20,
  t31 := Tryz.underlying101,
  a31 := Tryz.isAgg101,
  z31 := Tryz.sizeOf101,
  v31 := Tryz.zeroValue101,
  t37 := Tryz.underlying62,
  a37 := Tryz.isAgg62,
  z37 := Tryz.sizeOf62,
  v37 := Tryz.zeroValue62,
  t70 := Tryz.underlying151,
  a70 := Tryz.isAgg151,
  z70 := Tryz.sizeOf151,
  v70 := Tryz.zeroValue151,
  t72 := Tryz.underlying153,
  a72 := Tryz.isAgg153,
  z72 := Tryz.sizeOf153,
  v72 := Tryz.zeroValue153,
  t75 := Tryz.underlying156,
  a75 := Tryz.isAgg156,
  z75 := Tryz.sizeOf156,
  v75 := Tryz.zeroValue156,
  t76 := Tryz.underlying157,
  a76 := Tryz.isAgg157,
  z76 := Tryz.sizeOf157,
  v76 := Tryz.zeroValue157,
  t127 := Tryz.underlying183,
  a127 := Tryz.isAgg183,
  z127 := Tryz.sizeOf183,
  v127 := Tryz.zeroValue183,
  t164 := Tryz.underlying212,
  a164 := Tryz.isAgg212,
  z164 := Tryz.sizeOf212,
  v164 := Tryz.zeroValue212 }
theorem layExtra : Builder.Extra Tryz.prog layJoin_ren where
  sizeBuilder := by kernel_rfl
  liesBuilder := by kernel_rfl
  t5 := layFormat.t5
  a5 := layFormat.a5
  z5 := layFormat.z5
  v5 := layFormat.v5
  infoByte := by kernel_rfl
  cellsByte := by kernel_rfl
  sizeByte := by kernel_rfl
  neB5 := by decide
/-- The library's table of powers of ten as laid. -/
def TabL (w : World) : Prop := Lib.TabIs Tryz.prog w "internal/strconv.uint64pow10" .u64 Lib.pow10Tab
theorem TabL.below {w w' : World} (h : TabL w) (hb : Below w.heap.size w w') : TabL w' := by
  have hgn : Tryz.prog.globalNamed "internal/strconv.uint64pow10" = some 0 := by kernel_rfl
  unfold TabL Lib.TabIs World.var? at h ⊢
  rw [hgn] at h ⊢
  simp only [Option.bind_some] at h ⊢
  have hlt : 0 < w.heap.size := by
    apply Classical.byContradiction; intro hn
    rw [Array.getElem?_eq_none (by omega)] at h; cases h
  rw [hb.block _ hlt]; exact h
theorem pFormat (n : Int) (w : World) (h0 : 0 ≤ n) (h1 : n ≤ 9223372036854775807) (ht : TabL w) :
    Calls Tryz.prog 62 #[.int .i64 n, .int .i64 10] w fun e w' => e = .returned (.string (SB (dg n))) ∧ Below w.heap.size w w' := by
  have h := Any.strconv_FormatInt_10 layFormat n (by omega) h1 w ht
  rw [dg_itoa h0] at h
  refine Calls.mono h ?_
  rintro e w' ⟨rfl, k, os, rfl⟩
  exact ⟨rfl, Lib.below_grow _ w (Nat.le_refl _) k os⟩
theorem pJoin (b off cap : Nat) (y : List UInt8) (xs : List (List UInt8)) (w : World) (hb : b < w.heap.size) (hc : ∀ j (h : j < (y :: xs).length), w.cell? ⟨b, off + j, none⟩ = some (.string (SB ((y :: xs)[j])))) (hn : (y :: xs).length ≤ cap) (hn2 : (y :: xs).length ≤ 140737488355328) (hl : (y ++ jt xs).length ≤ 140737488355328) :
    Calls Tryz.prog 61 #[.slice (some ⟨b, off, none⟩) (y :: xs).length cap, .string { data := #[32] }] w fun e w' => e = .returned (.string (SB (y ++ jt xs))) ∧ Below w.heap.size w w' := by
  have hd : ((y :: xs).map SB).map (·.data.toList) = y :: xs := by
    rw [List.map_map]
    have : ((fun x : ByteArray => x.data.toList) ∘ SB) = id := funext fun l => by simp [SB]
    rw [this, List.map_id]
  have hlen : ((y :: xs).map SB).length = (y :: xs).length := List.length_map _
  have hs : ({ data := #[32] } : ByteArray).data.toList = [32] := rfl
  have h := Any.strings_Join layJoin layExtra b off cap ((y :: xs).map SB) { data := #[32] } w (fun j x hx => by
    rw [List.getElem?_map] at hx
    obtain ⟨z, hz, rfl⟩ := Option.map_eq_some_iff.1 hx
    obtain ⟨hlt, rfl⟩ := List.getElem?_eq_some_iff.1 hz
    exact hc j hlt) hb (by rw [hlen]; exact hn2) (by rw [hlen]; exact hn) (by rw [hd, hs, jt_join]; exact hl)
  rw [hd, hs, jt_join, hlen] at h
  exact h
end Go.Proofs.YtfpemobkkfobkaaGreatDoor

/- What the program makes of a number in decimal, of a side's kind and of a line of words; nothing that was in memory turns; the condition is the row's own: the library's table as the program's text lays it. -/
namespace Go.Proofs.YtfpemobkkfobkaaGreatDoor
open Go.RowKit
set_option linter.unusedVariables false
set_option maxRecDepth 8000

theorem iDecimal (n : Int) (w : World) (h0 : 0 ≤ n) (h1 : n ≤ 9223372036854775807) (ht : TabL w) :
    Calls Tryz.prog 42 #[.int .i64 n] w fun e w' => e = .returned (.string (SB (dg n))) ∧ Below w.heap.size w w' := by
  have HT : Hid (TabL w) := ht
  clear ht
  go_enter Tryz.func42, Tryz.ntmps42
  go_wp2_with fail
  refine (pFormat n w h0 h1 HT.out).mono ?_
  rintro e w1 ⟨rfl, hb⟩
  have HB : Hid _ := hb
  clear hb
  go_wp2_with fail
  go_ret
  exact ⟨rfl, HB.out⟩
theorem iKindOf (s ky pr ak fi gv : Int) (pl fr fn fd : Bool) (v5 v9 v10 v13 : Value) (w : World) :
    Calls Tryz.prog 63 #[.agg #[.int .i64 s, .int .i64 ky, .int .i64 pr, .bool pl, .bool fr, v5, .bool fn, .int .i64 ak, .bool fd, v9, v10, .int .i64 fi, .int .i64 gv, v13]] w fun e w' => e = .returned (.string (SB (kindB pl))) ∧ Below w.heap.size w w' := by
  cases pl with
  | true =>
    go_enter Tryz.func63, Tryz.ntmps63
    go_wp2
    go_ret
    exact ⟨rfl, by go_grown⟩
  | false =>
    go_enter Tryz.func63, Tryz.ntmps63
    go_wp2
    go_ret
    exact ⟨rfl, by go_grown⟩
theorem iLineWith (b off cap n : Nat) (y : List UInt8) (xs : List (List UInt8)) (w : World) (hb : b < w.heap.size) (hc : ∀ j (h : j < (y :: xs).length), w.cell? ⟨b, off + j, none⟩ = some (.string (SB ((y :: xs)[j])))) (hN : n = (y :: xs).length) (hn : n ≤ cap) (hn2 : n ≤ 140737488355328) (hl : (y ++ jt xs).length ≤ 1000000000) :
    Calls Tryz.prog 41 #[.slice (some ⟨b, off, none⟩) n cap] w fun e w' => e = .returned (.string (SB (y ++ jt xs ++ [10]))) ∧ Below w.heap.size w w' := by
  have HJ : Hid (Calls Tryz.prog 61 #[.slice (some ⟨b, off, none⟩) n cap, .string { data := #[32] }] w fun e w' => e = .returned (.string (SB (y ++ jt xs))) ∧ Below w.heap.size w w') := by
    rw [hN] at hn hn2 ⊢
    exact pJoin b off cap y xs w hb hc hn hn2 (by omega)
  clear hc hN
  generalize y ++ jt xs = L at *
  have hs1 : (SB L).size = L.length := SB_size _
  have hs2 : ¬ 9223372036854775807 < L.length + 1 := by omega
  have hE : Hid (SB L ++ { data := #[10] } = SB (L ++ [10])) := by show _ = _; rw [← SB_app]; rfl
  go_enter Tryz.func41, Tryz.ntmps41
  go_wp2_with fail
  refine Calls.mono HJ.out ?_
  rintro e w1 ⟨rfl, hb1⟩
  have HB : Hid _ := hb1
  clear hb1 HJ
  go_wp2_with fail
  go_ret
  exact ⟨by rw [← hE.out]; rfl, HB.out⟩
end Go.Proofs.YtfpemobkkfobkaaGreatDoor
