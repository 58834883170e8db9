/- What is right of a world, in plain terms, and what is read of a world without a fault; no condition. -/
import Derived.Test.YtnfkjdcnngoeiabGreatRows
import Derived.Recover
import Derived.Deep.RegionHeld3
import Derived.Deep.DeepCutAuto
import Derived.Deep.MidRow
import Derived.Test.YtnfkjdcnngoeiabGreatK01
import Derived.Test.YtnfkjdcnngoeiabGreatK02
import Derived.Test.YtnfkjdcnngoeiabGreatK03
import Derived.Test.YtnfkjdcnngoeiabGreatK05
import Derived.Test.YtnfkjdcnngoeiabGreatK09
import Derived.Test.YtnfkjdcnngoeiabGreatK10
import Derived.Test.YtnfkjdcnngoeiabGreatK11
import Derived.Test.YtnfkjdcnngoeiabGreatK12
import Derived.Test.YtnfkjdcnngoeiabGreatK14
import Derived.Test.YtnfkjdcnngoeiabGreatK55
import Derived.Test.YtnfkjdcnngoeiabGreatK56
import Derived.Test.YtnfkjdcnngoeiabGreatK57
import Derived.Test.YtnfkjdcnngoeiabGreatK58
import Derived.Test.YtnfkjdcnngoeiabGreatK59
import Derived.Test.YtnfkjdcnngoeiabGreatK60
import Derived.Test.YtnfkjdcnngoeiabGreatK62
import Derived.Test.YtnfkjdcnngoeiabGreatK64
namespace Go.Proofs.YtnfkjdcnngoeiabGreat
open Go.RowKit
set_option linter.unusedVariables false

def DWorld.sides (x : DWorld) : List DConn := x.2.1
def DWorld.got (x : DWorld) : List (List Int) := x.2.2.2.1
def DWorld.ended (x : DWorld) : List Bool := x.2.2.2.2.1
def cn0 : DConn := (0, 0, 0, false, false, [], false, 0, false, ([], [], ()), 0, 0, [], ())
/-- The side number k, its bytes and its end. -/
def DWorld.cn (x : DWorld) (k : Nat) : DConn := x.sides.getD k cn0
def DWorld.gt (x : DWorld) (k : Nat) : List Int := x.got.getD k []
def DWorld.en (x : DWorld) (k : Nat) : Bool := x.ended.getD k false
/-- How many sides are Plain. -/
def plnN : List DConn → Nat
  | [] => 0
  | c :: r => (if c.plain then 1 else 0) + plnN r
def plnV (x : DWorld) : Int := if worldF x = 0 then (plnN x.sides : Int) else 0
theorem pln_drop {l : List DConn} {k : Nat} (hk : k < l.length) : plnN (l.drop k) = (if l[k].plain then 1 else 0) + plnN (l.drop (k + 1)) := by
  rw [List.drop_eq_getElem_cons hk]; rfl
theorem pln_end {l : List DConn} {k : Nat} (hk : l.length ≤ k) : plnN (l.drop k) = 0 := by rw [List.drop_of_length_le hk]; rfl
/-- What is known to be there is there. -/
def knoV (c o : DConn) : Bool := decide (c.acked ≤ (o.inn.1.length : Int)) && (!c.finDone || !decide (o.finIn = -1))
/-- What is asked of a side: no fault, a side that is there, and what f says of it and the other one. -/
def askV (f : DConn → DConn → List Int → Bool → Bool) (x : DWorld) (s : Int) : Bool := decide (worldF x = 0) && inD s 0 1 && f (x.cn s.toNat) (x.cn (1 - s).toNat) (x.gt s.toNat) (x.en s.toNat)

theorem worldF_okA {x : DWorld} (h : worldF x = 0) :
    x.sides.length = 2 ∧ x.got.length = 2 ∧ x.ended.length = 2 ∧ (∀ k (hk : k < x.sides.length), connF x.sides[k] = 0) := by
  obtain ⟨now, sides, net, got, ended, ⟨⟩⟩ := x
  replace h : (if inD now 0 100000 = false then (3 : Int) else if sides.length ≠ 2 then 1 else if got.length ≠ 2 then 1 else if ended.length ≠ 2 then 1 else if cfsF sides ≠ 0 then cfsF sides else if sdF 0 sides = false then 1 else if netF net.1 net.2.1 ≠ 0 then netF net.1 net.2.1 else if gotF sides got = false then 1 else 0) = 0 := h
  show sides.length = 2 ∧ got.length = 2 ∧ ended.length = 2 ∧ ∀ k (hk : k < sides.length), connF sides[k] = 0
  by_cases h0 : inD now 0 100000 = false
  · rw [if_pos h0] at h; cases h
  rw [if_neg h0] at h
  by_cases h1 : sides.length = 2
  case neg => rw [if_pos h1] at h; cases h
  rw [if_neg (by simp [h1])] at h
  by_cases h2 : got.length = 2
  case neg => rw [if_pos h2] at h; cases h
  rw [if_neg (by simp [h2])] at h
  by_cases h3 : ended.length = 2
  case neg => rw [if_pos h3] at h; cases h
  rw [if_neg (by simp [h3])] at h
  by_cases h4 : cfsF sides = 0
  · exact ⟨h1, h2, h3, cfs_at h4⟩
  · rw [if_pos h4] at h; exact absurd h h4
/-- A conn in memory: its cells, and what lies behind them. -/
structure CnA (w : World) (B : Nat) (c : DConn) (A : Array Value) (a5 : Option Addr) (c5 : Nat) (a9 : Option Addr) (c9 : Nat) (a10 : Option Addr) (c10 : Nat) (a13 : Option Addr) (c13 : Nat) : Prop where
  eA : A = #[.int .i64 c.side, .int .i64 c.key, .int .i64 c.peer, .bool c.plain, .bool c.free, .slice a5 c.wrote.length c5, .bool c.fin, .int .i64 c.acked, .bool c.finDone, .slice a9 c.inn.1.length c9, .slice a10 c.inn.2.1.length c10, .int .i64 c.finIn, .int .i64 c.given, .slice a13 c.subs.length c13]
  wr : u8s.Rd w B c.wrote [.slice a5 c.wrote.length c5]
  inn : gtS.Rd w B c.inn [.slice a9 c.inn.1.length c9, .slice a10 c.inn.2.1.length c10]
  subs : shSubs.Rd w B c.subs [.slice a13 c.subs.length c13]
theorem cn_all {w : World} {B : Nat} {c : DConn} {A : Array Value} (h : shConn.Rd w B c A.toList) : ∃ a5 c5 a9 c9 a10 c10 a13 c13, CnA w B c A a5 c5 a9 c9 a10 c10 a13 c13 := by
  obtain ⟨y0, y1, y2, y3, y4, d5, y6, y7, y8, ⟨dn, ps, ⟨⟩⟩, y10, y11, l, ⟨⟩⟩ := c
  obtain ⟨a5, c5, a9, c9, a10, c10, a13, c13, eA, r5, r9, r13, -⟩ := rd_Conn h
  exact ⟨a5, c5, a9, c9, a10, c10, a13, c13, arr_of eA, r5, r9, r13⟩
theorem CnA.rd {w : World} {B : Nat} {c : DConn} {A : Array Value} (h : shConn.Rd w B c A.toList) {W : World} (hB : B ≤ w.heap.size) (hW : Below w.heap.size w W) : shConn.Rd W B c A.toList := Sh.Rd.below h hB hW
/-- A world without a fault in memory: its six cells, and its sides, bytes and ends. -/
structure WoA (w : World) (B : Nat) (x : DWorld) (A : Array Value) (sb so : Nat) (sc : Nat) (na : Option Addr) (nc : Nat) (da : Option Addr) (dc : Nat) (gb go : Nat) (gc : Nat) (eb eo : Nat) (ec : Nat) : Prop where
  eA : A = #[.int .i64 x.1, .slice (some ⟨sb, so, none⟩) 2 sc, .slice na x.2.2.1.1.length nc, .slice da x.2.2.1.2.1.length dc, .slice (some ⟨gb, go, none⟩) 2 gc, .slice (some ⟨eb, eo, none⟩) 2 ec]
  sl : sb < B
  gl : gb < B
  el : eb < B
  cs : ∀ k, k < 2 → ∃ C : Array Value, w.rangeAt sb (so + k * 14) C.toList ∧ shConn.Rd w B (x.cn k) C.toList
  gs : ∀ k, k < 2 → ∃ u uc, w.cell? ⟨gb, go + k, none⟩ = some (.slice u (x.gt k).length uc) ∧ u8s.Rd w B (x.gt k) [.slice u (x.gt k).length uc]
  es : ∀ k, k < 2 → w.cell? ⟨eb, eo + k, none⟩ = some (.bool (x.en k))
  ok : ∀ k, k < 2 → connF (x.cn k) = 0
  tot : ∀ k, k < 2 → totConn (x.cn k) ≤ 1048576
theorem wo_all {w : World} {B : Nat} {x : DWorld} {A : Array Value} (h : shWorld.Rd w B x A.toList) (hF : worldF x = 0) (hT : totWorld x ≤ 1048576) : ∃ sb so sc na nc da dc gb go gc eb eo ec, WoA w B x A sb so sc na nc da dc gb go gc eb eo ec := by
  obtain ⟨l1, l2, l3, hk⟩ := worldF_okA hF
  obtain ⟨now, sides, ⟨bag, dead, ⟨⟩⟩, got, ended, ⟨⟩⟩ := x
  replace l1 : sides.length = 2 := l1
  replace l2 : got.length = 2 := l2
  replace l3 : ended.length = 2 := l3
  replace hk : ∀ k (hk : k < sides.length), connF sides[k] = 0 := hk
  have hTc : totConns sides ≤ 1048576 := by have h : totConns sides + totNet (bag, dead, ()) + totBss got + ended.length ≤ 1048576 := hT; omega
  obtain ⟨sa, sc, na, nc, da, dc, ga, gc, ea, ec, eA, r1, r2, r3, r4, -⟩ := rd_World h
  obtain ⟨sb, so, hsa, hsb, hsc⟩ := conns_at r1 (by intro e; subst e; simp at l1)
  subst hsa
  obtain ⟨gb, go, hga, hgb⟩ : ∃ gb go, ga = some ⟨gb, go, none⟩ ∧ gb < B := by obtain ⟨b, off, u, uc, ha, hb, -⟩ := bss_at r3 0 (by omega); exact ⟨b, off, ha, hb⟩
  subst hga
  obtain ⟨ea', ec', e4, -, eb, eo, h4, c4⟩ := rd_bls r4
  simp only [Value.slice.injEq, true_and] at e4
  obtain ⟨rfl, rfl⟩ := e4
  obtain ⟨rfl, heb⟩ := h4 (by intro e; subst e; simp at l3)
  have eA' := arr_of eA
  rw [l1, l2, l3] at eA'
  have cnk : ∀ k (h : k < 2), DWorld.cn (now, sides, (bag, dead, ()), got, ended, ()) k = sides[k]'(by omega) := fun k h => by
    show sides.getD k cn0 = _
    rw [List.getD_eq_getElem?_getD, List.getElem?_eq_getElem (by omega)]; rfl
  have gtk : ∀ k (h : k < 2), DWorld.gt (now, sides, (bag, dead, ()), got, ended, ()) k = got[k]'(by omega) := fun k h => by
    show got.getD k [] = _
    rw [List.getD_eq_getElem?_getD, List.getElem?_eq_getElem (by omega)]; rfl
  have enk : ∀ k (h : k < 2), DWorld.en (now, sides, (bag, dead, ()), got, ended, ()) k = ended[k]'(by omega) := fun k h => by
    show ended.getD k false = _
    rw [List.getD_eq_getElem?_getD, List.getElem?_eq_getElem (by omega)]; rfl
  refine ⟨sb, so, sc, na, nc, da, dc, gb, go, gc, eb, eo, ec, eA', hsb, hgb, heb, fun k h => ?_, fun k h => ?_, fun k h => ?_, fun k h => ?_, fun k h => ?_⟩
  · rw [cnk k h]; exact hsc k (by omega)
  · rw [gtk k h]
    obtain ⟨b, off, u, uc, ha, hb, q1, q2⟩ := bss_at r3 k (by omega)
    simp only [Option.some.injEq, Addr.mk.injEq, and_true] at ha
    obtain ⟨rfl, rfl⟩ := ha
    exact ⟨u, uc, q1, q2⟩
  · rw [enk k h]; exact c4 k (by omega)
  · rw [cnk k h]; exact hk k (by omega)
  · rw [cnk k h]; have := fsum_at totConn (l := sides) (k := k) (by omega); unfold totConns at hTc; omega
/-- What is asked ends: it answers nothing, or it is not right. -/
def wantE (b : Bool) : Ending := if b then .returned (.tuple #[]) else .panicked [{ v := .iface 146 (.agg #[]), recovered := false }]
/-- A view: a side and the other one, its bytes and its end. -/
structure VwA (w : World) (B : Nat) (c o : DConn) (g : List Int) (e : Bool) (V C O : Array Value) (gu : Option Addr) (gc : Nat) : Prop where
  eV : V = C ++ O ++ #[.slice gu g.length gc, .bool e]
  rc : shConn.Rd w B c C.toList
  ro : shConn.Rd w B o O.toList
  rg : u8s.Rd w B g [.slice gu g.length gc]
  okc : connF c = 0
  oko : connF o = 0
  toc : totConn c ≤ 1048576
  too : totConn o ≤ 1048576
theorem VwA.below {w W : World} {B : Nat} {c o : DConn} {g : List Int} {e : Bool} {V C O : Array Value} {gu : Option Addr} {gc : Nat} (h : VwA w B c o g e V C O gu gc) (hB : B ≤ w.heap.size) (hW : Below w.heap.size w W) : VwA W B c o g e V C O gu gc :=
  ⟨h.eV, h.rc.below hB hW, h.ro.below hB hW, h.rg.below hB hW, h.okc, h.oko, h.toc, h.too⟩
theorem VwA.size {w : World} {B : Nat} {c o : DConn} {g : List Int} {e : Bool} {V C O : Array Value} {gu : Option Addr} {gc : Nat} (h : VwA w B c o g e V C O gu gc) : V.size = 30 ∧ C.size = 14 ∧ O.size = 14 := by
  have h1 : C.size = 14 := rd_size h.rc
  have h2 : O.size = 14 := rd_size h.ro
  refine ⟨?_, h1, h2⟩
  rw [h.eV]; simp [h1, h2]
theorem VwA.mine {w : World} {B : Nat} {c o : DConn} {g : List Int} {e : Bool} {V C O : Array Value} {gu : Option Addr} {gc : Nat} (h : VwA w B c o g e V C O gu gc) {k : Nat} (hk : k < 14) : V[k]? = C[k]? := by
  obtain ⟨-, h1, h2⟩ := h.size
  rw [h.eV, Array.append_assoc, Array.getElem?_append_left (by omega)]
theorem VwA.other {w : World} {B : Nat} {c o : DConn} {g : List Int} {e : Bool} {V C O : Array Value} {gu : Option Addr} {gc : Nat} (h : VwA w B c o g e V C O gu gc) {k : Nat} (hk : k < 14) : V[14 + k]? = O[k]? := by
  obtain ⟨-, h1, h2⟩ := h.size
  rw [h.eV, Array.append_assoc, Array.getElem?_append_right (by omega), Array.getElem?_append_left (by omega), h1, Nat.add_sub_cancel_left]
theorem VwA.last {w : World} {B : Nat} {c o : DConn} {g : List Int} {e : Bool} {V C O : Array Value} {gu : Option Addr} {gc : Nat} (h : VwA w B c o g e V C O gu gc) : V[28]? = some (.slice gu g.length gc) ∧ V[29]? = some (.bool e) := by
  obtain ⟨-, h1, h2⟩ := h.size
  constructor
  · rw [h.eV, Array.getElem?_append_right (by simp; omega)]; simp [h1, h2]
  · rw [h.eV, Array.getElem?_append_right (by simp; omega)]; simp [h1, h2]
/-- The other side as a range of the view's box. -/
theorem VwA.range {w : World} {B : Nat} {c o : DConn} {g : List Int} {e : Bool} {V C O : Array Value} {gu : Option Addr} {gc : Nat} (h : VwA w B c o g e V C O gu gc) {W : World} {b : Nat} (hk : ∀ i, W.cell? ⟨b, i, none⟩ = V[i]?) : W.rangeAt b 14 O.toList := fun j v hv => by
  obtain ⟨-, h1, h2⟩ := h.size
  have hj : j < 14 := by
    rcases Nat.lt_or_ge j 14 with q | q
    · exact q
    · rw [List.getElem?_eq_none (by simp; omega)] at hv; cases hv
  rw [hk, h.other hj]
  rw [Array.getElem?_toList] at hv
  exact hv
end Go.Proofs.YtnfkjdcnngoeiabGreat

/- What is right of a world, the program's small parts: must, endsAt, otherSide, what is recovered; nothing that was in memory turns; no condition. -/
namespace Go.Proofs.YtnfkjdcnngoeiabGreat
open Go.RowKit
set_option linter.unusedVariables false
set_option maxRecDepth 8000

theorem iMust (b : Bool) (w : World) : Calls Tryz.prog 63 #[.bool b] w fun e w' => e = wantE b ∧ w' = w := by
  cases b with
  | true =>
    go_enter Tryz.func63, Tryz.ntmps63
    go_wp2_with fail
    go_end0
    exact ⟨rfl, rfl⟩
  | false =>
    go_enter Tryz.func63, Tryz.ntmps63
    go_wp2_with fail
    simp [bodyPost, wantE]
theorem iEndsAt (A : Array Value) (f : Bool) (a5 : Option Addr) (n c5 : Nat) (x : Int) (w : World) (x5 : A[5]? = some (.slice a5 n c5)) (x6 : A[6]? = some (.bool f)) (hm : n ≤ 1048576) :
    Calls Tryz.prog 65 #[.agg A, .int .i64 x] w fun e w' => e = .returned (.bool (f && decide ((n : Int) = x))) ∧ Below w.heap.size w w' := by
  cases f with
  | false =>
    go_enter Tryz.func65, Tryz.ntmps65
    go_wp2_with fail
    go_ret
    exact ⟨rfl, by go_grown⟩
  | true =>
    go_enter Tryz.func65, Tryz.ntmps65
    go_wp2_with fail
    go_ret
    exact ⟨ret_bool (by rw [Bool.true_and]; exact Bool.eq_iff_iff.2 (by simp)), by go_grown⟩
theorem iOtherSide (k k' : Nat) (w : World) (h : k + k' = 1) : Calls Tryz.prog 105 #[.int .i64 k] w fun e w' => e = .returned (.int .i64 k') ∧ w' = w := by
  have hw : IntKind.i64.wrap (1 - (k : Int)) = (k' : Int) := by simp only [IntKind.wrap, IntKind.bits, IntKind.signed]; simp; omega
  go_enter Tryz.func105, Tryz.ntmps105
  go_wp2_with fail
  go_ret
  exact ⟨rfl, rfl⟩
theorem iCatchP (p : Addr) (b : Bool) (u : TypeId) (pv : Value) (older : List PanicEntry) (w : World) (hc : w.cell? p = some (.bool b)) (hz : w.frozen? p = false) :
    CallsD Tryz.prog 77 #[.pointer (some p)] (.panicking ({ v := .iface u pv, recovered := false } :: older)) w fun e u' w' =>
      e = .returned (.tuple #[]) ∧ u' = .panicking ({ v := .iface u pv, recovered := true } :: older) ∧ w' = w.setCell p (.bool false) := by
  refine callsD_of_wpS Tryz.func77 rfl fun c₀ cs hu => ?_
  apply wpS_region
  simp [wpOpsS, go_sem, recoverD, hu, Tryz.ntmps77, hc, hz, bodyPostS, results, Tryz.results77]
theorem iCatchR (p : Addr) (b : Bool) (w : World) (hc : w.cell? p = some (.bool b)) (hz : w.frozen? p = false) :
    CallsD Tryz.prog 77 #[.pointer (some p)] .returning w fun e u' w' => e = .returned (.tuple #[]) ∧ u' = .returning ∧ w' = w.setCell p (.bool true) := by
  refine callsD_of_wpS Tryz.func77 rfl fun c₀ cs hu => ?_
  apply wpS_region
  cases c₀
  simp only at hu
  subst hu
  simp [wpOpsS, go_sem, recoverD, Tryz.ntmps77, hc, hz, bodyPostS, results, Tryz.results77]
end Go.Proofs.YtnfkjdcnngoeiabGreat

/- A view of a world, and what is asked of it: the program's viewOf and isRight; nothing that was in memory turns; no condition but that there are at most a million parts. Written by mkaud.py. -/
namespace Go.Proofs.YtnfkjdcnngoeiabGreat
open Go.RowKit
set_option linter.unusedVariables false
set_option maxRecDepth 8000

theorem info_view : (Tryz.prog.info? 114).map (·.size) = some 30 := by kernel_rfl
set_option maxHeartbeats 8000000 in
theorem iViewOf0 (k k' : Nat) (x0 x1 x2 x7 xf xg : Int) (x3 x4 x6 x8 : Bool) (x5n x5c x9n x9c xdn xdc xsn xsc : Nat) (x5a x9a xda xsa : Option Addr) (y0 y1 y2 y7 yf yg : Int) (y3 y4 y6 y8 : Bool) (y5n y5c y9n y9c ydn ydc ysn ysc : Nat) (y5a y9a yda ysa : Option Addr) (now : Int) (sb so sc nn nc dn dc gb go gc eb eo ec : Nat) (na da : Option Addr) (gu : Option Addr) (gn gq : Nat) (e : Bool) (w : World) (h1 : k + k' = 1)
    (hs : sb < w.heap.size) (hg : gb < w.heap.size) (he : eb < w.heap.size) (c0 : w.rangeAt sb (so + k * 14) [.int .i64 x0, .int .i64 x1, .int .i64 x2, .bool x3, .bool x4, .slice x5a x5n x5c, .bool x6, .int .i64 x7, .bool x8, .slice x9a x9n x9c, .slice xda xdn xdc, .int .i64 xf, .int .i64 xg, .slice xsa xsn xsc]) (c1 : w.rangeAt sb (so + k' * 14) [.int .i64 y0, .int .i64 y1, .int .i64 y2, .bool y3, .bool y4, .slice y5a y5n y5c, .bool y6, .int .i64 y7, .bool y8, .slice y9a y9n y9c, .slice yda ydn ydc, .int .i64 yf, .int .i64 yg, .slice ysa ysn ysc]) (c2 : w.cell? ⟨gb, go + k, none⟩ = some (.slice gu gn gq)) (c3 : w.cell? ⟨eb, eo + k, none⟩ = some (.bool e)) :
    Calls Tryz.prog 78 #[.agg #[.int .i64 now, .slice (some ⟨sb, so, none⟩) 2 sc, .slice na nn nc, .slice da dn dc, .slice (some ⟨gb, go, none⟩) 2 gc, .slice (some ⟨eb, eo, none⟩) 2 ec], .int .i64 k] w fun r w' => r = .returned (.agg #[.int .i64 x0, .int .i64 x1, .int .i64 x2, .bool x3, .bool x4, .slice x5a x5n x5c, .bool x6, .int .i64 x7, .bool x8, .slice x9a x9n x9c, .slice xda xdn xdc, .int .i64 xf, .int .i64 xg, .slice xsa xsn xsc, .int .i64 y0, .int .i64 y1, .int .i64 y2, .bool y3, .bool y4, .slice y5a y5n y5c, .bool y6, .int .i64 y7, .bool y8, .slice y9a y9n y9c, .slice yda ydn ydc, .int .i64 yf, .int .i64 yg, .slice ysa ysn ysc, .slice gu gn gq, .bool e]) ∧ Below w.heap.size w w' := by
  obtain ⟨N, hN⟩ : ∃ N : Array Value, N = #[.int .i64 x0, .int .i64 x1, .int .i64 x2, .bool x3, .bool x4, .slice x5a x5n x5c, .bool x6, .int .i64 x7, .bool x8, .slice x9a x9n x9c, .slice xda xdn xdc, .int .i64 xf, .int .i64 xg, .slice xsa xsn xsc, .int .i64 y0, .int .i64 y1, .int .i64 y2, .bool y3, .bool y4, .slice y5a y5n y5c, .bool y6, .int .i64 y7, .bool y8, .slice y9a y9n y9c, .slice yda ydn ydc, .int .i64 yf, .int .i64 yg, .slice ysa ysn ysc, .slice gu gn gq, .bool e] := ⟨_, rfl⟩
  rw [← hN]
  have HN : Hid _ := hN
  have hNz : N.size = 30 := by rw [hN]; rfl
  have HIN : Hid ((Tryz.prog.info? 114).map (·.size) = some N.size) := by show _ = _; rw [hNz]; exact info_view
  have HONE : Hid (N.all (·.oneCell') = true) := by show _ = _; rw [hN]; simp [Value.oneCell']
  have HNZ : Hid (N.size = 30) := hNz
  clear hN hNz
  have hk0 : (0 : Int) ≤ (k : Int) := by omega
  have hk1 : (k : Int) < 2 := by omega
  have hk2 : (0 : Int) ≤ (k' : Int) := by omega
  have hk3 : (k' : Int) < 2 := by omega
  have HOT : Hid (∀ W, Calls Tryz.prog 105 #[.int .i64 k] W fun e w' => e = .returned (.int .i64 k') ∧ w' = W) := fun W => iOtherSide k k' W h1
  clear h1
  have HC0 : Hid (∀ W, Below w.heap.size w W → W.rangeAt sb (so + k * 14) [.int .i64 x0, .int .i64 x1, .int .i64 x2, .bool x3, .bool x4, .slice x5a x5n x5c, .bool x6, .int .i64 x7, .bool x8, .slice x9a x9n x9c, .slice xda xdn xdc, .int .i64 xf, .int .i64 xg, .slice xsa xsn xsc]) := fun W hW => range_below c0 hW hs
  have HC1 : Hid (∀ W, Below w.heap.size w W → W.rangeAt sb (so + k' * 14) [.int .i64 y0, .int .i64 y1, .int .i64 y2, .bool y3, .bool y4, .slice y5a y5n y5c, .bool y6, .int .i64 y7, .bool y8, .slice y9a y9n y9c, .slice yda ydn ydc, .int .i64 yf, .int .i64 yg, .slice ysa ysn ysc]) := fun W hW => range_below c1 hW hs
  have HC2 : Hid (∀ W, Below w.heap.size w W → W.cell? ⟨gb, go + k, none⟩ = some (.slice gu gn gq) ∧ W.cell? ⟨eb, eo + k, none⟩ = some (.bool e)) := fun W hW => ⟨(hW.cell (p := ⟨gb, go + k, none⟩) hg).trans c2, (hW.cell (p := ⟨eb, eo + k, none⟩) he).trans c3⟩
  have I14 : Hid ((Tryz.prog.info? 63).map (·.size) = some 14) := (by kernel_rfl : (Tryz.prog.info? 63).map (·.size) = some 14)
  clear hs hg he c0 c1 c2 c3
  have HWA : Hid (Below w.heap.size w ((w.alloc (.cells #[.int .i64 now, .slice (some ⟨sb, so, none⟩) 2 sc, .slice na nn nc, .slice da dn dc, .slice (some ⟨gb, go, none⟩) 2 gc, .slice (some ⟨eb, eo, none⟩) 2 ec] 37)).alloc (.cells #[.int .i64 0, .int .i64 0, .int .i64 0, .bool false, .bool false, .slice none 0 0, .bool false, .int .i64 0, .bool false, .slice none 0 0, .slice none 0 0, .int .i64 0, .int .i64 0, .slice none 0 0, .int .i64 0, .int .i64 0, .int .i64 0, .bool false, .bool false, .slice none 0 0, .bool false, .int .i64 0, .bool false, .slice none 0 0, .slice none 0 0, .int .i64 0, .int .i64 0, .slice none 0 0, .slice none 0 0, .bool false] 114)) ∧ ((w.alloc (.cells #[.int .i64 now, .slice (some ⟨sb, so, none⟩) 2 sc, .slice na nn nc, .slice da dn dc, .slice (some ⟨gb, go, none⟩) 2 gc, .slice (some ⟨eb, eo, none⟩) 2 ec] 37)).alloc (.cells #[.int .i64 0, .int .i64 0, .int .i64 0, .bool false, .bool false, .slice none 0 0, .bool false, .int .i64 0, .bool false, .slice none 0 0, .slice none 0 0, .int .i64 0, .int .i64 0, .slice none 0 0, .int .i64 0, .int .i64 0, .int .i64 0, .bool false, .bool false, .slice none 0 0, .bool false, .int .i64 0, .bool false, .slice none 0 0, .slice none 0 0, .int .i64 0, .int .i64 0, .slice none 0 0, .slice none 0 0, .bool false] 114)).heap.size = w.heap.size + 2 ∧ (∀ o, ((w.alloc (.cells #[.int .i64 now, .slice (some ⟨sb, so, none⟩) 2 sc, .slice na nn nc, .slice da dn dc, .slice (some ⟨gb, go, none⟩) 2 gc, .slice (some ⟨eb, eo, none⟩) 2 ec] 37)).alloc (.cells #[.int .i64 0, .int .i64 0, .int .i64 0, .bool false, .bool false, .slice none 0 0, .bool false, .int .i64 0, .bool false, .slice none 0 0, .slice none 0 0, .int .i64 0, .int .i64 0, .slice none 0 0, .int .i64 0, .int .i64 0, .int .i64 0, .bool false, .bool false, .slice none 0 0, .bool false, .int .i64 0, .bool false, .slice none 0 0, .slice none 0 0, .int .i64 0, .int .i64 0, .slice none 0 0, .slice none 0 0, .bool false] 114)).cell? ⟨w.heap.size, o, none⟩ = (#[.int .i64 now, .slice (some ⟨sb, so, none⟩) 2 sc, .slice na nn nc, .slice da dn dc, .slice (some ⟨gb, go, none⟩) 2 gc, .slice (some ⟨eb, eo, none⟩) 2 ec] : Array Value)[o]?) ∧ (∀ o, ((w.alloc (.cells #[.int .i64 now, .slice (some ⟨sb, so, none⟩) 2 sc, .slice na nn nc, .slice da dn dc, .slice (some ⟨gb, go, none⟩) 2 gc, .slice (some ⟨eb, eo, none⟩) 2 ec] 37)).alloc (.cells #[.int .i64 0, .int .i64 0, .int .i64 0, .bool false, .bool false, .slice none 0 0, .bool false, .int .i64 0, .bool false, .slice none 0 0, .slice none 0 0, .int .i64 0, .int .i64 0, .slice none 0 0, .int .i64 0, .int .i64 0, .int .i64 0, .bool false, .bool false, .slice none 0 0, .bool false, .int .i64 0, .bool false, .slice none 0 0, .slice none 0 0, .int .i64 0, .int .i64 0, .slice none 0 0, .slice none 0 0, .bool false] 114)).cell? ⟨w.heap.size + 1, o, none⟩ = (#[.int .i64 0, .int .i64 0, .int .i64 0, .bool false, .bool false, .slice none 0 0, .bool false, .int .i64 0, .bool false, .slice none 0 0, .slice none 0 0, .int .i64 0, .int .i64 0, .slice none 0 0, .int .i64 0, .int .i64 0, .int .i64 0, .bool false, .bool false, .slice none 0 0, .bool false, .int .i64 0, .bool false, .slice none 0 0, .slice none 0 0, .int .i64 0, .int .i64 0, .slice none 0 0, .slice none 0 0, .bool false] : Array Value)[o]?) ∧ (∀ o, ((w.alloc (.cells #[.int .i64 now, .slice (some ⟨sb, so, none⟩) 2 sc, .slice na nn nc, .slice da dn dc, .slice (some ⟨gb, go, none⟩) 2 gc, .slice (some ⟨eb, eo, none⟩) 2 ec] 37)).alloc (.cells #[.int .i64 0, .int .i64 0, .int .i64 0, .bool false, .bool false, .slice none 0 0, .bool false, .int .i64 0, .bool false, .slice none 0 0, .slice none 0 0, .int .i64 0, .int .i64 0, .slice none 0 0, .int .i64 0, .int .i64 0, .int .i64 0, .bool false, .bool false, .slice none 0 0, .bool false, .int .i64 0, .bool false, .slice none 0 0, .slice none 0 0, .int .i64 0, .int .i64 0, .slice none 0 0, .slice none 0 0, .bool false] 114)).frozen? ⟨w.heap.size + 1, o, none⟩ = false)) := ⟨((Below.refl _ _).alloc (Nat.le_refl _) _).alloc (by simp) _, by simp, fun o => by simp [go_sem], fun o => by simp [go_sem], fun o => by simp [go_sem]⟩
  go_enter Tryz.func78, Tryz.ntmps78
  go_upto_region 1 with fail
  generalize hWW : ((w.alloc (.cells #[.int .i64 now, .slice (some ⟨sb, so, none⟩) 2 sc, .slice na nn nc, .slice da dn dc, .slice (some ⟨gb, go, none⟩) 2 gc, .slice (some ⟨eb, eo, none⟩) 2 ec] 37)).alloc (.cells #[.int .i64 0, .int .i64 0, .int .i64 0, .bool false, .bool false, .slice none 0 0, .bool false, .int .i64 0, .bool false, .slice none 0 0, .slice none 0 0, .int .i64 0, .int .i64 0, .slice none 0 0, .int .i64 0, .int .i64 0, .int .i64 0, .bool false, .bool false, .slice none 0 0, .bool false, .int .i64 0, .bool false, .slice none 0 0, .slice none 0 0, .int .i64 0, .int .i64 0, .slice none 0 0, .slice none 0 0, .bool false] 114)) = W1 at HWA ⊢
  clear hWW
  obtain ⟨hb, hsz, kW, kR, fR⟩ := HWA.out
  clear HWA
  have HB : Hid (Below w.heap.size w W1) := hb
  have zW : w.heap.size < W1.heap.size := by omega
  have zR : w.heap.size + 1 < W1.heap.size := by omega
  clear hb hsz
  refine wp_region_noPanic ?_
  refine Goes.start (S := fun w' => Below (w.heap.size + 1) W1 w') (z := 100) (by kernel_rfl) ?_
  refine Goes.take (i := 0) (oi := ?oi1) (x := ?vx1) ?ho1 (by kernel_rfl) (by kernel_rfl) (by kernel_rfl) (by kernel_rfl) (fun _ _ _ h => h) (Or.inl ⟨?hw1, ?hy1⟩) (Below.drew (Below.refl _ _)) ?rest1
  case ho1 => (simp only [List.getElem?_toArray, List.getElem?_cons_zero] <;> rfl)
  case hw1 => rfl
  case hy1 => (intro w' hSw; have j0 := fun o => (hSw.cell (p := ⟨w.heap.size, o, none⟩) (Nat.lt_succ_self _)).trans (kW o); obtain ⟨j2, j3⟩ := HC2.out w' (HB.out.trans (hSw.mono (Nat.le_succ _))); go_simp; (try with_reducible rfl))
  case rest1 =>
  (try simp only [Act.put, List.setIfInBounds_toArray, List.set_cons_zero, List.set_cons_succ])
  refine Goes.take (i := 1) (oi := ?oi2) (x := ?vx2) ?ho2 (by kernel_rfl) (by kernel_rfl) (by kernel_rfl) (by kernel_rfl) (fun _ _ _ h => h) (Or.inl ⟨?hw2, ?hy2⟩) (Below.drew (Below.refl _ _)) ?rest2
  case ho2 => (simp only [List.getElem?_toArray, List.getElem?_cons_succ, List.getElem?_cons_zero] <;> rfl)
  case hw2 => rfl
  case hy2 => (intro w' hSw; have j0 := fun o => (hSw.cell (p := ⟨w.heap.size, o, none⟩) (Nat.lt_succ_self _)).trans (kW o); obtain ⟨j2, j3⟩ := HC2.out w' (HB.out.trans (hSw.mono (Nat.le_succ _))); go_simp; (try with_reducible rfl))
  case rest2 =>
  (try simp only [Act.put, List.setIfInBounds_toArray, List.set_cons_zero, List.set_cons_succ])
  refine Goes.take (i := 2) (oi := ?oi3) (x := ?vx3) ?ho3 (by kernel_rfl) (by kernel_rfl) (by kernel_rfl) (by kernel_rfl) (fun _ _ _ h => h) (Or.inl ⟨?hw3, ?hy3⟩) (Below.drew (Below.refl _ _)) ?rest3
  case ho3 => (simp only [List.getElem?_toArray, List.getElem?_cons_succ, List.getElem?_cons_zero] <;> rfl)
  case hw3 => rfl
  case hy3 => (intro w' hSw; have j0 := fun o => (hSw.cell (p := ⟨w.heap.size, o, none⟩) (Nat.lt_succ_self _)).trans (kW o); obtain ⟨j2, j3⟩ := HC2.out w' (HB.out.trans (hSw.mono (Nat.le_succ _))); go_simp; (try with_reducible rfl))
  case rest3 =>
  (try simp only [Act.put, List.setIfInBounds_toArray, List.set_cons_zero, List.set_cons_succ])
  refine Goes.take (i := 3) (oi := ?oi4) (x := ?vx4) ?ho4 (by kernel_rfl) (by kernel_rfl) (by kernel_rfl) (by kernel_rfl) (fun _ _ _ h => h) (Or.inl ⟨?hw4, ?hy4⟩) (Below.drew (Below.refl _ _)) ?rest4
  case ho4 => (simp only [List.getElem?_toArray, List.getElem?_cons_succ, List.getElem?_cons_zero] <;> rfl)
  case hw4 => rfl
  case hy4 => (intro w' hSw; have j0 := fun o => (hSw.cell (p := ⟨w.heap.size, o, none⟩) (Nat.lt_succ_self _)).trans (kW o); obtain ⟨j2, j3⟩ := HC2.out w' (HB.out.trans (hSw.mono (Nat.le_succ _))); go_simp; (try with_reducible rfl))
  case rest4 =>
  (try simp only [Act.put, List.setIfInBounds_toArray, List.set_cons_zero, List.set_cons_succ])
  refine Goes.take (i := 4) (oi := ?oi5) (x := .agg ([.int .i64 x0, .int .i64 x1, .int .i64 x2, .bool x3, .bool x4, .slice x5a x5n x5c, .bool x6, .int .i64 x7, .bool x8, .slice x9a x9n x9c, .slice xda xdn xdc, .int .i64 xf, .int .i64 xg, .slice xsa xsn xsc]).toArray) ?ho5 (by kernel_rfl) (by kernel_rfl) (by kernel_rfl) (by kernel_rfl) (fun _ _ _ h => h) ?hy5 (Below.drew (Below.refl _ _)) ?rest5
  case ho5 => (simp only [List.getElem?_toArray, List.getElem?_cons_succ, List.getElem?_cons_zero] <;> rfl)
  case hy5 => exact yieldsIf_load_mid (by rfl) 63 _ rfl (sb) (so + k * 14) (by rfl) ([.int .i64 x0, .int .i64 x1, .int .i64 x2, .bool x3, .bool x4, .slice x5a x5n x5c, .bool x6, .int .i64 x7, .bool x8, .slice x9a x9n x9c, .slice xda xdn xdc, .int .i64 xf, .int .i64 xg, .slice xsa xsn xsc]) _ (fun w' hSw => HC0.out w' (HB.out.trans (hSw.mono (Nat.le_succ _)))) Tryz.underlying63 rfl I14.out
  case rest5 =>
  (try simp only [Act.put, List.setIfInBounds_toArray, List.set_cons_zero, List.set_cons_succ])
  refine Goes.take (i := 5) (oi := ?oi6) (x := ?vx6) ?ho6 (by kernel_rfl) (by kernel_rfl) (by kernel_rfl) (by kernel_rfl) (fun _ _ _ h => h) (Or.inl ⟨?hw6, ?hy6⟩) (Below.drew (Below.refl _ _)) ?rest6
  case ho6 => (simp only [List.getElem?_toArray, List.getElem?_cons_succ, List.getElem?_cons_zero] <;> rfl)
  case hw6 => rfl
  case hy6 => (intro w' hSw; have j0 := fun o => (hSw.cell (p := ⟨w.heap.size, o, none⟩) (Nat.lt_succ_self _)).trans (kW o); obtain ⟨j2, j3⟩ := HC2.out w' (HB.out.trans (hSw.mono (Nat.le_succ _))); go_simp; (try with_reducible rfl))
  case rest6 =>
  (try simp only [Act.put, List.setIfInBounds_toArray, List.set_cons_zero, List.set_cons_succ])
  refine Goes.take (i := 6) (oi := ?oi7) (x := ?vx7) ?ho7 (by kernel_rfl) (by kernel_rfl) (by kernel_rfl) (by kernel_rfl) (fun _ _ _ h => h) (Or.inl ⟨?hw7, ?hy7⟩) (Below.drew (Below.refl _ _)) ?rest7
  case ho7 => (simp only [List.getElem?_toArray, List.getElem?_cons_succ, List.getElem?_cons_zero] <;> rfl)
  case hw7 => rfl
  case hy7 => (intro w' hSw; have j0 := fun o => (hSw.cell (p := ⟨w.heap.size, o, none⟩) (Nat.lt_succ_self _)).trans (kW o); obtain ⟨j2, j3⟩ := HC2.out w' (HB.out.trans (hSw.mono (Nat.le_succ _))); go_simp; (try with_reducible rfl))
  case rest7 =>
  (try simp only [Act.put, List.setIfInBounds_toArray, List.set_cons_zero, List.set_cons_succ])
  refine Goes.take (i := 7) (oi := ?oi8) (x := ?vx8) ?ho8 (by kernel_rfl) (by kernel_rfl) (by kernel_rfl) (by kernel_rfl) (fun _ _ _ h => h) (Or.inl ⟨?hw8, ?hy8⟩) (Below.drew (Below.refl _ _)) ?rest8
  case ho8 => (simp only [List.getElem?_toArray, List.getElem?_cons_succ, List.getElem?_cons_zero] <;> rfl)
  case hw8 => rfl
  case hy8 => (intro w' hSw; have j0 := fun o => (hSw.cell (p := ⟨w.heap.size, o, none⟩) (Nat.lt_succ_self _)).trans (kW o); obtain ⟨j2, j3⟩ := HC2.out w' (HB.out.trans (hSw.mono (Nat.le_succ _))); go_simp; (try with_reducible rfl))
  case rest8 =>
  (try simp only [Act.put, List.setIfInBounds_toArray, List.set_cons_zero, List.set_cons_succ])
  refine Goes.call (i := 8) (oi := ?oi9) (x := .int .i64 k') ?ho9 (by kernel_rfl) (by kernel_rfl) (by kernel_rfl) (by kernel_rfl) (fun _ _ _ h => h) ?hq9 (Below.drew (Below.refl _ _)) ?rest9
  case ho9 => (simp only [List.getElem?_toArray, List.getElem?_cons_succ, List.getElem?_cons_zero] <;> rfl)
  case hq9 => exact ⟨rfl, fun w' hSw => ⟨105, #[.int .i64 k], (by go_simp), HOT.out w'⟩⟩
  case rest9 =>
  (try simp only [Act.put, List.setIfInBounds_toArray, List.set_cons_zero, List.set_cons_succ])
  refine Goes.take (i := 9) (oi := ?oi10) (x := ?vx10) ?ho10 (by kernel_rfl) (by kernel_rfl) (by kernel_rfl) (by kernel_rfl) (fun _ _ _ h => h) (Or.inl ⟨?hw10, ?hy10⟩) (Below.drew (Below.refl _ _)) ?rest10
  case ho10 => (simp only [List.getElem?_toArray, List.getElem?_cons_succ, List.getElem?_cons_zero] <;> rfl)
  case hw10 => rfl
  case hy10 => (intro w' hSw; have j0 := fun o => (hSw.cell (p := ⟨w.heap.size, o, none⟩) (Nat.lt_succ_self _)).trans (kW o); obtain ⟨j2, j3⟩ := HC2.out w' (HB.out.trans (hSw.mono (Nat.le_succ _))); go_simp; (try with_reducible rfl))
  case rest10 =>
  (try simp only [Act.put, List.setIfInBounds_toArray, List.set_cons_zero, List.set_cons_succ])
  refine Goes.take (i := 10) (oi := ?oi11) (x := .agg ([.int .i64 y0, .int .i64 y1, .int .i64 y2, .bool y3, .bool y4, .slice y5a y5n y5c, .bool y6, .int .i64 y7, .bool y8, .slice y9a y9n y9c, .slice yda ydn ydc, .int .i64 yf, .int .i64 yg, .slice ysa ysn ysc]).toArray) ?ho11 (by kernel_rfl) (by kernel_rfl) (by kernel_rfl) (by kernel_rfl) (fun _ _ _ h => h) ?hy11 (Below.drew (Below.refl _ _)) ?rest11
  case ho11 => (simp only [List.getElem?_toArray, List.getElem?_cons_succ, List.getElem?_cons_zero] <;> rfl)
  case hy11 => exact yieldsIf_load_mid (by rfl) 63 _ rfl (sb) (so + k' * 14) (by rfl) ([.int .i64 y0, .int .i64 y1, .int .i64 y2, .bool y3, .bool y4, .slice y5a y5n y5c, .bool y6, .int .i64 y7, .bool y8, .slice y9a y9n y9c, .slice yda ydn ydc, .int .i64 yf, .int .i64 yg, .slice ysa ysn ysc]) _ (fun w' hSw => HC1.out w' (HB.out.trans (hSw.mono (Nat.le_succ _)))) Tryz.underlying63 rfl I14.out
  case rest11 =>
  (try simp only [Act.put, List.setIfInBounds_toArray, List.set_cons_zero, List.set_cons_succ])
  refine Goes.take (i := 11) (oi := ?oi12) (x := ?vx12) ?ho12 (by kernel_rfl) (by kernel_rfl) (by kernel_rfl) (by kernel_rfl) (fun _ _ _ h => h) (Or.inl ⟨?hw12, ?hy12⟩) (Below.drew (Below.refl _ _)) ?rest12
  case ho12 => (simp only [List.getElem?_toArray, List.getElem?_cons_succ, List.getElem?_cons_zero] <;> rfl)
  case hw12 => rfl
  case hy12 => (intro w' hSw; have j0 := fun o => (hSw.cell (p := ⟨w.heap.size, o, none⟩) (Nat.lt_succ_self _)).trans (kW o); obtain ⟨j2, j3⟩ := HC2.out w' (HB.out.trans (hSw.mono (Nat.le_succ _))); go_simp; (try with_reducible rfl))
  case rest12 =>
  (try simp only [Act.put, List.setIfInBounds_toArray, List.set_cons_zero, List.set_cons_succ])
  refine Goes.take (i := 12) (oi := ?oi13) (x := ?vx13) ?ho13 (by kernel_rfl) (by kernel_rfl) (by kernel_rfl) (by kernel_rfl) (fun _ _ _ h => h) (Or.inl ⟨?hw13, ?hy13⟩) (Below.drew (Below.refl _ _)) ?rest13
  case ho13 => (simp only [List.getElem?_toArray, List.getElem?_cons_succ, List.getElem?_cons_zero] <;> rfl)
  case hw13 => rfl
  case hy13 => (intro w' hSw; have j0 := fun o => (hSw.cell (p := ⟨w.heap.size, o, none⟩) (Nat.lt_succ_self _)).trans (kW o); obtain ⟨j2, j3⟩ := HC2.out w' (HB.out.trans (hSw.mono (Nat.le_succ _))); go_simp; (try with_reducible rfl))
  case rest13 =>
  (try simp only [Act.put, List.setIfInBounds_toArray, List.set_cons_zero, List.set_cons_succ])
  refine Goes.take (i := 13) (oi := ?oi14) (x := ?vx14) ?ho14 (by kernel_rfl) (by kernel_rfl) (by kernel_rfl) (by kernel_rfl) (fun _ _ _ h => h) (Or.inl ⟨?hw14, ?hy14⟩) (Below.drew (Below.refl _ _)) ?rest14
  case ho14 => (simp only [List.getElem?_toArray, List.getElem?_cons_succ, List.getElem?_cons_zero] <;> rfl)
  case hw14 => rfl
  case hy14 => (intro w' hSw; have j0 := fun o => (hSw.cell (p := ⟨w.heap.size, o, none⟩) (Nat.lt_succ_self _)).trans (kW o); obtain ⟨j2, j3⟩ := HC2.out w' (HB.out.trans (hSw.mono (Nat.le_succ _))); go_simp; (try with_reducible rfl))
  case rest14 =>
  (try simp only [Act.put, List.setIfInBounds_toArray, List.set_cons_zero, List.set_cons_succ])
  refine Goes.take (i := 14) (oi := ?oi15) (x := ?vx15) ?ho15 (by kernel_rfl) (by kernel_rfl) (by kernel_rfl) (by kernel_rfl) (fun _ _ _ h => h) (Or.inl ⟨?hw15, ?hy15⟩) (Below.drew (Below.refl _ _)) ?rest15
  case ho15 => (simp only [List.getElem?_toArray, List.getElem?_cons_succ, List.getElem?_cons_zero] <;> rfl)
  case hw15 => rfl
  case hy15 => (intro w' hSw; have j0 := fun o => (hSw.cell (p := ⟨w.heap.size, o, none⟩) (Nat.lt_succ_self _)).trans (kW o); obtain ⟨j2, j3⟩ := HC2.out w' (HB.out.trans (hSw.mono (Nat.le_succ _))); go_simp; (try with_reducible rfl))
  case rest15 =>
  (try simp only [Act.put, List.setIfInBounds_toArray, List.set_cons_zero, List.set_cons_succ])
  refine Goes.take (i := 15) (oi := ?oi16) (x := ?vx16) ?ho16 (by kernel_rfl) (by kernel_rfl) (by kernel_rfl) (by kernel_rfl) (fun _ _ _ h => h) (Or.inl ⟨?hw16, ?hy16⟩) (Below.drew (Below.refl _ _)) ?rest16
  case ho16 => (simp only [List.getElem?_toArray, List.getElem?_cons_succ, List.getElem?_cons_zero] <;> rfl)
  case hw16 => rfl
  case hy16 => (intro w' hSw; have j0 := fun o => (hSw.cell (p := ⟨w.heap.size, o, none⟩) (Nat.lt_succ_self _)).trans (kW o); obtain ⟨j2, j3⟩ := HC2.out w' (HB.out.trans (hSw.mono (Nat.le_succ _))); go_simp; (try with_reducible rfl))
  case rest16 =>
  (try simp only [Act.put, List.setIfInBounds_toArray, List.set_cons_zero, List.set_cons_succ])
  refine Goes.take (i := 16) (oi := ?oi17) (x := ?vx17) ?ho17 (by kernel_rfl) (by kernel_rfl) (by kernel_rfl) (by kernel_rfl) (fun _ _ _ h => h) (Or.inl ⟨?hw17, ?hy17⟩) (Below.drew (Below.refl _ _)) ?rest17
  case ho17 => (simp only [List.getElem?_toArray, List.getElem?_cons_succ, List.getElem?_cons_zero] <;> rfl)
  case hw17 => rfl
  case hy17 => (intro w' hSw; have j0 := fun o => (hSw.cell (p := ⟨w.heap.size, o, none⟩) (Nat.lt_succ_self _)).trans (kW o); obtain ⟨j2, j3⟩ := HC2.out w' (HB.out.trans (hSw.mono (Nat.le_succ _))); go_simp; (try with_reducible rfl))
  case rest17 =>
  (try simp only [Act.put, List.setIfInBounds_toArray, List.set_cons_zero, List.set_cons_succ])
  refine Goes.take (i := 17) (oi := ?oi18) (x := ?vx18) ?ho18 (by kernel_rfl) (by kernel_rfl) (by kernel_rfl) (by kernel_rfl) (fun _ _ _ h => h) (Or.inl ⟨?hw18, ?hy18⟩) (Below.drew (Below.refl _ _)) ?rest18
  case ho18 => (simp only [List.getElem?_toArray, List.getElem?_cons_succ, List.getElem?_cons_zero] <;> rfl)
  case hw18 => rfl
  case hy18 => (intro w' hSw; have j0 := fun o => (hSw.cell (p := ⟨w.heap.size, o, none⟩) (Nat.lt_succ_self _)).trans (kW o); obtain ⟨j2, j3⟩ := HC2.out w' (HB.out.trans (hSw.mono (Nat.le_succ _))); go_simp; (try with_reducible rfl))
  case rest18 =>
  (try simp only [Act.put, List.setIfInBounds_toArray, List.set_cons_zero, List.set_cons_succ])
  refine Goes.take (i := 18) (oi := ?oi19) (x := ?vx19) ?ho19 (by kernel_rfl) (by kernel_rfl) (by kernel_rfl) (by kernel_rfl) (fun _ _ _ h => h) (Or.inl ⟨?hw19, ?hy19⟩) (Below.drew (Below.refl _ _)) ?rest19
  case ho19 => (simp only [List.getElem?_toArray, List.getElem?_cons_succ, List.getElem?_cons_zero] <;> rfl)
  case hw19 => rfl
  case hy19 => (intro w' hSw; have j0 := fun o => (hSw.cell (p := ⟨w.heap.size, o, none⟩) (Nat.lt_succ_self _)).trans (kW o); obtain ⟨j2, j3⟩ := HC2.out w' (HB.out.trans (hSw.mono (Nat.le_succ _))); go_simp; (try with_reducible rfl))
  case rest19 =>
  (try simp only [Act.put, List.setIfInBounds_toArray, List.set_cons_zero, List.set_cons_succ])
  refine Goes.take (i := 19) (oi := ?oi20) (x := ?vx20) ?ho20 (by kernel_rfl) (by kernel_rfl) (by kernel_rfl) (by kernel_rfl) (fun _ _ _ h => h) (Or.inl ⟨?hw20, ?hy20⟩) (Below.drew (Below.refl _ _)) ?rest20
  case ho20 => (simp only [List.getElem?_toArray, List.getElem?_cons_succ, List.getElem?_cons_zero] <;> rfl)
  case hw20 => rfl
  case hy20 => (intro w' hSw; have j0 := fun o => (hSw.cell (p := ⟨w.heap.size, o, none⟩) (Nat.lt_succ_self _)).trans (kW o); obtain ⟨j2, j3⟩ := HC2.out w' (HB.out.trans (hSw.mono (Nat.le_succ _))); go_simp; (try with_reducible rfl))
  case rest20 =>
  (try simp only [Act.put, List.setIfInBounds_toArray, List.set_cons_zero, List.set_cons_succ])
  refine Goes.take (i := 20) (oi := ?oi21) (x := ?vx21) ?ho21 (by kernel_rfl) (by kernel_rfl) (by kernel_rfl) (by kernel_rfl) (fun _ _ _ h => h) (Or.inl ⟨?hw21, ?hy21⟩) (Below.drew (Below.refl _ _)) ?rest21
  case ho21 => (simp only [List.getElem?_toArray, List.getElem?_cons_succ, List.getElem?_cons_zero] <;> rfl)
  case hw21 => rfl
  case hy21 => (intro w' hSw; have j0 := fun o => (hSw.cell (p := ⟨w.heap.size, o, none⟩) (Nat.lt_succ_self _)).trans (kW o); obtain ⟨j2, j3⟩ := HC2.out w' (HB.out.trans (hSw.mono (Nat.le_succ _))); go_simp; (try with_reducible rfl))
  case rest21 =>
  (try simp only [Act.put, List.setIfInBounds_toArray, List.set_cons_zero, List.set_cons_succ])
  refine Goes.take (i := 21) (oi := ?oi22) (x := ?vx22) ?ho22 (by kernel_rfl) (by kernel_rfl) (by kernel_rfl) (by kernel_rfl) (fun _ _ _ h => h) (Or.inl ⟨?hw22, ?hy22⟩) (Below.drew (Below.refl _ _)) ?rest22
  case ho22 => (simp only [List.getElem?_toArray, List.getElem?_cons_succ, List.getElem?_cons_zero] <;> rfl)
  case hw22 => rfl
  case hy22 => (intro w' hSw; have j0 := fun o => (hSw.cell (p := ⟨w.heap.size, o, none⟩) (Nat.lt_succ_self _)).trans (kW o); obtain ⟨j2, j3⟩ := HC2.out w' (HB.out.trans (hSw.mono (Nat.le_succ _))); go_simp; (try with_reducible rfl))
  case rest22 =>
  (try simp only [Act.put, List.setIfInBounds_toArray, List.set_cons_zero, List.set_cons_succ])
  refine Goes.all (rs := [22]) (by kernel_rfl) (by simp) ?_
  refine Ups.cons (i := 22) (o := ?oo23) ?ho23 (fun KK hKK => ?stp23) Ups.nil
  case ho23 => (simp only [List.getElem?_toArray, List.getElem?_cons_succ, List.getElem?_cons_zero] <;> rfl)
  case stp23 =>
  rw [if_pos (by rfl)]
  have kZ : ∀ o, W1.drew.cell? ⟨w.heap.size + 1, o, none⟩ = (#[.int .i64 0, .int .i64 0, .int .i64 0, .bool false, .bool false, .slice none 0 0, .bool false, .int .i64 0, .bool false, .slice none 0 0, .slice none 0 0, .int .i64 0, .int .i64 0, .slice none 0 0, .int .i64 0, .int .i64 0, .int .i64 0, .bool false, .bool false, .slice none 0 0, .bool false, .int .i64 0, .bool false, .slice none 0 0, .slice none 0 0, .int .i64 0, .int .i64 0, .slice none 0 0, .slice none 0 0, .bool false] : Array Value)[o]? := fun o => by rw [← kR o]; simp
  have fZ : ∀ o, W1.drew.frozen? ⟨w.heap.size + 1, o, none⟩ = false := fun o => by rw [← fR o]; simp
  refine wp_store_mid 114 _ _ rfl _ _ N (by rfl) (by rw [HN.out]; rfl) (bx_there kZ fZ (by rw [HNZ.out]; rfl)) HIN.out HONE.out ?_
  refine hKK.out _ _ (Or.inr (setCells_below (by omega) _ _ _ _ (Below.drew (Below.refl _ _)))) ?_
  clear hKK KK
  (try simp only [Act.put])
  refine Goes.done (by kernel_rfl) ?_ _
  refine NoPanic.normal ?_
  have kN : ∀ o, (W1.drew.setCells (w.heap.size + 1) 0 N.toList).cell? ⟨w.heap.size + 1, o, none⟩ = N[o]? := bx_setCells kZ (by rw [HNZ.out]; rfl)
  have HBN : Hid (Below w.heap.size w (W1.drew.setCells (w.heap.size + 1) 0 N.toList)) := setCells_below (by omega) _ _ _ _ (Below.drew HB.out)
  generalize hWW : W1.drew.setCells (w.heap.size + 1) 0 N.toList = W2 at kN HBN ⊢
  clear hWW kZ fZ kR fR kW zW zR HB HC0 HC1 HC2 HOT
  go_wp2_with fail
  refine bodyPost_ret (results_box Tryz.results78 _ _ _ N _ (by rfl) kN Tryz.underlying114 rfl HIN.out) rfl ⟨rfl, ?_⟩
  exact HBN.out
set_option maxHeartbeats 1000000 in
theorem iViewOf (x : DWorld) (A : Array Value) (k k' : Nat) (w : World) (B : Nat) (hr : shWorld.Rd w B x A.toList) (hB : B ≤ w.heap.size) (hF : worldF x = 0) (hT : totWorld x ≤ 1048576) (h1 : k + k' = 1) :
    ∃ V : Array Value, (∃ C O gu gc, VwA w B (x.cn k) (x.cn k') (x.gt k) (x.en k) V C O gu gc) ∧ Calls Tryz.prog 78 #[.agg A, .int .i64 k] w fun r w' => r = .returned (.agg V) ∧ Below w.heap.size w w' := by
  obtain ⟨sb, so, sc, na, nc, da, dc, gb, go, gc, eb, eo, ec, h⟩ := wo_all hr hF hT
  obtain ⟨C, c0, rc⟩ := h.cs k (by omega)
  obtain ⟨O, c1, ro⟩ := h.cs k' (by omega)
  obtain ⟨gu, gq, c2, rg⟩ := h.gs k (by omega)
  have c3 := h.es k (by omega)
  obtain ⟨a5, q5, a9, q9, a10, q10, a13, q13, hC⟩ := cn_all rc
  obtain ⟨b5, p5, b9, p9, b10, p10, b13, p13, hO⟩ := cn_all ro
  have eC := hC.eA
  subst eC
  have eO := hO.eA
  subst eO
  refine ⟨#[.int .i64 (x.cn k).side, .int .i64 (x.cn k).key, .int .i64 (x.cn k).peer, .bool (x.cn k).plain, .bool (x.cn k).free, .slice a5 (x.cn k).wrote.length q5, .bool (x.cn k).fin, .int .i64 (x.cn k).acked, .bool (x.cn k).finDone, .slice a9 (x.cn k).inn.1.length q9, .slice a10 (x.cn k).inn.2.1.length q10, .int .i64 (x.cn k).finIn, .int .i64 (x.cn k).given, .slice a13 (x.cn k).subs.length q13, .int .i64 (x.cn k').side, .int .i64 (x.cn k').key, .int .i64 (x.cn k').peer, .bool (x.cn k').plain, .bool (x.cn k').free, .slice b5 (x.cn k').wrote.length p5, .bool (x.cn k').fin, .int .i64 (x.cn k').acked, .bool (x.cn k').finDone, .slice b9 (x.cn k').inn.1.length p9, .slice b10 (x.cn k').inn.2.1.length p10, .int .i64 (x.cn k').finIn, .int .i64 (x.cn k').given, .slice b13 (x.cn k').subs.length p13, .slice gu (x.gt k).length gq, .bool (x.en k)], ⟨_, _, gu, gq, by simp, rc, ro, rg, h.ok k (by omega), h.ok k' (by omega), h.tot k (by omega), h.tot k' (by omega)⟩, ?_⟩
  rw [h.eA]
  exact iViewOf0 k k' _ _ _ _ _ _ _ _ _ _ _ _ _ _ _ _ _ _ _ _ _ _ _ _ _ _ _ _ _ _ _ _ _ _ _ _ _ _ _ _ _ _ _ _ _ sb so sc _ nc _ dc gb go gc eb eo ec na da gu _ gq _ w h1 (Nat.lt_of_lt_of_le h.sl hB) (Nat.lt_of_lt_of_le h.gl hB) (Nat.lt_of_lt_of_le h.el hB) c0 c1 c2 c3
end Go.Proofs.YtnfkjdcnngoeiabGreat
