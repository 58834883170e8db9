/- What is right of a world, in plain terms, and what is read of a world without a fault; no condition. -/
import Derived.Test.YtfpemobkkfobkaaGreatDoorRows
import Derived.Test.YtfpemobkkfobkaaGreatDoorK01
import Derived.Test.YtfpemobkkfobkaaGreatDoorK03
import Derived.Test.YtfpemobkkfobkaaGreatDoorK09
import Derived.Test.YtfpemobkkfobkaaGreatDoorK10
import Derived.Test.YtfpemobkkfobkaaGreatDoorK11
import Derived.Test.YtfpemobkkfobkaaGreatDoorK12
import Derived.Test.YtfpemobkkfobkaaGreatDoorK55
import Derived.Test.YtfpemobkkfobkaaGreatDoorK56
import Derived.Test.YtfpemobkkfobkaaGreatDoorK57
import Derived.Test.YtfpemobkkfobkaaGreatDoorK58
import Derived.Test.YtfpemobkkfobkaaGreatDoorK59
import Derived.Test.YtfpemobkkfobkaaGreatDoorK60
namespace Go.Proofs.YtfpemobkkfobkaaGreatDoor
open Go.RowKit
set_option linter.unusedVariables false

def DWorld.sides (x : DWorld) : List DConn := x.2.1
def DWorld.got (x : DWorld) : List (List Int) := x.2.2.2.1
def DWorld.ended (x : DWorld) : List Bool := x.2.2.2.2.1
def cn0 : DConn := (0, 0, 0, false, false, [], false, 0, false, ([], [], ()), 0, 0, [], ())
/-- The side number k, its bytes and its end. -/
def DWorld.cn (x : DWorld) (k : Nat) : DConn := x.sides.getD k cn0
def DWorld.gt (x : DWorld) (k : Nat) : List Int := x.got.getD k []
def DWorld.en (x : DWorld) (k : Nat) : Bool := x.ended.getD k false
/-- How many sides are Plain. -/
def plnN : List DConn → Nat
  | [] => 0
  | c :: r => (if c.plain then 1 else 0) + plnN r
def plnV (x : DWorld) : Int := if worldF x = 0 then (plnN x.sides : Int) else 0
theorem pln_drop {l : List DConn} {k : Nat} (hk : k < l.length) : plnN (l.drop k) = (if l[k].plain then 1 else 0) + plnN (l.drop (k + 1)) := by
  rw [List.drop_eq_getElem_cons hk]; rfl
theorem pln_end {l : List DConn} {k : Nat} (hk : l.length ≤ k) : plnN (l.drop k) = 0 := by rw [List.drop_of_length_le hk]; rfl
/-- What is known to be there is there. -/
def knoV (c o : DConn) : Bool := decide (c.acked ≤ (o.inn.1.length : Int)) && (!c.finDone || !decide (o.finIn = -1))
/-- What is asked of a side: no fault, a side that is there, and what f says of it and the other one. -/
def askV (f : DConn → DConn → List Int → Bool → Bool) (x : DWorld) (s : Int) : Bool := decide (worldF x = 0) && inD s 0 1 && f (x.cn s.toNat) (x.cn (1 - s).toNat) (x.gt s.toNat) (x.en s.toNat)

theorem worldF_okA {x : DWorld} (h : worldF x = 0) :
    x.sides.length = 2 ∧ x.got.length = 2 ∧ x.ended.length = 2 ∧ (∀ k (hk : k < x.sides.length), connF x.sides[k] = 0) := by
  obtain ⟨now, sides, net, got, ended, ⟨⟩⟩ := x
  replace h : (if inD now 0 100000 = false then (3 : Int) else if sides.length ≠ 2 then 1 else if got.length ≠ 2 then 1 else if ended.length ≠ 2 then 1 else if cfsF sides ≠ 0 then cfsF sides else if sdF 0 sides = false then 1 else if netF net.1 net.2.1 ≠ 0 then netF net.1 net.2.1 else if gotF sides got = false then 1 else 0) = 0 := h
  show sides.length = 2 ∧ got.length = 2 ∧ ended.length = 2 ∧ ∀ k (hk : k < sides.length), connF sides[k] = 0
  by_cases h0 : inD now 0 100000 = false
  · rw [if_pos h0] at h; cases h
  rw [if_neg h0] at h
  by_cases h1 : sides.length = 2
  case neg => rw [if_pos h1] at h; cases h
  rw [if_neg (by simp [h1])] at h
  by_cases h2 : got.length = 2
  case neg => rw [if_pos h2] at h; cases h
  rw [if_neg (by simp [h2])] at h
  by_cases h3 : ended.length = 2
  case neg => rw [if_pos h3] at h; cases h
  rw [if_neg (by simp [h3])] at h
  by_cases h4 : cfsF sides = 0
  · exact ⟨h1, h2, h3, cfs_at h4⟩
  · rw [if_pos h4] at h; exact absurd h h4
/-- A conn in memory: its cells, and what lies behind them. -/
structure CnA (w : World) (B : Nat) (c : DConn) (A : Array Value) (a5 : Option Addr) (c5 : Nat) (a9 : Option Addr) (c9 : Nat) (a10 : Option Addr) (c10 : Nat) (a13 : Option Addr) (c13 : Nat) : Prop where
  eA : A = #[.int .i64 c.side, .int .i64 c.key, .int .i64 c.peer, .bool c.plain, .bool c.free, .slice a5 c.wrote.length c5, .bool c.fin, .int .i64 c.acked, .bool c.finDone, .slice a9 c.inn.1.length c9, .slice a10 c.inn.2.1.length c10, .int .i64 c.finIn, .int .i64 c.given, .slice a13 c.subs.length c13]
  wr : u8s.Rd w B c.wrote [.slice a5 c.wrote.length c5]
  inn : gtS.Rd w B c.inn [.slice a9 c.inn.1.length c9, .slice a10 c.inn.2.1.length c10]
  subs : shSubs.Rd w B c.subs [.slice a13 c.subs.length c13]
theorem cn_all {w : World} {B : Nat} {c : DConn} {A : Array Value} (h : shConn.Rd w B c A.toList) : ∃ a5 c5 a9 c9 a10 c10 a13 c13, CnA w B c A a5 c5 a9 c9 a10 c10 a13 c13 := by
  obtain ⟨y0, y1, y2, y3, y4, d5, y6, y7, y8, ⟨dn, ps, ⟨⟩⟩, y10, y11, l, ⟨⟩⟩ := c
  obtain ⟨a5, c5, a9, c9, a10, c10, a13, c13, eA, r5, r9, r13, -⟩ := rd_Conn h
  exact ⟨a5, c5, a9, c9, a10, c10, a13, c13, arr_of eA, r5, r9, r13⟩
theorem CnA.rd {w : World} {B : Nat} {c : DConn} {A : Array Value} (h : shConn.Rd w B c A.toList) {W : World} (hB : B ≤ w.heap.size) (hW : Below w.heap.size w W) : shConn.Rd W B c A.toList := Sh.Rd.below h hB hW
/-- A world without a fault in memory: its six cells, and its sides, bytes and ends. -/
structure WoA (w : World) (B : Nat) (x : DWorld) (A : Array Value) (sb so : Nat) (sc : Nat) (na : Option Addr) (nc : Nat) (da : Option Addr) (dc : Nat) (gb go : Nat) (gc : Nat) (eb eo : Nat) (ec : Nat) : Prop where
  eA : A = #[.int .i64 x.1, .slice (some ⟨sb, so, none⟩) 2 sc, .slice na x.2.2.1.1.length nc, .slice da x.2.2.1.2.1.length dc, .slice (some ⟨gb, go, none⟩) 2 gc, .slice (some ⟨eb, eo, none⟩) 2 ec]
  sl : sb < B
  gl : gb < B
  el : eb < B
  cs : ∀ k, k < 2 → ∃ C : Array Value, w.rangeAt sb (so + k * 14) C.toList ∧ shConn.Rd w B (x.cn k) C.toList
  gs : ∀ k, k < 2 → ∃ u uc, w.cell? ⟨gb, go + k, none⟩ = some (.slice u (x.gt k).length uc) ∧ u8s.Rd w B (x.gt k) [.slice u (x.gt k).length uc]
  es : ∀ k, k < 2 → w.cell? ⟨eb, eo + k, none⟩ = some (.bool (x.en k))
  ok : ∀ k, k < 2 → connF (x.cn k) = 0
  tot : ∀ k, k < 2 → totConn (x.cn k) ≤ 1048576
theorem wo_all {w : World} {B : Nat} {x : DWorld} {A : Array Value} (h : shWorld.Rd w B x A.toList) (hF : worldF x = 0) (hT : totWorld x ≤ 1048576) : ∃ sb so sc na nc da dc gb go gc eb eo ec, WoA w B x A sb so sc na nc da dc gb go gc eb eo ec := by
  obtain ⟨l1, l2, l3, hk⟩ := worldF_okA hF
  obtain ⟨now, sides, ⟨bag, dead, ⟨⟩⟩, got, ended, ⟨⟩⟩ := x
  replace l1 : sides.length = 2 := l1
  replace l2 : got.length = 2 := l2
  replace l3 : ended.length = 2 := l3
  replace hk : ∀ k (hk : k < sides.length), connF sides[k] = 0 := hk
  have hTc : totConns sides ≤ 1048576 := by have h : totConns sides + totNet (bag, dead, ()) + totBss got + ended.length ≤ 1048576 := hT; omega
  obtain ⟨sa, sc, na, nc, da, dc, ga, gc, ea, ec, eA, r1, r2, r3, r4, -⟩ := rd_World h
  obtain ⟨sb, so, hsa, hsb, hsc⟩ := conns_at r1 (by intro e; subst e; simp at l1)
  subst hsa
  obtain ⟨gb, go, hga, hgb⟩ : ∃ gb go, ga = some ⟨gb, go, none⟩ ∧ gb < B := by obtain ⟨b, off, u, uc, ha, hb, -⟩ := bss_at r3 0 (by omega); exact ⟨b, off, ha, hb⟩
  subst hga
  obtain ⟨ea', ec', e4, -, eb, eo, h4, c4⟩ := rd_bls r4
  simp only [Value.slice.injEq, true_and] at e4
  obtain ⟨rfl, rfl⟩ := e4
  obtain ⟨rfl, heb⟩ := h4 (by intro e; subst e; simp at l3)
  have eA' := arr_of eA
  rw [l1, l2, l3] at eA'
  have cnk : ∀ k (h : k < 2), DWorld.cn (now, sides, (bag, dead, ()), got, ended, ()) k = sides[k]'(by omega) := fun k h => by
    show sides.getD k cn0 = _
    rw [List.getD_eq_getElem?_getD, List.getElem?_eq_getElem (by omega)]; rfl
  have gtk : ∀ k (h : k < 2), DWorld.gt (now, sides, (bag, dead, ()), got, ended, ()) k = got[k]'(by omega) := fun k h => by
    show got.getD k [] = _
    rw [List.getD_eq_getElem?_getD, List.getElem?_eq_getElem (by omega)]; rfl
  have enk : ∀ k (h : k < 2), DWorld.en (now, sides, (bag, dead, ()), got, ended, ()) k = ended[k]'(by omega) := fun k h => by
    show ended.getD k false = _
    rw [List.getD_eq_getElem?_getD, List.getElem?_eq_getElem (by omega)]; rfl
  refine ⟨sb, so, sc, na, nc, da, dc, gb, go, gc, eb, eo, ec, eA', hsb, hgb, heb, fun k h => ?_, fun k h => ?_, fun k h => ?_, fun k h => ?_, fun k h => ?_⟩
  · rw [cnk k h]; exact hsc k (by omega)
  · rw [gtk k h]
    obtain ⟨b, off, u, uc, ha, hb, q1, q2⟩ := bss_at r3 k (by omega)
    simp only [Option.some.injEq, Addr.mk.injEq, and_true] at ha
    obtain ⟨rfl, rfl⟩ := ha
    exact ⟨u, uc, q1, q2⟩
  · rw [enk k h]; exact c4 k (by omega)
  · rw [cnk k h]; exact hk k (by omega)
  · rw [cnk k h]; have := fsum_at totConn (l := sides) (k := k) (by omega); unfold totConns at hTc; omega
/-- A view: a side and the other one, its bytes and its end. -/
structure VwA (w : World) (B : Nat) (c o : DConn) (g : List Int) (e : Bool) (V C O : Array Value) (gu : Option Addr) (gc : Nat) : Prop where
  eV : V = C ++ O ++ #[.slice gu g.length gc, .bool e]
  rc : shConn.Rd w B c C.toList
  ro : shConn.Rd w B o O.toList
  rg : u8s.Rd w B g [.slice gu g.length gc]
  okc : connF c = 0
  oko : connF o = 0
  toc : totConn c ≤ 1048576
  too : totConn o ≤ 1048576
theorem VwA.below {w W : World} {B : Nat} {c o : DConn} {g : List Int} {e : Bool} {V C O : Array Value} {gu : Option Addr} {gc : Nat} (h : VwA w B c o g e V C O gu gc) (hB : B ≤ w.heap.size) (hW : Below w.heap.size w W) : VwA W B c o g e V C O gu gc :=
  ⟨h.eV, h.rc.below hB hW, h.ro.below hB hW, h.rg.below hB hW, h.okc, h.oko, h.toc, h.too⟩
theorem VwA.size {w : World} {B : Nat} {c o : DConn} {g : List Int} {e : Bool} {V C O : Array Value} {gu : Option Addr} {gc : Nat} (h : VwA w B c o g e V C O gu gc) : V.size = 30 ∧ C.size = 14 ∧ O.size = 14 := by
  have h1 : C.size = 14 := rd_size h.rc
  have h2 : O.size = 14 := rd_size h.ro
  refine ⟨?_, h1, h2⟩
  rw [h.eV]; simp [h1, h2]
theorem VwA.mine {w : World} {B : Nat} {c o : DConn} {g : List Int} {e : Bool} {V C O : Array Value} {gu : Option Addr} {gc : Nat} (h : VwA w B c o g e V C O gu gc) {k : Nat} (hk : k < 14) : V[k]? = C[k]? := by
  obtain ⟨-, h1, h2⟩ := h.size
  rw [h.eV, Array.append_assoc, Array.getElem?_append_left (by omega)]
theorem VwA.other {w : World} {B : Nat} {c o : DConn} {g : List Int} {e : Bool} {V C O : Array Value} {gu : Option Addr} {gc : Nat} (h : VwA w B c o g e V C O gu gc) {k : Nat} (hk : k < 14) : V[14 + k]? = O[k]? := by
  obtain ⟨-, h1, h2⟩ := h.size
  rw [h.eV, Array.append_assoc, Array.getElem?_append_right (by omega), Array.getElem?_append_left (by omega), h1, Nat.add_sub_cancel_left]
theorem VwA.last {w : World} {B : Nat} {c o : DConn} {g : List Int} {e : Bool} {V C O : Array Value} {gu : Option Addr} {gc : Nat} (h : VwA w B c o g e V C O gu gc) : V[28]? = some (.slice gu g.length gc) ∧ V[29]? = some (.bool e) := by
  obtain ⟨-, h1, h2⟩ := h.size
  constructor
  · rw [h.eV, Array.getElem?_append_right (by simp; omega)]; simp [h1, h2]
  · rw [h.eV, Array.getElem?_append_right (by simp; omega)]; simp [h1, h2]
/-- The other side as a range of the view's box. -/
theorem VwA.range {w : World} {B : Nat} {c o : DConn} {g : List Int} {e : Bool} {V C O : Array Value} {gu : Option Addr} {gc : Nat} (h : VwA w B c o g e V C O gu gc) {W : World} {b : Nat} (hk : ∀ i, W.cell? ⟨b, i, none⟩ = V[i]?) : W.rangeAt b 14 O.toList := fun j v hv => by
  obtain ⟨-, h1, h2⟩ := h.size
  have hj : j < 14 := by
    rcases Nat.lt_or_ge j 14 with q | q
    · exact q
    · rw [List.getElem?_eq_none (by simp; omega)] at hv; cases hv
  rw [hk, h.other hj]
  rw [Array.getElem?_toList] at hv
  exact hv
end Go.Proofs.YtfpemobkkfobkaaGreatDoor
