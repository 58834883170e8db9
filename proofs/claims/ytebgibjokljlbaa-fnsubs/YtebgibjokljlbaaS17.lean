/- What the draw of a catch gives: some catch that can be read; without a fault no span of it ends behind the last place; nothing that was in memory turns but the source; no condition. Written by mkdrcat.py. -/
import Derived.Deep.RegionHeld3
import Derived.Deep.DeepCutAuto
import Derived.Deep.DeepMust
import Derived.Deep.MidRow
import Derived.Test.YtebgibjokljlbaaRows
import Derived.Test.YtebgibjokljlbaaS01
import Derived.Test.YtebgibjokljlbaaS02
import Derived.Test.YtebgibjokljlbaaS03
import Derived.Test.YtebgibjokljlbaaS04
import Derived.Test.YtebgibjokljlbaaS11
import Derived.Test.YtebgibjokljlbaaS15
import Derived.Test.YtebgibjokljlbaaS16
namespace Go.Proofs.Ytebgibjokljlbaa
open Go.RowKit
set_option linter.unusedVariables false
set_option linter.unusedSimpArgs false
set_option maxRecDepth 8000
def Took (sb : Nat) (W wx : World) (sv : Value) (K : Int) (u : Value) : Prop := ∃ (rb : Nat) (C : Int) (FR : Bool) (V : DCatch) (ua : Option Addr) (un uc lo : Nat), u = .pointer (some ⟨rb, 0, none⟩) ∧ (∀ o, wx.cell? ⟨rb, o, none⟩ = (#[.int .i64 C, .bool FR, .int .i64 V.1, .int .i64 V.2.1, .slice ua un uc] : Array Value)[o]?) ∧ W.heap.size ≤ rb ∧ rb < wx.heap.size ∧ W.heap.size ≤ lo ∧ lo ≤ wx.heap.size ∧ (C = 0 → CT wx lo V ua un uc) ∧ Dr sb W wx ∧ Src wx sb sv (K + 2)
theorem took_end {sb : Nat} {wr v8 v9 V : World} {rb : Nat} {sv : Value} {K : Int} {NN : Array Value} {x : DCatch} {ua : Option Addr} {un uc : Nat} {at' sz : Int} {FR : Bool} (hN : NN = #[.int .i64 (tkC x at' sz), .bool FR, .int .i64 (tkV x at' sz).1, .int .i64 (tkV x at' sz).2.1, .slice ua un uc])
    (kb : ∀ o, V.cell? ⟨rb, o, none⟩ = (#[.int .i64 0, .bool false, .int .i64 0, .int .i64 0, .slice none 0 0] : Array Value)[o]?) (hrb : wr.heap.size ≤ rb) (hrv : rb < V.heap.size) (hne : rb < v8.heap.size ∨ v9.heap.size ≤ rb) (hv8 : wr.heap.size ≤ v8.heap.size) (h98 : v8.heap.size ≤ v9.heap.size) (hsb : sb < wr.heap.size) (hT : ToB x)
    (ho : Own v9 v8.heap.size v9.heap.size shCatchO (tkV x at' sz) [.int .i64 (tkV x at' sz).1, .int .i64 (tkV x at' sz).2.1, .slice ua un uc]) (hS : Spare v9 v8.heap.size (.slice ua un uc)) (hE : Dr sb wr V) (h9 : Dr sb v9 V) (hK : Src V sb sv (K + 2)) :
    Took sb wr (V.setCells rb 0 NN.toList) sv K (.pointer (some ⟨rb, 0, none⟩)) := by
  subst hN
  have hb : Below wr.heap.size V (V.setCells rb 0 (#[.int .i64 (tkC x at' sz), .bool FR, .int .i64 (tkV x at' sz).1, .int .i64 (tkV x at' sz).2.1, .slice ua un uc] : Array Value).toList) := setCells_below hrb _ _ _ _ (Below.refl _ _)
  refine ⟨rb, _, FR, tkV x at' sz, ua, un, uc, v8.heap.size, rfl, bx_setCells kb (by rfl), hrb, by rw [setCells_size]; exact hrv, hv8, by rw [setCells_size]; exact Nat.le_trans h98 h9.size, fun hC => ?_, hE.then hb (Nat.le_refl _), hK.below hb hsb⟩
  obtain ⟨-, -, -, q1, q2⟩ := tk_all hC hT
  have h : CT v9 v8.heap.size (tkV x at' sz) ua un uc := ⟨ho, hS, q1, q2⟩
  exact h.keepAll (by rw [setCells_size]; exact h9.size) fun g g1 g2 => (setCells_block (by omega) _ _ _).trans (h9.block g g2 (by omega))
set_option maxHeartbeats 16000000 in
theorem sCatch7 (sb : Nat) (a : Option Addr) (len cap : Nat) (zs : List Int) (K0 : Int) (w : World)
    (hs : Src w sb (.slice a len cap) K0) (hr : BRow .u8 w a len cap zs) (hl1 : RowLt sb a zs) (hK0 : 0 ≤ K0) (hK1 : K0 ≤ 100000) :
    Calls Try.prog 111 #[.pointer (some ⟨sb, 0, none⟩)] w fun e w' => ∃ (x : DCatch) (va : Option Addr) (n vc : Nat), e = .returned (.agg #[.int .i64 x.1, .int .i64 x.2.1, .slice va n vc]) ∧ FC w' (w.heap.size + 1) x va n vc ∧ Dr sb w w' ∧ Src w' sb (.slice a len cap) (K0 + 100) := by
  have hlt := hs.lt
  have HRW : Hid (∀ W, Dr sb w W → BRow .u8 W a len cap zs) := fun W h => hr.below hl1 (h.below (Nat.le_of_lt hlt))
  have HS : Hid _ := hs
  clear hr hs
  go_enter Try.func111, Try.ntmps111
  go_wp2_with fail
  have D : Hid (Dr sb w (w.alloc (.cells #[.int .i64 0, .int .i64 0, .slice none 0 0] 60))) := (Dr.refl _ _).then ((Below.refl _ _).alloc (Nat.le_refl _) _) (Nat.le_refl _)
  refine (sNext sb a len cap zs K0 90 _ (HS.out.alloc _) (HRW.out _ D.out) hl1 (by omega) (by omega)).mono ?_
  rintro e w1 ⟨r1, rfl, p1, q1, st1, s1⟩
  have kR : ∀ o, w1.cell? ⟨w.heap.size, o, none⟩ = (#[.int .i64 0, .int .i64 0, .slice none 0 0] : Array Value)[o]? := fun o => (st1.dr.cell (p := ⟨w.heap.size, o, none⟩) (by simp) (by dsimp only; omega)).trans (by simp [go_sem])
  have fR : ∀ o, w1.frozen? ⟨w.heap.size, o, none⟩ = false := fun o => (st1.dr.frozen (p := ⟨w.heap.size, o, none⟩) (by simp) (by dsimp only; omega)).trans (by simp [go_sem])
  have zR : w.heap.size < w1.heap.size := by have h := st1.size; simp at h; omega
  replace D : Hid (Dr sb w w1) := D.out.trans st1.dr
  have S : Hid (Src w1 sb (.slice a len cap) (K0 + 1)) := s1
  clear st1 s1 HS
  go_wp2_with fail
  have hp := sPickD sb a len cap zs _ [r1, 65530] 2 w1 S.out (HRW.out _ D.out) hl1 (by omega) (by simp) (by simp)
  simp only [List.length_cons, List.length_nil, List.map_cons, List.map_nil, Nat.zero_add, Nat.reduceAdd] at hp
  refine hp.mono ?_
  clear hp
  rintro e w2 ⟨y0, rfl, hm, hd, hsr⟩
  simp only [List.mem_cons, List.not_mem_nil, or_false] at hm
  have m0 : 0 ≤ y0 ∧ y0 ≤ 65535 := by omega
  replace kR := bx_drC kR hd zR (by omega)
  replace fR := fx_drC fR hd zR (by omega)
  replace zR := Nat.lt_of_lt_of_le zR (Dr.size hd)
  replace D : Hid (Dr sb w w2) := D.out.trans hd
  replace S : Hid (Src w2 sb (.slice a len cap) (K0 + 2)) := (hsr).mono (by omega)
  clear hm hd hsr
  go_wp2_with fail
  refine (sNext sb a len cap zs _ 30 _ S.out (HRW.out _ D.out) hl1 (by omega) (by omega)).mono ?_
  rintro e w3 ⟨r2, rfl, pr2, gr2, hd, hsr⟩
  replace kR := bx_drC kR hd.dr zR (by omega)
  replace fR := fx_drC fR hd.dr zR (by omega)
  replace zR := Nat.lt_of_lt_of_le zR (Dr.size hd.dr)
  replace D : Hid (Dr sb w w3) := D.out.trans hd.dr
  replace S : Hid (Src w3 sb (.slice a len cap) (K0 + 3)) := (hsr).mono (by omega)
  clear hd hsr
  go_wp2_with fail
  have hp := sPickD sb a len cap zs _ [0, r2, 999990] 2 w3 S.out (HRW.out _ D.out) hl1 (by omega) (by simp) (by simp)
  simp only [List.length_cons, List.length_nil, List.map_cons, List.map_nil, Nat.zero_add, Nat.reduceAdd] at hp
  refine hp.mono ?_
  clear hp
  rintro e w4 ⟨y1, rfl, hm, hd, hsr⟩
  simp only [List.mem_cons, List.not_mem_nil, or_false] at hm
  have m1 : 0 ≤ y1 ∧ y1 ≤ 1000000 := by omega
  replace kR := bx_drC kR hd zR (by omega)
  replace fR := fx_drC fR hd zR (by omega)
  replace zR := Nat.lt_of_lt_of_le zR (Dr.size hd)
  replace D : Hid (Dr sb w w4) := D.out.trans hd
  replace S : Hid (Src w4 sb (.slice a len cap) (K0 + 4)) := (hsr).mono (by omega)
  clear hm hd hsr
  have hXw : w.heap.size < w4.heap.size := zR
  go_upto_region 2 with fail
  have kX : ∀ o, (w4.alloc (.cells #[.int .i64 y0, .int .i64 y1, .slice none 0 0] 60)).cell? ⟨w4.heap.size, o, none⟩ = (#[.int .i64 y0, .int .i64 y1, .slice none 0 0] : Array Value)[o]? := bx_al w4 _ _
  have fX : ∀ o, (w4.alloc (.cells #[.int .i64 y0, .int .i64 y1, .slice none 0 0] 60)).frozen? ⟨w4.heap.size, o, none⟩ = false := fx_al w4 _ _
  have hb : Below w4.heap.size w4 (w4.alloc (.cells #[.int .i64 y0, .int .i64 y1, .slice none 0 0] 60)) := (Below.refl _ _).alloc (Nat.le_refl _) _
  have zX : w4.heap.size < (w4.alloc (.cells #[.int .i64 y0, .int .i64 y1, .slice none 0 0] 60)).heap.size := by simp
  generalize hWW : (w4.alloc (.cells #[.int .i64 y0, .int .i64 y1, .slice none 0 0] 60)) = w5 at kX fX hb zX ⊢
  clear hWW
  have hd : Dr sb w4 w5 := (Dr.refl _ _).then hb (Nat.le_refl _)
  have hsl := S.out.lt
  replace kR := bx_drC kR hd zR (by omega)
  replace fR := fx_drC fR hd zR (by omega)
  replace zR := Nat.lt_of_lt_of_le zR (Dr.size hd)
  replace D : Hid (Dr sb w w5) := D.out.trans hd
  replace S : Hid (Src w5 sb (.slice a len cap) (K0 + 4)) := (S.out.bel hb).mono (by omega)
  obtain ⟨XB, hXB⟩ : ∃ q, q = w4.heap.size := ⟨_, rfl⟩
  rw [← hXB] at kX fX zX hXw hsl ⊢
  clear hXB hb hd
  go_wp2_with fail
  refine (sNext sb a len cap zs _ 6 _ S.out (HRW.out _ D.out) hl1 (by omega) (by omega)).mono ?_
  rintro e w6 ⟨kq, rfl, pkq, gkq, hd, hsr⟩
  replace kR := bx_drC kR hd.dr zR (by omega)
  replace fR := fx_drC fR hd.dr zR (by omega)
  replace zR := Nat.lt_of_lt_of_le zR (Dr.size hd.dr)
  replace kX := bx_drC kX hd.dr zX (by omega)
  replace fX := fx_drC fX hd.dr zX (by omega)
  replace zX := Nat.lt_of_lt_of_le zX (Dr.size hd.dr)
  replace D : Hid (Dr sb w w6) := D.out.trans hd.dr
  replace S : Hid (Src w6 sb (.slice a len cap) (K0 + 5)) := (hsr).mono (by omega)
  clear hd hsr
  obtain ⟨kn, rfl⟩ : ∃ kn : Nat, kq = (kn : Int) := ⟨kq.toNat, by omega⟩
  have hkn : kn ≤ 5 := by omega
  have X0 : Hid (CT w6 (XB + 1) (y0, y1, [], ()) none 0 0) := ct_nil _ _ m0 m1
  have S0 : Hid (Src w6 sb (.slice a len cap) (K0 + 10 + 4 * (5 - (kn : Int)))) := S.out.mono (by omega)
  clear S m0 m1
  go_wp2_with fail
  go_loopw [4] (fun t wr => ∃ (kk : Nat) (x : DCatch) (va : Option Addr) (n vc lo : Nat), kk ≤ 5 ∧ t = .int .i64 kk ∧ (∀ o, wr.cell? ⟨XB, o, none⟩ = (#[.int .i64 x.1, .int .i64 x.2.1, .slice va n vc] : Array Value)[o]?) ∧ (∀ o, wr.frozen? ⟨XB, o, none⟩ = false) ∧ (∀ o, wr.cell? ⟨w.heap.size, o, none⟩ = (#[.int .i64 0, .int .i64 0, .slice none 0 0] : Array Value)[o]?) ∧ (∀ o, wr.frozen? ⟨w.heap.size, o, none⟩ = false) ∧ XB < wr.heap.size ∧ XB < lo ∧ lo ≤ wr.heap.size ∧ Hid (CT wr lo x va n vc) ∧ Hid (Dr sb w wr) ∧ Hid (Src wr sb (.slice a len cap) (K0 + 10 + 4 * (5 - (kk : Int))))) (fun t _ => (intOf t).toNat)
  case atStart => exact ⟨kn, (y0, y1, [], ()), none, 0, 0, XB + 1, hkn, rfl, kX, fX, kR, fR, zX, by omega, by omega, X0, D, S0⟩
  case round =>
    clear kX fX kR fR zX X0 D S0 zR
    obtain ⟨kk, x, va, n, vc, lo, hk5, rfl, kX, fX, kR, fR, zX, hXlo, hlz, X, D, S⟩ := hrel
    have zR : w.heap.size < wr.heap.size := by omega
    by_cases hpos : 0 < kk
    · have hpos' : (0 : Int) < (kk : Int) := by omega
      obtain ⟨c1, c2, -, -, -, -, c7, c8⟩ := X.out.form
      have HTB : Hid (ToB x) := X.out.tb
      have HTK : Hid (∀ W (at' sz : Int), Dr sb wr W → Calls Try.prog 134 #[.agg #[.int .i64 x.1, .int .i64 x.2.1, .slice va n vc], .int .i64 at', .int .i64 sz] W fun e w' => ∃ u, e = .returned (.agg #[.int .i64 (tkC x at' sz), .bool (tkB x at' sz), .int .i64 (tkV x at' sz).1, .int .i64 (tkV x at' sz).2.1, u]) ∧ Own w' W.heap.size w'.heap.size shCatchO (tkV x at' sz) [.int .i64 (tkV x at' sz).1, .int .i64 (tkV x at' sz).2.1, u] ∧ Below W.heap.size W w' ∧ Spare w' W.heap.size u) := fun W at' sz hW => sTakeSpanS x _ at' sz W W.heap.size ((X.out.dr hW (by omega)).own.rd (Nat.le_refl _)) (Nat.le_refl _) (by show x.2.2.1.length ≤ 1048576; omega)
      obtain ⟨y0, hy0⟩ : ∃ y, y = x.1 := ⟨_, rfl⟩
      obtain ⟨y1, hy1⟩ : ∃ y, y = x.2.1 := ⟨_, rfl⟩
      simp only [← hy0, ← hy1] at kX HTK c7 c8
      have HY0 : Hid (y0 = x.1) := hy0
      have HY1 : Hid (y1 = x.2.1) := hy1
      clear hy0 hy1
      have HR : Hid (∀ W, Dr sb wr W → BRow .u8 W a len cap zs) := fun W h => HRW.out W (D.out.trans h)
      have hsr : sb < wr.heap.size := by omega
      obtain ⟨K, hK⟩ : ∃ K, K = K0 + 10 + 4 * (5 - (kk : Int)) := ⟨_, rfl⟩
      have hKb : K ≤ 100040 := by omega
      have hKc : 0 ≤ K := by omega
      have HXO : Hid (CT wr lo x va n vc) := X.out
      have S1 : Hid (Src wr sb (.slice a len cap) (K + 0)) := S.out.mono (by omega)
      clear S X
      have S : Hid _ := S1
      clear S1
      go_upto_region 5 with fail
      go_cut [5] (fun u wx => Hid (Took sb wr wx (.slice a len cap) K u))
      case first =>
        clear kR fR fX zR D HXO hK c1 c2 hpos hpos' hk5
        have KK : Hid (∀ W, Dr sb wr W → ∀ o, W.cell? ⟨XB, o, none⟩ = (#[.int .i64 y0, .int .i64 y1, .slice va n vc] : Array Value)[o]?) := fun W h => bx_drC kX h zX (by omega)
        have Ew : Hid (Dr sb wr wr) := Dr.refl _ _
        refine wp_region_noPanic ?_
        refine Goes.start (S := fun w' => ∀ o, w'.cell? ⟨XB, o, none⟩ = (#[.int .i64 y0, .int .i64 y1, .slice va n vc] : Array Value)[o]?) (z := 100) (by kernel_rfl) ?_
        have E0 : Hid (Dr sb wr wr.drew) := Dr.drewC sb wr
        have S0 : Hid (Src wr.drew sb (.slice a len cap) (K + 0)) := S.out.drewC
        refine Goes.take (i := 0) (oi := ?oi1502) (x := ?vx1502) ?ho1502 (by kernel_rfl) (by kernel_rfl) (by kernel_rfl) (by kernel_rfl) (fun _ _ _ h => h) (Or.inl ⟨?hw1502, ?hy1502⟩) (KK.out _ E0.out) ?rest1502
        case ho1502 => (simp only [List.getElem?_toArray, List.getElem?_cons_zero] <;> rfl)
        case hw1502 => rfl
        case hy1502 => (intro w' hSw; have j0 := hSw; go_simp; (try with_reducible rfl))
        case rest1502 =>
        (try simp only [Act.put, List.setIfInBounds_toArray, List.set_cons_zero, List.set_cons_succ])
        refine Goes.take (i := 1) (oi := ?oi1503) (x := ?vx1503) ?ho1503 (by kernel_rfl) (by kernel_rfl) (by kernel_rfl) (by kernel_rfl) (fun _ _ _ h => h) (Or.inl ⟨?hw1503, ?hy1503⟩) (KK.out _ E0.out) ?rest1503
        case ho1503 => (simp only [List.getElem?_toArray, List.getElem?_cons_succ, List.getElem?_cons_zero] <;> rfl)
        case hw1503 => rfl
        case hy1503 => (intro w' hSw; have j0 := hSw; go_simp; (try with_reducible rfl))
        case rest1503 =>
        (try simp only [Act.put, List.setIfInBounds_toArray, List.set_cons_zero, List.set_cons_succ])
        refine Goes.take (i := 2) (oi := ?oi1504) (x := ?vx1504) ?ho1504 (by kernel_rfl) (by kernel_rfl) (by kernel_rfl) (by kernel_rfl) (fun _ _ _ h => h) (Or.inl ⟨?hw1504, ?hy1504⟩) (KK.out _ E0.out) ?rest1504
        case ho1504 => (simp only [List.getElem?_toArray, List.getElem?_cons_succ, List.getElem?_cons_zero] <;> rfl)
        case hw1504 => rfl
        case hy1504 => (intro w' hSw; have j0 := hSw; go_simp; (try with_reducible rfl))
        case rest1504 =>
        (try simp only [Act.put, List.setIfInBounds_toArray, List.set_cons_zero, List.set_cons_succ])
        refine Goes.take (i := 3) (oi := ?oi1505) (x := ?vx1505) ?ho1505 (by kernel_rfl) (by kernel_rfl) (by kernel_rfl) (by kernel_rfl) (fun _ _ _ h => h) (Or.inl ⟨?hw1505, ?hy1505⟩) (KK.out _ E0.out) ?rest1505
        case ho1505 => (simp only [List.getElem?_toArray, List.getElem?_cons_succ, List.getElem?_cons_zero] <;> rfl)
        case hw1505 => rfl
        case hy1505 => (intro w' hSw; have j0 := hSw; go_simp; (try with_reducible rfl))
        case rest1505 =>
        (try simp only [Act.put, List.setIfInBounds_toArray, List.set_cons_zero, List.set_cons_succ])
        refine Goes.take (i := 6) (oi := ?oi1506) (x := ?vx1506) ?ho1506 (by kernel_rfl) (by kernel_rfl) (by kernel_rfl) (by kernel_rfl) (fun _ _ _ h => h) (Or.inl ⟨?hw1506, ?hy1506⟩) (KK.out _ E0.out) ?rest1506
        case ho1506 => (simp only [List.getElem?_toArray, List.getElem?_cons_succ, List.getElem?_cons_zero] <;> rfl)
        case hw1506 => rfl
        case hy1506 => (intro w' hSw; have j0 := hSw; go_simp; (try with_reducible rfl))
        case rest1506 =>
        (try simp only [Act.put, List.setIfInBounds_toArray, List.set_cons_zero, List.set_cons_succ])
        refine Goes.all (rs := [4, 10]) (by kernel_rfl) (by simp) ?_
        refine Ups.cons (i := 4) (o := ?oo512) ?ho512 (fun KQ hKQ => ?stp512) (Ups.cons (i := 10) (o := ?oo513) ?ho513 (fun KQ hKQ => ?stp513) Ups.nil)
        case ho512 => (simp only [List.getElem?_toArray, List.getElem?_cons_succ, List.getElem?_cons_zero] <;> rfl)
        case ho513 => (simp only [List.getElem?_toArray, List.getElem?_cons_succ, List.getElem?_cons_zero] <;> rfl)
        case stp513 =>
          go_simp
          obtain ⟨v514, hv514⟩ : ∃ v, v = (wr.alloc (.cells #[.int .i64 0, .bool false, .int .i64 0, .int .i64 0, .slice none 0 0] 179)).drew := ⟨_, rfl⟩
          rw [← hv514]
          have b514 : Below wr.heap.size wr v514 := by rw [hv514]; exact ((Below.refl _ _).alloc (Nat.le_refl _) _).drew
          have hrv : wr.heap.size < v514.heap.size := by rw [hv514]; simp
          have kE : Hid (∀ W, Dr sb v514 W → (∀ o, W.cell? ⟨wr.heap.size, o, none⟩ = (#[.int .i64 0, .bool false, .int .i64 0, .int .i64 0, .slice none 0 0] : Array Value)[o]?) ∧ (∀ o, W.frozen? ⟨wr.heap.size, o, none⟩ = false)) := fun W h => ⟨bx_drC (by rw [hv514]; intro o; simp [go_sem]) h hrv (by have := Ew.out.size; omega), fx_drC (by rw [hv514]; intro o; simp [go_sem]) h hrv (by have := Ew.out.size; omega)⟩
          have hrb : wr.heap.size ≤ wr.heap.size := Ew.out.size
          have E515 : Hid (Dr sb wr v514) := Ew.out.trans ((Dr.refl sb wr).then b514 (Nat.le_refl _))
          have S515 : Hid (Src v514 sb (.slice a len cap) (K + 0)) := S.out.bel b514
          have EB : Hid (Dr sb v514 v514) := Dr.refl _ _
          clear b514 hv514
          refine hKQ.out _ _ (Or.inr (KK.out _ E515.out)) ?_
          clear hKQ KQ
          (try simp only [Act.put, List.setIfInBounds_toArray, List.set_cons_zero, List.set_cons_succ])
          refine Goes.all (rs := [4]) (by kernel_rfl) (by simp) ?_
          refine Ups.cons (i := 4) (o := ?oo516) ?ho516 (fun KQ hKQ => ?stp516) Ups.nil
          case ho516 => (simp only [List.getElem?_toArray, List.getElem?_cons_succ, List.getElem?_cons_zero] <;> rfl)
          case stp516 =>
          go_simp
          go_at_call 39
          refine (sNext sb a len cap zs _ 40 _ S515.out (HR.out _ E515.out) hl1 (by omega) (by omega)).mono ?_
          rintro e v517 ⟨q1, rfl, hb0q1, hb1q1, st517, sr517⟩
          have E518 : Hid (Dr sb wr v517) := E515.out.trans st517.dr
          have S518 : Hid (Src v517 sb (.slice a len cap) (K + 1)) := (by have h := sr517; exact h.mono (by omega))
          have EB518 : Hid (Dr sb v514 v517) := EB.out.trans st517.dr
          clear st517 sr517
          have haq1 : IntKind.i64.wrap (y1 + q1) = y1 + q1 := w64C (by omega) (by omega)
          dsimp only
          refine hKQ.out _ _ (Or.inr (KK.out _ E518.out)) ?_
          clear hKQ KQ
          (try simp only [Act.put, List.setIfInBounds_toArray, List.set_cons_zero, List.set_cons_succ])
          refine Goes.take (i := 5) (oi := ?oi1520) (x := ?vx1520) ?ho1520 (by kernel_rfl) (by kernel_rfl) (by kernel_rfl) (by kernel_rfl) (fun _ _ _ h => h) (Or.inl ⟨?hw1520, ?hy1520⟩) (KK.out _ E518.out) ?rest1520
          case ho1520 => (simp only [List.getElem?_toArray, List.getElem?_cons_succ, List.getElem?_cons_zero] <;> rfl)
          case hw1520 => rfl
          case hy1520 => (intro w' hSw; have j0 := hSw; go_simp; (try with_reducible rfl))
          case rest1520 =>
          (try simp only [Act.put, List.setIfInBounds_toArray, List.set_cons_zero, List.set_cons_succ])
          refine Goes.all (rs := [7]) (by kernel_rfl) (by simp) ?_
          refine Ups.cons (i := 7) (o := ?oo522) ?ho522 (fun KQ hKQ => ?stp522) Ups.nil
          case ho522 => (simp only [List.getElem?_toArray, List.getElem?_cons_succ, List.getElem?_cons_zero] <;> rfl)
          case stp522 =>
          go_simp
          go_at_call 39
          refine (sNext sb a len cap zs _ 8 _ S518.out (HR.out _ E518.out) hl1 (by omega) (by omega)).mono ?_
          rintro e v523 ⟨q2, rfl, hb0q2, hb1q2, st523, sr523⟩
          have E524 : Hid (Dr sb wr v523) := E518.out.trans st523.dr
          have S524 : Hid (Src v523 sb (.slice a len cap) (K + 2)) := (by have h := sr523; exact h.mono (by omega))
          have EB524 : Hid (Dr sb v514 v523) := EB518.out.trans st523.dr
          clear st523 sr523
          have haq2 : IntKind.i64.wrap (1 + q2) = 1 + q2 := w64C (by omega) (by omega)
          dsimp only
          refine hKQ.out _ _ (Or.inr (KK.out _ E524.out)) ?_
          clear hKQ KQ
          (try simp only [Act.put, List.setIfInBounds_toArray, List.set_cons_zero, List.set_cons_succ])
          refine Goes.take (i := 8) (oi := ?oi1526) (x := ?vx1526) ?ho1526 (by kernel_rfl) (by kernel_rfl) (by kernel_rfl) (by kernel_rfl) (fun _ _ _ h => h) (Or.inl ⟨?hw1526, ?hy1526⟩) (KK.out _ E524.out) ?rest1526
          case ho1526 => (simp only [List.getElem?_toArray, List.getElem?_cons_succ, List.getElem?_cons_zero] <;> rfl)
          case hw1526 => rfl
          case hy1526 => (intro w' hSw; have j0 := hSw; go_simp; (try with_reducible rfl))
          case rest1526 =>
          (try simp only [Act.put, List.setIfInBounds_toArray, List.set_cons_zero, List.set_cons_succ])
          refine Goes.all (rs := [9]) (by kernel_rfl) (by simp) ?_
          refine Ups.cons (i := 9) (o := ?oo528) ?ho528 (fun KQ hKQ => ?stp528) Ups.nil
          case ho528 => (simp only [List.getElem?_toArray, List.getElem?_cons_succ, List.getElem?_cons_zero] <;> rfl)
          case stp528 =>
          go_simp
          go_at_call 134
          refine (HTK.out _ (y1 + q1) (1 + q2) E524.out).mono ?_
          rintro e v529 ⟨u, rfl, ho529, hb529, hs529⟩
          obtain ⟨uv, eu, ru, -, -⟩ := rd_CatchO (ho529.rd (Nat.le_refl _))
          simp only [List.cons.injEq, and_true, true_and] at eu
          subst eu
          obtain ⟨ua, uc, eu⟩ := row_formO ru
          simp only [List.cons.injEq, and_true] at eu
          subst eu
          clear ru
          have hne : wr.heap.size < v523.heap.size := Nat.lt_of_lt_of_le hrv EB524.out.size
          have hv8 : wr.heap.size ≤ v523.heap.size := E524.out.size
          have E530 : Hid (Dr sb wr v529) := E524.out.trans ((Dr.refl sb v523).then hb529 (Nat.le_refl _))
          have S530 : Hid (Src v529 sb (.slice a len cap) (K + 2)) := S524.out.bel hb529
          have EB530 : Hid (Dr sb v514 v529) := EB524.out.trans ((Dr.refl sb v523).then hb529 (Nat.le_refl _))
          have HO9 : Hid _ := ho529
          have HS9 : Hid _ := hs529
          have h98 : v523.heap.size ≤ v529.heap.size := hb529.size
          clear ho529 hb529 hs529
          have TK : Hid (Dr sb v529 v529) := Dr.refl _ _
          dsimp only
          refine hKQ.out _ _ (Or.inr (KK.out _ E530.out)) ?_
          clear hKQ KQ
          (try simp only [Act.put, List.setIfInBounds_toArray, List.set_cons_zero, List.set_cons_succ])
          obtain ⟨NN, hNN⟩ : ∃ NN : Array Value, NN = #[.int .i64 (tkC x (y1 + q1) (1 + q2)), .bool (tkB x (y1 + q1) (1 + q2)), .int .i64 (tkV x (y1 + q1) (1 + q2)).1, .int .i64 (tkV x (y1 + q1) (1 + q2)).2.1, .slice ua (tkV x (y1 + q1) (1 + q2)).2.2.1.length uc] := ⟨_, rfl⟩
          have HNN : Hid _ := hNN
          have HNZ : Hid (NN.size = 5) := by show _ = _; rw [hNN]; rfl
          have HNI : Hid ((Try.prog.info? 179).map (·.size) = some NN.size) := by show _ = _; rw [HNZ.out]; exact (by kernel_rfl : (Try.prog.info? 179).map (·.size) = some 5)
          have HNO : Hid (NN.all (·.oneCell') = true) := by show _ = _; rw [hNN]; simp [Value.oneCell']
          clear hNN
          obtain ⟨kb, fb⟩ := kE.out _ EB530.out
          refine Goes.all (rs := [11]) (by kernel_rfl) (by simp) ?_
          refine Ups.cons (i := 11) (o := ?oo531) ?ho531 (fun KQ hKQ => ?stp531) Ups.nil
          case ho531 => (simp only [List.getElem?_toArray, List.getElem?_cons_succ, List.getElem?_cons_zero] <;> rfl)
          case stp531 =>
          rw [if_pos (by rfl)]
          refine wp_store_mid 179 _ _ rfl _ _ NN (by rfl) (by rw [HNN.out]; rfl) (bx_there kb fb (by rw [HNZ.out]; rfl)) HNI.out HNO.out ?_
          refine hKQ.out _ _ (Or.inr (bx_setOff (KK.out _ E530.out) (by omega))) ?_
          clear hKQ KQ
          (try simp only [Act.put, List.setIfInBounds_toArray, List.set_cons_zero, List.set_cons_succ])
          refine Goes.done (by kernel_rfl) ?_ _
          refine NoPanic.normal ?_
          have HF : Hid _ := took_end (sv := (.slice a len cap)) (K := K) HNN.out kb hrb (Nat.lt_of_lt_of_le hrv EB530.out.size) (Or.inl hne) hv8 h98 hsr HTB.out HO9.out HS9.out E530.out TK.out S530.out
          clear HO9 HS9 kE kb fb HNN HNZ HNI HNO HTK
          go_wp2_with fail
          go_meet
          exact HF.out
        case stp512 =>
          go_simp
          go_at_call 39
          refine (sNext sb a len cap zs _ 40 _ S0.out (HR.out _ E0.out) hl1 (by omega) (by omega)).mono ?_
          rintro e v532 ⟨q1, rfl, hb0q1, hb1q1, st532, sr532⟩
          have E533 : Hid (Dr sb wr v532) := E0.out.trans st532.dr
          have S533 : Hid (Src v532 sb (.slice a len cap) (K + 1)) := (by have h := sr532; exact h.mono (by omega))
          clear st532 sr532
          have haq1 : IntKind.i64.wrap (y1 + q1) = y1 + q1 := w64C (by omega) (by omega)
          dsimp only
          refine hKQ.out _ _ (Or.inr (KK.out _ E533.out)) ?_
          clear hKQ KQ
          (try simp only [Act.put, List.setIfInBounds_toArray, List.set_cons_zero, List.set_cons_succ])
          refine Goes.take (i := 5) (oi := ?oi1535) (x := ?vx1535) ?ho1535 (by kernel_rfl) (by kernel_rfl) (by kernel_rfl) (by kernel_rfl) (fun _ _ _ h => h) (Or.inl ⟨?hw1535, ?hy1535⟩) (KK.out _ E533.out) ?rest1535
          case ho1535 => (simp only [List.getElem?_toArray, List.getElem?_cons_succ, List.getElem?_cons_zero] <;> rfl)
          case hw1535 => rfl
          case hy1535 => (intro w' hSw; have j0 := hSw; go_simp; (try with_reducible rfl))
          case rest1535 =>
          (try simp only [Act.put, List.setIfInBounds_toArray, List.set_cons_zero, List.set_cons_succ])
          refine Goes.all (rs := [7, 10]) (by kernel_rfl) (by simp) ?_
          refine Ups.cons (i := 7) (o := ?oo537) ?ho537 (fun KQ hKQ => ?stp537) (Ups.cons (i := 10) (o := ?oo538) ?ho538 (fun KQ hKQ => ?stp538) Ups.nil)
          case ho537 => (simp only [List.getElem?_toArray, List.getElem?_cons_succ, List.getElem?_cons_zero] <;> rfl)
          case ho538 => (simp only [List.getElem?_toArray, List.getElem?_cons_succ, List.getElem?_cons_zero] <;> rfl)
          case stp538 =>
            go_simp
            obtain ⟨v539, hv539⟩ : ∃ v, v = v532.alloc (.cells #[.int .i64 0, .bool false, .int .i64 0, .int .i64 0, .slice none 0 0] 179) := ⟨_, rfl⟩
            rw [← hv539]
            have b539 : Below v532.heap.size v532 v539 := by rw [hv539]; exact (Below.refl _ _).alloc (Nat.le_refl _) _
            have hrv : v532.heap.size < v539.heap.size := by rw [hv539]; simp
            have kE : Hid (∀ W, Dr sb v539 W → (∀ o, W.cell? ⟨v532.heap.size, o, none⟩ = (#[.int .i64 0, .bool false, .int .i64 0, .int .i64 0, .slice none 0 0] : Array Value)[o]?) ∧ (∀ o, W.frozen? ⟨v532.heap.size, o, none⟩ = false)) := fun W h => ⟨bx_drC (by rw [hv539]; intro o; simp [go_sem]) h hrv (by have := E533.out.size; omega), fx_drC (by rw [hv539]; intro o; simp [go_sem]) h hrv (by have := E533.out.size; omega)⟩
            have hrb : wr.heap.size ≤ v532.heap.size := E533.out.size
            have E540 : Hid (Dr sb wr v539) := E533.out.trans ((Dr.refl sb v532).then b539 (Nat.le_refl _))
            have S540 : Hid (Src v539 sb (.slice a len cap) (K + 1)) := S533.out.bel b539
            have EB : Hid (Dr sb v539 v539) := Dr.refl _ _
            clear b539 hv539
            refine hKQ.out _ _ (Or.inr (KK.out _ E540.out)) ?_
            clear hKQ KQ
            (try simp only [Act.put, List.setIfInBounds_toArray, List.set_cons_zero, List.set_cons_succ])
            refine Goes.all (rs := [7]) (by kernel_rfl) (by simp) ?_
            refine Ups.cons (i := 7) (o := ?oo541) ?ho541 (fun KQ hKQ => ?stp541) Ups.nil
            case ho541 => (simp only [List.getElem?_toArray, List.getElem?_cons_succ, List.getElem?_cons_zero] <;> rfl)
            case stp541 =>
            go_simp
            go_at_call 39
            refine (sNext sb a len cap zs _ 8 _ S540.out (HR.out _ E540.out) hl1 (by omega) (by omega)).mono ?_
            rintro e v542 ⟨q2, rfl, hb0q2, hb1q2, st542, sr542⟩
            have E543 : Hid (Dr sb wr v542) := E540.out.trans st542.dr
            have S543 : Hid (Src v542 sb (.slice a len cap) (K + 2)) := (by have h := sr542; exact h.mono (by omega))
            have EB543 : Hid (Dr sb v539 v542) := EB.out.trans st542.dr
            clear st542 sr542
            have haq2 : IntKind.i64.wrap (1 + q2) = 1 + q2 := w64C (by omega) (by omega)
            dsimp only
            refine hKQ.out _ _ (Or.inr (KK.out _ E543.out)) ?_
            clear hKQ KQ
            (try simp only [Act.put, List.setIfInBounds_toArray, List.set_cons_zero, List.set_cons_succ])
            refine Goes.take (i := 8) (oi := ?oi1545) (x := ?vx1545) ?ho1545 (by kernel_rfl) (by kernel_rfl) (by kernel_rfl) (by kernel_rfl) (fun _ _ _ h => h) (Or.inl ⟨?hw1545, ?hy1545⟩) (KK.out _ E543.out) ?rest1545
            case ho1545 => (simp only [List.getElem?_toArray, List.getElem?_cons_succ, List.getElem?_cons_zero] <;> rfl)
            case hw1545 => rfl
            case hy1545 => (intro w' hSw; have j0 := hSw; go_simp; (try with_reducible rfl))
            case rest1545 =>
            (try simp only [Act.put, List.setIfInBounds_toArray, List.set_cons_zero, List.set_cons_succ])
            refine Goes.all (rs := [9]) (by kernel_rfl) (by simp) ?_
            refine Ups.cons (i := 9) (o := ?oo547) ?ho547 (fun KQ hKQ => ?stp547) Ups.nil
            case ho547 => (simp only [List.getElem?_toArray, List.getElem?_cons_succ, List.getElem?_cons_zero] <;> rfl)
            case stp547 =>
            go_simp
            go_at_call 134
            refine (HTK.out _ (y1 + q1) (1 + q2) E543.out).mono ?_
            rintro e v548 ⟨u, rfl, ho548, hb548, hs548⟩
            obtain ⟨uv, eu, ru, -, -⟩ := rd_CatchO (ho548.rd (Nat.le_refl _))
            simp only [List.cons.injEq, and_true, true_and] at eu
            subst eu
            obtain ⟨ua, uc, eu⟩ := row_formO ru
            simp only [List.cons.injEq, and_true] at eu
            subst eu
            clear ru
            have hne : v532.heap.size < v542.heap.size := Nat.lt_of_lt_of_le hrv EB543.out.size
            have hv8 : wr.heap.size ≤ v542.heap.size := E543.out.size
            have E549 : Hid (Dr sb wr v548) := E543.out.trans ((Dr.refl sb v542).then hb548 (Nat.le_refl _))
            have S549 : Hid (Src v548 sb (.slice a len cap) (K + 2)) := S543.out.bel hb548
            have EB549 : Hid (Dr sb v539 v548) := EB543.out.trans ((Dr.refl sb v542).then hb548 (Nat.le_refl _))
            have HO9 : Hid _ := ho548
            have HS9 : Hid _ := hs548
            have h98 : v542.heap.size ≤ v548.heap.size := hb548.size
            clear ho548 hb548 hs548
            have TK : Hid (Dr sb v548 v548) := Dr.refl _ _
            dsimp only
            refine hKQ.out _ _ (Or.inr (KK.out _ E549.out)) ?_
            clear hKQ KQ
            (try simp only [Act.put, List.setIfInBounds_toArray, List.set_cons_zero, List.set_cons_succ])
            obtain ⟨NN, hNN⟩ : ∃ NN : Array Value, NN = #[.int .i64 (tkC x (y1 + q1) (1 + q2)), .bool (tkB x (y1 + q1) (1 + q2)), .int .i64 (tkV x (y1 + q1) (1 + q2)).1, .int .i64 (tkV x (y1 + q1) (1 + q2)).2.1, .slice ua (tkV x (y1 + q1) (1 + q2)).2.2.1.length uc] := ⟨_, rfl⟩
            have HNN : Hid _ := hNN
            have HNZ : Hid (NN.size = 5) := by show _ = _; rw [hNN]; rfl
            have HNI : Hid ((Try.prog.info? 179).map (·.size) = some NN.size) := by show _ = _; rw [HNZ.out]; exact (by kernel_rfl : (Try.prog.info? 179).map (·.size) = some 5)
            have HNO : Hid (NN.all (·.oneCell') = true) := by show _ = _; rw [hNN]; simp [Value.oneCell']
            clear hNN
            obtain ⟨kb, fb⟩ := kE.out _ EB549.out
            refine Goes.all (rs := [11]) (by kernel_rfl) (by simp) ?_
            refine Ups.cons (i := 11) (o := ?oo550) ?ho550 (fun KQ hKQ => ?stp550) Ups.nil
            case ho550 => (simp only [List.getElem?_toArray, List.getElem?_cons_succ, List.getElem?_cons_zero] <;> rfl)
            case stp550 =>
            rw [if_pos (by rfl)]
            refine wp_store_mid 179 _ _ rfl _ _ NN (by rfl) (by rw [HNN.out]; rfl) (bx_there kb fb (by rw [HNZ.out]; rfl)) HNI.out HNO.out ?_
            refine hKQ.out _ _ (Or.inr (bx_setOff (KK.out _ E549.out) (by omega))) ?_
            clear hKQ KQ
            (try simp only [Act.put, List.setIfInBounds_toArray, List.set_cons_zero, List.set_cons_succ])
            refine Goes.done (by kernel_rfl) ?_ _
            refine NoPanic.normal ?_
            have HF : Hid _ := took_end (sv := (.slice a len cap)) (K := K) HNN.out kb hrb (Nat.lt_of_lt_of_le hrv EB549.out.size) (Or.inl hne) hv8 h98 hsr HTB.out HO9.out HS9.out E549.out TK.out S549.out
            clear HO9 HS9 kE kb fb HNN HNZ HNI HNO HTK
            go_wp2_with fail
            go_meet
            exact HF.out
          case stp537 =>
            go_simp
            go_at_call 39
            refine (sNext sb a len cap zs _ 8 _ S533.out (HR.out _ E533.out) hl1 (by omega) (by omega)).mono ?_
            rintro e v551 ⟨q2, rfl, hb0q2, hb1q2, st551, sr551⟩
            have E552 : Hid (Dr sb wr v551) := E533.out.trans st551.dr
            have S552 : Hid (Src v551 sb (.slice a len cap) (K + 2)) := (by have h := sr551; exact h.mono (by omega))
            clear st551 sr551
            have haq2 : IntKind.i64.wrap (1 + q2) = 1 + q2 := w64C (by omega) (by omega)
            dsimp only
            refine hKQ.out _ _ (Or.inr (KK.out _ E552.out)) ?_
            clear hKQ KQ
            (try simp only [Act.put, List.setIfInBounds_toArray, List.set_cons_zero, List.set_cons_succ])
            refine Goes.take (i := 8) (oi := ?oi1554) (x := ?vx1554) ?ho1554 (by kernel_rfl) (by kernel_rfl) (by kernel_rfl) (by kernel_rfl) (fun _ _ _ h => h) (Or.inl ⟨?hw1554, ?hy1554⟩) (KK.out _ E552.out) ?rest1554
            case ho1554 => (simp only [List.getElem?_toArray, List.getElem?_cons_succ, List.getElem?_cons_zero] <;> rfl)
            case hw1554 => rfl
            case hy1554 => (intro w' hSw; have j0 := hSw; go_simp; (try with_reducible rfl))
            case rest1554 =>
            (try simp only [Act.put, List.setIfInBounds_toArray, List.set_cons_zero, List.set_cons_succ])
            refine Goes.all (rs := [9, 10]) (by kernel_rfl) (by simp) ?_
            refine Ups.cons (i := 9) (o := ?oo556) ?ho556 (fun KQ hKQ => ?stp556) (Ups.cons (i := 10) (o := ?oo557) ?ho557 (fun KQ hKQ => ?stp557) Ups.nil)
            case ho556 => (simp only [List.getElem?_toArray, List.getElem?_cons_succ, List.getElem?_cons_zero] <;> rfl)
            case ho557 => (simp only [List.getElem?_toArray, List.getElem?_cons_succ, List.getElem?_cons_zero] <;> rfl)
            case stp557 =>
              go_simp
              obtain ⟨v558, hv558⟩ : ∃ v, v = v551.alloc (.cells #[.int .i64 0, .bool false, .int .i64 0, .int .i64 0, .slice none 0 0] 179) := ⟨_, rfl⟩
              rw [← hv558]
              have b558 : Below v551.heap.size v551 v558 := by rw [hv558]; exact (Below.refl _ _).alloc (Nat.le_refl _) _
              have hrv : v551.heap.size < v558.heap.size := by rw [hv558]; simp
              have kE : Hid (∀ W, Dr sb v558 W → (∀ o, W.cell? ⟨v551.heap.size, o, none⟩ = (#[.int .i64 0, .bool false, .int .i64 0, .int .i64 0, .slice none 0 0] : Array Value)[o]?) ∧ (∀ o, W.frozen? ⟨v551.heap.size, o, none⟩ = false)) := fun W h => ⟨bx_drC (by rw [hv558]; intro o; simp [go_sem]) h hrv (by have := E552.out.size; omega), fx_drC (by rw [hv558]; intro o; simp [go_sem]) h hrv (by have := E552.out.size; omega)⟩
              have hrb : wr.heap.size ≤ v551.heap.size := E552.out.size
              have E559 : Hid (Dr sb wr v558) := E552.out.trans ((Dr.refl sb v551).then b558 (Nat.le_refl _))
              have S559 : Hid (Src v558 sb (.slice a len cap) (K + 2)) := S552.out.bel b558
              have EB : Hid (Dr sb v558 v558) := Dr.refl _ _
              clear b558 hv558
              refine hKQ.out _ _ (Or.inr (KK.out _ E559.out)) ?_
              clear hKQ KQ
              (try simp only [Act.put, List.setIfInBounds_toArray, List.set_cons_zero, List.set_cons_succ])
              refine Goes.all (rs := [9]) (by kernel_rfl) (by simp) ?_
              refine Ups.cons (i := 9) (o := ?oo560) ?ho560 (fun KQ hKQ => ?stp560) Ups.nil
              case ho560 => (simp only [List.getElem?_toArray, List.getElem?_cons_succ, List.getElem?_cons_zero] <;> rfl)
              case stp560 =>
              go_simp
              go_at_call 134
              refine (HTK.out _ (y1 + q1) (1 + q2) E559.out).mono ?_
              rintro e v561 ⟨u, rfl, ho561, hb561, hs561⟩
              obtain ⟨uv, eu, ru, -, -⟩ := rd_CatchO (ho561.rd (Nat.le_refl _))
              simp only [List.cons.injEq, and_true, true_and] at eu
              subst eu
              obtain ⟨ua, uc, eu⟩ := row_formO ru
              simp only [List.cons.injEq, and_true] at eu
              subst eu
              clear ru
              have hne : v551.heap.size < v558.heap.size := Nat.lt_of_lt_of_le hrv EB.out.size
              have hv8 : wr.heap.size ≤ v558.heap.size := E559.out.size
              have E562 : Hid (Dr sb wr v561) := E559.out.trans ((Dr.refl sb v558).then hb561 (Nat.le_refl _))
              have S562 : Hid (Src v561 sb (.slice a len cap) (K + 2)) := S559.out.bel hb561
              have EB562 : Hid (Dr sb v558 v561) := EB.out.trans ((Dr.refl sb v558).then hb561 (Nat.le_refl _))
              have HO9 : Hid _ := ho561
              have HS9 : Hid _ := hs561
              have h98 : v558.heap.size ≤ v561.heap.size := hb561.size
              clear ho561 hb561 hs561
              have TK : Hid (Dr sb v561 v561) := Dr.refl _ _
              dsimp only
              refine hKQ.out _ _ (Or.inr (KK.out _ E562.out)) ?_
              clear hKQ KQ
              (try simp only [Act.put, List.setIfInBounds_toArray, List.set_cons_zero, List.set_cons_succ])
              obtain ⟨NN, hNN⟩ : ∃ NN : Array Value, NN = #[.int .i64 (tkC x (y1 + q1) (1 + q2)), .bool (tkB x (y1 + q1) (1 + q2)), .int .i64 (tkV x (y1 + q1) (1 + q2)).1, .int .i64 (tkV x (y1 + q1) (1 + q2)).2.1, .slice ua (tkV x (y1 + q1) (1 + q2)).2.2.1.length uc] := ⟨_, rfl⟩
              have HNN : Hid _ := hNN
              have HNZ : Hid (NN.size = 5) := by show _ = _; rw [hNN]; rfl
              have HNI : Hid ((Try.prog.info? 179).map (·.size) = some NN.size) := by show _ = _; rw [HNZ.out]; exact (by kernel_rfl : (Try.prog.info? 179).map (·.size) = some 5)
              have HNO : Hid (NN.all (·.oneCell') = true) := by show _ = _; rw [hNN]; simp [Value.oneCell']
              clear hNN
              obtain ⟨kb, fb⟩ := kE.out _ EB562.out
              refine Goes.all (rs := [11]) (by kernel_rfl) (by simp) ?_
              refine Ups.cons (i := 11) (o := ?oo563) ?ho563 (fun KQ hKQ => ?stp563) Ups.nil
              case ho563 => (simp only [List.getElem?_toArray, List.getElem?_cons_succ, List.getElem?_cons_zero] <;> rfl)
              case stp563 =>
              rw [if_pos (by rfl)]
              refine wp_store_mid 179 _ _ rfl _ _ NN (by rfl) (by rw [HNN.out]; rfl) (bx_there kb fb (by rw [HNZ.out]; rfl)) HNI.out HNO.out ?_
              refine hKQ.out _ _ (Or.inr (bx_setOff (KK.out _ E562.out) (by omega))) ?_
              clear hKQ KQ
              (try simp only [Act.put, List.setIfInBounds_toArray, List.set_cons_zero, List.set_cons_succ])
              refine Goes.done (by kernel_rfl) ?_ _
              refine NoPanic.normal ?_
              have HF : Hid _ := took_end (sv := (.slice a len cap)) (K := K) HNN.out kb hrb (Nat.lt_of_lt_of_le hrv EB562.out.size) (Or.inl hne) hv8 h98 hsr HTB.out HO9.out HS9.out E562.out TK.out S562.out
              clear HO9 HS9 kE kb fb HNN HNZ HNI HNO HTK
              go_wp2_with fail
              go_meet
              exact HF.out
            case stp556 =>
              go_simp
              go_at_call 134
              refine (HTK.out _ (y1 + q1) (1 + q2) E552.out).mono ?_
              rintro e v564 ⟨u, rfl, ho564, hb564, hs564⟩
              obtain ⟨uv, eu, ru, -, -⟩ := rd_CatchO (ho564.rd (Nat.le_refl _))
              simp only [List.cons.injEq, and_true, true_and] at eu
              subst eu
              obtain ⟨ua, uc, eu⟩ := row_formO ru
              simp only [List.cons.injEq, and_true] at eu
              subst eu
              clear ru
              have hv8 : wr.heap.size ≤ v551.heap.size := E552.out.size
              have E565 : Hid (Dr sb wr v564) := E552.out.trans ((Dr.refl sb v551).then hb564 (Nat.le_refl _))
              have S565 : Hid (Src v564 sb (.slice a len cap) (K + 2)) := S552.out.bel hb564
              have HO9 : Hid _ := ho564
              have HS9 : Hid _ := hs564
              have h98 : v551.heap.size ≤ v564.heap.size := hb564.size
              clear ho564 hb564 hs564
              have TK : Hid (Dr sb v564 v564) := Dr.refl _ _
              dsimp only
              refine hKQ.out _ _ (Or.inr (KK.out _ E565.out)) ?_
              clear hKQ KQ
              (try simp only [Act.put, List.setIfInBounds_toArray, List.set_cons_zero, List.set_cons_succ])
              refine Goes.all (rs := [10]) (by kernel_rfl) (by simp) ?_
              refine Ups.cons (i := 10) (o := ?oo566) ?ho566 (fun KQ hKQ => ?stp566) Ups.nil
              case ho566 => (simp only [List.getElem?_toArray, List.getElem?_cons_succ, List.getElem?_cons_zero] <;> rfl)
              case stp566 =>
              go_simp
              obtain ⟨v567, hv567⟩ : ∃ v, v = v564.alloc (.cells #[.int .i64 0, .bool false, .int .i64 0, .int .i64 0, .slice none 0 0] 179) := ⟨_, rfl⟩
              rw [← hv567]
              have b567 : Below v564.heap.size v564 v567 := by rw [hv567]; exact (Below.refl _ _).alloc (Nat.le_refl _) _
              have hrv : v564.heap.size < v567.heap.size := by rw [hv567]; simp
              have kE : Hid (∀ W, Dr sb v567 W → (∀ o, W.cell? ⟨v564.heap.size, o, none⟩ = (#[.int .i64 0, .bool false, .int .i64 0, .int .i64 0, .slice none 0 0] : Array Value)[o]?) ∧ (∀ o, W.frozen? ⟨v564.heap.size, o, none⟩ = false)) := fun W h => ⟨bx_drC (by rw [hv567]; intro o; simp [go_sem]) h hrv (by have := E565.out.size; omega), fx_drC (by rw [hv567]; intro o; simp [go_sem]) h hrv (by have := E565.out.size; omega)⟩
              have hrb : wr.heap.size ≤ v564.heap.size := E565.out.size
              have hne : v564.heap.size ≤ v564.heap.size := TK.out.size
              have E568 : Hid (Dr sb wr v567) := E565.out.trans ((Dr.refl sb v564).then b567 (Nat.le_refl _))
              have S568 : Hid (Src v567 sb (.slice a len cap) (K + 2)) := S565.out.bel b567
              have TK568 : Hid (Dr sb v564 v567) := TK.out.trans ((Dr.refl sb v564).then b567 (Nat.le_refl _))
              have EB : Hid (Dr sb v567 v567) := Dr.refl _ _
              clear b567 hv567
              refine hKQ.out _ _ (Or.inr (KK.out _ E568.out)) ?_
              clear hKQ KQ
              (try simp only [Act.put, List.setIfInBounds_toArray, List.set_cons_zero, List.set_cons_succ])
              obtain ⟨NN, hNN⟩ : ∃ NN : Array Value, NN = #[.int .i64 (tkC x (y1 + q1) (1 + q2)), .bool (tkB x (y1 + q1) (1 + q2)), .int .i64 (tkV x (y1 + q1) (1 + q2)).1, .int .i64 (tkV x (y1 + q1) (1 + q2)).2.1, .slice ua (tkV x (y1 + q1) (1 + q2)).2.2.1.length uc] := ⟨_, rfl⟩
              have HNN : Hid _ := hNN
              have HNZ : Hid (NN.size = 5) := by show _ = _; rw [hNN]; rfl
              have HNI : Hid ((Try.prog.info? 179).map (·.size) = some NN.size) := by show _ = _; rw [HNZ.out]; exact (by kernel_rfl : (Try.prog.info? 179).map (·.size) = some 5)
              have HNO : Hid (NN.all (·.oneCell') = true) := by show _ = _; rw [hNN]; simp [Value.oneCell']
              clear hNN
              obtain ⟨kb, fb⟩ := kE.out _ EB.out
              refine Goes.all (rs := [11]) (by kernel_rfl) (by simp) ?_
              refine Ups.cons (i := 11) (o := ?oo569) ?ho569 (fun KQ hKQ => ?stp569) Ups.nil
              case ho569 => (simp only [List.getElem?_toArray, List.getElem?_cons_succ, List.getElem?_cons_zero] <;> rfl)
              case stp569 =>
              rw [if_pos (by rfl)]
              refine wp_store_mid 179 _ _ rfl _ _ NN (by rfl) (by rw [HNN.out]; rfl) (bx_there kb fb (by rw [HNZ.out]; rfl)) HNI.out HNO.out ?_
              refine hKQ.out _ _ (Or.inr (bx_setOff (KK.out _ E568.out) (by omega))) ?_
              clear hKQ KQ
              (try simp only [Act.put, List.setIfInBounds_toArray, List.set_cons_zero, List.set_cons_succ])
              refine Goes.done (by kernel_rfl) ?_ _
              refine NoPanic.normal ?_
              have HF : Hid _ := took_end (sv := (.slice a len cap)) (K := K) HNN.out kb hrb (Nat.lt_of_lt_of_le hrv EB.out.size) (Or.inr hne) hv8 h98 hsr HTB.out HO9.out HS9.out E568.out TK568.out S568.out
              clear HO9 HS9 kE kb fb HNN HNZ HNI HNO HTK
              go_wp2_with fail
              go_meet
              exact HF.out
      case rest =>
        rename World => wc
        obtain ⟨rb, C, FR, V, ua, un, uc, lo2, rfl, kb, hrb, hrb2, hlo2, hlo3, HC, Dx, Sx⟩ := hcut.out
        have hsz := Dx.size
        replace kX := bx_drC kX Dx zX (by omega)
        replace fX := fx_drC fX Dx zX (by omega)
        replace kR := bx_drC kR Dx zR (by omega)
        replace fR := fx_drC fR Dx zR (by omega)
        have HXc : Hid (CT wc lo x va n vc) := HXO.out.dr Dx (by omega)
        have D5 : Hid (Dr sb w wc) := D.out.trans Dx
        have S5 : Hid (Src wc sb (.slice a len cap) (K + 2)) := Sx
        have HCC : Hid (C = 0 → CT wc lo2 V ua un uc) := HC
        have zXc : XB < wc.heap.size := by omega
        have zl2 : XB < lo2 := by omega
        clear HTK HTB HXO D S Dx Sx HC HR hcut c1 c2 c7 c8
        by_cases hC : C = 0
        · subst hC
          have HV : Hid _ := HCC.out rfl
          clear HCC
          go_wp2_with fail
          go_roundw
          case rel => exact ⟨kk - 1, V, ua, un, uc, lo2, by omega, by go_num, bx_threeC kX, (fun o => by simpa using fX o), (fun o => by rw [(bel_threeC _ _ _ _ _).cell (p := ⟨w.heap.size, o, none⟩) (by dsimp only; omega)]; exact kR o), (fun o => by rw [(bel_threeC _ _ _ _ _).frozen (p := ⟨w.heap.size, o, none⟩) (by dsimp only; omega)]; exact fR o), by simpa using zXc, zl2, by simpa using hlo3, ((HV.out.set (by omega)).set (by omega)).set (by omega), D5.out.then (bel_threeC _ _ _ _ _) (by omega), (S5.out.below (bel_threeC _ _ _ _ _) (by omega)).mono (by omega)⟩
          case measure => simp [intOf]; omega
        · have hC' : (C == 0) = false := by simp [hC]
          clear HCC
          go_wp2_with fail
          go_roundw
          case rel => exact ⟨kk - 1, x, va, n, vc, lo, by omega, by go_num, (by rw [← HY0.out, ← HY1.out]; exact kX), fX, kR, fR, zXc, hXlo, by omega, HXc, D5, S5.out.mono (by omega)⟩
          case measure => simp [intOf]; omega
    · obtain rfl : kk = 0 := by omega
      obtain ⟨c1, c2, c3, c4, c5, c6, c7, c8⟩ := X.out.form
      have hsw : sb < XB := by omega
      have HC1 : Hid (n = x.2.2.1.length) := c1
      clear c1
      go_wp2_with fail
      refine (sNext sb a len cap zs _ 18 _ S.out (HRW.out _ D.out) hl1 (by omega) (by omega)).mono ?_
      rintro e w1 ⟨q, rfl, pq, gq, hd, hsr⟩
      replace kR := bx_drC kR hd.dr zR (by omega)
      replace fR := fx_drC fR hd.dr zR (by omega)
      replace zR := Nat.lt_of_lt_of_le zR (Dr.size hd.dr)
      replace kX := bx_drC kX hd.dr zX (by omega)
      replace fX := fx_drC fX hd.dr zX (by omega)
      replace zX := Nat.lt_of_lt_of_le zX (Dr.size hd.dr)
      replace X : Hid (CT w1 lo x va n vc) := X.out.dr hd.dr (by omega)
      have hlz1 : lo ≤ w1.heap.size := Nat.le_trans hlz hd.dr.size
      replace D : Hid (Dr sb w w1) := D.out.trans hd.dr
      replace S : Hid (Src w1 sb (.slice a len cap) (K0 + 31)) := (hsr).mono (by omega)
      clear hd hsr
      have zl : XB < lo := hXlo
      have zl : XB < lo := hXlo
      by_cases e0 : q = 0
      case pos =>
        subst e0
        go_wp2_with fail
        have hp := sPickD sb a len cap zs _ [-1, 65536] 2 w1 S.out (HRW.out _ D.out) hl1 (by omega) (by simp) (by simp)
        simp only [List.length_cons, List.length_nil, List.map_cons, List.map_nil, Nat.zero_add, Nat.reduceAdd] at hp
        refine hp.mono ?_
        clear hp
        rintro e w2 ⟨p0, rfl, hm, hd, hsr⟩
        simp only [List.mem_cons, List.not_mem_nil, or_false] at hm
        have m0 : -1 ≤ p0 ∧ p0 ≤ 65536 := by omega
        replace kR := bx_drC kR hd zR (by omega)
        replace fR := fx_drC fR hd zR (by omega)
        replace zR := Nat.lt_of_lt_of_le zR (Dr.size hd)
        replace kX := bx_drC kX hd zX (by omega)
        replace fX := fx_drC fX hd zX (by omega)
        replace zX := Nat.lt_of_lt_of_le zX (Dr.size hd)
        replace X : Hid (CT w2 lo x va n vc) := X.out.dr hd (by omega)
        replace D : Hid (Dr sb w w2) := D.out.trans hd
        replace S : Hid (Src w2 sb (.slice a len cap) (K0 + 32)) := (hsr).mono (by omega)
        clear hm hd hsr
        go_upto_region 17 with fail
        have FCX : Hid (FC (w2.setCell ⟨XB, 0, none⟩ (.int .i64 p0)) lo (p0, x.2.1, x.2.2.1, ()) va n vc) := (X.out.set zl).fc m0 (by omega)
        have hbS : Below XB w2 (w2.setCell ⟨XB, 0, none⟩ (.int .i64 p0)) := bel_one _ _ _ _
        have kX2 := bx_put kX (k := 0) (v := .int .i64 p0) (by simp)
        simp only [List.setIfInBounds_toArray, List.set_cons_zero, List.set_cons_succ] at kX2
        replace kR : ∀ o, (w2.setCell ⟨XB, 0, none⟩ (.int .i64 p0)).cell? ⟨w.heap.size, o, none⟩ = (#[.int .i64 0, .int .i64 0, .slice none 0 0] : Array Value)[o]? := fun o => (hbS.cell (p := ⟨w.heap.size, o, none⟩) hXw).trans (kR o)
        replace fR : ∀ o, (w2.setCell ⟨XB, 0, none⟩ (.int .i64 p0)).frozen? ⟨w.heap.size, o, none⟩ = false := fun o => (hbS.frozen (p := ⟨w.heap.size, o, none⟩) hXw).trans (fR o)
        replace D : Hid (Dr sb w (w2.setCell ⟨XB, 0, none⟩ (.int .i64 p0))) := D.out.then hbS (by omega)
        replace S : Hid (Src (w2.setCell ⟨XB, 0, none⟩ (.int .i64 p0)) sb (.slice a len cap) (K0 + 32)) := S.out.below hbS (by omega)
        generalize hWW : (w2.setCell ⟨XB, 0, none⟩ (.int .i64 p0)) = w3 at FCX kX2 kR fR D S ⊢
        clear hWW hbS kX fX
        go_wp2_with fail
        refine bodyPost_ret (results_box Try.results111 _ _ _ #[.int .i64 p0, .int .i64 x.2.1, .slice va n vc] _ (by rfl) (bx_threeC kR) Try.underlying60 rfl info_Ct) rfl ⟨(p0, x.2.1, x.2.2.1, ()), va, n, vc, rfl, ?_, D.out.then (bel_threeC _ _ _ _ _) (Nat.le_refl _), (S.out.below (bel_threeC _ _ _ _ _) hlt).mono (by omega)⟩
        exact (FCX.out.low (by omega)).keep fun g g1 g2 => by repeat rw [Below.heap_setCell _ _ _ _ (by dsimp only; omega)]
      by_cases e1 : q = 1
      case pos =>
        subst e1
        have KK : Hid (∀ W, Dr sb w1 W → ∀ o, W.cell? ⟨XB, o, none⟩ = (#[.int .i64 x.1, .int .i64 x.2.1, .slice va n vc] : Array Value)[o]?) := fun W h => bx_drC kX h zX (by omega)
        have HR1 : Hid (∀ W, Dr sb w1 W → BRow .u8 W a len cap zs) := fun W h => HRW.out W (D.out.trans h)
        have hs1 : sb < w1.heap.size := by omega
        have Ew : Hid (Dr sb w1 w1) := Dr.refl _ _
        go_upto_region 12 with fail
        refine wp_region_noPanic ?_
        refine Goes.start (S := fun w' => ∀ o, w'.cell? ⟨XB, o, none⟩ = (#[.int .i64 x.1, .int .i64 x.2.1, .slice va n vc] : Array Value)[o]?) (z := 7) (by kernel_rfl) ?_
        have E0 : Hid (Dr sb w1 w1.drew) := Dr.drewC sb w1
        have S0 : Hid (Src w1.drew sb (.slice a len cap) (K0 + 31)) := S.out.drewC
        refine Goes.take (i := 0) (oi := ?oi1571) (x := ?vx1571) ?ho1571 (by kernel_rfl) (by kernel_rfl) (by kernel_rfl) (by kernel_rfl) (fun _ _ _ h => h) (Or.inl ⟨?hw1571, ?hy1571⟩) (KK.out _ E0.out) ?rest1571
        case ho1571 => (simp only [List.getElem?_toArray, List.getElem?_cons_zero] <;> rfl)
        case hw1571 => rfl
        case hy1571 => (intro w' hSw; have j0 := hSw; go_simp; (try with_reducible rfl))
        case rest1571 =>
        (try simp only [Act.put, List.setIfInBounds_toArray, List.set_cons_zero, List.set_cons_succ])
        refine Goes.take (i := 1) (oi := ?oi1572) (x := ?vx1572) ?ho1572 (by kernel_rfl) (by kernel_rfl) (by kernel_rfl) (by kernel_rfl) (fun _ _ _ h => h) (Or.inl ⟨?hw1572, ?hy1572⟩) (KK.out _ E0.out) ?rest1572
        case ho1572 => (simp only [List.getElem?_toArray, List.getElem?_cons_succ, List.getElem?_cons_zero] <;> rfl)
        case hw1572 => rfl
        case hy1572 => (intro w' hSw; have j0 := hSw; go_simp; (try with_reducible rfl))
        case rest1572 =>
        (try simp only [Act.put, List.setIfInBounds_toArray, List.set_cons_zero, List.set_cons_succ])
        refine Goes.take (i := 2) (oi := ?oi1573) (x := ?vx1573) ?ho1573 (by kernel_rfl) (by kernel_rfl) (by kernel_rfl) (by kernel_rfl) (fun _ _ _ h => h) (Or.inl ⟨?hw1573, ?hy1573⟩) (KK.out _ E0.out) ?rest1573
        case ho1573 => (simp only [List.getElem?_toArray, List.getElem?_cons_succ, List.getElem?_cons_zero] <;> rfl)
        case hw1573 => rfl
        case hy1573 => (intro w' hSw; have j0 := hSw; go_simp; (try with_reducible rfl))
        case rest1573 =>
        (try simp only [Act.put, List.setIfInBounds_toArray, List.set_cons_zero, List.set_cons_succ])
        refine Goes.all (rs := [3]) (by kernel_rfl) (by simp) ?_
        refine Ups.cons (i := 3) (o := ?oo577) ?ho577 (fun KQ hKQ => ?stp577) Ups.nil
        case ho577 => (simp only [List.getElem?_toArray, List.getElem?_cons_succ, List.getElem?_cons_zero] <;> rfl)
        case stp577 =>
        go_simp
        obtain ⟨v578, hv578⟩ : ∃ v, v = (w1.alloc (.cells #[.int .i64 20, .int .i64 (-1), .int .i64 1000000] 2)).drew := ⟨_, rfl⟩
        rw [← hv578]
        have b578 : Below w1.heap.size w1 v578 := by rw [hv578]; exact ((Below.refl _ _).alloc (Nat.le_refl _) _).drew
        have cra : Hid (∀ W, Dr sb v578 W → ∀ i, i < ([20, (-1), 1000000] : List Int).length → W.cell? ⟨w1.heap.size, i, none⟩ = some (.int .i64 (([20, (-1), 1000000] : List Int).getD i 0))) := fun W hW i hi => (hW.cell (p := ⟨w1.heap.size, i, none⟩) (by rw [hv578]; simp) (by have := Ew.out.size; dsimp only; omega)).trans (by rw [hv578]; exact laid_list w1 [20, (-1), 1000000] 2 i hi)
        have gra : w1.heap.size ≠ sb := by have := Ew.out.size; omega
        have E579 : Hid (Dr sb w1 v578) := Ew.out.trans ((Dr.refl sb w1).then b578 (Nat.le_refl _))
        have S579 : Hid (Src v578 sb (.slice a len cap) (K0 + 31)) := S.out.bel b578
        have ra578z : Hid (Dr sb v578 v578) := Dr.refl _ _
        clear hv578 b578
        refine hKQ.out _ _ (Or.inr (KK.out _ E579.out)) ?_
        clear hKQ KQ
        (try simp only [Act.put, List.setIfInBounds_toArray, List.set_cons_zero, List.set_cons_succ])
        refine Goes.all (rs := [4]) (by kernel_rfl) (by simp) ?_
        refine Ups.cons (i := 4) (o := ?oo580) ?ho580 (fun KQ hKQ => ?stp580) Ups.nil
        case ho580 => (simp only [List.getElem?_toArray, List.getElem?_cons_succ, List.getElem?_cons_zero] <;> rfl)
        case stp580 =>
        go_simp
        go_at_call 41
        refine (sPickC sb a len cap zs _ (w1.heap.size) [20, (-1), 1000000] _ S579.out (HR1.out _ E579.out) hl1 (by omega) gra (by simp) (by simp) (cra.out _ ra578z.out)).mono ?_
        rintro e v581 ⟨q3, rfl, hm, dr581, sr581⟩
        simp only [List.mem_cons, List.not_mem_nil, or_false] at hm
        have m3 : -1 ≤ q3 ∧ q3 ≤ 1000000 := by omega
        have ha3 : IntKind.i64.wrap (x.2.1 + q3) = x.2.1 + q3 := w64C (by omega) (by omega)
        clear hm
        have E582 : Hid (Dr sb w1 v581) := E579.out.trans dr581
        have S582 : Hid (Src v581 sb (.slice a len cap) (K0 + 32)) := (by have h := sr581; exact h.mono (by omega))
        have ra582 : Hid (Dr sb v578 v581) := ra578z.out.trans dr581
        clear dr581 sr581
        dsimp only
        refine hKQ.out _ _ (Or.inr (KK.out _ E582.out)) ?_
        clear hKQ KQ
        (try simp only [Act.put, List.setIfInBounds_toArray, List.set_cons_zero, List.set_cons_succ])
        refine Goes.take (i := 5) (oi := ?oi1584) (x := ?vx1584) ?ho1584 (by kernel_rfl) (by kernel_rfl) (by kernel_rfl) (by kernel_rfl) (fun _ _ _ h => h) (Or.inl ⟨?hw1584, ?hy1584⟩) (KK.out _ E582.out) ?rest1584
        case ho1584 => (simp only [List.getElem?_toArray, List.getElem?_cons_succ, List.getElem?_cons_zero] <;> rfl)
        case hw1584 => rfl
        case hy1584 => (intro w' hSw; have j0 := hSw; go_simp; (try with_reducible rfl))
        case rest1584 =>
        (try simp only [Act.put, List.setIfInBounds_toArray, List.set_cons_zero, List.set_cons_succ])
        refine Goes.take (i := 6) (oi := ?oi1585) (x := ?vx1585) ?ho1585 (by kernel_rfl) (by kernel_rfl) (by kernel_rfl) (by kernel_rfl) (fun _ _ _ h => h) (Or.inl ⟨?hw1585, ?hy1585⟩) (KK.out _ E582.out) ?rest1585
        case ho1585 => (simp only [List.getElem?_toArray, List.getElem?_cons_succ, List.getElem?_cons_zero] <;> rfl)
        case hw1585 => rfl
        case hy1585 => (intro w' hSw; have j0 := hSw; go_simp; (try with_reducible rfl))
        case rest1585 =>
        (try simp only [Act.put, List.setIfInBounds_toArray, List.set_cons_zero, List.set_cons_succ])
        replace kX := bx_drC kX E582.out zX (by omega)
        replace fX := fx_drC fX E582.out zX (by omega)
        replace kR := bx_drC kR E582.out zR (by omega)
        replace fR := fx_drC fR E582.out zR (by omega)
        replace X : Hid (CT v581 lo x va n vc) := X.out.dr E582.out (by omega)
        replace D : Hid (Dr sb w v581) := D.out.trans E582.out
        replace S : Hid (Src v581 sb (.slice a len cap) (K0 + 32)) := S582.out
        have zX1 : XB < v581.heap.size := Nat.lt_of_lt_of_le zX E582.out.size
        refine Goes.all (rs := [7]) (by kernel_rfl) (by simp) ?_
        refine Ups.cons (i := 7) (o := ?oo588) ?ho588 (fun KQ hKQ => ?stp588) Ups.nil
        case ho588 => (simp only [List.getElem?_toArray, List.getElem?_cons_succ, List.getElem?_cons_zero] <;> rfl)
        case stp588 =>
        go_simp
        refine hKQ.out _ _ (Or.inl rfl) ?_
        clear hKQ KQ KK
        (try simp only [Act.put])
        refine Goes.done (by kernel_rfl) ?_ _
        refine NoPanic.normal ?_
        have FCX : Hid (FC (v581.setCell ⟨XB, 1, none⟩ (.int .i64 (x.2.1 + q3))) lo (x.1, x.2.1 + q3, x.2.2.1, ()) va n vc) := (X.out.set zl).fc (by omega) (by omega)
        have hbS : Below XB v581 (v581.setCell ⟨XB, 1, none⟩ (.int .i64 (x.2.1 + q3))) := bel_one _ _ _ _
        have kX2 := bx_put kX (k := 1) (v := .int .i64 (x.2.1 + q3)) (by simp)
        simp only [List.setIfInBounds_toArray, List.set_cons_zero, List.set_cons_succ] at kX2
        replace kR : ∀ o, (v581.setCell ⟨XB, 1, none⟩ (.int .i64 (x.2.1 + q3))).cell? ⟨w.heap.size, o, none⟩ = (#[.int .i64 0, .int .i64 0, .slice none 0 0] : Array Value)[o]? := fun o => (hbS.cell (p := ⟨w.heap.size, o, none⟩) hXw).trans (kR o)
        replace fR : ∀ o, (v581.setCell ⟨XB, 1, none⟩ (.int .i64 (x.2.1 + q3))).frozen? ⟨w.heap.size, o, none⟩ = false := fun o => (hbS.frozen (p := ⟨w.heap.size, o, none⟩) hXw).trans (fR o)
        replace D : Hid (Dr sb w (v581.setCell ⟨XB, 1, none⟩ (.int .i64 (x.2.1 + q3)))) := D.out.then hbS (by omega)
        replace S : Hid (Src (v581.setCell ⟨XB, 1, none⟩ (.int .i64 (x.2.1 + q3))) sb (.slice a len cap) (K0 + 32)) := S.out.below hbS (by omega)
        generalize hWW : (v581.setCell ⟨XB, 1, none⟩ (.int .i64 (x.2.1 + q3))) = w8 at FCX kX2 kR fR D S ⊢
        clear hWW hbS kX fX
        go_wp2_with fail
        refine bodyPost_ret (results_box Try.results111 _ _ _ #[.int .i64 x.1, .int .i64 (x.2.1 + q3), .slice va n vc] _ (by rfl) (bx_threeC kR) Try.underlying60 rfl info_Ct) rfl ⟨(x.1, (x.2.1 + q3), x.2.2.1, ()), va, n, vc, rfl, ?_, D.out.then (bel_threeC _ _ _ _ _) (Nat.le_refl _), (S.out.below (bel_threeC _ _ _ _ _) hlt).mono (by omega)⟩
        exact (FCX.out.low (by omega)).keep fun g g1 g2 => by repeat rw [Below.heap_setCell _ _ _ _ (by dsimp only; omega)]
      by_cases e2 : q = 2
      case pos =>
        subst e2
        have KK : Hid (∀ W, Dr sb w1 W → ∀ o, W.cell? ⟨XB, o, none⟩ = (#[.int .i64 x.1, .int .i64 x.2.1, .slice va n vc] : Array Value)[o]?) := fun W h => bx_drC kX h zX (by omega)
        have HR1 : Hid (∀ W, Dr sb w1 W → BRow .u8 W a len cap zs) := fun W h => HRW.out W (D.out.trans h)
        have hs1 : sb < w1.heap.size := by omega
        have Ew : Hid (Dr sb w1 w1) := Dr.refl _ _
        go_upto_region 14 with fail
        refine wp_region_noPanic ?_
        refine Goes.start (S := fun w' => ∀ o, w'.cell? ⟨XB, o, none⟩ = (#[.int .i64 x.1, .int .i64 x.2.1, .slice va n vc] : Array Value)[o]?) (z := 12) (by kernel_rfl) ?_
        have E0 : Hid (Dr sb w1 w1.drew) := Dr.drewC sb w1
        have S0 : Hid (Src w1.drew sb (.slice a len cap) (K0 + 31)) := S.out.drewC
        have zl2 : lo ≤ w1.heap.size := by omega
        refine Goes.take (i := 0) (oi := ?oi1590) (x := ?vx1590) ?ho1590 (by kernel_rfl) (by kernel_rfl) (by kernel_rfl) (by kernel_rfl) (fun _ _ _ h => h) (Or.inl ⟨?hw1590, ?hy1590⟩) (KK.out _ E0.out) ?rest1590
        case ho1590 => (simp only [List.getElem?_toArray, List.getElem?_cons_zero] <;> rfl)
        case hw1590 => rfl
        case hy1590 => (intro w' hSw; have j0 := hSw; go_simp; (try with_reducible rfl))
        case rest1590 =>
        (try simp only [Act.put, List.setIfInBounds_toArray, List.set_cons_zero, List.set_cons_succ])
        refine Goes.take (i := 1) (oi := ?oi1591) (x := ?vx1591) ?ho1591 (by kernel_rfl) (by kernel_rfl) (by kernel_rfl) (by kernel_rfl) (fun _ _ _ h => h) (Or.inl ⟨?hw1591, ?hy1591⟩) (KK.out _ E0.out) ?rest1591
        case ho1591 => (simp only [List.getElem?_toArray, List.getElem?_cons_succ, List.getElem?_cons_zero] <;> rfl)
        case hw1591 => rfl
        case hy1591 => (intro w' hSw; have j0 := hSw; go_simp; (try with_reducible rfl))
        case rest1591 =>
        (try simp only [Act.put, List.setIfInBounds_toArray, List.set_cons_zero, List.set_cons_succ])
        refine Goes.take (i := 2) (oi := ?oi1592) (x := ?vx1592) ?ho1592 (by kernel_rfl) (by kernel_rfl) (by kernel_rfl) (by kernel_rfl) (fun _ _ _ h => h) (Or.inl ⟨?hw1592, ?hy1592⟩) (KK.out _ E0.out) ?rest1592
        case ho1592 => (simp only [List.getElem?_toArray, List.getElem?_cons_succ, List.getElem?_cons_zero] <;> rfl)
        case hw1592 => rfl
        case hy1592 => (intro w' hSw; have j0 := hSw; go_simp; (try with_reducible rfl))
        case rest1592 =>
        (try simp only [Act.put, List.setIfInBounds_toArray, List.set_cons_zero, List.set_cons_succ])
        refine Goes.take (i := 5) (oi := ?oi1593) (x := ?vx1593) ?ho1593 (by kernel_rfl) (by kernel_rfl) (by kernel_rfl) (by kernel_rfl) (fun _ _ _ h => h) (Or.inl ⟨?hw1593, ?hy1593⟩) (KK.out _ E0.out) ?rest1593
        case ho1593 => (simp only [List.getElem?_toArray, List.getElem?_cons_succ, List.getElem?_cons_zero] <;> rfl)
        case hw1593 => rfl
        case hy1593 => (intro w' hSw; have j0 := hSw; go_simp; (try with_reducible rfl))
        case rest1593 =>
        (try simp only [Act.put, List.setIfInBounds_toArray, List.set_cons_zero, List.set_cons_succ])
        refine Goes.all (rs := [3, 6]) (by kernel_rfl) (by simp) ?_
        refine Ups.cons (i := 3) (o := ?oo598) ?ho598 (fun KQ hKQ => ?stp598) (Ups.cons (i := 6) (o := ?oo599) ?ho599 (fun KQ hKQ => ?stp599) Ups.nil)
        case ho598 => (simp only [List.getElem?_toArray, List.getElem?_cons_succ, List.getElem?_cons_zero] <;> rfl)
        case ho599 => (simp only [List.getElem?_toArray, List.getElem?_cons_succ, List.getElem?_cons_zero] <;> rfl)
        case stp599 =>
          go_simp
          obtain ⟨v600, hv600⟩ : ∃ v, v = (w1.alloc (.cells #[.int .i64 95, .int .i64 5, .int .i64 1000102] 2)).drew := ⟨_, rfl⟩
          rw [← hv600]
          have b600 : Below w1.heap.size w1 v600 := by rw [hv600]; exact ((Below.refl _ _).alloc (Nat.le_refl _) _).drew
          have crb : Hid (∀ W, Dr sb v600 W → ∀ i, i < ([95, 5, 1000102] : List Int).length → W.cell? ⟨w1.heap.size, i, none⟩ = some (.int .i64 (([95, 5, 1000102] : List Int).getD i 0))) := fun W hW i hi => (hW.cell (p := ⟨w1.heap.size, i, none⟩) (by rw [hv600]; simp) (by have := Ew.out.size; dsimp only; omega)).trans (by rw [hv600]; exact laid_list w1 [95, 5, 1000102] 2 i hi)
          have grb : w1.heap.size ≠ sb := by have := Ew.out.size; omega
          have E601 : Hid (Dr sb w1 v600) := Ew.out.trans ((Dr.refl sb w1).then b600 (Nat.le_refl _))
          have S601 : Hid (Src v600 sb (.slice a len cap) (K0 + 31)) := S.out.bel b600
          have rb600z : Hid (Dr sb v600 v600) := Dr.refl _ _
          clear hv600 b600
          refine hKQ.out _ _ (Or.inr (KK.out _ E601.out)) ?_
          clear hKQ KQ
          (try simp only [Act.put, List.setIfInBounds_toArray, List.set_cons_zero, List.set_cons_succ])
          refine Goes.all (rs := [3]) (by kernel_rfl) (by simp) ?_
          refine Ups.cons (i := 3) (o := ?oo602) ?ho602 (fun KQ hKQ => ?stp602) Ups.nil
          case ho602 => (simp only [List.getElem?_toArray, List.getElem?_cons_succ, List.getElem?_cons_zero] <;> rfl)
          case stp602 =>
          go_simp
          obtain ⟨v603, hv603⟩ : ∃ v, v = v600.alloc (.cells #[.int .i64 5, .int .i64 90, .int .i64 1000101] 2) := ⟨_, rfl⟩
          rw [← hv603]
          have b603 : Below v600.heap.size v600 v603 := by rw [hv603]; exact (Below.refl _ _).alloc (Nat.le_refl _) _
          have cra : Hid (∀ W, Dr sb v603 W → ∀ i, i < ([5, 90, 1000101] : List Int).length → W.cell? ⟨v600.heap.size, i, none⟩ = some (.int .i64 (([5, 90, 1000101] : List Int).getD i 0))) := fun W hW i hi => (hW.cell (p := ⟨v600.heap.size, i, none⟩) (by rw [hv603]; simp) (by have := E601.out.size; dsimp only; omega)).trans (by rw [hv603]; exact laid_list v600 [5, 90, 1000101] 2 i hi)
          have gra : v600.heap.size ≠ sb := by have := E601.out.size; omega
          have E604 : Hid (Dr sb w1 v603) := E601.out.trans ((Dr.refl sb v600).then b603 (Nat.le_refl _))
          have S604 : Hid (Src v603 sb (.slice a len cap) (K0 + 31)) := S601.out.bel b603
          have rb604 : Hid (Dr sb v600 v603) := rb600z.out.trans ((Dr.refl sb v600).then b603 (Nat.le_refl _))
          have ra603z : Hid (Dr sb v603 v603) := Dr.refl _ _
          clear hv603 b603
          refine hKQ.out _ _ (Or.inr (KK.out _ E604.out)) ?_
          clear hKQ KQ
          (try simp only [Act.put, List.setIfInBounds_toArray, List.set_cons_zero, List.set_cons_succ])
          refine Goes.all (rs := [4]) (by kernel_rfl) (by simp) ?_
          refine Ups.cons (i := 4) (o := ?oo605) ?ho605 (fun KQ hKQ => ?stp605) Ups.nil
          case ho605 => (simp only [List.getElem?_toArray, List.getElem?_cons_succ, List.getElem?_cons_zero] <;> rfl)
          case stp605 =>
          go_simp
          go_at_call 41
          refine (sPickC sb a len cap zs _ (v600.heap.size) [5, 90, 1000101] _ S604.out (HR1.out _ E604.out) hl1 (by omega) gra (by simp) (by simp) (cra.out _ ra603z.out)).mono ?_
          rintro e v606 ⟨ff, rfl, hm, dr606, sr606⟩
          simp only [List.mem_cons, List.not_mem_nil, or_false] at hm
          have m3 : 5 ≤ ff ∧ ff ≤ 1000101 := by omega
          clear hm
          have E607 : Hid (Dr sb w1 v606) := E604.out.trans dr606
          have S607 : Hid (Src v606 sb (.slice a len cap) (K0 + 32)) := (by have h := sr606; exact h.mono (by omega))
          have rb607 : Hid (Dr sb v600 v606) := rb604.out.trans dr606
          have ra607 : Hid (Dr sb v603 v606) := ra603z.out.trans dr606
          clear dr606 sr606
          dsimp only
          refine hKQ.out _ _ (Or.inr (KK.out _ E607.out)) ?_
          clear hKQ KQ
          (try simp only [Act.put, List.setIfInBounds_toArray, List.set_cons_zero, List.set_cons_succ])
          refine Goes.all (rs := [7]) (by kernel_rfl) (by simp) ?_
          refine Ups.cons (i := 7) (o := ?oo608) ?ho608 (fun KQ hKQ => ?stp608) Ups.nil
          case ho608 => (simp only [List.getElem?_toArray, List.getElem?_cons_succ, List.getElem?_cons_zero] <;> rfl)
          case stp608 =>
          go_simp
          go_at_call 41
          refine (sPickC sb a len cap zs _ (w1.heap.size) [95, 5, 1000102] _ S607.out (HR1.out _ E607.out) hl1 (by omega) grb (by simp) (by simp) (crb.out _ rb607.out)).mono ?_
          rintro e v609 ⟨tt, rfl, hm, dr609, sr609⟩
          simp only [List.mem_cons, List.not_mem_nil, or_false] at hm
          have m4 : 5 ≤ tt ∧ (tt ≤ 1000000 ∨ 1000100 < tt) ∧ tt ≤ 1000102 := by omega
          clear hm
          have E610 : Hid (Dr sb w1 v609) := E607.out.trans dr609
          have S610 : Hid (Src v609 sb (.slice a len cap) (K0 + 33)) := (by have h := sr609; exact h.mono (by omega))
          have rb610 : Hid (Dr sb v600 v609) := rb607.out.trans dr609
          have ra610 : Hid (Dr sb v603 v609) := ra607.out.trans dr609
          clear dr609 sr609
          dsimp only
          refine hKQ.out _ _ (Or.inr (KK.out _ E610.out)) ?_
          clear hKQ KQ
          (try simp only [Act.put, List.setIfInBounds_toArray, List.set_cons_zero, List.set_cons_succ])
          refine Goes.take (i := 8) (oi := ?oi1612) (x := ?vx1612) ?ho1612 (by kernel_rfl) (by kernel_rfl) (by kernel_rfl) (by kernel_rfl) (fun _ _ _ h => h) (Or.inl ⟨?hw1612, ?hy1612⟩) (KK.out _ E610.out) ?rest1612
          case ho1612 => (simp only [List.getElem?_toArray, List.getElem?_cons_succ, List.getElem?_cons_zero] <;> rfl)
          case hw1612 => rfl
          case hy1612 => (intro w' hSw; have j0 := hSw; go_simp; (try with_reducible rfl))
          case rest1612 =>
          (try simp only [Act.put, List.setIfInBounds_toArray, List.set_cons_zero, List.set_cons_succ])
          replace kX := bx_drC kX E610.out zX (by omega)
          replace fX := fx_drC fX E610.out zX (by omega)
          replace kR := bx_drC kR E610.out zR (by omega)
          replace fR := fx_drC fR E610.out zR (by omega)
          replace X : Hid (CT v609 lo x va n vc) := X.out.dr E610.out (by omega)
          replace D : Hid (Dr sb w v609) := D.out.trans E610.out
          replace S : Hid (Src v609 sb (.slice a len cap) (K0 + 33)) := S610.out
          have zX1 : XB < v609.heap.size := Nat.lt_of_lt_of_le zX E610.out.size
          refine Goes.all (rs := [9]) (by kernel_rfl) (by simp) ?_
          refine Ups.cons (i := 9) (o := ?oo614) ?ho614 (fun KQ hKQ => ?stp614) Ups.nil
          case ho614 => (simp only [List.getElem?_toArray, List.getElem?_cons_succ, List.getElem?_cons_zero] <;> rfl)
          case stp614 =>
          go_simp
          refine hKQ.out _ _ (Or.inr (KK.out _ (E610.out.then ((Below.refl _ _).alloc (Nat.le_refl _) _) E610.out.size))) ?_
          clear hKQ KQ
          (try simp only [Act.put, List.setIfInBounds_toArray, List.set_cons_zero, List.set_cons_succ])
          refine Goes.all (rs := [10]) (by kernel_rfl) (by simp) ?_
          refine Ups.cons (i := 10) (o := ?oo615) ?ho615 (fun KQ hKQ => ?stp615) Ups.nil
          case ho615 => (simp only [List.getElem?_toArray, List.getElem?_cons_succ, List.getElem?_cons_zero] <;> rfl)
          case stp615 =>
          rw [if_pos (by rfl)]
          obtain ⟨f1, f2, f3, f4, f5, f6, -, -⟩ := X.out.form
          have hlw : lo ≤ v609.heap.size := by have := zl2; have := E610.out.size; omega
          refine app_spn _ _ (by rfl) lo va x.2.2.1 n vc ff tt (by rfl) (by rfl) f1 f3 f4 f5 f6 f2 X.out.sp (WalkArith.wf_i64 (by omega)) (WalkArith.wf_i64 (by omega)) hlw ?_
          intro va5 vc5 w5 g1 g2 g3 g4 g5 g6
          have kX5 : ∀ o, w5.cell? ⟨XB, o, none⟩ = (#[.int .i64 x.1, .int .i64 x.2.1, .slice va n vc] : Array Value)[o]? := fun o => (g5.cell (p := ⟨XB, o, none⟩) zl).trans (kX o)
          have fX5 : ∀ o, w5.frozen? ⟨XB, o, none⟩ = false := fun o => (g5.frozen (p := ⟨XB, o, none⟩) zl).trans (fX o)
          replace kR : ∀ o, w5.cell? ⟨w.heap.size, o, none⟩ = (#[.int .i64 0, .int .i64 0, .slice none 0 0] : Array Value)[o]? := fun o => (g5.cell (p := ⟨w.heap.size, o, none⟩) (by dsimp only; omega)).trans (kR o)
          replace fR : ∀ o, w5.frozen? ⟨w.heap.size, o, none⟩ = false := fun o => (g5.frozen (p := ⟨w.heap.size, o, none⟩) (by dsimp only; omega)).trans (fR o)
          replace D : Hid (Dr sb w w5) := D.out.then g5 (by omega)
          replace S : Hid (Src w5 sb (.slice a len cap) (K0 + 33)) := S.out.below g5 (by omega)
          have zX5 : XB < w5.heap.size := by have := g5.size; omega
          have FC5 : Hid (FC w5 lo (x.1, x.2.1, x.2.2.1 ++ [(ff, tt, ())], ()) va5 (n + 1) vc5) := FC.app f1 f2 X.out.tb g1 g2 g3 g4 g6 m4.2.1 (by omega) (by omega)
          clear kX fX f1 f2 f3 f4 f5 f6 g1 g2 g3 g4 g5 g6 X
          have kX := kX5
          have fX := fX5
          clear kX5 fX5
          refine hKQ.out _ _ (Or.inr kX) ?_
          clear hKQ KQ KK
          (try simp only [Act.put, List.setIfInBounds_toArray, List.set_cons_zero, List.set_cons_succ])
          refine Goes.take (i := 11) (oi := ?oi3617) (x := ?vx3617) ?ho3617 (by kernel_rfl) (by kernel_rfl) (by kernel_rfl) (by kernel_rfl) (fun _ _ _ h => h) (Or.inl ⟨?hw3617, ?hy3617⟩) kX ?rest3617
          case ho3617 => (simp only [List.getElem?_toArray, List.getElem?_cons_succ, List.getElem?_cons_zero] <;> rfl)
          case hw3617 => rfl
          case hy3617 => (intro w' hSw; have j0 := hSw; go_simp; (try with_reducible rfl))
          case rest3617 =>
          (try simp only [Act.put, List.setIfInBounds_toArray, List.set_cons_zero, List.set_cons_succ])
          refine Goes.all (rs := [12]) (by kernel_rfl) (by simp) ?_
          refine Ups.cons (i := 12) (o := ?oo617) ?ho617 (fun KQ hKQ => ?stp617) Ups.nil
          case ho617 => (simp only [List.getElem?_toArray, List.getElem?_cons_succ, List.getElem?_cons_zero] <;> rfl)
          case stp617 =>
          go_simp
          refine hKQ.out _ _ (Or.inl rfl) ?_
          clear hKQ KQ
          (try simp only [Act.put])
          refine Goes.done (by kernel_rfl) ?_ _
          refine NoPanic.normal ?_
          have FCX : Hid (FC (w5.setCell ⟨XB, 2, none⟩ (.slice va5 (n + 1) vc5)) lo (x.1, x.2.1, x.2.2.1 ++ [(ff, tt, ())], ()) va5 (n + 1) vc5) := FC5.out.keep fun g g1 g2 => Below.heap_setCell _ _ _ _ (by dsimp only; omega)
          clear FC5
          have hbS : Below XB w5 (w5.setCell ⟨XB, 2, none⟩ (.slice va5 (n + 1) vc5)) := bel_one _ _ _ _
          have kX2 := bx_put kX (k := 2) (v := .slice va5 (n + 1) vc5) (by simp)
          simp only [List.setIfInBounds_toArray, List.set_cons_zero, List.set_cons_succ] at kX2
          replace kR : ∀ o, (w5.setCell ⟨XB, 2, none⟩ (.slice va5 (n + 1) vc5)).cell? ⟨w.heap.size, o, none⟩ = (#[.int .i64 0, .int .i64 0, .slice none 0 0] : Array Value)[o]? := fun o => (hbS.cell (p := ⟨w.heap.size, o, none⟩) hXw).trans (kR o)
          replace fR : ∀ o, (w5.setCell ⟨XB, 2, none⟩ (.slice va5 (n + 1) vc5)).frozen? ⟨w.heap.size, o, none⟩ = false := fun o => (hbS.frozen (p := ⟨w.heap.size, o, none⟩) hXw).trans (fR o)
          replace D : Hid (Dr sb w (w5.setCell ⟨XB, 2, none⟩ (.slice va5 (n + 1) vc5))) := D.out.then hbS (by omega)
          replace S : Hid (Src (w5.setCell ⟨XB, 2, none⟩ (.slice va5 (n + 1) vc5)) sb (.slice a len cap) (K0 + 33)) := S.out.below hbS (by omega)
          generalize hWW : (w5.setCell ⟨XB, 2, none⟩ (.slice va5 (n + 1) vc5)) = w8 at FCX kX2 kR fR D S ⊢
          clear hWW hbS kX fX
          go_wp2_with fail
          refine bodyPost_ret (results_box Try.results111 _ _ _ #[.int .i64 x.1, .int .i64 x.2.1, .slice va5 (n + 1) vc5] _ (by rfl) (bx_threeC kR) Try.underlying60 rfl info_Ct) rfl ⟨(x.1, x.2.1, (x.2.2.1 ++ [(ff, tt, ())]), ()), va5, (n + 1), vc5, rfl, ?_, D.out.then (bel_threeC _ _ _ _ _) (Nat.le_refl _), (S.out.below (bel_threeC _ _ _ _ _) hlt).mono (by omega)⟩
          exact (FCX.out.low (by omega)).keep fun g g1 g2 => by repeat rw [Below.heap_setCell _ _ _ _ (by dsimp only; omega)]
        case stp598 =>
          go_simp
          obtain ⟨v618, hv618⟩ : ∃ v, v = (w1.alloc (.cells #[.int .i64 5, .int .i64 90, .int .i64 1000101] 2)).drew := ⟨_, rfl⟩
          rw [← hv618]
          have b618 : Below w1.heap.size w1 v618 := by rw [hv618]; exact ((Below.refl _ _).alloc (Nat.le_refl _) _).drew
          have cra : Hid (∀ W, Dr sb v618 W → ∀ i, i < ([5, 90, 1000101] : List Int).length → W.cell? ⟨w1.heap.size, i, none⟩ = some (.int .i64 (([5, 90, 1000101] : List Int).getD i 0))) := fun W hW i hi => (hW.cell (p := ⟨w1.heap.size, i, none⟩) (by rw [hv618]; simp) (by have := Ew.out.size; dsimp only; omega)).trans (by rw [hv618]; exact laid_list w1 [5, 90, 1000101] 2 i hi)
          have gra : w1.heap.size ≠ sb := by have := Ew.out.size; omega
          have E619 : Hid (Dr sb w1 v618) := Ew.out.trans ((Dr.refl sb w1).then b618 (Nat.le_refl _))
          have S619 : Hid (Src v618 sb (.slice a len cap) (K0 + 31)) := S.out.bel b618
          have ra618z : Hid (Dr sb v618 v618) := Dr.refl _ _
          clear hv618 b618
          refine hKQ.out _ _ (Or.inr (KK.out _ E619.out)) ?_
          clear hKQ KQ
          (try simp only [Act.put, List.setIfInBounds_toArray, List.set_cons_zero, List.set_cons_succ])
          refine Goes.all (rs := [4, 6]) (by kernel_rfl) (by simp) ?_
          refine Ups.cons (i := 4) (o := ?oo620) ?ho620 (fun KQ hKQ => ?stp620) (Ups.cons (i := 6) (o := ?oo621) ?ho621 (fun KQ hKQ => ?stp621) Ups.nil)
          case ho620 => (simp only [List.getElem?_toArray, List.getElem?_cons_succ, List.getElem?_cons_zero] <;> rfl)
          case ho621 => (simp only [List.getElem?_toArray, List.getElem?_cons_succ, List.getElem?_cons_zero] <;> rfl)
          case stp621 =>
            go_simp
            obtain ⟨v622, hv622⟩ : ∃ v, v = v618.alloc (.cells #[.int .i64 95, .int .i64 5, .int .i64 1000102] 2) := ⟨_, rfl⟩
            rw [← hv622]
            have b622 : Below v618.heap.size v618 v622 := by rw [hv622]; exact (Below.refl _ _).alloc (Nat.le_refl _) _
            have crb : Hid (∀ W, Dr sb v622 W → ∀ i, i < ([95, 5, 1000102] : List Int).length → W.cell? ⟨v618.heap.size, i, none⟩ = some (.int .i64 (([95, 5, 1000102] : List Int).getD i 0))) := fun W hW i hi => (hW.cell (p := ⟨v618.heap.size, i, none⟩) (by rw [hv622]; simp) (by have := E619.out.size; dsimp only; omega)).trans (by rw [hv622]; exact laid_list v618 [95, 5, 1000102] 2 i hi)
            have grb : v618.heap.size ≠ sb := by have := E619.out.size; omega
            have E623 : Hid (Dr sb w1 v622) := E619.out.trans ((Dr.refl sb v618).then b622 (Nat.le_refl _))
            have S623 : Hid (Src v622 sb (.slice a len cap) (K0 + 31)) := S619.out.bel b622
            have ra623 : Hid (Dr sb v618 v622) := ra618z.out.trans ((Dr.refl sb v618).then b622 (Nat.le_refl _))
            have rb622z : Hid (Dr sb v622 v622) := Dr.refl _ _
            clear hv622 b622
            refine hKQ.out _ _ (Or.inr (KK.out _ E623.out)) ?_
            clear hKQ KQ
            (try simp only [Act.put, List.setIfInBounds_toArray, List.set_cons_zero, List.set_cons_succ])
            refine Goes.all (rs := [4]) (by kernel_rfl) (by simp) ?_
            refine Ups.cons (i := 4) (o := ?oo624) ?ho624 (fun KQ hKQ => ?stp624) Ups.nil
            case ho624 => (simp only [List.getElem?_toArray, List.getElem?_cons_succ, List.getElem?_cons_zero] <;> rfl)
            case stp624 =>
            go_simp
            go_at_call 41
            refine (sPickC sb a len cap zs _ (w1.heap.size) [5, 90, 1000101] _ S623.out (HR1.out _ E623.out) hl1 (by omega) gra (by simp) (by simp) (cra.out _ ra623.out)).mono ?_
            rintro e v625 ⟨ff, rfl, hm, dr625, sr625⟩
            simp only [List.mem_cons, List.not_mem_nil, or_false] at hm
            have m3 : 5 ≤ ff ∧ ff ≤ 1000101 := by omega
            clear hm
            have E626 : Hid (Dr sb w1 v625) := E623.out.trans dr625
            have S626 : Hid (Src v625 sb (.slice a len cap) (K0 + 32)) := (by have h := sr625; exact h.mono (by omega))
            have ra626 : Hid (Dr sb v618 v625) := ra623.out.trans dr625
            have rb626 : Hid (Dr sb v622 v625) := rb622z.out.trans dr625
            clear dr625 sr625
            dsimp only
            refine hKQ.out _ _ (Or.inr (KK.out _ E626.out)) ?_
            clear hKQ KQ
            (try simp only [Act.put, List.setIfInBounds_toArray, List.set_cons_zero, List.set_cons_succ])
            refine Goes.all (rs := [7]) (by kernel_rfl) (by simp) ?_
            refine Ups.cons (i := 7) (o := ?oo627) ?ho627 (fun KQ hKQ => ?stp627) Ups.nil
            case ho627 => (simp only [List.getElem?_toArray, List.getElem?_cons_succ, List.getElem?_cons_zero] <;> rfl)
            case stp627 =>
            go_simp
            go_at_call 41
            refine (sPickC sb a len cap zs _ (v618.heap.size) [95, 5, 1000102] _ S626.out (HR1.out _ E626.out) hl1 (by omega) grb (by simp) (by simp) (crb.out _ rb626.out)).mono ?_
            rintro e v628 ⟨tt, rfl, hm, dr628, sr628⟩
            simp only [List.mem_cons, List.not_mem_nil, or_false] at hm
            have m4 : 5 ≤ tt ∧ (tt ≤ 1000000 ∨ 1000100 < tt) ∧ tt ≤ 1000102 := by omega
            clear hm
            have E629 : Hid (Dr sb w1 v628) := E626.out.trans dr628
            have S629 : Hid (Src v628 sb (.slice a len cap) (K0 + 33)) := (by have h := sr628; exact h.mono (by omega))
            have ra629 : Hid (Dr sb v618 v628) := ra626.out.trans dr628
            have rb629 : Hid (Dr sb v622 v628) := rb626.out.trans dr628
            clear dr628 sr628
            dsimp only
            refine hKQ.out _ _ (Or.inr (KK.out _ E629.out)) ?_
            clear hKQ KQ
            (try simp only [Act.put, List.setIfInBounds_toArray, List.set_cons_zero, List.set_cons_succ])
            refine Goes.take (i := 8) (oi := ?oi1631) (x := ?vx1631) ?ho1631 (by kernel_rfl) (by kernel_rfl) (by kernel_rfl) (by kernel_rfl) (fun _ _ _ h => h) (Or.inl ⟨?hw1631, ?hy1631⟩) (KK.out _ E629.out) ?rest1631
            case ho1631 => (simp only [List.getElem?_toArray, List.getElem?_cons_succ, List.getElem?_cons_zero] <;> rfl)
            case hw1631 => rfl
            case hy1631 => (intro w' hSw; have j0 := hSw; go_simp; (try with_reducible rfl))
            case rest1631 =>
            (try simp only [Act.put, List.setIfInBounds_toArray, List.set_cons_zero, List.set_cons_succ])
            replace kX := bx_drC kX E629.out zX (by omega)
            replace fX := fx_drC fX E629.out zX (by omega)
            replace kR := bx_drC kR E629.out zR (by omega)
            replace fR := fx_drC fR E629.out zR (by omega)
            replace X : Hid (CT v628 lo x va n vc) := X.out.dr E629.out (by omega)
            replace D : Hid (Dr sb w v628) := D.out.trans E629.out
            replace S : Hid (Src v628 sb (.slice a len cap) (K0 + 33)) := S629.out
            have zX1 : XB < v628.heap.size := Nat.lt_of_lt_of_le zX E629.out.size
            refine Goes.all (rs := [9]) (by kernel_rfl) (by simp) ?_
            refine Ups.cons (i := 9) (o := ?oo633) ?ho633 (fun KQ hKQ => ?stp633) Ups.nil
            case ho633 => (simp only [List.getElem?_toArray, List.getElem?_cons_succ, List.getElem?_cons_zero] <;> rfl)
            case stp633 =>
            go_simp
            refine hKQ.out _ _ (Or.inr (KK.out _ (E629.out.then ((Below.refl _ _).alloc (Nat.le_refl _) _) E629.out.size))) ?_
            clear hKQ KQ
            (try simp only [Act.put, List.setIfInBounds_toArray, List.set_cons_zero, List.set_cons_succ])
            refine Goes.all (rs := [10]) (by kernel_rfl) (by simp) ?_
            refine Ups.cons (i := 10) (o := ?oo634) ?ho634 (fun KQ hKQ => ?stp634) Ups.nil
            case ho634 => (simp only [List.getElem?_toArray, List.getElem?_cons_succ, List.getElem?_cons_zero] <;> rfl)
            case stp634 =>
            rw [if_pos (by rfl)]
            obtain ⟨f1, f2, f3, f4, f5, f6, -, -⟩ := X.out.form
            have hlw : lo ≤ v628.heap.size := by have := zl2; have := E629.out.size; omega
            refine app_spn _ _ (by rfl) lo va x.2.2.1 n vc ff tt (by rfl) (by rfl) f1 f3 f4 f5 f6 f2 X.out.sp (WalkArith.wf_i64 (by omega)) (WalkArith.wf_i64 (by omega)) hlw ?_
            intro va5 vc5 w5 g1 g2 g3 g4 g5 g6
            have kX5 : ∀ o, w5.cell? ⟨XB, o, none⟩ = (#[.int .i64 x.1, .int .i64 x.2.1, .slice va n vc] : Array Value)[o]? := fun o => (g5.cell (p := ⟨XB, o, none⟩) zl).trans (kX o)
            have fX5 : ∀ o, w5.frozen? ⟨XB, o, none⟩ = false := fun o => (g5.frozen (p := ⟨XB, o, none⟩) zl).trans (fX o)
            replace kR : ∀ o, w5.cell? ⟨w.heap.size, o, none⟩ = (#[.int .i64 0, .int .i64 0, .slice none 0 0] : Array Value)[o]? := fun o => (g5.cell (p := ⟨w.heap.size, o, none⟩) (by dsimp only; omega)).trans (kR o)
            replace fR : ∀ o, w5.frozen? ⟨w.heap.size, o, none⟩ = false := fun o => (g5.frozen (p := ⟨w.heap.size, o, none⟩) (by dsimp only; omega)).trans (fR o)
            replace D : Hid (Dr sb w w5) := D.out.then g5 (by omega)
            replace S : Hid (Src w5 sb (.slice a len cap) (K0 + 33)) := S.out.below g5 (by omega)
            have zX5 : XB < w5.heap.size := by have := g5.size; omega
            have FC5 : Hid (FC w5 lo (x.1, x.2.1, x.2.2.1 ++ [(ff, tt, ())], ()) va5 (n + 1) vc5) := FC.app f1 f2 X.out.tb g1 g2 g3 g4 g6 m4.2.1 (by omega) (by omega)
            clear kX fX f1 f2 f3 f4 f5 f6 g1 g2 g3 g4 g5 g6 X
            have kX := kX5
            have fX := fX5
            clear kX5 fX5
            refine hKQ.out _ _ (Or.inr kX) ?_
            clear hKQ KQ KK
            (try simp only [Act.put, List.setIfInBounds_toArray, List.set_cons_zero, List.set_cons_succ])
            refine Goes.take (i := 11) (oi := ?oi3636) (x := ?vx3636) ?ho3636 (by kernel_rfl) (by kernel_rfl) (by kernel_rfl) (by kernel_rfl) (fun _ _ _ h => h) (Or.inl ⟨?hw3636, ?hy3636⟩) kX ?rest3636
            case ho3636 => (simp only [List.getElem?_toArray, List.getElem?_cons_succ, List.getElem?_cons_zero] <;> rfl)
            case hw3636 => rfl
            case hy3636 => (intro w' hSw; have j0 := hSw; go_simp; (try with_reducible rfl))
            case rest3636 =>
            (try simp only [Act.put, List.setIfInBounds_toArray, List.set_cons_zero, List.set_cons_succ])
            refine Goes.all (rs := [12]) (by kernel_rfl) (by simp) ?_
            refine Ups.cons (i := 12) (o := ?oo636) ?ho636 (fun KQ hKQ => ?stp636) Ups.nil
            case ho636 => (simp only [List.getElem?_toArray, List.getElem?_cons_succ, List.getElem?_cons_zero] <;> rfl)
            case stp636 =>
            go_simp
            refine hKQ.out _ _ (Or.inl rfl) ?_
            clear hKQ KQ
            (try simp only [Act.put])
            refine Goes.done (by kernel_rfl) ?_ _
            refine NoPanic.normal ?_
            have FCX : Hid (FC (w5.setCell ⟨XB, 2, none⟩ (.slice va5 (n + 1) vc5)) lo (x.1, x.2.1, x.2.2.1 ++ [(ff, tt, ())], ()) va5 (n + 1) vc5) := FC5.out.keep fun g g1 g2 => Below.heap_setCell _ _ _ _ (by dsimp only; omega)
            clear FC5
            have hbS : Below XB w5 (w5.setCell ⟨XB, 2, none⟩ (.slice va5 (n + 1) vc5)) := bel_one _ _ _ _
            have kX2 := bx_put kX (k := 2) (v := .slice va5 (n + 1) vc5) (by simp)
            simp only [List.setIfInBounds_toArray, List.set_cons_zero, List.set_cons_succ] at kX2
            replace kR : ∀ o, (w5.setCell ⟨XB, 2, none⟩ (.slice va5 (n + 1) vc5)).cell? ⟨w.heap.size, o, none⟩ = (#[.int .i64 0, .int .i64 0, .slice none 0 0] : Array Value)[o]? := fun o => (hbS.cell (p := ⟨w.heap.size, o, none⟩) hXw).trans (kR o)
            replace fR : ∀ o, (w5.setCell ⟨XB, 2, none⟩ (.slice va5 (n + 1) vc5)).frozen? ⟨w.heap.size, o, none⟩ = false := fun o => (hbS.frozen (p := ⟨w.heap.size, o, none⟩) hXw).trans (fR o)
            replace D : Hid (Dr sb w (w5.setCell ⟨XB, 2, none⟩ (.slice va5 (n + 1) vc5))) := D.out.then hbS (by omega)
            replace S : Hid (Src (w5.setCell ⟨XB, 2, none⟩ (.slice va5 (n + 1) vc5)) sb (.slice a len cap) (K0 + 33)) := S.out.below hbS (by omega)
            generalize hWW : (w5.setCell ⟨XB, 2, none⟩ (.slice va5 (n + 1) vc5)) = w8 at FCX kX2 kR fR D S ⊢
            clear hWW hbS kX fX
            go_wp2_with fail
            refine bodyPost_ret (results_box Try.results111 _ _ _ #[.int .i64 x.1, .int .i64 x.2.1, .slice va5 (n + 1) vc5] _ (by rfl) (bx_threeC kR) Try.underlying60 rfl info_Ct) rfl ⟨(x.1, x.2.1, (x.2.2.1 ++ [(ff, tt, ())]), ()), va5, (n + 1), vc5, rfl, ?_, D.out.then (bel_threeC _ _ _ _ _) (Nat.le_refl _), (S.out.below (bel_threeC _ _ _ _ _) hlt).mono (by omega)⟩
            exact (FCX.out.low (by omega)).keep fun g g1 g2 => by repeat rw [Below.heap_setCell _ _ _ _ (by dsimp only; omega)]
          case stp620 =>
            go_simp
            go_at_call 41
            refine (sPickC sb a len cap zs _ (w1.heap.size) [5, 90, 1000101] _ S619.out (HR1.out _ E619.out) hl1 (by omega) gra (by simp) (by simp) (cra.out _ ra618z.out)).mono ?_
            rintro e v637 ⟨ff, rfl, hm, dr637, sr637⟩
            simp only [List.mem_cons, List.not_mem_nil, or_false] at hm
            have m3 : 5 ≤ ff ∧ ff ≤ 1000101 := by omega
            clear hm
            have E638 : Hid (Dr sb w1 v637) := E619.out.trans dr637
            have S638 : Hid (Src v637 sb (.slice a len cap) (K0 + 32)) := (by have h := sr637; exact h.mono (by omega))
            have ra638 : Hid (Dr sb v618 v637) := ra618z.out.trans dr637
            clear dr637 sr637
            dsimp only
            refine hKQ.out _ _ (Or.inr (KK.out _ E638.out)) ?_
            clear hKQ KQ
            (try simp only [Act.put, List.setIfInBounds_toArray, List.set_cons_zero, List.set_cons_succ])
            refine Goes.all (rs := [6]) (by kernel_rfl) (by simp) ?_
            refine Ups.cons (i := 6) (o := ?oo639) ?ho639 (fun KQ hKQ => ?stp639) Ups.nil
            case ho639 => (simp only [List.getElem?_toArray, List.getElem?_cons_succ, List.getElem?_cons_zero] <;> rfl)
            case stp639 =>
            go_simp
            obtain ⟨v640, hv640⟩ : ∃ v, v = v637.alloc (.cells #[.int .i64 95, .int .i64 5, .int .i64 1000102] 2) := ⟨_, rfl⟩
            rw [← hv640]
            have b640 : Below v637.heap.size v637 v640 := by rw [hv640]; exact (Below.refl _ _).alloc (Nat.le_refl _) _
            have crb : Hid (∀ W, Dr sb v640 W → ∀ i, i < ([95, 5, 1000102] : List Int).length → W.cell? ⟨v637.heap.size, i, none⟩ = some (.int .i64 (([95, 5, 1000102] : List Int).getD i 0))) := fun W hW i hi => (hW.cell (p := ⟨v637.heap.size, i, none⟩) (by rw [hv640]; simp) (by have := E638.out.size; dsimp only; omega)).trans (by rw [hv640]; exact laid_list v637 [95, 5, 1000102] 2 i hi)
            have grb : v637.heap.size ≠ sb := by have := E638.out.size; omega
            have E641 : Hid (Dr sb w1 v640) := E638.out.trans ((Dr.refl sb v637).then b640 (Nat.le_refl _))
            have S641 : Hid (Src v640 sb (.slice a len cap) (K0 + 32)) := S638.out.bel b640
            have ra641 : Hid (Dr sb v618 v640) := ra638.out.trans ((Dr.refl sb v637).then b640 (Nat.le_refl _))
            have rb640z : Hid (Dr sb v640 v640) := Dr.refl _ _
            clear hv640 b640
            refine hKQ.out _ _ (Or.inr (KK.out _ E641.out)) ?_
            clear hKQ KQ
            (try simp only [Act.put, List.setIfInBounds_toArray, List.set_cons_zero, List.set_cons_succ])
            refine Goes.all (rs := [7]) (by kernel_rfl) (by simp) ?_
            refine Ups.cons (i := 7) (o := ?oo642) ?ho642 (fun KQ hKQ => ?stp642) Ups.nil
            case ho642 => (simp only [List.getElem?_toArray, List.getElem?_cons_succ, List.getElem?_cons_zero] <;> rfl)
            case stp642 =>
            go_simp
            go_at_call 41
            refine (sPickC sb a len cap zs _ (v637.heap.size) [95, 5, 1000102] _ S641.out (HR1.out _ E641.out) hl1 (by omega) grb (by simp) (by simp) (crb.out _ rb640z.out)).mono ?_
            rintro e v643 ⟨tt, rfl, hm, dr643, sr643⟩
            simp only [List.mem_cons, List.not_mem_nil, or_false] at hm
            have m4 : 5 ≤ tt ∧ (tt ≤ 1000000 ∨ 1000100 < tt) ∧ tt ≤ 1000102 := by omega
            clear hm
            have E644 : Hid (Dr sb w1 v643) := E641.out.trans dr643
            have S644 : Hid (Src v643 sb (.slice a len cap) (K0 + 33)) := (by have h := sr643; exact h.mono (by omega))
            have ra644 : Hid (Dr sb v618 v643) := ra641.out.trans dr643
            have rb644 : Hid (Dr sb v640 v643) := rb640z.out.trans dr643
            clear dr643 sr643
            dsimp only
            refine hKQ.out _ _ (Or.inr (KK.out _ E644.out)) ?_
            clear hKQ KQ
            (try simp only [Act.put, List.setIfInBounds_toArray, List.set_cons_zero, List.set_cons_succ])
            refine Goes.take (i := 8) (oi := ?oi1646) (x := ?vx1646) ?ho1646 (by kernel_rfl) (by kernel_rfl) (by kernel_rfl) (by kernel_rfl) (fun _ _ _ h => h) (Or.inl ⟨?hw1646, ?hy1646⟩) (KK.out _ E644.out) ?rest1646
            case ho1646 => (simp only [List.getElem?_toArray, List.getElem?_cons_succ, List.getElem?_cons_zero] <;> rfl)
            case hw1646 => rfl
            case hy1646 => (intro w' hSw; have j0 := hSw; go_simp; (try with_reducible rfl))
            case rest1646 =>
            (try simp only [Act.put, List.setIfInBounds_toArray, List.set_cons_zero, List.set_cons_succ])
            replace kX := bx_drC kX E644.out zX (by omega)
            replace fX := fx_drC fX E644.out zX (by omega)
            replace kR := bx_drC kR E644.out zR (by omega)
            replace fR := fx_drC fR E644.out zR (by omega)
            replace X : Hid (CT v643 lo x va n vc) := X.out.dr E644.out (by omega)
            replace D : Hid (Dr sb w v643) := D.out.trans E644.out
            replace S : Hid (Src v643 sb (.slice a len cap) (K0 + 33)) := S644.out
            have zX1 : XB < v643.heap.size := Nat.lt_of_lt_of_le zX E644.out.size
            refine Goes.all (rs := [9]) (by kernel_rfl) (by simp) ?_
            refine Ups.cons (i := 9) (o := ?oo648) ?ho648 (fun KQ hKQ => ?stp648) Ups.nil
            case ho648 => (simp only [List.getElem?_toArray, List.getElem?_cons_succ, List.getElem?_cons_zero] <;> rfl)
            case stp648 =>
            go_simp
            refine hKQ.out _ _ (Or.inr (KK.out _ (E644.out.then ((Below.refl _ _).alloc (Nat.le_refl _) _) E644.out.size))) ?_
            clear hKQ KQ
            (try simp only [Act.put, List.setIfInBounds_toArray, List.set_cons_zero, List.set_cons_succ])
            refine Goes.all (rs := [10]) (by kernel_rfl) (by simp) ?_
            refine Ups.cons (i := 10) (o := ?oo649) ?ho649 (fun KQ hKQ => ?stp649) Ups.nil
            case ho649 => (simp only [List.getElem?_toArray, List.getElem?_cons_succ, List.getElem?_cons_zero] <;> rfl)
            case stp649 =>
            rw [if_pos (by rfl)]
            obtain ⟨f1, f2, f3, f4, f5, f6, -, -⟩ := X.out.form
            have hlw : lo ≤ v643.heap.size := by have := zl2; have := E644.out.size; omega
            refine app_spn _ _ (by rfl) lo va x.2.2.1 n vc ff tt (by rfl) (by rfl) f1 f3 f4 f5 f6 f2 X.out.sp (WalkArith.wf_i64 (by omega)) (WalkArith.wf_i64 (by omega)) hlw ?_
            intro va5 vc5 w5 g1 g2 g3 g4 g5 g6
            have kX5 : ∀ o, w5.cell? ⟨XB, o, none⟩ = (#[.int .i64 x.1, .int .i64 x.2.1, .slice va n vc] : Array Value)[o]? := fun o => (g5.cell (p := ⟨XB, o, none⟩) zl).trans (kX o)
            have fX5 : ∀ o, w5.frozen? ⟨XB, o, none⟩ = false := fun o => (g5.frozen (p := ⟨XB, o, none⟩) zl).trans (fX o)
            replace kR : ∀ o, w5.cell? ⟨w.heap.size, o, none⟩ = (#[.int .i64 0, .int .i64 0, .slice none 0 0] : Array Value)[o]? := fun o => (g5.cell (p := ⟨w.heap.size, o, none⟩) (by dsimp only; omega)).trans (kR o)
            replace fR : ∀ o, w5.frozen? ⟨w.heap.size, o, none⟩ = false := fun o => (g5.frozen (p := ⟨w.heap.size, o, none⟩) (by dsimp only; omega)).trans (fR o)
            replace D : Hid (Dr sb w w5) := D.out.then g5 (by omega)
            replace S : Hid (Src w5 sb (.slice a len cap) (K0 + 33)) := S.out.below g5 (by omega)
            have zX5 : XB < w5.heap.size := by have := g5.size; omega
            have FC5 : Hid (FC w5 lo (x.1, x.2.1, x.2.2.1 ++ [(ff, tt, ())], ()) va5 (n + 1) vc5) := FC.app f1 f2 X.out.tb g1 g2 g3 g4 g6 m4.2.1 (by omega) (by omega)
            clear kX fX f1 f2 f3 f4 f5 f6 g1 g2 g3 g4 g5 g6 X
            have kX := kX5
            have fX := fX5
            clear kX5 fX5
            refine hKQ.out _ _ (Or.inr kX) ?_
            clear hKQ KQ KK
            (try simp only [Act.put, List.setIfInBounds_toArray, List.set_cons_zero, List.set_cons_succ])
            refine Goes.take (i := 11) (oi := ?oi3651) (x := ?vx3651) ?ho3651 (by kernel_rfl) (by kernel_rfl) (by kernel_rfl) (by kernel_rfl) (fun _ _ _ h => h) (Or.inl ⟨?hw3651, ?hy3651⟩) kX ?rest3651
            case ho3651 => (simp only [List.getElem?_toArray, List.getElem?_cons_succ, List.getElem?_cons_zero] <;> rfl)
            case hw3651 => rfl
            case hy3651 => (intro w' hSw; have j0 := hSw; go_simp; (try with_reducible rfl))
            case rest3651 =>
            (try simp only [Act.put, List.setIfInBounds_toArray, List.set_cons_zero, List.set_cons_succ])
            refine Goes.all (rs := [12]) (by kernel_rfl) (by simp) ?_
            refine Ups.cons (i := 12) (o := ?oo651) ?ho651 (fun KQ hKQ => ?stp651) Ups.nil
            case ho651 => (simp only [List.getElem?_toArray, List.getElem?_cons_succ, List.getElem?_cons_zero] <;> rfl)
            case stp651 =>
            go_simp
            refine hKQ.out _ _ (Or.inl rfl) ?_
            clear hKQ KQ
            (try simp only [Act.put])
            refine Goes.done (by kernel_rfl) ?_ _
            refine NoPanic.normal ?_
            have FCX : Hid (FC (w5.setCell ⟨XB, 2, none⟩ (.slice va5 (n + 1) vc5)) lo (x.1, x.2.1, x.2.2.1 ++ [(ff, tt, ())], ()) va5 (n + 1) vc5) := FC5.out.keep fun g g1 g2 => Below.heap_setCell _ _ _ _ (by dsimp only; omega)
            clear FC5
            have hbS : Below XB w5 (w5.setCell ⟨XB, 2, none⟩ (.slice va5 (n + 1) vc5)) := bel_one _ _ _ _
            have kX2 := bx_put kX (k := 2) (v := .slice va5 (n + 1) vc5) (by simp)
            simp only [List.setIfInBounds_toArray, List.set_cons_zero, List.set_cons_succ] at kX2
            replace kR : ∀ o, (w5.setCell ⟨XB, 2, none⟩ (.slice va5 (n + 1) vc5)).cell? ⟨w.heap.size, o, none⟩ = (#[.int .i64 0, .int .i64 0, .slice none 0 0] : Array Value)[o]? := fun o => (hbS.cell (p := ⟨w.heap.size, o, none⟩) hXw).trans (kR o)
            replace fR : ∀ o, (w5.setCell ⟨XB, 2, none⟩ (.slice va5 (n + 1) vc5)).frozen? ⟨w.heap.size, o, none⟩ = false := fun o => (hbS.frozen (p := ⟨w.heap.size, o, none⟩) hXw).trans (fR o)
            replace D : Hid (Dr sb w (w5.setCell ⟨XB, 2, none⟩ (.slice va5 (n + 1) vc5))) := D.out.then hbS (by omega)
            replace S : Hid (Src (w5.setCell ⟨XB, 2, none⟩ (.slice va5 (n + 1) vc5)) sb (.slice a len cap) (K0 + 33)) := S.out.below hbS (by omega)
            generalize hWW : (w5.setCell ⟨XB, 2, none⟩ (.slice va5 (n + 1) vc5)) = w8 at FCX kX2 kR fR D S ⊢
            clear hWW hbS kX fX
            go_wp2_with fail
            refine bodyPost_ret (results_box Try.results111 _ _ _ #[.int .i64 x.1, .int .i64 x.2.1, .slice va5 (n + 1) vc5] _ (by rfl) (bx_threeC kR) Try.underlying60 rfl info_Ct) rfl ⟨(x.1, x.2.1, (x.2.2.1 ++ [(ff, tt, ())]), ()), va5, (n + 1), vc5, rfl, ?_, D.out.then (bel_threeC _ _ _ _ _) (Nat.le_refl _), (S.out.below (bel_threeC _ _ _ _ _) hlt).mono (by omega)⟩
            exact (FCX.out.low (by omega)).keep fun g g1 g2 => by repeat rw [Below.heap_setCell _ _ _ _ (by dsimp only; omega)]
      by_cases e3 : q = 3
      case pos =>
        subst e3
        obtain ⟨i0, hi, hz0, hz1, hz2⟩ := info_parts info_Span
        go_upto_region 17 with (at_make; refine wpList_make_full w1 rfl _ _ 58 rfl w1.heap.size 172 i0 (.agg #[.int .i64 0, .int .i64 0]) 2 Try.underlying58 hi hz0 hz1 .i64 .i64 _ _ 21 (by rfl) (by rfl) rfl rfl (by rw [hz2]; omega) (by unfold maxLen; omega) (Nat.le_refl _) ?_; intro w2 hown hgr; have HRS : Hid _ := rs_made hown; have hb : Below w1.heap.size w1 w2 := (Below.refl _ _).grown hgr (Nat.le_refl _) (by intro k hk; cases hk); have hdd : Dr sb w1 w2 := (Dr.refl _ _).then hb (Nat.le_refl _); replace kX := bx_drC kX hdd zX (by omega); replace fX := fx_drC fX hdd zX (by omega); replace kR := bx_drC kR hdd zR (by omega); replace fR := fx_drC fR hdd zR (by omega); replace D : Hid (Dr sb w w2) := D.out.trans hdd; replace S : Hid (Src w2 sb (.slice a len cap) (K0 + 31)) := S.out.bel hb; clear hown hgr hb hdd)
        clear hi hz0 hz1 hz2
        have FCX : Hid (FC (w2.setCell ⟨XB, 2, none⟩ (.slice (some ⟨w1.heap.size, 0, none⟩) 21 21)) lo (x.1, x.2.1, List.replicate 21 ((0, 0, ()) : DSpan), ()) (some ⟨w1.heap.size, 0, none⟩) 21 21) := FC.many (by simp) (RS.keepLo (lo := w1.heap.size) HRS.out (fun b hb => by cases hb; exact Nat.le_refl _) (fun g g1 g2 => Below.heap_setCell _ _ _ _ (by dsimp only; omega))) (by omega) (by omega) (by omega)
        have zX2 : XB < w1.heap.size := zX
        have hbS : Below XB w2 (w2.setCell ⟨XB, 2, none⟩ (.slice (some ⟨w1.heap.size, 0, none⟩) 21 21)) := bel_one _ _ _ _
        have kX2 := bx_put kX (k := 2) (v := .slice (some ⟨w1.heap.size, 0, none⟩) 21 21) (by simp)
        simp only [List.setIfInBounds_toArray, List.set_cons_zero, List.set_cons_succ] at kX2
        replace kR : ∀ o, (w2.setCell ⟨XB, 2, none⟩ (.slice (some ⟨w1.heap.size, 0, none⟩) 21 21)).cell? ⟨w.heap.size, o, none⟩ = (#[.int .i64 0, .int .i64 0, .slice none 0 0] : Array Value)[o]? := fun o => (hbS.cell (p := ⟨w.heap.size, o, none⟩) hXw).trans (kR o)
        replace fR : ∀ o, (w2.setCell ⟨XB, 2, none⟩ (.slice (some ⟨w1.heap.size, 0, none⟩) 21 21)).frozen? ⟨w.heap.size, o, none⟩ = false := fun o => (hbS.frozen (p := ⟨w.heap.size, o, none⟩) hXw).trans (fR o)
        replace D : Hid (Dr sb w (w2.setCell ⟨XB, 2, none⟩ (.slice (some ⟨w1.heap.size, 0, none⟩) 21 21))) := D.out.then hbS (by omega)
        replace S : Hid (Src (w2.setCell ⟨XB, 2, none⟩ (.slice (some ⟨w1.heap.size, 0, none⟩) 21 21)) sb (.slice a len cap) (K0 + 31)) := S.out.below hbS (by omega)
        generalize hWW : (w2.setCell ⟨XB, 2, none⟩ (.slice (some ⟨w1.heap.size, 0, none⟩) 21 21)) = w3 at FCX kX2 kR fR D S ⊢
        clear hWW hbS kX fX
        go_wp2_with fail
        refine bodyPost_ret (results_box Try.results111 _ _ _ #[.int .i64 x.1, .int .i64 x.2.1, .slice (some ⟨w1.heap.size, 0, none⟩) 21 21] _ (by rfl) (bx_threeC kR) Try.underlying60 rfl info_Ct) rfl ⟨(x.1, x.2.1, (List.replicate 21 ((0, 0, ()) : DSpan)), ()), (some ⟨w1.heap.size, 0, none⟩), 21, 21, rfl, ?_, D.out.then (bel_threeC _ _ _ _ _) (Nat.le_refl _), (S.out.below (bel_threeC _ _ _ _ _) hlt).mono (by omega)⟩
        exact (FCX.out.low (by omega)).keep fun g g1 g2 => by repeat rw [Below.heap_setCell _ _ _ _ (by dsimp only; omega)]
      have f0 : (q == 0) = false := by simp [e0]
      have f1 : (q == 1) = false := by simp [e1]
      have f2 : (q == 2) = false := by simp [e2]
      have f3 : (q == 3) = false := by simp [e3]
      have FCX : Hid (FC w1 lo (x.1, x.2.1, x.2.2.1, ()) va n vc) := X.out.fc (by omega) (by omega)
      clear e0 e1 e2 e3
      go_wp2_with fail
      refine bodyPost_ret (results_box Try.results111 _ _ _ #[.int .i64 x.1, .int .i64 x.2.1, .slice va n vc] _ (by rfl) (bx_threeC kR) Try.underlying60 rfl info_Ct) rfl ⟨(x.1, x.2.1, x.2.2.1, ()), va, n, vc, rfl, ?_, D.out.then (bel_threeC _ _ _ _ _) (Nat.le_refl _), (S.out.below (bel_threeC _ _ _ _ _) hlt).mono (by omega)⟩
      exact (FCX.out.low (by omega)).keep fun g g1 g2 => by repeat rw [Below.heap_setCell _ _ _ _ (by dsimp only; omega)]
end Go.Proofs.Ytebgibjokljlbaa
