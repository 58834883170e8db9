/- Proved: whatever bytes come in, the law on nets answers true, and the bytes are as they were; no condition. -/
import Derived.Test.YtebgibjokljlbaaRows
import Derived.WalkKit
import Derived.ProofKit
import Derived.OpenShut
import Derived.ShutString
import Derived.ChangeOld
import Derived.Below
import Derived.Test.YtebgibjokljlbaaK01
import Derived.Test.YtebgibjokljlbaaK02
import Derived.Test.YtebgibjokljlbaaK03
import Derived.Test.YtebgibjokljlbaaK10
import Derived.Test.YtebgibjokljlbaaK17
import Derived.Test.YtebgibjokljlbaaK20
import Derived.Test.YtebgibjokljlbaaK64
import Derived.Test.YtebgibjokljlbaaK42
import Derived.Test.YtebgibjokljlbaaK43
import Derived.Test.YtebgibjokljlbaaK55
import Derived.Test.YtebgibjokljlbaaK56
import Derived.Test.YtebgibjokljlbaaK57
import Derived.Test.YtebgibjokljlbaaK60
import Derived.Test.YtebgibjokljlbaaK66
import Derived.Test.YtebgibjokljlbaaK67
import Derived.Test.YtebgibjokljlbaaK92
import Derived.Test.YtebgibjokljlbaaK93
import Derived.Test.YtebgibjokljlbaaK94
import Derived.Test.YtebgibjokljlbaaK95
import Derived.Test.YtebgibjokljlbaaK96
import Derived.Test.YtebgibjokljlbaaK97
import Derived.Test.YtebgibjokljlbaaK98
import Derived.Test.YtebgibjokljlbaaK99
import Derived.Test.YtebgibjokljlbaaKA1
import Derived.Test.YtebgibjokljlbaaKA2
import Derived.Test.YtebgibjokljlbaaKA3
namespace Go.Proofs.Ytebgibjokljlbaa.fnNets
open Go.ChangeShapes Go.WideShapes Go.ChangeAt Go.RowKit
open Go.ChangeMaps (open_string shut_string)
set_option linter.unusedVariables false

theorem own : ownKnob Try.prog.godebug = none := by kernel_rfl
theorem laidOut : laidOutB Try.prog = true := by kernel_rfl

/-- WHAT THE WALK IS TOLD OF A SLICE OF INTEGERS THAT CAME IN: it is nil; or it leads to a row of 'cap' cells, the numbers 'zs' (the first 'len' are its elements, the rest its spare room), each fitting its kind. -/
def IsRow (k : IntKind) (w : World) (a : Option Addr) (len cap : Nat) (zs : List Int) : Prop :=
  (a = none ∧ len = 0 ∧ cap = 0 ∧ zs = []) ∨
  ∃ x, a = some x ∧ len ≤ cap ∧ cap ≤ maxLen ∧ zs.length = cap ∧ (∀ i, i < zs.length → w.cell? (x.add i) = some (.int k (zs.getD i 0))) ∧ ∀ n ∈ zs, (Lit.int k n).wf = true

set_option linter.unusedSimpArgs false
theorem nfld0 (q f0 f1 f2 f3 f4 f5 f6 f7 f8 f9 f10 f11 f12 f13 : Value) (w : World) : Sem.run Try.prog (Instr.field 50 (.agg #[q, f0, f1, f2, f3, f4, f5, f6, f7, f8, f9, f10, f11, f12, f13]) 0) w = .ok q w := by
  simp [Instr.field, asAgg, part, go_sem]
theorem nr_form {t : TypeId} {w : World} {B : Nat} {q : Int} {s : DSegm} {bag : List DSegm} {dead : List Bool} {N : Array Value} (h : (shNR t).Rd w B (q, s, (bag, dead, ()), ()) N.toList) : N[0]? = some (.int .i64 q) ∧ ∃ va vc da dc, N[13]? = some (.slice va bag.length vc) ∧ N[14]? = some (.slice da dead.length dc) ∧ shSegms.Rd w B bag [.slice va bag.length vc] ∧ (bls t).Rd w B dead [.slice da dead.length dc] := by
  obtain ⟨S, M, e, hS, hM, -, hn⟩ := rd_NR h
  obtain ⟨va, vc, da, dc, eM, r1, r2⟩ := rd_Net hn
  subst eM
  refine ⟨get_of e 0, va, vc, da, dc, ?_, ?_, r1, r2⟩
  · rw [get_of e, List.getElem?_cons_succ, List.getElem?_append_right (by omega), hS]; rfl
  · rw [get_of e, List.getElem?_cons_succ, List.getElem?_append_right (by omega), hS]; rfl
theorem nr_arr {N : Array Value} {q : Value} (hz : N.size = 15) (h0 : N[0]? = some q) : ∃ f0 f1 f2 f3 f4 f5 f6 f7 f8 f9 f10 f11 f12 f13, N = #[q, f0, f1, f2, f3, f4, f5, f6, f7, f8, f9, f10, f11, f12, f13] := by
  obtain ⟨l⟩ := N
  rw [List.size_toArray] at hz
  rcases l with _ | ⟨y, l⟩
  · simp at hz
  simp only [List.getElem?_toArray, List.getElem?_cons_zero, Option.some.injEq] at h0
  subst h0
  rcases l with _ | ⟨f0, l⟩
  · simp at hz
  rcases l with _ | ⟨f1, l⟩
  · simp at hz
  rcases l with _ | ⟨f2, l⟩
  · simp at hz
  rcases l with _ | ⟨f3, l⟩
  · simp at hz
  rcases l with _ | ⟨f4, l⟩
  · simp at hz
  rcases l with _ | ⟨f5, l⟩
  · simp at hz
  rcases l with _ | ⟨f6, l⟩
  · simp at hz
  rcases l with _ | ⟨f7, l⟩
  · simp at hz
  rcases l with _ | ⟨f8, l⟩
  · simp at hz
  rcases l with _ | ⟨f9, l⟩
  · simp at hz
  rcases l with _ | ⟨f10, l⟩
  · simp at hz
  rcases l with _ | ⟨f11, l⟩
  · simp at hz
  rcases l with _ | ⟨f12, l⟩
  · simp at hz
  rcases l with _ | ⟨f13, l⟩
  · simp at hz
  rcases l with _ | ⟨z, l⟩
  · exact ⟨f0, f1, f2, f3, f4, f5, f6, f7, f8, f9, f10, f11, f12, f13, rfl⟩
  · simp at hz
theorem nr_seg {t : TypeId} {w : World} {B : Nat} {q : Int} {x : DSegm} {n : DNet} {f0 f1 f2 f3 f4 f5 f6 f7 f8 f9 f10 f11 u v : Value} (h : (shNR t).Rd w B (q, x, n, ()) (#[.int .i64 q, f0, f1, f2, f3, f4, f5, f6, f7, f8, f9, f10, f11, u, v] : Array Value).toList) : shSegm.Rd w B x [f0, f1, f2, f3, f4, f5, f6, f7, f8, f9, f10, f11] := by
  obtain ⟨S, M, e, hS, hM, hs, -⟩ := rd_NR h
  have e2 : [f0, f1, f2, f3, f4, f5, f6, f7, f8, f9, f10, f11, u, v] = S ++ M := (List.cons.inj e).2
  have e3 : S = [f0, f1, f2, f3, f4, f5, f6, f7, f8, f9, f10, f11] := by
    have h1 : (S ++ M).take 12 = S := List.take_left' hS
    rw [← h1, ← e2]; rfl
  rw [← e3]; exact hs
theorem w64N {z : Int} (h0 : -9223372036854775808 ≤ z) (h1 : z ≤ 9223372036854775807) : IntKind.i64.wrap z = z := by simp only [IntKind.wrap, IntKind.bits, IntKind.signed]; simp; omega
theorem eqS_self (l : List Int) : eqS l l = true := by simp [eqS]
theorem same_self (s : Seg) (e : Bool) : sameS s s e = e := by simp [sameS]
theorem same_rd {B B' : Nat} {x : DSegm} {l l' : List Value} (W : World) (h : shSegm.Rd W B x l) (h' : shSegm.Rd W B' x l') : Calls Try.prog 27 #[.agg l.toArray, .agg l'.toArray] W fun e w' => e = .returned (.bool true) ∧ Below W.heap.size W w' := by
  obtain ⟨a, ca, ea, ra, na, -⟩ := seg_of (A := l.toArray) h
  obtain ⟨b, cb, eb, rb, nb, -⟩ := seg_of (A := l'.toArray) h'
  rw [ea, eb]
  have q := iSame (sgOf x) (sgOf x) a b _ _ ca cb W na nb ra rb
  rw [same_self, eqS_self] at q
  exact q
theorem seg_opt {w : World} {B : Nat} {x : DSegm} {cs : List Value} (h : shSegm.Rd w B x cs) : cs[8]? = some (.int .i64 x.2.2.2.2.2.2.2.2.1) := by
  obtain ⟨v, e, -⟩ := rd_Segment h
  rw [e]; rfl
set_option maxHeartbeats 16000000 in
set_option maxRecDepth 8000 in
theorem walk (a0 : Option Addr) (len0 cap0 : Nat) (z0 : List Int) (w : World) (w0 : IsRow .u8 w a0 len0 cap0 z0) :
    Calls Try.prog 5 #[.slice a0 len0 cap0] w fun e w' => e = .returned (.bool true) ∧ Below w.heap.size w w' := by
  have r0 : BRow .u8 w a0 len0 cap0 z0 := w0
  have hl := r0.lt
  by_cases hbig : 1048576 < len0
  · clear r0 hl w0
    go_enter Try.func5, Try.ntmps5
    go_wp2
    go_ret
    exact ⟨rfl, by go_grown⟩
  · clear w0
    obtain ⟨hrb, hlc⟩ := r0.rb
    have HAT : Hid (∀ (W : World) (i m : Int), Below w.heap.size w W → 0 ≤ i → i ≤ 100 → 1 ≤ m → m ≤ 200 → Calls Try.prog 15 #[.slice a0 len0 cap0, .int .i64 i, .int .i64 m] W fun e w' => ∃ r : Nat, e = .returned (.int .i64 r) ∧ (r : Int) < m ∧ Below W.heap.size W w') := fun W i m h h1 h2 h3 h4 => lLwAt a0 len0 cap0 _ i m W hlc (hrb.below (Nat.le_refl _) h) (by omega) h1 h2 h3 h4
    go_enter Try.func5, Try.ntmps5
    go_wp2_with (first | (go_at_call 7; go_in) | fail)
    refine (dPutNet a0 len0 cap0 z0 w r0 hl).mono ?_
    rintro e w1 ⟨x, A, l, v, rfl, hx, hv, htx, htl, b1⟩
    clear r0 hl hrb hlc
    obtain ⟨bag, dead, ⟨⟩⟩ := x
    obtain ⟨na, nc, da, dc, eA, rb, rd⟩ := rd_Net hx
    have eA2 : A = #[.slice na bag.length nc, .slice da dead.length dc] := arr_of eA
    subst eA2
    obtain ⟨la, lc, ev⟩ := row_form hv
    simp only [List.cons.injEq, and_true] at ev
    subst ev
    have HI : Hid (∀ W, Below w1.heap.size w1 W → Calls Try.prog 20 #[.agg #[.slice na bag.length nc, .slice da dead.length dc], .slice la l.length lc] W fun e w' => ∃ N : Array Value, e = .returned (.agg N) ∧ Own w' W.heap.size w'.heap.size (shNR 104) (putV (bag, dead, ()) l) N.toList ∧ Below W.heap.size W w') := fun W h => iPutNetA (bag, dead, ()) _ l _ W w1.heap.size (Sh.Rd.below hx (Nat.le_refl _) h) (show totNet (bag, dead, ()) ≤ 1048576 from Nat.le_trans htx (by decide)) (Sh.Rd.below hv (Nat.le_refl _) h) (by omega) h.size
    have HS : Hid (∀ W, Below w1.heap.size w1 W → Calls Try.prog 21 #[.agg #[.slice na bag.length nc, .slice da dead.length dc], .slice la l.length lc] W fun e w' => ∃ N : Array Value, e = .returned (.agg N) ∧ Own w' W.heap.size w'.heap.size (shNR 4) (putV (bag, dead, ()) l) N.toList ∧ Below W.heap.size W w') := fun W h => sPutNetA (bag, dead, ()) _ l _ W w1.heap.size (Sh.Rd.below hx (Nat.le_refl _) h) (show totNet (bag, dead, ()) ≤ 1048576 from Nat.le_trans htx (by decide)) (Sh.Rd.below hv (Nat.le_refl _) h) (by omega) h.size
    have HB1 : Hid (Below w.heap.size w w1) := b1
    have HTB : Hid (totNet (bag, dead, ()) ≤ 620 ∧ totSegms l ≤ 100) := ⟨htx, htl⟩
    have HPF : Hid ((putV (bag, dead, ()) l).1 = 0 → putV (bag, dead, ()) l = (0, zSg, (putN dead bag l, dead, ()), ()) ∧ netF (putN dead bag l) dead = 0 ∧ bag.length ≤ (putN dead bag l).length ∧ (putN dead bag l).length ≤ bag.length + l.length) := nets_put
    have HPT : Hid (totNR (putV (bag, dead, ()) l) ≤ 1048576) := putV_tot (by have h1 : totNet (bag, dead, ()) ≤ 620 := htx; omega)
    have hln : l.length ≤ 100 := by unfold totSegms at htl; omega
    have hf0 := nfld0
    clear hx hv htx htl b1 eA rb rd
    generalize bag.length = bn at *
    generalize l.length = ln at *
    generalize putN dead bag l = bg at *
    generalize hdn : dead.length = dn at *
    have HDN : Hid (dead.length = dn) := hdn
    clear hdn
    obtain ⟨x0, hx0⟩ : ∃ x : DNet, x = (bag, dead, ()) := ⟨_, rfl⟩
    rw [← hx0] at HI HS HTB HPF HPT
    clear hx0
    generalize putV x0 l = V at *
    go_upto_region 4 with fail
    obtain ⟨w2, hw2⟩ : ∃ W, w1.alloc (.cells #[.slice na bn nc, .slice da dn dc] 44) = W := ⟨_, rfl⟩
    have b2 : Below w1.heap.size w1 w2 := by rw [← hw2]; exact (Below.refl _ _).alloc (Nat.le_refl _) _
    have kX : ∀ o, w2.cell? ⟨w1.heap.size, o, none⟩ = (#[.slice na bn nc, .slice da dn dc] : Array Value)[o]? := by rw [← hw2]; exact bx_al _ _ _
    have zX : w1.heap.size < w2.heap.size := by rw [← hw2]; simp
    rw [hw2]
    clear hw2
    have D1 : Hid (Below w1.heap.size w1 w2) := b2
    have HB : Hid (Below w.heap.size w w2) := HB1.out.trans (b2.mono HB1.out.size)
    clear b2
    obtain ⟨bX, hbX⟩ : ∃ q, q = w1.heap.size := ⟨_, rfl⟩
    have hbX1 : w1.heap.size ≤ bX := Nat.le_of_eq hbX.symm
    rw [← hbX] at kX zX ⊢
    clear hbX
    go_wp2_with fail
    refine (HI.out _ D1.out).mono ?_
    rintro e w3 ⟨N, rfl, ho, hb⟩
    clear HI
    obtain ⟨q, sg, ⟨bg1, dd1, ⟨⟩⟩, ⟨⟩⟩ := V
    obtain ⟨hN0, va, vc, da5, dc5, hN13, hN14, -, -⟩ := nr_form (ho.rd (Nat.le_refl _))
    have hNz : N.size = 15 := rd_size (ho.rd (Nat.le_refl _))
    obtain ⟨f0, f1, f2, f3, f4, f5, f6, f7, f8, f9, f10, f11, e12, e13, hNe⟩ := nr_arr hNz hN0
    subst hNe
    simp only [List.getElem?_toArray, List.getElem?_cons_succ, List.getElem?_cons_zero, Option.some.injEq] at hN13 hN14
    subst hN13 hN14
    have HNZ : Hid ((#[.int .i64 q, f0, f1, f2, f3, f4, f5, f6, f7, f8, f9, f10, f11, .slice va bg1.length vc, .slice da5 dd1.length dc5] : Array Value).size = 15) := hNz
    have HIN : Hid ((Try.prog.info? 50).map (·.size) = some (#[.int .i64 q, f0, f1, f2, f3, f4, f5, f6, f7, f8, f9, f10, f11, .slice va bg1.length vc, .slice da5 dd1.length dc5] : Array Value).size) := by show _ = _; rw [hNz]; exact (by kernel_rfl : (Try.prog.info? 50).map (·.size) = some 15)
    have HON : Hid ((#[.int .i64 q, f0, f1, f2, f3, f4, f5, f6, f7, f8, f9, f10, f11, .slice va bg1.length vc, .slice da5 dd1.length dc5] : Array Value).all (·.oneCell') = true) := rd_all (ho.rd (Nat.le_refl _))
    have HON5 : Hid (∀ W, Below w3.heap.size w3 W → (shNR 104).Rd W w3.heap.size (q, sg, (bg1, dd1, ()), ()) (#[.int .i64 q, f0, f1, f2, f3, f4, f5, f6, f7, f8, f9, f10, f11, .slice va bg1.length vc, .slice da5 dd1.length dc5] : Array Value).toList) := fun W hW => Sh.Rd.below (ho.rd (Nat.le_refl _)) (Nat.le_refl _) hW
    clear ho hNz hN0
    replace D1 : Hid (Below w1.heap.size w1 w3) := D1.out.trans (hb.mono D1.out.size)
    replace kX := bx_below kX zX hb
    replace zX := Nat.lt_of_lt_of_le zX hb.size
    replace HB : Hid (Below w.heap.size w w3) := HB.out.trans (hb.mono HB.out.size)
    clear hb
    have HB0 : Hid (Below w.heap.size w w) := Below.refl _ _
    have D3 : Hid (Below w3.heap.size w3 w3) := Below.refl _ _
    have HTH : Hid ((w3.alloc (.cells #[.int .i64 0, .int .i64 0, .int .i64 0, .bool false, .bool false, .bool false, .int .i64 0, .int .i64 0, .int .i64 0, .int .i64 0, .int .i64 0, .int .i64 0, .slice none 0 0, .slice none 0 0, .slice none 0 0] 50)).there w3.heap.size 0 (#[.int .i64 q, f0, f1, f2, f3, f4, f5, f6, f7, f8, f9, f10, f11, .slice va bg1.length vc, .slice da5 dd1.length dc5] : Array Value).size) := bx_there (bx_al _ _ _) (fx_al _ _ _) (by rw [HNZ.out]; rfl)
    have HWN : Hid (Below w3.heap.size w3 ((w3.alloc (.cells #[.int .i64 0, .int .i64 0, .int .i64 0, .bool false, .bool false, .bool false, .int .i64 0, .int .i64 0, .int .i64 0, .int .i64 0, .int .i64 0, .int .i64 0, .slice none 0 0, .slice none 0 0, .slice none 0 0] 50)).setCells w3.heap.size 0 (#[.int .i64 q, f0, f1, f2, f3, f4, f5, f6, f7, f8, f9, f10, f11, .slice va bg1.length vc, .slice da5 dd1.length dc5] : Array Value).toList) ∧ w3.heap.size < ((w3.alloc (.cells #[.int .i64 0, .int .i64 0, .int .i64 0, .bool false, .bool false, .bool false, .int .i64 0, .int .i64 0, .int .i64 0, .int .i64 0, .int .i64 0, .int .i64 0, .slice none 0 0, .slice none 0 0, .slice none 0 0] 50)).setCells w3.heap.size 0 (#[.int .i64 q, f0, f1, f2, f3, f4, f5, f6, f7, f8, f9, f10, f11, .slice va bg1.length vc, .slice da5 dd1.length dc5] : Array Value).toList).heap.size ∧ (∀ o, ((w3.alloc (.cells #[.int .i64 0, .int .i64 0, .int .i64 0, .bool false, .bool false, .bool false, .int .i64 0, .int .i64 0, .int .i64 0, .int .i64 0, .int .i64 0, .int .i64 0, .slice none 0 0, .slice none 0 0, .slice none 0 0] 50)).setCells w3.heap.size 0 (#[.int .i64 q, f0, f1, f2, f3, f4, f5, f6, f7, f8, f9, f10, f11, .slice va bg1.length vc, .slice da5 dd1.length dc5] : Array Value).toList).cell? ⟨w3.heap.size, o, none⟩ = (#[.int .i64 q, f0, f1, f2, f3, f4, f5, f6, f7, f8, f9, f10, f11, .slice va bg1.length vc, .slice da5 dd1.length dc5] : Array Value)[o]?) ∧ (∀ o, ((w3.alloc (.cells #[.int .i64 0, .int .i64 0, .int .i64 0, .bool false, .bool false, .bool false, .int .i64 0, .int .i64 0, .int .i64 0, .int .i64 0, .int .i64 0, .int .i64 0, .slice none 0 0, .slice none 0 0, .slice none 0 0] 50)).setCells w3.heap.size 0 (#[.int .i64 q, f0, f1, f2, f3, f4, f5, f6, f7, f8, f9, f10, f11, .slice va bg1.length vc, .slice da5 dd1.length dc5] : Array Value).toList).frozen? ⟨w3.heap.size, o, none⟩ = false)) := ⟨setCells_below (Nat.le_refl _) _ _ _ _ ((Below.refl _ _).alloc (Nat.le_refl _) _), by rw [setCells_size]; simp, bx_setCells (bx_al w3 _ _) (by rw [HNZ.out]; rfl), fx_sets (fx_al _ _ _)⟩
    go_upto_region 5 with (first | (refine wpList_store_mid rfl 50 _ _ rfl _ _ (#[.int .i64 q, f0, f1, f2, f3, f4, f5, f6, f7, f8, f9, f10, f11, .slice va bg1.length vc, .slice da5 dd1.length dc5] : Array Value) (by rfl) (by rfl) HTH.out HIN.out HON.out ?_))
    generalize hWW : ((w3.alloc (.cells #[.int .i64 0, .int .i64 0, .int .i64 0, .bool false, .bool false, .bool false, .int .i64 0, .int .i64 0, .int .i64 0, .int .i64 0, .int .i64 0, .int .i64 0, .slice none 0 0, .slice none 0 0, .slice none 0 0] 50)).setCells w3.heap.size 0 (#[.int .i64 q, f0, f1, f2, f3, f4, f5, f6, f7, f8, f9, f10, f11, .slice va bg1.length vc, .slice da5 dd1.length dc5] : Array Value).toList) = w4 at HWN ⊢
    clear hWW HTH
    obtain ⟨hb, zR, kR, fR⟩ := HWN.out
    clear HWN
    obtain ⟨bR, hq⟩ : ∃ q, q = w3.heap.size := ⟨_, rfl⟩
    rw [← hq] at zR kR fR ⊢
    have lXR : bX < bR := by rw [hq]; exact zX
    have lwR : w.heap.size ≤ bR := by rw [hq]; exact HB.out.size
    clear hq
    replace D1 : Hid (Below w1.heap.size w1 w4) := D1.out.trans (hb.mono D1.out.size)
    replace D3 : Hid (Below w3.heap.size w3 w4) := D3.out.trans (hb.mono D3.out.size)
    replace kX := bx_below kX zX hb
    replace zX := Nat.lt_of_lt_of_le zX hb.size
    replace HB : Hid (Below w.heap.size w w4) := HB.out.trans (hb.mono HB.out.size)
    clear hb
    have HSQ : Hid (∀ W, Below w1.heap.size w1 W → Calls Try.prog 21 #[.agg #[.slice na bn nc, .slice da dn dc], .slice la ln lc] W fun e w' => ∃ g0 g1 g2 g3 g4 g5 g6 g7 g8 g9 g10 g11 g12 g13 : Value, e = .returned (.agg #[.int .i64 q, g0, g1, g2, g3, g4, g5, g6, g7, g8, g9, g10, g11, g12, g13]) ∧ Below W.heap.size W w') := fun W h => (HS.out W h).mono (by
      rintro e w' ⟨N, he, ho, hb⟩
      obtain ⟨h0, -⟩ := nr_form (ho.rd (Nat.le_refl _))
      obtain ⟨g0, g1, g2, g3, g4, g5, g6, g7, g8, g9, g10, g11, g12, g13, hN⟩ := nr_arr (rd_size (ho.rd (Nat.le_refl _))) h0
      subst hN
      exact ⟨_, _, _, _, _, _, _, _, _, _, _, _, _, _, he, hb⟩)
    clear HS
    by_cases hq : q = 0
    case neg =>
      have hq' : (q != 0) = true := by simp [hq]
      clear HPF
      go_upto_region 6 with fail
      refine wp_region_noPanic ?_
      refine Goes.start (S := fun w' => Below w4.heap.size w4 w') (z := 100) (by kernel_rfl) ?_
      refine Goes.take (i := 0) (oi := ?oi101) (x := ?vx101) ?ho101 (by kernel_rfl) (by kernel_rfl) (by kernel_rfl) (by kernel_rfl) (fun _ _ _ h => h) (Or.inl ⟨?hw101, ?hy101⟩) (Below.drew (Below.refl _ _)) ?rest101
      case ho101 => (simp only [List.getElem?_toArray, List.getElem?_cons_zero] <;> rfl)
      case hw101 => rfl
      case hy101 => (intro w' hSw; have jX := fun o => (hSw.cell (p := ⟨bX, o, none⟩) zX).trans (kX o); have jR := fun o => (hSw.cell (p := ⟨bR, o, none⟩) zR).trans (kR o); go_simp; (try with_reducible rfl))
      case rest101 =>
      (try simp only [Act.put, List.setIfInBounds_toArray, List.set_cons_zero, List.set_cons_succ])
      refine Goes.take (i := 1) (oi := ?oi102) (x := ?vx102) ?ho102 (by kernel_rfl) (by kernel_rfl) (by kernel_rfl) (by kernel_rfl) (fun _ _ _ h => h) (Or.inl ⟨?hw102, ?hy102⟩) (Below.drew (Below.refl _ _)) ?rest102
      case ho102 => (simp only [List.getElem?_toArray, List.getElem?_cons_succ, List.getElem?_cons_zero] <;> rfl)
      case hw102 => rfl
      case hy102 => (intro w' hSw; have jX := fun o => (hSw.cell (p := ⟨bX, o, none⟩) zX).trans (kX o); have jR := fun o => (hSw.cell (p := ⟨bR, o, none⟩) zR).trans (kR o); go_simp; (try with_reducible rfl))
      case rest102 =>
      (try simp only [Act.put, List.setIfInBounds_toArray, List.set_cons_zero, List.set_cons_succ])
      refine Goes.take (i := 4) (oi := ?oi103) (x := ?vx103) ?ho103 (by kernel_rfl) (by kernel_rfl) (by kernel_rfl) (by kernel_rfl) (fun _ _ _ h => h) (Or.inl ⟨?hw103, ?hy103⟩) (Below.drew (Below.refl _ _)) ?rest103
      case ho103 => (simp only [List.getElem?_toArray, List.getElem?_cons_succ, List.getElem?_cons_zero] <;> rfl)
      case hw103 => rfl
      case hy103 => (intro w' hSw; have jX := fun o => (hSw.cell (p := ⟨bX, o, none⟩) zX).trans (kX o); have jR := fun o => (hSw.cell (p := ⟨bR, o, none⟩) zR).trans (kR o); go_simp; (try with_reducible rfl))
      case rest103 =>
      (try simp only [Act.put, List.setIfInBounds_toArray, List.set_cons_zero, List.set_cons_succ])
      refine Goes.take (i := 5) (oi := ?oi104) (x := ?vx104) ?ho104 (by kernel_rfl) (by kernel_rfl) (by kernel_rfl) (by kernel_rfl) (fun _ _ _ h => h) (Or.inl ⟨?hw104, ?hy104⟩) (Below.drew (Below.refl _ _)) ?rest104
      case ho104 => (simp only [List.getElem?_toArray, List.getElem?_cons_succ, List.getElem?_cons_zero] <;> rfl)
      case hw104 => rfl
      case hy104 => (intro w' hSw; have jX := fun o => (hSw.cell (p := ⟨bX, o, none⟩) zX).trans (kX o); have jR := fun o => (hSw.cell (p := ⟨bR, o, none⟩) zR).trans (kR o); go_simp; (try with_reducible rfl))
      case rest104 =>
      (try simp only [Act.put, List.setIfInBounds_toArray, List.set_cons_zero, List.set_cons_succ])
      refine Goes.all (rs := [2]) (by kernel_rfl) (by simp) ?_
      refine Ups.cons (i := 2) (o := ?oo105) ?ho105 (fun KK hKK => ?stp105) Ups.nil
      case ho105 => (simp only [List.getElem?_toArray, List.getElem?_cons_succ, List.getElem?_cons_zero] <;> rfl)
      case stp105 =>
      go_simp
      go_at_call 21
      refine (HSQ.out _ (D1.out.trans ((Below.drew (Below.refl _ _)).mono D1.out.size))).mono ?_
      rintro e w5 ⟨g0, g1, g2, g3, g4, g5, g6, g7, g8, g9, g10, g11, g12, g13, rfl, hbq⟩
      replace hbq := (Below.drew (Below.refl w4.heap.size w4)).trans hbq
      have HS105 : Hid (Below w4.heap.size w4 w5) := hbq
      clear hbq
      dsimp only
      refine hKK.out _ _ (Or.inr HS105.out) ?_
      clear hKK KK
      (try simp only [Act.put, List.setIfInBounds_toArray, List.set_cons_zero, List.set_cons_succ])
      refine Goes.take (i := 3) (oi := ?oi106) (x := ?vx106) ?ho106 (by kernel_rfl) (by kernel_rfl) (by kernel_rfl) (by kernel_rfl) (fun _ _ _ h => h) (Or.inl ⟨?hw106, ?hy106⟩) HS105.out ?rest106
      case ho106 => (simp only [List.getElem?_toArray, List.getElem?_cons_succ, List.getElem?_cons_zero] <;> rfl)
      case hw106 => rfl
      case hy106 => (intro w' hSw; have jX := fun o => (hSw.cell (p := ⟨bX, o, none⟩) zX).trans (kX o); have jR := fun o => (hSw.cell (p := ⟨bR, o, none⟩) zR).trans (kR o); go_simp; (try with_reducible rfl))
      case rest106 =>
      (try simp only [Act.put, List.setIfInBounds_toArray, List.set_cons_zero, List.set_cons_succ])
      refine Goes.take (i := 6) (oi := ?oi107) (x := ?vx107) ?ho107 (by kernel_rfl) (by kernel_rfl) (by kernel_rfl) (by kernel_rfl) (fun _ _ _ h => h) (Or.inl ⟨?hw107, ?hy107⟩) HS105.out ?rest107
      case ho107 => (simp only [List.getElem?_toArray, List.getElem?_cons_succ, List.getElem?_cons_zero] <;> rfl)
      case hw107 => rfl
      case hy107 => (intro w' hSw; have jX := fun o => (hSw.cell (p := ⟨bX, o, none⟩) zX).trans (kX o); have jR := fun o => (hSw.cell (p := ⟨bR, o, none⟩) zR).trans (kR o); go_simp; (try with_reducible rfl))
      case rest107 =>
      (try simp only [Act.put, List.setIfInBounds_toArray, List.set_cons_zero, List.set_cons_succ])
      refine Goes.take (i := 7) (oi := ?oi108) (x := ?vx108) ?ho108 (by kernel_rfl) (by kernel_rfl) (by kernel_rfl) (by kernel_rfl) (fun _ _ _ h => h) (Or.inl ⟨?hw108, ?hy108⟩) HS105.out ?rest108
      case ho108 => (simp only [List.getElem?_toArray, List.getElem?_cons_succ, List.getElem?_cons_zero] <;> rfl)
      case hw108 => rfl
      case hy108 => (intro w' hSw; have jX := fun o => (hSw.cell (p := ⟨bX, o, none⟩) zX).trans (kX o); have jR := fun o => (hSw.cell (p := ⟨bR, o, none⟩) zR).trans (kR o); go_simp; (try with_reducible rfl))
      case rest108 =>
      (try simp only [Act.put, List.setIfInBounds_toArray, List.set_cons_zero, List.set_cons_succ])
      refine Goes.done (by kernel_rfl) ?_ _
      refine NoPanic.normal ?_
      have HE : Hid (Below w4.heap.size w4 w5) := HS105.out
      go_wp2_with fail
      go_ret
      exact ⟨rfl, HB.out.trans (HE.out.mono HB.out.size)⟩
    clear HSQ hf0
    subst hq
    obtain ⟨e, hF, hL1, hL2⟩ := HPF.out rfl
    simp only [Prod.mk.injEq, and_true, true_and] at e
    obtain ⟨rfl, rfl, rfl⟩ := e
    clear HPF HTB
    have hto : totNet (bg1, dd1, ()) ≤ 1048576 := by have h := HPT.out; unfold totNR at h; exact Nat.le_trans (Nat.le_add_left _ _) h
    have HNET : Hid (∀ W, Below w3.heap.size w3 W → shNet.Rd W W.heap.size (bg1, dd1, ()) (#[.slice va bg1.length vc, .slice da5 dd1.length dc5] : Array Value).toList) := fun W hW => by
      obtain ⟨-, a1, c1, a2, c2, e13, e14, r1, r2⟩ := nr_form (HON5.out W hW)
      simp only [List.getElem?_toArray, List.getElem?_cons_succ, List.getElem?_cons_zero, Option.some.injEq, Value.slice.injEq, true_and] at e13 e14
      obtain ⟨rfl, rfl⟩ := e13
      obtain ⟨rfl, rfl⟩ := e14
      exact ⟨[_], [_], rfl, Sh.Rd.mono hW.size _ _ _ r1, [_], [], rfl, Sh.Rd.mono hW.size _ _ _ (bls_t r2), rfl⟩
    have HF5 : Hid (∀ W, Below w3.heap.size w3 W → Calls Try.prog 23 #[.agg #[.slice va bg1.length vc, .slice da5 dd1.length dc5]] W fun e w' => e = .returned (.int .i64 0) ∧ Below W.heap.size W w') := fun W h => by have hq := iNetFaultA (bg1, dd1, ()) _ W W.heap.size (HNET.out W h) (Nat.le_refl _) hto; rw [show netF (bg1, dd1, ()).1 (bg1, dd1, ()).2.1 = 0 from hF] at hq; exact hq
    have HKP : Hid (∀ W (k : Nat), Below w3.heap.size w3 W → k < 3 → Calls Try.prog 22 #[.agg #[.slice va bg1.length vc, .slice da5 dd1.length dc5], .int .i64 k] W fun e w' => ∃ N : Array Value, e = .returned (.agg N) ∧ Own w' W.heap.size w'.heap.size (shNR 104) (0, zSg, (killF (k : Int) bg1, dd1.set k true, ()), ()) N.toList ∧ Below W.heap.size W w') := fun W k h hk => by have hq := iKillPathA (bg1, dd1, ()) _ (k : Int) W W.heap.size (HNET.out W h) hto (Nat.le_refl _); rw [(nets_kill hF hk).1] at hq; exact hq
    have HTK : Hid (∀ W (k : Nat), Below w3.heap.size w3 W → (hk : k < bg1.length) → Calls Try.prog 24 #[.agg #[.slice va bg1.length vc, .slice da5 dd1.length dc5], .int .i64 k] W fun e w' => ∃ N : Array Value, e = .returned (.agg N) ∧ Own w' W.heap.size w'.heap.size (shNR 104) (0, bg1[k], (bg1.eraseIdx k, dd1, ()), ()) N.toList ∧ Below W.heap.size W w') := fun W k h hk => by have hq := iTakeNetA (bg1, dd1, ()) _ (k : Int) W W.heap.size (HNET.out W h) hto (Nat.le_refl _); rw [(nets_take hF hk).1] at hq; exact hq
    have HTN : Hid (bg1 = [] → ∀ W, Below w3.heap.size w3 W → Calls Try.prog 24 #[.agg #[.slice va bg1.length vc, .slice da5 dd1.length dc5], .int .i64 0] W fun e w' => ∃ N : Array Value, e = .returned (.agg N) ∧ Own w' W.heap.size w'.heap.size (shNR 104) (badN 4) N.toList ∧ Below W.heap.size W w') := fun he W h => by have hq := iTakeNetA (bg1, dd1, ()) _ 0 W W.heap.size (HNET.out W h) hto (Nat.le_refl _); rw [show takV (bg1, dd1, ()) 0 = badN 4 by rw [he] at hF ⊢; exact nets_none hF] at hq; exact hq
    have HCP : Hid (∀ W (k : Nat), Below w3.heap.size w3 W → (hk : k < bg1.length) → Calls Try.prog 25 #[.agg #[.slice va bg1.length vc, .slice da5 dd1.length dc5], .int .i64 k] W fun e w' => ∃ N : Array Value, e = .returned (.agg N) ∧ Own w' W.heap.size w'.heap.size (shNR 104) (if bg1.length = 60 then badN 2 else (0, zSg, (bg1 ++ [bg1[k]], dd1, ()), ())) N.toList ∧ Below W.heap.size W w') := fun W k h hk => by have hq := iCopyNetA (bg1, dd1, ()) _ (k : Int) W W.heap.size (HNET.out W h) hto (Nat.le_refl _); rw [nets_copy hF hk] at hq; exact hq
    have HSP : Hid (∀ W (k : Nat), Below w3.heap.size w3 W → (hk : k < bg1.length) → Calls Try.prog 26 #[.agg #[.slice va bg1.length vc, .slice da5 dd1.length dc5], .int .i64 k] W fun e w' => ∃ N : Array Value, e = .returned (.agg N) ∧ Own w' W.heap.size w'.heap.size (shNR 104) (0, zSg, (bg1.set k (stSg bg1[k]), dd1, ()), ()) N.toList ∧ Below W.heap.size W w') := fun W k h hk => by have hq := iStripNetA (bg1, dd1, ()) _ (k : Int) W W.heap.size (HNET.out W h) hto (Nat.le_refl _); rw [nets_strip hF hk] at hq; exact hq
    have HFF : Hid (netF bg1 dd1 = 0) := hF
    have HLL : Hid (bn ≤ bg1.length ∧ bg1.length ≤ bn + ln) := ⟨hL1, hL2⟩
    have h60 : bg1.length ≤ 60 := (netF_ok hF).1
    clear hF hL1 hL2 hto HPT HON5
    go_wp2_with fail
    refine (HAT.out _ 1 3 HB.out (by omega) (by omega) (by omega) (by omega)).mono ?_
    rintro e w5 ⟨p, rfl, hp, hb⟩
    have hp3 : p < 3 := by omega
    replace D1 : Hid (Below w1.heap.size w1 w5) := D1.out.trans (hb.mono D1.out.size)
    replace D3 : Hid (Below w3.heap.size w3 w5) := D3.out.trans (hb.mono D3.out.size)
    replace kX := bx_below kX zX hb
    replace zX := Nat.lt_of_lt_of_le zX hb.size
    replace kR := bx_below kR zR hb
    replace fR := bxF fR hb zR
    replace zR := Nat.lt_of_lt_of_le zR hb.size
    replace HB : Hid (Below w.heap.size w w5) := HB.out.trans (hb.mono HB.out.size)
    clear hb
    go_wp2_with fail
    obtain ⟨-, hK0, hKL, hKD, hK3⟩ := nets_kill HFF.out hp3
    have HK0 : Hid _ := hK0
    have HKL : Hid _ := hKL
    have HKD : Hid _ := hKD
    have HK3 : Hid _ := hK3
    have HKQ := HKP.out w5 p D3.out hp3
    clear hK0 hKL hKD hK3 HKP
    generalize killF (p : Int) bg1 = kl at *
    generalize dd1.set p true = dk at *
    refine HKQ.mono ?_
    rintro e w6 ⟨N, rfl, ho, hb⟩
    clear HKQ
    obtain ⟨hN0, vh, ch, dh, eh, hN13, hN14, -, -⟩ := nr_form (ho.rd (Nat.le_refl _))
    have hNz : N.size = 15 := rd_size (ho.rd (Nat.le_refl _))
    obtain ⟨h0, h1, h2, h3, h4, h5, h6, h7, h8, h9, h10, h11, e12, e13, hNe⟩ := nr_arr hNz hN0
    subst hNe
    simp only [List.getElem?_toArray, List.getElem?_cons_succ, List.getElem?_cons_zero, Option.some.injEq] at hN13 hN14
    subst hN13 hN14
    have HZh : Hid ((#[.int .i64 0, h0, h1, h2, h3, h4, h5, h6, h7, h8, h9, h10, h11, .slice vh kl.length ch, .slice dh dk.length eh] : Array Value).size = 15) := hNz
    have HIh : Hid ((Try.prog.info? 50).map (·.size) = some (#[.int .i64 0, h0, h1, h2, h3, h4, h5, h6, h7, h8, h9, h10, h11, .slice vh kl.length ch, .slice dh dk.length eh] : Array Value).size) := by show _ = _; rw [hNz]; exact (by kernel_rfl : (Try.prog.info? 50).map (·.size) = some 15)
    have HOh : Hid ((#[.int .i64 0, h0, h1, h2, h3, h4, h5, h6, h7, h8, h9, h10, h11, .slice vh kl.length ch, .slice dh dk.length eh] : Array Value).all (·.oneCell') = true) := rd_all (ho.rd (Nat.le_refl _))
    have HRh : Hid (∀ W, Below w6.heap.size w6 W → (shNR 104).Rd W w6.heap.size (0, zSg, (kl, dk, ()), ()) (#[.int .i64 0, h0, h1, h2, h3, h4, h5, h6, h7, h8, h9, h10, h11, .slice vh kl.length ch, .slice dh dk.length eh] : Array Value).toList) := fun W hW => Sh.Rd.below (ho.rd (Nat.le_refl _)) (Nat.le_refl _) hW
    clear ho hNz hN0
    replace D1 : Hid (Below w1.heap.size w1 w6) := D1.out.trans (hb.mono D1.out.size)
    replace D3 : Hid (Below w3.heap.size w3 w6) := D3.out.trans (hb.mono D3.out.size)
    replace kX := bx_below kX zX hb
    replace zX := Nat.lt_of_lt_of_le zX hb.size
    replace kR := bx_below kR zR hb
    replace fR := bxF fR hb zR
    replace zR := Nat.lt_of_lt_of_le zR hb.size
    replace HB : Hid (Below w.heap.size w w6) := HB.out.trans (hb.mono HB.out.size)
    clear hb
    have Dh : Hid (Below w6.heap.size w6 w6) := Below.refl _ _
    have HTH : Hid ((w6.alloc (.cells #[.int .i64 0, .int .i64 0, .int .i64 0, .bool false, .bool false, .bool false, .int .i64 0, .int .i64 0, .int .i64 0, .int .i64 0, .int .i64 0, .int .i64 0, .slice none 0 0, .slice none 0 0, .slice none 0 0] 50)).there w6.heap.size 0 (#[.int .i64 0, h0, h1, h2, h3, h4, h5, h6, h7, h8, h9, h10, h11, .slice vh kl.length ch, .slice dh dk.length eh] : Array Value).size) := bx_there (bx_al _ _ _) (fx_al _ _ _) (by rw [HZh.out]; rfl)
    have HWN : Hid (Below w6.heap.size w6 ((w6.alloc (.cells #[.int .i64 0, .int .i64 0, .int .i64 0, .bool false, .bool false, .bool false, .int .i64 0, .int .i64 0, .int .i64 0, .int .i64 0, .int .i64 0, .int .i64 0, .slice none 0 0, .slice none 0 0, .slice none 0 0] 50)).setCells w6.heap.size 0 (#[.int .i64 0, h0, h1, h2, h3, h4, h5, h6, h7, h8, h9, h10, h11, .slice vh kl.length ch, .slice dh dk.length eh] : Array Value).toList) ∧ w6.heap.size < ((w6.alloc (.cells #[.int .i64 0, .int .i64 0, .int .i64 0, .bool false, .bool false, .bool false, .int .i64 0, .int .i64 0, .int .i64 0, .int .i64 0, .int .i64 0, .int .i64 0, .slice none 0 0, .slice none 0 0, .slice none 0 0] 50)).setCells w6.heap.size 0 (#[.int .i64 0, h0, h1, h2, h3, h4, h5, h6, h7, h8, h9, h10, h11, .slice vh kl.length ch, .slice dh dk.length eh] : Array Value).toList).heap.size ∧ (∀ o, ((w6.alloc (.cells #[.int .i64 0, .int .i64 0, .int .i64 0, .bool false, .bool false, .bool false, .int .i64 0, .int .i64 0, .int .i64 0, .int .i64 0, .int .i64 0, .int .i64 0, .slice none 0 0, .slice none 0 0, .slice none 0 0] 50)).setCells w6.heap.size 0 (#[.int .i64 0, h0, h1, h2, h3, h4, h5, h6, h7, h8, h9, h10, h11, .slice vh kl.length ch, .slice dh dk.length eh] : Array Value).toList).cell? ⟨w6.heap.size, o, none⟩ = (#[.int .i64 0, h0, h1, h2, h3, h4, h5, h6, h7, h8, h9, h10, h11, .slice vh kl.length ch, .slice dh dk.length eh] : Array Value)[o]?) ∧ (∀ o, ((w6.alloc (.cells #[.int .i64 0, .int .i64 0, .int .i64 0, .bool false, .bool false, .bool false, .int .i64 0, .int .i64 0, .int .i64 0, .int .i64 0, .int .i64 0, .int .i64 0, .slice none 0 0, .slice none 0 0, .slice none 0 0] 50)).setCells w6.heap.size 0 (#[.int .i64 0, h0, h1, h2, h3, h4, h5, h6, h7, h8, h9, h10, h11, .slice vh kl.length ch, .slice dh dk.length eh] : Array Value).toList).frozen? ⟨w6.heap.size, o, none⟩ = false)) := ⟨setCells_below (Nat.le_refl _) _ _ _ _ ((Below.refl _ _).alloc (Nat.le_refl _) _), by rw [setCells_size]; simp, bx_setCells (bx_al w6 _ _) (by rw [HZh.out]; rfl), fx_sets (fx_al _ _ _)⟩
    go_upto_region 9 with (first | (refine wpList_store_mid rfl 50 _ _ rfl _ _ (#[.int .i64 0, h0, h1, h2, h3, h4, h5, h6, h7, h8, h9, h10, h11, .slice vh kl.length ch, .slice dh dk.length eh] : Array Value) (by rfl) (by rfl) HTH.out HIh.out HOh.out ?_))
    generalize hWW : ((w6.alloc (.cells #[.int .i64 0, .int .i64 0, .int .i64 0, .bool false, .bool false, .bool false, .int .i64 0, .int .i64 0, .int .i64 0, .int .i64 0, .int .i64 0, .int .i64 0, .slice none 0 0, .slice none 0 0, .slice none 0 0] 50)).setCells w6.heap.size 0 (#[.int .i64 0, h0, h1, h2, h3, h4, h5, h6, h7, h8, h9, h10, h11, .slice vh kl.length ch, .slice dh dk.length eh] : Array Value).toList) = w7 at HWN ⊢
    clear hWW HTH
    obtain ⟨hb, zK, kK, fK⟩ := HWN.out
    clear HWN
    obtain ⟨bK, hq⟩ : ∃ q, q = w6.heap.size := ⟨_, rfl⟩
    rw [← hq] at zK kK fK ⊢
    have lXK : bX < bK := by rw [hq]; exact zX
    have lRK : bR < bK := by rw [hq]; exact zR
    have lwK : w.heap.size ≤ bK := by rw [hq]; exact HB.out.size
    clear hq
    replace D1 : Hid (Below w1.heap.size w1 w7) := D1.out.trans (hb.mono D1.out.size)
    replace D3 : Hid (Below w3.heap.size w3 w7) := D3.out.trans (hb.mono D3.out.size)
    replace Dh : Hid (Below w6.heap.size w6 w7) := Dh.out.trans (hb.mono Dh.out.size)
    replace kX := bx_below kX zX hb
    replace zX := Nat.lt_of_lt_of_le zX hb.size
    replace kR := bx_below kR zR hb
    replace fR := bxF fR hb zR
    replace zR := Nat.lt_of_lt_of_le zR hb.size
    replace HB : Hid (Below w.heap.size w w7) := HB.out.trans (hb.mono HB.out.size)
    clear hb
    have h60k : kl.length ≤ 60 := (netF_ok HK0.out).1
    go_wp2_with fail
    go_loopw [8] (fun i wr => ∃ k : Nat, k ≤ kl.length ∧ i = .int .i64 k ∧ w7 = wr) (fun i _ => kl.length - (intOf i).toNat)
    case atStart => exact ⟨0, Nat.zero_le _, rfl, rfl⟩
    case round =>
      obtain ⟨k, hk, rfl, rfl⟩ := hrel
      by_cases hlt : k < kl.length
      · obtain ⟨-, a1, c1, a2, c2, g13, -, hr1, -⟩ := nr_form (HRh.out w7 Dh.out)
        simp only [List.getElem?_toArray, List.getElem?_cons_succ, List.getElem?_cons_zero, Option.some.injEq, Value.slice.injEq, true_and] at g13
        obtain ⟨rfl, rfl⟩ := g13
        obtain ⟨bb, off, cs, ha, hbb, hlen, hrg, hrs⟩ := row_at hr1 k hlt
        subst ha
        have hrg' : w7.rangeAt bb (off + k * 12) cs := hrg
        have hcp : w7.cell? ⟨bb, off + k * 12, none⟩ = some (.int .i64 kl[k].1) := by have := hrg' 0 _ (seg_path hrs); simpa using this
        have hne : (kl[k].1 == (p : Int)) = false := by simpa using HKL.out _ (List.getElem_mem hlt)
        clear hrg hrs hlen hr1 hrg'
        generalize kl[k].1 = y at *
        have hk0 : (0 : Int) ≤ (k : Int) := by omega
        have hkn : (k : Int) < (kl.length : Int) := by omega
        go_wp2_with fail
        go_roundw
        case rel => exact ⟨k + 1, by omega, by go_num, trivial⟩
        case measure => simp [intOf]; omega
      · obtain rfl : k = kl.length := by omega
        clear hlt hk
        obtain ⟨-, a1, c1, a2, c2, -, g14, -, hr2⟩ := nr_form (HRh.out w7 Dh.out)
        simp only [List.getElem?_toArray, List.getElem?_cons_succ, List.getElem?_cons_zero, Option.some.injEq, Value.slice.injEq, true_and] at g14
        obtain ⟨rfl, rfl⟩ := g14
        obtain ⟨-, db, doff, hdh, -, -⟩ := dead_at hr2 HK3.out
        subst hdh
        clear hr2
        have HDC : Hid (∀ W, Below w6.heap.size w6 W → W.cell? ⟨db, doff + p, none⟩ = some (.bool true)) := fun W hW => by
          obtain ⟨-, a1, c1, a2, c2, -, g, -, hr⟩ := nr_form (HRh.out W hW)
          simp only [List.getElem?_toArray, List.getElem?_cons_succ, List.getElem?_cons_zero, Option.some.injEq, Value.slice.injEq, true_and] at g
          obtain ⟨rfl, rfl⟩ := g
          obtain ⟨-, db', doff', e, -, hc⟩ := dead_at hr HK3.out
          simp only [Option.some.injEq, Addr.mk.injEq, and_true] at e
          obtain ⟨rfl, rfl⟩ := e
          rw [hc p hp3, HKD.out]
        have HFK : Hid (∀ W, Below w6.heap.size w6 W → Calls Try.prog 23 #[.agg #[.slice vh kl.length ch, .slice (some ⟨db, doff, none⟩) dk.length eh]] W fun e w' => e = .returned (.int .i64 0) ∧ Below W.heap.size W w') := fun W hW => by
          obtain ⟨-, a1, c1, a2, c2, g13, g14, r1, r2⟩ := nr_form (HRh.out W hW)
          simp only [List.getElem?_toArray, List.getElem?_cons_succ, List.getElem?_cons_zero, Option.some.injEq, Value.slice.injEq, true_and] at g13 g14
          obtain ⟨rfl, rfl⟩ := g13
          obtain ⟨rfl, rfl⟩ := g14
          have hq := iNetFault _ kl dk _ _ W w6.heap.size r1 r2 hW.size
          rw [HK0.out] at hq
          exact hq
        have hpk : (p : Int) < (dk.length : Int) := by rw [HK3.out]; omega
        have hp0 : (0 : Int) ≤ (p : Int) := by omega
        have hl1 : decide ((bg1.length : Int) < (bn : Int)) = false := by have := HLL.out; simp; omega
        have hl2 : ¬ (bg1.length : Int) < (bn : Int) := by have := HLL.out; omega
        have hl3 : ¬ ((bn : Int) + (ln : Int) < (bg1.length : Int)) := by have := HLL.out; omega
        have hbn6 : bn ≤ 60 := by have := HLL.out; omega
        go_wp2_with fail
        refine (HF5.out _ D3.out).mono ?_
        rintro e w8 ⟨rfl, hb⟩
        replace D1 : Hid (Below w1.heap.size w1 w8) := D1.out.trans (hb.mono D1.out.size)
        replace D3 : Hid (Below w3.heap.size w3 w8) := D3.out.trans (hb.mono D3.out.size)
        replace Dh : Hid (Below w6.heap.size w6 w8) := Dh.out.trans (hb.mono Dh.out.size)
        replace kX := bx_below kX zX hb
        replace zX := Nat.lt_of_lt_of_le zX hb.size
        replace kR := bx_below kR zR hb
        replace fR := bxF fR hb zR
        replace zR := Nat.lt_of_lt_of_le zR hb.size
        replace kK := bx_below kK zK hb
        replace fK := bxF fK hb zK
        replace zK := Nat.lt_of_lt_of_le zK hb.size
        replace HB : Hid (Below w.heap.size w w8) := HB.out.trans (hb.mono HB.out.size)
        clear hb
        go_wp2_with fail
        refine (HFK.out _ Dh.out).mono ?_
        rintro e w9 ⟨rfl, hb⟩
        replace D1 : Hid (Below w1.heap.size w1 w9) := D1.out.trans (hb.mono D1.out.size)
        replace D3 : Hid (Below w3.heap.size w3 w9) := D3.out.trans (hb.mono D3.out.size)
        replace Dh : Hid (Below w6.heap.size w6 w9) := Dh.out.trans (hb.mono Dh.out.size)
        replace kX := bx_below kX zX hb
        replace zX := Nat.lt_of_lt_of_le zX hb.size
        replace kR := bx_below kR zR hb
        replace fR := bxF fR hb zR
        replace zR := Nat.lt_of_lt_of_le zR hb.size
        replace kK := bx_below kK zK hb
        replace fK := bxF fK hb zK
        replace zK := Nat.lt_of_lt_of_le zK hb.size
        replace HB : Hid (Below w.heap.size w w9) := HB.out.trans (hb.mono HB.out.size)
        clear hb
        have hdc := HDC.out w9 Dh.out
        go_upto_region 16 with fail
        clear hdc hpk hl1 hl2 hl3 HDC HFK HKL HKD HRh
        by_cases hm0 : bg1.length = 0
        · have HTN2 := HTN.out (List.length_eq_zero_iff.1 hm0)
          rw [hm0] at HTN2 kR
          have hf0 := nfld0
          go_wp2_with fail
          refine (HTN2 _ D3.out).mono ?_
          rintro e w10 ⟨N, rfl, ho0, hb⟩
          have ho : Own w10 w9.heap.size w10.heap.size (shNR 104) (4, zSg, ([], [], ()), ()) N.toList := ho0
          obtain ⟨hN0, -⟩ := nr_form (ho.rd (Nat.le_refl _))
          obtain ⟨g0, g1, g2, g3, g4, g5, g6, g7, g8, g9, g10, g11, g12, g13, hNe⟩ := nr_arr (rd_size (ho.rd (Nat.le_refl _))) hN0
          subst hNe
          have HE : Hid (Below w9.heap.size w9 w10) := hb
          clear ho ho0 hb hN0
          go_wp2_with fail
          go_ret
          exact ⟨rfl, HB.out.trans (HE.out.mono HB.out.size)⟩
        have hm1 : ((bg1.length : Int) == 0) = false := beq_eq_false_iff_ne.2 (by omega)
        have hm2 : ¬ (bg1.length : Int) = 0 := by omega
        clear HTN
        go_wp2_with fail
        refine (HAT.out _ 2 (bg1.length : Int) HB.out (by omega) (by omega) (by omega) (by omega)).mono ?_
        rintro e w10 ⟨at', rfl, hat, hb⟩
        have hat1 : at' < bg1.length := by omega
        replace D1 : Hid (Below w1.heap.size w1 w10) := D1.out.trans (hb.mono D1.out.size)
        replace D3 : Hid (Below w3.heap.size w3 w10) := D3.out.trans (hb.mono D3.out.size)
        replace Dh : Hid (Below w6.heap.size w6 w10) := Dh.out.trans (hb.mono Dh.out.size)
        replace kX := bx_below kX zX hb
        replace zX := Nat.lt_of_lt_of_le zX hb.size
        replace kR := bx_below kR zR hb
        replace fR := bxF fR hb zR
        replace zR := Nat.lt_of_lt_of_le zR hb.size
        replace kK := bx_below kK zK hb
        replace fK := bxF fK hb zK
        replace zK := Nat.lt_of_lt_of_le zK hb.size
        replace HB : Hid (Below w.heap.size w w10) := HB.out.trans (hb.mono HB.out.size)
        clear hb
        have HCQ := HCP.out w10 at' D3.out hat1
        obtain ⟨VC, hVC⟩ : ∃ V : DNR, V = (if bg1.length = 60 then badN 2 else (0, zSg, (bg1 ++ [bg1[at']], dd1, ()), ())) := ⟨_, rfl⟩
        rw [← hVC] at HCQ
        have HVV : Hid _ := hVC
        clear hVC HCP
        obtain ⟨qc, sgc, ⟨bgc, ddc, ⟨⟩⟩, ⟨⟩⟩ := VC
        go_wp2_with fail
        refine HCQ.mono ?_
        rintro e w11 ⟨N, rfl, ho, hb⟩
        clear HCQ
        obtain ⟨hN0, vm, cm, dm, em, hN13, hN14, -, -⟩ := nr_form (ho.rd (Nat.le_refl _))
        have hNz : N.size = 15 := rd_size (ho.rd (Nat.le_refl _))
        obtain ⟨m0, m1, m2, m3, m4, m5, m6, m7, m8, m9, m10, m11, e12, e13, hNe⟩ := nr_arr hNz hN0
        subst hNe
        simp only [List.getElem?_toArray, List.getElem?_cons_succ, List.getElem?_cons_zero, Option.some.injEq] at hN13 hN14
        subst hN13 hN14
        have HZm : Hid ((#[.int .i64 qc, m0, m1, m2, m3, m4, m5, m6, m7, m8, m9, m10, m11, .slice vm bgc.length cm, .slice dm ddc.length em] : Array Value).size = 15) := hNz
        have HIm : Hid ((Try.prog.info? 50).map (·.size) = some (#[.int .i64 qc, m0, m1, m2, m3, m4, m5, m6, m7, m8, m9, m10, m11, .slice vm bgc.length cm, .slice dm ddc.length em] : Array Value).size) := by show _ = _; rw [hNz]; exact (by kernel_rfl : (Try.prog.info? 50).map (·.size) = some 15)
        have HOm : Hid ((#[.int .i64 qc, m0, m1, m2, m3, m4, m5, m6, m7, m8, m9, m10, m11, .slice vm bgc.length cm, .slice dm ddc.length em] : Array Value).all (·.oneCell') = true) := rd_all (ho.rd (Nat.le_refl _))
        have HRm : Hid (∀ W, Below w11.heap.size w11 W → (shNR 104).Rd W w11.heap.size (qc, sgc, (bgc, ddc, ()), ()) (#[.int .i64 qc, m0, m1, m2, m3, m4, m5, m6, m7, m8, m9, m10, m11, .slice vm bgc.length cm, .slice dm ddc.length em] : Array Value).toList) := fun W hW => Sh.Rd.below (ho.rd (Nat.le_refl _)) (Nat.le_refl _) hW
        clear ho hNz hN0
        replace D1 : Hid (Below w1.heap.size w1 w11) := D1.out.trans (hb.mono D1.out.size)
        replace D3 : Hid (Below w3.heap.size w3 w11) := D3.out.trans (hb.mono D3.out.size)
        replace Dh : Hid (Below w6.heap.size w6 w11) := Dh.out.trans (hb.mono Dh.out.size)
        replace kX := bx_below kX zX hb
        replace zX := Nat.lt_of_lt_of_le zX hb.size
        replace kR := bx_below kR zR hb
        replace fR := bxF fR hb zR
        replace zR := Nat.lt_of_lt_of_le zR hb.size
        replace kK := bx_below kK zK hb
        replace fK := bxF fK hb zK
        replace zK := Nat.lt_of_lt_of_le zK hb.size
        replace HB : Hid (Below w.heap.size w w11) := HB.out.trans (hb.mono HB.out.size)
        clear hb
        have Dm : Hid (Below w11.heap.size w11 w11) := Below.refl _ _
        have HTH : Hid ((w11.alloc (.cells #[.int .i64 0, .int .i64 0, .int .i64 0, .bool false, .bool false, .bool false, .int .i64 0, .int .i64 0, .int .i64 0, .int .i64 0, .int .i64 0, .int .i64 0, .slice none 0 0, .slice none 0 0, .slice none 0 0] 50)).there w11.heap.size 0 (#[.int .i64 qc, m0, m1, m2, m3, m4, m5, m6, m7, m8, m9, m10, m11, .slice vm bgc.length cm, .slice dm ddc.length em] : Array Value).size) := bx_there (bx_al _ _ _) (fx_al _ _ _) (by rw [HZm.out]; rfl)
        have HWN : Hid (Below w11.heap.size w11 ((w11.alloc (.cells #[.int .i64 0, .int .i64 0, .int .i64 0, .bool false, .bool false, .bool false, .int .i64 0, .int .i64 0, .int .i64 0, .int .i64 0, .int .i64 0, .int .i64 0, .slice none 0 0, .slice none 0 0, .slice none 0 0] 50)).setCells w11.heap.size 0 (#[.int .i64 qc, m0, m1, m2, m3, m4, m5, m6, m7, m8, m9, m10, m11, .slice vm bgc.length cm, .slice dm ddc.length em] : Array Value).toList) ∧ w11.heap.size < ((w11.alloc (.cells #[.int .i64 0, .int .i64 0, .int .i64 0, .bool false, .bool false, .bool false, .int .i64 0, .int .i64 0, .int .i64 0, .int .i64 0, .int .i64 0, .int .i64 0, .slice none 0 0, .slice none 0 0, .slice none 0 0] 50)).setCells w11.heap.size 0 (#[.int .i64 qc, m0, m1, m2, m3, m4, m5, m6, m7, m8, m9, m10, m11, .slice vm bgc.length cm, .slice dm ddc.length em] : Array Value).toList).heap.size ∧ (∀ o, ((w11.alloc (.cells #[.int .i64 0, .int .i64 0, .int .i64 0, .bool false, .bool false, .bool false, .int .i64 0, .int .i64 0, .int .i64 0, .int .i64 0, .int .i64 0, .int .i64 0, .slice none 0 0, .slice none 0 0, .slice none 0 0] 50)).setCells w11.heap.size 0 (#[.int .i64 qc, m0, m1, m2, m3, m4, m5, m6, m7, m8, m9, m10, m11, .slice vm bgc.length cm, .slice dm ddc.length em] : Array Value).toList).cell? ⟨w11.heap.size, o, none⟩ = (#[.int .i64 qc, m0, m1, m2, m3, m4, m5, m6, m7, m8, m9, m10, m11, .slice vm bgc.length cm, .slice dm ddc.length em] : Array Value)[o]?) ∧ (∀ o, ((w11.alloc (.cells #[.int .i64 0, .int .i64 0, .int .i64 0, .bool false, .bool false, .bool false, .int .i64 0, .int .i64 0, .int .i64 0, .int .i64 0, .int .i64 0, .int .i64 0, .slice none 0 0, .slice none 0 0, .slice none 0 0] 50)).setCells w11.heap.size 0 (#[.int .i64 qc, m0, m1, m2, m3, m4, m5, m6, m7, m8, m9, m10, m11, .slice vm bgc.length cm, .slice dm ddc.length em] : Array Value).toList).frozen? ⟨w11.heap.size, o, none⟩ = false)) := ⟨setCells_below (Nat.le_refl _) _ _ _ _ ((Below.refl _ _).alloc (Nat.le_refl _) _), by rw [setCells_size]; simp, bx_setCells (bx_al w11 _ _) (by rw [HZm.out]; rfl), fx_sets (fx_al _ _ _)⟩
        go_upto_region 20 with (first | (refine wpList_store_mid rfl 50 _ _ rfl _ _ (#[.int .i64 qc, m0, m1, m2, m3, m4, m5, m6, m7, m8, m9, m10, m11, .slice vm bgc.length cm, .slice dm ddc.length em] : Array Value) (by rfl) (by rfl) HTH.out HIm.out HOm.out ?_))
        generalize hWW : ((w11.alloc (.cells #[.int .i64 0, .int .i64 0, .int .i64 0, .bool false, .bool false, .bool false, .int .i64 0, .int .i64 0, .int .i64 0, .int .i64 0, .int .i64 0, .int .i64 0, .slice none 0 0, .slice none 0 0, .slice none 0 0] 50)).setCells w11.heap.size 0 (#[.int .i64 qc, m0, m1, m2, m3, m4, m5, m6, m7, m8, m9, m10, m11, .slice vm bgc.length cm, .slice dm ddc.length em] : Array Value).toList) = w12 at HWN ⊢
        clear hWW HTH
        obtain ⟨hb, zC, kC, fC⟩ := HWN.out
        clear HWN
        obtain ⟨bC, hq⟩ : ∃ q, q = w11.heap.size := ⟨_, rfl⟩
        rw [← hq] at zC kC fC ⊢
        have lXC : bX < bC := by rw [hq]; exact zX
        have lRC : bR < bC := by rw [hq]; exact zR
        have lKC : bK < bC := by rw [hq]; exact zK
        have lwC : w.heap.size ≤ bC := by rw [hq]; exact HB.out.size
        clear hq
        replace D1 : Hid (Below w1.heap.size w1 w12) := D1.out.trans (hb.mono D1.out.size)
        replace D3 : Hid (Below w3.heap.size w3 w12) := D3.out.trans (hb.mono D3.out.size)
        replace Dh : Hid (Below w6.heap.size w6 w12) := Dh.out.trans (hb.mono Dh.out.size)
        replace Dm : Hid (Below w11.heap.size w11 w12) := Dm.out.trans (hb.mono Dm.out.size)
        replace kX := bx_below kX zX hb
        replace zX := Nat.lt_of_lt_of_le zX hb.size
        replace kR := bx_below kR zR hb
        replace fR := bxF fR hb zR
        replace zR := Nat.lt_of_lt_of_le zR hb.size
        replace kK := bx_below kK zK hb
        replace fK := bxF fK hb zK
        replace zK := Nat.lt_of_lt_of_le zK hb.size
        replace HB : Hid (Below w.heap.size w w12) := HB.out.trans (hb.mono HB.out.size)
        clear hb
        have HTQ := HTK.out w12 at' D3.out hat1
        clear HTK
        obtain ⟨bge, hbe⟩ : ∃ b, b = bg1.eraseIdx at' := ⟨_, rfl⟩
        rw [← hbe] at HTQ
        have HBE : Hid (bge = bg1.eraseIdx at') := hbe
        clear hbe
        go_wp2_with fail
        refine HTQ.mono ?_
        rintro e w13 ⟨N, rfl, ho, hb⟩
        clear HTQ
        obtain ⟨hN0, vt, ct, dt, et, hN13, hN14, -, -⟩ := nr_form (ho.rd (Nat.le_refl _))
        have hNz : N.size = 15 := rd_size (ho.rd (Nat.le_refl _))
        obtain ⟨t0, t1, t2, t3, t4, t5, t6, t7, t8, t9, t10, t11, e12, e13, hNe⟩ := nr_arr hNz hN0
        subst hNe
        simp only [List.getElem?_toArray, List.getElem?_cons_succ, List.getElem?_cons_zero, Option.some.injEq] at hN13 hN14
        subst hN13 hN14
        have HZt : Hid ((#[.int .i64 0, t0, t1, t2, t3, t4, t5, t6, t7, t8, t9, t10, t11, .slice vt bge.length ct, .slice dt dd1.length et] : Array Value).size = 15) := hNz
        have HIt : Hid ((Try.prog.info? 50).map (·.size) = some (#[.int .i64 0, t0, t1, t2, t3, t4, t5, t6, t7, t8, t9, t10, t11, .slice vt bge.length ct, .slice dt dd1.length et] : Array Value).size) := by show _ = _; rw [hNz]; exact (by kernel_rfl : (Try.prog.info? 50).map (·.size) = some 15)
        have HOt : Hid ((#[.int .i64 0, t0, t1, t2, t3, t4, t5, t6, t7, t8, t9, t10, t11, .slice vt bge.length ct, .slice dt dd1.length et] : Array Value).all (·.oneCell') = true) := rd_all (ho.rd (Nat.le_refl _))
        have HRt : Hid (∀ W, Below w13.heap.size w13 W → (shNR 104).Rd W w13.heap.size (0, bg1[at'], (bge, dd1, ()), ()) (#[.int .i64 0, t0, t1, t2, t3, t4, t5, t6, t7, t8, t9, t10, t11, .slice vt bge.length ct, .slice dt dd1.length et] : Array Value).toList) := fun W hW => Sh.Rd.below (ho.rd (Nat.le_refl _)) (Nat.le_refl _) hW
        clear ho hNz hN0
        replace D1 : Hid (Below w1.heap.size w1 w13) := D1.out.trans (hb.mono D1.out.size)
        replace D3 : Hid (Below w3.heap.size w3 w13) := D3.out.trans (hb.mono D3.out.size)
        replace Dh : Hid (Below w6.heap.size w6 w13) := Dh.out.trans (hb.mono Dh.out.size)
        replace Dm : Hid (Below w11.heap.size w11 w13) := Dm.out.trans (hb.mono Dm.out.size)
        replace kX := bx_below kX zX hb
        replace zX := Nat.lt_of_lt_of_le zX hb.size
        replace kR := bx_below kR zR hb
        replace fR := bxF fR hb zR
        replace zR := Nat.lt_of_lt_of_le zR hb.size
        replace kK := bx_below kK zK hb
        replace fK := bxF fK hb zK
        replace zK := Nat.lt_of_lt_of_le zK hb.size
        replace kC := bx_below kC zC hb
        replace fC := bxF fC hb zC
        replace zC := Nat.lt_of_lt_of_le zC hb.size
        replace HB : Hid (Below w.heap.size w w13) := HB.out.trans (hb.mono HB.out.size)
        clear hb
        have Dt : Hid (Below w13.heap.size w13 w13) := Below.refl _ _
        have HTH : Hid ((w13.alloc (.cells #[.int .i64 0, .int .i64 0, .int .i64 0, .bool false, .bool false, .bool false, .int .i64 0, .int .i64 0, .int .i64 0, .int .i64 0, .int .i64 0, .int .i64 0, .slice none 0 0, .slice none 0 0, .slice none 0 0] 50)).there w13.heap.size 0 (#[.int .i64 0, t0, t1, t2, t3, t4, t5, t6, t7, t8, t9, t10, t11, .slice vt bge.length ct, .slice dt dd1.length et] : Array Value).size) := bx_there (bx_al _ _ _) (fx_al _ _ _) (by rw [HZt.out]; rfl)
        have HWN : Hid (Below w13.heap.size w13 ((w13.alloc (.cells #[.int .i64 0, .int .i64 0, .int .i64 0, .bool false, .bool false, .bool false, .int .i64 0, .int .i64 0, .int .i64 0, .int .i64 0, .int .i64 0, .int .i64 0, .slice none 0 0, .slice none 0 0, .slice none 0 0] 50)).setCells w13.heap.size 0 (#[.int .i64 0, t0, t1, t2, t3, t4, t5, t6, t7, t8, t9, t10, t11, .slice vt bge.length ct, .slice dt dd1.length et] : Array Value).toList) ∧ w13.heap.size < ((w13.alloc (.cells #[.int .i64 0, .int .i64 0, .int .i64 0, .bool false, .bool false, .bool false, .int .i64 0, .int .i64 0, .int .i64 0, .int .i64 0, .int .i64 0, .int .i64 0, .slice none 0 0, .slice none 0 0, .slice none 0 0] 50)).setCells w13.heap.size 0 (#[.int .i64 0, t0, t1, t2, t3, t4, t5, t6, t7, t8, t9, t10, t11, .slice vt bge.length ct, .slice dt dd1.length et] : Array Value).toList).heap.size ∧ (∀ o, ((w13.alloc (.cells #[.int .i64 0, .int .i64 0, .int .i64 0, .bool false, .bool false, .bool false, .int .i64 0, .int .i64 0, .int .i64 0, .int .i64 0, .int .i64 0, .int .i64 0, .slice none 0 0, .slice none 0 0, .slice none 0 0] 50)).setCells w13.heap.size 0 (#[.int .i64 0, t0, t1, t2, t3, t4, t5, t6, t7, t8, t9, t10, t11, .slice vt bge.length ct, .slice dt dd1.length et] : Array Value).toList).cell? ⟨w13.heap.size, o, none⟩ = (#[.int .i64 0, t0, t1, t2, t3, t4, t5, t6, t7, t8, t9, t10, t11, .slice vt bge.length ct, .slice dt dd1.length et] : Array Value)[o]?) ∧ (∀ o, ((w13.alloc (.cells #[.int .i64 0, .int .i64 0, .int .i64 0, .bool false, .bool false, .bool false, .int .i64 0, .int .i64 0, .int .i64 0, .int .i64 0, .int .i64 0, .int .i64 0, .slice none 0 0, .slice none 0 0, .slice none 0 0] 50)).setCells w13.heap.size 0 (#[.int .i64 0, t0, t1, t2, t3, t4, t5, t6, t7, t8, t9, t10, t11, .slice vt bge.length ct, .slice dt dd1.length et] : Array Value).toList).frozen? ⟨w13.heap.size, o, none⟩ = false)) := ⟨setCells_below (Nat.le_refl _) _ _ _ _ ((Below.refl _ _).alloc (Nat.le_refl _) _), by rw [setCells_size]; simp, bx_setCells (bx_al w13 _ _) (by rw [HZt.out]; rfl), fx_sets (fx_al _ _ _)⟩
        go_upto_region 21 with (first | (refine wpList_store_mid rfl 50 _ _ rfl _ _ (#[.int .i64 0, t0, t1, t2, t3, t4, t5, t6, t7, t8, t9, t10, t11, .slice vt bge.length ct, .slice dt dd1.length et] : Array Value) (by rfl) (by rfl) HTH.out HIt.out HOt.out ?_))
        generalize hWW : ((w13.alloc (.cells #[.int .i64 0, .int .i64 0, .int .i64 0, .bool false, .bool false, .bool false, .int .i64 0, .int .i64 0, .int .i64 0, .int .i64 0, .int .i64 0, .int .i64 0, .slice none 0 0, .slice none 0 0, .slice none 0 0] 50)).setCells w13.heap.size 0 (#[.int .i64 0, t0, t1, t2, t3, t4, t5, t6, t7, t8, t9, t10, t11, .slice vt bge.length ct, .slice dt dd1.length et] : Array Value).toList) = w14 at HWN ⊢
        clear hWW HTH
        obtain ⟨hb, zT, kT, fT⟩ := HWN.out
        clear HWN
        obtain ⟨bT, hq⟩ : ∃ q, q = w13.heap.size := ⟨_, rfl⟩
        rw [← hq] at zT kT fT ⊢
        have lXT : bX < bT := by rw [hq]; exact zX
        have lRT : bR < bT := by rw [hq]; exact zR
        have lKT : bK < bT := by rw [hq]; exact zK
        have lCT : bC < bT := by rw [hq]; exact zC
        have lwT : w.heap.size ≤ bT := by rw [hq]; exact HB.out.size
        clear hq
        replace D1 : Hid (Below w1.heap.size w1 w14) := D1.out.trans (hb.mono D1.out.size)
        replace D3 : Hid (Below w3.heap.size w3 w14) := D3.out.trans (hb.mono D3.out.size)
        replace Dh : Hid (Below w6.heap.size w6 w14) := Dh.out.trans (hb.mono Dh.out.size)
        replace Dm : Hid (Below w11.heap.size w11 w14) := Dm.out.trans (hb.mono Dm.out.size)
        replace Dt : Hid (Below w13.heap.size w13 w14) := Dt.out.trans (hb.mono Dt.out.size)
        replace kX := bx_below kX zX hb
        replace zX := Nat.lt_of_lt_of_le zX hb.size
        replace kR := bx_below kR zR hb
        replace fR := bxF fR hb zR
        replace zR := Nat.lt_of_lt_of_le zR hb.size
        replace kK := bx_below kK zK hb
        replace fK := bxF fK hb zK
        replace zK := Nat.lt_of_lt_of_le zK hb.size
        replace kC := bx_below kC zC hb
        replace fC := bxF fC hb zC
        replace zC := Nat.lt_of_lt_of_le zC hb.size
        replace HB : Hid (Below w.heap.size w w14) := HB.out.trans (hb.mono HB.out.size)
        clear hb
        have HSQ2 := HSP.out w14 at' D3.out hat1
        clear HSP
        obtain ⟨bgs, hbs⟩ : ∃ b, b = bg1.set at' (stSg bg1[at']) := ⟨_, rfl⟩
        rw [← hbs] at HSQ2
        have HBS : Hid (bgs = bg1.set at' (stSg bg1[at'])) := hbs
        clear hbs
        go_wp2_with fail
        refine HSQ2.mono ?_
        rintro e w15 ⟨N, rfl, ho, hb⟩
        clear HSQ2
        obtain ⟨hN0, vs, cs, ds, es, hN13, hN14, -, -⟩ := nr_form (ho.rd (Nat.le_refl _))
        have hNz : N.size = 15 := rd_size (ho.rd (Nat.le_refl _))
        obtain ⟨s0, s1, s2, s3, s4, s5, s6, s7, s8, s9, s10, s11, e12, e13, hNe⟩ := nr_arr hNz hN0
        subst hNe
        simp only [List.getElem?_toArray, List.getElem?_cons_succ, List.getElem?_cons_zero, Option.some.injEq] at hN13 hN14
        subst hN13 hN14
        have HZs : Hid ((#[.int .i64 0, s0, s1, s2, s3, s4, s5, s6, s7, s8, s9, s10, s11, .slice vs bgs.length cs, .slice ds dd1.length es] : Array Value).size = 15) := hNz
        have HIs : Hid ((Try.prog.info? 50).map (·.size) = some (#[.int .i64 0, s0, s1, s2, s3, s4, s5, s6, s7, s8, s9, s10, s11, .slice vs bgs.length cs, .slice ds dd1.length es] : Array Value).size) := by show _ = _; rw [hNz]; exact (by kernel_rfl : (Try.prog.info? 50).map (·.size) = some 15)
        have HOs : Hid ((#[.int .i64 0, s0, s1, s2, s3, s4, s5, s6, s7, s8, s9, s10, s11, .slice vs bgs.length cs, .slice ds dd1.length es] : Array Value).all (·.oneCell') = true) := rd_all (ho.rd (Nat.le_refl _))
        have HRs : Hid (∀ W, Below w15.heap.size w15 W → (shNR 104).Rd W w15.heap.size (0, zSg, (bgs, dd1, ()), ()) (#[.int .i64 0, s0, s1, s2, s3, s4, s5, s6, s7, s8, s9, s10, s11, .slice vs bgs.length cs, .slice ds dd1.length es] : Array Value).toList) := fun W hW => Sh.Rd.below (ho.rd (Nat.le_refl _)) (Nat.le_refl _) hW
        clear ho hNz hN0
        replace D1 : Hid (Below w1.heap.size w1 w15) := D1.out.trans (hb.mono D1.out.size)
        replace D3 : Hid (Below w3.heap.size w3 w15) := D3.out.trans (hb.mono D3.out.size)
        replace Dh : Hid (Below w6.heap.size w6 w15) := Dh.out.trans (hb.mono Dh.out.size)
        replace Dm : Hid (Below w11.heap.size w11 w15) := Dm.out.trans (hb.mono Dm.out.size)
        replace Dt : Hid (Below w13.heap.size w13 w15) := Dt.out.trans (hb.mono Dt.out.size)
        replace kX := bx_below kX zX hb
        replace zX := Nat.lt_of_lt_of_le zX hb.size
        replace kR := bx_below kR zR hb
        replace fR := bxF fR hb zR
        replace zR := Nat.lt_of_lt_of_le zR hb.size
        replace kK := bx_below kK zK hb
        replace fK := bxF fK hb zK
        replace zK := Nat.lt_of_lt_of_le zK hb.size
        replace kC := bx_below kC zC hb
        replace fC := bxF fC hb zC
        replace zC := Nat.lt_of_lt_of_le zC hb.size
        replace kT := bx_below kT zT hb
        replace fT := bxF fT hb zT
        replace zT := Nat.lt_of_lt_of_le zT hb.size
        replace HB : Hid (Below w.heap.size w w15) := HB.out.trans (hb.mono HB.out.size)
        clear hb
        have Ds : Hid (Below w15.heap.size w15 w15) := Below.refl _ _
        have HTH : Hid ((w15.alloc (.cells #[.int .i64 0, .int .i64 0, .int .i64 0, .bool false, .bool false, .bool false, .int .i64 0, .int .i64 0, .int .i64 0, .int .i64 0, .int .i64 0, .int .i64 0, .slice none 0 0, .slice none 0 0, .slice none 0 0] 50)).there w15.heap.size 0 (#[.int .i64 0, s0, s1, s2, s3, s4, s5, s6, s7, s8, s9, s10, s11, .slice vs bgs.length cs, .slice ds dd1.length es] : Array Value).size) := bx_there (bx_al _ _ _) (fx_al _ _ _) (by rw [HZs.out]; rfl)
        have HWN : Hid (Below w15.heap.size w15 ((w15.alloc (.cells #[.int .i64 0, .int .i64 0, .int .i64 0, .bool false, .bool false, .bool false, .int .i64 0, .int .i64 0, .int .i64 0, .int .i64 0, .int .i64 0, .int .i64 0, .slice none 0 0, .slice none 0 0, .slice none 0 0] 50)).setCells w15.heap.size 0 (#[.int .i64 0, s0, s1, s2, s3, s4, s5, s6, s7, s8, s9, s10, s11, .slice vs bgs.length cs, .slice ds dd1.length es] : Array Value).toList) ∧ w15.heap.size < ((w15.alloc (.cells #[.int .i64 0, .int .i64 0, .int .i64 0, .bool false, .bool false, .bool false, .int .i64 0, .int .i64 0, .int .i64 0, .int .i64 0, .int .i64 0, .int .i64 0, .slice none 0 0, .slice none 0 0, .slice none 0 0] 50)).setCells w15.heap.size 0 (#[.int .i64 0, s0, s1, s2, s3, s4, s5, s6, s7, s8, s9, s10, s11, .slice vs bgs.length cs, .slice ds dd1.length es] : Array Value).toList).heap.size ∧ (∀ o, ((w15.alloc (.cells #[.int .i64 0, .int .i64 0, .int .i64 0, .bool false, .bool false, .bool false, .int .i64 0, .int .i64 0, .int .i64 0, .int .i64 0, .int .i64 0, .int .i64 0, .slice none 0 0, .slice none 0 0, .slice none 0 0] 50)).setCells w15.heap.size 0 (#[.int .i64 0, s0, s1, s2, s3, s4, s5, s6, s7, s8, s9, s10, s11, .slice vs bgs.length cs, .slice ds dd1.length es] : Array Value).toList).cell? ⟨w15.heap.size, o, none⟩ = (#[.int .i64 0, s0, s1, s2, s3, s4, s5, s6, s7, s8, s9, s10, s11, .slice vs bgs.length cs, .slice ds dd1.length es] : Array Value)[o]?) ∧ (∀ o, ((w15.alloc (.cells #[.int .i64 0, .int .i64 0, .int .i64 0, .bool false, .bool false, .bool false, .int .i64 0, .int .i64 0, .int .i64 0, .int .i64 0, .int .i64 0, .int .i64 0, .slice none 0 0, .slice none 0 0, .slice none 0 0] 50)).setCells w15.heap.size 0 (#[.int .i64 0, s0, s1, s2, s3, s4, s5, s6, s7, s8, s9, s10, s11, .slice vs bgs.length cs, .slice ds dd1.length es] : Array Value).toList).frozen? ⟨w15.heap.size, o, none⟩ = false)) := ⟨setCells_below (Nat.le_refl _) _ _ _ _ ((Below.refl _ _).alloc (Nat.le_refl _) _), by rw [setCells_size]; simp, bx_setCells (bx_al w15 _ _) (by rw [HZs.out]; rfl), fx_sets (fx_al _ _ _)⟩
        go_upto_region 22 with (first | (refine wpList_store_mid rfl 50 _ _ rfl _ _ (#[.int .i64 0, s0, s1, s2, s3, s4, s5, s6, s7, s8, s9, s10, s11, .slice vs bgs.length cs, .slice ds dd1.length es] : Array Value) (by rfl) (by rfl) HTH.out HIs.out HOs.out ?_))
        generalize hWW : ((w15.alloc (.cells #[.int .i64 0, .int .i64 0, .int .i64 0, .bool false, .bool false, .bool false, .int .i64 0, .int .i64 0, .int .i64 0, .int .i64 0, .int .i64 0, .int .i64 0, .slice none 0 0, .slice none 0 0, .slice none 0 0] 50)).setCells w15.heap.size 0 (#[.int .i64 0, s0, s1, s2, s3, s4, s5, s6, s7, s8, s9, s10, s11, .slice vs bgs.length cs, .slice ds dd1.length es] : Array Value).toList) = w16 at HWN ⊢
        clear hWW HTH
        obtain ⟨hb, zS, kS, fS⟩ := HWN.out
        clear HWN
        obtain ⟨bS, hq⟩ : ∃ q, q = w15.heap.size := ⟨_, rfl⟩
        rw [← hq] at zS kS fS ⊢
        have lXS : bX < bS := by rw [hq]; exact zX
        have lRS : bR < bS := by rw [hq]; exact zR
        have lKS : bK < bS := by rw [hq]; exact zK
        have lCS : bC < bS := by rw [hq]; exact zC
        have lTS : bT < bS := by rw [hq]; exact zT
        have lwS : w.heap.size ≤ bS := by rw [hq]; exact HB.out.size
        clear hq
        replace D1 : Hid (Below w1.heap.size w1 w16) := D1.out.trans (hb.mono D1.out.size)
        replace D3 : Hid (Below w3.heap.size w3 w16) := D3.out.trans (hb.mono D3.out.size)
        replace Dh : Hid (Below w6.heap.size w6 w16) := Dh.out.trans (hb.mono Dh.out.size)
        replace Dm : Hid (Below w11.heap.size w11 w16) := Dm.out.trans (hb.mono Dm.out.size)
        replace Dt : Hid (Below w13.heap.size w13 w16) := Dt.out.trans (hb.mono Dt.out.size)
        replace Ds : Hid (Below w15.heap.size w15 w16) := Ds.out.trans (hb.mono Ds.out.size)
        replace kX := bx_below kX zX hb
        replace zX := Nat.lt_of_lt_of_le zX hb.size
        replace kR := bx_below kR zR hb
        replace fR := bxF fR hb zR
        replace zR := Nat.lt_of_lt_of_le zR hb.size
        replace kK := bx_below kK zK hb
        replace fK := bxF fK hb zK
        replace zK := Nat.lt_of_lt_of_le zK hb.size
        replace kC := bx_below kC zC hb
        replace fC := bxF fC hb zC
        replace zC := Nat.lt_of_lt_of_le zC hb.size
        replace kT := bx_below kT zT hb
        replace fT := bxF fT hb zT
        replace zT := Nat.lt_of_lt_of_le zT hb.size
        replace HB : Hid (Below w.heap.size w w16) := HB.out.trans (hb.mono HB.out.size)
        clear hb
        by_cases h6 : bg1.length = 60
        · have hv := HVV.out
          rw [if_pos h6] at hv
          have hv2 : (qc, sgc, (bgc, ddc, ()), ()) = (2, zSg, (([] : List DSegm), ([] : List Bool), ()), ()) := hv
          simp only [Prod.mk.injEq, and_true] at hv2
          obtain ⟨rfl, -, -, -⟩ := hv2
          clear hv HVV
          have h6a : ((bg1.length : Int) == 60) = true := by simp [h6]
          have h6b : (bg1.length : Int) = 60 := by omega
          go_wp2_with fail
          go_ret
          exact ⟨rfl, HB.out⟩
        have hv := HVV.out
        rw [if_neg h6] at hv
        simp only [Prod.mk.injEq, and_true] at hv
        obtain ⟨rfl, rfl, rfl, rfl⟩ := hv
        clear HVV
        obtain ⟨x, hx⟩ : ∃ x, x = bg1[at'] := ⟨_, rfl⟩
        rw [← hx] at HRm HRt kC ⊢
        have hbs := HBS.out
        rw [← hx] at hbs
        have hbe : bge.length = bg1.length - 1 := by rw [HBE.out]; exact List.length_eraseIdx_of_lt hat1
        have hbs1 : bgs.length = bg1.length := by rw [hbs, List.length_set]
        have hbc1 : (bg1 ++ [x]).length = bg1.length + 1 := by simp
        clear HBE HBS
        obtain ⟨-, a1, c1, a2, c2, g13, -, hr1, -⟩ := nr_form (HRm.out w16 Dm.out)
        simp only [List.getElem?_toArray, List.getElem?_cons_succ, List.getElem?_cons_zero, Option.some.injEq, Value.slice.injEq, true_and] at g13
        obtain ⟨rfl, rfl⟩ := g13
        obtain ⟨bc, oc, cc, hvm, hbc, hlc, hrg, hrs⟩ := row_at hr1 bg1.length (by simp)
        subst hvm
        have ex : (bg1 ++ [x])[bg1.length]'(by simp) = x := by simp
        rw [ex] at hrs
        clear ex hr1
        have HGC : Hid (∀ W, Below w16.heap.size w16 W → W.rangeAt bc (oc + bg1.length * 12) cc ∧ shSegm.Rd W W.heap.size x cc) := fun W hW => ⟨range_below hrg hW (Nat.lt_of_lt_of_le hbc Dm.out.size), Sh.Rd.mono (Nat.le_trans Dm.out.size hW.size) _ _ _ (Sh.Rd.below hrs Dm.out.size hW)⟩
        clear hrg hrs hbc HRm
        obtain ⟨a1, c1, a2, c2, g13, hr1, -⟩ := rd_Net (HNET.out w16 D3.out)
        simp only [List.cons.injEq, Value.slice.injEq, true_and, and_true] at g13
        obtain ⟨⟨rfl, rfl⟩, -⟩ := g13
        obtain ⟨br, rr, cr, hva, hbr, hlr, hrg, hrs⟩ := row_at hr1 at' hat1
        subst hva
        rw [← hx] at hrs
        clear hr1
        have HGR : Hid (∀ W, Below w16.heap.size w16 W → W.rangeAt br (rr + at' * 12) cr ∧ shSegm.Rd W W.heap.size x cr) := fun W hW => ⟨range_below hrg hW hbr, Sh.Rd.mono hW.size _ _ _ (Sh.Rd.below hrs (Nat.le_refl _) hW)⟩
        clear hrg hrs hbr HNET
        obtain ⟨-, a1, c1, a2, c2, g13, -, hr1, -⟩ := nr_form (HRs.out w16 Ds.out)
        simp only [List.getElem?_toArray, List.getElem?_cons_succ, List.getElem?_cons_zero, Option.some.injEq, Value.slice.injEq, true_and] at g13
        obtain ⟨rfl, rfl⟩ := g13
        obtain ⟨bs, os, cs', hvs, hbs2, hls, hrg, hrs⟩ := row_at hr1 at' (by omega)
        subst hvs
        have es : bgs[at']'(by omega) = stSg x := by subst hbs; exact List.getElem_set_self _
        rw [es] at hrs
        clear es hr1
        have HGS : Hid (∀ W, Below w16.heap.size w16 W → W.cell? ⟨bs, os + at' * 12 + 8, none⟩ = some (.int .i64 0)) := fun W hW => by have h1 := range_below hrg hW (Nat.lt_of_lt_of_le hbs2 Ds.out.size) 8 _ (seg_opt hrs); exact h1
        clear hrg hrs hbs2 HRs hbs hls
        have HGT : Hid (∀ W, Below w16.heap.size w16 W → shSegm.Rd W W.heap.size x [t0, t1, t2, t3, t4, t5, t6, t7, t8, t9, t10, t11]) := fun W hW => Sh.Rd.mono (Dt.out.trans (hW.mono Dt.out.size)).size _ _ _ (nr_seg (HRt.out W (Dt.out.trans (hW.mono Dt.out.size))))
        have HC1 : Hid (∀ W, Below w16.heap.size w16 W → Calls Try.prog 27 #[.agg cc.toArray, .agg cr.toArray] W fun e w' => e = .returned (.bool true) ∧ Below W.heap.size W w') := fun W h => same_rd W (HGC.out W h).2 (HGR.out W h).2
        have HC2 : Hid (∀ W, Below w16.heap.size w16 W → Calls Try.prog 27 #[.agg [t0, t1, t2, t3, t4, t5, t6, t7, t8, t9, t10, t11].toArray, .agg cr.toArray] W fun e w' => e = .returned (.bool true) ∧ Below W.heap.size W w') := fun W h => same_rd W (HGT.out W h) (HGR.out W h).2
        have HIC : Hid ((Try.prog.info? 48).map (·.size) = some cc.length) := by show _ = _; rw [hlc]; exact (by kernel_rfl : (Try.prog.info? 48).map (·.size) = some 12)
        have HIR : Hid ((Try.prog.info? 48).map (·.size) = some cr.length) := by show _ = _; rw [hlr]; exact (by kernel_rfl : (Try.prog.info? 48).map (·.size) = some 12)
        rw [hbc1] at kC
        rw [hbe] at kT
        rw [hbs1] at kS
        clear HRt HGT hx hbe hbs1 hbc1 hlc hlr HFF h60k HK0 hm1 hm2 HZm HIm HOm HZt HIt HOt HZs HIs HOs HZh HIh HOh HNZ HIN HON HF5
        generalize bg1.length = m at *
        obtain ⟨n, hn⟩ : ∃ n, n = m - 1 := ⟨_, rfl⟩
        obtain ⟨l, hl⟩ : ∃ l, l = m + 1 := ⟨_, rfl⟩
        rw [← hn] at kT
        rw [← hl] at kC
        have hw1 : IntKind.i64.wrap ((m : Int) - 1) = (n : Int) := (w64N (by omega) (by omega)).trans (by omega)
        have hw2 : IntKind.i64.wrap ((l : Int) - 1) = (m : Int) := (w64N (by omega) (by omega)).trans (by omega)
        have hml : (m : Int) < (l : Int) := by omega
        have hml' : m < l := by omega
        have hat2 : (at' : Int) < (m : Int) := by omega
        clear hn hl
        go_upto_region 24 with fail
        refine wp_region_noPanic ?_
        refine Goes.start (S := fun w' => Below w16.heap.size w16 w') (z := 100) (by kernel_rfl) ?_
        refine Goes.take (i := 0) (oi := ?oi7001) (x := ?vx7001) ?ho7001 (by kernel_rfl) (by kernel_rfl) (by kernel_rfl) (by kernel_rfl) (fun _ _ _ h => h) (Or.inl ⟨?hw7001, ?hy7001⟩) (Below.drew (Below.refl _ _)) ?rest7001
        case ho7001 => (simp only [List.getElem?_toArray, List.getElem?_cons_zero] <;> rfl)
        case hw7001 => rfl
        case hy7001 => (intro w' hSw; have jR := fun o => (hSw.cell (p := ⟨bR, o, none⟩) zR).trans (kR o); have jC := fun o => (hSw.cell (p := ⟨bC, o, none⟩) zC).trans (kC o); have jT := fun o => (hSw.cell (p := ⟨bT, o, none⟩) zT).trans (kT o); have jS := fun o => (hSw.cell (p := ⟨bS, o, none⟩) zS).trans (kS o); have jO := HGS.out _ hSw; go_simp; (try with_reducible rfl))
        case rest7001 =>
        (try simp only [Act.put, List.setIfInBounds_toArray, List.set_cons_zero, List.set_cons_succ])
        refine Goes.take (i := 1) (oi := ?oi7002) (x := ?vx7002) ?ho7002 (by kernel_rfl) (by kernel_rfl) (by kernel_rfl) (by kernel_rfl) (fun _ _ _ h => h) (Or.inl ⟨?hw7002, ?hy7002⟩) (Below.drew (Below.refl _ _)) ?rest7002
        case ho7002 => (simp only [List.getElem?_toArray, List.getElem?_cons_succ, List.getElem?_cons_zero] <;> rfl)
        case hw7002 => rfl
        case hy7002 => (intro w' hSw; have jR := fun o => (hSw.cell (p := ⟨bR, o, none⟩) zR).trans (kR o); have jC := fun o => (hSw.cell (p := ⟨bC, o, none⟩) zC).trans (kC o); have jT := fun o => (hSw.cell (p := ⟨bT, o, none⟩) zT).trans (kT o); have jS := fun o => (hSw.cell (p := ⟨bS, o, none⟩) zS).trans (kS o); have jO := HGS.out _ hSw; go_simp; (try with_reducible rfl))
        case rest7002 =>
        (try simp only [Act.put, List.setIfInBounds_toArray, List.set_cons_zero, List.set_cons_succ])
        refine Goes.take (i := 2) (oi := ?oi7003) (x := ?vx7003) ?ho7003 (by kernel_rfl) (by kernel_rfl) (by kernel_rfl) (by kernel_rfl) (fun _ _ _ h => h) (Or.inl ⟨?hw7003, ?hy7003⟩) (Below.drew (Below.refl _ _)) ?rest7003
        case ho7003 => (simp only [List.getElem?_toArray, List.getElem?_cons_succ, List.getElem?_cons_zero] <;> rfl)
        case hw7003 => rfl
        case hy7003 => (intro w' hSw; have jR := fun o => (hSw.cell (p := ⟨bR, o, none⟩) zR).trans (kR o); have jC := fun o => (hSw.cell (p := ⟨bC, o, none⟩) zC).trans (kC o); have jT := fun o => (hSw.cell (p := ⟨bT, o, none⟩) zT).trans (kT o); have jS := fun o => (hSw.cell (p := ⟨bS, o, none⟩) zS).trans (kS o); have jO := HGS.out _ hSw; go_simp; (try with_reducible rfl))
        case rest7003 =>
        (try simp only [Act.put, List.setIfInBounds_toArray, List.set_cons_zero, List.set_cons_succ])
        refine Goes.take (i := 3) (oi := ?oi7004) (x := ?vx7004) ?ho7004 (by kernel_rfl) (by kernel_rfl) (by kernel_rfl) (by kernel_rfl) (fun _ _ _ h => h) (Or.inl ⟨?hw7004, ?hy7004⟩) (Below.drew (Below.refl _ _)) ?rest7004
        case ho7004 => (simp only [List.getElem?_toArray, List.getElem?_cons_succ, List.getElem?_cons_zero] <;> rfl)
        case hw7004 => rfl
        case hy7004 => (intro w' hSw; have jR := fun o => (hSw.cell (p := ⟨bR, o, none⟩) zR).trans (kR o); have jC := fun o => (hSw.cell (p := ⟨bC, o, none⟩) zC).trans (kC o); have jT := fun o => (hSw.cell (p := ⟨bT, o, none⟩) zT).trans (kT o); have jS := fun o => (hSw.cell (p := ⟨bS, o, none⟩) zS).trans (kS o); have jO := HGS.out _ hSw; go_simp; (try with_reducible rfl))
        case rest7004 =>
        (try simp only [Act.put, List.setIfInBounds_toArray, List.set_cons_zero, List.set_cons_succ])
        refine Goes.take (i := 4) (oi := ?oi7005) (x := ?vx7005) ?ho7005 (by kernel_rfl) (by kernel_rfl) (by kernel_rfl) (by kernel_rfl) (fun _ _ _ h => h) (Or.inl ⟨?hw7005, ?hy7005⟩) (Below.drew (Below.refl _ _)) ?rest7005
        case ho7005 => (simp only [List.getElem?_toArray, List.getElem?_cons_succ, List.getElem?_cons_zero] <;> rfl)
        case hw7005 => rfl
        case hy7005 => (intro w' hSw; have jR := fun o => (hSw.cell (p := ⟨bR, o, none⟩) zR).trans (kR o); have jC := fun o => (hSw.cell (p := ⟨bC, o, none⟩) zC).trans (kC o); have jT := fun o => (hSw.cell (p := ⟨bT, o, none⟩) zT).trans (kT o); have jS := fun o => (hSw.cell (p := ⟨bS, o, none⟩) zS).trans (kS o); have jO := HGS.out _ hSw; go_simp; (try with_reducible rfl))
        case rest7005 =>
        (try simp only [Act.put, List.setIfInBounds_toArray, List.set_cons_zero, List.set_cons_succ])
        refine Goes.take (i := 5) (oi := ?oi7006) (x := ?vx7006) ?ho7006 (by kernel_rfl) (by kernel_rfl) (by kernel_rfl) (by kernel_rfl) (fun _ _ _ h => h) (Or.inl ⟨?hw7006, ?hy7006⟩) (Below.drew (Below.refl _ _)) ?rest7006
        case ho7006 => (simp only [List.getElem?_toArray, List.getElem?_cons_succ, List.getElem?_cons_zero] <;> rfl)
        case hw7006 => rfl
        case hy7006 => (intro w' hSw; have jR := fun o => (hSw.cell (p := ⟨bR, o, none⟩) zR).trans (kR o); have jC := fun o => (hSw.cell (p := ⟨bC, o, none⟩) zC).trans (kC o); have jT := fun o => (hSw.cell (p := ⟨bT, o, none⟩) zT).trans (kT o); have jS := fun o => (hSw.cell (p := ⟨bS, o, none⟩) zS).trans (kS o); have jO := HGS.out _ hSw; go_simp; (try with_reducible rfl))
        case rest7006 =>
        (try simp only [Act.put, List.setIfInBounds_toArray, List.set_cons_zero, List.set_cons_succ])
        refine Goes.take (i := 6) (oi := ?oi7007) (x := ?vx7007) ?ho7007 (by kernel_rfl) (by kernel_rfl) (by kernel_rfl) (by kernel_rfl) (fun _ _ _ h => h) (Or.inl ⟨?hw7007, ?hy7007⟩) (Below.drew (Below.refl _ _)) ?rest7007
        case ho7007 => (simp only [List.getElem?_toArray, List.getElem?_cons_succ, List.getElem?_cons_zero] <;> rfl)
        case hw7007 => rfl
        case hy7007 => (intro w' hSw; have jR := fun o => (hSw.cell (p := ⟨bR, o, none⟩) zR).trans (kR o); have jC := fun o => (hSw.cell (p := ⟨bC, o, none⟩) zC).trans (kC o); have jT := fun o => (hSw.cell (p := ⟨bT, o, none⟩) zT).trans (kT o); have jS := fun o => (hSw.cell (p := ⟨bS, o, none⟩) zS).trans (kS o); have jO := HGS.out _ hSw; go_simp; (try with_reducible rfl))
        case rest7007 =>
        (try simp only [Act.put, List.setIfInBounds_toArray, List.set_cons_zero, List.set_cons_succ])
        refine Goes.take (i := 7) (oi := ?oi7008) (x := ?vx7008) ?ho7008 (by kernel_rfl) (by kernel_rfl) (by kernel_rfl) (by kernel_rfl) (fun _ _ _ h => h) (Or.inl ⟨?hw7008, ?hy7008⟩) (Below.drew (Below.refl _ _)) ?rest7008
        case ho7008 => (simp only [List.getElem?_toArray, List.getElem?_cons_succ, List.getElem?_cons_zero] <;> rfl)
        case hw7008 => rfl
        case hy7008 => (intro w' hSw; have jR := fun o => (hSw.cell (p := ⟨bR, o, none⟩) zR).trans (kR o); have jC := fun o => (hSw.cell (p := ⟨bC, o, none⟩) zC).trans (kC o); have jT := fun o => (hSw.cell (p := ⟨bT, o, none⟩) zT).trans (kT o); have jS := fun o => (hSw.cell (p := ⟨bS, o, none⟩) zS).trans (kS o); have jO := HGS.out _ hSw; go_simp; (try with_reducible rfl))
        case rest7008 =>
        (try simp only [Act.put, List.setIfInBounds_toArray, List.set_cons_zero, List.set_cons_succ])
        refine Goes.take (i := 8) (oi := ?oi7009) (x := ?vx7009) ?ho7009 (by kernel_rfl) (by kernel_rfl) (by kernel_rfl) (by kernel_rfl) (fun _ _ _ h => h) (Or.inl ⟨?hw7009, ?hy7009⟩) (Below.drew (Below.refl _ _)) ?rest7009
        case ho7009 => (simp only [List.getElem?_toArray, List.getElem?_cons_succ, List.getElem?_cons_zero] <;> rfl)
        case hw7009 => rfl
        case hy7009 => (intro w' hSw; have jR := fun o => (hSw.cell (p := ⟨bR, o, none⟩) zR).trans (kR o); have jC := fun o => (hSw.cell (p := ⟨bC, o, none⟩) zC).trans (kC o); have jT := fun o => (hSw.cell (p := ⟨bT, o, none⟩) zT).trans (kT o); have jS := fun o => (hSw.cell (p := ⟨bS, o, none⟩) zS).trans (kS o); have jO := HGS.out _ hSw; go_simp; (try with_reducible rfl))
        case rest7009 =>
        (try simp only [Act.put, List.setIfInBounds_toArray, List.set_cons_zero, List.set_cons_succ])
        refine Goes.take (i := 9) (oi := ?oi7010) (x := .agg (cc).toArray) ?ho7010 (by kernel_rfl) (by kernel_rfl) (by kernel_rfl) (by kernel_rfl) (fun _ _ _ h => h) ?hy7010 (Below.drew (Below.refl _ _)) ?rest7010
        case ho7010 => (simp only [List.getElem?_toArray, List.getElem?_cons_succ, List.getElem?_cons_zero] <;> rfl)
        case hy7010 => exact yieldsIf_load_mid (by rfl) 48 _ rfl (bc) (oc + m * 12) (by rfl) (cc) _ (fun w' hSw => (HGC.out _ hSw).1) Try.underlying48 rfl HIC.out
        case rest7010 =>
        (try simp only [Act.put, List.setIfInBounds_toArray, List.set_cons_zero, List.set_cons_succ])
        refine Goes.take (i := 10) (oi := ?oi7011) (x := ?vx7011) ?ho7011 (by kernel_rfl) (by kernel_rfl) (by kernel_rfl) (by kernel_rfl) (fun _ _ _ h => h) (Or.inl ⟨?hw7011, ?hy7011⟩) (Below.drew (Below.refl _ _)) ?rest7011
        case ho7011 => (simp only [List.getElem?_toArray, List.getElem?_cons_succ, List.getElem?_cons_zero] <;> rfl)
        case hw7011 => rfl
        case hy7011 => (intro w' hSw; have jR := fun o => (hSw.cell (p := ⟨bR, o, none⟩) zR).trans (kR o); have jC := fun o => (hSw.cell (p := ⟨bC, o, none⟩) zC).trans (kC o); have jT := fun o => (hSw.cell (p := ⟨bT, o, none⟩) zT).trans (kT o); have jS := fun o => (hSw.cell (p := ⟨bS, o, none⟩) zS).trans (kS o); have jO := HGS.out _ hSw; go_simp; (try with_reducible rfl))
        case rest7011 =>
        (try simp only [Act.put, List.setIfInBounds_toArray, List.set_cons_zero, List.set_cons_succ])
        refine Goes.take (i := 11) (oi := ?oi7012) (x := ?vx7012) ?ho7012 (by kernel_rfl) (by kernel_rfl) (by kernel_rfl) (by kernel_rfl) (fun _ _ _ h => h) (Or.inl ⟨?hw7012, ?hy7012⟩) (Below.drew (Below.refl _ _)) ?rest7012
        case ho7012 => (simp only [List.getElem?_toArray, List.getElem?_cons_succ, List.getElem?_cons_zero] <;> rfl)
        case hw7012 => rfl
        case hy7012 => (intro w' hSw; have jR := fun o => (hSw.cell (p := ⟨bR, o, none⟩) zR).trans (kR o); have jC := fun o => (hSw.cell (p := ⟨bC, o, none⟩) zC).trans (kC o); have jT := fun o => (hSw.cell (p := ⟨bT, o, none⟩) zT).trans (kT o); have jS := fun o => (hSw.cell (p := ⟨bS, o, none⟩) zS).trans (kS o); have jO := HGS.out _ hSw; go_simp; (try with_reducible rfl))
        case rest7012 =>
        (try simp only [Act.put, List.setIfInBounds_toArray, List.set_cons_zero, List.set_cons_succ])
        refine Goes.take (i := 12) (oi := ?oi7013) (x := ?vx7013) ?ho7013 (by kernel_rfl) (by kernel_rfl) (by kernel_rfl) (by kernel_rfl) (fun _ _ _ h => h) (Or.inl ⟨?hw7013, ?hy7013⟩) (Below.drew (Below.refl _ _)) ?rest7013
        case ho7013 => (simp only [List.getElem?_toArray, List.getElem?_cons_succ, List.getElem?_cons_zero] <;> rfl)
        case hw7013 => rfl
        case hy7013 => (intro w' hSw; have jR := fun o => (hSw.cell (p := ⟨bR, o, none⟩) zR).trans (kR o); have jC := fun o => (hSw.cell (p := ⟨bC, o, none⟩) zC).trans (kC o); have jT := fun o => (hSw.cell (p := ⟨bT, o, none⟩) zT).trans (kT o); have jS := fun o => (hSw.cell (p := ⟨bS, o, none⟩) zS).trans (kS o); have jO := HGS.out _ hSw; go_simp; (try with_reducible rfl))
        case rest7013 =>
        (try simp only [Act.put, List.setIfInBounds_toArray, List.set_cons_zero, List.set_cons_succ])
        refine Goes.take (i := 13) (oi := ?oi7014) (x := ?vx7014) ?ho7014 (by kernel_rfl) (by kernel_rfl) (by kernel_rfl) (by kernel_rfl) (fun _ _ _ h => h) (Or.inl ⟨?hw7014, ?hy7014⟩) (Below.drew (Below.refl _ _)) ?rest7014
        case ho7014 => (simp only [List.getElem?_toArray, List.getElem?_cons_succ, List.getElem?_cons_zero] <;> rfl)
        case hw7014 => rfl
        case hy7014 => (intro w' hSw; have jR := fun o => (hSw.cell (p := ⟨bR, o, none⟩) zR).trans (kR o); have jC := fun o => (hSw.cell (p := ⟨bC, o, none⟩) zC).trans (kC o); have jT := fun o => (hSw.cell (p := ⟨bT, o, none⟩) zT).trans (kT o); have jS := fun o => (hSw.cell (p := ⟨bS, o, none⟩) zS).trans (kS o); have jO := HGS.out _ hSw; go_simp; (try with_reducible rfl))
        case rest7014 =>
        (try simp only [Act.put, List.setIfInBounds_toArray, List.set_cons_zero, List.set_cons_succ])
        refine Goes.take (i := 14) (oi := ?oi7015) (x := ?vx7015) ?ho7015 (by kernel_rfl) (by kernel_rfl) (by kernel_rfl) (by kernel_rfl) (fun _ _ _ h => h) (Or.inl ⟨?hw7015, ?hy7015⟩) (Below.drew (Below.refl _ _)) ?rest7015
        case ho7015 => (simp only [List.getElem?_toArray, List.getElem?_cons_succ, List.getElem?_cons_zero] <;> rfl)
        case hw7015 => rfl
        case hy7015 => (intro w' hSw; have jR := fun o => (hSw.cell (p := ⟨bR, o, none⟩) zR).trans (kR o); have jC := fun o => (hSw.cell (p := ⟨bC, o, none⟩) zC).trans (kC o); have jT := fun o => (hSw.cell (p := ⟨bT, o, none⟩) zT).trans (kT o); have jS := fun o => (hSw.cell (p := ⟨bS, o, none⟩) zS).trans (kS o); have jO := HGS.out _ hSw; go_simp; (try with_reducible rfl))
        case rest7015 =>
        (try simp only [Act.put, List.setIfInBounds_toArray, List.set_cons_zero, List.set_cons_succ])
        refine Goes.take (i := 15) (oi := ?oi7016) (x := .agg (cr).toArray) ?ho7016 (by kernel_rfl) (by kernel_rfl) (by kernel_rfl) (by kernel_rfl) (fun _ _ _ h => h) ?hy7016 (Below.drew (Below.refl _ _)) ?rest7016
        case ho7016 => (simp only [List.getElem?_toArray, List.getElem?_cons_succ, List.getElem?_cons_zero] <;> rfl)
        case hy7016 => exact yieldsIf_load_mid (by rfl) 48 _ rfl (br) (rr + at' * 12) (by rfl) (cr) _ (fun w' hSw => (HGR.out _ hSw).1) Try.underlying48 rfl HIR.out
        case rest7016 =>
        (try simp only [Act.put, List.setIfInBounds_toArray, List.set_cons_zero, List.set_cons_succ])
        refine Goes.all (rs := [16]) (by kernel_rfl) (by simp) ?_
        refine Ups.cons (i := 16) (o := ?oo7017) ?ho7017 (fun KK hKK => ?stp7017) Ups.nil
        case ho7017 => (simp only [List.getElem?_toArray, List.getElem?_cons_succ, List.getElem?_cons_zero] <;> rfl)
        case stp7017 =>
        go_simp
        go_at_call 27
        refine (HC1.out _ (Below.drew (Below.refl _ _))).mono ?_
        rintro e wa ⟨rfl, hbq⟩
        replace hbq := (Below.drew (Below.refl w16.heap.size w16)).trans hbq
        have HS7017 : Hid (Below w16.heap.size w16 wa) := hbq
        clear hbq
        dsimp only
        refine hKK.out _ _ (Or.inr HS7017.out) ?_
        clear hKK KK
        (try simp only [Act.put, List.setIfInBounds_toArray, List.set_cons_zero, List.set_cons_succ])
        refine Goes.take (i := 17) (oi := ?oi7018) (x := ?vx7018) ?ho7018 (by kernel_rfl) (by kernel_rfl) (by kernel_rfl) (by kernel_rfl) (fun _ _ _ h => h) (Or.inl ⟨?hw7018, ?hy7018⟩) HS7017.out ?rest7018
        case ho7018 => (simp only [List.getElem?_toArray, List.getElem?_cons_succ, List.getElem?_cons_zero] <;> rfl)
        case hw7018 => rfl
        case hy7018 => (intro w' hSw; have jR := fun o => (hSw.cell (p := ⟨bR, o, none⟩) zR).trans (kR o); have jC := fun o => (hSw.cell (p := ⟨bC, o, none⟩) zC).trans (kC o); have jT := fun o => (hSw.cell (p := ⟨bT, o, none⟩) zT).trans (kT o); have jS := fun o => (hSw.cell (p := ⟨bS, o, none⟩) zS).trans (kS o); have jO := HGS.out _ hSw; go_simp; (try with_reducible rfl))
        case rest7018 =>
        (try simp only [Act.put, List.setIfInBounds_toArray, List.set_cons_zero, List.set_cons_succ])
        refine Goes.take (i := 18) (oi := ?oi7019) (x := ?vx7019) ?ho7019 (by kernel_rfl) (by kernel_rfl) (by kernel_rfl) (by kernel_rfl) (fun _ _ _ h => h) (Or.inl ⟨?hw7019, ?hy7019⟩) HS7017.out ?rest7019
        case ho7019 => (simp only [List.getElem?_toArray, List.getElem?_cons_succ, List.getElem?_cons_zero] <;> rfl)
        case hw7019 => rfl
        case hy7019 => (intro w' hSw; have jR := fun o => (hSw.cell (p := ⟨bR, o, none⟩) zR).trans (kR o); have jC := fun o => (hSw.cell (p := ⟨bC, o, none⟩) zC).trans (kC o); have jT := fun o => (hSw.cell (p := ⟨bT, o, none⟩) zT).trans (kT o); have jS := fun o => (hSw.cell (p := ⟨bS, o, none⟩) zS).trans (kS o); have jO := HGS.out _ hSw; go_simp; (try with_reducible rfl))
        case rest7019 =>
        (try simp only [Act.put, List.setIfInBounds_toArray, List.set_cons_zero, List.set_cons_succ])
        refine Goes.take (i := 19) (oi := ?oi7020) (x := .agg ([t0, t1, t2, t3, t4, t5, t6, t7, t8, t9, t10, t11]).toArray) ?ho7020 (by kernel_rfl) (by kernel_rfl) (by kernel_rfl) (by kernel_rfl) (fun _ _ _ h => h) ?hy7020 HS7017.out ?rest7020
        case ho7020 => (simp only [List.getElem?_toArray, List.getElem?_cons_succ, List.getElem?_cons_zero] <;> rfl)
        case hy7020 => exact yieldsIf_load_mid (by rfl) 48 _ rfl (bT) (1) (by rfl) ([t0, t1, t2, t3, t4, t5, t6, t7, t8, t9, t10, t11]) _ (fun w' hSw => nr_r1 (S := [t0, t1, t2, t3, t4, t5, t6, t7, t8, t9, t10, t11]) (M := [_, _]) rfl (fun o => (hSw.cell (p := ⟨bT, o, none⟩) zT).trans (kT o))) Try.underlying48 rfl (by kernel_rfl)
        case rest7020 =>
        (try simp only [Act.put, List.setIfInBounds_toArray, List.set_cons_zero, List.set_cons_succ])
        refine Goes.take (i := 20) (oi := ?oi7021) (x := ?vx7021) ?ho7021 (by kernel_rfl) (by kernel_rfl) (by kernel_rfl) (by kernel_rfl) (fun _ _ _ h => h) (Or.inl ⟨?hw7021, ?hy7021⟩) HS7017.out ?rest7021
        case ho7021 => (simp only [List.getElem?_toArray, List.getElem?_cons_succ, List.getElem?_cons_zero] <;> rfl)
        case hw7021 => rfl
        case hy7021 => (intro w' hSw; have jR := fun o => (hSw.cell (p := ⟨bR, o, none⟩) zR).trans (kR o); have jC := fun o => (hSw.cell (p := ⟨bC, o, none⟩) zC).trans (kC o); have jT := fun o => (hSw.cell (p := ⟨bT, o, none⟩) zT).trans (kT o); have jS := fun o => (hSw.cell (p := ⟨bS, o, none⟩) zS).trans (kS o); have jO := HGS.out _ hSw; go_simp; (try with_reducible rfl))
        case rest7021 =>
        (try simp only [Act.put, List.setIfInBounds_toArray, List.set_cons_zero, List.set_cons_succ])
        refine Goes.take (i := 21) (oi := ?oi7022) (x := ?vx7022) ?ho7022 (by kernel_rfl) (by kernel_rfl) (by kernel_rfl) (by kernel_rfl) (fun _ _ _ h => h) (Or.inl ⟨?hw7022, ?hy7022⟩) HS7017.out ?rest7022
        case ho7022 => (simp only [List.getElem?_toArray, List.getElem?_cons_succ, List.getElem?_cons_zero] <;> rfl)
        case hw7022 => rfl
        case hy7022 => (intro w' hSw; have jR := fun o => (hSw.cell (p := ⟨bR, o, none⟩) zR).trans (kR o); have jC := fun o => (hSw.cell (p := ⟨bC, o, none⟩) zC).trans (kC o); have jT := fun o => (hSw.cell (p := ⟨bT, o, none⟩) zT).trans (kT o); have jS := fun o => (hSw.cell (p := ⟨bS, o, none⟩) zS).trans (kS o); have jO := HGS.out _ hSw; go_simp; (try with_reducible rfl))
        case rest7022 =>
        (try simp only [Act.put, List.setIfInBounds_toArray, List.set_cons_zero, List.set_cons_succ])
        refine Goes.take (i := 22) (oi := ?oi7023) (x := ?vx7023) ?ho7023 (by kernel_rfl) (by kernel_rfl) (by kernel_rfl) (by kernel_rfl) (fun _ _ _ h => h) (Or.inl ⟨?hw7023, ?hy7023⟩) HS7017.out ?rest7023
        case ho7023 => (simp only [List.getElem?_toArray, List.getElem?_cons_succ, List.getElem?_cons_zero] <;> rfl)
        case hw7023 => rfl
        case hy7023 => (intro w' hSw; have jR := fun o => (hSw.cell (p := ⟨bR, o, none⟩) zR).trans (kR o); have jC := fun o => (hSw.cell (p := ⟨bC, o, none⟩) zC).trans (kC o); have jT := fun o => (hSw.cell (p := ⟨bT, o, none⟩) zT).trans (kT o); have jS := fun o => (hSw.cell (p := ⟨bS, o, none⟩) zS).trans (kS o); have jO := HGS.out _ hSw; go_simp; (try with_reducible rfl))
        case rest7023 =>
        (try simp only [Act.put, List.setIfInBounds_toArray, List.set_cons_zero, List.set_cons_succ])
        refine Goes.take (i := 23) (oi := ?oi7024) (x := ?vx7024) ?ho7024 (by kernel_rfl) (by kernel_rfl) (by kernel_rfl) (by kernel_rfl) (fun _ _ _ h => h) (Or.inl ⟨?hw7024, ?hy7024⟩) HS7017.out ?rest7024
        case ho7024 => (simp only [List.getElem?_toArray, List.getElem?_cons_succ, List.getElem?_cons_zero] <;> rfl)
        case hw7024 => rfl
        case hy7024 => (intro w' hSw; have jR := fun o => (hSw.cell (p := ⟨bR, o, none⟩) zR).trans (kR o); have jC := fun o => (hSw.cell (p := ⟨bC, o, none⟩) zC).trans (kC o); have jT := fun o => (hSw.cell (p := ⟨bT, o, none⟩) zT).trans (kT o); have jS := fun o => (hSw.cell (p := ⟨bS, o, none⟩) zS).trans (kS o); have jO := HGS.out _ hSw; go_simp; (try with_reducible rfl))
        case rest7024 =>
        (try simp only [Act.put, List.setIfInBounds_toArray, List.set_cons_zero, List.set_cons_succ])
        refine Goes.take (i := 24) (oi := ?oi7025) (x := ?vx7025) ?ho7025 (by kernel_rfl) (by kernel_rfl) (by kernel_rfl) (by kernel_rfl) (fun _ _ _ h => h) (Or.inl ⟨?hw7025, ?hy7025⟩) HS7017.out ?rest7025
        case ho7025 => (simp only [List.getElem?_toArray, List.getElem?_cons_succ, List.getElem?_cons_zero] <;> rfl)
        case hw7025 => rfl
        case hy7025 => (intro w' hSw; have jR := fun o => (hSw.cell (p := ⟨bR, o, none⟩) zR).trans (kR o); have jC := fun o => (hSw.cell (p := ⟨bC, o, none⟩) zC).trans (kC o); have jT := fun o => (hSw.cell (p := ⟨bT, o, none⟩) zT).trans (kT o); have jS := fun o => (hSw.cell (p := ⟨bS, o, none⟩) zS).trans (kS o); have jO := HGS.out _ hSw; go_simp; (try with_reducible rfl))
        case rest7025 =>
        (try simp only [Act.put, List.setIfInBounds_toArray, List.set_cons_zero, List.set_cons_succ])
        refine Goes.take (i := 25) (oi := ?oi7026) (x := .agg (cr).toArray) ?ho7026 (by kernel_rfl) (by kernel_rfl) (by kernel_rfl) (by kernel_rfl) (fun _ _ _ h => h) ?hy7026 HS7017.out ?rest7026
        case ho7026 => (simp only [List.getElem?_toArray, List.getElem?_cons_succ, List.getElem?_cons_zero] <;> rfl)
        case hy7026 => exact yieldsIf_load_mid (by rfl) 48 _ rfl (br) (rr + at' * 12) (by rfl) (cr) _ (fun w' hSw => (HGR.out _ hSw).1) Try.underlying48 rfl HIR.out
        case rest7026 =>
        (try simp only [Act.put, List.setIfInBounds_toArray, List.set_cons_zero, List.set_cons_succ])
        refine Goes.all (rs := [26]) (by kernel_rfl) (by simp) ?_
        refine Ups.cons (i := 26) (o := ?oo7027) ?ho7027 (fun KK hKK => ?stp7027) Ups.nil
        case ho7027 => (simp only [List.getElem?_toArray, List.getElem?_cons_succ, List.getElem?_cons_zero] <;> rfl)
        case stp7027 =>
        go_simp
        go_at_call 27
        refine (HC2.out _ HS7017.out).mono ?_
        rintro e wb ⟨rfl, hbq⟩
        replace hbq := HS7017.out.trans (hbq.mono HS7017.out.size)
        have HS7027 : Hid (Below w16.heap.size w16 wb) := hbq
        clear hbq
        dsimp only
        refine hKK.out _ _ (Or.inr HS7027.out) ?_
        clear hKK KK
        (try simp only [Act.put, List.setIfInBounds_toArray, List.set_cons_zero, List.set_cons_succ])
        refine Goes.take (i := 27) (oi := ?oi7028) (x := ?vx7028) ?ho7028 (by kernel_rfl) (by kernel_rfl) (by kernel_rfl) (by kernel_rfl) (fun _ _ _ h => h) (Or.inl ⟨?hw7028, ?hy7028⟩) HS7027.out ?rest7028
        case ho7028 => (simp only [List.getElem?_toArray, List.getElem?_cons_succ, List.getElem?_cons_zero] <;> rfl)
        case hw7028 => rfl
        case hy7028 => (intro w' hSw; have jR := fun o => (hSw.cell (p := ⟨bR, o, none⟩) zR).trans (kR o); have jC := fun o => (hSw.cell (p := ⟨bC, o, none⟩) zC).trans (kC o); have jT := fun o => (hSw.cell (p := ⟨bT, o, none⟩) zT).trans (kT o); have jS := fun o => (hSw.cell (p := ⟨bS, o, none⟩) zS).trans (kS o); have jO := HGS.out _ hSw; go_simp; (try with_reducible rfl))
        case rest7028 =>
        (try simp only [Act.put, List.setIfInBounds_toArray, List.set_cons_zero, List.set_cons_succ])
        refine Goes.take (i := 28) (oi := ?oi7029) (x := ?vx7029) ?ho7029 (by kernel_rfl) (by kernel_rfl) (by kernel_rfl) (by kernel_rfl) (fun _ _ _ h => h) (Or.inl ⟨?hw7029, ?hy7029⟩) HS7027.out ?rest7029
        case ho7029 => (simp only [List.getElem?_toArray, List.getElem?_cons_succ, List.getElem?_cons_zero] <;> rfl)
        case hw7029 => rfl
        case hy7029 => (intro w' hSw; have jR := fun o => (hSw.cell (p := ⟨bR, o, none⟩) zR).trans (kR o); have jC := fun o => (hSw.cell (p := ⟨bC, o, none⟩) zC).trans (kC o); have jT := fun o => (hSw.cell (p := ⟨bT, o, none⟩) zT).trans (kT o); have jS := fun o => (hSw.cell (p := ⟨bS, o, none⟩) zS).trans (kS o); have jO := HGS.out _ hSw; go_simp; (try with_reducible rfl))
        case rest7029 =>
        (try simp only [Act.put, List.setIfInBounds_toArray, List.set_cons_zero, List.set_cons_succ])
        refine Goes.take (i := 29) (oi := ?oi7030) (x := ?vx7030) ?ho7030 (by kernel_rfl) (by kernel_rfl) (by kernel_rfl) (by kernel_rfl) (fun _ _ _ h => h) (Or.inl ⟨?hw7030, ?hy7030⟩) HS7027.out ?rest7030
        case ho7030 => (simp only [List.getElem?_toArray, List.getElem?_cons_succ, List.getElem?_cons_zero] <;> rfl)
        case hw7030 => rfl
        case hy7030 => (intro w' hSw; have jR := fun o => (hSw.cell (p := ⟨bR, o, none⟩) zR).trans (kR o); have jC := fun o => (hSw.cell (p := ⟨bC, o, none⟩) zC).trans (kC o); have jT := fun o => (hSw.cell (p := ⟨bT, o, none⟩) zT).trans (kT o); have jS := fun o => (hSw.cell (p := ⟨bS, o, none⟩) zS).trans (kS o); have jO := HGS.out _ hSw; go_simp; (try with_reducible rfl))
        case rest7030 =>
        (try simp only [Act.put, List.setIfInBounds_toArray, List.set_cons_zero, List.set_cons_succ])
        refine Goes.take (i := 30) (oi := ?oi7031) (x := ?vx7031) ?ho7031 (by kernel_rfl) (by kernel_rfl) (by kernel_rfl) (by kernel_rfl) (fun _ _ _ h => h) (Or.inl ⟨?hw7031, ?hy7031⟩) HS7027.out ?rest7031
        case ho7031 => (simp only [List.getElem?_toArray, List.getElem?_cons_succ, List.getElem?_cons_zero] <;> rfl)
        case hw7031 => rfl
        case hy7031 => (intro w' hSw; have jR := fun o => (hSw.cell (p := ⟨bR, o, none⟩) zR).trans (kR o); have jC := fun o => (hSw.cell (p := ⟨bC, o, none⟩) zC).trans (kC o); have jT := fun o => (hSw.cell (p := ⟨bT, o, none⟩) zT).trans (kT o); have jS := fun o => (hSw.cell (p := ⟨bS, o, none⟩) zS).trans (kS o); have jO := HGS.out _ hSw; go_simp; (try with_reducible rfl))
        case rest7031 =>
        (try simp only [Act.put, List.setIfInBounds_toArray, List.set_cons_zero, List.set_cons_succ])
        refine Goes.take (i := 31) (oi := ?oi7032) (x := ?vx7032) ?ho7032 (by kernel_rfl) (by kernel_rfl) (by kernel_rfl) (by kernel_rfl) (fun _ _ _ h => h) (Or.inl ⟨?hw7032, ?hy7032⟩) HS7027.out ?rest7032
        case ho7032 => (simp only [List.getElem?_toArray, List.getElem?_cons_succ, List.getElem?_cons_zero] <;> rfl)
        case hw7032 => rfl
        case hy7032 => (intro w' hSw; have jR := fun o => (hSw.cell (p := ⟨bR, o, none⟩) zR).trans (kR o); have jC := fun o => (hSw.cell (p := ⟨bC, o, none⟩) zC).trans (kC o); have jT := fun o => (hSw.cell (p := ⟨bT, o, none⟩) zT).trans (kT o); have jS := fun o => (hSw.cell (p := ⟨bS, o, none⟩) zS).trans (kS o); have jO := HGS.out _ hSw; go_simp; (try with_reducible rfl))
        case rest7032 =>
        (try simp only [Act.put, List.setIfInBounds_toArray, List.set_cons_zero, List.set_cons_succ])
        refine Goes.take (i := 32) (oi := ?oi7033) (x := ?vx7033) ?ho7033 (by kernel_rfl) (by kernel_rfl) (by kernel_rfl) (by kernel_rfl) (fun _ _ _ h => h) (Or.inl ⟨?hw7033, ?hy7033⟩) HS7027.out ?rest7033
        case ho7033 => (simp only [List.getElem?_toArray, List.getElem?_cons_succ, List.getElem?_cons_zero] <;> rfl)
        case hw7033 => rfl
        case hy7033 => (intro w' hSw; have jR := fun o => (hSw.cell (p := ⟨bR, o, none⟩) zR).trans (kR o); have jC := fun o => (hSw.cell (p := ⟨bC, o, none⟩) zC).trans (kC o); have jT := fun o => (hSw.cell (p := ⟨bT, o, none⟩) zT).trans (kT o); have jS := fun o => (hSw.cell (p := ⟨bS, o, none⟩) zS).trans (kS o); have jO := HGS.out _ hSw; go_simp; (try with_reducible rfl))
        case rest7033 =>
        (try simp only [Act.put, List.setIfInBounds_toArray, List.set_cons_zero, List.set_cons_succ])
        refine Goes.take (i := 33) (oi := ?oi7034) (x := ?vx7034) ?ho7034 (by kernel_rfl) (by kernel_rfl) (by kernel_rfl) (by kernel_rfl) (fun _ _ _ h => h) (Or.inl ⟨?hw7034, ?hy7034⟩) HS7027.out ?rest7034
        case ho7034 => (simp only [List.getElem?_toArray, List.getElem?_cons_succ, List.getElem?_cons_zero] <;> rfl)
        case hw7034 => rfl
        case hy7034 => (intro w' hSw; have jR := fun o => (hSw.cell (p := ⟨bR, o, none⟩) zR).trans (kR o); have jC := fun o => (hSw.cell (p := ⟨bC, o, none⟩) zC).trans (kC o); have jT := fun o => (hSw.cell (p := ⟨bT, o, none⟩) zT).trans (kT o); have jS := fun o => (hSw.cell (p := ⟨bS, o, none⟩) zS).trans (kS o); have jO := HGS.out _ hSw; go_simp; (try with_reducible rfl))
        case rest7034 =>
        (try simp only [Act.put, List.setIfInBounds_toArray, List.set_cons_zero, List.set_cons_succ])
        refine Goes.take (i := 34) (oi := ?oi7035) (x := ?vx7035) ?ho7035 (by kernel_rfl) (by kernel_rfl) (by kernel_rfl) (by kernel_rfl) (fun _ _ _ h => h) (Or.inl ⟨?hw7035, ?hy7035⟩) HS7027.out ?rest7035
        case ho7035 => (simp only [List.getElem?_toArray, List.getElem?_cons_succ, List.getElem?_cons_zero] <;> rfl)
        case hw7035 => rfl
        case hy7035 => (intro w' hSw; have jR := fun o => (hSw.cell (p := ⟨bR, o, none⟩) zR).trans (kR o); have jC := fun o => (hSw.cell (p := ⟨bC, o, none⟩) zC).trans (kC o); have jT := fun o => (hSw.cell (p := ⟨bT, o, none⟩) zT).trans (kT o); have jS := fun o => (hSw.cell (p := ⟨bS, o, none⟩) zS).trans (kS o); have jO := HGS.out _ hSw; go_simp; (try with_reducible rfl))
        case rest7035 =>
        (try simp only [Act.put, List.setIfInBounds_toArray, List.set_cons_zero, List.set_cons_succ])
        refine Goes.take (i := 35) (oi := ?oi7036) (x := ?vx7036) ?ho7036 (by kernel_rfl) (by kernel_rfl) (by kernel_rfl) (by kernel_rfl) (fun _ _ _ h => h) (Or.inl ⟨?hw7036, ?hy7036⟩) HS7027.out ?rest7036
        case ho7036 => (simp only [List.getElem?_toArray, List.getElem?_cons_succ, List.getElem?_cons_zero] <;> rfl)
        case hw7036 => rfl
        case hy7036 => (intro w' hSw; have jR := fun o => (hSw.cell (p := ⟨bR, o, none⟩) zR).trans (kR o); have jC := fun o => (hSw.cell (p := ⟨bC, o, none⟩) zC).trans (kC o); have jT := fun o => (hSw.cell (p := ⟨bT, o, none⟩) zT).trans (kT o); have jS := fun o => (hSw.cell (p := ⟨bS, o, none⟩) zS).trans (kS o); have jO := HGS.out _ hSw; go_simp; (try with_reducible rfl))
        case rest7036 =>
        (try simp only [Act.put, List.setIfInBounds_toArray, List.set_cons_zero, List.set_cons_succ])
        refine Goes.take (i := 36) (oi := ?oi7037) (x := ?vx7037) ?ho7037 (by kernel_rfl) (by kernel_rfl) (by kernel_rfl) (by kernel_rfl) (fun _ _ _ h => h) (Or.inl ⟨?hw7037, ?hy7037⟩) HS7027.out ?rest7037
        case ho7037 => (simp only [List.getElem?_toArray, List.getElem?_cons_succ, List.getElem?_cons_zero] <;> rfl)
        case hw7037 => rfl
        case hy7037 => (intro w' hSw; have jR := fun o => (hSw.cell (p := ⟨bR, o, none⟩) zR).trans (kR o); have jC := fun o => (hSw.cell (p := ⟨bC, o, none⟩) zC).trans (kC o); have jT := fun o => (hSw.cell (p := ⟨bT, o, none⟩) zT).trans (kT o); have jS := fun o => (hSw.cell (p := ⟨bS, o, none⟩) zS).trans (kS o); have jO := HGS.out _ hSw; go_simp; (try with_reducible rfl))
        case rest7037 =>
        (try simp only [Act.put, List.setIfInBounds_toArray, List.set_cons_zero, List.set_cons_succ])
        refine Goes.take (i := 37) (oi := ?oi7038) (x := ?vx7038) ?ho7038 (by kernel_rfl) (by kernel_rfl) (by kernel_rfl) (by kernel_rfl) (fun _ _ _ h => h) (Or.inl ⟨?hw7038, ?hy7038⟩) HS7027.out ?rest7038
        case ho7038 => (simp only [List.getElem?_toArray, List.getElem?_cons_succ, List.getElem?_cons_zero] <;> rfl)
        case hw7038 => rfl
        case hy7038 => (intro w' hSw; have jR := fun o => (hSw.cell (p := ⟨bR, o, none⟩) zR).trans (kR o); have jC := fun o => (hSw.cell (p := ⟨bC, o, none⟩) zC).trans (kC o); have jT := fun o => (hSw.cell (p := ⟨bT, o, none⟩) zT).trans (kT o); have jS := fun o => (hSw.cell (p := ⟨bS, o, none⟩) zS).trans (kS o); have jO := HGS.out _ hSw; go_simp; (try with_reducible rfl))
        case rest7038 =>
        (try simp only [Act.put, List.setIfInBounds_toArray, List.set_cons_zero, List.set_cons_succ])
        refine Goes.take (i := 38) (oi := ?oi7039) (x := ?vx7039) ?ho7039 (by kernel_rfl) (by kernel_rfl) (by kernel_rfl) (by kernel_rfl) (fun _ _ _ h => h) (Or.inl ⟨?hw7039, ?hy7039⟩) HS7027.out ?rest7039
        case ho7039 => (simp only [List.getElem?_toArray, List.getElem?_cons_succ, List.getElem?_cons_zero] <;> rfl)
        case hw7039 => rfl
        case hy7039 => (intro w' hSw; have jR := fun o => (hSw.cell (p := ⟨bR, o, none⟩) zR).trans (kR o); have jC := fun o => (hSw.cell (p := ⟨bC, o, none⟩) zC).trans (kC o); have jT := fun o => (hSw.cell (p := ⟨bT, o, none⟩) zT).trans (kT o); have jS := fun o => (hSw.cell (p := ⟨bS, o, none⟩) zS).trans (kS o); have jO := HGS.out _ hSw; go_simp; (try with_reducible rfl))
        case rest7039 =>
        (try simp only [Act.put, List.setIfInBounds_toArray, List.set_cons_zero, List.set_cons_succ])
        refine Goes.take (i := 39) (oi := ?oi7040) (x := ?vx7040) ?ho7040 (by kernel_rfl) (by kernel_rfl) (by kernel_rfl) (by kernel_rfl) (fun _ _ _ h => h) (Or.inl ⟨?hw7040, ?hy7040⟩) HS7027.out ?rest7040
        case ho7040 => (simp only [List.getElem?_toArray, List.getElem?_cons_succ, List.getElem?_cons_zero] <;> rfl)
        case hw7040 => rfl
        case hy7040 => (intro w' hSw; have jR := fun o => (hSw.cell (p := ⟨bR, o, none⟩) zR).trans (kR o); have jC := fun o => (hSw.cell (p := ⟨bC, o, none⟩) zC).trans (kC o); have jT := fun o => (hSw.cell (p := ⟨bT, o, none⟩) zT).trans (kT o); have jS := fun o => (hSw.cell (p := ⟨bS, o, none⟩) zS).trans (kS o); have jO := HGS.out _ hSw; go_simp; (try with_reducible rfl))
        case rest7040 =>
        (try simp only [Act.put, List.setIfInBounds_toArray, List.set_cons_zero, List.set_cons_succ])
        refine Goes.take (i := 40) (oi := ?oi7041) (x := ?vx7041) ?ho7041 (by kernel_rfl) (by kernel_rfl) (by kernel_rfl) (by kernel_rfl) (fun _ _ _ h => h) (Or.inl ⟨?hw7041, ?hy7041⟩) HS7027.out ?rest7041
        case ho7041 => (simp only [List.getElem?_toArray, List.getElem?_cons_succ, List.getElem?_cons_zero] <;> rfl)
        case hw7041 => rfl
        case hy7041 => (intro w' hSw; have jR := fun o => (hSw.cell (p := ⟨bR, o, none⟩) zR).trans (kR o); have jC := fun o => (hSw.cell (p := ⟨bC, o, none⟩) zC).trans (kC o); have jT := fun o => (hSw.cell (p := ⟨bT, o, none⟩) zT).trans (kT o); have jS := fun o => (hSw.cell (p := ⟨bS, o, none⟩) zS).trans (kS o); have jO := HGS.out _ hSw; go_simp; (try with_reducible rfl))
        case rest7041 =>
        (try simp only [Act.put, List.setIfInBounds_toArray, List.set_cons_zero, List.set_cons_succ])
        refine Goes.take (i := 41) (oi := ?oi7042) (x := ?vx7042) ?ho7042 (by kernel_rfl) (by kernel_rfl) (by kernel_rfl) (by kernel_rfl) (fun _ _ _ h => h) (Or.inl ⟨?hw7042, ?hy7042⟩) HS7027.out ?rest7042
        case ho7042 => (simp only [List.getElem?_toArray, List.getElem?_cons_succ, List.getElem?_cons_zero] <;> rfl)
        case hw7042 => rfl
        case hy7042 => (intro w' hSw; have jR := fun o => (hSw.cell (p := ⟨bR, o, none⟩) zR).trans (kR o); have jC := fun o => (hSw.cell (p := ⟨bC, o, none⟩) zC).trans (kC o); have jT := fun o => (hSw.cell (p := ⟨bT, o, none⟩) zT).trans (kT o); have jS := fun o => (hSw.cell (p := ⟨bS, o, none⟩) zS).trans (kS o); have jO := HGS.out _ hSw; go_simp; (try with_reducible rfl))
        case rest7042 =>
        (try simp only [Act.put, List.setIfInBounds_toArray, List.set_cons_zero, List.set_cons_succ])
        refine Goes.take (i := 42) (oi := ?oi7043) (x := ?vx7043) ?ho7043 (by kernel_rfl) (by kernel_rfl) (by kernel_rfl) (by kernel_rfl) (fun _ _ _ h => h) (Or.inl ⟨?hw7043, ?hy7043⟩) HS7027.out ?rest7043
        case ho7043 => (simp only [List.getElem?_toArray, List.getElem?_cons_succ, List.getElem?_cons_zero] <;> rfl)
        case hw7043 => rfl
        case hy7043 => (intro w' hSw; have jR := fun o => (hSw.cell (p := ⟨bR, o, none⟩) zR).trans (kR o); have jC := fun o => (hSw.cell (p := ⟨bC, o, none⟩) zC).trans (kC o); have jT := fun o => (hSw.cell (p := ⟨bT, o, none⟩) zT).trans (kT o); have jS := fun o => (hSw.cell (p := ⟨bS, o, none⟩) zS).trans (kS o); have jO := HGS.out _ hSw; go_simp; (try with_reducible rfl))
        case rest7043 =>
        (try simp only [Act.put, List.setIfInBounds_toArray, List.set_cons_zero, List.set_cons_succ])
        refine Goes.take (i := 43) (oi := ?oi7044) (x := ?vx7044) ?ho7044 (by kernel_rfl) (by kernel_rfl) (by kernel_rfl) (by kernel_rfl) (fun _ _ _ h => h) (Or.inl ⟨?hw7044, ?hy7044⟩) HS7027.out ?rest7044
        case ho7044 => (simp only [List.getElem?_toArray, List.getElem?_cons_succ, List.getElem?_cons_zero] <;> rfl)
        case hw7044 => rfl
        case hy7044 => (intro w' hSw; have jR := fun o => (hSw.cell (p := ⟨bR, o, none⟩) zR).trans (kR o); have jC := fun o => (hSw.cell (p := ⟨bC, o, none⟩) zC).trans (kC o); have jT := fun o => (hSw.cell (p := ⟨bT, o, none⟩) zT).trans (kT o); have jS := fun o => (hSw.cell (p := ⟨bS, o, none⟩) zS).trans (kS o); have jO := HGS.out _ hSw; go_simp; (try with_reducible rfl))
        case rest7044 =>
        (try simp only [Act.put, List.setIfInBounds_toArray, List.set_cons_zero, List.set_cons_succ])
        refine Goes.take (i := 44) (oi := ?oi7045) (x := ?vx7045) ?ho7045 (by kernel_rfl) (by kernel_rfl) (by kernel_rfl) (by kernel_rfl) (fun _ _ _ h => h) (Or.inl ⟨?hw7045, ?hy7045⟩) HS7027.out ?rest7045
        case ho7045 => (simp only [List.getElem?_toArray, List.getElem?_cons_succ, List.getElem?_cons_zero] <;> rfl)
        case hw7045 => rfl
        case hy7045 => (intro w' hSw; have jR := fun o => (hSw.cell (p := ⟨bR, o, none⟩) zR).trans (kR o); have jC := fun o => (hSw.cell (p := ⟨bC, o, none⟩) zC).trans (kC o); have jT := fun o => (hSw.cell (p := ⟨bT, o, none⟩) zT).trans (kT o); have jS := fun o => (hSw.cell (p := ⟨bS, o, none⟩) zS).trans (kS o); have jO := HGS.out _ hSw; go_simp; (try with_reducible rfl))
        case rest7045 =>
        (try simp only [Act.put, List.setIfInBounds_toArray, List.set_cons_zero, List.set_cons_succ])
        refine Goes.take (i := 45) (oi := ?oi7046) (x := ?vx7046) ?ho7046 (by kernel_rfl) (by kernel_rfl) (by kernel_rfl) (by kernel_rfl) (fun _ _ _ h => h) (Or.inl ⟨?hw7046, ?hy7046⟩) HS7027.out ?rest7046
        case ho7046 => (simp only [List.getElem?_toArray, List.getElem?_cons_succ, List.getElem?_cons_zero] <;> rfl)
        case hw7046 => rfl
        case hy7046 => (intro w' hSw; have jR := fun o => (hSw.cell (p := ⟨bR, o, none⟩) zR).trans (kR o); have jC := fun o => (hSw.cell (p := ⟨bC, o, none⟩) zC).trans (kC o); have jT := fun o => (hSw.cell (p := ⟨bT, o, none⟩) zT).trans (kT o); have jS := fun o => (hSw.cell (p := ⟨bS, o, none⟩) zS).trans (kS o); have jO := HGS.out _ hSw; go_simp; (try with_reducible rfl))
        case rest7046 =>
        (try simp only [Act.put, List.setIfInBounds_toArray, List.set_cons_zero, List.set_cons_succ])
        refine Goes.take (i := 46) (oi := ?oi7047) (x := ?vx7047) ?ho7047 (by kernel_rfl) (by kernel_rfl) (by kernel_rfl) (by kernel_rfl) (fun _ _ _ h => h) (Or.inl ⟨?hw7047, ?hy7047⟩) HS7027.out ?rest7047
        case ho7047 => (simp only [List.getElem?_toArray, List.getElem?_cons_succ, List.getElem?_cons_zero] <;> rfl)
        case hw7047 => rfl
        case hy7047 => (intro w' hSw; have jR := fun o => (hSw.cell (p := ⟨bR, o, none⟩) zR).trans (kR o); have jC := fun o => (hSw.cell (p := ⟨bC, o, none⟩) zC).trans (kC o); have jT := fun o => (hSw.cell (p := ⟨bT, o, none⟩) zT).trans (kT o); have jS := fun o => (hSw.cell (p := ⟨bS, o, none⟩) zS).trans (kS o); have jO := HGS.out _ hSw; go_simp; (try with_reducible rfl))
        case rest7047 =>
        (try simp only [Act.put, List.setIfInBounds_toArray, List.set_cons_zero, List.set_cons_succ])
        refine Goes.take (i := 47) (oi := ?oi7048) (x := ?vx7048) ?ho7048 (by kernel_rfl) (by kernel_rfl) (by kernel_rfl) (by kernel_rfl) (fun _ _ _ h => h) (Or.inl ⟨?hw7048, ?hy7048⟩) HS7027.out ?rest7048
        case ho7048 => (simp only [List.getElem?_toArray, List.getElem?_cons_succ, List.getElem?_cons_zero] <;> rfl)
        case hw7048 => rfl
        case hy7048 => (intro w' hSw; have jR := fun o => (hSw.cell (p := ⟨bR, o, none⟩) zR).trans (kR o); have jC := fun o => (hSw.cell (p := ⟨bC, o, none⟩) zC).trans (kC o); have jT := fun o => (hSw.cell (p := ⟨bT, o, none⟩) zT).trans (kT o); have jS := fun o => (hSw.cell (p := ⟨bS, o, none⟩) zS).trans (kS o); have jO := HGS.out _ hSw; go_simp; (try with_reducible rfl))
        case rest7048 =>
        (try simp only [Act.put, List.setIfInBounds_toArray, List.set_cons_zero, List.set_cons_succ])
        refine Goes.take (i := 48) (oi := ?oi7049) (x := ?vx7049) ?ho7049 (by kernel_rfl) (by kernel_rfl) (by kernel_rfl) (by kernel_rfl) (fun _ _ _ h => h) (Or.inl ⟨?hw7049, ?hy7049⟩) HS7027.out ?rest7049
        case ho7049 => (simp only [List.getElem?_toArray, List.getElem?_cons_succ, List.getElem?_cons_zero] <;> rfl)
        case hw7049 => rfl
        case hy7049 => (intro w' hSw; have jR := fun o => (hSw.cell (p := ⟨bR, o, none⟩) zR).trans (kR o); have jC := fun o => (hSw.cell (p := ⟨bC, o, none⟩) zC).trans (kC o); have jT := fun o => (hSw.cell (p := ⟨bT, o, none⟩) zT).trans (kT o); have jS := fun o => (hSw.cell (p := ⟨bS, o, none⟩) zS).trans (kS o); have jO := HGS.out _ hSw; go_simp; (try with_reducible rfl))
        case rest7049 =>
        (try simp only [Act.put, List.setIfInBounds_toArray, List.set_cons_zero, List.set_cons_succ])
        refine Goes.take (i := 49) (oi := ?oi7050) (x := ?vx7050) ?ho7050 (by kernel_rfl) (by kernel_rfl) (by kernel_rfl) (by kernel_rfl) (fun _ _ _ h => h) (Or.inl ⟨?hw7050, ?hy7050⟩) HS7027.out ?rest7050
        case ho7050 => (simp only [List.getElem?_toArray, List.getElem?_cons_succ, List.getElem?_cons_zero] <;> rfl)
        case hw7050 => rfl
        case hy7050 => (intro w' hSw; have jR := fun o => (hSw.cell (p := ⟨bR, o, none⟩) zR).trans (kR o); have jC := fun o => (hSw.cell (p := ⟨bC, o, none⟩) zC).trans (kC o); have jT := fun o => (hSw.cell (p := ⟨bT, o, none⟩) zT).trans (kT o); have jS := fun o => (hSw.cell (p := ⟨bS, o, none⟩) zS).trans (kS o); have jO := HGS.out _ hSw; go_simp; (try with_reducible rfl))
        case rest7050 =>
        (try simp only [Act.put, List.setIfInBounds_toArray, List.set_cons_zero, List.set_cons_succ])
        refine Goes.take (i := 50) (oi := ?oi7051) (x := ?vx7051) ?ho7051 (by kernel_rfl) (by kernel_rfl) (by kernel_rfl) (by kernel_rfl) (fun _ _ _ h => h) (Or.inl ⟨?hw7051, ?hy7051⟩) HS7027.out ?rest7051
        case ho7051 => (simp only [List.getElem?_toArray, List.getElem?_cons_succ, List.getElem?_cons_zero] <;> rfl)
        case hw7051 => rfl
        case hy7051 => (intro w' hSw; have jR := fun o => (hSw.cell (p := ⟨bR, o, none⟩) zR).trans (kR o); have jC := fun o => (hSw.cell (p := ⟨bC, o, none⟩) zC).trans (kC o); have jT := fun o => (hSw.cell (p := ⟨bT, o, none⟩) zT).trans (kT o); have jS := fun o => (hSw.cell (p := ⟨bS, o, none⟩) zS).trans (kS o); have jO := HGS.out _ hSw; go_simp; (try with_reducible rfl))
        case rest7051 =>
        (try simp only [Act.put, List.setIfInBounds_toArray, List.set_cons_zero, List.set_cons_succ])
        refine Goes.take (i := 51) (oi := ?oi7052) (x := ?vx7052) ?ho7052 (by kernel_rfl) (by kernel_rfl) (by kernel_rfl) (by kernel_rfl) (fun _ _ _ h => h) (Or.inl ⟨?hw7052, ?hy7052⟩) HS7027.out ?rest7052
        case ho7052 => (simp only [List.getElem?_toArray, List.getElem?_cons_succ, List.getElem?_cons_zero] <;> rfl)
        case hw7052 => rfl
        case hy7052 => (intro w' hSw; have jR := fun o => (hSw.cell (p := ⟨bR, o, none⟩) zR).trans (kR o); have jC := fun o => (hSw.cell (p := ⟨bC, o, none⟩) zC).trans (kC o); have jT := fun o => (hSw.cell (p := ⟨bT, o, none⟩) zT).trans (kT o); have jS := fun o => (hSw.cell (p := ⟨bS, o, none⟩) zS).trans (kS o); have jO := HGS.out _ hSw; go_simp; (try with_reducible rfl))
        case rest7052 =>
        (try simp only [Act.put, List.setIfInBounds_toArray, List.set_cons_zero, List.set_cons_succ])
        refine Goes.take (i := 52) (oi := ?oi7053) (x := ?vx7053) ?ho7053 (by kernel_rfl) (by kernel_rfl) (by kernel_rfl) (by kernel_rfl) (fun _ _ _ h => h) (Or.inl ⟨?hw7053, ?hy7053⟩) HS7027.out ?rest7053
        case ho7053 => (simp only [List.getElem?_toArray, List.getElem?_cons_succ, List.getElem?_cons_zero] <;> rfl)
        case hw7053 => rfl
        case hy7053 => (intro w' hSw; have jR := fun o => (hSw.cell (p := ⟨bR, o, none⟩) zR).trans (kR o); have jC := fun o => (hSw.cell (p := ⟨bC, o, none⟩) zC).trans (kC o); have jT := fun o => (hSw.cell (p := ⟨bT, o, none⟩) zT).trans (kT o); have jS := fun o => (hSw.cell (p := ⟨bS, o, none⟩) zS).trans (kS o); have jO := HGS.out _ hSw; go_simp; (try with_reducible rfl))
        case rest7053 =>
        (try simp only [Act.put, List.setIfInBounds_toArray, List.set_cons_zero, List.set_cons_succ])
        refine Goes.take (i := 53) (oi := ?oi7054) (x := ?vx7054) ?ho7054 (by kernel_rfl) (by kernel_rfl) (by kernel_rfl) (by kernel_rfl) (fun _ _ _ h => h) (Or.inl ⟨?hw7054, ?hy7054⟩) HS7027.out ?rest7054
        case ho7054 => (simp only [List.getElem?_toArray, List.getElem?_cons_succ, List.getElem?_cons_zero] <;> rfl)
        case hw7054 => rfl
        case hy7054 => (intro w' hSw; have jR := fun o => (hSw.cell (p := ⟨bR, o, none⟩) zR).trans (kR o); have jC := fun o => (hSw.cell (p := ⟨bC, o, none⟩) zC).trans (kC o); have jT := fun o => (hSw.cell (p := ⟨bT, o, none⟩) zT).trans (kT o); have jS := fun o => (hSw.cell (p := ⟨bS, o, none⟩) zS).trans (kS o); have jO := HGS.out _ hSw; go_simp; (try with_reducible rfl))
        case rest7054 =>
        (try simp only [Act.put, List.setIfInBounds_toArray, List.set_cons_zero, List.set_cons_succ])
        refine Goes.take (i := 54) (oi := ?oi7055) (x := ?vx7055) ?ho7055 (by kernel_rfl) (by kernel_rfl) (by kernel_rfl) (by kernel_rfl) (fun _ _ _ h => h) (Or.inl ⟨?hw7055, ?hy7055⟩) HS7027.out ?rest7055
        case ho7055 => (simp only [List.getElem?_toArray, List.getElem?_cons_succ, List.getElem?_cons_zero] <;> rfl)
        case hw7055 => rfl
        case hy7055 => (intro w' hSw; have jR := fun o => (hSw.cell (p := ⟨bR, o, none⟩) zR).trans (kR o); have jC := fun o => (hSw.cell (p := ⟨bC, o, none⟩) zC).trans (kC o); have jT := fun o => (hSw.cell (p := ⟨bT, o, none⟩) zT).trans (kT o); have jS := fun o => (hSw.cell (p := ⟨bS, o, none⟩) zS).trans (kS o); have jO := HGS.out _ hSw; go_simp; (try with_reducible rfl))
        case rest7055 =>
        (try simp only [Act.put, List.setIfInBounds_toArray, List.set_cons_zero, List.set_cons_succ])
        refine Goes.take (i := 55) (oi := ?oi7056) (x := ?vx7056) ?ho7056 (by kernel_rfl) (by kernel_rfl) (by kernel_rfl) (by kernel_rfl) (fun _ _ _ h => h) (Or.inl ⟨?hw7056, ?hy7056⟩) HS7027.out ?rest7056
        case ho7056 => (simp only [List.getElem?_toArray, List.getElem?_cons_succ, List.getElem?_cons_zero] <;> rfl)
        case hw7056 => rfl
        case hy7056 => (intro w' hSw; have jR := fun o => (hSw.cell (p := ⟨bR, o, none⟩) zR).trans (kR o); have jC := fun o => (hSw.cell (p := ⟨bC, o, none⟩) zC).trans (kC o); have jT := fun o => (hSw.cell (p := ⟨bT, o, none⟩) zT).trans (kT o); have jS := fun o => (hSw.cell (p := ⟨bS, o, none⟩) zS).trans (kS o); have jO := HGS.out _ hSw; go_simp; (try with_reducible rfl))
        case rest7056 =>
        (try simp only [Act.put, List.setIfInBounds_toArray, List.set_cons_zero, List.set_cons_succ])
        refine Goes.done (by kernel_rfl) ?_ _
        refine NoPanic.normal ?_
        have HBF : Hid (Below w.heap.size w wb) := HB.out.trans (HS7027.out.mono HB.out.size)
        go_wp2_with fail
        go_ret
        exact ⟨rfl, HBF.out⟩

set_option maxRecDepth 100000 in
theorem lifted (os : Os) (started : os.Started) (H : Type) (enc : TypeId × Value → H) :
    ReturnsInHanded {} Try.checked os 5 .any (Rows.fnNetsSpec.pre6 enc Try.prog Try.f5 Rows.fnNetsRow.domain false) (Rows.fnNetsSpec.post enc Try.prog Try.f5 false true false false) := by
  refine returnsInHanded_of_change (C := Try.checked) own started (by kernel_rfl) Try.func5
    (ChangeSpec.witness6 (enc := enc) (C := Try.checked) false ⟨#[], #[.slice none 0 0], []⟩ 8 (by kernel_rfl) (by kernel_rfl) (by kernel_rfl) (by kernel_rfl)) ?_
  intro W base args ds gs before hval0 hW hcnd _
  have hval : ∀ (j : Nat) t v, Try.f5.params[j]? = some t → args[j]? = some v → Value.okWide Try.prog W .any base t v := hval0
  have hW' := hW
  obtain ⟨p, q, hA0, hV, rfl, hfz, hnd⟩ := hW
  have hA : DataW.TrodAll enc Try.prog W 0 (fun _ => true) true Try.f5.params.toList args.toList ds p := hA0
  rw [Try.params5] at hA hval
  obtain ⟨v0, vs0, d0, ds0, p0, q0, hargs, rfl, rfl, h0, r0⟩ := trodAll_cons hA
  obtain ⟨rfl, rfl, rfl⟩ := trodAll_nil r0
  obtain rfl : args = #[v0] := by cases args; simp_all
  obtain ⟨rfl, rfl⟩ := trodVars_none hV
  obtain ⟨a0, len0, cap0, rfl⟩ := okWide_slice Try.underlying22 (hval 0 22 v0 rfl rfl)
  have k0 := h0
  have lt0 : ∀ x ∈ p0, x.block < W.heap.size := by obtain ⟨m, hm⟩ := k0; exact DataW.trod_lt m _ _ _ hm
  obtain ⟨z0, w0⟩ : ∃ zs, IsRow .u8 W a0 len0 cap0 zs := by
    obtain ⟨fuel, hf⟩ := h0
    rcases open_ints Try.underlying22 Try.underlying5 (by kernel_rfl) hf with ⟨hcs, _⟩ | ⟨x, l, c, zs, hcs, _, hl, hm, hz, _, hcell, hwz⟩
    · simp [Value.cells] at hcs
      obtain ⟨rfl, rfl, rfl⟩ := hcs
      exact ⟨[], .inl ⟨rfl, rfl, rfl, rfl⟩⟩
    · simp [Value.cells] at hcs
      obtain ⟨rfl, rfl, rfl⟩ := hcs
      exact ⟨zs, .inr ⟨_, rfl, hl, hm, by simpa using hz, hcell, hwz⟩⟩
  clear hA0 hval0
  refine (walk a0 len0 cap0 z0 W w0).mono fun e W' ⟨he, bel⟩ => ?_
  subst he
  exact ⟨_, rfl, _, _, _, [], _, [], hW', trodAll_mk1 (shut_bool Try.underlying4 _), (trodAll_cons_mk (Below.trod laidOut (by kernel_rfl) (of_decide_eq_true (by kernel_rfl)) k0 bel lt0) trodAll_mk0), rfl, bel.frame _, fun h => by cases h⟩

theorem over : Rows.fnNetsRow.holds Try.pinned (OpenSpec.ofChange Rows.fnNetsSpec) :=
  OpenClaim.holds_of_wide 5 Try.f5 rfl rfl rfl rfl rfl rfl rfl ⟨rfl, rfl, rfl, rfl, rfl⟩ rfl rfl rfl rfl rfl (by kernel_rfl) Try.func5 (by kernel_rfl)
    (of_decide_eq_true (by kernel_rfl)) (by unfold Func.isWrapper; first | (rw [if_pos (by decide +kernel)]; kernel_rfl) | (rw [if_neg (by decide +kernel)]; exact ⟨rfl, rfl⟩))
    (fun os started H enc _ => lifted os started H enc)

theorem proved : Rows.FnNetsSaid := over
#print axioms proved
end Go.Proofs.Ytebgibjokljlbaa.fnNets

namespace Go.Proofs.Ytebgibjokljlbaa
theorem fnNets_holds : Rows.FnNetsSaid := fnNets.proved
end Go.Proofs.Ytebgibjokljlbaa
