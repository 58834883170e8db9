/- Proved: whatever bytes come in, the law on gathers answers true, and the bytes are as they were; no condition. -/
import Derived.Test.YtnbcefdfdonljaaRows
import Derived.WalkKit
import Derived.ProofKit
import Derived.OpenShut
import Derived.ShutString
import Derived.ChangeOld
import Derived.Below
import Derived.Test.YtnbcefdfdonljaaBase
import Derived.Test.YtnbcefdfdonljaaBytes
import Derived.Test.YtnbcefdfdonljaaMem
import Derived.Test.YtnbcefdfdonljaaMemOpen
import Derived.Test.YtnbcefdfdonljaaMemRow
import Derived.Test.YtnbcefdfdonljaaHBase
import Derived.Test.YtnbcefdfdonljaaHMark
import Derived.Test.YtnbcefdfdonljaaGath
import Derived.Test.YtnbcefdfdonljaaImplGath
import Derived.Test.YtnbcefdfdonljaaGathLaw
import Derived.Test.YtnbcefdfdonljaaSpecGath
import Derived.Test.YtnbcefdfdonljaaGathOpen
import Derived.Test.YtnbcefdfdonljaaBox
import Derived.Test.YtnbcefdfdonljaaGathByte
import Derived.Test.YtnbcefdfdonljaaAppBytes
import Derived.Test.YtnbcefdfdonljaaApp
import Derived.Test.YtnbcefdfdonljaaPMap
import Derived.Test.YtnbcefdfdonljaaPRun
import Derived.Test.YtnbcefdfdonljaaPPlaces
import Derived.Test.YtnbcefdfdonljaaPutDef
import Derived.Test.YtnbcefdfdonljaaPutFacts
import Derived.Test.YtnbcefdfdonljaaMemApp
import Derived.Test.YtnbcefdfdonljaaMemApp2
import Derived.Test.YtnbcefdfdonljaaPGather
import Derived.Test.YtnbcefdfdonljaaPImpl
import Derived.Test.YtnbcefdfdonljaaPLast
import Derived.Test.YtnbcefdfdonljaaSPut
import Derived.Test.YtnbcefdfdonljaaSPutP
import Derived.Test.YtnbcefdfdonljaaGathHold
import Derived.Test.YtnbcefdfdonljaaStr
import Derived.Test.YtnbcefdfdonljaaGathFits
import Derived.Test.YtnbcefdfdonljaaGathFit2
import Derived.Test.YtnbcefdfdonljaaGathFit3
import Derived.Test.YtnbcefdfdonljaaGathFit4
import Derived.Test.YtnbcefdfdonljaaGathReach
import Derived.Test.YtnbcefdfdonljaaGathMiss
import Derived.Test.YtnbcefdfdonljaaGathMissS
import Derived.Test.YtnbcefdfdonljaaSubBox
import Derived.Test.YtnbcefdfdonljaaAgg
import Derived.Test.YtnbcefdfdonljaaRegionU
import Derived.Test.YtnbcefdfdonljaaNum
import Derived.Test.YtnbcefdfdonljaaNumWalks
import Derived.Test.YtnbcefdfdonljaaDraws
import Derived.Test.YtnbcefdfdonljaaDrawsD
import Derived.Test.YtnbcefdfdonljaaPieFacts
import Derived.Test.YtnbcefdfdonljaaStrFacts
import Derived.Test.YtnbcefdfdonljaaDrawSome
import Derived.Test.YtnbcefdfdonljaaDrawStr0
import Derived.Test.YtnbcefdfdonljaaDrawStr1
import Derived.Test.YtnbcefdfdonljaaDrawStr2
import Derived.Test.YtnbcefdfdonljaaDrawStr
import Derived.Test.YtnbcefdfdonljaaDrawFit
import Derived.Test.YtnbcefdfdonljaaGatFacts
import Derived.Test.YtnbcefdfdonljaaLwAt
namespace Go.Proofs.Ytnbcefdfdonljaa.fnGathers
open Go.ChangeShapes Go.WideShapes Go.ChangeAt Go.RowKit
open Go.ChangeMaps (open_string shut_string)
set_option linter.unusedVariables false

theorem own : ownKnob Try.prog.godebug = none := by kernel_rfl
theorem laidOut : laidOutB Try.prog = true := by kernel_rfl

/-- WHAT THE WALK IS TOLD OF A SLICE OF INTEGERS THAT CAME IN: it is nil; or it leads to a row of 'cap' cells, the numbers 'zs' (the first 'len' are its elements, the rest its spare room), each fitting its kind. -/
def IsRow (k : IntKind) (w : World) (a : Option Addr) (len cap : Nat) (zs : List Int) : Prop :=
  (a = none ∧ len = 0 ∧ cap = 0 ∧ zs = []) ∨
  ∃ x, a = some x ∧ len ≤ cap ∧ cap ≤ maxLen ∧ zs.length = cap ∧ (∀ i, i < zs.length → w.cell? (x.add i) = some (.int k (zs.getD i 0))) ∧ ∀ n ∈ zs, (Lit.int k n).wf = true

set_option linter.unusedSimpArgs false
theorem pfldI (c0 c1 : Value) (w : World) : Sem.run Try.prog (Instr.field 37 (.agg #[c0, c1]) 1) w = .ok c1 w := by
  simp [Instr.field, asAgg, part, go_sem]
theorem gt_form {w : World} {B : Nat} {x : Gt} {u1 u2 : Value} (h : gtS.Rd w B x [u1, u2]) : ∃ b1 k1 b2 k2, u1 = .slice b1 x.1.length k1 ∧ u2 = .slice b2 x.2.1.length k2 := by
  obtain ⟨b1, k1, b2, k2, e, -, -⟩ := rd_gt h
  simp only [List.cons.injEq, and_true] at e
  exact ⟨b1, k1, b2, k2, e.1, e.2⟩
theorem gt_form2 {w : World} {B : Nat} {x : Gt} {a1 a2 : Option Addr} {n1 c1 n2 c2 : Nat} (h : gtS.Rd w B x [.slice a1 n1 c1, .slice a2 n2 c2]) : n1 = x.1.length ∧ RB w a1 x.1 := by
  obtain ⟨b1, k1, b2, k2, e, h1, -⟩ := rd_gt h
  simp only [List.cons.injEq, Value.slice.injEq, and_true] at e
  obtain ⟨⟨rfl, rfl, rfl⟩, -⟩ := e
  obtain ⟨a', c', e, r, -, -⟩ := rd_bytes h1
  simp only [List.cons.injEq, Value.slice.injEq, and_true] at e
  obtain ⟨rfl, -, -⟩ := e
  exact ⟨rfl, r⟩
theorem gt_small {g : Gt} (h : gtFault g = 0) : gtTot g ≤ 1048576 := by
  obtain ⟨N, hN⟩ : ∃ N : Nat, N = 400 := ⟨400, rfl⟩
  have c := gt_cnt N hN h
  have hc : cntG N g ≤ N := by unfold cntG; have := List.countP_le_length (p := fun k : Nat => (gtByte g (k : Int)).isSome) (l := List.range N); simpa using this
  have d := (gtFault_ok h).2.1
  unfold gtTot pcsTot
  omega
theorem gcut (bs sn sc x m : Nat) (E : Int) (h : E = ((x + m : Nat) : Int)) (h1 : x + m ≤ sc) (hx : x < sc) (W : World) : (Instr.slice 22 (.slice (some ⟨bs, 0, none⟩) sn sc) (some (.int .i64 x)) (some (.int .i64 E)) none).run Try.prog W = .ok (.slice (some ⟨bs, x, none⟩) m (sc - x)) W := by
  have hI1 : (0 : Int) ≤ E ∧ E ≤ (sc : Int) := by omega
  have hI2 : x ≤ E.toNat := by omega
  have hI3 : E.toNat - x = m := by omega
  have hI4 : ¬ sc = x := by omega
  clear h
  simp [go_sem, Try.underlying22, hI1, hI2, hI3, hI4]
theorem gtop (bs sn sc n : Nat) (h1 : n ≤ sc) (W : World) : (Instr.slice 22 (.slice (some ⟨bs, 0, none⟩) sn sc) none (some (.int .i64 n)) none).run Try.prog W = .ok (.slice (some ⟨bs, 0, none⟩) n sc) W := by
  have hI1 : (0 : Int) ≤ (n : Int) ∧ (n : Int) ≤ (sc : Int) := by omega
  simp [go_sem, Try.underlying22, hI1]
set_option maxHeartbeats 16000000 in
set_option maxRecDepth 8000 in
theorem walk (a0 : Option Addr) (len0 cap0 : Nat) (z0 : List Int) (w : World) (w0 : IsRow .u8 w a0 len0 cap0 z0) :
    Calls Try.prog 3 #[.slice a0 len0 cap0] w fun e w' => e = .returned (.bool true) ∧ Below w.heap.size w w' := by
  have r0 : BRow .u8 w a0 len0 cap0 z0 := w0
  have hl := r0.lt
  by_cases hbig : 1048576 < len0
  · clear r0 hl w0
    go_enter Try.func3, Try.ntmps3
    go_wp2
    go_ret
    exact ⟨rfl, by go_grown⟩
  · clear w0
    obtain ⟨hrb, hlc⟩ := r0.rb
    have HAT : Hid (∀ (W : World) (i m : Int), Below w.heap.size w W → 0 ≤ i → i ≤ 100 → 1 ≤ m → m ≤ 200 → Calls Try.prog 9 #[.slice a0 len0 cap0, .int .i64 i, .int .i64 m] W fun e w' => ∃ r : Nat, e = .returned (.int .i64 r) ∧ (r : Int) < m ∧ Below W.heap.size W w') := fun W i m h h1 h2 h3 h4 => lLwAt a0 len0 cap0 _ i m W hlc (hrb.below (Nat.le_refl _) h) (by omega) h1 h2 h3 h4
    go_enter Try.func3, Try.ntmps3
    go_wp2_with (first | (go_at_call 7; go_in) | fail)
    refine (dFits a0 len0 cap0 z0 w r0 hl).mono ?_
    rintro e w1 ⟨a5, n5, c5, a6, n6, c6, ss, bs, sn, sc, rfl, hob, ⟨hs6, hs45⟩, b1⟩
    clear r0 hl hrb hlc
    have hls : ss.length = sn := by obtain ⟨a', c', e, -⟩ := hob.rb; simp only [Value.slice.injEq] at e; exact e.2.1.symm
    have hsc : sn ≤ sc := by
      obtain ⟨-, ⟨e, -⟩ | ⟨g', cp, cur, e, -, -, h3, -, -⟩⟩ := hob.own
      · cases e
      · simp only [Value.slice.injEq] at e
        obtain ⟨-, e2, rfl⟩ := e
        omega
    have hbsl : bs < w1.heap.size := (hob.own.lt bs rfl).2
    have HSS : Hid (∀ W, Below w1.heap.size w1 W → ∀ x m, x + m ≤ sn → u8s.Rd W W.heap.size ((ss.drop x).take m) [.slice (some ⟨bs, x, none⟩) m (sc - x)] ∧ ((ss.drop x).take m).length = m) := fun W h x m hx => part_rd (hob.below (Nat.le_refl _) h) hx (Nat.le_refl _)
    have HRS : Hid (∀ W, Below w1.heap.size w1 W → RB W (some ⟨bs, 0, none⟩) ss) := fun W h => by obtain ⟨a', c', e, r⟩ := (hob.below (Nat.le_refl _) h).rb; simp only [Value.slice.injEq] at e; obtain ⟨rfl, -, -⟩ := e; exact r
    have HW1 : Hid (w.heap.size ≤ w1.heap.size) := b1.size
    have HB : Hid (Below w.heap.size w w1) := b1
    have D1 : Hid (Below w1.heap.size w1 w1) := Below.refl _ _
    have HLS : Hid (ss.length = sn) := hls
    clear hob b1 hls hbsl
    go_upto_region 4 with fail
    have kX : ∀ o, (w1.alloc (.cells #[.slice a5 n5 c5, .slice a6 n6 c6] 26)).cell? ⟨w1.heap.size, o, none⟩ = (#[.slice a5 n5 c5, .slice a6 n6 c6] : Array Value)[o]? := bx_al w1 _ _
    have hb : Below w1.heap.size w1 (w1.alloc (.cells #[.slice a5 n5 c5, .slice a6 n6 c6] 26)) := (Below.refl _ _).alloc (Nat.le_refl _) _
    have zX : w1.heap.size < (w1.alloc (.cells #[.slice a5 n5 c5, .slice a6 n6 c6] 26)).heap.size := by simp
    generalize hWW : (w1.alloc (.cells #[.slice a5 n5 c5, .slice a6 n6 c6] 26)) = w2 at kX hb zX ⊢
    clear hWW
    obtain ⟨bX, hq⟩ : ∃ q, q = w1.heap.size := ⟨_, rfl⟩
    rw [← hq] at zX kX ⊢
    clear hq
    replace D1 : Hid (Below w1.heap.size w1 w2) := D1.out.trans (hb.mono D1.out.size)
    replace HB : Hid (Below w.heap.size w w2) := HB.out.trans (hb.mono HB.out.size)
    clear hb
    clear kX zX
    go_upto_region 5 with fail
    have fG : ∀ o, (w2.alloc (.cells #[.slice none 0 0, .slice none 0 0] 26)).frozen? ⟨w2.heap.size, o, none⟩ = false := fx_al w2 _ _
    have kG : ∀ o, (w2.alloc (.cells #[.slice none 0 0, .slice none 0 0] 26)).cell? ⟨w2.heap.size, o, none⟩ = (#[.slice none 0 0, .slice none 0 0] : Array Value)[o]? := bx_al w2 _ _
    have hb : Below w2.heap.size w2 (w2.alloc (.cells #[.slice none 0 0, .slice none 0 0] 26)) := (Below.refl _ _).alloc (Nat.le_refl _) _
    have zG : w2.heap.size < (w2.alloc (.cells #[.slice none 0 0, .slice none 0 0] 26)).heap.size := by simp
    generalize hWW : (w2.alloc (.cells #[.slice none 0 0, .slice none 0 0] 26)) = w3 at kG fG hb zG ⊢
    clear hWW
    have hG0 := D1.out.size
    obtain ⟨bG, hq⟩ : ∃ q, q = w2.heap.size := ⟨_, rfl⟩
    rw [← hq] at zG kG fG hG0 ⊢
    clear hq
    replace D1 : Hid (Below w1.heap.size w1 w3) := D1.out.trans (hb.mono D1.out.size)
    replace HB : Hid (Below w.heap.size w w3) := HB.out.trans (hb.mono HB.out.size)
    clear hb
    have OG : Hid (Own w3 (bG + 1) w3.heap.size gtS ([], [], ()) [.slice none 0 0, .slice none 0 0]) := own_nilG _ _ _
    have IG : Hid (inS ss ([], [], ())) := inS_0 ss
    go_wp2_with fail
    go_loopw [7] (fun t wr => ∃ (kk : Nat) (g : Gt) (a1 : Option Addr) (n1 c1 : Nat) (a2 : Option Addr) (n2 c2 : Nat), kk ≤ 8 ∧ t = .int .i64 kk ∧ (∀ o, wr.cell? ⟨bG, o, none⟩ = (#[.slice a1 n1 c1, .slice a2 n2 c2] : Array Value)[o]?) ∧ (∀ o, wr.frozen? ⟨bG, o, none⟩ = false) ∧ bG < wr.heap.size ∧ Hid (Own wr (bG + 1) wr.heap.size gtS g [.slice a1 n1 c1, .slice a2 n2 c2]) ∧ Hid (inS ss g) ∧ Hid (Below w1.heap.size w1 wr) ∧ Hid (Below w.heap.size w wr)) (fun t _ => (8 - intOf t).toNat)
    case atStart => exact ⟨0, ([], [], ()), _, _, _, _, _, _, by omega, rfl, kG, fG, zG, OG, IG, D1, HB⟩
    case round =>
      clear kG fG zG OG IG D1 HB
      obtain ⟨kk, g, a1, n1, c1, a2, n2, c2, hk8, rfl, kG, fG, zG, OG, IG, D1, HB⟩ := hrel
      by_cases hkk : kk < 8
      · have hk1 : (kk : Int) < 8 := by omega
        go_wp2_with fail
        refine (HAT.out _ _ _ HB.out (by omega) (by omega) (by omega) (by omega)).mono ?_
        rintro e w4 ⟨x, rfl, hx, hb⟩
        replace kG := bx_below kG zG hb
        replace fG := bxF fG hb zG
        replace zG := Nat.lt_of_lt_of_le zG hb.size
        replace OG : Hid (Own w4 (bG + 1) w4.heap.size gtS g [.slice a1 n1 c1, .slice a2 n2 c2]) := (Own.below OG.out (Nat.le_refl _) hb).mono (Nat.le_refl _) hb.size
        replace D1 : Hid (Below w1.heap.size w1 w4) := D1.out.trans (hb.mono D1.out.size)
        replace HB : Hid (Below w.heap.size w w4) := HB.out.trans (hb.mono HB.out.size)
        clear hb
        have hxn : x < sn := by omega
        clear hx
        have hw20 : IntKind.i64.wrap ((kk : Int) + 20) = (kk : Int) + 20 := w64T (by omega) (by omega)
        go_wp2_with fail
        refine (HAT.out _ _ _ HB.out (by omega) (by omega) (by omega) (by omega)).mono ?_
        rintro e w5 ⟨q, rfl, hq9, hb⟩
        replace kG := bx_below kG zG hb
        replace fG := bxF fG hb zG
        replace zG := Nat.lt_of_lt_of_le zG hb.size
        replace OG : Hid (Own w5 (bG + 1) w5.heap.size gtS g [.slice a1 n1 c1, .slice a2 n2 c2]) := (Own.below OG.out (Nat.le_refl _) hb).mono (Nat.le_refl _) hb.size
        replace D1 : Hid (Below w1.heap.size w1 w5) := D1.out.trans (hb.mono D1.out.size)
        replace HB : Hid (Below w.heap.size w w5) := HB.out.trans (hb.mono HB.out.size)
        clear hb
        clear hw20
        have hwx1 : IntKind.i64.wrap ((x : Int) + 1) = (x : Int) + 1 := w64T (by omega) (by omega)
        have hwx2 : IntKind.i64.wrap ((x : Int) + 1 + (q : Int)) = (x : Int) + 1 + (q : Int) := w64T (by omega) (by omega)
        by_cases hend : (sn : Int) < (x : Int) + 1 + (q : Int)
        · obtain ⟨m, hm⟩ : ∃ m : Nat, m = sn - x := ⟨_, rfl⟩
          have hE : (sn : Int) = ((x + m : Nat) : Int) := by omega
          have hm1 : 1 ≤ m := by omega
          have hxm : x + m ≤ sn := by omega
          clear hm
          have hsl := gcut bs sn sc x m (sn : Int) hE (by omega) (by omega)
          have HE : Hid _ := hE
          obtain ⟨hc, hi, hhb⟩ := inS_put (by rw [HLS.out]; omega) IG.out (x := x) (m := m) (by rw [HLS.out]; exact hxm) rfl
          obtain ⟨y, hy⟩ : ∃ y, y = putV g x ((ss.drop x).take m) := ⟨_, rfl⟩
          rw [← hy] at hi hhb
          have HIY : Hid _ := hi
          have HHB : Hid _ := hhb
          have HPP : Hid (∀ W, Below w5.heap.size w5 W → Calls Try.prog 10 #[.agg #[.slice a1 n1 c1, .slice a2 n2 c2], .int .i64 x, .slice (some ⟨bs, x, none⟩) m (sc - x)] W fun e w' => ∃ u1 u2, e = .returned (.agg #[.int .i64 0, u1, u2]) ∧ Own w' W.heap.size w'.heap.size gtS y [u1, u2] ∧ Below W.heap.size W w') := fun W h => by
            obtain ⟨r1, r2⟩ := HSS.out W (D1.out.trans (h.mono D1.out.size)) x m hxm
            have q := iPutPiece g _ _ (x : Int) _ (some ⟨bs, x, none⟩) (sc - x) W W.heap.size (Sh.Rd.mono h.size _ _ _ (Sh.Rd.below (OG.out.rd (Nat.le_refl _)) (Nat.le_refl _) h)) (by rw [r2]; exact r1) (Nat.le_refl _) (by omega)
            rw [r2, hc, ← hy] at q; exact q
          clear hi hhb hc hy hE
          go_upto_region 13 with fail
          go_cut [10] from 23 to 64 (fun u wx => ∃ (rb : Nat) (ra : Option Addr) (rc : Nat) (rd : Option Addr) (re lo hi : Nat), u = .pointer (some ⟨rb, 0, none⟩) ∧ (∀ o, wx.cell? ⟨rb, o, none⟩ = (#[.int .i64 0, .slice ra y.1.length rc, .slice rd y.2.1.length re] : Array Value)[o]?) ∧ w5.heap.size ≤ rb ∧ rb < wx.heap.size ∧ Hid (Own wx lo hi gtS y [.slice ra y.1.length rc, .slice rd y.2.1.length re]) ∧ w5.heap.size ≤ lo ∧ hi ≤ wx.heap.size ∧ Hid (Below w5.heap.size w5 wx))
          case first =>
            refine wp_region_noPanic ?_
            refine Goes.start (S := fun w' => Below w5.heap.size w5 w') (z := 100) (by kernel_rfl) ?_
            have HS0 : Hid (Below w5.heap.size w5 w5.drew) := Below.drew (Below.refl _ _)
            refine Goes.take (i := 0) (oi := ?oi1011) (x := ?vx1011) ?ho1011 (by kernel_rfl) (by kernel_rfl) (by kernel_rfl) (by kernel_rfl) (fun _ _ _ h => h) (Or.inl ⟨?hw1011, ?hy1011⟩) HS0.out ?rest1011
            case ho1011 => (simp only [List.getElem?_toArray, List.getElem?_cons_zero] <;> rfl)
            case hw1011 => rfl
            case hy1011 => (intro w' hSw; have jG := fun o => (hSw.cell (p := ⟨bG, o, none⟩) zG).trans (kG o); go_simp; (try with_reducible rfl))
            case rest1011 =>
            (try simp only [Act.put, List.setIfInBounds_toArray, List.set_cons_zero, List.set_cons_succ])
            refine Goes.take (i := 1) (oi := ?oi1012) (x := ?vx1012) ?ho1012 (by kernel_rfl) (by kernel_rfl) (by kernel_rfl) (by kernel_rfl) (fun _ _ _ h => h) (Or.inl ⟨?hw1012, ?hy1012⟩) HS0.out ?rest1012
            case ho1012 => (simp only [List.getElem?_toArray, List.getElem?_cons_succ, List.getElem?_cons_zero] <;> rfl)
            case hw1012 => rfl
            case hy1012 => (intro w' hSw; have jG := fun o => (hSw.cell (p := ⟨bG, o, none⟩) zG).trans (kG o); go_simp; (try with_reducible rfl))
            case rest1012 =>
            (try simp only [Act.put, List.setIfInBounds_toArray, List.set_cons_zero, List.set_cons_succ])
            refine Goes.take (i := 2) (oi := ?oi1013) (x := ?vx1013) ?ho1013 (by kernel_rfl) (by kernel_rfl) (by kernel_rfl) (by kernel_rfl) (fun _ _ _ h => h) (Or.inl ⟨?hw1013, ?hy1013⟩) HS0.out ?rest1013
            case ho1013 => (simp only [List.getElem?_toArray, List.getElem?_cons_succ, List.getElem?_cons_zero] <;> rfl)
            case hw1013 => rfl
            case hy1013 => (intro w' hSw; have jG := fun o => (hSw.cell (p := ⟨bG, o, none⟩) zG).trans (kG o); go_simp; (try with_reducible rfl))
            case rest1013 =>
            (try simp only [Act.put, List.setIfInBounds_toArray, List.set_cons_zero, List.set_cons_succ])
            refine Goes.take (i := 3) (oi := ?oi1014) (x := ?vx1014) ?ho1014 (by kernel_rfl) (by kernel_rfl) (by kernel_rfl) (by kernel_rfl) (fun _ _ _ h => h) (Or.inl ⟨?hw1014, ?hy1014⟩) HS0.out ?rest1014
            case ho1014 => (simp only [List.getElem?_toArray, List.getElem?_cons_succ, List.getElem?_cons_zero] <;> rfl)
            case hw1014 => rfl
            case hy1014 => (intro w' hSw; have jG := fun o => (hSw.cell (p := ⟨bG, o, none⟩) zG).trans (kG o); go_simp; (try with_reducible rfl))
            case rest1014 =>
            (try simp only [Act.put, List.setIfInBounds_toArray, List.set_cons_zero, List.set_cons_succ])
            refine Goes.take (i := 4) (oi := ?oi1015) (x := ?vx1015) ?ho1015 (by kernel_rfl) (by kernel_rfl) (by kernel_rfl) (by kernel_rfl) (fun _ _ _ h => h) (Or.inl ⟨?hw1015, ?hy1015⟩) HS0.out ?rest1015
            case ho1015 => (simp only [List.getElem?_toArray, List.getElem?_cons_succ, List.getElem?_cons_zero] <;> rfl)
            case hw1015 => rfl
            case hy1015 => (intro w' hSw; have jG := fun o => (hSw.cell (p := ⟨bG, o, none⟩) zG).trans (kG o); go_simp; (try with_reducible rfl))
            case rest1015 =>
            (try simp only [Act.put, List.setIfInBounds_toArray, List.set_cons_zero, List.set_cons_succ])
            refine Goes.take (i := 5) (oi := ?oi1016) (x := ?vx1016) ?ho1016 (by kernel_rfl) (by kernel_rfl) (by kernel_rfl) (by kernel_rfl) (fun _ _ _ h => h) (Or.inl ⟨?hw1016, ?hy1016⟩) HS0.out ?rest1016
            case ho1016 => (simp only [List.getElem?_toArray, List.getElem?_cons_succ, List.getElem?_cons_zero] <;> rfl)
            case hw1016 => rfl
            case hy1016 => (intro w' hSw; have jG := fun o => (hSw.cell (p := ⟨bG, o, none⟩) zG).trans (kG o); go_simp; (try with_reducible rfl))
            case rest1016 =>
            (try simp only [Act.put, List.setIfInBounds_toArray, List.set_cons_zero, List.set_cons_succ])
            refine Goes.all (rs := [6, 7]) (by kernel_rfl) (by simp) ?_
            refine Ups.cons (i := 6) (o := ?oo102) ?ho102 (fun KQ hKQ => ?stp102) (Ups.cons (i := 7) (o := ?oo103) ?ho103 (fun KQ hKQ => ?stp103) Ups.nil)
            case ho102 => (simp only [List.getElem?_toArray, List.getElem?_cons_succ, List.getElem?_cons_zero] <;> rfl)
            case ho103 => (simp only [List.getElem?_toArray, List.getElem?_cons_succ, List.getElem?_cons_zero] <;> rfl)
            case stp103 =>
              go_simp
              obtain ⟨v104, hv104⟩ : ∃ v, v = (w5.alloc (.cells #[.int .i64 0, .slice none 0 0, .slice none 0 0] 31)).drew := ⟨_, rfl⟩
              rw [← hv104]
              have b104 : Below w5.heap.size w5 v104 := by rw [hv104]; exact ((Below.refl _ _).alloc (Nat.le_refl _) _).drew
              have hrv104 : w5.heap.size < v104.heap.size := by rw [hv104]; simp
              have kE104 : Hid (∀ W, Below v104.heap.size v104 W → (∀ o, W.cell? ⟨w5.heap.size, o, none⟩ = (#[.int .i64 0, .slice none 0 0, .slice none 0 0] : Array Value)[o]?) ∧ (∀ o, W.frozen? ⟨w5.heap.size, o, none⟩ = false)) := fun W h => ⟨fun o => (h.cell (p := ⟨w5.heap.size, o, none⟩) hrv104).trans (by rw [hv104]; simp [go_sem]), fun o => (h.frozen (p := ⟨w5.heap.size, o, none⟩) hrv104).trans (by rw [hv104]; simp [go_sem])⟩
              have HS104 : Hid (Below w5.heap.size w5 v104) := (Below.refl w5.heap.size w5).trans (b104.mono (by have := (Below.refl w5.heap.size w5).size; omega))
              have hrb : w5.heap.size ≤ w5.heap.size := (Below.refl w5.heap.size w5).size
              clear hv104 b104
              refine hKQ.out _ _ (Or.inr HS104.out) ?_
              clear hKQ KQ
              (try simp only [Act.put, List.setIfInBounds_toArray, List.set_cons_zero, List.set_cons_succ])
              refine Goes.all (rs := [6]) (by kernel_rfl) (by simp) ?_
              refine Ups.cons (i := 6) (o := ?oo105) ?ho105 (fun KQ hKQ => ?stp105) Ups.nil
              case ho105 => (simp only [List.getElem?_toArray, List.getElem?_cons_succ, List.getElem?_cons_zero] <;> rfl)
              case stp105 =>
              go_simp
              go_at_call 10
              refine (HPP.out _ HS104.out).mono ?_
              rintro e v106 ⟨u1, u2, rfl, hoy, hbq⟩
              obtain ⟨ra, rc, rd, re, rfl, rfl⟩ := gt_form (hoy.rd (Nat.le_refl _))
              have hlo106 : w5.heap.size ≤ v104.heap.size := HS104.out.size
              have OY106 : Hid (∀ W, (∀ b, v104.heap.size ≤ b → b < v106.heap.size → W.heap[b]? = v106.heap[b]?) → Own W v104.heap.size v106.heap.size gtS y [.slice ra y.1.length rc, .slice rd y.2.1.length re]) := fun W h => Own.keep hoy h
              have kE106 : Hid _ := fun W (h : Below v106.heap.size v106 W) => kE104.out W ((hbq.mono (Nat.le_refl _)).trans (h.mono hbq.size))
              have HS106 : Hid (Below w5.heap.size w5 v106) := HS104.out.trans (hbq.mono HS104.out.size)
              have hrv106 : w5.heap.size < v106.heap.size := Nat.lt_of_lt_of_le hrv104 hbq.size
              clear hbq hoy
              dsimp only
              refine hKQ.out _ _ (Or.inr HS106.out) ?_
              clear hKQ KQ
              (try simp only [Act.put, List.setIfInBounds_toArray, List.set_cons_zero, List.set_cons_succ])
              obtain ⟨NN, hNN⟩ : ∃ NN : Array Value, NN = #[.int .i64 0, .slice ra y.1.length rc, .slice rd y.2.1.length re] := ⟨_, rfl⟩
              have HNN : Hid _ := hNN
              have HNZ : Hid (NN.size = 3) := by show _ = _; rw [hNN]; rfl
              have HNI : Hid ((Try.prog.info? 31).map (·.size) = some NN.size) := by show _ = _; rw [HNZ.out]; exact (by kernel_rfl : (Try.prog.info? 31).map (·.size) = some 3)
              have HNO : Hid (NN.all (·.oneCell') = true) := by show _ = _; rw [hNN]; simp [Value.oneCell']
              clear hNN
              obtain ⟨kb, fb⟩ := kE106.out _ (Below.refl _ _)
              refine Goes.all (rs := [8]) (by kernel_rfl) (by simp) ?_
              refine Ups.cons (i := 8) (o := ?oo107) ?ho107 (fun KQ hKQ => ?stp107) Ups.nil
              case ho107 => (simp only [List.getElem?_toArray, List.getElem?_cons_succ, List.getElem?_cons_zero] <;> rfl)
              case stp107 =>
              rw [if_pos (by rfl)]
              refine wp_store_mid 31 _ _ rfl _ _ NN (by rfl) (by rw [HNN.out]; rfl) (bx_there kb fb (by rw [HNZ.out]; rfl)) HNI.out HNO.out ?_
              have HSZ : Hid (Below w5.heap.size w5 (v106.setCells w5.heap.size 0 NN.toList)) := setCells_below hrb _ _ _ _ HS106.out
              refine hKQ.out _ _ (Or.inr HSZ.out) ?_
              clear hKQ KQ
              (try simp only [Act.put, List.setIfInBounds_toArray, List.set_cons_zero, List.set_cons_succ])
              refine Goes.done (by kernel_rfl) ?_ _
              refine NoPanic.normal ?_
              have kZ := bx_setCells kb (A' := NN) (by rw [HNZ.out]; rfl)
              rw [HNN.out] at kZ
              have zZ : w5.heap.size < (v106.setCells w5.heap.size 0 NN.toList).heap.size := by rw [setCells_size]; exact hrv106
              have OYZ : Hid (Own (v106.setCells w5.heap.size 0 NN.toList) v104.heap.size v106.heap.size gtS y [.slice ra y.1.length rc, .slice rd y.2.1.length re]) := OY106.out _ (fun b h1 h2 => setCells_block (by have := hrv106; omega) _ _ _)
              have hhi : v106.heap.size ≤ (v106.setCells w5.heap.size 0 NN.toList).heap.size := by rw [setCells_size]; exact Nat.le_refl _
              rw [HNN.out] at HSZ zZ OYZ hhi ⊢
              go_wp2_with fail
              go_meet
              exact ⟨_, ra, rc, rd, re, _, _, rfl, kZ, hrb, zZ, OYZ, hlo106, hhi, HSZ⟩
            case stp102 =>
              go_simp
              go_at_call 10
              refine (HPP.out _ HS0.out).mono ?_
              rintro e v108 ⟨u1, u2, rfl, hoy, hbq⟩
              obtain ⟨ra, rc, rd, re, rfl, rfl⟩ := gt_form (hoy.rd (Nat.le_refl _))
              have hlo108 : w5.heap.size ≤ w5.drew.heap.size := HS0.out.size
              have OY108 : Hid (∀ W, (∀ b, w5.drew.heap.size ≤ b → b < v108.heap.size → W.heap[b]? = v108.heap[b]?) → Own W w5.drew.heap.size v108.heap.size gtS y [.slice ra y.1.length rc, .slice rd y.2.1.length re]) := fun W h => Own.keep hoy h
              have HS108 : Hid (Below w5.heap.size w5 v108) := HS0.out.trans (hbq.mono HS0.out.size)
              clear hbq hoy
              dsimp only
              refine hKQ.out _ _ (Or.inr HS108.out) ?_
              clear hKQ KQ
              (try simp only [Act.put, List.setIfInBounds_toArray, List.set_cons_zero, List.set_cons_succ])
              refine Goes.all (rs := [7]) (by kernel_rfl) (by simp) ?_
              refine Ups.cons (i := 7) (o := ?oo109) ?ho109 (fun KQ hKQ => ?stp109) Ups.nil
              case ho109 => (simp only [List.getElem?_toArray, List.getElem?_cons_succ, List.getElem?_cons_zero] <;> rfl)
              case stp109 =>
              go_simp
              obtain ⟨v110, hv110⟩ : ∃ v, v = v108.alloc (.cells #[.int .i64 0, .slice none 0 0, .slice none 0 0] 31) := ⟨_, rfl⟩
              rw [← hv110]
              have b110 : Below v108.heap.size v108 v110 := by rw [hv110]; exact (Below.refl _ _).alloc (Nat.le_refl _) _
              have hrv110 : v108.heap.size < v110.heap.size := by rw [hv110]; simp
              have kE110 : Hid (∀ W, Below v110.heap.size v110 W → (∀ o, W.cell? ⟨v108.heap.size, o, none⟩ = (#[.int .i64 0, .slice none 0 0, .slice none 0 0] : Array Value)[o]?) ∧ (∀ o, W.frozen? ⟨v108.heap.size, o, none⟩ = false)) := fun W h => ⟨fun o => (h.cell (p := ⟨v108.heap.size, o, none⟩) hrv110).trans (by rw [hv110]; simp [go_sem]), fun o => (h.frozen (p := ⟨v108.heap.size, o, none⟩) hrv110).trans (by rw [hv110]; simp [go_sem])⟩
              have HS110 : Hid (Below w5.heap.size w5 v110) := HS108.out.trans (b110.mono (by have := HS108.out.size; omega))
              have hrb : w5.heap.size ≤ v108.heap.size := HS108.out.size
              have hal110 : Hid (∀ b, b < v108.heap.size → v110.heap[b]? = v108.heap[b]?) := fun b h => b110.block b h
              clear hv110 b110
              refine hKQ.out _ _ (Or.inr HS110.out) ?_
              clear hKQ KQ
              (try simp only [Act.put, List.setIfInBounds_toArray, List.set_cons_zero, List.set_cons_succ])
              obtain ⟨NN, hNN⟩ : ∃ NN : Array Value, NN = #[.int .i64 0, .slice ra y.1.length rc, .slice rd y.2.1.length re] := ⟨_, rfl⟩
              have HNN : Hid _ := hNN
              have HNZ : Hid (NN.size = 3) := by show _ = _; rw [hNN]; rfl
              have HNI : Hid ((Try.prog.info? 31).map (·.size) = some NN.size) := by show _ = _; rw [HNZ.out]; exact (by kernel_rfl : (Try.prog.info? 31).map (·.size) = some 3)
              have HNO : Hid (NN.all (·.oneCell') = true) := by show _ = _; rw [hNN]; simp [Value.oneCell']
              clear hNN
              obtain ⟨kb, fb⟩ := kE110.out _ (Below.refl _ _)
              refine Goes.all (rs := [8]) (by kernel_rfl) (by simp) ?_
              refine Ups.cons (i := 8) (o := ?oo111) ?ho111 (fun KQ hKQ => ?stp111) Ups.nil
              case ho111 => (simp only [List.getElem?_toArray, List.getElem?_cons_succ, List.getElem?_cons_zero] <;> rfl)
              case stp111 =>
              rw [if_pos (by rfl)]
              refine wp_store_mid 31 _ _ rfl _ _ NN (by rfl) (by rw [HNN.out]; rfl) (bx_there kb fb (by rw [HNZ.out]; rfl)) HNI.out HNO.out ?_
              have HSZ : Hid (Below w5.heap.size w5 (v110.setCells v108.heap.size 0 NN.toList)) := setCells_below hrb _ _ _ _ HS110.out
              refine hKQ.out _ _ (Or.inr HSZ.out) ?_
              clear hKQ KQ
              (try simp only [Act.put, List.setIfInBounds_toArray, List.set_cons_zero, List.set_cons_succ])
              refine Goes.done (by kernel_rfl) ?_ _
              refine NoPanic.normal ?_
              have kZ := bx_setCells kb (A' := NN) (by rw [HNZ.out]; rfl)
              rw [HNN.out] at kZ
              have zZ : v108.heap.size < (v110.setCells v108.heap.size 0 NN.toList).heap.size := by rw [setCells_size]; exact hrv110
              have OYZ : Hid (Own (v110.setCells v108.heap.size 0 NN.toList) w5.drew.heap.size v108.heap.size gtS y [.slice ra y.1.length rc, .slice rd y.2.1.length re]) := OY108.out _ (fun b h1 h2 => (setCells_block (by omega) _ _ _).trans (hal110.out b h2))
              have hhi : v108.heap.size ≤ (v110.setCells v108.heap.size 0 NN.toList).heap.size := by rw [setCells_size]; omega
              rw [HNN.out] at HSZ zZ OYZ hhi ⊢
              go_wp2_with fail
              go_meet
              exact ⟨_, ra, rc, rd, re, _, _, rfl, kZ, hrb, zZ, OYZ, hlo108, hhi, HSZ⟩
          case rest =>
          rename World => wz
          obtain ⟨rb, ra, rc, rd, re, lo, hi, rfl, kR, hrb, zR, OY, hlo, hhi, hb⟩ := hcut
          have hz5 := zG
          clear HPP hsl OG IG
          replace kG := bx_below kG zG hb
          replace fG := bxF fG hb zG
          replace zG := Nat.lt_of_lt_of_le zG hb.size
          replace D1 : Hid (Below w1.heap.size w1 wz) := D1.out.trans (hb.mono D1.out.size)
          replace HB : Hid (Below w.heap.size w wz) := HB.out.trans (hb.mono HB.out.size)
          clear hb
          have HHY : Hid (∀ (W : World) (p : Int), Below wz.heap.size wz W → Calls Try.prog 11 #[.agg #[.slice ra y.1.length rc, .slice rd y.2.1.length re], .int .i64 p] W fun e w' => e = .returned (.bool (hasB y p)) ∧ Below W.heap.size W w') := fun W p h => iHasByte y _ _ p W wz.heap.size (Sh.Rd.below (OY.out.rd (Nat.le_refl _)) (Nat.le_refl _) h) h.size
          obtain ⟨yn, hyn⟩ : ∃ q, q = y.1.length := ⟨_, rfl⟩
          obtain ⟨ym, hym⟩ : ∃ q, q = y.2.1.length := ⟨_, rfl⟩
          rw [← hyn, ← hym] at HHY OY
          simp only [← hyn, ← hym] at kR
          clear hyn hym
          go_wp2_with fail
          go_loopw [11] (fun t wr => ∃ p : Nat, x ≤ p ∧ p ≤ x + m ∧ t = .int .i64 p ∧ Hid (Below wz.heap.size wz wr)) (fun t _ => (x + m) - (intOf t).toNat)
          case atStart => exact ⟨x, Nat.le_refl _, by omega, rfl, Below.refl _ _⟩
          case round =>
            obtain ⟨p, hp0, hp1, rfl, hbz⟩ := hrel
            have kRr := bx_below kR zR hbz.out
            by_cases hp : p < x + m
            · have hpE : (p : Int) < (sn : Int) := by rw [HE.out]; omega
              have HQ : Hid (∀ (W : World), Below wz.heap.size wz W → Calls Try.prog 11 #[.agg #[.slice ra yn rc, .slice rd ym re], .int .i64 p] W fun e w' => e = .returned (.bool true) ∧ Below W.heap.size W w') := fun W h => by have q := HHY.out W p h; rw [HHB.out p (by omega) (by omega)] at q; exact q
              clear kG fG
              go_wp2_with fail
              refine (HQ.out _ hbz.out).mono ?_
              rintro e wq ⟨rfl, hb⟩
              have hbq : Hid (Below wz.heap.size wz wq) := hbz.out.trans (hb.mono hbz.out.size)
              clear hb kRr hbz HQ
              go_wp2_with fail
              go_roundw
              case rel => exact ⟨p + 1, by omega, by omega, by go_num, hbq⟩
              case measure => simp [intOf]; omega
            · have hpE : ¬ (p : Int) < (sn : Int) := by rw [HE.out]; omega
              have hsz := hbz.out.size
              have kGr := bx_below kG zG hbz.out
              have fGr := bxF fG hbz.out zG
              have kG2 := bx_twoT (u0 := .slice ra yn rc) (u1 := .slice rd ym re) kGr
              have fG2 : ∀ o, ((wr.setCell ⟨bG, 0, none⟩ (.slice ra yn rc)).setCell ⟨bG, 1, none⟩ (.slice rd ym re)).frozen? ⟨bG, o, none⟩ = false := fun o => by rw [World.frozen?_setCell, World.frozen?_setCell]; exact fGr o
              have OG2 : Hid (Own ((wr.setCell ⟨bG, 0, none⟩ (.slice ra yn rc)).setCell ⟨bG, 1, none⟩ (.slice rd ym re)) (bG + 1) ((wr.setCell ⟨bG, 0, none⟩ (.slice ra yn rc)).setCell ⟨bG, 1, none⟩ (.slice rd ym re)).heap.size gtS y [.slice ra yn rc, .slice rd ym re]) := ((OY.out.below hhi hbz.out).keep (fun b h1 h2 => (Below.heap_setCell _ _ _ _ (by dsimp only; omega)).trans (Below.heap_setCell _ _ _ _ (by dsimp only; omega)))).mono (by omega) (by simp; omega)
              have zG2 : bG < ((wr.setCell ⟨bG, 0, none⟩ (.slice ra yn rc)).setCell ⟨bG, 1, none⟩ (.slice rd ym re)).heap.size := by simp; omega
              have D12 : Hid (Below w1.heap.size w1 ((wr.setCell ⟨bG, 0, none⟩ (.slice ra yn rc)).setCell ⟨bG, 1, none⟩ (.slice rd ym re))) := (D1.out.trans (hbz.out.mono D1.out.size)).trans ((bel_twoT wr bG _ _).mono hG0)
              have HB2 : Hid (Below w.heap.size w ((wr.setCell ⟨bG, 0, none⟩ (.slice ra yn rc)).setCell ⟨bG, 1, none⟩ (.slice rd ym re))) := (HB.out.trans (hbz.out.mono HB.out.size)).trans ((bel_twoT wr bG _ _).mono (Nat.le_trans HW1.out hG0))
              have HK2 : Hid _ := kG2
              have HF2 : Hid _ := fG2
              clear kG fG kG2 fG2 D1 HB HHY HHB
              go_wp2_with fail
              go_roundw
              case rel => exact ⟨kk + 1, y, ra, yn, rc, rd, ym, re, by omega, by go_num, HK2.out, HF2.out, zG2, OG2, HIY, D12, HB2⟩
              case measure => simp [intOf]; omega
        · obtain ⟨m, hm⟩ : ∃ m : Nat, m = q + 1 := ⟨_, rfl⟩
          have hE : (x : Int) + 1 + (q : Int) = ((x + m : Nat) : Int) := by omega
          have hm1 : 1 ≤ m := by omega
          have hxm : x + m ≤ sn := by omega
          clear hm
          have hsl := gcut bs sn sc x m ((x : Int) + 1 + (q : Int)) hE (by omega) (by omega)
          have HE : Hid _ := hE
          obtain ⟨hc, hi, hhb⟩ := inS_put (by rw [HLS.out]; omega) IG.out (x := x) (m := m) (by rw [HLS.out]; exact hxm) rfl
          obtain ⟨y, hy⟩ : ∃ y, y = putV g x ((ss.drop x).take m) := ⟨_, rfl⟩
          rw [← hy] at hi hhb
          have HIY : Hid _ := hi
          have HHB : Hid _ := hhb
          have HPP : Hid (∀ W, Below w5.heap.size w5 W → Calls Try.prog 10 #[.agg #[.slice a1 n1 c1, .slice a2 n2 c2], .int .i64 x, .slice (some ⟨bs, x, none⟩) m (sc - x)] W fun e w' => ∃ u1 u2, e = .returned (.agg #[.int .i64 0, u1, u2]) ∧ Own w' W.heap.size w'.heap.size gtS y [u1, u2] ∧ Below W.heap.size W w') := fun W h => by
            obtain ⟨r1, r2⟩ := HSS.out W (D1.out.trans (h.mono D1.out.size)) x m hxm
            have q := iPutPiece g _ _ (x : Int) _ (some ⟨bs, x, none⟩) (sc - x) W W.heap.size (Sh.Rd.mono h.size _ _ _ (Sh.Rd.below (OG.out.rd (Nat.le_refl _)) (Nat.le_refl _) h)) (by rw [r2]; exact r1) (Nat.le_refl _) (by omega)
            rw [r2, hc, ← hy] at q; exact q
          clear hi hhb hc hy hE
          go_upto_region 13 with fail
          go_cut [10] from 23 to 64 (fun u wx => ∃ (rb : Nat) (ra : Option Addr) (rc : Nat) (rd : Option Addr) (re lo hi : Nat), u = .pointer (some ⟨rb, 0, none⟩) ∧ (∀ o, wx.cell? ⟨rb, o, none⟩ = (#[.int .i64 0, .slice ra y.1.length rc, .slice rd y.2.1.length re] : Array Value)[o]?) ∧ w5.heap.size ≤ rb ∧ rb < wx.heap.size ∧ Hid (Own wx lo hi gtS y [.slice ra y.1.length rc, .slice rd y.2.1.length re]) ∧ w5.heap.size ≤ lo ∧ hi ≤ wx.heap.size ∧ Hid (Below w5.heap.size w5 wx))
          case first =>
            refine wp_region_noPanic ?_
            refine Goes.start (S := fun w' => Below w5.heap.size w5 w') (z := 100) (by kernel_rfl) ?_
            have HS0 : Hid (Below w5.heap.size w5 w5.drew) := Below.drew (Below.refl _ _)
            refine Goes.take (i := 0) (oi := ?oi1121) (x := ?vx1121) ?ho1121 (by kernel_rfl) (by kernel_rfl) (by kernel_rfl) (by kernel_rfl) (fun _ _ _ h => h) (Or.inl ⟨?hw1121, ?hy1121⟩) HS0.out ?rest1121
            case ho1121 => (simp only [List.getElem?_toArray, List.getElem?_cons_zero] <;> rfl)
            case hw1121 => rfl
            case hy1121 => (intro w' hSw; have jG := fun o => (hSw.cell (p := ⟨bG, o, none⟩) zG).trans (kG o); go_simp; (try with_reducible rfl))
            case rest1121 =>
            (try simp only [Act.put, List.setIfInBounds_toArray, List.set_cons_zero, List.set_cons_succ])
            refine Goes.take (i := 1) (oi := ?oi1122) (x := ?vx1122) ?ho1122 (by kernel_rfl) (by kernel_rfl) (by kernel_rfl) (by kernel_rfl) (fun _ _ _ h => h) (Or.inl ⟨?hw1122, ?hy1122⟩) HS0.out ?rest1122
            case ho1122 => (simp only [List.getElem?_toArray, List.getElem?_cons_succ, List.getElem?_cons_zero] <;> rfl)
            case hw1122 => rfl
            case hy1122 => (intro w' hSw; have jG := fun o => (hSw.cell (p := ⟨bG, o, none⟩) zG).trans (kG o); go_simp; (try with_reducible rfl))
            case rest1122 =>
            (try simp only [Act.put, List.setIfInBounds_toArray, List.set_cons_zero, List.set_cons_succ])
            refine Goes.take (i := 2) (oi := ?oi1123) (x := ?vx1123) ?ho1123 (by kernel_rfl) (by kernel_rfl) (by kernel_rfl) (by kernel_rfl) (fun _ _ _ h => h) (Or.inl ⟨?hw1123, ?hy1123⟩) HS0.out ?rest1123
            case ho1123 => (simp only [List.getElem?_toArray, List.getElem?_cons_succ, List.getElem?_cons_zero] <;> rfl)
            case hw1123 => rfl
            case hy1123 => (intro w' hSw; have jG := fun o => (hSw.cell (p := ⟨bG, o, none⟩) zG).trans (kG o); go_simp; (try with_reducible rfl))
            case rest1123 =>
            (try simp only [Act.put, List.setIfInBounds_toArray, List.set_cons_zero, List.set_cons_succ])
            refine Goes.take (i := 3) (oi := ?oi1124) (x := ?vx1124) ?ho1124 (by kernel_rfl) (by kernel_rfl) (by kernel_rfl) (by kernel_rfl) (fun _ _ _ h => h) (Or.inl ⟨?hw1124, ?hy1124⟩) HS0.out ?rest1124
            case ho1124 => (simp only [List.getElem?_toArray, List.getElem?_cons_succ, List.getElem?_cons_zero] <;> rfl)
            case hw1124 => rfl
            case hy1124 => (intro w' hSw; have jG := fun o => (hSw.cell (p := ⟨bG, o, none⟩) zG).trans (kG o); go_simp; (try with_reducible rfl))
            case rest1124 =>
            (try simp only [Act.put, List.setIfInBounds_toArray, List.set_cons_zero, List.set_cons_succ])
            refine Goes.take (i := 4) (oi := ?oi1125) (x := ?vx1125) ?ho1125 (by kernel_rfl) (by kernel_rfl) (by kernel_rfl) (by kernel_rfl) (fun _ _ _ h => h) (Or.inl ⟨?hw1125, ?hy1125⟩) HS0.out ?rest1125
            case ho1125 => (simp only [List.getElem?_toArray, List.getElem?_cons_succ, List.getElem?_cons_zero] <;> rfl)
            case hw1125 => rfl
            case hy1125 => (intro w' hSw; have jG := fun o => (hSw.cell (p := ⟨bG, o, none⟩) zG).trans (kG o); go_simp; (try with_reducible rfl))
            case rest1125 =>
            (try simp only [Act.put, List.setIfInBounds_toArray, List.set_cons_zero, List.set_cons_succ])
            refine Goes.take (i := 5) (oi := ?oi1126) (x := ?vx1126) ?ho1126 (by kernel_rfl) (by kernel_rfl) (by kernel_rfl) (by kernel_rfl) (fun _ _ _ h => h) (Or.inl ⟨?hw1126, ?hy1126⟩) HS0.out ?rest1126
            case ho1126 => (simp only [List.getElem?_toArray, List.getElem?_cons_succ, List.getElem?_cons_zero] <;> rfl)
            case hw1126 => rfl
            case hy1126 => (intro w' hSw; have jG := fun o => (hSw.cell (p := ⟨bG, o, none⟩) zG).trans (kG o); go_simp; (try with_reducible rfl))
            case rest1126 =>
            (try simp only [Act.put, List.setIfInBounds_toArray, List.set_cons_zero, List.set_cons_succ])
            refine Goes.all (rs := [6, 7]) (by kernel_rfl) (by simp) ?_
            refine Ups.cons (i := 6) (o := ?oo113) ?ho113 (fun KQ hKQ => ?stp113) (Ups.cons (i := 7) (o := ?oo114) ?ho114 (fun KQ hKQ => ?stp114) Ups.nil)
            case ho113 => (simp only [List.getElem?_toArray, List.getElem?_cons_succ, List.getElem?_cons_zero] <;> rfl)
            case ho114 => (simp only [List.getElem?_toArray, List.getElem?_cons_succ, List.getElem?_cons_zero] <;> rfl)
            case stp114 =>
              go_simp
              obtain ⟨v115, hv115⟩ : ∃ v, v = (w5.alloc (.cells #[.int .i64 0, .slice none 0 0, .slice none 0 0] 31)).drew := ⟨_, rfl⟩
              rw [← hv115]
              have b115 : Below w5.heap.size w5 v115 := by rw [hv115]; exact ((Below.refl _ _).alloc (Nat.le_refl _) _).drew
              have hrv115 : w5.heap.size < v115.heap.size := by rw [hv115]; simp
              have kE115 : Hid (∀ W, Below v115.heap.size v115 W → (∀ o, W.cell? ⟨w5.heap.size, o, none⟩ = (#[.int .i64 0, .slice none 0 0, .slice none 0 0] : Array Value)[o]?) ∧ (∀ o, W.frozen? ⟨w5.heap.size, o, none⟩ = false)) := fun W h => ⟨fun o => (h.cell (p := ⟨w5.heap.size, o, none⟩) hrv115).trans (by rw [hv115]; simp [go_sem]), fun o => (h.frozen (p := ⟨w5.heap.size, o, none⟩) hrv115).trans (by rw [hv115]; simp [go_sem])⟩
              have HS115 : Hid (Below w5.heap.size w5 v115) := (Below.refl w5.heap.size w5).trans (b115.mono (by have := (Below.refl w5.heap.size w5).size; omega))
              have hrb : w5.heap.size ≤ w5.heap.size := (Below.refl w5.heap.size w5).size
              clear hv115 b115
              refine hKQ.out _ _ (Or.inr HS115.out) ?_
              clear hKQ KQ
              (try simp only [Act.put, List.setIfInBounds_toArray, List.set_cons_zero, List.set_cons_succ])
              refine Goes.all (rs := [6]) (by kernel_rfl) (by simp) ?_
              refine Ups.cons (i := 6) (o := ?oo116) ?ho116 (fun KQ hKQ => ?stp116) Ups.nil
              case ho116 => (simp only [List.getElem?_toArray, List.getElem?_cons_succ, List.getElem?_cons_zero] <;> rfl)
              case stp116 =>
              go_simp
              go_at_call 10
              refine (HPP.out _ HS115.out).mono ?_
              rintro e v117 ⟨u1, u2, rfl, hoy, hbq⟩
              obtain ⟨ra, rc, rd, re, rfl, rfl⟩ := gt_form (hoy.rd (Nat.le_refl _))
              have hlo117 : w5.heap.size ≤ v115.heap.size := HS115.out.size
              have OY117 : Hid (∀ W, (∀ b, v115.heap.size ≤ b → b < v117.heap.size → W.heap[b]? = v117.heap[b]?) → Own W v115.heap.size v117.heap.size gtS y [.slice ra y.1.length rc, .slice rd y.2.1.length re]) := fun W h => Own.keep hoy h
              have kE117 : Hid _ := fun W (h : Below v117.heap.size v117 W) => kE115.out W ((hbq.mono (Nat.le_refl _)).trans (h.mono hbq.size))
              have HS117 : Hid (Below w5.heap.size w5 v117) := HS115.out.trans (hbq.mono HS115.out.size)
              have hrv117 : w5.heap.size < v117.heap.size := Nat.lt_of_lt_of_le hrv115 hbq.size
              clear hbq hoy
              dsimp only
              refine hKQ.out _ _ (Or.inr HS117.out) ?_
              clear hKQ KQ
              (try simp only [Act.put, List.setIfInBounds_toArray, List.set_cons_zero, List.set_cons_succ])
              obtain ⟨NN, hNN⟩ : ∃ NN : Array Value, NN = #[.int .i64 0, .slice ra y.1.length rc, .slice rd y.2.1.length re] := ⟨_, rfl⟩
              have HNN : Hid _ := hNN
              have HNZ : Hid (NN.size = 3) := by show _ = _; rw [hNN]; rfl
              have HNI : Hid ((Try.prog.info? 31).map (·.size) = some NN.size) := by show _ = _; rw [HNZ.out]; exact (by kernel_rfl : (Try.prog.info? 31).map (·.size) = some 3)
              have HNO : Hid (NN.all (·.oneCell') = true) := by show _ = _; rw [hNN]; simp [Value.oneCell']
              clear hNN
              obtain ⟨kb, fb⟩ := kE117.out _ (Below.refl _ _)
              refine Goes.all (rs := [8]) (by kernel_rfl) (by simp) ?_
              refine Ups.cons (i := 8) (o := ?oo118) ?ho118 (fun KQ hKQ => ?stp118) Ups.nil
              case ho118 => (simp only [List.getElem?_toArray, List.getElem?_cons_succ, List.getElem?_cons_zero] <;> rfl)
              case stp118 =>
              rw [if_pos (by rfl)]
              refine wp_store_mid 31 _ _ rfl _ _ NN (by rfl) (by rw [HNN.out]; rfl) (bx_there kb fb (by rw [HNZ.out]; rfl)) HNI.out HNO.out ?_
              have HSZ : Hid (Below w5.heap.size w5 (v117.setCells w5.heap.size 0 NN.toList)) := setCells_below hrb _ _ _ _ HS117.out
              refine hKQ.out _ _ (Or.inr HSZ.out) ?_
              clear hKQ KQ
              (try simp only [Act.put, List.setIfInBounds_toArray, List.set_cons_zero, List.set_cons_succ])
              refine Goes.done (by kernel_rfl) ?_ _
              refine NoPanic.normal ?_
              have kZ := bx_setCells kb (A' := NN) (by rw [HNZ.out]; rfl)
              rw [HNN.out] at kZ
              have zZ : w5.heap.size < (v117.setCells w5.heap.size 0 NN.toList).heap.size := by rw [setCells_size]; exact hrv117
              have OYZ : Hid (Own (v117.setCells w5.heap.size 0 NN.toList) v115.heap.size v117.heap.size gtS y [.slice ra y.1.length rc, .slice rd y.2.1.length re]) := OY117.out _ (fun b h1 h2 => setCells_block (by have := hrv117; omega) _ _ _)
              have hhi : v117.heap.size ≤ (v117.setCells w5.heap.size 0 NN.toList).heap.size := by rw [setCells_size]; exact Nat.le_refl _
              rw [HNN.out] at HSZ zZ OYZ hhi ⊢
              go_wp2_with fail
              go_meet
              exact ⟨_, ra, rc, rd, re, _, _, rfl, kZ, hrb, zZ, OYZ, hlo117, hhi, HSZ⟩
            case stp113 =>
              go_simp
              go_at_call 10
              refine (HPP.out _ HS0.out).mono ?_
              rintro e v119 ⟨u1, u2, rfl, hoy, hbq⟩
              obtain ⟨ra, rc, rd, re, rfl, rfl⟩ := gt_form (hoy.rd (Nat.le_refl _))
              have hlo119 : w5.heap.size ≤ w5.drew.heap.size := HS0.out.size
              have OY119 : Hid (∀ W, (∀ b, w5.drew.heap.size ≤ b → b < v119.heap.size → W.heap[b]? = v119.heap[b]?) → Own W w5.drew.heap.size v119.heap.size gtS y [.slice ra y.1.length rc, .slice rd y.2.1.length re]) := fun W h => Own.keep hoy h
              have HS119 : Hid (Below w5.heap.size w5 v119) := HS0.out.trans (hbq.mono HS0.out.size)
              clear hbq hoy
              dsimp only
              refine hKQ.out _ _ (Or.inr HS119.out) ?_
              clear hKQ KQ
              (try simp only [Act.put, List.setIfInBounds_toArray, List.set_cons_zero, List.set_cons_succ])
              refine Goes.all (rs := [7]) (by kernel_rfl) (by simp) ?_
              refine Ups.cons (i := 7) (o := ?oo120) ?ho120 (fun KQ hKQ => ?stp120) Ups.nil
              case ho120 => (simp only [List.getElem?_toArray, List.getElem?_cons_succ, List.getElem?_cons_zero] <;> rfl)
              case stp120 =>
              go_simp
              obtain ⟨v121, hv121⟩ : ∃ v, v = v119.alloc (.cells #[.int .i64 0, .slice none 0 0, .slice none 0 0] 31) := ⟨_, rfl⟩
              rw [← hv121]
              have b121 : Below v119.heap.size v119 v121 := by rw [hv121]; exact (Below.refl _ _).alloc (Nat.le_refl _) _
              have hrv121 : v119.heap.size < v121.heap.size := by rw [hv121]; simp
              have kE121 : Hid (∀ W, Below v121.heap.size v121 W → (∀ o, W.cell? ⟨v119.heap.size, o, none⟩ = (#[.int .i64 0, .slice none 0 0, .slice none 0 0] : Array Value)[o]?) ∧ (∀ o, W.frozen? ⟨v119.heap.size, o, none⟩ = false)) := fun W h => ⟨fun o => (h.cell (p := ⟨v119.heap.size, o, none⟩) hrv121).trans (by rw [hv121]; simp [go_sem]), fun o => (h.frozen (p := ⟨v119.heap.size, o, none⟩) hrv121).trans (by rw [hv121]; simp [go_sem])⟩
              have HS121 : Hid (Below w5.heap.size w5 v121) := HS119.out.trans (b121.mono (by have := HS119.out.size; omega))
              have hrb : w5.heap.size ≤ v119.heap.size := HS119.out.size
              have hal121 : Hid (∀ b, b < v119.heap.size → v121.heap[b]? = v119.heap[b]?) := fun b h => b121.block b h
              clear hv121 b121
              refine hKQ.out _ _ (Or.inr HS121.out) ?_
              clear hKQ KQ
              (try simp only [Act.put, List.setIfInBounds_toArray, List.set_cons_zero, List.set_cons_succ])
              obtain ⟨NN, hNN⟩ : ∃ NN : Array Value, NN = #[.int .i64 0, .slice ra y.1.length rc, .slice rd y.2.1.length re] := ⟨_, rfl⟩
              have HNN : Hid _ := hNN
              have HNZ : Hid (NN.size = 3) := by show _ = _; rw [hNN]; rfl
              have HNI : Hid ((Try.prog.info? 31).map (·.size) = some NN.size) := by show _ = _; rw [HNZ.out]; exact (by kernel_rfl : (Try.prog.info? 31).map (·.size) = some 3)
              have HNO : Hid (NN.all (·.oneCell') = true) := by show _ = _; rw [hNN]; simp [Value.oneCell']
              clear hNN
              obtain ⟨kb, fb⟩ := kE121.out _ (Below.refl _ _)
              refine Goes.all (rs := [8]) (by kernel_rfl) (by simp) ?_
              refine Ups.cons (i := 8) (o := ?oo122) ?ho122 (fun KQ hKQ => ?stp122) Ups.nil
              case ho122 => (simp only [List.getElem?_toArray, List.getElem?_cons_succ, List.getElem?_cons_zero] <;> rfl)
              case stp122 =>
              rw [if_pos (by rfl)]
              refine wp_store_mid 31 _ _ rfl _ _ NN (by rfl) (by rw [HNN.out]; rfl) (bx_there kb fb (by rw [HNZ.out]; rfl)) HNI.out HNO.out ?_
              have HSZ : Hid (Below w5.heap.size w5 (v121.setCells v119.heap.size 0 NN.toList)) := setCells_below hrb _ _ _ _ HS121.out
              refine hKQ.out _ _ (Or.inr HSZ.out) ?_
              clear hKQ KQ
              (try simp only [Act.put, List.setIfInBounds_toArray, List.set_cons_zero, List.set_cons_succ])
              refine Goes.done (by kernel_rfl) ?_ _
              refine NoPanic.normal ?_
              have kZ := bx_setCells kb (A' := NN) (by rw [HNZ.out]; rfl)
              rw [HNN.out] at kZ
              have zZ : v119.heap.size < (v121.setCells v119.heap.size 0 NN.toList).heap.size := by rw [setCells_size]; exact hrv121
              have OYZ : Hid (Own (v121.setCells v119.heap.size 0 NN.toList) w5.drew.heap.size v119.heap.size gtS y [.slice ra y.1.length rc, .slice rd y.2.1.length re]) := OY119.out _ (fun b h1 h2 => (setCells_block (by omega) _ _ _).trans (hal121.out b h2))
              have hhi : v119.heap.size ≤ (v121.setCells v119.heap.size 0 NN.toList).heap.size := by rw [setCells_size]; omega
              rw [HNN.out] at HSZ zZ OYZ hhi ⊢
              go_wp2_with fail
              go_meet
              exact ⟨_, ra, rc, rd, re, _, _, rfl, kZ, hrb, zZ, OYZ, hlo119, hhi, HSZ⟩
          case rest =>
          rename World => wz
          obtain ⟨rb, ra, rc, rd, re, lo, hi, rfl, kR, hrb, zR, OY, hlo, hhi, hb⟩ := hcut
          have hz5 := zG
          clear HPP hsl OG IG
          replace kG := bx_below kG zG hb
          replace fG := bxF fG hb zG
          replace zG := Nat.lt_of_lt_of_le zG hb.size
          replace D1 : Hid (Below w1.heap.size w1 wz) := D1.out.trans (hb.mono D1.out.size)
          replace HB : Hid (Below w.heap.size w wz) := HB.out.trans (hb.mono HB.out.size)
          clear hb
          have HHY : Hid (∀ (W : World) (p : Int), Below wz.heap.size wz W → Calls Try.prog 11 #[.agg #[.slice ra y.1.length rc, .slice rd y.2.1.length re], .int .i64 p] W fun e w' => e = .returned (.bool (hasB y p)) ∧ Below W.heap.size W w') := fun W p h => iHasByte y _ _ p W wz.heap.size (Sh.Rd.below (OY.out.rd (Nat.le_refl _)) (Nat.le_refl _) h) h.size
          obtain ⟨yn, hyn⟩ : ∃ q, q = y.1.length := ⟨_, rfl⟩
          obtain ⟨ym, hym⟩ : ∃ q, q = y.2.1.length := ⟨_, rfl⟩
          rw [← hyn, ← hym] at HHY OY
          simp only [← hyn, ← hym] at kR
          clear hyn hym
          go_wp2_with fail
          go_loopw [11] (fun t wr => ∃ p : Nat, x ≤ p ∧ p ≤ x + m ∧ t = .int .i64 p ∧ Hid (Below wz.heap.size wz wr)) (fun t _ => (x + m) - (intOf t).toNat)
          case atStart => exact ⟨x, Nat.le_refl _, by omega, rfl, Below.refl _ _⟩
          case round =>
            obtain ⟨p, hp0, hp1, rfl, hbz⟩ := hrel
            have kRr := bx_below kR zR hbz.out
            by_cases hp : p < x + m
            · have hpE : (p : Int) < ((x : Int) + 1 + (q : Int)) := by rw [HE.out]; omega
              have HQ : Hid (∀ (W : World), Below wz.heap.size wz W → Calls Try.prog 11 #[.agg #[.slice ra yn rc, .slice rd ym re], .int .i64 p] W fun e w' => e = .returned (.bool true) ∧ Below W.heap.size W w') := fun W h => by have q := HHY.out W p h; rw [HHB.out p (by omega) (by omega)] at q; exact q
              clear kG fG
              go_wp2_with fail
              refine (HQ.out _ hbz.out).mono ?_
              rintro e wq ⟨rfl, hb⟩
              have hbq : Hid (Below wz.heap.size wz wq) := hbz.out.trans (hb.mono hbz.out.size)
              clear hb kRr hbz HQ
              go_wp2_with fail
              go_roundw
              case rel => exact ⟨p + 1, by omega, by omega, by go_num, hbq⟩
              case measure => simp [intOf]; omega
            · have hpE : ¬ (p : Int) < ((x : Int) + 1 + (q : Int)) := by rw [HE.out]; omega
              have hsz := hbz.out.size
              have kGr := bx_below kG zG hbz.out
              have fGr := bxF fG hbz.out zG
              have kG2 := bx_twoT (u0 := .slice ra yn rc) (u1 := .slice rd ym re) kGr
              have fG2 : ∀ o, ((wr.setCell ⟨bG, 0, none⟩ (.slice ra yn rc)).setCell ⟨bG, 1, none⟩ (.slice rd ym re)).frozen? ⟨bG, o, none⟩ = false := fun o => by rw [World.frozen?_setCell, World.frozen?_setCell]; exact fGr o
              have OG2 : Hid (Own ((wr.setCell ⟨bG, 0, none⟩ (.slice ra yn rc)).setCell ⟨bG, 1, none⟩ (.slice rd ym re)) (bG + 1) ((wr.setCell ⟨bG, 0, none⟩ (.slice ra yn rc)).setCell ⟨bG, 1, none⟩ (.slice rd ym re)).heap.size gtS y [.slice ra yn rc, .slice rd ym re]) := ((OY.out.below hhi hbz.out).keep (fun b h1 h2 => (Below.heap_setCell _ _ _ _ (by dsimp only; omega)).trans (Below.heap_setCell _ _ _ _ (by dsimp only; omega)))).mono (by omega) (by simp; omega)
              have zG2 : bG < ((wr.setCell ⟨bG, 0, none⟩ (.slice ra yn rc)).setCell ⟨bG, 1, none⟩ (.slice rd ym re)).heap.size := by simp; omega
              have D12 : Hid (Below w1.heap.size w1 ((wr.setCell ⟨bG, 0, none⟩ (.slice ra yn rc)).setCell ⟨bG, 1, none⟩ (.slice rd ym re))) := (D1.out.trans (hbz.out.mono D1.out.size)).trans ((bel_twoT wr bG _ _).mono hG0)
              have HB2 : Hid (Below w.heap.size w ((wr.setCell ⟨bG, 0, none⟩ (.slice ra yn rc)).setCell ⟨bG, 1, none⟩ (.slice rd ym re))) := (HB.out.trans (hbz.out.mono HB.out.size)).trans ((bel_twoT wr bG _ _).mono (Nat.le_trans HW1.out hG0))
              have HK2 : Hid _ := kG2
              have HF2 : Hid _ := fG2
              clear kG fG kG2 fG2 D1 HB HHY HHB
              go_wp2_with fail
              go_roundw
              case rel => exact ⟨kk + 1, y, ra, yn, rc, rd, ym, re, by omega, by go_num, HK2.out, HF2.out, zG2, OG2, HIY, D12, HB2⟩
              case measure => simp [intOf]; omega
      · obtain rfl : kk = 8 := by omega
        clear HAT
        have hrg := OG.out.rd (Nat.le_refl _)
        obtain ⟨hn1, hra⟩ := gt_form2 hrg
        obtain ⟨hd1, hd2⟩ := inS_done IG.out
        have hft := inS_fitsV IG.out
        obtain ⟨ha1, ha2, ha3, ha4⟩ := inS_all (by rw [HLS.out]; omega) IG.out
        have hg0 := IG.out.1
        have hgs := gt_small hg0
        rw [HLS.out] at hd1
        rw [← hn1] at hd1 hd2
        have hnsc : n1 ≤ sc := by omega
        have HRG : Hid (∀ W, Below wr.heap.size wr W → gtS.Rd W W.heap.size g [.slice a1 n1 c1, .slice a2 n2 c2]) := fun W h => Sh.Rd.mono h.size _ _ _ (Sh.Rd.below hrg (Nat.le_refl _) h)
        have HSR : Hid (∀ W, Below wr.heap.size wr W → u8s.Rd W W.heap.size ss [.slice (some ⟨bs, 0, none⟩) ss.length sc]) := fun W h => by have q := (HSS.out W (D1.out.trans (h.mono D1.out.size)) 0 sn (by omega)).1; rw [List.drop_zero, List.take_of_length_le (by rw [HLS.out]; exact Nat.le_refl _)] at q; rw [HLS.out]; exact q
        have HF : Hid (∀ W, Below wr.heap.size wr W → Calls Try.prog 12 #[.agg #[.slice a1 n1 c1, .slice a2 n2 c2]] W fun e w' => e = .returned (.int .i64 0) ∧ Below W.heap.size W w') := fun W h => by have q := iGatherFault g [.slice a1 n1 c1, .slice a2 n2 c2] W (HRG.out W h); rw [hg0] at q; exact q
        have HFT : Hid (∀ W, Below wr.heap.size wr W → Calls Try.prog 13 #[.agg #[.slice a1 n1 c1, .slice a2 n2 c2], .slice (some ⟨bs, 0, none⟩) sn sc] W fun e w' => e = .returned (.bool true) ∧ Below W.heap.size W w') := fun W h => by have q := iFitsStream g _ _ ss _ sc W W.heap.size (HRG.out W h) (HSR.out W h) (Nat.le_refl _) (by rw [HLS.out]; omega); rw [hft, HLS.out] at q; exact q
        have HMI : Hid (∀ W, Below wr.heap.size wr W → Calls Try.prog 15 #[.agg #[.slice a1 n1 c1, .slice a2 n2 c2]] W fun e w' => e = .returned (.agg #[.int .i64 0, .int .i64 (missV g)]) ∧ Below W.heap.size W w') := fun W h => by have q := iMissingOf g _ _ W W.heap.size (HRG.out W h) (Nat.le_refl _) hgs; rw [hg0] at q; exact q
        have HMS : Hid (∀ W, Below wr.heap.size wr W → Calls Try.prog 16 #[.agg #[.slice a1 n1 c1, .slice a2 n2 c2]] W fun e w' => e = .returned (.agg #[.int .i64 0, .int .i64 (missV g)]) ∧ Below W.heap.size W w') := fun W h => by have q := sMissingOf g _ _ W W.heap.size (HRG.out W h) (Nat.le_refl _) hgs; rw [hg0] at q; exact q
        obtain ⟨z, hz⟩ : ∃ z, z = putV g 0 ss := ⟨_, rfl⟩
        rw [← hz] at ha2 ha3 ha4
        have HPA : Hid (∀ W, Below wr.heap.size wr W → Calls Try.prog 10 #[.agg #[.slice a1 n1 c1, .slice a2 n2 c2], .int .i64 0, .slice (some ⟨bs, 0, none⟩) sn sc] W fun e w' => ∃ u1 u2, e = .returned (.agg #[.int .i64 0, u1, u2]) ∧ Own w' W.heap.size w'.heap.size gtS z [u1, u2] ∧ Below W.heap.size W w') := fun W h => by have q := iPutPiece g _ _ 0 ss _ sc W W.heap.size (HRG.out W h) (HSR.out W h) (Nat.le_refl _) (by rw [HLS.out]; omega); rw [ha1, ← hz, HLS.out] at q; exact q
        have HC1 : Hid (∀ W, Below wr.heap.size wr W → (convert 22 9 (.slice (some ⟨bs, 0, none⟩) n1 sc)).run Try.prog W = .ok (.string (strOfNums g.1)) W) := fun W h => by
          obtain ⟨q1, q2⟩ := HSS.out W (D1.out.trans (h.mono D1.out.size)) 0 n1 (by omega)
          obtain ⟨a', c', e, r, -, -⟩ := rd_bytes q1
          simp only [List.cons.injEq, Value.slice.injEq, and_true] at e
          obtain ⟨e1, -⟩ := e
          subst e1
          rw [List.drop_zero, hd2] at r q2
          exact cv_str _ n1 sc g.1 W q2 r
        have HC2 : Hid (∀ W, Below wr.heap.size wr W → (convert 22 9 (.slice a1 n1 c1)).run Try.prog W = .ok (.string (strOfNums g.1)) W) := fun W h => cv_str a1 n1 c1 g.1 W hn1.symm (hra.below (Nat.le_refl _) h)
        have HC3 : Hid (∀ W, Below wr.heap.size wr W → (convert 22 9 (.slice (some ⟨bs, 0, none⟩) sn sc)).run Try.prog W = .ok (.string (strOfNums ss)) W) := fun W h => cv_str _ sn sc ss W HLS.out (HRS.out W (D1.out.trans (h.mono D1.out.size)))
        have HTP : Hid (∀ W, (Instr.slice 22 (.slice (some ⟨bs, 0, none⟩) sn sc) none (some (.int .i64 n1)) none).run Try.prog W = .ok (.slice (some ⟨bs, 0, none⟩) n1 sc) W) := fun W => gtop bs sn sc n1 hnsc W
        have HZ : Hid (z.1 = ss ∧ holdV z = 0 ∧ gtFault z = 0) := ⟨ha2, ha3, ha4⟩
        have hfI := pfldI
        clear hrg hn1 hra hd1 hd2 hft ha1 ha2 ha3 ha4 hg0 hgs hz HSR HRG OG IG HSS HRS hnsc fG
        generalize missV g = mv at *
        generalize strOfNums g.1 = sg at *
        go_upto_region 22 with fail
        refine wp_region_noPanic ?_
        refine Goes.start (S := fun w' => Below wr.heap.size wr w') (z := 100) (by kernel_rfl) ?_
        refine Goes.take (i := 0) (oi := ?oi5001) (x := ?vx5001) ?ho5001 (by kernel_rfl) (by kernel_rfl) (by kernel_rfl) (by kernel_rfl) (fun _ _ _ h => h) (Or.inl ⟨?hw5001, ?hy5001⟩) (Below.drew (Below.refl _ _)) ?rest5001
        case ho5001 => (simp only [List.getElem?_toArray, List.getElem?_cons_zero] <;> rfl)
        case hw5001 => rfl
        case hy5001 => (intro w' hSw; have jG := fun o => (hSw.cell (p := ⟨bG, o, none⟩) zG).trans (kG o); have hc1 := HC1.out _ hSw; have hc2 := HC2.out _ hSw; have ht := HTP.out w'; go_simp; (try with_reducible rfl))
        case rest5001 =>
        (try simp only [Act.put, List.setIfInBounds_toArray, List.set_cons_zero, List.set_cons_succ])
        refine Goes.all (rs := [1]) (by kernel_rfl) (by simp) ?_
        refine Ups.cons (i := 1) (o := ?oo5002) ?ho5002 (fun KK hKK => ?stp5002) Ups.nil
        case ho5002 => (simp only [List.getElem?_toArray, List.getElem?_cons_succ, List.getElem?_cons_zero] <;> rfl)
        case stp5002 =>
        go_simp
        go_at_call 12
        refine (HF.out _ (Below.drew (Below.refl _ _))).mono ?_
        rintro e wa ⟨rfl, hbq⟩
        replace hbq := (Below.drew (Below.refl wr.heap.size wr)).trans hbq
        have HS5002 : Hid (Below wr.heap.size wr wa) := hbq
        clear hbq
        dsimp only
        refine hKK.out _ _ (Or.inr HS5002.out) ?_
        clear hKK KK
        (try simp only [Act.put, List.setIfInBounds_toArray, List.set_cons_zero, List.set_cons_succ])
        refine Goes.take (i := 2) (oi := ?oi5003) (x := ?vx5003) ?ho5003 (by kernel_rfl) (by kernel_rfl) (by kernel_rfl) (by kernel_rfl) (fun _ _ _ h => h) (Or.inl ⟨?hw5003, ?hy5003⟩) HS5002.out ?rest5003
        case ho5003 => (simp only [List.getElem?_toArray, List.getElem?_cons_succ, List.getElem?_cons_zero] <;> rfl)
        case hw5003 => rfl
        case hy5003 => (intro w' hSw; have jG := fun o => (hSw.cell (p := ⟨bG, o, none⟩) zG).trans (kG o); have hc1 := HC1.out _ hSw; have hc2 := HC2.out _ hSw; have ht := HTP.out w'; go_simp; (try with_reducible rfl))
        case rest5003 =>
        (try simp only [Act.put, List.setIfInBounds_toArray, List.set_cons_zero, List.set_cons_succ])
        refine Goes.take (i := 3) (oi := ?oi5004) (x := ?vx5004) ?ho5004 (by kernel_rfl) (by kernel_rfl) (by kernel_rfl) (by kernel_rfl) (fun _ _ _ h => h) (Or.inl ⟨?hw5004, ?hy5004⟩) HS5002.out ?rest5004
        case ho5004 => (simp only [List.getElem?_toArray, List.getElem?_cons_succ, List.getElem?_cons_zero] <;> rfl)
        case hw5004 => rfl
        case hy5004 => (intro w' hSw; have jG := fun o => (hSw.cell (p := ⟨bG, o, none⟩) zG).trans (kG o); have hc1 := HC1.out _ hSw; have hc2 := HC2.out _ hSw; have ht := HTP.out w'; go_simp; (try with_reducible rfl))
        case rest5004 =>
        (try simp only [Act.put, List.setIfInBounds_toArray, List.set_cons_zero, List.set_cons_succ])
        refine Goes.take (i := 4) (oi := ?oi5005) (x := ?vx5005) ?ho5005 (by kernel_rfl) (by kernel_rfl) (by kernel_rfl) (by kernel_rfl) (fun _ _ _ h => h) (Or.inl ⟨?hw5005, ?hy5005⟩) HS5002.out ?rest5005
        case ho5005 => (simp only [List.getElem?_toArray, List.getElem?_cons_succ, List.getElem?_cons_zero] <;> rfl)
        case hw5005 => rfl
        case hy5005 => (intro w' hSw; have jG := fun o => (hSw.cell (p := ⟨bG, o, none⟩) zG).trans (kG o); have hc1 := HC1.out _ hSw; have hc2 := HC2.out _ hSw; have ht := HTP.out w'; go_simp; (try with_reducible rfl))
        case rest5005 =>
        (try simp only [Act.put, List.setIfInBounds_toArray, List.set_cons_zero, List.set_cons_succ])
        refine Goes.take (i := 5) (oi := ?oi5006) (x := ?vx5006) ?ho5006 (by kernel_rfl) (by kernel_rfl) (by kernel_rfl) (by kernel_rfl) (fun _ _ _ h => h) (Or.inl ⟨?hw5006, ?hy5006⟩) HS5002.out ?rest5006
        case ho5006 => (simp only [List.getElem?_toArray, List.getElem?_cons_succ, List.getElem?_cons_zero] <;> rfl)
        case hw5006 => rfl
        case hy5006 => (intro w' hSw; have jG := fun o => (hSw.cell (p := ⟨bG, o, none⟩) zG).trans (kG o); have hc1 := HC1.out _ hSw; have hc2 := HC2.out _ hSw; have ht := HTP.out w'; go_simp; (try with_reducible rfl))
        case rest5006 =>
        (try simp only [Act.put, List.setIfInBounds_toArray, List.set_cons_zero, List.set_cons_succ])
        refine Goes.all (rs := [6]) (by kernel_rfl) (by simp) ?_
        refine Ups.cons (i := 6) (o := ?oo5007) ?ho5007 (fun KK hKK => ?stp5007) Ups.nil
        case ho5007 => (simp only [List.getElem?_toArray, List.getElem?_cons_succ, List.getElem?_cons_zero] <;> rfl)
        case stp5007 =>
        go_simp
        go_at_call 13
        refine (HFT.out _ HS5002.out).mono ?_
        rintro e wb ⟨rfl, hbq⟩
        replace hbq := HS5002.out.trans (hbq.mono HS5002.out.size)
        have HS5007 : Hid (Below wr.heap.size wr wb) := hbq
        clear hbq
        dsimp only
        refine hKK.out _ _ (Or.inr HS5007.out) ?_
        clear hKK KK
        (try simp only [Act.put, List.setIfInBounds_toArray, List.set_cons_zero, List.set_cons_succ])
        refine Goes.take (i := 7) (oi := ?oi5008) (x := ?vx5008) ?ho5008 (by kernel_rfl) (by kernel_rfl) (by kernel_rfl) (by kernel_rfl) (fun _ _ _ h => h) (Or.inl ⟨?hw5008, ?hy5008⟩) HS5007.out ?rest5008
        case ho5008 => (simp only [List.getElem?_toArray, List.getElem?_cons_succ, List.getElem?_cons_zero] <;> rfl)
        case hw5008 => rfl
        case hy5008 => (intro w' hSw; have jG := fun o => (hSw.cell (p := ⟨bG, o, none⟩) zG).trans (kG o); have hc1 := HC1.out _ hSw; have hc2 := HC2.out _ hSw; have ht := HTP.out w'; go_simp; (try with_reducible rfl))
        case rest5008 =>
        (try simp only [Act.put, List.setIfInBounds_toArray, List.set_cons_zero, List.set_cons_succ])
        refine Goes.take (i := 8) (oi := ?oi5009) (x := ?vx5009) ?ho5009 (by kernel_rfl) (by kernel_rfl) (by kernel_rfl) (by kernel_rfl) (fun _ _ _ h => h) (Or.inl ⟨?hw5009, ?hy5009⟩) HS5007.out ?rest5009
        case ho5009 => (simp only [List.getElem?_toArray, List.getElem?_cons_succ, List.getElem?_cons_zero] <;> rfl)
        case hw5009 => rfl
        case hy5009 => (intro w' hSw; have jG := fun o => (hSw.cell (p := ⟨bG, o, none⟩) zG).trans (kG o); have hc1 := HC1.out _ hSw; have hc2 := HC2.out _ hSw; have ht := HTP.out w'; go_simp; (try with_reducible rfl))
        case rest5009 =>
        (try simp only [Act.put, List.setIfInBounds_toArray, List.set_cons_zero, List.set_cons_succ])
        refine Goes.take (i := 9) (oi := ?oi5010) (x := ?vx5010) ?ho5010 (by kernel_rfl) (by kernel_rfl) (by kernel_rfl) (by kernel_rfl) (fun _ _ _ h => h) (Or.inl ⟨?hw5010, ?hy5010⟩) HS5007.out ?rest5010
        case ho5010 => (simp only [List.getElem?_toArray, List.getElem?_cons_succ, List.getElem?_cons_zero] <;> rfl)
        case hw5010 => rfl
        case hy5010 => (intro w' hSw; have jG := fun o => (hSw.cell (p := ⟨bG, o, none⟩) zG).trans (kG o); have hc1 := HC1.out _ hSw; have hc2 := HC2.out _ hSw; have ht := HTP.out w'; go_simp; (try with_reducible rfl))
        case rest5010 =>
        (try simp only [Act.put, List.setIfInBounds_toArray, List.set_cons_zero, List.set_cons_succ])
        refine Goes.take (i := 10) (oi := ?oi5011) (x := ?vx5011) ?ho5011 (by kernel_rfl) (by kernel_rfl) (by kernel_rfl) (by kernel_rfl) (fun _ _ _ h => h) (Or.inl ⟨?hw5011, ?hy5011⟩) HS5007.out ?rest5011
        case ho5011 => (simp only [List.getElem?_toArray, List.getElem?_cons_succ, List.getElem?_cons_zero] <;> rfl)
        case hw5011 => rfl
        case hy5011 => (intro w' hSw; have jG := fun o => (hSw.cell (p := ⟨bG, o, none⟩) zG).trans (kG o); have hc1 := HC1.out _ hSw; have hc2 := HC2.out _ hSw; have ht := HTP.out w'; go_simp; (try with_reducible rfl))
        case rest5011 =>
        (try simp only [Act.put, List.setIfInBounds_toArray, List.set_cons_zero, List.set_cons_succ])
        refine Goes.take (i := 11) (oi := ?oi5012) (x := ?vx5012) ?ho5012 (by kernel_rfl) (by kernel_rfl) (by kernel_rfl) (by kernel_rfl) (fun _ _ _ h => h) (Or.inl ⟨?hw5012, ?hy5012⟩) HS5007.out ?rest5012
        case ho5012 => (simp only [List.getElem?_toArray, List.getElem?_cons_succ, List.getElem?_cons_zero] <;> rfl)
        case hw5012 => rfl
        case hy5012 => (intro w' hSw; have jG := fun o => (hSw.cell (p := ⟨bG, o, none⟩) zG).trans (kG o); have hc1 := HC1.out _ hSw; have hc2 := HC2.out _ hSw; have ht := HTP.out w'; go_simp; (try with_reducible rfl))
        case rest5012 =>
        (try simp only [Act.put, List.setIfInBounds_toArray, List.set_cons_zero, List.set_cons_succ])
        refine Goes.take (i := 12) (oi := ?oi5013) (x := ?vx5013) ?ho5013 (by kernel_rfl) (by kernel_rfl) (by kernel_rfl) (by kernel_rfl) (fun _ _ _ h => h) (Or.inl ⟨?hw5013, ?hy5013⟩) HS5007.out ?rest5013
        case ho5013 => (simp only [List.getElem?_toArray, List.getElem?_cons_succ, List.getElem?_cons_zero] <;> rfl)
        case hw5013 => rfl
        case hy5013 => (intro w' hSw; have jG := fun o => (hSw.cell (p := ⟨bG, o, none⟩) zG).trans (kG o); have hc1 := HC1.out _ hSw; have hc2 := HC2.out _ hSw; have ht := HTP.out w'; go_simp; (try with_reducible rfl))
        case rest5013 =>
        (try simp only [Act.put, List.setIfInBounds_toArray, List.set_cons_zero, List.set_cons_succ])
        refine Goes.take (i := 13) (oi := ?oi5014) (x := ?vx5014) ?ho5014 (by kernel_rfl) (by kernel_rfl) (by kernel_rfl) (by kernel_rfl) (fun _ _ _ h => h) (Or.inl ⟨?hw5014, ?hy5014⟩) HS5007.out ?rest5014
        case ho5014 => (simp only [List.getElem?_toArray, List.getElem?_cons_succ, List.getElem?_cons_zero] <;> rfl)
        case hw5014 => rfl
        case hy5014 => (intro w' hSw; have jG := fun o => (hSw.cell (p := ⟨bG, o, none⟩) zG).trans (kG o); have hc1 := HC1.out _ hSw; have hc2 := HC2.out _ hSw; have ht := HTP.out w'; go_simp; (try with_reducible rfl))
        case rest5014 =>
        (try simp only [Act.put, List.setIfInBounds_toArray, List.set_cons_zero, List.set_cons_succ])
        refine Goes.take (i := 14) (oi := ?oi5015) (x := ?vx5015) ?ho5015 (by kernel_rfl) (by kernel_rfl) (by kernel_rfl) (by kernel_rfl) (fun _ _ _ h => h) (Or.inl ⟨?hw5015, ?hy5015⟩) HS5007.out ?rest5015
        case ho5015 => (simp only [List.getElem?_toArray, List.getElem?_cons_succ, List.getElem?_cons_zero] <;> rfl)
        case hw5015 => rfl
        case hy5015 => (intro w' hSw; have jG := fun o => (hSw.cell (p := ⟨bG, o, none⟩) zG).trans (kG o); have hc1 := HC1.out _ hSw; have hc2 := HC2.out _ hSw; have ht := HTP.out w'; go_simp; (try with_reducible rfl))
        case rest5015 =>
        (try simp only [Act.put, List.setIfInBounds_toArray, List.set_cons_zero, List.set_cons_succ])
        refine Goes.take (i := 15) (oi := ?oi5016) (x := ?vx5016) ?ho5016 (by kernel_rfl) (by kernel_rfl) (by kernel_rfl) (by kernel_rfl) (fun _ _ _ h => h) (Or.inl ⟨?hw5016, ?hy5016⟩) HS5007.out ?rest5016
        case ho5016 => (simp only [List.getElem?_toArray, List.getElem?_cons_succ, List.getElem?_cons_zero] <;> rfl)
        case hw5016 => rfl
        case hy5016 => (intro w' hSw; have jG := fun o => (hSw.cell (p := ⟨bG, o, none⟩) zG).trans (kG o); have hc1 := HC1.out _ hSw; have hc2 := HC2.out _ hSw; have ht := HTP.out w'; go_simp; (try with_reducible rfl))
        case rest5016 =>
        (try simp only [Act.put, List.setIfInBounds_toArray, List.set_cons_zero, List.set_cons_succ])
        refine Goes.take (i := 16) (oi := ?oi5017) (x := ?vx5017) ?ho5017 (by kernel_rfl) (by kernel_rfl) (by kernel_rfl) (by kernel_rfl) (fun _ _ _ h => h) (Or.inl ⟨?hw5017, ?hy5017⟩) HS5007.out ?rest5017
        case ho5017 => (simp only [List.getElem?_toArray, List.getElem?_cons_succ, List.getElem?_cons_zero] <;> rfl)
        case hw5017 => rfl
        case hy5017 => (intro w' hSw; have jG := fun o => (hSw.cell (p := ⟨bG, o, none⟩) zG).trans (kG o); have hc1 := HC1.out _ hSw; have hc2 := HC2.out _ hSw; have ht := HTP.out w'; go_simp; (try with_reducible rfl))
        case rest5017 =>
        (try simp only [Act.put, List.setIfInBounds_toArray, List.set_cons_zero, List.set_cons_succ])
        refine Goes.take (i := 17) (oi := ?oi5018) (x := ?vx5018) ?ho5018 (by kernel_rfl) (by kernel_rfl) (by kernel_rfl) (by kernel_rfl) (fun _ _ _ h => h) (Or.inl ⟨?hw5018, ?hy5018⟩) HS5007.out ?rest5018
        case ho5018 => (simp only [List.getElem?_toArray, List.getElem?_cons_succ, List.getElem?_cons_zero] <;> rfl)
        case hw5018 => rfl
        case hy5018 => (intro w' hSw; have jG := fun o => (hSw.cell (p := ⟨bG, o, none⟩) zG).trans (kG o); have hc1 := HC1.out _ hSw; have hc2 := HC2.out _ hSw; have ht := HTP.out w'; go_simp; (try with_reducible rfl))
        case rest5018 =>
        (try simp only [Act.put, List.setIfInBounds_toArray, List.set_cons_zero, List.set_cons_succ])
        refine Goes.take (i := 18) (oi := ?oi5019) (x := ?vx5019) ?ho5019 (by kernel_rfl) (by kernel_rfl) (by kernel_rfl) (by kernel_rfl) (fun _ _ _ h => h) (Or.inl ⟨?hw5019, ?hy5019⟩) HS5007.out ?rest5019
        case ho5019 => (simp only [List.getElem?_toArray, List.getElem?_cons_succ, List.getElem?_cons_zero] <;> rfl)
        case hw5019 => rfl
        case hy5019 => (intro w' hSw; have jG := fun o => (hSw.cell (p := ⟨bG, o, none⟩) zG).trans (kG o); have hc1 := HC1.out _ hSw; have hc2 := HC2.out _ hSw; have ht := HTP.out w'; go_simp; (try with_reducible rfl))
        case rest5019 =>
        (try simp only [Act.put, List.setIfInBounds_toArray, List.set_cons_zero, List.set_cons_succ])
        refine Goes.take (i := 19) (oi := ?oi5020) (x := ?vx5020) ?ho5020 (by kernel_rfl) (by kernel_rfl) (by kernel_rfl) (by kernel_rfl) (fun _ _ _ h => h) (Or.inl ⟨?hw5020, ?hy5020⟩) HS5007.out ?rest5020
        case ho5020 => (simp only [List.getElem?_toArray, List.getElem?_cons_succ, List.getElem?_cons_zero] <;> rfl)
        case hw5020 => rfl
        case hy5020 => (intro w' hSw; have jG := fun o => (hSw.cell (p := ⟨bG, o, none⟩) zG).trans (kG o); have hc1 := HC1.out _ hSw; have hc2 := HC2.out _ hSw; have ht := HTP.out w'; go_simp; (try with_reducible rfl))
        case rest5020 =>
        (try simp only [Act.put, List.setIfInBounds_toArray, List.set_cons_zero, List.set_cons_succ])
        refine Goes.take (i := 20) (oi := ?oi5021) (x := ?vx5021) ?ho5021 (by kernel_rfl) (by kernel_rfl) (by kernel_rfl) (by kernel_rfl) (fun _ _ _ h => h) (Or.inl ⟨?hw5021, ?hy5021⟩) HS5007.out ?rest5021
        case ho5021 => (simp only [List.getElem?_toArray, List.getElem?_cons_succ, List.getElem?_cons_zero] <;> rfl)
        case hw5021 => rfl
        case hy5021 => (intro w' hSw; have jG := fun o => (hSw.cell (p := ⟨bG, o, none⟩) zG).trans (kG o); have hc1 := HC1.out _ hSw; have hc2 := HC2.out _ hSw; have ht := HTP.out w'; go_simp; (try with_reducible rfl))
        case rest5021 =>
        (try simp only [Act.put, List.setIfInBounds_toArray, List.set_cons_zero, List.set_cons_succ])
        refine Goes.done (by kernel_rfl) ?_ _
        refine NoPanic.normal ?_
        have DR : Hid (Below wr.heap.size wr wb) := HS5007.out
        have kG0 := bx_below kG zG DR.out
        have zG0 := Nat.lt_of_lt_of_le zG DR.out.size
        clear kG zG
        have kG := kG0
        have zG := zG0
        clear kG0 zG0
        replace HB : Hid (Below w.heap.size w wb) := HB.out.trans (DR.out.mono HB.out.size)
        clear HF HFT HC1 HC2 HTP D1
        go_wp2_with fail
        refine (HPA.out _ DR.out).mono ?_
        rintro e wc ⟨u1, u2, rfl, ho, hb⟩
        clear HPA
        obtain ⟨za, zc, zb, zd, rfl, rfl⟩ := gt_form (ho.rd (Nat.le_refl _))
        obtain ⟨-, hrz⟩ := gt_form2 (ho.rd (Nat.le_refl _))
        have hgz := gt_small HZ.out.2.2
        have hoz := ho.rd (Nat.le_refl _)
        have HHZ : Hid (∀ W, Below wc.heap.size wc W → Calls Try.prog 14 #[.agg #[.slice za z.1.length zc, .slice zb z.2.1.length zd]] W fun e w' => e = .returned (.agg #[.int .i64 0, .int .i64 0]) ∧ Below W.heap.size W w') := fun W h => by have q := iHoldOf z _ _ W W.heap.size (Sh.Rd.mono h.size _ _ _ (Sh.Rd.below hoz (Nat.le_refl _) h)) (Nat.le_refl _) hgz; rw [HZ.out.2.1, HZ.out.2.2] at q; exact q
        have HCZ : Hid (∀ W, Below wc.heap.size wc W → (convert 22 9 (.slice za z.1.length zc)).run Try.prog W = .ok (.string (strOfNums ss)) W) := fun W h => by have q := cv_str za z.1.length zc z.1 W rfl (hrz.below (Nat.le_refl _) h); rw [HZ.out.1] at q ⊢; exact q
        have DC : Hid (Below wc.heap.size wc wc) := Below.refl _ _
        generalize z.1.length = zn at *
        generalize z.2.1.length = zm at *
        clear ho hrz hgz hoz HZ
        generalize strOfNums ss = sS at *
        replace DR : Hid (Below wr.heap.size wr wc) := DR.out.trans (hb.mono DR.out.size)
        replace kG := bx_below kG zG hb
        replace zG := Nat.lt_of_lt_of_le zG hb.size
        replace HB : Hid (Below w.heap.size w wc) := HB.out.trans (hb.mono HB.out.size)
        clear hb
        go_upto_region 25 with fail
        have kZ : ∀ o, (wc.alloc (.cells #[.int .i64 0, .slice za zn zc, .slice zb zm zd] 31)).cell? ⟨wc.heap.size, o, none⟩ = (#[.int .i64 0, .slice za zn zc, .slice zb zm zd] : Array Value)[o]? := bx_al wc _ _
        have hb : Below wc.heap.size wc (wc.alloc (.cells #[.int .i64 0, .slice za zn zc, .slice zb zm zd] 31)) := (Below.refl _ _).alloc (Nat.le_refl _) _
        have zZ : wc.heap.size < (wc.alloc (.cells #[.int .i64 0, .slice za zn zc, .slice zb zm zd] 31)).heap.size := by simp
        generalize hWW : (wc.alloc (.cells #[.int .i64 0, .slice za zn zc, .slice zb zm zd] 31)) = we at kZ hb zZ ⊢
        clear hWW
        obtain ⟨bZ, hq⟩ : ∃ q, q = wc.heap.size := ⟨_, rfl⟩
        rw [← hq] at zZ kZ ⊢
        clear hq
        replace DR : Hid (Below wr.heap.size wr we) := DR.out.trans (hb.mono DR.out.size)
        replace DC : Hid (Below wc.heap.size wc we) := DC.out.trans (hb.mono DC.out.size)
        replace kG := bx_below kG zG hb
        replace zG := Nat.lt_of_lt_of_le zG hb.size
        replace HB : Hid (Below w.heap.size w we) := HB.out.trans (hb.mono HB.out.size)
        clear hb
        refine wp_region_noPanic ?_
        refine Goes.start (S := fun w' => Below we.heap.size we w') (z := 100) (by kernel_rfl) ?_
        refine Goes.take (i := 0) (oi := ?oi6001) (x := ?vx6001) ?ho6001 (by kernel_rfl) (by kernel_rfl) (by kernel_rfl) (by kernel_rfl) (fun _ _ _ h => h) (Or.inl ⟨?hw6001, ?hy6001⟩) (Below.drew (Below.refl _ _)) ?rest6001
        case ho6001 => (simp only [List.getElem?_toArray, List.getElem?_cons_zero] <;> rfl)
        case hw6001 => rfl
        case hy6001 => (intro w' hSw; have jG := fun o => (hSw.cell (p := ⟨bG, o, none⟩) zG).trans (kG o); have jZ := fun o => (hSw.cell (p := ⟨bZ, o, none⟩) zZ).trans (kZ o); have hc1 := HCZ.out _ (DC.out.trans (hSw.mono DC.out.size)); have hc2 := HC3.out _ (DR.out.trans (hSw.mono DR.out.size)); go_simp; (try with_reducible rfl))
        case rest6001 =>
        (try simp only [Act.put, List.setIfInBounds_toArray, List.set_cons_zero, List.set_cons_succ])
        refine Goes.take (i := 1) (oi := ?oi6002) (x := ?vx6002) ?ho6002 (by kernel_rfl) (by kernel_rfl) (by kernel_rfl) (by kernel_rfl) (fun _ _ _ h => h) (Or.inl ⟨?hw6002, ?hy6002⟩) (Below.drew (Below.refl _ _)) ?rest6002
        case ho6002 => (simp only [List.getElem?_toArray, List.getElem?_cons_succ, List.getElem?_cons_zero] <;> rfl)
        case hw6002 => rfl
        case hy6002 => (intro w' hSw; have jG := fun o => (hSw.cell (p := ⟨bG, o, none⟩) zG).trans (kG o); have jZ := fun o => (hSw.cell (p := ⟨bZ, o, none⟩) zZ).trans (kZ o); have hc1 := HCZ.out _ (DC.out.trans (hSw.mono DC.out.size)); have hc2 := HC3.out _ (DR.out.trans (hSw.mono DR.out.size)); go_simp; (try with_reducible rfl))
        case rest6002 =>
        (try simp only [Act.put, List.setIfInBounds_toArray, List.set_cons_zero, List.set_cons_succ])
        refine Goes.take (i := 2) (oi := ?oi6003) (x := ?vx6003) ?ho6003 (by kernel_rfl) (by kernel_rfl) (by kernel_rfl) (by kernel_rfl) (fun _ _ _ h => h) (Or.inl ⟨?hw6003, ?hy6003⟩) (Below.drew (Below.refl _ _)) ?rest6003
        case ho6003 => (simp only [List.getElem?_toArray, List.getElem?_cons_succ, List.getElem?_cons_zero] <;> rfl)
        case hw6003 => rfl
        case hy6003 => (intro w' hSw; have jG := fun o => (hSw.cell (p := ⟨bG, o, none⟩) zG).trans (kG o); have jZ := fun o => (hSw.cell (p := ⟨bZ, o, none⟩) zZ).trans (kZ o); have hc1 := HCZ.out _ (DC.out.trans (hSw.mono DC.out.size)); have hc2 := HC3.out _ (DR.out.trans (hSw.mono DR.out.size)); go_simp; (try with_reducible rfl))
        case rest6003 =>
        (try simp only [Act.put, List.setIfInBounds_toArray, List.set_cons_zero, List.set_cons_succ])
        refine Goes.take (i := 3) (oi := ?oi6004) (x := ?vx6004) ?ho6004 (by kernel_rfl) (by kernel_rfl) (by kernel_rfl) (by kernel_rfl) (fun _ _ _ h => h) (Or.inl ⟨?hw6004, ?hy6004⟩) (Below.drew (Below.refl _ _)) ?rest6004
        case ho6004 => (simp only [List.getElem?_toArray, List.getElem?_cons_succ, List.getElem?_cons_zero] <;> rfl)
        case hw6004 => rfl
        case hy6004 => (intro w' hSw; have jG := fun o => (hSw.cell (p := ⟨bG, o, none⟩) zG).trans (kG o); have jZ := fun o => (hSw.cell (p := ⟨bZ, o, none⟩) zZ).trans (kZ o); have hc1 := HCZ.out _ (DC.out.trans (hSw.mono DC.out.size)); have hc2 := HC3.out _ (DR.out.trans (hSw.mono DR.out.size)); go_simp; (try with_reducible rfl))
        case rest6004 =>
        (try simp only [Act.put, List.setIfInBounds_toArray, List.set_cons_zero, List.set_cons_succ])
        refine Goes.take (i := 4) (oi := ?oi6005) (x := ?vx6005) ?ho6005 (by kernel_rfl) (by kernel_rfl) (by kernel_rfl) (by kernel_rfl) (fun _ _ _ h => h) (Or.inl ⟨?hw6005, ?hy6005⟩) (Below.drew (Below.refl _ _)) ?rest6005
        case ho6005 => (simp only [List.getElem?_toArray, List.getElem?_cons_succ, List.getElem?_cons_zero] <;> rfl)
        case hw6005 => rfl
        case hy6005 => (intro w' hSw; have jG := fun o => (hSw.cell (p := ⟨bG, o, none⟩) zG).trans (kG o); have jZ := fun o => (hSw.cell (p := ⟨bZ, o, none⟩) zZ).trans (kZ o); have hc1 := HCZ.out _ (DC.out.trans (hSw.mono DC.out.size)); have hc2 := HC3.out _ (DR.out.trans (hSw.mono DR.out.size)); go_simp; (try with_reducible rfl))
        case rest6005 =>
        (try simp only [Act.put, List.setIfInBounds_toArray, List.set_cons_zero, List.set_cons_succ])
        refine Goes.take (i := 5) (oi := ?oi6006) (x := ?vx6006) ?ho6006 (by kernel_rfl) (by kernel_rfl) (by kernel_rfl) (by kernel_rfl) (fun _ _ _ h => h) (Or.inl ⟨?hw6006, ?hy6006⟩) (Below.drew (Below.refl _ _)) ?rest6006
        case ho6006 => (simp only [List.getElem?_toArray, List.getElem?_cons_succ, List.getElem?_cons_zero] <;> rfl)
        case hw6006 => rfl
        case hy6006 => (intro w' hSw; have jG := fun o => (hSw.cell (p := ⟨bG, o, none⟩) zG).trans (kG o); have jZ := fun o => (hSw.cell (p := ⟨bZ, o, none⟩) zZ).trans (kZ o); have hc1 := HCZ.out _ (DC.out.trans (hSw.mono DC.out.size)); have hc2 := HC3.out _ (DR.out.trans (hSw.mono DR.out.size)); go_simp; (try with_reducible rfl))
        case rest6006 =>
        (try simp only [Act.put, List.setIfInBounds_toArray, List.set_cons_zero, List.set_cons_succ])
        refine Goes.take (i := 6) (oi := ?oi6007) (x := ?vx6007) ?ho6007 (by kernel_rfl) (by kernel_rfl) (by kernel_rfl) (by kernel_rfl) (fun _ _ _ h => h) (Or.inl ⟨?hw6007, ?hy6007⟩) (Below.drew (Below.refl _ _)) ?rest6007
        case ho6007 => (simp only [List.getElem?_toArray, List.getElem?_cons_succ, List.getElem?_cons_zero] <;> rfl)
        case hw6007 => rfl
        case hy6007 => (intro w' hSw; have jG := fun o => (hSw.cell (p := ⟨bG, o, none⟩) zG).trans (kG o); have jZ := fun o => (hSw.cell (p := ⟨bZ, o, none⟩) zZ).trans (kZ o); have hc1 := HCZ.out _ (DC.out.trans (hSw.mono DC.out.size)); have hc2 := HC3.out _ (DR.out.trans (hSw.mono DR.out.size)); go_simp; (try with_reducible rfl))
        case rest6007 =>
        (try simp only [Act.put, List.setIfInBounds_toArray, List.set_cons_zero, List.set_cons_succ])
        refine Goes.take (i := 7) (oi := ?oi6008) (x := ?vx6008) ?ho6008 (by kernel_rfl) (by kernel_rfl) (by kernel_rfl) (by kernel_rfl) (fun _ _ _ h => h) (Or.inl ⟨?hw6008, ?hy6008⟩) (Below.drew (Below.refl _ _)) ?rest6008
        case ho6008 => (simp only [List.getElem?_toArray, List.getElem?_cons_succ, List.getElem?_cons_zero] <;> rfl)
        case hw6008 => rfl
        case hy6008 => (intro w' hSw; have jG := fun o => (hSw.cell (p := ⟨bG, o, none⟩) zG).trans (kG o); have jZ := fun o => (hSw.cell (p := ⟨bZ, o, none⟩) zZ).trans (kZ o); have hc1 := HCZ.out _ (DC.out.trans (hSw.mono DC.out.size)); have hc2 := HC3.out _ (DR.out.trans (hSw.mono DR.out.size)); go_simp; (try with_reducible rfl))
        case rest6008 =>
        (try simp only [Act.put, List.setIfInBounds_toArray, List.set_cons_zero, List.set_cons_succ])
        refine Goes.take (i := 8) (oi := ?oi6009) (x := ?vx6009) ?ho6009 (by kernel_rfl) (by kernel_rfl) (by kernel_rfl) (by kernel_rfl) (fun _ _ _ h => h) (Or.inl ⟨?hw6009, ?hy6009⟩) (Below.drew (Below.refl _ _)) ?rest6009
        case ho6009 => (simp only [List.getElem?_toArray, List.getElem?_cons_succ, List.getElem?_cons_zero] <;> rfl)
        case hw6009 => rfl
        case hy6009 => (intro w' hSw; have jG := fun o => (hSw.cell (p := ⟨bG, o, none⟩) zG).trans (kG o); have jZ := fun o => (hSw.cell (p := ⟨bZ, o, none⟩) zZ).trans (kZ o); have hc1 := HCZ.out _ (DC.out.trans (hSw.mono DC.out.size)); have hc2 := HC3.out _ (DR.out.trans (hSw.mono DR.out.size)); go_simp; (try with_reducible rfl))
        case rest6009 =>
        (try simp only [Act.put, List.setIfInBounds_toArray, List.set_cons_zero, List.set_cons_succ])
        refine Goes.take (i := 9) (oi := ?oi6010) (x := ?vx6010) ?ho6010 (by kernel_rfl) (by kernel_rfl) (by kernel_rfl) (by kernel_rfl) (fun _ _ _ h => h) (Or.inl ⟨?hw6010, ?hy6010⟩) (Below.drew (Below.refl _ _)) ?rest6010
        case ho6010 => (simp only [List.getElem?_toArray, List.getElem?_cons_succ, List.getElem?_cons_zero] <;> rfl)
        case hw6010 => rfl
        case hy6010 => (intro w' hSw; have jG := fun o => (hSw.cell (p := ⟨bG, o, none⟩) zG).trans (kG o); have jZ := fun o => (hSw.cell (p := ⟨bZ, o, none⟩) zZ).trans (kZ o); have hc1 := HCZ.out _ (DC.out.trans (hSw.mono DC.out.size)); have hc2 := HC3.out _ (DR.out.trans (hSw.mono DR.out.size)); go_simp; (try with_reducible rfl))
        case rest6010 =>
        (try simp only [Act.put, List.setIfInBounds_toArray, List.set_cons_zero, List.set_cons_succ])
        refine Goes.take (i := 10) (oi := ?oi6011) (x := ?vx6011) ?ho6011 (by kernel_rfl) (by kernel_rfl) (by kernel_rfl) (by kernel_rfl) (fun _ _ _ h => h) (Or.inl ⟨?hw6011, ?hy6011⟩) (Below.drew (Below.refl _ _)) ?rest6011
        case ho6011 => (simp only [List.getElem?_toArray, List.getElem?_cons_succ, List.getElem?_cons_zero] <;> rfl)
        case hw6011 => rfl
        case hy6011 => (intro w' hSw; have jG := fun o => (hSw.cell (p := ⟨bG, o, none⟩) zG).trans (kG o); have jZ := fun o => (hSw.cell (p := ⟨bZ, o, none⟩) zZ).trans (kZ o); have hc1 := HCZ.out _ (DC.out.trans (hSw.mono DC.out.size)); have hc2 := HC3.out _ (DR.out.trans (hSw.mono DR.out.size)); go_simp; (try with_reducible rfl))
        case rest6011 =>
        (try simp only [Act.put, List.setIfInBounds_toArray, List.set_cons_zero, List.set_cons_succ])
        refine Goes.take (i := 11) (oi := ?oi6012) (x := ?vx6012) ?ho6012 (by kernel_rfl) (by kernel_rfl) (by kernel_rfl) (by kernel_rfl) (fun _ _ _ h => h) (Or.inl ⟨?hw6012, ?hy6012⟩) (Below.drew (Below.refl _ _)) ?rest6012
        case ho6012 => (simp only [List.getElem?_toArray, List.getElem?_cons_succ, List.getElem?_cons_zero] <;> rfl)
        case hw6012 => rfl
        case hy6012 => (intro w' hSw; have jG := fun o => (hSw.cell (p := ⟨bG, o, none⟩) zG).trans (kG o); have jZ := fun o => (hSw.cell (p := ⟨bZ, o, none⟩) zZ).trans (kZ o); have hc1 := HCZ.out _ (DC.out.trans (hSw.mono DC.out.size)); have hc2 := HC3.out _ (DR.out.trans (hSw.mono DR.out.size)); go_simp; (try with_reducible rfl))
        case rest6012 =>
        (try simp only [Act.put, List.setIfInBounds_toArray, List.set_cons_zero, List.set_cons_succ])
        refine Goes.take (i := 12) (oi := ?oi6013) (x := ?vx6013) ?ho6013 (by kernel_rfl) (by kernel_rfl) (by kernel_rfl) (by kernel_rfl) (fun _ _ _ h => h) (Or.inl ⟨?hw6013, ?hy6013⟩) (Below.drew (Below.refl _ _)) ?rest6013
        case ho6013 => (simp only [List.getElem?_toArray, List.getElem?_cons_succ, List.getElem?_cons_zero] <;> rfl)
        case hw6013 => rfl
        case hy6013 => (intro w' hSw; have jG := fun o => (hSw.cell (p := ⟨bG, o, none⟩) zG).trans (kG o); have jZ := fun o => (hSw.cell (p := ⟨bZ, o, none⟩) zZ).trans (kZ o); have hc1 := HCZ.out _ (DC.out.trans (hSw.mono DC.out.size)); have hc2 := HC3.out _ (DR.out.trans (hSw.mono DR.out.size)); go_simp; (try with_reducible rfl))
        case rest6013 =>
        (try simp only [Act.put, List.setIfInBounds_toArray, List.set_cons_zero, List.set_cons_succ])
        refine Goes.take (i := 13) (oi := ?oi6014) (x := ?vx6014) ?ho6014 (by kernel_rfl) (by kernel_rfl) (by kernel_rfl) (by kernel_rfl) (fun _ _ _ h => h) (Or.inl ⟨?hw6014, ?hy6014⟩) (Below.drew (Below.refl _ _)) ?rest6014
        case ho6014 => (simp only [List.getElem?_toArray, List.getElem?_cons_succ, List.getElem?_cons_zero] <;> rfl)
        case hw6014 => rfl
        case hy6014 => (intro w' hSw; have jG := fun o => (hSw.cell (p := ⟨bG, o, none⟩) zG).trans (kG o); have jZ := fun o => (hSw.cell (p := ⟨bZ, o, none⟩) zZ).trans (kZ o); have hc1 := HCZ.out _ (DC.out.trans (hSw.mono DC.out.size)); have hc2 := HC3.out _ (DR.out.trans (hSw.mono DR.out.size)); go_simp; (try with_reducible rfl))
        case rest6014 =>
        (try simp only [Act.put, List.setIfInBounds_toArray, List.set_cons_zero, List.set_cons_succ])
        refine Goes.take (i := 14) (oi := ?oi6015) (x := ?vx6015) ?ho6015 (by kernel_rfl) (by kernel_rfl) (by kernel_rfl) (by kernel_rfl) (fun _ _ _ h => h) (Or.inl ⟨?hw6015, ?hy6015⟩) (Below.drew (Below.refl _ _)) ?rest6015
        case ho6015 => (simp only [List.getElem?_toArray, List.getElem?_cons_succ, List.getElem?_cons_zero] <;> rfl)
        case hw6015 => rfl
        case hy6015 => (intro w' hSw; have jG := fun o => (hSw.cell (p := ⟨bG, o, none⟩) zG).trans (kG o); have jZ := fun o => (hSw.cell (p := ⟨bZ, o, none⟩) zZ).trans (kZ o); have hc1 := HCZ.out _ (DC.out.trans (hSw.mono DC.out.size)); have hc2 := HC3.out _ (DR.out.trans (hSw.mono DR.out.size)); go_simp; (try with_reducible rfl))
        case rest6015 =>
        (try simp only [Act.put, List.setIfInBounds_toArray, List.set_cons_zero, List.set_cons_succ])
        refine Goes.all (rs := [15]) (by kernel_rfl) (by simp) ?_
        refine Ups.cons (i := 15) (o := ?oo6016) ?ho6016 (fun KK hKK => ?stp6016) Ups.nil
        case ho6016 => (simp only [List.getElem?_toArray, List.getElem?_cons_succ, List.getElem?_cons_zero] <;> rfl)
        case stp6016 =>
        go_simp
        go_at_call 14
        refine (HHZ.out _ (DC.out.trans ((Below.drew (Below.refl _ _)).mono DC.out.size))).mono ?_
        rintro e wf ⟨rfl, hbq⟩
        replace hbq := (Below.drew (Below.refl we.heap.size we)).trans hbq
        have HS6016 : Hid (Below we.heap.size we wf) := hbq
        clear hbq
        dsimp only
        refine hKK.out _ _ (Or.inr HS6016.out) ?_
        clear hKK KK
        (try simp only [Act.put, List.setIfInBounds_toArray, List.set_cons_zero, List.set_cons_succ])
        refine Goes.take (i := 16) (oi := ?oi6017) (x := ?vx6017) ?ho6017 (by kernel_rfl) (by kernel_rfl) (by kernel_rfl) (by kernel_rfl) (fun _ _ _ h => h) (Or.inl ⟨?hw6017, ?hy6017⟩) HS6016.out ?rest6017
        case ho6017 => (simp only [List.getElem?_toArray, List.getElem?_cons_succ, List.getElem?_cons_zero] <;> rfl)
        case hw6017 => rfl
        case hy6017 => (intro w' hSw; have jG := fun o => (hSw.cell (p := ⟨bG, o, none⟩) zG).trans (kG o); have jZ := fun o => (hSw.cell (p := ⟨bZ, o, none⟩) zZ).trans (kZ o); have hc1 := HCZ.out _ (DC.out.trans (hSw.mono DC.out.size)); have hc2 := HC3.out _ (DR.out.trans (hSw.mono DR.out.size)); go_simp; (try with_reducible rfl))
        case rest6017 =>
        (try simp only [Act.put, List.setIfInBounds_toArray, List.set_cons_zero, List.set_cons_succ])
        refine Goes.take (i := 17) (oi := ?oi6018) (x := ?vx6018) ?ho6018 (by kernel_rfl) (by kernel_rfl) (by kernel_rfl) (by kernel_rfl) (fun _ _ _ h => h) (Or.inl ⟨?hw6018, ?hy6018⟩) HS6016.out ?rest6018
        case ho6018 => (simp only [List.getElem?_toArray, List.getElem?_cons_succ, List.getElem?_cons_zero] <;> rfl)
        case hw6018 => rfl
        case hy6018 => (intro w' hSw; have jG := fun o => (hSw.cell (p := ⟨bG, o, none⟩) zG).trans (kG o); have jZ := fun o => (hSw.cell (p := ⟨bZ, o, none⟩) zZ).trans (kZ o); have hc1 := HCZ.out _ (DC.out.trans (hSw.mono DC.out.size)); have hc2 := HC3.out _ (DR.out.trans (hSw.mono DR.out.size)); go_simp; (try with_reducible rfl))
        case rest6018 =>
        (try simp only [Act.put, List.setIfInBounds_toArray, List.set_cons_zero, List.set_cons_succ])
        refine Goes.take (i := 18) (oi := ?oi6019) (x := ?vx6019) ?ho6019 (by kernel_rfl) (by kernel_rfl) (by kernel_rfl) (by kernel_rfl) (fun _ _ _ h => h) (Or.inl ⟨?hw6019, ?hy6019⟩) HS6016.out ?rest6019
        case ho6019 => (simp only [List.getElem?_toArray, List.getElem?_cons_succ, List.getElem?_cons_zero] <;> rfl)
        case hw6019 => rfl
        case hy6019 => (intro w' hSw; have jG := fun o => (hSw.cell (p := ⟨bG, o, none⟩) zG).trans (kG o); have jZ := fun o => (hSw.cell (p := ⟨bZ, o, none⟩) zZ).trans (kZ o); have hc1 := HCZ.out _ (DC.out.trans (hSw.mono DC.out.size)); have hc2 := HC3.out _ (DR.out.trans (hSw.mono DR.out.size)); go_simp; (try with_reducible rfl))
        case rest6019 =>
        (try simp only [Act.put, List.setIfInBounds_toArray, List.set_cons_zero, List.set_cons_succ])
        refine Goes.take (i := 19) (oi := ?oi6020) (x := ?vx6020) ?ho6020 (by kernel_rfl) (by kernel_rfl) (by kernel_rfl) (by kernel_rfl) (fun _ _ _ h => h) (Or.inl ⟨?hw6020, ?hy6020⟩) HS6016.out ?rest6020
        case ho6020 => (simp only [List.getElem?_toArray, List.getElem?_cons_succ, List.getElem?_cons_zero] <;> rfl)
        case hw6020 => rfl
        case hy6020 => (intro w' hSw; have jG := fun o => (hSw.cell (p := ⟨bG, o, none⟩) zG).trans (kG o); have jZ := fun o => (hSw.cell (p := ⟨bZ, o, none⟩) zZ).trans (kZ o); have hc1 := HCZ.out _ (DC.out.trans (hSw.mono DC.out.size)); have hc2 := HC3.out _ (DR.out.trans (hSw.mono DR.out.size)); go_simp; (try with_reducible rfl))
        case rest6020 =>
        (try simp only [Act.put, List.setIfInBounds_toArray, List.set_cons_zero, List.set_cons_succ])
        refine Goes.take (i := 20) (oi := ?oi6021) (x := ?vx6021) ?ho6021 (by kernel_rfl) (by kernel_rfl) (by kernel_rfl) (by kernel_rfl) (fun _ _ _ h => h) (Or.inl ⟨?hw6021, ?hy6021⟩) HS6016.out ?rest6021
        case ho6021 => (simp only [List.getElem?_toArray, List.getElem?_cons_succ, List.getElem?_cons_zero] <;> rfl)
        case hw6021 => rfl
        case hy6021 => (intro w' hSw; have jG := fun o => (hSw.cell (p := ⟨bG, o, none⟩) zG).trans (kG o); have jZ := fun o => (hSw.cell (p := ⟨bZ, o, none⟩) zZ).trans (kZ o); have hc1 := HCZ.out _ (DC.out.trans (hSw.mono DC.out.size)); have hc2 := HC3.out _ (DR.out.trans (hSw.mono DR.out.size)); go_simp; (try with_reducible rfl))
        case rest6021 =>
        (try simp only [Act.put, List.setIfInBounds_toArray, List.set_cons_zero, List.set_cons_succ])
        refine Goes.take (i := 23) (oi := ?oi6022) (x := ?vx6022) ?ho6022 (by kernel_rfl) (by kernel_rfl) (by kernel_rfl) (by kernel_rfl) (fun _ _ _ h => h) (Or.inl ⟨?hw6022, ?hy6022⟩) HS6016.out ?rest6022
        case ho6022 => (simp only [List.getElem?_toArray, List.getElem?_cons_succ, List.getElem?_cons_zero] <;> rfl)
        case hw6022 => rfl
        case hy6022 => (intro w' hSw; have jG := fun o => (hSw.cell (p := ⟨bG, o, none⟩) zG).trans (kG o); have jZ := fun o => (hSw.cell (p := ⟨bZ, o, none⟩) zZ).trans (kZ o); have hc1 := HCZ.out _ (DC.out.trans (hSw.mono DC.out.size)); have hc2 := HC3.out _ (DR.out.trans (hSw.mono DR.out.size)); go_simp; (try with_reducible rfl))
        case rest6022 =>
        (try simp only [Act.put, List.setIfInBounds_toArray, List.set_cons_zero, List.set_cons_succ])
        refine Goes.all (rs := [21]) (by kernel_rfl) (by simp) ?_
        refine Ups.cons (i := 21) (o := ?oo6023) ?ho6023 (fun KK hKK => ?stp6023) Ups.nil
        case ho6023 => (simp only [List.getElem?_toArray, List.getElem?_cons_succ, List.getElem?_cons_zero] <;> rfl)
        case stp6023 =>
        go_simp
        go_at_call 15
        refine (HMI.out _ (DR.out.trans (HS6016.out.mono DR.out.size))).mono ?_
        rintro e wg ⟨rfl, hbq⟩
        replace hbq := HS6016.out.trans (hbq.mono HS6016.out.size)
        have HS6023 : Hid (Below we.heap.size we wg) := hbq
        clear hbq
        dsimp only
        refine hKK.out _ _ (Or.inr HS6023.out) ?_
        clear hKK KK
        (try simp only [Act.put, List.setIfInBounds_toArray, List.set_cons_zero, List.set_cons_succ])
        refine Goes.take (i := 22) (oi := ?oi6024) (x := ?vx6024) ?ho6024 (by kernel_rfl) (by kernel_rfl) (by kernel_rfl) (by kernel_rfl) (fun _ _ _ h => h) (Or.inl ⟨?hw6024, ?hy6024⟩) HS6023.out ?rest6024
        case ho6024 => (simp only [List.getElem?_toArray, List.getElem?_cons_succ, List.getElem?_cons_zero] <;> rfl)
        case hw6024 => rfl
        case hy6024 => (intro w' hSw; have jG := fun o => (hSw.cell (p := ⟨bG, o, none⟩) zG).trans (kG o); have jZ := fun o => (hSw.cell (p := ⟨bZ, o, none⟩) zZ).trans (kZ o); have hc1 := HCZ.out _ (DC.out.trans (hSw.mono DC.out.size)); have hc2 := HC3.out _ (DR.out.trans (hSw.mono DR.out.size)); go_simp; (try with_reducible rfl))
        case rest6024 =>
        (try simp only [Act.put, List.setIfInBounds_toArray, List.set_cons_zero, List.set_cons_succ])
        refine Goes.all (rs := [24]) (by kernel_rfl) (by simp) ?_
        refine Ups.cons (i := 24) (o := ?oo6025) ?ho6025 (fun KK hKK => ?stp6025) Ups.nil
        case ho6025 => (simp only [List.getElem?_toArray, List.getElem?_cons_succ, List.getElem?_cons_zero] <;> rfl)
        case stp6025 =>
        go_simp
        go_at_call 16
        refine (HMS.out _ (DR.out.trans (HS6023.out.mono DR.out.size))).mono ?_
        rintro e wh ⟨rfl, hbq⟩
        replace hbq := HS6023.out.trans (hbq.mono HS6023.out.size)
        have HS6025 : Hid (Below we.heap.size we wh) := hbq
        clear hbq
        dsimp only
        refine hKK.out _ _ (Or.inr HS6025.out) ?_
        clear hKK KK
        (try simp only [Act.put, List.setIfInBounds_toArray, List.set_cons_zero, List.set_cons_succ])
        refine Goes.take (i := 25) (oi := ?oi6026) (x := ?vx6026) ?ho6026 (by kernel_rfl) (by kernel_rfl) (by kernel_rfl) (by kernel_rfl) (fun _ _ _ h => h) (Or.inl ⟨?hw6026, ?hy6026⟩) HS6025.out ?rest6026
        case ho6026 => (simp only [List.getElem?_toArray, List.getElem?_cons_succ, List.getElem?_cons_zero] <;> rfl)
        case hw6026 => rfl
        case hy6026 => (intro w' hSw; have jG := fun o => (hSw.cell (p := ⟨bG, o, none⟩) zG).trans (kG o); have jZ := fun o => (hSw.cell (p := ⟨bZ, o, none⟩) zZ).trans (kZ o); have hc1 := HCZ.out _ (DC.out.trans (hSw.mono DC.out.size)); have hc2 := HC3.out _ (DR.out.trans (hSw.mono DR.out.size)); go_simp; (try with_reducible rfl))
        case rest6026 =>
        (try simp only [Act.put, List.setIfInBounds_toArray, List.set_cons_zero, List.set_cons_succ])
        refine Goes.take (i := 26) (oi := ?oi6027) (x := ?vx6027) ?ho6027 (by kernel_rfl) (by kernel_rfl) (by kernel_rfl) (by kernel_rfl) (fun _ _ _ h => h) (Or.inl ⟨?hw6027, ?hy6027⟩) HS6025.out ?rest6027
        case ho6027 => (simp only [List.getElem?_toArray, List.getElem?_cons_succ, List.getElem?_cons_zero] <;> rfl)
        case hw6027 => rfl
        case hy6027 => (intro w' hSw; have jG := fun o => (hSw.cell (p := ⟨bG, o, none⟩) zG).trans (kG o); have jZ := fun o => (hSw.cell (p := ⟨bZ, o, none⟩) zZ).trans (kZ o); have hc1 := HCZ.out _ (DC.out.trans (hSw.mono DC.out.size)); have hc2 := HC3.out _ (DR.out.trans (hSw.mono DR.out.size)); go_simp; (try with_reducible rfl))
        case rest6027 =>
        (try simp only [Act.put, List.setIfInBounds_toArray, List.set_cons_zero, List.set_cons_succ])
        refine Goes.take (i := 27) (oi := ?oi6028) (x := ?vx6028) ?ho6028 (by kernel_rfl) (by kernel_rfl) (by kernel_rfl) (by kernel_rfl) (fun _ _ _ h => h) (Or.inl ⟨?hw6028, ?hy6028⟩) HS6025.out ?rest6028
        case ho6028 => (simp only [List.getElem?_toArray, List.getElem?_cons_succ, List.getElem?_cons_zero] <;> rfl)
        case hw6028 => rfl
        case hy6028 => (intro w' hSw; have jG := fun o => (hSw.cell (p := ⟨bG, o, none⟩) zG).trans (kG o); have jZ := fun o => (hSw.cell (p := ⟨bZ, o, none⟩) zZ).trans (kZ o); have hc1 := HCZ.out _ (DC.out.trans (hSw.mono DC.out.size)); have hc2 := HC3.out _ (DR.out.trans (hSw.mono DR.out.size)); go_simp; (try with_reducible rfl))
        case rest6028 =>
        (try simp only [Act.put, List.setIfInBounds_toArray, List.set_cons_zero, List.set_cons_succ])
        refine Goes.take (i := 28) (oi := ?oi6029) (x := ?vx6029) ?ho6029 (by kernel_rfl) (by kernel_rfl) (by kernel_rfl) (by kernel_rfl) (fun _ _ _ h => h) (Or.inl ⟨?hw6029, ?hy6029⟩) HS6025.out ?rest6029
        case ho6029 => (simp only [List.getElem?_toArray, List.getElem?_cons_succ, List.getElem?_cons_zero] <;> rfl)
        case hw6029 => rfl
        case hy6029 => (intro w' hSw; have jG := fun o => (hSw.cell (p := ⟨bG, o, none⟩) zG).trans (kG o); have jZ := fun o => (hSw.cell (p := ⟨bZ, o, none⟩) zZ).trans (kZ o); have hc1 := HCZ.out _ (DC.out.trans (hSw.mono DC.out.size)); have hc2 := HC3.out _ (DR.out.trans (hSw.mono DR.out.size)); go_simp; (try with_reducible rfl))
        case rest6029 =>
        (try simp only [Act.put, List.setIfInBounds_toArray, List.set_cons_zero, List.set_cons_succ])
        refine Goes.done (by kernel_rfl) ?_ _
        refine NoPanic.normal ?_
        have HBF : Hid (Below w.heap.size w wh) := HB.out.trans (HS6025.out.mono HB.out.size)
        go_wp2_with fail
        go_ret
        exact ⟨rfl, HBF.out⟩

set_option maxRecDepth 100000 in
theorem lifted (os : Os) (started : os.Started) (H : Type) (enc : TypeId × Value → H) :
    ReturnsInHanded {} Try.checked os 3 .any (Rows.fnGathersSpec.pre6 enc Try.prog Try.f3 Rows.fnGathersRow.domain false) (Rows.fnGathersSpec.post enc Try.prog Try.f3 false true false false) := by
  refine returnsInHanded_of_change (C := Try.checked) own started (by kernel_rfl) Try.func3
    (ChangeSpec.witness6 (enc := enc) (C := Try.checked) false ⟨#[], #[.slice none 0 0], []⟩ 8 (by kernel_rfl) (by kernel_rfl) (by kernel_rfl) (by kernel_rfl)) ?_
  intro W base args ds gs before hval0 hW hcnd _
  have hval : ∀ (j : Nat) t v, Try.f3.params[j]? = some t → args[j]? = some v → Value.okWide Try.prog W .any base t v := hval0
  have hW' := hW
  obtain ⟨p, q, hA0, hV, rfl, hfz, hnd⟩ := hW
  have hA : DataW.TrodAll enc Try.prog W 0 (fun _ => true) true Try.f3.params.toList args.toList ds p := hA0
  rw [Try.params3] at hA hval
  obtain ⟨v0, vs0, d0, ds0, p0, q0, hargs, rfl, rfl, h0, r0⟩ := trodAll_cons hA
  obtain ⟨rfl, rfl, rfl⟩ := trodAll_nil r0
  obtain rfl : args = #[v0] := by cases args; simp_all
  obtain ⟨rfl, rfl⟩ := trodVars_none hV
  obtain ⟨a0, len0, cap0, rfl⟩ := okWide_slice Try.underlying22 (hval 0 22 v0 rfl rfl)
  have k0 := h0
  have lt0 : ∀ x ∈ p0, x.block < W.heap.size := by obtain ⟨m, hm⟩ := k0; exact DataW.trod_lt m _ _ _ hm
  obtain ⟨z0, w0⟩ : ∃ zs, IsRow .u8 W a0 len0 cap0 zs := by
    obtain ⟨fuel, hf⟩ := h0
    rcases open_ints Try.underlying22 Try.underlying5 (by kernel_rfl) hf with ⟨hcs, _⟩ | ⟨x, l, c, zs, hcs, _, hl, hm, hz, _, hcell, hwz⟩
    · simp [Value.cells] at hcs
      obtain ⟨rfl, rfl, rfl⟩ := hcs
      exact ⟨[], .inl ⟨rfl, rfl, rfl, rfl⟩⟩
    · simp [Value.cells] at hcs
      obtain ⟨rfl, rfl, rfl⟩ := hcs
      exact ⟨zs, .inr ⟨_, rfl, hl, hm, by simpa using hz, hcell, hwz⟩⟩
  clear hA0 hval0
  refine (walk a0 len0 cap0 z0 W w0).mono fun e W' ⟨he, bel⟩ => ?_
  subst he
  exact ⟨_, rfl, _, _, _, [], _, [], hW', trodAll_mk1 (shut_bool Try.underlying4 _), (trodAll_cons_mk (Below.trod laidOut (by kernel_rfl) (of_decide_eq_true (by kernel_rfl)) k0 bel lt0) trodAll_mk0), rfl, bel.frame _, fun h => by cases h⟩

theorem over : Rows.fnGathersRow.holds Try.pinned (OpenSpec.ofChange Rows.fnGathersSpec) :=
  OpenClaim.holds_of_wide 3 Try.f3 rfl rfl rfl rfl rfl rfl rfl ⟨rfl, rfl, rfl, rfl, rfl⟩ rfl rfl rfl rfl rfl (by kernel_rfl) Try.func3 (by kernel_rfl)
    (of_decide_eq_true (by kernel_rfl)) (by unfold Func.isWrapper; first | (rw [if_pos (by decide +kernel)]; kernel_rfl) | (rw [if_neg (by decide +kernel)]; exact ⟨rfl, rfl⟩))
    (fun os started H enc _ => lifted os started H enc)

theorem proved : Rows.FnGathersSaid := over
#print axioms proved
end Go.Proofs.Ytnbcefdfdonljaa.fnGathers

namespace Go.Proofs.Ytnbcefdfdonljaa
theorem fnGathers_holds : Rows.FnGathersSaid := fnGathers.proved
end Go.Proofs.Ytnbcefdfdonljaa
