/- Proved: whatever bytes come in, the law on segments and their bytes answers true, and the bytes are as they were; no condition. -/
import Derived.Test.YtmiomnpfjigojaaRows
import Derived.WalkKit
import Derived.ProofKit
import Derived.OpenShut
import Derived.ShutString
import Derived.ChangeOld
import Derived.Below
import Derived.Test.YtmiomnpfjigojaaBase
import Derived.Test.YtmiomnpfjigojaaDraws
import Derived.Test.YtmiomnpfjigojaaBytes
import Derived.Test.YtmiomnpfjigojaaAppBytes
import Derived.Test.YtmiomnpfjigojaaApp
import Derived.Test.YtmiomnpfjigojaaSeg
import Derived.Test.YtmiomnpfjigojaaStr
import Derived.Test.YtmiomnpfjigojaaSameDef
import Derived.Test.YtmiomnpfjigojaaStrip
import Derived.Test.YtmiomnpfjigojaaNum
import Derived.Test.YtmiomnpfjigojaaNumWalks
import Derived.Test.YtmiomnpfjigojaaLaw
import Derived.Test.YtmiomnpfjigojaaSpecSeg
import Derived.Test.YtmiomnpfjigojaaImplSeg
import Derived.Test.YtmiomnpfjigojaaSpecPack
import Derived.Test.YtmiomnpfjigojaaImplSum
import Derived.Test.YtmiomnpfjigojaaSpecLoad
import Derived.Test.YtmiomnpfjigojaaWriter
import Derived.Test.YtmiomnpfjigojaaImplLoad
import Derived.Test.YtmiomnpfjigojaaDrawSeg
import Derived.Test.YtmiomnpfjigojaaDrawSeg2
import Derived.Test.YtmiomnpfjigojaaDrawSeg3
import Derived.Test.YtmiomnpfjigojaaPackDef
import Derived.Test.YtmiomnpfjigojaaSpecL2
import Derived.Test.YtmiomnpfjigojaaImplPack
import Derived.Test.YtmiomnpfjigojaaPackWalks
import Derived.Test.YtmiomnpfjigojaaTake
import Derived.Test.YtmiomnpfjigojaaRead
import Derived.Test.YtmiomnpfjigojaaSameSpec
import Derived.Test.YtmiomnpfjigojaaSameImpl
import Derived.Test.YtmiomnpfjigojaaImplUnpack
import Derived.Test.YtmiomnpfjigojaaUnpackFacts
import Derived.Test.YtmiomnpfjigojaaPackBack
import Derived.Test.YtmiomnpfjigojaaRegionU
import Derived.Test.YtmiomnpfjigojaaRegionQ
import Derived.Test.YtmiomnpfjigojaaBox
import Derived.Test.YtmiomnpfjigojaaDrawWire
import Derived.Test.YtmiomnpfjigojaaSpecUnpack
namespace Go.Proofs.Ytmiomnpfjigojaa.fnSegments
open Go.ChangeShapes Go.WideShapes Go.ChangeAt Go.RowKit
open Go.ChangeMaps (open_string shut_string)
set_option linter.unusedVariables false

theorem own : ownKnob Try.prog.godebug = none := by kernel_rfl
theorem laidOut : laidOutB Try.prog = true := by kernel_rfl

/-- WHAT THE WALK IS TOLD OF A SLICE OF INTEGERS THAT CAME IN: it is nil; or it leads to a row of 'cap' cells, the numbers 'zs' (the first 'len' are its elements, the rest its spare room), each fitting its kind. -/
def IsRow (k : IntKind) (w : World) (a : Option Addr) (len cap : Nat) (zs : List Int) : Prop :=
  (a = none ∧ len = 0 ∧ cap = 0 ∧ zs = []) ∨
  ∃ x, a = some x ∧ len ≤ cap ∧ cap ≤ maxLen ∧ zs.length = cap ∧ (∀ i, i < zs.length → w.cell? (x.add i) = some (.int k (zs.getD i 0))) ∧ ∀ n ∈ zs, (Lit.int k n).wf = true

set_option linter.unusedSimpArgs false
theorem eqS_self (l : List Int) : eqS l l = true := by simp [eqS]
theorem same_self (s : Seg) (e : Bool) : sameS s s e = e := by simp [sameS]
theorem up_cases (l : List Int) : upC l = 0 ∨ upC l = 5 ∨ upC l = 6 := by
  unfold upC
  split
  · simp
  · split
    · simp
    · split <;> simp
theorem strip_ok {s : Seg} {n : Nat} (h : segFault s n = 0) : segFault s.strip n = 0 := by
  unfold segFault at h ⊢
  split at h
  · cases h
  · rename_i h1
    split at h
    · cases h
    · rename_i h2
      split at h
      · cases h
      · rename_i h3
        have r : rangeOk s.strip = true := by
          have h1' : rangeOk s = true := by simpa using h1
          simp only [rangeOk, Seg.strip, Bool.and_eq_true, inB_iff] at h1' ⊢
          omega
        have f : formOk s.strip n = true := by
          have h2' : formOk s n = true := by simpa using h2
          unfold formOk at h2' ⊢
          rw [Bool.and_eq_true] at h2' ⊢
          refine ⟨?_, h2'.2⟩
          show (inB 0 0 4 && !((0 : Int) == 0 && ((0 : Int) != 0 || (0 : Int) != 0))) = true
          decide
        rw [if_neg (by rw [r]; simp), if_neg (by rw [f]; simp), if_neg h3]

set_option maxRecDepth 8000 in
set_option maxHeartbeats 8000000 in
theorem walk (a0 : Option Addr) (len0 cap0 : Nat) (z0 : List Int) (w : World) (w0 : IsRow .u8 w a0 len0 cap0 z0) :
    Calls Try.prog 5 #[.slice a0 len0 cap0] w fun e w' => e = .returned (.bool true) ∧ Below w.heap.size w w' := by
  have r0 : BRow .u8 w a0 len0 cap0 z0 := w0
  have hl := r0.lt
  by_cases hbig : 1048576 < len0
  · clear r0 hl w0
    go_enter Try.func5, Try.ntmps5
    go_wp2
    go_ret
    exact ⟨rfl, by go_grown⟩
  · skip
    clear w0
    have HR : Hid (∀ W, Below w.heap.size w W → BRow .u8 W a0 len0 cap0 z0) := fun W h => r0.below hl h
    have HLT : Hid (RowLt w.heap.size a0 z0) := hl
    go_enter Try.func5, Try.ntmps5
    go_wp2_with (first | (go_at_call 9; go_in) | fail)
    refine (dWire a0 len0 cap0 z0 w r0 hl).mono ?_
    rintro e w1 ⟨l, g, c, rfl, hrb, hc, hl26, b1⟩
    clear r0 hl
    have R1 : Hid (∀ V, Below w1.heap.size w1 V → RB V (some ⟨g, 0, none⟩) l) := fun V h => hrb.below (Nat.le_refl _) h
    have HC : Hid (l.length ≤ c ∧ c ≤ 9223372036854775807) := hc
    have H26 : Hid (l.length ≤ 26) := hl26
    have B1 : Hid (Below w.heap.size w w1) := b1
    clear hrb hc hl26 b1
    obtain ⟨n1, hn1⟩ : ∃ n, l.length = n := ⟨_, rfl⟩
    have HN1 : Hid (l.length = n1) := hn1
    rw [hn1] at HC H26 ⊢
    clear hn1
    go_wp2_with fail
    refine (iUnpack l (some ⟨g, 0, none⟩) n1 c w1 HN1.out (R1.out _ (Below.refl _ _)) HC.out.1 HC.out.2 (by have := H26.out; omega)).mono ?_
    rintro e w2 ⟨v2, rfl, ho2, hb2⟩
    obtain ⟨a2, c2, rfl, hr2, hn2⟩ := ho2.rbn
    have HUP : Hid (upC l = 0 → segFault (upS l) (upS l).load.length = 0 ∧ eqS (packR (upS l)) l = true) := fun h => up_same h
    have hUC := up_cases l
    have CSU0 : Hid (∀ V, Below w1.heap.size w1 V → Calls Try.prog 27 #[.slice (some ⟨g, 0, none⟩) n1 c] V fun e w' => ∃ v, e = .returned (.agg #[.int .i64 (upC l), .int .i64 (upS l).path, .int .i64 (upS l).frm, .bool (upS l).syn, .bool (upS l).ackd, .bool (upS l).rst, .int .i64 (upS l).seq, .int .i64 (upS l).ack, .int .i64 (upS l).fin, .int .i64 (upS l).opt, .int .i64 (upS l).a, .int .i64 (upS l).b, v]) ∧ OB w' V.heap.size v (upS l).load ∧ Below V.heap.size V w') := fun V h => sUnpack l (some ⟨g, 0, none⟩) n1 c V HN1.out (R1.out V h) HC.out.1 HC.out.2 (by have := H26.out; omega)
    generalize upC l = U at *
    generalize upS l = G at *
    obtain ⟨N2, hN2⟩ : ∃ N, G.load.length = N := ⟨_, rfl⟩
    have HN2 : Hid (G.load.length = N2) := hN2
    rw [hN2] at HUP ⊢
    clear hN2
    have R2 : Hid (∀ V, Below w2.heap.size w2 V → RB V a2 G.load) := fun V h => hr2.below (Nat.le_refl _) h
    have NN2 : Hid (a2 = none → c2 = 0) := hn2
    have B2 : Hid (Below w1.heap.size w1 w2) := hb2
    clear ho2 hb2 hr2 hn2
    go_upto_region 5 with fail
    obtain ⟨W, hW⟩ : ∃ W, w2.alloc (.cells #[.int .i64 U, .int .i64 G.path, .int .i64 G.frm, .bool G.syn, .bool G.ackd, .bool G.rst, .int .i64 G.seq, .int .i64 G.ack, .int .i64 G.fin, .int .i64 G.opt, .int .i64 G.a, .int .i64 G.b, .slice a2 N2 c2] 42) = W := ⟨_, rfl⟩
    have bW : Below w2.heap.size w2 W := by rw [← hW]; exact (Below.refl _ _).alloc (Nat.le_refl _) _
    have kU : ∀ o, W.cell? ⟨w2.heap.size, o, none⟩ = (#[.int .i64 U, .int .i64 G.path, .int .i64 G.frm, .bool G.syn, .bool G.ackd, .bool G.rst, .int .i64 G.seq, .int .i64 G.ack, .int .i64 G.fin, .int .i64 G.opt, .int .i64 G.a, .int .i64 G.b, .slice a2 N2 c2] : Array Value)[o]? := by rw [← hW]; intro o; simp [go_sem]
    have zU : w2.heap.size < W.heap.size := by rw [← hW]; simp
    simp only [hW]
    clear hW
    have B12 : Hid (Below w1.heap.size w1 W) := B2.out.trans (bW.mono B2.out.size)
    have BW : Hid (Below w.heap.size w W) := B1.out.trans (B12.out.mono B1.out.size)
    have CPK : Hid (∀ V, Below W.heap.size W V → Calls Try.prog 26 #[.agg #[.int .i64 G.path, .int .i64 G.frm, .bool G.syn, .bool G.ackd, .bool G.rst, .int .i64 G.seq, .int .i64 G.ack, .int .i64 G.fin, .int .i64 G.opt, .int .i64 G.a, .int .i64 G.b, .slice a2 N2 c2]] V fun e w' => ∃ v, e = .returned (.agg #[.int .i64 (segFault G N2), v]) ∧ OB w' V.heap.size v (packR G) ∧ Below V.heap.size V w') := fun V h => iPackSegment G a2 N2 c2 V HN2.out (R2.out V (bW.trans (h.mono bW.size))) NN2.out
    have CSU : Hid (∀ V, Below W.heap.size W V → Calls Try.prog 27 #[.slice (some ⟨g, 0, none⟩) n1 c] V fun e w' => ∃ v, e = .returned (.agg #[.int .i64 U, .int .i64 G.path, .int .i64 G.frm, .bool G.syn, .bool G.ackd, .bool G.rst, .int .i64 G.seq, .int .i64 G.ack, .int .i64 G.fin, .int .i64 G.opt, .int .i64 G.a, .int .i64 G.b, v]) ∧ OB w' V.heap.size v G.load ∧ Below V.heap.size V w') := fun V h => CSU0.out V (B12.out.trans (h.mono B12.out.size))
    have HCL : Hid (∀ V, Below W.heap.size W V → (convert 22 9 (.slice (some ⟨g, 0, none⟩) n1 c)).run Try.prog V = .ok (.string (strOfNums l)) V) := fun V h => cv_str _ _ _ l V HN1.out (R1.out V (B12.out.trans (h.mono B12.out.size)))
    clear CSU0 R1 R2 NN2 B2 B12 B1 bW HC H26 HN1 HN2
    generalize w2.heap.size = p4 at *
    go_cut [40] (fun u wx => u = .bool false ∧ Below W.heap.size W wx)
    case first =>
      rcases hUC with hU | hU | hU
      · subst hU
        obtain ⟨hf0, hE⟩ := HUP.out rfl
        clear HUP
        unfold eqS at hE
        have hE2 : ((strOfNums (packR G)).toList != (strOfNums l).toList) = false := by simpa [bne] using hE
        generalize hSP : strOfNums (packR G) = SP at *
        have HSP : Hid (strOfNums (packR G) = SP) := hSP
        clear hSP
        generalize strOfNums l = SL at *
        generalize segFault G N2 = F0 at *
        refine wp_region_noPanic ?_
        refine Goes.start (S := fun w' => Below W.heap.size W w') (z := 26) (by kernel_rfl) ?_
        refine Goes.take (i := 0) (oi := ?oika_0) (x := ?vxka_0) ?hoka_0 (by kernel_rfl) (by kernel_rfl) (by kernel_rfl) (by kernel_rfl) (fun _ _ _ h => h) (Or.inl ⟨?hwka_0, ?hyka_0⟩) (Below.drew (Below.refl _ _)) ?restka_0
        case hoka_0 => (simp only [List.getElem?_toArray, List.getElem?_cons_succ, List.getElem?_cons_zero]; rfl)
        case hwka_0 => rfl
        case hyka_0 => (intro w' hSw; go_simp; (try with_reducible rfl))
        case restka_0 =>
        (try simp only [Act.put, List.setIfInBounds_toArray, List.set_cons_zero, List.set_cons_succ])
        refine Goes.take (i := 1) (oi := ?oika_1) (x := ?vxka_1) ?hoka_1 (by kernel_rfl) (by kernel_rfl) (by kernel_rfl) (by kernel_rfl) (fun _ _ _ h => h) (Or.inl ⟨?hwka_1, ?hyka_1⟩) (Below.drew (Below.refl _ _)) ?restka_1
        case hoka_1 => (simp only [List.getElem?_toArray, List.getElem?_cons_succ, List.getElem?_cons_zero]; rfl)
        case hwka_1 => rfl
        case hyka_1 => (intro w' hSw; have q0 : ∀ o, w'.cell? ⟨p4, o, none⟩ = (#[.int .i64 0, .int .i64 G.path, .int .i64 G.frm, .bool G.syn, .bool G.ackd, .bool G.rst, .int .i64 G.seq, .int .i64 G.ack, .int .i64 G.fin, .int .i64 G.opt, .int .i64 G.a, .int .i64 G.b, .slice a2 N2 c2] : Array Value)[o]? := fun o => (hSw.cell (p := ⟨p4, o, none⟩) zU).trans (kU o); go_simp; (try with_reducible rfl))
        case restka_1 =>
        (try simp only [Act.put, List.setIfInBounds_toArray, List.set_cons_zero, List.set_cons_succ])
        refine Goes.take (i := 2) (oi := ?oika_2) (x := ?vxka_2) ?hoka_2 (by kernel_rfl) (by kernel_rfl) (by kernel_rfl) (by kernel_rfl) (fun _ _ _ h => h) (Or.inl ⟨?hwka_2, ?hyka_2⟩) (Below.drew (Below.refl _ _)) ?restka_2
        case hoka_2 => (simp only [List.getElem?_toArray, List.getElem?_cons_succ, List.getElem?_cons_zero]; rfl)
        case hwka_2 => rfl
        case hyka_2 => (intro w' hSw; go_simp; (try with_reducible rfl))
        case restka_2 =>
        (try simp only [Act.put, List.setIfInBounds_toArray, List.set_cons_zero, List.set_cons_succ])
        refine Goes.take (i := 3) (oi := ?oika_3) (x := ?vxka_3) ?hoka_3 (by kernel_rfl) (by kernel_rfl) (by kernel_rfl) (by kernel_rfl) (fun _ _ _ h => h) (Or.inl ⟨?hwka_3, ?hyka_3⟩) (Below.drew (Below.refl _ _)) ?restka_3
        case hoka_3 => (simp only [List.getElem?_toArray, List.getElem?_cons_succ, List.getElem?_cons_zero]; rfl)
        case hwka_3 => rfl
        case hyka_3 => (intro w' hSw; go_simp; (try with_reducible rfl))
        case restka_3 =>
        (try simp only [Act.put, List.setIfInBounds_toArray, List.set_cons_zero, List.set_cons_succ])
        refine Goes.take (i := 4) (oi := ?oika_4) (x := ?vxka_4) ?hoka_4 (by kernel_rfl) (by kernel_rfl) (by kernel_rfl) (by kernel_rfl) (fun _ _ _ h => h) (Or.inl ⟨?hwka_4, ?hyka_4⟩) (Below.drew (Below.refl _ _)) ?restka_4
        case hoka_4 => (simp only [List.getElem?_toArray, List.getElem?_cons_succ, List.getElem?_cons_zero]; rfl)
        case hwka_4 => rfl
        case hyka_4 => (intro w' hSw; go_simp; (try with_reducible rfl))
        case restka_4 =>
        (try simp only [Act.put, List.setIfInBounds_toArray, List.set_cons_zero, List.set_cons_succ])
        refine Goes.take (i := 5) (oi := ?oika_5) (x := ?vxka_5) ?hoka_5 (by kernel_rfl) (by kernel_rfl) (by kernel_rfl) (by kernel_rfl) (fun _ _ _ h => h) (Or.inl ⟨?hwka_5, ?hyka_5⟩) (Below.drew (Below.refl _ _)) ?restka_5
        case hoka_5 => (simp only [List.getElem?_toArray, List.getElem?_cons_succ, List.getElem?_cons_zero]; rfl)
        case hwka_5 => rfl
        case hyka_5 => (intro w' hSw; have q0 : ∀ o, w'.cell? ⟨p4, o, none⟩ = (#[.int .i64 0, .int .i64 G.path, .int .i64 G.frm, .bool G.syn, .bool G.ackd, .bool G.rst, .int .i64 G.seq, .int .i64 G.ack, .int .i64 G.fin, .int .i64 G.opt, .int .i64 G.a, .int .i64 G.b, .slice a2 N2 c2] : Array Value)[o]? := fun o => (hSw.cell (p := ⟨p4, o, none⟩) zU).trans (kU o); go_simp; (try with_reducible rfl))
        case restka_5 =>
        (try simp only [Act.put, List.setIfInBounds_toArray, List.set_cons_zero, List.set_cons_succ])
        refine Goes.take (i := 9) (oi := ?oika_9) (x := ?vxka_9) ?hoka_9 (by kernel_rfl) (by kernel_rfl) (by kernel_rfl) (by kernel_rfl) (fun _ _ _ h => h) (Or.inl ⟨?hwka_9, ?hyka_9⟩) (Below.drew (Below.refl _ _)) ?restka_9
        case hoka_9 => (simp only [List.getElem?_toArray, List.getElem?_cons_succ, List.getElem?_cons_zero]; rfl)
        case hwka_9 => rfl
        case hyka_9 => (intro w' hSw; go_simp; (try with_reducible rfl))
        case restka_9 =>
        (try simp only [Act.put, List.setIfInBounds_toArray, List.set_cons_zero, List.set_cons_succ])
        refine Goes.take (i := 10) (oi := ?oika_10) (x := ?vxka_10) ?hoka_10 (by kernel_rfl) (by kernel_rfl) (by kernel_rfl) (by kernel_rfl) (fun _ _ _ h => h) (Or.inl ⟨?hwka_10, ?hyka_10⟩) (Below.drew (Below.refl _ _)) ?restka_10
        case hoka_10 => (simp only [List.getElem?_toArray, List.getElem?_cons_succ, List.getElem?_cons_zero]; rfl)
        case hwka_10 => rfl
        case hyka_10 => (intro w' hSw; have cv := HCL.out w' hSw; go_simp; (try with_reducible rfl))
        case restka_10 =>
        (try simp only [Act.put, List.setIfInBounds_toArray, List.set_cons_zero, List.set_cons_succ])
        refine Goes.all (rs := [6]) (by kernel_rfl) (by simp) ?_
        refine Ups.cons (i := 6) (o := ?ooka_6) ?hoka_6 (fun KK hKK => ?stpka_6) Ups.nil
        case hoka_6 => (simp only [List.getElem?_toArray, List.getElem?_cons_succ, List.getElem?_cons_zero]; rfl)
        case stpka_6 =>
          go_simp
          go_at_call 26
          refine (CPK.out _ (Below.drew (Below.refl _ _))).mono ?_
          rintro e w6 ⟨v6, rfl, ho6, hb6⟩
          obtain ⟨a6, c6, rfl, hr6, -⟩ := ho6.rbn
          have HB6 : Hid (Below W.heap.size W w6) := bl_drewU hb6
          have cP6 := cv_str a6 _ c6 (packR G) w6 rfl hr6
          rw [HSP.out] at cP6
          clear ho6 hb6 hr6
          generalize (packR G).length = N6 at *
          dsimp only
          refine hKK.out _ _ (Or.inr (HB6.out)) ?_
          clear hKK KK
          (try simp only [Act.put, List.setIfInBounds_toArray, List.set_cons_zero, List.set_cons_succ])
          refine Goes.take (i := 7) (oi := ?oika_7) (x := ?vxka_7) ?hoka_7 (by kernel_rfl) (by kernel_rfl) (by kernel_rfl) (by kernel_rfl) (fun _ _ _ h => h) (Or.inl ⟨?hwka_7, ?hyka_7⟩) (HB6.out) ?restka_7
          case hoka_7 => (simp only [List.getElem?_toArray, List.getElem?_cons_succ, List.getElem?_cons_zero]; rfl)
          case hwka_7 => rfl
          case hyka_7 => (intro w' hSw; first | (go_simp; with_reducible rfl) | (simp [Instr.field, asAgg, part, go_sem]; rfl) | (simp [execOp, Instr.field, asAgg, part, go_sem]; rfl))
          case restka_7 =>
          (try simp only [Act.put, List.setIfInBounds_toArray, List.set_cons_zero, List.set_cons_succ])
          refine Goes.all (rs := [8]) (by kernel_rfl) (by simp) ?_
          refine Ups.cons (i := 8) (o := ?ooka_8) ?hoka_8 (fun KK hKK => ?stpka_8) Ups.nil
          case hoka_8 => (simp only [List.getElem?_toArray, List.getElem?_cons_succ, List.getElem?_cons_zero]; rfl)
          case stpka_8 =>
            go_simp
            refine hKK.out _ _ (Or.inr (HB6.out)) ?_
            clear hKK KK
            (try simp only [Act.put, List.setIfInBounds_toArray, List.set_cons_zero, List.set_cons_succ])
            refine Goes.take (i := 11) (oi := ?oika_11) (x := ?vxka_11) ?hoka_11 (by kernel_rfl) (by kernel_rfl) (by kernel_rfl) (by kernel_rfl) (fun _ _ _ h => h) (Or.inl ⟨?hwka_11, ?hyka_11⟩) (HB6.out) ?restka_11
            case hoka_11 => (simp only [List.getElem?_toArray, List.getElem?_cons_succ, List.getElem?_cons_zero]; rfl)
            case hwka_11 => rfl
            case hyka_11 => (intro w' hSw; go_simp; (try with_reducible rfl))
            case restka_11 =>
            (try simp only [Act.put, List.setIfInBounds_toArray, List.set_cons_zero, List.set_cons_succ])
            refine Goes.take (i := 12) (oi := ?oika_12) (x := ?vxka_12) ?hoka_12 (by kernel_rfl) (by kernel_rfl) (by kernel_rfl) (by kernel_rfl) (fun _ _ _ h => h) (Or.inl ⟨?hwka_12, ?hyka_12⟩) (HB6.out) ?restka_12
            case hoka_12 => (simp only [List.getElem?_toArray, List.getElem?_cons_succ, List.getElem?_cons_zero]; rfl)
            case hwka_12 => rfl
            case hyka_12 => (intro w' hSw; go_simp; (try with_reducible rfl))
            case restka_12 =>
            (try simp only [Act.put, List.setIfInBounds_toArray, List.set_cons_zero, List.set_cons_succ])
            refine Goes.take (i := 13) (oi := ?oika_13) (x := ?vxka_13) ?hoka_13 (by kernel_rfl) (by kernel_rfl) (by kernel_rfl) (by kernel_rfl) (fun _ _ _ h => h) (Or.inl ⟨?hwka_13, ?hyka_13⟩) (HB6.out) ?restka_13
            case hoka_13 => (simp only [List.getElem?_toArray, List.getElem?_cons_succ, List.getElem?_cons_zero]; rfl)
            case hwka_13 => rfl
            case hyka_13 => (intro w' hSw; go_simp; (try with_reducible rfl))
            case restka_13 =>
            (try simp only [Act.put, List.setIfInBounds_toArray, List.set_cons_zero, List.set_cons_succ])
            refine Goes.take (i := 14) (oi := ?oika_14) (x := ?vxka_14) ?hoka_14 (by kernel_rfl) (by kernel_rfl) (by kernel_rfl) (by kernel_rfl) (fun _ _ _ h => h) (Or.inl ⟨?hwka_14, ?hyka_14⟩) (HB6.out) ?restka_14
            case hoka_14 => (simp only [List.getElem?_toArray, List.getElem?_cons_succ, List.getElem?_cons_zero]; rfl)
            case hwka_14 => rfl
            case hyka_14 => (intro w' hSw; go_simp; (try with_reducible rfl))
            case restka_14 =>
            (try simp only [Act.put, List.setIfInBounds_toArray, List.set_cons_zero, List.set_cons_succ])
            refine Goes.take (i := 15) (oi := ?oika_15) (x := ?vxka_15) ?hoka_15 (by kernel_rfl) (by kernel_rfl) (by kernel_rfl) (by kernel_rfl) (fun _ _ _ h => h) (Or.inl ⟨?hwka_15, ?hyka_15⟩) (HB6.out) ?restka_15
            case hoka_15 => (simp only [List.getElem?_toArray, List.getElem?_cons_succ, List.getElem?_cons_zero]; rfl)
            case hwka_15 => rfl
            case hyka_15 => (intro w' hSw; have q0 : ∀ o, w'.cell? ⟨p4, o, none⟩ = (#[.int .i64 0, .int .i64 G.path, .int .i64 G.frm, .bool G.syn, .bool G.ackd, .bool G.rst, .int .i64 G.seq, .int .i64 G.ack, .int .i64 G.fin, .int .i64 G.opt, .int .i64 G.a, .int .i64 G.b, .slice a2 N2 c2] : Array Value)[o]? := fun o => (hSw.cell (p := ⟨p4, o, none⟩) zU).trans (kU o); go_simp; (try with_reducible rfl))
            case restka_15 =>
            (try simp only [Act.put, List.setIfInBounds_toArray, List.set_cons_zero, List.set_cons_succ])
            refine Goes.take (i := 16) (oi := ?oika_16) (x := ?vxka_16) ?hoka_16 (by kernel_rfl) (by kernel_rfl) (by kernel_rfl) (by kernel_rfl) (fun _ _ _ h => h) (Or.inl ⟨?hwka_16, ?hyka_16⟩) (HB6.out) ?restka_16
            case hoka_16 => (simp only [List.getElem?_toArray, List.getElem?_cons_succ, List.getElem?_cons_zero]; rfl)
            case hwka_16 => rfl
            case hyka_16 => (intro w' hSw; go_simp; (try with_reducible rfl))
            case restka_16 =>
            (try simp only [Act.put, List.setIfInBounds_toArray, List.set_cons_zero, List.set_cons_succ])
            refine Goes.take (i := 17) (oi := ?oika_17) (x := ?vxka_17) ?hoka_17 (by kernel_rfl) (by kernel_rfl) (by kernel_rfl) (by kernel_rfl) (fun _ _ _ h => h) (Or.inl ⟨?hwka_17, ?hyka_17⟩) (HB6.out) ?restka_17
            case hoka_17 => (simp only [List.getElem?_toArray, List.getElem?_cons_succ, List.getElem?_cons_zero]; rfl)
            case hwka_17 => rfl
            case hyka_17 => (intro w' hSw; go_simp; (try with_reducible rfl))
            case restka_17 =>
            (try simp only [Act.put, List.setIfInBounds_toArray, List.set_cons_zero, List.set_cons_succ])
            refine Goes.take (i := 18) (oi := ?oika_18) (x := undef) ?hoka_18 (by kernel_rfl) (by kernel_rfl) (by kernel_rfl) (by kernel_rfl) (fun _ _ _ h => h) (Or.inr ⟨?hwka_18, rfl⟩) (HB6.out) ?restka_18
            case hoka_18 => (simp only [List.getElem?_toArray, List.getElem?_cons_succ, List.getElem?_cons_zero]; rfl)
            case hwka_18 => rfl
            case restka_18 =>
            (try simp only [Act.put, List.setIfInBounds_toArray, List.set_cons_zero, List.set_cons_succ])
            refine Goes.take (i := 19) (oi := ?oika_19) (x := undef) ?hoka_19 (by kernel_rfl) (by kernel_rfl) (by kernel_rfl) (by kernel_rfl) (fun _ _ _ h => h) (Or.inr ⟨?hwka_19, rfl⟩) (HB6.out) ?restka_19
            case hoka_19 => (simp only [List.getElem?_toArray, List.getElem?_cons_succ, List.getElem?_cons_zero]; rfl)
            case hwka_19 => rfl
            case restka_19 =>
            (try simp only [Act.put, List.setIfInBounds_toArray, List.set_cons_zero, List.set_cons_succ])
            refine Goes.take (i := 20) (oi := ?oika_20) (x := undef) ?hoka_20 (by kernel_rfl) (by kernel_rfl) (by kernel_rfl) (by kernel_rfl) (fun _ _ _ h => h) (Or.inr ⟨?hwka_20, rfl⟩) (HB6.out) ?restka_20
            case hoka_20 => (simp only [List.getElem?_toArray, List.getElem?_cons_succ, List.getElem?_cons_zero]; rfl)
            case hwka_20 => rfl
            case restka_20 =>
            (try simp only [Act.put, List.setIfInBounds_toArray, List.set_cons_zero, List.set_cons_succ])
            refine Goes.take (i := 21) (oi := ?oika_21) (x := undef) ?hoka_21 (by kernel_rfl) (by kernel_rfl) (by kernel_rfl) (by kernel_rfl) (fun _ _ _ h => h) (Or.inr ⟨?hwka_21, rfl⟩) (HB6.out) ?restka_21
            case hoka_21 => (simp only [List.getElem?_toArray, List.getElem?_cons_succ, List.getElem?_cons_zero]; rfl)
            case hwka_21 => rfl
            case restka_21 =>
            (try simp only [Act.put, List.setIfInBounds_toArray, List.set_cons_zero, List.set_cons_succ])
            refine Goes.take (i := 22) (oi := ?oika_22) (x := undef) ?hoka_22 (by kernel_rfl) (by kernel_rfl) (by kernel_rfl) (by kernel_rfl) (fun _ _ _ h => h) (Or.inr ⟨?hwka_22, rfl⟩) (HB6.out) ?restka_22
            case hoka_22 => (simp only [List.getElem?_toArray, List.getElem?_cons_succ, List.getElem?_cons_zero]; rfl)
            case hwka_22 => rfl
            case restka_22 =>
            (try simp only [Act.put, List.setIfInBounds_toArray, List.set_cons_zero, List.set_cons_succ])
            refine Goes.take (i := 23) (oi := ?oika_23) (x := undef) ?hoka_23 (by kernel_rfl) (by kernel_rfl) (by kernel_rfl) (by kernel_rfl) (fun _ _ _ h => h) (Or.inr ⟨?hwka_23, rfl⟩) (HB6.out) ?restka_23
            case hoka_23 => (simp only [List.getElem?_toArray, List.getElem?_cons_succ, List.getElem?_cons_zero]; rfl)
            case hwka_23 => rfl
            case restka_23 =>
            (try simp only [Act.put, List.setIfInBounds_toArray, List.set_cons_zero, List.set_cons_succ])
            refine Goes.take (i := 24) (oi := ?oika_24) (x := ?vxka_24) ?hoka_24 (by kernel_rfl) (by kernel_rfl) (by kernel_rfl) (by kernel_rfl) (fun _ _ _ h => h) (Or.inl ⟨?hwka_24, ?hyka_24⟩) (HB6.out) ?restka_24
            case hoka_24 => (simp only [List.getElem?_toArray, List.getElem?_cons_succ, List.getElem?_cons_zero]; rfl)
            case hwka_24 => rfl
            case hyka_24 => (intro w' hSw; go_simp; (try with_reducible rfl))
            case restka_24 =>
            (try simp only [Act.put, List.setIfInBounds_toArray, List.set_cons_zero, List.set_cons_succ])
            refine Goes.take (i := 25) (oi := ?oika_25) (x := ?vxka_25) ?hoka_25 (by kernel_rfl) (by kernel_rfl) (by kernel_rfl) (by kernel_rfl) (fun _ _ _ h => h) (Or.inl ⟨?hwka_25, ?hyka_25⟩) (HB6.out) ?restka_25
            case hoka_25 => (simp only [List.getElem?_toArray, List.getElem?_cons_succ, List.getElem?_cons_zero]; rfl)
            case hwka_25 => rfl
            case hyka_25 => (intro w' hSw; go_simp; (try with_reducible rfl))
            case restka_25 =>
            (try simp only [Act.put, List.setIfInBounds_toArray, List.set_cons_zero, List.set_cons_succ])
            refine Goes.done (by kernel_rfl) ?_ _
            refine NoPanic.normal ?_
            go_wp2_with fail
            go_meet
            exact ⟨rfl, HB6.out⟩
      · subst hU
        refine wp_region_noPanic ?_
        refine Goes.start (S := fun w' => Below W.heap.size W w') (z := 26) (by kernel_rfl) ?_
        refine Goes.take (i := 0) (oi := ?oikb_0) (x := ?vxkb_0) ?hokb_0 (by kernel_rfl) (by kernel_rfl) (by kernel_rfl) (by kernel_rfl) (fun _ _ _ h => h) (Or.inl ⟨?hwkb_0, ?hykb_0⟩) (Below.drew (Below.refl _ _)) ?restkb_0
        case hokb_0 => (simp only [List.getElem?_toArray, List.getElem?_cons_succ, List.getElem?_cons_zero]; rfl)
        case hwkb_0 => rfl
        case hykb_0 => (intro w' hSw; go_simp; (try with_reducible rfl))
        case restkb_0 =>
        (try simp only [Act.put, List.setIfInBounds_toArray, List.set_cons_zero, List.set_cons_succ])
        refine Goes.take (i := 1) (oi := ?oikb_1) (x := ?vxkb_1) ?hokb_1 (by kernel_rfl) (by kernel_rfl) (by kernel_rfl) (by kernel_rfl) (fun _ _ _ h => h) (Or.inl ⟨?hwkb_1, ?hykb_1⟩) (Below.drew (Below.refl _ _)) ?restkb_1
        case hokb_1 => (simp only [List.getElem?_toArray, List.getElem?_cons_succ, List.getElem?_cons_zero]; rfl)
        case hwkb_1 => rfl
        case hykb_1 => (intro w' hSw; have q0 : ∀ o, w'.cell? ⟨p4, o, none⟩ = (#[.int .i64 5, .int .i64 G.path, .int .i64 G.frm, .bool G.syn, .bool G.ackd, .bool G.rst, .int .i64 G.seq, .int .i64 G.ack, .int .i64 G.fin, .int .i64 G.opt, .int .i64 G.a, .int .i64 G.b, .slice a2 N2 c2] : Array Value)[o]? := fun o => (hSw.cell (p := ⟨p4, o, none⟩) zU).trans (kU o); go_simp; (try with_reducible rfl))
        case restkb_1 =>
        (try simp only [Act.put, List.setIfInBounds_toArray, List.set_cons_zero, List.set_cons_succ])
        refine Goes.take (i := 2) (oi := ?oikb_2) (x := ?vxkb_2) ?hokb_2 (by kernel_rfl) (by kernel_rfl) (by kernel_rfl) (by kernel_rfl) (fun _ _ _ h => h) (Or.inl ⟨?hwkb_2, ?hykb_2⟩) (Below.drew (Below.refl _ _)) ?restkb_2
        case hokb_2 => (simp only [List.getElem?_toArray, List.getElem?_cons_succ, List.getElem?_cons_zero]; rfl)
        case hwkb_2 => rfl
        case hykb_2 => (intro w' hSw; go_simp; (try with_reducible rfl))
        case restkb_2 =>
        (try simp only [Act.put, List.setIfInBounds_toArray, List.set_cons_zero, List.set_cons_succ])
        refine Goes.take (i := 3) (oi := ?oikb_3) (x := ?vxkb_3) ?hokb_3 (by kernel_rfl) (by kernel_rfl) (by kernel_rfl) (by kernel_rfl) (fun _ _ _ h => h) (Or.inl ⟨?hwkb_3, ?hykb_3⟩) (Below.drew (Below.refl _ _)) ?restkb_3
        case hokb_3 => (simp only [List.getElem?_toArray, List.getElem?_cons_succ, List.getElem?_cons_zero]; rfl)
        case hwkb_3 => rfl
        case hykb_3 => (intro w' hSw; go_simp; (try with_reducible rfl))
        case restkb_3 =>
        (try simp only [Act.put, List.setIfInBounds_toArray, List.set_cons_zero, List.set_cons_succ])
        refine Goes.take (i := 4) (oi := ?oikb_4) (x := undef) ?hokb_4 (by kernel_rfl) (by kernel_rfl) (by kernel_rfl) (by kernel_rfl) (fun _ _ _ h => h) (Or.inr ⟨?hwkb_4, rfl⟩) (Below.drew (Below.refl _ _)) ?restkb_4
        case hokb_4 => (simp only [List.getElem?_toArray, List.getElem?_cons_succ, List.getElem?_cons_zero]; rfl)
        case hwkb_4 => rfl
        case restkb_4 =>
        (try simp only [Act.put, List.setIfInBounds_toArray, List.set_cons_zero, List.set_cons_succ])
        refine Goes.take (i := 5) (oi := ?oikb_5) (x := undef) ?hokb_5 (by kernel_rfl) (by kernel_rfl) (by kernel_rfl) (by kernel_rfl) (fun _ _ _ h => h) (Or.inr ⟨?hwkb_5, rfl⟩) (Below.drew (Below.refl _ _)) ?restkb_5
        case hokb_5 => (simp only [List.getElem?_toArray, List.getElem?_cons_succ, List.getElem?_cons_zero]; rfl)
        case hwkb_5 => rfl
        case restkb_5 =>
        (try simp only [Act.put, List.setIfInBounds_toArray, List.set_cons_zero, List.set_cons_succ])
        refine Goes.take (i := 6) (oi := ?oikb_6) (x := undef) ?hokb_6 (by kernel_rfl) (by kernel_rfl) (by kernel_rfl) (by kernel_rfl) (fun _ _ _ h => h) (Or.inr ⟨?hwkb_6, rfl⟩) (Below.drew (Below.refl _ _)) ?restkb_6
        case hokb_6 => (simp only [List.getElem?_toArray, List.getElem?_cons_succ, List.getElem?_cons_zero]; rfl)
        case hwkb_6 => rfl
        case restkb_6 =>
        (try simp only [Act.put, List.setIfInBounds_toArray, List.set_cons_zero, List.set_cons_succ])
        refine Goes.take (i := 7) (oi := ?oikb_7) (x := undef) ?hokb_7 (by kernel_rfl) (by kernel_rfl) (by kernel_rfl) (by kernel_rfl) (fun _ _ _ h => h) (Or.inr ⟨?hwkb_7, rfl⟩) (Below.drew (Below.refl _ _)) ?restkb_7
        case hokb_7 => (simp only [List.getElem?_toArray, List.getElem?_cons_succ, List.getElem?_cons_zero]; rfl)
        case hwkb_7 => rfl
        case restkb_7 =>
        (try simp only [Act.put, List.setIfInBounds_toArray, List.set_cons_zero, List.set_cons_succ])
        refine Goes.take (i := 8) (oi := ?oikb_8) (x := undef) ?hokb_8 (by kernel_rfl) (by kernel_rfl) (by kernel_rfl) (by kernel_rfl) (fun _ _ _ h => h) (Or.inr ⟨?hwkb_8, rfl⟩) (Below.drew (Below.refl _ _)) ?restkb_8
        case hokb_8 => (simp only [List.getElem?_toArray, List.getElem?_cons_succ, List.getElem?_cons_zero]; rfl)
        case hwkb_8 => rfl
        case restkb_8 =>
        (try simp only [Act.put, List.setIfInBounds_toArray, List.set_cons_zero, List.set_cons_succ])
        refine Goes.take (i := 9) (oi := ?oikb_9) (x := undef) ?hokb_9 (by kernel_rfl) (by kernel_rfl) (by kernel_rfl) (by kernel_rfl) (fun _ _ _ h => h) (Or.inr ⟨?hwkb_9, rfl⟩) (Below.drew (Below.refl _ _)) ?restkb_9
        case hokb_9 => (simp only [List.getElem?_toArray, List.getElem?_cons_succ, List.getElem?_cons_zero]; rfl)
        case hwkb_9 => rfl
        case restkb_9 =>
        (try simp only [Act.put, List.setIfInBounds_toArray, List.set_cons_zero, List.set_cons_succ])
        refine Goes.take (i := 10) (oi := ?oikb_10) (x := undef) ?hokb_10 (by kernel_rfl) (by kernel_rfl) (by kernel_rfl) (by kernel_rfl) (fun _ _ _ h => h) (Or.inr ⟨?hwkb_10, rfl⟩) (Below.drew (Below.refl _ _)) ?restkb_10
        case hokb_10 => (simp only [List.getElem?_toArray, List.getElem?_cons_succ, List.getElem?_cons_zero]; rfl)
        case hwkb_10 => rfl
        case restkb_10 =>
        (try simp only [Act.put, List.setIfInBounds_toArray, List.set_cons_zero, List.set_cons_succ])
        refine Goes.take (i := 11) (oi := ?oikb_11) (x := undef) ?hokb_11 (by kernel_rfl) (by kernel_rfl) (by kernel_rfl) (by kernel_rfl) (fun _ _ _ h => h) (Or.inr ⟨?hwkb_11, rfl⟩) (Below.drew (Below.refl _ _)) ?restkb_11
        case hokb_11 => (simp only [List.getElem?_toArray, List.getElem?_cons_succ, List.getElem?_cons_zero]; rfl)
        case hwkb_11 => rfl
        case restkb_11 =>
        (try simp only [Act.put, List.setIfInBounds_toArray, List.set_cons_zero, List.set_cons_succ])
        refine Goes.take (i := 12) (oi := ?oikb_12) (x := ?vxkb_12) ?hokb_12 (by kernel_rfl) (by kernel_rfl) (by kernel_rfl) (by kernel_rfl) (fun _ _ _ h => h) (Or.inl ⟨?hwkb_12, ?hykb_12⟩) (Below.drew (Below.refl _ _)) ?restkb_12
        case hokb_12 => (simp only [List.getElem?_toArray, List.getElem?_cons_succ, List.getElem?_cons_zero]; rfl)
        case hwkb_12 => rfl
        case hykb_12 => (intro w' hSw; go_simp; (try with_reducible rfl))
        case restkb_12 =>
        (try simp only [Act.put, List.setIfInBounds_toArray, List.set_cons_zero, List.set_cons_succ])
        refine Goes.take (i := 13) (oi := ?oikb_13) (x := ?vxkb_13) ?hokb_13 (by kernel_rfl) (by kernel_rfl) (by kernel_rfl) (by kernel_rfl) (fun _ _ _ h => h) (Or.inl ⟨?hwkb_13, ?hykb_13⟩) (Below.drew (Below.refl _ _)) ?restkb_13
        case hokb_13 => (simp only [List.getElem?_toArray, List.getElem?_cons_succ, List.getElem?_cons_zero]; rfl)
        case hwkb_13 => rfl
        case hykb_13 => (intro w' hSw; go_simp; (try with_reducible rfl))
        case restkb_13 =>
        (try simp only [Act.put, List.setIfInBounds_toArray, List.set_cons_zero, List.set_cons_succ])
        refine Goes.take (i := 14) (oi := ?oikb_14) (x := ?vxkb_14) ?hokb_14 (by kernel_rfl) (by kernel_rfl) (by kernel_rfl) (by kernel_rfl) (fun _ _ _ h => h) (Or.inl ⟨?hwkb_14, ?hykb_14⟩) (Below.drew (Below.refl _ _)) ?restkb_14
        case hokb_14 => (simp only [List.getElem?_toArray, List.getElem?_cons_succ, List.getElem?_cons_zero]; rfl)
        case hwkb_14 => rfl
        case hykb_14 => (intro w' hSw; go_simp; (try with_reducible rfl))
        case restkb_14 =>
        (try simp only [Act.put, List.setIfInBounds_toArray, List.set_cons_zero, List.set_cons_succ])
        refine Goes.take (i := 15) (oi := ?oikb_15) (x := ?vxkb_15) ?hokb_15 (by kernel_rfl) (by kernel_rfl) (by kernel_rfl) (by kernel_rfl) (fun _ _ _ h => h) (Or.inl ⟨?hwkb_15, ?hykb_15⟩) (Below.drew (Below.refl _ _)) ?restkb_15
        case hokb_15 => (simp only [List.getElem?_toArray, List.getElem?_cons_succ, List.getElem?_cons_zero]; rfl)
        case hwkb_15 => rfl
        case hykb_15 => (intro w' hSw; have q0 : ∀ o, w'.cell? ⟨p4, o, none⟩ = (#[.int .i64 5, .int .i64 G.path, .int .i64 G.frm, .bool G.syn, .bool G.ackd, .bool G.rst, .int .i64 G.seq, .int .i64 G.ack, .int .i64 G.fin, .int .i64 G.opt, .int .i64 G.a, .int .i64 G.b, .slice a2 N2 c2] : Array Value)[o]? := fun o => (hSw.cell (p := ⟨p4, o, none⟩) zU).trans (kU o); go_simp; (try with_reducible rfl))
        case restkb_15 =>
        (try simp only [Act.put, List.setIfInBounds_toArray, List.set_cons_zero, List.set_cons_succ])
        refine Goes.take (i := 16) (oi := ?oikb_16) (x := ?vxkb_16) ?hokb_16 (by kernel_rfl) (by kernel_rfl) (by kernel_rfl) (by kernel_rfl) (fun _ _ _ h => h) (Or.inl ⟨?hwkb_16, ?hykb_16⟩) (Below.drew (Below.refl _ _)) ?restkb_16
        case hokb_16 => (simp only [List.getElem?_toArray, List.getElem?_cons_succ, List.getElem?_cons_zero]; rfl)
        case hwkb_16 => rfl
        case hykb_16 => (intro w' hSw; go_simp; (try with_reducible rfl))
        case restkb_16 =>
        (try simp only [Act.put, List.setIfInBounds_toArray, List.set_cons_zero, List.set_cons_succ])
        refine Goes.take (i := 17) (oi := ?oikb_17) (x := ?vxkb_17) ?hokb_17 (by kernel_rfl) (by kernel_rfl) (by kernel_rfl) (by kernel_rfl) (fun _ _ _ h => h) (Or.inl ⟨?hwkb_17, ?hykb_17⟩) (Below.drew (Below.refl _ _)) ?restkb_17
        case hokb_17 => (simp only [List.getElem?_toArray, List.getElem?_cons_succ, List.getElem?_cons_zero]; rfl)
        case hwkb_17 => rfl
        case hykb_17 => (intro w' hSw; go_simp; (try with_reducible rfl))
        case restkb_17 =>
        (try simp only [Act.put, List.setIfInBounds_toArray, List.set_cons_zero, List.set_cons_succ])
        refine Goes.take (i := 18) (oi := ?oikb_18) (x := ?vxkb_18) ?hokb_18 (by kernel_rfl) (by kernel_rfl) (by kernel_rfl) (by kernel_rfl) (fun _ _ _ h => h) (Or.inl ⟨?hwkb_18, ?hykb_18⟩) (Below.drew (Below.refl _ _)) ?restkb_18
        case hokb_18 => (simp only [List.getElem?_toArray, List.getElem?_cons_succ, List.getElem?_cons_zero]; rfl)
        case hwkb_18 => rfl
        case hykb_18 => (intro w' hSw; go_simp; (try with_reducible rfl))
        case restkb_18 =>
        (try simp only [Act.put, List.setIfInBounds_toArray, List.set_cons_zero, List.set_cons_succ])
        refine Goes.take (i := 21) (oi := ?oikb_21) (x := ?vxkb_21) ?hokb_21 (by kernel_rfl) (by kernel_rfl) (by kernel_rfl) (by kernel_rfl) (fun _ _ _ h => h) (Or.inl ⟨?hwkb_21, ?hykb_21⟩) (Below.drew (Below.refl _ _)) ?restkb_21
        case hokb_21 => (simp only [List.getElem?_toArray, List.getElem?_cons_succ, List.getElem?_cons_zero]; rfl)
        case hwkb_21 => rfl
        case hykb_21 => (intro w' hSw; go_simp; (try with_reducible rfl))
        case restkb_21 =>
        (try simp only [Act.put, List.setIfInBounds_toArray, List.set_cons_zero, List.set_cons_succ])
        refine Goes.take (i := 22) (oi := ?oikb_22) (x := ?vxkb_22) ?hokb_22 (by kernel_rfl) (by kernel_rfl) (by kernel_rfl) (by kernel_rfl) (fun _ _ _ h => h) (Or.inl ⟨?hwkb_22, ?hykb_22⟩) (Below.drew (Below.refl _ _)) ?restkb_22
        case hokb_22 => (simp only [List.getElem?_toArray, List.getElem?_cons_succ, List.getElem?_cons_zero]; rfl)
        case hwkb_22 => rfl
        case hykb_22 => (intro w' hSw; have q0 : ∀ o, w'.cell? ⟨p4, o, none⟩ = (#[.int .i64 5, .int .i64 G.path, .int .i64 G.frm, .bool G.syn, .bool G.ackd, .bool G.rst, .int .i64 G.seq, .int .i64 G.ack, .int .i64 G.fin, .int .i64 G.opt, .int .i64 G.a, .int .i64 G.b, .slice a2 N2 c2] : Array Value)[o]? := fun o => (hSw.cell (p := ⟨p4, o, none⟩) zU).trans (kU o); go_simp; (try with_reducible rfl))
        case restkb_22 =>
        (try simp only [Act.put, List.setIfInBounds_toArray, List.set_cons_zero, List.set_cons_succ])
        refine Goes.all (rs := [19]) (by kernel_rfl) (by simp) ?_
        refine Ups.cons (i := 19) (o := ?ookb_19) ?hokb_19 (fun KK hKK => ?stpkb_19) Ups.nil
        case hokb_19 => (simp only [List.getElem?_toArray, List.getElem?_cons_succ, List.getElem?_cons_zero]; rfl)
        case stpkb_19 =>
          go_simp
          go_at_call 27
          refine (CSU.out _ (Below.drew (Below.refl _ _))).mono ?_
          rintro e w6 ⟨v6, rfl, ho6, hb6⟩
          have HB6 : Hid (Below W.heap.size W w6) := bl_drewU hb6
          clear ho6 hb6
          dsimp only
          refine hKK.out _ _ (Or.inr (HB6.out)) ?_
          clear hKK KK
          (try simp only [Act.put, List.setIfInBounds_toArray, List.set_cons_zero, List.set_cons_succ])
          refine Goes.take (i := 20) (oi := ?oikb_20) (x := ?vxkb_20) ?hokb_20 (by kernel_rfl) (by kernel_rfl) (by kernel_rfl) (by kernel_rfl) (fun _ _ _ h => h) (Or.inl ⟨?hwkb_20, ?hykb_20⟩) (HB6.out) ?restkb_20
          case hokb_20 => (simp only [List.getElem?_toArray, List.getElem?_cons_succ, List.getElem?_cons_zero]; rfl)
          case hwkb_20 => rfl
          case hykb_20 => (intro w' hSw; first | (go_simp; with_reducible rfl) | (simp [Instr.field, asAgg, part, go_sem]; rfl) | (simp [execOp, Instr.field, asAgg, part, go_sem]; rfl))
          case restkb_20 =>
          (try simp only [Act.put, List.setIfInBounds_toArray, List.set_cons_zero, List.set_cons_succ])
          refine Goes.take (i := 23) (oi := ?oikb_23) (x := ?vxkb_23) ?hokb_23 (by kernel_rfl) (by kernel_rfl) (by kernel_rfl) (by kernel_rfl) (fun _ _ _ h => h) (Or.inl ⟨?hwkb_23, ?hykb_23⟩) (HB6.out) ?restkb_23
          case hokb_23 => (simp only [List.getElem?_toArray, List.getElem?_cons_succ, List.getElem?_cons_zero]; rfl)
          case hwkb_23 => rfl
          case hykb_23 => (intro w' hSw; go_simp; (try with_reducible rfl))
          case restkb_23 =>
          (try simp only [Act.put, List.setIfInBounds_toArray, List.set_cons_zero, List.set_cons_succ])
          refine Goes.take (i := 24) (oi := ?oikb_24) (x := ?vxkb_24) ?hokb_24 (by kernel_rfl) (by kernel_rfl) (by kernel_rfl) (by kernel_rfl) (fun _ _ _ h => h) (Or.inl ⟨?hwkb_24, ?hykb_24⟩) (HB6.out) ?restkb_24
          case hokb_24 => (simp only [List.getElem?_toArray, List.getElem?_cons_succ, List.getElem?_cons_zero]; rfl)
          case hwkb_24 => rfl
          case hykb_24 => (intro w' hSw; go_simp; (try with_reducible rfl))
          case restkb_24 =>
          (try simp only [Act.put, List.setIfInBounds_toArray, List.set_cons_zero, List.set_cons_succ])
          refine Goes.take (i := 25) (oi := ?oikb_25) (x := ?vxkb_25) ?hokb_25 (by kernel_rfl) (by kernel_rfl) (by kernel_rfl) (by kernel_rfl) (fun _ _ _ h => h) (Or.inl ⟨?hwkb_25, ?hykb_25⟩) (HB6.out) ?restkb_25
          case hokb_25 => (simp only [List.getElem?_toArray, List.getElem?_cons_succ, List.getElem?_cons_zero]; rfl)
          case hwkb_25 => rfl
          case hykb_25 => (intro w' hSw; go_simp; (try with_reducible rfl))
          case restkb_25 =>
          (try simp only [Act.put, List.setIfInBounds_toArray, List.set_cons_zero, List.set_cons_succ])
          refine Goes.done (by kernel_rfl) ?_ _
          refine NoPanic.normal ?_
          go_wp2_with fail
          go_meet
          exact ⟨rfl, HB6.out⟩
      · subst hU
        refine wp_region_noPanic ?_
        refine Goes.start (S := fun w' => Below W.heap.size W w') (z := 26) (by kernel_rfl) ?_
        refine Goes.take (i := 0) (oi := ?oikc_0) (x := ?vxkc_0) ?hokc_0 (by kernel_rfl) (by kernel_rfl) (by kernel_rfl) (by kernel_rfl) (fun _ _ _ h => h) (Or.inl ⟨?hwkc_0, ?hykc_0⟩) (Below.drew (Below.refl _ _)) ?restkc_0
        case hokc_0 => (simp only [List.getElem?_toArray, List.getElem?_cons_succ, List.getElem?_cons_zero]; rfl)
        case hwkc_0 => rfl
        case hykc_0 => (intro w' hSw; go_simp; (try with_reducible rfl))
        case restkc_0 =>
        (try simp only [Act.put, List.setIfInBounds_toArray, List.set_cons_zero, List.set_cons_succ])
        refine Goes.take (i := 1) (oi := ?oikc_1) (x := ?vxkc_1) ?hokc_1 (by kernel_rfl) (by kernel_rfl) (by kernel_rfl) (by kernel_rfl) (fun _ _ _ h => h) (Or.inl ⟨?hwkc_1, ?hykc_1⟩) (Below.drew (Below.refl _ _)) ?restkc_1
        case hokc_1 => (simp only [List.getElem?_toArray, List.getElem?_cons_succ, List.getElem?_cons_zero]; rfl)
        case hwkc_1 => rfl
        case hykc_1 => (intro w' hSw; have q0 : ∀ o, w'.cell? ⟨p4, o, none⟩ = (#[.int .i64 6, .int .i64 G.path, .int .i64 G.frm, .bool G.syn, .bool G.ackd, .bool G.rst, .int .i64 G.seq, .int .i64 G.ack, .int .i64 G.fin, .int .i64 G.opt, .int .i64 G.a, .int .i64 G.b, .slice a2 N2 c2] : Array Value)[o]? := fun o => (hSw.cell (p := ⟨p4, o, none⟩) zU).trans (kU o); go_simp; (try with_reducible rfl))
        case restkc_1 =>
        (try simp only [Act.put, List.setIfInBounds_toArray, List.set_cons_zero, List.set_cons_succ])
        refine Goes.take (i := 2) (oi := ?oikc_2) (x := ?vxkc_2) ?hokc_2 (by kernel_rfl) (by kernel_rfl) (by kernel_rfl) (by kernel_rfl) (fun _ _ _ h => h) (Or.inl ⟨?hwkc_2, ?hykc_2⟩) (Below.drew (Below.refl _ _)) ?restkc_2
        case hokc_2 => (simp only [List.getElem?_toArray, List.getElem?_cons_succ, List.getElem?_cons_zero]; rfl)
        case hwkc_2 => rfl
        case hykc_2 => (intro w' hSw; go_simp; (try with_reducible rfl))
        case restkc_2 =>
        (try simp only [Act.put, List.setIfInBounds_toArray, List.set_cons_zero, List.set_cons_succ])
        refine Goes.take (i := 3) (oi := ?oikc_3) (x := ?vxkc_3) ?hokc_3 (by kernel_rfl) (by kernel_rfl) (by kernel_rfl) (by kernel_rfl) (fun _ _ _ h => h) (Or.inl ⟨?hwkc_3, ?hykc_3⟩) (Below.drew (Below.refl _ _)) ?restkc_3
        case hokc_3 => (simp only [List.getElem?_toArray, List.getElem?_cons_succ, List.getElem?_cons_zero]; rfl)
        case hwkc_3 => rfl
        case hykc_3 => (intro w' hSw; go_simp; (try with_reducible rfl))
        case restkc_3 =>
        (try simp only [Act.put, List.setIfInBounds_toArray, List.set_cons_zero, List.set_cons_succ])
        refine Goes.take (i := 4) (oi := ?oikc_4) (x := undef) ?hokc_4 (by kernel_rfl) (by kernel_rfl) (by kernel_rfl) (by kernel_rfl) (fun _ _ _ h => h) (Or.inr ⟨?hwkc_4, rfl⟩) (Below.drew (Below.refl _ _)) ?restkc_4
        case hokc_4 => (simp only [List.getElem?_toArray, List.getElem?_cons_succ, List.getElem?_cons_zero]; rfl)
        case hwkc_4 => rfl
        case restkc_4 =>
        (try simp only [Act.put, List.setIfInBounds_toArray, List.set_cons_zero, List.set_cons_succ])
        refine Goes.take (i := 5) (oi := ?oikc_5) (x := undef) ?hokc_5 (by kernel_rfl) (by kernel_rfl) (by kernel_rfl) (by kernel_rfl) (fun _ _ _ h => h) (Or.inr ⟨?hwkc_5, rfl⟩) (Below.drew (Below.refl _ _)) ?restkc_5
        case hokc_5 => (simp only [List.getElem?_toArray, List.getElem?_cons_succ, List.getElem?_cons_zero]; rfl)
        case hwkc_5 => rfl
        case restkc_5 =>
        (try simp only [Act.put, List.setIfInBounds_toArray, List.set_cons_zero, List.set_cons_succ])
        refine Goes.take (i := 6) (oi := ?oikc_6) (x := undef) ?hokc_6 (by kernel_rfl) (by kernel_rfl) (by kernel_rfl) (by kernel_rfl) (fun _ _ _ h => h) (Or.inr ⟨?hwkc_6, rfl⟩) (Below.drew (Below.refl _ _)) ?restkc_6
        case hokc_6 => (simp only [List.getElem?_toArray, List.getElem?_cons_succ, List.getElem?_cons_zero]; rfl)
        case hwkc_6 => rfl
        case restkc_6 =>
        (try simp only [Act.put, List.setIfInBounds_toArray, List.set_cons_zero, List.set_cons_succ])
        refine Goes.take (i := 7) (oi := ?oikc_7) (x := undef) ?hokc_7 (by kernel_rfl) (by kernel_rfl) (by kernel_rfl) (by kernel_rfl) (fun _ _ _ h => h) (Or.inr ⟨?hwkc_7, rfl⟩) (Below.drew (Below.refl _ _)) ?restkc_7
        case hokc_7 => (simp only [List.getElem?_toArray, List.getElem?_cons_succ, List.getElem?_cons_zero]; rfl)
        case hwkc_7 => rfl
        case restkc_7 =>
        (try simp only [Act.put, List.setIfInBounds_toArray, List.set_cons_zero, List.set_cons_succ])
        refine Goes.take (i := 8) (oi := ?oikc_8) (x := undef) ?hokc_8 (by kernel_rfl) (by kernel_rfl) (by kernel_rfl) (by kernel_rfl) (fun _ _ _ h => h) (Or.inr ⟨?hwkc_8, rfl⟩) (Below.drew (Below.refl _ _)) ?restkc_8
        case hokc_8 => (simp only [List.getElem?_toArray, List.getElem?_cons_succ, List.getElem?_cons_zero]; rfl)
        case hwkc_8 => rfl
        case restkc_8 =>
        (try simp only [Act.put, List.setIfInBounds_toArray, List.set_cons_zero, List.set_cons_succ])
        refine Goes.take (i := 9) (oi := ?oikc_9) (x := undef) ?hokc_9 (by kernel_rfl) (by kernel_rfl) (by kernel_rfl) (by kernel_rfl) (fun _ _ _ h => h) (Or.inr ⟨?hwkc_9, rfl⟩) (Below.drew (Below.refl _ _)) ?restkc_9
        case hokc_9 => (simp only [List.getElem?_toArray, List.getElem?_cons_succ, List.getElem?_cons_zero]; rfl)
        case hwkc_9 => rfl
        case restkc_9 =>
        (try simp only [Act.put, List.setIfInBounds_toArray, List.set_cons_zero, List.set_cons_succ])
        refine Goes.take (i := 10) (oi := ?oikc_10) (x := undef) ?hokc_10 (by kernel_rfl) (by kernel_rfl) (by kernel_rfl) (by kernel_rfl) (fun _ _ _ h => h) (Or.inr ⟨?hwkc_10, rfl⟩) (Below.drew (Below.refl _ _)) ?restkc_10
        case hokc_10 => (simp only [List.getElem?_toArray, List.getElem?_cons_succ, List.getElem?_cons_zero]; rfl)
        case hwkc_10 => rfl
        case restkc_10 =>
        (try simp only [Act.put, List.setIfInBounds_toArray, List.set_cons_zero, List.set_cons_succ])
        refine Goes.take (i := 11) (oi := ?oikc_11) (x := undef) ?hokc_11 (by kernel_rfl) (by kernel_rfl) (by kernel_rfl) (by kernel_rfl) (fun _ _ _ h => h) (Or.inr ⟨?hwkc_11, rfl⟩) (Below.drew (Below.refl _ _)) ?restkc_11
        case hokc_11 => (simp only [List.getElem?_toArray, List.getElem?_cons_succ, List.getElem?_cons_zero]; rfl)
        case hwkc_11 => rfl
        case restkc_11 =>
        (try simp only [Act.put, List.setIfInBounds_toArray, List.set_cons_zero, List.set_cons_succ])
        refine Goes.take (i := 12) (oi := ?oikc_12) (x := ?vxkc_12) ?hokc_12 (by kernel_rfl) (by kernel_rfl) (by kernel_rfl) (by kernel_rfl) (fun _ _ _ h => h) (Or.inl ⟨?hwkc_12, ?hykc_12⟩) (Below.drew (Below.refl _ _)) ?restkc_12
        case hokc_12 => (simp only [List.getElem?_toArray, List.getElem?_cons_succ, List.getElem?_cons_zero]; rfl)
        case hwkc_12 => rfl
        case hykc_12 => (intro w' hSw; go_simp; (try with_reducible rfl))
        case restkc_12 =>
        (try simp only [Act.put, List.setIfInBounds_toArray, List.set_cons_zero, List.set_cons_succ])
        refine Goes.take (i := 13) (oi := ?oikc_13) (x := ?vxkc_13) ?hokc_13 (by kernel_rfl) (by kernel_rfl) (by kernel_rfl) (by kernel_rfl) (fun _ _ _ h => h) (Or.inl ⟨?hwkc_13, ?hykc_13⟩) (Below.drew (Below.refl _ _)) ?restkc_13
        case hokc_13 => (simp only [List.getElem?_toArray, List.getElem?_cons_succ, List.getElem?_cons_zero]; rfl)
        case hwkc_13 => rfl
        case hykc_13 => (intro w' hSw; go_simp; (try with_reducible rfl))
        case restkc_13 =>
        (try simp only [Act.put, List.setIfInBounds_toArray, List.set_cons_zero, List.set_cons_succ])
        refine Goes.take (i := 14) (oi := ?oikc_14) (x := ?vxkc_14) ?hokc_14 (by kernel_rfl) (by kernel_rfl) (by kernel_rfl) (by kernel_rfl) (fun _ _ _ h => h) (Or.inl ⟨?hwkc_14, ?hykc_14⟩) (Below.drew (Below.refl _ _)) ?restkc_14
        case hokc_14 => (simp only [List.getElem?_toArray, List.getElem?_cons_succ, List.getElem?_cons_zero]; rfl)
        case hwkc_14 => rfl
        case hykc_14 => (intro w' hSw; go_simp; (try with_reducible rfl))
        case restkc_14 =>
        (try simp only [Act.put, List.setIfInBounds_toArray, List.set_cons_zero, List.set_cons_succ])
        refine Goes.take (i := 15) (oi := ?oikc_15) (x := ?vxkc_15) ?hokc_15 (by kernel_rfl) (by kernel_rfl) (by kernel_rfl) (by kernel_rfl) (fun _ _ _ h => h) (Or.inl ⟨?hwkc_15, ?hykc_15⟩) (Below.drew (Below.refl _ _)) ?restkc_15
        case hokc_15 => (simp only [List.getElem?_toArray, List.getElem?_cons_succ, List.getElem?_cons_zero]; rfl)
        case hwkc_15 => rfl
        case hykc_15 => (intro w' hSw; have q0 : ∀ o, w'.cell? ⟨p4, o, none⟩ = (#[.int .i64 6, .int .i64 G.path, .int .i64 G.frm, .bool G.syn, .bool G.ackd, .bool G.rst, .int .i64 G.seq, .int .i64 G.ack, .int .i64 G.fin, .int .i64 G.opt, .int .i64 G.a, .int .i64 G.b, .slice a2 N2 c2] : Array Value)[o]? := fun o => (hSw.cell (p := ⟨p4, o, none⟩) zU).trans (kU o); go_simp; (try with_reducible rfl))
        case restkc_15 =>
        (try simp only [Act.put, List.setIfInBounds_toArray, List.set_cons_zero, List.set_cons_succ])
        refine Goes.take (i := 16) (oi := ?oikc_16) (x := ?vxkc_16) ?hokc_16 (by kernel_rfl) (by kernel_rfl) (by kernel_rfl) (by kernel_rfl) (fun _ _ _ h => h) (Or.inl ⟨?hwkc_16, ?hykc_16⟩) (Below.drew (Below.refl _ _)) ?restkc_16
        case hokc_16 => (simp only [List.getElem?_toArray, List.getElem?_cons_succ, List.getElem?_cons_zero]; rfl)
        case hwkc_16 => rfl
        case hykc_16 => (intro w' hSw; go_simp; (try with_reducible rfl))
        case restkc_16 =>
        (try simp only [Act.put, List.setIfInBounds_toArray, List.set_cons_zero, List.set_cons_succ])
        refine Goes.take (i := 17) (oi := ?oikc_17) (x := ?vxkc_17) ?hokc_17 (by kernel_rfl) (by kernel_rfl) (by kernel_rfl) (by kernel_rfl) (fun _ _ _ h => h) (Or.inl ⟨?hwkc_17, ?hykc_17⟩) (Below.drew (Below.refl _ _)) ?restkc_17
        case hokc_17 => (simp only [List.getElem?_toArray, List.getElem?_cons_succ, List.getElem?_cons_zero]; rfl)
        case hwkc_17 => rfl
        case hykc_17 => (intro w' hSw; go_simp; (try with_reducible rfl))
        case restkc_17 =>
        (try simp only [Act.put, List.setIfInBounds_toArray, List.set_cons_zero, List.set_cons_succ])
        refine Goes.take (i := 18) (oi := ?oikc_18) (x := ?vxkc_18) ?hokc_18 (by kernel_rfl) (by kernel_rfl) (by kernel_rfl) (by kernel_rfl) (fun _ _ _ h => h) (Or.inl ⟨?hwkc_18, ?hykc_18⟩) (Below.drew (Below.refl _ _)) ?restkc_18
        case hokc_18 => (simp only [List.getElem?_toArray, List.getElem?_cons_succ, List.getElem?_cons_zero]; rfl)
        case hwkc_18 => rfl
        case hykc_18 => (intro w' hSw; go_simp; (try with_reducible rfl))
        case restkc_18 =>
        (try simp only [Act.put, List.setIfInBounds_toArray, List.set_cons_zero, List.set_cons_succ])
        refine Goes.take (i := 21) (oi := ?oikc_21) (x := ?vxkc_21) ?hokc_21 (by kernel_rfl) (by kernel_rfl) (by kernel_rfl) (by kernel_rfl) (fun _ _ _ h => h) (Or.inl ⟨?hwkc_21, ?hykc_21⟩) (Below.drew (Below.refl _ _)) ?restkc_21
        case hokc_21 => (simp only [List.getElem?_toArray, List.getElem?_cons_succ, List.getElem?_cons_zero]; rfl)
        case hwkc_21 => rfl
        case hykc_21 => (intro w' hSw; go_simp; (try with_reducible rfl))
        case restkc_21 =>
        (try simp only [Act.put, List.setIfInBounds_toArray, List.set_cons_zero, List.set_cons_succ])
        refine Goes.take (i := 22) (oi := ?oikc_22) (x := ?vxkc_22) ?hokc_22 (by kernel_rfl) (by kernel_rfl) (by kernel_rfl) (by kernel_rfl) (fun _ _ _ h => h) (Or.inl ⟨?hwkc_22, ?hykc_22⟩) (Below.drew (Below.refl _ _)) ?restkc_22
        case hokc_22 => (simp only [List.getElem?_toArray, List.getElem?_cons_succ, List.getElem?_cons_zero]; rfl)
        case hwkc_22 => rfl
        case hykc_22 => (intro w' hSw; have q0 : ∀ o, w'.cell? ⟨p4, o, none⟩ = (#[.int .i64 6, .int .i64 G.path, .int .i64 G.frm, .bool G.syn, .bool G.ackd, .bool G.rst, .int .i64 G.seq, .int .i64 G.ack, .int .i64 G.fin, .int .i64 G.opt, .int .i64 G.a, .int .i64 G.b, .slice a2 N2 c2] : Array Value)[o]? := fun o => (hSw.cell (p := ⟨p4, o, none⟩) zU).trans (kU o); go_simp; (try with_reducible rfl))
        case restkc_22 =>
        (try simp only [Act.put, List.setIfInBounds_toArray, List.set_cons_zero, List.set_cons_succ])
        refine Goes.all (rs := [19]) (by kernel_rfl) (by simp) ?_
        refine Ups.cons (i := 19) (o := ?ookc_19) ?hokc_19 (fun KK hKK => ?stpkc_19) Ups.nil
        case hokc_19 => (simp only [List.getElem?_toArray, List.getElem?_cons_succ, List.getElem?_cons_zero]; rfl)
        case stpkc_19 =>
          go_simp
          go_at_call 27
          refine (CSU.out _ (Below.drew (Below.refl _ _))).mono ?_
          rintro e w6 ⟨v6, rfl, ho6, hb6⟩
          have HB6 : Hid (Below W.heap.size W w6) := bl_drewU hb6
          clear ho6 hb6
          dsimp only
          refine hKK.out _ _ (Or.inr (HB6.out)) ?_
          clear hKK KK
          (try simp only [Act.put, List.setIfInBounds_toArray, List.set_cons_zero, List.set_cons_succ])
          refine Goes.take (i := 20) (oi := ?oikc_20) (x := ?vxkc_20) ?hokc_20 (by kernel_rfl) (by kernel_rfl) (by kernel_rfl) (by kernel_rfl) (fun _ _ _ h => h) (Or.inl ⟨?hwkc_20, ?hykc_20⟩) (HB6.out) ?restkc_20
          case hokc_20 => (simp only [List.getElem?_toArray, List.getElem?_cons_succ, List.getElem?_cons_zero]; rfl)
          case hwkc_20 => rfl
          case hykc_20 => (intro w' hSw; first | (go_simp; with_reducible rfl) | (simp [Instr.field, asAgg, part, go_sem]; rfl) | (simp [execOp, Instr.field, asAgg, part, go_sem]; rfl))
          case restkc_20 =>
          (try simp only [Act.put, List.setIfInBounds_toArray, List.set_cons_zero, List.set_cons_succ])
          refine Goes.take (i := 23) (oi := ?oikc_23) (x := ?vxkc_23) ?hokc_23 (by kernel_rfl) (by kernel_rfl) (by kernel_rfl) (by kernel_rfl) (fun _ _ _ h => h) (Or.inl ⟨?hwkc_23, ?hykc_23⟩) (HB6.out) ?restkc_23
          case hokc_23 => (simp only [List.getElem?_toArray, List.getElem?_cons_succ, List.getElem?_cons_zero]; rfl)
          case hwkc_23 => rfl
          case hykc_23 => (intro w' hSw; go_simp; (try with_reducible rfl))
          case restkc_23 =>
          (try simp only [Act.put, List.setIfInBounds_toArray, List.set_cons_zero, List.set_cons_succ])
          refine Goes.take (i := 24) (oi := ?oikc_24) (x := ?vxkc_24) ?hokc_24 (by kernel_rfl) (by kernel_rfl) (by kernel_rfl) (by kernel_rfl) (fun _ _ _ h => h) (Or.inl ⟨?hwkc_24, ?hykc_24⟩) (HB6.out) ?restkc_24
          case hokc_24 => (simp only [List.getElem?_toArray, List.getElem?_cons_succ, List.getElem?_cons_zero]; rfl)
          case hwkc_24 => rfl
          case hykc_24 => (intro w' hSw; go_simp; (try with_reducible rfl))
          case restkc_24 =>
          (try simp only [Act.put, List.setIfInBounds_toArray, List.set_cons_zero, List.set_cons_succ])
          refine Goes.take (i := 25) (oi := ?oikc_25) (x := ?vxkc_25) ?hokc_25 (by kernel_rfl) (by kernel_rfl) (by kernel_rfl) (by kernel_rfl) (fun _ _ _ h => h) (Or.inl ⟨?hwkc_25, ?hykc_25⟩) (HB6.out) ?restkc_25
          case hokc_25 => (simp only [List.getElem?_toArray, List.getElem?_cons_succ, List.getElem?_cons_zero]; rfl)
          case hwkc_25 => rfl
          case hykc_25 => (intro w' hSw; go_simp; (try with_reducible rfl))
          case restkc_25 =>
          (try simp only [Act.put, List.setIfInBounds_toArray, List.set_cons_zero, List.set_cons_succ])
          refine Goes.done (by kernel_rfl) ?_ _
          refine NoPanic.normal ?_
          go_wp2_with fail
          go_meet
          exact ⟨rfl, HB6.out⟩
    case rest =>
    rename World => w3
    obtain ⟨rfl, hb3⟩ := hcut
    have B3 : Hid (Below w.heap.size w w3) := BW.out.trans (hb3.mono BW.out.size)
    clear hb3 kU zU CPK CSU HCL BW HUP
    go_wp2_with fail
    refine (dBent a0 len0 cap0 z0 w3 (HR.out _ B3.out) (HLT.out.mono B3.out.size)).mono ?_
    rintro e w4 ⟨s, a4, c4, rfl, hr4, hn4, hl9, b4⟩
    have R4 : Hid (∀ V, Below w4.heap.size w4 V → RB V a4 s.load) := fun V h => hr4.below (Nat.le_refl _) h
    have NI : Hid (a4 = none → c4 = 0) := hn4
    have B4 : Hid (Below w.heap.size w w4) := B3.out.trans (b4.mono B3.out.size)
    obtain ⟨N, hN⟩ : ∃ N, s.load.length = N := ⟨_, rfl⟩
    have HN : Hid (s.load.length = N) := hN
    have H9 : Hid (N ≤ 9) := by show _ ≤ _; omega
    rw [hN]
    clear hr4 hn4 hl9 b4 hN B3
    go_wp2_with fail
    refine (iPackSegment s a4 N c4 _ HN.out (R4.out _ (by go_grown)) NI.out).mono ?_
    rintro e w5 ⟨v5, rfl, ho5, hb5⟩
    have k5 : ∀ o, w5.cell? ⟨w4.heap.size, o, none⟩ = (#[.int .i64 s.path, .int .i64 s.frm, .bool s.syn, .bool s.ackd, .bool s.rst, .int .i64 s.seq, .int .i64 s.ack, .int .i64 s.fin, .int .i64 s.opt, .int .i64 s.a, .int .i64 s.b, .slice a4 N c4] : Array Value)[o]? := bx_new hb5
    obtain ⟨hb45, z45⟩ := bl_new hb5
    have B45 : Hid (Below w4.heap.size w4 w5) := hb45
    have B5 : Hid (Below w.heap.size w w5) := B4.out.trans (hb45.mono B4.out.size)
    have hFC := seg_cases s N
    clear hb5 hb45
    rcases hFC with hF | hF | hF | hF
    · have OF : Hid (segFault s N = 0) := hF
      rw [hF]
      clear hF
      have e5 : packR s = packB s := by unfold packR; rw [HN.out, if_pos OF.out]
      rw [e5] at ho5
      clear e5
      obtain ⟨g5, c5, rfl, hg1, hg2, hc1, hc2, ro5⟩ := ho5.ro (by rw [packB_length]; omega)
      have hlp : (packB s).length = 18 + N := by rw [packB_length, HN.out]
      have HLP : Hid _ := hlp
      rw [hlp] at hc1 ⊢
      have CU : Hid (∀ V, Below w5.heap.size w5 V → Calls Try.prog 25 #[.slice (some ⟨g5, 0, none⟩) (18 + N) c5] V fun e w' => ∃ v, e = .returned (.agg #[.int .i64 0, .int .i64 s.path, .int .i64 s.frm, .bool s.syn, .bool s.ackd, .bool s.rst, .int .i64 s.seq, .int .i64 s.ack, .int .i64 s.fin, .int .i64 s.opt, .int .i64 s.a, .int .i64 s.b, v]) ∧ OB w' V.heap.size v s.load ∧ Below V.heap.size V w') := fun V h => by
        have := iUnpack (packB s) (some ⟨g5, 0, none⟩) (18 + N) c5 V HLP.out (ro5.rb.below (Nat.le_refl _) h) hc1 hc2 (by have := H9.out; omega)
        have u := up_pack (s := s) (by rw [HN.out]; exact OF.out)
        rw [u.1, u.2] at this
        exact this
      clear ho5 hlp ro5 hg1 hg2 hc1 hc2
      go_wp2_with fail
      refine (CU.out _ (by go_grown)).mono ?_
      rintro e w6 ⟨v6, rfl, ho6, hb6⟩
      obtain ⟨a6, c6, rfl, hr6, hn6⟩ := ho6.rbn
      rw [HN.out]
      have j6 : ∀ o, w6.cell? ⟨w5.heap.size, o, none⟩ = (#[.int .i64 0, .slice (some ⟨g5, 0, none⟩) (18 + N) c5] : Array Value)[o]? := bx_new hb6
      obtain ⟨hb56, z56⟩ := bl_new hb6
      have k6 : ∀ o, w6.cell? ⟨w4.heap.size, o, none⟩ = (#[.int .i64 s.path, .int .i64 s.frm, .bool s.syn, .bool s.ackd, .bool s.rst, .int .i64 s.seq, .int .i64 s.ack, .int .i64 s.fin, .int .i64 s.opt, .int .i64 s.a, .int .i64 s.b, .slice a4 N c4] : Array Value)[o]? := bx_below k5 z45 hb56
      have B46 : Hid (Below w4.heap.size w4 w6) := B45.out.trans (hb56.mono (by omega))
      have B6 : Hid (Below w.heap.size w w6) := B5.out.trans (hb56.mono B5.out.size)
      have z46 : w4.heap.size < w6.heap.size := by omega
      have R6 : Hid (∀ V, Below w6.heap.size w6 V → RB V a6 s.load) := fun V h => hr6.below (Nat.le_refl _) h
      clear k5 hb6 hb56 ho6 hr6 hn6 CU
      go_wp2_with fail
      refine (iStrip s a4 N c4 _ HN.out (R4.out _ (B46.out.trans (by go_grown))) NI.out (by have := H9.out; omega)).mono ?_
      rintro e w7 ⟨v7, rfl, ho7, hb7⟩
      obtain ⟨a7, c7, rfl, hr7, hn7⟩ := ho7.rbn
      rw [HN.out]
      have HTO : Hid (s.strip.opt = 0) := rfl
      have HTF : Hid (segFault s.strip N = 0) := strip_ok OF.out
      generalize s.strip = t at *
      have l7 : ∀ o, w7.cell? ⟨w6.heap.size, o, none⟩ = (#[.int .i64 0, .int .i64 s.path, .int .i64 s.frm, .bool s.syn, .bool s.ackd, .bool s.rst, .int .i64 s.seq, .int .i64 s.ack, .int .i64 s.fin, .int .i64 s.opt, .int .i64 s.a, .int .i64 s.b, .slice a6 N c6] : Array Value)[o]? := bx_new hb7
      obtain ⟨hb67, z67⟩ := bl_new hb7
      have k7 := bx_below k6 z46 hb67
      have j7 := bx_below j6 z56 hb67
      have B47 : Hid (Below w4.heap.size w4 w7) := B46.out.trans (hb67.mono (by omega))
      have B7 : Hid (Below w.heap.size w w7) := B6.out.trans (hb67.mono B6.out.size)
      have B67 : Hid (Below w6.heap.size w6 w7) := hb67
      have R7 : Hid (∀ V, Below w7.heap.size w7 V → RB V a7 s.load) := fun V h => hr7.below (Nat.le_refl _) h
      clear k6 j6 hb7 hb67 ho7 hr7 hn7
      have CSM : Hid (∀ V, Below w7.heap.size w7 V → Calls Try.prog 31 #[.agg #[.int .i64 s.path, .int .i64 s.frm, .bool s.syn, .bool s.ackd, .bool s.rst, .int .i64 s.seq, .int .i64 s.ack, .int .i64 s.fin, .int .i64 s.opt, .int .i64 s.a, .int .i64 s.b, .slice a6 N c6], .agg #[.int .i64 s.path, .int .i64 s.frm, .bool s.syn, .bool s.ackd, .bool s.rst, .int .i64 s.seq, .int .i64 s.ack, .int .i64 s.fin, .int .i64 s.opt, .int .i64 s.a, .int .i64 s.b, .slice a4 N c4]] V fun e w' => e = .returned (.bool true) ∧ Below V.heap.size V w') := fun V h => by
        have := iSame s s a6 a4 N N c6 c4 V HN.out HN.out (R6.out V (B67.out.trans (h.mono B67.out.size))) (R4.out V (B47.out.trans (h.mono B47.out.size)))
        rw [same_self, eqS_self] at this
        exact this
      have CSF : Hid (∀ V, Calls Try.prog 32 #[.agg #[.int .i64 t.path, .int .i64 t.frm, .bool t.syn, .bool t.ackd, .bool t.rst, .int .i64 t.seq, .int .i64 t.ack, .int .i64 t.fin, .int .i64 t.opt, .int .i64 t.a, .int .i64 t.b, .slice a7 N c7]] V fun e w' => e = .returned (.int .i64 0) ∧ Below V.heap.size V w') := fun V => by
        have := iSegmentFault t a7 N c7 V
        rw [HTF.out] at this
        exact this
      have HC7 : Hid (∀ V, Below w7.heap.size w7 V → (convert 22 9 (.slice a7 N c7)).run Try.prog V = .ok (.string (strOfNums s.load)) V) := fun V h => cv_str _ _ _ s.load V HN.out (R7.out V h)
      have HC4 : Hid (∀ V, Below w7.heap.size w7 V → (convert 22 9 (.slice a4 N c4)).run Try.prog V = .ok (.string (strOfNums s.load)) V) := fun V h => cv_str _ _ _ s.load V HN.out (R4.out V (B47.out.trans (h.mono B47.out.size)))
      clear R4 R6 R7 B45 B46 B47 B67 B4 B5 B6
      generalize strOfNums s.load = SL at *
      go_upto_region 13 with fail
      obtain ⟨W7, hW7⟩ : ∃ W7, w7.alloc (.cells #[.int .i64 t.path, .int .i64 t.frm, .bool t.syn, .bool t.ackd, .bool t.rst, .int .i64 t.seq, .int .i64 t.ack, .int .i64 t.fin, .int .i64 t.opt, .int .i64 t.a, .int .i64 t.b, .slice a7 N c7] 40) = W7 := ⟨_, rfl⟩
      have b7 : Below w7.heap.size w7 W7 := by rw [← hW7]; exact (Below.refl _ _).alloc (Nat.le_refl _) _
      have m7 : ∀ o, W7.cell? ⟨w7.heap.size, o, none⟩ = (#[.int .i64 t.path, .int .i64 t.frm, .bool t.syn, .bool t.ackd, .bool t.rst, .int .i64 t.seq, .int .i64 t.ack, .int .i64 t.fin, .int .i64 t.opt, .int .i64 t.a, .int .i64 t.b, .slice a7 N c7] : Array Value)[o]? := by rw [← hW7]; intro o; simp [go_sem]
      have zm : w7.heap.size < W7.heap.size := by rw [← hW7]; simp
      simp only [hW7]
      clear hW7
      replace k7 := bx_below k7 (by omega) b7
      replace j7 := bx_below j7 (by omega) b7
      replace l7 := bx_below l7 (by omega) b7
      have B77 : Hid (Below w7.heap.size w7 W7) := b7
      clear b7
      go_wp2_with fail
      refine (CSM.out _ B77.out).mono ?_
      rintro e w8 ⟨rfl, hb8⟩
      have B78 : Hid (Below w7.heap.size w7 w8) := B77.out.trans (hb8.mono (by omega))
      have m8 := bx_below m7 zm hb8
      have k8 := bx_below k7 (by omega) hb8
      have j8 := bx_below j7 (by omega) hb8
      have l8 := bx_below l7 (by omega) hb8
      have z8 : W7.heap.size ≤ w8.heap.size := hb8.size
      clear k7 j7 l7 m7 hb8 CSM
      go_wp2_with fail
      refine (CSF.out _).mono ?_
      rintro e w9 ⟨rfl, hb9⟩
      have k9 := bx_below k8 (by omega) hb9
      have j9 := bx_below j8 (by omega) hb9
      have l9 := bx_below l8 (by omega) hb9
      have m9 := bx_below m8 (by omega) hb9
      have B79 : Hid (Below w7.heap.size w7 w9) := B78.out.trans (hb9.mono B78.out.size)
      have x7 := HC7.out w9 B79.out
      have x4 := HC4.out w9 B79.out
      clear k8 j8 l8 m8 hb9 CSF HC7 HC4
      have hto := HTO.out
      have i18 : ((18 + N : Nat) : Int) = 18 + (N : Int) := by omega
      have iw : IntKind.i64.wrap (18 + (N : Int)) = 18 + (N : Int) := by rw [IntKind.wrap_i64]; have := H9.out; omega
      go_wp2_with fail
      go_ret
      exact ⟨rfl, B7.out.trans (B79.out.mono B7.out.size)⟩
    · have OF : Hid (segFault s N = 1) := hF
      rw [hF]
      clear hF
      obtain ⟨a5, c5, rfl, -, -⟩ := ho5.rbn
      generalize (packR s).length = N5 at *
      have CF : Hid (∀ V, Calls Try.prog 29 #[.agg #[.int .i64 s.path, .int .i64 s.frm, .bool s.syn, .bool s.ackd, .bool s.rst, .int .i64 s.seq, .int .i64 s.ack, .int .i64 s.fin, .int .i64 s.opt, .int .i64 s.a, .int .i64 s.b, .slice a4 N c4]] V fun e w' => e = .returned (.int .i64 1) ∧ Below V.heap.size V w') := fun V => by
        have := sSegmentFault s a4 N c4 V
        rw [OF.out] at this
        exact this
      go_upto_region 10 with fail
      obtain ⟨W5, hW5⟩ : ∃ W5, w5.alloc (.cells #[.int .i64 1, .slice a5 N5 c5] 45) = W5 := ⟨_, rfl⟩
      have b5 : Below w5.heap.size w5 W5 := by rw [← hW5]; exact (Below.refl _ _).alloc (Nat.le_refl _) _
      have j6 : ∀ o, W5.cell? ⟨w5.heap.size, o, none⟩ = (#[.int .i64 1, .slice a5 N5 c5] : Array Value)[o]? := by rw [← hW5]; intro o; simp [go_sem]
      have zj : w5.heap.size < W5.heap.size := by rw [← hW5]; simp
      simp only [hW5]
      clear hW5
      have k6 := bx_below k5 z45 b5
      have B6 : Hid (Below w.heap.size w W5) := B5.out.trans (b5.mono B5.out.size)
      have zk : w4.heap.size < W5.heap.size := by omega
      clear b5 k5 ho5
      go_region_with (go_at_call 29; refine (CF.out _).mono ?_; rintro e w6 ⟨rfl, hb6⟩; replace hb6 := bl_drewU hb6; have HB6 : Hid (Below W5.heap.size W5 w6) := hb6; have k7 := bx_below k6 zk hb6; have j7 := bx_below j6 zj hb6; clear hb6)
      all_goals (go_wp2_with fail; go_ret; exact ⟨rfl, B6.out.trans (HB6.out.mono B6.out.size)⟩)
    · have OF : Hid (segFault s N = 2) := hF
      rw [hF]
      clear hF
      obtain ⟨a5, c5, rfl, -, -⟩ := ho5.rbn
      generalize (packR s).length = N5 at *
      have CF : Hid (∀ V, Calls Try.prog 29 #[.agg #[.int .i64 s.path, .int .i64 s.frm, .bool s.syn, .bool s.ackd, .bool s.rst, .int .i64 s.seq, .int .i64 s.ack, .int .i64 s.fin, .int .i64 s.opt, .int .i64 s.a, .int .i64 s.b, .slice a4 N c4]] V fun e w' => e = .returned (.int .i64 2) ∧ Below V.heap.size V w') := fun V => by
        have := sSegmentFault s a4 N c4 V
        rw [OF.out] at this
        exact this
      go_upto_region 10 with fail
      obtain ⟨W5, hW5⟩ : ∃ W5, w5.alloc (.cells #[.int .i64 2, .slice a5 N5 c5] 45) = W5 := ⟨_, rfl⟩
      have b5 : Below w5.heap.size w5 W5 := by rw [← hW5]; exact (Below.refl _ _).alloc (Nat.le_refl _) _
      have j6 : ∀ o, W5.cell? ⟨w5.heap.size, o, none⟩ = (#[.int .i64 2, .slice a5 N5 c5] : Array Value)[o]? := by rw [← hW5]; intro o; simp [go_sem]
      have zj : w5.heap.size < W5.heap.size := by rw [← hW5]; simp
      simp only [hW5]
      clear hW5
      have k6 := bx_below k5 z45 b5
      have B6 : Hid (Below w.heap.size w W5) := B5.out.trans (b5.mono B5.out.size)
      have zk : w4.heap.size < W5.heap.size := by omega
      clear b5 k5 ho5
      go_region_with (go_at_call 29; refine (CF.out _).mono ?_; rintro e w6 ⟨rfl, hb6⟩; replace hb6 := bl_drewU hb6; have HB6 : Hid (Below W5.heap.size W5 w6) := hb6; have k7 := bx_below k6 zk hb6; have j7 := bx_below j6 zj hb6; clear hb6)
      all_goals (go_wp2_with fail; go_ret; exact ⟨rfl, B6.out.trans (HB6.out.mono B6.out.size)⟩)
    · have OF : Hid (segFault s N = 3) := hF
      rw [hF]
      clear hF
      obtain ⟨a5, c5, rfl, -, -⟩ := ho5.rbn
      generalize (packR s).length = N5 at *
      have CF : Hid (∀ V, Calls Try.prog 29 #[.agg #[.int .i64 s.path, .int .i64 s.frm, .bool s.syn, .bool s.ackd, .bool s.rst, .int .i64 s.seq, .int .i64 s.ack, .int .i64 s.fin, .int .i64 s.opt, .int .i64 s.a, .int .i64 s.b, .slice a4 N c4]] V fun e w' => e = .returned (.int .i64 3) ∧ Below V.heap.size V w') := fun V => by
        have := sSegmentFault s a4 N c4 V
        rw [OF.out] at this
        exact this
      go_upto_region 10 with fail
      obtain ⟨W5, hW5⟩ : ∃ W5, w5.alloc (.cells #[.int .i64 3, .slice a5 N5 c5] 45) = W5 := ⟨_, rfl⟩
      have b5 : Below w5.heap.size w5 W5 := by rw [← hW5]; exact (Below.refl _ _).alloc (Nat.le_refl _) _
      have j6 : ∀ o, W5.cell? ⟨w5.heap.size, o, none⟩ = (#[.int .i64 3, .slice a5 N5 c5] : Array Value)[o]? := by rw [← hW5]; intro o; simp [go_sem]
      have zj : w5.heap.size < W5.heap.size := by rw [← hW5]; simp
      simp only [hW5]
      clear hW5
      have k6 := bx_below k5 z45 b5
      have B6 : Hid (Below w.heap.size w W5) := B5.out.trans (b5.mono B5.out.size)
      have zk : w4.heap.size < W5.heap.size := by omega
      clear b5 k5 ho5
      go_region_with (go_at_call 29; refine (CF.out _).mono ?_; rintro e w6 ⟨rfl, hb6⟩; replace hb6 := bl_drewU hb6; have HB6 : Hid (Below W5.heap.size W5 w6) := hb6; have k7 := bx_below k6 zk hb6; have j7 := bx_below j6 zj hb6; clear hb6)
      all_goals (go_wp2_with fail; go_ret; exact ⟨rfl, B6.out.trans (HB6.out.mono B6.out.size)⟩)

set_option maxRecDepth 100000 in
theorem lifted (os : Os) (started : os.Started) (H : Type) (enc : TypeId × Value → H) :
    ReturnsInHanded {} Try.checked os 5 .any (Rows.fnSegmentsSpec.pre6 enc Try.prog Try.f5 Rows.fnSegmentsRow.domain false) (Rows.fnSegmentsSpec.post enc Try.prog Try.f5 false true false false) := by
  refine returnsInHanded_of_change (C := Try.checked) own started (by kernel_rfl) Try.func5
    (ChangeSpec.witness6 (enc := enc) (C := Try.checked) false ⟨#[], #[.slice none 0 0], []⟩ 8 (by kernel_rfl) (by kernel_rfl) (by kernel_rfl) (by kernel_rfl)) ?_
  intro W base args ds gs before hval0 hW hcnd _
  have hval : ∀ (j : Nat) t v, Try.f5.params[j]? = some t → args[j]? = some v → Value.okWide Try.prog W .any base t v := hval0
  have hW' := hW
  obtain ⟨p, q, hA0, hV, rfl, hfz, hnd⟩ := hW
  have hA : DataW.TrodAll enc Try.prog W 0 (fun _ => true) true Try.f5.params.toList args.toList ds p := hA0
  rw [Try.params5] at hA hval
  obtain ⟨v0, vs0, d0, ds0, p0, q0, hargs, rfl, rfl, h0, r0⟩ := trodAll_cons hA
  obtain ⟨rfl, rfl, rfl⟩ := trodAll_nil r0
  obtain rfl : args = #[v0] := by cases args; simp_all
  obtain ⟨rfl, rfl⟩ := trodVars_none hV
  obtain ⟨a0, len0, cap0, rfl⟩ := okWide_slice Try.underlying22 (hval 0 22 v0 rfl rfl)
  have k0 := h0
  have lt0 : ∀ x ∈ p0, x.block < W.heap.size := by obtain ⟨m, hm⟩ := k0; exact DataW.trod_lt m _ _ _ hm
  obtain ⟨z0, w0⟩ : ∃ zs, IsRow .u8 W a0 len0 cap0 zs := by
    obtain ⟨fuel, hf⟩ := h0
    rcases open_ints Try.underlying22 Try.underlying5 (by kernel_rfl) hf with ⟨hcs, _⟩ | ⟨x, l, c, zs, hcs, _, hl, hm, hz, _, hcell, hwz⟩
    · simp [Value.cells] at hcs
      obtain ⟨rfl, rfl, rfl⟩ := hcs
      exact ⟨[], .inl ⟨rfl, rfl, rfl, rfl⟩⟩
    · simp [Value.cells] at hcs
      obtain ⟨rfl, rfl, rfl⟩ := hcs
      exact ⟨zs, .inr ⟨_, rfl, hl, hm, by simpa using hz, hcell, hwz⟩⟩
  clear hA0 hval0
  refine (walk a0 len0 cap0 z0 W w0).mono fun e W' ⟨he, bel⟩ => ?_
  subst he
  exact ⟨_, rfl, _, _, _, [], _, [], hW', trodAll_mk1 (shut_bool Try.underlying4 _), (trodAll_cons_mk (Below.trod laidOut (by kernel_rfl) (of_decide_eq_true (by kernel_rfl)) k0 bel lt0) trodAll_mk0), rfl, bel.frame _, fun h => by cases h⟩

theorem over : Rows.fnSegmentsRow.holds Try.pinned (OpenSpec.ofChange Rows.fnSegmentsSpec) :=
  OpenClaim.holds_of_wide 5 Try.f5 rfl rfl rfl rfl rfl rfl rfl ⟨rfl, rfl, rfl, rfl, rfl⟩ rfl rfl rfl rfl rfl (by kernel_rfl) Try.func5 (by kernel_rfl)
    (of_decide_eq_true (by kernel_rfl)) (by unfold Func.isWrapper; first | (rw [if_pos (by decide +kernel)]; kernel_rfl) | (rw [if_neg (by decide +kernel)]; exact ⟨rfl, rfl⟩))
    (fun os started H enc _ => lifted os started H enc)

theorem proved : Rows.FnSegmentsSaid := over
#print axioms proved
end Go.Proofs.Ytmiomnpfjigojaa.fnSegments

namespace Go.Proofs.Ytmiomnpfjigojaa
theorem fnSegments_holds : Rows.FnSegmentsSaid := fnSegments.proved
end Go.Proofs.Ytmiomnpfjigojaa
