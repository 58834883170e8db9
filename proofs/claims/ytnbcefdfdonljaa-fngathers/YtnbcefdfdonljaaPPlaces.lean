/- The program's placesOf: its map holds at each place the byte that the gather has there; nothing that was in memory turns; the gather has no fault. -/
import Derived.Test.YtnbcefdfdonljaaRows
import Derived.Test.YtnbcefdfdonljaaBase
import Derived.Test.YtnbcefdfdonljaaBytes
import Derived.Test.YtnbcefdfdonljaaAppBytes
import Derived.Test.YtnbcefdfdonljaaMem
import Derived.Test.YtnbcefdfdonljaaGath
import Derived.Test.YtnbcefdfdonljaaImplGath
import Derived.Test.YtnbcefdfdonljaaSpecGath
import Derived.Test.YtnbcefdfdonljaaGathByte
import Derived.Test.YtnbcefdfdonljaaPMap
import Derived.Test.YtnbcefdfdonljaaPRun
namespace Go.Proofs.Ytnbcefdfdonljaa
open Go.RowKit Go.Maps
set_option linter.unusedVariables false

theorem mk_hint (n : Int) (w : World) : (Instr.makeMap 82 (some (.int .i64 n))).run Try.prog w = .ok (.map (some w.heap.size)) (w.alloc (.map #[] 0)) := by
  simp [Instr.makeMap, go_sem, run_underlying Try.underlying82]

theorem pcsByte_snoc : ∀ (ps : List Pc) (p : Pc) (y : Int), pcsByte (ps ++ [p]) y = match pcsByte ps y with
    | some c => some c
    | none => if p.1 ≤ y ∧ y ≤ p.1 + p.2.1.length - 1 then some (p.2.1.getD (y - p.1).toNat 0) else none
  | [], p, y => rfl
  | q :: ps, p, y => by
    show (if q.1 ≤ y ∧ y ≤ q.1 + q.2.1.length - 1 then some _ else pcsByte (ps ++ [p]) y) = match (if q.1 ≤ y ∧ y ≤ q.1 + q.2.1.length - 1 then some _ else pcsByte ps y) with | some c => some c | none => _
    by_cases h : q.1 ≤ y ∧ y ≤ q.1 + q.2.1.length - 1
    · rw [if_pos h, if_pos h]
    · rw [if_neg h, if_neg h]; exact pcsByte_snoc ps p y

/-- What the gather's first k pieces have. -/
def gtTo (done : List Int) (ps : List Pc) (k : Nat) : Int → Option Int := fun y => gtByte (done, ps.take k, ()) y
theorem gtTo_zero (done : List Int) (ps : List Pc) (y : Int) : putM (fun _ => none) 0 done y = gtTo done ps 0 y := by
  unfold putM gtTo gtByte
  simp [pcsByte]
theorem gtTo_step {done : List Int} {ps : List Pc} {k : Nat} (hk : k < ps.length) (y : Int) : putM (gtTo done ps k) ps[k].1 ps[k].2.1 y = gtTo done ps (k + 1) y := by
  unfold putM gtTo gtByte
  by_cases h : 0 ≤ y ∧ y ≤ (done.length : Int) - 1
  · simp only [if_pos h]
  · simp only [if_neg h]
    rw [List.take_succ_eq_append_getElem hk, pcsByte_snoc]
    cases pcsByte (ps.take k) y <;> rfl

set_option maxHeartbeats 2000000 in
theorem iPlacesOf (g : Gt) (v1 v2 : Value) (w : World) (B : Nat) (hr : gtS.Rd w B g [v1, v2]) (hB : B ≤ w.heap.size) (hF : gtFault g = 0) :
    Calls Try.prog 42 #[.agg #[v1, v2]] w fun e w' => ∃ b N, e = .returned (.map (some b)) ∧ w.heap.size ≤ b ∧ N ≤ 100000 ∧ MapIs w' b N (gtByte g) ∧ Below w.heap.size w w' := by
  obtain ⟨a1, c1, a2, c2, e0, r1, r2⟩ := rd_gt hr
  simp only [List.cons.injEq, and_true] at e0
  obtain ⟨rfl, rfl⟩ := e0
  obtain ⟨o1, o2, hok⟩ := gtFault_ok hF
  have HR : Hid (∀ W, Below w.heap.size w W → pcsS.Rd W B g.2.1 [.slice a2 g.2.1.length c2]) := fun W hW => r2.below hB hW
  have HL : Hid (∀ W, Below w.heap.size w W → RB W a1 g.1) := fun W hW => by
    obtain ⟨_, _, e1, q1, -, -⟩ := rd_bytes (r1.below hB hW)
    simp only [List.cons.injEq, Value.slice.injEq, and_true, true_and] at e1
    obtain ⟨rfl, rfl⟩ := e1
    exact q1
  have HOk : Hid _ := hok
  obtain ⟨done, ps, _⟩ := g
  simp only at *
  clear hr r1 r2 hok
  have hmk := mk_hint
  go_enter Try.func42, Try.ntmps42
  go_wp2_with fail
  refine (iPutMissing (w.heap.size + 1) 0 (fun _ => none) 0 a1 c1 done _ ?_ (HL.out _ (by go_grown)) (by omega) (by omega) (by omega)).mono ?_
  · have := MapIs.made (w.alloc (.cells #[.slice a1 done.length c1, .slice a2 ps.length c2] 26))
    simpa using this
  rintro e w1 ⟨rfl, hm1, hg1⟩
  have hz := hg1.size
  simp at hz
  have HB1 : Hid (Below w.heap.size w w1) := Below.grown (by go_grown) hg1 (by simp; omega) (by intro k hk; simp at hk; omega)
  have k0 : ∀ o, w1.cell? ⟨w.heap.size, o, none⟩ = (#[.slice a1 done.length c1, .slice a2 ps.length c2] : Array Value)[o]? := fun o => by
    rw [World.cell?_of_block (w := _) (a := ⟨w.heap.size, o, none⟩) (hg1.block w.heap.size (by simp; omega) (by simp))]; simp [go_sem]
  have HM1 : Hid (MapIs w1 (w.heap.size + 1) (0 + done.length) (gtTo done ps 0)) := hm1.congr (gtTo_zero done ps)
  have z1 : w.heap.size + 1 < w1.heap.size := by omega
  clear hm1 hg1 hz hmk
  go_wp2_with fail
  go_loopw [17] (fun i wr => ∃ (k N : Nat), k ≤ ps.length ∧ i = .int .i64 k ∧ N ≤ 400 + 400 * k ∧ MapIs wr (w.heap.size + 1) N (gtTo done ps k) ∧ Below w.heap.size w wr) (fun i _ => ps.length - (intOf i).toNat)
  case atStart => exact ⟨0, 0 + done.length, Nat.zero_le _, rfl, by omega, HM1.out, HB1.out⟩
  case round =>
    obtain ⟨k, N, hk, rfl, hN, hmk, hbl⟩ := hrel
    have HMk : Hid _ := hmk
    have HBl : Hid _ := hbl
    clear hmk k0 HM1
    by_cases hlt : k < ps.length
    · obtain ⟨_, _, e1, -, -, hp⟩ := rd_pcs (HR.out wr hbl)
      obtain ⟨b, off, ad, c, ha, hb, y0, y1, r3, hw⟩ := hp k hlt
      simp only [List.cons.injEq, Value.slice.injEq, and_true, true_and] at e1
      rw [← e1.1] at ha
      subst ha
      obtain ⟨_, _, e3, r4, -, -⟩ := rd_bytes r3
      simp only [List.cons.injEq, Value.slice.injEq, and_true, true_and] at e3
      obtain ⟨rfl, rfl⟩ := e3
      obtain ⟨ok1, ok2, ok3⟩ := HOk.out k hlt
      have HSt : Hid (∀ y, putM (gtTo done ps k) ps[k].1 ps[k].2.1 y = gtTo done ps (k + 1) y) := gtTo_step hlt
      have HRB : Hid _ := r4
      clear hp r3 e1 r4 hbl hw
      generalize ps[k].2.1 = d at *
      generalize ps[k].1 = at' at *
      go_wp2_with fail
      refine (iPutMissing (w.heap.size + 1) N (gtTo done ps k) at' ad c d _ (HMk.out.kept (World.grownBy_alloc wr _ none) (by simp)) (HRB.out.below (Nat.le_refl _) ((Below.refl _ _).alloc (Nat.le_refl _) _)) ok1 (by omega) (by omega)).mono ?_
      rintro e w2 ⟨rfl, hm2, hg2⟩
      have HM2 : Hid (MapIs w2 (w.heap.size + 1) (N + d.length) (gtTo done ps (k + 1))) := hm2.congr HSt.out
      have HB2 : Hid (Below w.heap.size w w2) := (HBl.out.alloc HBl.out.size _).grown hg2 (by simp; have := HBl.out.size; omega) (by intro k hk; simp at hk; omega)
      clear hm2 hg2
      go_wp2_with fail
      go_roundw
      case rel => exact ⟨k + 1, N + d.length, by omega, by go_num, by omega, HM2.out, HB2.out⟩
      case measure => simp [intOf]; omega
    · obtain rfl : k = ps.length := by omega
      clear hbl
      go_wp2_with fail
      go_ret
      refine ⟨w.heap.size + 1, N, rfl, by omega, by omega, HMk.out.congr fun y => ?_, HBl.out⟩
      unfold gtTo
      rw [List.take_length]
end Go.Proofs.Ytnbcefdfdonljaa
