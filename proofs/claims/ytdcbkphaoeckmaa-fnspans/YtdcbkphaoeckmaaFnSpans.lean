/- Proved: whatever bytes come in, the law on spans and the furthest of near numbers answers true, and the bytes are as they were; no condition. -/
import Derived.Test.YtdcbkphaoeckmaaRows
import Derived.WalkKit
import Derived.ProofKit
import Derived.OpenShut
import Derived.ShutString
import Derived.ChangeOld
import Derived.Below
import Derived.Test.YtdcbkphaoeckmaaBase
import Derived.Test.YtdcbkphaoeckmaaNum
import Derived.Test.YtdcbkphaoeckmaaNumWalks
import Derived.Test.YtdcbkphaoeckmaaDraws
import Derived.Test.YtdcbkphaoeckmaaDrawsNum
import Derived.Test.YtdcbkphaoeckmaaMore
import Derived.Test.YtdcbkphaoeckmaaOwn
namespace Go.Proofs.Ytdcbkphaoeckmaa.fnSpans
open Go.ChangeShapes Go.WideShapes Go.ChangeAt Go.RowKit
open Go.ChangeMaps (open_string shut_string)
set_option linter.unusedVariables false

theorem own : ownKnob Try.prog.godebug = none := by kernel_rfl
theorem laidOut : laidOutB Try.prog = true := by kernel_rfl

/-- WHAT THE WALK IS TOLD OF A SLICE OF INTEGERS THAT CAME IN: it is nil; or it leads to a row of 'cap' cells, the numbers 'zs' (the first 'len' are its elements, the rest its spare room), each fitting its kind. -/
def IsRow (k : IntKind) (w : World) (a : Option Addr) (len cap : Nat) (zs : List Int) : Prop :=
  (a = none ∧ len = 0 ∧ cap = 0 ∧ zs = []) ∨
  ∃ x, a = some x ∧ len ≤ cap ∧ cap ≤ maxLen ∧ zs.length = cap ∧ (∀ i, i < zs.length → w.cell? (x.add i) = some (.int k (zs.getD i 0))) ∧ ∀ n ∈ zs, (Lit.int k n).wf = true

theorem stp_77 (a c : Int) : stp (wrp (c + 77)) (wrp (a + 77)) = stp c a := by unfold stp wrp; omega
theorem stp_self (c : Int) : stp c c = 0 := by unfold stp; omega

/-- What the list owns when five numbers were appended, place by place. -/
theorem own_cells {w : World} {base : Nat} {v : Value} {ds : List Int} {c : Int} (h : w.ownsRow base 2 1 v 5 (ds.map fun d => .int .i64 (wrp (c + d)))) (hl : ds.length = 5) :
    ∃ g cap, v = .slice (some ⟨g, 0, none⟩) (4 + 1) cap ∧ 4 + 1 ≤ cap ∧ cap ≤ maxLen ∧ ∀ i, i < 4 + 1 → w.cell? ⟨g, 0 + i, none⟩ = some (.int .i64 (wrp (c + ds.getD i 0))) := by
  have h0 := h
  obtain ⟨h1, h2 | ⟨g, cap, cur, rfl, hg, hh, hc, hm, hs, ht⟩⟩ := h
  · omega
  · refine ⟨g, cap, rfl, hc, hm, fun i hi => ?_⟩
    have := h0.cellAt i (by omega)
    rw [Nat.zero_add, this, List.getElem?_map, List.getD_eq_getElem?_getD, List.getElem?_eq_getElem (by omega)]
    rfl

set_option maxHeartbeats 2000000 in
theorem walk (a0 : Option Addr) (len0 cap0 : Nat) (z0 : List Int) (w : World) (w0 : IsRow .u8 w a0 len0 cap0 z0) :
    Calls Try.prog 4 #[.slice a0 len0 cap0] w fun e w' => e = .returned (.bool true) ∧ Below w.heap.size w w' := by
  have r0 : BRow .u8 w a0 len0 cap0 z0 := w0
  have hl := r0.lt
  by_cases hbig : 1048576 < len0
  · clear r0 hl w0
    go_enter Try.func4, Try.ntmps4
    go_wp2
    go_ret
    exact ⟨rfl, by go_grown⟩
  · clear w0
    go_enter Try.func4, Try.ntmps4
    go_wp2_with (first | (go_at_call 5; go_in) | fail)
    refine (dInSpan a0 len0 cap0 z0 w r0 hl).mono ?_
    rintro e w1 ⟨a, c, size, rfl, fa, fc, s0, s1, b1⟩
    have r1 := r0.below hl b1
    clear fa fc
    go_wp2_with fail
    refine (iInSpan a c size w1).mono ?_
    rintro e w2 ⟨rfl, rfl⟩
    have hsb := stp_bd c a
    by_cases hs : 0 < size
    · go_wp2_with (first | (go_at_call 10; refine (iAdd _ _ _).mono ?_; rintro e w' ⟨rfl, hw⟩; subst w') | (go_at_call 16; refine (iInSpan _ _ _ _).mono ?_; rintro e w' ⟨rfl, hw⟩; subst w'; rw [stp_77]))
      go_loopw [7, 8] (fun v i wr => ∃ (k : Nat) (ds : List Int), k ≤ 5 ∧ ds.length = k ∧ i = .int .i64 k ∧ (∀ d ∈ ds, 0 ≤ d ∧ d < 200) ∧ wr.ownsRow w2.heap.size 2 1 v k (ds.map fun d => .int .i64 (wrp (c + d))) ∧ Below w2.heap.size w2 wr) (fun _ i _ => 5 - (intOf i).toNat)
      case atStart => exact ⟨0, [], by omega, rfl, rfl, by simp, World.ownsRow_made w2 #[] 0 (Nat.le_refl _) (by decide) rfl, (Below.refl _ _).alloc (Nat.le_refl _) _⟩
      case round =>
        obtain ⟨k, ds, hk, hdl, rfl, hds, hown, hbl⟩ := hrel
        by_cases hlt : k < 5
        · have rk := r1.below r1.lt hbl
          go_wp2_with fail
          refine (lwAt_any a0 len0 cap0 z0 k 200 wr rk (by omega) (by omega) (by omega)).mono ?_
          rintro e w3 ⟨r, m, rfl, p0, p1, hw3⟩
          subst w3
          go_wp2_with fail
          refine (iAdd _ _ _).mono ?_
          rintro e w4 ⟨rfl, hw⟩
          subst w4
          have hown2 : (wr.drewN m).ownsRow w2.heap.size 2 1 u7 k (ds.map fun d => .int .i64 (wrp (c + d))) := hown
          have hsz := hbl.size
          go_wp2_with (at_builtin; refine app_i64 (wr.drewN m) rfl _ _ rfl w2.heap.size u7 k _ (by rfl) hown2 _ (by rfl) (by omega) hsz ?_; intro v' w5 hown5 hb5)
          have hbl5 : Below w2.heap.size w2 w5 := (below_drewN hbl m).trans hb5
          refine ⟨⟨k + 1, ds ++ [r], by omega, by simp; omega, by go_num, ?_, ?_, hbl5⟩, by simp [intOf]; omega⟩
          · intro d hd
            rcases List.mem_append.1 hd with h | h
            · exact hds d h
            · simp at h; subst h; exact ⟨p0, p1⟩
          · rw [List.map_append]; exact hown5
        · obtain rfl : k = 5 := by omega
          obtain ⟨g, cap, hv, hcap, hmx, hcl⟩ := own_cells hown hdl
          have hdd : ∀ i, i ≤ 4 → 0 ≤ ds.getD i 0 ∧ ds.getD i 0 < 200 := by
            intro i hi
            rw [List.getD_eq_getElem?_getD, List.getElem?_eq_getElem (by omega)]
            exact hds _ (List.getElem_mem _)
          obtain ⟨hsame, hnone⟩ := best_near c (fun i => ds.getD i 0) 4 hdd
          have hbw : Below w.heap.size w wr := b1.trans (hbl.mono b1.size)
          have HBW : Hid (Below w.heap.size w wr) := hbw
          clear hown hds hdd hbl r1 hbw b1 hl r0 hdl hs
          rw [hv]
          clear hv
          have hcl0 : ∀ i, i < 4 + 1 → wr.cell? ⟨g, 0 + i, none⟩ = some (.int .i64 ((fun i => wrp (c + (fun i => ds.getD i 0) i)) i)) := hcl
          have HC : Hid (∀ i, i < 4 + 1 → wr.cell? ⟨g, 0 + i, none⟩ = some (.int .i64 ((fun i => wrp (c + (fun i => ds.getD i 0) i)) i))) := hcl0
          clear hcl hcl0
          generalize hf : (fun i => wrp (c + (fun i => ds.getD i 0) i)) = f at *
          have hfi : ∀ i, f i = wrp (c + (fun i => ds.getD i 0) i) := fun i => by rw [← hf]
          have hno : ∀ i, i ≤ 4 → ahd (bestTo f 4) (f i) ≤ 0 := fun i hi => by rw [hfi i]; exact hnone i hi
          have HNO : Hid (∀ i, i ≤ 4 → ahd (bestTo f 4) (f i) ≤ 0) := hno
          have HS : Hid (sbestTo f 4 = bestTo f 4) := hsame
          clear hf hfi hno hnone hsame ds
          go_wp2_with fail
          refine (iMoreOf g 0 4 cap f wr (by omega) hcap hmx HC.out).mono ?_
          rintro e w6 ⟨rfl, hw⟩
          subst w6
          go_wp2_with fail
          go_loop [10] (fun i => ∃ k : Nat, k ≤ 5 ∧ i = .int .i64 k) (fun i => 5 - (intOf i).toNat)
          case atStart => exact ⟨0, by omega, rfl⟩
          case round =>
            obtain ⟨k, hk5, rfl⟩ := hrel
            by_cases hlt2 : k < 5
            · have ck := HC.out k (by omega)
              rw [Nat.zero_add] at ck
              have hn := HNO.out k (by omega)
              have hnb : decide (0 < ahd (bestTo f 4) (f k)) = false := by simp; omega
              go_wp2_with (go_at_call 12; refine (iIsAhead _ _ _).mono ?_; rintro e w' ⟨rfl, hw⟩; subst w')
              go_round
              case rel => exact ⟨k + 1, by omega, by go_num⟩
              case measure => simp [intOf]; omega
            · obtain rfl : k = 5 := by omega
              go_wp2_with fail
              refine (sMoreOf g 0 4 cap f wr hcap hmx HC.out).mono ?_
              rintro e w7 ⟨rfl, hw⟩
              subst w7
              rw [HS.out]
              go_wp2_with (go_at_call 16; refine (iInSpan _ _ _ _).mono ?_; rintro e w' ⟨rfl, hw⟩; subst w'; rw [stp_self])
              go_ret
              exact ⟨rfl, HBW.out⟩
    · have hin : decide (stp c a < size) = false := by simp; omega
      go_wp2_with (first | (go_at_call 10; refine (iAdd _ _ _).mono ?_; rintro e w' ⟨rfl, hw⟩; subst w') | (go_at_call 16; refine (iInSpan _ _ _ _).mono ?_; rintro e w' ⟨rfl, hw⟩; subst w'; rw [stp_77]))
      go_loopw [7, 8] (fun v i wr => ∃ (k : Nat) (ds : List Int), k ≤ 5 ∧ ds.length = k ∧ i = .int .i64 k ∧ (∀ d ∈ ds, 0 ≤ d ∧ d < 200) ∧ wr.ownsRow w2.heap.size 2 1 v k (ds.map fun d => .int .i64 (wrp (c + d))) ∧ Below w2.heap.size w2 wr) (fun _ i _ => 5 - (intOf i).toNat)
      case atStart => exact ⟨0, [], by omega, rfl, rfl, by simp, World.ownsRow_made w2 #[] 0 (Nat.le_refl _) (by decide) rfl, (Below.refl _ _).alloc (Nat.le_refl _) _⟩
      case round =>
        obtain ⟨k, ds, hk, hdl, rfl, hds, hown, hbl⟩ := hrel
        by_cases hlt : k < 5
        · have rk := r1.below r1.lt hbl
          go_wp2_with fail
          refine (lwAt_any a0 len0 cap0 z0 k 200 wr rk (by omega) (by omega) (by omega)).mono ?_
          rintro e w3 ⟨r, m, rfl, p0, p1, hw3⟩
          subst w3
          go_wp2_with fail
          refine (iAdd _ _ _).mono ?_
          rintro e w4 ⟨rfl, hw⟩
          subst w4
          have hown2 : (wr.drewN m).ownsRow w2.heap.size 2 1 u7 k (ds.map fun d => .int .i64 (wrp (c + d))) := hown
          have hsz := hbl.size
          go_wp2_with (at_builtin; refine app_i64 (wr.drewN m) rfl _ _ rfl w2.heap.size u7 k _ (by rfl) hown2 _ (by rfl) (by omega) hsz ?_; intro v' w5 hown5 hb5)
          have hbl5 : Below w2.heap.size w2 w5 := (below_drewN hbl m).trans hb5
          refine ⟨⟨k + 1, ds ++ [r], by omega, by simp; omega, by go_num, ?_, ?_, hbl5⟩, by simp [intOf]; omega⟩
          · intro d hd
            rcases List.mem_append.1 hd with h | h
            · exact hds d h
            · simp at h; subst h; exact ⟨p0, p1⟩
          · rw [List.map_append]; exact hown5
        · obtain rfl : k = 5 := by omega
          obtain ⟨g, cap, hv, hcap, hmx, hcl⟩ := own_cells hown hdl
          have hdd : ∀ i, i ≤ 4 → 0 ≤ ds.getD i 0 ∧ ds.getD i 0 < 200 := by
            intro i hi
            rw [List.getD_eq_getElem?_getD, List.getElem?_eq_getElem (by omega)]
            exact hds _ (List.getElem_mem _)
          obtain ⟨hsame, hnone⟩ := best_near c (fun i => ds.getD i 0) 4 hdd
          have hbw : Below w.heap.size w wr := b1.trans (hbl.mono b1.size)
          have HBW : Hid (Below w.heap.size w wr) := hbw
          clear hown hds hdd hbl r1 hbw b1 hl r0 hdl hs
          rw [hv]
          clear hv
          have hcl0 : ∀ i, i < 4 + 1 → wr.cell? ⟨g, 0 + i, none⟩ = some (.int .i64 ((fun i => wrp (c + (fun i => ds.getD i 0) i)) i)) := hcl
          have HC : Hid (∀ i, i < 4 + 1 → wr.cell? ⟨g, 0 + i, none⟩ = some (.int .i64 ((fun i => wrp (c + (fun i => ds.getD i 0) i)) i))) := hcl0
          clear hcl hcl0
          generalize hf : (fun i => wrp (c + (fun i => ds.getD i 0) i)) = f at *
          have hfi : ∀ i, f i = wrp (c + (fun i => ds.getD i 0) i) := fun i => by rw [← hf]
          have hno : ∀ i, i ≤ 4 → ahd (bestTo f 4) (f i) ≤ 0 := fun i hi => by rw [hfi i]; exact hnone i hi
          have HNO : Hid (∀ i, i ≤ 4 → ahd (bestTo f 4) (f i) ≤ 0) := hno
          have HS : Hid (sbestTo f 4 = bestTo f 4) := hsame
          clear hf hfi hno hnone hsame ds
          go_wp2_with fail
          refine (iMoreOf g 0 4 cap f wr (by omega) hcap hmx HC.out).mono ?_
          rintro e w6 ⟨rfl, hw⟩
          subst w6
          go_wp2_with fail
          go_loop [10] (fun i => ∃ k : Nat, k ≤ 5 ∧ i = .int .i64 k) (fun i => 5 - (intOf i).toNat)
          case atStart => exact ⟨0, by omega, rfl⟩
          case round =>
            obtain ⟨k, hk5, rfl⟩ := hrel
            by_cases hlt2 : k < 5
            · have ck := HC.out k (by omega)
              rw [Nat.zero_add] at ck
              have hn := HNO.out k (by omega)
              have hnb : decide (0 < ahd (bestTo f 4) (f k)) = false := by simp; omega
              go_wp2_with (go_at_call 12; refine (iIsAhead _ _ _).mono ?_; rintro e w' ⟨rfl, hw⟩; subst w')
              go_round
              case rel => exact ⟨k + 1, by omega, by go_num⟩
              case measure => simp [intOf]; omega
            · obtain rfl : k = 5 := by omega
              go_wp2_with fail
              refine (sMoreOf g 0 4 cap f wr hcap hmx HC.out).mono ?_
              rintro e w7 ⟨rfl, hw⟩
              subst w7
              rw [HS.out]
              go_wp2_with (go_at_call 16; refine (iInSpan _ _ _ _).mono ?_; rintro e w' ⟨rfl, hw⟩; subst w'; rw [stp_self])
              go_ret
              exact ⟨rfl, HBW.out⟩

set_option maxRecDepth 100000 in
theorem lifted (os : Os) (started : os.Started) (H : Type) (enc : TypeId × Value → H) :
    ReturnsInHanded {} Try.checked os 4 .any (Rows.fnSpansSpec.pre6 enc Try.prog Try.f4 Rows.fnSpansRow.domain false) (Rows.fnSpansSpec.post enc Try.prog Try.f4 false true false false) := by
  refine returnsInHanded_of_change (C := Try.checked) own started (by kernel_rfl) Try.func4
    (ChangeSpec.witness6 (enc := enc) (C := Try.checked) false ⟨#[], #[.slice none 0 0], []⟩ 8 (by kernel_rfl) (by kernel_rfl) (by kernel_rfl) (by kernel_rfl)) ?_
  intro W base args ds gs before hval0 hW hcnd _
  have hval : ∀ (j : Nat) t v, Try.f4.params[j]? = some t → args[j]? = some v → Value.okWide Try.prog W .any base t v := hval0
  have hW' := hW
  obtain ⟨p, q, hA0, hV, rfl, hfz, hnd⟩ := hW
  have hA : DataW.TrodAll enc Try.prog W 0 (fun _ => true) true Try.f4.params.toList args.toList ds p := hA0
  rw [Try.params4] at hA hval
  obtain ⟨v0, vs0, d0, ds0, p0, q0, hargs, rfl, rfl, h0, r0⟩ := trodAll_cons hA
  obtain ⟨rfl, rfl, rfl⟩ := trodAll_nil r0
  obtain rfl : args = #[v0] := by cases args; simp_all
  obtain ⟨rfl, rfl⟩ := trodVars_none hV
  obtain ⟨a0, len0, cap0, rfl⟩ := okWide_slice Try.underlying22 (hval 0 22 v0 rfl rfl)
  have k0 := h0
  have lt0 : ∀ x ∈ p0, x.block < W.heap.size := by obtain ⟨m, hm⟩ := k0; exact DataW.trod_lt m _ _ _ hm
  obtain ⟨z0, w0⟩ : ∃ zs, IsRow .u8 W a0 len0 cap0 zs := by
    obtain ⟨fuel, hf⟩ := h0
    rcases open_ints Try.underlying22 Try.underlying5 (by kernel_rfl) hf with ⟨hcs, _⟩ | ⟨x, l, c, zs, hcs, _, hl, hm, hz, _, hcell, hwz⟩
    · simp [Value.cells] at hcs
      obtain ⟨rfl, rfl, rfl⟩ := hcs
      exact ⟨[], .inl ⟨rfl, rfl, rfl, rfl⟩⟩
    · simp [Value.cells] at hcs
      obtain ⟨rfl, rfl, rfl⟩ := hcs
      exact ⟨zs, .inr ⟨_, rfl, hl, hm, by simpa using hz, hcell, hwz⟩⟩
  clear hA0 hval0
  refine (walk a0 len0 cap0 z0 W w0).mono fun e W' ⟨he, bel⟩ => ?_
  subst he
  exact ⟨_, rfl, _, _, _, [], _, [], hW', trodAll_mk1 (shut_bool Try.underlying4 _), (trodAll_cons_mk (Below.trod laidOut (by kernel_rfl) (of_decide_eq_true (by kernel_rfl)) k0 bel lt0) trodAll_mk0), rfl, bel.frame _, fun h => by cases h⟩

theorem over : Rows.fnSpansRow.holds Try.pinned (OpenSpec.ofChange Rows.fnSpansSpec) :=
  OpenClaim.holds_of_wide 4 Try.f4 rfl rfl rfl rfl rfl rfl rfl ⟨rfl, rfl, rfl, rfl, rfl⟩ rfl rfl rfl rfl rfl (by kernel_rfl) Try.func4 (by kernel_rfl)
    (of_decide_eq_true (by kernel_rfl)) (by unfold Func.isWrapper; first | (rw [if_pos (by decide +kernel)]; kernel_rfl) | (rw [if_neg (by decide +kernel)]; exact ⟨rfl, rfl⟩))
    (fun os started H enc _ => lifted os started H enc)

theorem proved : Rows.FnSpansSaid := over
#print axioms proved
end Go.Proofs.Ytdcbkphaoeckmaa.fnSpans

namespace Go.Proofs.Ytdcbkphaoeckmaa
theorem fnSpans_holds : Rows.FnSpansSaid := fnSpans.proved
end Go.Proofs.Ytdcbkphaoeckmaa
