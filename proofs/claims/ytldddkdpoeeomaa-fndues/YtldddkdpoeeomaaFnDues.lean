/- Proved: whatever bytes come in, the law on what is due answers true, and the bytes are as they were; no condition. -/
import Derived.Test.YtldddkdpoeeomaaRows
import Derived.WalkKit
import Derived.ProofKit
import Derived.OpenShut
import Derived.ShutString
import Derived.ChangeOld
import Derived.Below
import Derived.Test.YtldddkdpoeeomaaBase
import Derived.Test.YtldddkdpoeeomaaBox
import Derived.Test.YtldddkdpoeeomaaBytes
import Derived.Test.YtldddkdpoeeomaaMem
import Derived.Test.YtldddkdpoeeomaaMemOpen
import Derived.Test.YtldddkdpoeeomaaMemRow
import Derived.Test.YtldddkdpoeeomaaHBase
import Derived.Test.YtldddkdpoeeomaaHFlight
import Derived.Test.YtldddkdpoeeomaaHSender
import Derived.Test.YtldddkdpoeeomaaHOpen0
import Derived.Test.YtldddkdpoeeomaaHOpen
import Derived.Test.YtldddkdpoeeomaaNum
import Derived.Test.YtldddkdpoeeomaaNumWalks
import Derived.Test.YtldddkdpoeeomaaFlightDef
import Derived.Test.YtldddkdpoeeomaaSpecFlight
import Derived.Test.YtldddkdpoeeomaaSpecFlight2
import Derived.Test.YtldddkdpoeeomaaAppBytes
import Derived.Test.YtldddkdpoeeomaaApp
import Derived.Test.YtldddkdpoeeomaaMemApp
import Derived.Test.YtldddkdpoeeomaaSpecFlight3
import Derived.Test.YtldddkdpoeeomaaHMark
import Derived.Test.YtldddkdpoeeomaaMFlight
import Derived.Test.YtldddkdpoeeomaaMSender
import Derived.Test.YtldddkdpoeeomaaInts
import Derived.Test.YtldddkdpoeeomaaIntsOwn
import Derived.Test.YtldddkdpoeeomaaSpecFlight5
import Derived.Test.YtldddkdpoeeomaaUnwrap
import Derived.Test.YtldddkdpoeeomaaAckDef
import Derived.Test.YtldddkdpoeeomaaSpecAck
import Derived.Test.YtldddkdpoeeomaaAckFacts
import Derived.Test.YtldddkdpoeeomaaDraws
import Derived.Test.YtldddkdpoeeomaaDrawsD
import Derived.Test.YtldddkdpoeeomaaImplFlight
import Derived.Test.YtldddkdpoeeomaaIter
import Derived.Test.YtldddkdpoeeomaaImplFlight2
import Derived.Test.YtldddkdpoeeomaaSpecFlight4
import Derived.Test.YtldddkdpoeeomaaRegionU
import Derived.Test.YtldddkdpoeeomaaDrawSndT
import Derived.Test.YtldddkdpoeeomaaDrawSnd
import Derived.Test.YtldddkdpoeeomaaDrawDue
namespace Go.Proofs.Ytldddkdpoeeomaa.fnDues
open Go.ChangeShapes Go.WideShapes Go.ChangeAt Go.RowKit
open Go.ChangeMaps (open_string shut_string)
set_option linter.unusedVariables false

theorem own : ownKnob Try.prog.godebug = none := by kernel_rfl
theorem laidOut : laidOutB Try.prog = true := by kernel_rfl

/-- WHAT THE WALK IS TOLD OF A SLICE OF INTEGERS THAT CAME IN: it is nil; or it leads to a row of 'cap' cells, the numbers 'zs' (the first 'len' are its elements, the rest its spare room), each fitting its kind. -/
def IsRow (k : IntKind) (w : World) (a : Option Addr) (len cap : Nat) (zs : List Int) : Prop :=
  (a = none ∧ len = 0 ∧ cap = 0 ∧ zs = []) ∨
  ∃ x, a = some x ∧ len ≤ cap ∧ cap ≤ maxLen ∧ zs.length = cap ∧ (∀ i, i < zs.length → w.cell? (x.add i) = some (.int k (zs.getD i 0))) ∧ ∀ n ∈ zs, (Lit.int k n).wf = true

theorem due_split {now wait : Int} {l : List DFlight} {i : Nat} (hi : i < l.length) : dueL now wait 0 l = dueL now wait 0 (l.take i) ++ dueL now wait i (l[i] :: l.drop (i + 1)) := by
  have e : l = l.take i ++ (l[i] :: l.drop (i + 1)) := by rw [← List.drop_eq_getElem_cons hi, List.take_append_drop]
  have e2 : 0 + (l.take i).length = i := by simp; omega
  have h := dueL_app now wait (l.take i) (l[i] :: l.drop (i + 1)) 0
  rw [e2, ← e] at h
  exact h
theorem due_at {now wait : Int} {l : List DFlight} {i : Nat} (hi : i < l.length) (hd : wait ≤ now - l[i].2.2.2.1) : (dueL now wait 0 (l.take i)).length < (dueL now wait 0 l).length ∧ (dueL now wait 0 l).getD (dueL now wait 0 (l.take i)).length 0 = (i : Int) := by
  have h := due_split (now := now) (wait := wait) hi
  have e : dueL now wait i (l[i] :: l.drop (i + 1)) = (i : Int) :: dueL now wait (i + 1) (l.drop (i + 1)) := by simp only [dueL]; rw [if_pos hd]
  rw [e] at h
  rw [h]
  refine ⟨by simp, ?_⟩
  rw [List.getD_eq_getElem?_getD, List.getElem?_append_right (Nat.le_refl _)]
  simp
theorem due_not {now wait : Int} {l : List DFlight} {i : Nat} (hi : i < l.length) (hd : ¬ wait ≤ now - l[i].2.2.2.1) (hk : (dueL now wait 0 (l.take i)).length < (dueL now wait 0 l).length) : (dueL now wait 0 l).getD (dueL now wait 0 (l.take i)).length 0 ≠ (i : Int) := by
  have h := due_split (now := now) (wait := wait) hi
  have e : dueL now wait i (l[i] :: l.drop (i + 1)) = dueL now wait (i + 1) (l.drop (i + 1)) := by simp only [dueL]; rw [if_neg hd]
  rw [e] at h
  rw [h] at hk ⊢
  rw [List.getD_eq_getElem?_getD, List.getElem?_append_right (Nat.le_refl _), Nat.sub_self]
  cases hq : dueL now wait (i + 1) (l.drop (i + 1)) with
  | nil => rw [hq] at hk; simp at hk
  | cons y q =>
    have hm := dueL_mem now wait (l.drop (i + 1)) (i + 1) y (by rw [hq]; simp)
    simp
    omega
theorem due_code {x : DSender} {now wait : Int} (h : dueC x now wait = 0) : sndFault x = 0 ∧ (0 ≤ now ∧ now ≤ 1000000) ∧ 0 ≤ wait ∧ wait ≤ 1000000 := by
  unfold dueC at h
  split at h
  · rename_i h0
    split at h
    · rename_i h1
      simp only [Bool.and_eq_true] at h1
      exact ⟨h0, inD_yes h1.1, inD_yes h1.2⟩
    · cases h
  · rename_i h0
    exact absurd h h0
theorem ri_at1 {w : World} {a : Option Addr} {l : List Int} (h : RI w a l) {k : Nat} (hk : k < l.length) : ∃ b off, a = some ⟨b, off, none⟩ ∧ w.cell? ⟨b, off + k, none⟩ = some (.int .i64 (l.getD k 0)) := by
  rcases h.mem with e | ⟨b, off, e, hc⟩
  · subst e; simp at hk
  · exact ⟨b, off, e, hc k hk⟩
theorem dfield0 (c : Int) (ua : Option Addr) (un uc : Nat) (w : World) : (Instr.field 31 (.agg #[.int .i64 c, .slice ua un uc]) 0).run Try.prog w = .ok (.int .i64 c) w := by kernel_rfl

set_option maxHeartbeats 8000000 in
theorem walk (a0 : Option Addr) (len0 cap0 : Nat) (z0 : List Int) (w : World) (w0 : IsRow .u8 w a0 len0 cap0 z0) :
    Calls Try.prog 3 #[.slice a0 len0 cap0] w fun e w' => e = .returned (.bool true) ∧ Below w.heap.size w w' := by
  have r0 : BRow .u8 w a0 len0 cap0 z0 := w0
  have hl := r0.lt
  by_cases hbig : 1048576 < len0
  · clear r0 hl w0
    go_enter Try.func3, Try.ntmps3
    go_wp2
    go_ret
    exact ⟨rfl, by go_grown⟩
  · clear w0
    go_enter Try.func3, Try.ntmps3
    go_wp2_with (first | (go_at_call 9; go_in) | fail)
    refine (dDue a0 len0 cap0 z0 w r0 hl).mono ?_
    rintro e w1 ⟨x, u, now, wait, rfl, hrd, hT, b1⟩
    clear r0 hl
    obtain ⟨vv, ev, rk, -⟩ := rd_Sender hrd
    simp only [List.cons.injEq, and_true, true_and] at ev
    subst ev
    obtain ⟨va, vc, ev2⟩ := row_form rk
    simp only [List.cons.injEq, and_true] at ev2
    subst ev2
    have hmx : x.2.2.2.1.length ≤ 9223372036854775807 := row_max rk
    have B1 : Hid (Below w.heap.size w w1) := b1
    have HFl : Hid (∀ W, Below w1.heap.size w1 W → shFlights.Rd W w1.heap.size x.2.2.2.1 [.slice va x.2.2.2.1.length vc]) := fun W h => rk.below (Nat.le_refl _) h
    have HI : Hid (∀ W, Below w1.heap.size w1 W → Calls Try.prog 11 #[.agg #[.int .i64 x.1, .int .i64 x.2.1, .int .i64 x.2.2.1, .slice va x.2.2.2.1.length vc], .int .i64 now, .int .i64 wait] W fun e w' => ∃ u, e = .returned (.agg #[.int .i64 (dueC x now wait), u]) ∧ Own w' W.heap.size w'.heap.size i64s (dueV x now wait) [u] ∧ Below W.heap.size W w') := fun W h => iDueFlights x _ now wait W w1.heap.size (Sh.Rd.below hrd (Nat.le_refl _) h) h.size hT
    have HS : Hid (∀ W, Below w1.heap.size w1 W → Calls Try.prog 12 #[.agg #[.int .i64 x.1, .int .i64 x.2.1, .int .i64 x.2.2.1, .slice va x.2.2.2.1.length vc], .int .i64 now, .int .i64 wait] W fun e w' => ∃ u, e = .returned (.agg #[.int .i64 (dueC x now wait), u]) ∧ Own w' W.heap.size w'.heap.size i64s (dueV x now wait) [u] ∧ Below W.heap.size W w') := fun W h => sDueFlights x _ now wait W w1.heap.size (Sh.Rd.below hrd (Nat.le_refl _) h) h.size hT
    have HF : Hid (∀ W, Below w1.heap.size w1 W → Calls Try.prog 13 #[.agg #[.int .i64 x.1, .int .i64 x.2.1, .int .i64 x.2.2.1, .slice va x.2.2.2.1.length vc]] W fun e w' => e = .returned (.int .i64 (sndFault x)) ∧ Below W.heap.size W w') := fun W h => iSenderFault x _ W w1.heap.size (Sh.Rd.below hrd (Nat.le_refl _) h) h.size hT
    clear hrd hT b1 rk
    by_cases hC : dueC x now wait = 0
    · obtain ⟨hF0, ⟨n0, n1⟩, t0, t1⟩ := due_code hC
      have hSent := fls_sent hF0
      have HSent : Hid _ := hSent
      have hV : dueV x now wait = dueL now wait 0 x.2.2.2.1 := by unfold dueV; rw [if_pos hC]
      rw [hC, hV] at HI
      rw [hF0] at HF
      clear HS hV hSent hC hF0
      generalize hfl : x.2.2.2.1 = l at *
      clear hfl
      have HDL : Hid ((dueL now wait 0 l).length ≤ l.length) := dueL_len now wait l 0
      obtain ⟨n, hn⟩ : ∃ n, l.length = n := ⟨_, rfl⟩
      have HN : Hid (l.length = n) := hn
      rw [hn] at HI HF HFl hmx HDL ⊢
      clear hn
      generalize x.1 = y0 at *
      generalize x.2.1 = y1 at *
      generalize x.2.2.1 = y2 at *
      go_wp2_with fail
      refine (HI.out _ ((Below.refl _ _).alloc (Nat.le_refl _) _)).mono ?_
      rintro e w2 ⟨u, rfl, ho, hb⟩
      obtain ⟨ua, uc, eu, hri⟩ := rd_ints (ho.rd (Nat.le_refl _))
      simp only [List.cons.injEq, and_true] at eu
      subst eu
      have k3 := bx_new hb
      obtain ⟨hc, z3⟩ := bl_new hb
      have RIL : Hid (∀ W, Below w2.heap.size w2 W → RI W ua (dueL now wait 0 l)) := fun W h => hri.below (Nat.le_refl _) h
      have D2 : Hid (Below w1.heap.size w1 w2) := hc
      clear hb hc ho hri HI
      obtain ⟨un, hun⟩ : ∃ un, (dueL now wait 0 l).length = un := ⟨_, rfl⟩
      have HUN : Hid ((dueL now wait 0 l).length = un) := hun
      rw [hun] at HDL ⊢
      clear hun
      have hul : un ≤ n := HDL.out
      go_wp2_with fail
      obtain ⟨W, hW⟩ : ∃ W, w2.alloc (.cells #[.int .i64 0, .slice ua un uc] 31) = W := ⟨_, rfl⟩
      have bW : Below w2.heap.size w2 W := by rw [← hW]; exact (Below.refl _ _).alloc (Nat.le_refl _) _
      have k6 : ∀ o, W.cell? ⟨w2.heap.size, o, none⟩ = (#[.int .i64 0, .slice ua un uc] : Array Value)[o]? := by rw [← hW]; intro o; simp [go_sem]
      simp only [hW]
      clear hW
      replace k3 := bx_below k3 z3 bW
      have DW : Hid (Below w1.heap.size w1 W) := D2.out.trans (bW.mono D2.out.size)
      have BW : Hid (Below w.heap.size w W) := B1.out.trans (DW.out.mono B1.out.size)
      have RIW : Hid (RI W ua (dueL now wait 0 l)) := RIL.out W bW
      have FW : Hid _ := HFl.out W DW.out
      clear D2 RIL HFl bW HDL
      generalize w2.heap.size = rb at *
      generalize w1.heap.size = sb at *
      go_loop [7, 8] (fun tk ti => ∃ i : Nat, i ≤ n ∧ ti = .int .i64 i ∧ tk = .int .i64 ((dueL now wait 0 (l.take i)).length : Nat)) (fun _ ti => n - (intOf ti).toNat)
      case atStart => exact ⟨0, Nat.zero_le _, rfl, rfl⟩
      case round =>
        obtain ⟨i, hi, rfl, rfl⟩ := hrel
        have hkl : (dueL now wait 0 (l.take i)).length ≤ i := by have := dueL_len now wait (l.take i) 0; rw [List.length_take] at this; omega
        by_cases hlt : i < n
        · have hil : i < l.length := by have := HN.out; omega
          have HS1 : Hid (wait ≤ now - l[i].2.2.2.1 → (dueL now wait 0 (l.take (i + 1))).length = (dueL now wait 0 (l.take i)).length + 1) := fun h => by rw [dueL_step now wait hil, if_pos h]; simp
          have HS2 : Hid (¬ wait ≤ now - l[i].2.2.2.1 → (dueL now wait 0 (l.take (i + 1))).length = (dueL now wait 0 (l.take i)).length) := fun h => by rw [dueL_step now wait hil, if_neg h]
          have hA := due_at (now := now) (wait := wait) hil
          have hB := due_not (now := now) (wait := wait) hil
          rw [HUN.out] at hA hB
          have HA : Hid _ := hA
          have HB : Hid _ := hB
          obtain ⟨b, off, v, ha, hb, -, -, -, q3, -, -⟩ := at_Flights FW.out i hil
          subst ha
          obtain ⟨s0, s1⟩ := HSent.out i hil
          have hin : (i : Int) < (n : Int) := by omega
          have HR1 : Hid (∀ k, k < un → ∃ b off, ua = some ⟨b, off, none⟩ ∧ W.cell? ⟨b, off + k, none⟩ = some (.int .i64 ((dueL now wait 0 l).getD k 0))) := fun k hk => ri_at1 RIW.out (by rw [HUN.out]; exact hk)
          clear hA hB hb
          generalize l[i].2.2.2.1 = z at *
          generalize (dueL now wait 0 (l.take i)).length = k at *
          by_cases hd : wait ≤ now - z
          · obtain ⟨a1, a2⟩ := HA.out hd
            obtain ⟨b2, off2, rfl, c2⟩ := HR1.out k a1
            rw [a2] at c2
            have a1' : (k : Int) < (un : Int) := by omega
            clear HA HB HR1 RIW FW
            go_wp2_with fail
            go_round
            case rel => exact ⟨i + 1, by omega, by go_num, by rw [HS1.out hd]; first | go_num | (push_cast; go_num)⟩
            case measure => simp [intOf]; omega
          · have hd' : decide (wait ≤ now - z) = false := by simpa using hd
            have hd2 := hd
            by_cases hk : k < un
            · have hk' : (k : Int) < (un : Int) := by omega
              obtain ⟨b2, off2, rfl, c2⟩ := HR1.out k hk
              have hne := HB.out hd hk
              generalize (dueL now wait 0 l).getD k 0 = y at *
              have hne' : (y == (i : Int)) = false := by simpa using hne
              clear HA HB HR1 RIW FW
              go_wp2_with fail
              go_round
              case rel => exact ⟨i + 1, by omega, by go_num, by rw [HS2.out hd2]⟩
              case measure => simp [intOf]; omega
            · have hk' : decide ((k : Int) < (un : Int)) = false := by simp; omega
              clear HA HB HR1 RIW FW
              go_wp2_with fail
              go_round
              case rel => exact ⟨i + 1, by omega, by go_num, by rw [HS2.out hd2]⟩
              case measure => simp [intOf]; omega
        · obtain rfl : i = n := by omega
          have e : l.take i = l := List.take_of_length_le (by have := HN.out; omega)
          rw [e, HUN.out] at *
          clear RIW FW
          go_wp2_with fail
          refine (HF.out _ DW.out).mono ?_
          rintro e w5 ⟨rfl, hb⟩
          have B5 : Hid (Below w.heap.size w w5) := BW.out.trans (hb.mono BW.out.size)
          clear hb k3 k6
          go_wp2_with fail
          go_ret
          exact ⟨rfl, B5.out⟩
    · have hC' : (dueC x now wait != 0) = true := by simp [hC]
      clear HF HFl hC
      generalize dueV x now wait = V at *
      generalize dueC x now wait = C at *
      generalize x.1 = y0 at *
      generalize x.2.1 = y1 at *
      generalize x.2.2.1 = y2 at *
      generalize x.2.2.2.1.length = n at *
      have hfd := dfield0
      go_wp2_with fail
      refine (HI.out _ ((Below.refl _ _).alloc (Nat.le_refl _) _)).mono ?_
      rintro e w2 ⟨u, rfl, ho, hb⟩
      obtain ⟨ua, uc, eu, -⟩ := rd_ints (ho.rd (Nat.le_refl _))
      simp only [List.cons.injEq, and_true] at eu
      subst eu
      generalize V.length = un at *
      have k2 := bx_new hb
      obtain ⟨hc, z2⟩ := bl_new hb
      have D2 : Hid (Below w1.heap.size w1 w2) := hc
      clear hb hc ho
      go_wp2_with fail
      go_region_with (go_at_call 12; refine (HS.out _ (by have h := D2.out; go_grown)).mono ?_; rintro e w3 ⟨u3, rfl, ho3, hb⟩; obtain ⟨ua3, uc3, eu3, -⟩ := rd_ints (ho3.rd (Nat.le_refl _)); simp only [List.cons.injEq, and_true] at eu3; subst eu3; clear ho3; have hd : Below w2.heap.size w2 w3 := (((Below.refl w2.heap.size w2).alloc (Nat.le_refl _) _).drew).trans (hb.mono (by simp)); have q3 : ∀ o, w3.cell? ⟨w2.heap.size, o, none⟩ = (#[.int .i64 C, .slice ua un uc] : Array Value)[o]? := (fun o => (hb.cell (p := ⟨w2.heap.size, o, none⟩) (by simp)).trans (by simp [go_sem])); have k3 := bx_below k2 z2 hd; have D3 : Hid (Below w1.heap.size w1 w3) := D2.out.trans (hd.mono D2.out.size); clear hb hd)
      all_goals (go_wp2_with fail; go_ret; exact ⟨rfl, B1.out.trans (D3.out.mono B1.out.size)⟩)

set_option maxRecDepth 100000 in
theorem lifted (os : Os) (started : os.Started) (H : Type) (enc : TypeId × Value → H) :
    ReturnsInHanded {} Try.checked os 3 .any (Rows.fnDuesSpec.pre6 enc Try.prog Try.f3 Rows.fnDuesRow.domain false) (Rows.fnDuesSpec.post enc Try.prog Try.f3 false true false false) := by
  refine returnsInHanded_of_change (C := Try.checked) own started (by kernel_rfl) Try.func3
    (ChangeSpec.witness6 (enc := enc) (C := Try.checked) false ⟨#[], #[.slice none 0 0], []⟩ 8 (by kernel_rfl) (by kernel_rfl) (by kernel_rfl) (by kernel_rfl)) ?_
  intro W base args ds gs before hval0 hW hcnd _
  have hval : ∀ (j : Nat) t v, Try.f3.params[j]? = some t → args[j]? = some v → Value.okWide Try.prog W .any base t v := hval0
  have hW' := hW
  obtain ⟨p, q, hA0, hV, rfl, hfz, hnd⟩ := hW
  have hA : DataW.TrodAll enc Try.prog W 0 (fun _ => true) true Try.f3.params.toList args.toList ds p := hA0
  rw [Try.params3] at hA hval
  obtain ⟨v0, vs0, d0, ds0, p0, q0, hargs, rfl, rfl, h0, r0⟩ := trodAll_cons hA
  obtain ⟨rfl, rfl, rfl⟩ := trodAll_nil r0
  obtain rfl : args = #[v0] := by cases args; simp_all
  obtain ⟨rfl, rfl⟩ := trodVars_none hV
  obtain ⟨a0, len0, cap0, rfl⟩ := okWide_slice Try.underlying22 (hval 0 22 v0 rfl rfl)
  have k0 := h0
  have lt0 : ∀ x ∈ p0, x.block < W.heap.size := by obtain ⟨m, hm⟩ := k0; exact DataW.trod_lt m _ _ _ hm
  obtain ⟨z0, w0⟩ : ∃ zs, IsRow .u8 W a0 len0 cap0 zs := by
    obtain ⟨fuel, hf⟩ := h0
    rcases open_ints Try.underlying22 Try.underlying5 (by kernel_rfl) hf with ⟨hcs, _⟩ | ⟨x, l, c, zs, hcs, _, hl, hm, hz, _, hcell, hwz⟩
    · simp [Value.cells] at hcs
      obtain ⟨rfl, rfl, rfl⟩ := hcs
      exact ⟨[], .inl ⟨rfl, rfl, rfl, rfl⟩⟩
    · simp [Value.cells] at hcs
      obtain ⟨rfl, rfl, rfl⟩ := hcs
      exact ⟨zs, .inr ⟨_, rfl, hl, hm, by simpa using hz, hcell, hwz⟩⟩
  clear hA0 hval0
  refine (walk a0 len0 cap0 z0 W w0).mono fun e W' ⟨he, bel⟩ => ?_
  subst he
  exact ⟨_, rfl, _, _, _, [], _, [], hW', trodAll_mk1 (shut_bool Try.underlying4 _), (trodAll_cons_mk (Below.trod laidOut (by kernel_rfl) (of_decide_eq_true (by kernel_rfl)) k0 bel lt0) trodAll_mk0), rfl, bel.frame _, fun h => by cases h⟩

theorem over : Rows.fnDuesRow.holds Try.pinned (OpenSpec.ofChange Rows.fnDuesSpec) :=
  OpenClaim.holds_of_wide 3 Try.f3 rfl rfl rfl rfl rfl rfl rfl ⟨rfl, rfl, rfl, rfl, rfl⟩ rfl rfl rfl rfl rfl (by kernel_rfl) Try.func3 (by kernel_rfl)
    (of_decide_eq_true (by kernel_rfl)) (by unfold Func.isWrapper; first | (rw [if_pos (by decide +kernel)]; kernel_rfl) | (rw [if_neg (by decide +kernel)]; exact ⟨rfl, rfl⟩))
    (fun os started H enc _ => lifted os started H enc)

theorem proved : Rows.FnDuesSaid := over
#print axioms proved
end Go.Proofs.Ytldddkdpoeeomaa.fnDues

namespace Go.Proofs.Ytldddkdpoeeomaa
theorem fnDues_holds : Rows.FnDuesSaid := fnDues.proved
end Go.Proofs.Ytldddkdpoeeomaa
