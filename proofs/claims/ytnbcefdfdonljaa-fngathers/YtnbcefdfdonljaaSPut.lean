/- What the model's l3Put makes: the gather of the bytes at each place; nothing that was in memory turns, and the answer owns its memory; the gather has no fault, and the data fits. -/
import Derived.Test.YtnbcefdfdonljaaRows
import Derived.Test.YtnbcefdfdonljaaBase
import Derived.Test.YtnbcefdfdonljaaBytes
import Derived.Test.YtnbcefdfdonljaaAppBytes
import Derived.Test.YtnbcefdfdonljaaApp
import Derived.Test.YtnbcefdfdonljaaMem
import Derived.Test.YtnbcefdfdonljaaMemOpen
import Derived.Test.YtnbcefdfdonljaaMemRow
import Derived.Test.YtnbcefdfdonljaaMemApp
import Derived.Test.YtnbcefdfdonljaaGath
import Derived.Test.YtnbcefdfdonljaaGathLaw
import Derived.Test.YtnbcefdfdonljaaImplGath
import Derived.Test.YtnbcefdfdonljaaSpecGath
import Derived.Test.YtnbcefdfdonljaaGathByte
import Derived.Test.YtnbcefdfdonljaaPMap
import Derived.Test.YtnbcefdfdonljaaPRun
import Derived.Test.YtnbcefdfdonljaaPPlaces
import Derived.Test.YtnbcefdfdonljaaPutDef
import Derived.Test.YtnbcefdfdonljaaPGather
import Derived.Test.YtnbcefdfdonljaaPImpl
import Derived.Test.YtnbcefdfdonljaaPLast
import Derived.Test.YtnbcefdfdonljaaBox
import Derived.Deep.OwnRows
import Derived.Deep.RegionHeld3
import Derived.Deep.RegionLaw
import Derived.Deep.DeepCutAuto
namespace Go.Proofs.Ytnbcefdfdonljaa
open Go.RowKit Go.Maps
set_option linter.unusedVariables false

theorem info_bool : (Try.prog.info? 4).map (fun i => (i.zero, i.size, i.bytes)) = some (some (.bool false), 1, 1) := by kernel_rfl
theorem rowIs_of {w : World} {base g n cap : Nat} {t : TypeId} {z : Value} (hz : z.cells = #[z]) (h : w.ownsRow base t 1 (.slice (some ⟨g, 0, none⟩) n n) n (madeCells z.cells (n * 1)).toList) : w.rowIs g t n (fun _ => z) := by
  obtain ⟨h1, ⟨e, _⟩ | ⟨g', cap', cur, e, hb, hh, hc, hm, hs, ht⟩⟩ := h
  · simp at e
  · simp only [Value.slice.injEq, Option.some.injEq, Addr.mk.injEq, and_true, true_and] at e
    obtain ⟨rfl, rfl⟩ := e
    refine ⟨cur, hh, by omega, fun i hi => ?_⟩
    have : (cur.toList.take (n * 1))[i]? = some z := by
      rw [ht, hz]; simp [madeCells, hi, Nat.mod_one]
    rw [List.getElem?_take_of_lt (by omega)] at this
    simpa using this

theorem rb_one' {w : World} {y : Int} (hy : 0 ≤ y ∧ y ≤ 255) : RB (w.alloc (.cells #[.int .u8 y] 5)) (some ⟨w.heap.size, 0, none⟩) [y] := by
  refine ⟨fun z hz => ?_, Or.inr ⟨w.heap.size, 0, rfl, fun i hi => ?_⟩⟩
  · simp at hz; subst hz; exact hy
  · simp at hi; subst hi; simp

theorem ob_one {w : World} {base : Nat} {y : Int} (hy : 0 ≤ y ∧ y ≤ 255) (hb : base ≤ w.heap.size) : OB (w.alloc (.cells #[.int .u8 y] 5)) base (.slice (some ⟨w.heap.size, 0, none⟩) 1 1) [y] := by
  refine ⟨⟨rfl, Or.inr ⟨w.heap.size, 1, #[.int .u8 y], rfl, hb, Go.Deep.blk_alloc_new _ _, Nat.le_refl _, by unfold maxLen; omega, rfl, rfl⟩⟩, fun z hz => ?_⟩
  simp at hz; subst hz; exact hy
theorem own_new {w : World} {K : Int} {y : Int} (hy : 0 ≤ y ∧ y ≤ 255) (hK0 : 0 ≤ K) (hK : K ≤ 1000) : Own (w.alloc (.cells #[.int .u8 y] 5)) w.heap.size (w.heap.size + 1) pcS (K, [y], ()) [.int .i64 K, .slice (some ⟨w.heap.size, 0, none⟩) 1 1] :=
  Own.cons (Own.int _ _ w.heap.size (by simp [Lit.wf, IntKind.min, IntKind.max, IntKind.signed, IntKind.bits]; omega)) (Own.cons (own_bytes (ob_one hy (Nat.le_refl _)) (by simp)) (Own.nil _ _ _) (Nat.le_succ _) (Nat.le_refl _)) (Nat.le_refl _) (Nat.le_succ _)

/-- The rows of the model: what is there, and which byte, at the places below k. -/
def thereTo (mm : Int → Option Int) (k : Nat) (j : Nat) : Value := .bool (decide (j < k) && (mm j).isSome)
def bytesTo (mm : Int → Option Int) (k : Nat) (j : Nat) : Value := .int .u8 (if j < k then (mm j).getD 0 else 0)
theorem there_step (mm : Int → Option Int) (k j : Nat) : (if j = k then .bool (mm k).isSome else thereTo mm k j) = thereTo mm (k + 1) j := by
  unfold thereTo
  split
  · rename_i e; subst e; simp
  · rename_i e
    by_cases h : j < k
    · simp [h, show j < k + 1 by omega]
    · simp [h, show ¬ j < k + 1 by omega]
theorem bytes_step (mm : Int → Option Int) (k j : Nat) : (if j = k then .int .u8 ((mm k).getD 0) else bytesTo mm k j) = bytesTo mm (k + 1) j := by
  unfold bytesTo
  split
  · rename_i e; subst e; simp
  · rename_i e
    by_cases h : j < k
    · simp [h, show j < k + 1 by omega]
    · simp [h, show ¬ j < k + 1 by omega]

set_option maxHeartbeats 80000000 in
set_option maxRecDepth 16000 in
theorem sL3Put (g : Gt) (v1 v2 : Value) (p : Nat) (x : Int) (l : List Int) (a : Option Addr) (cap : Nat) (w : World) (B : Nat) (hr : gtS.Rd w B g [v1, v2]) (hl : u8s.Rd w B l [.slice a l.length cap]) (hB : B ≤ w.heap.size) (hF : gtFault g = 0) (hx0 : 0 ≤ x) (hx1 : x + l.length ≤ 400)
    (hp : ∀ o, w.cell? ⟨p, o, none⟩ = (#[v1, v2] : Array Value)[o]?) (hpl : p < w.heap.size) :
    Calls Try.prog 56 #[.pointer (some ⟨p, 0, none⟩), .int .i64 x, .slice a l.length cap] w fun e w' => ∃ u1 u2, ∃ d : Nat, e = .returned (.agg #[u1, u2]) ∧ FirstGap (putM (gtByte g) x l) d ∧ Own w' w.heap.size w'.heap.size gtS (putG (putM (gtByte g) x l) d) [u1, u2] ∧ Below w.heap.size w w' := by
  have HC : Hid (∀ W, Below w.heap.size w W → ∀ k : Nat, Calls Try.prog 98 #[.pointer (some ⟨p, 0, none⟩), .int .i64 k] W fun e w' => e = .returned (.tuple #[.int .u8 ((gtByte g k).getD 0), .bool (gtByte g k).isSome]) ∧ Below W.heap.size W w') :=
    fun W hW k => sL3Byte g _ _ p k W B (hr.below hB hW) (Nat.le_trans hB hW.size) hF (fun o => (hW.cell (p := ⟨p, o, none⟩) hpl).trans (hp o))
  have HL : Hid (∀ W, Below w.heap.size w W → RB W a l) := fun W hW => by
    obtain ⟨_, _, e1, q1, -, -⟩ := rd_bytes (hl.below hB hW)
    simp only [List.cons.injEq, Value.slice.injEq, and_true, true_and] at e1
    obtain ⟨rfl, rfl⟩ := e1
    exact q1
  obtain ⟨m2, hm2⟩ : ∃ m, m = putM (gtByte g) x l := ⟨_, rfl⟩
  have HM2 : Hid (m2 = putM (gtByte g) x l) := hm2
  have HBd : Hid (∀ y c, m2 y = some c → 0 ≤ c ∧ c ≤ 255) := by rw [hm2]; exact putM_bd (rd_gt_bd hr) (HL.out w (Below.refl _ _)).bd
  rw [← hm2]
  clear hm2 hr hl hp
  obtain ⟨M, hM⟩ : ∃ M : Nat, M = 400 := ⟨_, rfl⟩
  have HMM : Hid (M = 400) := hM
  have hM4 : (M : Int) = 400 := by rw [hM]; rfl
  have HMi : Hid ((M : Int) = 400) := hM4
  clear hM hM4
  obtain ⟨ib, hib, hb0, hb1, hb2⟩ := info_parts info_bool
  obtain ⟨iu, hiu, hu0, hu1, hu2⟩ := info_parts info_u8
  obtain ⟨H, hH⟩ : ∃ H, H = w.heap.size := ⟨_, rfl⟩
  go_enter Try.func56, Try.ntmps56
  go_wp2_with (first
    | (at_make; refine wpList_make_full (w.alloc (.cells #[.slice none 0 0, .slice none 0 0] 26)) rfl _ _ 62 rfl (w.heap.size + 1) 4 ib (.bool false) 1 Try.underlying62 hib hb0 hb1 .i64 .i64 _ _ M (by rfl) (by rfl) HMi.out.symm HMi.out.symm (by rw [hb2]; have := HMM.out; omega) (by have := HMM.out; unfold maxLen; omega) (by simp) ?_; intro w1 hown1 hgr1; have R1 := rowIs_of (cap := 0) rfl hown1; clear hown1)
    | (at_make; refine wpList_make_full w1 rfl _ _ 22 rfl w1.heap.size 5 iu (.int .u8 0) 1 Try.underlying22 hiu hu0 hu1 .i64 .i64 _ _ M (by rfl) (by rfl) HMi.out.symm HMi.out.symm (by rw [hu2]; have := HMM.out; omega) (by have := HMM.out; unfold maxLen; omega) (Nat.le_refl _) ?_; intro w2 hown2 hgr2; have R2 := rowIs_of (cap := 0) rfl hown2; clear hown2))
  have sz1 := hgr1.size
  simp at sz1
  have sz2 := R1.lt
  simp at sz2
  obtain ⟨BB, hBB⟩ : ∃ b, b = w1.heap.size := ⟨_, rfl⟩
  have zT : w.heap.size + 1 < BB := by omega
  have HT0 : Hid (w2.rowIs (w.heap.size + 1) 4 M (thereTo m2 0)) := by
    have h := (R1.of_block (w' := w2) (hgr2.block _ R1.lt (by simp))).congr (g := thereTo m2 0) (fun i _ => by simp [thereTo])
    show w2.rowIs (w.heap.size + 1) 4 M (thereTo m2 0)
    simpa using h
  have HB0 : Hid (w2.rowIs BB 5 M (bytesTo m2 0)) := by
    have h := R2.congr (g := bytesTo m2 0) (fun i _ => by simp [bytesTo])
    rw [hBB]; exact h
  have hb1' : Below (w.alloc (.cells #[.slice none 0 0, .slice none 0 0] 26)).heap.size (w.alloc (.cells #[.slice none 0 0, .slice none 0 0] 26)) w1 := (Below.refl _ _).grown hgr1 (Nat.le_refl _) (by intro k hk; cases hk)
  have hb2' : Below w1.heap.size w1 w2 := (Below.refl _ _).grown hgr2 (Nat.le_refl _) (by intro k hk; cases hk)
  have HR0 : Hid (∀ o, w2.cell? ⟨w.heap.size, o, none⟩ = (#[.slice none 0 0, .slice none 0 0] : Array Value)[o]?) := fun o => by
    rw [(bcell hb2').1 _ o (by omega), (bcell hb1').1 _ o (by simp)]; simp [go_sem]
  have HF0 : Hid (∀ o, w2.frozen? ⟨w.heap.size, o, none⟩ = false) := fun o => by
    rw [(bcell hb2').2 _ o (by omega), (bcell hb1').2 _ o (by simp)]; simp [go_sem]
  have HW0 : Hid (Below w.heap.size w w2) := (Below.trans ((Below.refl _ _).alloc (Nat.le_refl _) _) (hb1'.mono (by simp))).trans (hb2'.mono (by omega))
  have z2 : BB < w2.heap.size := by have := R2.lt; omega
  rw [← hBB]
  clear R1 R2 hgr1 hgr2 sz1 sz2 hb1' hb2' hib hb0 hb1 hb2 hiu hu0 hu1 hu2 hBB hH
  go_loopw [9] (fun t9 wr => ∃ k : Nat, t9 = .int .i64 k ∧ k ≤ M ∧ Hid (wr.rowIs (w.heap.size + 1) 4 M (thereTo m2 k)) ∧ Hid (wr.rowIs BB 5 M (bytesTo m2 k)) ∧ Hid (∀ o, wr.cell? ⟨w.heap.size, o, none⟩ = (#[.slice none 0 0, .slice none 0 0] : Array Value)[o]?) ∧ Hid (∀ o, wr.frozen? ⟨w.heap.size, o, none⟩ = false) ∧ Hid (Below w.heap.size w wr) ∧ BB < wr.heap.size) (fun i _ => M - (intOf i).toNat)
  case atStart => exact ⟨0, rfl, Nat.zero_le _, HT0, HB0, HR0, HF0, HW0, z2⟩
  case round =>
    obtain ⟨k, rfl, hk, HT, HBy, HR, HFz, HW, zz⟩ := hrel
    clear HT0 HB0 HR0 HF0 HW0 z2
    by_cases hlt : k < M
    · have hlt2 : (k : Int) < 400 := by have := HMi.out; omega
      go_wp2_with fail
      refine (HC.out wr HW.out k).mono ?_
      rintro e w3 ⟨rfl, hb3⟩
      have HT3 : Hid (w3.rowIs (w.heap.size + 1) 4 M (thereTo m2 k)) := HT.out.of_block (hb3.block _ (by omega))
      have HBy3 : Hid (w3.rowIs BB 5 M (bytesTo m2 k)) := HBy.out.of_block (hb3.block _ zz)
      have HR3 : Hid (∀ o, w3.cell? ⟨w.heap.size, o, none⟩ = (#[.slice none 0 0, .slice none 0 0] : Array Value)[o]?) := bx_below HR.out (by omega) hb3
      have HF3 : Hid (∀ o, w3.frozen? ⟨w.heap.size, o, none⟩ = false) := fun o => by rw [(bcell hb3).2 _ o (by omega)]; exact HFz.out o
      have HW3 : Hid (Below w.heap.size w w3) := HW.out.trans (hb3.mono HW.out.size)
      have z3 : BB < w3.heap.size := Nat.lt_of_lt_of_le zz hb3.size
      have c1 := HT3.out.cell hlt
      have f1 := HT3.out.frozen k
      have c2 := HBy3.out.cell hlt
      have f2 := HBy3.out.frozen k
      have LAST : Hid (∀ (o : Bool) (c : Int), o = (m2 k).isSome → c = (m2 k).getD 0 → ∃ W, W = ((w3.setCell ⟨w.heap.size + 1, k, none⟩ (.bool o)).setCell ⟨BB, k, none⟩ (.int .u8 c)) ∧ Hid (W.rowIs (w.heap.size + 1) 4 M (thereTo m2 (k + 1))) ∧ Hid (W.rowIs BB 5 M (bytesTo m2 (k + 1))) ∧ Hid (∀ o, W.cell? ⟨w.heap.size, o, none⟩ = (#[.slice none 0 0, .slice none 0 0] : Array Value)[o]?) ∧ Hid (∀ o, W.frozen? ⟨w.heap.size, o, none⟩ = false) ∧ Hid (Below w.heap.size w W) ∧ BB < W.heap.size) := by
        rintro o c rfl rfl
        refine ⟨_, rfl, ?_, ?_, fun o => ?_, fun o => ?_, ?_, by simpa using z3⟩
        · exact (((HT3.out.set k _).congr fun j _ => there_step m2 k j).setOther (by dsimp only; omega) _)
        · exact (((HBy3.out.setOther (a := ⟨w.heap.size + 1, k, none⟩) (by dsimp only; omega) _).set k _).congr fun j _ => bytes_step m2 k j)
        · rw [World.cell?_setCell_far _ _ _ _ (by dsimp only; omega), World.cell?_setCell_far _ _ _ _ (by dsimp only; omega)]; exact HR3.out o
        · rw [World.frozen?_setCell, World.frozen?_setCell]; exact HF3.out o
        · exact (HW3.out.setCell (by dsimp only; omega) _).setCell (by dsimp only; omega) _
      clear hb3 HT HBy HR HFz HW zz
      generalize thereTo m2 k k = q1 at *
      generalize bytesTo m2 k k = q2 at *
      cases hgb : gtByte g k with
      | some c =>
        have hm : m2 k = some c := by rw [HM2.out]; unfold putM; rw [hgb]
        obtain ⟨W, hW, G1, G2, G3, G4, G5, G6⟩ := LAST.out true c (by rw [hm]; rfl) (by rw [hm]; rfl)
        simp only [Option.getD_some, Option.isSome_some]
        have c3 : (w3.setCell ⟨w.heap.size + 1, k, none⟩ (.bool true)).cell? ⟨BB, k, none⟩ = some q2 := by rw [World.cell?_setCell_far _ _ _ _ (by dsimp only; omega)]; exact c2
        have f3 : (w3.setCell ⟨w.heap.size + 1, k, none⟩ (.bool true)).frozen? ⟨BB, k, none⟩ = false := by rw [World.frozen?_setCell]; exact f2
        clear hgb hm LAST HT3 HBy3 HR3 HF3 HW3
        go_wp2_with fail
        go_roundw
        case rel => exact ⟨k + 1, by go_num, by omega, by rw [← hW]; exact G1, by rw [← hW]; exact G2, by rw [← hW]; exact G3, by rw [← hW]; exact G4, by rw [← hW]; exact G5, by rw [← hW]; exact G6⟩
        case measure => simp [intOf]; omega
      | none =>
        have cI := fun w => sInG k x (x + (l.length : Int) - 1) w
        simp only [Option.getD_none, Option.isSome_none]
        by_cases hin : x ≤ (k : Int) ∧ (k : Int) ≤ x + (l.length : Int) - 1
        · have hd : decide (x ≤ (k : Int) ∧ (k : Int) ≤ x + (l.length : Int) - 1) = true := by simp only [decide_eq_true_eq]; exact hin
          rw [hd] at cI
          obtain ⟨n, hn⟩ : ∃ n : Nat, (k : Int) - x = n := ⟨((k : Int) - x).toNat, by omega⟩
          have hnl : n < l.length := by omega
          have hm : m2 k = some (l.getD n 0) := by rw [HM2.out]; unfold putM; rw [hgb]; simp only; rw [if_pos hin, hn]; rfl
          have rl := HL.out w3 HW3.out
          rcases rl.mem with e | ⟨b4, o4, rfl, hc4⟩
          · subst e; simp at hnl
          · have y4 := hc4 n hnl
            obtain ⟨W, hW, G1, G2, G3, G4, G5, G6⟩ := LAST.out true (l.getD n 0) (by rw [hm]; rfl) (by rw [hm]; rfl)
            have c3 : (w3.setCell ⟨w.heap.size + 1, k, none⟩ (.bool true)).cell? ⟨BB, k, none⟩ = some q2 := by rw [World.cell?_setCell_far _ _ _ _ (by dsimp only; omega)]; exact c2
            have f3 : (w3.setCell ⟨w.heap.size + 1, k, none⟩ (.bool true)).frozen? ⟨BB, k, none⟩ = false := by rw [World.frozen?_setCell]; exact f2
            have wx1 : IntKind.i64.wrap (x + (l.length : Int)) = x + (l.length : Int) := by rw [IntKind.wrap_i64]; omega
            clear hgb hm LAST HT3 HBy3 HR3 HF3 HW3 hc4 rl hin hd
            generalize l.getD n 0 = y at *
            go_wp2_with (go_at_call 97; refine (cI _).mono ?_; rintro e w' ⟨rfl, hw⟩; subst w')
            go_roundw
            case rel => exact ⟨k + 1, by go_num, by omega, by rw [← hW]; exact G1, by rw [← hW]; exact G2, by rw [← hW]; exact G3, by rw [← hW]; exact G4, by rw [← hW]; exact G5, by rw [← hW]; exact G6⟩
            case measure => simp [intOf]; omega
        · have hd : decide (x ≤ (k : Int) ∧ (k : Int) ≤ x + (l.length : Int) - 1) = false := by simp only [decide_eq_false_iff_not]; exact hin
          rw [hd] at cI
          have hm : m2 k = none := by rw [HM2.out]; unfold putM; rw [hgb]; simp only; rw [if_neg hin]
          obtain ⟨W, hW, G1, G2, G3, G4, G5, G6⟩ := LAST.out false 0 (by rw [hm]; rfl) (by rw [hm]; rfl)
          have c3 : (w3.setCell ⟨w.heap.size + 1, k, none⟩ (.bool false)).cell? ⟨BB, k, none⟩ = some q2 := by rw [World.cell?_setCell_far _ _ _ _ (by dsimp only; omega)]; exact c2
          have f3 : (w3.setCell ⟨w.heap.size + 1, k, none⟩ (.bool false)).frozen? ⟨BB, k, none⟩ = false := by rw [World.frozen?_setCell]; exact f2
          clear hgb hm LAST HT3 HBy3 HR3 HF3 HW3 hin hd
          go_wp2_with (go_at_call 97; refine (cI _).mono ?_; rintro e w' ⟨rfl, hw⟩; subst w')
          go_roundw
          case rel => exact ⟨k + 1, by go_num, by omega, by rw [← hW]; exact G1, by rw [← hW]; exact G2, by rw [← hW]; exact G3, by rw [← hW]; exact G4, by rw [← hW]; exact G5, by rw [← hW]; exact G6⟩
          case measure => simp [intOf]; omega
    · have hkM : k = M := by omega
      have hge : decide ((k : Int) < 400) = false := by have := HMi.out; simp; omega
      have HT5 : Hid (wr.rowIs (w.heap.size + 1) 4 M (fun j => .bool (m2 j).isSome)) := HT.out.congr fun j hj => by unfold thereTo; simp [show j < k by omega]
      have HB5 : Hid (wr.rowIs BB 5 M (fun j => .int .u8 ((m2 j).getD 0))) := HBy.out.congr fun j hj => by unfold bytesTo; rw [if_pos (by omega)]
      clear HT HBy hkM hlt HC HL
      go_wp2_with fail
      obtain ⟨OK, hOK⟩ : ∃ b, b = wr.heap.size := ⟨_, rfl⟩
      obtain ⟨w5, hw5⟩ : ∃ W, W = wr.alloc (.cells #[.slice none 0 0, .slice none 0 0] 26) := ⟨_, rfl⟩
      rw [← hOK, ← hw5]
      have hb5 : Below wr.heap.size wr w5 := by rw [hw5]; exact (Below.refl _ _).alloc (Nat.le_refl _) _
      have REL0 : Hid (∃ (j : Nat) (a5 : Option Addr) (c5 : Nat) (L : List Int), (0 : Int) = (j : Int) ∧ j ≤ M ∧ Hid (∀ i : Nat, i < j → (m2 i).isSome = true) ∧ Hid (w5.rowIs (w.heap.size + 1) 4 M (fun j => .bool (m2 j).isSome)) ∧ Hid (w5.rowIs BB 5 M (fun j => .int .u8 ((m2 j).getD 0))) ∧
          Hid (∀ o, w5.cell? ⟨w.heap.size, o, none⟩ = (#[.slice none 0 0, .slice none 0 0] : Array Value)[o]?) ∧ Hid (∀ o, w5.frozen? ⟨w.heap.size, o, none⟩ = false) ∧ Hid (Below w.heap.size w w5) ∧ (∀ o, w5.cell? ⟨OK, o, none⟩ = (#[.slice a5 L.length c5, .slice none 0 0] : Array Value)[o]?) ∧ (∀ o, w5.frozen? ⟨OK, o, none⟩ = false) ∧
          Hid (OB w5 (OK + 1) (.slice a5 L.length c5) L) ∧ Hid (L = runL m2 0 j) ∧ OK < w5.heap.size) := by
        refine ⟨0, none, 0, [], rfl, Nat.zero_le _, fun i hi => absurd hi (by omega), HT5.out.of_block (hb5.block _ (by omega)), HB5.out.of_block (hb5.block _ zz), bx_below HR.out (by omega) hb5, fun o => by rw [(bcell hb5).2 _ o (by omega)]; exact HFz.out o, HW.out.trans (hb5.mono HW.out.size), fun o => by rw [hw5, hOK]; simp, fun o => by rw [hw5, hOK]; simp [go_sem], ob_none _ _, rfl, by rw [hw5, hOK]; simp⟩
      have zO : BB < OK := by omega
      clear hw5 hb5 HT5 HB5 HR HFz HW zz hOK
      go_loopw [13] (fun t13 wr => ∃ (j : Nat) (a5 : Option Addr) (c5 : Nat) (L : List Int), t13 = .int .i64 (j : Int) ∧ j ≤ M ∧ Hid (∀ i : Nat, i < j → (m2 i).isSome = true) ∧ Hid (wr.rowIs (w.heap.size + 1) 4 M (fun j => .bool (m2 j).isSome)) ∧ Hid (wr.rowIs BB 5 M (fun j => .int .u8 ((m2 j).getD 0))) ∧
          Hid (∀ o, wr.cell? ⟨w.heap.size, o, none⟩ = (#[.slice none 0 0, .slice none 0 0] : Array Value)[o]?) ∧ Hid (∀ o, wr.frozen? ⟨w.heap.size, o, none⟩ = false) ∧ Hid (Below w.heap.size w wr) ∧ (∀ o, wr.cell? ⟨OK, o, none⟩ = (#[.slice a5 L.length c5, .slice none 0 0] : Array Value)[o]?) ∧ (∀ o, wr.frozen? ⟨OK, o, none⟩ = false) ∧
          Hid (OB wr (OK + 1) (.slice a5 L.length c5) L) ∧ Hid (L = runL m2 0 j) ∧ OK < wr.heap.size) (fun i _ => M - (intOf i).toNat)
      case atStart =>
        obtain ⟨j, a5, c5, L, e, r⟩ := REL0.out
        exact ⟨j, a5, c5, L, by rw [← e], r⟩
      case round =>
        clear REL0
        rename World => wr0
        obtain ⟨j, a5, c5, L, rfl, hj, HAll, HT, HBy, HR, HFz, HW, kO, fO, HO, HLe, zO2⟩ := hrel
        obtain ⟨C, hC⟩ : ∃ C : Bool, C = (decide (j < M) && (m2 j).isSome) := ⟨_, rfl⟩
        have HCC : Hid (C = (decide (j < M) && (m2 j).isSome)) := hC
        clear hC
        go_upto_region 14 with fail
        go_cut [61] (fun u wx => u = .bool C ∧ wx = wr0)
        case first =>
          by_cases hlt : j < M
          · have hlt2 : (j : Int) < 400 := by have := HMi.out; omega
            have cT := HT.out.cell hlt
            have hCe : (m2 j).isSome = C := by rw [HCC.out]; simp [hlt]
            rw [hCe] at cT
            clear kO fO hCe
            go_wp2_with fail
            go_meet
            exact ⟨rfl, rfl⟩
          · have hge2 : decide ((j : Int) < 400) = false := by have := HMi.out; simp; omega
            have hCe : C = false := by rw [HCC.out]; simp [hlt]
            subst hCe
            clear kO fO
            go_wp2_with fail
            go_meet
            exact ⟨rfl, rfl⟩
        case rest =>
          obtain ⟨rfl, hwx⟩ := hcut
          replace hwx := hwx.symm
          subst hwx
          cases C with
          | true =>
            have hh := HCC.out
            simp only [Bool.true_eq, Bool.and_eq_true, decide_eq_true_eq] at hh
            obtain ⟨hlt, hsome⟩ := hh
            obtain ⟨c, hc⟩ := Option.isSome_iff_exists.1 hsome
            have cB := HBy.out.cell hlt
            simp only [hc, Option.getD_some] at cB
            have HCb : Hid (0 ≤ c ∧ c ≤ 255) := HBd.out _ _ hc
            have HMc : Hid (m2 j = some c) := hc
            have hlt2 : (j : Int) < 400 := by have := HMi.out; omega
            have hLl : L.length ≤ 400 := by have h := HLe.out; have := HMM.out; rw [h, runL_len]; omega
            clear hc hsome HCC
            obtain ⟨L2, hL2⟩ : ∃ L2, L2 = L ++ [c] := ⟨_, rfl⟩
            have HL2 : Hid (L2 = L ++ [c]) := hL2
            have HLr : Hid (L2 = runL m2 0 (j + 1)) := by
              show _ = _
              rw [hL2, runL_succ, ← HLe.out, show (0 : Int) + (j : Int) = (j : Int) by omega, HMc.out]; rfl
            clear hL2
            go_wp2_with fail
            go_cut [69] (fun _ wx => ∃ a6 c6, (∀ o, wx.cell? ⟨OK, o, none⟩ = (#[.slice a6 L2.length c6, .slice none 0 0] : Array Value)[o]?) ∧ (∀ o, wx.frozen? ⟨OK, o, none⟩ = false) ∧ Hid (OB wx (OK + 1) (.slice a6 L2.length c6) L2) ∧ Hid (Below OK wr0 wx))
            case first =>
              go_region_law ((refine app_st _ (by rfl) _ _ 22 22 (by rfl) Try.underlying22 Try.underlying22 (OK + 1) (.slice a5 L.length c5) L (by rfl) (by first | exact OB.below HO.out (Nat.le_refl _) (((Below.refl _ _).alloc (Nat.le_refl _) _).drew) | exact OB.below HO.out (Nat.le_refl _) (((Below.refl _ _).drew).alloc (Nat.le_refl _) _) | exact OB.below HO.out (Nat.le_refl _) ((Below.refl _ _).alloc (Nat.le_refl _) _)) (some ⟨wr0.heap.size, 0, none⟩) [c] 1 1 rfl (by rfl) (by first | exact RB.below (rb_one' HCb.out) (Nat.le_refl _) (Below.drew (Below.refl _ _)) | exact rb_one' HCb.out) (by intro e; cases e) (by omega) (by first | omega | (simp; omega)) ?_; intro v6 w6 ho6 hb6 hg6 hat6; rw [← HL2.out] at ho6; obtain ⟨a6, c6, e6, -⟩ := ho6.rb; subst e6; have hbx : Below (OK + 1) wr0 w6 := (by first | exact (((Below.refl _ _).alloc (by omega) _).drew).trans hb6 | exact (((Below.refl _ _).drew).alloc (by simp; omega) _).trans hb6 | exact ((Below.refl _ _).alloc (by omega) _).trans hb6); have k6 : (∀ o, w6.cell? ⟨OK, o, none⟩ = (#[.slice a5 L.length c5, .slice none 0 0] : Array Value)[o]?) := (fun o => (by rw [(bcellB hbx).1 _ o (by omega)]; exact kO o)); have f6 : (∀ o, w6.frozen? ⟨OK, o, none⟩ = false) := (fun o => (by rw [(bcellB hbx).2 _ o (by omega)]; exact fO o)); have HO6 : Hid _ := ho6; have HB6 : Hid _ := hbx; clear ho6 hb6 hg6 hat6 hbx))
              all_goals
                go_wp2_with fail
                go_meet
                refine ⟨a6, c6, fun o => ?_, fun o => by rw [World.frozen?_setCell]; exact f6 o, ?_, ?_⟩
                · by_cases e : o = 0
                  · subst e; rw [World.cell?_setCell_same _ _ _ (k6 0)]; rfl
                  · rw [World.cell?_setCell_other _ _ _ _ (by first | (simp; done) | (simp; omega)), k6 o]
                    match o, e with
                    | o + 1, _ => simp
                · exact OB.keeps HO6.out (fun b hb => Below.heap_setCell _ _ _ _ (by dsimp only; omega))
                · exact (HB6.out.mono (Nat.le_succ _)).setCell (by dsimp only; omega) _
            case rest =>
              rename World => w6
              obtain ⟨a6, c6, kO6, fO6, HO6, hb6⟩ := hcut
              have HT6 : Hid (w6.rowIs (w.heap.size + 1) 4 M (fun j => .bool (m2 j).isSome)) := HT.out.of_block (hb6.out.block _ (by omega))
              have HB6 : Hid (w6.rowIs BB 5 M (fun j => .int .u8 ((m2 j).getD 0))) := HBy.out.of_block (hb6.out.block _ (by omega))
              have HR6 : Hid (∀ o, w6.cell? ⟨w.heap.size, o, none⟩ = (#[.slice none 0 0, .slice none 0 0] : Array Value)[o]?) := fun o => by rw [(bcellB hb6.out).1 _ o (by omega)]; exact HR.out o
              have HF6 : Hid (∀ o, w6.frozen? ⟨w.heap.size, o, none⟩ = false) := fun o => by rw [(bcellB hb6.out).2 _ o (by omega)]; exact HFz.out o
              have HW6 : Hid (Below w.heap.size w w6) := HW.out.trans (hb6.out.mono (by omega))
              have zO6 : OK < w6.heap.size := Nat.lt_of_lt_of_le zO2 hb6.out.size
              have HA6 : Hid (∀ i : Nat, i < j + 1 → (m2 i).isSome = true) := fun i hi => (Nat.lt_or_eq_of_le (Nat.le_of_lt_succ hi)).elim (fun h => HAll.out i h) (fun h => by rw [h, HMc.out]; rfl)
              clear hb6 HT HBy HR HFz HW kO fO HO HLe HAll cB
              go_wp2_with fail
              go_roundw
              case rel => exact ⟨j + 1, a6, c6, L2, by go_num, by omega, HA6, HT6, HB6, HR6, HF6, HW6, kO6, fO6, HO6, HLr, zO6⟩
              case measure => simp [intOf]; omega
          | false =>
            have hh := HCC.out
            have GP : Hid (FirstGap m2 j) := ⟨by have := HMM.out; omega, HAll.out, fun h4 => by
              have := HMM.out
              have h5 : j < M := by omega
              simp only [h5, decide_true, Bool.true_and] at hh
              cases h6 : m2 j with
              | none => rfl
              | some c => rw [h6] at hh; cases hh⟩
            have HGap : Hid (j < M → m2 j = none) := fun h => GP.out.gap (by have := HMM.out; omega)
            have OD : Hid (Own wr0 (OK + 1) wr0.heap.size u8s L [.slice a5 L.length c5]) := own_bytes HO.out (Nat.le_refl _)
            clear hh HCC HAll HO
            go_wp2_with fail
            obtain ⟨q, hq⟩ : ∃ q, q = wr0.heap.size := ⟨_, rfl⟩
            have REL3 : Hid (∃ (i : Nat) (P : List Pc) (a7 : Option Addr) (c7 : Nat), (j : Int) = ((j + i : Nat) : Int) ∧ j + i ≤ M ∧ Hid (P = pcsTo m2 j i) ∧ Hid (wr0.rowIs (w.heap.size + 1) 4 M (fun j => .bool (m2 j).isSome)) ∧ Hid (wr0.rowIs BB 5 M (fun j => .int .u8 ((m2 j).getD 0))) ∧
                Hid (∀ o, wr0.cell? ⟨w.heap.size, o, none⟩ = (#[.slice none 0 0, .slice none 0 0] : Array Value)[o]?) ∧ Hid (∀ o, wr0.frozen? ⟨w.heap.size, o, none⟩ = false) ∧ Hid (Below w.heap.size w wr0) ∧ (∀ o, wr0.cell? ⟨OK, o, none⟩ = (#[.slice a5 L.length c5, .slice a7 P.length c7] : Array Value)[o]?) ∧ (∀ o, wr0.frozen? ⟨OK, o, none⟩ = false) ∧
                Hid (Own wr0 (OK + 1) q u8s L [.slice a5 L.length c5]) ∧ Hid (Own wr0 q wr0.heap.size pcsS P [.slice a7 P.length c7]) ∧ q ≤ wr0.heap.size) :=
              ⟨0, [], none, 0, by simp, by simpa using hj, rfl, HT, HBy, HR, HFz, HW, kO, fO, hq ▸ OD.out, ⟨[], Or.inl ⟨rfl, rfl, rfl⟩, by simp, by simp⟩, by omega⟩
            have zq : OK < q := by omega
            clear HT HBy HR HFz HW kO fO OD hq zO2
            go_loopw [13] (fun t13 wr => ∃ (i : Nat) (P : List Pc) (a7 : Option Addr) (c7 : Nat), t13 = .int .i64 ((j + i : Nat) : Int) ∧ j + i ≤ M ∧ Hid (P = pcsTo m2 j i) ∧ Hid (wr.rowIs (w.heap.size + 1) 4 M (fun j => .bool (m2 j).isSome)) ∧ Hid (wr.rowIs BB 5 M (fun j => .int .u8 ((m2 j).getD 0))) ∧
                Hid (∀ o, wr.cell? ⟨w.heap.size, o, none⟩ = (#[.slice none 0 0, .slice none 0 0] : Array Value)[o]?) ∧ Hid (∀ o, wr.frozen? ⟨w.heap.size, o, none⟩ = false) ∧ Hid (Below w.heap.size w wr) ∧ (∀ o, wr.cell? ⟨OK, o, none⟩ = (#[.slice a5 L.length c5, .slice a7 P.length c7] : Array Value)[o]?) ∧ (∀ o, wr.frozen? ⟨OK, o, none⟩ = false) ∧
                Hid (Own wr (OK + 1) q u8s L [.slice a5 L.length c5]) ∧ Hid (Own wr q wr.heap.size pcsS P [.slice a7 P.length c7]) ∧ q ≤ wr.heap.size) (fun i _ => M - (intOf i).toNat)
            case atStart =>
              obtain ⟨i, P, a7, c7, e, r⟩ := REL3.out
              exact ⟨i, P, a7, c7, by rw [← e], r⟩
            case round =>
              clear REL3
              rename World => wr1
              obtain ⟨i, P, a7, c7, rfl, hi, HP, HT, HBy, HR, HFz, HW, kO, fO, HOD, HOP, zq2⟩ := hrel
              obtain ⟨K, hK⟩ : ∃ K, K = j + i := ⟨_, rfl⟩
              have HK : Hid (K = j + i) := hK
              rw [← hK] at hi ⊢
              clear hK
              by_cases hlt : K < M
              · have hlt2 : (K : Int) < 400 := by have := HMi.out; omega
                have cT := HT.out.cell hlt
                cases hmk : m2 K with
                | none =>
                  rw [hmk] at cT
                  simp only [Option.isSome_none] at cT
                  have HP2 : Hid (P = pcsTo m2 j (i + 1)) := by
                    show _ = _
                    rw [pcsTo_none (by rw [← HK.out]; exact hmk)]; exact HP.out
                  clear hmk HP
                  go_wp2_with fail
                  go_roundw
                  case rel => exact ⟨i + 1, P, a7, c7, by have := HK.out; go_num, by have := HK.out; omega, HP2, HT, HBy, HR, HFz, HW, kO, fO, HOD, HOP, zq2⟩
                  case measure => simp [intOf]; omega
                | some c =>
                  have hjK : j < K := by
                    have := HK.out
                    apply Classical.byContradiction; intro hn
                    have e : K = j := by omega
                    have := HGap.out (by omega)
                    rw [e, this] at hmk; cases hmk
                  obtain ⟨K', rfl⟩ : ∃ K', K = K' + 1 := ⟨K - 1, by omega⟩
                  obtain ⟨i', rfl⟩ : ∃ i', i = i' + 1 := ⟨i - 1, by have := HK.out; omega⟩
                  have HK2 : Hid (K' = j + i') := by have := HK.out; show K' = j + i'; omega
                  rw [hmk] at cT
                  simp only [Option.isSome_some] at cT
                  have cP := HT.out.cell (show K' < M by omega)
                  have cB := HBy.out.cell hlt
                  rw [hmk] at cB
                  simp only [Option.getD_some] at cB
                  have HCb : Hid (0 ≤ c ∧ c ≤ 255) := HBd.out _ _ hmk
                  have hKp : (0 : Int) < (K' : Int) + 1 := by omega
                  have hOK1 : OK < wr1.heap.size := by omega
                  have hBB1 : BB < wr1.heap.size := by omega
                  have hK0 : (0 : Int) ≤ (K' : Int) + 1 := by omega
                  have hKi : (K' : Int) + 1 < (M : Int) := by omega
                  have hKt : ((K' : Int) + 1).toNat = K' + 1 := by omega
                  have HG1 : Hid (m2 j = none) := HGap.out (by omega)
                  have HSt : Hid (pcsTo m2 j (i' + 1 + 1) = if (m2 (K' : Int)).isSome = true then addLast P c else P ++ [((K' : Int) + 1, [c], ())]) := by
                    show stepP m2 (j + (i' + 1)) (pcsTo m2 j (i' + 1)) = _
                    unfold stepP
                    rw [← HK.out, hmk, ← HP.out]
                    simp only
                    rw [show ((K' + 1 : Nat) : Int) - 1 = (K' : Int) by omega, show ((K' + 1 : Nat) : Int) = (K' : Int) + 1 by omega]
                    by_cases hs : (m2 (K' : Int)).isSome = true
                    · rw [if_pos ⟨by omega, hs⟩, if_pos hs]
                    · rw [if_neg (fun h => hs h.2), if_neg hs]
                  have P4 : P.length ≤ 1000000 := by have h1 := pcsTo_length m2 j (i' + 1); have h2 := HP.out; have := HMM.out; have := HK.out; rw [h2]; omega
                  cases hpv : (m2 (K' : Int)).isSome with
                  | true =>
                    rw [hpv] at cP
                    rw [hpv] at HSt
                    obtain ⟨P0, pp, hPe⟩ := pcsTo_last HG1.out i' (by rw [← HK2.out]; exact hpv)
                    have hPP : P = P0 ++ [pp] := HP.out.trans hPe
                    subst hPP
                    obtain ⟨pg, al, cl, ea, en, g1, g2, g3, g4, kl, fl, hobl, hnel, UPD⟩ := own_last HOP.out
                    subst ea
                    have HU : Hid _ := UPD
                    have HOl : Hid _ := hobl
                    have HNl : Hid _ := hnel
                    have HP2 : Hid (P0 ++ [(pp.1, pp.2.1 ++ [c], ())] = pcsTo m2 j (i' + 1 + 1)) := by have := HSt.out; show _ = _; rw [this, if_pos rfl, addLast_snoc]
                    have hdl : pp.2.1.length ≤ 1000000 := by have h1 := pcsTo_data m2 j (i' + 1) pp (by rw [hPe]; simp); have := HMM.out; have := HK.out; omega
                    clear hmk hpv HSt hPe UPD hobl hnel HP en
                    have wxn : IntKind.i64.wrap (P0.length : Int) = (P0.length : Int) := by rw [IntKind.wrap_i64]; have := P4; simp at this; omega
                    have wxp : (P0.length : Int) < (P0.length : Int) + 1 := by omega
                    go_wp2_with fail
                    go_region_law ((refine app_st _ (by rfl) _ _ 22 22 (by rfl) Try.underlying22 Try.underlying22 q (.slice al pp.2.1.length cl) pp.2.1 (by rfl) (by first | exact OB.below HOl.out (Nat.le_refl _) (((Below.refl _ _).alloc (Nat.le_refl _) _).drew) | exact OB.below HOl.out (Nat.le_refl _) (((Below.refl _ _).drew).alloc (Nat.le_refl _) _) | exact OB.below HOl.out (Nat.le_refl _) ((Below.refl _ _).alloc (Nat.le_refl _) _)) (some ⟨wr1.heap.size, 0, none⟩) [c] 1 1 rfl (by rfl) (by first | exact RB.below (rb_one' HCb.out) (Nat.le_refl _) (Below.drew (Below.refl _ _)) | exact rb_one' HCb.out) (by intro e; cases e) (by omega) (by first | omega | (simp; omega)) ?_; intro v6 w6 ho6 hb6 hg6 hat6; obtain ⟨a6, c6, e6, -⟩ := ho6.rb; subst e6; have hk6 : (∀ b, b < wr1.heap.size → (Value.slice al pp.2.1.length cl).ownBlock ≠ some b → w6.heap[b]? = wr1.heap[b]?) := (fun b hb hne => ((hg6.block b (by first | exact hb | (simp; omega)) (fun e => hne e.symm)).trans (by first | exact Below.block (B := wr1.heap.size) (((Below.refl _ _).alloc (Nat.le_refl _) _).drew) b hb | exact Below.block (B := wr1.heap.size) (((Below.refl _ _).drew).alloc (Nat.le_refl _) _) b hb))); have hs6 : wr1.heap.size ≤ w6.heap.size := (by have := hg6.size; simp at this; omega); have ha6 : ((Value.slice a6 (pp.2.1 ++ [c]).length c6).ownBlock = (Value.slice al pp.2.1.length cl).ownBlock ∨ ∃ nb, (Value.slice a6 (pp.2.1 ++ [c]).length c6).ownBlock = some nb ∧ wr1.heap.size ≤ nb) := (hat6.imp id (fun h => ⟨_, h, by simp⟩)); have HF : Hid _ := HU.out w6 _ c ho6 hk6 ha6 hs6; have hbx : Below q wr1 w6 := (by first | exact (((Below.refl _ _).alloc (by omega) _).drew).trans hb6 | exact (((Below.refl _ _).drew).alloc (by simp; omega) _).trans hb6); have HB6 : Hid _ := hbx; have k6 : (∀ o, w6.cell? ⟨OK, o, none⟩ = (#[.slice a5 L.length c5, .slice (some ⟨pg, 0, none⟩) (P0 ++ [pp]).length c7] : Array Value)[o]?) := (fun o => (by rw [(bcellB hbx).1 _ o (by omega)]; exact kO o)); have f6 : (∀ o, w6.frozen? ⟨OK, o, none⟩ = false) := (fun o => (by rw [(bcellB hbx).2 _ o (by omega)]; exact fO o)); have k7 : w6.cell? ⟨pg, P0.length * 2 + 1, none⟩ = some (.slice al pp.2.1.length cl) := (World.cell?_of_block (w := wr1) (a := ⟨pg, P0.length * 2 + 1, none⟩) (hk6 pg g3 HNl.out)).trans kl; have f7 : w6.frozen? ⟨pg, P0.length * 2 + 1, none⟩ = false := (World.frozen?_of_block (w := wr1) (a := ⟨pg, P0.length * 2 + 1, none⟩) (hk6 pg g3 HNl.out)).trans (fl _); clear ho6 hb6 hg6 hat6 hk6 ha6 hbx))
                    all_goals
                      have e9 : (pp.2.1 ++ [c]).length = pp.2.1.length + 1 := by simp
                      have HF9 := HF.out
                      rw [e9] at HF9
                      have HF8 : Hid _ := HF9
                      clear HF HF9 e9 kl fl k7 f7 kO fO cT cP cB
                      go_wp2_with fail
                      go_roundw
                      case rel =>
                        have hbq : Below q wr1 w6 := HB6.out
                        refine ⟨i' + 1 + 1, P0 ++ [(pp.1, pp.2.1 ++ [c], ())], some ⟨pg, 0, none⟩, c7, congrArg (Value.int .i64) (by have := HK2.out; omega), by have := HK2.out; omega, HP2, ?_, ?_, fun o => ?_, fun o => ?_, ?_, fun o => ?_, fun o => ?_, ?_, ?_, by simp; omega⟩
                        · exact (HT.out.of_block (hbq.block _ (by omega))).setOther (by dsimp only; omega) _
                        · exact (HBy.out.of_block (hbq.block _ (by omega))).setOther (by dsimp only; omega) _
                        · rw [World.cell?_setCell_far _ _ _ _ (by dsimp only; omega), (bcellB hbq).1 _ o (by omega)]; exact HR.out o
                        · rw [World.frozen?_setCell, (bcellB hbq).2 _ o (by omega)]; exact HFz.out o
                        · exact (HW.out.trans (hbq.mono (by omega))).setCell (by dsimp only; omega) _
                        · rw [World.cell?_setCell_far _ _ _ _ (by dsimp only; omega), k6 o]; simp
                        · rw [World.frozen?_setCell]; exact f6 o
                        · refine Own.keep HOD.out fun y h1 h2 => ?_
                          rw [Below.heap_setCell _ _ _ _ (by dsimp only; omega)]
                          exact hbq.block y (by omega)
                        · have h := HF8.out
                          refine Own.mono ?_ (Nat.le_refl _) (show w6.heap.size ≤ _ by simp)
                          simpa using h
                      case measure => simp [intOf]; omega
                  | false =>
                    rw [hpv] at cP
                    rw [hpv] at HSt
                    have HP2 : Hid (P ++ [((K' : Int) + 1, [c], ())] = pcsTo m2 j (i' + 1 + 1)) := by have := HSt.out; show _ = _; rw [this, if_neg (by decide)]
                    clear hmk hpv HSt HP
                    obtain ⟨P2, hP2⟩ : ∃ P2, P2 = P ++ [((K' : Int) + 1, [c], ())] := ⟨_, rfl⟩
                    have HPE : Hid (P2 = P ++ [((K' : Int) + 1, [c], ())]) := hP2
                    rw [← hP2] at HP2
                    clear hP2
                    go_wp2_with fail
                    go_region_law ((refine app_elem_st (wr1.drew.alloc (.cells #[.int .u8 c] 5)) (by rfl) _ _ 24 87 (by rfl) pcS (.agg #[.int .i64 0, .slice none 0 0]) 32 Try.underlying24 infoPc rfl (by decide) (by decide) q wr1.heap.size wr1.heap.size (wr1.heap.size + 1) P (.slice a7 P.length c7) (by rfl) (wr1.heap.size + 1) (by simp) (by rfl) (HOP.out.below (Nat.le_refl _) (((Below.refl _ _).drew).alloc (Nat.le_refl _) _)) ((K' : Int) + 1, [c], ()) [.int .i64 ((K' : Int) + 1), .slice (some ⟨wr1.heap.size, 0, none⟩) 1 1] (own_new (w := wr1.drew) HCb.out (by omega) (by omega)) zq2 (Nat.le_refl _) (by simp) (Nat.le_trans P4 (by decide)) (by simp; omega) ?_; intro v6 w6 ho6 hb6 hk6 hs6; rw [← HPE.out] at ho6; obtain ⟨a8, c8, e8, -, -, -⟩ := rd_pcs (ho6.rd (Nat.le_refl _)); simp only [List.cons.injEq, and_true] at e8; subst e8; have hbx : Below q wr1 w6 := ((((Below.refl _ _).drew).alloc zq2 _).trans hb6); have k6 : (∀ o, w6.cell? ⟨OK, o, none⟩ = (#[.slice a5 L.length c5, .slice a7 P.length c7] : Array Value)[o]?) := (fun o => (by rw [(bcellB hbx).1 _ o (by omega)]; exact kO o)); have f6 : (∀ o, w6.frozen? ⟨OK, o, none⟩ = false) := (fun o => (by rw [(bcellB hbx).2 _ o (by omega)]; exact fO o)); have HO6 : Hid _ := ho6; have HB6 : Hid _ := hbx; clear ho6 hb6 hk6 hbx))
                    all_goals
                      clear kO fO cT cP cB
                      go_wp2_with fail
                      go_roundw
                      case rel =>
                        have hbq : Below q wr1 w6 := HB6.out
                        refine ⟨i' + 1 + 1, P2, a8, c8, congrArg (Value.int .i64) (by have := HK2.out; omega), by have := HK2.out; omega, HP2, ?_, ?_, fun o => ?_, fun o => ?_, ?_, fun o => ?_, fun o => ?_, ?_, ?_, by have := hbq.size; simp; omega⟩
                        · exact (HT.out.of_block (hbq.block _ (by omega))).setOther (by dsimp only; omega) _
                        · exact (HBy.out.of_block (hbq.block _ (by omega))).setOther (by dsimp only; omega) _
                        · rw [World.cell?_setCell_far _ _ _ _ (by dsimp only; omega), (bcellB hbq).1 _ o (by omega)]; exact HR.out o
                        · rw [World.frozen?_setCell, (bcellB hbq).2 _ o (by omega)]; exact HFz.out o
                        · exact (HW.out.trans (hbq.mono (by omega))).setCell (by dsimp only; omega) _
                        · by_cases e : o = 1
                          · subst e; rw [World.cell?_setCell_same _ _ _ (k6 1)]; rfl
                          · rw [World.cell?_setCell_other _ _ _ _ (by first | (simp; done) | (simp; omega)), k6 o]
                            match o, e with
                            | 0, _ => rfl
                            | o + 2, _ => simp
                        · rw [World.frozen?_setCell]; exact f6 o
                        · refine Own.keep HOD.out fun y h1 h2 => ?_
                          rw [Below.heap_setCell _ _ _ _ (by dsimp only; omega)]
                          exact hbq.block y (by omega)
                        · refine Own.mono (Own.keep HO6.out fun y h1 h2 => ?_) (Nat.le_refl _) (by simp)
                          rw [Below.heap_setCell _ _ _ _ (by dsimp only; omega)]
                      case measure => simp [intOf]; omega
              · have hge3 : decide ((K : Int) < 400) = false := by have := HMi.out; simp; omega
                have HPe : Hid (P = pcsTo m2 j (400 - j)) := by
                  show _ = _
                  have h := HP.out
                  have := HMM.out
                  have := HK.out
                  rw [h]; congr 1; omega
                have kR := HR.out
                have fR := HFz.out
                clear HP HT HBy HR HFz hlt HGap
                go_wp2_with fail
                refine bodyPost_ret (v := .agg #[.slice a5 L.length c5, .slice a7 P.length c7]) (by simp [results, Try.results56, go_sem, kR]) rfl ⟨_, _, j, rfl, GP.out, ?_, ?_⟩
                · have h1 : Own wr1 (OK + 1) wr1.heap.size gtS (L, P, ()) [.slice a5 L.length c5, .slice a7 P.length c7] :=
                    Own.cons HOD.out (Own.cons HOP.out (Own.nil _ _ _) zq2 (Nat.le_refl _)) (by omega) zq2
                  have e1 : putG m2 j = (L, P, ()) := by unfold putG; rw [← HPe.out, ← HLe.out]
                  rw [e1]
                  refine Own.mono (Own.keep h1 fun y h1 h2 => ?_) (by omega) (by simp)
                  repeat rw [Below.heap_setCell _ _ _ _ (by dsimp only; omega)]
                · have hB1 := HW.out
                  clear kO fO kR fR HOD HOP HW
                  go_grown
end Go.Proofs.Ytnbcefdfdonljaa
