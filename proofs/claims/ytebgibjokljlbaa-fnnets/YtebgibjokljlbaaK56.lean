/- Segments that stand as arrays: SegmentFault, copies and StripSegment by program and model; nothing that was in memory turns; no condition but that a load has at most a million bytes. Written by mknet1.py. -/
import Derived.Test.YtebgibjokljlbaaRows
import Derived.Deep.DeepMust
import Derived.Deep.DeepCutAuto
import Derived.Deep.MidRow
import Derived.Test.YtebgibjokljlbaaK01
import Derived.Test.YtebgibjokljlbaaK02
import Derived.Test.YtebgibjokljlbaaK03
import Derived.Test.YtebgibjokljlbaaK10
import Derived.Test.YtebgibjokljlbaaK17
import Derived.Test.YtebgibjokljlbaaK20
import Derived.Test.YtebgibjokljlbaaK42
import Derived.Test.YtebgibjokljlbaaK43
import Derived.Test.YtebgibjokljlbaaK55
namespace Go.Proofs.Ytebgibjokljlbaa
open Go.RowKit
set_option linter.unusedVariables false
set_option maxRecDepth 8000
def sgOf : DSegm → Seg
  | (y0, y1, y2, y3, y4, y5, y6, y7, y8, y9, y10, ld, _) => ⟨y0, y1, y2, y3, y4, y5, y6, y7, y8, y9, y10, ld⟩
def sgF (x : DSegm) : Int := segFault (sgOf x) (totSegm x)
def stSg : DSegm → DSegm
  | (y0, y1, y2, y3, y4, y5, y6, y7, _, _, _, ld, _) => (y0, y1, y2, y3, y4, y5, y6, y7, 0, 0, 0, ld, ())
/-- The cells of a segment that is read. -/
theorem seg_of {w : World} {B : Nat} {x : DSegm} {A : Array Value} (hr : shSegm.Rd w B x A.toList) : ∃ a cap, A = #[.int .i64 (sgOf x).path, .int .i64 (sgOf x).frm, .bool (sgOf x).syn, .bool (sgOf x).ackd, .bool (sgOf x).rst, .int .i64 (sgOf x).seq, .int .i64 (sgOf x).ack, .int .i64 (sgOf x).fin, .int .i64 (sgOf x).opt, .int .i64 (sgOf x).a, .int .i64 (sgOf x).b, .slice a (totSegm x) cap] ∧ RB w a (sgOf x).load ∧ (sgOf x).load.length = totSegm x ∧ (a = none → cap = 0) := by
  obtain ⟨y0, y1, y2, y3, y4, y5, y6, y7, y8, y9, y10, ld, ⟨⟩⟩ := x
  obtain ⟨u, eA, r, -⟩ := rd_Segm hr
  obtain ⟨a, cap, eu, rb, hn, -⟩ := rd_bytes r
  simp only [List.cons.injEq, and_true] at eu
  subst eu
  exact ⟨a, cap, arr_of eA, rb, rfl, hn⟩
theorem seg_own {w w' : World} {B lo : Nat} {x : DSegm} {cs : List Value} {v : Value} (hr : shSegm.Rd w B x cs) (ho : OB w' lo v (sgOf x).load) : Own w' lo w'.heap.size shSegm x (#[.int .i64 (sgOf x).path, .int .i64 (sgOf x).frm, .bool (sgOf x).syn, .bool (sgOf x).ackd, .bool (sgOf x).rst, .int .i64 (sgOf x).seq, .int .i64 (sgOf x).ack, .int .i64 (sgOf x).fin, .int .i64 (sgOf x).opt, .int .i64 (sgOf x).a, .int .i64 (sgOf x).b, v] : Array Value).toList := by
  obtain ⟨y0, y1, y2, y3, y4, y5, y6, y7, y8, y9, y10, ld, ⟨⟩⟩ := x
  obtain ⟨u, eA, r, w0, w1, w5, w6, w7, w8, w9, w10⟩ := rd_Segm hr
  obtain ⟨bs, h1, h2, h3⟩ := own_bytes ho (Nat.le_refl _)
  exact ⟨bs, mk_Segm h1 w0 w1 w5 w6 w7 w8 w9 w10, h2, h3⟩
theorem seg_ownS {w w' : World} {B lo : Nat} {x : DSegm} {cs : List Value} {v : Value} (hr : shSegm.Rd w B x cs) (ho : OB w' lo v (sgOf x).load) : Own w' lo w'.heap.size shSegm (stSg x) (#[.int .i64 (sgOf x).strip.path, .int .i64 (sgOf x).strip.frm, .bool (sgOf x).strip.syn, .bool (sgOf x).strip.ackd, .bool (sgOf x).strip.rst, .int .i64 (sgOf x).strip.seq, .int .i64 (sgOf x).strip.ack, .int .i64 (sgOf x).strip.fin, .int .i64 (sgOf x).strip.opt, .int .i64 (sgOf x).strip.a, .int .i64 (sgOf x).strip.b, v] : Array Value).toList := by
  obtain ⟨y0, y1, y2, y3, y4, y5, y6, y7, y8, y9, y10, ld, ⟨⟩⟩ := x
  obtain ⟨u, eA, r, w0, w1, w5, w6, w7, w8, w9, w10⟩ := rd_Segm hr
  obtain ⟨bs, h1, h2, h3⟩ := own_bytes ho (Nat.le_refl _)
  exact ⟨bs, mk_Segm h1 w0 w1 w5 w6 w7 (by decide) (by decide) (by decide), h2, h3⟩
theorem sSegF {w : World} {B : Nat} (x : DSegm) (A : Array Value) (W : World) (hr : shSegm.Rd w B x A.toList) :
    Calls Try.prog 65 #[.agg A] W fun e w' => e = .returned (.int .i64 (sgF x)) ∧ Below W.heap.size W w' := by
  obtain ⟨a, cap, e, -⟩ := seg_of hr
  rw [e]
  exact sSegmentFault (sgOf x) a _ cap W
theorem iSegF {w : World} {B : Nat} (x : DSegm) (A : Array Value) (W : World) (hr : shSegm.Rd w B x A.toList) :
    Calls Try.prog 60 #[.agg A] W fun e w' => e = .returned (.int .i64 (sgF x)) ∧ Below W.heap.size W w' := by
  obtain ⟨a, cap, e, -⟩ := seg_of hr
  rw [e]
  exact iSegmentFault (sgOf x) a _ cap W
theorem sCopyA (x : DSegm) (A : Array Value) (w : World) (B : Nat) (hr : shSegm.Rd w B x A.toList) (hn : totSegm x ≤ 1048576) :
    Calls Try.prog 106 #[.agg A] w fun e w' => ∃ N : Array Value, e = .returned (.agg N) ∧ Own w' w.heap.size w'.heap.size shSegm x N.toList ∧ Below w.heap.size w w' := by
  obtain ⟨a, cap, e, rb, hl, hnil⟩ := seg_of hr
  rw [e]
  refine (sCopy (sgOf x) a _ cap w hl rb hnil hn).mono ?_
  rintro e w' ⟨v, he, ho, hb⟩
  exact ⟨_, he, seg_own hr ho, hb⟩
theorem iStripA (x : DSegm) (A : Array Value) (w : World) (B : Nat) (hr : shSegm.Rd w B x A.toList) (hn : totSegm x ≤ 1048576) :
    Calls Try.prog 73 #[.agg A] w fun e w' => ∃ N : Array Value, e = .returned (.agg N) ∧ Own w' w.heap.size w'.heap.size shSegm (stSg x) N.toList ∧ Below w.heap.size w w' := by
  obtain ⟨a, cap, e, rb, hl, hnil⟩ := seg_of hr
  rw [e]
  refine (iStrip (sgOf x) a _ cap w hl rb hnil hn).mono ?_
  rintro e w' ⟨v, he, ho, hb⟩
  exact ⟨_, he, seg_ownS hr ho, hb⟩
set_option maxHeartbeats 1000000 in
theorem iCopySg (s : Seg) (a : Option Addr) (n cap : Nat) (w : World) (hl : s.load.length = n) (hr : RB w a s.load) (hnil : a = none → cap = 0) (hn : n ≤ 1048576) :
    Calls Try.prog 103 #[.agg #[.int .i64 s.path, .int .i64 s.frm, .bool s.syn, .bool s.ackd, .bool s.rst, .int .i64 s.seq, .int .i64 s.ack, .int .i64 s.fin, .int .i64 s.opt, .int .i64 s.a, .int .i64 s.b, .slice a n cap]] w fun e w' => ∃ v, e = .returned (.agg #[.int .i64 s.path, .int .i64 s.frm, .bool s.syn, .bool s.ackd, .bool s.rst, .int .i64 s.seq, .int .i64 s.ack, .int .i64 s.fin, .int .i64 s.opt, .int .i64 s.a, .int .i64 s.b, v]) ∧ OB w' w.heap.size v s.load ∧ Below w.heap.size w w' := by
  have HR : Hid (∀ W, Below w.heap.size w W → RB W a s.load) := fun W h => hr.below (Nat.le_refl _) h
  clear hr
  go_enter Try.func103, Try.ntmps103
  go_wp2_with fail
  refine (iCopyBytes a n cap s.load _ hl (HR.out _ (by go_grown)) hnil hn).mono ?_
  rintro e w5 ⟨v5, rfl, ho5, hb5⟩
  obtain ⟨a5, cap5, rfl, -⟩ := ho5.rb
  have hz := hb5.size
  simp at hz
  have hc0 : ∀ o, w5.cell? ⟨w.heap.size, o, none⟩ = (#[.int .i64 s.path, .int .i64 s.frm, .bool s.syn, .bool s.ackd, .bool s.rst, .int .i64 s.seq, .int .i64 s.ack, .int .i64 s.fin, .int .i64 s.opt, .int .i64 s.a, .int .i64 s.b, .slice a n cap] : Array Value)[o]? := fun o => by rw [(bcell hb5).1 w.heap.size o (by simp; omega)]; simp [go_sem]
  have hc1 : ∀ o, w5.cell? ⟨w.heap.size + 1, o, none⟩ = (#[.int .i64 0, .int .i64 0, .bool false, .bool false, .bool false, .int .i64 0, .int .i64 0, .int .i64 0, .int .i64 0, .int .i64 0, .int .i64 0, .slice none 0 0] : Array Value)[o]? := fun o => by rw [(bcell hb5).1 (w.heap.size + 1) o (by simp)]; simp [go_sem]
  have hf0 := fun o => (bcell hb5).2 w.heap.size o (by simp; omega)
  have hf1 := fun o => (bcell hb5).2 (w.heap.size + 1) o (by simp)
  have z1 : w.heap.size < w5.heap.size := by omega
  have z2 : w.heap.size + 1 < w5.heap.size := by omega
  have HB : Hid _ := hb5
  have HO : Hid _ := ho5
  clear hb5 ho5 hz
  go_wp2
  have hB1 : Below w.heap.size w w5 := Below.trans (by go_grown) (HB.out.mono (by simp; omega))
  refine bodyPost_ret (v := .agg #[.int .i64 s.path, .int .i64 s.frm, .bool s.syn, .bool s.ackd, .bool s.rst, .int .i64 s.seq, .int .i64 s.ack, .int .i64 s.fin, .int .i64 s.opt, .int .i64 s.a, .int .i64 s.b, .slice a5 s.load.length cap5]) (by simp [results, Try.results103, go_sem, hc1, hl]) rfl ⟨_, rfl, ?_, ?_⟩
  · refine OB.mono (OB.keeps HO.out fun g hg => ?_) (by simp; omega)
    simp at hg
    repeat rw [Below.heap_setCell _ _ _ _ (by dsimp only; omega)]
  · clear hc0 hc1 hf0 hf1 HO HB
    go_grown
theorem iCopyA (x : DSegm) (A : Array Value) (w : World) (B : Nat) (hr : shSegm.Rd w B x A.toList) (hn : totSegm x ≤ 1048576) :
    Calls Try.prog 103 #[.agg A] w fun e w' => ∃ N : Array Value, e = .returned (.agg N) ∧ Own w' w.heap.size w'.heap.size shSegm x N.toList ∧ Below w.heap.size w w' := by
  obtain ⟨a, cap, e, rb, hl, hnil⟩ := seg_of hr
  rw [e]
  refine (iCopySg (sgOf x) a _ cap w hl rb hnil hn).mono ?_
  rintro e w' ⟨v, he, ho, hb⟩
  exact ⟨_, he, seg_own hr ho, hb⟩
end Go.Proofs.Ytebgibjokljlbaa

/- Plain facts of nets: what has a fault, what is put. No condition. Written by mknet1.py. -/
namespace Go.Proofs.Ytebgibjokljlbaa
open Go.RowKit
set_option linter.unusedVariables false
theorem sgF_ok {x : DSegm} (h : sgF x = 0) : 0 ≤ x.1 ∧ x.1 ≤ 2 ∧ totSegm x ≤ 8 := by
  obtain ⟨y0, y1, y2, y3, y4, y5, y6, y7, y8, y9, y10, ld, ⟨⟩⟩ := x
  unfold sgF segFault at h
  cases h1 : rangeOk9 (sgOf (y0, y1, y2, y3, y4, y5, y6, y7, y8, y9, y10, ld, ())) with
  | false => rw [h1] at h; simp at h
  | true =>
    rw [h1] at h
    rw [if_neg (by simp)] at h
    split at h
    · omega
    · split at h
      · omega
      · have h2 : inB9 y0 0 2 = true := by
          unfold rangeOk9 at h1
          simp only [Bool.and_eq_true] at h1
          exact h1.1.1.1.1.1.1
        have h3 := (inB_iff9 y0 0 2).1 h2
        exact ⟨h3.1, h3.2, by show totSegm _ ≤ 8; omega⟩
def deadAt (dead : List Bool) (x : DSegm) : Bool := dead.getD x.1.toNat false
def carF (dead : List Bool) : List DSegm → Int
  | [] => 0
  | x :: r => if sgF x ≠ 0 then sgF x else if deadAt dead x = true then 10 else carF dead r
def netF (bag : List DSegm) (dead : List Bool) : Int := if 60 < bag.length then 2 else if dead.length ≠ 3 then 1 else carF dead bag
theorem carF_drop {dead : List Bool} {l : List DSegm} {k : Nat} (hk : k < l.length) : carF dead (l.drop k) = if sgF l[k] ≠ 0 then sgF l[k] else if deadAt dead l[k] = true then 10 else carF dead (l.drop (k + 1)) := by
  rw [List.drop_eq_getElem_cons hk]; rfl
theorem carF_ok {dead : List Bool} : ∀ {l : List DSegm}, carF dead l = 0 → ∀ x ∈ l, sgF x = 0 ∧ deadAt dead x = false
  | [], _, x, hx => by simp at hx
  | y :: r, h, x, hx => by
    unfold carF at h
    by_cases h1 : sgF y = 0
    · rw [if_neg (by simp [h1])] at h
      by_cases h2 : deadAt dead y = true
      · rw [if_pos h2] at h; simp at h
      · rw [if_neg h2] at h
        rcases List.mem_cons.1 hx with rfl | hx
        · exact ⟨h1, by simpa using h2⟩
        · exact carF_ok h x hx
    · rw [if_pos h1] at h; exact absurd h h1
theorem netF_ok {bag : List DSegm} {dead : List Bool} (h : netF bag dead = 0) : bag.length ≤ 60 ∧ dead.length = 3 ∧ ∀ x ∈ bag, sgF x = 0 ∧ deadAt dead x = false := by
  unfold netF at h
  by_cases h1 : 60 < bag.length
  · rw [if_pos h1] at h; simp at h
  · rw [if_neg h1] at h
    by_cases h2 : dead.length = 3
    · rw [if_neg (by simp [h2])] at h
      exact ⟨by omega, h2, carF_ok h⟩
    · rw [if_pos h2] at h; simp at h
/-- One put behind. -/
def put1 (dead : List Bool) (acc : List DSegm) (x : DSegm) : List DSegm := if deadAt dead x = false ∧ acc.length < 60 then acc ++ [x] else acc
def putN (dead : List Bool) (acc list : List DSegm) : List DSegm := list.foldl (put1 dead) acc
theorem putN_app (dead : List Bool) (acc l r : List DSegm) : putN dead acc (l ++ r) = putN dead (putN dead acc l) r := by simp [putN, List.foldl_append]
theorem putN_take {dead : List Bool} {acc l : List DSegm} {k : Nat} (hk : k < l.length) : putN dead acc (l.take (k + 1)) = put1 dead (putN dead acc (l.take k)) l[k] := by
  rw [List.take_succ_eq_append_getElem hk, putN_app]; rfl
theorem putN_all {dead : List Bool} : ∀ (l acc : List DSegm), (∀ x ∈ l, deadAt dead x = false) → acc.length + l.length ≤ 60 → putN dead acc l = acc ++ l
  | [], acc, _, _ => by simp [putN]
  | x :: r, acc, h, hl => by
    have e : putN dead acc (x :: r) = putN dead (put1 dead acc x) r := rfl
    simp only [List.length_cons] at hl
    have e1 : put1 dead acc x = acc ++ [x] := by unfold put1; rw [if_pos ⟨h x (by simp), by omega⟩]
    rw [e, e1, putN_all r (acc ++ [x]) (fun y hy => h y (List.mem_cons_of_mem _ hy)) (by simp; omega)]
    simp
theorem putN_bag {dead : List Bool} {bag : List DSegm} (h : netF bag dead = 0) : putN dead [] bag = bag := by
  have k := netF_ok h
  have := putN_all (dead := dead) bag [] (fun x hx => (k.2.2 x hx).2) (by simp; exact k.1)
  simpa using this
theorem putN_two {dead : List Bool} {bag list : List DSegm} (h : netF bag dead = 0) : putN dead [] (bag ++ list) = putN dead bag list := by rw [putN_app, putN_bag h]
theorem put1_len {dead : List Bool} {acc : List DSegm} {x : DSegm} (h : acc.length ≤ 60) : (put1 dead acc x).length ≤ 60 := by
  unfold put1; split
  · simp; omega
  · exact h
theorem putN_len {dead : List Bool} : ∀ (l acc : List DSegm), acc.length ≤ 60 → (putN dead acc l).length ≤ 60
  | [], _, h => h
  | x :: r, acc, h => putN_len r (put1 dead acc x) (put1_len h)
theorem putN_mem {dead : List Bool} : ∀ (l acc : List DSegm) (x : DSegm), x ∈ putN dead acc l → x ∈ acc ∨ x ∈ l
  | [], _, _, h => Or.inl h
  | y :: r, acc, x, h => by
    rcases putN_mem r (put1 dead acc y) x h with h | h
    · unfold put1 at h; split at h
      · rcases List.mem_append.1 h with h | h
        · exact Or.inl h
        · rw [List.mem_singleton] at h; subst h; exact Or.inr (by simp)
      · exact Or.inl h
    · exact Or.inr (List.mem_cons_of_mem _ h)
end Go.Proofs.Ytebgibjokljlbaa

/- The model's NetFault, and what asks for a place; nothing that was in memory turns; no condition. -/
namespace Go.Proofs.Ytebgibjokljlbaa
open Go.RowKit
set_option linter.unusedVariables false
set_option maxRecDepth 8000

theorem info_SG12 : (Try.prog.info? 48).map (·.size) = some 12 := by kernel_rfl
theorem seg_path {w : World} {B : Nat} {x : DSegm} {cs : List Value} (h : shSegm.Rd w B x cs) : cs[0]? = some (.int .i64 x.1) := by
  obtain ⟨y0, y1, y2, y3, y4, y5, y6, y7, y8, y9, y10, ld, ⟨⟩⟩ := x
  obtain ⟨u, e, -⟩ := rd_Segm h
  rw [e]; rfl
/-- Three bools by their places. -/
theorem dead_at {w : World} {B : Nat} {t : TypeId} {l : List Bool} {a : Option Addr} {n cap : Nat} (h : (bls t).Rd w B l [.slice a n cap]) (hl : l.length = 3) : n = 3 ∧ ∃ b off, a = some ⟨b, off, none⟩ ∧ b < B ∧ ∀ p, p < 3 → w.cell? ⟨b, off + p, none⟩ = some (.bool (l.getD p false)) := by
  obtain ⟨a', cap', e, -, b, off, h1, h2⟩ := rd_bls h
  simp only [Value.slice.injEq] at e
  obtain ⟨rfl, rfl, -⟩ := e
  obtain ⟨q1, q2⟩ := h1 (by intro e; subst e; simp at hl)
  refine ⟨hl, b, off, q1, q2, fun p hp => ?_⟩
  rw [h2 p (by omega), List.getD_eq_getElem?_getD, List.getElem?_eq_getElem (by omega)]; rfl

set_option maxHeartbeats 4000000 in
theorem sL12Fault (t : TypeId) (bag : List DSegm) (dead : List Bool) (p : Nat) (vb vd : Value) (w : World) (B : Nat) (kP : ∀ o, w.cell? ⟨p, o, none⟩ = (#[vb, vd] : Array Value)[o]?) (hp : p < w.heap.size) (hb : shSegms.Rd w B bag [vb]) (hd : (bls t).Rd w B dead [vd]) (hB : B ≤ w.heap.size) :
    Calls Try.prog 64 #[.pointer (some ⟨p, 0, none⟩)] w fun e w' => e = .returned (.int .i64 (netF bag dead)) ∧ Below w.heap.size w w' := by
  obtain ⟨a, cap, ev⟩ := row_form hb
  simp only [List.cons.injEq, and_true] at ev
  subst ev
  obtain ⟨da, dcap, rfl, hdm, -⟩ := rd_bls hd
  have hmx : bag.length ≤ 9223372036854775807 := row_max hb
  obtain ⟨R, hR⟩ : ∃ R, R = netF bag dead := ⟨_, rfl⟩
  rw [← hR]
  by_cases h60 : 60 < bag.length
  · have : R = 2 := by rw [hR]; unfold netF; rw [if_pos h60]
    subst this
    clear hb hd hR
    generalize bag.length = n at *
    generalize dead.length = m at *
    have h60' : decide ((60 : Int) < (n : Int)) = true := by simp; omega
    go_enter Try.func64, Try.ntmps64
    go_wp2_with fail
    go_ret
    exact ⟨rfl, Below.refl _ _⟩
  by_cases h3 : dead.length = 3
  · have e1 : R = carF dead bag := by rw [hR]; unfold netF; rw [if_neg h60, if_neg (by simp [h3])]
    obtain ⟨hd3, db, doff, hda, hdb, hdc⟩ := dead_at hd h3
    subst hda
    have HR : Hid (carF dead (bag.drop 0) = R) := by rw [e1]; rfl
    have HRd : Hid (∀ W, Below w.heap.size w W → shSegms.Rd W B bag [.slice a bag.length cap]) := fun W hW => hb.below hB hW
    have HDC : Hid (∀ W, Below w.heap.size w W → ∀ p, p < 3 → W.cell? ⟨db, doff + p, none⟩ = some (.bool (dead.getD p false))) := fun W hW p hp => (hW.cell (p := ⟨db, doff + p, none⟩) (show db < _ by omega)).trans (hdc p hp)
    have HKP : Hid (∀ W, Below w.heap.size w W → ∀ o, W.cell? ⟨p, o, none⟩ = (#[.slice a bag.length cap, .slice (some ⟨db, doff, none⟩) 3 dcap] : Array Value)[o]?) := fun W hW => bx_below (by rw [h3] at kP; exact kP) hp hW
    have hl60 : bag.length ≤ 60 := by omega
    obtain ⟨n, hn⟩ : ∃ n, bag.length = n := ⟨_, rfl⟩
    have HN : Hid (bag.length = n) := hn
    rw [hn] at HRd HKP hl60
    have k0 := HKP.out w (Below.refl _ _)
    have h60' : decide ((60 : Int) < (n : Int)) = false := by simp; omega
    clear kP hb hd hR e1 hdc hmx hn h60 hdm h3 hd3
    go_enter Try.func64, Try.ntmps64
    go_upto_region 6 with fail
    clear k0
    go_loopw [3] (fun i wr => ∃ k : Nat, k ≤ n ∧ i = .int .i64 k ∧ Hid (carF dead (bag.drop k) = R) ∧ Below w.heap.size w wr) (fun i _ => n - (intOf i).toNat)
    case atStart => exact ⟨0, Nat.zero_le _, rfl, HR, Below.refl _ _⟩
    case round =>
      clear HR
      obtain ⟨k, hk, rfl, HR, hbl⟩ := hrel
      have k0 := HKP.out wr hbl
      by_cases hlt : k < n
      · have hkl : k < bag.length := by have := HN.out; omega
        obtain ⟨b, off, cs, ha, hb, hlen, hrg, r3⟩ := row_at (HRd.out wr hbl) k hkl
        subst ha
        replace hlen : cs.length = 12 := hlen
        replace hrg : wr.rangeAt b (off + k * 12) cs := hrg
        have HI : Hid ((Try.prog.info? 48).map (·.size) = some cs.length) := by show _ = _; rw [hlen]; exact info_SG12
        have HC : Hid (∀ W, Calls Try.prog 65 #[.agg cs.toArray] W fun e w' => e = .returned (.int .i64 (sgF bag[k])) ∧ Below W.heap.size W w') := fun W => sSegF bag[k] cs.toArray W r3
        have hc0 : wr.cell? ⟨b, off + k * 12, none⟩ = some (.int .i64 bag[k].1) := by have := hrg 0 _ (seg_path r3); simpa using this
        have HG : Hid _ := hrg
        have HST : Hid _ := HR.out.symm.trans (carF_drop hkl)
        have HOK : Hid (sgF bag[k] = 0 → 0 ≤ bag[k].1 ∧ bag[k].1 ≤ 2) := fun h => ⟨(sgF_ok h).1, (sgF_ok h).2.1⟩
        have HDD : Hid (deadAt dead bag[k] = dead.getD bag[k].1.toNat false) := rfl
        have hk0 : (0 : Int) ≤ (k : Int) := by omega
        have hki : (k : Int) < (n : Int) := by omega
        have hbw : b < wr.heap.size := by have := hbl.size; omega
        clear r3 hrg hlen HR
        generalize bag[k] = x at *
        have HB : Hid _ := hbl
        go_wp2_with (refine wpList_load_mid rfl 48 _ rfl _ _ (by rfl) cs _ HG.out Try.underlying48 rfl HI.out ?_)
        refine (HC.out _).mono ?_
        rintro e w1 ⟨rfl, hb1⟩
        have HB1 : Hid (Below w.heap.size w w1) := HB.out.trans (hb1.mono HB.out.size)
        replace hc0 := (hb1.cell (p := ⟨b, off + k * 12, none⟩) hbw).trans hc0
        clear k0 hb1 HC HG HI
        have k0 := HKP.out w1 HB1.out
        by_cases hs : sgF x = 0
        · obtain ⟨p0, p1⟩ := HOK.out hs
          obtain ⟨pn, hpn⟩ : ∃ pn : Nat, x.1 = pn := ⟨x.1.toNat, by omega⟩
          have hdc := HDC.out w1 HB1.out pn (by omega)
          have hdd := HDD.out
          rw [hpn] at hc0 hdd
          have e0 : ((pn : Int)).toNat = pn := by omega
          rw [e0] at hdd
          have hst := HST.out
          rw [if_neg (by simp [hs])] at hst
          have q0 : (0 : Int) ≤ (pn : Int) := by omega
          have q1 : (pn : Int) < 3 := by omega
          rw [← hdd] at hdc
          rw [hs]
          have hbl1 := HB1.out
          cases hdx : deadAt dead x with
          | true =>
            rw [hdx] at hdc
            rw [if_pos hdx] at hst
            subst hst
            clear HST hdd hdx HOK HDD hpn
            go_wp2_with fail
            go_quiet (fail)
            go_wp2_with fail
            go_ret
            exact ⟨rfl, below_drewN HB1.out _⟩
          | false =>
            rw [hdx] at hdc
            rw [if_neg (by simp [hdx])] at hst
            have HR2 : Hid (carF dead (bag.drop (k + 1)) = R) := hst.symm
            clear HST hdd hdx HOK HDD hpn hst
            go_wp2_with fail
            go_quiet (fail)
            go_wp2_with fail
            go_roundw
            case rel => exact ⟨k + 1, by omega, by go_num, HR2, below_drewN HB1.out _⟩
            case measure => simp [intOf]; omega
        · have hst := HST.out
          rw [if_pos hs] at hst
          have hs' : (sgF x != 0) = true := by simp [hs]
          have hs2 : (sgF x == 0) = false := by simp [hs]
          have HST2 : Hid (sgF x = R) := hst.symm
          clear HST hst HOK
          generalize sgF x = q at *
          go_wp2_with fail
          go_ret
          exact ⟨ret_int HST2.out, HB1.out⟩
      · obtain rfl : k = n := by omega
        have hr := HR.out
        rw [List.drop_of_length_le (by have := HN.out; omega)] at hr
        have : R = 0 := hr.symm
        subst this
        go_wp2_with fail
        go_ret
        exact ⟨rfl, hbl⟩
  · have : R = 1 := by rw [hR]; unfold netF; rw [if_neg h60, if_pos h3]
    subst this
    have h60' : decide ((60 : Int) < (bag.length : Int)) = false := by simp; omega
    have h3' : ((dead.length : Int) != 3) = true := by simp; omega
    have h3'' : ((dead.length : Int) == 3) = false := by simp; omega
    clear hb hd hR
    generalize bag.length = n at *
    generalize dead.length = m at *
    go_enter Try.func64, Try.ntmps64
    go_wp2_with fail
    go_ret
    exact ⟨rfl, Below.refl _ _⟩
end Go.Proofs.Ytebgibjokljlbaa

/- The program's NetFault: marks as an array, what a segment's path says of it; nothing that was in memory turns; no condition. -/
namespace Go.Proofs.Ytebgibjokljlbaa
open Go.RowKit
set_option linter.unusedVariables false
set_option maxRecDepth 8000

/-- Three marks as an array. -/
def arr3 (l : List Bool) : Array Value := #[.bool (l.getD 0 false), .bool (l.getD 1 false), .bool (l.getD 2 false)]
theorem arr3_at (l : List Bool) (p : Nat) (h : p < 3) : (arr3 l)[p]? = some (.bool (l.getD p false)) := by
  match p, h with
  | 0, _ => rfl
  | 1, _ => rfl
  | 2, _ => rfl
theorem list3 {l : List Bool} (h : l.length = 3) : l = [l.getD 0 false, l.getD 1 false, l.getD 2 false] := by
  match l, h with
  | [a, b, c], _ => rfl
theorem info_dead : (Try.prog.info? 104).map (·.size) = some 3 := by kernel_rfl

set_option maxHeartbeats 2000000 in
theorem iDeadOf (t : TypeId) (dead : List Bool) (v : Value) (w : World) (B : Nat) (hd : (bls t).Rd w B dead [v]) (hB : B ≤ w.heap.size) (h3 : dead.length = 3) :
    Calls Try.prog 62 #[v] w fun e w' => e = .returned (.agg (arr3 dead)) ∧ Below w.heap.size w w' := by
  obtain ⟨da, dcap, rfl, hdm, -⟩ := rd_bls hd
  obtain ⟨-, b, off, ha, hb, hc⟩ := dead_at hd h3
  subst ha
  rw [h3]
  have hbw : b < w.heap.size := by omega
  have c0 := hc 0 (by omega)
  have c1 := hc 1 (by omega)
  have c2 := hc 2 (by omega)
  rw [Nat.add_zero] at c0
  unfold arr3
  clear hd hdm h3 hc
  generalize dead.getD 0 false = d0 at *
  generalize dead.getD 1 false = d1 at *
  generalize dead.getD 2 false = d2 at *
  obtain ⟨N, hN⟩ : ∃ N : Array Value, N = #[.bool d0, .bool d1, .bool d2] := ⟨_, rfl⟩
  rw [← hN]
  have HN : Hid (N = #[.bool d0, .bool d1, .bool d2]) := hN
  clear hN
  go_enter Try.func62, Try.ntmps62
  go_upto_region 3 with fail
  have K : Hid (∀ W, Below w.heap.size w W → W.cell? ⟨b, off, none⟩ = some (.bool d0) ∧ W.cell? ⟨b, off + 1, none⟩ = some (.bool d1) ∧ W.cell? ⟨b, off + 2, none⟩ = some (.bool d2)) := fun W hW => ⟨(hW.cell (p := ⟨b, off, none⟩) hbw).trans c0, (hW.cell (p := ⟨b, off + 1, none⟩) hbw).trans c1, (hW.cell (p := ⟨b, off + 2, none⟩) hbw).trans c2⟩
  have HWA : Hid (Below w.heap.size w ((w.alloc (.cells #[.bool false, .bool false, .bool false] 104)).alloc (.cells #[.bool false, .bool false, .bool false] 104)) ∧ ((w.alloc (.cells #[.bool false, .bool false, .bool false] 104)).alloc (.cells #[.bool false, .bool false, .bool false] 104)).heap.size = w.heap.size + 2 ∧ (∀ o, ((w.alloc (.cells #[.bool false, .bool false, .bool false] 104)).alloc (.cells #[.bool false, .bool false, .bool false] 104)).cell? ⟨w.heap.size, o, none⟩ = (#[.bool false, .bool false, .bool false] : Array Value)[o]?) ∧ (∀ o, ((w.alloc (.cells #[.bool false, .bool false, .bool false] 104)).alloc (.cells #[.bool false, .bool false, .bool false] 104)).cell? ⟨w.heap.size + 1, o, none⟩ = (#[.bool false, .bool false, .bool false] : Array Value)[o]?) ∧ (∀ o, ((w.alloc (.cells #[.bool false, .bool false, .bool false] 104)).alloc (.cells #[.bool false, .bool false, .bool false] 104)).frozen? ⟨w.heap.size, o, none⟩ = false) ∧ (∀ o, ((w.alloc (.cells #[.bool false, .bool false, .bool false] 104)).alloc (.cells #[.bool false, .bool false, .bool false] 104)).frozen? ⟨w.heap.size + 1, o, none⟩ = false)) := ⟨((Below.refl _ _).alloc (Nat.le_refl _) _).alloc (by simp) _, by simp, fun o => by simp [go_sem], fun o => by simp [go_sem], fun o => by simp [go_sem], fun o => by simp [go_sem]⟩
  generalize hWW : (w.alloc (.cells #[.bool false, .bool false, .bool false] 104)).alloc (.cells #[.bool false, .bool false, .bool false] 104) = W1 at HWA ⊢
  clear hWW
  obtain ⟨hb1, hsz, kR, kD, fR, fD⟩ := HWA.out
  clear HWA c0 c1 c2
  go_loopw [5] (fun i wr => ∃ (k : Nat) (e0 e1 e2 : Bool), k ≤ 3 ∧ i = .int .i64 k ∧ wr.heap.size = w.heap.size + 2 ∧ (∀ o, wr.cell? ⟨w.heap.size, o, none⟩ = (#[.bool false, .bool false, .bool false] : Array Value)[o]?) ∧ (∀ o, wr.cell? ⟨w.heap.size + 1, o, none⟩ = (#[.bool e0, .bool e1, .bool e2] : Array Value)[o]?) ∧ (∀ o, wr.frozen? ⟨w.heap.size, o, none⟩ = false) ∧ (∀ o, wr.frozen? ⟨w.heap.size + 1, o, none⟩ = false) ∧ Hid ((0 < k → e0 = d0) ∧ (1 < k → e1 = d1) ∧ (2 < k → e2 = d2)) ∧ Below w.heap.size w wr) (fun i _ => 3 - (intOf i).toNat)
  case atStart => exact ⟨0, false, false, false, by omega, rfl, hsz, kR, kD, fR, fD, ⟨fun h => by omega, fun h => by omega, fun h => by omega⟩, hb1⟩
  case round =>
    clear kR kD fR fD hb1 hsz
    obtain ⟨k, e0, e1, e2, hk, rfl, hsz, kR, kD, fR, fD, HE, hb1⟩ := hrel
    obtain ⟨c0, c1, c2⟩ := K.out wr hb1
    have hz : w.heap.size + 1 < wr.heap.size := by omega
    by_cases hlt : k < 3
    · have hE := HE.out
      have R0 : Hid (∀ v, (∀ o, (wr.setCell ⟨w.heap.size + 1, 0, none⟩ v).cell? ⟨w.heap.size + 1, o, none⟩ = (#[v, .bool e1, .bool e2] : Array Value)[o]?) ∧ (∀ o, (wr.setCell ⟨w.heap.size + 1, 1, none⟩ v).cell? ⟨w.heap.size + 1, o, none⟩ = (#[.bool e0, v, .bool e2] : Array Value)[o]?) ∧ (∀ o, (wr.setCell ⟨w.heap.size + 1, 2, none⟩ v).cell? ⟨w.heap.size + 1, o, none⟩ = (#[.bool e0, .bool e1, v] : Array Value)[o]?)) := fun v => ⟨by simpa using bx_put kD (k := 0) (v := v) (by simp), by simpa using bx_put kD (k := 1) (v := v) (by simp), by simpa using bx_put kD (k := 2) (v := v) (by simp)⟩
      have R1 : Hid (∀ j v, (∀ o, (wr.setCell ⟨w.heap.size + 1, j, none⟩ v).cell? ⟨w.heap.size, o, none⟩ = (#[.bool false, .bool false, .bool false] : Array Value)[o]?) ∧ (∀ o, (wr.setCell ⟨w.heap.size + 1, j, none⟩ v).frozen? ⟨w.heap.size, o, none⟩ = false) ∧ (∀ o, (wr.setCell ⟨w.heap.size + 1, j, none⟩ v).frozen? ⟨w.heap.size + 1, o, none⟩ = false) ∧ Below w.heap.size w (wr.setCell ⟨w.heap.size + 1, j, none⟩ v) ∧ (wr.setCell ⟨w.heap.size + 1, j, none⟩ v).heap.size = w.heap.size + 2) := fun j v => ⟨bx_off kR (by omega), fun o => by rw [World.frozen?_setCell]; exact fR o, fun o => by rw [World.frozen?_setCell]; exact fD o, hb1.setCell (p := ⟨w.heap.size + 1, j, none⟩) (show w.heap.size ≤ w.heap.size + 1 by omega) _, by simpa using hsz⟩
      have HB : Hid _ := hb1
      rcases (show k = 0 ∨ k = 1 ∨ k = 2 by omega) with rfl | rfl | rfl
      · clear HE
        go_wp2_with fail
        go_roundw
        case rel =>
          obtain ⟨q1, q2, q3, q4, q5⟩ := R1.out 0 (.bool d0)
          exact ⟨1, d0, e1, e2, by omega, by go_num, q5, q1, (R0.out _).1, q2, q3, ⟨fun _ => rfl, fun h => by omega, fun h => by omega⟩, q4⟩
        case measure => simp [intOf]
      · clear HE
        go_wp2_with fail
        go_roundw
        case rel =>
          obtain ⟨q1, q2, q3, q4, q5⟩ := R1.out 1 (.bool d1)
          exact ⟨2, e0, d1, e2, by omega, by go_num, q5, q1, (R0.out _).2.1, q2, q3, ⟨fun _ => hE.1 (by omega), fun h => rfl, fun h => by omega⟩, q4⟩
        case measure => simp [intOf]
      · clear HE
        go_wp2_with fail
        go_roundw
        case rel =>
          obtain ⟨q1, q2, q3, q4, q5⟩ := R1.out 2 (.bool d2)
          exact ⟨3, e0, e1, d2, by omega, by go_num, q5, q1, (R0.out _).2.2, q2, q3, ⟨fun _ => hE.1 (by omega), fun h => hE.2.1 (by omega), fun h => rfl⟩, q4⟩
        case measure => simp [intOf]
    · obtain rfl : k = 3 := by omega
      have hE := HE.out
      have hN := HN.out
      rw [← hE.1 (by omega), ← hE.2.1 (by omega), ← hE.2.2 (by omega)] at hN
      have HB : Hid _ := hb1
      rw [← hN] at kD
      have hNz : N.size = 3 := by rw [hN]; rfl
      have HIN : Hid ((Try.prog.info? 104).map (·.size) = some N.size) := by show _ = _; rw [hNz]; exact info_dead
      have HIN2 : Hid ((Try.prog.info? 104).map (·.size) = some N.toList.length) := by show _ = _; rw [Array.length_toList]; exact HIN.out
      have HONE : Hid (N.all (·.oneCell') = true) := by show _ = _; rw [hN]; simp [Value.oneCell']
      have HTH : Hid (wr.there w.heap.size 0 N.size) := bx_there kR fR (by rw [hNz]; rfl)
      have kQ : Hid (∀ o, (wr.setCells w.heap.size 0 N.toList).cell? ⟨w.heap.size, o, none⟩ = N[o]?) := bx_setCells kR (by rw [hNz]; rfl)
      clear hN hNz HE hE c0 c1 c2 kR
      go_wp2_with (first | (refine wpList_load_mid rfl 104 _ rfl _ _ (by rfl) N.toList _ (bx_range kD) Try.underlying104 rfl HIN2.out ?_) | (refine wpList_store_mid rfl 104 _ _ rfl _ _ N (by rfl) (by rfl) HTH.out HIN.out HONE.out ?_))
      refine bodyPost_ret (results_box Try.results62 _ _ _ N _ (by rfl) kQ.out Try.underlying104 rfl (by exact HIN.out)) rfl ⟨rfl, ?_⟩
      exact setCells_below (Nat.le_refl _) _ _ _ _ HB.out

set_option maxHeartbeats 2000000 in
theorem iCarried {w : World} {B : Nat} (x : DSegm) (A : Array Value) (dead : List Bool) (W : World) (hr : shSegm.Rd w B x A.toList) :
    Calls Try.prog 69 #[.agg A, .agg (arr3 dead)] W fun e w' => e = .returned (.int .i64 (if sgF x ≠ 0 then sgF x else if deadAt dead x = true then 10 else 0)) ∧ Below W.heap.size W w' := by
  have hAz : A.size = 12 := rd_size hr
  have HI : Hid ((Try.prog.info? 48).map (·.size) = some A.toList.length) := by show _ = _; rw [Array.length_toList, hAz]; exact info_SG12
  have HC : Hid (∀ W, Calls Try.prog 60 #[.agg A] W fun e w' => e = .returned (.int .i64 (sgF x)) ∧ Below W.heap.size W w') := fun W => iSegF x A W hr
  have hc0 : A[0]? = some (.int .i64 x.1) := by have := seg_path hr; rwa [Array.getElem?_toList] at this
  have HOK : Hid (sgF x = 0 → 0 ≤ x.1 ∧ x.1 ≤ 2) := fun h => ⟨(sgF_ok h).1, (sgF_ok h).2.1⟩
  have HDD : Hid (deadAt dead x = dead.getD x.1.toNat false) := rfl
  have HDA : Hid (∀ p, p < 3 → (arr3 dead)[p]? = some (.bool (dead.getD p false))) := arr3_at dead
  generalize arr3 dead = D at *
  generalize hRR : (if sgF x ≠ 0 then sgF x else if deadAt dead x = true then 10 else 0) = R
  have HRR : Hid ((if sgF x ≠ 0 then sgF x else if deadAt dead x = true then 10 else 0) = R) := hRR
  clear hRR
  have HWA : Hid (Below W.heap.size W ((W.alloc (.cells A 48)).alloc (.cells D 104)) ∧ ((W.alloc (.cells A 48)).alloc (.cells D 104)).heap.size = W.heap.size + 2 ∧ (∀ o, ((W.alloc (.cells A 48)).alloc (.cells D 104)).cell? ⟨W.heap.size, o, none⟩ = A[o]?) ∧ (∀ o, ((W.alloc (.cells A 48)).alloc (.cells D 104)).cell? ⟨W.heap.size + 1, o, none⟩ = D[o]?)) := ⟨((Below.refl _ _).alloc (Nat.le_refl _) _).alloc (by simp) _, by simp, fun o => by simp [go_sem], fun o => by simp [go_sem]⟩
  clear hr hAz
  go_enter Try.func69, Try.ntmps69
  go_upto_region 1 with fail
  generalize hWW : (W.alloc (.cells A 48)).alloc (.cells D 104) = W1 at HWA ⊢
  clear hWW
  obtain ⟨hb, hsz, kA, kD⟩ := HWA.out
  clear HWA
  go_wp2_with (refine wpList_load_mid rfl 48 _ rfl _ _ (by rfl) A.toList _ (bx_range kA) Try.underlying48 rfl HI.out ?_)
  refine (HC.out _).mono ?_
  rintro e w1 ⟨rfl, hb1⟩
  replace kA := bx_below kA (by omega) hb1
  replace kD := bx_below kD (by omega) hb1
  have HB : Hid (Below W.heap.size W w1) := hb.trans (hb1.mono hb.size)
  clear hb hb1 hsz HC
  by_cases hs : sgF x = 0
  · obtain ⟨p0, p1⟩ := HOK.out hs
    obtain ⟨pn, hpn⟩ : ∃ pn : Nat, x.1 = pn := ⟨x.1.toNat, by omega⟩
    have hdd := HDD.out
    rw [hpn] at hc0 hdd
    have e0 : ((pn : Int)).toNat = pn := by omega
    rw [e0] at hdd
    have hdx := HDA.out pn (by omega)
    rw [← hdd] at hdx
    have q0 : (0 : Int) ≤ (pn : Int) := by omega
    have q1 : (pn : Int) < 3 := by omega
    rw [hs]
    clear HDA HDD HOK hdd
    cases hd : deadAt dead x with
    | true =>
      rw [hd] at hdx
      have HR2 : Hid ((10 : Int) = R) := by have h := HRR.out; rwa [if_neg (by simp [hs]), if_pos hd] at h
      clear hpn hd HRR
      go_wp2_with fail
      go_ret
      exact ⟨ret_int HR2.out, HB.out⟩
    | false =>
      rw [hd] at hdx
      have HR2 : Hid ((0 : Int) = R) := by have h := HRR.out; rwa [if_neg (by simp [hs]), if_neg (by simp [hd])] at h
      clear hpn hd HRR
      go_wp2_with fail
      go_ret
      exact ⟨ret_int HR2.out, HB.out⟩
  · have HR2 : Hid (sgF x = R) := by have h := HRR.out; rwa [if_pos hs] at h
    clear HRR
    have hs' : (sgF x != 0) = true := by simp [hs]
    have hs2 : (sgF x == 0) = false := by simp [hs]
    clear HOK HDD HDA
    generalize sgF x = q at *
    go_wp2_with fail
    go_ret
    exact ⟨ret_int HR2.out, HB.out⟩

set_option maxHeartbeats 4000000 in
theorem iNetFault (t : TypeId) (bag : List DSegm) (dead : List Bool) (vb vd : Value) (w : World) (B : Nat) (hb : shSegms.Rd w B bag [vb]) (hd : (bls t).Rd w B dead [vd]) (hB : B ≤ w.heap.size) :
    Calls Try.prog 23 #[.agg #[vb, vd]] w fun e w' => e = .returned (.int .i64 (netF bag dead)) ∧ Below w.heap.size w w' := by
  obtain ⟨a, cap, ev⟩ := row_form hb
  simp only [List.cons.injEq, and_true] at ev
  subst ev
  obtain ⟨da, dcap, rfl, hdm, -⟩ := rd_bls hd
  have hmx : bag.length ≤ 9223372036854775807 := row_max hb
  obtain ⟨R, hR⟩ : ∃ R, R = netF bag dead := ⟨_, rfl⟩
  rw [← hR]
  by_cases h60 : 60 < bag.length
  · have : R = 2 := by rw [hR]; unfold netF; rw [if_pos h60]
    subst this
    clear hb hd hR
    generalize bag.length = n at *
    generalize dead.length = m at *
    have h60' : decide ((60 : Int) < (n : Int)) = true := by simp; omega
    go_enter Try.func23, Try.ntmps23
    go_wp2_with fail
    go_ret
    exact ⟨rfl, by go_grown⟩
  by_cases h3 : dead.length = 3
  · have e1 : R = carF dead bag := by rw [hR]; unfold netF; rw [if_neg h60, if_neg (by simp [h3])]
    have HR : Hid (carF dead (bag.drop 0) = R) := by rw [e1]; rfl
    have HRd : Hid (∀ W, Below w.heap.size w W → shSegms.Rd W B bag [.slice a bag.length cap]) := fun W hW => hb.below hB hW
    have HDO : Hid (∀ W, Below w.heap.size w W → Calls Try.prog 62 #[.slice da dead.length dcap] W fun e w' => e = .returned (.agg (arr3 dead)) ∧ Below W.heap.size W w') := fun W hW => iDeadOf t dead _ W B (hd.below hB hW) (Nat.le_trans hB hW.size) h3
    have hl60 : bag.length ≤ 60 := by omega
    obtain ⟨n, hn⟩ : ∃ n, bag.length = n := ⟨_, rfl⟩
    have HN : Hid (bag.length = n) := hn
    rw [h3] at HDO ⊢
    rw [hn] at HRd hl60 ⊢
    have h60' : decide ((60 : Int) < (n : Int)) = false := by simp; omega
    clear hb hd hR e1 hmx hn h60 hdm h3
    have hDz : (arr3 dead).size = 3 := rfl
    have HC : Hid (∀ (W0 W : World) (B : Nat) (x : DSegm) (A : Array Value), shSegm.Rd W0 B x A.toList → Calls Try.prog 69 #[.agg A, .agg (arr3 dead)] W fun e w' => e = .returned (.int .i64 (if sgF x ≠ 0 then sgF x else if deadAt dead x = true then 10 else 0)) ∧ Below W.heap.size W w') := fun W0 W B x A h => iCarried x A dead W h
    have HOD : Hid ((arr3 dead).all (·.oneCell') = true) := by show _ = _; unfold arr3; simp [Value.oneCell']
    generalize arr3 dead = D at *
    have HDZ : Hid (D.size = 3) := hDz
    have HID : Hid ((Try.prog.info? 104).map (·.size) = some D.size) := by show _ = _; rw [hDz]; exact info_dead
    have HID2 : Hid ((Try.prog.info? 104).map (·.size) = some D.toList.length) := by show _ = _; rw [Array.length_toList]; exact HID.out
    clear hDz
    go_enter Try.func23, Try.ntmps23
    go_wp2_with fail
    refine (HDO.out _ ((Below.refl _ _).alloc (Nat.le_refl _) _)).mono ?_
    rintro e w1 ⟨rfl, hb1⟩
    have k0 := bx_new hb1
    obtain ⟨hb2, z0⟩ := bl_new hb1
    have HTH : Hid ((w1.alloc (.cells #[.bool false, .bool false, .bool false] 104)).there w1.heap.size 0 D.size) := bx_there (bx_al _ _ _) (fx_al _ _ _) (by rw [HDZ.out]; rfl)
    have HW2 : Hid (Below w1.heap.size w1 ((w1.alloc (.cells #[.bool false, .bool false, .bool false] 104)).setCells w1.heap.size 0 D.toList) ∧ w1.heap.size < ((w1.alloc (.cells #[.bool false, .bool false, .bool false] 104)).setCells w1.heap.size 0 D.toList).heap.size ∧ (∀ o, ((w1.alloc (.cells #[.bool false, .bool false, .bool false] 104)).setCells w1.heap.size 0 D.toList).cell? ⟨w1.heap.size, o, none⟩ = D[o]?)) := ⟨setCells_below (Nat.le_refl _) _ _ _ _ ((Below.refl _ _).alloc (Nat.le_refl _) _), by rw [setCells_size]; simp, bx_setCells (bx_al w1 _ _) (by rw [HDZ.out]; rfl)⟩
    clear hb1
    go_upto_region 6 with (refine wpList_store_mid rfl 104 _ _ rfl _ _ D (by rfl) (by rfl) HTH.out HID.out HOD.out ?_)
    generalize hWW : (w1.alloc (.cells #[.bool false, .bool false, .bool false] 104)).setCells w1.heap.size 0 D.toList = w2 at HW2 ⊢
    clear hWW HTH
    obtain ⟨hb3, z1, kD⟩ := HW2.out
    clear HW2
    replace k0 := bx_below k0 z0 hb3
    have hwd : w.heap.size < w1.heap.size := z0
    obtain ⟨q, hq⟩ : ∃ q, q = w1.heap.size := ⟨_, rfl⟩
    have HB : Hid (Below w.heap.size w w2) := hb2.trans (hb3.mono hb2.size)
    rw [← hq] at z1 kD hwd ⊢
    clear hb2 hb3 hq z0
    go_upto_region 7 with fail
    go_loopw [21] (fun i wr => ∃ k : Nat, k ≤ n ∧ i = .int .i64 k ∧ Hid (carF dead (bag.drop k) = R) ∧ (∀ o, wr.cell? ⟨q, o, none⟩ = D[o]?) ∧ q < wr.heap.size ∧ Hid (Below w.heap.size w wr)) (fun i _ => n - (intOf i).toNat)
    case atStart => exact ⟨0, Nat.zero_le _, rfl, HR, kD, z1, HB⟩
    case round =>
      clear HR kD z1 HB k0
      obtain ⟨k, hk, rfl, HR, kD, z1, HB⟩ := hrel
      by_cases hlt : k < n
      · have hkl : k < bag.length := by have := HN.out; omega
        obtain ⟨b, off, cs, ha, hb, hlen, hrg, r3⟩ := row_at (HRd.out wr HB.out) k hkl
        subst ha
        replace hlen : cs.length = 12 := hlen
        replace hrg : wr.rangeAt b (off + k * 12) cs := hrg
        have HI : Hid ((Try.prog.info? 48).map (·.size) = some cs.length) := by show _ = _; rw [hlen]; exact info_SG12
        have HI2 : Hid ((Try.prog.info? 48).map (·.size) = some cs.toArray.size) := by show _ = _; rw [List.size_toArray]; exact HI.out
        have HI3 : Hid ((Try.prog.info? 48).map (·.size) = some cs.toArray.toList.length) := HI
        have HONE : Hid (cs.toArray.all (·.oneCell') = true) := all_oneCell_toArray (rd_one _ _ _ r3)
        have HLX : Hid (cs.toArray.size = 12) := by show _ = _; rw [List.size_toArray]; exact hlen
        have HCC : Hid (∀ W, Calls Try.prog 69 #[.agg cs.toArray, .agg D] W fun e w' => e = .returned (.int .i64 (if sgF bag[k] ≠ 0 then sgF bag[k] else if deadAt dead bag[k] = true then 10 else 0)) ∧ Below W.heap.size W w') := fun W => HC.out wr W B bag[k] cs.toArray r3
        have HG : Hid _ := hrg
        have HST : Hid _ := HR.out.symm.trans (carF_drop hkl)
        have hk0 : (0 : Int) ≤ (k : Int) := by omega
        have hki : (k : Int) < (n : Int) := by omega
        clear r3 hrg hlen HR
        generalize bag[k] = x at *
        have HTX : Hid ((wr.alloc (.cells #[.int .i64 0, .int .i64 0, .bool false, .bool false, .bool false, .int .i64 0, .int .i64 0, .int .i64 0, .int .i64 0, .int .i64 0, .int .i64 0, .slice none 0 0] 48)).there wr.heap.size 0 cs.toArray.size) := bx_there (bx_al _ _ _) (fx_al _ _ _) (by rw [HLX.out]; rfl)
        have HW3 : Hid (Below wr.heap.size wr ((wr.alloc (.cells #[.int .i64 0, .int .i64 0, .bool false, .bool false, .bool false, .int .i64 0, .int .i64 0, .int .i64 0, .int .i64 0, .int .i64 0, .int .i64 0, .slice none 0 0] 48)).setCells wr.heap.size 0 cs.toArray.toList) ∧ wr.heap.size < ((wr.alloc (.cells #[.int .i64 0, .int .i64 0, .bool false, .bool false, .bool false, .int .i64 0, .int .i64 0, .int .i64 0, .int .i64 0, .int .i64 0, .int .i64 0, .slice none 0 0] 48)).setCells wr.heap.size 0 cs.toArray.toList).heap.size ∧ (∀ o, ((wr.alloc (.cells #[.int .i64 0, .int .i64 0, .bool false, .bool false, .bool false, .int .i64 0, .int .i64 0, .int .i64 0, .int .i64 0, .int .i64 0, .int .i64 0, .slice none 0 0] 48)).setCells wr.heap.size 0 cs.toArray.toList).cell? ⟨wr.heap.size, o, none⟩ = cs.toArray[o]?)) := ⟨setCells_below (Nat.le_refl _) _ _ _ _ ((Below.refl _ _).alloc (Nat.le_refl _) _), by rw [setCells_size]; simp, bx_setCells (bx_al wr _ _) (by rw [HLX.out]; rfl)⟩
        go_upto_region 9 with (first | (refine wpList_load_mid rfl 48 _ rfl _ _ (by rfl) cs _ HG.out Try.underlying48 rfl HI.out ?_) | (refine wpList_store_mid rfl 48 _ _ rfl _ _ cs.toArray (by rfl) (by rfl) HTX.out HI2.out HONE.out ?_))
        generalize hWW : (wr.alloc (.cells #[.int .i64 0, .int .i64 0, .bool false, .bool false, .bool false, .int .i64 0, .int .i64 0, .int .i64 0, .int .i64 0, .int .i64 0, .int .i64 0, .slice none 0 0] 48)).setCells wr.heap.size 0 cs.toArray.toList = V at HW3 ⊢
        clear hWW HTX HG
        obtain ⟨hbV, zV, kP⟩ := HW3.out
        clear HW3
        replace kD := bx_below kD z1 hbV
        replace HB : Hid (Below w.heap.size w V) := HB.out.trans (hbV.mono HB.out.size)
        obtain ⟨pB, hpB⟩ : ∃ pB, pB = wr.heap.size := ⟨_, rfl⟩
        rw [← hpB] at kP zV z1 ⊢
        clear hbV
        have zq : q < V.heap.size := by omega
        go_wp2_with (first | (refine wpList_load_mid rfl 48 _ rfl _ _ (by rfl) cs.toArray.toList _ (bx_range kP) Try.underlying48 rfl HI3.out ?_) | (refine wpList_load_mid rfl 104 _ rfl _ _ (by rfl) D.toList _ (bx_range kD) Try.underlying104 rfl HID2.out ?_))
        refine (HCC.out _).mono ?_
        rintro e w5 ⟨rfl, hb5⟩
        replace kD := bx_below kD zq hb5
        have z5 : q < w5.heap.size := Nat.lt_of_lt_of_le zq hb5.size
        replace HB : Hid (Below w.heap.size w w5) := HB.out.trans (hb5.mono HB.out.size)
        clear hb5 HCC kP HONE HI HI2 HI3
        have hst := HST.out
        by_cases hs : sgF x = 0
        · rw [if_neg (by simp [hs])] at hst ⊢
          cases hdx : deadAt dead x with
          | true =>
            rw [if_pos hdx] at hst
            rw [if_pos rfl]
            subst hst
            clear HST
            go_wp2_with fail
            go_ret
            exact ⟨rfl, HB.out⟩
          | false =>
            rw [if_neg (by simp [hdx])] at hst
            rw [if_neg (by simp)]
            have HR2 : Hid (carF dead (bag.drop (k + 1)) = R) := hst.symm
            clear HST hst
            go_wp2_with fail
            go_roundw
            case rel => exact ⟨k + 1, by omega, by go_num, HR2, kD, z5, HB⟩
            case measure => simp [intOf]; omega
        · rw [if_pos hs] at hst ⊢
          have hs' : (sgF x != 0) = true := by simp [hs]
          have hs2 : (sgF x == 0) = false := by simp [hs]
          have HST2 : Hid (sgF x = R) := hst.symm
          clear HST hst
          generalize sgF x = q at *
          go_wp2_with fail
          go_ret
          exact ⟨ret_int HST2.out, HB.out⟩
      · obtain rfl : k = n := by omega
        have hr := HR.out
        rw [List.drop_of_length_le (by have := HN.out; omega)] at hr
        have : R = 0 := hr.symm
        subst this
        go_wp2_with fail
        go_ret
        exact ⟨rfl, HB.out⟩
  · have : R = 1 := by rw [hR]; unfold netF; rw [if_neg h60, if_pos h3]
    subst this
    have h60' : decide ((60 : Int) < (bag.length : Int)) = false := by simp; omega
    have h3' : ((dead.length : Int) != 3) = true := by simp; omega
    have h3'' : ((dead.length : Int) == 3) = false := by simp; omega
    clear hb hd hR
    generalize bag.length = n at *
    generalize dead.length = m at *
    go_enter Try.func23, Try.ntmps23
    go_wp2_with fail
    go_ret
    exact ⟨rfl, by go_grown⟩
end Go.Proofs.Ytebgibjokljlbaa
