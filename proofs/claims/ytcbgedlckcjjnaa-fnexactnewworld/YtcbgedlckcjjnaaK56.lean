/- Segments that stand as arrays: SegmentFault, copies and StripSegment by program and model; nothing that was in memory turns; no condition but that a load has at most a million bytes. Written by mknet1.py. -/
import Derived.Test.YtcbgedlckcjjnaaRows
import Derived.Deep.DeepMust
import Derived.Deep.DeepCutAuto
import Derived.Deep.MidRow
import Derived.Test.YtcbgedlckcjjnaaK01
import Derived.Test.YtcbgedlckcjjnaaK02
import Derived.Test.YtcbgedlckcjjnaaK03
import Derived.Test.YtcbgedlckcjjnaaK10
import Derived.Test.YtcbgedlckcjjnaaK17
import Derived.Test.YtcbgedlckcjjnaaK20
import Derived.Test.YtcbgedlckcjjnaaK42
import Derived.Test.YtcbgedlckcjjnaaK43
import Derived.Test.YtcbgedlckcjjnaaK55
namespace Go.Proofs.Ytcbgedlckcjjnaa
open Go.RowKit
set_option linter.unusedVariables false
set_option maxRecDepth 8000
def sgOf : DSegm → Seg
  | (y0, y1, y2, y3, y4, y5, y6, y7, y8, y9, y10, ld, _) => ⟨y0, y1, y2, y3, y4, y5, y6, y7, y8, y9, y10, ld⟩
def sgF (x : DSegm) : Int := segFault (sgOf x) (totSegm x)
def stSg : DSegm → DSegm
  | (y0, y1, y2, y3, y4, y5, y6, y7, _, _, _, ld, _) => (y0, y1, y2, y3, y4, y5, y6, y7, 0, 0, 0, ld, ())
/-- The cells of a segment that is read. -/
theorem seg_of {w : World} {B : Nat} {x : DSegm} {A : Array Value} (hr : shSegm.Rd w B x A.toList) : ∃ a cap, A = #[.int .i64 (sgOf x).path, .int .i64 (sgOf x).frm, .bool (sgOf x).syn, .bool (sgOf x).ackd, .bool (sgOf x).rst, .int .i64 (sgOf x).seq, .int .i64 (sgOf x).ack, .int .i64 (sgOf x).fin, .int .i64 (sgOf x).opt, .int .i64 (sgOf x).a, .int .i64 (sgOf x).b, .slice a (totSegm x) cap] ∧ RB w a (sgOf x).load ∧ (sgOf x).load.length = totSegm x ∧ (a = none → cap = 0) := by
  obtain ⟨y0, y1, y2, y3, y4, y5, y6, y7, y8, y9, y10, ld, ⟨⟩⟩ := x
  obtain ⟨u, eA, r, -⟩ := rd_Segm hr
  obtain ⟨a, cap, eu, rb, hn, -⟩ := rd_bytes r
  simp only [List.cons.injEq, and_true] at eu
  subst eu
  exact ⟨a, cap, arr_of eA, rb, rfl, hn⟩
theorem seg_own {w w' : World} {B lo : Nat} {x : DSegm} {cs : List Value} {v : Value} (hr : shSegm.Rd w B x cs) (ho : OB w' lo v (sgOf x).load) : Own w' lo w'.heap.size shSegm x (#[.int .i64 (sgOf x).path, .int .i64 (sgOf x).frm, .bool (sgOf x).syn, .bool (sgOf x).ackd, .bool (sgOf x).rst, .int .i64 (sgOf x).seq, .int .i64 (sgOf x).ack, .int .i64 (sgOf x).fin, .int .i64 (sgOf x).opt, .int .i64 (sgOf x).a, .int .i64 (sgOf x).b, v] : Array Value).toList := by
  obtain ⟨y0, y1, y2, y3, y4, y5, y6, y7, y8, y9, y10, ld, ⟨⟩⟩ := x
  obtain ⟨u, eA, r, w0, w1, w5, w6, w7, w8, w9, w10⟩ := rd_Segm hr
  obtain ⟨bs, h1, h2, h3⟩ := own_bytes ho (Nat.le_refl _)
  exact ⟨bs, mk_Segm h1 w0 w1 w5 w6 w7 w8 w9 w10, h2, h3⟩
theorem seg_ownS {w w' : World} {B lo : Nat} {x : DSegm} {cs : List Value} {v : Value} (hr : shSegm.Rd w B x cs) (ho : OB w' lo v (sgOf x).load) : Own w' lo w'.heap.size shSegm (stSg x) (#[.int .i64 (sgOf x).strip.path, .int .i64 (sgOf x).strip.frm, .bool (sgOf x).strip.syn, .bool (sgOf x).strip.ackd, .bool (sgOf x).strip.rst, .int .i64 (sgOf x).strip.seq, .int .i64 (sgOf x).strip.ack, .int .i64 (sgOf x).strip.fin, .int .i64 (sgOf x).strip.opt, .int .i64 (sgOf x).strip.a, .int .i64 (sgOf x).strip.b, v] : Array Value).toList := by
  obtain ⟨y0, y1, y2, y3, y4, y5, y6, y7, y8, y9, y10, ld, ⟨⟩⟩ := x
  obtain ⟨u, eA, r, w0, w1, w5, w6, w7, w8, w9, w10⟩ := rd_Segm hr
  obtain ⟨bs, h1, h2, h3⟩ := own_bytes ho (Nat.le_refl _)
  exact ⟨bs, mk_Segm h1 w0 w1 w5 w6 w7 (by decide) (by decide) (by decide), h2, h3⟩
set_option maxHeartbeats 1000000 in
theorem iCopySg (s : Seg) (a : Option Addr) (n cap : Nat) (w : World) (hl : s.load.length = n) (hr : RB w a s.load) (hnil : a = none → cap = 0) (hn : n ≤ 1048576) :
    Calls Try.prog 25 #[.agg #[.int .i64 s.path, .int .i64 s.frm, .bool s.syn, .bool s.ackd, .bool s.rst, .int .i64 s.seq, .int .i64 s.ack, .int .i64 s.fin, .int .i64 s.opt, .int .i64 s.a, .int .i64 s.b, .slice a n cap]] w fun e w' => ∃ v, e = .returned (.agg #[.int .i64 s.path, .int .i64 s.frm, .bool s.syn, .bool s.ackd, .bool s.rst, .int .i64 s.seq, .int .i64 s.ack, .int .i64 s.fin, .int .i64 s.opt, .int .i64 s.a, .int .i64 s.b, v]) ∧ OB w' w.heap.size v s.load ∧ Below w.heap.size w w' := by
  have HR : Hid (∀ W, Below w.heap.size w W → RB W a s.load) := fun W h => hr.below (Nat.le_refl _) h
  clear hr
  go_enter Try.func25, Try.ntmps25
  go_wp2_with fail
  refine (iCopyBytes a n cap s.load _ hl (HR.out _ (by go_grown)) hnil hn).mono ?_
  rintro e w5 ⟨v5, rfl, ho5, hb5⟩
  obtain ⟨a5, cap5, rfl, -⟩ := ho5.rb
  have hz := hb5.size
  simp at hz
  have hc0 : ∀ o, w5.cell? ⟨w.heap.size, o, none⟩ = (#[.int .i64 s.path, .int .i64 s.frm, .bool s.syn, .bool s.ackd, .bool s.rst, .int .i64 s.seq, .int .i64 s.ack, .int .i64 s.fin, .int .i64 s.opt, .int .i64 s.a, .int .i64 s.b, .slice a n cap] : Array Value)[o]? := fun o => by rw [(bcell hb5).1 w.heap.size o (by simp; omega)]; simp [go_sem]
  have hc1 : ∀ o, w5.cell? ⟨w.heap.size + 1, o, none⟩ = (#[.int .i64 0, .int .i64 0, .bool false, .bool false, .bool false, .int .i64 0, .int .i64 0, .int .i64 0, .int .i64 0, .int .i64 0, .int .i64 0, .slice none 0 0] : Array Value)[o]? := fun o => by rw [(bcell hb5).1 (w.heap.size + 1) o (by simp)]; simp [go_sem]
  have hf0 := fun o => (bcell hb5).2 w.heap.size o (by simp; omega)
  have hf1 := fun o => (bcell hb5).2 (w.heap.size + 1) o (by simp)
  have z1 : w.heap.size < w5.heap.size := by omega
  have z2 : w.heap.size + 1 < w5.heap.size := by omega
  have HB : Hid _ := hb5
  have HO : Hid _ := ho5
  clear hb5 ho5 hz
  go_wp2
  have hB1 : Below w.heap.size w w5 := Below.trans (by go_grown) (HB.out.mono (by simp; omega))
  refine bodyPost_ret (v := .agg #[.int .i64 s.path, .int .i64 s.frm, .bool s.syn, .bool s.ackd, .bool s.rst, .int .i64 s.seq, .int .i64 s.ack, .int .i64 s.fin, .int .i64 s.opt, .int .i64 s.a, .int .i64 s.b, .slice a5 s.load.length cap5]) (by simp [results, Try.results25, go_sem, hc1, hl]) rfl ⟨_, rfl, ?_, ?_⟩
  · refine OB.mono (OB.keeps HO.out fun g hg => ?_) (by simp; omega)
    simp at hg
    repeat rw [Below.heap_setCell _ _ _ _ (by dsimp only; omega)]
  · clear hc0 hc1 hf0 hf1 HO HB
    go_grown
theorem iCopyA (x : DSegm) (A : Array Value) (w : World) (B : Nat) (hr : shSegm.Rd w B x A.toList) (hn : totSegm x ≤ 1048576) :
    Calls Try.prog 25 #[.agg A] w fun e w' => ∃ N : Array Value, e = .returned (.agg N) ∧ Own w' w.heap.size w'.heap.size shSegm x N.toList ∧ Below w.heap.size w w' := by
  obtain ⟨a, cap, e, rb, hl, hnil⟩ := seg_of hr
  rw [e]
  refine (iCopySg (sgOf x) a _ cap w hl rb hnil hn).mono ?_
  rintro e w' ⟨v, he, ho, hb⟩
  exact ⟨_, he, seg_own hr ho, hb⟩
end Go.Proofs.Ytcbgedlckcjjnaa

/- Plain facts of nets: what has a fault, what is put. No condition. Written by mknet1.py. -/
namespace Go.Proofs.Ytcbgedlckcjjnaa
open Go.RowKit
set_option linter.unusedVariables false
theorem sgF_ok {x : DSegm} (h : sgF x = 0) : 0 ≤ x.1 ∧ x.1 ≤ 2 ∧ totSegm x ≤ 8 := by
  obtain ⟨y0, y1, y2, y3, y4, y5, y6, y7, y8, y9, y10, ld, ⟨⟩⟩ := x
  unfold sgF segFault at h
  cases h1 : rangeOk9 (sgOf (y0, y1, y2, y3, y4, y5, y6, y7, y8, y9, y10, ld, ())) with
  | false => rw [h1] at h; simp at h
  | true =>
    rw [h1] at h
    rw [if_neg (by simp)] at h
    split at h
    · omega
    · split at h
      · omega
      · have h2 : inB9 y0 0 2 = true := by
          unfold rangeOk9 at h1
          simp only [Bool.and_eq_true] at h1
          exact h1.1.1.1.1.1.1
        have h3 := (inB_iff9 y0 0 2).1 h2
        exact ⟨h3.1, h3.2, by show totSegm _ ≤ 8; omega⟩
def deadAt (dead : List Bool) (x : DSegm) : Bool := dead.getD x.1.toNat false
def carF (dead : List Bool) : List DSegm → Int
  | [] => 0
  | x :: r => if sgF x ≠ 0 then sgF x else if deadAt dead x = true then 10 else carF dead r
def netF (bag : List DSegm) (dead : List Bool) : Int := if 60 < bag.length then 2 else if dead.length ≠ 3 then 1 else carF dead bag
theorem carF_drop {dead : List Bool} {l : List DSegm} {k : Nat} (hk : k < l.length) : carF dead (l.drop k) = if sgF l[k] ≠ 0 then sgF l[k] else if deadAt dead l[k] = true then 10 else carF dead (l.drop (k + 1)) := by
  rw [List.drop_eq_getElem_cons hk]; rfl
theorem carF_ok {dead : List Bool} : ∀ {l : List DSegm}, carF dead l = 0 → ∀ x ∈ l, sgF x = 0 ∧ deadAt dead x = false
  | [], _, x, hx => by simp at hx
  | y :: r, h, x, hx => by
    unfold carF at h
    by_cases h1 : sgF y = 0
    · rw [if_neg (by simp [h1])] at h
      by_cases h2 : deadAt dead y = true
      · rw [if_pos h2] at h; simp at h
      · rw [if_neg h2] at h
        rcases List.mem_cons.1 hx with rfl | hx
        · exact ⟨h1, by simpa using h2⟩
        · exact carF_ok h x hx
    · rw [if_pos h1] at h; exact absurd h h1
theorem netF_ok {bag : List DSegm} {dead : List Bool} (h : netF bag dead = 0) : bag.length ≤ 60 ∧ dead.length = 3 ∧ ∀ x ∈ bag, sgF x = 0 ∧ deadAt dead x = false := by
  unfold netF at h
  by_cases h1 : 60 < bag.length
  · rw [if_pos h1] at h; simp at h
  · rw [if_neg h1] at h
    by_cases h2 : dead.length = 3
    · rw [if_neg (by simp [h2])] at h
      exact ⟨by omega, h2, carF_ok h⟩
    · rw [if_pos h2] at h; simp at h
/-- One put behind. -/
def put1 (dead : List Bool) (acc : List DSegm) (x : DSegm) : List DSegm := if deadAt dead x = false ∧ acc.length < 60 then acc ++ [x] else acc
def putN (dead : List Bool) (acc list : List DSegm) : List DSegm := list.foldl (put1 dead) acc
theorem putN_app (dead : List Bool) (acc l r : List DSegm) : putN dead acc (l ++ r) = putN dead (putN dead acc l) r := by simp [putN, List.foldl_append]
theorem putN_take {dead : List Bool} {acc l : List DSegm} {k : Nat} (hk : k < l.length) : putN dead acc (l.take (k + 1)) = put1 dead (putN dead acc (l.take k)) l[k] := by
  rw [List.take_succ_eq_append_getElem hk, putN_app]; rfl
theorem putN_all {dead : List Bool} : ∀ (l acc : List DSegm), (∀ x ∈ l, deadAt dead x = false) → acc.length + l.length ≤ 60 → putN dead acc l = acc ++ l
  | [], acc, _, _ => by simp [putN]
  | x :: r, acc, h, hl => by
    have e : putN dead acc (x :: r) = putN dead (put1 dead acc x) r := rfl
    simp only [List.length_cons] at hl
    have e1 : put1 dead acc x = acc ++ [x] := by unfold put1; rw [if_pos ⟨h x (by simp), by omega⟩]
    rw [e, e1, putN_all r (acc ++ [x]) (fun y hy => h y (List.mem_cons_of_mem _ hy)) (by simp; omega)]
    simp
theorem putN_bag {dead : List Bool} {bag : List DSegm} (h : netF bag dead = 0) : putN dead [] bag = bag := by
  have k := netF_ok h
  have := putN_all (dead := dead) bag [] (fun x hx => (k.2.2 x hx).2) (by simp; exact k.1)
  simpa using this
theorem putN_two {dead : List Bool} {bag list : List DSegm} (h : netF bag dead = 0) : putN dead [] (bag ++ list) = putN dead bag list := by rw [putN_app, putN_bag h]
theorem put1_len {dead : List Bool} {acc : List DSegm} {x : DSegm} (h : acc.length ≤ 60) : (put1 dead acc x).length ≤ 60 := by
  unfold put1; split
  · simp; omega
  · exact h
theorem putN_len {dead : List Bool} : ∀ (l acc : List DSegm), acc.length ≤ 60 → (putN dead acc l).length ≤ 60
  | [], _, h => h
  | x :: r, acc, h => putN_len r (put1 dead acc x) (put1_len h)
theorem putN_mem {dead : List Bool} : ∀ (l acc : List DSegm) (x : DSegm), x ∈ putN dead acc l → x ∈ acc ∨ x ∈ l
  | [], _, _, h => Or.inl h
  | y :: r, acc, x, h => by
    rcases putN_mem r (put1 dead acc y) x h with h | h
    · unfold put1 at h; split at h
      · rcases List.mem_append.1 h with h | h
        · exact Or.inl h
        · rw [List.mem_singleton] at h; subst h; exact Or.inr (by simp)
      · exact Or.inl h
    · exact Or.inr (List.mem_cons_of_mem _ h)
end Go.Proofs.Ytcbgedlckcjjnaa

/- The model's NetFault, and what asks for a place; nothing that was in memory turns; no condition. -/
namespace Go.Proofs.Ytcbgedlckcjjnaa
open Go.RowKit
set_option linter.unusedVariables false
set_option maxRecDepth 8000

theorem info_SG12 : (Try.prog.info? 61).map (·.size) = some 12 := by kernel_rfl
theorem seg_path {w : World} {B : Nat} {x : DSegm} {cs : List Value} (h : shSegm.Rd w B x cs) : cs[0]? = some (.int .i64 x.1) := by
  obtain ⟨y0, y1, y2, y3, y4, y5, y6, y7, y8, y9, y10, ld, ⟨⟩⟩ := x
  obtain ⟨u, e, -⟩ := rd_Segm h
  rw [e]; rfl
/-- Three bools by their places. -/
theorem dead_at {w : World} {B : Nat} {t : TypeId} {l : List Bool} {a : Option Addr} {n cap : Nat} (h : (bls t).Rd w B l [.slice a n cap]) (hl : l.length = 3) : n = 3 ∧ ∃ b off, a = some ⟨b, off, none⟩ ∧ b < B ∧ ∀ p, p < 3 → w.cell? ⟨b, off + p, none⟩ = some (.bool (l.getD p false)) := by
  obtain ⟨a', cap', e, -, b, off, h1, h2⟩ := rd_bls h
  simp only [Value.slice.injEq] at e
  obtain ⟨rfl, rfl, -⟩ := e
  obtain ⟨q1, q2⟩ := h1 (by intro e; subst e; simp at hl)
  refine ⟨hl, b, off, q1, q2, fun p hp => ?_⟩
  rw [h2 p (by omega), List.getD_eq_getElem?_getD, List.getElem?_eq_getElem (by omega)]; rfl

end Go.Proofs.Ytcbgedlckcjjnaa

/- The program's NetFault: marks as an array, what a segment's path says of it; nothing that was in memory turns; no condition. -/
namespace Go.Proofs.Ytcbgedlckcjjnaa
open Go.RowKit
set_option linter.unusedVariables false
set_option maxRecDepth 8000

/-- Three marks as an array. -/
def arr3 (l : List Bool) : Array Value := #[.bool (l.getD 0 false), .bool (l.getD 1 false), .bool (l.getD 2 false)]
theorem arr3_at (l : List Bool) (p : Nat) (h : p < 3) : (arr3 l)[p]? = some (.bool (l.getD p false)) := by
  match p, h with
  | 0, _ => rfl
  | 1, _ => rfl
  | 2, _ => rfl
theorem list3 {l : List Bool} (h : l.length = 3) : l = [l.getD 0 false, l.getD 1 false, l.getD 2 false] := by
  match l, h with
  | [a, b, c], _ => rfl
theorem info_dead : (Try.prog.info? 50).map (·.size) = some 3 := by kernel_rfl



end Go.Proofs.Ytcbgedlckcjjnaa
