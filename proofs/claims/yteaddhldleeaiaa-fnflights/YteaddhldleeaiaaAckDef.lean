/- Plain facts on a sender that is told up to where all came, and on a row whose elements' memory lies elsewhere; no condition. -/
import Derived.Test.YteaddhldleeaiaaRows
import Derived.Test.YteaddhldleeaiaaBase
import Derived.Test.YteaddhldleeaiaaMem
import Derived.Test.YteaddhldleeaiaaMemRow
import Derived.Test.YteaddhldleeaiaaMemApp
import Derived.Test.YteaddhldleeaiaaHBase
import Derived.Test.YteaddhldleeaiaaHFlight
import Derived.Test.YteaddhldleeaiaaHSender
import Derived.Test.YteaddhldleeaiaaNum
import Derived.Test.YteaddhldleeaiaaUnwrap
import Derived.Test.YteaddhldleeaiaaFlightDef
namespace Go.Proofs.Yteaddhldleeaiaa
open Go.RowKit
set_option linter.unusedVariables false

theorem ahd_mod {near a b : Int} (h : a % 65536 = b % 65536) : ahd near a = ahd near b := by
  have e : (a - near) % 65536 = (b - near) % 65536 := by omega
  unfold ahd; rw [e]
theorem unw_mod {near a b : Int} (h : a % 65536 = b % 65536) : unwC a near = unwC b near ∧ unwV a near = unwV b near := by
  unfold unwC unwV; rw [ahd_mod (near := near) h]; exact ⟨rfl, rfl⟩
def ackP (x : DSender) (ack : Int) : Int := unwV (ack - x.1) x.2.2.1
def ackK (x : DSender) (ack : Int) : Int := unwC (ack - x.1) x.2.2.1
def ackCut (p : Int) (f : DFlight) : Bool := decide (f.1 < p) && decide (p < f.1 + f.2.2.1.length)
def ackKeep (p : Int) (f : DFlight) : Bool := decide (p < f.1 + f.2.2.1.length)
def ackC0 (x : DSender) (ack : Int) : Int := if ackK x ack = 0 then (if x.2.1 < ackP x ack then 3 else if x.2.2.2.1.any (ackCut (ackP x ack)) = true then 1 else 0) else ackK x ack
def ackC (x : DSender) (ack : Int) : Int := if sndFault x = 0 then ackC0 x ack else sndFault x
def ackW (x : DSender) (ack : Int) : DSender := (x.1, x.2.1, if x.2.2.1 < ackP x ack then ackP x ack else x.2.2.1, x.2.2.2.1.filter (ackKeep (ackP x ack)), ())
def ackV (x : DSender) (ack : Int) : DSender := if ackC x ack = 0 then ackW x ack else zSnd

theorem fls_bd (next : Int) : ∀ (l : List DFlight) (e : Int), flsFault next e l = 0 → e ≤ next ∧ ∀ x ∈ l, e ≤ x.1 ∧ 1 ≤ x.2.2.1.length ∧ x.2.2.1.length ≤ 8 ∧ x.1 + x.2.2.1.length ≤ next
  | [], e, h => by
    have : (if e = next then (0 : Int) else 1) = 0 := h
    split at this
    · exact ⟨by omega, by simp⟩
    · omega
  | x :: l, e, h => by
    have h1 : flFault x e = 0 := by
      apply Classical.byContradiction; intro hn
      have : flsFault next e (x :: l) = flFault x e := by show (if _ then _ else _) = _; rw [if_neg hn]
      omega
    have h2 : flsFault next (e + x.2.2.1.length) l = 0 := by
      have : flsFault next e (x :: l) = flsFault next (e + x.2.2.1.length) l := by show (if _ then _ else _) = _; rw [if_pos h1]
      omega
    obtain ⟨ih1, ih2⟩ := fls_bd next l _ h2
    obtain ⟨-, -, -, p4, p5⟩ := flF_parts h1
    have p6 := lodD_yes p4
    refine ⟨by omega, fun y hy => ?_⟩
    rcases List.mem_cons.1 hy with rfl | hy
    · exact ⟨by omega, p6.1, p6.2, by omega⟩
    · have := ih2 y hy; omega
theorem snd_bd {x : DSender} (h : sndFault x = 0) : ∀ y ∈ x.2.2.2.1, x.2.2.1 ≤ y.1 ∧ 1 ≤ y.2.2.1.length ∧ y.2.2.1.length ≤ 8 ∧ y.1 + y.2.2.1.length ≤ x.2.1 := (fls_bd _ _ _ (snd_fls h)).2
theorem ack_old {x : DSender} {ack : Int} (h : sndFault x = 0) (hp : ackP x ack ≤ x.2.2.1) : ackW x ack = (x.1, x.2.1, x.2.2.1, x.2.2.2.1, ()) := by
  have e : x.2.2.2.1.filter (ackKeep (ackP x ack)) = x.2.2.2.1 := List.filter_eq_self.2 fun y hy => by
    have := snd_bd h y hy
    unfold ackKeep; simp; omega
  unfold ackW; rw [e, if_neg (by omega)]
theorem ack_tot (x : DSender) (ack : Int) : totSender (ackV x ack) ≤ 1048576 := by
  unfold ackV
  split
  · rename_i h
    have h0 : sndFault x = 0 := by
      apply Classical.byContradiction; intro hn
      unfold ackC at h; rw [if_neg hn] at h; exact hn h
    have ht := snd_tot h0
    replace ht : x.2.2.2.1.length + fsum totFlight x.2.2.2.1 ≤ 108 := ht
    show (x.2.2.2.1.filter _).length + fsum totFlight (x.2.2.2.1.filter _) ≤ 1048576
    have h1 := List.length_filter_le (ackKeep (ackP x ack)) x.2.2.2.1
    have h2 : fsum totFlight (x.2.2.2.1.filter (ackKeep (ackP x ack))) ≤ fsum totFlight x.2.2.2.1 := by
      generalize x.2.2.2.1 = l
      induction l with
      | nil => simp [fsum]
      | cons y l ih =>
        have e2 : fsum totFlight (y :: l) = totFlight y + fsum totFlight l := by simp [fsum]
        rw [List.filter_cons]
        split
        · have e3 : fsum totFlight (y :: l.filter (ackKeep (ackP x ack))) = totFlight y + fsum totFlight (l.filter (ackKeep (ackP x ack))) := by simp [fsum]
          omega
        · omega
    omega
  · simp [zSnd, totSender, totFlights, fsum]
theorem ackP_bd {x : DSender} {ack : Int} (h : ackK x ack = 0) : 0 ≤ ackP x ack ∧ ackP x ack ≤ 1000032767 := by
  unfold ackK unwC at h
  have hb := ahd_bd x.2.2.1 (ack - x.1)
  unfold ackP unwV
  split at h
  · omega
  · split at h
    · omega
    · rename_i h1 h2
      rw [if_neg h1, if_neg h2]; omega

/-- A row and, beside each element, the blocks that are its own. -/
def RowZ (w : World) (base : Nat) (t : TypeId) (e : Sh) (zs : List (e.El × List Nat)) (v : Value) : Prop :=
  ∃ xs, w.ownsRow base t e.sz v zs.length xs ∧ ∀ i (hi : i < zs.length), e.Ow w zs[i].2 zs[i].1 (chunk xs e.sz i)
theorem RowZ.keep {w w' : World} {base : Nat} {t : TypeId} {e : Sh} {zs : List (e.El × List Nat)} {v : Value} (h : RowZ w base t e zs v) (hk : ∀ b, (b ∈ (zs.map (·.2)).flatten ∨ base ≤ b ∧ v.ownBlock = some b) → w'.heap[b]? = w.heap[b]?) : RowZ w' base t e zs v := by
  obtain ⟨xs, ⟨h1, h2⟩, h3⟩ := h
  refine ⟨xs, ⟨h1, ?_⟩, fun i hi => Sh.Ow.keep _ _ _ _ (fun b hb => hk b (Or.inl (List.mem_flatten.2 ⟨zs[i].2, List.mem_map.2 ⟨zs[i], List.getElem_mem hi, rfl⟩, hb⟩))) (h3 i hi)⟩
  rcases h2 with h2 | ⟨g, cap, cur, rfl, hg, hh, r⟩
  · exact Or.inl h2
  · exact Or.inr ⟨g, cap, cur, rfl, hg, (hk g (Or.inr ⟨hg, rfl⟩)).trans hh, r⟩
theorem run_app_row (T t : TypeId) (e : Sh) (z : Value) (bytes : Nat) (hT : Try.prog.underlying T = some (.slice t)) (hinfo : (Try.prog.info? t).map (fun i => (i.zero, i.size, i.bytes)) = some (some z, e.sz, bytes)) (hzs : z.cells.size = e.sz) (hsz : 0 < e.sz) (hby : bytes ≤ 1000) (ty : TypeId)
    (w : World) (base : Nat) (zs : List (e.El × List Nat)) (v : Value) (h : RowZ w base t e zs v) (hzb : ∀ b ∈ (zs.map (·.2)).flatten, b < base) (d : e.El) (bs : List Nat) (cs : List Value) (hd : e.Ow w bs d cs) (hdb : ∀ b ∈ bs, b < base) (hn : zs.length ≤ 1000000) (hlo : base ≤ w.heap.size) :
    ∃ v' w', (Builtin.append_ #[T, T] ty #[v, .slice (some ⟨w.heap.size, 0, none⟩) 1 1]).run Try.prog (w.alloc (.cells cs.toArray t)) = .ok v' w' ∧ RowZ w' base t e (zs ++ [(d, bs)]) v' ∧ Below base w w' ∧ (∀ b, b < w.heap.size → v.ownBlock ≠ some b → w'.heap[b]? = w.heap[b]?) ∧ w.heap.size < w'.heap.size := by
  obtain ⟨i0, hi0, hz0, hz1, hz2⟩ := info_parts hinfo
  obtain ⟨xs, ho, hel⟩ := h
  have hlen : cs.length = e.sz := Sh.Ow.len _ _ _ _ hd
  obtain ⟨v', w', hrun, r1, r2, _, r4⟩ := run_append_own_at (P := Try.prog) (w.alloc (.cells cs.toArray t)) base T ty t i0 z e.sz bytes hT hi0 hz0 hz1 hz2 hzs hsz v zs.length xs (ho.alloc _) ⟨w.heap.size, 0, none⟩ 1 1 cs (by rw [hlen]; omega) (cells_new w cs t) (Sh.Ow.one _ _ _ _ hd) (by unfold maxLen; omega)
    (by have : (zs.length + 1) * bytes ≤ (zs.length + 1) * 1000 := Nat.mul_le_mul_left _ hby
        omega) (by simp; omega)
  have hkeep : ∀ b, b < w.heap.size → v.ownBlock ≠ some b → w'.heap[b]? = w.heap[b]? := fun b hb' hne => by
    rw [r2.block b (by simp; omega) (fun e => hne e.symm)]
    exact (World.grownBy_alloc w _ none).block b hb' (by simp)
  have hsize : w.heap.size < w'.heap.size := by have := r2.size; simp at this; omega
  have hbel : Below base w w' := ⟨r2.os.trans rfl, r2.tape.trans rfl, r2.output.trans rfl, by omega, fun k hk => hkeep k (by omega) fun e => by have := (ho.lt k e).1; omega⟩
  refine ⟨v', w', hrun, ⟨xs ++ cs, by simpa using r1, fun i hi' => ?_⟩, hbel, hkeep, hsize⟩
  have hi2' : i < zs.length + 1 := by simpa using hi'
  by_cases hlt : i < zs.length
  · rw [chunk_app_lt ho.1 hlt]
    simp only [List.getElem_append_left hlt]
    exact Sh.Ow.keep _ _ _ _ (fun b hbm => hbel.block b (hzb b (List.mem_flatten.2 ⟨zs[i].2, List.mem_map.2 ⟨zs[i], List.getElem_mem hlt, rfl⟩, hbm⟩))) (hel i hlt)
  · have hie : i = zs.length := by omega
    subst hie
    rw [chunk_app_eq ho.1 hlen]
    simp only [List.getElem_append_right (Nat.le_refl _), Nat.sub_self, List.getElem_cons_zero]
    exact Sh.Ow.keep _ _ _ _ (fun b hbm => hbel.block b (hdb b hbm)) hd
theorem app_row {ops : Array Oper} {rest : List Oper} {o : Oper} {a : Act} {Q : Exit → Act → World → Prop} (w : World) (H : Nat) (hH : H = w.heap.size) (hgd : o.guard = none) (s x : Operand) (T t : TypeId) (ho : o.op = .call { callee := .builtin .append, args := #[s, x], argTypes := #[T, T] })
    (e : Sh) (z : Value) (bytes : Nat) (hT : Try.prog.underlying T = some (.slice t)) (hinfo : (Try.prog.info? t).map (fun i => (i.zero, i.size, i.bytes)) = some (some z, e.sz, bytes)) (hzs : z.cells.size = e.sz) (hsz : 0 < e.sz) (hby : bytes ≤ 1000)
    (base : Nat) (zs : List (e.El × List Nat)) (v : Value) (hs : a.eval s = v) (hx : a.eval x = .slice (some ⟨H, 0, none⟩) 1 1) (h : RowZ w base t e zs v) (hzb : ∀ b ∈ (zs.map (·.2)).flatten, b < base) (d : e.El) (bs : List Nat) (cs : List Value) (hd : e.Ow w bs d cs) (hdb : ∀ b ∈ bs, b < base) (hn : zs.length ≤ 1000000) (hlo : base ≤ w.heap.size)
    (hK : ∀ v' w', RowZ w' base t e (zs ++ [(d, bs)]) v' → Below base w w' → (∀ b, b < w.heap.size → v.ownBlock ≠ some b → w'.heap[b]? = w.heap[b]?) → w.heap.size < w'.heap.size → wpList Try.prog ops Q rest (a.put o.dst v') w') :
    wpList Try.prog ops Q (o :: rest) a (w.alloc (.cells cs.toArray t)) := by
  subst hH
  obtain ⟨v', w', hrun, r1, r2, r3, r4⟩ := run_app_row T t e z bytes hT hinfo hzs hsz hby o.type w base zs v h hzb d bs cs hd hdb hn hlo
  refine wpList_plain hgd fun K hK' => ?_
  unfold Oper.wp execOp
  simp only [ho, resolve, invoke, builtin, Sem.run_bind, Sem.run_pure, Result.andThen_ok, List.map_toArray, List.map_cons, List.map_nil, hs, hx, hrun]
  exact hK' _ _ (hK v' w' r1 r2 r3 r4)
theorem RowZ.form {w : World} {base : Nat} {t : TypeId} {e : Sh} {zs : List (e.El × List Nat)} {v : Value} (h : RowZ w base t e zs v) : ∃ a cap, v = .slice a zs.length cap := by
  obtain ⟨xs, ⟨_, ⟨e, hz⟩ | ⟨g, cap, cur, e, _⟩⟩, _⟩ := h
  · exact ⟨none, 0, by rw [e, hz]⟩
  · exact ⟨_, cap, e⟩
/-- What such a row owns, where the elements' blocks are all different and lie ahead of the row's own. -/
theorem RowZ.own {w : World} {base lo : Nat} {t : TypeId} {e : Sh} {zs : List (e.El × List Nat)} {v : Value} (h : RowZ w base t e zs v) (hnd : ((zs.map (·.2)).flatten).Nodup) (hb : ∀ b ∈ (zs.map (·.2)).flatten, lo ≤ b ∧ b < base) (hlo : lo ≤ base) (hsz : base ≤ w.heap.size) : Own w lo w.heap.size (.row t e) (zs.map (·.1)) [v] := by
  obtain ⟨xs, ho, hel⟩ := h
  have ho2 : w.ownsRow lo t e.sz v (zs.map (·.1)).length xs := by
    rw [List.length_map]
    obtain ⟨h1, h2 | ⟨g, cap, cur, rfl, hg, hh, r⟩⟩ := ho
    · exact ⟨h1, Or.inl h2⟩
    · exact ⟨h1, Or.inr ⟨g, cap, cur, rfl, Nat.le_trans hlo hg, hh, r⟩⟩
  refine Own.row_of ho2 (fun b hb => (ho.lt b hb).2) (zs.map (·.2)) (by simp) hnd (fun b hbm => ⟨(hb b hbm).1, Nat.lt_of_lt_of_le (hb b hbm).2 hsz, fun e => by have := (ho.lt b e).1; have := (hb b hbm).2; omega⟩) (fun i hi => ?_)
  have hi' : i < zs.length := by simpa using hi
  have e2 : (zs.map (·.2)).getD i [] = zs[i].2 := by rw [List.getD_eq_getElem?_getD, List.getElem?_map, List.getElem?_eq_getElem hi']; rfl
  rw [e2]
  simpa using hel i hi'
/-- An owned row as elements with their blocks. -/
theorem Own.row_zip {w : World} {lo hi : Nat} {t : TypeId} {e : Sh} {l : List e.El} {v : Value} (h : Own w lo hi (.row t e) l [v]) :
    ∃ zs : List (e.El × List Nat), zs.map (·.1) = l ∧ ((zs.map (·.2)).flatten).Nodup ∧ (∀ b ∈ (zs.map (·.2)).flatten, lo ≤ b ∧ b < hi ∧ v.ownBlock ≠ some b) ∧ RowZ w lo t e zs v := by
  obtain ⟨v', xs, F, e1, ho, hF, hnd, hb, hel, hv⟩ := h.row_to
  simp only [List.cons.injEq, and_true] at e1
  subst e1
  have m1 : (l.zip F).map (·.1) = l := List.map_fst_zip (by omega)
  have m2 : (l.zip F).map (·.2) = F := List.map_snd_zip (by omega)
  refine ⟨l.zip F, m1, by rw [m2]; exact hnd, by rw [m2]; exact hb, xs, ?_, fun i hi => ?_⟩
  · have e : (l.zip F).length = l.length := by simp; omega
    rw [e]; exact ho
  · have hi1 : i < l.length := by simp at hi; omega
    have hi2 : i < F.length := by omega
    have h := hel i hi1
    rw [List.getD_eq_getElem?_getD, List.getElem?_eq_getElem hi2] at h
    simpa [List.getElem_zip] using h
end Go.Proofs.Yteaddhldleeaiaa
