/- Plain facts on senders and flights: what their faults are, as functions on data; no condition. -/
import Derived.Test.YtebgibjokljlbaaRows
import Derived.Test.YtebgibjokljlbaaS01
import Derived.Test.YtebgibjokljlbaaS03
import Derived.Test.YtebgibjokljlbaaS04
namespace Go.Proofs.Ytebgibjokljlbaa
open Go.RowKit
set_option linter.unusedVariables false
def inD (v lo hi : Int) : Bool := decide (lo ≤ v) && decide (v ≤ hi)
theorem inD_yes {v lo hi : Int} (h : inD v lo hi = true) : lo ≤ v ∧ v ≤ hi := by unfold inD at h; simpa using h
theorem inD_mk {v lo hi : Int} (h1 : lo ≤ v) (h2 : v ≤ hi) : inD v lo hi = true := by unfold inD; simp [h1, h2]
def plcD (a : Int) (n : Nat) : Bool := inD a 0 400 && decide (a + n ≤ 400)
def lodD (n : Nat) : Bool := decide (1 ≤ n) && decide (n ≤ 8)
theorem lodD_yes {n : Nat} (h : lodD n = true) : 1 ≤ n ∧ n ≤ 8 := by unfold lodD at h; simpa using h
def flFault (x : DFlight) (e : Int) : Int :=
  if (plcD x.2.1 x.2.2.1.length && inD x.2.2.2.1 0 1000000 && inD x.2.2.2.2.1 1 1000) = false then 3 else if (lodD x.2.2.1.length && decide (x.1 = e)) = false then 1 else 0
def flsFault (next : Int) : Int → List DFlight → Int
  | e, [] => if e = next then 0 else 1
  | e, x :: l => if flFault x e = 0 then flsFault next (e + x.2.2.1.length) l else flFault x e
def sndHead (x : DSender) : Bool := inD x.1 0 65535 && inD x.2.1 0 1000000 && inD x.2.2.1 0 x.2.1
def sndFault (x : DSender) : Int := if sndHead x = false then 3 else if 12 < x.2.2.2.1.length then 2 else flsFault x.2.1 x.2.2.1 x.2.2.2.1
theorem flsFault_at {l : List DFlight} {k : Nat} (next e : Int) (hk : k < l.length) : flsFault next e (l.drop k) = if flFault l[k] e = 0 then flsFault next (e + l[k].2.2.1.length) (l.drop (k + 1)) else flFault l[k] e := by
  rw [List.drop_eq_getElem_cons hk]; rfl
theorem flsFault_end {l : List DFlight} (next e : Int) : flsFault next e (l.drop l.length) = if e = next then 0 else 1 := by rw [List.drop_length]; rfl
theorem sndFault_head {x : DSender} (h : sndHead x = false) : sndFault x = 3 := by unfold sndFault; rw [if_pos h]
theorem sndFault_many {x : DSender} (h : sndHead x = true) (h2 : 12 < x.2.2.2.1.length) : sndFault x = 2 := by unfold sndFault; rw [if_neg (by simp [h]), if_pos h2]
theorem sndFault_fls {x : DSender} (h : sndHead x = true) (h2 : ¬ 12 < x.2.2.2.1.length) : sndFault x = flsFault x.2.1 x.2.2.1 x.2.2.2.1 := by unfold sndFault; rw [if_neg (by simp [h]), if_neg h2]
theorem flF_r {x : DFlight} {e : Int} (h : (plcD x.2.1 x.2.2.1.length && inD x.2.2.2.1 0 1000000 && inD x.2.2.2.2.1 1 1000) = false) : flFault x e = 3 := by unfold flFault; rw [if_pos h]
theorem flF_f {x : DFlight} {e : Int} (h : (plcD x.2.1 x.2.2.1.length && inD x.2.2.2.1 0 1000000 && inD x.2.2.2.2.1 1 1000) = true) (h2 : (lodD x.2.2.1.length && decide (x.1 = e)) = false) : flFault x e = 1 := by unfold flFault; rw [if_neg (by simp [h]), if_pos h2]
theorem flF_ok {x : DFlight} {e : Int} (h : (plcD x.2.1 x.2.2.1.length && inD x.2.2.2.1 0 1000000 && inD x.2.2.2.2.1 1 1000) = true) (h2 : (lodD x.2.2.1.length && decide (x.1 = e)) = true) : flFault x e = 0 := by unfold flFault; rw [if_neg (by simp [h]), if_neg (by simp [h2])]
def onwV (x : DSender) : Int := if sndFault x = 0 then x.2.1 - x.2.2.1 else 0
theorem snd_ok {x : DSender} (h : sndFault x = 0) : inD x.1 0 65535 = true ∧ inD x.2.1 0 1000000 = true ∧ inD x.2.2.1 0 x.2.1 = true ∧ x.2.2.2.1.length ≤ 12 := by
  unfold sndFault at h
  split at h
  · omega
  · rename_i hh
    split at h
    · omega
    · have : sndHead x = true := by simpa using hh
      unfold sndHead at this
      simp only [Bool.and_eq_true] at this
      exact ⟨this.1.1, this.1.2, this.2, by omega⟩
def zSnd : DSender := (0, 0, 0, [], ())
def pshR (x : DSender) (data : Int) (n : Nat) (now : Int) : Bool := plcD data n && inD now 0 1000000 && decide (x.2.1 + n ≤ 1000000)
def pshC (x : DSender) (data : Int) (ld : List Int) (now : Int) : Int :=
  if sndFault x = 0 then (if lodD ld.length = true then (if pshR x data ld.length now = true then (if 12 ≤ x.2.2.2.1.length then 2 else 0) else 3) else 1) else sndFault x
def pshV (x : DSender) (data : Int) (ld : List Int) (now : Int) : DSender :=
  if pshC x data ld now = 0 then (x.1, x.2.1 + ld.length, x.2.2.1, x.2.2.2.1 ++ [(x.2.1, data, ld, now, 1, ())], ()) else zSnd
theorem psh_f {x : DSender} {data : Int} {ld : List Int} {now : Int} (h : ¬ sndFault x = 0) : pshC x data ld now = sndFault x ∧ pshV x data ld now = zSnd := by
  have e : pshC x data ld now = sndFault x := by unfold pshC; rw [if_neg h]
  exact ⟨e, by unfold pshV; rw [e, if_neg h]⟩
theorem psh_l {x : DSender} {data : Int} {ld : List Int} {now : Int} (h : sndFault x = 0) (h2 : lodD ld.length = false) : pshC x data ld now = 1 ∧ pshV x data ld now = zSnd := by
  have e : pshC x data ld now = 1 := by unfold pshC; rw [if_pos h, if_neg (by simp [h2])]
  exact ⟨e, by unfold pshV; rw [e, if_neg (by decide)]⟩
theorem psh_r {x : DSender} {data : Int} {ld : List Int} {now : Int} (h : sndFault x = 0) (h2 : lodD ld.length = true) (h3 : pshR x data ld.length now = false) : pshC x data ld now = 3 ∧ pshV x data ld now = zSnd := by
  have e : pshC x data ld now = 3 := by unfold pshC; rw [if_pos h, if_pos h2, if_neg (by simp [h3])]
  exact ⟨e, by unfold pshV; rw [e, if_neg (by decide)]⟩
theorem psh_m {x : DSender} {data : Int} {ld : List Int} {now : Int} (h : sndFault x = 0) (h2 : lodD ld.length = true) (h3 : pshR x data ld.length now = true) (h4 : 12 ≤ x.2.2.2.1.length) : pshC x data ld now = 2 ∧ pshV x data ld now = zSnd := by
  have e : pshC x data ld now = 2 := by unfold pshC; rw [if_pos h, if_pos h2, if_pos h3, if_pos h4]
  exact ⟨e, by unfold pshV; rw [e, if_neg (by decide)]⟩
theorem psh_ok {x : DSender} {data : Int} {ld : List Int} {now : Int} (h : sndFault x = 0) (h2 : lodD ld.length = true) (h3 : pshR x data ld.length now = true) (h4 : ¬ 12 ≤ x.2.2.2.1.length) : pshC x data ld now = 0 ∧ pshV x data ld now = (x.1, x.2.1 + ld.length, x.2.2.1, x.2.2.2.1 ++ [(x.2.1, data, ld, now, 1, ())], ()) := by
  have e : pshC x data ld now = 0 := by unfold pshC; rw [if_pos h, if_pos h2, if_pos h3, if_neg h4]
  exact ⟨e, by unfold pshV; rw [e, if_pos rfl]⟩
theorem fls_tot (next : Int) : ∀ (l : List DFlight) (e : Int), flsFault next e l = 0 → fsum totFlight l ≤ 8 * l.length
  | [], _, _ => by simp [fsum]
  | x :: l, e, h => by
    have h1 : flFault x e = 0 := by
      apply Classical.byContradiction; intro hn
      have : flsFault next e (x :: l) = flFault x e := by show (if _ then _ else _) = _; rw [if_neg hn]
      omega
    have h2 : flsFault next (e + x.2.2.1.length) l = 0 := by
      have : flsFault next e (x :: l) = flsFault next (e + x.2.2.1.length) l := by show (if _ then _ else _) = _; rw [if_pos h1]
      omega
    have ih := fls_tot next l _ h2
    have h3 : x.2.2.1.length ≤ 8 := by
      unfold flFault at h1
      split at h1
      · omega
      · split at h1
        · omega
        · rename_i hh
          simp only [Bool.not_eq_false, Bool.and_eq_true] at hh
          exact (lodD_yes hh.1).2
    have e2 : fsum totFlight (x :: l) = totFlight x + fsum totFlight l := by simp [fsum]
    rw [e2, List.length_cons]
    have e3 : totFlight x = x.2.2.1.length := rfl
    omega
theorem snd_tot {x : DSender} (h : sndFault x = 0) : totSender x ≤ 108 := by
  have hl := (snd_ok h).2.2.2
  have hh : sndHead x = true := by
    apply Classical.byContradiction; intro hn
    have := sndFault_head (x := x) (by simpa using hn); omega
  rw [sndFault_fls hh (by omega)] at h
  have := fls_tot _ _ _ h
  show x.2.2.2.1.length + fsum totFlight x.2.2.2.1 ≤ 108
  omega
theorem flF_parts {x : DFlight} {e : Int} (h : flFault x e = 0) : plcD x.2.1 x.2.2.1.length = true ∧ inD x.2.2.2.1 0 1000000 = true ∧ inD x.2.2.2.2.1 1 1000 = true ∧ lodD x.2.2.1.length = true ∧ x.1 = e := by
  unfold flFault at h
  split at h
  · omega
  · rename_i h1
    split at h
    · omega
    · rename_i h2
      simp only [Bool.not_eq_false, Bool.and_eq_true, decide_eq_true_eq] at h1 h2
      exact ⟨h1.1.1, h1.1.2, h1.2, h2.1, h2.2⟩
theorem snd_fls {x : DSender} (h : sndFault x = 0) : flsFault x.2.1 x.2.2.1 x.2.2.2.1 = 0 := by
  have hl := (snd_ok h).2.2.2
  have hh : sndHead x = true := by
    apply Classical.byContradiction; intro hn
    have := sndFault_head (x := x) (by simpa using hn); omega
  rw [sndFault_fls hh (by omega)] at h
  exact h
end Go.Proofs.Ytebgibjokljlbaa
namespace Go.Proofs.Ytebgibjokljlbaa
open Go.RowKit
set_option linter.unusedVariables false
theorem ahd_modK {near a b : Int} (h : a % 65536 = b % 65536) : ahd near a = ahd near b := by
  have e : (a - near) % 65536 = (b - near) % 65536 := by omega
  unfold ahd; rw [e]
theorem unw_modK {near a b : Int} (h : a % 65536 = b % 65536) : unwC a near = unwC b near ∧ unwV a near = unwV b near := by
  unfold unwC unwV; rw [ahd_modK (near := near) h]; exact ⟨rfl, rfl⟩
def ackP (x : DSender) (ack : Int) : Int := unwV (ack - x.1) x.2.2.1
def ackK (x : DSender) (ack : Int) : Int := unwC (ack - x.1) x.2.2.1
def ackCut (p : Int) (f : DFlight) : Bool := decide (f.1 < p) && decide (p < f.1 + f.2.2.1.length)
def ackKeep (p : Int) (f : DFlight) : Bool := decide (p < f.1 + f.2.2.1.length)
def ackC0 (x : DSender) (ack : Int) : Int := if ackK x ack = 0 then (if x.2.1 < ackP x ack then 3 else if x.2.2.2.1.any (ackCut (ackP x ack)) = true then 1 else 0) else ackK x ack
def ackC (x : DSender) (ack : Int) : Int := if sndFault x = 0 then ackC0 x ack else sndFault x
def ackW (x : DSender) (ack : Int) : DSender := (x.1, x.2.1, if x.2.2.1 < ackP x ack then ackP x ack else x.2.2.1, x.2.2.2.1.filter (ackKeep (ackP x ack)), ())
def ackV (x : DSender) (ack : Int) : DSender := if ackC x ack = 0 then ackW x ack else zSnd
theorem fls_bd (next : Int) : ∀ (l : List DFlight) (e : Int), flsFault next e l = 0 → e ≤ next ∧ ∀ x ∈ l, e ≤ x.1 ∧ 1 ≤ x.2.2.1.length ∧ x.2.2.1.length ≤ 8 ∧ x.1 + x.2.2.1.length ≤ next
  | [], e, h => by
    have : (if e = next then (0 : Int) else 1) = 0 := h
    split at this
    · exact ⟨by omega, by simp⟩
    · omega
  | x :: l, e, h => by
    have h1 : flFault x e = 0 := by
      apply Classical.byContradiction; intro hn
      have : flsFault next e (x :: l) = flFault x e := by show (if _ then _ else _) = _; rw [if_neg hn]
      omega
    have h2 : flsFault next (e + x.2.2.1.length) l = 0 := by
      have : flsFault next e (x :: l) = flsFault next (e + x.2.2.1.length) l := by show (if _ then _ else _) = _; rw [if_pos h1]
      omega
    obtain ⟨ih1, ih2⟩ := fls_bd next l _ h2
    obtain ⟨-, -, -, p4, p5⟩ := flF_parts h1
    have p6 := lodD_yes p4
    refine ⟨by omega, fun y hy => ?_⟩
    rcases List.mem_cons.1 hy with rfl | hy
    · exact ⟨by omega, p6.1, p6.2, by omega⟩
    · have := ih2 y hy; omega
theorem snd_bd {x : DSender} (h : sndFault x = 0) : ∀ y ∈ x.2.2.2.1, x.2.2.1 ≤ y.1 ∧ 1 ≤ y.2.2.1.length ∧ y.2.2.1.length ≤ 8 ∧ y.1 + y.2.2.1.length ≤ x.2.1 := (fls_bd _ _ _ (snd_fls h)).2
theorem ack_old {x : DSender} {ack : Int} (h : sndFault x = 0) (hp : ackP x ack ≤ x.2.2.1) : ackW x ack = (x.1, x.2.1, x.2.2.1, x.2.2.2.1, ()) := by
  have e : x.2.2.2.1.filter (ackKeep (ackP x ack)) = x.2.2.2.1 := List.filter_eq_self.2 fun y hy => by
    have := snd_bd h y hy
    unfold ackKeep; simp; omega
  unfold ackW; rw [e, if_neg (by omega)]
theorem ackP_bd {x : DSender} {ack : Int} (h : ackK x ack = 0) : 0 ≤ ackP x ack ∧ ackP x ack ≤ 1000032767 := by
  unfold ackK unwC at h
  have hb := ahd_bd x.2.2.1 (ack - x.1)
  unfold ackP unwV
  split at h
  · omega
  · split at h
    · omega
    · rename_i h1 h2
      rw [if_neg h1, if_neg h2]; omega
def RowZ (w : World) (base : Nat) (t : TypeId) (e : Sh) (zs : List (e.El × List Nat)) (v : Value) : Prop :=
  ∃ xs, w.ownsRow base t e.sz v zs.length xs ∧ ∀ i (hi : i < zs.length), e.Ow w zs[i].2 zs[i].1 (chunk xs e.sz i)
theorem RowZ.keep {w w' : World} {base : Nat} {t : TypeId} {e : Sh} {zs : List (e.El × List Nat)} {v : Value} (h : RowZ w base t e zs v) (hk : ∀ b, (b ∈ (zs.map (·.2)).flatten ∨ base ≤ b ∧ v.ownBlock = some b) → w'.heap[b]? = w.heap[b]?) : RowZ w' base t e zs v := by
  obtain ⟨xs, ⟨h1, h2⟩, h3⟩ := h
  refine ⟨xs, ⟨h1, ?_⟩, fun i hi => Sh.Ow.keep _ _ _ _ (fun b hb => hk b (Or.inl (List.mem_flatten.2 ⟨zs[i].2, List.mem_map.2 ⟨zs[i], List.getElem_mem hi, rfl⟩, hb⟩))) (h3 i hi)⟩
  rcases h2 with h2 | ⟨g, cap, cur, rfl, hg, hh, r⟩
  · exact Or.inl h2
  · exact Or.inr ⟨g, cap, cur, rfl, hg, (hk g (Or.inr ⟨hg, rfl⟩)).trans hh, r⟩
theorem run_app_row (T t : TypeId) (e : Sh) (z : Value) (bytes : Nat) (hT : Try.prog.underlying T = some (.slice t)) (hinfo : (Try.prog.info? t).map (fun i => (i.zero, i.size, i.bytes)) = some (some z, e.sz, bytes)) (hzs : z.cells.size = e.sz) (hsz : 0 < e.sz) (hby : bytes ≤ 1000) (ty : TypeId)
    (w : World) (base : Nat) (zs : List (e.El × List Nat)) (v : Value) (h : RowZ w base t e zs v) (hzb : ∀ b ∈ (zs.map (·.2)).flatten, b < base) (d : e.El) (bs : List Nat) (cs : List Value) (hd : e.Ow w bs d cs) (hdb : ∀ b ∈ bs, b < base) (hn : zs.length ≤ 1000000) (hlo : base ≤ w.heap.size) :
    ∃ v' w', (Builtin.append_ #[T, T] ty #[v, .slice (some ⟨w.heap.size, 0, none⟩) 1 1]).run Try.prog (w.alloc (.cells cs.toArray t)) = .ok v' w' ∧ RowZ w' base t e (zs ++ [(d, bs)]) v' ∧ Below base w w' ∧ (∀ b, b < w.heap.size → v.ownBlock ≠ some b → w'.heap[b]? = w.heap[b]?) ∧ w.heap.size < w'.heap.size := by
  obtain ⟨i0, hi0, hz0, hz1, hz2⟩ := info_parts hinfo
  obtain ⟨xs, ho, hel⟩ := h
  have hlen : cs.length = e.sz := Sh.Ow.len _ _ _ _ hd
  obtain ⟨v', w', hrun, r1, r2, _, r4⟩ := run_append_own_at (P := Try.prog) (w.alloc (.cells cs.toArray t)) base T ty t i0 z e.sz bytes hT hi0 hz0 hz1 hz2 hzs hsz v zs.length xs (ho.alloc _) ⟨w.heap.size, 0, none⟩ 1 1 cs (by rw [hlen]; omega) (cells_new w cs t) (Sh.Ow.one _ _ _ _ hd) (by unfold maxLen; omega)
    (by have : (zs.length + 1) * bytes ≤ (zs.length + 1) * 1000 := Nat.mul_le_mul_left _ hby
        omega) (by simp; omega)
  have hkeep : ∀ b, b < w.heap.size → v.ownBlock ≠ some b → w'.heap[b]? = w.heap[b]? := fun b hb' hne => by
    rw [r2.block b (by simp; omega) (fun e => hne e.symm)]
    exact (World.grownBy_alloc w _ none).block b hb' (by simp)
  have hsize : w.heap.size < w'.heap.size := by have := r2.size; simp at this; omega
  have hbel : Below base w w' := ⟨r2.os.trans rfl, r2.tape.trans rfl, r2.output.trans rfl, by omega, fun k hk => hkeep k (by omega) fun e => by have := (ho.lt k e).1; omega⟩
  refine ⟨v', w', hrun, ⟨xs ++ cs, by simpa using r1, fun i hi' => ?_⟩, hbel, hkeep, hsize⟩
  have hi2' : i < zs.length + 1 := by simpa using hi'
  by_cases hlt : i < zs.length
  · rw [chunk_app_lt ho.1 hlt]
    simp only [List.getElem_append_left hlt]
    exact Sh.Ow.keep _ _ _ _ (fun b hbm => hbel.block b (hzb b (List.mem_flatten.2 ⟨zs[i].2, List.mem_map.2 ⟨zs[i], List.getElem_mem hlt, rfl⟩, hbm⟩))) (hel i hlt)
  · have hie : i = zs.length := by omega
    subst hie
    rw [chunk_app_eq ho.1 hlen]
    simp only [List.getElem_append_right (Nat.le_refl _), Nat.sub_self, List.getElem_cons_zero]
    exact Sh.Ow.keep _ _ _ _ (fun b hbm => hbel.block b (hdb b hbm)) hd
theorem app_row {ops : Array Oper} {rest : List Oper} {o : Oper} {a : Act} {Q : Exit → Act → World → Prop} (w : World) (H : Nat) (hH : H = w.heap.size) (hgd : o.guard = none) (s x : Operand) (T t : TypeId) (ho : o.op = .call { callee := .builtin .append, args := #[s, x], argTypes := #[T, T] })
    (e : Sh) (z : Value) (bytes : Nat) (hT : Try.prog.underlying T = some (.slice t)) (hinfo : (Try.prog.info? t).map (fun i => (i.zero, i.size, i.bytes)) = some (some z, e.sz, bytes)) (hzs : z.cells.size = e.sz) (hsz : 0 < e.sz) (hby : bytes ≤ 1000)
    (base : Nat) (zs : List (e.El × List Nat)) (v : Value) (hs : a.eval s = v) (hx : a.eval x = .slice (some ⟨H, 0, none⟩) 1 1) (h : RowZ w base t e zs v) (hzb : ∀ b ∈ (zs.map (·.2)).flatten, b < base) (d : e.El) (bs : List Nat) (cs : List Value) (hd : e.Ow w bs d cs) (hdb : ∀ b ∈ bs, b < base) (hn : zs.length ≤ 1000000) (hlo : base ≤ w.heap.size)
    (hK : ∀ v' w', RowZ w' base t e (zs ++ [(d, bs)]) v' → Below base w w' → (∀ b, b < w.heap.size → v.ownBlock ≠ some b → w'.heap[b]? = w.heap[b]?) → w.heap.size < w'.heap.size → wpList Try.prog ops Q rest (a.put o.dst v') w') :
    wpList Try.prog ops Q (o :: rest) a (w.alloc (.cells cs.toArray t)) := by
  subst hH
  obtain ⟨v', w', hrun, r1, r2, r3, r4⟩ := run_app_row T t e z bytes hT hinfo hzs hsz hby o.type w base zs v h hzb d bs cs hd hdb hn hlo
  refine wpList_plain hgd fun K hK' => ?_
  unfold Oper.wp execOp
  simp only [ho, resolve, invoke, builtin, Sem.run_bind, Sem.run_pure, Result.andThen_ok, List.map_toArray, List.map_cons, List.map_nil, hs, hx, hrun]
  exact hK' _ _ (hK v' w' r1 r2 r3 r4)
theorem RowZ.form {w : World} {base : Nat} {t : TypeId} {e : Sh} {zs : List (e.El × List Nat)} {v : Value} (h : RowZ w base t e zs v) : ∃ a cap, v = .slice a zs.length cap := by
  obtain ⟨xs, ⟨_, ⟨e, hz⟩ | ⟨g, cap, cur, e, _⟩⟩, _⟩ := h
  · exact ⟨none, 0, by rw [e, hz]⟩
  · exact ⟨_, cap, e⟩
theorem RowZ.own {w : World} {base lo : Nat} {t : TypeId} {e : Sh} {zs : List (e.El × List Nat)} {v : Value} (h : RowZ w base t e zs v) (hnd : ((zs.map (·.2)).flatten).Nodup) (hb : ∀ b ∈ (zs.map (·.2)).flatten, lo ≤ b ∧ b < base) (hlo : lo ≤ base) (hsz : base ≤ w.heap.size) : Own w lo w.heap.size (.row t e) (zs.map (·.1)) [v] := by
  obtain ⟨xs, ho, hel⟩ := h
  have ho2 : w.ownsRow lo t e.sz v (zs.map (·.1)).length xs := by
    rw [List.length_map]
    obtain ⟨h1, h2 | ⟨g, cap, cur, rfl, hg, hh, r⟩⟩ := ho
    · exact ⟨h1, Or.inl h2⟩
    · exact ⟨h1, Or.inr ⟨g, cap, cur, rfl, Nat.le_trans hlo hg, hh, r⟩⟩
  refine Own.row_of ho2 (fun b hb => (ho.lt b hb).2) (zs.map (·.2)) (by simp) hnd (fun b hbm => ⟨(hb b hbm).1, Nat.lt_of_lt_of_le (hb b hbm).2 hsz, fun e => by have := (ho.lt b e).1; have := (hb b hbm).2; omega⟩) (fun i hi => ?_)
  have hi' : i < zs.length := by simpa using hi
  have e2 : (zs.map (·.2)).getD i [] = zs[i].2 := by rw [List.getD_eq_getElem?_getD, List.getElem?_map, List.getElem?_eq_getElem hi']; rfl
  rw [e2]
  simpa using hel i hi'
theorem Own.row_zip {w : World} {lo hi : Nat} {t : TypeId} {e : Sh} {l : List e.El} {v : Value} (h : Own w lo hi (.row t e) l [v]) :
    ∃ zs : List (e.El × List Nat), zs.map (·.1) = l ∧ ((zs.map (·.2)).flatten).Nodup ∧ (∀ b ∈ (zs.map (·.2)).flatten, lo ≤ b ∧ b < hi ∧ v.ownBlock ≠ some b) ∧ RowZ w lo t e zs v := by
  obtain ⟨v', xs, F, e1, ho, hF, hnd, hb, hel, hv⟩ := h.row_to
  simp only [List.cons.injEq, and_true] at e1
  subst e1
  have m1 : (l.zip F).map (·.1) = l := List.map_fst_zip (by omega)
  have m2 : (l.zip F).map (·.2) = F := List.map_snd_zip (by omega)
  refine ⟨l.zip F, m1, by rw [m2]; exact hnd, by rw [m2]; exact hb, xs, ?_, fun i hi => ?_⟩
  · have e : (l.zip F).length = l.length := by simp; omega
    rw [e]; exact ho
  · have hi1 : i < l.length := by simp at hi; omega
    have hi2 : i < F.length := by omega
    have h := hel i hi1
    rw [List.getD_eq_getElem?_getD, List.getElem?_eq_getElem hi2] at h
    simpa [List.getElem_zip] using h
end Go.Proofs.Ytebgibjokljlbaa
namespace Go.Proofs.Ytebgibjokljlbaa
open Go.RowKit
set_option linter.unusedVariables false
def flsEnd : Int → List DFlight → Int
  | e, [] => e
  | e, x :: l => flsEnd (e + x.2.2.1.length) l
def flsOk : Int → List DFlight → Prop
  | _, [] => True
  | e, x :: l => flFault x e = 0 ∧ flsOk (e + x.2.2.1.length) l
theorem fls_iff (next : Int) : ∀ (l : List DFlight) (e : Int), flsFault next e l = 0 ↔ flsOk e l ∧ flsEnd e l = next
  | [], e => by
    show (if e = next then (0 : Int) else 1) = 0 ↔ _
    split
    · rename_i h; simp [flsOk, flsEnd, h]
    · rename_i h; simp [flsOk, flsEnd, h]
  | x :: l, e => by
    have ih := fls_iff next l (e + x.2.2.1.length)
    show (if flFault x e = 0 then flsFault next (e + x.2.2.1.length) l else flFault x e) = 0 ↔ _
    split
    · rename_i h; rw [ih]; simp [flsOk, flsEnd, h]
    · rename_i h; simp [flsOk, h]
theorem flsEnd_app : ∀ (l m : List DFlight) (e : Int), flsEnd e (l ++ m) = flsEnd (flsEnd e l) m
  | [], _, _ => rfl
  | x :: l, m, e => flsEnd_app l m _
theorem flsOk_app : ∀ (l m : List DFlight) (e : Int), flsOk e (l ++ m) ↔ flsOk e l ∧ flsOk (flsEnd e l) m
  | [], m, e => by simp [flsOk, flsEnd]
  | x :: l, m, e => by
    have ih := flsOk_app l m (e + x.2.2.1.length)
    show flFault x e = 0 ∧ flsOk _ (l ++ m) ↔ (flFault x e = 0 ∧ flsOk _ l) ∧ flsOk (flsEnd _ l) m
    rw [ih]; constructor
    · rintro ⟨h1, h2, h3⟩; exact ⟨⟨h1, h2⟩, h3⟩
    · rintro ⟨⟨h1, h2⟩, h3⟩; exact ⟨h1, h2, h3⟩
theorem snd_iff (x : DSender) : sndFault x = 0 ↔ inD x.1 0 65535 = true ∧ inD x.2.1 0 1000000 = true ∧ inD x.2.2.1 0 x.2.1 = true ∧ x.2.2.2.1.length ≤ 12 ∧ flsOk x.2.2.1 x.2.2.2.1 ∧ flsEnd x.2.2.1 x.2.2.2.1 = x.2.1 := by
  constructor
  · intro h
    obtain ⟨h1, h2, h3, h4⟩ := snd_ok h
    obtain ⟨h5, h6⟩ := (fls_iff _ _ _).1 (snd_fls h)
    exact ⟨h1, h2, h3, h4, h5, h6⟩
  · rintro ⟨h1, h2, h3, h4, h5, h6⟩
    have hh : sndHead x = true := by unfold sndHead; simp [h1, h2, h3]
    rw [sndFault_fls hh (by omega)]
    exact (fls_iff _ _ _).2 ⟨h5, h6⟩
theorem psh_parts {x : DSender} {data : Int} {ld : List Int} {now : Int} (h : pshC x data ld now = 0) : sndFault x = 0 ∧ lodD ld.length = true ∧ plcD data ld.length = true ∧ inD now 0 1000000 = true ∧ x.2.1 + ld.length ≤ 1000000 ∧ x.2.2.2.1.length < 12 := by
  unfold pshC at h
  split at h
  · rename_i g0
    split at h
    · rename_i g1
      split at h
      · rename_i g2
        split at h
        · omega
        · unfold pshR at g2
          simp only [Bool.and_eq_true, decide_eq_true_eq] at g2
          exact ⟨g0, g1, g2.1.1, g2.1.2, g2.2, by omega⟩
      · omega
    · omega
  · contradiction
theorem psh_none {x : DSender} {data : Int} {ld : List Int} {now : Int} (h : pshC x data ld now = 0) : sndFault (pshV x data ld now) = 0 := by
  obtain ⟨g0, g1, g2, g3, g4, g5⟩ := psh_parts h
  have e : pshV x data ld now = (x.1, x.2.1 + ld.length, x.2.2.1, x.2.2.2.1 ++ [(x.2.1, data, ld, now, 1, ())], ()) := by unfold pshV; rw [if_pos h]
  obtain ⟨h1, h2, h3, h4, h5, h6⟩ := (snd_iff x).1 g0
  have h2' := inD_yes h2
  have h3' := inD_yes h3
  rw [e]
  refine (snd_iff _).2 ⟨h1, inD_mk (by show 0 ≤ x.2.1 + (ld.length : Int); omega) g4, inD_mk h3'.1 (by show x.2.2.1 ≤ x.2.1 + (ld.length : Int); omega), ?_, ?_, ?_⟩
  · show (x.2.2.2.1 ++ [_]).length ≤ 12
    simp; omega
  · show flsOk x.2.2.1 (x.2.2.2.1 ++ [_])
    rw [flsOk_app, h6]
    refine ⟨h5, ?_, trivial⟩
    exact flF_ok (x := (x.2.1, data, ld, now, 1, ())) (by simp [g2, g3]; decide) (by simp [g1])
  · show flsEnd x.2.2.1 (x.2.2.2.1 ++ [_]) = _
    rw [flsEnd_app, h6]; rfl
theorem fls_filter (p : Int) : ∀ (l : List DFlight) (e : Int), flsOk e l → l.any (ackCut p) = false → e ≤ p → p ≤ flsEnd e l → ∃ k, l.filter (ackKeep p) = l.drop k ∧ k ≤ l.length ∧ flsOk p (l.filter (ackKeep p)) ∧ flsEnd p (l.filter (ackKeep p)) = flsEnd e l
  | [], e, _, _, h1, h2 => ⟨0, rfl, by simp, trivial, by show p = e; have : p ≤ e := h2; omega⟩
  | x :: l, e, ho, ha, h1, h2 => by
    obtain ⟨o1, o2⟩ := ho
    have hx := (flF_parts o1)
    have hl := lodD_yes hx.2.2.2.1
    have hxe := hx.2.2.2.2
    have ha' : ackCut p x = false ∧ l.any (ackCut p) = false := by
      rw [List.any_cons] at ha; simpa using ha
    by_cases hk : p < x.1 + (x.2.2.1.length : Int)
    · have hp : p = e := by
        have hc := ha'.1
        unfold ackCut at hc
        simp only [Bool.and_eq_false_iff, decide_eq_false_iff_not] at hc
        omega
      subst hp
      have hall : (x :: l).filter (ackKeep p) = x :: l := List.filter_eq_self.2 fun y hy => by
        have hb := (fls_bd (flsEnd p (x :: l)) (x :: l) p ((fls_iff _ _ _).2 ⟨⟨o1, o2⟩, rfl⟩)).2 y hy
        unfold ackKeep; simp; omega
      exact ⟨0, hall, by simp, by rw [hall]; exact ⟨o1, o2⟩, by rw [hall]⟩
    · have hkf : ackKeep p x = false := by unfold ackKeep; simp; omega
      obtain ⟨k, q1, q2, q3, q4⟩ := fls_filter p l (e + x.2.2.1.length) o2 ha'.2 (by omega) h2
      have e1 : (x :: l).filter (ackKeep p) = l.filter (ackKeep p) := by rw [List.filter_cons, hkf]; rfl
      exact ⟨k + 1, by rw [e1, q1]; rfl, by simp; omega, by rw [e1]; exact q3, by rw [e1, q4]; rfl⟩
theorem ack_parts {x : DSender} {ack : Int} (h : ackC x ack = 0) : sndFault x = 0 ∧ ackK x ack = 0 ∧ ackP x ack ≤ x.2.1 ∧ x.2.2.2.1.any (ackCut (ackP x ack)) = false := by
  unfold ackC at h
  split at h
  · rename_i h0
    unfold ackC0 at h
    split at h
    · rename_i h1
      split at h
      · omega
      · split at h
        · omega
        · rename_i h2 h3
          exact ⟨h0, h1, by omega, by simpa using h3⟩
    · contradiction
  · contradiction
theorem ack_none {x : DSender} {ack : Int} (h : ackC x ack = 0) : sndFault (ackV x ack) = 0 ∧ ∃ k, (ackV x ack).2.2.2.1 = x.2.2.2.1.drop k ∧ k ≤ x.2.2.2.1.length := by
  obtain ⟨g0, g1, g2, g3⟩ := ack_parts h
  have ev : ackV x ack = ackW x ack := by unfold ackV; rw [if_pos h]
  rw [ev]
  by_cases hp : ackP x ack ≤ x.2.2.1
  · rw [ack_old g0 hp]
    exact ⟨g0, 0, rfl, by simp⟩
  · obtain ⟨h1, h2, h3, h4, h5, h6⟩ := (snd_iff x).1 g0
    obtain ⟨k, q1, q2, q3, q4⟩ := fls_filter (ackP x ack) x.2.2.2.1 x.2.2.1 h5 g3 (by omega) (by rw [h6]; exact g2)
    have e : ackW x ack = (x.1, x.2.1, ackP x ack, x.2.2.2.1.filter (ackKeep (ackP x ack)), ()) := by unfold ackW; rw [if_pos (by omega)]
    rw [e]
    have hl := List.length_filter_le (ackKeep (ackP x ack)) x.2.2.2.1
    have h3' := inD_yes h3
    exact ⟨(snd_iff _).2 ⟨h1, h2, inD_mk (by show 0 ≤ ackP x ack; omega) g2, by show (x.2.2.2.1.filter _).length ≤ 12; omega, q3, by show flsEnd (ackP x ack) _ = x.2.1; rw [q4, h6]⟩, k, q1, q2⟩
end Go.Proofs.Ytebgibjokljlbaa
