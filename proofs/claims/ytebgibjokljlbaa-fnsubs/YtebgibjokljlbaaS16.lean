/- A catch that is drawn: what keeps it, what is appended to its spans; no condition. -/
import Derived.ArgAppend
import Derived.Maps.AppendAt
import Derived.Test.YtebgibjokljlbaaRows
import Derived.Test.YtebgibjokljlbaaS01
import Derived.Test.YtebgibjokljlbaaS02
import Derived.Test.YtebgibjokljlbaaS03
import Derived.Test.YtebgibjokljlbaaS04
import Derived.Test.YtebgibjokljlbaaS11
namespace Go.Proofs.Ytebgibjokljlbaa
open Go.RowKit
set_option linter.unusedVariables false
theorem bx_drC {W W' : World} {sb b : Nat} {cs : Array Value} (h : ∀ o, W.cell? ⟨b, o, none⟩ = cs[o]?) (hd : Dr sb W W') (hb : b < W.heap.size) (hn : b ≠ sb) : ∀ o, W'.cell? ⟨b, o, none⟩ = cs[o]? := fun o => (hd.cell (p := ⟨b, o, none⟩) hb hn).trans (h o)
theorem fx_drC {W W' : World} {sb b : Nat} (h : ∀ o, W.frozen? ⟨b, o, none⟩ = false) (hd : Dr sb W W') (hb : b < W.heap.size) (hn : b ≠ sb) : ∀ o, W'.frozen? ⟨b, o, none⟩ = false := fun o => (hd.frozen (p := ⟨b, o, none⟩) hb hn).trans (h o)
theorem Dr.drewC (sb : Nat) (w : World) : Dr sb w w.drew := (Dr.refl sb w).then (Below.drew (Below.refl _ _)) (Nat.le_refl _)
theorem Src.drewC {w : World} {sb : Nat} {v : Value} {K : Int} (h : Src w sb v K) : Src w.drew sb v K := h.bel (Below.drew (Below.refl _ _))
structure CT (W : World) (lo : Nat) (x : DCatch) (va : Option Addr) (n vc : Nat) : Prop where
  own : Own W lo W.heap.size shCatchO x [.int .i64 x.1, .int .i64 x.2.1, .slice va n vc]
  sp : Spare W lo (.slice va n vc)
  ok : caF x = 0
  tb : ToB x
theorem CT.dr {W W' : World} {sb lo n vc : Nat} {x : DCatch} {va : Option Addr} (h : CT W lo x va n vc) (hd : Dr sb W W') (hs : sb < lo) : CT W' lo x va n vc :=
  ⟨Own.mono (Own.keep h.own fun b h1 h2 => hd.block b h2 (by omega)) (Nat.le_refl _) hd.size, h.sp.keep hd.size fun g h1 h2 => hd.block g h2 (by omega), h.ok, h.tb⟩
theorem CT.below {W W' : World} {lo n vc : Nat} {x : DCatch} {va : Option Addr} (h : CT W lo x va n vc) (hd : Below W.heap.size W W') : CT W' lo x va n vc :=
  ⟨Own.mono (Own.keep h.own fun b h1 h2 => hd.block b h2) (Nat.le_refl _) hd.size, h.sp.keep hd.size fun g h1 h2 => hd.block g h2, h.ok, h.tb⟩
theorem CT.set {W : World} {lo n vc b k : Nat} {x : DCatch} {va : Option Addr} {v : Value} (h : CT W lo x va n vc) (hb : b < lo) : CT (W.setCell ⟨b, k, none⟩ v) lo x va n vc :=
  ⟨Own.mono (Own.keep h.own fun g h1 h2 => Below.heap_setCell _ _ _ _ (by dsimp only; omega)) (Nat.le_refl _) (by simp), h.sp.keep (by simp) fun g h1 h2 => Below.heap_setCell _ _ _ _ (by dsimp only; omega), h.ok, h.tb⟩
theorem CT.form {W : World} {lo n vc : Nat} {x : DCatch} {va : Option Addr} (h : CT W lo x va n vc) : n = x.2.2.1.length ∧ n ≤ 20 ∧ RS W va x.2.2.1 ∧ (va = none → vc = 0) ∧ n ≤ vc ∧ vc ≤ maxLen ∧ (0 ≤ x.1 ∧ x.1 ≤ 65535) ∧ (0 ≤ x.2.1 ∧ x.2.1 ≤ 1000000) := by
  obtain ⟨v, e, r, -, -⟩ := rd_CatchO (h.own.rd (Nat.le_refl _))
  simp only [List.cons.injEq, and_true, true_and] at e
  subst e
  replace r : shSpans.Rd W W.heap.size x.2.2.1 [.slice va n vc] := rdO_Spans r
  obtain ⟨a, c, e, h1, h2, -⟩ := id r
  simp only [List.cons.injEq, Value.slice.injEq, and_true] at e
  obtain ⟨rfl, rfl, rfl⟩ := e
  obtain ⟨g1, g2, g3, -⟩ := ca_ok h.ok
  exact ⟨rfl, g3, RS.of_rd r, h2, h1.1, h1.2, g1, g2⟩
theorem own_lower {w : World} {b b' : Nat} {t : TypeId} {sz n : Nat} {v : Value} {xs : List Value} (h : w.ownsRow b t sz v n xs) (hb : b' ≤ b) : w.ownsRow b' t sz v n xs := by
  obtain ⟨h0, h1 | ⟨g, cap, cur, e, q1, q2⟩⟩ := h
  · exact ⟨h0, Or.inl h1⟩
  · exact ⟨h0, Or.inr ⟨g, cap, cur, e, by omega, q2⟩⟩
theorem run_appC (ty : TypeId) (w : World) (lo : Nat) (va : Option Addr) (l : List DSpan) (n vc : Nat) (f t : Int) (hn : n = l.length) (hR : RS w va l) (h0 : va = none → vc = 0) (hc : n ≤ vc) (hm : vc ≤ maxLen) (h20 : n ≤ 20) (hS : Spare w lo (.slice va n vc)) (wf : (Lit.int .i64 f).wf = true) (wt : (Lit.int .i64 t).wf = true) (hlo : lo ≤ w.heap.size) :
    ∃ va' vc' w', (Builtin.append_ #[58, 58] ty #[.slice va n vc, .slice (some ⟨w.heap.size, 0, none⟩) 1 1]).run Try.prog (w.alloc (.cells #[.int .i64 f, .int .i64 t] 172)) = .ok (.slice va' (n + 1) vc') w' ∧ RS w' va' (l ++ [(f, t, ())]) ∧ (va' = none → vc' = 0) ∧ n + 1 ≤ vc' ∧ vc' ≤ maxLen ∧ Below lo w w' ∧ (∀ b, va' = some b → lo ≤ b.block) := by
  obtain ⟨i0, hi, hz0, hz1, hz2⟩ := info_parts info_Span
  obtain ⟨W, hW⟩ : ∃ W, W = w.alloc (.cells #[.int .i64 f, .int .i64 t] 172) := ⟨_, rfl⟩
  have hbW : Below w.heap.size w W := by rw [hW]; exact (Below.refl _ _).alloc (Nat.le_refl _) _
  have k0 : ∀ o, W.cell? ⟨w.heap.size, o, none⟩ = (#[.int .i64 f, .int .i64 t] : Array Value)[o]? := by rw [hW]; exact bx_al w _ _
  rw [← hW]
  have hwl : WfS (l ++ [(f, t, ())]) := hR.wf.app fun s hs => by simp at hs; subst hs; exact ⟨wf, wt⟩
  have hRW := hR.below hbW
  have hnews : ∀ j u, ([.int .i64 f, .int .i64 t] : List Value)[j]? = some u → W.cell? ((⟨w.heap.size, 0, none⟩ : Addr).add j) = some u := fun j u hj => by
    rw [add_none, Nat.zero_add, k0, ← hj, List.getElem?_toArray]
  have grow : ∀ v' w', OS w' w.heap.size v' (l ++ [(f, t, ())]) → Below w.heap.size w w' → ∃ va' vc', v' = .slice va' (n + 1) vc' ∧ RS w' va' (l ++ [(f, t, ())]) ∧ (va' = none → vc' = 0) ∧ n + 1 ≤ vc' ∧ vc' ≤ maxLen ∧ (∀ b, va' = some b → lo ≤ b.block) := fun v' w' h1 h2 => by
    obtain ⟨a, c, e, r, q0, q1, q2⟩ := h1.rs
    have hsp := h1.spare
    have hl : (l ++ [(f, t, ())]).length = n + 1 := by simp [hn]
    rw [hl] at e q1
    refine ⟨a, c, e, r, q0, q1, q2, fun b hb => ?_⟩
    subst hb
    obtain ⟨g, off, rfl, g1, -⟩ := hsp b _ _ e
    exact Nat.le_trans hlo g1
  cases va with
  | none =>
    have e1 := h0 rfl
    subst e1
    have hn0 : n = 0 := by omega
    have hl0 : l = [] := by rw [hn0] at hn; exact List.length_eq_zero_iff.1 hn.symm
    subst hn0 hl0
    have hr1 : RS W (some ⟨w.heap.size, 0, none⟩) [(f, t, ())] := ⟨fun s hs => by simp at hs; subst hs; exact ⟨wf, wt⟩, Or.inr ⟨w.heap.size, 0, rfl, fun i hi => by
      have : i = 0 := by simpa using hi
      subst this
      exact ⟨by rw [k0]; rfl, by rw [k0]; rfl⟩⟩⟩
    obtain ⟨v', w', hrun, q1, q2, -⟩ := run_appS ty W w.heap.size (.slice none 0 0) [] (OS.nil _ _) (some ⟨w.heap.size, 0, none⟩) [(f, t, ())] 1 1 rfl hr1 (fun h => by cases h) (by simp) hbW.size
    obtain ⟨va', vc', rfl, r1, r2, r3, r4, r5⟩ := grow v' w' q1 (hbW.trans q2)
    exact ⟨va', vc', w', hrun, r1, r2, r3, r4, (hbW.trans q2).mono hlo, r5⟩
  | some ad =>
    by_cases hroom : n + 1 ≤ vc
    · obtain ⟨g, off, sp⟩ := ad
      obtain ⟨g', off', e9, g1, g2, g3⟩ := hS ⟨g, off, sp⟩ n vc rfl
      simp only [Addr.mk.injEq] at e9
      obtain ⟨rfl, rfl, rfl⟩ := e9
      have hcell : ∀ j, j < 2 → (W.cell? ⟨g, off + n * 2 + j, none⟩).isSome = true ∧ W.frozen? ⟨g, off + n * 2 + j, none⟩ = false := fun j hj => by
        rw [hbW.cell (p := ⟨g, off + n * 2 + j, none⟩) g2, hbW.frozen (p := ⟨g, off + n * 2 + j, none⟩) g2]
        exact g3 j (by omega)
      have hz2' : i0.size = 2 := hz1
      have hrun := run_append_room_cells (P := Try.prog) W 58 ty 172 i0 Try.underlying58 hi g off n vc ⟨w.heap.size, 0, none⟩ 1 1 [.int .i64 f, .int .i64 t] (by rw [hz2']; rfl) hnews (by intro u hu; simp at hu; rcases hu with rfl | rfl <;> rfl) hroom (fun j hj => by rw [hz2']; exact (hcell j hj).1) (fun j hj => by rw [hz2']; exact (hcell j hj).2)
      rw [hz2'] at hrun
      refine ⟨some ⟨g, off, none⟩, vc, _, hrun, ⟨hwl, Or.inr ⟨g, off, rfl, fun i hi => ?_⟩⟩, (fun h => by cases h), hroom, hm, ?_, fun b hb => by cases hb; exact g1⟩
      · have hin := World.cell?_setCells_in g [.int .i64 f, .int .i64 t] (off + n * 2) W (fun j hj => (hcell j hj).1)
        by_cases hil : i < n
        · have hll : i < l.length := by omega
          rcases hRW.mem with e | ⟨b, o, e, hc'⟩
          · rw [e] at hll; simp at hll
          · simp only [Option.some.injEq, Addr.mk.injEq, and_true] at e
            obtain ⟨rfl, rfl⟩ := e
            obtain ⟨c1, c2⟩ := hc' i hll
            rw [World.cell?_setCells_out g _ _ _ _ (fun _ _ => Or.inl (by dsimp only; omega)), World.cell?_setCells_out g _ _ _ _ (fun _ _ => Or.inl (by dsimp only; omega)), List.getElem_append_left hll]
            exact ⟨c1, c2⟩
        · have hie : i = n := by simp at hi; omega
          subst hie
          have e : (l ++ [(f, t, ())])[i] = (f, t, ()) := by rw [List.getElem_append_right (by omega)]; simp
          rw [e]
          exact ⟨by have := hin 0 (by simp); simpa using this, by have := hin 1 (by simp); simpa using this⟩
      · exact (hbW.mono hlo).trans (setCells_below g1 _ _ _ _ (Below.refl _ _))
    · obtain ⟨v', w', hrun, q1, q2⟩ := run_append_arg_grows (P := Try.prog) W 58 ty 172 i0 (.agg #[.int .i64 0, .int .i64 0]) 2 16 Try.underlying58 hi hz0 hz1 hz2 rfl (by decide) ad n vc (cellsS l) (by rw [cellsS_len, hn]) (by
        intro j u hj
        obtain ⟨i, hi', hu⟩ := cellsS_at hj
        rcases hRW.mem with e | ⟨b, off, e, hc'⟩
        · rw [e] at hi'; simp at hi'
        · cases e
          rw [add_none]
          rcases hu with ⟨rfl, rfl⟩ | ⟨rfl, rfl⟩
          · exact (hc' i hi').1
          · exact (hc' i hi').2) ⟨w.heap.size, 0, none⟩ 1 1 [.int .i64 f, .int .i64 t] rfl hnews (by omega) (by unfold maxLen; omega) (by omega)
      have hB2 : Below w.heap.size w w' := hbW.trans ((Below.refl W.heap.size W).grown q2 (Nat.le_refl _) (by intro k hk; cases hk) |>.mono hbW.size)
      have hos : OS w' w.heap.size v' (l ++ [(f, t, ())]) := by
        refine ⟨?_, hwl⟩
        rw [List.length_append, List.length_singleton, ← hn, cellsS_app]
        exact own_lower q1 hbW.size
      obtain ⟨va', vc', rfl, r1, r2, r3, r4, r5⟩ := grow v' w' hos hB2
      exact ⟨va', vc', w', hrun, r1, r2, r3, r4, hB2.mono hlo, r5⟩
theorem app_spn {o : Oper} {a : Act} {K : Act → World → Prop} {Q : Exit → Act → World → Prop} {w : World} (s x : Operand)
    (ho : o.op = .call { callee := .builtin .append, args := #[s, x], argTypes := #[58, 58] }) (lo : Nat) (va : Option Addr) (l : List DSpan) (n vc : Nat) (f t : Int) (hs : a.eval s = .slice va n vc) (hx : a.eval x = .slice (some ⟨w.heap.size, 0, none⟩) 1 1)
    (hn : n = l.length) (hR : RS w va l) (h0 : va = none → vc = 0) (hc : n ≤ vc) (hm : vc ≤ maxLen) (h20 : n ≤ 20) (hS : Spare w lo (.slice va n vc)) (wf : (Lit.int .i64 f).wf = true) (wt : (Lit.int .i64 t).wf = true) (hlo : lo ≤ w.heap.size)
    (h : ∀ va' vc' w', RS w' va' (l ++ [(f, t, ())]) → (va' = none → vc' = 0) → n + 1 ≤ vc' → vc' ≤ maxLen → Below lo w w' → (∀ b, va' = some b → lo ≤ b.block) → K (a.put o.dst (.slice va' (n + 1) vc')) w') : o.wp Try.prog a (w.alloc (.cells #[.int .i64 f, .int .i64 t] 172)) K Q := by
  obtain ⟨va', vc', w', hrun, h1, h2, h3, h4, h5, h6⟩ := run_appC o.type w lo va l n vc f t hn hR h0 hc hm h20 hS wf wt hlo
  unfold Oper.wp execOp
  simp only [ho, resolve, invoke, builtin, Sem.run_bind, Sem.run_pure, Result.andThen_ok, List.map_toArray, List.map_cons, List.map_nil, hs, hx, hrun]
  exact h va' vc' w' h1 h2 h3 h4 h5 h6
theorem ct_nil (W : World) (lo : Nat) {y0 y1 : Int} (h0 : 0 ≤ y0 ∧ y0 ≤ 65535) (h1 : 0 ≤ y1 ∧ y1 ≤ 1000000) : CT W lo (y0, y1, [], ()) none 0 0 := by
  refine ⟨?_, Spare.none_ _ _ _ _, ?_, fun t ht => by cases ht⟩
  · have hn : Own W lo W.heap.size shSpansO [] [.slice none 0 0] := ⟨[], Or.inl ⟨rfl, rfl, none, 0, rfl, Nat.zero_le _, fun _ => rfl⟩, by simp, by simp⟩
    obtain ⟨bs, o1, o2, o3⟩ := hn
    exact ⟨bs, mk_Catch o1 (WalkArith.wf_i64 (by omega)) (WalkArith.wf_i64 (by omega)), o2, o3⟩
  · have hh : caHead (y0, y1, [], ()) = true := by
      show (inC y0 0 65535 && inC y1 0 1000000) = true
      rw [inC_mk h0.1 h0.2, inC_mk h1.1 h1.2]; rfl
    rw [caF_sps hh (by show ¬ 20 < ([] : List DSpan).length; simp)]; rfl
structure FC (W : World) (lo : Nat) (x : DCatch) (va : Option Addr) (n vc : Nat) : Prop where
  len : n = x.2.2.1.length
  rs : RS W va x.2.2.1
  nil : va = none → vc = 0
  cap : n ≤ vc
  mx : vc ≤ maxLen
  few : n ≤ 22
  at_ : ∀ b, va = some b → lo ≤ b.block
  tb : caF x = 0 → ToB x
  w0 : -1 ≤ x.1 ∧ x.1 ≤ 65536
  w1 : -1 ≤ x.2.1 ∧ x.2.1 ≤ 2000000
theorem CT.fc {W : World} {lo n vc : Nat} {x : DCatch} {va : Option Addr} (h : CT W lo x va n vc) {y0 y1 : Int} (h0 : -1 ≤ y0 ∧ y0 ≤ 65536) (h1 : -1 ≤ y1 ∧ y1 ≤ 2000000) : FC W lo (y0, y1, x.2.2.1, ()) va n vc := by
  obtain ⟨g1, g2, g3, g4, g5, g6, -, -⟩ := h.form
  refine ⟨g1, g3, g4, g5, g6, by omega, fun b hb => ?_, fun _ => h.tb, h0, h1⟩
  subst hb
  obtain ⟨g, off, rfl, q1, -⟩ := h.sp b _ _ rfl
  exact q1
theorem RS.keepLo {w w' : World} {lo : Nat} {a : Option Addr} {l : List DSpan} (h : RS w a l) (hl : ∀ b, a = some b → lo ≤ b.block) (hk : ∀ g, lo ≤ g → g < w.heap.size → w'.heap[g]? = w.heap[g]?) : RS w' a l := by
  refine ⟨h.wf, ?_⟩
  rcases h.mem with e | ⟨b, off, rfl, hc⟩
  · exact Or.inl e
  · refine Or.inr ⟨b, off, rfl, fun i hi => ?_⟩
    have hlt := cell_lt (hc i hi).1
    have hlo := hl _ rfl
    exact ⟨(World.cell?_of_block (w := w) (a := ⟨b, off + i * 2, none⟩) (hk b hlo hlt)).trans (hc i hi).1, (World.cell?_of_block (w := w) (a := ⟨b, off + i * 2 + 1, none⟩) (hk b hlo hlt)).trans (hc i hi).2⟩
theorem FC.keep {w w' : World} {lo n vc : Nat} {x : DCatch} {va : Option Addr} (h : FC w lo x va n vc) (hk : ∀ g, lo ≤ g → g < w.heap.size → w'.heap[g]? = w.heap[g]?) : FC w' lo x va n vc :=
  ⟨h.len, h.rs.keepLo h.at_ hk, h.nil, h.cap, h.mx, h.few, h.at_, h.tb, h.w0, h.w1⟩
theorem FC.rd {w : World} {lo n vc : Nat} {x : DCatch} {va : Option Addr} (h : FC w lo x va n vc) : shCatch.Rd w w.heap.size x [.int .i64 x.1, .int .i64 x.2.1, .slice va n vc] := by
  have h1 := h.rs.rd h.nil ⟨by rw [← h.len]; exact h.cap, h.mx⟩ (Nat.le_refl w.heap.size)
  rw [← h.len] at h1
  have hw0 := h.w0
  have hw1 := h.w1
  exact ⟨[.int .i64 x.1], _, rfl, ⟨rfl, WalkArith.wf_i64 (by omega)⟩, [.int .i64 x.2.1], _, rfl, ⟨rfl, WalkArith.wf_i64 (by omega)⟩, [.slice va n vc], [], rfl, h1, rfl⟩
theorem FC.app {w : World} {lo n vc : Nat} {y0 y1 f t : Int} {l : List DSpan} {va : Option Addr} (hn : n = l.length) (h20 : n ≤ 20) (hT : ∀ s ∈ l, s.2.1 ≤ 1000000) (hr : RS w va (l ++ [(f, t, ())])) (h0 : va = none → vc = 0) (hc : n + 1 ≤ vc) (hm : vc ≤ maxLen) (ha : ∀ b, va = some b → lo ≤ b.block) (ht : t ≤ 1000000 ∨ 1000100 < t) (g0 : -1 ≤ y0 ∧ y0 ≤ 65536) (g1 : -1 ≤ y1 ∧ y1 ≤ 2000000) : FC w lo (y0, y1, l ++ [(f, t, ())], ()) va (n + 1) vc := by
  refine ⟨by show n + 1 = (l ++ [(f, t, ())]).length; simp [hn], hr, h0, hc, hm, by omega, ha, fun hF s hs => ?_, g0, g1⟩
  rcases List.mem_append.1 hs with hs | hs
  · exact hT s hs
  · simp only [List.mem_singleton] at hs
    subst hs
    obtain ⟨-, -, -, q⟩ := ca_ok hF
    have := (sps_sp q).2 (f, t, ()) (by show _ ∈ l ++ [(f, t, ())]; simp)
    show t ≤ 1000000
    have h3 : t ≤ 1000100 := this.2.2
    omega
theorem FC.many {w : World} {lo g : Nat} {y0 y1 : Int} {l : List DSpan} (hl : l.length = 21) (hr : RS w (some ⟨g, 0, none⟩) l) (hg : lo ≤ g) (g0 : -1 ≤ y0 ∧ y0 ≤ 65536) (g1 : -1 ≤ y1 ∧ y1 ≤ 2000000) : FC w lo (y0, y1, l, ()) (some ⟨g, 0, none⟩) 21 21 := by
  refine ⟨hl.symm, hr, (fun h => by cases h), Nat.le_refl _, by unfold maxLen; omega, by omega, (fun b hb => by cases hb; exact hg), fun hF => ?_, g0, g1⟩
  obtain ⟨-, -, q, -⟩ := ca_ok hF
  have q' : l.length ≤ 20 := q
  omega
theorem bx_threeC {w : World} {b : Nat} {x0 x1 x2 u0 u1 u2 : Value} (h : ∀ o, w.cell? ⟨b, o, none⟩ = (#[x0, x1, x2] : Array Value)[o]?) : ∀ o, (((w.setCell ⟨b, 0, none⟩ u0).setCell ⟨b, 1, none⟩ u1).setCell ⟨b, 2, none⟩ u2).cell? ⟨b, o, none⟩ = (#[u0, u1, u2] : Array Value)[o]? := by
  have h1 := bx_put h (k := 0) (v := u0) (by simp)
  have h2 := bx_put h1 (k := 1) (v := u1) (by simp)
  have h3 := bx_put h2 (k := 2) (v := u2) (by simp)
  simpa using h3
theorem bel_threeC (w : World) (b : Nat) (u0 u1 u2 : Value) : Below b w (((w.setCell ⟨b, 0, none⟩ u0).setCell ⟨b, 1, none⟩ u1).setCell ⟨b, 2, none⟩ u2) :=
  (((Below.refl b w).setCell (p := ⟨b, 0, none⟩) (Nat.le_refl _) u0).setCell (p := ⟨b, 1, none⟩) (Nat.le_refl _) u1).setCell (p := ⟨b, 2, none⟩) (Nat.le_refl _) u2
theorem w64C {z : Int} (h0 : -9223372036854775808 ≤ z) (h1 : z ≤ 9223372036854775807) : IntKind.i64.wrap z = z := by simp only [IntKind.wrap, IntKind.bits, IntKind.signed]; simp; omega
theorem CT.keepAll {W W' : World} {lo n vc : Nat} {x : DCatch} {va : Option Addr} (h : CT W lo x va n vc) (hs : W.heap.size ≤ W'.heap.size) (hk : ∀ g, lo ≤ g → g < W.heap.size → W'.heap[g]? = W.heap[g]?) : CT W' lo x va n vc :=
  ⟨Own.mono (Own.keep h.own fun b h1 h2 => hk b h1 h2) (Nat.le_refl _) hs, h.sp.keep hs fun g h1 h2 => hk g h1 h2, h.ok, h.tb⟩
theorem FC.low {w : World} {lo lo' n vc : Nat} {x : DCatch} {va : Option Addr} (h : FC w lo x va n vc) (hl : lo' ≤ lo) : FC w lo' x va n vc :=
  ⟨h.len, h.rs, h.nil, h.cap, h.mx, h.few, fun b hb => Nat.le_trans hl (h.at_ b hb), h.tb, h.w0, h.w1⟩
theorem info_Ct : (Try.prog.info? 60).map (·.size) = some 3 := by kernel_rfl
theorem sPickC (sb : Nat) (a : Option Addr) (len cap : Nat) (zs : List Int) (K : Int) (g : Nat) (l : List Int) (W : World) (hs : Src W sb (.slice a len cap) K) (hr : BRow .u8 W a len cap zs) (hl : RowLt sb a zs) (hK : K ≤ 1000000) (hg : g ≠ sb) (h1 : 1 ≤ l.length) (h2 : l.length ≤ 1000) (hc : ∀ i, i < l.length → W.cell? ⟨g, i, none⟩ = some (.int .i64 (l.getD i 0))) :
    Calls Try.prog 41 #[.pointer (some ⟨sb, 0, none⟩), .slice (some ⟨g, 0, none⟩) l.length l.length] W fun e w' => ∃ r, e = .returned (.int .i64 r) ∧ r ∈ l ∧ Dr sb W w' ∧ Src w' sb (.slice a len cap) (K + 1) := by
  refine (sPick sb a len cap zs K g l.length (fun i => l.getD i 0) W hs hr hl hK hg h1 h2 hc).mono ?_
  rintro e w' ⟨i, rfl, hi, st, sr⟩
  refine ⟨_, rfl, ?_, st.dr, sr⟩
  rw [List.getD_eq_getElem?_getD, List.getElem?_eq_getElem hi]
  exact List.getElem_mem hi
theorem bel_one (w : World) (b k : Nat) (v : Value) : Below b w (w.setCell ⟨b, k, none⟩ v) := (Below.refl b w).setCell (p := ⟨b, k, none⟩) (Nat.le_refl _) v
theorem rs_made {w : World} {base : Nat} (h : w.ownsRow base 172 2 (.slice (some ⟨base, 0, none⟩) 21 21) 21 (madeCells (Value.agg #[.int .i64 0, .int .i64 0]).cells (21 * 2)).toList) : RS w (some ⟨base, 0, none⟩) (List.replicate 21 ((0, 0, ()) : DSpan)) := by
  have e : (madeCells (Value.agg #[.int .i64 0, .int .i64 0]).cells (21 * 2)).toList = cellsS (List.replicate 21 ((0, 0, ()) : DSpan)) := by kernel_rfl
  rw [e] at h
  have hos : OS w base (.slice (some ⟨base, 0, none⟩) 21 21) (List.replicate 21 ((0, 0, ()) : DSpan)) := ⟨by rw [List.length_replicate]; exact h, fun s hs => by rw [List.eq_of_mem_replicate hs]; exact ⟨by decide, by decide⟩⟩
  obtain ⟨a, c, e2, r, -⟩ := hos.rs
  simp only [Value.slice.injEq] at e2
  rw [e2.1]
  exact r
end Go.Proofs.Ytebgibjokljlbaa
