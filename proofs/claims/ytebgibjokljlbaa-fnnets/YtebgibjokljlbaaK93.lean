/- What compares, marks and holds answers with a net; no condition but that there are at most a million parts. -/
import Derived.Test.YtebgibjokljlbaaRows
import Derived.Deep.DeepCutAuto
import Derived.Deep.MidRow
import Derived.Deep.RegionHeld3
import Derived.Deep.DeepMust
import Derived.Test.YtebgibjokljlbaaK01
import Derived.Test.YtebgibjokljlbaaK02
import Derived.Test.YtebgibjokljlbaaK03
import Derived.Test.YtebgibjokljlbaaK10
import Derived.Test.YtebgibjokljlbaaK17
import Derived.Test.YtebgibjokljlbaaK20
import Derived.Test.YtebgibjokljlbaaK42
import Derived.Test.YtebgibjokljlbaaK43
import Derived.Test.YtebgibjokljlbaaK55
import Derived.Test.YtebgibjokljlbaaK56
import Derived.Test.YtebgibjokljlbaaK57
import Derived.Test.YtebgibjokljlbaaK64
import Derived.Test.YtebgibjokljlbaaK66
namespace Go.Proofs.Ytebgibjokljlbaa
open Go.RowKit
set_option linter.unusedVariables false
set_option maxRecDepth 8000

abbrev shNR (t : TypeId) : Sh := .cons (.int .i64) (.cons shSegm (.cons (shNetT t) .nil))
abbrev DNR : Type := Int × DSegm × DNet × Unit
def totNR (x : DNR) : Nat := totSegm x.2.1 + totNet x.2.2.1
def wtNR (x : DNR) : Nat := totSegm x.2.1 + wtNet x.2.2.1
def mkNR (c : Int) : DNR → DNR
  | (q, s, n, _) => (q, mkSegA c s, mkNet (c + (totSegm s : Nat)) n, ())
theorem wtNR_le {x : DNR} (h : totNR x ≤ 1048576) : wtNR x ≤ 16777216 := by
  unfold totNR at h
  unfold wtNR
  have := wtNet_le (x := x.2.2.1) (by omega)
  omega
theorem rd_NR {t : TypeId} {w : World} {B : Nat} {q : Int} {s : DSegm} {n : DNet} {cs : List Value} (h : (shNR t).Rd w B (q, s, n, ()) cs) :
    ∃ (S M : List Value), cs = .int .i64 q :: (S ++ M) ∧ S.length = 12 ∧ M.length = 2 ∧ shSegm.Rd w B s S ∧ (shNetT t).Rd w B n M := by
  obtain ⟨p0, q0, e0, ⟨g0, w0⟩, p1, q1, e1, h1, p2, q2, e2, h2, hz⟩ := h
  have hz' : q2 = [] := hz
  refine ⟨p1, p2, ?_, Sh.Rd.len _ _ _ h1, Sh.Rd.len _ _ _ h2, h1, h2⟩
  rw [e0, g0, e1, e2, hz']; simp
theorem nr_r1 {w : World} {b : Nat} {N : Array Value} {q : Value} {S M : List Value} (h : N.toList = q :: (S ++ M)) (hc : ∀ o, w.cell? ⟨b, o, none⟩ = N[o]?) : w.rangeAt b 1 S := fun j v hv => by
  rw [hc (1 + j), Nat.add_comm 1 j, get_of h, List.getElem?_cons_succ, List.getElem?_append_left (List.getElem?_eq_some_iff.1 hv).1]
  exact hv
theorem nr_r2 {w : World} {b : Nat} {N : Array Value} {q : Value} {S M : List Value} (h : N.toList = q :: (S ++ M)) (hl : S.length = 12) (hc : ∀ o, w.cell? ⟨b, o, none⟩ = N[o]?) : w.rangeAt b 13 M := fun j v hv => by
  rw [hc (13 + j), show 13 + j = (12 + j) + 1 by omega, get_of h, List.getElem?_cons_succ, List.getElem?_append_right (by omega), hl, Nat.add_sub_cancel_left]
  exact hv
theorem ow_NR {t : TypeId} {w : World} {bs : List Nat} {q : Int} {s : DSegm} {n : DNet} {cs : List Value} (h : (shNR t).Ow w bs (q, s, n, ()) cs) :
    ∃ b1 b2 S M, bs = b1 ++ b2 ∧ cs = .int .i64 q :: (S ++ M) ∧ S.length = 12 ∧ M.length = 2 ∧ shSegm.Ow w b1 s S ∧ (shNetT t).Ow w b2 n M ∧
      (∀ (W : World) (s' : DSegm) (n' : DNet), shSegm.Ow W b1 s' S → (shNetT t).Ow W b2 n' M → (shNR t).Ow W bs (q, s', n', ()) cs) := by
  obtain ⟨a0, r0, p0, q0, eb0, ec0, ⟨f0, g0, w0⟩, a1, r1, p1, q1, eb1, ec1, h1, a2, r2, p2, q2, eb2, ec2, h2, zb, zc⟩ := h
  refine ⟨a1, a2, p1, p2, ?_, ?_, Sh.Ow.len _ _ _ _ h1, Sh.Ow.len _ _ _ _ h2, h1, h2, fun W s' n' k1 k2 => ?_⟩
  · rw [eb0, f0, eb1, eb2, zb]; simp
  · rw [ec0, g0, ec1, ec2, zc]; simp
  · exact ⟨a0, r0, p0, q0, eb0, ec0, ⟨f0, g0, w0⟩, a1, r1, p1, q1, eb1, ec1, k1, a2, r2, p2, q2, eb2, ec2, k2, zb, zc⟩
theorem own_NR {t : TypeId} {w : World} {lo m hi : Nat} {q : Int} {s : DSegm} {n : DNet} {S M : List Value} (hq : (Lit.int .i64 q).wf = true) (h1 : Own w lo m shSegm s S) (h2 : Own w m hi (shNetT t) n M) (l1 : lo ≤ m) (l2 : m ≤ hi) : Own w lo hi (shNR t) (q, s, n, ()) (.int .i64 q :: (S ++ M)) := by
  have h := hOwnCons (hOwnInt w lo lo hq) (hOwnCons h1 (hOwnCons h2 (hOwnNil _ hi hi) l2 (Nat.le_refl _)) l1 l2) (Nat.le_refl _) (Nat.le_trans l1 l2)
  simpa using h
def zSg : DSegm := (0, 0, false, false, false, 0, 0, 0, 0, 0, 0, [], ())
abbrev zSc : List Value := [.int .i64 0, .int .i64 0, .bool false, .bool false, .bool false, .int .i64 0, .int .i64 0, .int .i64 0, .int .i64 0, .int .i64 0, .int .i64 0, .slice none 0 0]
theorem own_zSg (w : World) (lo hi : Nat) : Own w lo hi shSegm zSg zSc := ⟨[], zero_ow w shSegm, by simp, by simp⟩
def badN (q : Int) : DNR := (q, zSg, ([], [], ()), ())
theorem own_badN (t : TypeId) (w : World) (lo hi : Nat) {q : Int} (hq : (Lit.int .i64 q).wf = true) (h : lo ≤ hi) : Own w lo hi (shNR t) (badN q) (.int .i64 q :: (zSc ++ [.slice none 0 0, .slice none 0 0])) :=
  own_NR hq (own_zSg w lo lo) ⟨[], zero_ow w (shNetT t), by simp, by simp⟩ (Nat.le_refl _) h
theorem own_okN {t : TypeId} {w : World} {lo : Nat} {bag : List DSegm} {dead : List Bool} {N : Array Value} (h : NetP t w lo bag dead N) (hl : lo ≤ w.heap.size) : Own w lo w.heap.size (shNR t) (0, zSg, (bag, dead, ()), ()) (.int .i64 0 :: (zSc ++ N.toList)) :=
  own_NR (by decide) (own_zSg w lo lo) h.own (Nat.le_refl _) hl
theorem tot_badN (q : Int) : totNR (badN q) = 0 := rfl
theorem info_NR : (Try.prog.info? 50).map (·.size) = some 15 := by kernel_rfl

end Go.Proofs.Ytebgibjokljlbaa

/- The model's nets: l12Copy, l12Put; nothing that was in memory turns; the condition is that each path is one of three and there are at most a few million parts. Written by mknet5.py. -/
namespace Go.Proofs.Ytebgibjokljlbaa
open Go.RowKit
set_option linter.unusedVariables false
set_option maxRecDepth 8000
theorem own_rowB {w : World} {base hi : Nat} {v : Value} {l : List Bool} (h : w.ownsRow base 4 1 v l.length (l.map Value.bool)) (hv : ∀ b, v.ownBlock = some b → b < hi) : Own w base hi (bls 4) l [v] := by
  refine Own.row_of (e := .bool) h hv (List.replicate l.length []) (by simp) (by simp) (by simp) fun i hi => ?_
  rw [List.getD_eq_getElem?_getD, List.getElem?_replicate]
  refine ⟨by simp [hi], ?_⟩
  apply List.ext_getElem?
  intro j
  cases j with
  | zero => simp [chunk, Sh.sz, List.getElem?_drop, hi]
  | succ j => simp [chunk, Sh.sz, List.getElem?_take]
theorem app_bl {ops : Array Oper} {rest : List Oper} {o : Oper} {a : Act} {Q : Exit → Act → World → Prop} (w : World) (hgd : o.guard = none) (s x : Operand)
    (ho : o.op = .call { callee := .builtin .append, args := #[s, x], argTypes := #[42, 42] }) (base g : Nat) (hs : a.eval s = .slice (some ⟨g, 0, none⟩) 0 0) (hown : w.ownsRow base 4 1 (.slice (some ⟨g, 0, none⟩) 0 0) 0 [])
    (db doff c : Nat) (dead : List Bool) (h3 : dead.length = 3) (hx : a.eval x = .slice (some ⟨db, doff, none⟩) 3 c) (hc : ∀ p, p < 3 → w.cell? ⟨db, doff + p, none⟩ = some (.bool (dead.getD p false))) (hb : base ≤ w.heap.size)
    (h : ∀ v' w', Own w' base w'.heap.size (bls 4) dead [v'] → Below base w w' → wpList Try.prog ops Q rest (a.put o.dst v') w') :
    wpList Try.prog ops Q (o :: rest) a w := by
  obtain ⟨i0, hi, hz0, hz1, hz2⟩ := info_parts info_bool
  refine wpList_append_own_at _ hgd s x 42 ho base 4 i0 (.bool false) 1 1 Try.underlying42 hi hz0 hz1 hz2 rfl (by decide) _ 0 [] hs hown ⟨db, doff, none⟩ 3 c (dead.map Value.bool) hx (by simp [h3]) ?_ ?_ (by unfold maxLen; omega) (by omega) hb ?_
  · intro j u hj
    rw [List.getElem?_map] at hj
    have hlt : j < 3 := by
      apply Classical.byContradiction; intro hn
      rw [List.getElem?_eq_none (by omega)] at hj; cases hj
    rw [add_none, hc j hlt, List.getD_eq_getElem?_getD]
    rw [List.getElem?_eq_getElem (by omega)] at hj ⊢
    simpa using hj
  · intro u hu
    obtain ⟨y, _, rfl⟩ := List.mem_map.1 hu
    rfl
  · intro v' w' h1 h2 _ h4
    have hb2 : Below base w w' := (Below.refl _ _).grown h2 hb (fun k hk => (hown.lt k hk).1)
    refine h v' w' (own_rowB ?_ fun b e => ?_) hb2
    · rw [h3]; simpa using h1
    · exact (h1.lt b e).2
theorem Own.bty {w : World} {lo hi : Nat} {t : TypeId} {e : Sh} {l : List e.El} {v : Value} (h : Own w lo hi (.row t e) l [v]) {b : Nat} (hb : v.ownBlock = some b) : ∃ cur, w.heap[b]? = some (.cells cur t (0, 0)) := by
  obtain ⟨bs, h1, -⟩ := h
  rcases h1 with ⟨_, e1, _⟩ | ⟨g, cap, cur, F, e1, -, g3, -⟩
  · simp only [List.cons.injEq, and_true] at e1
    rw [e1] at hb; simp [Value.ownBlock] at hb
  · simp only [List.cons.injEq, and_true] at e1
    rw [e1] at hb
    simp [Value.ownBlock] at hb
    subst hb
    exact ⟨cur, g3⟩
set_option maxHeartbeats 8000000 in
theorem sL12Copy (t : TypeId) (l : List DSegm) (dead : List Bool) (vb vd : Value) (w : World) (B : Nat) (hr : shSegms.Rd w B l [vb]) (hd : (bls t).Rd w B dead [vd]) (hB : B ≤ w.heap.size) (h3 : dead.length = 3) (hl : l.length ≤ 1048576) (hT : ∀ x ∈ l, totSegm x ≤ 1048576) :
    Calls Try.prog 66 #[.agg #[vb, vd]] w fun e w' => ∃ N : Array Value, e = .returned (.agg N) ∧ NetP 4 w' w.heap.size l dead N ∧ Below w.heap.size w w' := by
  obtain ⟨a, cap, ev⟩ := row_form hr
  simp only [List.cons.injEq, and_true] at ev
  subst ev
  obtain ⟨da, dcap, rfl, hdm, -⟩ := rd_bls hd
  obtain ⟨-, db, doff, hda, hdb, hdc⟩ := dead_at hd h3
  subst hda
  rw [h3]
  obtain ⟨n, hn⟩ : ∃ n, l.length = n := ⟨_, rfl⟩
  have HN : Hid (l.length = n) := hn
  have HRd : Hid (∀ W, Below w.heap.size w W → shSegms.Rd W B l [.slice a n cap]) := fun W hW => by have h := Sh.Rd.below hr hB hW; rw [hn] at h; exact h
  rw [hn] at hl ⊢
  have HT : Hid (∀ k (hk : k < l.length), totSegm l[k] ≤ 1048576) := fun k hk => hT _ (List.getElem_mem hk)
  have HDC : Hid (∀ W, Below w.heap.size w W → ∀ p, p < 3 → W.cell? ⟨db, doff + p, none⟩ = some (.bool (dead.getD p false))) := fun W hW p hp => (hW.cell (p := ⟨db, doff + p, none⟩) (show db < _ by omega)).trans (hdc p hp)
  have HLN : Hid (∀ u W, (bls 4).Rd W W.heap.size dead [u] → ∃ a c, u = .slice a 3 c) := fun u W h => by obtain ⟨a, c, e⟩ := row_form h; simp only [List.cons.injEq, and_true, h3] at e; exact ⟨a, c, e⟩
  clear hr hd hT hn hdc hdm
  have HWA : Hid (Below w.heap.size w ((w.alloc (.cells #[.slice a n cap, .slice (some ⟨db, doff, none⟩) 3 dcap] 44)).alloc (.cells #[.slice none 0 0, .slice none 0 0] 44)) ∧ ((w.alloc (.cells #[.slice a n cap, .slice (some ⟨db, doff, none⟩) 3 dcap] 44)).alloc (.cells #[.slice none 0 0, .slice none 0 0] 44)).heap.size = w.heap.size + 2 ∧ (∀ o, ((w.alloc (.cells #[.slice a n cap, .slice (some ⟨db, doff, none⟩) 3 dcap] 44)).alloc (.cells #[.slice none 0 0, .slice none 0 0] 44)).cell? ⟨w.heap.size, o, none⟩ = (#[.slice a n cap, .slice (some ⟨db, doff, none⟩) 3 dcap] : Array Value)[o]?) ∧ (∀ o, ((w.alloc (.cells #[.slice a n cap, .slice (some ⟨db, doff, none⟩) 3 dcap] 44)).alloc (.cells #[.slice none 0 0, .slice none 0 0] 44)).cell? ⟨w.heap.size + 1, o, none⟩ = (#[.slice none 0 0, .slice none 0 0] : Array Value)[o]?) ∧ (∀ o, ((w.alloc (.cells #[.slice a n cap, .slice (some ⟨db, doff, none⟩) 3 dcap] 44)).alloc (.cells #[.slice none 0 0, .slice none 0 0] 44)).frozen? ⟨w.heap.size + 1, o, none⟩ = false)) := ⟨((Below.refl _ _).alloc (Nat.le_refl _) _).alloc (by simp) _, by simp, fun o => by simp [go_sem], fun o => by simp [go_sem], fun o => by simp [go_sem]⟩
  go_enter Try.func66, Try.ntmps66
  go_upto_region 1 with fail
  generalize hWW : ((w.alloc (.cells #[.slice a n cap, .slice (some ⟨db, doff, none⟩) 3 dcap] 44)).alloc (.cells #[.slice none 0 0, .slice none 0 0] 44)) = W1 at HWA ⊢
  clear hWW
  obtain ⟨hb, hsz, kA, kR, fR⟩ := HWA.out
  have HB : Hid (Below w.heap.size w W1) := hb
  have hsy : w.heap.size + 2 ≤ W1.heap.size := by omega
  clear HWA hb hsz
  have kA2 : ∀ o, (W1.alloc (.cells #[] 4)).cell? ⟨w.heap.size, o, none⟩ = (#[.slice a n cap, .slice (some ⟨db, doff, none⟩) 3 dcap] : Array Value)[o]? := bx_below kA (by omega) ((Below.refl _ _).alloc (Nat.le_refl _) _)
  have HOM : Hid ((W1.alloc (.cells #[] 4)).ownsRow W1.heap.size 4 1 (.slice (some ⟨W1.heap.size, 0, none⟩) 0 0) 0 []) := World.ownsRow_made W1 #[] 0 (Nat.le_refl _) (by decide) rfl
  have HDC2 : Hid (∀ p, p < 3 → (W1.alloc (.cells #[] 4)).cell? ⟨db, doff + p, none⟩ = some (.bool (dead.getD p false))) := HDC.out _ (HB.out.alloc HB.out.size _)
  have HX2 : Hid (∀ (w2 : World) (u : Value), Own w2 W1.heap.size w2.heap.size (bls 4) dead [u] → Below W1.heap.size (W1.alloc (.cells #[] 4)) w2 → ∃ sa sc, u = .slice sa 3 sc ∧ Own (w2.alloc (.cells #[.slice none 0 0, u] 44)) (w.heap.size + 1 + 1) w2.heap.size (bls 4) dead [u] ∧ Below W1.heap.size W1 (w2.alloc (.cells #[.slice none 0 0, u] 44)) ∧ W1.heap.size ≤ w2.heap.size) := fun w2 u h1 h2 => by
    obtain ⟨sa, sc, e⟩ := HLN.out u w2 (h1.rd (Nat.le_refl _))
    have h3 : Below W1.heap.size W1 w2 := Below.trans ((Below.refl _ _).alloc (Nat.le_refl _) _) h2
    exact ⟨sa, sc, e, Own.mono (h1.below (Nat.le_refl _) ((Below.refl _ _).alloc (Nat.le_refl _) _)) (by omega) (Nat.le_refl _), h3.alloc h3.size _, h3.size⟩
  clear HLN
  go_upto_region 2 with (at_builtin; refine app_bl (W1.alloc (.cells #[] 4)) rfl _ _ rfl W1.heap.size W1.heap.size (by rfl) HOM.out db doff dcap dead h3 (by rfl) HDC2.out (by simp) ?_; intro u w2 ho2 hb2; obtain ⟨sa, sc, eu, ho3, hb3, hz2⟩ := HX2.out w2 u ho2 hb2; subst eu; clear ho2 hb2 kA2)
  have kQ := bx_al w2 #[.slice none 0 0, .slice sa 3 sc] 44
  have fQ := fx_al w2 #[.slice none 0 0, .slice sa 3 sc] 44
  have zQ : w2.heap.size < (w2.alloc (.cells #[.slice none 0 0, .slice sa 3 sc] 44)).heap.size := by simp
  generalize hWW : w2.alloc (.cells #[.slice none 0 0, .slice sa 3 sc] 44) = W3 at kQ fQ zQ ho3 hb3 ⊢
  clear hWW HX2 HOM HDC2
  replace kA := bx_below kA (by omega) hb3
  replace kR := bx_below kR (by omega) hb3
  replace fR := bxF fR hb3 (by omega)
  replace HB : Hid (Below w.heap.size w W3) := HB.out.trans (hb3.mono HB.out.size)
  have XD : Hid (Own W3 (w.heap.size + 1 + 1) w2.heap.size (bls 4) dead [.slice sa 3 sc]) := ho3
  obtain ⟨q, hq⟩ : ∃ q, q = w2.heap.size := ⟨_, rfl⟩
  rw [← hq] at kQ fQ zQ XD ⊢
  have zq : w.heap.size + 2 ≤ q := by omega
  have z1 : q + 1 ≤ W3.heap.size := by omega
  clear ho3 hb3 hq hz2 hsy zQ
  go_upto_region 3 with fail
  go_loopw [4] (fun i wr => ∃ (k : Nat) (va : Option Addr) (vc : Nat), k ≤ n ∧ i = .int .i64 k ∧ (∀ o, wr.cell? ⟨w.heap.size, o, none⟩ = (#[.slice a n cap, .slice (some ⟨db, doff, none⟩) 3 dcap] : Array Value)[o]?) ∧ (∀ o, wr.cell? ⟨w.heap.size + 1, o, none⟩ = (#[.slice none 0 0, .slice none 0 0] : Array Value)[o]?) ∧ (∀ o, wr.frozen? ⟨w.heap.size + 1, o, none⟩ = false) ∧ (∀ o, wr.cell? ⟨q, o, none⟩ = (#[.slice va k vc, .slice sa 3 sc] : Array Value)[o]?) ∧ (∀ o, wr.frozen? ⟨q, o, none⟩ = false) ∧ Hid (Own wr (q + 1) wr.heap.size shSegms (l.take k) [.slice va k vc]) ∧ Hid (Own wr (w.heap.size + 1 + 1) q (bls 4) dead [.slice sa 3 sc]) ∧ Hid (Below w.heap.size w wr) ∧ q + 1 ≤ wr.heap.size) (fun i _ => n - (intOf i).toNat)
  case atStart => exact ⟨0, none, 0, Nat.zero_le _, rfl, kA, kR, fR, kQ, fQ, own_segs0 _ _ _, XD, HB, z1⟩
  case round =>
    clear kA kR fR kQ fQ XD HB z1
    obtain ⟨k, va, vc, hk, rfl, kA, kR, fR, kQ, fQ, XO, XD, HB, z1⟩ := hrel
    by_cases hlt : k < n
    · have hkl : k < l.length := by have := HN.out; omega
      obtain ⟨b, off, cs, ha, hb, hlen, hrg, hrs⟩ := row_at (HRd.out w (Below.refl _ _)) k hkl
      subst ha
      replace hrg : w.rangeAt b (off + k * 12) cs := hrg
      replace hlen : cs.length = 12 := hlen
      have HIX : Hid ((Try.prog.info? 48).map (·.size) = some cs.length) := by show _ = _; rw [hlen]; exact info_SG12
      have HTK : Hid (l.take (k + 1) = l.take k ++ [l[k]]) := List.take_succ_eq_append_getElem hkl
      have HLL : Hid ((l.take k).length = k) := by show _ = _; simp; omega
      have ht := HT.out k hkl
      have HCG : Hid (∀ W, Below w.heap.size w W → Calls Try.prog 106 #[.agg cs.toArray] W fun e w' => ∃ N : Array Value, e = .returned (.agg N) ∧ Own w' W.heap.size w'.heap.size shSegm l[k] N.toList ∧ Below W.heap.size W w') := fun W hW => sCopyA l[k] cs.toArray W B (Sh.Rd.below (s := shSegm) hrs hB hW) ht
      have HG : Hid (w.rangeAt b (off + k * 12) cs) := hrg
      have hbw : b < w.heap.size := by omega
      clear hrs hlen hrg ht
      generalize l[k] = x at *
      have hk0 : (0 : Int) ≤ (k : Int) := by omega
      have hkn : (k : Int) < (n : Int) := by omega
      go_upto_region 5 with fail
      obtain ⟨mm, hmm⟩ : ∃ mm, w.heap.size + mm = q + 1 := ⟨q + 1 - w.heap.size, by omega⟩
      have HS : Hid (SB2 w mm q w.heap.size #[.slice va k vc, .slice sa 3 sc] #[.slice (some ⟨b, off, none⟩) n cap, .slice (some ⟨db, doff, none⟩) 3 dcap] wr) := ⟨HB.out, by omega, kQ, kA⟩
      clear kQ kA
      refine wp_region_noPanic ?_
      refine Goes.start (S := SB2 w mm q w.heap.size #[.slice va k vc, .slice sa 3 sc] #[.slice (some ⟨b, off, none⟩) n cap, .slice (some ⟨db, doff, none⟩) 3 dcap]) (z := 11) (by kernel_rfl) ?_
      refine Goes.take (i := 0) (oi := ?oi11) (x := ?vx11) ?ho11 (by kernel_rfl) (by kernel_rfl) (by kernel_rfl) (by kernel_rfl) (fun _ _ _ h => h) (Or.inl ⟨?hw11, ?hy11⟩) HS.out.drew ?rest11
      case ho11 => (simp only [List.getElem?_toArray, List.getElem?_cons_zero] <;> rfl)
      case hw11 => rfl
      case hy11 => (intro w' hSw; have j0 := hSw.k0; have j1 := hSw.k1; go_simp; (try with_reducible rfl))
      case rest11 =>
      (try simp only [Act.put, List.setIfInBounds_toArray, List.set_cons_zero, List.set_cons_succ])
      refine Goes.take (i := 1) (oi := ?oi12) (x := ?vx12) ?ho12 (by kernel_rfl) (by kernel_rfl) (by kernel_rfl) (by kernel_rfl) (fun _ _ _ h => h) (Or.inl ⟨?hw12, ?hy12⟩) HS.out.drew ?rest12
      case ho12 => (simp only [List.getElem?_toArray, List.getElem?_cons_succ, List.getElem?_cons_zero] <;> rfl)
      case hw12 => rfl
      case hy12 => (intro w' hSw; have j0 := hSw.k0; have j1 := hSw.k1; go_simp; (try with_reducible rfl))
      case rest12 =>
      (try simp only [Act.put, List.setIfInBounds_toArray, List.set_cons_zero, List.set_cons_succ])
      refine Goes.take (i := 2) (oi := ?oi13) (x := ?vx13) ?ho13 (by kernel_rfl) (by kernel_rfl) (by kernel_rfl) (by kernel_rfl) (fun _ _ _ h => h) (Or.inl ⟨?hw13, ?hy13⟩) HS.out.drew ?rest13
      case ho13 => (simp only [List.getElem?_toArray, List.getElem?_cons_succ, List.getElem?_cons_zero] <;> rfl)
      case hw13 => rfl
      case hy13 => (intro w' hSw; have j0 := hSw.k0; have j1 := hSw.k1; go_simp; (try with_reducible rfl))
      case rest13 =>
      (try simp only [Act.put, List.setIfInBounds_toArray, List.set_cons_zero, List.set_cons_succ])
      refine Goes.take (i := 3) (oi := ?oi14) (x := ?vx14) ?ho14 (by kernel_rfl) (by kernel_rfl) (by kernel_rfl) (by kernel_rfl) (fun _ _ _ h => h) (Or.inl ⟨?hw14, ?hy14⟩) HS.out.drew ?rest14
      case ho14 => (simp only [List.getElem?_toArray, List.getElem?_cons_succ, List.getElem?_cons_zero] <;> rfl)
      case hw14 => rfl
      case hy14 => (intro w' hSw; have j0 := hSw.k0; have j1 := hSw.k1; go_simp; (try with_reducible rfl))
      case rest14 =>
      (try simp only [Act.put, List.setIfInBounds_toArray, List.set_cons_zero, List.set_cons_succ])
      refine Goes.take (i := 4) (oi := ?oi15) (x := ?vx15) ?ho15 (by kernel_rfl) (by kernel_rfl) (by kernel_rfl) (by kernel_rfl) (fun _ _ _ h => h) (Or.inl ⟨?hw15, ?hy15⟩) HS.out.drew ?rest15
      case ho15 => (simp only [List.getElem?_toArray, List.getElem?_cons_succ, List.getElem?_cons_zero] <;> rfl)
      case hw15 => rfl
      case hy15 => (intro w' hSw; have j0 := hSw.k0; have j1 := hSw.k1; go_simp; (try with_reducible rfl))
      case rest15 =>
      (try simp only [Act.put, List.setIfInBounds_toArray, List.set_cons_zero, List.set_cons_succ])
      refine Goes.take (i := 5) (oi := ?oi16) (x := ?vx16) ?ho16 (by kernel_rfl) (by kernel_rfl) (by kernel_rfl) (by kernel_rfl) (fun _ _ _ h => h) (Or.inl ⟨?hw16, ?hy16⟩) HS.out.drew ?rest16
      case ho16 => (simp only [List.getElem?_toArray, List.getElem?_cons_succ, List.getElem?_cons_zero] <;> rfl)
      case hw16 => rfl
      case hy16 => (intro w' hSw; have j0 := hSw.k0; have j1 := hSw.k1; go_simp; (try with_reducible rfl))
      case rest16 =>
      (try simp only [Act.put, List.setIfInBounds_toArray, List.set_cons_zero, List.set_cons_succ])
      refine Goes.take (i := 6) (oi := ?oi17) (x := .agg (cs).toArray) ?ho17 (by kernel_rfl) (by kernel_rfl) (by kernel_rfl) (by kernel_rfl) (fun _ _ _ h => h) ?hy17 HS.out.drew ?rest17
      case ho17 => (simp only [List.getElem?_toArray, List.getElem?_cons_succ, List.getElem?_cons_zero] <;> rfl)
      case hy17 => exact yieldsIf_load_mid (by rfl) 48 _ rfl (b) (off + k * 12) (by rfl) (cs) _ (fun w' hSw => range_below HG.out hSw.bl hbw) Try.underlying48 rfl HIX.out
      case rest17 =>
      (try simp only [Act.put, List.setIfInBounds_toArray, List.set_cons_zero, List.set_cons_succ])
      refine Goes.all (rs := [7]) (by kernel_rfl) (by simp) ?_
      refine Ups.cons (i := 7) (o := ?oo18) ?ho18 (fun KK hKK => ?stp18) Ups.nil
      case ho18 => (simp only [List.getElem?_toArray, List.getElem?_cons_succ, List.getElem?_cons_zero] <;> rfl)
      case stp18 =>
      go_simp
      go_at_call 106
      refine (HCG.out _ HS.out.drew.bl).mono ?_
      rintro e w2 ⟨N, rfl, ho2, hbq⟩
      have HS6 : Hid (SB2 w mm q w.heap.size #[.slice va k vc, .slice sa 3 sc] #[.slice (some ⟨b, off, none⟩) n cap, .slice (some ⟨db, doff, none⟩) 3 dcap] w2) := SB2.below HS.out.drew hbq (by omega) (by omega)
      replace hbq := (Below.drew (Below.refl wr.heap.size wr)).trans hbq
      have HE1 : Hid (Own w2 wr.heap.size w2.heap.size shSegm x N.toList) := ho2
      have HNZ : Hid (N.size = 12) := rd_size (s := shSegm) (ho2.rd (Nat.le_refl _))
      have HOW : Hid (Own w2 (q + 1) wr.heap.size shSegms (l.take k) [.slice va k vc]) := Own.below XO.out (Nat.le_refl _) hbq
      replace XD : Hid (Own w2 (w.heap.size + 1 + 1) q (bls 4) dead [.slice sa 3 sc]) := Own.below XD.out (by omega) hbq
      replace kR := bx_below kR (by omega) hbq
      replace fR := bxF fR hbq (by omega)
      replace fQ := bxF fQ hbq (by omega)
      have hz2 := hbq.size
      clear ho2 hbq XO HCG
      dsimp only
      refine hKK.out _ _ (Or.inr HS6.out) ?_
      clear hKK KK
      (try simp only [Act.put, List.setIfInBounds_toArray, List.set_cons_zero, List.set_cons_succ])
      obtain ⟨e0, e1, e2, e3, e4, e5, e6, e7, e8, e9, e10, e11, hN⟩ := arr12 HNZ.out
      subst hN
      refine Goes.all (rs := [8]) (by kernel_rfl) (by simp) ?_
      refine Ups.cons (i := 8) (o := ?oo19) ?ho19 (fun KK hKK => ?stp19) Ups.nil
      case ho19 => (simp only [List.getElem?_toArray, List.getElem?_cons_succ, List.getElem?_cons_zero] <;> rfl)
      case stp19 =>
      go_simp
      refine hKK.out _ _ (Or.inr (SB2.alloc HS6.out _ (by omega) (by omega))) ?_
      clear hKK KK
      (try simp only [Act.put, List.setIfInBounds_toArray, List.set_cons_zero, List.set_cons_succ])
      refine Goes.all (rs := [9]) (by kernel_rfl) (by simp) ?_
      refine Ups.cons (i := 9) (o := ?oo20) ?ho20 (fun KK hKK => ?stp20) Ups.nil
      case ho20 => (simp only [List.getElem?_toArray, List.getElem?_cons_succ, List.getElem?_cons_zero] <;> rfl)
      case stp20 =>
      refine app_elem_st w2 (by rfl) _ _ 41 48 (by rfl) shSegm (.agg #[.int .i64 0, .int .i64 0, .bool false, .bool false, .bool false, .int .i64 0, .int .i64 0, .int .i64 0, .int .i64 0, .int .i64 0, .int .i64 0, .slice none 0 0]) 96 Try.underlying41 info_SZ rfl (by decide) (by decide) (q + 1) wr.heap.size wr.heap.size w2.heap.size (l.take k) (.slice va k vc) (by rfl) w2.heap.size rfl (by rfl) HOW.out x [e0, e1, e2, e3, e4, e5, e6, e7, e8, e9, e10, e11] HE1.out z1 (Nat.le_refl _) (Nat.le_refl _) (by have := HLL.out; omega) (by omega) ?_
      intro v3 w3' ho3 hb3 hk3 hs3
      obtain ⟨va3, vc3, hv3⟩ := row_form (ho3.rd (Nat.le_refl _))
      simp only [List.cons.injEq, and_true, List.length_append, List.length_cons, List.length_nil, HLL.out] at hv3
      subst hv3
      have HO3 : Hid (Own w3' (q + 1) w3'.heap.size shSegms (l.take (k + 1)) [.slice va3 (k + 1) vc3]) := by rw [HTK.out]; exact ho3
      have HS9 : Hid (SB2 w mm q w.heap.size #[.slice va k vc, .slice sa 3 sc] #[.slice (some ⟨b, off, none⟩) n cap, .slice (some ⟨db, doff, none⟩) 3 dcap] w3') := ⟨HS6.out.bl.trans (hb3.mono (by omega)), Nat.le_trans HS6.out.sz (Nat.le_of_lt hs3), bxC HS6.out.k0 hb3 (show q < q + 1 by omega), bxC HS6.out.k1 hb3 (show w.heap.size < q + 1 by omega)⟩
      replace XD : Hid (Own w3' (w.heap.size + 1 + 1) q (bls 4) dead [.slice sa 3 sc]) := Own.below XD.out (show q ≤ q + 1 by omega) hb3
      replace kR := bxC kR hb3 (show w.heap.size + 1 < q + 1 by omega)
      replace fR := fxC fR hb3 (show w.heap.size + 1 < q + 1 by omega)
      replace fQ := fxC fQ hb3 (show q < q + 1 by omega)
      have hz3 : q + 1 ≤ w3'.heap.size := by omega
      clear ho3 hb3 hk3 HOW HE1 hs3
      refine hKK.out _ _ (Or.inr HS9.out) ?_
      clear hKK KK
      (try simp only [Act.put, List.setIfInBounds_toArray, List.set_cons_zero, List.set_cons_succ])
      refine Goes.take (i := 10) (oi := ?oi21) (x := ?vx21) ?ho21 (by kernel_rfl) (by kernel_rfl) (by kernel_rfl) (by kernel_rfl) (fun _ _ _ h => h) (Or.inl ⟨?hw21, ?hy21⟩) HS9.out ?rest21
      case ho21 => (simp only [List.getElem?_toArray, List.getElem?_cons_succ, List.getElem?_cons_zero] <;> rfl)
      case hw21 => rfl
      case hy21 => (intro w' hSw; have j0 := hSw.k0; have j1 := hSw.k1; go_simp; (try with_reducible rfl))
      case rest21 =>
      (try simp only [Act.put, List.setIfInBounds_toArray, List.set_cons_zero, List.set_cons_succ])
      refine Goes.all (rs := [11]) (by kernel_rfl) (by simp) ?_
      refine Ups.cons (i := 11) (o := ?oo22) ?ho22 (fun KK hKK => ?stp22) Ups.nil
      case ho22 => (simp only [List.getElem?_toArray, List.getElem?_cons_succ, List.getElem?_cons_zero] <;> rfl)
      case stp22 =>
      have kQ := HS9.out.k0
      go_simp
      refine hKK.out _ _ (Or.inl rfl) ?_
      clear hKK KK
      (try simp only [Act.put])
      refine Goes.done (by kernel_rfl) ?_ _
      refine NoPanic.normal ?_
      have kA := HS9.out.k1
      go_wp2_with fail
      replace kQ := bx_put kQ (k := 0) (v := .slice va3 (k + 1) vc3) (by simp)
      simp only [List.setIfInBounds_toArray, List.set_cons_zero] at kQ
      go_roundw
      case rel => exact ⟨k + 1, va3, vc3, by omega, by go_num, bx_setC kA (show w.heap.size ≠ q by omega), bx_setC kR (show w.heap.size + 1 ≠ q by omega), fx_setC fR, kQ, fx_setC fQ, Own.mono (Own.keep HO3.out fun b h1 h2 => Below.heap_setCell _ _ _ _ (by dsimp only; omega)) (Nat.le_refl _) (by simp), Own.keep XD.out (fun b h1 h2 => Below.heap_setCell _ _ _ _ (by dsimp only; omega)), Below.setCell (p := ⟨q, 0, none⟩) HS9.out.bl (show w.heap.size ≤ q by omega) _, by simp; omega⟩
      case measure => simp [intOf]; omega
    · obtain rfl : k = n := by omega
      have XO2 : Hid (Own wr (q + 1) wr.heap.size shSegms l [.slice va k vc]) := by have h := XO.out; rw [← HN.out, List.take_length] at h; rw [← HN.out]; exact h
      obtain ⟨N, hN⟩ : ∃ N : Array Value, N = #[.slice va k vc, .slice sa 3 sc] := ⟨_, rfl⟩
      have HNP : Hid (NetP 4 wr (w.heap.size + 1 + 1) l dead N) := ⟨q, _, _, _, _, by rw [hN, h3, HN.out], by rw [h3]; exact XD.out, by rw [HN.out]; exact Own.mono XO2.out (by omega) (Nat.le_refl _), by omega, by omega⟩
      have hNz : N.size = 2 := by rw [hN]; rfl
      have HIN : Hid ((Try.prog.info? 44).map (·.size) = some N.size) := by show _ = _; rw [hNz]; exact info_NT
      have HIN2 : Hid ((Try.prog.info? 44).map (·.size) = some N.toList.length) := by show _ = _; rw [Array.length_toList]; exact HIN.out
      have HONE : Hid (N.all (·.oneCell') = true) := by show _ = _; rw [hN]; simp [Value.oneCell']
      rw [← hN] at kQ
      have HTH : Hid (wr.there (w.heap.size + 1) 0 N.size) := bx_there kR fR (by rw [hNz]; rfl)
      have HKR : Hid (∀ o, (wr.setCells (w.heap.size + 1) 0 N.toList).cell? ⟨w.heap.size + 1, o, none⟩ = N[o]?) := bx_setCells kR (by rw [hNz]; rfl)
      clear hN hNz XO XO2 XD kR fR
      go_wp2_with (first | (refine wpList_load_mid rfl 44 _ rfl _ _ (by rfl) N.toList _ (bx_range kQ) Try.underlying44 rfl HIN2.out ?_) | (refine wpList_store_mid rfl 44 _ _ rfl _ _ N (by rfl) (by rfl) HTH.out HIN.out HONE.out ?_))
      refine bodyPost_ret (results_box Try.results66 _ _ _ N _ (by rfl) HKR.out Try.underlying44 rfl (by exact HIN.out)) rfl ⟨N, rfl, ?_, ?_⟩
      · exact NetP.keep HNP.out (by omega) (fun b hb => setCells_block (by omega) _ _ _) (by rw [setCells_size])
      · exact setCells_below (by omega) _ _ _ _ HB.out
end Go.Proofs.Ytebgibjokljlbaa
