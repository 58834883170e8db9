/- What stands behind the loop of the draw of a sender: one thing turned, and the sender that is handed back; nothing that was in memory turns but the source; no condition. Written by mkdraws.py. -/
import Derived.Test.YtebgibjokljlbaaRows
import Derived.Deep.RegionHeld3
import Derived.Deep.CutRange
import Derived.Deep.RegionLaw
import Derived.Deep.DeepCutAuto
import Derived.Deep.DeepMust
import Derived.Test.YtebgibjokljlbaaS01
import Derived.Test.YtebgibjokljlbaaS02
import Derived.Test.YtebgibjokljlbaaS03
import Derived.Test.YtebgibjokljlbaaS04
import Derived.Test.YtebgibjokljlbaaS05
import Derived.Test.YtebgibjokljlbaaS06
import Derived.Test.YtebgibjokljlbaaS08
namespace Go.Proofs.Ytebgibjokljlbaa
open Go.RowKit
set_option linter.unusedVariables false
set_option linter.unusedSimpArgs false
structure DSnd (W : World) (XB lo : Nat) (X : DSender) (va : Option Addr) (vn vc : Nat) : Prop where
  own : Own W lo W.heap.size shFlights X.2.2.2.1 [.slice va vn vc]
  xb : XB < lo
  lo : lo ≤ W.heap.size
  w0 : (Lit.int .i64 X.1).wf = true
  w1 : (Lit.int .i64 X.2.1).wf = true
  w2 : (Lit.int .i64 X.2.2.1).wf = true
theorem DSnd.dr {W W' : World} {XB lo sb : Nat} {X : DSender} {va : Option Addr} {vn vc : Nat} (h : DSnd W XB lo X va vn vc) (hd : Dr sb W W') (hs : sb < lo) : DSnd W' XB lo X va vn vc :=
  ⟨Own.mono (Own.keep h.own fun b h1 h2 => hd.block b h2 (by omega)) (Nat.le_refl _) hd.size, h.xb, Nat.le_trans h.lo hd.size, h.w0, h.w1, h.w2⟩
theorem DSnd.snd {W : World} {XB lo : Nat} {X : DSender} {va : Option Addr} {vn vc : Nat} (h : DSnd W XB lo X va vn vc) : Own W lo W.heap.size shSender X [.int .i64 X.1, .int .i64 X.2.1, .int .i64 X.2.2.1, .slice va vn vc] :=
  hOwnCons (hOwnInt W _ lo h.w0) (hOwnCons (hOwnInt W _ lo h.w1) (hOwnCons (hOwnInt W _ lo h.w2) (hOwnCons h.own (hOwnNil _ _ _) h.lo (Nat.le_refl _)) (Nat.le_refl _) h.lo) (Nat.le_refl _) h.lo) (Nat.le_refl _) h.lo
theorem DSnd.of {W : World} {XB lo : Nat} {X : DSender} {va : Option Addr} {vn vc : Nat} (h : Own W lo W.heap.size shSender X [.int .i64 X.1, .int .i64 X.2.1, .int .i64 X.2.2.1, .slice va vn vc]) (hx : XB < lo) (hl : lo ≤ W.heap.size) : DSnd W XB lo X va vn vc := by
  obtain ⟨bs, h1, h2, h3⟩ := h
  obtain ⟨vv, ev, hk, a0, a1, a2⟩ := ow_Sender h1
  simp only [List.cons.injEq, and_true, true_and] at ev
  subst ev
  exact ⟨⟨bs, hk, h2, h3⟩, hx, hl, a0, a1, a2⟩
theorem DSnd.len {W : World} {XB lo : Nat} {X : DSender} {va : Option Addr} {vn vc : Nat} (h : DSnd W XB lo X va vn vc) : X.2.2.2.1.length = vn := by
  obtain ⟨a, c, e⟩ := row_form (h.own.rd (Nat.le_refl _))
  simp only [List.cons.injEq, and_true, Value.slice.injEq] at e
  exact e.2.1.symm
theorem bx_dr {W W' : World} {sb b : Nat} {cs : Array Value} (h : ∀ o, W.cell? ⟨b, o, none⟩ = cs[o]?) (hd : Dr sb W W') (hb : b < W.heap.size) (hn : b ≠ sb) : ∀ o, W'.cell? ⟨b, o, none⟩ = cs[o]? := fun o => (hd.cell (p := ⟨b, o, none⟩) hb hn).trans (h o)
theorem fx_dr {W W' : World} {sb b : Nat} (h : ∀ o, W.frozen? ⟨b, o, none⟩ = false) (hd : Dr sb W W') (hb : b < W.heap.size) (hn : b ≠ sb) : ∀ o, W'.frozen? ⟨b, o, none⟩ = false := fun o => (hd.frozen (p := ⟨b, o, none⟩) hb hn).trans (h o)
theorem bx_five {w : World} {b : Nat} {x0 x1 x2 x3 x4 u0 u1 u2 u3 u4 : Value} (h : ∀ o, w.cell? ⟨b, o, none⟩ = (#[x0, x1, x2, x3, x4] : Array Value)[o]?) : ∀ o, (((((w.setCell ⟨b, 0, none⟩ u0).setCell ⟨b, 1, none⟩ u1).setCell ⟨b, 2, none⟩ u2).setCell ⟨b, 3, none⟩ u3).setCell ⟨b, 4, none⟩ u4).cell? ⟨b, o, none⟩ = (#[u0, u1, u2, u3, u4] : Array Value)[o]? := fun o => by
  have h0 : w.cell? ⟨b, 0, none⟩ = some x0 := h 0
  have h1 : (w.setCell ⟨b, 0, none⟩ u0).cell? ⟨b, 1, none⟩ = some x1 := by rw [World.cell?_setCell_other _ _ _ _ (by simp)]; exact h 1
  have h2 : ((w.setCell ⟨b, 0, none⟩ u0).setCell ⟨b, 1, none⟩ u1).cell? ⟨b, 2, none⟩ = some x2 := by rw [World.cell?_setCell_other _ _ _ _ (by simp), World.cell?_setCell_other _ _ _ _ (by simp)]; exact h 2
  have h3 : (((w.setCell ⟨b, 0, none⟩ u0).setCell ⟨b, 1, none⟩ u1).setCell ⟨b, 2, none⟩ u2).cell? ⟨b, 3, none⟩ = some x3 := by rw [World.cell?_setCell_other _ _ _ _ (by simp), World.cell?_setCell_other _ _ _ _ (by simp), World.cell?_setCell_other _ _ _ _ (by simp)]; exact h 3
  have h4 : ((((w.setCell ⟨b, 0, none⟩ u0).setCell ⟨b, 1, none⟩ u1).setCell ⟨b, 2, none⟩ u2).setCell ⟨b, 3, none⟩ u3).cell? ⟨b, 4, none⟩ = some x4 := by rw [World.cell?_setCell_other _ _ _ _ (by simp), World.cell?_setCell_other _ _ _ _ (by simp), World.cell?_setCell_other _ _ _ _ (by simp), World.cell?_setCell_other _ _ _ _ (by simp)]; exact h 4
  match o with
  | 0 => rw [World.cell?_setCell_other _ _ _ _ (by simp), World.cell?_setCell_other _ _ _ _ (by simp), World.cell?_setCell_other _ _ _ _ (by simp), World.cell?_setCell_other _ _ _ _ (by simp), World.cell?_setCell_same _ _ _ h0]; rfl
  | 1 => rw [World.cell?_setCell_other _ _ _ _ (by simp), World.cell?_setCell_other _ _ _ _ (by simp), World.cell?_setCell_other _ _ _ _ (by simp), World.cell?_setCell_same _ _ _ h1]; rfl
  | 2 => rw [World.cell?_setCell_other _ _ _ _ (by simp), World.cell?_setCell_other _ _ _ _ (by simp), World.cell?_setCell_same _ _ _ h2]; rfl
  | 3 => rw [World.cell?_setCell_other _ _ _ _ (by simp), World.cell?_setCell_same _ _ _ h3]; rfl
  | 4 => rw [World.cell?_setCell_same _ _ _ h4]; rfl
  | o + 5 => rw [World.cell?_setCell_other _ _ _ _ (by simp), World.cell?_setCell_other _ _ _ _ (by simp), World.cell?_setCell_other _ _ _ _ (by simp), World.cell?_setCell_other _ _ _ _ (by simp), World.cell?_setCell_other _ _ _ _ (by simp), h]; simp
theorem bx_fourD {w : World} {b : Nat} {x0 x1 x2 x3 u0 u1 u2 u3 : Value} (h : ∀ o, w.cell? ⟨b, o, none⟩ = (#[x0, x1, x2, x3] : Array Value)[o]?) : ∀ o, ((((w.setCell ⟨b, 0, none⟩ u0).setCell ⟨b, 1, none⟩ u1).setCell ⟨b, 2, none⟩ u2).setCell ⟨b, 3, none⟩ u3).cell? ⟨b, o, none⟩ = (#[u0, u1, u2, u3] : Array Value)[o]? := fun o => by
  have h0 : w.cell? ⟨b, 0, none⟩ = some x0 := h 0
  have h1 : (w.setCell ⟨b, 0, none⟩ u0).cell? ⟨b, 1, none⟩ = some x1 := by rw [World.cell?_setCell_other _ _ _ _ (by simp)]; exact h 1
  have h2 : ((w.setCell ⟨b, 0, none⟩ u0).setCell ⟨b, 1, none⟩ u1).cell? ⟨b, 2, none⟩ = some x2 := by rw [World.cell?_setCell_other _ _ _ _ (by simp), World.cell?_setCell_other _ _ _ _ (by simp)]; exact h 2
  have h3 : (((w.setCell ⟨b, 0, none⟩ u0).setCell ⟨b, 1, none⟩ u1).setCell ⟨b, 2, none⟩ u2).cell? ⟨b, 3, none⟩ = some x3 := by rw [World.cell?_setCell_other _ _ _ _ (by simp), World.cell?_setCell_other _ _ _ _ (by simp), World.cell?_setCell_other _ _ _ _ (by simp)]; exact h 3
  match o with
  | 0 => rw [World.cell?_setCell_other _ _ _ _ (by simp), World.cell?_setCell_other _ _ _ _ (by simp), World.cell?_setCell_other _ _ _ _ (by simp), World.cell?_setCell_same _ _ _ h0]; rfl
  | 1 => rw [World.cell?_setCell_other _ _ _ _ (by simp), World.cell?_setCell_other _ _ _ _ (by simp), World.cell?_setCell_same _ _ _ h1]; rfl
  | 2 => rw [World.cell?_setCell_other _ _ _ _ (by simp), World.cell?_setCell_same _ _ _ h2]; rfl
  | 3 => rw [World.cell?_setCell_same _ _ _ h3]; rfl
  | o + 4 => rw [World.cell?_setCell_other _ _ _ _ (by simp), World.cell?_setCell_other _ _ _ _ (by simp), World.cell?_setCell_other _ _ _ _ (by simp), World.cell?_setCell_other _ _ _ _ (by simp), h]; simp
theorem bel_four (w : World) (b : Nat) (u0 u1 u2 u3 : Value) : Below b w ((((w.setCell ⟨b, 0, none⟩ u0).setCell ⟨b, 1, none⟩ u1).setCell ⟨b, 2, none⟩ u2).setCell ⟨b, 3, none⟩ u3) :=
  ((((Below.refl b w).setCell (p := ⟨b, 0, none⟩) (Nat.le_refl _) u0).setCell (p := ⟨b, 1, none⟩) (Nat.le_refl _) u1).setCell (p := ⟨b, 2, none⟩) (Nat.le_refl _) u2).setCell (p := ⟨b, 3, none⟩) (Nat.le_refl _) u3
theorem ackD_none {X : DSender} (h : sndFault X = 0) (ack : Int) : sndFault (ackD X ack) = 0 ∧ (ackD X ack).1 = X.1 ∧ (ackD X ack).2.1 = X.2.1 := by
  unfold ackD
  split
  · rename_i h0
    have hc : ackC X ack = 0 := by unfold ackC; rw [if_pos h]; exact h0
    have hv : ackV X ack = ackW X ack := by unfold ackV; rw [if_pos hc]
    rw [← hv]
    exact ⟨(ack_none hc).1, by rw [hv]; rfl, by rw [hv]; rfl⟩
  · exact ⟨h, rfl, rfl⟩
theorem bel_five (w : World) (b : Nat) (u0 u1 u2 u3 u4 : Value) : Below b w (((((w.setCell ⟨b, 0, none⟩ u0).setCell ⟨b, 1, none⟩ u1).setCell ⟨b, 2, none⟩ u2).setCell ⟨b, 3, none⟩ u3).setCell ⟨b, 4, none⟩ u4) :=
  (((((Below.refl b w).setCell (p := ⟨b, 0, none⟩) (Nat.le_refl _) u0).setCell (p := ⟨b, 1, none⟩) (Nat.le_refl _) u1).setCell (p := ⟨b, 2, none⟩) (Nat.le_refl _) u2).setCell (p := ⟨b, 3, none⟩) (Nat.le_refl _) u3).setCell (p := ⟨b, 4, none⟩) (Nat.le_refl _) u4
theorem sPickR (sb : Nat) (a : Option Addr) (len cap : Nat) (zs : List Int) (K : Int) (l : List Int) (t : TypeId) (w : World)
    (hs : Src w sb (.slice a len cap) K) (hr : BRow .u8 w a len cap zs) (hl : RowLt sb a zs) (hK : K ≤ 1000000) (hn : 1 ≤ l.length) (hx : l.length ≤ 1000) :
    Calls Try.prog 41 #[.pointer (some ⟨sb, 0, none⟩), .slice (some ⟨w.heap.size, 0, none⟩) l.length l.length] (w.alloc (.cells (l.map (Value.int .i64)).toArray t)).drew fun e w' =>
      ∃ r, e = .returned (.int .i64 r) ∧ r ∈ l ∧ Dr sb w w' ∧ Src w' sb (.slice a len cap) (K + 1) := by
  have h := sPickD sb a len cap zs K l t w.drew (hs.below (Below.drew (Below.refl _ _)) hs.lt) (hr.below hl ((Below.drew (Below.refl _ _)).mono (Nat.le_of_lt hs.lt))) hl hK hn hx
  refine h.mono ?_
  rintro e w' ⟨r, h1, h2, h3, h4⟩
  exact ⟨r, h1, h2, ((Dr.refl sb w).then (Below.drew (Below.refl _ _)) (Nat.le_refl _)).trans h3, h4⟩
theorem al_new (w : World) (o : Obj) : (w.alloc o).heap[w.heap.size]? = some o := by
  show (w.heap.push o)[w.heap.size]? = some o
  simp
theorem dr_al {w : World} {o : Obj} {g : Nat} (h : g = w.heap.size) : (w.alloc o).drew.heap[g]? = some o := by
  subst h
  exact al_new w o
theorem dr_al2 (w : World) (o o' : Obj) : ((w.alloc o).alloc o').drew.heap[w.heap.size]? = some o := (Below.heap_alloc (w.alloc o) o' w.heap.size (by simp)).trans (al_new w o)
theorem own_fl1 {w : World} {g : Nat} {x r : Int} (hx : (Lit.int .i64 x).wf = true) (hr : (Lit.int .i64 r).wf = true) (hg : w.heap[g]? = some (.cells #[.int .u8 1] 5)) : Own w g w.heap.size shFlight (x, r, [1], 0, 1, ()) [.int .i64 x, .int .i64 r, .slice (some ⟨g, 0, none⟩) 1 1, .int .i64 0, .int .i64 1] := by
  have hlt : g < w.heap.size := by
    rcases Nat.lt_or_ge g w.heap.size with h | h
    · exact h
    · rw [Array.getElem?_eq_none h] at hg; cases hg
  have ob : OB w g (.slice (some ⟨g, 0, none⟩) 1 1) [1] := ⟨⟨rfl, Or.inr ⟨g, 1, #[.int .u8 1], rfl, Nat.le_refl _, hg, by simp, by unfold maxLen; omega, rfl, rfl⟩⟩, by intro z hz; simp at hz; subst hz; omega⟩
  have hz : Own w w.heap.size w.heap.size (.cons (.int .i64) (.cons (.int .i64) .nil)) (0, 1, ()) [.int .i64 0, .int .i64 1] := hOwnCons (hOwnInt w w.heap.size w.heap.size (by decide)) (hOwnCons (hOwnInt w w.heap.size w.heap.size (by decide)) (hOwnNil _ _ _) (Nat.le_refl _) (Nat.le_refl _)) (Nat.le_refl _) (Nat.le_refl _)
  exact hOwnCons (hOwnInt w g g hx) (hOwnCons (hOwnInt w g g hr) (hOwnCons (own_bytes ob (Nat.le_refl _)) hz (Nat.le_of_lt hlt) (Nat.le_refl _)) (Nat.le_refl _) (Nat.le_of_lt hlt)) (Nat.le_refl _) (Nat.le_of_lt hlt)
theorem tot_fls1 (l : List DFlight) (d : DFlight) : totFlights (l ++ [d]) = totFlights l + 1 + totFlight d := by
  unfold totFlights
  simp [fsum]
  omega
theorem fldS (c0 c1 c2 c3 c4 : Value) (w : World) : Sem.run Try.prog (Instr.field 159 (.agg #[c0, c1, c2, c3, c4]) 1) w = .ok (.agg #[c1, c2, c3, c4]) w := by
  simp [Instr.field, asAgg, part, go_sem]
def opens (n : Nat) : Code → Bool
  | .region id _ _ => id == n
  | .seq a _ => opens n a
  | _ => false
def partAt (n : Nat) : Code → Option Code
  | .seq a b => if opens n a then some (.seq a b) else match partAt n a with
    | some c => some c
    | none => if opens n b then some b else partAt n b
  | .block _ c => partAt n c
  | .scope c => partAt n c
  | .loop c => partAt n c
  | .cond _ a b => match partAt n a with
    | some c => some c
    | none => partAt n b
  | _ => none
noncomputable def sndTail : Code := (Try.f110.body.bind (partAt 13)).getD .skip
structure SndAt (sb : Nat) (a : Option Addr) (len cap : Nat) (K : Int) (w wr : World) (XB lo : Nat) (X : DSender) (va : Option Addr) (vn vc : Nat) : Prop where
  kX : ∀ o, wr.cell? ⟨XB, o, none⟩ = (#[.int .i64 X.1, .int .i64 X.2.1, .int .i64 X.2.2.1, .slice va vn vc] : Array Value)[o]?
  fX : ∀ o, wr.frozen? ⟨XB, o, none⟩ = false
  k0 : ∀ o, wr.cell? ⟨w.heap.size, o, none⟩ = (#[.int .i64 0, .int .i64 0, .int .i64 0, .slice none 0 0] : Array Value)[o]?
  f0 : ∀ o, wr.frozen? ⟨w.heap.size, o, none⟩ = false
  hX : XB < wr.heap.size
  ds : DSnd wr XB lo X va vn vc
  ok : sndFault X = 0
  dr : Dr sb w wr
  sr : Src wr sb (.slice a len cap) (K + 400)
set_option maxRecDepth 4000 in
set_option maxHeartbeats 100000000 in
theorem sSndTail (sb : Nat) (a : Option Addr) (len cap : Nat) (zs : List Int) (K : Int) (w : World) (hl : RowLt sb a zs) (hK0 : 0 ≤ K) (hK : K ≤ 100000) (hlt : sb < w.heap.size) (HR : Hid (∀ W, Dr sb w W → BRow .u8 W a len cap zs)) (XB : Nat) (z3 : w.heap.size < XB) (hsX : sb < XB) (wr : World) (lo : Nat) (X : DSender) (va : Option Addr) (vn vc : Nat) (hA : SndAt sb a len cap K w wr XB lo X va vn vc) (u1 u4 u5 u6 u7 u8 u9 u10 u11 u12 u13 u14 u15 u16 u17 u18 u19 u20 u21 u22 u23 u24 u25 u26 u27 u28 u29 u30 u31 u32 u33 u34 u35 u36 u37 u38 u39 u40 u41 u42 u43 u44 u45 u46 u47 u48 u49 u50 u51 u52 u53 u54 u55 u56 u57 u58 u59 u60 u61 u62 u63 u64 u65 u66 : Value) :
    Code.wp Try.prog sndTail (bodyPost Try.prog Try.f110 (fun e w' => ∃ (x : DSender) (u : Value), e = .returned (.agg #[.int .i64 x.1, .int .i64 x.2.1, .int .i64 x.2.2.1, u]) ∧ Own w' w.heap.size w'.heap.size shSender x [.int .i64 x.1, .int .i64 x.2.1, .int .i64 x.2.2.1, u] ∧ totSender x ≤ 1000000 ∧ Dr sb w w' ∧ Src w' sb (.slice a len cap) (K + 1000))) ⟨#[.pointer (some ⟨sb, 0, none⟩), u1, .pointer (some ⟨w.heap.size, 0, none⟩), .pointer (some ⟨XB, 0, none⟩), u4, u5, u6, u7, u8, u9, u10, u11, u12, u13, u14, u15, u16, u17, u18, u19, u20, u21, u22, u23, u24, u25, u26, u27, u28, u29, u30, u31, u32, u33, u34, u35, u36, u37, u38, u39, u40, u41, u42, u43, u44, u45, u46, u47, u48, u49, u50, u51, u52, u53, u54, u55, u56, u57, u58, u59, u60, u61, u62, u63, u64, u65, u66, undef, undef, undef, undef, undef, undef, undef, undef, undef, undef, undef, undef, undef, undef, undef, undef, undef, undef, undef, undef, undef, undef, undef, undef, undef, undef, undef, undef, undef, undef, undef, undef, undef, undef, undef, undef, undef, undef, undef, undef, undef, undef, undef, undef, undef], []⟩ wr := by
  conv => arg 2; whnf
  obtain ⟨kX, fX, k0, f0, hXr, hds, hok0, hdr, hsr⟩ := hA
  have HDS : Hid (DSnd wr XB lo X va vn vc) := hds
  have HF : Hid (sndFault X = 0) := hok0
  have HDr : Hid (Dr sb w wr) := hdr
  have HSr : Hid (Src wr sb (.slice a len cap) (K + 400)) := hsr
  clear hds hok0 hdr hsr
  have hok := snd_ok HF.out
  obtain ⟨u10, u11⟩ := inD_yes hok.1
  obtain ⟨u20, u21⟩ := inD_yes hok.2.1
  obtain ⟨u30, u31⟩ := inD_yes hok.2.2.1
  have htot := snd_tot HF.out
  go_wp2_with fail
  refine (sNext sb a len cap zs _ 20 wr HSr.out (HR.out _ HDr.out) hl (by omega) (by omega)).mono ?_
  rintro e w1 ⟨sw, rfl, g1, g2, st1, s1⟩
  replace kX := bx_dr kX st1.dr hXr (by omega)
  replace fX := fx_dr fX st1.dr hXr (by omega)
  replace k0 := bx_dr k0 st1.dr (by omega) (by omega)
  replace f0 := fx_dr f0 st1.dr (by omega) (by omega)
  have HDS1 : Hid (DSnd w1 XB lo X va vn vc) := HDS.out.dr st1.dr (by have := HDS.out.xb; omega)
  have hX1 : XB < w1.heap.size := by rw [st1.size]; exact hXr
  have D1 : Hid (Dr sb w w1) := HDr.out.trans st1.dr
  have S1 : Hid (Src w1 sb (.slice a len cap) (K + 500)) := s1.mono (by omega)
  clear st1 s1 HDS HDr HSr hXr hok
  have hzw : w.heap.size < w1.heap.size := by omega
  have HFIN : Hid (∀ (W : World) (X2 : DSender) (va2 : Option Addr) (vn2 vc2 lo2 : Nat), DSnd W XB lo2 X2 va2 vn2 vc2 → totSender X2 ≤ 1000000 → Dr sb w W → Src W sb (.slice a len cap) (K + 600) → (let F := (((W.setCell ⟨w.heap.size, 0, none⟩ (.int .i64 X2.1)).setCell ⟨w.heap.size, 1, none⟩ (.int .i64 X2.2.1)).setCell ⟨w.heap.size, 2, none⟩ (.int .i64 X2.2.2.1)).setCell ⟨w.heap.size, 3, none⟩ (.slice va2 vn2 vc2); Own F w.heap.size F.heap.size shSender X2 [.int .i64 X2.1, .int .i64 X2.2.1, .int .i64 X2.2.2.1, .slice va2 vn2 vc2] ∧ totSender X2 ≤ 1000000 ∧ Dr sb w F ∧ Src F sb (.slice a len cap) (K + 1000))) := by
    intro W X2 va2 vn2 vc2 lo2 h1 h2 h3 h4
    refine ⟨Own.mono (Own.keep h1.snd (fun b q1 q2 => by have := h1.xb; repeat rw [Below.heap_setCell _ _ _ _ (by dsimp only; omega)])) (by have := h1.xb; omega) (by simp), h2, h3.then (bel_four _ _ _ _ _ _) (Nat.le_refl _), (h4.below (bel_four _ _ _ _ _ _) hlt).mono (by omega)⟩
  by_cases c0 : sw = 0
  · subst c0
    go_wp2_with fail
    have hp := sPickD sb a len cap zs _ [-1, 65536] 2 w1 S1.out (HR.out _ D1.out) hl (by omega) (by simp) (by simp)
    simp only [List.length_cons, List.length_nil, List.map_cons, List.map_nil, Nat.zero_add, Nat.reduceAdd] at hp
    refine hp.mono ?_
    clear hp
    rintro e w2 ⟨r, rfl, hm, d2', s2⟩
    simp only [List.mem_cons, List.not_mem_nil, or_false] at hm
    have m0' : -1 ≤ r := by omega
    have m1' : r ≤ 65536 := by omega
    replace kX := bx_dr kX d2' hX1 (by omega)
    replace fX := fx_dr fX d2' hX1 (by omega)
    replace k0 := bx_dr k0 d2' (by omega) (by omega)
    replace f0 := fx_dr f0 d2' (by omega) (by omega)
    have HDS2 : Hid (DSnd w2 XB lo X va vn vc) := HDS1.out.dr d2' (by have := HDS1.out.xb; omega)
    have D2 : Hid (Dr sb w w2) := D1.out.trans d2'
    have S2 : Hid (Src w2 sb (.slice a len cap) (K + 600)) := s2.mono (by omega)
    have hX2 : XB < w2.heap.size := Nat.lt_of_lt_of_le hX1 d2'.size
    clear hm d2' s2 HDS1 D1 S1 hX1
    have HDS3 : Hid (DSnd (w2.setCell ⟨XB, 0, none⟩ (.int .i64 r)) XB lo (r, X.2) va vn vc) := ⟨Own.mono (Own.keep HDS2.out.own (fun b q1 q2 => by have := HDS2.out.xb; rw [Below.heap_setCell _ _ _ _ (by dsimp only; omega)])) (Nat.le_refl _) (by simp), HDS2.out.xb, by simpa using HDS2.out.lo, WalkArith.wf_i64 (by omega), HDS2.out.w1, HDS2.out.w2⟩
    have hF := HFIN.out (w2.setCell ⟨XB, 0, none⟩ (.int .i64 r)) (r, X.2) va vn vc lo HDS3.out (Nat.le_trans htot (by omega)) (D2.out.then ((Below.refl XB w2).setCell (p := ⟨XB, 0, none⟩) (Nat.le_refl _) _) (by omega)) (S2.out.below ((Below.refl XB w2).setCell (p := ⟨XB, 0, none⟩) (Nat.le_refl _) _) hsX)
    have HF5 : Hid _ := hF
    clear hF
    go_wp2_with fail
    refine bodyPost_ret (v := .agg #[.int .i64 r, .int .i64 X.2.1, .int .i64 X.2.2.1, .slice va vn vc]) (by simp [results, Try.results110, go_sem, k0]) rfl ⟨(r, X.2), _, rfl, HF5.out⟩
  · have hnop := trivial
    by_cases c1 : sw = 1
    · subst c1
      go_upto_region 17 with fail
      go_region_law ((first
        | (go_simp; go_at_call 41; have hp := sPickR sb a len cap zs _ [1, -1, 1000000] 2 w1 S1.out (HR.out _ D1.out) hl (by omega) (by simp) (by simp); simp only [List.length_cons, List.length_nil, List.map_cons, List.map_nil, Nat.zero_add, Nat.reduceAdd] at hp; refine hp.mono ?_; clear hp; rintro e w2 ⟨r, rfl, hm, d2', s2⟩; simp only [List.mem_cons, List.not_mem_nil, or_false] at hm; have m0' : -1 ≤ r := (by omega); have m1' : r ≤ 1000000 := (by omega); have dd : Dr sb w1 w2 := d2'; replace kX := bx_dr kX dd hX1 (by omega); replace fX := fx_dr fX dd hX1 (by omega); replace k0 := bx_dr k0 dd (by omega) (by omega); replace f0 := fx_dr f0 dd (by omega) (by omega); have HDS2 : Hid (DSnd w2 XB lo X va vn vc) := HDS1.out.dr dd (by have := HDS1.out.xb; omega); have D2 : Hid (Dr sb w w2) := D1.out.trans dd; have S2 : Hid (Src w2 sb (.slice a len cap) (K + 600)) := s2.mono (by omega); have hX2 : XB < w2.heap.size := Nat.lt_of_lt_of_le hX1 dd.size; clear hm d2' s2 dd)))
      all_goals (
        go_wp2_with fail
        have HDS3 : Hid (DSnd (w2.setCell ⟨XB, 1, none⟩ (.int .i64 (X.2.1 + r))) XB lo (X.1, X.2.1 + r, X.2.2) va vn vc) := ⟨Own.mono (Own.keep HDS2.out.own (fun b q1 q2 => by have := HDS2.out.xb; rw [Below.heap_setCell _ _ _ _ (by dsimp only; omega)])) (Nat.le_refl _) (by simp), HDS2.out.xb, by simpa using HDS2.out.lo, HDS2.out.w0, WalkArith.wf_i64 (by dsimp only; omega), HDS2.out.w2⟩
        have hF := HFIN.out (w2.setCell ⟨XB, 1, none⟩ (.int .i64 (X.2.1 + r))) (X.1, X.2.1 + r, X.2.2) va vn vc lo HDS3.out (Nat.le_trans htot (by omega)) (D2.out.then ((Below.refl XB w2).setCell (p := ⟨XB, 1, none⟩) (Nat.le_refl _) _) (by omega)) (S2.out.below ((Below.refl XB w2).setCell (p := ⟨XB, 1, none⟩) (Nat.le_refl _) _) hsX)
        have HF5 : Hid _ := hF
        clear hF
        exact bodyPost_ret (v := .agg #[.int .i64 (X.1, X.2.1 + r, X.2.2).1, .int .i64 (X.1, X.2.1 + r, X.2.2).2.1, .int .i64 (X.1, X.2.1 + r, X.2.2).2.2.1, .slice va vn vc]) (by simp [results, Try.results110, go_sem, k0]) rfl ⟨(X.1, X.2.1 + r, X.2.2), _, rfl, HF5.out⟩)
    · have hnop := trivial
      by_cases c2 : sw = 2
      · subst c2
        go_upto_region 19 with fail
        go_region_law ((first
          | (go_simp; go_at_call 41; have hp := sPickR sb a len cap zs _ [1, -1] 2 w1 S1.out (HR.out _ D1.out) hl (by omega) (by simp) (by simp); simp only [List.length_cons, List.length_nil, List.map_cons, List.map_nil, Nat.zero_add, Nat.reduceAdd] at hp; refine hp.mono ?_; clear hp; rintro e w2 ⟨r, rfl, hm, d2', s2⟩; simp only [List.mem_cons, List.not_mem_nil, or_false] at hm; have m0' : -1 ≤ r := (by omega); have m1' : r ≤ 1 := (by omega); have dd : Dr sb w1 w2 := d2'; replace kX := bx_dr kX dd hX1 (by omega); replace fX := fx_dr fX dd hX1 (by omega); replace k0 := bx_dr k0 dd (by omega) (by omega); replace f0 := fx_dr f0 dd (by omega) (by omega); have HDS2 : Hid (DSnd w2 XB lo X va vn vc) := HDS1.out.dr dd (by have := HDS1.out.xb; omega); have D2 : Hid (Dr sb w w2) := D1.out.trans dd; have S2 : Hid (Src w2 sb (.slice a len cap) (K + 600)) := s2.mono (by omega); have hX2 : XB < w2.heap.size := Nat.lt_of_lt_of_le hX1 dd.size; clear hm d2' s2 dd)))
        all_goals (
          go_wp2_with fail
          have HDS3 : Hid (DSnd (w2.setCell ⟨XB, 2, none⟩ (.int .i64 (X.2.2.1 + r))) XB lo (X.1, X.2.1, X.2.2.1 + r, X.2.2.2) va vn vc) := ⟨Own.mono (Own.keep HDS2.out.own (fun b q1 q2 => by have := HDS2.out.xb; rw [Below.heap_setCell _ _ _ _ (by dsimp only; omega)])) (Nat.le_refl _) (by simp), HDS2.out.xb, by simpa using HDS2.out.lo, HDS2.out.w0, HDS2.out.w1, WalkArith.wf_i64 (by dsimp only; omega)⟩
          have hF := HFIN.out (w2.setCell ⟨XB, 2, none⟩ (.int .i64 (X.2.2.1 + r))) (X.1, X.2.1, X.2.2.1 + r, X.2.2.2) va vn vc lo HDS3.out (Nat.le_trans htot (by omega)) (D2.out.then ((Below.refl XB w2).setCell (p := ⟨XB, 2, none⟩) (Nat.le_refl _) _) (by omega)) (S2.out.below ((Below.refl XB w2).setCell (p := ⟨XB, 2, none⟩) (Nat.le_refl _) _) hsX)
          have HF5 : Hid _ := hF
          clear hF
          exact bodyPost_ret (v := .agg #[.int .i64 (X.1, X.2.1, X.2.2.1 + r, X.2.2.2).1, .int .i64 (X.1, X.2.1, X.2.2.1 + r, X.2.2.2).2.1, .int .i64 (X.1, X.2.1, X.2.2.1 + r, X.2.2.2).2.2.1, .slice va vn vc]) (by simp [results, Try.results110, go_sem, k0]) rfl ⟨(X.1, X.2.1, X.2.2.1 + r, X.2.2.2), _, rfl, HF5.out⟩)
      · have hnop2 := trivial
        by_cases c3 : sw = 3
        · subst c3
          have HP : Hid (∀ (W : World) (g : Nat), Below w1.heap.size w1 W → g ≠ sb → (∀ i, i < 3 → W.cell? ⟨g, i, none⟩ = some (.int .i64 (([400, -1, 3] : List Int).getD i 0))) → Calls Try.prog 41 #[.pointer (some ⟨sb, 0, none⟩), .slice (some ⟨g, 0, none⟩) 3 3] W fun e w' => ∃ r, e = .returned (.int .i64 r) ∧ -1 ≤ r ∧ r ≤ 400 ∧ Dr sb w1 w' ∧ (∀ b, b ≠ sb → w'.heap[b]? = W.heap[b]?) ∧ Src w' sb (.slice a len cap) (K + 500 + 1)) := by
            intro W g hW hg hc
            refine (sPick sb a len cap zs _ g 3 (fun i => ([400, -1, 3] : List Int).getD i 0) W (S1.out.below hW S1.out.lt) (HR.out _ (D1.out.then hW D1.out.size)) hl (by omega) hg (by omega) (by omega) hc).mono ?_
            rintro e w' ⟨i, rfl, hi, st, sr⟩
            have hi3 : i = 0 ∨ i = 1 ∨ i = 2 := by omega
            refine ⟨_, rfl, ?_, ?_, ((Dr.refl sb w1).then hW (Nat.le_refl _)).trans st.dr, fun b hb => st.block b hb, sr⟩ <;> (rcases hi3 with rfl | rfl | rfl <;> decide)
          have hsg : w1.heap.size ≠ sb := by omega
          have hsg1 : w1.heap.size + 1 ≠ sb := by omega
          have hXlo : XB < lo := HDS1.out.xb
          have hzlo : w.heap.size < lo := by omega
          have HLO : Hid (lo ≤ w1.heap.size) := HDS1.out.lo
          have HW1 : Hid _ := HDS1.out.w1
          have HLN : Hid (X.2.2.2.1.length ≤ 1048576) := by have h : totFlights X.2.2.2.1 ≤ 108 := htot; unfold totFlights at h; show _ ≤ _; omega
          go_upto_region 21 with fail
          have x1 := kX 1
          have x3 := kX 3
          simp only [List.getElem?_toArray, List.getElem?_cons_succ, List.getElem?_cons_zero] at x1 x3
          have hn1 : XB ≠ w1.heap.size := by omega
          have hn1' : w1.heap.size ≠ XB := by omega
          have hn2 : XB ≠ w1.heap.size + 1 := by omega
          have hn2' : w1.heap.size + 1 ≠ XB := by omega
          refine wp_region_noPanic ?_
          refine Goes.start (S := fun w' => w'.cell? ⟨XB, 1, none⟩ = some (.int .i64 X.2.1) ∧ w'.cell? ⟨XB, 3, none⟩ = some (.slice va vn vc)) (z := 12) (by kernel_rfl) ?_
          refine Goes.take (i := 0) (oi := ?oi1) (x := ?vx1) ?ho1 (by kernel_rfl) (by kernel_rfl) (by kernel_rfl) (by kernel_rfl) (fun _ _ _ h => h) (Or.inl ⟨?hw1, ?hy1⟩) ?hs1 ?rest1
          case ho1 => (simp only [List.getElem?_toArray, List.getElem?_cons_succ, List.getElem?_cons_zero]; rfl)
          case hw1 => rfl
          case hy1 => (intro w' hSw; obtain ⟨g1, g3⟩ := hSw; go_simp; (try with_reducible rfl))
          case hs1 => (refine ⟨?_, ?_⟩ <;> (first | assumption | go_keep))
          case rest1 =>
          (try simp only [Act.put, List.setIfInBounds_toArray, List.set_cons_zero, List.set_cons_succ])
          refine Goes.take (i := 1) (oi := ?oi2) (x := ?vx2) ?ho2 (by kernel_rfl) (by kernel_rfl) (by kernel_rfl) (by kernel_rfl) (fun _ _ _ h => h) (Or.inl ⟨?hw2, ?hy2⟩) ?hs2 ?rest2
          case ho2 => (simp only [List.getElem?_toArray, List.getElem?_cons_succ, List.getElem?_cons_zero]; rfl)
          case hw2 => rfl
          case hy2 => (intro w' hSw; obtain ⟨g1, g3⟩ := hSw; go_simp; (try with_reducible rfl))
          case hs2 => (refine ⟨?_, ?_⟩ <;> (first | assumption | go_keep))
          case rest2 =>
          (try simp only [Act.put, List.setIfInBounds_toArray, List.set_cons_zero, List.set_cons_succ])
          refine Goes.take (i := 2) (oi := ?oi3) (x := ?vx3) ?ho3 (by kernel_rfl) (by kernel_rfl) (by kernel_rfl) (by kernel_rfl) (fun _ _ _ h => h) (Or.inl ⟨?hw3, ?hy3⟩) ?hs3 ?rest3
          case ho3 => (simp only [List.getElem?_toArray, List.getElem?_cons_succ, List.getElem?_cons_zero]; rfl)
          case hw3 => rfl
          case hy3 => (intro w' hSw; obtain ⟨g1, g3⟩ := hSw; go_simp; (try with_reducible rfl))
          case hs3 => (refine ⟨?_, ?_⟩ <;> (first | assumption | go_keep))
          case rest3 =>
          (try simp only [Act.put, List.setIfInBounds_toArray, List.set_cons_zero, List.set_cons_succ])
          refine Goes.take (i := 3) (oi := ?oi4) (x := ?vx4) ?ho4 (by kernel_rfl) (by kernel_rfl) (by kernel_rfl) (by kernel_rfl) (fun _ _ _ h => h) (Or.inl ⟨?hw4, ?hy4⟩) ?hs4 ?rest4
          case ho4 => (simp only [List.getElem?_toArray, List.getElem?_cons_succ, List.getElem?_cons_zero]; rfl)
          case hw4 => rfl
          case hy4 => (intro w' hSw; obtain ⟨g1, g3⟩ := hSw; go_simp; (try with_reducible rfl))
          case hs4 => (refine ⟨?_, ?_⟩ <;> (first | assumption | go_keep))
          case rest4 =>
          (try simp only [Act.put, List.setIfInBounds_toArray, List.set_cons_zero, List.set_cons_succ])
          refine Goes.take (i := 4) (oi := ?oi5) (x := ?vx5) ?ho5 (by kernel_rfl) (by kernel_rfl) (by kernel_rfl) (by kernel_rfl) (fun _ _ _ h => h) (Or.inl ⟨?hw5, ?hy5⟩) ?hs5 ?rest5
          case ho5 => (simp only [List.getElem?_toArray, List.getElem?_cons_succ, List.getElem?_cons_zero]; rfl)
          case hw5 => rfl
          case hy5 => (intro w' hSw; obtain ⟨g1, g3⟩ := hSw; go_simp; (try with_reducible rfl))
          case hs5 => (refine ⟨?_, ?_⟩ <;> (first | assumption | go_keep))
          case rest5 =>
          (try simp only [Act.put, List.setIfInBounds_toArray, List.set_cons_zero, List.set_cons_succ])
          refine Goes.all (rs := [5, 7]) (by kernel_rfl) (by simp) ?_
          refine Ups.cons (i := 5) (o := ?oo6) ?ho6 (fun KK hKK => ?stp6) ?more6
          case ho6 => (simp only [List.getElem?_toArray, List.getElem?_cons_succ, List.getElem?_cons_zero]; rfl)
          case stp6 =>
            go_simp
            refine hKK.out _ _ (Or.inr (by refine ⟨?_, ?_⟩ <;> (first | assumption | go_keep))) ?_
            clear hKK KK
            (try simp only [Act.put, List.setIfInBounds_toArray, List.set_cons_zero, List.set_cons_succ])
            refine Goes.all (rs := [6, 7]) (by kernel_rfl) (by simp) ?_
            refine Ups.cons (i := 6) (o := ?oo7) ?ho7 (fun KK hKK => ?stp7) ?more7
            case ho7 => (simp only [List.getElem?_toArray, List.getElem?_cons_succ, List.getElem?_cons_zero]; rfl)
            case stp7 =>
              go_simp
              go_at_call 41
              refine (HP.out _ _ (by go_grown) hsg (fun i hi => (by have hi3 : i = 0 ∨ i = 1 ∨ i = 2 := (by omega); rcases hi3 with rfl | rfl | rfl <;> simp [go_sem]))).mono ?_
              rintro e w2 ⟨r, rfl, m0', m1', dd, hbk, s2⟩
              replace kX := bx_dr kX dd hX1 (by omega)
              replace fX := fx_dr fX dd hX1 (by omega)
              replace k0 := bx_dr k0 dd (by omega) (by omega)
              replace f0 := fx_dr f0 dd (by omega) (by omega)
              replace x1 := kX 1
              replace x3 := kX 3
              simp only [List.getElem?_toArray, List.getElem?_cons_succ, List.getElem?_cons_zero] at x1 x3
              have HO2 : Hid (Own w2 lo w1.heap.size shFlights X.2.2.2.1 [.slice va vn vc]) := (Own.keep HDS1.out.own (fun b q1 q2 => dd.block b q2 (by omega)))
              have HWR : Hid ((Lit.int .i64 r).wf = true) := (WalkArith.wf_i64 (by omega))
              have D2 : Hid (Dr sb w w2) := D1.out.trans dd
              have S2 : Hid (Src w2 sb (.slice a len cap) (K + 600)) := s2.mono (by omega)
              have hX2 : XB < w2.heap.size := Nat.lt_of_lt_of_le hX1 dd.size
              have hz12 : w1.heap.size ≤ w2.heap.size := dd.size
              have hn3 : XB ≠ w2.heap.size := by omega
              have hn3' : w2.heap.size ≠ XB := by omega
              have hn4 : XB ≠ w2.heap.size + 1 := by omega
              have hn4' : w2.heap.size + 1 ≠ XB := by omega
              clear s2 dd hbk
              (try go_wp2_with fail)
              refine hKK.out _ _ (Or.inr (by refine ⟨?_, ?_⟩ <;> (first | assumption | go_keep))) ?_
              clear hKK KK
              (try simp only [Act.put, List.setIfInBounds_toArray, List.set_cons_zero, List.set_cons_succ])
              refine Goes.all (rs := [7]) (by kernel_rfl) (by simp) ?_
              refine Ups.cons (i := 7) (o := ?oo8) ?ho8 (fun KK hKK => ?stp8) ?more8
              case ho8 => (simp only [List.getElem?_toArray, List.getElem?_cons_succ, List.getElem?_cons_zero]; rfl)
              case stp8 =>
                go_simp
                refine hKK.out _ _ (Or.inr (by refine ⟨?_, ?_⟩ <;> (first | assumption | go_keep))) ?_
                clear hKK KK
                (try simp only [Act.put, List.setIfInBounds_toArray, List.set_cons_zero, List.set_cons_succ])
                refine Goes.take (i := 8) (oi := ?oi9) (x := ?vx9) ?ho9 (by kernel_rfl) (by kernel_rfl) (by kernel_rfl) (by kernel_rfl) (fun _ _ _ h => h) (Or.inl ⟨?hw9, ?hy9⟩) ?hs9 ?rest9
                case ho9 => (simp only [List.getElem?_toArray, List.getElem?_cons_succ, List.getElem?_cons_zero]; rfl)
                case hw9 => rfl
                case hy9 => (intro w' hSw; obtain ⟨g1, g3⟩ := hSw; go_simp; (try with_reducible rfl))
                case hs9 => (refine ⟨?_, ?_⟩ <;> (first | assumption | go_keep))
                case rest9 =>
                (try simp only [Act.put, List.setIfInBounds_toArray, List.set_cons_zero, List.set_cons_succ])
                refine Goes.all (rs := [9]) (by kernel_rfl) (by simp) ?_
                refine Ups.cons (i := 9) (o := ?oo10) ?ho10 (fun KK hKK => ?stp10) ?more10
                case ho10 => (simp only [List.getElem?_toArray, List.getElem?_cons_succ, List.getElem?_cons_zero]; rfl)
                case stp10 =>
                  go_simp
                  refine hKK.out _ _ (Or.inr (by refine ⟨?_, ?_⟩ <;> (first | assumption | go_keep))) ?_
                  clear hKK KK
                  (try simp only [Act.put, List.setIfInBounds_toArray, List.set_cons_zero, List.set_cons_succ])
                  refine Goes.all (rs := [10]) (by kernel_rfl) (by simp) ?_
                  refine Ups.cons (i := 10) (o := ?oo11) ?ho11 (fun KK hKK => ?stp11) ?more11
                  case ho11 => (simp only [List.getElem?_toArray, List.getElem?_cons_succ, List.getElem?_cons_zero]; rfl)
                  case stp11 =>
                    (refine app_elem_st (w2.alloc (.cells #[.int .u8 1] 5)) (by rfl) _ _ 55 118 (by rfl) shFlight (.agg #[.int .i64 0, .int .i64 0, .slice none 0 0, .int .i64 0, .int .i64 0]) 56 Try.underlying55 info_FlightS rfl (by decide) (by decide) lo w1.heap.size w2.heap.size (w2.alloc (.cells #[.int .u8 1] 5)).heap.size X.2.2.2.1 (.slice va vn vc) (by rfl) (w2.heap.size + 1) (by simp) (by rfl) (HO2.out.below hz12 ((Below.refl _ _).alloc (Nat.le_refl _) _)) (X.2.1, r, [1], 0, 1, ()) [.int .i64 X.2.1, .int .i64 r, .slice (some ⟨w2.heap.size, 0, none⟩) 1 1, .int .i64 0, .int .i64 1] (own_fl1 HW1.out HWR.out (al_new w2 _)) HLO.out hz12 (Nat.le_refl _) HLN.out (by simp; have := HLO.out; omega) ?_; intro v4 w4 ho4 hb4 hk4 hs4; have hbx : Below lo w2 w4 := (((Below.refl _ _).alloc (by have := HLO.out; omega) _).trans hb4); obtain ⟨va4, vc4, hv4⟩ := row_form (ho4.rd (Nat.le_refl _)); simp only [List.cons.injEq, and_true] at hv4; generalize List.length _ = N4 at hv4; subst hv4; have HO4 : Hid _ := ho4; have HB4 : Hid (Below lo w2 w4) := hbx; replace kX := boxB kX hbx hXlo; replace fX := boxF fX hbx hXlo; replace k0 := boxB k0 hbx hzlo; replace f0 := boxF f0 hbx hzlo; replace x1 := kX 1; replace x3 := kX 3; simp only [List.getElem?_toArray, List.getElem?_cons_succ, List.getElem?_cons_zero] at x1 x3; clear ho4 hb4 hk4 hs4 hbx)
                    refine hKK.out _ _ (Or.inr (by refine ⟨?_, ?_⟩ <;> (first | assumption | go_keep))) ?_
                    clear hKK KK
                    (try simp only [Act.put, List.setIfInBounds_toArray, List.set_cons_zero, List.set_cons_succ])
                    refine Goes.take (i := 11) (oi := ?oi12) (x := ?vx12) ?ho12 (by kernel_rfl) (by kernel_rfl) (by kernel_rfl) (by kernel_rfl) (fun _ _ _ h => h) (Or.inl ⟨?hw12, ?hy12⟩) ?hs12 ?rest12
                    case ho12 => (simp only [List.getElem?_toArray, List.getElem?_cons_succ, List.getElem?_cons_zero]; rfl)
                    case hw12 => rfl
                    case hy12 => (intro w' hSw; obtain ⟨g1, g3⟩ := hSw; go_simp; (try with_reducible rfl))
                    case hs12 => (refine ⟨?_, ?_⟩ <;> (first | assumption | go_keep))
                    case rest12 =>
                    (try simp only [Act.put, List.setIfInBounds_toArray, List.set_cons_zero, List.set_cons_succ])
                    refine Goes.all (rs := [12]) (by kernel_rfl) (by simp) ?_
                    refine Ups.cons (i := 12) (o := ?oo13) ?ho13 (fun KK hKK => ?stp13) ?more13
                    case ho13 => (simp only [List.getElem?_toArray, List.getElem?_cons_succ, List.getElem?_cons_zero]; rfl)
                    case stp13 =>
                      go_simp
                      refine hKK.out _ _ (Or.inl rfl) ?_
                      clear hKK KK
                      (try simp only [Act.put, List.setIfInBounds_toArray, List.set_cons_zero, List.set_cons_succ])
                      refine Goes.done (by kernel_rfl) ?_ _
                      refine NoPanic.normal ?_
                      go_wp2_with fail
                      have hs24 := HB4.out.size
                      have hlo1 := HLO.out
                      have hbx : Hid (Below XB w2 (w4.setCell ⟨XB, 3, none⟩ (.slice va4 N4 vc4))) := (HB4.out.mono (Nat.le_of_lt hXlo)).setCell (p := ⟨XB, 3, none⟩) (Nat.le_refl _) _
                      have HDS3 : Hid (DSnd (w4.setCell ⟨XB, 3, none⟩ (.slice va4 N4 vc4)) XB lo (X.1, X.2.1, X.2.2.1, X.2.2.2.1 ++ [(X.2.1, r, [1], 0, 1, ())], ()) va4 N4 vc4) := ⟨Own.mono (Own.keep HO4.out (fun b q1 q2 => by rw [Below.heap_setCell _ _ _ _ (by dsimp only; omega)])) (Nat.le_refl _) (by simp), hXlo, by simp; omega, HDS1.out.w0, HDS1.out.w1, HDS1.out.w2⟩
                      have hF := HFIN.out _ _ _ _ _ _ HDS3.out (by show totFlights (X.2.2.2.1 ++ [_]) ≤ 1000000; rw [tot_fls1]; have h : totFlights X.2.2.2.1 ≤ 108 := htot; show totFlights X.2.2.2.1 + 1 + 1 ≤ 1000000; omega) (D2.out.then hbx.out (by omega)) (S2.out.below hbx.out hsX)
                      have HF5 : Hid _ := hF
                      clear hF
                      exact bodyPost_ret (v := .agg #[.int .i64 X.1, .int .i64 X.2.1, .int .i64 X.2.2.1, .slice va4 N4 vc4]) (by simp [results, Try.results110, go_sem, k0]) rfl ⟨(X.1, X.2.1, X.2.2.1, X.2.2.2.1 ++ [(X.2.1, r, [1], 0, 1, ())], ()), _, rfl, HF5.out⟩
                    case more13 =>
                      exact Ups.nil
                  case more11 =>
                    exact Ups.nil
                case more10 =>
                  exact Ups.nil
              case more8 =>
                exact Ups.nil
            case more7 =>
              refine Ups.cons (i := 7) (o := ?oo14) ?ho14 (fun KK hKK => ?stp14) ?more14
              case ho14 => (simp only [List.getElem?_toArray, List.getElem?_cons_succ, List.getElem?_cons_zero]; rfl)
              case stp14 =>
                go_simp
                refine hKK.out _ _ (Or.inr (by refine ⟨?_, ?_⟩ <;> (first | assumption | go_keep))) ?_
                clear hKK KK
                (try simp only [Act.put, List.setIfInBounds_toArray, List.set_cons_zero, List.set_cons_succ])
                refine Goes.all (rs := [6]) (by kernel_rfl) (by simp) ?_
                refine Ups.cons (i := 6) (o := ?oo15) ?ho15 (fun KK hKK => ?stp15) ?more15
                case ho15 => (simp only [List.getElem?_toArray, List.getElem?_cons_succ, List.getElem?_cons_zero]; rfl)
                case stp15 =>
                  go_simp
                  go_at_call 41
                  refine (HP.out _ _ (by go_grown) hsg (fun i hi => (by have hi3 : i = 0 ∨ i = 1 ∨ i = 2 := (by omega); rcases hi3 with rfl | rfl | rfl <;> simp [go_sem]))).mono ?_
                  rintro e w2 ⟨r, rfl, m0', m1', dd, hbk, s2⟩
                  replace kX := bx_dr kX dd hX1 (by omega)
                  replace fX := fx_dr fX dd hX1 (by omega)
                  replace k0 := bx_dr k0 dd (by omega) (by omega)
                  replace f0 := fx_dr f0 dd (by omega) (by omega)
                  replace x1 := kX 1
                  replace x3 := kX 3
                  simp only [List.getElem?_toArray, List.getElem?_cons_succ, List.getElem?_cons_zero] at x1 x3
                  have HO2 : Hid (Own w2 lo w1.heap.size shFlights X.2.2.2.1 [.slice va vn vc]) := (Own.keep HDS1.out.own (fun b q1 q2 => dd.block b q2 (by omega)))
                  have HWR : Hid ((Lit.int .i64 r).wf = true) := (WalkArith.wf_i64 (by omega))
                  have D2 : Hid (Dr sb w w2) := D1.out.trans dd
                  have S2 : Hid (Src w2 sb (.slice a len cap) (K + 600)) := s2.mono (by omega)
                  have hX2 : XB < w2.heap.size := Nat.lt_of_lt_of_le hX1 dd.size
                  have hz12 : w1.heap.size ≤ w2.heap.size := dd.size
                  have hn3 : XB ≠ w2.heap.size := by omega
                  have hn3' : w2.heap.size ≠ XB := by omega
                  have hn4 : XB ≠ w2.heap.size + 1 := by omega
                  have hn4' : w2.heap.size + 1 ≠ XB := by omega
                  have hg : Hid (w2.heap[w1.heap.size + 1]? = some (.cells #[.int .u8 1] 5)) := ((hbk _ hsg1).trans (by first | exact dr_al (by simp) | exact al_new _ _))
                  clear s2 dd hbk
                  (try go_wp2_with fail)
                  refine hKK.out _ _ (Or.inr (by refine ⟨?_, ?_⟩ <;> (first | assumption | go_keep))) ?_
                  clear hKK KK
                  (try simp only [Act.put, List.setIfInBounds_toArray, List.set_cons_zero, List.set_cons_succ])
                  refine Goes.take (i := 8) (oi := ?oi16) (x := ?vx16) ?ho16 (by kernel_rfl) (by kernel_rfl) (by kernel_rfl) (by kernel_rfl) (fun _ _ _ h => h) (Or.inl ⟨?hw16, ?hy16⟩) ?hs16 ?rest16
                  case ho16 => (simp only [List.getElem?_toArray, List.getElem?_cons_succ, List.getElem?_cons_zero]; rfl)
                  case hw16 => rfl
                  case hy16 => (intro w' hSw; obtain ⟨g1, g3⟩ := hSw; go_simp; (try with_reducible rfl))
                  case hs16 => (refine ⟨?_, ?_⟩ <;> (first | assumption | go_keep))
                  case rest16 =>
                  (try simp only [Act.put, List.setIfInBounds_toArray, List.set_cons_zero, List.set_cons_succ])
                  refine Goes.all (rs := [9]) (by kernel_rfl) (by simp) ?_
                  refine Ups.cons (i := 9) (o := ?oo17) ?ho17 (fun KK hKK => ?stp17) ?more17
                  case ho17 => (simp only [List.getElem?_toArray, List.getElem?_cons_succ, List.getElem?_cons_zero]; rfl)
                  case stp17 =>
                    go_simp
                    refine hKK.out _ _ (Or.inr (by refine ⟨?_, ?_⟩ <;> (first | assumption | go_keep))) ?_
                    clear hKK KK
                    (try simp only [Act.put, List.setIfInBounds_toArray, List.set_cons_zero, List.set_cons_succ])
                    refine Goes.all (rs := [10]) (by kernel_rfl) (by simp) ?_
                    refine Ups.cons (i := 10) (o := ?oo18) ?ho18 (fun KK hKK => ?stp18) ?more18
                    case ho18 => (simp only [List.getElem?_toArray, List.getElem?_cons_succ, List.getElem?_cons_zero]; rfl)
                    case stp18 =>
                      (refine app_elem_st w2 (by rfl) _ _ 55 118 (by rfl) shFlight (.agg #[.int .i64 0, .int .i64 0, .slice none 0 0, .int .i64 0, .int .i64 0]) 56 Try.underlying55 info_FlightS rfl (by decide) (by decide) lo w1.heap.size (w1.heap.size + 1) w2.heap.size X.2.2.2.1 (.slice va vn vc) (by rfl) w2.heap.size rfl (by rfl) HO2.out (X.2.1, r, [1], 0, 1, ()) [.int .i64 X.2.1, .int .i64 r, .slice (some ⟨(w1.heap.size + 1), 0, none⟩) 1 1, .int .i64 0, .int .i64 1] (own_fl1 HW1.out HWR.out hg.out) HLO.out (Nat.le_succ _) (Nat.le_refl _) HLN.out (by have := HLO.out; omega) ?_; intro v4 w4 ho4 hb4 hk4 hs4; have hbx : Below lo w2 w4 := hb4; obtain ⟨va4, vc4, hv4⟩ := row_form (ho4.rd (Nat.le_refl _)); simp only [List.cons.injEq, and_true] at hv4; generalize List.length _ = N4 at hv4; subst hv4; have HO4 : Hid _ := ho4; have HB4 : Hid (Below lo w2 w4) := hbx; replace kX := boxB kX hbx hXlo; replace fX := boxF fX hbx hXlo; replace k0 := boxB k0 hbx hzlo; replace f0 := boxF f0 hbx hzlo; replace x1 := kX 1; replace x3 := kX 3; simp only [List.getElem?_toArray, List.getElem?_cons_succ, List.getElem?_cons_zero] at x1 x3; clear ho4 hb4 hk4 hs4 hbx)
                      refine hKK.out _ _ (Or.inr (by refine ⟨?_, ?_⟩ <;> (first | assumption | go_keep))) ?_
                      clear hKK KK
                      (try simp only [Act.put, List.setIfInBounds_toArray, List.set_cons_zero, List.set_cons_succ])
                      refine Goes.take (i := 11) (oi := ?oi19) (x := ?vx19) ?ho19 (by kernel_rfl) (by kernel_rfl) (by kernel_rfl) (by kernel_rfl) (fun _ _ _ h => h) (Or.inl ⟨?hw19, ?hy19⟩) ?hs19 ?rest19
                      case ho19 => (simp only [List.getElem?_toArray, List.getElem?_cons_succ, List.getElem?_cons_zero]; rfl)
                      case hw19 => rfl
                      case hy19 => (intro w' hSw; obtain ⟨g1, g3⟩ := hSw; go_simp; (try with_reducible rfl))
                      case hs19 => (refine ⟨?_, ?_⟩ <;> (first | assumption | go_keep))
                      case rest19 =>
                      (try simp only [Act.put, List.setIfInBounds_toArray, List.set_cons_zero, List.set_cons_succ])
                      refine Goes.all (rs := [12]) (by kernel_rfl) (by simp) ?_
                      refine Ups.cons (i := 12) (o := ?oo20) ?ho20 (fun KK hKK => ?stp20) ?more20
                      case ho20 => (simp only [List.getElem?_toArray, List.getElem?_cons_succ, List.getElem?_cons_zero]; rfl)
                      case stp20 =>
                        go_simp
                        refine hKK.out _ _ (Or.inl rfl) ?_
                        clear hKK KK
                        (try simp only [Act.put, List.setIfInBounds_toArray, List.set_cons_zero, List.set_cons_succ])
                        refine Goes.done (by kernel_rfl) ?_ _
                        refine NoPanic.normal ?_
                        go_wp2_with fail
                        have hs24 := HB4.out.size
                        have hlo1 := HLO.out
                        have hbx : Hid (Below XB w2 (w4.setCell ⟨XB, 3, none⟩ (.slice va4 N4 vc4))) := (HB4.out.mono (Nat.le_of_lt hXlo)).setCell (p := ⟨XB, 3, none⟩) (Nat.le_refl _) _
                        have HDS3 : Hid (DSnd (w4.setCell ⟨XB, 3, none⟩ (.slice va4 N4 vc4)) XB lo (X.1, X.2.1, X.2.2.1, X.2.2.2.1 ++ [(X.2.1, r, [1], 0, 1, ())], ()) va4 N4 vc4) := ⟨Own.mono (Own.keep HO4.out (fun b q1 q2 => by rw [Below.heap_setCell _ _ _ _ (by dsimp only; omega)])) (Nat.le_refl _) (by simp), hXlo, by simp; omega, HDS1.out.w0, HDS1.out.w1, HDS1.out.w2⟩
                        have hF := HFIN.out _ _ _ _ _ _ HDS3.out (by show totFlights (X.2.2.2.1 ++ [_]) ≤ 1000000; rw [tot_fls1]; have h : totFlights X.2.2.2.1 ≤ 108 := htot; show totFlights X.2.2.2.1 + 1 + 1 ≤ 1000000; omega) (D2.out.then hbx.out (by omega)) (S2.out.below hbx.out hsX)
                        have HF5 : Hid _ := hF
                        clear hF
                        exact bodyPost_ret (v := .agg #[.int .i64 X.1, .int .i64 X.2.1, .int .i64 X.2.2.1, .slice va4 N4 vc4]) (by simp [results, Try.results110, go_sem, k0]) rfl ⟨(X.1, X.2.1, X.2.2.1, X.2.2.2.1 ++ [(X.2.1, r, [1], 0, 1, ())], ()), _, rfl, HF5.out⟩
                      case more20 =>
                        exact Ups.nil
                    case more18 =>
                      exact Ups.nil
                  case more17 =>
                    exact Ups.nil
                case more15 =>
                  exact Ups.nil
              case more14 =>
                exact Ups.nil
          case more6 =>
            refine Ups.cons (i := 7) (o := ?oo21) ?ho21 (fun KK hKK => ?stp21) ?more21
            case ho21 => (simp only [List.getElem?_toArray, List.getElem?_cons_succ, List.getElem?_cons_zero]; rfl)
            case stp21 =>
              go_simp
              refine hKK.out _ _ (Or.inr (by refine ⟨?_, ?_⟩ <;> (first | assumption | go_keep))) ?_
              clear hKK KK
              (try simp only [Act.put, List.setIfInBounds_toArray, List.set_cons_zero, List.set_cons_succ])
              refine Goes.all (rs := [5]) (by kernel_rfl) (by simp) ?_
              refine Ups.cons (i := 5) (o := ?oo22) ?ho22 (fun KK hKK => ?stp22) ?more22
              case ho22 => (simp only [List.getElem?_toArray, List.getElem?_cons_succ, List.getElem?_cons_zero]; rfl)
              case stp22 =>
                go_simp
                refine hKK.out _ _ (Or.inr (by refine ⟨?_, ?_⟩ <;> (first | assumption | go_keep))) ?_
                clear hKK KK
                (try simp only [Act.put, List.setIfInBounds_toArray, List.set_cons_zero, List.set_cons_succ])
                refine Goes.all (rs := [6]) (by kernel_rfl) (by simp) ?_
                refine Ups.cons (i := 6) (o := ?oo23) ?ho23 (fun KK hKK => ?stp23) ?more23
                case ho23 => (simp only [List.getElem?_toArray, List.getElem?_cons_succ, List.getElem?_cons_zero]; rfl)
                case stp23 =>
                  go_simp
                  go_at_call 41
                  refine (HP.out _ _ (by go_grown) hsg1 (fun i hi => (by have hi3 : i = 0 ∨ i = 1 ∨ i = 2 := (by omega); rcases hi3 with rfl | rfl | rfl <;> simp [go_sem]))).mono ?_
                  rintro e w2 ⟨r, rfl, m0', m1', dd, hbk, s2⟩
                  replace kX := bx_dr kX dd hX1 (by omega)
                  replace fX := fx_dr fX dd hX1 (by omega)
                  replace k0 := bx_dr k0 dd (by omega) (by omega)
                  replace f0 := fx_dr f0 dd (by omega) (by omega)
                  replace x1 := kX 1
                  replace x3 := kX 3
                  simp only [List.getElem?_toArray, List.getElem?_cons_succ, List.getElem?_cons_zero] at x1 x3
                  have HO2 : Hid (Own w2 lo w1.heap.size shFlights X.2.2.2.1 [.slice va vn vc]) := (Own.keep HDS1.out.own (fun b q1 q2 => dd.block b q2 (by omega)))
                  have HWR : Hid ((Lit.int .i64 r).wf = true) := (WalkArith.wf_i64 (by omega))
                  have D2 : Hid (Dr sb w w2) := D1.out.trans dd
                  have S2 : Hid (Src w2 sb (.slice a len cap) (K + 600)) := s2.mono (by omega)
                  have hX2 : XB < w2.heap.size := Nat.lt_of_lt_of_le hX1 dd.size
                  have hz12 : w1.heap.size ≤ w2.heap.size := dd.size
                  have hn3 : XB ≠ w2.heap.size := by omega
                  have hn3' : w2.heap.size ≠ XB := by omega
                  have hn4 : XB ≠ w2.heap.size + 1 := by omega
                  have hn4' : w2.heap.size + 1 ≠ XB := by omega
                  have hg : Hid (w2.heap[w1.heap.size]? = some (.cells #[.int .u8 1] 5)) := ((hbk _ hsg).trans (by first | exact dr_al2 w1 (.cells #[.int .u8 1] 5) _ | exact (Below.heap_alloc (w1.drew.alloc (.cells #[.int .u8 1] 5)) _ w1.heap.size (by simp)).trans (al_new w1.drew _)))
                  clear s2 dd hbk
                  (try go_wp2_with fail)
                  refine hKK.out _ _ (Or.inr (by refine ⟨?_, ?_⟩ <;> (first | assumption | go_keep))) ?_
                  clear hKK KK
                  (try simp only [Act.put, List.setIfInBounds_toArray, List.set_cons_zero, List.set_cons_succ])
                  refine Goes.take (i := 8) (oi := ?oi24) (x := ?vx24) ?ho24 (by kernel_rfl) (by kernel_rfl) (by kernel_rfl) (by kernel_rfl) (fun _ _ _ h => h) (Or.inl ⟨?hw24, ?hy24⟩) ?hs24 ?rest24
                  case ho24 => (simp only [List.getElem?_toArray, List.getElem?_cons_succ, List.getElem?_cons_zero]; rfl)
                  case hw24 => rfl
                  case hy24 => (intro w' hSw; obtain ⟨g1, g3⟩ := hSw; go_simp; (try with_reducible rfl))
                  case hs24 => (refine ⟨?_, ?_⟩ <;> (first | assumption | go_keep))
                  case rest24 =>
                  (try simp only [Act.put, List.setIfInBounds_toArray, List.set_cons_zero, List.set_cons_succ])
                  refine Goes.all (rs := [9]) (by kernel_rfl) (by simp) ?_
                  refine Ups.cons (i := 9) (o := ?oo25) ?ho25 (fun KK hKK => ?stp25) ?more25
                  case ho25 => (simp only [List.getElem?_toArray, List.getElem?_cons_succ, List.getElem?_cons_zero]; rfl)
                  case stp25 =>
                    go_simp
                    refine hKK.out _ _ (Or.inr (by refine ⟨?_, ?_⟩ <;> (first | assumption | go_keep))) ?_
                    clear hKK KK
                    (try simp only [Act.put, List.setIfInBounds_toArray, List.set_cons_zero, List.set_cons_succ])
                    refine Goes.all (rs := [10]) (by kernel_rfl) (by simp) ?_
                    refine Ups.cons (i := 10) (o := ?oo26) ?ho26 (fun KK hKK => ?stp26) ?more26
                    case ho26 => (simp only [List.getElem?_toArray, List.getElem?_cons_succ, List.getElem?_cons_zero]; rfl)
                    case stp26 =>
                      (refine app_elem_st w2 (by rfl) _ _ 55 118 (by rfl) shFlight (.agg #[.int .i64 0, .int .i64 0, .slice none 0 0, .int .i64 0, .int .i64 0]) 56 Try.underlying55 info_FlightS rfl (by decide) (by decide) lo w1.heap.size w1.heap.size w2.heap.size X.2.2.2.1 (.slice va vn vc) (by rfl) w2.heap.size rfl (by rfl) HO2.out (X.2.1, r, [1], 0, 1, ()) [.int .i64 X.2.1, .int .i64 r, .slice (some ⟨w1.heap.size, 0, none⟩) 1 1, .int .i64 0, .int .i64 1] (own_fl1 HW1.out HWR.out hg.out) HLO.out (Nat.le_refl _) (Nat.le_refl _) HLN.out (by have := HLO.out; omega) ?_; intro v4 w4 ho4 hb4 hk4 hs4; have hbx : Below lo w2 w4 := hb4; obtain ⟨va4, vc4, hv4⟩ := row_form (ho4.rd (Nat.le_refl _)); simp only [List.cons.injEq, and_true] at hv4; generalize List.length _ = N4 at hv4; subst hv4; have HO4 : Hid _ := ho4; have HB4 : Hid (Below lo w2 w4) := hbx; replace kX := boxB kX hbx hXlo; replace fX := boxF fX hbx hXlo; replace k0 := boxB k0 hbx hzlo; replace f0 := boxF f0 hbx hzlo; replace x1 := kX 1; replace x3 := kX 3; simp only [List.getElem?_toArray, List.getElem?_cons_succ, List.getElem?_cons_zero] at x1 x3; clear ho4 hb4 hk4 hs4 hbx)
                      refine hKK.out _ _ (Or.inr (by refine ⟨?_, ?_⟩ <;> (first | assumption | go_keep))) ?_
                      clear hKK KK
                      (try simp only [Act.put, List.setIfInBounds_toArray, List.set_cons_zero, List.set_cons_succ])
                      refine Goes.take (i := 11) (oi := ?oi27) (x := ?vx27) ?ho27 (by kernel_rfl) (by kernel_rfl) (by kernel_rfl) (by kernel_rfl) (fun _ _ _ h => h) (Or.inl ⟨?hw27, ?hy27⟩) ?hs27 ?rest27
                      case ho27 => (simp only [List.getElem?_toArray, List.getElem?_cons_succ, List.getElem?_cons_zero]; rfl)
                      case hw27 => rfl
                      case hy27 => (intro w' hSw; obtain ⟨g1, g3⟩ := hSw; go_simp; (try with_reducible rfl))
                      case hs27 => (refine ⟨?_, ?_⟩ <;> (first | assumption | go_keep))
                      case rest27 =>
                      (try simp only [Act.put, List.setIfInBounds_toArray, List.set_cons_zero, List.set_cons_succ])
                      refine Goes.all (rs := [12]) (by kernel_rfl) (by simp) ?_
                      refine Ups.cons (i := 12) (o := ?oo28) ?ho28 (fun KK hKK => ?stp28) ?more28
                      case ho28 => (simp only [List.getElem?_toArray, List.getElem?_cons_succ, List.getElem?_cons_zero]; rfl)
                      case stp28 =>
                        go_simp
                        refine hKK.out _ _ (Or.inl rfl) ?_
                        clear hKK KK
                        (try simp only [Act.put, List.setIfInBounds_toArray, List.set_cons_zero, List.set_cons_succ])
                        refine Goes.done (by kernel_rfl) ?_ _
                        refine NoPanic.normal ?_
                        go_wp2_with fail
                        have hs24 := HB4.out.size
                        have hlo1 := HLO.out
                        have hbx : Hid (Below XB w2 (w4.setCell ⟨XB, 3, none⟩ (.slice va4 N4 vc4))) := (HB4.out.mono (Nat.le_of_lt hXlo)).setCell (p := ⟨XB, 3, none⟩) (Nat.le_refl _) _
                        have HDS3 : Hid (DSnd (w4.setCell ⟨XB, 3, none⟩ (.slice va4 N4 vc4)) XB lo (X.1, X.2.1, X.2.2.1, X.2.2.2.1 ++ [(X.2.1, r, [1], 0, 1, ())], ()) va4 N4 vc4) := ⟨Own.mono (Own.keep HO4.out (fun b q1 q2 => by rw [Below.heap_setCell _ _ _ _ (by dsimp only; omega)])) (Nat.le_refl _) (by simp), hXlo, by simp; omega, HDS1.out.w0, HDS1.out.w1, HDS1.out.w2⟩
                        have hF := HFIN.out _ _ _ _ _ _ HDS3.out (by show totFlights (X.2.2.2.1 ++ [_]) ≤ 1000000; rw [tot_fls1]; have h : totFlights X.2.2.2.1 ≤ 108 := htot; show totFlights X.2.2.2.1 + 1 + 1 ≤ 1000000; omega) (D2.out.then hbx.out (by omega)) (S2.out.below hbx.out hsX)
                        have HF5 : Hid _ := hF
                        clear hF
                        exact bodyPost_ret (v := .agg #[.int .i64 X.1, .int .i64 X.2.1, .int .i64 X.2.2.1, .slice va4 N4 vc4]) (by simp [results, Try.results110, go_sem, k0]) rfl ⟨(X.1, X.2.1, X.2.2.1, X.2.2.2.1 ++ [(X.2.1, r, [1], 0, 1, ())], ()), _, rfl, HF5.out⟩
                      case more28 =>
                        exact Ups.nil
                    case more26 =>
                      exact Ups.nil
                  case more25 =>
                    exact Ups.nil
                case more23 =>
                  exact Ups.nil
              case more22 =>
                exact Ups.nil
            case more21 =>
              exact Ups.nil
        · have hnop3 := trivial
          by_cases c4 : sw = 4
          · subst c4
            obtain ⟨i0, hi, hz0, hz1, hz2⟩ := info_parts info_FlightS
            go_wp2_with (at_make; refine wpList_make_full w1 rfl _ _ 55 rfl w1.heap.size 118 i0 (.agg #[.int .i64 0, .int .i64 0, .slice none 0 0, .int .i64 0, .int .i64 0]) 5 Try.underlying55 hi hz0 hz1 .i64 .i64 _ _ 13 (by rfl) (by rfl) rfl rfl (by rw [hz2]; omega) (by unfold maxLen; omega) (Nat.le_refl _) ?_; intro w2 hown hgr; have hb2 : Below w1.heap.size w1 w2 := (Below.refl _ _).grown hgr (Nat.le_refl _) (by intro k hk; cases hk); have hown0 : Hid (Own w2 w1.heap.size w2.heap.size shFlights (List.replicate 13 shFlight.zero) [.slice (some ⟨w1.heap.size, 0, none⟩) 13 13]) := (Own.made (e := shFlight) (z := .agg #[.int .i64 0, .int .i64 0, .slice none 0 0, .int .i64 0, .int .i64 0]) rfl hown).tight; have HB2 : Hid _ := hb2; replace kX := boxB kX hb2 hX1; replace fX := boxF fX hb2 hX1; replace k0 := boxB k0 hb2 hzw; replace f0 := boxF f0 hb2 hzw; clear hown hgr hb2 hi hz0 hz1 hz2)
            have hsz := HB2.out.size
            have hbx : Hid (Below XB w1 (w2.setCell ⟨XB, 3, none⟩ (.slice (some ⟨w1.heap.size, 0, none⟩) 13 13))) := (HB2.out.mono (Nat.le_of_lt hX1)).setCell (p := ⟨XB, 3, none⟩) (Nat.le_refl _) _
            have HDS3 : Hid (DSnd (w2.setCell ⟨XB, 3, none⟩ (.slice (some ⟨w1.heap.size, 0, none⟩) 13 13)) XB w1.heap.size (X.1, X.2.1, X.2.2.1, List.replicate 13 shFlight.zero, ()) (some ⟨w1.heap.size, 0, none⟩) 13 13) := ⟨Own.mono (Own.keep hown0.out (fun b q1 q2 => by rw [Below.heap_setCell _ _ _ _ (by dsimp only; omega)])) (Nat.le_refl _) (by simp), hX1, by simpa using hsz, HDS1.out.w0, HDS1.out.w1, HDS1.out.w2⟩
            have hF := HFIN.out _ _ _ _ _ _ HDS3.out (by show totFlights (List.replicate 13 shFlight.zero) ≤ 1000000; decide) (D1.out.then hbx.out (by omega)) ((S1.out.below hbx.out hsX).mono (by omega))
            have HF5 : Hid _ := hF
            clear hF
            refine bodyPost_ret (v := .agg #[.int .i64 X.1, .int .i64 X.2.1, .int .i64 X.2.2.1, .slice (some ⟨w1.heap.size, 0, none⟩) 13 13]) (by simp [results, Try.results110, go_sem, k0]) rfl ⟨(X.1, X.2.1, X.2.2.1, List.replicate 13 shFlight.zero, ()), _, rfl, HF5.out⟩
          · have hnop4 := trivial
            have hF := HFIN.out w1 X va vn vc lo HDS1.out (Nat.le_trans htot (by omega)) D1.out (S1.out.mono (by omega))
            have HF5 : Hid _ := hF
            clear hF
            go_wp2_with fail
            refine bodyPost_ret (v := .agg #[.int .i64 X.1, .int .i64 X.2.1, .int .i64 X.2.2.1, .slice va vn vc]) (by simp [results, Try.results110, go_sem, k0]) rfl ⟨X, _, rfl, HF5.out⟩
end Go.Proofs.Ytebgibjokljlbaa
