/- What a side answers, tells and proves of a path, as plain functions of a conn, and who owns such an answer (it has no memory); no condition. -/
import Derived.Test.YtcbgedlckcjjnaaGreatRows
import Derived.Test.YtcbgedlckcjjnaaGreatK01
import Derived.Test.YtcbgedlckcjjnaaGreatK02
import Derived.Test.YtcbgedlckcjjnaaGreatK03
import Derived.Test.YtcbgedlckcjjnaaGreatK04
import Derived.Test.YtcbgedlckcjjnaaGreatK09
import Derived.Test.YtcbgedlckcjjnaaGreatK10
import Derived.Test.YtcbgedlckcjjnaaGreatK11
import Derived.Test.YtcbgedlckcjjnaaGreatK15
import Derived.Test.YtcbgedlckcjjnaaGreatK16
import Derived.Test.YtcbgedlckcjjnaaGreatK17
import Derived.Test.YtcbgedlckcjjnaaGreatK20
import Derived.Test.YtcbgedlckcjjnaaGreatK21
namespace Go.Proofs.YtcbgedlckcjjnaaGreat
open Go.RowKit
set_option linter.unusedVariables false
set_option maxRecDepth 8000

def zSubA : DSub := (0, 0, false, 0, 0, 0, (0, 0, 0, [], ()), (0, 0, [], ()), (0, 0, 0, ()), ())
def zSegm : DSegm := (0, 0, false, false, false, 0, 0, 0, 0, 0, 0, [], ())
/-- The sub of a path. -/
def subD (c : DConn) (p : Int) : DSub := c.subs.getD (placeD c.subs p).toNat zSubA
theorem place_bd (l : List DSub) (p : Int) : placeD l p = -1 ∨ ∃ k : Nat, placeD l p = k ∧ k < l.length := by
  unfold placeD
  cases h : l.findIdx? (fun x => decide (x.1 = p)) with
  | none => exact Or.inl rfl
  | some i => exact Or.inr ⟨i, rfl, (List.findIdx?_eq_some_iff_getElem.1 h).1⟩
theorem subD_at {c : DConn} {p : Int} {k : Nat} (h : placeD c.subs p = k) (hk : k < c.subs.length) : subD c p = c.subs[k] := by
  unfold subD
  rw [h, Int.toNat_natCast, List.getD_eq_getElem?_getD, List.getElem?_eq_getElem hk]
  rfl
/-- A segment that answers who asks. -/
def ansS (c : DConn) (x : DSub) : DSegm :=
  (x.1, c.1, true, true, false, x.2.2.2.2.2.2.1.1, x.2.2.2.2.2.2.2.1.1, 0, (if x.2.2.1 then 3 else if c.2.2.2.1 then 0 else 1), (if x.2.2.1 then mixV [c.2.1, c.2.2.1, x.2.2.2.2.1] else if c.2.2.2.1 then 0 else c.2.1), (if x.2.2.1 then x.2.2.2.1 else 0), [], ())
def endD (c : DConn) : Int := if c.2.2.2.2.2.2.1 then (c.2.2.2.2.2.1.length : Int) + 1 else 0
/-- A segment that tells what is known of a path. -/
def telS (c : DConn) (x : DSub) : DSegm :=
  (x.1, c.1, false, true, false, wrp (x.2.2.2.2.2.2.1.1 + x.2.2.2.2.2.2.1.2.1), wrp (x.2.2.2.2.2.2.2.1.1 + x.2.2.2.2.2.2.2.1.2.1), endD c, (if c.2.2.2.1 then 0 else 4), (if c.2.2.2.1 then 0 else dackD c), 0, [], ())
/-- One that proves a join. -/
def prvS (c : DConn) (x : DSub) : DSegm :=
  (x.1, c.1, false, true, false, wrp (x.2.2.2.2.2.2.1.1 + x.2.2.2.2.2.2.1.2.1), wrp (x.2.2.2.2.2.2.2.1.1 + x.2.2.2.2.2.2.2.1.2.1), endD c, 3, mixV [c.2.1, c.2.2.1, x.2.2.2.2.1], 0, [], ())
def ansV (c : DConn) (p : Int) : DSR := if connF c = 0 then (if placeD c.subs p < 0 then (4, zSegm, ()) else (0, ansS c (subD c p), ())) else (connF c, zSegm, ())
def telV (c : DConn) (p : Int) : DSR := if connF c = 0 then (if placeD c.subs p < 0 then (4, zSegm, ()) else if (subD c p).2.1 = 3 then (0, telS c (subD c p), ()) else (10, zSegm, ())) else (connF c, zSegm, ())
def prvV (c : DConn) (p : Int) : DSR := if connF c = 0 then (if placeD c.subs p < 0 then (4, zSegm, ()) else if (subD c p).2.2.1 = true then (0, prvS c (subD c p), ()) else (1, zSegm, ())) else (connF c, zSegm, ())
theorem ansV_tot (c : DConn) (p : Int) : totSR (ansV c p) ≤ 1048576 := by unfold ansV; split <;> (try split) <;> exact Nat.zero_le _
theorem telV_tot (c : DConn) (p : Int) : totSR (telV c p) ≤ 1048576 := by unfold telV; split <;> (try split) <;> (try split) <;> exact Nat.zero_le _
theorem prvV_tot (c : DConn) (p : Int) : totSR (prvV c p) ≤ 1048576 := by unfold prvV; split <;> (try split) <;> (try split) <;> exact Nat.zero_le _
/-- The cells of a segment without a load. -/
def segA (s : DSegm) : Array Value := #[.int .i64 s.1, .int .i64 s.2.1, .bool s.2.2.1, .bool s.2.2.2.1, .bool s.2.2.2.2.1, .int .i64 s.2.2.2.2.2.1, .int .i64 s.2.2.2.2.2.2.1, .int .i64 s.2.2.2.2.2.2.2.1, .int .i64 s.2.2.2.2.2.2.2.2.1, .int .i64 s.2.2.2.2.2.2.2.2.2.1, .int .i64 s.2.2.2.2.2.2.2.2.2.2.1, .slice none 0 0]
def srA (x : DSR) : Array Value := #[.int .i64 x.1, .int .i64 x.2.1.1, .int .i64 x.2.1.2.1, .bool x.2.1.2.2.1, .bool x.2.1.2.2.2.1, .bool x.2.1.2.2.2.2.1, .int .i64 x.2.1.2.2.2.2.2.1, .int .i64 x.2.1.2.2.2.2.2.2.1, .int .i64 x.2.1.2.2.2.2.2.2.2.1, .int .i64 x.2.1.2.2.2.2.2.2.2.2.1, .int .i64 x.2.1.2.2.2.2.2.2.2.2.2.1, .int .i64 x.2.1.2.2.2.2.2.2.2.2.2.2.1, .slice none 0 0]
/-- The numbers of an answer fit. -/
def SRWf (x : DSR) : Prop := (Lit.int .i64 x.1).wf = true ∧ (Lit.int .i64 x.2.1.1).wf = true ∧ (Lit.int .i64 x.2.1.2.1).wf = true ∧ (Lit.int .i64 x.2.1.2.2.2.2.2.1).wf = true ∧ (Lit.int .i64 x.2.1.2.2.2.2.2.2.1).wf = true ∧ (Lit.int .i64 x.2.1.2.2.2.2.2.2.2.1).wf = true ∧ (Lit.int .i64 x.2.1.2.2.2.2.2.2.2.2.1).wf = true ∧ (Lit.int .i64 x.2.1.2.2.2.2.2.2.2.2.2.1).wf = true ∧ (Lit.int .i64 x.2.1.2.2.2.2.2.2.2.2.2.2.1).wf = true
theorem own_SR {w : World} {lo hi : Nat} {x : DSR} (h : SRWf x) (hl : x.2.1.2.2.2.2.2.2.2.2.2.2.2.1 = []) : Own w lo hi shSR x (srA x).toList := by
  obtain ⟨q, ⟨y0, y1, y2, y3, y4, y5, y6, y7, y8, y9, y10, ld, ⟨⟩⟩, ⟨⟩⟩ := x
  obtain ⟨f, f0, f1, f5, f6, f7, f8, f9, f10⟩ := h
  have hl' : ld = [] := hl
  subst hl'
  exact ⟨[], ⟨[], [], [_], _, rfl, rfl, ⟨rfl, rfl, f⟩, [], [], _, [], rfl, (List.append_nil _).symm, mk_Segm (u := .slice none 0 0) (Or.inl ⟨rfl, rfl, rfl⟩) f0 f1 f5 f6 f7 f8 f9 f10, rfl, rfl⟩, by simp, by simp⟩
theorem ansV_nil (c : DConn) (p : Int) : (ansV c p).2.1.2.2.2.2.2.2.2.2.2.2.2.1 = [] := by unfold ansV; split <;> (try split) <;> rfl
theorem telV_nil (c : DConn) (p : Int) : (telV c p).2.1.2.2.2.2.2.2.2.2.2.2.2.1 = [] := by unfold telV; split <;> (try split) <;> (try split) <;> rfl
theorem prvV_nil (c : DConn) (p : Int) : (prvV c p).2.1.2.2.2.2.2.2.2.2.2.2.2.1 = [] := by unfold prvV; split <;> (try split) <;> (try split) <;> rfl
theorem ansV_code {c : DConn} {p : Int} (h : ¬ subOnC c p = 0) : ansV c p = (subOnC c p, zSegm, ()) := by
  unfold subOnC at h ⊢
  unfold ansV
  by_cases hc : connF c = 0
  · by_cases hp : placeD c.subs p < 0
    · simp [hc, hp]
    · simp [hc, hp] at h
  · simp [hc]
theorem ansV_at {c : DConn} {p : Int} (h : subOnC c p = 0) : ∃ k : Nat, placeD c.subs p = k ∧ ∃ hk : k < c.subs.length, subOnV c p = k ∧ ansV c p = (0, ansS c c.subs[k], ()) := by
  unfold subOnC at h
  by_cases hc : connF c = 0
  · rw [if_pos hc] at h
    rcases place_bd c.subs p with hp | ⟨k, hk, hl⟩
    · rw [hp, if_pos (by omega)] at h; cases h
    · refine ⟨k, hk, hl, ?_, ?_⟩
      · unfold subOnV; rw [if_pos hc, hk, if_neg (by omega)]
      · unfold ansV; rw [if_pos hc, if_neg (by omega), subD_at hk hl]
  · rw [if_neg hc] at h; exact absurd h hc
theorem wf0 : (Lit.int .i64 0).wf = true := by decide
theorem segz_wf {q : Int} (h : (Lit.int .i64 q).wf = true) : SRWf (q, zSegm, ()) := ⟨h, wf0, wf0, wf0, wf0, wf0, wf0, wf0, wf0⟩
theorem subOn_ok {c : DConn} {p : Int} (h : subOnC c p = 0) : connF c = 0 := by
  unfold subOnC at h
  by_cases hc : connF c = 0
  · exact hc
  · rw [if_neg hc] at h; exact absurd h hc
theorem prvV_code {c : DConn} {p : Int} (h : ¬ subOnC c p = 0) : prvV c p = (subOnC c p, zSegm, ()) := by
  unfold subOnC at h ⊢
  unfold prvV
  by_cases hc : connF c = 0
  · by_cases hp : placeD c.subs p < 0
    · simp [hc, hp]
    · simp [hc, hp] at h
  · simp [hc]
theorem telV_code {c : DConn} {p : Int} (h : ¬ subOnC c p = 0) : telV c p = (subOnC c p, zSegm, ()) := by
  unfold subOnC at h ⊢
  unfold telV
  by_cases hc : connF c = 0
  · by_cases hp : placeD c.subs p < 0
    · simp [hc, hp]
    · simp [hc, hp] at h
  · simp [hc]
theorem prvV_at {c : DConn} {p : Int} (h : subOnC c p = 0) : ∃ k : Nat, placeD c.subs p = k ∧ ∃ hk : k < c.subs.length, subOnV c p = k ∧ prvV c p = if c.subs[k].2.2.1 = true then (0, prvS c c.subs[k], ()) else (1, zSegm, ()) := by
  have hc := subOn_ok h
  obtain ⟨k, hk, hl, hv, -⟩ := ansV_at h
  exact ⟨k, hk, hl, hv, by unfold prvV; rw [if_pos hc, if_neg (by omega), subD_at hk hl]⟩
theorem telV_at {c : DConn} {p : Int} (h : subOnC c p = 0) : ∃ k : Nat, placeD c.subs p = k ∧ ∃ hk : k < c.subs.length, subOnV c p = k ∧ telV c p = if c.subs[k].2.1 = 3 then (0, telS c c.subs[k], ()) else (10, zSegm, ()) := by
  have hc := subOn_ok h
  obtain ⟨k, hk, hl, hv, -⟩ := ansV_at h
  exact ⟨k, hk, hl, hv, by unfold telV; rw [if_pos hc, if_neg (by omega), subD_at hk hl]⟩
/-- The sub at a place of the list of a conn that reads. -/
theorem sub_of {w : World} {B : Nat} {c : DConn} {A : Array Value} (hr : shConn.Rd w B c A.toList) {k : Nat} (hk : k < c.subs.length) :
    ∃ (cs : List Value) (b off n cap : Nat), A[13]? = some (.slice (some ⟨b, off, none⟩) n cap) ∧ b < B ∧ cs.length = 16 ∧ w.rangeAt b (off + k * 16) cs ∧ shSub.Rd w B c.subs[k] cs ∧ c.subs.length = n := by
  obtain ⟨y0, y1, y2, y3, y4, d5, y6, y7, y8, d9, y10, y11, l, ⟨⟩⟩ := c
  obtain ⟨a5, c5, a9, c9, a9', c9', a12, c12, eA, -, -, r12, -⟩ := rd_Conn hr
  obtain ⟨b, off, cs, ha, hb, hl, hrg, hr2⟩ := row_at r12 k hk
  subst ha
  exact ⟨cs, b, off, l.length, c12, get_of eA 13, hb, hl, hrg, hr2, rfl⟩
theorem conn_cells {w : World} {B : Nat} {c : DConn} {A : Array Value} (hr : shConn.Rd w B c A.toList) :
    A[0]? = some (.int .i64 c.1) ∧ A[1]? = some (.int .i64 c.2.1) ∧ A[2]? = some (.int .i64 c.2.2.1) ∧ A[3]? = some (.bool c.2.2.2.1) ∧ ConnWf c := by
  obtain ⟨y0, y1, y2, y3, y4, d5, y6, y7, y8, d9, y10, y11, l, ⟨⟩⟩ := c
  obtain ⟨a5, c5, a9, c9, a9', c9', a12, c12, eA, -, -, -, hw⟩ := rd_Conn hr
  exact ⟨get_of eA 0, get_of eA 1, get_of eA 2, get_of eA 3, hw⟩
theorem sub_cells {w : World} {B : Nat} {x : DSub} {cs : List Value} (hr : shSub.Rd w B x cs) :
    cs[0]? = some (.int .i64 x.1) ∧ cs[1]? = some (.int .i64 x.2.1) ∧ cs[2]? = some (.bool x.2.2.1) ∧ cs[3]? = some (.int .i64 x.2.2.2.1) ∧ cs[4]? = some (.int .i64 x.2.2.2.2.1) ∧ cs[6]? = some (.int .i64 x.2.2.2.2.2.2.1.1) ∧ cs[10]? = some (.int .i64 x.2.2.2.2.2.2.2.1.1) := by
  obtain ⟨y0, y1, y2, y3, y4, y5, ⟨s0, s1, s2, fl, ⟨⟩⟩, ⟨c0, c1, sp, ⟨⟩⟩, ⟨k0, k1, k2, ⟨⟩⟩, ⟨⟩⟩ := x
  obtain ⟨u, v, e, -⟩ := rd_Sub hr
  subst e
  exact ⟨rfl, rfl, rfl, rfl, rfl, rfl, rfl⟩
theorem wfI {n : Int} (h0 : 0 ≤ n) (h1 : n ≤ 4611686018427387904) : (Lit.int .i64 n).wf = true := wf_i64' (by omega)
theorem sub_wf {w : World} {B : Nat} {x : DSub} {cs : List Value} (hr : shSub.Rd w B x cs) : (Lit.int .i64 x.1).wf = true ∧ (Lit.int .i64 x.2.2.2.1).wf = true ∧ (Lit.int .i64 x.2.2.2.2.2.2.1.1).wf = true ∧ (Lit.int .i64 x.2.2.2.2.2.2.2.1.1).wf = true := by
  obtain ⟨u, v, e, hs, hc, hw⟩ := rd_Sub hr
  obtain ⟨_, _, _, ⟨_, q1⟩, _⟩ := hs
  obtain ⟨_, _, _, ⟨_, q2⟩, _⟩ := hc
  exact ⟨hw.1.1, hw.1.2.2.1, q1, q2⟩
theorem connF_wf (c : DConn) : (Lit.int .i64 (connF c)).wf = true := by
  have h := connF_bd c
  exact wfI h.1 (Int.le_trans h.2 (by omega))
theorem ansV_wf {w : World} {B : Nat} {c : DConn} {A : Array Value} (hr : shConn.Rd w B c A.toList) {p : Int} : SRWf (ansV c p) := by
  unfold ansV
  split
  · rcases place_bd c.subs p with hp | ⟨k, hk, hl⟩
    · rw [hp, if_pos (by omega)]; exact segz_wf (by decide)
    · rw [hk, if_neg (by omega), subD_at hk hl]
      obtain ⟨cs, b, off, n, cap, -, -, -, -, hs, -⟩ := sub_of hr hl
      obtain ⟨-, -, -, -, hcw⟩ := conn_cells hr
      obtain ⟨s0, s3, s6, s10⟩ := sub_wf hs
      have hm := mixV_bd [c.2.1, c.2.2.1, c.subs[k].2.2.2.2.1]
      refine ⟨wf0, s0, hcw.1, s6, s10, wf0, ?_, ?_, ?_⟩
      · show (Lit.int .i64 (if _ then _ else _)).wf = true
        split
        · decide
        · split <;> decide
      · show (Lit.int .i64 (if _ then _ else _)).wf = true
        split
        · exact wfI hm.1 (by omega)
        · split
          · decide
          · exact hcw.2.1
      · show (Lit.int .i64 (if _ then _ else _)).wf = true
        split
        · exact s3
        · decide
  · exact segz_wf (connF_wf c)
theorem wrp_wf (n : Int) : (Lit.int .i64 (wrp n)).wf = true := by
  have h : 0 ≤ wrp n ∧ wrp n ≤ 65535 := by unfold wrp; omega
  exact wfI h.1 (Int.le_trans h.2 (by omega))
theorem endD_wf {c : DConn} (hT : totConn c ≤ 1048576) : (Lit.int .i64 (endD c)).wf = true := by
  have h : c.2.2.2.2.2.1.length ≤ 1048576 := by unfold totConn at hT; omega
  unfold endD
  split
  · exact wfI (by omega) (by omega)
  · decide
theorem dackD_wf {c : DConn} (hT : totConn c ≤ 1048576) : (Lit.int .i64 (dackD c)).wf = true := by
  have h : c.inn.1.length ≤ 1048576 := by
    have h2 : c.2.2.2.2.2.1.length + (c.inn.1.length + pcsTot c.inn.2.1) + totSubs c.2.2.2.2.2.2.2.2.2.2.2.2.1 ≤ 1048576 := hT
    omega
  unfold dackD
  split
  · exact wfI (by omega) (by omega)
  · exact wfI (by omega) (by omega)
theorem prvV_wf {w : World} {B : Nat} {c : DConn} {A : Array Value} (hr : shConn.Rd w B c A.toList) (hT : totConn c ≤ 1048576) {p : Int} : SRWf (prvV c p) := by
  unfold prvV
  split
  · rcases place_bd c.subs p with hp | ⟨k, hk, hl⟩
    · rw [hp, if_pos (by omega)]; exact segz_wf (by decide)
    · rw [hk, if_neg (by omega), subD_at hk hl]
      obtain ⟨cs, b, off, n, cap, -, -, -, -, hs, -⟩ := sub_of hr hl
      obtain ⟨-, -, -, -, hcw⟩ := conn_cells hr
      obtain ⟨s0, s3, s6, s10⟩ := sub_wf hs
      have hm := mixV_bd [c.2.1, c.2.2.1, c.subs[k].2.2.2.2.1]
      split
      · exact ⟨wf0, s0, hcw.1, wrp_wf _, wrp_wf _, endD_wf hT, (by decide : (Lit.int .i64 3).wf = true), wfI hm.1 (Int.le_trans hm.2 (by omega)), wf0⟩
      · exact segz_wf (by decide)
  · exact segz_wf (connF_wf c)
theorem telV_wf {w : World} {B : Nat} {c : DConn} {A : Array Value} (hr : shConn.Rd w B c A.toList) (hT : totConn c ≤ 1048576) {p : Int} : SRWf (telV c p) := by
  unfold telV
  split
  · rcases place_bd c.subs p with hp | ⟨k, hk, hl⟩
    · rw [hp, if_pos (by omega)]; exact segz_wf (by decide)
    · rw [hk, if_neg (by omega), subD_at hk hl]
      obtain ⟨cs, b, off, n, cap, -, -, -, -, hs, -⟩ := sub_of hr hl
      obtain ⟨-, -, -, -, hcw⟩ := conn_cells hr
      obtain ⟨s0, s3, s6, s10⟩ := sub_wf hs
      split
      · refine ⟨wf0, s0, hcw.1, wrp_wf _, wrp_wf _, endD_wf hT, ?_, ?_, wf0⟩
        · show (Lit.int .i64 (if _ then _ else _)).wf = true
          split <;> decide
        · show (Lit.int .i64 (if _ then _ else _)).wf = true
          split
          · decide
          · exact dackD_wf hT
      · exact segz_wf (by decide)
  · exact segz_wf (connF_wf c)
end Go.Proofs.YtcbgedlckcjjnaaGreat
