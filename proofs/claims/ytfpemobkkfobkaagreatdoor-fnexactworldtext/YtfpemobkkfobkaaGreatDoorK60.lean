/- Bytes made a string and held against another: what the conversion gives, and bytes.Equal; memory is as it was; no condition. -/
import Derived.Test.YtfpemobkkfobkaaGreatDoorRows
import Derived.Laws.BytesArg
import Derived.Test.YtfpemobkkfobkaaGreatDoorK01
import Derived.Test.YtfpemobkkfobkaaGreatDoorK03
import Derived.Test.YtfpemobkkfobkaaGreatDoorK10
import Derived.Test.YtfpemobkkfobkaaGreatDoorK11
import Derived.Test.YtfpemobkkfobkaaGreatDoorK12
import Derived.Test.YtfpemobkkfobkaaGreatDoorK56
import Derived.Test.YtfpemobkkfobkaaGreatDoorK57
import Derived.Test.YtfpemobkkfobkaaGreatDoorK58
import Derived.Test.YtfpemobkkfobkaaGreatDoorK59
namespace Go.Proofs.YtfpemobkkfobkaaGreatDoor
open Go.RowKit
set_option linter.unusedVariables false

/-- The two rows of bytes are the same string. -/
def eqS (l l' : List Int) : Bool := (strOfNums l).toList == (strOfNums l').toList

theorem cv_str (a : Option Addr) (n cap : Nat) (l : List Int) (w : World) (hl : l.length = n) (hr : RB w a l) :
    (convert 62 9 (.slice a n cap)).run Tryz.prog w = .ok (.string (strOfNums l)) w := by
  rcases hr.mem with e | ⟨b, off, rfl, hc⟩
  · subst e
    simp at hl
    subst hl
    cases a with
    | none => exact run_convert_bytes_nil w _ _ Tryz.underlying62 Tryz.underlying5 0 cap _ Tryz.underlying9
    | some x =>
      rw [run_convert_bytes_string w _ _ _ _ 0 cap Tryz.underlying62 Tryz.underlying5 Tryz.underlying9, run_bytesToString w x 0 cap [] (run_loadCells_list (P := Tryz.prog) w x [] (by simp))]
      rfl
  · exact run_convert_bytes_arg w _ _ Tryz.underlying62 Tryz.underlying5 b off n cap l hl (fun i hi => hc i (by omega)) _ Tryz.underlying9

theorem bEqual (a b : Option Addr) (n m cap cap' : Nat) (l l' : List Int) (w : World) (hl : l.length = n) (hl' : l'.length = m) (ha : RB w a l) (hb : RB w b l') :
    Calls Tryz.prog 40 #[.slice a n cap, .slice b m cap'] w fun e w' => e = .returned (.bool (eqS l l')) ∧ w' = w := by
  have h1 := cv_str a n cap l w hl ha
  have h2 := cv_str b m cap' l' w hl' hb
  go_enter Tryz.func40, Tryz.ntmps40
  go_wp2
  go_ret
  exact ⟨rfl, rfl⟩
end Go.Proofs.YtfpemobkkfobkaaGreatDoor

/- What a world's fault is, in plain terms; no condition. -/
namespace Go.Proofs.YtfpemobkkfobkaaGreatDoor
open Go.RowKit
set_option linter.unusedVariables false

/-- The first fault of conns, in order. -/
def cfsF : List DConn → Int
  | [] => 0
  | c :: r => if connF c ≠ 0 then connF c else cfsF r
/-- Their sides are k, k + 1 and so on. -/
def sdF (k : Int) : List DConn → Bool
  | [] => true
  | c :: r => decide (c.side = k) && sdF (k + 1) r
def givenD (c : DConn) : List Int := c.inn.1.take c.given.toNat
def gotF : List DConn → List (List Int) → Bool
  | c :: r, g :: s => eqS g (givenD c) && gotF r s
  | _, _ => true
def worldF : DWorld → Int
  | (now, sides, net, got, ended, _) => if inD now 0 100000 = false then 3 else if sides.length ≠ 2 then 1 else if got.length ≠ 2 then 1 else if ended.length ≠ 2 then 1 else if cfsF sides ≠ 0 then cfsF sides else if sdF 0 sides = false then 1 else if netF net.1 net.2.1 ≠ 0 then netF net.1 net.2.1 else if gotF sides got = false then 1 else 0
theorem cfs_drop {l : List DConn} {k : Nat} (hk : k < l.length) : cfsF (l.drop k) = if connF l[k] ≠ 0 then connF l[k] else cfsF (l.drop (k + 1)) := by
  rw [List.drop_eq_getElem_cons hk]; rfl
theorem cfs_end {l : List DConn} {k : Nat} (hk : l.length ≤ k) : cfsF (l.drop k) = 0 := by rw [List.drop_of_length_le hk]; rfl
theorem cfs_at : ∀ {l : List DConn}, cfsF l = 0 → ∀ k (hk : k < l.length), connF l[k] = 0
  | [], _, k, hk => by simp at hk
  | c :: r, h, k, hk => by
    unfold cfsF at h
    by_cases hc : connF c = 0
    · rw [if_neg (by simp [hc])] at h
      cases k with
      | zero => exact hc
      | succ k => exact cfs_at h k (by simpa using hk)
    · rw [if_pos hc] at h; exact absurd h hc
theorem sd_drop {l : List DConn} {k : Nat} (hk : k < l.length) : sdF k (l.drop k) = (decide (l[k].side = (k : Int)) && sdF ((k + 1 : Nat) : Int) (l.drop (k + 1))) := by
  rw [List.drop_eq_getElem_cons hk]; rfl
theorem sd_end {l : List DConn} {k : Nat} {i : Int} (hk : l.length ≤ k) : sdF i (l.drop k) = true := by rw [List.drop_of_length_le hk]; rfl
theorem got_drop {l : List DConn} {g : List (List Int)} {k : Nat} (hk : k < l.length) (hg : k < g.length) : gotF (l.drop k) (g.drop k) = (eqS g[k] (givenD l[k]) && gotF (l.drop (k + 1)) (g.drop (k + 1))) := by
  rw [List.drop_eq_getElem_cons hk, List.drop_eq_getElem_cons hg]; rfl
theorem got_end {l : List DConn} {g : List (List Int)} {k : Nat} (hk : l.length ≤ k) : gotF (l.drop k) (g.drop k) = true := by rw [List.drop_of_length_le hk]; rfl
theorem conns_at {w : World} {B : Nat} {l : List DConn} {a : Option Addr} {n cap : Nat} (h : shConns.Rd w B l [.slice a n cap]) (hl : l ≠ []) : ∃ b off, a = some ⟨b, off, none⟩ ∧ b < B ∧ ∀ k (hk : k < l.length), ∃ A : Array Value, w.rangeAt b (off + k * 14) A.toList ∧ shConn.Rd w B l[k] A.toList := by
  obtain ⟨b, off, cs, ha, hb, -⟩ := row_at h 0 (List.length_pos_iff.2 hl)
  refine ⟨b, off, ha, hb, fun k hk => ?_⟩
  obtain ⟨b', off', cs', ha', hb', hlen', hrg', r'⟩ := row_at h k hk
  rw [ha] at ha'
  simp only [Option.some.injEq, Addr.mk.injEq, and_true] at ha'
  obtain ⟨rfl, rfl⟩ := ha'
  exact ⟨cs'.toArray, hrg', r'⟩
theorem rb_pre {w : World} {a : Option Addr} {l : List Int} (h : RB w a l) (n : Nat) : RB w a (l.take n) := by
  refine ⟨fun x hx => h.bd x (List.mem_of_mem_take hx), ?_⟩
  rcases h.mem with e | ⟨b, off, e, hc⟩
  · subst e; simp
  · refine Or.inr ⟨b, off, e, fun i hi => ?_⟩
    have hi2 : i < n ∧ i < l.length := by simp at hi; omega
    rw [hc i hi2.2, List.getD_eq_getElem?_getD, List.getD_eq_getElem?_getD, List.getElem?_take_of_lt hi2.1]
/-- What is asked of an element of the conns: the cells that are read of it. -/
theorem conn_cells {w : World} {B : Nat} {c : DConn} {A : Array Value} {cb of : Nat} (h : ConnAt w B c A cb of) : w.cell? ⟨cb, of, none⟩ = some (.int .i64 c.side) ∧ (∃ a9 c9, w.cell? ⟨cb, of + 9, none⟩ = some (.slice a9 c.inn.1.length c9) ∧ u8s.Rd w B c.inn.1 [.slice a9 c.inn.1.length c9]) ∧ w.cell? ⟨cb, of + 12, none⟩ = some (.int .i64 c.given) := by
  obtain ⟨y0, y1, y2, y3, y4, d5, y6, y7, y8, ⟨dn, ps, ⟨⟩⟩, y10, y11, l, ⟨⟩⟩ := c
  obtain ⟨a5, c5, a9, c9, a9', c9', a12, c12, eA, -, r9, -, -⟩ := rd_Conn h.rd
  have hg := h.at_
  rw [eA] at hg
  obtain ⟨x1, x2, x3, x4, e9, q1, -⟩ := rd_gt r9
  simp only [List.cons.injEq, and_true, Value.slice.injEq] at e9
  obtain ⟨⟨rfl, -, rfl⟩, -⟩ := e9
  exact ⟨hg 0 _ rfl, ⟨a9, c9, hg 9 _ rfl, q1⟩, hg 12 _ rfl⟩
end Go.Proofs.YtfpemobkkfobkaaGreatDoor
