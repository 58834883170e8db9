/- What is said of a conn, in plain words: its fault; no condition. -/
import Derived.Test.YtbdibjeemgkdaaaRows
import Derived.Test.YtbdibjeemgkdaaaBase
import Derived.Test.YtbdibjeemgkdaaaMem
import Derived.Test.YtbdibjeemgkdaaaHBase
import Derived.Test.YtbdibjeemgkdaaaHFlight
import Derived.Test.YtbdibjeemgkdaaaHSender
import Derived.Test.YtbdibjeemgkdaaaHSpan
import Derived.Test.YtbdibjeemgkdaaaHCatch
import Derived.Test.YtbdibjeemgkdaaaFlightDef
import Derived.Test.YtbdibjeemgkdaaaCatDef
import Derived.Test.YtbdibjeemgkdaaaCtrl
import Derived.Test.YtbdibjeemgkdaaaHSub
import Derived.Test.YtbdibjeemgkdaaaSubDef
import Derived.Test.YtbdibjeemgkdaaaHSubA
import Derived.Test.YtbdibjeemgkdaaaHSubs
import Derived.Test.YtbdibjeemgkdaaaGath
import Derived.Test.YtbdibjeemgkdaaaGathLaw
import Derived.Test.YtbdibjeemgkdaaaHConn
namespace Go.Proofs.Ytbdibjeemgkdaaa
open Go.RowKit
set_option linter.unusedVariables false
set_option maxRecDepth 8000

abbrev DConn.side (c : DConn) : Int := c.1
abbrev DConn.key (c : DConn) : Int := c.2.1
abbrev DConn.peer (c : DConn) : Int := c.2.2.1
abbrev DConn.plain (c : DConn) : Bool := c.2.2.2.1
abbrev DConn.free (c : DConn) : Bool := c.2.2.2.2.1
abbrev DConn.wrote (c : DConn) : List Int := c.2.2.2.2.2.1
abbrev DConn.fin (c : DConn) : Bool := c.2.2.2.2.2.2.1
abbrev DConn.acked (c : DConn) : Int := c.2.2.2.2.2.2.2.1
abbrev DConn.finDone (c : DConn) : Bool := c.2.2.2.2.2.2.2.2.1
abbrev DConn.inn (c : DConn) : Gt := c.2.2.2.2.2.2.2.2.2.1
abbrev DConn.finIn (c : DConn) : Int := c.2.2.2.2.2.2.2.2.2.2.1
abbrev DConn.given (c : DConn) : Int := c.2.2.2.2.2.2.2.2.2.2.2.1
abbrev DConn.subs (c : DConn) : List DSub := c.2.2.2.2.2.2.2.2.2.2.2.2.1

def keyD (k : Int) : Bool := inD k 1 999999
def keysD (c : DConn) : Bool := inD c.side 0 1 && keyD c.key && (decide (c.peer = 0) || keyD c.peer)
def outBad (c : DConn) : Bool := c.finDone && (!c.fin || !decide (c.acked = (c.wrote.length : Int)))
/-- No byte lies behind the end. -/
def endsD (F : Int) (g : Gt) : Bool := decide (F < 0) || (decide ((g.1.length : Int) ≤ F) && g.2.1.all fun p => decide (p.1 + (p.2.1.length : Int) ≤ F))
/-- The fault of the subs behind those that stand ahead. -/
def subsFrom : List DSub → List DSub → Int
  | _, [] => 0
  | pre, x :: xs => if subF x ≠ 0 then subF x else if (pre.any fun y => decide (y.1 = x.1)) = true then 7 else if x.2.2.1 ≠ decide (0 < pre.length) then 1 else subsFrom (pre ++ [x]) xs
def subsF (l : List DSub) : Int := subsFrom [] l
theorem subs_at {l : List DSub} {k : Nat} (hk : k < l.length) : subsFrom (l.take k) (l.drop k) = if subF l[k] ≠ 0 then subF l[k] else if ((l.take k).any fun y => decide (y.1 = l[k].1)) = true then 7 else if l[k].2.2.1 ≠ decide (0 < k) then 1 else subsFrom (l.take (k + 1)) (l.drop (k + 1)) := by
  have h : (l.take k).length = k := by rw [List.length_take]; omega
  rw [List.drop_eq_getElem_cons hk, subsFrom, h, List.take_succ_eq_append_getElem hk]
theorem subs_end {l : List DSub} : subsFrom (l.take l.length) (l.drop l.length) = 0 := by rw [List.drop_length]; rfl
def formD (c : DConn) : Bool := (decide (1 < c.subs.length) && (c.plain || decide ((c.subs.head?.map fun x => x.2.1) = some 1))) || (c.free && decide (c.subs.length < 2))
def strD (s : Int) (l : List DSub) : Bool := l.any fun x => decide (x.2.1 = 2 - s)
def connF (c : DConn) : Int :=
  if keysD c = false then 3 else if 300 < c.wrote.length then 2 else if inD c.acked 0 c.wrote.length = false then 3 else if outBad c = true then 1 else if gtFault c.inn ≠ 0 then gtFault c.inn
  else if (inD c.finIn (-1) 400 && inD c.given 0 c.inn.1.length) = false then 3 else if endsD c.finIn c.inn = false then 1 else if subsF c.subs ≠ 0 then subsF c.subs else if formD c = true then 1 else if strD c.side c.subs = true then 1 else 0
/-- A conn without a fault: what that says. -/
theorem conn_ok {c : DConn} (h : connF c = 0) : keysD c = true ∧ c.wrote.length ≤ 300 ∧ inD c.acked 0 c.wrote.length = true ∧ outBad c = false ∧ gtFault c.inn = 0 ∧ inD c.finIn (-1) 400 = true ∧ inD c.given 0 c.inn.1.length = true ∧ endsD c.finIn c.inn = true ∧ subsF c.subs = 0 ∧ formD c = false ∧ strD c.side c.subs = false := by
  unfold connF at h
  split at h
  · cases h
  rename_i h1
  split at h
  · cases h
  rename_i h2
  split at h
  · cases h
  rename_i h3
  split at h
  · cases h
  rename_i h4
  split at h
  · rename_i h5; exact absurd h h5
  rename_i h5
  split at h
  · cases h
  rename_i h6
  split at h
  · cases h
  rename_i h7
  split at h
  · rename_i h8; exact absurd h h8
  rename_i h8
  split at h
  · cases h
  rename_i h9
  split at h
  · cases h
  rename_i h10
  have h6' : inD c.finIn (-1) 400 = true ∧ inD c.given 0 c.inn.1.length = true := by simpa using h6
  exact ⟨by simpa using h1, by omega, by simpa using h3, by simpa using h4, by simpa using h5, h6'.1, h6'.2, by simpa using h7, by simpa using h8, by simpa using h9, by simpa using h10⟩
theorem pcs_in : ∀ {e : Int} {ps : List Pc}, pcsFault e ps = 0 → ∀ p ∈ ps, 0 < p.2.1.length ∧ 0 ≤ p.1 ∧ p.1 + p.2.1.length ≤ 400
  | _, [], _, _, hp => by cases hp
  | e, q :: ps, h, p, hp => by
    unfold pcsFault at h
    split at h
    · rename_i h0; exact absurd h h0
    rename_i h0
    have h0' : pcFault q.1 q.2.1.length e = 0 := by simpa using h0
    rcases List.mem_cons.1 hp with rfl | hp
    · have := pcFault_ok h0'; exact ⟨this.1, this.2.1, this.2.2.1⟩
    · exact pcs_in h p hp
theorem gt_in {g : Gt} (h : gtFault g = 0) : g.1.length ≤ 400 ∧ g.2.1.length ≤ 40 ∧ ∀ p ∈ g.2.1, 0 < p.2.1.length ∧ 0 ≤ p.1 ∧ p.1 + p.2.1.length ≤ 400 := by
  unfold gtFault at h
  split at h
  · cases h
  · rename_i h0
    exact ⟨by omega, by omega, pcs_in h⟩
end Go.Proofs.Ytbdibjeemgkdaaa
