/- What the model answers of a sender: its fault, what is on its way, the number of a place, a new one; nothing that was in memory turns; no condition but that loads are of at most a million bytes. -/
import Derived.Test.YtlicopeejphgaaoRows
import Derived.Test.YtlicopeejphgaaoBase
import Derived.Test.YtlicopeejphgaaoNum
import Derived.Test.YtlicopeejphgaaoNumWalks
import Derived.Test.YtlicopeejphgaaoMem
import Derived.Test.YtlicopeejphgaaoHBase
import Derived.Test.YtlicopeejphgaaoHFlight
import Derived.Test.YtlicopeejphgaaoHSender
import Derived.Test.YtlicopeejphgaaoFlightDef
import Derived.Test.YtlicopeejphgaaoSpecFlight
import Derived.Test.YtlicopeejphgaaoBox
namespace Go.Proofs.Ytlicopeejphgaao
open Go.RowKit
set_option linter.unusedVariables false

/-- Of a sender in a box that was just made. -/
theorem sL5Box (x : DSender) (a : Option Addr) (n cap : Nat) (w w0 : World) (t : TypeId) (B : Nat) (hn : x.2.2.2.1.length = n) (hr : shFlights.Rd w B x.2.2.2.1 [.slice a n cap]) (hB : B ≤ w.heap.size) (hT : totSender x ≤ 1048576) (sb : Nat)
    (hc : ∀ o, w.cell? ⟨sb, o, none⟩ = (#[.int .i64 x.1, .int .i64 x.2.1, .int .i64 x.2.2.1, .slice a n cap] : Array Value)[o]?) :
    Calls Try.prog 74 #[.pointer (some ⟨sb, 0, none⟩)] w fun e w' => e = .returned (.int .i64 (sndFault x)) ∧ Below w.heap.size w w' :=
  sL5Fault x a n cap sb w B hn (hc 0) (hc 1) (hc 2) (hc 3) hr hB (fun k hk => by have h : x.2.2.2.1[k].2.2.1.length ≤ fsum totFlight x.2.2.2.1 := fsum_at totFlight hk; unfold totSender totFlights at hT; omega)
end Go.Proofs.Ytlicopeejphgaao
