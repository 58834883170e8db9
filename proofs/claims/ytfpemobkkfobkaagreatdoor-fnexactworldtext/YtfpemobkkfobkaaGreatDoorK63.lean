/- A world as a parameter, opened; no condition. -/
import Derived.Test.YtfpemobkkfobkaaGreatDoorRows
import Derived.Test.YtfpemobkkfobkaaGreatDoorK01
import Derived.Test.YtfpemobkkfobkaaGreatDoorK02
import Derived.Test.YtfpemobkkfobkaaGreatDoorK04
import Derived.Test.YtfpemobkkfobkaaGreatDoorK11
import Derived.Test.YtfpemobkkfobkaaGreatDoorK14
import Derived.Test.YtfpemobkkfobkaaGreatDoorK57
import Derived.Test.YtfpemobkkfobkaaGreatDoorK58
import Derived.Test.YtfpemobkkfobkaaGreatDoorK59
namespace Go.Proofs.YtfpemobkkfobkaaGreatDoor
open Go.RowKit Go.ChangeShapes Go.WideShapes Go.ChangeAt
set_option linter.unusedVariables false
set_option maxRecDepth 8000

theorem fits_World : shWorld.fits Tryz.prog (.inl 29) :=
  ⟨_, _, Tryz.underlying29, by kernel_rfl, rfl, by kernel_rfl, Tryz.underlying2, rfl, by kernel_rfl, ⟨_, Tryz.underlying22, by kernel_rfl, by decide, fits_Conn⟩, rfl, by kernel_rfl, fits_Net, rfl, by kernel_rfl, ⟨_, Tryz.underlying27, by kernel_rfl, by decide, fits_u8⟩, rfl, by kernel_rfl, ⟨_, Tryz.underlying24, by kernel_rfl, by decide, Tryz.underlying4⟩, trivial⟩
theorem open_World {H : Type} {enc : TypeId × Value → H} {w : World} {base : Nat} {v : Value} (o : Value.okWide Tryz.prog w .any base 29 v) (hx : ∃ n y, DataW.trod enc Tryz.prog w 0 (fun _ => true) true n 29 v.cells.toList = some y) :
    ∃ (g : DWorld) (A : Array Value), v = .agg A ∧ shWorld.Rd w w.heap.size g A.toList := by
  obtain ⟨cs, rfl⟩ := val_agg Tryz.underlying29 o
  obtain ⟨g, hd⟩ := (open_sh (enc := enc) (P := Tryz.prog) (w := w) shWorld).1 _ _ fits_World hx
  exact ⟨g, cs, rfl, hd⟩
end Go.Proofs.YtfpemobkkfobkaaGreatDoor
