/-
  What is handed back where a frame is read.
-/
import Derived.Test.YtpenhliaelhnoaaGreatDoorVbFrH
import Derived.Test.YtpenhliaelhnoaaGreatDoorVbFrM
import Derived.Test.YtpenhliaelhnoaaGreatDoorVbFrPut
import Derived.Test.YtpenhliaelhnoaaGreatDoorVbGz10
import Derived.Test.YtpenhliaelhnoaaGreatDoorVbGz12
import Derived.Test.YtpenhliaelhnoaaGreatDoorVbGz8
import Derived.Test.YtpenhliaelhnoaaGreatDoorVbGz3
set_option linter.unusedVariables false
set_option maxRecDepth 100000
namespace Go.Proofs.YtpenhliaelhnoaaGreatDoor.FrGet
open Go.RowKit Mem App Get Blk Words Zone Res FrZ FrP FrB FrG Each Copy Ops Same Cuts

def SN : FrS := ⟨⟨none, 0, 0⟩, ⟨none, 0, 0⟩, ⟨none, 0, 0⟩, ⟨none, 0, 0⟩, ⟨none, 0, 0⟩, ⟨none, 0, 0⟩⟩
theorem own_nil (w : World) (lo hi : Nat) : FrOwn w lo hi SN zeroF := ⟨SOwn.nil _ _ _, SOwn.nil _ _ _, SOwn.nil _ _ _, SOwn.nil _ _ _, SOwn.nil _ _ _, SOwn.nil _ _ _, ⟨.inl rfl, .inl rfl, .inl rfl, .inl rfl, .inl rfl, .inl rfl, .inl rfl, .inl rfl, .inl rfl, .inl rfl, .inl rfl, .inl rfl, .inl rfl, .inl rfl, .inl rfl⟩⟩
end Go.Proofs.YtpenhliaelhnoaaGreatDoor.FrGet
