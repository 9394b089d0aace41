/-
  What is handed back where a frame is read.
-/
import Derived.Test.YtpenhliaelhnoaaGreatDoorVaFrH
import Derived.Test.YtpenhliaelhnoaaGreatDoorVaFrM
import Derived.Test.YtpenhliaelhnoaaGreatDoorVaFrPut
import Derived.Test.YtpenhliaelhnoaaGreatDoorVaGz10
import Derived.Test.YtpenhliaelhnoaaGreatDoorVaGz12
import Derived.Test.YtpenhliaelhnoaaGreatDoorVaGz8
import Derived.Test.YtpenhliaelhnoaaGreatDoorVaGz3
set_option linter.unusedVariables false
set_option maxRecDepth 100000
namespace Go.Proofs.YtpenhliaelhnoaaGreatDoor.FrGet
open Go.RowKit Mem App Get Blk Words Zone Res FrZ FrP FrB FrG FrM Each Copy Ops Same Cuts

def SN : FrS := ⟨⟨none, 0, 0⟩, ⟨none, 0, 0⟩, ⟨none, 0, 0⟩, ⟨none, 0, 0⟩, ⟨none, 0, 0⟩, ⟨none, 0, 0⟩⟩
theorem own_nil (w : World) (lo hi : Nat) : FrOwn w lo hi SN zeroF := ⟨SOwn.nil _ _ _, SOwn.nil _ _ _, SOwn.nil _ _ _, SOwn.nil _ _ _, SOwn.nil _ _ _, SOwn.nil _ _ _, ⟨.inl rfl, .inl rfl, .inl rfl, .inl rfl, .inl rfl, .inl rfl, .inl rfl, .inl rfl, .inl rfl, .inl rfl, .inl rfl, .inl rfl, .inl rfl, .inl rfl, .inl rfl⟩⟩
end Go.Proofs.YtpenhliaelhnoaaGreatDoor.FrGet
