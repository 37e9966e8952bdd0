/- walks: cmp.Compare, cmp.Or, number.Within, package vec's Compare and better -/
import Derived.Test.YtcbpafpaimpfnaaGreatDoorVB
import Derived.Test.YtcbpafpaimpfnaaGreatDoorHT
import Derived.Test.YtcbpafpaimpfnaaGreatDoorKC
namespace Go.Proofs.YtcbpafpaimpfnaaGreatDoor
open Go.RowKit
open Vc (V Of)

/-- The four signs, one behind the other. -/
def sg4 (a b : V) (i : Nat) : Int := if i = 0 then sg a.root b.root else if i = 1 then sg a.cost b.cost else if i = 2 then sg a.bridge b.bridge else sg a.port b.port
theorem orTo_sg4 (a b : V) : orTo (sg4 a b) 4 = Vc.cmp a b := by
  have e : orTo (sg4 a b) 4 = if sg a.root b.root = 0 then (if sg a.cost b.cost = 0 then (if sg a.bridge b.bridge = 0 then sg a.port b.port else sg a.bridge b.bridge) else sg a.cost b.cost) else sg a.root b.root := by
    have e1 : orTo (sg4 a b) 1 = sg a.root b.root := by simp [orTo, sg4]
    have e2 : orTo (sg4 a b) 2 = if sg a.root b.root = 0 then sg a.cost b.cost else sg a.root b.root := by
      show (if orTo (sg4 a b) 1 = 0 then sg4 a b 1 else orTo (sg4 a b) 1) = _
      rw [e1]; rfl
    have e3 : orTo (sg4 a b) 3 = if sg a.root b.root = 0 then (if sg a.cost b.cost = 0 then sg a.bridge b.bridge else sg a.cost b.cost) else sg a.root b.root := by
      show (if orTo (sg4 a b) 2 = 0 then sg4 a b 2 else orTo (sg4 a b) 2) = _
      rw [e2]
      by_cases h : sg a.root b.root = 0
      · rw [if_pos h, if_pos h]; rfl
      · rw [if_neg h, if_neg h, if_neg h]
    show (if orTo (sg4 a b) 3 = 0 then sg4 a b 3 else orTo (sg4 a b) 3) = _
    rw [e3]
    by_cases h : sg a.root b.root = 0
    · rw [if_pos h, if_pos h]
      by_cases h2 : sg a.cost b.cost = 0
      · rw [if_pos h2, if_pos h2]; rfl
      · rw [if_neg h2, if_neg h2, if_neg h2]
    · rw [if_neg h, if_neg h, if_neg h]
  rw [e]
  simp only [sg_zero]
  have L : Vc.lt a b → Vc.cmp a b = -1 := fun h => if_pos h
  have G : Vc.lt b a → Vc.cmp a b = 1 := fun h => by unfold Vc.cmp; rw [if_neg (Vc.lt_asymm h), if_pos h]
  have Z : a = b → Vc.cmp a b = 0 := fun h => Vc.cmp_zero.2 h
  unfold sg
  by_cases h0 : a.root = b.root
  · rw [if_pos h0]
    by_cases h1 : a.cost = b.cost
    · rw [if_pos h1]
      by_cases h2 : a.bridge = b.bridge
      · rw [if_pos h2]
        by_cases h3 : a.port < b.port
        · rw [if_pos h3, L (by unfold Vc.lt; omega)]
        · rw [if_neg h3]
          by_cases h4 : b.port < a.port
          · rw [if_pos h4, G (by unfold Vc.lt; omega)]
          · rw [if_neg h4, Z (Vc.V.eq h0 h1 h2 (by omega))]
      · rw [if_neg h2]
        by_cases h3 : a.bridge < b.bridge
        · rw [if_pos h3, L (by unfold Vc.lt; omega)]
        · rw [if_neg h3, if_pos (by omega), G (by unfold Vc.lt; omega)]
    · rw [if_neg h1]
      by_cases h3 : a.cost < b.cost
      · rw [if_pos h3, L (by unfold Vc.lt; omega)]
      · rw [if_neg h3, if_pos (by omega), G (by unfold Vc.lt; omega)]
  · rw [if_neg h0]
    by_cases h3 : a.root < b.root
    · rw [if_pos h3, L (by unfold Vc.lt; omega)]
    · rw [if_neg h3, if_pos (by omega), G (by unfold Vc.lt; omega)]
end Go.Proofs.YtcbpafpaimpfnaaGreatDoor
