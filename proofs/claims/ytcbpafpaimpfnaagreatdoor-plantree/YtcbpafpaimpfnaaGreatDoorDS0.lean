/- What strings of bytes are to each other -/
import Derived.Test.YtcbpafpaimpfnaaGreatDoorG
namespace Go.Proofs.YtcbpafpaimpfnaaGreatDoor
open Go.RowKit

theorem push_fold (l : List Int) : ∀ a : ByteArray, (l.foldl (fun r n => r.push (UInt8.ofNat n.toNat)) a).data.toList = a.data.toList ++ l.map (fun n => UInt8.ofNat n.toNat) := by
  induction l with
  | nil => intro a; simp
  | cons x l ih =>
    intro a
    rw [List.foldl_cons, ih]
    simp [ByteArray.push]
theorem strOf_list (n : Nat) (bs : Nat → Int) : (strOf n bs).data.toList = (List.range n).map (fun i => UInt8.ofNat (bs i).toNat) := by
  unfold strOf
  rw [push_fold]
  simp
/-- STRINGS OF BYTES ARE THE SAME JUST IF THEIR BYTES ARE. -/
theorem strOf_inj (n m : Nat) (f g : Nat → Int) (hf : ∀ i, i < n → 0 ≤ f i ∧ f i ≤ 255) (hg : ∀ i, i < m → 0 ≤ g i ∧ g i ≤ 255) : strOf n f = strOf m g ↔ n = m ∧ ∀ i, i < n → f i = g i := by
  constructor
  · intro h
    have hl : (List.range n).map (fun i => UInt8.ofNat (f i).toNat) = (List.range m).map (fun i => UInt8.ofNat (g i).toNat) := by rw [← strOf_list, ← strOf_list, h]
    have hn : n = m := by simpa using congrArg List.length hl
    subst hn
    refine ⟨rfl, fun i hi => ?_⟩
    have h1 := congrArg (fun l => l[i]?) hl
    simp [hi] at h1
    have h2 := congrArg UInt8.toNat h1
    have r1 := hf i hi
    have r2 := hg i hi
    simp only [UInt8.toNat_ofNat'] at h2
    omega
  · rintro ⟨rfl, h⟩
    exact strOf_congr n f g h
end Go.Proofs.YtcbpafpaimpfnaaGreatDoor
