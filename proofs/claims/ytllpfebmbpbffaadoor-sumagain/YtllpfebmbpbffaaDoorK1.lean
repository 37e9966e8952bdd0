/- Closed facts, by the kernel: the digests that RFC 1321 and RFC 2104 list. -/
import Derived.Test.YtllpfebmbpbffaaDoorW7
import Derived.Test.YtllpfebmbpbffaaDoorW12
namespace Go.Proofs.YtllpfebmbpbffaaDoor
def strAt (l : List UInt8) (i : Nat) : Int := ((l.getD i 0).toNat : Int)
def hexOf (l : List UInt8) : ByteArray := ⟨l.toArray⟩
def abcHex : List UInt8 := [57, 48, 48, 49, 53, 48, 57, 56, 51, 99, 100, 50, 52, 102, 98, 48, 100, 54, 57, 54, 51, 102, 55, 100, 50, 56, 101, 49, 55, 102, 55, 50]
theorem abc_known : ∀ i, i < 16 → Md.dg (Md.fin Md.st0 0 3 (strAt [97, 98, 99])) i = hx (hexOf abcHex) i := by decide +kernel
end Go.Proofs.YtllpfebmbpbffaaDoor
