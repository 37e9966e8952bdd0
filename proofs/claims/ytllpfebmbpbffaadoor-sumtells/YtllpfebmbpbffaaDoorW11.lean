/- walks: Same -/
import Derived.Test.YtllpfebmbpbffaaDoorW10
namespace Go.Proofs.YtllpfebmbpbffaaDoor
open Go.RowKit

def strOf (n : Nat) (bs : Nat → Int) : ByteArray := ((List.range n).map bs).foldl (fun r n => r.push (UInt8.ofNat n.toNat)) ByteArray.empty
theorem strOf_congr (n : Nat) (f g : Nat → Int) (h : ∀ i, i < n → f i = g i) : strOf n f = strOf n g := by
  unfold strOf
  rw [List.map_congr_left (fun i hi => h i (by simpa using hi))]

theorem run_str (w : World) (ao : Option Addr) (n cap : Nat) (bs : Nat → Int) (hr : ByteRow w ao n cap bs) (hn : 0 < n) :
    (convert 22 9 (.slice ao n cap)).run Tryd.prog w = .ok (.string (strOf n bs)) w := by
  obtain ⟨b, off, rfl, _, hc⟩ := hr.2 hn
  rw [run_convert_bytes_string w 22 9 5 _ _ _ Tryd.underlying22 Tryd.underlying5 Tryd.underlying9]
  unfold strOf
  apply run_bytesToString
  have := run_loadCells_list (P := Tryd.prog) w ⟨b, off, none⟩ (((List.range n).map bs).map (Value.int .u8)) (fun j v hj => by
    have hadd : (⟨b, off, none⟩ : Addr).add j = ⟨b, off + j, none⟩ := by unfold Addr.add; split <;> simp_all
    have hjn : j < n := by
      have := (List.getElem?_eq_some_iff.1 hj).1
      simpa using this
    rw [hadd, hc j hjn]
    simp [hjn] at hj
    rw [← hj])
  simpa using this

set_option maxHeartbeats 1000000 in
theorem same_any (ao co : Option Addr) (n cap m cap2 : Nat) (bs cs : Nat → Int) (w : World) (hr : ByteRow w ao n cap bs) (hs : ByteRow w co m cap2 cs) (hn : 0 < n) (hm : n = m) (he : ∀ i, i < n → bs i = cs i) :
    Calls Tryd.prog 7 #[.slice ao n cap, .slice co m cap2] w fun e w' => e = .returned (.bool true) ∧ w' = w := by
  subst hm
  have h1 := run_str w ao n cap bs hr hn
  have h2 := run_str w co n cap2 cs hs hn
  rw [← strOf_congr n bs cs he] at h2
  clear hr hs he
  generalize strOf n bs = S at *
  go_enter Tryd.func7, Tryd.ntmps7
  go_wp2
  go_ret
  exact ⟨by simp, rfl⟩
end Go.Proofs.YtllpfebmbpbffaaDoor
