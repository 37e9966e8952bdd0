/- walks: SumKeys -/
import Derived.Test.YtllpfebmbpbffaaDoorW14
import Derived.Test.YtllpfebmbpbffaaDoorZ1
import Derived.Laws.AppendOwnNone
namespace Go.Proofs.YtllpfebmbpbffaaDoor
open Go.RowKit

theorem kb_more (kn more : Nat) (kbs : Nat → Int) (h : kn + more ≤ 64) : Md.kb (kn + more) (fun i => if i < kn then kbs i else 0) = Md.kb kn kbs := by
  funext i
  unfold Md.kb
  rw [if_pos h, if_pos (show kn ≤ 64 by omega)]
  by_cases h1 : i < kn
  · simp [h1, show i < kn + more by omega]
  · simp [h1]
theorem kb_long (kn : Nat) (kbs : Nat → Int) (h : 64 < kn) : Md.kb 16 (Md.dg (Md.fin Md.st0 0 kn kbs)) = Md.kb kn kbs := by
  funext i
  unfold Md.kb
  rw [if_pos (show 16 ≤ 64 by omega), if_neg (show ¬ kn ≤ 64 by omega)]
theorem mac_more (kn more : Nat) (kbs : Nat → Int) (n : Nat) (bs : Nat → Int) (h : kn + more ≤ 64) : Md.mac (kn + more) (fun i => if i < kn then kbs i else 0) n bs = Md.mac kn kbs n bs := by
  unfold Md.mac
  rw [kb_more kn more kbs h]
theorem mac_long (kn : Nat) (kbs : Nat → Int) (n : Nat) (bs : Nat → Int) (h : 64 < kn) : Md.mac 16 (Md.dg (Md.fin Md.st0 0 kn kbs)) n bs = Md.mac kn kbs n bs := by
  unfold Md.mac
  rw [kb_long kn kbs h]

set_option maxHeartbeats 2000000 in
theorem keys_out (ko ao : Option Addr) (kn kcap n cap : Nat) (more : Int) (w : World) (ht : Tabs w) (hm : more < 0 ∨ (0 ≤ more ∧ 64 < more)) :
    Calls Tryd.prog 5 #[.slice ko kn kcap, .int .i64 more, .slice ao n cap] w fun e w' => e = .returned (.bool true) ∧ Below w.heap.size w w' := by
  have HT : Hid _ := ht
  clear ht
  rcases hm with hm | ⟨hm1, hm⟩
  all_goals
    go_enter Tryd.func5, Tryd.ntmps5
    go_wp2_with fail
    refine (alive_any _ HT.out).mono ?_
    rintro e w1 ⟨rfl, hb1⟩
    have HB1 : Hid (Below w.heap.size w w1) := hb1
    clear hb1
    go_wp2
    go_ret
    exact ⟨rfl, HB1.out⟩

set_option maxHeartbeats 2000000 in
theorem keys_long (ko ao : Option Addr) (kn kcap n cap : Nat) (more : Int) (kbs bs : Nat → Int) (w : World) (ht : Tabs w) (hkc : kn ≤ 140737488351232) (hc : n ≤ 140737488351232) (hk : ByteRow w ko kn kcap kbs) (hr : ByteRow w ao n cap bs) (hm0 : 0 ≤ more) (hm1 : more ≤ 64) (hl : 64 < (kn : Int) + more) :
    Calls Tryd.prog 5 #[.slice ko kn kcap, .int .i64 more, .slice ao n cap] w fun e w' => e = .returned (.bool true) ∧ Below w.heap.size w w' := by
  have HT : Hid _ := ht
  have HR : Hid (ByteRow w ao n cap bs) := hr
  have HK : Hid (ByteRow w ko kn kcap kbs) := hk
  have hbt := ht.lt
  clear ht hr hk
  by_cases hs : kn ≤ 64
  · have hd : decide ((kn : Int) ≤ 64) = true := by simp; omega
    go_enter Tryd.func5, Tryd.ntmps5
    go_wp2_with fail
    refine (alive_any _ HT.out).mono ?_
    rintro e w1 ⟨rfl, hb1⟩
    have HB1 : Hid (Below w.heap.size w w1) := hb1
    clear hb1
    go_wp2_with fail
    go_ret
    exact ⟨rfl, HB1.out⟩
  · have hd : decide ((kn : Int) ≤ 64) = false := by simp; omega
    go_enter Tryd.func5, Tryd.ntmps5
    go_wp2_with fail
    refine (alive_any _ HT.out).mono ?_
    rintro e w1 ⟨rfl, hb1⟩
    have HB1 : Hid (Below w.heap.size w w1) := hb1
    clear hb1
    go_wp2_with fail
    refine (mac_any ko ao kn kcap n cap kbs bs _ (HT.out.below HB1.out (by omega)) hkc hc (HK.out.below HB1.out) (HR.out.below HB1.out)).mono ?_
    rintro e w2 ⟨g2, rfl, hg2, hrow2, hb2⟩
    have HB2 : Hid (Below w.heap.size w w2) := HB1.out.trans (hb2.mono HB1.out.size)
    have HX2 : Hid (RowAt w2 g2 (Md.dg (Md.mac kn kbs n bs))) := RowAt.of_rowB hrow2
    clear hg2 hrow2 hb2 HB1
    go_wp2_with fail
    refine (sum_any ko kn kcap kbs _ (HT.out.below HB2.out (by omega)) hkc (HK.out.below HB2.out)).mono ?_
    rintro e w3 ⟨g3, rfl, hg3, hrow3, hb3⟩
    have HB3 : Hid (Below w.heap.size w w3) := HB2.out.trans (hb3.mono HB2.out.size)
    have HX3 : Hid (RowAt w3 g2 (Md.dg (Md.mac kn kbs n bs))) := HX2.out.other (hb3.block _ HX2.out.lt)
    have HS3 : Hid (ByteRow w3 (some ⟨g3, 0, none⟩) 16 16 (Md.dg (Md.fin Md.st0 0 kn kbs))) := sumRow hrow3
    clear hg3 hrow3 hb3 HB2 HX2
    go_wp2_with fail
    refine (mac_any _ ao 16 16 n cap _ bs _ (HT.out.below HB3.out (by omega)) (by omega) hc HS3.out (HR.out.below HB3.out)).mono ?_
    rw [mac_long kn kbs n bs (by omega)]
    rintro e w4 ⟨g4, rfl, hg4, hrow4, hb4⟩
    have HB4 : Hid (Below w.heap.size w w4) := HB3.out.trans (hb4.mono HB3.out.size)
    have HX4 : Hid (RowAt w4 g2 (Md.dg (Md.mac kn kbs n bs))) := HX3.out.other (hb4.block _ HX3.out.lt)
    have HS4 : Hid (ByteRow w4 (some ⟨g4, 0, none⟩) 16 16 (Md.dg (Md.mac kn kbs n bs))) := sumRow hrow4
    clear hg4 hrow4 hb4 HB3 HX3 HS3
    go_wp2_with fail
    refine (same_any _ _ 16 16 16 16 _ _ _ (HX4.out.bytes (Nat.le_refl _)) HS4.out (by omega) rfl (fun _ _ => rfl)).mono ?_
    rintro e w5 ⟨rfl, hw5⟩
    subst hw5
    go_wp2
    go_ret
    exact ⟨rfl, HB4.out⟩
end Go.Proofs.YtllpfebmbpbffaaDoor
