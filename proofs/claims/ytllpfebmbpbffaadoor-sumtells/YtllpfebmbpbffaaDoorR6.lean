/- walks: SumTells -/
import Derived.Test.YtllpfebmbpbffaaDoorR5
namespace Go.Proofs.YtllpfebmbpbffaaDoor
open Go.RowKit

theorem rmac_any (ko ao : Option Addr) (kn kcap n cap : Nat) (kbs bs : Nat → Int) (w : World) (hk : ByteRow w ko kn kcap kbs) (hr : ByteRow w ao n cap bs) (hknil : ko = none → kn = 0 ∧ kcap = 0) (hnil : ao = none → n = 0 ∧ cap = 0) (hkn : kn ≤ 140737488351232) (hn : n ≤ 140737488351232) (hkrange : ∀ i, i < kn → 0 ≤ kbs i ∧ kbs i ≤ 255) (hrange : ∀ i, i < n → 0 ≤ bs i ∧ bs i ≤ 255) :
    Calls Tryd.prog 11 #[.slice ko kn kcap, .slice ao n cap] w fun e w' => ∃ ro rcap, e = .returned (.slice ro 16 rcap) ∧ ByteRow w' ro 16 rcap (Md.dg (Md.mac kn kbs n bs)) ∧ Below w.heap.size w w' := by
  by_cases hs : kn ≤ 64
  · exact rmac_small ko ao kn kcap n cap kbs bs w hk hr hnil hn hrange hs
  · exact rmac_big ko ao kn kcap n cap kbs bs w hk hr hknil hnil hkn hn hkrange hrange (by omega)

set_option maxHeartbeats 2000000 in
theorem tells_any (ko ao : Option Addr) (kn kcap n cap : Nat) (kbs bs : Nat → Int) (w : World) (ht : Tabs w) (hk : ByteRow w ko kn kcap kbs) (hr : ByteRow w ao n cap bs) (hknil : ko = none → kn = 0 ∧ kcap = 0) (hnil : ao = none → n = 0 ∧ cap = 0) (hkn : kn ≤ 140737488351232) (hn : n ≤ 140737488351232) (hkrange : ∀ i, i < kn → 0 ≤ kbs i ∧ kbs i ≤ 255) (hrange : ∀ i, i < n → 0 ≤ bs i ∧ bs i ≤ 255) :
    Calls Tryd.prog 3 #[.slice ko kn kcap, .slice ao n cap] w fun e w' => e = .returned (.bool true) ∧ Below w.heap.size w w' := by
  have HT : Hid _ := ht
  have HR : Hid (ByteRow w ao n cap bs) := hr
  have HK : Hid (ByteRow w ko kn kcap kbs) := hk
  have HKN : Hid _ := hknil
  have HN : Hid _ := hnil
  have HKG : Hid _ := hkrange
  have HG : Hid _ := hrange
  have hbt := ht.lt
  clear ht hr hk hknil hnil hkrange hrange
  go_enter Tryd.func3, Tryd.ntmps3
  go_wp2_with fail
  refine (sum_any ao n cap bs _ HT.out hn HR.out).mono ?_
  rintro e w1 ⟨g1, rfl, hg1, hrow1, hb1⟩
  have HB1 : Hid (Below w.heap.size w w1) := hb1
  have HX1 : Hid (RowAt w1 g1 (Md.dg (Md.fin Md.st0 0 n bs))) := RowAt.of_rowB hrow1
  clear hg1 hrow1 hb1
  go_wp2_with fail
  refine (rsum_any ao n cap bs _ (HR.out.below HB1.out) HN.out (by omega) HG.out).mono ?_
  rintro e w2 ⟨ro, rcap, rfl, hr2, hb2⟩
  rw [Md.sum_same] at hr2
  have HB2 : Hid (Below w.heap.size w w2) := HB1.out.trans (hb2.mono HB1.out.size)
  have HX2 : Hid (RowAt w2 g1 (Md.dg (Md.fin Md.st0 0 n bs))) := HX1.out.other (hb2.block _ HX1.out.lt)
  have HR2 : Hid (ByteRow w2 ro 16 rcap (Md.dg (Md.fin Md.st0 0 n bs))) := hr2
  clear hr2 hb2 HB1 HX1
  go_wp2_with fail
  refine (same_any _ _ 16 16 16 rcap _ _ _ (HX2.out.bytes (Nat.le_refl _)) HR2.out (by omega) rfl (fun _ _ => rfl)).mono ?_
  rintro e w3 ⟨rfl, hw3⟩
  subst hw3
  clear HX2 HR2
  go_wp2_with fail
  refine (mac_any ko ao kn kcap n cap kbs bs _ (HT.out.below HB2.out (by omega)) hkn hn (HK.out.below HB2.out) (HR.out.below HB2.out)).mono ?_
  rintro e w4 ⟨g4, rfl, hg4, hrow4, hb4⟩
  have HB4 : Hid (Below w.heap.size w w4) := HB2.out.trans (hb4.mono HB2.out.size)
  have HX4 : Hid (RowAt w4 g4 (Md.dg (Md.mac kn kbs n bs))) := RowAt.of_rowB hrow4
  clear hg4 hrow4 hb4 HB2
  go_wp2_with fail
  refine (rmac_any ko ao kn kcap n cap kbs bs _ (HK.out.below HB4.out) (HR.out.below HB4.out) HKN.out HN.out hkn hn HKG.out HG.out).mono ?_
  rintro e w5 ⟨po, pcap, rfl, hr5, hb5⟩
  have HB5 : Hid (Below w.heap.size w w5) := HB4.out.trans (hb5.mono HB4.out.size)
  have HX5 : Hid (RowAt w5 g4 (Md.dg (Md.mac kn kbs n bs))) := HX4.out.other (hb5.block _ HX4.out.lt)
  have HR5 : Hid (ByteRow w5 po 16 pcap (Md.dg (Md.mac kn kbs n bs))) := hr5
  clear hr5 hb5 HB4 HX4
  go_wp2_with fail
  refine (same_any _ _ 16 16 16 pcap _ _ _ (HX5.out.bytes (Nat.le_refl _)) HR5.out (by omega) rfl (fun _ _ => rfl)).mono ?_
  rintro e w6 ⟨rfl, hw6⟩
  subst hw6
  go_wp2
  go_ret
  exact ⟨rfl, HB5.out⟩
end Go.Proofs.YtllpfebmbpbffaaDoor
