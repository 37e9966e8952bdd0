/- walks: SumKeys, a key that is filled up -/
import Derived.Test.YtllpfebmbpbffaaDoorW15
namespace Go.Proofs.YtllpfebmbpbffaaDoor
open Go.RowKit

theorem fill_list (kn m : Nat) (kbs : Nat → Int) : Md.bytesL kn kbs ++ List.replicate m (Value.int .u8 0) = (List.range (kn + m)).map fun i => Value.int .u8 (if i < kn then kbs i else 0) := by
  apply List.ext_getElem?
  intro i
  by_cases h1 : i < kn
  · rw [List.getElem?_append_left (by simpa [Md.bytesL_length] using h1)]
    simp [Md.bytesL, h1, show i < kn + m by omega]
  · rw [List.getElem?_append_right (by simp [Md.bytesL_length]; omega), Md.bytesL_length]
    by_cases h2 : i < kn + m
    · simp [h1, h2, show i - kn < m by omega]
    · simp [h2, show ¬ i - kn < m by omega]
theorem fill_row {w : World} {base kn m : Nat} {v : Value} {kbs : Nat → Int} (h : w.ownsRow base 5 1 v (kn + m) (Md.bytesL kn kbs ++ List.replicate m (.int .u8 0))) : ∃ ao cap, v = .slice ao (kn + m) cap ∧ ByteRow w ao (kn + m) cap (fun i => if i < kn then kbs i else 0) := by
  rw [fill_list] at h
  obtain ⟨ao, cap, h1, h2, _⟩ := owns_row h
  exact ⟨ao, cap, h1, h2⟩
theorem src_row {W : World} {ad : Addr} {n cap : Nat} {bs : Nat → Int} (h : ByteRow W (some ad) n cap bs) : ∀ j u, (Md.bytesL n bs)[j]? = some u → W.cell? (ad.add j) = some u := by
  intro j u hj
  have hp : 0 < (Md.bytesL n bs).length := by
    have := (List.getElem?_eq_some_iff.1 hj).1
    omega
  obtain ⟨ad', h1, h2⟩ := copy_src h hp
  cases h1
  exact h2 j u hj

theorem ByteRow.cast {w : World} {ao : Option Addr} {n n' cap : Nat} {f : Nat → Int} (h : ByteRow w ao n cap f) (e : n = n') : ByteRow w ao n' cap f := e ▸ h
theorem not_nil {v : Value} {a : Addr} {m : Nat} (h : v = .slice none 0 0 ↔ (Value.slice (some a) 0 0 = .slice none 0 0) ∧ m = 0) : v ≠ .slice none 0 0 := by
  intro e
  have h2 := (h.1 e).1
  cases h2
theorem owns_cast {w : World} {base n : Nat} {v : Value} {xs : List Value} (h : w.ownsRow base 5 1 v (0 + n) ([] ++ xs)) : w.ownsRow base 5 1 v n xs := by
  rw [Nat.zero_add, List.nil_append] at h
  exact h
theorem mac_fill (kn m N : Nat) (kbs : Nat → Int) (n : Nat) (bs : Nat → Int) (hN : N = kn + m) (h : kn + m ≤ 64) : Md.mac N (fun i => if i < kn then kbs i else 0) n bs = Md.mac kn kbs n bs := by
  subst hN
  exact mac_more kn m kbs n bs h

/-- What the rest of the road does, once the filled key lies there: the second HMAC and the comparison. -/
theorem keys_rest {w w2 w4 : World} {g2 : Nat} {F : Md.St} (hb : Below w2.heap.size w2 w4) (hx : RowAt w2 g2 (Md.dg F)) (h2 : Below w.heap.size w w2) : RowAt w4 g2 (Md.dg F) ∧ Below w.heap.size w w4 :=
  ⟨hx.other (hb.block _ hx.lt), h2.trans (hb.mono h2.size)⟩

set_option maxHeartbeats 2000000 in
theorem keys_fill (ko ao : Option Addr) (kn kcap n cap m : Nat) (kbs bs : Nat → Int) (w : World) (ht : Tabs w) (hc : n ≤ 140737488351232) (hk : ByteRow w ko kn kcap kbs) (hr : ByteRow w ao n cap bs) (hnil : ko = none → kn = 0 ∧ kcap = 0) (hl : kn + m ≤ 64) :
    Calls Tryd.prog 5 #[.slice ko kn kcap, .int .i64 m, .slice ao n cap] w fun e w' => e = .returned (.bool true) ∧ Below w.heap.size w w' := by
  have HT : Hid _ := ht
  have HR : Hid (ByteRow w ao n cap bs) := hr
  have HK : Hid (ByteRow w ko kn kcap kbs) := hk
  have hbt := ht.lt
  clear ht hr hk
  have hl1 : (m : Int) ≤ 64 := by omega
  have hl2 : (kn : Int) + (m : Int) ≤ 64 := by omega
  obtain ⟨i0, hi, hz0, hz1, hz2⟩ := info_parts info5
  cases ko with
  | none =>
    obtain ⟨rfl, rfl⟩ := hnil rfl
    go_enter Tryd.func5, Tryd.ntmps5
    go_wp2_with fail
    refine (alive_any _ HT.out).mono ?_
    rintro e w1 ⟨rfl, hb1⟩
    have HB1 : Hid (Below w.heap.size w w1) := hb1
    clear hb1
    go_wp2_with fail
    refine (mac_any none ao 0 0 n cap kbs bs _ (HT.out.below HB1.out (by omega)) (by omega) hc (HK.out.below HB1.out) (HR.out.below HB1.out)).mono ?_
    rintro e w2 ⟨g2, rfl, hg2, hrow2, hb2⟩
    have HB2 : Hid (Below w.heap.size w w2) := HB1.out.trans (hb2.mono HB1.out.size)
    have HX2 : Hid (RowAt w2 g2 (Md.dg (Md.mac 0 kbs n bs))) := RowAt.of_rowB hrow2
    clear hg2 hrow2 hb2 HB1
    go_wp2_with (first | (at_builtin; refine wpList_append_own_none rfl (.tmp 23) (.tmp 24) 22 rfl w2.heap.size 5 i0 1 Tryd.underlying22 hi _ _ _ rfl (owns_empty w2) rfl ?_) | (refine wpList_append_zeros rfl (.tmp 25) (.tmp 26) rfl w2.heap.size _ 0 m _ rfl rfl (owns_empty w2) (fun h => by cases h) (by omega) (by omega) (by simp) ?_; intro v4 w4 hown4 hgrow4; have hb4 := grown_empty hgrow4; have hf4 := fill_row (kn := 0) (kbs := kbs) (by simpa [Md.bytesL] using hown4); obtain ⟨fo, fcap, rfl, hfr⟩ := hf4; have HF4 : Hid (ByteRow w4 fo m fcap (fun i => if i < 0 then kbs i else 0)) := ByteRow.cast hfr (Nat.zero_add m); have HB4 : Hid _ := hb4; clear hown4 hgrow4 hb4 hfr))
    obtain ⟨hx4, hbw4⟩ := keys_rest HB4.out HX2.out HB2.out
    have HX4 : Hid (RowAt w4 g2 (Md.dg (Md.mac 0 kbs n bs))) := hx4
    have HBW4 : Hid (Below w.heap.size w w4) := hbw4
    clear hx4 hbw4
    refine (mac_any fo ao m fcap n cap (fun i => if i < 0 then kbs i else 0) bs _ (HT.out.below HBW4.out (by omega)) (by omega) hc HF4.out (HR.out.below HBW4.out)).mono ?_
    rw [mac_fill 0 m m kbs n bs (by omega) hl]
    rintro e w5 ⟨g5, rfl, hg5, hrow5, hb5⟩
    have HB5 : Hid (Below w.heap.size w w5) := HBW4.out.trans (hb5.mono HBW4.out.size)
    have HX5 : Hid (RowAt w5 g2 (Md.dg (Md.mac 0 kbs n bs))) := HX4.out.other (hb5.block _ HX4.out.lt)
    have HS5 : Hid (ByteRow w5 (some ⟨g5, 0, none⟩) 16 16 (Md.dg (Md.mac 0 kbs n bs))) := sumRow hrow5
    clear hg5 hrow5 hb5 HX4 HBW4
    go_wp2_with fail
    refine (same_any _ _ 16 16 16 16 _ _ _ (HX5.out.bytes (Nat.le_refl _)) HS5.out (by omega) rfl (fun _ _ => rfl)).mono ?_
    rintro e w6 ⟨rfl, hw6⟩
    subst hw6
    go_wp2
    go_ret
    exact ⟨rfl, HB5.out⟩
  | some ad =>
    go_enter Tryd.func5, Tryd.ntmps5
    go_wp2_with fail
    refine (alive_any _ HT.out).mono ?_
    rintro e w1 ⟨rfl, hb1⟩
    have HB1 : Hid (Below w.heap.size w w1) := hb1
    clear hb1
    go_wp2_with fail
    refine (mac_any (some ad) ao kn kcap n cap kbs bs _ (HT.out.below HB1.out (by omega)) (by omega) hc (HK.out.below HB1.out) (HR.out.below HB1.out)).mono ?_
    rintro e w2 ⟨g2, rfl, hg2, hrow2, hb2⟩
    have HB2 : Hid (Below w.heap.size w w2) := HB1.out.trans (hb2.mono HB1.out.size)
    have HX2 : Hid (RowAt w2 g2 (Md.dg (Md.mac kn kbs n bs))) := RowAt.of_rowB hrow2
    have HK2 : Hid (ByteRow (w2.alloc (.cells #[] 5)) (some ad) kn kcap kbs) := HK.out.below (HB2.out.alloc HB2.out.size _)
    clear hg2 hrow2 hb2 HB1
    go_wp2_with (first | (at_builtin; refine wpList_append_own _ rfl (.tmp 23) (.tmp 24) 22 rfl w2.heap.size 5 i0 (.int .u8 0) 1 1 Tryd.underlying22 hi hz0 hz1 hz2 rfl (by decide) _ _ _ rfl (owns_empty w2) ad kn kcap (Md.bytesL kn kbs) rfl (by rw [Md.bytesL_length]; omega) (src_row HK2.out) (Md.bytesL_one _ _) (by unfold maxLen; omega) (by omega) (by simp) ?_; intro v3 w3 hown3 hgrow3 hne3; have HV3 : Hid (v3 ≠ .slice none 0 0) := not_nil hne3; have hb3 := grown_empty hgrow3; have HB3 : Hid (Below w2.heap.size w2 w3) := hb3; have HO3 : Hid (w3.ownsRow w2.heap.size 5 1 v3 kn (Md.bytesL kn kbs)) := owns_cast hown3; clear hown3 hgrow3 hne3 hb3) | (refine wpList_append_zeros rfl (.tmp 25) (.tmp 26) rfl w2.heap.size v3 kn m _ rfl rfl HO3.out HV3.out (by omega) (by omega) HB3.out.size ?_; intro v4 w4 hown4 hgrow4; have hb4 : Below w2.heap.size w2 w4 := HB3.out.grown hgrow4 HB3.out.size (owns_block HO3.out); obtain ⟨fo, fcap, rfl, hfr⟩ := fill_row hown4; have HF4 : Hid (ByteRow w4 fo (kn + m) fcap (fun i => if i < kn then kbs i else 0)) := hfr; have HB4 : Hid (Below w2.heap.size w2 w4) := hb4; clear hown4 hgrow4 hb4 hfr))
    obtain ⟨hx4, hbw4⟩ := keys_rest HB4.out HX2.out HB2.out
    have HX4 : Hid (RowAt w4 g2 (Md.dg (Md.mac kn kbs n bs))) := hx4
    have HBW4 : Hid (Below w.heap.size w w4) := hbw4
    clear hx4 hbw4
    refine (mac_any fo ao (kn + m) fcap n cap (fun i => if i < kn then kbs i else 0) bs _ (HT.out.below HBW4.out (by omega)) (by omega) hc HF4.out (HR.out.below HBW4.out)).mono ?_
    rw [mac_fill kn m (kn + m) kbs n bs (by omega) hl]
    rintro e w5 ⟨g5, rfl, hg5, hrow5, hb5⟩
    have HB5 : Hid (Below w.heap.size w w5) := HBW4.out.trans (hb5.mono HBW4.out.size)
    have HX5 : Hid (RowAt w5 g2 (Md.dg (Md.mac kn kbs n bs))) := HX4.out.other (hb5.block _ HX4.out.lt)
    have HS5 : Hid (ByteRow w5 (some ⟨g5, 0, none⟩) 16 16 (Md.dg (Md.mac kn kbs n bs))) := sumRow hrow5
    clear hg5 hrow5 hb5 HX4 HBW4
    go_wp2_with fail
    refine (same_any _ _ 16 16 16 16 _ _ _ (HX5.out.bytes (Nat.le_refl _)) HS5.out (by omega) rfl (fun _ _ => rfl)).mono ?_
    rintro e w6 ⟨rfl, hw6⟩
    subst hw6
    go_wp2
    go_ret
    exact ⟨rfl, HB5.out⟩
end Go.Proofs.YtllpfebmbpbffaaDoor
