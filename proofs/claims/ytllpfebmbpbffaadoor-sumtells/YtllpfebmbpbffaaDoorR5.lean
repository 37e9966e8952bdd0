/- walks: the document's own Mac -/
import Derived.Test.YtllpfebmbpbffaaDoorR4
namespace Go.Proofs.YtllpfebmbpbffaaDoor
open Go.RowKit

/-- What the loop of Mac carries: two rows of the call's own, apart from each other. -/
structure Two (base : Nat) (K : Nat → Int) (WB w : World) (vi vo : Value) (j : Nat) : Prop where
  inn : w.ownsRow base 5 1 vi j (Md.bytesL j (Md.xk K 54))
  out : w.ownsRow base 5 1 vo j (Md.bytesL j (Md.xk K 92))
  apart : ∀ g, vi.ownBlock = some g → vo.ownBlock ≠ some g
  low : Below base WB w

theorem own_lt {w : World} {base n : Nat} {v : Value} {xs : List Value} (h : w.ownsRow base 5 1 v n xs) (g : Nat) (hg : v.ownBlock = some g) : base ≤ g ∧ g < w.heap.size := h.lt g hg

/-- Behind the append onto the first row. -/
theorem two_inn {base : Nat} {K : Nat → Int} {WB w w' : World} {vi vo vi' : Value} {j : Nat} (h : Two base K WB w vi vo j) (hb : base ≤ w.heap.size) (h1 : w'.ownsRow base 5 1 vi' (j + 1) (Md.bytesL (j + 1) (Md.xk K 54))) (hg : w.grownBy w' vi.ownBlock) (hk : vi'.ownBlock = vi.ownBlock ∨ ∃ g, vi'.ownBlock = some g ∧ w.heap.size ≤ g) :
    w'.ownsRow base 5 1 vi' (j + 1) (Md.bytesL (j + 1) (Md.xk K 54)) ∧ w'.ownsRow base 5 1 vo j (Md.bytesL j (Md.xk K 92)) ∧ (∀ g, vi'.ownBlock = some g → vo.ownBlock ≠ some g) ∧ Below base WB w' ∧ base ≤ w'.heap.size := by
  refine ⟨h1, h.out.kept hg ?_, ?_, h.low.grown hg hb (fun k hk => (own_lt h.inn k hk).1), Nat.le_trans hb hg.size⟩
  · cases hv : vo.ownBlock with
    | none => exact Or.inl rfl
    | some g => exact Or.inr (fun e => h.apart g e.symm hv)
  · intro g h2 h3
    rcases hk with e | ⟨g', e, hge⟩
    · exact h.apart g (e ▸ h2) h3
    · rw [e] at h2
      cases h2
      have := (own_lt h.out g h3).2
      omega

/-- Behind the append onto the second row. -/
theorem two_out {base : Nat} {K : Nat → Int} {WB w w' : World} {vi vo vo' : Value} {j : Nat} (hi : w.ownsRow base 5 1 vi (j + 1) (Md.bytesL (j + 1) (Md.xk K 54))) (hap : ∀ g, vi.ownBlock = some g → vo.ownBlock ≠ some g) (ho : w.ownsRow base 5 1 vo j (Md.bytesL j (Md.xk K 92))) (hl : Below base WB w) (hb : base ≤ w.heap.size) (h1 : w'.ownsRow base 5 1 vo' (j + 1) (Md.bytesL (j + 1) (Md.xk K 92))) (hg : w.grownBy w' vo.ownBlock) (hk : vo'.ownBlock = vo.ownBlock ∨ ∃ g, vo'.ownBlock = some g ∧ w.heap.size ≤ g) :
    Two base K WB w' vi vo' (j + 1) := by
  refine ⟨hi.kept hg ?_, h1, ?_, hl.grown hg hb (fun k hk => (own_lt ho k hk).1)⟩
  · cases hv : vi.ownBlock with
    | none => exact Or.inl rfl
    | some g => exact Or.inr (fun e => hap g hv e.symm)
  · intro g h2 h3
    rcases hk with e | ⟨g', e, hge⟩
    · exact hap g h2 (e ▸ h3)
    · rw [e] at h3
      cases h3
      have := (own_lt hi g h2).2
      omega

theorem cat_range {bs : Nat → Int} {K : Nat → Int} {m : Int} {n : Nat} (hf : ∀ i, i < n → 0 ≤ bs i ∧ bs i ≤ 255) (i : Nat) (hi : i < 64 + n) : 0 ≤ cat (Md.xk K m) bs i ∧ cat (Md.xk K m) bs i ≤ 255 := by
  unfold cat
  by_cases h : i < 64
  · rw [if_pos h]; exact xk_range K m i
  · rw [if_neg h]; exact hf _ (by omega)
theorem apart_or {vi vo : Value} (h : ∀ g, vi.ownBlock = some g → vo.ownBlock ≠ some g) : vo.ownBlock = none ∨ vo.ownBlock ≠ vi.ownBlock := by
  cases hv : vo.ownBlock with
  | none => exact Or.inl rfl
  | some g => exact Or.inr (fun e => h g e.symm hv)

set_option maxRecDepth 100000 in
set_option maxHeartbeats 4000000 in
theorem rmac_small (ko ao : Option Addr) (kn kcap n cap : Nat) (kbs bs : Nat → Int) (w : World) (hk : ByteRow w ko kn kcap kbs) (hr : ByteRow w ao n cap bs) (hnil : ao = none → n = 0 ∧ cap = 0) (hn : n ≤ 140737488351232) (hrange : ∀ i, i < n → 0 ≤ bs i ∧ bs i ≤ 255) (hs : kn ≤ 64) :
    Calls Tryd.prog 11 #[.slice ko kn kcap, .slice ao n cap] w fun e w' => ∃ ro rcap, e = .returned (.slice ro 16 rcap) ∧ ByteRow w' ro 16 rcap (Md.dg (Md.mac kn kbs n bs)) ∧ Below w.heap.size w w' := by
  have HKR : Hid (ByteRow w ko kn kcap kbs) := hk
  have HRB : Hid (ByteRow w ao n cap bs) := hr
  have HNIL : Hid _ := hnil
  have HBR : Hid _ := hrange
  have HWB : Hid (Below w.heap.size w w) := Below.refl _ _
  obtain ⟨K, HK⟩ : ∃ K, Hid (K = Md.kb kn kbs) := ⟨_, rfl⟩
  have HKf : Hid (∀ i, (if i < kn then kbs i else 0) = K i) := fun i => by rw [HK.out]; unfold Md.kb; rw [if_pos hs]
  have HMAC : Hid (Md.mac kn kbs n bs = Md.fin (Md.mixS Md.st0 (Md.xk K 92)) 64 16 (Md.dg (Md.fin (Md.mixS Md.st0 (Md.xk K 54)) 64 n bs))) := by rw [HK.out]; rfl
  clear hk hr hnil hrange HK
  go_enter Tryd.func11, Tryd.ntmps11
  go_wp2_with fail
  go_loopw [5, 6, 7] (fun vi vo i wr => ∃ j : Nat, j ≤ 64 ∧ i = .int .i64 j ∧ Hid (Two w.heap.size K w wr vi vo j)) (fun _ _ i _ => 64 - (intOf i).toNat)
  case atStart => exact ⟨0, by omega, rfl, World.ownsRow_nil _ _ _ _, World.ownsRow_nil _ _ _ _, fun g h => by simp [Value.ownBlock] at h, Below.refl _ _⟩
  case round =>
      obtain ⟨j, hj, rfl, hX⟩ := hrel
      rename World => w3
      by_cases hlt : j < 64
      · have HZ1 : Hid (bits BinOp.xor IntKind.u8 (K j) 54 = Md.xk K 54 j) := rfl
        have HZ2 : Hid (bits BinOp.xor IntKind.u8 (K j) 92 = Md.xk K 92 j) := rfl
        have HKJ : Hid ((if j < kn then kbs j else 0) = K j) := HKf.out j
        by_cases hin : j < kn
        · obtain ⟨kb, koff, rfl, hkb, hkc⟩ := HKR.out.2 (by omega)
          have cj : w3.cell? ⟨kb, koff + j, none⟩ = some (.int .u8 (K j)) := by
            rw [hX.out.low.cell (by exact hkb), hkc j hin]
            have h1 := HKJ.out
            rw [if_pos hin] at h1
            rw [h1]
          clear HKJ hkc
          generalize K j = kj at *
          go_wp2_with (first | (at_builtin; refine wpList_append_byte2 rfl (.tmp 26) (.tmp 29) rfl w.heap.size _ j (Md.xk K 54) rfl _ hX.out.inn hX.out.low.size rfl HZ1.out (by omega) ?_; intro v4 w4 ho4 hg4 hk4; obtain ⟨hi4, hoo4, hap4, hlow4, hsz4⟩ := two_inn hX.out hX.out.low.size ho4 hg4 hk4; have HI4 : Hid _ := hi4; have HOO4 : Hid _ := hoo4; have HAP4 : Hid _ := hap4; have HLOW4 : Hid (Below w.heap.size w w4) := hlow4; clear ho4 hg4 hk4 hi4 hoo4 hap4 hlow4 hsz4) | (at_builtin; refine wpList_append_byte2 rfl (.tmp 31) (.tmp 34) rfl w.heap.size _ j (Md.xk K 92) rfl _ HOO4.out HLOW4.out.size rfl HZ2.out (by omega) ?_; intro v5 w5 ho5 hg5 hk5; have h5 := two_out HI4.out HAP4.out HOO4.out HLOW4.out HLOW4.out.size ho5 hg5 hk5; have H5 : Hid (Two w.heap.size K w w5 v4 v5 (j + 1)) := h5; clear ho5 hg5 hk5 h5))
          exact ⟨⟨j + 1, by omega, by go_num, H5.out⟩, by simp [intOf]; omega⟩
        · have hkj : K j = 0 := by
            have h1 := HKJ.out
            rw [if_neg hin] at h1
            exact h1.symm
          rw [hkj] at HZ1 HZ2
          clear HKJ hkj
          go_wp2_with (first | (at_builtin; refine wpList_append_byte2 rfl (.tmp 26) (.tmp 29) rfl w.heap.size _ j (Md.xk K 54) rfl _ hX.out.inn hX.out.low.size rfl HZ1.out (by omega) ?_; intro v4 w4 ho4 hg4 hk4; obtain ⟨hi4, hoo4, hap4, hlow4, hsz4⟩ := two_inn hX.out hX.out.low.size ho4 hg4 hk4; have HI4 : Hid _ := hi4; have HOO4 : Hid _ := hoo4; have HAP4 : Hid _ := hap4; have HLOW4 : Hid (Below w.heap.size w w4) := hlow4; clear ho4 hg4 hk4 hi4 hoo4 hap4 hlow4 hsz4) | (at_builtin; refine wpList_append_byte2 rfl (.tmp 31) (.tmp 34) rfl w.heap.size _ j (Md.xk K 92) rfl _ HOO4.out HLOW4.out.size rfl HZ2.out (by omega) ?_; intro v5 w5 ho5 hg5 hk5; have h5 := two_out HI4.out HAP4.out HOO4.out HLOW4.out HLOW4.out.size ho5 hg5 hk5; have H5 : Hid (Two w.heap.size K w w5 v4 v5 (j + 1)) := h5; clear ho5 hg5 hk5 h5))
          exact ⟨⟨j + 1, by omega, by go_num, H5.out⟩, by simp [intOf]; omega⟩
      · obtain rfl : j = 64 := by omega
        have HI3 : Hid (w3.ownsRow w.heap.size 5 1 _ 64 (Md.bytesL 64 (Md.xk K 54))) := hX.out.inn
        have HO3 : Hid (w3.ownsRow w.heap.size 5 1 _ 64 (Md.bytesL 64 (Md.xk K 92))) := hX.out.out
        have HAP : Hid _ := hX.out.apart
        have HL3 : Hid (Below w.heap.size w w3) := hX.out.low
        have HR3 : Hid (ByteRow w3 ao n cap bs) := HRB.out.below HL3.out
        clear hX
        go_wp2_with (at_builtin; refine wpList_append_bytes rfl (.tmp 37) (.tmp 38) rfl w.heap.size _ 64 _ rfl HI3.out ao n cap bs rfl HR3.out HNIL.out (by omega) HL3.out.size ?_; intro v6 w6 ho6 hg6; have HO6 : Hid _ := HO3.out.kept hg6 (apart_or HAP.out); have hl6 : Below w.heap.size w w6 := HL3.out.grown hg6 HL3.out.size (fun k hk => (own_lt HI3.out k hk).1); rw [cat_list] at ho6; obtain ⟨io, ic, rfl, hir⟩ := owns_shape ho6; have HIR : Hid (ByteRow w6 io (64 + n) ic (cat (Md.xk K 54) bs)) := hir; have HL6 : Hid (Below w.heap.size w w6) := hl6; clear ho6 hg6 hir hl6)
        refine (rsum_any io (64 + n) ic _ _ HIR.out (fun h => absurd (HIR.out.2 (by omega)) (by subst h; rintro ⟨b, off, h2, _⟩; cases h2)) (by omega) (fun i _ => cat_range HBR.out i (by assumption))).mono ?_
        rintro e w7 ⟨ro, rcap, rfl, hr7, hb7⟩
        rw [Md.sum_same, fin_cat] at hr7
        have HR7 : Hid (ByteRow w7 ro 16 rcap _) := hr7
        have HO7 : Hid _ := owns_below HO6.out hb7
        have HL7 : Hid (Below w.heap.size w w7) := HL6.out.trans (hb7.mono HL6.out.size)
        clear hr7 hb7 HIR HO6 HL6
        go_wp2_with (at_builtin; refine wpList_append_bytes rfl (.tmp 36) (.tmp 40) rfl w.heap.size _ 64 _ rfl HO7.out ro 16 rcap _ rfl HR7.out (fun h => absurd (HR7.out.2 (by omega)) (by subst h; rintro ⟨b, off, h2, _⟩; cases h2)) (by omega) HL7.out.size ?_; intro v8 w8 ho8 hg8; have hl8 : Below w.heap.size w w8 := HL7.out.grown hg8 HL7.out.size (fun k hk => (own_lt HO7.out k hk).1); rw [cat_list] at ho8; obtain ⟨oo, oc, rfl, hor⟩ := owns_shape ho8; have HOR : Hid (ByteRow w8 oo (64 + 16) oc _) := hor; have HL8 : Hid (Below w.heap.size w w8) := hl8; clear ho8 hg8 hor hl8)
        refine (rsum_any oo (64 + 16) oc _ _ HOR.out (fun h => absurd (HOR.out.2 (by omega)) (by subst h; rintro ⟨b, off, h2, _⟩; cases h2)) (by omega) (fun i _ => cat_range (fun i _ => dg_range _ i) i (by assumption))).mono ?_
        rintro e w9 ⟨po, pcap, rfl, hr9, hb9⟩
        rw [Md.sum_same, fin_cat] at hr9
        have HR9 : Hid (ByteRow w9 po 16 pcap _) := hr9
        have HL9 : Hid (Below w.heap.size w w9) := HL8.out.trans (hb9.mono HL8.out.size)
        clear hr9 hb9
        go_wp2
        go_ret
        exact ⟨po, pcap, rfl, by rw [HMAC.out]; exact HR9.out, HWB.out.trans (HL9.out.mono HWB.out.size)⟩

set_option maxRecDepth 100000 in
set_option maxHeartbeats 4000000 in
theorem rmac_big (ko ao : Option Addr) (kn kcap n cap : Nat) (kbs bs : Nat → Int) (w : World) (hk : ByteRow w ko kn kcap kbs) (hr : ByteRow w ao n cap bs) (hknil : ko = none → kn = 0 ∧ kcap = 0) (hnil : ao = none → n = 0 ∧ cap = 0) (hkn : kn ≤ 140737488351232) (hn : n ≤ 140737488351232) (hkrange : ∀ i, i < kn → 0 ≤ kbs i ∧ kbs i ≤ 255) (hrange : ∀ i, i < n → 0 ≤ bs i ∧ bs i ≤ 255) (hs : 64 < kn) :
    Calls Tryd.prog 11 #[.slice ko kn kcap, .slice ao n cap] w fun e w' => ∃ ro rcap, e = .returned (.slice ro 16 rcap) ∧ ByteRow w' ro 16 rcap (Md.dg (Md.mac kn kbs n bs)) ∧ Below w.heap.size w w' := by
  have HK0 : Hid (ByteRow w ko kn kcap kbs) := hk
  have HR0 : Hid (ByteRow w ao n cap bs) := hr
  have HKN : Hid _ := hknil
  have HKG : Hid _ := hkrange
  have HNIL : Hid _ := hnil
  have HBR : Hid _ := hrange
  obtain ⟨K, HK⟩ : ∃ K, Hid (K = Md.kb kn kbs) := ⟨_, rfl⟩
  have HKf : Hid (∀ i, (if i < 16 then Md.dg (Md.fin Md.st0 0 kn kbs) i else 0) = K i) := fun i => by rw [HK.out]; unfold Md.kb; rw [if_neg (show ¬ kn ≤ 64 by omega)]
  have HMAC : Hid (Md.mac kn kbs n bs = Md.fin (Md.mixS Md.st0 (Md.xk K 92)) 64 16 (Md.dg (Md.fin (Md.mixS Md.st0 (Md.xk K 54)) 64 n bs))) := by rw [HK.out]; rfl
  clear hk hr hnil hrange HK hknil hkrange
  go_enter Tryd.func11, Tryd.ntmps11
  go_wp2_with fail
  refine (rsum_any ko kn kcap kbs _ HK0.out HKN.out (by omega) HKG.out).mono ?_
  rintro e wk ⟨kp, kq, rfl, hrk, hbk⟩
  rw [Md.sum_same] at hrk
  have HKR : Hid (ByteRow wk kp 16 kq (Md.dg (Md.fin Md.st0 0 kn kbs))) := hrk
  have HWB : Hid (Below w.heap.size w wk) := hbk
  have HRB : Hid (ByteRow wk ao n cap bs) := HR0.out.below hbk
  clear hrk hbk HK0 HR0 HKN HKG
  go_wp2_with fail
  go_loopw [5, 6, 7] (fun vi vo i wr => ∃ j : Nat, j ≤ 64 ∧ i = .int .i64 j ∧ Hid (Two wk.heap.size K wk wr vi vo j)) (fun _ _ i _ => 64 - (intOf i).toNat)
  case atStart => exact ⟨0, by omega, rfl, World.ownsRow_nil _ _ _ _, World.ownsRow_nil _ _ _ _, fun g h => by simp [Value.ownBlock] at h, Below.refl _ _⟩
  case round =>
      obtain ⟨j, hj, rfl, hX⟩ := hrel
      rename World => w3
      by_cases hlt : j < 64
      · have HZ1 : Hid (bits BinOp.xor IntKind.u8 (K j) 54 = Md.xk K 54 j) := rfl
        have HZ2 : Hid (bits BinOp.xor IntKind.u8 (K j) 92 = Md.xk K 92 j) := rfl
        have HKJ : Hid ((if j < 16 then (Md.dg (Md.fin Md.st0 0 kn kbs)) j else 0) = K j) := HKf.out j
        by_cases hin : j < 16
        · obtain ⟨kb, koff, rfl, hkb, hkc⟩ := HKR.out.2 (by omega)
          have cj : w3.cell? ⟨kb, koff + j, none⟩ = some (.int .u8 (K j)) := by
            rw [hX.out.low.cell (by exact hkb), hkc j hin]
            have h1 := HKJ.out
            rw [if_pos hin] at h1
            rw [h1]
          clear HKJ hkc
          generalize K j = kj at *
          go_wp2_with (first | (at_builtin; refine wpList_append_byte2 rfl (.tmp 26) (.tmp 29) rfl wk.heap.size _ j (Md.xk K 54) rfl _ hX.out.inn hX.out.low.size rfl HZ1.out (by omega) ?_; intro v4 w4 ho4 hg4 hk4; obtain ⟨hi4, hoo4, hap4, hlow4, hsz4⟩ := two_inn hX.out hX.out.low.size ho4 hg4 hk4; have HI4 : Hid _ := hi4; have HOO4 : Hid _ := hoo4; have HAP4 : Hid _ := hap4; have HLOW4 : Hid (Below wk.heap.size wk w4) := hlow4; clear ho4 hg4 hk4 hi4 hoo4 hap4 hlow4 hsz4) | (at_builtin; refine wpList_append_byte2 rfl (.tmp 31) (.tmp 34) rfl wk.heap.size _ j (Md.xk K 92) rfl _ HOO4.out HLOW4.out.size rfl HZ2.out (by omega) ?_; intro v5 w5 ho5 hg5 hk5; have h5 := two_out HI4.out HAP4.out HOO4.out HLOW4.out HLOW4.out.size ho5 hg5 hk5; have H5 : Hid (Two wk.heap.size K wk w5 v4 v5 (j + 1)) := h5; clear ho5 hg5 hk5 h5))
          exact ⟨⟨j + 1, by omega, by go_num, H5.out⟩, by simp [intOf]; omega⟩
        · have hkj : K j = 0 := by
            have h1 := HKJ.out
            rw [if_neg hin] at h1
            exact h1.symm
          rw [hkj] at HZ1 HZ2
          clear HKJ hkj
          go_wp2_with (first | (at_builtin; refine wpList_append_byte2 rfl (.tmp 26) (.tmp 29) rfl wk.heap.size _ j (Md.xk K 54) rfl _ hX.out.inn hX.out.low.size rfl HZ1.out (by omega) ?_; intro v4 w4 ho4 hg4 hk4; obtain ⟨hi4, hoo4, hap4, hlow4, hsz4⟩ := two_inn hX.out hX.out.low.size ho4 hg4 hk4; have HI4 : Hid _ := hi4; have HOO4 : Hid _ := hoo4; have HAP4 : Hid _ := hap4; have HLOW4 : Hid (Below wk.heap.size wk w4) := hlow4; clear ho4 hg4 hk4 hi4 hoo4 hap4 hlow4 hsz4) | (at_builtin; refine wpList_append_byte2 rfl (.tmp 31) (.tmp 34) rfl wk.heap.size _ j (Md.xk K 92) rfl _ HOO4.out HLOW4.out.size rfl HZ2.out (by omega) ?_; intro v5 w5 ho5 hg5 hk5; have h5 := two_out HI4.out HAP4.out HOO4.out HLOW4.out HLOW4.out.size ho5 hg5 hk5; have H5 : Hid (Two wk.heap.size K wk w5 v4 v5 (j + 1)) := h5; clear ho5 hg5 hk5 h5))
          exact ⟨⟨j + 1, by omega, by go_num, H5.out⟩, by simp [intOf]; omega⟩
      · obtain rfl : j = 64 := by omega
        have HI3 : Hid (w3.ownsRow wk.heap.size 5 1 _ 64 (Md.bytesL 64 (Md.xk K 54))) := hX.out.inn
        have HO3 : Hid (w3.ownsRow wk.heap.size 5 1 _ 64 (Md.bytesL 64 (Md.xk K 92))) := hX.out.out
        have HAP : Hid _ := hX.out.apart
        have HL3 : Hid (Below wk.heap.size wk w3) := hX.out.low
        have HR3 : Hid (ByteRow w3 ao n cap bs) := HRB.out.below HL3.out
        clear hX
        go_wp2_with (at_builtin; refine wpList_append_bytes rfl (.tmp 37) (.tmp 38) rfl wk.heap.size _ 64 _ rfl HI3.out ao n cap bs rfl HR3.out HNIL.out (by omega) HL3.out.size ?_; intro v6 w6 ho6 hg6; have HO6 : Hid _ := HO3.out.kept hg6 (apart_or HAP.out); have hl6 : Below wk.heap.size wk w6 := HL3.out.grown hg6 HL3.out.size (fun k hk => (own_lt HI3.out k hk).1); rw [cat_list] at ho6; obtain ⟨io, ic, rfl, hir⟩ := owns_shape ho6; have HIR : Hid (ByteRow w6 io (64 + n) ic (cat (Md.xk K 54) bs)) := hir; have HL6 : Hid (Below wk.heap.size wk w6) := hl6; clear ho6 hg6 hir hl6)
        refine (rsum_any io (64 + n) ic _ _ HIR.out (fun h => absurd (HIR.out.2 (by omega)) (by subst h; rintro ⟨b, off, h2, _⟩; cases h2)) (by omega) (fun i _ => cat_range HBR.out i (by assumption))).mono ?_
        rintro e w7 ⟨ro, rcap, rfl, hr7, hb7⟩
        rw [Md.sum_same, fin_cat] at hr7
        have HR7 : Hid (ByteRow w7 ro 16 rcap _) := hr7
        have HO7 : Hid _ := owns_below HO6.out hb7
        have HL7 : Hid (Below wk.heap.size wk w7) := HL6.out.trans (hb7.mono HL6.out.size)
        clear hr7 hb7 HIR HO6 HL6
        go_wp2_with (at_builtin; refine wpList_append_bytes rfl (.tmp 36) (.tmp 40) rfl wk.heap.size _ 64 _ rfl HO7.out ro 16 rcap _ rfl HR7.out (fun h => absurd (HR7.out.2 (by omega)) (by subst h; rintro ⟨b, off, h2, _⟩; cases h2)) (by omega) HL7.out.size ?_; intro v8 w8 ho8 hg8; have hl8 : Below wk.heap.size wk w8 := HL7.out.grown hg8 HL7.out.size (fun k hk => (own_lt HO7.out k hk).1); rw [cat_list] at ho8; obtain ⟨oo, oc, rfl, hor⟩ := owns_shape ho8; have HOR : Hid (ByteRow w8 oo (64 + 16) oc _) := hor; have HL8 : Hid (Below wk.heap.size wk w8) := hl8; clear ho8 hg8 hor hl8)
        refine (rsum_any oo (64 + 16) oc _ _ HOR.out (fun h => absurd (HOR.out.2 (by omega)) (by subst h; rintro ⟨b, off, h2, _⟩; cases h2)) (by omega) (fun i _ => cat_range (fun i _ => dg_range _ i) i (by assumption))).mono ?_
        rintro e w9 ⟨po, pcap, rfl, hr9, hb9⟩
        rw [Md.sum_same, fin_cat] at hr9
        have HR9 : Hid (ByteRow w9 po 16 pcap _) := hr9
        have HL9 : Hid (Below wk.heap.size wk w9) := HL8.out.trans (hb9.mono HL8.out.size)
        clear hr9 hb9
        go_wp2
        go_ret
        exact ⟨po, pcap, rfl, by rw [HMAC.out]; exact HR9.out, HWB.out.trans (HL9.out.mono HWB.out.size)⟩

end Go.Proofs.YtllpfebmbpbffaaDoor
