/- Rows of cells in a block of the call's own: see RC -/
import Derived.Test.YtaneiffnhphkhaaGreatDoorQ05
import Derived.Test.YtaneiffnhphkhaaGreatDoorQ01
import Derived.Test.YtaneiffnhphkhaaGreatDoorQ02
import Derived.Test.YtaneiffnhphkhaaGreatDoorQ03
import Derived.Lib.BufferWrite
namespace Go.Proofs.YtaneiffnhphkhaaGreatDoor
open Go.RowKit
theorem splice_name (N : Nat) (f : Nat → Int) (s : ByteArray) (h : s.size ≤ N) : ((rowF N f).toList.take 0 ++ Lib.byteCells s.data.toList ++ (rowF N f).toList.drop (0 + s.size)).toArray = rowF N (fun i => if i < s.size then Rg.nb s i else f i) := by
 apply Array.ext_getElem?
 intro i
 have hl : (Lib.byteCells s.data.toList).length = s.size := by simp [Lib.byteCells]
 rw [List.getElem?_toArray, List.take_zero, List.nil_append, Nat.zero_add]
 by_cases hi : i < s.size
 ·have hi' : i < s.data.size := hi
  rw [List.getElem?_append_left (by rw [hl]; exact hi), rowF_get _ _ _ (by omega), if_pos hi]
  simp [Lib.byteCells, Rg.nb, List.getD, Array.getElem?_eq_getElem hi']
 ·rw [List.getElem?_append_right (by rw [hl]; omega), hl, List.getElem?_drop, show s.size + (i - s.size) = i by omega, Array.getElem?_toList]
  by_cases hN : i < N
  ·rw [rowF_get _ _ _ hN, rowF_get _ _ _ hN, if_neg hi]
  ·rw [Array.getElem?_eq_none (by rw [rowF_size]; omega), Array.getElem?_eq_none (by rw [rowF_size]; omega)]
theorem wpList_copy_str {w : World} {ops : Array Oper} {rest : List Oper} {o : Oper} {a : Act} {Q : Exit → Act → World → Prop} (hgd : o.guard = none) (d x : Operand)
  (ho : o.op = .call { callee := .builtin .copy, args := #[d, x], argTypes := #[126, 9] }) (g N dLen dCap : Nat) (f : Nat → Int) (s : ByteArray)
  (hd : a.eval d = .slice (some ⟨g, 0, none⟩) dLen dCap) (hx : a.eval x = .string s) (hle : s.size ≤ dLen) (hN : s.size ≤ N) (hrow : w.heap[g]? = some (.cells (rowF N f) 5 (0, 0)))
  (h : ∀ w', w'.heap[g]? = some (.cells (rowF N (fun i => if i < s.size then Rg.nb s i else f i)) 5 (0, 0)) → w'.heap.size = w.heap.size → Below g w w' → wpList Tryz.prog ops Q rest (a.put o.dst (goInt s.size)) w') : wpList Tryz.prog ops Q (o :: rest) a w := by
 refine wpList_plain hgd fun K hK => ?_
 have hrun := Lib.run_copy_row_string (P := Tryz.prog) w 126 9 o.type 5 g 0 dLen dCap s _ _ Tryz.underlying126 size5 hrow hle (by rw [rowF_size]; omega)
 rw [splice_name N f s hN] at hrun
 unfold Oper.wp
 simp [execOp, ho, resolve, invoke, builtin, hd, hx, hrun, Result.andThen]
 exact hK _ _ (h _ (setRow_heap w g _ _ _ _ hrow) (by simp) (below_setRow (Below.refl _ _) (Nat.le_refl _) _))
set_option maxHeartbeats 400000 in
theorem gequal_any (a1 a2 : Option Addr) (n1 c1 n2 c2 : Nat) (b1 b2 : Nat → Int) (w : World) (h1 : ByteRow w a1 n1 c1 b1) (k1 : NilOk a1 n1 c1) (h2 : ByteRow w a2 n2 c2 b2) (k2 : NilOk a2 n2 c2) :
  Calls Tryz.prog 75 #[.slice a1 n1 c1, .slice a2 n2 c2] w fun e w' => e = .returned (.bool (decide (strOf n1 b1 = strOf n2 b2))) ∧ w' = w := by
 have q1 := run_str w a1 n1 c1 b1 h1 k1
 have q2 := run_str w a2 n2 c2 b2 h2 k2
 clear h1 k1 h2 k2
 generalize strOf n1 b1 = S at *
 generalize strOf n2 b2 = T at *
 go_enter Tryz.func75, Tryz.ntmps75
 go_wp2
 go_ret
 refine ⟨?_, rfl⟩
 by_cases e : S = T
 ·subst e; simp
 ·have hne : ¬ S.toList = T.toList := fun h => e (ByteArray.ext (Array.toList_inj.mp (by rw [← ByteArray.toList_eq, ← ByteArray.toList_eq]; exact h)))
  simp [e, hne]
theorem nilOk_pos {w : World} {ao : Option Addr} {n c : Nat} {f : Nat → Int} (h : ByteRow w ao n c f) (hn : 0 < n) : NilOk ao n c := by
 intro e
 obtain ⟨b, off, h1, _⟩ := h.2 hn
 rw [e] at h1
 cases h1
set_option maxHeartbeats 2000000 in
theorem gident_new (s : ByteArray) (rev : Int) (ao : Option Addr) (n cap : Nat) (vs ts : Nat → Int) (w : World) (hs : s.size ≤ 32) (hv : 0 ≤ rev ∧ rev ≤ 65535) (hR : Rg.Right vs ts n) (hr : WayRow w ao n cap vs ts) (ht : Tabs w) :
  Calls Tryz.prog 109 #[.agg #[.string s, .int .i64 rev, .slice ao n cap]] w fun e w' => ∃ ro rc, e = .returned (.slice ro 50 rc) ∧ ByteRow w' ro 50 rc (Rg.ident s rev (Md.dg (Rg.dig vs ts n))) ∧ Below w.heap.size w w' ∧ ∀ ad, ro = some ad → w.heap.size < ad.block := by
 have HT : Hid (Tabs w) := ht
 have hbt := ht.lt
 have HRt : Hid (Rg.Right vs ts n) := hR
 have HR : Hid (WayRow w ao n cap vs ts) := hr
 clear ht hr hR
 obtain ⟨P, HP⟩ : ∃ P, Hid (P = Rg.ident s rev (Md.dg (Rg.dig vs ts n))) := ⟨_, rfl⟩
 have HY : Hid (rev / 256 = P 32) := by rw [HP.out]; show _ = _; simp [Rg.ident]
 have HZ : Hid (rev % 256 = P (32 + 1)) := by rw [HP.out]; show _ = _; simp [Rg.ident]
 have HH : Hid (∀ i, i < 32 → (if i < s.size then Rg.nb s i else 0) = P i) := by
  intro i hi
  rw [HP.out]
  unfold Rg.ident
  rw [if_pos hi]
 have HD : Hid (bytesL 34 P ++ bytesL 16 (Md.dg (Rg.dig vs ts n)) = bytesL (34 + 16) P) := by
  show _ = _
  rw [bytesL_append]
  apply bytesL_congr
  intro i hi
  by_cases e : i < 34
  ·rw [if_pos e]
  ·rw [if_neg e, HP.out]
   unfold Rg.ident
   rw [if_neg (by omega), if_neg (by omega), if_neg (by omega)]
 have hmk : ∀ W : World, (Instr.makeSlice 126 (.int .i64 32) (.int .i64 50)).run Tryz.prog W = .ok (.slice (some ⟨W.heap.size, 0, none⟩) 32 50) (W.alloc (.cells (rowF 50 (fun _ => 0)) 5)) := fun W => make_room W 32 50 (by omega) (by omega)
 have HW : Hid (∀ w2 : World, Below (w.heap.size + 1) ((w.alloc (.cells #[.string s, .int .i64 rev, .slice ao n cap] 72)).alloc (.cells (rowF 50 (fun _ => 0)) 5)) w2 → w2.cell? ⟨w.heap.size, 0, none⟩ = some (.string s) ∧ w2.cell? ⟨w.heap.size, 1, none⟩ = some (.int .i64 rev) ∧ w2.cell? ⟨w.heap.size, 2, none⟩ = some (.slice ao n cap) ∧ Hid (Below w.heap.size w w2) ∧ w.heap.size + 1 < w2.heap.size) := by
  intro w2 hb
  have h := rg_cells ((hb.block w.heap.size (by omega)).trans (heap_alloc2_old w (.cells #[.string s, .int .i64 rev, .slice ao n cap] 72) _))
  have h2 := hb.size
  simp at h2
  exact ⟨h.1, h.2.1, h.2.2, (below_alloc2 w _ _).trans (hb.mono (by omega)), by omega⟩
 have HO : Hid (∀ w2 : World, w2.heap[w.heap.size + 1]? = some (.cells (rowF 50 (fun i => if i < s.size then Rg.nb s i else 0)) 5 (0, 0)) → w2.ownsRow (w.heap.size + 1) 5 1 (.slice (some ⟨w.heap.size + 1, 0, none⟩) 32 50) 32 (bytesL 32 P)) := by
  intro w2 h
  have := owns_room (base := w.heap.size + 1) (n := 32) h (Nat.le_refl _) (by omega) (by omega)
  rw [bytesL_congr 32 _ P HH.out] at this
  exact this
 go_enter Tryz.func109, Tryz.ntmps109
 go_wp2_with (refine wpList_copy_str rfl (.tmp 5) (.tmp 7) rfl (w.heap.size + 1) 50 32 50 (fun _ => 0) s rfl rfl hs (by omega) (heap_alloc2_new w _ _) ?_; intro w2 hrow2 _ hb2; obtain ⟨q0, q1, q2, HB2, z2⟩ := HW.out w2 hb2; have HO2 : Hid _ := HO.out w2 hrow2; have HX2 : Hid _ := hb2; clear hrow2 hb2)
 refine (gpair_any (w.heap.size + 1) 32 _ P rev w2 HO2.out (by omega) hv HY.out HZ.out (by omega)).mono ?_
 rintro e w3 ⟨v3, rfl, ho3, hb3⟩
 obtain ⟨r0, r1, r2, HB3, z3⟩ := HW.out w3 (HX2.out.trans hb3)
 have HO3 : Hid (w3.ownsRow (w.heap.size + 1) 5 1 v3 34 (bytesL 34 P)) := ho3
 clear ho3 hb3 q0 q1 q2 HO2 HX2 HB2 z2 HW HO HY HZ HH
 go_wp2_with fail
 refine (gdigest_any s rev ao n cap vs ts _ HRt.out (HR.out.below HB3.out) (HT.out.below HB3.out (by omega))).mono ?_
 rintro e w4 ⟨g4, rfl, hg4, hrow4, hb4⟩
 have HO4 : Hid (w4.ownsRow (w.heap.size + 1) 5 1 v3 34 (bytesL 34 P)) := owns_below HO3.out hb4
 have HR4 : Hid (ByteRow w4 (some ⟨g4, 0, none⟩) 16 16 (Md.dg (Rg.dig vs ts n))) := sumRow hrow4
 have HB4 : Hid (Below w.heap.size w w4) := HB3.out.trans (hb4.mono HB3.out.size)
 have z4 : w.heap.size + 1 ≤ w4.heap.size := by have := hb4.size; omega
 clear hg4 hrow4 hb4
 have HA : Hid (∀ v5 w5, w5.ownsRow (w.heap.size + 1) 5 1 v5 (34 + 16) (bytesL 34 P ++ bytesL 16 (Md.dg (Rg.dig vs ts n))) → w4.grownBy w5 v3.ownBlock → ∃ ro rc, v5 = .slice ro 50 rc ∧ Hid (ByteRow w5 ro 50 rc P) ∧ Hid (Below w.heap.size w w5) ∧ Hid (∀ ad, ro = some ad → w.heap.size < ad.block)) := by
  intro v5 w5 ho5 hg5
  rw [HD.out] at ho5
  have hb5 : Below w.heap.size w w5 := HB4.out.trans ((grown_own (Below.refl _ _) HO4.out z4 hg5).mono (by omega))
  obtain ⟨ro, rc, rfl, hr5, _, _, hq5⟩ := owns_row ho5
  exact ⟨ro, rc, rfl, hr5, hb5, fun ad e => by have := hq5 ad e; omega⟩
 go_wp2_with (at_builtin; refine wpList_append_bytes rfl (.tmp 13) (.tmp 15) rfl (w.heap.size + 1) _ 34 _ rfl HO4.out _ 16 16 _ rfl HR4.out (fun h => by cases h) (by omega) z4 ?_; intro v5 w5 ho5 hg5; obtain ⟨ro, rc, rfl, HR5, HB5, HQ5⟩ := HA.out v5 w5 ho5 hg5; clear ho5 hg5)
 go_ret
 exact ⟨ro, rc, rfl, by rw [← HP.out]; exact HR5.out, HB5.out, HQ5.out⟩
theorem gident_any (s : ByteArray) (rev : Int) (ao : Option Addr) (n cap : Nat) (vs ts : Nat → Int) (w : World) (hs : s.size ≤ 32) (hv : 0 ≤ rev ∧ rev ≤ 65535) (hR : Rg.Right vs ts n) (hr : WayRow w ao n cap vs ts) (ht : Tabs w) :
  Calls Tryz.prog 109 #[.agg #[.string s, .int .i64 rev, .slice ao n cap]] w fun e w' => ∃ ro rc, e = .returned (.slice ro 50 rc) ∧ ByteRow w' ro 50 rc (Rg.ident s rev (Md.dg (Rg.dig vs ts n))) ∧ Below w.heap.size w w' := by
 refine (gident_new s rev ao n cap vs ts w hs hv hR hr ht).mono ?_
 rintro e w' ⟨ro, rc, rfl, h1, h2, _⟩
 exact ⟨ro, rc, rfl, h1, h2⟩
namespace Rg
structure Reg where
 s : ByteArray
 rev : Int
 ao : Option Addr
 n : Nat
 cap : Nat
 vs : Nat → Int
 ts : Nat → Int
def Reg.id (r : Reg) : Nat → Int := ident r.s r.rev (Md.dg (dig r.vs r.ts r.n))
def Reg.ok (r : Reg) : Prop := isName r.s = true ∧ (0 ≤ r.rev ∧ r.rev ≤ 65535) ∧ Right r.vs r.ts r.n
def Reg.at' (r : Reg) (w : World) : Prop := WayRow w r.ao r.n r.cap r.vs r.ts
theorem Reg.at'.below {r : Reg} {w w' : World} (h : r.at' w) (hb : Below w.heap.size w w') : r.at' w' := WayRow.below h hb
end Rg
theorem gident_reg (r : Rg.Reg) (w : World) (hk : r.ok) (ha : r.at' w) (ht : Tabs w) :
  Calls Tryz.prog 109 #[.agg #[.string r.s, .int .i64 r.rev, .slice r.ao r.n r.cap]] w fun e w' => ∃ ro rc, e = .returned (.slice ro 50 rc) ∧ ByteRow w' ro 50 rc r.id ∧ Below w.heap.size w w' :=
 gident_any r.s r.rev r.ao r.n r.cap r.vs r.ts w (Rg.isName_parts hk.1).2.1 hk.2.1 hk.2.2 ha ht
theorem gident_reg_new (r : Rg.Reg) (w : World) (hk : r.ok) (ha : r.at' w) (ht : Tabs w) :
  Calls Tryz.prog 109 #[.agg #[.string r.s, .int .i64 r.rev, .slice r.ao r.n r.cap]] w fun e w' => ∃ ro rc, e = .returned (.slice ro 50 rc) ∧ ByteRow w' ro 50 rc r.id ∧ Below w.heap.size w w' ∧ ∀ ad, ro = some ad → w.heap.size < ad.block :=
 gident_new r.s r.rev r.ao r.n r.cap r.vs r.ts w (Rg.isName_parts hk.1).2.1 hk.2.1 hk.2.2 ha ht
theorem gident_from (r : Rg.Reg) (w : World) (hk : r.ok) (ha : r.at' w) (ht : Tabs w) (hb : 2 ≤ w.heap.size) : ∀ W, Below w.heap.size w W →
  Calls Tryz.prog 109 #[.agg #[.string r.s, .int .i64 r.rev, .slice r.ao r.n r.cap]] W fun e w' => ∃ ro rc, e = .returned (.slice ro 50 rc) ∧ Hid (ByteRow w' ro 50 rc r.id) ∧ Hid (Below W.heap.size W w') ∧ Hid (Below w.heap.size w w') := by
 intro W hW
 refine (gident_reg r W hk (ha.below hW) (ht.below hW hb)).mono ?_
 rintro e w' ⟨ro, rc, rfl, h1, h2⟩
 exact ⟨ro, rc, rfl, h1, h2, hW.trans (h2.mono hW.size)⟩
end Go.Proofs.YtaneiffnhphkhaaGreatDoor
namespace Go.Proofs.YtaneiffnhphkhaaGreatDoor
open Go.RowKit
open Vc (V Of)
open Pl (Lk En St)
abbrev IRow (w : World) (ao : Option Addr) (n cap : Nat) (f : Nat → Int) : Prop := CRow w ao n cap 1 (fun i _ => .int .i64 (f i))
theorem IRow.cells {w : World} {b off n cap : Nat} {f : Nat → Int} (h : IRow w (some ⟨b, off, none⟩) n cap f) {i : Nat} (hi : i < n) : w.cell? ⟨b, off + i, none⟩ = some (.int .i64 (f i)) := by
 obtain ⟨b', off', e, _, hc⟩ := h.2 (by omega)
 cases e
 have := hc i hi 0 (by omega)
 rw [Nat.mul_one, Nat.add_zero] at this
 exact this
namespace Pl
structure Br where
 addr : Int
 pao : Option Addr
 pn : Nat
 pcap : Nat
 pv : Nat → Int
 reg : Rg.Reg
structure Net where
 bao : Option Addr
 K : Nat
 bcap : Nat
 bs : Nat → Br
 lao : Option Addr
 L : Nat
 lcap : Nat
 ls : Nat → Lk
structure Pc where
 v : V
 rp : Int
 pao : Option Addr
 pn : Nat
 pcap : Nat
 ports : Nat → Int
 rao : Option Addr
 rn : Nat
 rcap : Nat
 roles : Nat → Int
end Pl
open Pl (Br Net Pc)
def brC (b : Br) (j : Nat) : Value := if j = 0 then .int .u64 b.addr else if j = 1 then .slice b.pao b.pn b.pcap else if j = 2 then .string b.reg.s else if j = 3 then .int .i64 b.reg.rev else .slice b.reg.ao b.reg.n b.reg.cap
def lkC (l : Lk) (j : Nat) : Value := if j = 0 then .int .i64 l.a else if j = 1 then .int .i64 l.pa else if j = 2 then .int .i64 l.b else if j = 3 then .int .i64 l.pb else if j = 4 then .int .i64 l.cost else .bool l.up
def enC (e : En) (j : Nat) : Value := if j = 0 then .int .i64 e.port else if j = 1 then .int .i64 e.cost else if j = 2 then .int .i64 e.other else if j = 3 then .int .i64 e.oport else .bool e.live
def pcC (p : Pc) (j : Nat) : Value := if j < 4 then vC p.v j else if j = 4 then .int .i64 p.rp else if j = 5 then .slice p.pao p.pn p.pcap else .slice p.rao p.rn p.rcap
theorem brC_one (b : Br) (j : Nat) : (brC b j).oneCell' = true := by
 unfold brC
 repeat' split
 all_goals rfl
theorem lkC_one (l : Lk) (j : Nat) : (lkC l j).oneCell' = true := by
 unfold lkC
 repeat' split
 all_goals rfl
theorem enC_one (e : En) (j : Nat) : (enC e j).oneCell' = true := by
 unfold enC
 repeat' split
 all_goals rfl
theorem pcC_one (p : Pc) (j : Nat) : (pcC p j).oneCell' = true := by
 unfold pcC
 repeat' split
 all_goals first | rfl | exact vC_one _ _
abbrev BRow (w : World) (ao : Option Addr) (n cap : Nat) (bs : Nat → Br) : Prop := CRow w ao n cap 5 (fun i => brC (bs i))
abbrev LRow (w : World) (ao : Option Addr) (n cap : Nat) (ls : Nat → Lk) : Prop := CRow w ao n cap 6 (fun i => lkC (ls i))
abbrev ERow (w : World) (ao : Option Addr) (n cap : Nat) (es : Nat → En) : Prop := CRow w ao n cap 5 (fun i => enC (es i))
abbrev PRow (w : World) (ao : Option Addr) (n cap : Nat) (ps : Nat → Pc) : Prop := CRow w ao n cap 7 (fun i => pcC (ps i))
theorem BRow.cells {w : World} {b off n cap : Nat} {bs : Nat → Br} (h : BRow w (some ⟨b, off, none⟩) n cap bs) {i : Nat} (hi : i < n) :
  w.cell? ⟨b, off + i * 5, none⟩ = some (.int .u64 (bs i).addr) ∧ w.cell? ⟨b, off + i * 5 + 1, none⟩ = some (.slice (bs i).pao (bs i).pn (bs i).pcap) ∧ w.cell? ⟨b, off + i * 5 + 2, none⟩ = some (.string (bs i).reg.s) ∧ w.cell? ⟨b, off + i * 5 + 3, none⟩ = some (.int .i64 (bs i).reg.rev) ∧ w.cell? ⟨b, off + i * 5 + 4, none⟩ = some (.slice (bs i).reg.ao (bs i).reg.n (bs i).reg.cap) := by
 obtain ⟨b', off', e, _, hc⟩ := h.2 (by omega)
 cases e
 exact ⟨hc i hi 0 (by omega), hc i hi 1 (by omega), hc i hi 2 (by omega), hc i hi 3 (by omega), hc i hi 4 (by omega)⟩
theorem LRow.cells {w : World} {b off n cap : Nat} {ls : Nat → Lk} (h : LRow w (some ⟨b, off, none⟩) n cap ls) {i : Nat} (hi : i < n) :
  w.cell? ⟨b, off + i * 6, none⟩ = some (.int .i64 (ls i).a) ∧ w.cell? ⟨b, off + i * 6 + 1, none⟩ = some (.int .i64 (ls i).pa) ∧ w.cell? ⟨b, off + i * 6 + 2, none⟩ = some (.int .i64 (ls i).b) ∧ w.cell? ⟨b, off + i * 6 + 3, none⟩ = some (.int .i64 (ls i).pb) ∧ w.cell? ⟨b, off + i * 6 + 4, none⟩ = some (.int .i64 (ls i).cost) ∧ w.cell? ⟨b, off + i * 6 + 5, none⟩ = some (.bool (ls i).up) := by
 obtain ⟨b', off', e, _, hc⟩ := h.2 (by omega)
 cases e
 exact ⟨hc i hi 0 (by omega), hc i hi 1 (by omega), hc i hi 2 (by omega), hc i hi 3 (by omega), hc i hi 4 (by omega), hc i hi 5 (by omega)⟩
theorem ERow.cells {w : World} {b off n cap : Nat} {es : Nat → En} (h : ERow w (some ⟨b, off, none⟩) n cap es) {i : Nat} (hi : i < n) :
  w.cell? ⟨b, off + i * 5, none⟩ = some (.int .i64 (es i).port) ∧ w.cell? ⟨b, off + i * 5 + 1, none⟩ = some (.int .i64 (es i).cost) ∧ w.cell? ⟨b, off + i * 5 + 2, none⟩ = some (.int .i64 (es i).other) ∧ w.cell? ⟨b, off + i * 5 + 3, none⟩ = some (.int .i64 (es i).oport) ∧ w.cell? ⟨b, off + i * 5 + 4, none⟩ = some (.bool (es i).live) := by
 obtain ⟨b', off', e, _, hc⟩ := h.2 (by omega)
 cases e
 exact ⟨hc i hi 0 (by omega), hc i hi 1 (by omega), hc i hi 2 (by omega), hc i hi 3 (by omega), hc i hi 4 (by omega)⟩
theorem PRow.cells {w : World} {b off n cap : Nat} {ps : Nat → Pc} (h : PRow w (some ⟨b, off, none⟩) n cap ps) {i : Nat} (hi : i < n) :
  w.cell? ⟨b, off + i * 7, none⟩ = some (.int .u64 (ps i).v.root) ∧ w.cell? ⟨b, off + i * 7 + 1, none⟩ = some (.int .i64 (ps i).v.cost) ∧ w.cell? ⟨b, off + i * 7 + 2, none⟩ = some (.int .u64 (ps i).v.bridge) ∧ w.cell? ⟨b, off + i * 7 + 3, none⟩ = some (.int .i64 (ps i).v.port) ∧ w.cell? ⟨b, off + i * 7 + 4, none⟩ = some (.int .i64 (ps i).rp) ∧ w.cell? ⟨b, off + i * 7 + 5, none⟩ = some (.slice (ps i).pao (ps i).pn (ps i).pcap) ∧ w.cell? ⟨b, off + i * 7 + 6, none⟩ = some (.slice (ps i).rao (ps i).rn (ps i).rcap) := by
 obtain ⟨b', off', e, _, hc⟩ := h.2 (by omega)
 cases e
 exact ⟨hc i hi 0 (by omega), hc i hi 1 (by omega), hc i hi 2 (by omega), hc i hi 3 (by omega), hc i hi 4 (by omega), hc i hi 5 (by omega), hc i hi 6 (by omega)⟩
namespace Pl
def Br.at' (b : Br) (w : World) : Prop := IRow w b.pao b.pn b.pcap b.pv ∧ b.reg.at' w ∧ b.pn ≤ 9223372036854775807 ∧ b.reg.n ≤ 9223372036854775807
theorem Br.at'.below {b : Br} {w w' : World} (h : b.at' w) (hb : Below w.heap.size w w') : b.at' w' := ⟨CRow.below h.1 hb, h.2.1.below hb, h.2.2⟩
structure Net.at' (n : Net) (w : World) : Prop where
 brs : BRow w n.bao n.K n.bcap n.bs
 each : ∀ i, i < n.K → (n.bs i).at' w
 lks : LRow w n.lao n.L n.lcap n.ls
 manyB : n.K ≤ 9223372036854775807
 manyL : n.L ≤ 9223372036854775807
theorem Net.at'.below {n : Net} {w w' : World} (h : n.at' w) (hb : Below w.heap.size w w') : n.at' w' := ⟨CRow.below h.brs hb, fun i hi => (h.each i hi).below hb, CRow.below h.lks hb, h.manyB, h.manyL⟩
def Net.val (n : Net) : Value := .agg #[.slice n.bao n.K n.bcap, .slice n.lao n.L n.lcap]
def brErr (b : Br) : Int := if 281474976710655 < b.addr then 3 else if 16 < b.pn then 5 else if Vc.someTo (fun i => oddP (b.pv i)) b.pn = true then 3 else Rg.wrong b.reg.s b.reg.rev b.reg.vs b.reg.ts b.reg.n
def bErr (bs : Nat → Br) (i : Nat) : Int := if brErr (bs i) ≠ 0 then brErr (bs i) else if Vc.someTo (fun j => decide ((bs j).addr = (bs i).addr)) i = true then 7 else 0
def Net.wrong (n : Net) : Int × Int := if 12 < n.K ∨ 40 < n.L then (5, 0) else if (firstTo (bErr n.bs) n.K).1 ≠ 0 then firstTo (bErr n.bs) n.K else firstTo (lErr n.K n.ls) n.L
def Br.prio (b : Br) (tree : Int) : Int := if 0 ≤ tree ∧ tree ≤ (b.pn : Int) - 1 then b.pv tree.toNat else 32768
def Br.id (b : Br) (tree : Int) : Int := b.prio tree * 281474976710656 + b.addr
def Net.live (n : Net) (k : Nat) : Bool := (n.ls k).up && decide (strOf 50 (n.bs (n.ls k).a.toNat).reg.id = strOf 50 (n.bs (n.ls k).b.toNat).reg.id)
def Net.ids (n : Net) (tree : Int) (i : Nat) : Int := (n.bs i).id tree
def Net.ends (n : Net) (i : Nat) : List En := Pl.ends n.ls n.live n.L i
def Net.says (n : Net) (tree : Int) : Nat → St := fin (n.ids tree) n.ends n.K
end Pl
end Go.Proofs.YtaneiffnhphkhaaGreatDoor
namespace Go.Proofs.YtaneiffnhphkhaaGreatDoor
open Go.RowKit
open Pl (Br Net Pc Lk En St)
set_option maxHeartbeats 400000 in
theorem pisprio_any (p : Int) (w : World) :
  Calls Tryz.prog 103 #[.int .i64 p] w fun e w' => e = .returned (.bool (!Pl.oddP p)) ∧ w' = w := by
 have HW : Hid (∀ W, Calls Tryz.prog 30 #[.int .i64 p, .int .i64 0, .int .i64 61440] W fun e w' => e = .returned (.bool (decide (0 ≤ p ∧ p ≤ 61440))) ∧ w' = W) := fun W => gwithin_any p 0 61440 W
 unfold Pl.oddP
 by_cases h1 : 0 ≤ p ∧ p ≤ 61440
 ·rw [decide_eq_true h1] at HW ⊢
  have hr : p.tmod 4096 = p % 4096 := Int.tmod_eq_emod_of_nonneg h1.1
  have hw : IntKind.i64.wrap (p % 4096) = p % 4096 := wraps_i64 _ (by omega) (by omega)
  by_cases h2 : p % 4096 = 0
  ·have hd : (p.tmod 4096 == 0) = true := by rw [hr]; simp [h2]
   go_enter Tryz.func103, Tryz.ntmps103
   go_wp2_with (go_at_call 30; refine (HW.out _).mono ?_; rintro e w1 ⟨rfl, rfl⟩)
   go_ret
   exact ⟨by simp [h2], rfl⟩
  ·have hd : (p.tmod 4096 == 0) = false := by rw [hr]; simp [h2]
   go_enter Tryz.func103, Tryz.ntmps103
   go_wp2_with (go_at_call 30; refine (HW.out _).mono ?_; rintro e w1 ⟨rfl, rfl⟩)
   go_ret
   exact ⟨by simp [h2], rfl⟩
 ·rw [decide_eq_false h1] at HW ⊢
  go_enter Tryz.func103, Tryz.ntmps103
  go_wp2_with (go_at_call 30; refine (HW.out _).mono ?_; rintro e w1 ⟨rfl, rfl⟩)
  go_ret
  exact ⟨rfl, rfl⟩
theorem podd_any (p : Int) (w : World) :
  Calls Tryz.prog 114 #[.int .i64 p] w fun e w' => e = .returned (.bool (Pl.oddP p)) ∧ w' = w := by
 have HW : Hid (∀ W, Calls Tryz.prog 103 #[.int .i64 p] W fun e w' => e = .returned (.bool (!Pl.oddP p)) ∧ w' = W) := fun W => pisprio_any p W
 generalize Pl.oddP p = b at *
 go_enter Tryz.func114, Tryz.ntmps114
 go_wp2_with (go_at_call 103; refine (HW.out _).mono ?_; rintro e w1 ⟨rfl, rfl⟩)
 go_ret
 exact ⟨by simp, rfl⟩
set_option maxHeartbeats 400000 in
theorem pindex_any (ao : Option Addr) (n cap : Nat) (f : Nat → Int) (w : World) (hn : n ≤ 16) (hr : IRow w ao n cap f) :
  Calls Tryz.prog 142 #[.slice ao n cap, .func (.func 114) #[] #[]] w fun e w' => ∃ r : Int, e = .returned (.int .i64 r) ∧ decide (0 ≤ r) = Vc.someTo (fun i => Pl.oddP (f i)) n ∧ w' = w := by
 have HR : Hid (IRow w ao n cap f) := hr
 clear hr
 go_enter Tryz.func142, Tryz.ntmps142
 go_wp2_with fail
 go_loopw [8] (fun i wr => ∃ k : Nat, k ≤ n ∧ i = .int .i64 k ∧ Hid (Vc.someTo (fun i => Pl.oddP (f i)) k = false) ∧ wr = w) (fun i _ => n - (intOf i).toNat)
 case atStart => exact ⟨0, by omega, rfl, rfl, rfl⟩
 case round =>
  obtain ⟨k, hk, rfl, hX, rfl⟩ := hrel
  by_cases hlt : k < n
  ·obtain ⟨b, off, rfl, hb⟩ := CRow.some HR.out (by omega)
   have hcap := HR.out.1
   have c4 : wr.cell? ⟨b, off + k, none⟩ = some (.int .i64 (f k)) := IRow.cells HR.out hlt
   have HS1 : Hid (Pl.oddP (f k) = true → Vc.someTo (fun i => Pl.oddP (f i)) n = true) := fun h => someTo_stay _ k h n hlt
   have HS2 : Hid (Pl.oddP (f k) = false → Vc.someTo (fun i => Pl.oddP (f i)) (k + 1) = false) := fun h => by
    show (Vc.someTo _ k || Pl.oddP (f k)) = false
    rw [h, hX.out]; rfl
   clear HR hX
   generalize f k = c at *
   cases ho : Pl.oddP c with
   | true =>
    have HO : Hid (Pl.oddP c = true) := ho
    clear ho
    go_wp2_with (go_at_call 114; refine (podd_any _ _).mono ?_; rintro e w1 ⟨rfl, rfl⟩; rw [HO.out])
    go_ret
    exact ⟨_, rfl, by rw [HS1.out HO.out]; simp, rfl⟩
   | false =>
    have HO : Hid (Pl.oddP c = false) := ho
    clear ho
    go_wp2_with (go_at_call 114; refine (podd_any _ _).mono ?_; rintro e w1 ⟨rfl, rfl⟩; rw [HO.out])
    exact ⟨⟨k + 1, by omega, by go_num, HS2.out HO.out, trivial⟩, by simp [intOf]; omega⟩
  ·obtain rfl : k = n := by omega
   go_wp2
   go_ret
   exact ⟨_, rfl, by rw [hX.out]; decide, rfl⟩
set_option maxHeartbeats 400000 in
theorem pcontains_any (ao : Option Addr) (n cap : Nat) (f : Nat → Int) (w : World) (hn : n ≤ 16) (hr : IRow w ao n cap f) :
  Calls Tryz.prog 115 #[.slice ao n cap, .func (.func 114) #[] #[]] w fun e w' => e = .returned (.bool (Vc.someTo (fun i => Pl.oddP (f i)) n)) ∧ w' = w := by
 have HR : Hid (IRow w ao n cap f) := hr
 clear hr
 go_enter Tryz.func115, Tryz.ntmps115
 go_wp2_with (go_at_call 142; refine (pindex_any _ _ _ f _ hn HR.out).mono ?_; rintro e w1 ⟨r, rfl, hq, rfl⟩; have HQ : Hid (decide (0 ≤ r) = Vc.someTo (fun i => Pl.oddP (f i)) n) := hq; clear hq)
 go_ret
 exact ⟨by rw [HQ.out]; rfl, rfl⟩
theorem br_cells {w : World} {g : Nat} {a0 a1 a2 a3 a4 : Value} {ty : TypeId} (h : w.heap[g]? = some (.cells #[a0, a1, a2, a3, a4] ty (0, 0))) :
  w.cell? ⟨g, 0, none⟩ = some a0 ∧ w.cell? ⟨g, 1, none⟩ = some a1 ∧ w.cell? ⟨g, 2, none⟩ = some a2 ∧ w.cell? ⟨g, 3, none⟩ = some a3 ∧ w.cell? ⟨g, 4, none⟩ = some a4 :=
 ⟨cell_of_row w g 0 _ _ _ h, cell_of_row w g 1 _ _ _ h, cell_of_row w g 2 _ _ _ h, cell_of_row w g 3 _ _ _ h, cell_of_row w g 4 _ _ _ h⟩
def brA (b : Br) : Array Value := #[.int .u64 b.addr, .slice b.pao b.pn b.pcap, .string b.reg.s, .int .i64 b.reg.rev, .slice b.reg.ao b.reg.n b.reg.cap]
set_option maxHeartbeats 1000000 in
theorem pwrongBridge_any (b : Br) (w : World) (hb : b.at' w) :
  Calls Tryz.prog 83 #[.agg (brA b)] w fun e w' => e = .returned (.int .i64 (Pl.brErr b)) ∧ Below w.heap.size w w' := by
 obtain ⟨hp, hreg, hn1, hn2⟩ := hb
 have HX : Hid (∀ W, W = w.alloc (.cells (brA b) 74) → b.pn ≤ 16 → Calls Tryz.prog 115 #[.slice b.pao b.pn b.pcap, .func (.func 114) #[] #[]] W fun e w' => e = .returned (.bool (Vc.someTo (fun i => Pl.oddP (b.pv i)) b.pn)) ∧ w' = W) := fun W hW h => pcontains_any _ _ _ _ W h (hp.below (by rw [hW]; exact below_alloc1 _ _))
 have HG : Hid (∀ W, W = w.alloc (.cells (brA b) 74) → Calls Tryz.prog 116 #[.agg #[.string b.reg.s, .int .i64 b.reg.rev, .slice b.reg.ao b.reg.n b.reg.cap]] W fun e w' => e = .returned (.int .i64 (Rg.wrong b.reg.s b.reg.rev b.reg.vs b.reg.ts b.reg.n)) ∧ Below w.heap.size w w') := fun W hW => by
  have hbl : Below w.heap.size w W := by rw [hW]; exact below_alloc1 _ _
  refine (gwrong_any b.reg.s b.reg.rev b.reg.ao b.reg.n b.reg.cap b.reg.vs b.reg.ts W hn2 (hreg.below hbl)).mono ?_
  rintro e w' ⟨rfl, h2⟩
  exact ⟨rfl, hbl.trans (h2.mono hbl.size)⟩
 have HA : Hid ((w.alloc (.cells (brA b) 74)).heap[w.heap.size]? = some (.cells (brA b) 74 (0, 0))) := heap_alloc_last _ _
 obtain ⟨R, HR⟩ : ∃ R, Hid (R = Rg.wrong b.reg.s b.reg.rev b.reg.vs b.reg.ts b.reg.n) := ⟨_, rfl⟩
 obtain ⟨S, HS⟩ : ∃ S, Hid (S = Vc.someTo (fun i => Pl.oddP (b.pv i)) b.pn) := ⟨_, rfl⟩
 have HE : Hid (Pl.brErr b = if 281474976710655 < b.addr then 3 else if 16 < b.pn then 5 else if S = true then 3 else R) := by rw [HR.out, HS.out]; rfl
 rw [← HR.out] at HG
 rw [← HS.out] at HX
 clear HR HS hp hreg hn2
 obtain ⟨addr, pao, pn, pcap, pv, ⟨s, rev, ao, n, cap, vs, ts⟩⟩ := b
 simp only [brA] at *
 rw [HE.out]
 obtain ⟨q0, q1, q2, q3, q4⟩ := br_cells HA.out
 clear HA HE
 by_cases h1 : 281474976710655 < addr
 ·rw [if_pos h1]
  go_enter Tryz.func83, Tryz.ntmps83
  go_wp2_with fail
  go_ret
  exact ⟨rfl, below_alloc1 _ _⟩
 ·rw [if_neg h1]
  by_cases h2 : 16 < pn
  ·rw [if_pos h2]
   go_enter Tryz.func83, Tryz.ntmps83
   go_wp2_with fail
   go_ret
   exact ⟨rfl, below_alloc1 _ _⟩
  ·rw [if_neg h2]
   cases S with
   | true =>
    rw [if_pos rfl]
    go_enter Tryz.func83, Tryz.ntmps83
    go_wp2_with (go_at_call 115; refine (HX.out _ rfl (by omega)).mono ?_; rintro e w1 ⟨rfl, rfl⟩)
    go_ret
    exact ⟨rfl, below_alloc1 _ _⟩
   | false =>
    rw [if_neg (by decide)]
    go_enter Tryz.func83, Tryz.ntmps83
    go_wp2_with (first | (go_at_call 115; refine (HX.out _ rfl (by omega)).mono ?_; rintro e w1 ⟨rfl, rfl⟩) | (go_at_call 116; refine (HG.out _ rfl).mono ?_; rintro e w1 ⟨rfl, hb1⟩))
    go_ret
    exact ⟨rfl, hb1⟩
end Go.Proofs.YtaneiffnhphkhaaGreatDoor
namespace Go.Proofs.YtaneiffnhphkhaaGreatDoor
open Go.RowKit
def rowC (n k : Nat) (c : Nat → Nat → Value) : Array Value := (cellsL n k c).toArray
theorem rowC_size (n k : Nat) (c : Nat → Nat → Value) : (rowC n k c).size = n * k := by simp [rowC, cellsL]
theorem mul_add_lt {n k i j : Nat} (hi : i < n) (hj : j < k) : i * k + j < n * k := by
 have : (i + 1) * k ≤ n * k := Nat.mul_le_mul_right k (by omega)
 rw [Nat.add_mul] at this
 omega
theorem div_of {k i j : Nat} (hj : j < k) : (i * k + j) / k = i ∧ (i * k + j) % k = j := by
 have hk : 0 < k := by omega
 refine ⟨?_, ?_⟩
 ·rw [Nat.add_comm, Nat.add_mul_div_right _ _ hk, Nat.div_eq_of_lt hj, Nat.zero_add]
 ·rw [Nat.add_comm, Nat.add_mul_mod_self_right, Nat.mod_eq_of_lt hj]
theorem rowC_get {n k i j : Nat} (c : Nat → Nat → Value) (hi : i < n) (hj : j < k) : (rowC n k c)[i * k + j]? = some (c i j) := by
 have h := mul_add_lt hi hj
 simp [rowC, cellsL, h]
 obtain ⟨e1, e2⟩ := div_of (i := i) hj
 first | rw [e1, e2] | rw [e1, Nat.mod_eq_of_lt hj]
def updC (c : Nat → Nat → Value) (i j : Nat) (v : Value) : Nat → Nat → Value := fun i' j' => if i' = i ∧ j' = j then v else c i' j'
theorem rowC_put {n k i j : Nat} (c : Nat → Nat → Value) (hi : i < n) (hj : j < k) (v : Value) : (rowC n k c).setIfInBounds (i * k + j) v = rowC n k (updC c i j v) := by
 have hk : 0 < k := by omega
 apply Array.ext_getElem?
 intro x
 rw [Array.getElem?_setIfInBounds]
 by_cases hx : x < n * k
 ·have ex : x = (x / k) * k + x % k := by rw [Nat.mul_comm]; exact (Nat.div_add_mod x k).symm
  have h4 : x % k < k := Nat.mod_lt _ hk
  have hq : x / k < n := div_lt_of hk hx
  have e1 := rowC_get (updC c i j v) hq h4
  have e2 := rowC_get c hq h4
  rw [← ex] at e1 e2
  rw [e1, e2]
  by_cases q : i * k + j = x
  ·obtain ⟨d1, d2⟩ := div_of (i := i) hj
   rw [if_pos q, if_pos (by rw [rowC_size]; omega)]
   unfold updC
   rw [if_pos ⟨by rw [← q]; exact d1, by rw [← q]; exact d2⟩]
  ·rw [if_neg q]
   unfold updC
   rw [if_neg (fun p => q (by rw [← p.1, ← p.2]; exact ex.symm))]
 ·have hs := rowC_size n k c
  have hs2 := rowC_size n k (updC c i j v)
  have hl := mul_add_lt hi hj
  rw [if_neg (by omega), Array.getElem?_eq_none (by omega), Array.getElem?_eq_none (by omega)]
theorem rowC_congr {n k : Nat} {c d : Nat → Nat → Value} (h : ∀ i, i < n → c i = d i) : rowC n k c = rowC n k d := by
 unfold rowC
 rw [cellsL_congr n k c d h]
theorem rowC_congr2 {n k : Nat} {c d : Nat → Nat → Value} (h : ∀ i, i < n → ∀ j, j < k → c i j = d i j) : rowC n k c = rowC n k d := by
 unfold rowC cellsL
 congr 1
 apply List.map_congr_left
 intro x hx
 have hx : x < n * k := by simpa using hx
 have hk : 0 < k := by
  rcases Nat.eq_zero_or_pos k with e | e
  ·subst e; omega
  ·exact e
 exact h _ (div_lt_of hk hx) _ (Nat.mod_lt _ hk)
section
variable {w : World} {g n k : Nat} {c : Nat → Nat → Value} {ty : TypeId}
theorem rowC_cell (h : w.heap[g]? = some (.cells (rowC n k c) ty (0, 0))) {i j : Nat} (hi : i < n) (hj : j < k) : w.cell? ⟨g, i * k + j, none⟩ = some (c i j) := by
 have := rowC_get c hi hj
 simp only [World.cell?, h]
 simpa using this
theorem rowC_crow (h : w.heap[g]? = some (.cells (rowC n k c) ty (0, 0))) : CRow w (some ⟨g, 0, none⟩) n n k c :=
 ⟨Nat.le_refl _, fun _ => ⟨g, 0, rfl, (Array.getElem?_eq_some_iff.1 h).1, fun i hi j hj => by rw [Nat.zero_add]; exact rowC_cell h hi hj⟩⟩
theorem rowC_set (h : w.heap[g]? = some (.cells (rowC n k c) ty (0, 0))) {i j : Nat} (hi : i < n) (hj : j < k) (v : Value) : (w.setCell ⟨g, i * k + j, none⟩ v).heap[g]? = some (.cells (rowC n k (updC c i j v)) ty (0, 0)) := by
 rw [heap_setCell_same _ _ _ _ _ _ h, rowC_put c hi hj]
end
theorem made_rowC (z : Array Value) (k n : Nat) (hk : 0 < k) (hz : z.size = k) : madeCells z (n * k) = rowC n k (fun _ j => z.getD j undef) := by
 apply Array.ext_getElem?
 intro i
 by_cases h : i < n * k
 ·have ei : i = (i / k) * k + i % k := by rw [Nat.mul_comm]; exact (Nat.div_add_mod i k).symm
  have h4 : i % k < k := Nat.mod_lt _ hk
  have e := rowC_get (fun _ j => z.getD j undef) (div_lt_of hk h) h4
  rw [← ei] at e
  rw [e]
  have hlt : i % k < z.size := by omega
  simp [madeCells, h, hz]
  rw [getElem!_pos z (i % k) hlt]
  simp [hlt]
 ·rw [Array.getElem?_eq_none (by simp [madeCells]; omega), Array.getElem?_eq_none (by rw [rowC_size]; omega)]
theorem make_rowC (w : World) (t e : TypeId) (z : Value) (k bytes n : Nat) (ht : Tryz.prog.underlying t = some (.slice e)) (hinfo : (Tryz.prog.info? e).map (fun i => (i.zero, i.size, i.bytes)) = some (some z, k, bytes)) (hk : 0 < k) (hz : z.cells.size = k) (hn : n ≤ 1000) (hb : bytes ≤ 1000) :
  (Instr.makeSlice t (.int .i64 (n : Int)) (.int .i64 (n : Int))).run Tryz.prog w = .ok (.slice (some ⟨w.heap.size, 0, none⟩) n n) (w.alloc (.cells (rowC n k (fun _ j => z.cells.getD j undef)) e)) := by
 obtain ⟨i0, hi, hz0, hz1, hz2⟩ := info_parts hinfo
 have hm : (bytes : Int) * (n : Int) ≤ 281474976710656 := by
  have h1 : bytes * n ≤ 1000 * 1000 := Nat.mul_le_mul hb hn
  have h2 : ((bytes * n : Nat) : Int) ≤ 1000000 := by omega
  rw [Int.natCast_mul] at h2
  omega
 have h := run_make (P := Tryz.prog) w t e i0 z ht hi hz0 .i64 .i64 (n : Int) (n : Int) (by omega) (Int.le_refl _) (by rw [hz2]; exact hm) (by omega)
 rw [hz1, Int.toNat_natCast, made_rowC _ k n hk hz] at h
 exact h
theorem make_rowD (w : World) (t e : TypeId) (z : Value) (k bytes n : Nat) (ht : Tryz.prog.underlying t = some (.slice e)) (hinfo : (Tryz.prog.info? e).map (fun i => (i.zero, i.size, i.bytes)) = some (some z, k, bytes)) (hk : 0 < k) (hz : z.cells.size = k) (hn : n ≤ 1000) (hb : bytes ≤ 1000) (d : Nat → Nat → Value) (hd : ∀ i j, j < k → z.cells.getD j undef = d i j) :
  (Instr.makeSlice t (.int .i64 (n : Int)) (.int .i64 (n : Int))).run Tryz.prog w = .ok (.slice (some ⟨w.heap.size, 0, none⟩) n n) (w.alloc (.cells (rowC n k d) e)) := by
 have := make_rowC w t e z k bytes n ht hinfo hk hz hn hb
 rw [rowC_congr2 (d := d) (fun i _ j hj => hd i j hj)] at this
 exact this
end Go.Proofs.YtaneiffnhphkhaaGreatDoor
