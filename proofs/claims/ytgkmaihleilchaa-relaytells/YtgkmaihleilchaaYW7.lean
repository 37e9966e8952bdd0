/- walks: relay's Relay -/
import Derived.Test.YtgkmaihleilchaaYW6
import Derived.Test.YtgkmaihleilchaaBLe
import Derived.Test.YtgkmaihleilchaaBFe
import Derived.Test.YtgkmaihleilchaaGW3
import Derived.Laws.EntriesVeiled
namespace Go.Proofs.Ytgkmaihleilchaa
open Go.RowKit
open Bk (E at')
open Rl (G gat F O R)

/-- What Relay is told. -/
structure RelIn (w : World) (r : R) (ao : Option Addr) (cap : Nat) (l : List G) (bo : Option Addr) (bcap : Nat) (b : List E) (f : F) : Prop where
  ways : WayRow w r.ao r.n r.cap r.vs r.ts
  rn : r.n ≤ 9223372036854775807
  gates : GRow w ao cap l
  book : BEL w bo bcap b
  bn : b.length ≤ 9223372036854775807
  bnil : NilOk bo b.length bcap
  data : ByteRow w f.ao f.n f.cap f.bs
  dnil : NilOk f.ao f.n f.cap
  dst : 0 ≤ f.dst ∧ f.dst < 18446744073709551616
  src : 0 ≤ f.src ∧ f.src < 18446744073709551616
theorem RelIn.below {w w' : World} {r : R} {ao : Option Addr} {cap : Nat} {l : List G} {bo : Option Addr} {bcap : Nat} {b : List E} {f : F} (h : RelIn w r ao cap l bo bcap b f) (hb : Below w.heap.size w w') : RelIn w' r ao cap l bo bcap b f :=
  ⟨h.ways.below hb, h.rn, h.gates.below hb, BEL.below h.book hb, h.bn, h.bnil, h.data.below hb, h.dnil, h.dst, h.src⟩
/-- What it answers. -/
structure RelOut (w w' : World) (f : F) (res : Rl.Res) (oo : Option Addr) (oc : Nat) (os : List OV) (bo : Option Addr) (bc : Nat) : Prop where
  out : os.map OV.o = res.out
  row : ORw w' oo oc f os
  nil : NilOk oo os.length oc
  book : BEL w' bo bc res.book
  bnil : NilOk bo res.book.length bc
  low : Below w.heap.size w w'
  own : OwnO w' w.heap.size (.slice oo os.length oc) f os
  bown : OwnE w' w.heap.size (.slice bo res.book.length bc) res.book
theorem orTo4 (f : Nat → Int) : orTo f 4 = Rl.or4 (f 0) (f 1) (f 2) (f 3) := by
  by_cases h1 : f 0 = 0 <;> by_cases h2 : f 1 = 0 <;> by_cases h3 : f 2 = 0 <;> simp [orTo, Rl.or4, Rl.or3, h1, h2, h3]
theorem core4 (a b c d : Int) (g : Nat) (ty : TypeId) (w : World) (h : w.heap[g]? = some (.cells #[.int .i64 a, .int .i64 b, .int .i64 c, .int .i64 d] ty (0, 0))) :
    Calls Try.prog 22 #[.slice (some ⟨g, 0, none⟩) 4 4] w fun e w' => e = .returned (.int .i64 (Rl.or4 a b c d)) ∧ w' = w := by
  have := corey_any g 0 4 4 (fun i => if i = 0 then a else if i = 1 then b else if i = 2 then c else d) w (by omega) (by omega) (fun i hi => by
    rcases (by omega : i = 0 ∨ i = 1 ∨ i = 2 ∨ i = 3) with e | e | e | e <;> subst e
    · exact cell_of_row w g 0 _ _ _ h
    · exact cell_of_row w g 1 _ _ _ h
    · exact cell_of_row w g 2 _ _ _ h
    · exact cell_of_row w g 3 _ _ _ h)
  rw [orTo4] at this
  exact this
theorem or4_zero {a b c d : Int} (h : Rl.or4 a b c d = 0) : a = 0 ∧ b = 0 ∧ c = 0 ∧ d = 0 := by
  unfold Rl.or4 at h
  by_cases h1 : a = 0
  · rw [if_pos h1] at h
    exact ⟨h1, Rl.or3_zero h⟩
  · rw [if_neg h1] at h; exact absurd h h1
theorem fwrong_n {f : F} (h : f.wrong = 0) : f.n ≤ 1500 := by
  unfold F.wrong wrong at h
  repeat' split at h
  all_goals first | omega | (exact absurd h (by decide))
theorem below_up {w W W' : World} (h : Below w.heap.size w W) (k : Below W.heap.size W W') : Below w.heap.size w W' := h.trans (k.mono h.size)
set_option maxRecDepth 20000 in
set_option maxHeartbeats 8000000 in
theorem relay_any (r : R) (ao : Option Addr) (cap : Nat) (l : List G) (bo : Option Addr) (bcap : Nat) (bk : List E) (p : Int) (f : F) (w : World) (hin : RelIn w r ao cap l bo bcap bk f) :
    Calls Try.prog 11 #[.agg #[.string r.name, .int .i64 r.rev, .slice r.ao r.n r.cap], .slice ao l.length cap, .slice bo bk.length bcap, .int .i64 p, .agg #[.int .u64 f.dst, .int .u64 f.src, .bool f.tagged, .int .i64 f.prio, .bool f.drop, .int .i64 f.vid, .int .i64 f.type, .slice f.ao f.n f.cap]] w fun e w' => ∃ oo oc os bo' bc', e = .returned (.tuple #[.slice oo os.length oc, .slice bo' (Rl.relay r l bk p f).book.length bc', .int .i64 (Rl.relay r l bk p f).err]) ∧ RelOut w w' f (Rl.relay r l bk p f) oo oc os bo' bc' := by
  obtain ⟨W0, HW0⟩ : ∃ W0, Hid (W0 = ((w.alloc (.cells #[.string r.name, .int .i64 r.rev, .slice r.ao r.n r.cap] 24)).alloc (.cells #[.int .i64 p] 3)).alloc (.cells #[.int .u64 f.dst, .int .u64 f.src, .bool f.tagged, .int .i64 f.prio, .bool f.drop, .int .i64 f.vid, .int .i64 f.type, .slice f.ao f.n f.cap] 30)) := ⟨_, rfl⟩
  obtain ⟨b1, b2, b3, b4⟩ := alloc3 w (.cells #[.string r.name, .int .i64 r.rev, .slice r.ao r.n r.cap] 24) (.cells #[.int .i64 p] 3) (.cells #[.int .u64 f.dst, .int .u64 f.src, .bool f.tagged, .int .i64 f.prio, .bool f.drop, .int .i64 f.vid, .int .i64 f.type, .slice f.ao f.n f.cap] 30)
  rw [← HW0.out] at b1 b2 b3 b4
  have HB0 : Hid (Below W0.heap.size W0 W0) := Below.refl _ _
  have HWB : Hid (∀ W, Below W0.heap.size W0 W → Below w.heap.size w W) := fun W hW => below_up b4 hW
  have HC : Hid (∀ W, Below W0.heap.size W0 W → ((W.cell? ⟨w.heap.size, 0, none⟩ = some (.string r.name) ∧ W.cell? ⟨w.heap.size, 1, none⟩ = some (.int .i64 r.rev) ∧ W.cell? ⟨w.heap.size, 2, none⟩ = some (.slice r.ao r.n r.cap)) ∧ W.cell? ⟨w.heap.size + 1, 0, none⟩ = some (.int .i64 p) ∧ (W.cell? ⟨w.heap.size + 1 + 1, 0, none⟩ = some (.int .u64 f.dst) ∧ W.cell? ⟨w.heap.size + 1 + 1, 1, none⟩ = some (.int .u64 f.src) ∧ W.cell? ⟨w.heap.size + 1 + 1, 2, none⟩ = some (.bool f.tagged) ∧ W.cell? ⟨w.heap.size + 1 + 1, 3, none⟩ = some (.int .i64 f.prio) ∧ W.cell? ⟨w.heap.size + 1 + 1, 4, none⟩ = some (.bool f.drop) ∧ W.cell? ⟨w.heap.size + 1 + 1, 5, none⟩ = some (.int .i64 f.vid) ∧ W.cell? ⟨w.heap.size + 1 + 1, 6, none⟩ = some (.int .i64 f.type) ∧ W.cell? ⟨w.heap.size + 1 + 1, 7, none⟩ = some (.slice f.ao f.n f.cap)))) := fun W hW => ⟨rg_cells (keep b1 hW), cell_of_row W _ 0 _ _ _ (keep b2 hW), fr_cells (keep b3 hW)⟩
  have HH : Hid (∀ W, Below W0.heap.size W0 W → W.heap[w.heap.size + 1]? = some (.cells #[.int .i64 p] 3 (0, 0))) := fun W hW => keep b2 hW
  have HIN : Hid (∀ W, Below W0.heap.size W0 W → RelIn W r ao cap l bo bcap bk f) := fun W hW => (hin.below b4).below hW
  have HC1 : Hid (∀ W, Below W0.heap.size W0 W → Calls Try.prog 27 #[.agg #[.string r.name, .int .i64 r.rev, .slice r.ao r.n r.cap]] W fun e w' => e = .returned (.int .i64 r.wrong) ∧ Hid (Below W0.heap.size W0 w')) := fun W hW => (gwrong_any r.name r.rev r.ao r.n r.cap r.vs r.ts W (HIN.out W hW).rn (HIN.out W hW).ways).mono (fun e w' h => ⟨h.1, below_up hW h.2⟩)
  have HC2 : Hid (∀ W, Below W0.heap.size W0 W → Calls Try.prog 9 #[.slice ao l.length cap] W fun e w' => e = .returned (.agg #[.int .i64 (Rl.wrong l).1, .int .i64 (Rl.wrong l).2]) ∧ Hid (Below W0.heap.size W0 w')) := fun W hW => (gwrong9_any ao cap l W (HIN.out W hW).gates).mono (fun e w' h => ⟨h.1, below_up hW h.2⟩)
  have HC3 : Hid (∀ W, Below W0.heap.size W0 W → Calls Try.prog 28 #[.slice bo bk.length bcap] W fun e w' => e = .returned (.agg #[.int .i64 (Bk.wrong (at' bk) bk.length).1, .int .i64 (Bk.wrong (at' bk) bk.length).2]) ∧ Hid (Below W0.heap.size W0 w')) := fun W hW => (bwrong_any bo bcap bk W (HIN.out W hW).bn (HIN.out W hW).book).mono (fun e w' h => ⟨h.1, below_up hW h.2⟩)
  have HC4 : Hid (∀ W, Below W0.heap.size W0 W → Calls Try.prog 29 #[.agg #[.int .u64 f.dst, .int .u64 f.src, .bool f.tagged, .int .i64 f.prio, .bool f.drop, .int .i64 f.vid, .int .i64 f.type, .slice f.ao f.n f.cap]] W fun e w' => e = .returned (.int .i64 f.wrong) ∧ Hid (Below W0.heap.size W0 w')) := fun W hW => (wrong_any f.dst f.src f.tagged f.prio f.drop f.vid f.type f.ao f.n f.cap W (HIN.out W hW).src.1 (HIN.out W hW).src.2).mono (fun e w' h => ⟨h.1, below_up hW h.2⟩)
  have HC5 : Hid (∀ W, Below W0.heap.size W0 W → Calls Try.prog 22 #[.slice (some ⟨W.heap.size, 0, none⟩) 4 4] (W.alloc (.cells #[.int .i64 r.wrong, .int .i64 (Rl.wrong l).1, .int .i64 (Bk.wrong (at' bk) bk.length).1, .int .i64 f.wrong] 31)) fun e w' => e = .returned (.int .i64 (Rl.errR r l bk f)) ∧ Hid (Below W0.heap.size W0 w')) := fun W hW => (core4 _ _ _ _ W.heap.size _ _ (heap_alloc_last _ _)).mono (fun e w' h => ⟨h.1, by rw [h.2]; exact hW.alloc hW.size _⟩)
  have hfd : ∀ (a b : Int) (W : World), (Instr.field 33 (.agg #[.int .i64 a, .int .i64 b]) 0).run Try.prog W = .ok (.int .i64 a) W := fa_err
  have HOK : Hid (Rl.errR r l bk f = 0 → Rg.Right r.vs r.ts r.n ∧ Rl.Right l ∧ Bk.Book bk ∧ f.n ≤ 1500) := fun h => by
    obtain ⟨h1, h2, h3, h4⟩ := or4_zero h
    exact ⟨(Rg.wrong_zero h1).2.2, Rl.right_of h2, Bk.wrong_book.1 h3, fwrong_n h4⟩
  have HNE : Hid (Rl.errR r l bk f ≠ 0 → Rl.relay r l bk p f = ⟨[], [], Rl.errR r l bk f⟩) := fun h => if_neg h
  have HEQ : Hid (Rl.errR r l bk f = 0 → Rl.relay r l bk p f = (if Rl.idx l p l.length < 0 then ⟨[], [], 6⟩ else if Rl.stays r l p f = true then ⟨[], bk, 0⟩ else ⟨Rl.outs r l bk p f, Rl.learnt bk l p f, 0⟩)) := fun h => if_pos h
  have HNONE : Hid (∀ W err, Below W0.heap.size W0 W → RelOut w W f ⟨[], [], err⟩ none 0 [] none 0) := fun W err hW => ⟨rfl, ⟨CRow.none _ _ _ _ _, fun x h => by simp at h⟩, fun _ => ⟨rfl, rfl⟩, CRow.none _ _ _ _ _, fun _ => ⟨rfl, rfl⟩, HWB.out W hW, OwnO.nil _ _ _, OwnE.nil _ _⟩
  obtain ⟨⟨c0, c1, c2⟩, c3, c4, c5, c6, c7, c8, c9, c10, c11⟩ := HC.out W0 HB0.out
  clear b1 b2 b3 b4 hin
  generalize hrw : r.wrong = e1 at *
  generalize hgw : (Rl.wrong l).1 = e2 at *
  generalize hgw2 : (Rl.wrong l).2 = e2' at *
  generalize hbw : (Bk.wrong (at' bk) bk.length).1 = e3 at *
  generalize hbw2 : (Bk.wrong (at' bk) bk.length).2 = e3' at *
  generalize hfw : f.wrong = e4 at *
  clear hrw hgw hgw2 hbw hbw2 hfw
  go_enter Try.func11, Try.ntmps11
  go_wp2_with fail
  rw [← HW0.out]
  go_cut [13] (fun v W => v = .int .i64 (Rl.errR r l bk f) ∧ Hid (Below W0.heap.size W0 W))
  case first =>
    go_region_held3 (fun W => ((W.cell? ⟨w.heap.size, 0, none⟩ = some (.string r.name) ∧ W.cell? ⟨w.heap.size, 1, none⟩ = some (.int .i64 r.rev) ∧ W.cell? ⟨w.heap.size, 2, none⟩ = some (.slice r.ao r.n r.cap)) ∧ W.cell? ⟨w.heap.size + 1, 0, none⟩ = some (.int .i64 p) ∧ (W.cell? ⟨w.heap.size + 1 + 1, 0, none⟩ = some (.int .u64 f.dst) ∧ W.cell? ⟨w.heap.size + 1 + 1, 1, none⟩ = some (.int .u64 f.src) ∧ W.cell? ⟨w.heap.size + 1 + 1, 2, none⟩ = some (.bool f.tagged) ∧ W.cell? ⟨w.heap.size + 1 + 1, 3, none⟩ = some (.int .i64 f.prio) ∧ W.cell? ⟨w.heap.size + 1 + 1, 4, none⟩ = some (.bool f.drop) ∧ W.cell? ⟨w.heap.size + 1 + 1, 5, none⟩ = some (.int .i64 f.vid) ∧ W.cell? ⟨w.heap.size + 1 + 1, 6, none⟩ = some (.int .i64 f.type) ∧ W.cell? ⟨w.heap.size + 1 + 1, 7, none⟩ = some (.slice f.ao f.n f.cap))))
      (first | (exact HC.out _ (Hid.out (by assumption))) | (exact HC.out _ (Below.drew (Hid.out (by assumption)))) | (exact HC.out _ (below_al (Hid.out (by assumption)) _)))
      (first | (go_at_call 27; refine (HC1.out _ (by first | exact (Hid.out (by assumption)) | exact Below.drew (Hid.out (by assumption)))).mono ?_; rintro e w1 ⟨rfl, HB⟩) | (go_at_call 9; refine (HC2.out _ (by first | exact (Hid.out (by assumption)) | exact Below.drew (Hid.out (by assumption)))).mono ?_; rintro e w1 ⟨rfl, HB⟩) | (go_at_call 28; refine (HC3.out _ (by first | exact (Hid.out (by assumption)) | exact Below.drew (Hid.out (by assumption)))).mono ?_; rintro e w1 ⟨rfl, HB⟩) | (go_at_call 29; refine (HC4.out _ (by first | exact (Hid.out (by assumption)) | exact Below.drew (Hid.out (by assumption)))).mono ?_; rintro e w1 ⟨rfl, HB⟩) | (go_at_call 22; refine (HC5.out _ (by first | exact (Hid.out (by assumption)) | exact Below.drew (Hid.out (by assumption)))).mono ?_; rintro e w1 ⟨rfl, HB⟩))
    all_goals go_wp2_with fail
    all_goals go_meet
    all_goals exact ⟨rfl, HB⟩
  case rest =>
  obtain ⟨rfl, HB1⟩ := hcut
  clear HC1 HC2 HC3 HC4 HC5 hfd c0 c1 c2 c3 c4 c5 c6 c7 c8 c9 c10 c11
  obtain ⟨⟨c0, c1, c2⟩, c3, c4, c5, c6, c7, c8, c9, c10, c11⟩ := HC.out wc HB1.out
  by_cases he : Rl.errR r l bk f = 0
  · have HX : Hid _ := HEQ.out he
    obtain ⟨hR, hG, hBk, hN⟩ := HOK.out he
    have hmany := hG.many
    rw [he]
    clear HEQ HNE HOK he
    have HIX : Hid (Calls Try.prog 30 #[.slice ao l.length cap, .func (.func 31) #[] #[.pointer (some ⟨w.heap.size + 1, 0, none⟩)]] wc fun e w' => e = .returned (.int .i64 (Rl.idx l p l.length)) ∧ Hid (Below W0.heap.size W0 w')) := (gindex9_any ao cap l (w.heap.size + 1) p wc (HIN.out wc HB1.out).gates c3).mono (fun e w' h => ⟨h.1, below_up HB1.out h.2⟩)
    rcases Rl.idx_cases l p l.length with ⟨h1, _⟩ | ⟨k, hk, h1, h2, _⟩
    · rw [h1] at HX HIX
      have HX2 : Hid (Rl.relay r l bk p f = ⟨[], [], 6⟩) := HX.out
      clear HX HIN hR hG hBk hN h1
      go_wp2_with (go_at_call 30; refine HIX.out.mono ?_; rintro e w2 ⟨rfl, HB2⟩)
      go_ret3
      exact ⟨none, 0, [], none, 0, by rw [HX2.out]; rfl, by rw [HX2.out]; exact HNONE.out _ 6 HB2.out⟩
    · have hin : Rl.inG l p = gat l k := by unfold Rl.inG; rw [h1, Int.toNat_natCast]
      obtain ⟨b, off, rfl, _⟩ := (HIN.out wc HB1.out).gates.place (by omega)
      have hcap : l.length ≤ cap := (HIN.out wc HB1.out).gates.row.1
      obtain ⟨x, hx⟩ : ∃ x, x = gat l k := ⟨_, rfl⟩
      obtain ⟨way, hway⟩ : ∃ way, way = Rl.wayOf f x := ⟨_, rfl⟩
      obtain ⟨tr, htr⟩ : ∃ tr, tr = r.tree way := ⟨_, rfl⟩
      have HGC : Hid (∀ W, Below W0.heap.size W0 W → W.cell? ⟨b, off + k * 4, none⟩ = some (.int .i64 x.port) ∧ W.cell? ⟨b, off + k * 4 + 1, none⟩ = some (.slice x.wo x.ways.length x.wcap) ∧ W.cell? ⟨b, off + k * 4 + 2, none⟩ = some (.int .i64 x.plain) ∧ W.cell? ⟨b, off + k * 4 + 3, none⟩ = some (.slice x.oo x.opens.length x.ocap)) := fun W hW => by rw [hx]; exact (HIN.out W hW).gates.cells hk
      have HGI : Hid (∀ W, Below W0.heap.size W0 W → GIn W x) := fun W hW => by rw [hx]; exact (HIN.out W hW).gates.at hk
      have HSY : Hid (Rl.stays r l p f = (!Rl.passes x tr way || Rl.res f.dst)) := by
        show Rl.stays r l p f = _
        unfold Rl.stays
        rw [hin, ← hx, ← hway, ← htr]
      have HX1 : Hid (Rl.stays r l p f = true → Rl.relay r l bk p f = ⟨[], bk, 0⟩) := fun h => by
        rw [HX.out, h1, if_neg (by omega), if_pos h]
      have HX2 : Hid (Rl.stays r l p f = false → Rl.relay r l bk p f = ⟨Rl.outs r l bk p f, Rl.learnt bk l p f, 0⟩) := fun h => by
        rw [HX.out, h1, if_neg (by omega), if_neg (by simp [h])]
      have HLN : Hid (Rl.learnt bk l p f = Bk.learn bk ⟨way, f.src, p, 0⟩) := by
        show Rl.learnt bk l p f = _
        unfold Rl.learnt
        rw [hin, ← hx, ← hway]
      have HOU : Hid (Rl.outs r l bk p f = (l.filter (fun g => decide (g.port ≠ p) && (Rl.passes g tr way && (!decide (Bk.Known (Rl.learnt bk l p f) (sought way f.dst)) || decide (g.port = Bk.lookP (Rl.learnt bk l p f) (sought way f.dst)))))).map (Rl.leave f way)) := by
        show Rl.outs r l bk p f = _
        unfold Rl.outs
        rw [hin, ← hx, ← hway]
        unfold Rl.leads
        rw [← htr]
      have HWY : Hid (∀ W, Below W0.heap.size W0 W → Calls Try.prog 32 #[.agg #[.int .u64 f.dst, .int .u64 f.src, .bool f.tagged, .int .i64 f.prio, .bool f.drop, .int .i64 f.vid, .int .i64 f.type, .slice f.ao f.n f.cap], .agg #[.int .i64 x.port, .slice x.wo x.ways.length x.wcap, .int .i64 x.plain, .slice x.oo x.opens.length x.ocap]] W fun e w' => e = .returned (.int .i64 way) ∧ Hid (Below W0.heap.size W0 w')) := fun W hW => by rw [hway]; exact (wayOf_any f x W).mono (fun e w' h => ⟨h.1, below_up hW h.2⟩)
      have HTR : Hid (∀ W, Below W0.heap.size W0 W → Calls Try.prog 21 #[.agg #[.string r.name, .int .i64 r.rev, .slice r.ao r.n r.cap], .int .i64 way] W fun e w' => e = .returned (.int .i64 tr) ∧ Hid (Below W0.heap.size W0 w')) := fun W hW => by rw [htr]; exact (gtree_any r.name r.rev r.ao r.n r.cap r.vs r.ts way W hR (HIN.out W hW).ways).mono (fun e w' h => ⟨h.1, below_up hW h.2⟩)
      have ik : (0 : Int) ≤ (k : Int) := by omega
      have nk : (k : Int) < (l.length : Int) := by omega
      rw [h1] at HIX
      clear h1 h2 hin HX hway htr hx hR
      go_wp2_with fail
      refine HIX.out.mono ?_
      rintro e w2 ⟨rfl, HB2⟩
      clear HIX c0 c1 c2 c3 c4 c5 c6 c7 c8 c9 c10 c11
      obtain ⟨⟨c0, c1, c2⟩, c3, c4, c5, c6, c7, c8, c9, c10, c11⟩ := HC.out w2 HB2.out
      obtain ⟨g0, g1, g2, g3⟩ := HGC.out w2 HB2.out
      have HS7 : Hid (∀ W, Below W0.heap.size W0 W → ((W.cell? ⟨w.heap.size, 0, none⟩ = some (.string r.name) ∧ W.cell? ⟨w.heap.size, 1, none⟩ = some (.int .i64 r.rev) ∧ W.cell? ⟨w.heap.size, 2, none⟩ = some (.slice r.ao r.n r.cap)) ∧ W.cell? ⟨w.heap.size + 1, 0, none⟩ = some (.int .i64 p) ∧ (W.cell? ⟨w.heap.size + 1 + 1, 0, none⟩ = some (.int .u64 f.dst) ∧ W.cell? ⟨w.heap.size + 1 + 1, 1, none⟩ = some (.int .u64 f.src) ∧ W.cell? ⟨w.heap.size + 1 + 1, 2, none⟩ = some (.bool f.tagged) ∧ W.cell? ⟨w.heap.size + 1 + 1, 3, none⟩ = some (.int .i64 f.prio) ∧ W.cell? ⟨w.heap.size + 1 + 1, 4, none⟩ = some (.bool f.drop) ∧ W.cell? ⟨w.heap.size + 1 + 1, 5, none⟩ = some (.int .i64 f.vid) ∧ W.cell? ⟨w.heap.size + 1 + 1, 6, none⟩ = some (.int .i64 f.type) ∧ W.cell? ⟨w.heap.size + 1 + 1, 7, none⟩ = some (.slice f.ao f.n f.cap))) ∧ (W.cell? ⟨b, off + k * 4, none⟩ = some (.int .i64 x.port) ∧ W.cell? ⟨b, off + k * 4 + 1, none⟩ = some (.slice x.wo x.ways.length x.wcap) ∧ W.cell? ⟨b, off + k * 4 + 2, none⟩ = some (.int .i64 x.plain) ∧ W.cell? ⟨b, off + k * 4 + 3, none⟩ = some (.slice x.oo x.opens.length x.ocap))) := fun W hW => ⟨HC.out W hW, HGC.out W hW⟩
      go_wp2_with fail
      go_cut [15] (fun v W => v = .int .i64 way ∧ Hid (Below W0.heap.size W0 W))
      case first =>
        go_region_held3 (fun W => ((W.cell? ⟨w.heap.size, 0, none⟩ = some (.string r.name) ∧ W.cell? ⟨w.heap.size, 1, none⟩ = some (.int .i64 r.rev) ∧ W.cell? ⟨w.heap.size, 2, none⟩ = some (.slice r.ao r.n r.cap)) ∧ W.cell? ⟨w.heap.size + 1, 0, none⟩ = some (.int .i64 p) ∧ (W.cell? ⟨w.heap.size + 1 + 1, 0, none⟩ = some (.int .u64 f.dst) ∧ W.cell? ⟨w.heap.size + 1 + 1, 1, none⟩ = some (.int .u64 f.src) ∧ W.cell? ⟨w.heap.size + 1 + 1, 2, none⟩ = some (.bool f.tagged) ∧ W.cell? ⟨w.heap.size + 1 + 1, 3, none⟩ = some (.int .i64 f.prio) ∧ W.cell? ⟨w.heap.size + 1 + 1, 4, none⟩ = some (.bool f.drop) ∧ W.cell? ⟨w.heap.size + 1 + 1, 5, none⟩ = some (.int .i64 f.vid) ∧ W.cell? ⟨w.heap.size + 1 + 1, 6, none⟩ = some (.int .i64 f.type) ∧ W.cell? ⟨w.heap.size + 1 + 1, 7, none⟩ = some (.slice f.ao f.n f.cap))) ∧ (W.cell? ⟨b, off + k * 4, none⟩ = some (.int .i64 x.port) ∧ W.cell? ⟨b, off + k * 4 + 1, none⟩ = some (.slice x.wo x.ways.length x.wcap) ∧ W.cell? ⟨b, off + k * 4 + 2, none⟩ = some (.int .i64 x.plain) ∧ W.cell? ⟨b, off + k * 4 + 3, none⟩ = some (.slice x.oo x.opens.length x.ocap)))
          (first | (exact HS7.out _ (Hid.out (by assumption))) | (exact HS7.out _ (Below.drew (Hid.out (by assumption)))))
          (first | (go_at_call 32; refine (HWY.out _ (by first | exact (Hid.out (by assumption)) | exact Below.drew (Hid.out (by assumption)))).mono ?_; rintro e w3 ⟨rfl, HB3⟩))
        all_goals go_wp2_with fail
        all_goals go_meet
        all_goals exact ⟨rfl, HB3⟩
      case rest =>
      rename World => w3
      obtain ⟨rfl, HB3⟩ := hcut
      clear HS7 HWY c0 c1 c2 c3 c4 c5 c6 c7 c8 c9 c10 c11 g0 g1 g2 g3
      obtain ⟨⟨c0, c1, c2⟩, c3, c4, c5, c6, c7, c8, c9, c10, c11⟩ := HC.out w3 HB3.out
      go_wp2_with fail
      refine (HTR.out w3 HB3.out).mono ?_
      rintro e w4 ⟨rfl, HB4⟩
      go_wp2_with fail
      refine (passer_any way tr w4).mono ?_
      rintro e w5 ⟨rfl, hp1, hp2, hb5⟩
      obtain ⟨Bw, HBw⟩ : ∃ Bw, Hid (Bw = w4.heap.size) := ⟨_, rfl⟩
      obtain ⟨Bq, HBq⟩ : ∃ Bq, Hid (Bq = w4.heap.size + 1) := ⟨_, rfl⟩
      obtain ⟨Bf, HBf⟩ : ∃ Bf, Hid (Bf = w5.heap.size) := ⟨_, rfl⟩
      rw [← HBq.out, ← HBw.out]
      rw [← HBq.out] at hp2
      rw [← HBw.out] at hp1
      obtain ⟨W6, HW6⟩ : ∃ W6, Hid (W6 = w5.alloc (.cells #[.func (.func 58) #[] #[.pointer (some ⟨Bw, 0, none⟩), .pointer (some ⟨Bq, 0, none⟩)]] 66)) := ⟨_, rfl⟩
      have hb6 : Below w5.heap.size w5 W6 := by rw [HW6.out]; exact below_alloc1 _ _
      have hf6 : W6.heap[Bf]? = some (.cells #[.func (.func 58) #[] #[.pointer (some ⟨Bw, 0, none⟩), .pointer (some ⟨Bq, 0, none⟩)]] 66 (0, 0)) := by rw [HW6.out, HBf.out]; exact heap_alloc_last _ _
      have hW06 : Below W0.heap.size W0 W6 := below_up (below_up HB4.out hb5) hb6
      have HUP : Hid (∀ W, Below W6.heap.size W6 W → Below W0.heap.size W0 W) := fun W hW => below_up hW06 hW
      have HS9 : Hid (∀ W, Below W6.heap.size W6 W → ((W.cell? ⟨w.heap.size, 0, none⟩ = some (.string r.name) ∧ W.cell? ⟨w.heap.size, 1, none⟩ = some (.int .i64 r.rev) ∧ W.cell? ⟨w.heap.size, 2, none⟩ = some (.slice r.ao r.n r.cap)) ∧ W.cell? ⟨w.heap.size + 1, 0, none⟩ = some (.int .i64 p) ∧ (W.cell? ⟨w.heap.size + 1 + 1, 0, none⟩ = some (.int .u64 f.dst) ∧ W.cell? ⟨w.heap.size + 1 + 1, 1, none⟩ = some (.int .u64 f.src) ∧ W.cell? ⟨w.heap.size + 1 + 1, 2, none⟩ = some (.bool f.tagged) ∧ W.cell? ⟨w.heap.size + 1 + 1, 3, none⟩ = some (.int .i64 f.prio) ∧ W.cell? ⟨w.heap.size + 1 + 1, 4, none⟩ = some (.bool f.drop) ∧ W.cell? ⟨w.heap.size + 1 + 1, 5, none⟩ = some (.int .i64 f.vid) ∧ W.cell? ⟨w.heap.size + 1 + 1, 6, none⟩ = some (.int .i64 f.type) ∧ W.cell? ⟨w.heap.size + 1 + 1, 7, none⟩ = some (.slice f.ao f.n f.cap)) ∧ W.cell? ⟨Bf, 0, none⟩ = some (.func (.func 58) #[] #[.pointer (some ⟨Bw, 0, none⟩), .pointer (some ⟨Bq, 0, none⟩)]) ∧ (W.cell? ⟨b, off + k * 4, none⟩ = some (.int .i64 x.port) ∧ W.cell? ⟨b, off + k * 4 + 1, none⟩ = some (.slice x.wo x.ways.length x.wcap) ∧ W.cell? ⟨b, off + k * 4 + 2, none⟩ = some (.int .i64 x.plain) ∧ W.cell? ⟨b, off + k * 4 + 3, none⟩ = some (.slice x.oo x.opens.length x.ocap)))) := fun W hW => ⟨(HC.out W (HUP.out W hW)).1, (HC.out W (HUP.out W hW)).2.1, (HC.out W (HUP.out W hW)).2.2, cell_of_row W _ 0 _ _ _ (keep hf6 hW), HGC.out W (HUP.out W hW)⟩
      have HBX : Hid (∀ W, Below W6.heap.size W6 W → W.cell? ⟨Bw, 0, none⟩ = some (.int .i64 way) ∧ W.cell? ⟨Bq, 0, none⟩ = some (.int .i64 tr) ∧ W.cell? ⟨Bf, 0, none⟩ = some (.func (.func 58) #[] #[.pointer (some ⟨Bw, 0, none⟩), .pointer (some ⟨Bq, 0, none⟩)]) ∧ W.cell? ⟨w.heap.size + 1, 0, none⟩ = some (.int .i64 p)) := fun W hW => ⟨cell_of_row W _ 0 _ _ _ (keep (keep hp1 hb6) hW), cell_of_row W _ 0 _ _ _ (keep (keep hp2 hb6) hW), cell_of_row W _ 0 _ _ _ (keep hf6 hW), (HC.out W (HUP.out W hW)).2.1⟩
      have HPA : Hid (∀ W, Below W6.heap.size W6 W → Calls Try.prog 58 #[.agg #[.int .i64 x.port, .slice x.wo x.ways.length x.wcap, .int .i64 x.plain, .slice x.oo x.opens.length x.ocap], .pointer (some ⟨Bw, 0, none⟩), .pointer (some ⟨Bq, 0, none⟩)] W fun e w' => e = .returned (.bool (Rl.passes x tr way)) ∧ Hid (Below W6.heap.size W6 w')) := fun W hW => (pass1_any x Bw Bq way tr W (HGI.out W (HUP.out W hW)) (HBX.out W hW).1 (HBX.out W hW).2.1).mono (fun e w' h => ⟨h.1, below_up hW h.2⟩)
      have HRS : Hid (∀ W, Below W6.heap.size W6 W → Calls Try.prog 34 #[.int .u64 f.dst] W fun e w' => e = .returned (.bool (Rl.res f.dst)) ∧ Hid (Below W6.heap.size W6 w')) := fun W hW => (isRes_any f.dst W).mono (fun e w' h => ⟨h.1, by rw [h.2]; exact hW⟩)
      have HB9 : Hid (Below W6.heap.size W6 W6) := Below.refl _ _
      have hbl := hBk.many
      have HAP : Hid (∀ W, Below W6.heap.size W6 W → ∃ a1 c1 W2, (Builtin.append_ #[26, 26] 26 #[.slice none 0 0, .slice bo bk.length bcap]).run Try.prog W = .ok (.slice a1 bk.length c1) W2 ∧ Hid (RelOut w W2 f ⟨[], bk, 0⟩ none 0 [] a1 c1)) := fun W hW => by
        obtain ⟨a1, c1, W2, r2, o2, b2, _⟩ := append_e W W.heap.size (.slice none 0 0) [] (OwnE.nil _ _) bo bcap bk bk.length rfl (HIN.out W (HUP.out W hW)).book (HIN.out W (HUP.out W hW)).bnil (by simp; omega) (Nat.le_refl _)
        obtain ⟨a2, c2, e2, q1, q2, _⟩ := o2.el
        injection e2 with e3 _ e4
        subst e3 e4
        exact ⟨a1, c1, W2, r2, rfl, ⟨CRow.none _ _ _ _ _, fun x h => by simp at h⟩, fun _ => ⟨rfl, rfl⟩, q1, q2, HWB.out _ (below_up (HUP.out W hW) b2), OwnO.nil _ _ _, o2.mono (HWB.out _ (HUP.out W hW)).size⟩
      clear hp1 hp2 hb5 hb6 hf6 hW06 HTR HGC HGI c0 c1 c2 c3 c4 c5 c6 c7 c8 c9 c10 c11
      go_wp2_with fail
      rw [← HBf.out, ← HW6.out]
      go_cut [63] (fun v W => v = .bool (Rl.stays r l p f) ∧ Hid (Below W6.heap.size W6 W))
      case first =>
        obtain ⟨⟨c0, c1, c2⟩, c3, ⟨c4, c5, c6, c7, c8, c9, c10, c11⟩, c12, g0, g1, g2, g3⟩ := HS9.out W6 HB9.out
        cases hps : Rl.passes x tr way with
        | false =>
          rw [hps] at HPA HSY
          have HSZ : Hid (Rl.stays r l p f = true) := HSY.out
          clear hps HSY HX1 HX2 HLN HOU HAP HBX HIN
          refine wp_region_held_drew (S := fun W => ((W.cell? ⟨w.heap.size, 0, none⟩ = some (.string r.name) ∧ W.cell? ⟨w.heap.size, 1, none⟩ = some (.int .i64 r.rev) ∧ W.cell? ⟨w.heap.size, 2, none⟩ = some (.slice r.ao r.n r.cap)) ∧ W.cell? ⟨w.heap.size + 1, 0, none⟩ = some (.int .i64 p) ∧ (W.cell? ⟨w.heap.size + 1 + 1, 0, none⟩ = some (.int .u64 f.dst) ∧ W.cell? ⟨w.heap.size + 1 + 1, 1, none⟩ = some (.int .u64 f.src) ∧ W.cell? ⟨w.heap.size + 1 + 1, 2, none⟩ = some (.bool f.tagged) ∧ W.cell? ⟨w.heap.size + 1 + 1, 3, none⟩ = some (.int .i64 f.prio) ∧ W.cell? ⟨w.heap.size + 1 + 1, 4, none⟩ = some (.bool f.drop) ∧ W.cell? ⟨w.heap.size + 1 + 1, 5, none⟩ = some (.int .i64 f.vid) ∧ W.cell? ⟨w.heap.size + 1 + 1, 6, none⟩ = some (.int .i64 f.type) ∧ W.cell? ⟨w.heap.size + 1 + 1, 7, none⟩ = some (.slice f.ao f.n f.cap)) ∧ W.cell? ⟨Bf, 0, none⟩ = some (.func (.func 58) #[] #[.pointer (some ⟨Bw, 0, none⟩), .pointer (some ⟨Bq, 0, none⟩)]) ∧ (W.cell? ⟨b, off + k * 4, none⟩ = some (.int .i64 x.port) ∧ W.cell? ⟨b, off + k * 4 + 1, none⟩ = some (.slice x.wo x.ways.length x.wcap) ∧ W.cell? ⟨b, off + k * 4 + 2, none⟩ = some (.int .i64 x.plain) ∧ W.cell? ⟨b, off + k * 4 + 3, none⟩ = some (.slice x.oo x.opens.length x.ocap)))) (by kernel_rfl) (HS9.out _ (Below.drew HB9.out)) (fun hHeld => ?_)
          refine heldT 0 52 hHeld ?_
          simp only [Act.put, List.setIfInBounds_toArray, List.set_cons_zero, List.set_cons_succ]
          refine heldT 1 53 hHeld ?_
          simp only [Act.put, List.setIfInBounds_toArray, List.set_cons_zero, List.set_cons_succ]
          refine heldT 2 54 hHeld ?_
          simp only [Act.put, List.setIfInBounds_toArray, List.set_cons_zero, List.set_cons_succ]
          refine heldT 3 55 hHeld ?_
          simp only [Act.put, List.setIfInBounds_toArray, List.set_cons_zero, List.set_cons_succ]
          refine heldT 4 56 hHeld ?_
          simp only [Act.put, List.setIfInBounds_toArray, List.set_cons_zero, List.set_cons_succ]
          refine wpAnyH_ready (rs := [5]) (by kernel_rfl) (by simp) ?_
          refine AllReadyH.cons rfl (fun K hK => ?_) AllReadyH.nil
          go_simp
          refine (HPA.out _ (Below.drew HB9.out)).mono ?_
          rintro e wA ⟨rfl, HBA⟩
          refine hK.out _ _ (HS9.out _ HBA.out) (fun hHeld => ?_)
          clear hK K
          refine heldT 6 58 hHeld ?_
          simp only [Act.put, List.setIfInBounds_toArray, List.set_cons_zero, List.set_cons_succ]
          refine heldT 7 59 hHeld ?_
          simp only [Act.put, List.setIfInBounds_toArray, List.set_cons_zero, List.set_cons_succ]
          refine held_skip (i := 8) (some 60) rfl rfl (by kernel_rfl) (by kernel_rfl) (by kernel_rfl) (fun _ _ _ h => h) (by rfl) hHeld ?_
          simp only [Act.put, List.setIfInBounds_toArray, List.set_cons_zero, List.set_cons_succ]
          refine held_skip (i := 9) (some 61) rfl rfl (by kernel_rfl) (by kernel_rfl) (by kernel_rfl) (fun _ _ _ h => h) (by rfl) hHeld ?_
          simp only [Act.put, List.setIfInBounds_toArray, List.set_cons_zero, List.set_cons_succ]
          refine held_skip (i := 10) (some 62) rfl rfl (by kernel_rfl) (by kernel_rfl) (by kernel_rfl) (fun _ _ _ h => h) (by rfl) hHeld ?_
          simp only [Act.put, List.setIfInBounds_toArray, List.set_cons_zero, List.set_cons_succ]
          refine heldT 11 63 hHeld ?_
          simp only [Act.put, List.setIfInBounds_toArray, List.set_cons_zero, List.set_cons_succ]
          refine wpAnyH_done (by kernel_rfl) ?_ _

          all_goals go_wp2_with fail
          all_goals go_meet
          all_goals exact ⟨by rw [HSZ.out], HBA⟩
        | true =>
          rw [hps] at HPA HSY
          have HSZ : Hid (Rl.stays r l p f = Rl.res f.dst) := HSY.out
          clear hps HSY HX1 HX2 HLN HOU HAP HBX HIN
          go_region_held3 (fun W => ((W.cell? ⟨w.heap.size, 0, none⟩ = some (.string r.name) ∧ W.cell? ⟨w.heap.size, 1, none⟩ = some (.int .i64 r.rev) ∧ W.cell? ⟨w.heap.size, 2, none⟩ = some (.slice r.ao r.n r.cap)) ∧ W.cell? ⟨w.heap.size + 1, 0, none⟩ = some (.int .i64 p) ∧ (W.cell? ⟨w.heap.size + 1 + 1, 0, none⟩ = some (.int .u64 f.dst) ∧ W.cell? ⟨w.heap.size + 1 + 1, 1, none⟩ = some (.int .u64 f.src) ∧ W.cell? ⟨w.heap.size + 1 + 1, 2, none⟩ = some (.bool f.tagged) ∧ W.cell? ⟨w.heap.size + 1 + 1, 3, none⟩ = some (.int .i64 f.prio) ∧ W.cell? ⟨w.heap.size + 1 + 1, 4, none⟩ = some (.bool f.drop) ∧ W.cell? ⟨w.heap.size + 1 + 1, 5, none⟩ = some (.int .i64 f.vid) ∧ W.cell? ⟨w.heap.size + 1 + 1, 6, none⟩ = some (.int .i64 f.type) ∧ W.cell? ⟨w.heap.size + 1 + 1, 7, none⟩ = some (.slice f.ao f.n f.cap)) ∧ W.cell? ⟨Bf, 0, none⟩ = some (.func (.func 58) #[] #[.pointer (some ⟨Bw, 0, none⟩), .pointer (some ⟨Bq, 0, none⟩)]) ∧ (W.cell? ⟨b, off + k * 4, none⟩ = some (.int .i64 x.port) ∧ W.cell? ⟨b, off + k * 4 + 1, none⟩ = some (.slice x.wo x.ways.length x.wcap) ∧ W.cell? ⟨b, off + k * 4 + 2, none⟩ = some (.int .i64 x.plain) ∧ W.cell? ⟨b, off + k * 4 + 3, none⟩ = some (.slice x.oo x.opens.length x.ocap))))
            (first | (exact HS9.out _ (Hid.out (by assumption))) | (exact HS9.out _ (Below.drew (Hid.out (by assumption)))))
            (first | (go_at_call 58; refine (HPA.out _ (by first | exact (Hid.out (by assumption)) | exact Below.drew (Hid.out (by assumption)))).mono ?_; rintro e wA ⟨rfl, HBA⟩) | (go_at_call 34; refine (HRS.out _ (by first | exact (Hid.out (by assumption)) | exact Below.drew (Hid.out (by assumption)))).mono ?_; rintro e wA ⟨rfl, HBA⟩))
          all_goals go_wp2_with fail
          all_goals go_meet
          all_goals exact ⟨by rw [HSZ.out], HBA⟩
      case rest =>
      rename World => w7
      obtain ⟨rfl, HB7⟩ := hcut
      clear HPA HRS HSY
      obtain ⟨⟨c0, c1, c2⟩, c3, ⟨c4, c5, c6, c7, c8, c9, c10, c11⟩, c12, g0, g1, g2, g3⟩ := HS9.out w7 HB7.out
      cases hst : Rl.stays r l p f with
      | true =>
        obtain ⟨a1, c1', W2, r2, HO⟩ := HAP.out w7 HB7.out
        have HRN : Hid _ := r2
        have HX3 : Hid _ := HX1.out hst
        clear HAP r2 HX1 HX2 HLN HOU HIN hst
        go_wp2_with (at_builtin; refine wpList_append_run rfl (.const (.slice none 0 0)) (.tmp 64) 26 rfl _ _ _ rfl rfl HRN.out ?_; clear HRN)
        go_ret3
        exact ⟨none, 0, [], a1, c1', by rw [HX3.out]; rfl, by rw [HX3.out]; exact HO.out⟩
      | false =>
        have HX3 : Hid _ := HX2.out hst
        obtain ⟨m, hm⟩ : ∃ m, m = Rl.learnt bk l p f := ⟨_, rfl⟩
        have hml : Bk.learn bk ⟨way, f.src, p, 0⟩ = m := by rw [hm]; exact HLN.out.symm
        have hmB : Bk.Book m := by rw [← hml]; exact Bk.learn_book hBk _
        have hou := HOU.out
        rw [← hm] at hou
        obtain ⟨sn, hsn⟩ : ∃ sn, sn = Bk.lookP m (sought way f.dst) := ⟨_, rfl⟩
        obtain ⟨kn, hkn⟩ : ∃ kn, kn = decide (Bk.Known m (sought way f.dst)) := ⟨_, rfl⟩
        have HOW : Hid (Rl.outs r l bk p f = (l.filter (fun g => decide (g.port ≠ p) && (Rl.passes g tr way && (!kn || decide (g.port = sn))))).map (Rl.leave f way)) := by rw [hsn, hkn]; exact hou
        have HX4 : Hid (Rl.relay r l bk p f = ⟨Rl.outs r l bk p f, m, 0⟩) := by rw [HX3.out, hm]; rfl
        have h7 := HUP.out w7 HB7.out
        have HLE : Hid (Calls Try.prog 35 #[.slice bo bk.length bcap, .int .i64 way, .int .u64 f.src, .int .i64 p] w7 fun e w' => ∃ y c, e = .returned (.slice y m.length c) ∧ Hid (BEL w' y c m ∧ NilOk y m.length c ∧ Below w7.heap.size w7 w' ∧ OwnE w' w7.heap.size (.slice y m.length c) m)) := blearn_ow bo bcap bk _ rfl way f.src p w7 m hml hBk (HIN.out w7 h7).book (HIN.out w7 h7).bnil (HIN.out w7 h7).src.1 (HIN.out w7 h7).src.2
        have HLK : Hid (∀ (W : World) (y : Option Addr) (c : Nat), BEL W y c m → Calls Try.prog 19 #[.slice y m.length c, .int .i64 way, .int .u64 f.dst] W fun e w' => e = .returned (.tuple #[.int .i64 sn, .bool kn]) ∧ Hid (Below W.heap.size W w')) := fun W y c h => by rw [hsn, hkn]; exact (blook_any y c m way f.dst W hmB h).mono (fun e w' h => ⟨h.1, h.2⟩)
        clear HX1 HX2 HAP hst hou hm hml hsn hkn HX3 HOU HLN h7
        go_wp2_with fail
        refine HLE.out.mono ?_
        rintro e w8 ⟨y, c, rfl, H8⟩
        have HB8 : Hid (Below W6.heap.size W6 w8) := below_up HB7.out H8.out.2.2.1
        clear HLE c0 c1 c2 c3 c4 c5 c6 c7 c8 c9 c10 c11 c12 g0 g1 g2 g3
        obtain ⟨⟨c0, c1, c2⟩, c3, ⟨c4, c5, c6, c7, c8, c9, c10, c11⟩, c12, g0, g1, g2, g3⟩ := HS9.out w8 HB8.out
        go_wp2_with fail
        refine (HLK.out w8 y c H8.out.1).mono ?_
        rintro e w9 ⟨rfl, H9⟩
        clear HLK c0 c1 c2 c3 c4 c5 c6 c7 c8 c9 c10 c11 c12 g0 g1 g2 g3
        obtain ⟨WX, HWX⟩ : ∃ WX, Hid (WX = (w9.alloc (.cells #[.int .i64 sn] 3)).alloc (.cells #[.bool kn] 4)) := ⟨_, rfl⟩
        have hx0 : Below w9.heap.size w9 WX := by rw [HWX.out]; exact below_alloc2 _ _ _
        have hx1 : WX.heap[w9.heap.size]? = some (.cells #[.int .i64 sn] 3 (0, 0)) := by rw [HWX.out]; exact heap_alloc2_old _ _ _
        have hx2 : WX.heap[w9.heap.size + 1]? = some (.cells #[.bool kn] 4 (0, 0)) := by rw [HWX.out]; exact heap_alloc2_new _ _ _
        obtain ⟨Bs, HBs⟩ : ∃ Bs, Hid (Bs = w9.heap.size) := ⟨_, rfl⟩
        obtain ⟨Bk', HBk⟩ : ∃ Bk', Hid (Bk' = w9.heap.size + 1) := ⟨_, rfl⟩
        have HBX6 : Hid (Below W6.heap.size W6 WX) := below_up (below_up HB8.out H9.out) hx0
        have HOE : Hid (OwnE WX w.heap.size (.slice y m.length c) m) := OwnE.below (OwnE.below (OwnE.mono H8.out.2.2.2 (HWB.out _ (HUP.out _ HB7.out)).size) H9.out) hx0
        have HML : Hid (BEL WX y c m ∧ NilOk y m.length c) := ⟨(BEL.below (BEL.below H8.out.1 H9.out) hx0), H8.out.2.1⟩
        rw [← HBs.out] at hx1
        rw [← HBk.out] at hx2
        have HSN : Hid (Calls Try.prog 38 #[.agg #[.int .u64 f.dst, .int .u64 f.src, .bool f.tagged, .int .i64 f.prio, .bool f.drop, .int .i64 f.vid, .int .i64 f.type, .slice f.ao f.n f.cap], .int .i64 way] WX fun e w' => e = .returned (.func (.func 61) #[] #[.pointer (some ⟨WX.heap.size + 1 + 1 + 1, 0, none⟩), .pointer (some ⟨WX.heap.size + 1, 0, none⟩), .pointer (some ⟨WX.heap.size + 1 + 1, 0, none⟩), .pointer (some ⟨WX.heap.size, 0, none⟩)]) ∧ Hid (Snd w' f way (WX.heap.size + 1 + 1 + 1) (WX.heap.size + 1) (WX.heap.size + 1 + 1) WX.heap.size ∧ Below WX.heap.size WX w')) := (sender_any f way WX).mono (fun e w' h => ⟨h.1, h.2⟩)
        have HST : Hid (∀ W, (Snd W f way (WX.heap.size + 1 + 1 + 1) (WX.heap.size + 1) (WX.heap.size + 1 + 1) WX.heap.size ∧ Below WX.heap.size WX W) → Calls Try.prog 37 #[.slice (some ⟨b, off, none⟩) l.length cap, .func (.func 36) #[] #[.pointer (some ⟨w.heap.size + 1, 0, none⟩), .pointer (some ⟨Bf, 0, none⟩), .pointer (some ⟨Bk', 0, none⟩), .pointer (some ⟨Bs, 0, none⟩)], .func (.func 61) #[] #[.pointer (some ⟨WX.heap.size + 1 + 1 + 1, 0, none⟩), .pointer (some ⟨WX.heap.size + 1, 0, none⟩), .pointer (some ⟨WX.heap.size + 1 + 1, 0, none⟩), .pointer (some ⟨WX.heap.size, 0, none⟩)]] W fun e w' => ∃ oo oc os, e = .returned (.slice oo os.length oc) ∧ Hid (RelOut w w' f ⟨Rl.outs r l bk p f, m, 0⟩ oo oc os y c)) := fun W hW => by
          have hW6 : Below W6.heap.size W6 W := below_up HBX6.out hW.2
          have hi := HIN.out W (HUP.out W hW6)
          refine (sent_any (some ⟨b, off, none⟩) cap l (w.heap.size + 1) Bf Bk' Bs _ _ _ _ (fun g => decide (g.port ≠ p) && (Rl.passes g tr way && (!kn || decide (g.port = sn)))) f way W hmany hi.gates (fun W' hW' g hg => ?_) (fun W' hW' g => ?_)).mono ?_
          · have hx' := HBX.out W' (below_up hW6 hW')
            exact leads_any g (w.heap.size + 1) Bf Bk' Bs Bw Bq p way tr sn kn W' ((hi.gates.below hW').each g hg) hx'.2.2.2 hx'.2.2.1 (cell_of_row W' _ 0 _ _ _ (keep (keep hx2 hW.2) hW')) (cell_of_row W' _ 0 _ _ _ (keep (keep hx1 hW.2) hW')) hx'.1 hx'.2.1
          · exact sender1_any f way g _ _ _ _ W' (hW.1.below hW') (hi.data.below hW') hi.dnil hN
          · rintro e w' ⟨v, os, rfl, h1, h2, h3⟩
            obtain ⟨oo, oc, rfl, h4, h5⟩ := h2.el
            exact ⟨oo, oc, os, rfl, by rw [h1, HOW.out], h4, h5, BEL.below (BEL.below HML.out.1 hW.2) h3, HML.out.2, HWB.out _ (HUP.out _ (below_up hW6 h3)), h2.mono (HWB.out _ (HUP.out _ hW6)).size, OwnE.below (OwnE.below HOE.out hW.2) h3⟩
        obtain ⟨⟨c0, c1, c2⟩, c3, ⟨c4, c5, c6, c7, c8, c9, c10, c11⟩, _⟩ := HS9.out WX HBX6.out
        clear hx0 hx1 hx2 HS9 HBX HUP HIN hBk hG hmB
        go_upto_region 14 with fail
        rw [← HBk.out, ← HBs.out, ← HWX.out]
        go_wp2_with fail
        refine HSN.out.mono ?_
        rintro e w10 ⟨rfl, HT⟩
        clear HSN c0 c1 c2 c3 c4 c5 c6 c7 c8 c9 c10 c11
        go_wp2_with fail
        refine (HST.out w10 HT.out).mono ?_
        rintro e w11 ⟨oo, oc, os, rfl, HO⟩
        clear HST
        go_wp2_with fail
        go_ret3
        exact ⟨oo, oc, os, y, c, by rw [HX4.out]; rfl, by rw [HX4.out]; exact HO.out⟩
  · have dq : (Rl.errR r l bk f != 0) = true := by simp [he]
    have HX2 : Hid _ := HNE.out he
    clear HEQ HNE HOK he HIN
    go_wp2_with fail
    go_ret3
    exact ⟨none, 0, [], none, 0, by rw [HX2.out]; rfl, by rw [HX2.out]; exact HNONE.out _ _ HB1.out⟩
end Go.Proofs.Ytgkmaihleilchaa
