/- Regions that draw their order and write, at their end, cells that they have read: what is read is held until an operation z has come up that waits for all that reads it -/
import Derived.Test.YtaneiffnhphkhaaGreatDoorD18
import Derived.Test.YtaneiffnhphkhaaGreatDoorD01
import Derived.Deep.DeepCutAuto
import Derived.Deep.RegionHeld3
set_option maxRecDepth 100000
set_option maxHeartbeats 40000000
namespace Go.Proofs.YtaneiffnhphkhaaGreatDoor
section
open Go.RowKit
open Vc (V Of)
open Pl (En Lk Br Net)
open Tk (Md Mnd Cn Sc Dn ixM ilist)
theorem Fam.more {W W':World}{base e kk T:Nat}{v:Nat→Value}{n:Nat→Nat}{c:Nat→Nat→Nat→Value}{P:Nat→Prop}(h:Fam W base e kk T v n c) {base':Nat}{v':Value}(hb:Bt P W W') (hP:∀a,a<T→∀q,(v a).ownBlock=some q→¬P q)
  (ho:W'.ownsRow base' e kk v' (n T) (cellsL (n T) kk (c T))) (h1:W.heap.size≤base') (h2:base≤base'):Fam W' base e kk (T+1) (upF v T v') n c:=by
 refine⟨fun a ha => ?_,fun a b ha hb' q hqa hqb => ?_⟩
 ·by_cases q:a=T
  ·subst q;rw[upF_same];exact owns_mono ho h2
  ·rw[upF_other _ _ q];exact owns_keep (h.own a (by omega)) (fun r hr=>hb.block r (oCb (h.own a (by omega)) r hr).2 (hP a (by omega) r hr))
 ·by_cases qa:a=T
  ·by_cases qb:b=T
   ·rw[qa,qb]
   ·subst qa;rw[upF_same] at hqa;rw[upF_other _ _ qb] at hqb;have x1:=(oCb ho q hqa).1;have x2:=(oCb (h.own b (by omega)) q hqb).2;omega
  ·by_cases qb:b=T
   ·subst qb;rw[upF_same] at hqb;rw[upF_other _ _ qa] at hqa;have x1:=(oCb ho q hqb).1;have x2:=(oCb (h.own a (by omega)) q hqa).2;omega
   ·rw[upF_other _ _ qa] at hqa;rw[upF_other _ _ qb] at hqb;exact h.one a b (by omega) (by omega) q hqa hqb
theorem Fam.zero (W:World) (base e kk:Nat) (v:Nat→Value) (n:Nat→Nat) (c:Nat→Nat→Nat→Value):Fam W base e kk 0 v n c:=⟨fun _ h=>absurd h (by omega),fun _ _ h=>absurd h (by omega)⟩
structure NetP (W:World) (base:Nat) (n:Net) (i:Nat) (vb vl:Value) (iv we:Nat→Value):Prop where
 brs:W.ownsRow base 74 5 vb n.K (cellsL n.K 5 (fun a=>brX (n.bs a).addr (iv a) (n.bs a).reg.s (n.bs a).reg.rev (we a)))
 lks:W.ownsRow base 83 6 vl n.L (cellsL n.L 6 (fun k=>lkC (n.ls k)))
 ints:Fam W base 3 1 i iv (fun a=>(n.bs a).pn) (fun a j _=>.int .i64 ((n.bs a).pv j))
 ways:Fam W base 81 2 i we (fun a=>(n.bs a).reg.n) (fun a j=>wyC ((n.bs a).reg.vs j) ((n.bs a).reg.ts j))
 old:∀a,i≤a→iv a=.slice (n.bs a).pao (n.bs a).pn (n.bs a).pcap∧we a=.slice (n.bs a).reg.ao (n.bs a).reg.n (n.bs a).reg.cap
theorem brX_old {n:Net}{a:Nat}{iv we:Nat→Value}(h:iv a=.slice (n.bs a).pao (n.bs a).pn (n.bs a).pcap∧we a=.slice (n.bs a).reg.ao (n.bs a).reg.n (n.bs a).reg.cap) (x:Nat):brX (n.bs a).addr (iv a) (n.bs a).reg.s (n.bs a).reg.rev (we a) x=brC (n.bs a) x:=by
 unfold brX brC;rw[h.1,h.2]
theorem NetP.row {W:World}{base:Nat}{n:Net}{i:Nat}{vb vl:Value}{iv we:Nat→Value}(h:NetP W base n i vb vl iv we) (hp:0<n.K):∃g cap sp,vb=.slice (some ⟨g,0,none⟩) n.K cap∧base≤g∧n.K≤cap∧cap≤maxLen∧sp.size+n.K*5=cap*5∧W.heap[g]?=some (.cells (rowS sp n.K 5 (fun a=>brX (n.bs a).addr (iv a) (n.bs a).reg.s (n.bs a).reg.rev (we a))) 74):=by
 rcases owns_rowS h.brs with⟨_,q⟩ | q
 ·omega
 ·exact q
theorem NetP.step {W W':World}{base:Nat}{n:Net}{i:Nat}{vb vl:Value}{iv we:Nat→Value}(h:NetP W base n i vb vl iv we) (hi:i<n.K) {g cap:Nat}(hv:vb=.slice (some ⟨g,0,none⟩) n.K cap) (hb:Bl W W') (hbase:base≤W.heap.size) {v1 v2:Value}
  (h1:W'.ownsRow W.heap.size 3 1 v1 (n.bs i).pn (cellsL (n.bs i).pn 1 (fun j _=>.int .i64 ((n.bs i).pv j)))) (h2:W'.ownsRow W.heap.size 81 2 v2 (n.bs i).reg.n (cellsL (n.bs i).reg.n 2 (fun j=>wyC ((n.bs i).reg.vs j) ((n.bs i).reg.ts j)))) :
  NetP ((W'.setCell ⟨g,i*5+1,none⟩ v1).setCell ⟨g,i*5+4,none⟩ v2) base n (i+1) vb vl (upF iv i v1) (upF we i v2):=by
 obtain⟨g',cap',sp,e,hg,hc,hm,hs,hh⟩:=h.row (by omega);rw[hv] at e;injection e with e1 _ e2;injection e1 with e3;injection e3 with e4;subst e4 e2;have hgl:g<W.heap.size:=(gSm.1 hh).1;have hh':=(hb.block g hgl).trans hh;have bt:Bt (fun q=>q=g) W ((W'.setCell ⟨g,i*5+1,none⟩ v1).setCell ⟨g,i*5+4,none⟩ v2):=(((Bt.of (P:=fun q=>q=g) hb).setCell (Or.inl rfl) _ _).setCell (Or.inl rfl) _ _)
 have bt2:Bt (fun q=>q=g) W' ((W'.setCell ⟨g,i*5+1,none⟩ v1).setCell ⟨g,i*5+4,none⟩ v2):=(((Bt.refl (fun q=>q=g) W').setCell (Or.inl rfl) _ _).setCell (Or.inl rfl) _ _)
 have ne:∀{q cur e},W.heap[q]?=some (.cells cur e (0,0))→e≠74→¬q=g:=fun hq he hp=>by subst hp;exact he (cells_type hq hh)
 have ne2:∀{q cur e},W'.heap[q]?=some (.cells cur e (0,0))→e≠74→¬q=g:=fun hq he hp=>by subst hp;exact he (cells_type hq hh')
 have k1:=owns_keep h1 (fun q hq=>bt2.block q (oCb h1 q hq).2 (ne2 (owns_type h1 hq).choose_spec (by decide)));have k2:=owns_keep h2 (fun q hq=>bt2.block q (oCb h2 q hq).2 (ne2 (owns_type h2 hq).choose_spec (by decide)));refine⟨?_,?_,?_,?_,fun a ha => ?_⟩
 ·rw[hv];have s1:=rowS_set hh' hi (show 1<5 by omega) v1;have s2:=rowS_set s1 hi (show 4<5 by omega) v2;refine rowS_owns hg hc hm hs (s2.trans (congrArg (fun a=>some (Obj.cells a 74)) (rowS_congr2 sp ?_)));intro a ha x hx;unfold updC;by_cases q:a=i
  ·subst q;rw[upF_same,upF_same];rcases(by omega:x=0∨x=1∨x=2∨x=3∨x=4) with e | e | e | e | e<;>subst e<;>simp[brX]
  ·rw[upF_other _ _ q,upF_other _ _ q];simp[q]
 ·exact owns_keep h.lks (fun q hq=>bt.block q (oCb h.lks q hq).2 (ne (owns_type h.lks hq).choose_spec (by decide)))
 ·exact h.ints.more bt (fun a ha q hq=>ne (owns_type (h.ints.own a ha) hq).choose_spec (by decide)) k1 (Nat.le_refl _) hbase
 ·exact h.ways.more bt (fun a ha q hq=>ne (owns_type (h.ways.own a ha) hq).choose_spec (by decide)) k2 (Nat.le_refl _) hbase
 ·rw[upF_other _ _ (by omega),upF_other _ _ (by omega)];exact h.old a (by omega)
theorem wyC_one (v t:Int) (x:Nat):(wyC v t x).oneCell'=true:=by
 unfold wyC;split<;>rfl
theorem way_crow {w:World}{ao:Option Addr}{n cap:Nat}{vs ts:Nat→Int}(h:WayRow w ao n cap vs ts):CRow w ao n cap 2 (fun j=>wyC (vs j) (ts j)):=by
 refine⟨h.1,fun hp => ?_⟩;obtain⟨b,off,e,hb,hc⟩:=h.2 hp;refine⟨b,off,e,hb,fun j hj x hx => ?_⟩;rcases(by omega:x=0∨x=1) with q | q
 ·subst q;exact(hc j hj).1
 ·subst q;exact(hc j hj).2
def CopW (w:World) (n:Net) (e:Ending) (w':World):Prop :=
 ∃ba bc la lc iv we,e=.returned (.agg #[.slice ba n.K bc,.slice la n.L lc])∧NetP w' w.heap.size n n.K (.slice ba n.K bc) (.slice la n.L lc) iv we∧Bl w w'
theorem owns_slice {w:World}{base e k n:Nat}{v:Value}{xs:List Value}(h:w.ownsRow base e k v n xs):∃a c,v=.slice a n c:=by
 obtain⟨_,h2⟩:=h;rcases h2 with⟨rfl,rfl⟩ | ⟨g,cap,cur,rfl,_⟩
 ·exact⟨_,_,rfl⟩
 ·exact⟨_,_,rfl⟩
theorem tcopnet_any (n:Net) (w:World) (hK:n.K≤12) (hL:n.L≤40) (hfew:∀i,i<n.K→(n.bs i).pn≤100000∧(n.bs i).reg.n≤100000) (hat:n.at' w) :
  Calls Tryz.prog 61 #[n.val] w fun e w'=>CopW w n e w':=by
 obtain⟨X,HX⟩:∃X,Hid (X=(w.alloc (.cells #[.slice n.bao n.K n.bcap,.slice n.lao n.L n.lcap] 25)).alloc (.cells #[.slice none 0 0,.slice none 0 0] 25)):=⟨_,rfl⟩
 have hXB:Bl w X:=(by rw[HX.out];exact bA2 _ _ _)
 have hX0:X.heap[w.heap.size]?=some (.cells #[.slice n.bao n.K n.bcap,.slice n.lao n.L n.lcap] 25):=(by rw[HX.out];exact heap_alloc2_old _ _ _)
 have hX1:X.heap[w.heap.size+1]?=some (.cells #[.slice none 0 0,.slice none 0 0] 25):=(by rw[HX.out];exact heap_alloc2_new _ _ _)
 have hXs:X.heap.size=w.heap.size+2:=(by rw[HX.out];simp only[World.alloc,Array.size_push])
 obtain⟨B,HB⟩:∃B,Hid (B=w.heap.size):=⟨_,rfl⟩
 obtain⟨Z,HZ⟩:∃Z,Hid (Z=w.heap.size+1):=⟨_,rfl⟩
 rw[←HB.out] at hX0;rw[←HZ.out] at hX1;obtain⟨c0,c1⟩:=tC2 hX0;have f0:X.frozen? ⟨B,0,none⟩=false:=frozen_of_row _ _ _ _ _ hX0;have f1:X.frozen? ⟨B,1,none⟩=false:=frozen_of_row _ _ _ _ _ hX0;have HCF:Hid (∀V,Bl X V→V.cell? ⟨B,0,none⟩=some (.slice n.bao n.K n.bcap)∧V.cell? ⟨B,1,none⟩=some (.slice n.lao n.L n.lcap)∧V.frozen? ⟨B,0,none⟩=false∧V.frozen? ⟨B,1,none⟩=false):=fun V hV=>by
  have k0:=keep hX0 hV;exact⟨(tC2 k0).1,(tC2 k0).2,frozen_of_row _ _ _ _ _ k0,frozen_of_row _ _ _ _ _ k0⟩
 have HCB:Hid (∀V,Bl X V→Calls Tryz.prog 96 #[.slice n.bao n.K n.bcap] V fun e w'=>∃a cp,e=.returned (.slice a n.K cp)∧Hid (w'.ownsRow V.heap.size 74 5 (.slice a n.K cp) n.K (cellsL n.K 5 (fun i=>brC (n.bs i)))∧Bl V w'∧Bl X w')):=fun V hV=>by
  refine(clone_br n.bao n.K n.bcap (fun i=>brC (n.bs i)) V (by omega) (fun i j=>brC_one _ _) (CRow.below (CRow.below hat.brs hXB) hV)).mono ?_;rintro e w' ⟨v,rfl,h1,h2⟩;obtain⟨a,cp,rfl⟩:=owns_slice h1;exact⟨a,cp,rfl,h1,h2,hV.trans (h2.mono hV.size)⟩
 have HCL:Hid (∀V,Bl X V→Calls Tryz.prog 97 #[.slice n.lao n.L n.lcap] V fun e w'=>∃a cp,e=.returned (.slice a n.L cp)∧Hid (w'.ownsRow V.heap.size 83 6 (.slice a n.L cp) n.L (cellsL n.L 6 (fun i=>lkC (n.ls i)))∧Bl V w'∧Bl X w')):=fun V hV=>by
  refine(clone_lk n.lao n.L n.lcap (fun i=>lkC (n.ls i)) V (by omega) (fun i j=>lkC_one _ _) (CRow.below (CRow.below hat.lks hXB) hV)).mono ?_;rintro e w' ⟨v,rfl,h1,h2⟩;obtain⟨a,cp,rfl⟩:=owns_slice h1;exact⟨a,cp,rfl,h1,h2,hV.trans (h2.mono hV.size)⟩
 have HB0:Hid (∀m,Bl X (X.drewN m)):=fun m=>below_drewN (Below.refl _ _) m;have HST:Hid (∀V a1 p1 a2 p2,Bl X V→V.ownsRow X.heap.size 74 5 (.slice a1 n.K p1) n.K (cellsL n.K 5 (fun i=>brC (n.bs i)))→V.ownsRow X.heap.size 83 6 (.slice a2 n.L p2) n.L (cellsL n.L 6 (fun i=>lkC (n.ls i))) →
   NetP ((V.setCell ⟨B,0,none⟩ (.slice a1 n.K p1)).setCell ⟨B,1,none⟩ (.slice a2 n.L p2)) X.heap.size n 0 (.slice a1 n.K p1) (.slice a2 n.L p2) (fun a=>.slice (n.bs a).pao (n.bs a).pn (n.bs a).pcap) (fun a=>.slice (n.bs a).reg.ao (n.bs a).reg.n (n.bs a).reg.cap)∧((V.setCell ⟨B,0,none⟩ (.slice a1 n.K p1)).setCell ⟨B,1,none⟩ (.slice a2 n.L p2)).heap[B]?=some (.cells #[.slice a1 n.K p1,.slice a2 n.L p2] 25)∧((V.setCell ⟨B,0,none⟩ (.slice a1 n.K p1)).setCell ⟨B,1,none⟩ (.slice a2 n.L p2)).heap[Z]?=some (.cells #[.slice none 0 0,.slice none 0 0] 25)∧Bl w ((V.setCell ⟨B,0,none⟩ (.slice a1 n.K p1)).setCell ⟨B,1,none⟩ (.slice a2 n.L p2))∧X.heap.size≤((V.setCell ⟨B,0,none⟩ (.slice a1 n.K p1)).setCell ⟨B,1,none⟩ (.slice a2 n.L p2)).heap.size):=fun V a1 p1 a2 p2 hV h1 h2=>by
  have hBl:B<X.heap.size:=(by have:=HB.out;omega)
  have bt:Bt (fun q=>q=B) V ((V.setCell ⟨B,0,none⟩ (.slice a1 n.K p1)).setCell ⟨B,1,none⟩ (.slice a2 n.L p2)):=(((Bt.refl (fun q=>q=B) V).setCell (Or.inl rfl) _ _).setCell (Or.inl rfl) _ _)
  refine⟨⟨?_,?_,Fam.zero _ _ _ _ _ _ _,Fam.zero _ _ _ _ _ _ _,fun a _=>⟨rfl,rfl⟩⟩,?_,?_,?_,Nat.le_trans hV.size bt.size⟩
  ·have:=owns_keep h1 (fun q hq=>bt.block q (oCb h1 q hq).2 (fun e=>by have:=(oCb h1 q hq).1;omega));rw[cellsL_congr n.K 5 _ (fun i=>brC (n.bs i)) (fun a _=>by funext x;exact brX_old (n:=n) (a:=a) (iv:=fun a=>.slice (n.bs a).pao (n.bs a).pn (n.bs a).pcap) (we:=fun a=>.slice (n.bs a).reg.ao (n.bs a).reg.n (n.bs a).reg.cap) ⟨rfl,rfl⟩ x)];exact this
  ·exact owns_keep h2 (fun q hq=>bt.block q (oCb h2 q hq).2 (fun e=>by have:=(oCb h2 q hq).1;omega))
  ·have k0:=keep hX0 hV;have k1:=heap_setCell_same _ _ 0 _ _ (Value.slice a1 n.K p1) k0;rw[heap_setCell_same _ _ 1 _ _ _ k1];rfl
  ·exact bt.keep (keep hX1 hV) (fun e=>by have h1:=HB.out;have h2:=HZ.out;omega)
  ·have h0:Bl w V:=hXB.trans (hV.mono hXB.size);have hq:w.heap.size≤B:=(by have:=HB.out;omega)
   exact(h0.setCell hq _).setCell hq _
 have HFW:Hid (∀i,i<n.K→(n.bs i).pn≤100000∧(n.bs i).reg.n≤100000):=hfew;have HAT:Hid (n.at' w):=hat;have hwX:w.heap.size≤X.heap.size:=hXB.size;have HBS:Hid (B<X.heap.size∧Z<X.heap.size∧w.heap.size≤B∧w.heap.size≤Z∧B≠Z):=⟨by have:=HB.out;omega,by have:=HZ.out;omega,by have:=HB.out;omega,by have:=HZ.out;omega,by have h1:=HB.out;have h2:=HZ.out;omega⟩
 clear hat hfew hX0 hX1 hXs;unfold Net.val;go_enter Tryz.func61,Tryz.ntmps61;(go_wp2_with fail);rw[←HX.out,←HZ.out,←HB.out];go_cut [3] (fun _ wx=>∃ba bc la lc,Hid (NetP wx X.heap.size n 0 (.slice ba n.K bc) (.slice la n.L lc) (fun a=>.slice (n.bs a).pao (n.bs a).pn (n.bs a).pcap) (fun a=>.slice (n.bs a).reg.ao (n.bs a).reg.n (n.bs a).reg.cap)∧wx.heap[B]?=some (.cells #[.slice ba n.K bc,.slice la n.L lc] 25)∧wx.heap[Z]?=some (.cells #[.slice none 0 0,.slice none 0 0] 25)∧Bl w wx∧X.heap.size≤wx.heap.size))
 case first =>
  go_region_with (first | (go_at_call 96;refine(HCB.out _ (by first | exact HB0.out _ | exact Below.drew (Below.refl _ _) | exact H2.out.2.2)).mono ?_;rintro e w1 ⟨a1,p1,rfl,H1⟩;obtain⟨y1,y2,y3,y4⟩:=HCF.out w1 H1.out.2.2) | (go_at_call 97;refine(HCL.out _ (by first | exact H1.out.2.2 | exact HB0.out _ | exact Below.drew (Below.refl _ _))).mono ?_;rintro e w2 ⟨a2,p2,rfl,H2⟩;obtain⟨z1,z2,z3,z4⟩:=HCF.out w2 H2.out.2.2))
  (all_goals go_wp2_with fail);all_goals go_meet
  all_goals exact⟨a1,p1,a2,p2,HST.out _ a1 p1 a2 p2 H2.out.2.2 (owns_mono (ownsC_below H1.out.1 H2.out.2.1) (below_drewN (Below.refl X.heap.size X) _).size) (owns_mono H2.out.1 H1.out.2.2.size)⟩
 case rest =>
 obtain⟨ba,bc,la,lc,HC⟩:=hcut;clear HCF HCB HCL HST c0 c1 f0 f1;obtain⟨c0,c1⟩:=tC2 HC.out.2.1;(go_wp2_with fail);clear c0 c1;go_loopw [16] (fun z wr=>∃i:Nat,i≤n.K∧z=.int .i64 i∧Hid (∃iv we,NetP wr X.heap.size n i (.slice ba n.K bc) (.slice la n.L lc) iv we∧wr.heap[B]?=some (.cells #[.slice ba n.K bc,.slice la n.L lc] 25)∧wr.heap[Z]?=some (.cells #[.slice none 0 0,.slice none 0 0] 25)∧Bl w wr∧X.heap.size≤wr.heap.size)) (fun z _=>n.K-(intOf z).toNat)
 case atStart=>exact⟨0,by omega,rfl,_,_,HC.out.1,HC.out.2.1,HC.out.2.2.1,HC.out.2.2.2.1,HC.out.2.2.2.2⟩
 case round =>
  obtain⟨i,hi,rfl,hY⟩:=hrel;clear HC;by_cases hlt:i<n.K
  ·obtain⟨iv,we,hN,hBB,hZZ,hw,hsz⟩:=hY.out;obtain⟨g,cap,sp,e,hg,hc,hm,hs,hh⟩:=hN.row (by omega);injection e with e1 _ e2;subst e1 e2;obtain⟨c0,c1⟩:=tC2 hBB;obtain⟨o1,o2⟩:=hN.old i (Nat.le_refl _);have HCF:Hid (∀V,Bl wr V→V.cell? ⟨g,i*5+1,none⟩=some (.slice (n.bs i).pao (n.bs i).pn (n.bs i).pcap)∧V.cell? ⟨g,i*5+4,none⟩=some (.slice (n.bs i).reg.ao (n.bs i).reg.n (n.bs i).reg.cap)∧V.frozen? ⟨g,i*5+1,none⟩=false∧V.frozen? ⟨g,i*5+4,none⟩=false):=fun V hV=>by
    have k0:=keep hh hV;refine⟨?_,?_,frozen_of_row _ _ _ _ _ k0,frozen_of_row _ _ _ _ _ k0⟩
    ·rw[←o1];exact rowS_cell k0 hlt (show 1<5 by omega)
    ·rw[←o2];exact rowS_cell k0 hlt (show 4<5 by omega)
   have hbr:=HAT.out.each i hlt;have HCI:Hid (∀V,Bl wr V→Calls Tryz.prog 98 #[.slice (n.bs i).pao (n.bs i).pn (n.bs i).pcap] V fun e w'=>∃a cp,e=.returned (.slice a (n.bs i).pn cp)∧Hid (w'.ownsRow V.heap.size 3 1 (.slice a (n.bs i).pn cp) (n.bs i).pn (cellsL (n.bs i).pn 1 (fun j _=>.int .i64 ((n.bs i).pv j)))∧Bl V w'∧Bl wr w')):=fun V hV=>by
    refine(clone_int (n.bs i).pao (n.bs i).pn (n.bs i).pcap (fun j _=>.int .i64 ((n.bs i).pv j)) V (HFW.out i hlt).1 (fun _ _=>rfl) (CRow.below (CRow.below hbr.1 hw) hV)).mono ?_;rintro e w' ⟨v,rfl,h1,h2⟩;obtain⟨a,cp,rfl⟩:=owns_slice h1;exact⟨a,cp,rfl,h1,h2,hV.trans (h2.mono hV.size)⟩
   have HCW:Hid (∀V,Bl wr V→Calls Tryz.prog 99 #[.slice (n.bs i).reg.ao (n.bs i).reg.n (n.bs i).reg.cap] V fun e w'=>∃a cp,e=.returned (.slice a (n.bs i).reg.n cp)∧Hid (w'.ownsRow V.heap.size 81 2 (.slice a (n.bs i).reg.n cp) (n.bs i).reg.n (cellsL (n.bs i).reg.n 2 (fun j=>wyC ((n.bs i).reg.vs j) ((n.bs i).reg.ts j)))∧Bl V w'∧Bl wr w')):=fun V hV=>by
    refine(clone_way (n.bs i).reg.ao (n.bs i).reg.n (n.bs i).reg.cap (fun j=>wyC ((n.bs i).reg.vs j) ((n.bs i).reg.ts j)) V (HFW.out i hlt).2 (fun _ _=>wyC_one _ _ _) (CRow.below (CRow.below (way_crow hbr.2.1) hw) hV)).mono ?_;rintro e w' ⟨v,rfl,h1,h2⟩;obtain⟨a,cp,rfl⟩:=owns_slice h1;exact⟨a,cp,rfl,h1,h2,hV.trans (h2.mono hV.size)⟩
   have HNX:Hid (∀V v1 v2,Bl wr V→V.ownsRow wr.heap.size 3 1 v1 (n.bs i).pn (cellsL (n.bs i).pn 1 (fun j _=>.int .i64 ((n.bs i).pv j)))→V.ownsRow wr.heap.size 81 2 v2 (n.bs i).reg.n (cellsL (n.bs i).reg.n 2 (fun j=>wyC ((n.bs i).reg.vs j) ((n.bs i).reg.ts j))) →
     ∃iv we,NetP ((V.setCell ⟨g,i*5+1,none⟩ v1).setCell ⟨g,i*5+4,none⟩ v2) X.heap.size n (i+1) (.slice (some ⟨g,0,none⟩) n.K bc) (.slice la n.L lc) iv we∧((V.setCell ⟨g,i*5+1,none⟩ v1).setCell ⟨g,i*5+4,none⟩ v2).heap[B]?=some (.cells #[.slice (some ⟨g,0,none⟩) n.K bc,.slice la n.L lc] 25)∧((V.setCell ⟨g,i*5+1,none⟩ v1).setCell ⟨g,i*5+4,none⟩ v2).heap[Z]?=some (.cells #[.slice none 0 0,.slice none 0 0] 25)∧Bl w ((V.setCell ⟨g,i*5+1,none⟩ v1).setCell ⟨g,i*5+4,none⟩ v2)∧X.heap.size≤((V.setCell ⟨g,i*5+1,none⟩ v1).setCell ⟨g,i*5+4,none⟩ v2).heap.size):=fun V v1 v2 hV h1 h2=>by
    have bt:Bt (fun q=>q=g) wr ((V.setCell ⟨g,i*5+1,none⟩ v1).setCell ⟨g,i*5+4,none⟩ v2):=(((Bt.of (P:=fun q=>q=g) hV).setCell (Or.inl rfl) _ _).setCell (Or.inl rfl) _ _)
    refine⟨_,_,hN.step hlt rfl hV hsz h1 h2,bt.keep hBB (fun e=>by subst e;exact absurd (cells_type hBB hh) (by decide)),bt.keep hZZ (fun e=>by subst e;exact absurd (cells_type hZZ hh) (by decide)),?_,Nat.le_trans hsz bt.size⟩;have hq:w.heap.size≤g:=Nat.le_trans hwX hg;exact hw.trans (bt.below hw.size (fun q hq' e=>by omega))
   have HB0:Hid (∀m,Bl wr (wr.drewN m)):=fun m=>below_drewN (Below.refl _ _) m;have HB1:Hid (Bl wr wr.drew):=Below.drew (Below.refl _ _);obtain⟨x1,x2,x3,x4⟩:=HCF.out wr (Below.refl _ _);have ii:(0:Int)≤(i:Int):=(by omega)
   have ni:(i:Int)<(n.K:Int):=(by omega)
   clear hY hN hBB hZZ hh hbr o1 o2 HFW HAT hg hm hs;generalize (n.bs i).pao=pao at *;generalize (n.bs i).pcap=pcap at *;generalize (n.bs i).reg.ao=wao at *;generalize (n.bs i).reg.cap=wcap at *;(go_wp2_with fail);go_region_with (first | (go_at_call 98;refine(HCI.out _ (by first | exact HB0.out _ | exact HB1.out | exact H2.out.2.2)).mono ?_;rintro e w1 ⟨a1,p1,rfl,H1⟩;obtain⟨y1,y2,y3,y4⟩:=HCF.out w1 H1.out.2.2) | (go_at_call 99;refine(HCW.out _ (by first | exact H1.out.2.2 | exact HB0.out _ | exact HB1.out)).mono ?_;rintro e w2 ⟨a2,p2,rfl,H2⟩;obtain⟨z1,z2,z3,z4⟩:=HCF.out w2 H2.out.2.2))
   (all_goals go_wp2_with fail);all_goals exact⟨⟨i+1,by omega,by go_num,HNX.out _ _ _ H2.out.2.2 (owns_mono (ownsC_below H1.out.1 H2.out.2.1) (below_drewN (Below.refl wr.heap.size wr) _).size) (owns_mono H2.out.1 H1.out.2.2.size)⟩,by simp[intOf];omega⟩
  ·obtain rfl:i=n.K:=by omega
   obtain⟨iv,we,hN,hBB,hZZ,hw,hsz⟩:=hY.out;obtain⟨c0,c1⟩:=tC2 hBB;obtain⟨d0,d1⟩:=tC2 hZZ;have g0:wr.frozen? ⟨Z,0,none⟩=false:=frozen_of_row _ _ _ _ _ hZZ;have g1:wr.frozen? ⟨Z,1,none⟩=false:=frozen_of_row _ _ _ _ _ hZZ;have HFN:Hid (((wr.setCell ⟨Z,0,none⟩ (.slice ba n.K bc)).setCell ⟨Z,1,none⟩ (.slice la n.L lc)).heap[Z]?=some (.cells #[.slice ba n.K bc,.slice la n.L lc] 25)∧CopW w n (.returned (.agg #[.slice ba n.K bc,.slice la n.L lc])) ((wr.setCell ⟨Z,0,none⟩ (.slice ba n.K bc)).setCell ⟨Z,1,none⟩ (.slice la n.L lc))):=by
    have hq:w.heap.size≤Z:=HBS.out.2.2.2.1;have bt:Bt (fun q=>q=Z) wr ((wr.setCell ⟨Z,0,none⟩ (.slice ba n.K bc)).setCell ⟨Z,1,none⟩ (.slice la n.L lc)):=(((Bt.refl (fun q=>q=Z) wr).setCell (Or.inl rfl) _ _).setCell (Or.inl rfl) _ _)
    have ne:∀{q:Nat},X.heap.size≤q→¬q=Z:=fun hq e=>by have:=HBS.out.2.1;omega
    refine⟨?_,ba,bc,la,lc,iv,we,rfl,⟨?_,?_,?_,?_,hN.old⟩,(hw.setCell hq _).setCell hq _⟩
    ·have k1:=heap_setCell_same _ _ 0 _ _ (Value.slice ba n.K bc) hZZ;rw[heap_setCell_same _ _ 1 _ _ _ k1];rfl
    ·exact owns_mono (owns_keep hN.brs (fun q hq=>bt.block q (oCb hN.brs q hq).2 (ne (oCb hN.brs q hq).1))) hwX
    ·exact owns_mono (owns_keep hN.lks (fun q hq=>bt.block q (oCb hN.lks q hq).2 (ne (oCb hN.lks q hq).1))) hwX
    ·have:=hN.ints.bt bt (fun a ha q hq=>ne (oCb (hN.ints.own a ha) q hq).1);exact⟨fun a ha=>owns_mono (this.own a ha) hwX,this.one⟩
    ·have:=hN.ways.bt bt (fun a ha q hq=>ne (oCb (hN.ways.own a ha) q hq).1);exact⟨fun a ha=>owns_mono (this.own a ha) hwX,this.one⟩
   clear hY hN hBB hZZ hw;(go_wp2_with fail);exact bodyPost_ret (v:=.agg #[.slice ba n.K bc,.slice la n.L lc]) (results_row (p:=2) (ty:=25) Tryz.results61 _ _ Z 25 #[.slice ba n.K bc,.slice la n.L lc] (0,0) _ rfl HFN.out.1 Tryz.underlying25 rfl (by kernel_rfl)) rfl HFN.out.2
namespace Tk
def lst3 (pts:Nat→List Int) (ms:Nat→Nat→Mnd) (k i j:Nat):List Int:=if j=0 then pts i else if j=1 then(ms k i).roles else(ms k i).calm
def ilm (K T:Nat) (pts:Nat→List Int) (ms:Nat→Nat→Mnd) (a:Nat):List Int :=
 if a<12 then [] else if (a-12)/36<T∧(a-12)%36/3<K then lst3 pts ms ((a-12)/36) ((a-12)%36/3) ((a-12)%3) else []
theorem ilm_ix {K T:Nat}(hK:K≤12) (pts:Nat→List Int) (ms:Nat→Nat→Mnd) {k i j:Nat}(hk:k<T) (hi:i<K) (hj:j<3):ilm K T pts ms (ixM k i j)=lst3 pts ms k i j:=by
 obtain⟨a1,a2,a3,a4⟩:=ix_parts (k:=k) (i:=i) (j:=j) (by omega) hj;unfold ilm;rw[if_neg a1,a2,a3,a4,if_pos ⟨hk,hi⟩]
theorem ilm_out {K T:Nat}(pts:Nat→List Int) (ms:Nat→Nat→Mnd) {a:Nat}(h:a<12∨¬(a-12)/36<T∨¬(a-12)%36/3<K):ilm K T pts ms a=[]:=by
 unfold ilm;by_cases q:a<12
 ·rw[if_pos q]
 ·rw[if_neg q,if_neg (by omega)]
theorem ilist_ilm (K T:Nat) (pts:Nat→List Int) (s:Sc) (a:Nat):ilist K T pts s a=if a<12 then(if a<K then s.pr a else []) else ilm K T pts s.ms a:=by
 unfold ilist ilm lst3;by_cases q:a<12
 ·rw[if_pos q,if_pos q]
 ·rw[if_neg q,if_neg q,if_neg q]
end Tk
open Tk (lst3 ilm)
structure TkAt (W:World) (K T:Nat) (pts:Nat→List Int) (ms:Nat→Nat→Mnd) (oao:Option Addr) (ocap:Nat) (vt iv:Nat→Value):Prop where
 out:CRow W oao T ocap 1 (fun k _=>vt k)
 mds:∀k,k<T→∃ao cap,vt k=.slice ao K cap∧CRow W ao K cap 9 (fun i=>mdC (ms k i).md (iv (ixM k i 0)) (iv (ixM k i 1)) (iv (ixM k i 2)))
 ints:∀k i j,k<T→i<K→j<3→∃ao cap,iv (ixM k i j)=.slice ao (lst3 pts ms k i j).length cap∧IRow W ao (lst3 pts ms k i j).length cap (IL (lst3 pts ms k i j))
theorem TkAt.below {W W':World}{K T:Nat}{pts:Nat→List Int}{ms:Nat→Nat→Mnd}{oao:Option Addr}{ocap:Nat}{vt iv:Nat→Value}(h:TkAt W K T pts ms oao ocap vt iv) (hb:Bl W W'):TkAt W' K T pts ms oao ocap vt iv :=
 ⟨CRow.below h.out hb,fun k hk=>by obtain⟨ao,cap,e,h1⟩:=h.mds k hk;exact⟨ao,cap,e,CRow.below h1 hb⟩,fun k i j hk hi hj=>by obtain⟨ao,cap,e,h1⟩:=h.ints k i j hk hi hj;exact⟨ao,cap,e,CRow.below h1 hb⟩⟩
structure TlP (W:World) (base K T:Nat) (pts:Nat→List Int) (ms:Nat→Nat→Mnd) (t x:Nat) (vo:Value) (vt iv vt0 iv0:Nat→Value):Prop where
 out:W.ownsRow base 64 1 vo T (cellsL T 1 (fun k _=>vt k))
 mds:Fam W base 66 9 t vt (fun _=>K) (fun k i=>mdC (ms k i).md (iv (ixM k i 0)) (iv (ixM k i 1)) (iv (ixM k i 2)))
 ints:Fam W base 3 1 x iv (fun a=>(ilm K T pts ms a).length) (fun a i _=>.int .i64 (IL (ilm K T pts ms a) i))
 old:∀k,t≤k→vt k=vt0 k
 oldi:∀a,x≤a→iv a=iv0 a
section
variable {W W':World}{base K T:Nat}{pts:Nat→List Int}{ms:Nat→Nat→Mnd}{t x:Nat}{vo:Value}{vt iv vt0 iv0:Nat→Value}
theorem TlP.row (h:TlP W base K T pts ms t x vo vt iv vt0 iv0) (hp:0<T):∃g cap sp,vo=.slice (some ⟨g,0,none⟩) T cap∧base≤g∧T≤cap∧cap≤maxLen∧sp.size+T*1=cap*1∧W.heap[g]?=some (.cells (rowS sp T 1 (fun k _=>vt k)) 64):=by
 rcases owns_rowS h.out with⟨_,q⟩ | q
 ·omega
 ·exact q
theorem TlP.mrow (h:TlP W base K T pts ms t x vo vt iv vt0 iv0) {k:Nat}(hk:k<t) (hp:0<K):∃g cap sp,vt k=.slice (some ⟨g,0,none⟩) K cap∧base≤g∧K≤cap∧cap≤maxLen∧sp.size+K*9=cap*9∧W.heap[g]?=some (.cells (rowS sp K 9 (fun i=>mdC (ms k i).md (iv (ixM k i 0)) (iv (ixM k i 1)) (iv (ixM k i 2)))) 66):=by
 rcases owns_rowS (h.mds.own k hk) with⟨_,q⟩ | q
 ·omega
 ·exact q
theorem TlP.tree (h:TlP W base K T pts ms t x vo vt iv vt0 iv0) (ht:t<T) {g cap:Nat}(hv:vo=.slice (some ⟨g,0,none⟩) T cap) (hb:Bl W W') (hbase:base≤W.heap.size) {v1:Value}
  (h1:W'.ownsRow W.heap.size 66 9 v1 K (cellsL K 9 (fun i=>mdC (ms t i).md (iv (ixM t i 0)) (iv (ixM t i 1)) (iv (ixM t i 2))))) :
  TlP (W'.setCell ⟨g,t,none⟩ v1) base K T pts ms (t+1) x vo (upF vt t v1) iv vt0 iv0:=by
 obtain⟨g',cap',sp,e,hg,hc,hm,hs,hh⟩:=h.row (by omega);rw[hv] at e;injection e with e1 _ e2;injection e1 with e3;injection e3 with e4;subst e4 e2;have hgl:g<W.heap.size:=(gSm.1 hh).1;have hh':=(hb.block g hgl).trans hh;have bt:Bt (fun q=>q=g) W (W'.setCell ⟨g,t,none⟩ v1):=((Bt.of (P:=fun q=>q=g) hb).setCell (Or.inl rfl) _ _)
 have bt2:Bt (fun q=>q=g) W' (W'.setCell ⟨g,t,none⟩ v1):=((Bt.refl (fun q=>q=g) W').setCell (Or.inl rfl) _ _)
 have ne:∀{q cur e},W.heap[q]?=some (.cells cur e (0,0))→e≠64→¬q=g:=fun hq he hp=>by subst hp;exact he (cells_type hq hh)
 have ne2:∀{q cur e},W'.heap[q]?=some (.cells cur e (0,0))→e≠64→¬q=g:=fun hq he hp=>by subst hp;exact he (cells_type hq hh')
 have k1:=owns_keep h1 (fun q hq=>bt2.block q (oCb h1 q hq).2 (ne2 (owns_type h1 hq).choose_spec (by decide)));refine⟨?_,h.mds.more bt (fun a ha q hq=>ne (owns_type (h.mds.own a ha) hq).choose_spec (by decide)) k1 (Nat.le_refl _) hbase,h.ints.bt bt (fun a ha q hq=>ne (owns_type (h.ints.own a ha) hq).choose_spec (by decide)),fun k hk => ?_,h.oldi⟩
 ·rw[hv];have s1:=rowS_set hh' ht (show 0<1 by omega) v1;rw[show t*1+0=t by omega] at s1;refine rowS_owns hg hc hm hs (s1.trans (congrArg (fun a=>some (Obj.cells a 64)) (rowS_congr2 sp ?_)));intro a ha y hy;unfold updC;by_cases q:a=t
  ·subst q;rw[upF_same];simp[show y=0 by omega]
  ·rw[upF_other _ _ q];simp[q]
 ·rw[upF_other _ _ (by omega)];exact h.old k (by omega)
theorem TlP.mind {k i:Nat}(h:TlP W base K T pts ms (k+1) (ixM k i 0) vo vt iv vt0 iv0) (hk:k<T) (hi:i<K) (hK:K≤12) {g cap:Nat}(hv:vt k=.slice (some ⟨g,0,none⟩) K cap) {W1 W2 W3:World}(hb1:Bl W W1) (hb2:Bl W1 W2) (hb3:Bl W2 W3) (hbase:base≤W.heap.size) {v1 v2 v3:Value}
  (h1:W1.ownsRow W.heap.size 3 1 v1 (lst3 pts ms k i 0).length (cellsL (lst3 pts ms k i 0).length 1 (fun j _=>.int .i64 (IL (lst3 pts ms k i 0) j))))
  (h2:W2.ownsRow W1.heap.size 3 1 v2 (lst3 pts ms k i 1).length (cellsL (lst3 pts ms k i 1).length 1 (fun j _=>.int .i64 (IL (lst3 pts ms k i 1) j))))
  (h3:W3.ownsRow W2.heap.size 3 1 v3 (lst3 pts ms k i 2).length (cellsL (lst3 pts ms k i 2).length 1 (fun j _=>.int .i64 (IL (lst3 pts ms k i 2) j)))) :
  TlP (((W3.setCell ⟨g,i*9+6,none⟩ v1).setCell ⟨g,i*9+7,none⟩ v2).setCell ⟨g,i*9+8,none⟩ v3) base K T pts ms (k+1) (ixM k (i+1) 0) vo vt (upF (upF (upF iv (ixM k i 0) v1) (ixM k i 1) v2) (ixM k i 2) v3) vt0 iv0:=by
 obtain⟨g',cap',sp,e,hg,hc,hm,hs,hh⟩:=h.mrow (Nat.lt_succ_self k) (by omega);rw[hv] at e;injection e with e1 _ e2;injection e1 with e3;injection e3 with e4;subst e4 e2;have hb:Bl W W3:=hb1.trans ((hb2.mono hb1.size).trans (hb3.mono (Nat.le_trans hb1.size hb2.size)));have hgl:g<W.heap.size:=(gSm.1 hh).1;have hh':=(hb.block g hgl).trans hh;have i0:ixM k i 0+1=ixM k i 1:=rfl;have i1:ixM k i 1+1=ixM k i 2:=rfl;have i2:ixM k i 2+1=ixM k (i+1) 0:=(by unfold ixM;omega)
 have bt:Bt (fun q=>q=g) W (((W3.setCell ⟨g,i*9+6,none⟩ v1).setCell ⟨g,i*9+7,none⟩ v2).setCell ⟨g,i*9+8,none⟩ v3):=((((Bt.of (P:=fun q=>q=g) hb).setCell (Or.inl rfl) _ _).setCell (Or.inl rfl) _ _).setCell (Or.inl rfl) _ _)
 have bt3:Bt (fun q=>q=g) W3 (((W3.setCell ⟨g,i*9+6,none⟩ v1).setCell ⟨g,i*9+7,none⟩ v2).setCell ⟨g,i*9+8,none⟩ v3):=((((Bt.refl (fun q=>q=g) W3).setCell (Or.inl rfl) _ _).setCell (Or.inl rfl) _ _).setCell (Or.inl rfl) _ _)
 have ne:∀{q cur e},W.heap[q]?=some (.cells cur e (0,0))→e≠66→¬q=g:=fun hq he hp=>by subst hp;exact he (cells_type hq hh)
 have ne3:∀{q cur e},W3.heap[q]?=some (.cells cur e (0,0))→e≠66→¬q=g:=fun hq he hp=>by subst hp;exact he (cells_type hq hh')
 have l0:=Tk.ilm_ix (T:=T) hK pts ms hk hi (show 0<3 by omega);have l1:=Tk.ilm_ix (T:=T) hK pts ms hk hi (show 1<3 by omega);have l2:=Tk.ilm_ix (T:=T) hK pts ms hk hi (show 2<3 by omega);have m1:=h.ints.more (Bt.of (P:=fun _=>False) hb1) (fun _ _ _ _ hf=>hf) (v':=v1) (base':=W.heap.size) (by simp only[l0];exact h1) (Nat.le_refl _) hbase;rw[i0] at m1;have m2:=m1.more (Bt.of (P:=fun _=>False) hb2) (fun _ _ _ _ hf=>hf) (v':=v2) (base':=W1.heap.size) (by simp only[l1];exact h2) (Nat.le_refl _) (Nat.le_trans hbase hb1.size);rw[i1] at m2;have m3:=m2.more (Bt.of (P:=fun _=>False) hb3) (fun _ _ _ _ hf=>hf) (v':=v3) (base':=W2.heap.size) (by simp only[l2];exact h3) (Nat.le_refl _) (Nat.le_trans hbase (Nat.le_trans hb1.size hb2.size));rw[i2] at m3;have m4:=m3.bt bt3 (fun a ha q hq=>ne3 (owns_type (m3.own a ha) hq).choose_spec (by decide));have up:∀k' i' j,i'<12→j<3→¬(k'=k∧i'=i)→upF (upF (upF iv (ixM k i 0) v1) (ixM k i 1) v2) (ixM k i 2) v3 (ixM k' i' j)=iv (ixM k' i' j):=fun k' i' j hi' hj hn=>by
  rw[upF_other _ _ (fun e=>hn ⟨(Tk.ix_one hi' hj (by omega) (by omega) e).1,(Tk.ix_one hi' hj (by omega) (by omega) e).2.1⟩),upF_other _ _ (fun e=>hn ⟨(Tk.ix_one hi' hj (by omega) (by omega) e).1,(Tk.ix_one hi' hj (by omega) (by omega) e).2.1⟩),upF_other _ _ (fun e=>hn ⟨(Tk.ix_one hi' hj (by omega) (by omega) e).1,(Tk.ix_one hi' hj (by omega) (by omega) e).2.1⟩)]
 have u0:upF (upF (upF iv (ixM k i 0) v1) (ixM k i 1) v2) (ixM k i 2) v3 (ixM k i 0)=v1:=by
  rw[upF_other _ _ (by omega),upF_other _ _ (by omega),upF_same]
 have u1:upF (upF (upF iv (ixM k i 0) v1) (ixM k i 1) v2) (ixM k i 2) v3 (ixM k i 1)=v2:=by
  rw[upF_other _ _ (by omega),upF_same]
 have u2:upF (upF (upF iv (ixM k i 0) v1) (ixM k i 1) v2) (ixM k i 2) v3 (ixM k i 2)=v3:=upF_same _ _ _;refine⟨owns_keep h.out (fun q hq=>bt.block q (oCb h.out q hq).2 (ne (owns_type h.out hq).choose_spec (by decide))),?_,m4,h.old,fun a ha => ?_⟩
 ·have s1:=rowS_set hh' hi (show 6<9 by omega) v1;have s2:=rowS_set s1 hi (show 7<9 by omega) v2;have s3:=rowS_set s2 hi (show 8<9 by omega) v3;refine(h.mds.write (Nat.lt_succ_self k) hv bt (fun a ha hne q hq hp => ?_) hc hm hs s3).congr (fun _ _=>rfl) (fun a ha i' hi' y hy => ?_)
  ·subst hp;exact hne (h.mds.one a k ha (Nat.lt_succ_self k) q hq (by rw[hv];rfl))
  ·by_cases qa:a=k
   ·subst qa;rw[upF_same];unfold updC;by_cases qi:i'=i
    ·subst qi;rw[u0,u1,u2];rcases(by omega:y<6∨y=6∨y=7∨y=8) with e | e | e | e
     ·rw[if_neg (by omega),if_neg (by omega),if_neg (by omega)];simp only[mdC];by_cases y4:y<4
      ·rw[if_pos y4,if_pos y4]
      ·rw[if_neg y4,if_neg y4];rcases(by omega:y=4∨y=5) with e | e<;>subst e<;>simp
     ·subst e;simp[mdC]
     ·subst e;simp[mdC]
     ·subst e;simp[mdC]
    ·rw[up _ _ _ (by omega) (by omega) (by omega),up _ _ _ (by omega) (by omega) (by omega),up _ _ _ (by omega) (by omega) (by omega)];simp[qi]
   ·rw[upF_other _ _ qa,up _ _ _ (by omega) (by omega) (by omega),up _ _ _ (by omega) (by omega) (by omega),up _ _ _ (by omega) (by omega) (by omega)]
 ·rw[upF_other _ _ (by omega),upF_other _ _ (by omega),upF_other _ _ (by omega)];exact h.oldi a (by omega)
theorem Fam.nils {e kk T T':Nat}{v:Nat→Value}{n:Nat→Nat}{c:Nat→Nat→Nat→Value}(h:Fam W base e kk T v n c) (hn:∀a,T≤a→a<T'→v a=.slice none 0 0∧n a=0):Fam W base e kk T' v n c:=by
 refine⟨fun a ha => ?_,fun a b ha hb q hqa hqb => ?_⟩
 ·by_cases q:a<T
  ·exact h.own a q
  ·obtain⟨e1,e2⟩:=hn a (by omega) ha;rw[e1,e2];exact ownsC_nil _ _ _ _ _
 ·by_cases qa:a<T
  ·by_cases qb:b<T
   ·exact h.one a b qa qb q hqa hqb
   ·rw[(hn b (by omega) hb).1] at hqb;simp[Value.ownBlock] at hqb
  ·rw[(hn a (by omega) ha).1] at hqa;simp[Value.ownBlock] at hqa
theorem TlP.next {k:Nat}(h:TlP W base K T pts ms (k+1) (ixM k K 0) vo vt iv vt0 iv0) (hK:K≤12) (hn:∀a,(a-12)%36/3≥K→iv0 a=.slice none 0 0):TlP W base K T pts ms (k+1) (ixM (k+1) 0 0) vo vt iv vt0 iv0:=by
 refine⟨h.out,h.mds,h.ints.nils (fun a h1 h2 => ?_),h.old,fun a ha=>h.oldi a (by unfold ixM at *;omega)⟩;have hq:(a-12)%36/3≥K:=(by unfold ixM at h1 h2;omega)
 exact⟨(h.oldi a h1).trans (hn a hq),by rw[Tk.ilm_out pts ms (Or.inr (Or.inr (by omega)))];rfl⟩
end
end
section
open Go.RowKit
section
variable {P:Program}{ops:Array Oper}{Q:Exit→Act→World→Prop}{md:Region.Mode}{z:Nat}{C:World→Prop}
def wpAnyZ (P:Program) (md:Region.Mode) (ops:Array Oper) (Q:Exit→Act→World→Prop) (z:Nat) (C:World→Prop):Nat→Array Bool→Act→World→Prop
 | 0,listed,a,w=>Region.ready md ops listed=[]∧Q .normal a w
 | fuel+1,listed,a,w =>
  (Region.ready md ops listed=[]→Q .normal a w) ∧
  ∀i∈Region.ready md ops listed,wpOp P ops Q i (fun a' w'=>((listed.setIfInBounds i true).getD z true=true∨C w')∧wpAnyZ P md ops Q z C fuel (listed.setIfInBounds i true) a' w') a w
theorem wpAny_of_z:∀(fuel:Nat) (listed:Array Bool) (a:Act) (w:World),wpAnyZ P md ops Q z C fuel listed a w→wpAny P md ops Q fuel listed a w
 | 0,_,_,_,h=>h
 | fuel+1,_,_,_,h=>⟨h.1,fun i hi=>wpOp_mono (fun a' w' h'=>wpAny_of_z fuel _ a' w' h'.2) (h.2 i hi)⟩
def zwait (md:Region.Mode) (ops:Array Oper) (i:Nat) (D:List Nat) (j:Nat):Bool :=
 match ops[j]? with
 | some o=>o.after.any (fun e=>Region.binds md e&&(e.on == i||D.contains e.on))
 | none=>false
def zdesc (md:Region.Mode) (ops:Array Oper) (i:Nat):Nat→List Nat
 | 0=>[]
 | n+1=>(List.range ops.size).filter (zwait md ops i (zdesc md ops i n))
def zok (md:Region.Mode) (ops:Array Oper) (listed:Array Bool) (z i:Nat):Bool :=
 i != z&&(zdesc md ops i ops.size).contains z&&(zdesc md ops i ops.size).all (fun d=>zwait md ops i (zdesc md ops i ops.size) d && !listed.getD d true)
theorem zunlisted {listed:Array Bool}{i:Nat}(h0:listed.getD i true=false):listed.getD i false=false:=by
 rcases Nat.lt_or_ge i listed.size with h' | h'
 ·simp[h'] at h0 ⊢;exact h0
 ·simp[Array.getElem?_eq_none h'] at h0
theorem wpAnyZ_first {i:Nat}{oi:Oper}{v:Value}(hi:ops[i]?=some oi) (hsel:∀(j:Nat) (o:Oper) cs b,ops[j]?=some o→o.op≠.select cs b)
  (hQ:∀c a w,Q (.panic c) (a.put oi.dst v) w→Q (.panic c) a w) {D:List Nat}(hiz:i≠z) (hzD:z∈D) (hcl:∀d,d∈D→zwait md ops i D d=true) :
  ∀(fuel:Nat) (listed:Array Bool) (a:Act) (w:World),
   (∀j oj,ops[j]?=some oj→j≠i→listed.getD j true=false→(∀e∈oj.after,Region.binds md e=true→e.on≠i)→oi.apart ops oj=true) →
   (∀d,d∈D→listed.getD d true=false)→i∈Region.ready md ops listed→YieldsIf P ops C oi v a→C w →
   wpAnyZ P md ops Q z C fuel (listed.setIfInBounds i true) (a.put oi.dst v) w→wpAnyZ P md ops Q z C (fuel+1) listed a w:=by
 intro fuel;induction fuel with
 | zero =>
  intro listed a w _ _ hr hy hS H;refine⟨fun h=>(by rw[h] at hr;cases hr),fun j hj => ?_⟩;by_cases hji:j=i
  ·subst hji;exact hy.wpOp hi hS ⟨Or.inr hS,H⟩
  ·have:=ready_mono hj hji;rw[H.1] at this;cases this
 | succ fuel ih =>
  intro listed a w hfree hun hr hy hS H;refine⟨fun h=>(by rw[h] at hr;cases hr),fun j hj => ?_⟩;by_cases hji:j=i
  ·subst hji;exact hy.wpOp hi hS ⟨Or.inr hS,H⟩
  ·have h1:=H.2 j (ready_mono hj hji);obtain⟨hjun,oj,hoj,hall⟩:=mem_ready.1 hj;have h0:=zunlisted (mem_ready.1 hr).1;have hnot:∀e∈oj.after,Region.binds md e=true→e.on≠i:=fun e he hb heq=>by
    have h1:=hall e he hb;rw[heq,h0] at h1;cases h1
   have hjD:j ∉ D:=fun hm=>by
    have hw:=hcl j hm;unfold zwait at hw;rw[hoj] at hw;simp only[Array.any_eq_true,Bool.and_eq_true,Bool.or_eq_true,beq_iff_eq,List.contains_iff_mem] at hw;obtain⟨x,hx,hb,he⟩:=hw;have h1:=hall _ (Array.getElem_mem hx) hb;rcases he with he | he
    ·rw[he,h0] at h1;cases h1
    ·rw[zunlisted (hun _ he)] at h1;cases h1
   have hjz:j≠z:=fun e=>hjD (e ▸ hzD);have h2:=wpOp_putIf hoj (hfree j oj hoj hji hjun hnot) (fun cs b=>hsel i oi cs b hi) (fun cs b=>hsel j oj cs b hoj) hQ hy h1;have hfree':∀k ok,ops[k]?=some ok→k≠i→(listed.setIfInBounds j true).getD k true=false →
     (∀e∈ok.after,Region.binds md e=true→e.on≠i)→oi.apart ops ok=true:=fun k ok hk hki hun hno=>by
    refine hfree k ok hk hki ?_ hno;by_cases hjk:j=k
    ·subst hjk;exact hjun
    ·rw[getD_set_ne true hjk] at hun;exact hun
   have hun':∀d,d∈D→(listed.setIfInBounds j true).getD d true=false:=fun d hd=>by
    have hne:j≠d:=fun e=>by subst e;exact hjD hd
    rw[getD_set_ne true hne];exact hun d hd
   refine wpOp_mono (fun a' w' h3 => ?_) h2;have hC:C w':=by
    rcases h3.2.1 with h4 | h4
    ·rw[getD_set_ne true hjz,getD_set_ne true hiz,hun z hzD] at h4;cases h4
    ·exact h4
   refine⟨Or.inr hC,ih (listed.setIfInBounds j true) a' w' hfree' hun' (ready_mono hr (Ne.symm hji)) h3.1 hC ?_⟩;rw[Array.setIfInBounds_comm _ _ hji];exact h3.2.2
theorem wpAnyZ_firstW {i:Nat}{oi:Oper}{v:Value}(hi:ops[i]?=some oi) (hsel:∀(j:Nat) (o:Oper) cs b,ops[j]?=some o→o.op≠.select cs b)
  (hQ:∀c a w,Q (.panic c) (a.put oi.dst v) w→Q (.panic c) a w) (hiz:i≠z) :
  ∀(fuel:Nat) (listed:Array Bool) (a:Act) (w:World),
   (∀j oj,ops[j]?=some oj→j≠i→listed.getD j true=false→(∀e∈oj.after,Region.binds md e=true→e.on≠i)→oi.apart ops oj=true) →
   i∈Region.ready md ops listed→YieldsIf P ops (fun _=>True) oi v a→(listed.getD z true=true∨C w) →
   wpAnyZ P md ops Q z C fuel (listed.setIfInBounds i true) (a.put oi.dst v) w→wpAnyZ P md ops Q z C (fuel+1) listed a w:=by
 intro fuel;induction fuel with
 | zero =>
  intro listed a w _ hr hy hS H;refine⟨fun h=>(by rw[h] at hr;cases hr),fun j hj => ?_⟩;by_cases hji:j=i
  ·subst hji;exact hy.wpOp hi trivial ⟨by rw[getD_set_ne true hiz];exact hS,H⟩
  ·have:=ready_mono hj hji;rw[H.1] at this;cases this
 | succ fuel ih =>
  intro listed a w hfree hr hy hS H;refine⟨fun h=>(by rw[h] at hr;cases hr),fun j hj => ?_⟩;by_cases hji:j=i
  ·subst hji;exact hy.wpOp hi trivial ⟨by rw[getD_set_ne true hiz];exact hS,H⟩
  ·have h1:=H.2 j (ready_mono hj hji);obtain⟨hjun,oj,hoj,hall⟩:=mem_ready.1 hj;have h0:=zunlisted (mem_ready.1 hr).1;have hnot:∀e∈oj.after,Region.binds md e=true→e.on≠i:=fun e he hb heq=>by
    have h1:=hall e he hb;rw[heq,h0] at h1;cases h1
   have h2:=wpOp_putIf hoj (hfree j oj hoj hji hjun hnot) (fun cs b=>hsel i oi cs b hi) (fun cs b=>hsel j oj cs b hoj) hQ hy h1;have hfree':∀k ok,ops[k]?=some ok→k≠i→(listed.setIfInBounds j true).getD k true=false →
     (∀e∈ok.after,Region.binds md e=true→e.on≠i)→oi.apart ops ok=true:=fun k ok hk hki hun hno=>by
    refine hfree k ok hk hki ?_ hno;by_cases hjk:j=k
    ·subst hjk;exact hjun
    ·rw[getD_set_ne true hjk] at hun;exact hun
   refine wpOp_mono (fun a' w' h3 => ?_) h2;have hS':(listed.setIfInBounds j true).getD z true=true∨C w':=by
    have h4:=h3.2.1;rw[Array.setIfInBounds_comm _ _ (Ne.symm hji),getD_set_ne true hiz] at h4;exact h4
   refine⟨hS',ih (listed.setIfInBounds j true) a' w' hfree' (ready_mono hr (Ne.symm hji)) h3.1 hS' ?_⟩;rw[Array.setIfInBounds_comm _ _ hji];exact h3.2.2
theorem z_load {i:Nat}{oi:Oper}{v:Value}(d:Option Tmp) {fuel:Nat}{listed:Array Bool}{a:Act}{w:World}(hi:ops[i]?=some oi) (hd:oi.dst=d)
  (hs:Region.noSelect ops=true) (hf:Region.free md ops listed i=true) (hr:(Region.ready md ops listed).contains i=true) (hk:zok md ops listed z i=true)
  (hQ:∀c a w,Q (.panic c) (a.put d v) w→Q (.panic c) a w) (hw:Region.wanted oi (yielded ops a.tmps)=true) (hy:∀w,C w→(execOp a.eval oi).run P w=.ok (.value v) w) (hS:listed.getD z true=true∨C w)
  (h:wpAnyZ P md ops Q z C fuel (listed.setIfInBounds i true) (a.put d v) w):wpAnyZ P md ops Q z C (fuel+1) listed a w:=by
 subst hd;unfold zok at hk;simp only[Bool.and_eq_true,bne_iff_ne,ne_eq,List.contains_iff_mem,List.all_eq_true,Bool.not_eq_true'] at hk;obtain⟨⟨k1,k2⟩,k3⟩:=hk;have hC:C w:=by
  rcases hS with h1 | h1
  ·rw[(k3 z k2).2] at h1;cases h1
  ·exact h1
 exact wpAnyZ_first hi (Region.noSelect_spec hs) hQ k1 k2 (fun d hd=>(k3 d hd).1) fuel listed a w (Region.free_spec hi hf) (fun d hd=>(k3 d hd).2) (by simpa using hr) (Or.inl ⟨hw,hy⟩) hC h
theorem z_take {i:Nat}{oi:Oper}{v:Value}(d:Option Tmp) {fuel:Nat}{listed:Array Bool}{a:Act}{w:World}(hi:ops[i]?=some oi) (hd:oi.dst=d)
  (hs:Region.noSelect ops=true) (hf:Region.free md ops listed i=true) (hr:(Region.ready md ops listed).contains i=true) (hiz:i≠z)
  (hQ:∀c a w,Q (.panic c) (a.put d v) w→Q (.panic c) a w) (hw:Region.wanted oi (yielded ops a.tmps)=true) (hy:∀w,(execOp a.eval oi).run P w=.ok (.value v) w) (hS:listed.getD z true=true∨C w)
  (h:wpAnyZ P md ops Q z C fuel (listed.setIfInBounds i true) (a.put d v) w):wpAnyZ P md ops Q z C (fuel+1) listed a w:=by
 subst hd;exact wpAnyZ_firstW hi (Region.noSelect_spec hs) hQ hiz fuel listed a w (Region.free_spec hi hf) (by simpa using hr) (Or.inl ⟨hw,fun w _=>hy w⟩) hS h
theorem z_one {i:Nat}{o:Oper}{fuel:Nat}{listed:Array Bool}{a:Act}{w:World}(hr:Region.ready md ops listed=[i]) (ho:ops[i]?=some o)
  (h:∀K':Act→World→Prop,Shut (∀a w,((listed.setIfInBounds i true).getD z true=true∨C w)→(((listed.setIfInBounds i true).getD z true=true∨C w)→wpAnyZ P md ops Q z C fuel (listed.setIfInBounds i true) a w)→K' a w)→if Region.wanted o (yielded ops a.tmps)=true then Oper.wp P o a w K' Q else K' (a.put o.dst undef) w) :
  wpAnyZ P md ops Q z C (fuel+1) listed a w:=by
 refine⟨fun h0=>(by rw[hr] at h0;cases h0),fun j hj => ?_⟩;rw[hr] at hj;obtain rfl:j=i:=by simpa using hj
 exact wpOp_step ho (fun K' hK=>h K' (fun a w hS hW=>hK a w ⟨hS,hW hS⟩))
theorem z_done {listed:Array Bool}{a:Act}{w:World}(hr:Region.ready md ops listed=[]) (h:Q .normal a w) :
  ∀fuel,wpAnyZ P md ops Q z C fuel listed a w
 | 0=>⟨hr,h⟩
 | _+1=>⟨fun _=>h,by rw[hr];simp⟩
theorem wp_region_z {id:Nat}{a:Act}{w:World}(hm:P.follows .mixedOrders=true) (hC:C w.drew)
  (h:(Array.replicate ops.size false).getD z true=true∨C w.drew→wpAnyZ P .any ops Q z C ops.size (Array.replicate ops.size false) a w.drew):(Code.region id ops true).wp P Q a w :=
 wp_region_any hm (wpAny_of_z _ _ _ _ (h (Or.inr hC)))
end
end
end Go.Proofs.YtaneiffnhphkhaaGreatDoor
