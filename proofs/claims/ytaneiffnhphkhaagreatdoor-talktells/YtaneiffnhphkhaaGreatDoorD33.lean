/- walks: the document's On (written by tools/gen_tf6.py) -/
import Derived.Test.YtaneiffnhphkhaaGreatDoorD32
set_option maxRecDepth 100000
set_option maxHeartbeats 40000000
namespace Go.Proofs.YtaneiffnhphkhaaGreatDoor
section
open Go.RowKit
open Vc (V Of)
open Pl (En Lk Br Net LN lf)
open Tk (Md Mnd Cn Sc Dn)
theorem ok_tick9 {c:Cn}{s:Sc}{T:Nat}(h:Tk.Ok c s T) {j:Nat}(hj:j≤200):Tk.Ok c (s.ticks c j) T:=by
 have h1:=h.one ⟨1,j,0,0⟩ (by unfold Tk.errOf;rw[if_pos rfl,if_pos ⟨by simp,by show(j:Int)≤200;omega⟩]);have e:s.one c ⟨1,j,0,0⟩=s.ticks c j:=(by unfold Tk.Sc.one;rw[if_pos rfl];rfl)
 rw[e] at h1;exact h1
theorem one_1 {c:Cn}(s:Sc) {d:Dn}(h:d.kind=1):s.one c d=s.ticks c d.n.toNat:=by unfold Tk.Sc.one;rw[if_pos h]
theorem one_2 {c:Cn}(s:Sc) {d:Dn}(h:d.kind=2):s.one c d=s.setUp d.n.toNat true:=by unfold Tk.Sc.one;rw[if_neg (by omega),if_pos h]
theorem one_3 {c:Cn}(s:Sc) {d:Dn}(h:d.kind=3):s.one c d=s.setUp d.n.toNat false:=by unfold Tk.Sc.one;rw[if_neg (by omega),if_neg (by omega),if_pos h]
theorem one_4 {c:Cn}(s:Sc) {d:Dn}(h:d.kind=4):s.one c d=s.setCost d.n.toNat d.value:=by unfold Tk.Sc.one;rw[if_neg (by omega),if_neg (by omega),if_neg (by omega),if_pos h]
theorem one_5 {c:Cn}(s:Sc) {d:Dn}(h:d.kind=5):s.one c d=s.setPrio d.n.toNat d.tree.toNat d.value:=by unfold Tk.Sc.one;rw[if_neg (by omega),if_neg (by omega),if_neg (by omega),if_neg (by omega)]
theorem lkC_up (s:Sc) (k:Nat) (up:Bool) (j y:Nat) (hy:y<6):lkC ((s.setUp k up).ls j) y=if j=k∧y=5 then .bool up else lkC (s.ls j) y:=by
 unfold Tk.Sc.setUp;by_cases q:j=k
 ·subst q;rcases(by omega:y=0∨y=1∨y=2∨y=3∨y=4∨y=5) with e | e | e | e | e | e<;>subst e<;>simp[lkC]
 ·simp[q]
theorem lkC_cost (s:Sc) (k:Nat) (v:Int) (j y:Nat) (hy:y<6):lkC ((s.setCost k v).ls j) y=if j=k∧y=4 then .int .i64 v else lkC (s.ls j) y:=by
 unfold Tk.Sc.setCost;by_cases q:j=k
 ·subst q;rcases(by omega:y=0∨y=1∨y=2∨y=3∨y=4∨y=5) with e | e | e | e | e | e<;>subst e<;>simp[lkC]
 ·simp[q]
theorem but_drew {W V:World}{a b c:Nat}(h:∀q,q≠a→q≠b→q≠c→V.heap[q]?=W.heap[q]?):∀q,q≠a→q≠b→q≠c→V.drew.heap[q]?=W.heap[q]?:=h
theorem but_set1 {W V:World}{a b c o:Nat}{v:Value}(h:∀q,q≠a→q≠b→q≠c→V.heap[q]?=W.heap[q]?):∀q,q≠a→q≠b→q≠c→(V.setCell ⟨a,o,none⟩ v).heap[q]?=W.heap[q]?:=fun q h1 h2 h3=>(pset_keep2 h1).trans (h q h1 h2 h3)
theorem but_set2 {W V:World}{a b c o:Nat}{v:Value}(h:∀q,q≠a→q≠b→q≠c→V.heap[q]?=W.heap[q]?):∀q,q≠a→q≠b→q≠c→(V.setCell ⟨b,o,none⟩ v).heap[q]?=W.heap[q]?:=fun q h1 h2 h3=>(pset_keep2 h2).trans (h q h1 h2 h3)
theorem but_set3 {W V:World}{a b c o:Nat}{v:Value}(h:∀q,q≠a→q≠b→q≠c→V.heap[q]?=W.heap[q]?):∀q,q≠a→q≠b→q≠c→(V.setCell ⟨c,o,none⟩ v).heap[q]?=W.heap[q]?:=fun q h1 h2 h3=>(pset_keep2 h3).trans (h q h1 h2 h3)
theorem do_cells9 {w:World}{g:Nat}{a0 a1 a2 a3:Value}{ty:TypeId}(h:w.heap[g]?=some (.cells #[a0,a1,a2,a3] ty (0,0))):w.cell? ⟨g,0,none⟩=some a0∧w.cell? ⟨g,1,none⟩=some a1∧w.cell? ⟨g,2,none⟩=some a2∧w.cell? ⟨g,3,none⟩=some a3 :=
 ⟨cell_of_row w g 0 _ _ _ h,cell_of_row w g 1 _ _ _ h,cell_of_row w g 2 _ _ _ h,cell_of_row w g 3 _ _ _ h⟩
theorem ron_any (n:Net) (oao:Option Addr) (ocap:Nat) (t:List Tr) (ms:Nat→Nat→Mnd) (dao:Option Addr) (dn dcap:Nat) (ds:Nat→Dn) (N:Nat→Prop) (w:World) (hwf:n.Wf) (hN:∀q,N q→q<w.heap.size) (hat:Bz N w (fun V=>n.at' V)) (hnb:NilOk n.bao n.K n.bcap) (hnl:NilOk n.lao n.L n.lcap) (hnp:∀i,i<n.K→NilOk (n.bs i).pao (n.bs i).pn (n.bs i).pcap)
  (htr:Bz N w (fun V=>TrRow V oao ocap t)) (hdn:dn≤9223372036854775807) (hds:DRow w dao dn dcap ds) (hc:CalmT t) (hm:∀k,k<t.length→∀i,i<n.K→ms k i=msT t k i) :
  Calls Tryz.prog 21 #[n.val,.agg #[.slice oao t.length ocap],.slice dao dn dcap] w fun e w'=>RonW w N n t ms ds dn e w':=by
 obtain⟨X2,HX2⟩:∃X2,Hid (X2=(w.alloc (.cells #[.slice n.bao n.K n.bcap,.slice n.lao n.L n.lcap] 25)).alloc (.cells #[.slice oao t.length ocap] 29)):=⟨_,rfl⟩
 obtain⟨X,HX⟩:∃X,Hid (X=((X2.alloc (.cells #[.slice none 0 0,.slice none 0 0] 25)).alloc (.cells #[.slice none 0 0] 29)).alloc (.cells #[.int .i64 0,.int .i64 0] 32)):=⟨_,rfl⟩
 have b1:Bl w X2:=(by rw[HX2.out];exact bA2 _ _ _)
 have s1:X2.heap.size=w.heap.size+1+1:=(by rw[HX2.out];simp)
 have b2:Bl X2 X:=(by rw[HX.out];exact((bA2 _ _ _).alloc (by simp;omega) _))
 have s2:X.heap.size=X2.heap.size+1+1+1:=(by rw[HX.out];simp)
 have hXB:Bl w X:=b1.trans (b2.mono b1.size);have g0:X.heap[w.heap.size]?=some (.cells #[.slice n.bao n.K n.bcap,.slice n.lao n.L n.lcap] 25):=keep (by rw[HX2.out];exact heap_alloc2_old _ _ _) b2;have g1:X.heap[w.heap.size+1]?=some (.cells #[.slice oao t.length ocap] 29):=keep (by rw[HX2.out];exact heap_alloc2_new _ _ _) b2;have g2:X.heap[w.heap.size+1+1]?=some (.cells #[.slice none 0 0,.slice none 0 0] 25):=by
  rw[HX.out,←s1];exact keep (heap_alloc2_old _ _ _) (bA1 _ _)
 have g3:X.heap[w.heap.size+1+1+1]?=some (.cells #[.slice none 0 0] 29):=by
  rw[HX.out,←s1];exact keep (heap_alloc2_new _ _ _) (bA1 _ _)
 have g4:X.heap[w.heap.size+1+1+1+1]?=some (.cells #[.int .i64 0,.int .i64 0] 32):=by
  have:w.heap.size+1+1+1+1=((X2.alloc (.cells #[.slice none 0 0,.slice none 0 0] 25)).alloc (.cells #[.slice none 0 0] 29)).heap.size:=by simp[s1]
  rw[HX.out,this];exact heap_alloc_last _ _
 obtain⟨BN,HBN⟩:∃BN,Hid (BN=w.heap.size):=⟨_,rfl⟩
 obtain⟨BT,HBT⟩:∃BT,Hid (BT=w.heap.size+1):=⟨_,rfl⟩
 obtain⟨RN,HRN⟩:∃RN,Hid (RN=w.heap.size+1+1):=⟨_,rfl⟩
 obtain⟨RT,HRT⟩:∃RT,Hid (RT=w.heap.size+1+1+1):=⟨_,rfl⟩
 obtain⟨RF,HRF⟩:∃RF,Hid (RF=w.heap.size+1+1+1+1):=⟨_,rfl⟩
 rw[←HBN.out] at g0;rw[←HBT.out] at g1;rw[←HRN.out] at g2;rw[←HRT.out] at g3;rw[←HRF.out] at g4;have HORD:Hid ((w.heap.size≤BN∧BN<BT∧BT<RN∧RN<RT∧RT<RF)∧X.heap.size=RF+1):=by
  have e1:=HBN.out;have e2:=HBT.out;have e3:=HRN.out;have e4:=HRT.out;have e5:=HRF.out;exact⟨⟨by omega,by omega,by omega,by omega,by omega⟩,by omega⟩
 have ne1:RN≠RT:=(by have:=HORD.out;omega)
 have ne2:RN≠RF:=(by have:=HORD.out;omega)
 have ne3:RT≠RF:=(by have:=HORD.out;omega)
 have HRB:Hid (∀V,Bl X V→RB w V RN RT RF):=fun V hV=>⟨keep g2 hV,keep g3 hV,keep g4 hV,hXB.trans (hV.mono hXB.size)⟩
 have HBX:Hid (∀V,Bl X V→V.heap[BN]?=some (.cells #[.slice n.bao n.K n.bcap,.slice n.lao n.L n.lcap] 25)∧V.heap[BT]?=some (.cells #[.slice oao t.length ocap] 29)):=fun V hV=>⟨keep g0 hV,keep g1 hV⟩
 have HBAD:Hid (∀(V:World) (E A:Int),RB w V RN RT RF→Calls Tryz.prog 42 #[.int .i64 E,.int .i64 A] V fun e w'=>e=.returned (.tuple #[.agg #[.slice none 0 0,.slice none 0 0],.agg #[.slice none 0 0],.agg #[.int .i64 E,.int .i64 A]])∧Hid (RB w w' RN RT RF)):=fun V E A h=>(ron1_any E A V).mono (fun e w' z=>⟨z.1,h.below z.2⟩);have HEND:Hid (∀(W1:World) (E A:Int),RB w W1 RN RT RF→(((((W1.setCell ⟨RN,0,none⟩ (.slice none 0 0)).setCell ⟨RN,1,none⟩ (.slice none 0 0)).setCell ⟨RT,0,none⟩ (.slice none 0 0)).setCell ⟨RF,0,none⟩ (.int .i64 E)).setCell ⟨RF,1,none⟩ (.int .i64 A)).heap[RN]?=some (.cells #[.slice none 0 0,.slice none 0 0] 25)∧(((((W1.setCell ⟨RN,0,none⟩ (.slice none 0 0)).setCell ⟨RN,1,none⟩ (.slice none 0 0)).setCell ⟨RT,0,none⟩ (.slice none 0 0)).setCell ⟨RF,0,none⟩ (.int .i64 E)).setCell ⟨RF,1,none⟩ (.int .i64 A)).heap[RT]?=some (.cells #[.slice none 0 0] 29)∧(((((W1.setCell ⟨RN,0,none⟩ (.slice none 0 0)).setCell ⟨RN,1,none⟩ (.slice none 0 0)).setCell ⟨RT,0,none⟩ (.slice none 0 0)).setCell ⟨RF,0,none⟩ (.int .i64 E)).setCell ⟨RF,1,none⟩ (.int .i64 A)).heap[RF]?=some (.cells #[.int .i64 E,.int .i64 A] 32)∧Bl w (((((W1.setCell ⟨RN,0,none⟩ (.slice none 0 0)).setCell ⟨RN,1,none⟩ (.slice none 0 0)).setCell ⟨RT,0,none⟩ (.slice none 0 0)).setCell ⟨RF,0,none⟩ (.int .i64 E)).setCell ⟨RF,1,none⟩ (.int .i64 A))):=fun W1 E A h=>by
  obtain⟨z1,z2,z3⟩:=five_set (v0:=.slice none 0 0) (v1:=.slice none 0 0) (v2:=.slice none 0 0) (v3:=.int .i64 E) (v4:=.int .i64 A) h.n h.t h.f ne1 ne2 ne3;have l1:w.heap.size≤RN:=(by have:=HORD.out;omega)
  have l2:w.heap.size≤RT:=(by have:=HORD.out;omega)
  have l3:w.heap.size≤RF:=(by have:=HORD.out;omega)
  exact⟨z1,z2,z3,((((h.low.setCell l1 _).setCell l1 _).setCell l2 _).setCell l3 _).setCell l3 _⟩
 have HWR:Hid (Calls Tryz.prog 34 #[.agg #[.slice n.bao n.K n.bcap,.slice n.lao n.L n.lcap]] X fun e w'=>e=.returned (.agg #[.int .i64 n.wrong.1,.int .i64 n.wrong.2])∧Hid (Bl X w')):=(rwrong6_any n X (hat.at' hXB)).mono (fun e w' h=>⟨h.1,h.2⟩);have HFT:Hid (n.Right→∀V,Bl X V→Calls Tryz.prog 43 #[.agg #[.slice n.bao n.K n.bcap,.slice n.lao n.L n.lcap],.agg #[.slice oao t.length ocap]] V fun e w'=>e=.returned (.bool (fitT n t))∧Hid (Bl X w')):=fun R V hV=>by
  have hw:=hXB.trans (hV.mono hXB.size);exact(rfits_any n oao ocap t V (hat.at' hw) R.fewL R.links (htr.at' hw)).mono (fun e w' h=>⟨h.1,hV.trans (h.2.mono hV.size)⟩)
 have HDS:Hid (∀V,Bl w V→DRow V dao dn dcap ds):=fun V hV=>CRow.below hds hV;have HWF:Hid n.Wf:=hwf;have HXW:Hid (Bl w X):=hXB;have HIN:Hid (Bz N w (fun V=>n.at' V)∧Bz N w (fun V=>TrRow V oao ocap t)):=⟨hat,htr⟩
 have HNL:Hid (NilOk n.bao n.K n.bcap∧NilOk n.lao n.L n.lcap∧∀i,i<n.K→NilOk (n.bs i).pao (n.bs i).pn (n.bs i).pcap):=⟨hnb,hnl,hnp⟩
 have HCM:Hid (CalmT t∧∀k,k<t.length→∀i,i<n.K→ms k i=msT t k i):=⟨hc,hm⟩
 have HNN:Hid (∀q,N q→q<w.heap.size):=hN;have hcap:=hds.1;obtain⟨x0,x1⟩:=tC2 g0;clear hwf hat htr hds hc hm hnb hnl hnp hN b1 b2 s1 s2 hXB g0 g1 g2 g3 g4;rw[HX.out,HX2.out,HBN.out] at x0 x1;simp only[Pl.Net.val];go_enter Tryz.func21,Tryz.ntmps21;(go_wp2_with fail);rw[←HX2.out,←HX.out,←HRF.out,←HRT.out,←HRN.out,←HBT.out,←HBN.out];refine HWR.out.mono ?_;rintro e w1 ⟨rfl,H1⟩;clear x0 x1 HWR;obtain⟨V1,HV1⟩:∃V1,Hid (V1=w1.alloc (.cells #[.int .i64 n.wrong.1,.int .i64 n.wrong.2] 32)):=⟨_,rfl⟩
 have hV1:Bl X V1:=(by rw[HV1.out];exact H1.out.alloc H1.out.size _)
 obtain⟨f0,f1⟩:=tC2 (show V1.heap[w1.heap.size]?=some (.cells #[.int .i64 n.wrong.1,.int .i64 n.wrong.2] 32) by rw[HV1.out];exact heap_alloc_last _ _);have hbx:=HBX.out V1 hV1;obtain⟨r0,r1⟩:=tC2 hbx.1;have r2:=one_cell hbx.2;rw[HV1.out] at f0 f1 r0 r1 r2;by_cases q:n.wrong.1=0
 ·have R:=right_of HWF.out q;have HR:Hid n.Right:=R;have HN0:Hid (n.wrong.1=0):=q;have HFV:Hid (Calls Tryz.prog 43 #[.agg #[.slice n.bao n.K n.bcap,.slice n.lao n.L n.lcap],.agg #[.slice oao t.length ocap]] V1 fun e w'=>e=.returned (.bool (fitT n t))∧Hid (Bl X w')):=HFT.out R V1 hV1;have HWT:Hid (onErr n t ds dn=if fitT n t=false then(8,0) else if 30<dn then(5,0) else Tk.errTo n.cn ds dn):=by
   have e:wrT n t dn=if fitT n t=false then(8,0) else if 30<dn then(5,0) else(0,0):=by
    unfold wrT;rw[if_neg (fun z=>z q)]
   show(if (wrT n t dn).1≠0 then wrT n t dn else Tk.errTo n.cn ds dn)=_;rw[e];by_cases z1:fitT n t=false
   ·rw[if_pos z1,if_pos z1,if_pos (by decide)]
   ·rw[if_neg z1,if_neg z1];by_cases z2:30<dn
    ·rw[if_pos z2,if_pos z2,if_pos (by decide)]
    ·rw[if_neg z2,if_neg z2,if_neg (fun z=>z rfl)]
  clear HFT hbx R hV1;rw[q] at f0 f1 r0 r1 r2 HV1 ⊢;clear q;(go_wp2_with fail);rw[←HV1.out];refine HFV.out.mono ?_;rintro e w2 ⟨rfl,H2⟩;clear HFV f0 f1 r0 r1 r2;cases hft:fitT n t with
  | false =>
   have HE:Hid (onErr n t ds dn=(8,0)):=(by rw[HWT.out,if_pos hft];rfl)
   have HNZ:Hid ((8:Int)≠0):=(show(8:Int)≠0 by decide)
   have HRW:Hid (RB w w2 RN RT RF):=HRB.out w2 H2.out;clear HWT hft;(go_wp2_with fail);refine(HBAD.out _ 8 0 HRW.out).mono ?_;rintro e W1 ⟨rfl,HW1⟩;obtain⟨⟨p0,p1⟩,p2,⟨p3,p4⟩,⟨q0,q1⟩,q2,q3,q4⟩:=HW1.out.cells;(go_wp2_with fail);obtain⟨z1,z2,z3,z4⟩:=HEND.out W1 8 0 HW1.out;exact bodyPost_ret (v:=.tuple #[.agg #[.slice none 0 0,.slice none 0 0],.agg #[.slice none 0 0],.agg #[.int .i64 8,.int .i64 0]]) (results_row3 Tryz.results21 _ _ RN RT RF 25 29 32 #[.slice none 0 0,.slice none 0 0] #[.slice none 0 0] #[.int .i64 8,.int .i64 0] (0,0) (0,0) (0,0) _ _ _ rfl rfl rfl z1 z2 z3 Tryz.underlying25 Tryz.underlying29 Tryz.underlying32 rfl rfl rfl (by rw[sizeNt];rfl) (by rw[sizeTk];rfl) (by rw[sizeFt];rfl)) rfl ⟨z4,Or.inl ⟨by rw[HE.out];exact HNZ.out,by rw[HE.out]⟩⟩
  | true =>
   have HFIT:Hid (fitT n t=true):=hft;by_cases hdl:(dn:Int) > 30
   ·as_aux_lemma =>
     have HE:Hid (onErr n t ds dn=(5,0)):=(by rw[HWT.out,if_neg (by rw[hft];exact Bool.noConfusion),if_pos (by omega)];rfl)
     have HNZ:Hid ((5:Int)≠0):=(show(5:Int)≠0 by decide)
     have HRW:Hid (RB w w2 RN RT RF):=HRB.out w2 H2.out;clear HWT hft;(go_wp2_with fail);refine(HBAD.out _ 5 0 HRW.out).mono ?_;rintro e W1 ⟨rfl,HW1⟩;obtain⟨⟨p0,p1⟩,p2,⟨p3,p4⟩,⟨q0,q1⟩,q2,q3,q4⟩:=HW1.out.cells;(go_wp2_with fail);obtain⟨z1,z2,z3,z4⟩:=HEND.out W1 5 0 HW1.out;exact bodyPost_ret (v:=.tuple #[.agg #[.slice none 0 0,.slice none 0 0],.agg #[.slice none 0 0],.agg #[.int .i64 5,.int .i64 0]]) (results_row3 Tryz.results21 _ _ RN RT RF 25 29 32 #[.slice none 0 0,.slice none 0 0] #[.slice none 0 0] #[.int .i64 5,.int .i64 0] (0,0) (0,0) (0,0) _ _ _ rfl rfl rfl z1 z2 z3 Tryz.underlying25 Tryz.underlying29 Tryz.underlying32 rfl rfl rfl (by rw[sizeNt];rfl) (by rw[sizeTk];rfl) (by rw[sizeFt];rfl)) rfl ⟨z4,Or.inl ⟨by rw[HE.out];exact HNZ.out,by rw[HE.out]⟩⟩
   ·have HE0:Hid (onErr n t ds dn=Tk.errTo n.cn ds dn):=(by rw[HWT.out,if_neg (by rw[hft];exact Bool.noConfusion),if_neg (by omega)];rfl)
    have hd30:dn≤30:=(by omega)
    have hK:=HR.out.few;have hL:=HR.out.fewL;have hw2:=HXW.out.trans (H2.out.mono HXW.out.size);obtain⟨bo,bc,w3,rb1,ob1,bb1⟩:=cp_br (HIN.out.1.at' hw2).brs HNL.out.1 (by omega);have hbx2:=HBX.out w2 H2.out;obtain⟨r0,r1⟩:=tC2 hbx2.1;have hX3:Bl X w3:=H2.out.trans (bb1.mono H2.out.size);have hbx3:=HBX.out w3 hX3;obtain⟨r3,r4⟩:=tC2 hbx3.1;have r5:=frozen_of_row w3 BN 0 _ _ hbx3.1;obtain⟨W3,HW3⟩:∃W3,Hid (W3=w3.setCell ⟨BN,0,none⟩ (.slice bo n.K bc)):=⟨_,rfl⟩
    have hbn3:W3.heap[BN]?=some (.cells #[.slice bo n.K bc,.slice n.lao n.L n.lcap] 25):=(by rw[HW3.out,heap_setCell_same _ _ _ _ _ _ hbx3.1];rfl)
    have hw3:Bl w W3:=by
     rw[HW3.out];exact(HXW.out.trans (hX3.mono HXW.out.size)).setCell (show w.heap.size≤BN by have:=HORD.out;omega) _
    obtain⟨lo,lc,w4,rl1,ol1,bl1⟩:=cp_lk (HIN.out.1.at' hw3).lks HNL.out.2.1 (by omega);have hbn4:=keep hbn3 bl1;obtain⟨r6,r7⟩:=tC2 hbn3;obtain⟨r8,r9⟩:=tC2 hbn4;have r10:=frozen_of_row w4 BN 1 _ _ hbn4;obtain⟨W4,HW4⟩:∃W4,Hid (W4=w4.setCell ⟨BN,1,none⟩ (.slice lo n.L lc)):=⟨_,rfl⟩
    obtain⟨M,HM⟩:∃M:Nat→Prop,Hid (M=fun q=>N q∨(q=BN∨q=BT∨q=RN∨q=RT∨q=RF∨(Value.slice bo n.K bc).ownBlock=some q∨(Value.slice lo n.L lc).ownBlock=some q)):=⟨_,rfl⟩
    have HMR:Hid ((∀q,N q→M q)∧M RN∧M RT∧M RF):=by
     rw[HM.out];exact⟨fun q z=>Or.inl z,Or.inr (Or.inr (Or.inr (Or.inl rfl))),Or.inr (Or.inr (Or.inr (Or.inr (Or.inl rfl)))),Or.inr (Or.inr (Or.inr (Or.inr (Or.inr (Or.inl rfl)))))⟩
    have HST:Hid (∃n' oa oc t',OnS w W4 BN BT RN RT RF n M t.length ((n.sc ms).all n.cn ds 0) n' oa oc t'):=by
     have hs2:=H2.out.size;have hX:=HORD.out;have hbs:w3.heap.size=W3.heap.size:=(by rw[HW3.out];simp)
     have h23:=bb1.size;have h34:=bl1.size;have hs4:W4.heap.size=w4.heap.size:=(by rw[HW4.out];simp)
     have hw4:Bl w W4:=by
      rw[HW4.out];exact(hw3.trans (bl1.mono hw3.size)).setCell (show w.heap.size≤BN by omega) _
     have kp:∀{q:Nat}{x:Obj},q≠BN→X.heap[q]?=some x→W4.heap[q]?=some x:=fun {q x} hne hq=>by
      have h3:=keep hq hX3;have h4:W3.heap[q]?=some x:=(by rw[HW3.out];exact pset_keep h3 hne)
      rw[HW4.out];exact pset_keep (keep h4 bl1) hne
     have hXX:=HRB.out X (Below.refl _ _);have hbX:=HBX.out X (Below.refl _ _);have oB:W4.ownsRow (RF+1) 74 5 (.slice bo n.K bc) n.K (cellsL n.K 5 (fun i=>brC (n.bs i))):=by
      have h1:=owns_mono ob1 (show RF+1≤w2.heap.size by omega);have h2:W3.ownsRow (RF+1) 74 5 (.slice bo n.K bc) n.K (cellsL n.K 5 (fun i=>brC (n.bs i))):=by
       rw[HW3.out];exact owns_keep h1 (fun q hq=>pset_keep2 (by have:=(oCb h1 q hq).1;omega))
      have h3:=ownsC_below h2 bl1;rw[HW4.out];exact owns_keep h3 (fun q hq=>pset_keep2 (by have:=(oCb h3 q hq).1;omega))
     have oL:W4.ownsRow (RF+1) 83 6 (.slice lo n.L lc) n.L (cellsL n.L 6 (fun i=>lkC (n.ls i))):=by
      have h1:=owns_mono ol1 (show RF+1≤W3.heap.size by omega);rw[HW4.out];exact owns_keep h1 (fun q hq=>pset_keep2 (by have:=(oCb h1 q hq).1;omega))
     have hMo:∀q,(q=BN∨q=BT∨q=RN∨q=RT∨q=RF∨(Value.slice bo n.K bc).ownBlock=some q∨(Value.slice lo n.L lc).ownBlock=some q)→w.heap.size≤q∧q<W4.heap.size:=fun q hq=>by
      have h0:RF<W4.heap.size:=(by omega)
      rcases hq with e | e | e | e | e | e | e
      ·omega
      ·omega
      ·omega
      ·omega
      ·omega
      ·have:=oCb oB q e;omega
      ·have:=oCb oL q e;omega
     have hpl:(n.sc ms).all n.cn ds 0=n.sc ms:=rfl;have hre:(⟨bo,n.K,bc,n.bs,lo,n.L,lc,n.ls⟩:Net)=⟨bo,n.K,bc,n.bs,lo,n.L,lc,n.ls⟩:=rfl;rw[hpl];refine⟨reNet n (n.sc ms) bo bc lo lc (fun i=>((n.bs i).pao,(n.bs i).pcap,(n.bs i).reg.ao,(n.bs i).reg.cap)),oao,ocap,t,?_⟩;have hpr:∀i,((n.sc ms).pr i).length=(n.bs i).pn∧∀j,j<(n.bs i).pn→IL ((n.sc ms).pr i) j=(n.bs i).pv j:=fun i=>⟨lsF_len _ _,fun j hj=>by
      show IL (lsF (n.bs i).pv (n.bs i).pn) j=_;simp[lsF,IL,hj]⟩
     have hbr:∀i,i<n.K→brC ((reNet n (n.sc ms) bo bc lo lc (fun i=>((n.bs i).pao,(n.bs i).pcap,(n.bs i).reg.ao,(n.bs i).reg.cap))).bs i)=brC (n.bs i):=fun i _=>by
      funext y
      unfold reNet brC;simp only[(hpr i).1]
     refine⟨hw4,?_,kp (by omega) hbX.2,kp (by omega) hXX.n,kp (by omega) hXX.t,kp (by omega) hXX.f,?_,oL,?_,?_,?_,?_,?_,?_,⟨_,rfl⟩,rfl,hX.1,?_⟩
     ·show W4.heap[BN]?=some (.cells #[.slice bo n.K bc,.slice lo n.L lc] 25);rw[HW4.out,heap_setCell_same _ _ _ _ _ _ hbn4];rfl
     ·show W4.ownsRow (RF+1) 74 5 (.slice bo n.K bc) n.K _;exact(congrArg (fun xs=>W4.ownsRow (RF+1) 74 5 (.slice bo n.K bc) n.K xs) (cellsL_congr n.K 5 _ _ hbr)).mpr oB
     ·intro q hq;rw[HM.out];exact Or.inr (Or.inr (Or.inr (Or.inr (Or.inr (Or.inr (Or.inl hq))))))
     ·intro q hq;rw[HM.out];exact Or.inr (Or.inr (Or.inr (Or.inr (Or.inr (Or.inr (Or.inr hq))))))
     ·rw[HM.out];exact Or.inr (Or.inr (Or.inl rfl))
     ·intro q hq;rw[HM.out] at hq;rcases hq with z | z
      ·have h1:=HNN.out q z;have h2:=hw4.size;omega
      ·exact(hMo q z).2
     ·rw[HM.out];refine(HIN.out.1.more hw4 (fun q z=>(hMo q z).1)).imp (fun V hV i hi => ?_);have hi:i<n.K:=hi;obtain⟨z1,z2,z3,z4⟩:=hV.each i hi;refine⟨⟨?_,z2,?_,z4⟩,?_⟩
      ·show IRow V (n.bs i).pao ((n.sc ms).pr i).length (n.bs i).pcap (IL ((n.sc ms).pr i));rw[(hpr i).1];exact CRow.congr z1 (fun j hj=>by funext y;rw[(hpr i).2 j hj])
      ·show((n.sc ms).pr i).length≤_;rw[(hpr i).1];exact z3
      ·show NilOk (n.bs i).pao ((n.sc ms).pr i).length (n.bs i).pcap;rw[(hpr i).1];exact HNL.out.2.2 i hi
     ·rw[HM.out];exact HIN.out.2.more hw4 (fun q z=>(hMo q z).1)
     ·intro k hk;obtain⟨_,z⟩:=fit_iff.1 HFIT.out;exact⟨(z k hk).1,fun i hi=>⟨(HCM.out.2 k hk i hi).symm,((z k hk).2 i hi).1⟩⟩
    have HOK:Hid (Tk.Ok n.cn (n.sc ms) t.length∧(1≤t.length∧t.length≤4)):=⟨fit_ok HWF.out HN0.out HFIT.out HCM.out.1 HCM.out.2,(fit_iff.1 HFIT.out).1⟩
    have hs3:W3.heap.size=w3.heap.size:=(by rw[HW3.out];simp)
    rw[hs3] at rl1;have HRB1:Hid _:=rb1;have HRL1:Hid _:=rl1;rw[HW3.out] at HRL1 r6 r7;have lb2:BN<w2.heap.size:=lt_some hbx2.1;have lb3:BN<w3.heap.size:=lt_some hbx3.1;clear hs3 hft HWT H2 HIN HNL HCM HM rb1 rl1 ob1 ol1 bb1 bl1 hbx2 hbx3 hX3 hbn3 hbn4 hw2 hw3 HBX HRB HXW;go_wp2_with (at_builtin;first | (refine wpList_append_run rfl (.tmp 47) (.tmp 49) 22 rfl _ _ _ rfl rfl HRB1.out ?_) | (refine wpList_append_run rfl (.tmp 52) (.tmp 54) 23 rfl _ _ _ rfl rfl HRL1.out ?_))
    rw[←HW4.out];clear r0 r1 r3 r4 r5 r6 r7 r8 r9 r10;clear HRB1 HRL1 HW3 HW4;go_loopw [59] (fun i wr=>∃k:Nat,k≤dn∧i=.int .i64 k∧Hid (∀j,j<k→Tk.errOf n.cn (ds j)=0)∧Hid (∃n' oa oc t',OnS w wr BN BT RN RT RF n M t.length ((n.sc ms).all n.cn ds k) n' oa oc t')) (fun i _=>dn-(intOf i).toNat)
    case atStart=>exact⟨0,by omega,rfl,(fun j hj=>absurd hj (by omega)),HST⟩
    case round =>
     clear HST;obtain⟨k,hk,rfl,hZ,hS⟩:=hrel;obtain⟨U,HU⟩:∃U,Hid (U=wr):=⟨_,rfl⟩
     rw[←HU.out] at hS ⊢;clear HU;obtain⟨n',oa,oc,t',hOn⟩:=hS.out;have hokS:=HOK.out.1.all ds k hZ.out;have hfn:=(HOK.out.1.fine.all ds k hZ.out)
     by_cases hlt:k<dn
     ·have hrow:=HDS.out U hOn.low;obtain⟨db,doff,rfl,_⟩:=CRow.some hrow (by omega);obtain⟨c0,c1,c2,c3⟩:=DRow.cells hrow hlt;have ik:(0:Int)≤(k:Int):=(by omega)
      have nk:(k:Int)<(dn:Int):=(by omega)
      have HKD:Hid (k+1≤dn):=hlt;obtain⟨s,HS⟩:∃s,Hid (s=(n.sc ms).all n.cn ds k):=⟨_,rfl⟩
      rw[←HS.out] at hOn hokS hfn;have HNEXT:Hid (Tk.errOf n.cn (ds k)=0→∀W,(∃n' oa oc t',OnS w W BN BT RN RT RF n M t.length (s.one n.cn (ds k)) n' oa oc t')→(∀j,j<k+1→Tk.errOf n.cn (ds j)=0)∧∃n' oa oc t',OnS w W BN BT RN RT RF n M t.length ((n.sc ms).all n.cn ds (k+1)) n' oa oc t'):=fun h0 W hW=>by
       refine⟨fun j hj => ?_,?_⟩
       ·by_cases e:j=k
        ·subst e;exact h0
        ·exact hZ.out j (by omega)
       ·rw[HS.out] at hW;exact hW
      have HK1:Hid (∀z:Int,Tk.errOf n.cn (ds k)=z→z≠0→onErr n t ds dn=(z,(k:Int))):=fun z hz h0=>by
       rw[HE0.out,←hz];exact Pl.firstTo_here _ k hZ.out (by rw[hz];exact h0) dn hlt
      generalize ds k=d at *;obtain⟨Z,HZ⟩:∃Z,Hid (Z=U.alloc (.cells #[.int .i64 d.kind,.int .i64 d.n,.int .i64 d.tree,.int .i64 d.value] 45)):=⟨_,rfl⟩
      have hZB:Bl U Z:=(by rw[HZ.out];exact bA1 _ _)
      have hZd:Z.heap[U.heap.size]?=some (.cells #[.int .i64 d.kind,.int .i64 d.n,.int .i64 d.tree,.int .i64 d.value] 45):=(by rw[HZ.out];exact heap_alloc_last _ _)
      have HRW:Hid (RB w Z RN RT RF):=hOn.rb.below hZB;have HZD:Hid (Bl U Z∧Z.heap[U.heap.size]?=some (.cells #[.int .i64 d.kind,.int .i64 d.n,.int .i64 d.tree,.int .i64 d.value] 45)):=⟨hZB,hZd⟩
      have HON:Hid (OnS w U BN BT RN RT RF n M t.length s n' oa oc t'):=hOn;have HOKS:Hid (Tk.Ok n.cn s t.length∧Tk.SameEnds n.cn (n.sc ms) s):=⟨hokS,hfn.2⟩
      obtain⟨d0,d1,d2,d3⟩:=do_cells9 hZd;obtain⟨z1,z2,_⟩:=hOn.sizes;have hbN:=keep hOn.bxN hZB;obtain⟨n0,n1⟩:=tC2 hbN;have y0:=one_cell (keep hOn.bxT hZB);have HDB:Hid (BN<U.heap.size∧BT<U.heap.size):=⟨lt_some hOn.bxN,lt_some hOn.bxT⟩
      rw[z1] at n0;rw[z2] at n1;rw[HZ.out] at d0 d1 d2 d3 n0 n1 y0;have HERR:Hid (Tk.errOf n.cn d=if d.kind=1 then(if 0≤d.n∧d.n≤200 then 0 else 3) else if d.kind=2∨d.kind=3∨d.kind=4 then(if 0≤d.n∧d.n≤(n.L:Int)-1 then(if d.kind=4∧¬(1≤d.value∧d.value≤200000) then 3 else 0) else 6) else if d.kind=5 then(if 0≤d.n∧d.n≤(n.K:Int)-1 then(if (0≤d.tree∧d.tree≤15)∧Pl.oddP d.value=false then 0 else 3) else 6) else 1):=rfl;clear hS hZ hOn hokS hfn hrow hZB hZd hbN HS HDS;obtain⟨dk,dnn,dtr,dv⟩:=d;simp only at c0 c1 c2 c3 d0 d1 d2 d3 HERR;rcases(by omega:dk=1∨dk=2∨dk=3∨dk=4∨dk=5∨(dk≠1∧dk≠2∧dk≠3∧dk≠4∧dk≠5)) with k1 | k1 | k1 | k1 | k1 | ⟨k1,k2,k3,k4,k5⟩
      ·subst k1;by_cases q1:dnn<0
       ·as_aux_lemma =>
         have HE:Hid (onErr n t ds dn=(3,(k:Int))):=HK1.out 3 (by rw[HERR.out,if_pos rfl,if_neg (by omega)]) (by decide);have HNZ:Hid ((3:Int)≠0):=(show(3:Int)≠0 by decide)
         clear HERR HK1 HNEXT;(go_wp2_with fail);rw[←HZ.out];refine(HBAD.out _ 3 (k:Int) HRW.out).mono ?_;rintro e W1 ⟨rfl,HW1⟩;obtain⟨⟨p0,p1⟩,p2,⟨p3,p4⟩,⟨q0,q1⟩,q2,q3,q4⟩:=HW1.out.cells;(go_wp2_with fail);obtain⟨z1,z2,z3,z4⟩:=HEND.out W1 3 (k:Int) HW1.out;exact bodyPost_ret (v:=.tuple #[.agg #[.slice none 0 0,.slice none 0 0],.agg #[.slice none 0 0],.agg #[.int .i64 3,.int .i64 (k:Int)]]) (results_row3 Tryz.results21 _ _ RN RT RF 25 29 32 #[.slice none 0 0,.slice none 0 0] #[.slice none 0 0] #[.int .i64 3,.int .i64 (k:Int)] (0,0) (0,0) (0,0) _ _ _ rfl rfl rfl z1 z2 z3 Tryz.underlying25 Tryz.underlying29 Tryz.underlying32 rfl rfl rfl (by rw[sizeNt];rfl) (by rw[sizeTk];rfl) (by rw[sizeFt];rfl)) rfl ⟨z4,Or.inl ⟨by rw[HE.out];exact HNZ.out,by rw[HE.out]⟩⟩
       ·by_cases q2:dnn > 200
        ·as_aux_lemma =>
          have HE:Hid (onErr n t ds dn=(3,(k:Int))):=HK1.out 3 (by rw[HERR.out,if_pos rfl,if_neg (by omega)]) (by decide);have HNZ:Hid ((3:Int)≠0):=(show(3:Int)≠0 by decide)
          clear HERR HK1 HNEXT;(go_wp2_with fail);rw[←HZ.out];refine(HBAD.out _ 3 (k:Int) HRW.out).mono ?_;rintro e W1 ⟨rfl,HW1⟩;obtain⟨⟨p0,p1⟩,p2,⟨p3,p4⟩,⟨q0,q1⟩,q2,q3,q4⟩:=HW1.out.cells;(go_wp2_with fail);obtain⟨z1,z2,z3,z4⟩:=HEND.out W1 3 (k:Int) HW1.out;exact bodyPost_ret (v:=.tuple #[.agg #[.slice none 0 0,.slice none 0 0],.agg #[.slice none 0 0],.agg #[.int .i64 3,.int .i64 (k:Int)]]) (results_row3 Tryz.results21 _ _ RN RT RF 25 29 32 #[.slice none 0 0,.slice none 0 0] #[.slice none 0 0] #[.int .i64 3,.int .i64 (k:Int)] (0,0) (0,0) (0,0) _ _ _ rfl rfl rfl z1 z2 z3 Tryz.underlying25 Tryz.underlying29 Tryz.underlying32 rfl rfl rfl (by rw[sizeNt];rfl) (by rw[sizeTk];rfl) (by rw[sizeFt];rfl)) rfl ⟨z4,Or.inl ⟨by rw[HE.out];exact HNZ.out,by rw[HE.out]⟩⟩
        ·obtain⟨m,rfl⟩:∃m:Nat,dnn=(m:Int):=⟨dnn.toNat,by omega⟩
         have hm200:m≤200:=(by omega)
         have hR':=(HON.out.fine HWF.out HN0.out HOKS.out.1.fine).2.2;have HR':Hid n'.Right:=hR';have HLV:Hid (Calls Tryz.prog 44 #[.agg #[.slice n'.bao n.K n'.bcap,.slice n'.lao n.L n'.lcap]] Z fun e w'=>∃lo lc,e=.returned (.slice lo n'.lvs.length lc)∧Hid (LRow w' lo n'.lvs.length lc n'.es∧(∀ad,lo=some ad→Z.heap.size≤ad.block)∧Bl Z w')):=by
          have h:=rlive_any n' Z (((HON.out.below HZD.out.1).net hK hL)) hR';simp only[Pl.Net.val] at h;rw[z1,z2] at h;refine h.mono ?_;rintro e w' ⟨lo,lc,h1,h2,_,h4,h5⟩;exact⟨lo,lc,h1,h2,h4,h5⟩
         have HE00:Hid (Tk.errOf n.cn ⟨1,(m:Int),dtr,dv⟩=0):=(by rw[HERR.out,if_pos rfl,if_pos ⟨by omega,by omega⟩];rfl)
         have HSZ:Hid (n'.K=n.K∧n'.L=n.L):=⟨z1,z2⟩
         clear HERR HK1 HEND HBAD hR';(go_wp2_with fail);rw[←HZ.out];refine HLV.out.mono ?_;rintro e Wl ⟨lo,lc,rfl,HL1⟩;clear HLV c0 c1 c2 c3 d0 d1 d2 d3 n0 n1 y0;have hbl:Bl U Wl:=HZD.out.1.trans (HL1.out.2.2.mono HZD.out.1.size);obtain⟨Wz,HWz⟩:∃Wz,Hid (Wz=Wl):=⟨_,rfl⟩
         have H0:Hid (∃oa oc t',OnS w Wl BN BT RN RT RF n M t.length (s.ticks n.cn 0) n' oa oc t'∧(∀q,q<Wz.heap.size→q≠BT→Wl.heap[q]?=Wz.heap[q]?)∧Wz.heap.size≤Wl.heap.size):=⟨oa,oc,t',HON.out.below hbl,fun _ _ _=>by rw[HWz.out],by rw[HWz.out];exact Nat.le_refl _⟩
         have HLV2:Hid (∀V,(∀q,q<Wz.heap.size→q≠BT→V.heap[q]?=Wz.heap[q]?)→Wz.heap.size≤V.heap.size→LRow V lo n'.lvs.length lc n'.es∧V.heap[U.heap.size]?=some (.cells #[.int .i64 1,.int .i64 (m:Int),.int .i64 dtr,.int .i64 dv] 45)):=fun V h1 h2=>by
          rw[HWz.out] at h1 h2;have hz:=keep HZD.out.2 HL1.out.2.2;have hU:=HDB.out;have hzs:=HZD.out.1.size;refine⟨CRow.other HL1.out.1 (fun b off eb hlt=>h1 b hlt (fun e => ?_)) h2,(h1 _ (lt_some hz) (by omega)).trans hz⟩;have:=HL1.out.2.1 _ eb;simp only at this;omega
         clear HL1 hbl;(go_wp2_with fail);go_loopw [14] (fun i wr=>∃j:Nat,j≤m∧i=.int .i64 j∧Hid (∃oa oc t',OnS w wr BN BT RN RT RF n M t.length (s.ticks n.cn j) n' oa oc t'∧(∀q,q<Wz.heap.size→q≠BT→wr.heap[q]?=Wz.heap[q]?)∧Wz.heap.size≤wr.heap.size)) (fun i _=>m-(intOf i).toNat)
         case atStart=>exact⟨0,by omega,rfl,H0⟩
         case round =>
          clear H0;obtain⟨j,hj,rfl,hJ⟩:=hrel;obtain⟨oa2,oc2,t2,hO2,hk2,hz2⟩:=hJ.out;obtain⟨hlk,hdo⟩:=HLV2.out wr hk2 hz2;obtain⟨d0,d1,d2,d3⟩:=do_cells9 hdo;by_cases hjm:j<m
          ·have j0:(j:Int)<(m:Int):=(by omega)
           have hokj:=ok_tick9 HOKS.out.1 (show j≤200 by omega);obtain⟨hft2,hcl2⟩:=hO2.fits (ms:=ms) HOK.out.2 hokj HOK.out.1.fine (fun k hk=>HOKS.out.2 k hk);obtain⟨n0,n1⟩:=tC2 hO2.bxN;rw[HSZ.out.1] at n0;rw[HSZ.out.2] at n1;have y0:=one_cell hO2.bxT;have HTI:Hid (Calls Tryz.prog 45 #[.agg #[.slice n'.bao n.K n'.bcap,.slice n'.lao n.L n'.lcap],.slice lo n'.lvs.length lc,.agg #[.slice oa2 t2.length oc2]] wr fun e w'=>∃ao cap tl3,e=.returned (.agg #[.slice ao tl3 cap])∧(w'.cell? ⟨BT,0,none⟩=some (.slice oa2 t2.length oc2)∧w'.frozen? ⟨BT,0,none⟩=false)∧Hid (∃oa oc t',OnS w (w'.setCell ⟨BT,0,none⟩ (.slice ao tl3 cap)) BN BT RN RT RF n M t.length (s.ticks n.cn (j+1)) n' oa oc t'∧(∀q,q<Wz.heap.size→q≠BT→(w'.setCell ⟨BT,0,none⟩ (.slice ao tl3 cap)).heap[q]?=Wz.heap[q]?)∧Wz.heap.size≤(w'.setCell ⟨BT,0,none⟩ (.slice ao tl3 cap)).heap.size)):=by
            have h:=rtick7_any n' lo lc oa2 oc2 t2 M wr HR'.out (hO2.net hK hL) hlk hO2.mS hO2.talk hft2 hcl2;simp only[Pl.Net.val] at h;rw[HSZ.out.1,HSZ.out.2] at h;refine h.mono ?_;rintro e w' ⟨ao,cap,t3,rfl,h1,h2,h3,h4⟩;have hbt:=keep hO2.bxT h4;have hn:=hO2.tick hokj h1 h2 h3 h4;rw[Tk.Sc.ticks_add] at hn;have hsz:(w'.setCell ⟨BT,0,none⟩ (.slice ao t3.length cap)).heap.size=w'.heap.size:=(by simp)
            have h5:=h4.size;exact⟨ao,cap,t3.length,rfl,⟨one_cell hbt,frozen_of_row _ _ _ _ _ hbt⟩,ao,cap,t3,hn,fun q hq hne=>(pset_keep2 hne).trans ((h4.block q (by omega)).trans (hk2 q hq hne)),by omega⟩
           clear hJ hO2 hk2 hz2 hlk hdo hokj hft2 hcl2 HLV2 d0 d2 d3;(go_wp2_with fail);refine HTI.out.mono ?_;rintro e w3 ⟨ao,cap,tl3,rfl,⟨y1,y2⟩,H3⟩;clear HTI;(go_wp2_with fail);exact⟨⟨j+1,by omega,by go_num,H3⟩,by simp[intOf];omega⟩
          ·obtain rfl:j=m:=by omega
           have HN:Hid ((∀j,j<k+1→Tk.errOf n.cn (ds j)=0)∧∃n' oa oc t',OnS w wr BN BT RN RT RF n M t.length ((n.sc ms).all n.cn ds (k+1)) n' oa oc t'):=HNEXT.out HE00.out wr ⟨n',oa2,oc2,t2,by rw[one_1 s rfl];exact hO2⟩;clear hJ hO2 hk2 hz2 hlk hdo HLV2 d0 d2 d3;(go_wp2_with fail);exact⟨⟨k+1,HKD.out,by go_num,HN.out.1,HN.out.2⟩,by have:=HKD.out;simp[intOf];omega⟩
      ·as_aux_lemma =>
        subst k1;have HER:Hid (Tk.errOf n.cn ⟨2,dnn,dtr,dv⟩=if 0≤dnn∧dnn≤(n.L:Int)-1 then(0) else 6):=by
         rw[HERR.out,if_neg (show ¬(2:Int)=1 by decide),if_pos (show(2:Int)=2∨(2:Int)=3∨(2:Int)=4 by decide)];rw[if_neg (show ¬((2:Int)=4∧¬(1≤dv∧dv≤200000)) from fun y=>absurd y.1 (by decide))];exact rfl
        clear HERR;rcases(by omega:dnn<0∨(¬dnn<0∧dnn≥(n.L:Int))∨(¬dnn<0∧¬dnn≥(n.L:Int))) with q1 | ⟨q1,q2⟩ | ⟨q1,q2⟩
        ·have HE:Hid (onErr n t ds dn=(6,(k:Int))):=HK1.out 6 (by rw[HER.out,if_neg (by omega)]) (by decide);have HNZ:Hid ((6:Int)≠0):=(show(6:Int)≠0 by decide)
         clear HER HK1 HNEXT;(go_wp2_with fail);rw[←HZ.out];refine(HBAD.out _ 6 (k:Int) HRW.out).mono ?_;rintro e W1 ⟨rfl,HW1⟩;obtain⟨⟨p0,p1⟩,p2,⟨p3,p4⟩,⟨q0,q1⟩,q2,q3,q4⟩:=HW1.out.cells;(go_wp2_with fail);obtain⟨z1,z2,z3,z4⟩:=HEND.out W1 6 (k:Int) HW1.out;exact bodyPost_ret (v:=.tuple #[.agg #[.slice none 0 0,.slice none 0 0],.agg #[.slice none 0 0],.agg #[.int .i64 6,.int .i64 (k:Int)]]) (results_row3 Tryz.results21 _ _ RN RT RF 25 29 32 #[.slice none 0 0,.slice none 0 0] #[.slice none 0 0] #[.int .i64 6,.int .i64 (k:Int)] (0,0) (0,0) (0,0) _ _ _ rfl rfl rfl z1 z2 z3 Tryz.underlying25 Tryz.underlying29 Tryz.underlying32 rfl rfl rfl (by rw[sizeNt];rfl) (by rw[sizeTk];rfl) (by rw[sizeFt];rfl)) rfl ⟨z4,Or.inl ⟨by rw[HE.out];exact HNZ.out,by rw[HE.out]⟩⟩
        ·have HE:Hid (onErr n t ds dn=(6,(k:Int))):=HK1.out 6 (by rw[HER.out,if_neg (by omega)]) (by decide);have HNZ:Hid ((6:Int)≠0):=(show(6:Int)≠0 by decide)
         clear HER HK1 HNEXT;(go_wp2_with fail);rw[←HZ.out];refine(HBAD.out _ 6 (k:Int) HRW.out).mono ?_;rintro e W1 ⟨rfl,HW1⟩;obtain⟨⟨p0,p1⟩,p2,⟨p3,p4⟩,⟨q0,q1⟩,q2,q3,q4⟩:=HW1.out.cells;(go_wp2_with fail);obtain⟨z1,z2,z3,z4⟩:=HEND.out W1 6 (k:Int) HW1.out;exact bodyPost_ret (v:=.tuple #[.agg #[.slice none 0 0,.slice none 0 0],.agg #[.slice none 0 0],.agg #[.int .i64 6,.int .i64 (k:Int)]]) (results_row3 Tryz.results21 _ _ RN RT RF 25 29 32 #[.slice none 0 0,.slice none 0 0] #[.slice none 0 0] #[.int .i64 6,.int .i64 (k:Int)] (0,0) (0,0) (0,0) _ _ _ rfl rfl rfl z1 z2 z3 Tryz.underlying25 Tryz.underlying29 Tryz.underlying32 rfl rfl rfl (by rw[sizeNt];rfl) (by rw[sizeTk];rfl) (by rw[sizeFt];rfl)) rfl ⟨z4,Or.inl ⟨by rw[HE.out];exact HNZ.out,by rw[HE.out]⟩⟩
        ·have HE00:Hid (Tk.errOf n.cn ⟨2,dnn,dtr,dv⟩=0):=(by rw[HER.out,if_pos (by omega)];rfl)
         obtain⟨kk,rfl⟩:∃kk:Nat,dnn=(kk:Int):=⟨dnn.toNat,by omega⟩
         have hkk:kk<n.L:=(by omega)
         have k0:(0:Int)≤(kk:Int):=(by omega)
         have k9:(kk:Int)<(n.L:Int):=(by omega)
         obtain⟨gl,el,⟨f6,c6,hlc⟩,n2,hO2⟩:=(HON.out.below HZD.out.1).link (k:=kk) (x:=5) (val:=.bool true) (s':=s.setUp kk true) hkk (by omega) rfl rfl (fun j _ y hy=>lkC_up s kk true j y hy);have HN:Hid ((∀j,j<k+1→Tk.errOf n.cn (ds j)=0)∧∃n' oa oc t',OnS w (Z.setCell ⟨gl,kk*6+5,none⟩ (.bool true)) BN BT RN RT RF n M t.length ((n.sc ms).all n.cn ds (k+1)) n' oa oc t'):=HNEXT.out HE00.out _ ⟨n2,oa,oc,t',by rw[one_2 s rfl];exact hO2⟩;rw[el] at n1;rw[HZ.out] at f6 c6;clear HER HK1 HNEXT HEND HBAD hO2 el;(go_wp2_with fail);rw[←HZ.out];exact⟨⟨k+1,HKD.out,by go_num,HN.out.1,HN.out.2⟩,by have:=HKD.out;simp[intOf];omega⟩
      ·as_aux_lemma =>
        subst k1;have HER:Hid (Tk.errOf n.cn ⟨3,dnn,dtr,dv⟩=if 0≤dnn∧dnn≤(n.L:Int)-1 then(0) else 6):=by
         rw[HERR.out,if_neg (show ¬(3:Int)=1 by decide),if_pos (show(3:Int)=2∨(3:Int)=3∨(3:Int)=4 by decide)];rw[if_neg (show ¬((3:Int)=4∧¬(1≤dv∧dv≤200000)) from fun y=>absurd y.1 (by decide))];exact rfl
        clear HERR;rcases(by omega:dnn<0∨(¬dnn<0∧dnn≥(n.L:Int))∨(¬dnn<0∧¬dnn≥(n.L:Int))) with q1 | ⟨q1,q2⟩ | ⟨q1,q2⟩
        ·have HE:Hid (onErr n t ds dn=(6,(k:Int))):=HK1.out 6 (by rw[HER.out,if_neg (by omega)]) (by decide);have HNZ:Hid ((6:Int)≠0):=(show(6:Int)≠0 by decide)
         clear HER HK1 HNEXT;(go_wp2_with fail);rw[←HZ.out];refine(HBAD.out _ 6 (k:Int) HRW.out).mono ?_;rintro e W1 ⟨rfl,HW1⟩;obtain⟨⟨p0,p1⟩,p2,⟨p3,p4⟩,⟨q0,q1⟩,q2,q3,q4⟩:=HW1.out.cells;(go_wp2_with fail);obtain⟨z1,z2,z3,z4⟩:=HEND.out W1 6 (k:Int) HW1.out;exact bodyPost_ret (v:=.tuple #[.agg #[.slice none 0 0,.slice none 0 0],.agg #[.slice none 0 0],.agg #[.int .i64 6,.int .i64 (k:Int)]]) (results_row3 Tryz.results21 _ _ RN RT RF 25 29 32 #[.slice none 0 0,.slice none 0 0] #[.slice none 0 0] #[.int .i64 6,.int .i64 (k:Int)] (0,0) (0,0) (0,0) _ _ _ rfl rfl rfl z1 z2 z3 Tryz.underlying25 Tryz.underlying29 Tryz.underlying32 rfl rfl rfl (by rw[sizeNt];rfl) (by rw[sizeTk];rfl) (by rw[sizeFt];rfl)) rfl ⟨z4,Or.inl ⟨by rw[HE.out];exact HNZ.out,by rw[HE.out]⟩⟩
        ·have HE:Hid (onErr n t ds dn=(6,(k:Int))):=HK1.out 6 (by rw[HER.out,if_neg (by omega)]) (by decide);have HNZ:Hid ((6:Int)≠0):=(show(6:Int)≠0 by decide)
         clear HER HK1 HNEXT;(go_wp2_with fail);rw[←HZ.out];refine(HBAD.out _ 6 (k:Int) HRW.out).mono ?_;rintro e W1 ⟨rfl,HW1⟩;obtain⟨⟨p0,p1⟩,p2,⟨p3,p4⟩,⟨q0,q1⟩,q2,q3,q4⟩:=HW1.out.cells;(go_wp2_with fail);obtain⟨z1,z2,z3,z4⟩:=HEND.out W1 6 (k:Int) HW1.out;exact bodyPost_ret (v:=.tuple #[.agg #[.slice none 0 0,.slice none 0 0],.agg #[.slice none 0 0],.agg #[.int .i64 6,.int .i64 (k:Int)]]) (results_row3 Tryz.results21 _ _ RN RT RF 25 29 32 #[.slice none 0 0,.slice none 0 0] #[.slice none 0 0] #[.int .i64 6,.int .i64 (k:Int)] (0,0) (0,0) (0,0) _ _ _ rfl rfl rfl z1 z2 z3 Tryz.underlying25 Tryz.underlying29 Tryz.underlying32 rfl rfl rfl (by rw[sizeNt];rfl) (by rw[sizeTk];rfl) (by rw[sizeFt];rfl)) rfl ⟨z4,Or.inl ⟨by rw[HE.out];exact HNZ.out,by rw[HE.out]⟩⟩
        ·have HE00:Hid (Tk.errOf n.cn ⟨3,dnn,dtr,dv⟩=0):=(by rw[HER.out,if_pos (by omega)];rfl)
         obtain⟨kk,rfl⟩:∃kk:Nat,dnn=(kk:Int):=⟨dnn.toNat,by omega⟩
         have hkk:kk<n.L:=(by omega)
         have k0:(0:Int)≤(kk:Int):=(by omega)
         have k9:(kk:Int)<(n.L:Int):=(by omega)
         obtain⟨gl,el,⟨f6,c6,hlc⟩,n2,hO2⟩:=(HON.out.below HZD.out.1).link (k:=kk) (x:=5) (val:=.bool false) (s':=s.setUp kk false) hkk (by omega) rfl rfl (fun j _ y hy=>lkC_up s kk false j y hy);have HN:Hid ((∀j,j<k+1→Tk.errOf n.cn (ds j)=0)∧∃n' oa oc t',OnS w (Z.setCell ⟨gl,kk*6+5,none⟩ (.bool false)) BN BT RN RT RF n M t.length ((n.sc ms).all n.cn ds (k+1)) n' oa oc t'):=HNEXT.out HE00.out _ ⟨n2,oa,oc,t',by rw[one_3 s rfl];exact hO2⟩;rw[el] at n1;rw[HZ.out] at f6 c6;clear HER HK1 HNEXT HEND HBAD hO2 el;(go_wp2_with fail);rw[←HZ.out];exact⟨⟨k+1,HKD.out,by go_num,HN.out.1,HN.out.2⟩,by have:=HKD.out;simp[intOf];omega⟩
      ·as_aux_lemma =>
        subst k1;have HER:Hid (Tk.errOf n.cn ⟨4,dnn,dtr,dv⟩=if 0≤dnn∧dnn≤(n.L:Int)-1 then(if ¬(1≤dv∧dv≤200000) then 3 else 0) else 6):=by
         rw[HERR.out,if_neg (show ¬(4:Int)=1 by decide),if_pos (show(4:Int)=2∨(4:Int)=3∨(4:Int)=4 by decide)];by_cases z:¬(1≤dv∧dv≤200000)
         ·rw[if_pos z,if_pos (show(4:Int)=4∧¬(1≤dv∧dv≤200000) from⟨rfl,z⟩)];exact rfl
         ·rw[if_neg z,if_neg (show ¬((4:Int)=4∧¬(1≤dv∧dv≤200000)) from fun y=>z y.2)];exact rfl
        clear HERR;rcases(by omega:dnn<0∨(¬dnn<0∧dnn≥(n.L:Int))∨(¬dnn<0∧¬dnn≥(n.L:Int)∧dv<1)∨(¬dnn<0∧¬dnn≥(n.L:Int)∧¬dv<1∧dv > 200000)∨(¬dnn<0∧¬dnn≥(n.L:Int)∧¬dv<1∧¬dv > 200000)) with q1 | ⟨q1,q2⟩ | ⟨q1,q2,q3⟩ | ⟨q1,q2,q3,q4⟩ | ⟨q1,q2,q3,q4⟩
        ·have HE:Hid (onErr n t ds dn=(6,(k:Int))):=HK1.out 6 (by rw[HER.out,if_neg (by omega)]) (by decide);have HNZ:Hid ((6:Int)≠0):=(show(6:Int)≠0 by decide)
         clear HER HK1 HNEXT;(go_wp2_with fail);rw[←HZ.out];refine(HBAD.out _ 6 (k:Int) HRW.out).mono ?_;rintro e W1 ⟨rfl,HW1⟩;obtain⟨⟨p0,p1⟩,p2,⟨p3,p4⟩,⟨q0,q1⟩,q2,q3,q4⟩:=HW1.out.cells;(go_wp2_with fail);obtain⟨z1,z2,z3,z4⟩:=HEND.out W1 6 (k:Int) HW1.out;exact bodyPost_ret (v:=.tuple #[.agg #[.slice none 0 0,.slice none 0 0],.agg #[.slice none 0 0],.agg #[.int .i64 6,.int .i64 (k:Int)]]) (results_row3 Tryz.results21 _ _ RN RT RF 25 29 32 #[.slice none 0 0,.slice none 0 0] #[.slice none 0 0] #[.int .i64 6,.int .i64 (k:Int)] (0,0) (0,0) (0,0) _ _ _ rfl rfl rfl z1 z2 z3 Tryz.underlying25 Tryz.underlying29 Tryz.underlying32 rfl rfl rfl (by rw[sizeNt];rfl) (by rw[sizeTk];rfl) (by rw[sizeFt];rfl)) rfl ⟨z4,Or.inl ⟨by rw[HE.out];exact HNZ.out,by rw[HE.out]⟩⟩
        ·have HE:Hid (onErr n t ds dn=(6,(k:Int))):=HK1.out 6 (by rw[HER.out,if_neg (by omega)]) (by decide);have HNZ:Hid ((6:Int)≠0):=(show(6:Int)≠0 by decide)
         clear HER HK1 HNEXT;(go_wp2_with fail);rw[←HZ.out];refine(HBAD.out _ 6 (k:Int) HRW.out).mono ?_;rintro e W1 ⟨rfl,HW1⟩;obtain⟨⟨p0,p1⟩,p2,⟨p3,p4⟩,⟨q0,q1⟩,q2,q3,q4⟩:=HW1.out.cells;(go_wp2_with fail);obtain⟨z1,z2,z3,z4⟩:=HEND.out W1 6 (k:Int) HW1.out;exact bodyPost_ret (v:=.tuple #[.agg #[.slice none 0 0,.slice none 0 0],.agg #[.slice none 0 0],.agg #[.int .i64 6,.int .i64 (k:Int)]]) (results_row3 Tryz.results21 _ _ RN RT RF 25 29 32 #[.slice none 0 0,.slice none 0 0] #[.slice none 0 0] #[.int .i64 6,.int .i64 (k:Int)] (0,0) (0,0) (0,0) _ _ _ rfl rfl rfl z1 z2 z3 Tryz.underlying25 Tryz.underlying29 Tryz.underlying32 rfl rfl rfl (by rw[sizeNt];rfl) (by rw[sizeTk];rfl) (by rw[sizeFt];rfl)) rfl ⟨z4,Or.inl ⟨by rw[HE.out];exact HNZ.out,by rw[HE.out]⟩⟩
        ·have HE:Hid (onErr n t ds dn=(3,(k:Int))):=HK1.out 3 (by rw[HER.out,if_pos (by omega),if_pos (by omega)]) (by decide);have HNZ:Hid ((3:Int)≠0):=(show(3:Int)≠0 by decide)
         clear HER HK1 HNEXT;(go_wp2_with fail);rw[←HZ.out];refine(HBAD.out _ 3 (k:Int) HRW.out).mono ?_;rintro e W1 ⟨rfl,HW1⟩;obtain⟨⟨p0,p1⟩,p2,⟨p3,p4⟩,⟨q0,q1⟩,q2,q3,q4⟩:=HW1.out.cells;(go_wp2_with fail);obtain⟨z1,z2,z3,z4⟩:=HEND.out W1 3 (k:Int) HW1.out;exact bodyPost_ret (v:=.tuple #[.agg #[.slice none 0 0,.slice none 0 0],.agg #[.slice none 0 0],.agg #[.int .i64 3,.int .i64 (k:Int)]]) (results_row3 Tryz.results21 _ _ RN RT RF 25 29 32 #[.slice none 0 0,.slice none 0 0] #[.slice none 0 0] #[.int .i64 3,.int .i64 (k:Int)] (0,0) (0,0) (0,0) _ _ _ rfl rfl rfl z1 z2 z3 Tryz.underlying25 Tryz.underlying29 Tryz.underlying32 rfl rfl rfl (by rw[sizeNt];rfl) (by rw[sizeTk];rfl) (by rw[sizeFt];rfl)) rfl ⟨z4,Or.inl ⟨by rw[HE.out];exact HNZ.out,by rw[HE.out]⟩⟩
        ·have HE:Hid (onErr n t ds dn=(3,(k:Int))):=HK1.out 3 (by rw[HER.out,if_pos (by omega),if_pos (by omega)]) (by decide);have HNZ:Hid ((3:Int)≠0):=(show(3:Int)≠0 by decide)
         clear HER HK1 HNEXT;(go_wp2_with fail);rw[←HZ.out];refine(HBAD.out _ 3 (k:Int) HRW.out).mono ?_;rintro e W1 ⟨rfl,HW1⟩;obtain⟨⟨p0,p1⟩,p2,⟨p3,p4⟩,⟨q0,q1⟩,q2,q3,q4⟩:=HW1.out.cells;(go_wp2_with fail);obtain⟨z1,z2,z3,z4⟩:=HEND.out W1 3 (k:Int) HW1.out;exact bodyPost_ret (v:=.tuple #[.agg #[.slice none 0 0,.slice none 0 0],.agg #[.slice none 0 0],.agg #[.int .i64 3,.int .i64 (k:Int)]]) (results_row3 Tryz.results21 _ _ RN RT RF 25 29 32 #[.slice none 0 0,.slice none 0 0] #[.slice none 0 0] #[.int .i64 3,.int .i64 (k:Int)] (0,0) (0,0) (0,0) _ _ _ rfl rfl rfl z1 z2 z3 Tryz.underlying25 Tryz.underlying29 Tryz.underlying32 rfl rfl rfl (by rw[sizeNt];rfl) (by rw[sizeTk];rfl) (by rw[sizeFt];rfl)) rfl ⟨z4,Or.inl ⟨by rw[HE.out];exact HNZ.out,by rw[HE.out]⟩⟩
        ·have HE00:Hid (Tk.errOf n.cn ⟨4,dnn,dtr,dv⟩=0):=(by rw[HER.out,if_pos (by omega),if_neg (by omega)];rfl)
         obtain⟨kk,rfl⟩:∃kk:Nat,dnn=(kk:Int):=⟨dnn.toNat,by omega⟩
         have hkk:kk<n.L:=(by omega)
         have k0:(0:Int)≤(kk:Int):=(by omega)
         have k9:(kk:Int)<(n.L:Int):=(by omega)
         obtain⟨gl,el,⟨f6,c6,hlc⟩,n2,hO2⟩:=(HON.out.below HZD.out.1).link (k:=kk) (x:=4) (val:=.int .i64 dv) (s':=s.setCost kk dv) hkk (by omega) rfl rfl (fun j _ y hy=>lkC_cost s kk dv j y hy);have HN:Hid ((∀j,j<k+1→Tk.errOf n.cn (ds j)=0)∧∃n' oa oc t',OnS w (Z.setCell ⟨gl,kk*6+4,none⟩ (.int .i64 dv)) BN BT RN RT RF n M t.length ((n.sc ms).all n.cn ds (k+1)) n' oa oc t'):=HNEXT.out HE00.out _ ⟨n2,oa,oc,t',by rw[one_4 s rfl];exact hO2⟩;rw[el] at n1;rw[HZ.out] at f6 c6;clear HER HK1 HNEXT HEND HBAD hO2 el;(go_wp2_with fail);rw[←HZ.out];exact⟨⟨k+1,HKD.out,by go_num,HN.out.1,HN.out.2⟩,by have:=HKD.out;simp[intOf];omega⟩
      ·subst k1;have HER5:Hid (Tk.errOf n.cn ⟨5,dnn,dtr,dv⟩=if 0≤dnn∧dnn≤(n.K:Int)-1 then(if (0≤dtr∧dtr≤15)∧Pl.oddP dv=false then 0 else 3) else 6):=by
        rw[HERR.out,if_neg (show ¬(5:Int)=1 by decide),if_neg (show ¬((5:Int)=2∨(5:Int)=3∨(5:Int)=4) by decide),if_pos (show(5:Int)=5 from rfl)];exact rfl
       clear HERR;rcases(by omega:dnn<0∨(¬dnn<0∧dnn≥(n.K:Int))∨(¬dnn<0∧¬dnn≥(n.K:Int)∧dtr<0)∨(¬dnn<0∧¬dnn≥(n.K:Int)∧¬dtr<0∧dtr > 15)∨(¬dnn<0∧¬dnn≥(n.K:Int)∧¬dtr<0∧¬dtr > 15∧dv<0)∨(¬dnn<0∧¬dnn≥(n.K:Int)∧¬dtr<0∧¬dtr > 15∧¬dv<0∧dv > 61440)∨(¬dnn<0∧¬dnn≥(n.K:Int)∧¬dtr<0∧¬dtr > 15∧¬dv<0∧¬dv > 61440)) with q1 | ⟨q1,q2⟩ | ⟨q1,q2,q3⟩ | ⟨q1,q2,q3,q4⟩ | ⟨q1,q2,q3,q4,q5⟩ | ⟨q1,q2,q3,q4,q5,q6⟩ | ⟨q1,q2,q3,q4,q5,q6⟩
       ·as_aux_lemma =>
         have HE:Hid (onErr n t ds dn=(6,(k:Int))):=HK1.out 6 (by rw[HER5.out,if_neg (by omega)]) (by decide);have HNZ:Hid ((6:Int)≠0):=(show(6:Int)≠0 by decide)
         clear HER5 HK1 HNEXT;(go_wp2_with fail);rw[←HZ.out];refine(HBAD.out _ 6 (k:Int) HRW.out).mono ?_;rintro e W1 ⟨rfl,HW1⟩;obtain⟨⟨p0,p1⟩,p2,⟨p3,p4⟩,⟨q0,q1⟩,q2,q3,q4⟩:=HW1.out.cells;(go_wp2_with fail);obtain⟨z1,z2,z3,z4⟩:=HEND.out W1 6 (k:Int) HW1.out;exact bodyPost_ret (v:=.tuple #[.agg #[.slice none 0 0,.slice none 0 0],.agg #[.slice none 0 0],.agg #[.int .i64 6,.int .i64 (k:Int)]]) (results_row3 Tryz.results21 _ _ RN RT RF 25 29 32 #[.slice none 0 0,.slice none 0 0] #[.slice none 0 0] #[.int .i64 6,.int .i64 (k:Int)] (0,0) (0,0) (0,0) _ _ _ rfl rfl rfl z1 z2 z3 Tryz.underlying25 Tryz.underlying29 Tryz.underlying32 rfl rfl rfl (by rw[sizeNt];rfl) (by rw[sizeTk];rfl) (by rw[sizeFt];rfl)) rfl ⟨z4,Or.inl ⟨by rw[HE.out];exact HNZ.out,by rw[HE.out]⟩⟩
       ·as_aux_lemma =>
         have HE:Hid (onErr n t ds dn=(6,(k:Int))):=HK1.out 6 (by rw[HER5.out,if_neg (by omega)]) (by decide);have HNZ:Hid ((6:Int)≠0):=(show(6:Int)≠0 by decide)
         clear HER5 HK1 HNEXT;(go_wp2_with fail);rw[←HZ.out];refine(HBAD.out _ 6 (k:Int) HRW.out).mono ?_;rintro e W1 ⟨rfl,HW1⟩;obtain⟨⟨p0,p1⟩,p2,⟨p3,p4⟩,⟨q0,q1⟩,q2,q3,q4⟩:=HW1.out.cells;(go_wp2_with fail);obtain⟨z1,z2,z3,z4⟩:=HEND.out W1 6 (k:Int) HW1.out;exact bodyPost_ret (v:=.tuple #[.agg #[.slice none 0 0,.slice none 0 0],.agg #[.slice none 0 0],.agg #[.int .i64 6,.int .i64 (k:Int)]]) (results_row3 Tryz.results21 _ _ RN RT RF 25 29 32 #[.slice none 0 0,.slice none 0 0] #[.slice none 0 0] #[.int .i64 6,.int .i64 (k:Int)] (0,0) (0,0) (0,0) _ _ _ rfl rfl rfl z1 z2 z3 Tryz.underlying25 Tryz.underlying29 Tryz.underlying32 rfl rfl rfl (by rw[sizeNt];rfl) (by rw[sizeTk];rfl) (by rw[sizeFt];rfl)) rfl ⟨z4,Or.inl ⟨by rw[HE.out];exact HNZ.out,by rw[HE.out]⟩⟩
       ·as_aux_lemma =>
         have HE:Hid (onErr n t ds dn=(3,(k:Int))):=HK1.out 3 (by rw[HER5.out,if_pos (by omega),if_neg (fun z=>by have:=z.1;omega)]) (by decide);have HNZ:Hid ((3:Int)≠0):=(show(3:Int)≠0 by decide)
         clear HER5 HK1 HNEXT;(go_wp2_with fail);rw[←HZ.out];refine(HBAD.out _ 3 (k:Int) HRW.out).mono ?_;rintro e W1 ⟨rfl,HW1⟩;obtain⟨⟨p0,p1⟩,p2,⟨p3,p4⟩,⟨q0,q1⟩,q2,q3,q4⟩:=HW1.out.cells;(go_wp2_with fail);obtain⟨z1,z2,z3,z4⟩:=HEND.out W1 3 (k:Int) HW1.out;exact bodyPost_ret (v:=.tuple #[.agg #[.slice none 0 0,.slice none 0 0],.agg #[.slice none 0 0],.agg #[.int .i64 3,.int .i64 (k:Int)]]) (results_row3 Tryz.results21 _ _ RN RT RF 25 29 32 #[.slice none 0 0,.slice none 0 0] #[.slice none 0 0] #[.int .i64 3,.int .i64 (k:Int)] (0,0) (0,0) (0,0) _ _ _ rfl rfl rfl z1 z2 z3 Tryz.underlying25 Tryz.underlying29 Tryz.underlying32 rfl rfl rfl (by rw[sizeNt];rfl) (by rw[sizeTk];rfl) (by rw[sizeFt];rfl)) rfl ⟨z4,Or.inl ⟨by rw[HE.out];exact HNZ.out,by rw[HE.out]⟩⟩
       ·as_aux_lemma =>
         have HE:Hid (onErr n t ds dn=(3,(k:Int))):=HK1.out 3 (by rw[HER5.out,if_pos (by omega),if_neg (fun z=>by have:=z.1;omega)]) (by decide);have HNZ:Hid ((3:Int)≠0):=(show(3:Int)≠0 by decide)
         clear HER5 HK1 HNEXT;(go_wp2_with fail);rw[←HZ.out];refine(HBAD.out _ 3 (k:Int) HRW.out).mono ?_;rintro e W1 ⟨rfl,HW1⟩;obtain⟨⟨p0,p1⟩,p2,⟨p3,p4⟩,⟨q0,q1⟩,q2,q3,q4⟩:=HW1.out.cells;(go_wp2_with fail);obtain⟨z1,z2,z3,z4⟩:=HEND.out W1 3 (k:Int) HW1.out;exact bodyPost_ret (v:=.tuple #[.agg #[.slice none 0 0,.slice none 0 0],.agg #[.slice none 0 0],.agg #[.int .i64 3,.int .i64 (k:Int)]]) (results_row3 Tryz.results21 _ _ RN RT RF 25 29 32 #[.slice none 0 0,.slice none 0 0] #[.slice none 0 0] #[.int .i64 3,.int .i64 (k:Int)] (0,0) (0,0) (0,0) _ _ _ rfl rfl rfl z1 z2 z3 Tryz.underlying25 Tryz.underlying29 Tryz.underlying32 rfl rfl rfl (by rw[sizeNt];rfl) (by rw[sizeTk];rfl) (by rw[sizeFt];rfl)) rfl ⟨z4,Or.inl ⟨by rw[HE.out];exact HNZ.out,by rw[HE.out]⟩⟩
       ·as_aux_lemma =>
         have HE:Hid (onErr n t ds dn=(3,(k:Int))):=HK1.out 3 (by rw[HER5.out,if_pos (by omega),if_neg (fun z=>by have z2:=z.2;unfold Pl.oddP at z2;rw[decide_eq_false (show ¬(0≤dv∧dv≤61440) by omega)] at z2;cases z2)]) (by decide);have HNZ:Hid ((3:Int)≠0):=(show(3:Int)≠0 by decide)
         clear HER5 HK1 HNEXT;(go_wp2_with fail);rw[←HZ.out];refine(HBAD.out _ 3 (k:Int) HRW.out).mono ?_;rintro e W1 ⟨rfl,HW1⟩;obtain⟨⟨p0,p1⟩,p2,⟨p3,p4⟩,⟨q0,q1⟩,q2,q3,q4⟩:=HW1.out.cells;(go_wp2_with fail);obtain⟨z1,z2,z3,z4⟩:=HEND.out W1 3 (k:Int) HW1.out;exact bodyPost_ret (v:=.tuple #[.agg #[.slice none 0 0,.slice none 0 0],.agg #[.slice none 0 0],.agg #[.int .i64 3,.int .i64 (k:Int)]]) (results_row3 Tryz.results21 _ _ RN RT RF 25 29 32 #[.slice none 0 0,.slice none 0 0] #[.slice none 0 0] #[.int .i64 3,.int .i64 (k:Int)] (0,0) (0,0) (0,0) _ _ _ rfl rfl rfl z1 z2 z3 Tryz.underlying25 Tryz.underlying29 Tryz.underlying32 rfl rfl rfl (by rw[sizeNt];rfl) (by rw[sizeTk];rfl) (by rw[sizeFt];rfl)) rfl ⟨z4,Or.inl ⟨by rw[HE.out];exact HNZ.out,by rw[HE.out]⟩⟩
       ·as_aux_lemma =>
         have HE:Hid (onErr n t ds dn=(3,(k:Int))):=HK1.out 3 (by rw[HER5.out,if_pos (by omega),if_neg (fun z=>by have z2:=z.2;unfold Pl.oddP at z2;rw[decide_eq_false (show ¬(0≤dv∧dv≤61440) by omega)] at z2;cases z2)]) (by decide);have HNZ:Hid ((3:Int)≠0):=(show(3:Int)≠0 by decide)
         clear HER5 HK1 HNEXT;(go_wp2_with fail);rw[←HZ.out];refine(HBAD.out _ 3 (k:Int) HRW.out).mono ?_;rintro e W1 ⟨rfl,HW1⟩;obtain⟨⟨p0,p1⟩,p2,⟨p3,p4⟩,⟨q0,q1⟩,q2,q3,q4⟩:=HW1.out.cells;(go_wp2_with fail);obtain⟨z1,z2,z3,z4⟩:=HEND.out W1 3 (k:Int) HW1.out;exact bodyPost_ret (v:=.tuple #[.agg #[.slice none 0 0,.slice none 0 0],.agg #[.slice none 0 0],.agg #[.int .i64 3,.int .i64 (k:Int)]]) (results_row3 Tryz.results21 _ _ RN RT RF 25 29 32 #[.slice none 0 0,.slice none 0 0] #[.slice none 0 0] #[.int .i64 3,.int .i64 (k:Int)] (0,0) (0,0) (0,0) _ _ _ rfl rfl rfl z1 z2 z3 Tryz.underlying25 Tryz.underlying29 Tryz.underlying32 rfl rfl rfl (by rw[sizeNt];rfl) (by rw[sizeTk];rfl) (by rw[sizeFt];rfl)) rfl ⟨z4,Or.inl ⟨by rw[HE.out];exact HNZ.out,by rw[HE.out]⟩⟩
       ·rw[if_pos (by omega)] at HER5;have hr:dv.tmod 4096=dv%4096:=Int.tmod_eq_emod_of_nonneg (by omega);by_cases v3:dv%4096=0
        ·have hd:(dv.tmod 4096 != 0)=false:=(by rw[hr];simp[v3])
         have HE00:Hid (Tk.errOf n.cn ⟨5,dnn,dtr,dv⟩=0):=by
          rw[HER5.out,if_pos ⟨⟨by omega,by omega⟩,by unfold Pl.oddP;rw[decide_eq_true ⟨by omega,by omega⟩,decide_eq_false (by simp[v3])];rfl⟩];rfl
         obtain⟨kk,rfl⟩:∃kk:Nat,dnn=(kk:Int):=⟨dnn.toNat,by omega⟩
         obtain⟨tt,rfl⟩:∃tt:Nat,dtr=(tt:Int):=⟨dtr.toNat,by omega⟩
         have hkk:kk<n.K:=(by omega)
         have htt:tt≤15:=(by omega)
         have k0:(0:Int)≤(kk:Int):=(by omega)
         have k9:(kk:Int)<(n.K:Int):=(by omega)
         obtain⟨gb,eb,lgb,_,cb,hir,hnil,hbc⟩:=(HON.out.below HZD.out.1).prios hkk;have hpl:(s.pr kk).length≤16:=(HOKS.out.1.fine.prios kk hkk).1;obtain⟨pa,pc,Wp,rp,op,bp⟩:=cp_int hir hnil (by omega);have hZd:=keep HZD.out.2 (bp:Bl Z Wp);have HPR:Hid (∀V,Bl Z V→(V.cell? ⟨U.heap.size,1,none⟩=some (.int .i64 (kk:Int))∧V.cell? ⟨U.heap.size,2,none⟩=some (.int .i64 (tt:Int))∧V.cell? ⟨U.heap.size,3,none⟩=some (.int .i64 dv))∧(V.cell? ⟨BN,0,none⟩=some (.slice (some ⟨gb,0,none⟩) n.K n'.bcap))∧V.frozen? ⟨gb,kk*5+1,none⟩=false∧(V.cell? ⟨gb,kk*5+1,none⟩=some (.slice (n'.bs kk).pao (s.pr kk).length (n'.bs kk).pcap))∧Bl U V):=fun V hV=>by
          obtain⟨_,x1,x2,x3⟩:=do_cells9 (keep HZD.out.2 hV);have hUV:=HZD.out.1.trans (hV.mono HZD.out.1.size);have hOV:=HON.out.below hUV;obtain⟨gb2,eb2,_,f2,c2',_,_,_⟩:=hOV.prios hkk;have ebb:gb2=gb:=(by rw[eb] at eb2;injection eb2 with eb2;injection eb2 with eb2;exact eb2.symm)
          subst ebb;obtain⟨m0,_⟩:=tC2 hOV.bxN;rw[z1,eb] at m0;exact⟨⟨x1,x2,x3⟩,m0,f2,c2',hUV⟩
         have HEB:Hid (n'.bao=some ⟨gb,0,none⟩):=eb;rw[eb] at n0;have lgb2:gb<U.heap.size+1:=by
          have h1:Z.heap.size=U.heap.size+1:=(by rw[HZ.out];simp)
          omega
         have lb1:BN<U.heap.size+1:=(by have:=HDB.out.1;omega)
         have HLG:Hid (gb<Z.heap.size):=lgb;rw[HZ.out] at cb;have hzs:Z.heap.size=U.heap.size+1:=(by rw[HZ.out];simp)
         rw[hzs] at rp;have HRP:Hid _:=rp;rw[HZ.out] at HRP;have H0:Hid (Wp.ownsRow Z.heap.size 3 1 (.slice pa (s.pr kk++List.replicate 0 32768).length pc) (s.pr kk++List.replicate 0 32768).length (intCells (s.pr kk++List.replicate 0 32768))∧Bl Z Wp):=by
          rw[List.replicate_zero,List.append_nil];exact⟨op,bp⟩
         have hLs:n'.lao=n'.lao:=rfl;clear hzs HER5 HK1 HEND HBAD hir hnil rp op bp hZd eb lgb;go_wp2_with (at_builtin;refine wpList_append_run rfl (.tmp 210) (.tmp 217) 59 rfl _ _ _ rfl rfl HRP.out ?_)
         clear HRP n0 n1 y0 d0 d1 d2 d3 c0 c1 c2 c3 cb;go_loopw [15] (fun s15 wr=>∃(m:Nat) (ao:Option Addr) (cap:Nat),m≤tt+1-(s.pr kk).length∧s15=.slice ao (s.pr kk++List.replicate m 32768).length cap∧Hid (wr.ownsRow Z.heap.size 3 1 (.slice ao (s.pr kk++List.replicate m 32768).length cap) (s.pr kk++List.replicate m 32768).length (intCells (s.pr kk++List.replicate m 32768))∧Bl Z wr)) (fun s15 _=>match s15 with | .slice _ l _=>tt+1-l | _=>0)
         case atStart=>exact⟨0,pa,pc,by omega,by rw[List.replicate_zero,List.append_nil],H0⟩
         case round =>
          clear H0;obtain⟨m,ao,cap,hm,rfl,hW⟩:=hrel;obtain⟨⟨x1,x2,x3⟩,m0,f2,c5,hUV⟩:=HPR.out wr hW.out.2;have hlen:(s.pr kk++List.replicate m (32768:Int)).length=(s.pr kk).length+m:=(by simp)
          have wt:IntKind.i64.wrap ((tt:Int)+1)=(tt:Int)+1:=(by rw[IntKind.wrap_i64];omega)
          by_cases hmm:(s.pr kk).length+m<tt+1
          ·have hlt9:((s.pr kk++List.replicate m (32768:Int)).length:Int)<(tt:Int)+1:=(by rw[hlen];omega)
           obtain⟨a1,c1,W2,r,ho2,hb2⟩:=int_more hW.out.1 hW.out.2.size (by rw[hlen];omega) 32768;have hnx:s.pr kk++List.replicate m (32768:Int)++[32768]=s.pr kk++List.replicate (m+1) 32768:=(by rw[List.replicate_succ',List.append_assoc])
           rw[hnx] at r ho2;have HN:Hid (W2.ownsRow Z.heap.size 3 1 (.slice a1 (s.pr kk++List.replicate (m+1) 32768).length c1) (s.pr kk++List.replicate (m+1) 32768).length (intCells (s.pr kk++List.replicate (m+1) 32768))∧Bl Z W2):=⟨ho2,hW.out.2.trans hb2⟩
           have HRR:Hid _:=r;have HL9:Hid ((s.pr kk++List.replicate m (32768:Int)).length=(s.pr kk).length+m∧(s.pr kk++List.replicate (m+1) (32768:Int)).length=(s.pr kk).length+(m+1)):=⟨hlen,by simp⟩
           clear hlen r ho2 hb2 hnx hW;generalize s.pr kk++List.replicate m (32768:Int)=p0 at *;go_wp2_with (at_builtin;refine wpList_append_run rfl (.tmp 225) (.tmp 226) 59 rfl _ _ _ rfl rfl HRR.out ?_)
           exact⟨⟨m+1,a1,c1,by omega,by rw[HL9.out.2],HN⟩,by have:=HL9.out;simp only;omega⟩
          ·have hlt9:¬((s.pr kk++List.replicate m (32768:Int)).length:Int)<(tt:Int)+1:=(by rw[hlen];omega)
           have hpad:s.pr kk++List.replicate m (32768:Int)=Tk.padTo (s.pr kk) tt:=(by unfold Tk.padTo;congr 2;omega)
           have hO:=hW.out.1;have hBZ:=hW.out.2;have htl:tt<(Tk.padTo (s.pr kk) tt).length:=(by rw[←hpad,hlen];omega)
           rw[hpad] at hO hlt9 ⊢;obtain⟨gp,egp,hgp,hcap5,f6,c6,hput⟩:=int_put hO htl dv;subst egp;have hUs:=HZD.out.1.size;have hZs:U.heap.size<Z.heap.size:=lt_some HZD.out.2;have hDB:=HDB.out;have hgbl:gb<Z.heap.size:=HLG.out;have n5:BN≠gp:=(by omega)
           have n6:gp≠BN:=(by omega)
           have n7:U.heap.size≠gp:=(by omega)
           have n8:gp≠U.heap.size:=(by omega)
           have n9:gb≠gp:=(by omega)
           have n10:gp≠gb:=(by omega)
           have t0:(0:Int)≤(tt:Int):=(by omega)
           have t9:(tt:Int)<((Tk.padTo (s.pr kk) tt).length:Int):=(by omega)
           have hB2:Bl U (wr.setCell ⟨gp,tt,none⟩ (.int .i64 dv)):=hUV.setCell (show U.heap.size≤gp by omega) _;obtain⟨gb3,e3,_,n2,hO3⟩:=HON.out.prio (tr:=tt) (v:=dv) hkk hB2 (owns_mono hput hUs);have e4:gb3=gb:=(by rw[HEB.out] at e3;injection e3 with e3;injection e3 with e3;exact e3.symm)
           subst e4;have hsl:(Tk.setPr (s.pr kk) tt dv).length=(Tk.padTo (s.pr kk) tt).length:=(by unfold Tk.setPr;rw[List.length_set])
           rw[hsl] at hO3;have HN:Hid ((∀j,j<k+1→Tk.errOf n.cn (ds j)=0)∧∃n' oa oc t',OnS w ((wr.setCell ⟨gp,tt,none⟩ (.int .i64 dv)).setCell ⟨gb3,kk*5+1,none⟩ (.slice (some ⟨gp,0,none⟩) (Tk.padTo (s.pr kk) tt).length cap)) BN BT RN RT RF n M t.length ((n.sc ms).all n.cn ds (k+1)) n' oa oc t'):=HNEXT.out HE00.out _ ⟨n2,oa,oc,t',by rw[one_5 s rfl];exact hO3⟩;clear hW hO hBZ htl hput hO3 hB2 hUV hpad hlen hsl HNEXT HPR;generalize Tk.padTo (s.pr kk) tt=p0 at *;(go_wp2_with fail);exact⟨⟨k+1,HKD.out,by go_num,HN.out.1,HN.out.2⟩,by have:=HKD.out;simp[intOf];omega⟩
        ·have hd:(dv.tmod 4096 != 0)=true:=(by rw[hr];simp[v3])
         have HE:Hid (onErr n t ds dn=(3,(k:Int))):=HK1.out 3 (by rw[HER5.out,if_neg (fun z=>by have z2:=z.2;unfold Pl.oddP at z2;rw[decide_eq_true (show dv%4096≠0 from v3),Bool.or_true] at z2;cases z2)]) (by decide);have HNZ:Hid ((3:Int)≠0):=(show(3:Int)≠0 by decide)
         clear HER5 HK1 HNEXT;(go_wp2_with fail);rw[←HZ.out];refine(HBAD.out _ 3 (k:Int) HRW.out).mono ?_;rintro e W1 ⟨rfl,HW1⟩;obtain⟨⟨p0,p1⟩,p2,⟨p3,p4⟩,⟨q0,q1⟩,q2,q3,q4⟩:=HW1.out.cells;(go_wp2_with fail);obtain⟨z1,z2,z3,z4⟩:=HEND.out W1 3 (k:Int) HW1.out;exact bodyPost_ret (v:=.tuple #[.agg #[.slice none 0 0,.slice none 0 0],.agg #[.slice none 0 0],.agg #[.int .i64 3,.int .i64 (k:Int)]]) (results_row3 Tryz.results21 _ _ RN RT RF 25 29 32 #[.slice none 0 0,.slice none 0 0] #[.slice none 0 0] #[.int .i64 3,.int .i64 (k:Int)] (0,0) (0,0) (0,0) _ _ _ rfl rfl rfl z1 z2 z3 Tryz.underlying25 Tryz.underlying29 Tryz.underlying32 rfl rfl rfl (by rw[sizeNt];rfl) (by rw[sizeTk];rfl) (by rw[sizeFt];rfl)) rfl ⟨z4,Or.inl ⟨by rw[HE.out];exact HNZ.out,by rw[HE.out]⟩⟩
      ·as_aux_lemma =>
        have e1:(dk == 1)=false:=(by simp[k1])
        have e2:(dk == 2)=false:=(by simp[k2])
        have e3:(dk == 3)=false:=(by simp[k3])
        have e4:(dk == 4)=false:=(by simp[k4])
        have e5:(dk == 5)=false:=(by simp[k5])
        have HE:Hid (onErr n t ds dn=(1,(k:Int))):=HK1.out 1 (by rw[HERR.out,if_neg k1,if_neg (by omega),if_neg k5]) (by decide);have HNZ:Hid ((1:Int)≠0):=(show(1:Int)≠0 by decide)
        clear HERR HK1 HNEXT;(go_wp2_with fail);rw[←HZ.out];refine(HBAD.out _ 1 (k:Int) HRW.out).mono ?_;rintro e W1 ⟨rfl,HW1⟩;obtain⟨⟨p0,p1⟩,p2,⟨p3,p4⟩,⟨q0,q1⟩,q2,q3,q4⟩:=HW1.out.cells;(go_wp2_with fail);obtain⟨z1,z2,z3,z4⟩:=HEND.out W1 1 (k:Int) HW1.out;exact bodyPost_ret (v:=.tuple #[.agg #[.slice none 0 0,.slice none 0 0],.agg #[.slice none 0 0],.agg #[.int .i64 1,.int .i64 (k:Int)]]) (results_row3 Tryz.results21 _ _ RN RT RF 25 29 32 #[.slice none 0 0,.slice none 0 0] #[.slice none 0 0] #[.int .i64 1,.int .i64 (k:Int)] (0,0) (0,0) (0,0) _ _ _ rfl rfl rfl z1 z2 z3 Tryz.underlying25 Tryz.underlying29 Tryz.underlying32 rfl rfl rfl (by rw[sizeNt];rfl) (by rw[sizeTk];rfl) (by rw[sizeFt];rfl)) rfl ⟨z4,Or.inl ⟨by rw[HE.out];exact HNZ.out,by rw[HE.out]⟩⟩
     ·as_aux_lemma =>
       obtain rfl:k=dn:=by omega
       obtain⟨z1,z2,_⟩:=hOn.sizes;obtain⟨n0,n1⟩:=tC2 hOn.bxN;have y0:=one_cell hOn.bxT;rw[z1] at n0;rw[z2] at n1;obtain⟨⟨p0,p1⟩,p2,⟨p3,p4⟩,⟨q0,q1⟩,q2,q3,q4⟩:=hOn.rb.cells;have HEZ:Hid ((onErr n t ds k).1=0):=by
        rw[HE0.out];exact(congrArg Prod.fst (Pl.firstTo_all _ _ hZ.out))
       have HFIN:Hid (∀V,(∀q,q≠RN→q≠RT→q≠RF→V.heap[q]?=U.heap[q]?)→V.heap.size=U.heap.size→Bl w V→RonW w N n t ms ds k (.returned (.tuple #[.agg #[.slice n'.bao n.K n'.bcap,.slice n'.lao n.L n'.lcap],.agg #[.slice oa t'.length oc],.agg #[.int .i64 0,.int .i64 0]])) V):=fun V h1 h2 h3=>by
        refine⟨h3,Or.inr ⟨HEZ.out,n',oa,oc,t',?_,hOn.out HWF.out HN0.out hokS HMR.out.1 HNN.out h2 h1 HMR.out.2⟩⟩;unfold Pl.Net.val;rw[z1,z2]
       have HRR:Hid (RB w U RN RT RF):=hOn.rb;have hord:=HORD.out;have m1:BN≠RN:=(by omega)
       have m2:BN≠RT:=(by omega)
       have m3:BN≠RF:=(by omega)
       have m4:BT≠RN:=(by omega)
       have m5:BT≠RT:=(by omega)
       have m6:BT≠RF:=(by omega)
       have m7:=m1.symm;have m8:=m2.symm;have m9:=m3.symm;have m10:=m4.symm;have m11:=m5.symm;have m12:=m6.symm;have le1:w.heap.size≤RN:=(by omega)
       have le2:w.heap.size≤RT:=(by omega)
       have le3:w.heap.size≤RF:=(by omega)
       have ne4:=ne1.symm;have ne5:=ne2.symm;have ne6:=ne3.symm;have HLE:Hid (w.heap.size≤RN∧w.heap.size≤RT∧w.heap.size≤RF):=⟨le1,le2,le3⟩
       clear hS hZ hOn hokS hfn HE0 HDS hord z1 z2;(go_wp2_with fail);go_region
       (all_goals go_wp2_with fail);all_goals
        refine bodyPost_ret (v:=.tuple #[.agg #[.slice n'.bao n.K n'.bcap,.slice n'.lao n.L n'.lcap],.agg #[.slice oa t'.length oc],.agg #[.int .i64 0,.int .i64 0]]) (results_row3 Tryz.results21 _ _ RN RT RF 25 29 32 #[.slice n'.bao n.K n'.bcap,.slice n'.lao n.L n'.lcap] #[.slice oa t'.length oc] #[.int .i64 0,.int .i64 0] (0,0) (0,0) (0,0) _ _ _ rfl rfl rfl ?h1 ?h2 ?h3 Tryz.underlying25 Tryz.underlying29 Tryz.underlying32 rfl rfl rfl ?i1 ?i2 ?i3) rfl ?post
        case h1=>repeat(first | (with_reducible refine drew_keep ?_) | (with_reducible exact HRR.out.n) | (with_reducible exact keep HRR.out.n (below_drewN (Below.refl _ _) _)) | (with_reducible exact keep HRR.out.n (Below.drew (Below.refl _ _))) | (with_reducible refine set2_same (a0:=Value.slice none 0 0) (a1:=Value.slice none 0 0) ?_) | (with_reducible refine set_keep ?_ ne1) | (with_reducible refine set_keep ?_ ne2))
        case h2=>repeat(first | (with_reducible refine drew_keep ?_) | (with_reducible exact HRR.out.t) | (with_reducible exact keep HRR.out.t (below_drewN (Below.refl _ _) _)) | (with_reducible exact keep HRR.out.t (Below.drew (Below.refl _ _))) | (with_reducible refine set1_same (a0:=Value.slice none 0 0) ?_) | (with_reducible refine set_keep ?_ ne4) | (with_reducible refine set_keep ?_ ne3))
        case h3=>repeat(first | (with_reducible refine drew_keep ?_) | (with_reducible exact HRR.out.f) | (with_reducible exact keep HRR.out.f (below_drewN (Below.refl _ _) _)) | (with_reducible exact keep HRR.out.f (Below.drew (Below.refl _ _))) | (with_reducible refine set2_same (a0:=Value.int .i64 0) (a1:=Value.int .i64 0) ?_) | (with_reducible refine set_keep ?_ ne5) | (with_reducible refine set_keep ?_ ne6))
        case i1=>rw[sizeNt];try rfl
        case i2=>rw[sizeTk];try rfl
        case i3=>rw[sizeFt];try rfl
        case post =>
         refine HFIN.out _ ?_ ?_ ?_
         ·repeat(first | (with_reducible refine but_drew ?_) | (with_reducible refine but_drewN ?_) | (with_reducible refine but_set1 ?_) | (with_reducible refine but_set2 ?_) | (with_reducible refine but_set3 ?_) | (exact(fun _ _ _ _=>rfl)))
         ·simp
         ·repeat(first | (with_reducible refine Below.drew ?_) | (with_reducible exact HRR.out.low) | (with_reducible exact below_drewN HRR.out.low _) | (with_reducible refine Below.setCell ?_ HLE.out.1 _) | (with_reducible refine Below.setCell ?_ HLE.out.2.1 _) | (with_reducible refine Below.setCell ?_ HLE.out.2.2 _))
 ·as_aux_lemma =>
   have HE:Hid (onErr n t ds dn=(n.wrong.1,n.wrong.2)):=by
    have e:wrT n t dn=n.wrong:=if_pos q;show(if (wrT n t dn).1≠0 then wrT n t dn else Tk.errTo n.cn ds dn)=_;rw[e,if_pos q]
   have HNZ:Hid (n.wrong.1≠0):=q;have HRW:Hid (RB w V1 RN RT RF):=HRB.out V1 hV1;have q1':(n.wrong.1 != 0)=true:=(by simpa using q)
   clear hV1 hbx HFT HDS HWF HIN HNL HCM HXW HBX HRB q;generalize n.wrong.1=E1 at *;generalize n.wrong.2=E2 at *;(go_wp2_with fail);rw[←HV1.out];refine(HBAD.out _ E1 E2 HRW.out).mono ?_;rintro e W1 ⟨rfl,HW1⟩;obtain⟨⟨p0,p1⟩,p2,⟨p3,p4⟩,⟨q0,q1⟩,q2,q3,q4⟩:=HW1.out.cells;(go_wp2_with fail);obtain⟨z1,z2,z3,z4⟩:=HEND.out W1 E1 E2 HW1.out;exact bodyPost_ret (v:=.tuple #[.agg #[.slice none 0 0,.slice none 0 0],.agg #[.slice none 0 0],.agg #[.int .i64 E1,.int .i64 E2]]) (results_row3 Tryz.results21 _ _ RN RT RF 25 29 32 #[.slice none 0 0,.slice none 0 0] #[.slice none 0 0] #[.int .i64 E1,.int .i64 E2] (0,0) (0,0) (0,0) _ _ _ rfl rfl rfl z1 z2 z3 Tryz.underlying25 Tryz.underlying29 Tryz.underlying32 rfl rfl rfl (by rw[sizeNt];rfl) (by rw[sizeTk];rfl) (by rw[sizeFt];rfl)) rfl ⟨z4,Or.inl ⟨by rw[HE.out];exact HNZ.out,by rw[HE.out]⟩⟩
end
end Go.Proofs.YtaneiffnhphkhaaGreatDoor
