/- TNx -/
import Derived.Test.YtelebnancdjjiaaGreatDoorE24b
set_option maxRecDepth 100000
set_option maxHeartbeats 40000000
namespace Go.Proofs.YtelebnancdjjiaaGreatDoor
section
open Go.Proofs.Tryz Go.RowKit
open Pl(En Br Net Pc Lk)
open Vc(V Of)
def New0 (w:World) (n:Net) (T:Nat) (e:Ending) (w':World):Prop :=
 ∃S ba bc la lc oa oc f g,e=.returned (.pointer (some (Pv S 0)))/\w.heap.size<=S/\w'.heap[S]?=some (.cells #[.slice ba n.K bc,.slice la n.L lc,.slice oa T oc,f,g] 148)/\Bl w w'
theorem a7W (n:Net) (t:List Tr) (oao:OA) (ocap:Nat) (w:World) (hR:n.Right) (hT:t.length<=4) (ae:∀k,k<t.length->(tat t k).l.length<=100000/\∀i,i<(tat t k).l.length->(mat (tat t k).l i).ports.length<=100000/\(mat (tat t k).l i).roles.length<=100000/\(mat (tat t k).l i).calm.length<=100000) (ar:n.at' w) (au:TrRow w oao ocap t) (ht:Tabs w) (ai:2<=w.heap.size) :
  Calls prog 67 #[n.val,.agg #[.slice oao t.length ocap]] w λe w'=>New0 w n t.length e w':=by
 obtain⟨X,HX⟩:=nm ((w.alloc (.cells #[.slice n.bao n.K n.bcap,.slice n.lao n.L n.lcap] 25)).alloc (.cells #[.slice oao t.length ocap] 34))
 have ab:Bl w X:=(by rw[HX.o];exact bA2 _ _ _)
 have aj:X.heap[w.heap.size]?=some (.cells #[.slice n.bao n.K n.bcap,.slice n.lao n.L n.lcap] 25):=(by rw[HX.o];exact b0d _ _ _)
 have ak:X.heap[w.heap.size+1]?=some (.cells #[.slice oao t.length ocap] 34):=(by rw[HX.o];exact b0c _ _ _)
 obtain⟨c0,c1⟩:=tC2 aj;have c2:=a0x ak;have af:=ar.below ab;have ap:=a7v n.bao n.K n.bcap n.bs X hR.few af.brs af.each hR.fine (ht.below ab ai) (b0p ai ab.size);have ad:Hid (∀V,Bl X V->((V.cell? (Pv w.heap.size 0)=some (.slice n.bao n.K n.bcap)/\V.cell? (Pv w.heap.size 1)=some (.slice n.lao n.L n.lcap))/\V.cell? (Pv (w.heap.size+1) 0)=some (.slice oao t.length ocap))/\n.at' V/\TrRow V oao ocap t):=λV hV=>⟨⟨tC2 (keep aj hV),a0x (keep ak hV)⟩,af.below hV,(au.below ab).below hV⟩
 have aq:Hid (Calls prog 102 #[.slice n.bao n.K n.bcap] X λe w'=>∃B1 B2,e=.returned (.func (.func 150) #[] #[.pointer (some (Pv B1 0)),.pointer (some (Pv B2 0))])/\Hid (AmongAt w' n.K n.bs B1 B2/\Bl X w')):=ap;have HR:Hid n.Right:=hR;have al:Hid (Bl w X):=ab;have am:Hid (t.length<=100000/\∀k,k<t.length->(tat t k).l.length<=100000/\∀i,i<(tat t k).l.length->(mat (tat t k).l i).ports.length<=100000/\(mat (tat t k).l i).roles.length<=100000/\(mat (tat t k).l i).calm.length<=100000):=⟨om,ae⟩
 clear hR hT ae ar au ht ai ab aj ak af ap;unfold Net.val;go_enter func67,ntmps67;(go_wp2_with fail);rw[<-HX.o];refine aq.o.mono ?_;rintro e w1 ⟨B1,B2,rfl,H1⟩;clear aq c0 c1 c2;have ac:Hid (∀V,Bl w1 V->Bl X V):=λV hV=>H1.o.2.trans (hV.mono H1.o.2.size);have aw:Hid (∀V,Bl w1 V->Calls prog 103 #[.agg #[.slice n.bao n.K n.bcap,.slice n.lao n.L n.lcap]] V λe w'=>∃ba bc la lc,e=.returned (.agg #[.slice ba n.K bc,.slice la n.L lc])/\Hid (Bl w1 w')):=λV hV=>by
  refine(tcopnet0 n V HR.o.few HR.o.fewL (λi hi => ?_) (ad.o V (ac.o V hV)).2.1).mono ?_
  ·have hf:=HR.o.fine i hi;exact⟨by have:=hf.few;omega,by have:=vids_few hf.reg.2.2;omega⟩
  rintro e w' ⟨ba,bc,la,lc,rfl,h2⟩;exact⟨ba,bc,la,lc,rfl,hV.trans (h2.mono hV.size)⟩
 have ax:Hid (∀V,Bl w1 V->Calls prog 104 #[.agg #[.slice oao t.length ocap]] V λe w'=>∃oa oc,e=.returned (.agg #[.slice oa t.length oc])/\Hid (Bl w1 w')):=λV hV=>by
  refine(a9o t oao ocap V am.o.1 am.o.2 (ad.o V (ac.o V hV)).2.2).mono ?_;rintro e w' ⟨oa,oc,rfl,h2⟩;exact⟨oa,oc,rfl,hV.trans (h2.mono hV.size)⟩
 have av:Hid (∀V,Bl w1 V->Calls prog 150 #[.slice n.lao n.L n.lcap,.pointer (some (Pv B1 0)),.pointer (some (Pv B2 0))] V λe w'=>∃G,e=.returned (.slice (some (Pv G 0)) n.K n.K)/\Hid (Bl w1 w')):=λV hV=>by
  refine(pends0 n.K n.bs B1 B2 n.lao n.L n.lcap n.ls V HR.o.few HR.o.fewL (H1.o.1.below hV) (ad.o V (ac.o V hV)).2.1.lks HR.o.links).mono ?_;rintro e w' ⟨G,rfl,h3⟩;exact⟨G,rfl,hV.trans (h3.mono hV.size)⟩
 have an:Hid (∀V,Bl w1 V->(V.cell? (Pv w.heap.size 0)=some (.slice n.bao n.K n.bcap)/\V.cell? (Pv w.heap.size 1)=some (.slice n.lao n.L n.lcap))/\V.cell? (Pv (w.heap.size+1) 0)=some (.slice oao t.length ocap)):=λV hV=>(ad.o V (ac.o V hV)).1;have ag:Hid (∀V m,Bl w1 V->Bl w1 (V.drewN m)):=λV m h=>a0d h m;have ah:Hid (∀V,Bl w1 V->Bl w1 V.drew):=λV h=>b0i h;have ao:Hid (Bl w1 w1):=b0h _ _;obtain⟨⟨c0,c1⟩,c2⟩:=an.o w1 (b0h _ _);have aa:Hid (∀(ba:OA) (bc:Nat) (la:OA) (lc:Nat) (oa:OA) (oc:Nat) (f g:Value) (W:World),Bl w1 W->New0 w n t.length (.returned (.pointer (some (Pv W.heap.size 0)))) (W.alloc (.cells #[.slice ba n.K bc,.slice la n.L lc,.slice oa t.length oc,f,g] 148))):=λba bc la lc oa oc f g W hW=>by
  have d:=al.o.trans ((ac.o W hW).mono al.o.size);exact⟨_,ba,bc,la,lc,oa,oc,f,g,rfl,d.size,a9Z _ _,d.trans ((bA1 _ _).mono d.size)⟩
 clear ad HR al am ac H1;(go_wp2_with fail);go_region_with (first | (go_at_call 103;refine(aw.o _ (by first | exact ao.o | exact ah.o _ ao.o | exact ag.o _ _ ao.o)).mono ?_;rintro e w2 ⟨ba,bc,la,lc,rfl,H2⟩;obtain⟨⟨d0,d1⟩,d2⟩:=an.o w2 H2.o) | (go_at_call 104;refine(ax.o _ (by first | exact H2.o | exact ah.o _ H2.o | exact ag.o _ _ H2.o)).mono ?_;rintro e w3 ⟨oa,oc,rfl,H3⟩;obtain⟨⟨f0,f1⟩,f2⟩:=an.o w3 H3.o) | (go_at_call 150;refine(av.o _ (by first | exact H3.o | exact ah.o _ H3.o | exact ag.o _ _ H3.o)).mono ?_;rintro e w4 ⟨G,rfl,H4⟩))
 (all_goals go_wp2_with fail);(all_goals go_ret);all_goals first | exact aa.o _ _ _ _ _ _ _ _ _ H4.o | exact aa.o _ _ _ _ _ _ _ _ _ (ah.o _ H4.o) | exact aa.o _ _ _ _ _ _ _ _ _ (ag.o _ _ H4.o)
