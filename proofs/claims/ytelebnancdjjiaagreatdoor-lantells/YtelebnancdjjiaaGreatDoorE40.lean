/- 'hedgelaw10.LanTells' returns true for every net, every number of trees, whatever is done, all books, every two numbers and every frame, and leaves it as it was: the row and its tied card. Conditions: none beyond the form's own (the tables lie as the program's text lays them: the card's tie). -/
import Derived.Test.YtelebnancdjjiaaGreatDoorE36
import Derived.Test.YtelebnancdjjiaaGreatDoorE39
import Derived.Test.YtelebnancdjjiaaGreatDoorCards
import Derived.Test.YtelebnancdjjiaaGreatDoorTie
set_option maxRecDepth 100000
set_option maxHeartbeats 40000000
namespace Go.Proofs.YtelebnancdjjiaaGreatDoor
section
open Go.Proofs.Tryz Go.RowKit
open Pl(Net Br)
open Bk(E)
open Rl(F O)
open Tk(Mnd Sc Dn)
def AnsW (w':World) (K:Nat) (f:F) (SE:Int×Int) (RR:Ln.Cs) (so:OA) (sn sc:Nat) (ko:OA) (kn kc:Nat) (ok:Bool) (e1 e2:Int):Prop :=
 ((SE.1≠0\/¬(RR.err=0/\RR.wait=[]))/\(so=none/\sn=0/\sc=0)/\(ko=none/\kn=0/\kc=0)/\ok=false/\(e1,e2)=if SE.1≠0 then SE else(RR.err,0)) \/
 (SE.1=0/\(RR.err=0/\RR.wait=[])/\ok=true/\e1=0/\e2=0/\kn=K/\∃(ss:List AV) (bo':Nat->OA) (bc':Nat->Nat),sn=ss.length/\ss.map AV.p=RR.seen/\∀V,Bl w' V->ORw V so sc f (ss.map AV.ov)/\CRow V ko K kc 1 (λi _=>.slice (bo' i) (RR.books i).length (bc' i))/\∀i,i<K->BEL V (bo' i) (bc' i) (RR.books i)/\(RR.books i).length<=9223372036854775807)
theorem ans_j {w w':World}{n:Net}{t:List Tr}{vid:Int}{f:F}{B:Nat}{ab:Nat->List E}{aa:Int}{e:Ending}(h:a7Y w n t vid f B ab aa e w') (hd:ByteRow w f.ao f.n f.cap f.bs) (hn:a0s f.ao f.n f.cap) :
  ∃so sn sc ko kn kc ok e1 e2,e=.returned (.tuple #[.slice so sn sc,.slice ko kn kc,.bool ok,.agg #[Iv e1,Iv e2]])/\Hid (AnsW w' n.K f (sErr n t B aa vid f) (sent n t vid f ab aa.toNat) so sn sc ko kn kc ok e1 e2):=by
 obtain⟨hb,⟨q,rfl⟩ | ⟨q,⟨q2,rfl⟩ | ⟨q3,q4,so,sc,ss,gk,ad,ac,rfl,hI⟩⟩⟩:=h
 ·exact⟨none,0,0,none,0,0,false,_,_,rfl,Or.inl ⟨Or.inl q,⟨rfl,rfl,rfl⟩,⟨rfl,rfl,rfl⟩,rfl,by rw[iP q]⟩⟩
 ·exact⟨none,0,0,none,0,0,false,_,_,rfl,Or.inl ⟨Or.inr q2,⟨rfl,rfl,rfl⟩,⟨rfl,rfl,rfl⟩,rfl,by rw[iN (λz=>z q)]⟩⟩
 ·refine⟨so,_,sc,_,_,_,true,0,0,rfl,Or.inr ⟨q,⟨q3,q4⟩,rfl,rfl,rfl,rfl,ss,ad,ac,rfl,hI.map,λV hV => ?_⟩⟩;have hk:=hI.books.bk.below hV;obtain⟨a1,c1,e1,r1,_⟩:=a0W om (a0h hI.row hV);injection e1 with p1 _ p2;refine⟨a7b (by rw[p1,p2];exact r1) (λx hx=>((Ty.below _ hV).dt (hI.data x hx)).row (hd.below (a0c hb hV)) hn),?_,λi hi=>⟨(hk.each i hi).1,(hk.each i hi).2.2⟩⟩;refine⟨b0g _,λ_=>⟨gk,0,rfl,a1a hk.row,λi hi j hj => ?_⟩⟩;obtain rfl:j=0:=om
  have:=(hk.cell hi).1;simpa using this
theorem ans_r {w w':World}{n:Net}{t:List Tr}{vid:Int}{f:F}{B:Nat}{ab:Nat->List E}{aa:Int}{e:Ending}(h:a2R w n t vid f B ab aa e w') (hd:ByteRow w f.ao f.n f.cap f.bs) (hn:a0s f.ao f.n f.cap) :
  ∃so sn sc ko kn kc ok e1 e2,e=.returned (.tuple #[.slice so sn sc,.slice ko kn kc,.bool ok,.agg #[Iv e1,Iv e2]])/\Hid (AnsW w' n.K f (sErr n t B aa vid f) (sent n t vid f ab aa.toNat) so sn sc ko kn kc ok e1 e2):=by
 obtain⟨hb,⟨q,rfl⟩ | ⟨q,⟨q2,rfl⟩ | ⟨q3,q4,so,sc,ss,ko,kc,ad,ac,rfl,hI⟩⟩⟩:=h
 ·exact⟨none,0,0,none,0,0,false,_,_,rfl,Or.inl ⟨Or.inl q,⟨rfl,rfl,rfl⟩,⟨rfl,rfl,rfl⟩,rfl,by rw[iP q]⟩⟩
 ·exact⟨none,0,0,none,0,0,false,_,_,rfl,Or.inl ⟨Or.inr q2,⟨rfl,rfl,rfl⟩,⟨rfl,rfl,rfl⟩,rfl,by rw[iN (λz=>z q)]⟩⟩
 ·refine⟨so,_,sc,_,_,_,true,0,0,rfl,Or.inr ⟨q,⟨q3,q4⟩,rfl,rfl,rfl,rfl,ss,ad,ac,rfl,hI.map,λV hV => ?_⟩⟩;refine⟨a7b (CRow.below hI.row hV) (λx hx => ?_),CRow.below hI.books hV,λi hi=>⟨(hI.each i hi).1.below hV,(hI.each i hi).2⟩⟩;obtain⟨z1,z2⟩:=hI.data x hx;rw[z1,z2];exact⟨hd.below (a0c hb hV),hn⟩
theorem ov_map {l m:List AV}(h:l.map AV.p=m.map AV.p):(l.map AV.ov).map OV.o=(m.map AV.ov).map OV.o:=by
 have e:∀k:List AV,(k.map AV.ov).map OV.o=(k.map AV.p).map (λx=>{ x.2 with port:=(x.1:Int) }):=λk=>by
  rw[List.map_map,List.map_map];rfl
 rw[e,e,h]
theorem ans_two {w1 w2:World}{K:Nat}{f:F}{SE:Int×Int}{RR:Ln.Cs}{so ac:OA}{sn ae sc aa:Nat}{ko ab:OA}{kn ah kc ad:Nat}{ok ai:Bool}{e1 af e2 aj:Int}(h1:AnsW w1 K f SE RR so sn sc ko kn kc ok e1 e2) (h2:AnsW w2 K f SE RR ac ae aa ab ah ad ai af aj) (hl:RR.seen.length<=100000) (hK:SE.1=0->K<=1000) :
  ai=ok/\af=e1/\aj=e2/\∀V,Bl w1 V->Bl w2 V->(Calls prog 12 #[.slice so sn sc,.slice ac ae aa] V λe w'=>e=.returned (.bool true)/\Bl V w')/\(Calls prog 13 #[.slice ko kn kc,.slice ab ah ad] V λe w'=>e=.returned (.bool true)/\Bl V w'):=by
 rcases h1 with⟨q,⟨rfl,rfl,rfl⟩,⟨rfl,rfl,rfl⟩,rfl,r1⟩ | ⟨q,q2,rfl,rfl,rfl,rfl,ss,bo,bc,rfl,hm,hv⟩
 ·rcases h2 with⟨_,⟨rfl,rfl,rfl⟩,⟨rfl,rfl,rfl⟩,rfl,r2⟩ | ⟨z,z2,_⟩
  ·rw[<-r1] at r2;injection r2 with a1 a2;refine⟨rfl,a1,a2,λV _ _=>⟨?_,?_⟩⟩
   ·have h0:ORw V none 0 f []:=⟨CRow.none _ _ _ _ _,λx hx=>by simp at hx⟩
    exact a3i none 0 none 0 f [] [] V h0 h0 rfl (by simp)
   ·exact a2T none 0 none 0 0 (λ_=>none) (λ_=>none) (λ_=>0) (λ_=>0) (λ_=>[]) V (CRow.none _ _ _ _ _) (CRow.none _ _ _ _ _) (λi hi=>absurd hi om) (λi hi=>absurd hi om) (λi hi=>absurd hi om) om
  ·rcases q with q | q
   ·exact absurd z q
   ·exact absurd z2 q
 ·rcases h2 with⟨z,_⟩ | ⟨_,_,rfl,rfl,rfl,rfl,al,an,am,rfl,ak,ag⟩
  ·rcases z with z | z
   ·exact absurd q z
   ·exact absurd q2 z
  ·refine⟨rfl,rfl,rfl,λV b1 b2=>⟨?_,?_⟩⟩
   ·obtain⟨o1,_⟩:=hv V b1;obtain⟨o2,_⟩:=ag V b2;have:=a3i so sc ac aa f (ss.map AV.ov) (al.map AV.ov) V o1 o2 (ov_map (hm.trans ak.symm)) (by rw[List.length_map,<-List.length_map (f:=AV.p),hm];exact hl);rw[List.length_map,List.length_map] at this;exact this
   ·obtain⟨_,o1,p1⟩:=hv V b1;obtain⟨_,o2,p2⟩:=ag V b2;exact a2T ko kc ab ad _ bo an bc am RR.books V o1 o2 (λi hi=>(p1 i hi).1) (λi hi=>(p2 i hi).1) (λi hi=>(p1 i hi).2) (hK q)
theorem sent_few (n:Net) (t:List Tr) (vid:Int) (f:F) (aa:Nat->List E) (i:Nat):(sent n t vid f aa i).seen.length<=100000:=by
 have h:(sent n t vid f aa i).seen.length<=0+31*41:=Ln.carry_len n t vid f 41 ⟨[],[(i,⟨0,f.tagged,f.prio,f.drop,f.vid⟩)],aa,0⟩;omega
structure LtIn (w:World) (n:Net) (dao:OA) (dn dcap:Nat) (ds:Nat->Dn) (ko:OA) (B kcap:Nat) (bks:Nat->List E) (bo:Nat->OA) (bc:Nat->Nat) (f:F):Prop where
 wf:n.Wf
 net:n.at' w
 nilB:a0s n.bao n.K n.bcap
 nilL:a0s n.lao n.L n.lcap
 nilP:∀i,i<n.K->a0s (n.bs i).pao (n.bs i).pn (n.bs i).pcap
 many:dn<=9223372036854775807
 dos:DRow w dao dn dcap ds
 bmany:B<=9223372036854775807
 books:BIn w ko B kcap bks bo bc
 nilK:a0s ko B kcap
 data:ByteRow w f.ao f.n f.cap f.bs
 nil:a0s f.ao f.n f.cap
 dst:0<=f.dst/\f.dst<18446744073709551616
 src:0<=f.src/\f.src<18446744073709551616
 tabs:Tabs w
 top:2<=w.heap.size
theorem LtIn.below {w W:World}{n:Net}{ac:OA}{dn aa:Nat}{ds:Nat->Dn}{ko:OA}{B ab:Nat}{ad:Nat->List E}{bo:Nat->OA}{bc:Nat->Nat}{f:F}(h:LtIn w n ac dn aa ds ko B ab ad bo bc f) (hb:Bl w W):LtIn W n ac dn aa ds ko B ab ad bo bc f :=
 ⟨h.wf,h.net.below hb,h.nilB,h.nilL,h.nilP,h.many,CRow.below h.dos hb,h.bmany,h.books.below hb,h.nilK,h.data.below hb,h.nil,h.dst,h.src,h.tabs.below hb h.top,b0p h.top hb.size⟩
theorem a9X {n:Net}{w V:World}(h:n.at' w) (hV:∀q,q<w.heap.size->V.heap[q]?=w.heap[q]?):n.at' V:=by
 have hs:w.heap.size<=V.heap.size:=by
  by_cases q:w.heap.size<=V.heap.size
  ·exact q
  ·have h1:=hV V.heap.size om;rw[Array.getElem?_eq_none (b0g _)] at h1;have h2:=Array.getElem?_eq_getElem (xs:=w.heap) (i:=V.heap.size) om;rw[h2] at h1;cases h1
 have h':n.at' { w with heap:=V.heap }:=h.below ⟨rfl,rfl,rfl,hs,hV⟩;exact⟨h'.brs,λi hi=>h'.each i hi,h'.lks,h'.manyB,h'.manyL⟩
theorem no_row (w:World):TrRow w none 0 []:=⟨⟨b0g _,λh=>absurd h (Nat.lt_irrefl _)⟩,λ_ hi=>absurd hi (Nat.not_lt_zero _),Nat.zero_le _⟩
structure TwoB (X W:World) (G:Nat) (n:Net) (oa:OA) (oc:Nat) (t:List Tr):Prop where
 net:W.heap[G]?=some (.cells #[.slice n.bao n.K n.bcap,.slice n.lao n.L n.lcap] 25)
 talk:W.heap[G+1]?=some (.cells #[.slice oa t.length oc] 34)
 wf:n.Wf
 there:n.at' W/\TrRow W oa oc t
 low:Bl X W
theorem TwoB.below {X W W':World}{G:Nat}{n:Net}{oa:OA}{oc:Nat}{t:List Tr}(h:TwoB X W G n oa oc t) (hb:Bl W W'):TwoB X W' G n oa oc t:=⟨keep h.net hb,keep h.talk hb,h.wf,⟨h.there.1.below hb,h.there.2.below hb⟩,a0c h.low hb⟩
theorem a5L (n:Net) (ae:Int) (an:OA) (dn af:Nat) (ds:Nat->Dn) (ko:OA) (B ad:Nat) (ah:Nat->List E) (bo:Nat->OA) (bc:Nat->Nat) (aa vid:Int) (f:F) (w:World) (h:LtIn w n an dn af ds ko B ad ah bo bc f) :
  Calls prog 3 #[n.val,Iv ae,.slice an dn af,.slice ko B ad,Iv aa,Iv vid,.agg (frA f)] w λe w'=>e=.returned (.bool true)/\Bl w w':=by
 obtain⟨X,HX⟩:=nm ((w.alloc (.cells #[.slice n.bao n.K n.bcap,.slice n.lao n.L n.lcap] 25)).alloc (.cells (frA f) 31))
 have ar:Bl w X:=(by rw[HX.o];exact bA2 _ _ _)
 have aC:X.heap[w.heap.size]?=some (.cells #[.slice n.bao n.K n.bcap,.slice n.lao n.L n.lcap] 25):=(by rw[HX.o];exact b0d _ _ _)
 have aG:X.heap[w.heap.size+1]?=some (.cells (frA f) 31):=(by rw[HX.o];exact b0c _ _ _)
 have HI:Hid (∀V,Bl X V->LtIn V n an dn af ds ko B ad ah bo bc f/\V.heap[w.heap.size]?=some (.cells #[.slice n.bao n.K n.bcap,.slice n.lao n.L n.lcap] 25)/\V.heap[w.heap.size+1]?=some (.cells (frA f) 31)/\Bl w V):=λV hV=>by
  have hb:=ar.trans (hV.mono ar.size);exact⟨h.below hb,keep aC hV,keep aG hV,hb⟩
 have HP:Hid (Calls prog 9 #[.agg #[.slice n.bao n.K n.bcap,.slice n.lao n.L n.lcap],Iv ae,.slice an dn af] X λe w'=>∃na nk nc la lk lc oa ol oc f1 f2,e=.returned (.tuple #[.agg #[.slice na nk nc,.slice la lk lc],.agg #[.slice oa ol oc],.agg #[Iv f1,Iv f2]])/\Hid (Bl X w'/\(f1=0->∃(n':Net) (t':List Tr),(na=n'.bao/\nk=n'.K/\nc=n'.bcap)/\(la=n'.lao/\lk=n'.L/\lc=n'.lcap)/\ol=t'.length/\n'.Wf/\n'.at' w'/\TrRow w' oa oc t'))):=by
  have hx:=(HI.o X (b0h _ _)).1;refine(a9W n ae an dn af ds (λ_=>False) X hx.wf (λ_ z=>z.elim) (λV hV=>a9X hx.net (λq hq=>hV q hq (λz=>z))) hx.nilB hx.nilL hx.nilP hx.many hx.dos).mono ?_;rintro e w' ⟨h1,⟨h2,rfl⟩ | ⟨h2,n',oao,ocap,t',rfl,h3⟩⟩
  ·exact⟨_,_,_,_,_,_,_,_,_,_,_,rfl,h1,λz=>absurd z h2⟩
  ·have h4:=h3.here;exact⟨_,_,_,_,_,_,_,_,_,_,_,rfl,h1,λ_=>⟨n',t',⟨rfl,rfl,rfl⟩,⟨rfl,rfl,rfl⟩,rfl,h4.wf,h4.net,h4.row⟩⟩
 obtain⟨a0,a1⟩:=tC2 aC;have ag:Hid (∀(V:World) (G:Nat) (N2:Net) (ab:OA) (ac:Nat) (t2:List Tr),TwoB X V G N2 ab ac t2->(Calls prog 10 #[.agg #[.slice N2.bao N2.K N2.bcap,.slice N2.lao N2.L N2.lcap],.agg #[.slice ab t2.length ac],.slice ko B ad,Iv aa,Iv vid,.agg #[Uv f.dst,Uv f.src,.bool f.tagged,Iv f.prio,.bool f.drop,Iv f.vid,Iv f.type,.slice f.ao f.n f.cap]] V λe w'=>∃so sn sc ka kn kc ok e1 e2,e=.returned (.tuple #[.slice so sn sc,.slice ka kn kc,.bool ok,.agg #[Iv e1,Iv e2]])/\Hid (Bl V w'/\AnsW w' N2.K f (sErr N2 t2 B aa vid f) (sent N2 t2 vid f ah aa.toNat) so sn sc ka kn kc ok e1 e2))/\(Calls prog 11 #[.agg #[.slice N2.bao N2.K N2.bcap,.slice N2.lao N2.L N2.lcap],.agg #[.slice ab t2.length ac],.slice ko B ad,Iv aa,Iv vid,.agg #[Uv f.dst,Uv f.src,.bool f.tagged,Iv f.prio,.bool f.drop,Iv f.vid,Iv f.type,.slice f.ao f.n f.cap]] V λe w'=>∃so sn sc ka kn kc ok e1 e2,e=.returned (.tuple #[.slice so sn sc,.slice ka kn kc,.bool ok,.agg #[Iv e1,Iv e2]])/\Hid (Bl V w'/\AnsW w' N2.K f (sErr N2 t2 B aa vid f) (sent N2 t2 vid f ah aa.toNat) so sn sc ka kn kc ok e1 e2))):=λV G N2 ab ac t2 hB=>by
  have hx:=(HI.o V hB.low).1;constructor
  ·refine(a9T N2 ab ac t2 ko B ad ah bo bc aa vid f V hB.wf hB.there.1 hB.there.2 hx.tabs hx.top hx.bmany hx.books hx.data hx.nil hx.dst hx.src).mono ?_;intro e w' hz;obtain⟨so,sn,sc,ka,kn,kc,ok,e1,e2,he,hA⟩:=ans_j hz hx.data hx.nil;exact⟨so,sn,sc,ka,kn,kc,ok,e1,e2,he,hz.1,hA.o⟩
  ·refine(a8l N2 ab ac t2 ko B ad ah bo bc aa vid f V hB.wf hB.there.1 hB.there.2 hx.bmany hx.books hx.nilK hx.data hx.nil hx.dst hx.src).mono ?_;intro e w' hz;obtain⟨so,sn,sc,ka,kn,kc,ok,e1,e2,he,hA⟩:=ans_r hz hx.data hx.nil;exact⟨so,sn,sc,ka,kn,kc,ok,e1,e2,he,hz.1,hA.o⟩
 have aj:Hid (∀(N2:Net) (t2:List Tr),N2.Wf->(sErr N2 t2 B aa vid f).1=0->N2.K<=1000):=λN2 t2 hw hz=>by
  have h1:=(a5D hz).2.1;have h2:=(right_of hw (a2O (a3q h1).1).2.1).few;omega
 have aW:Hid (∀(a b:Int) (W:World),(binOp .eql 37 (.agg #[Iv a,Iv b]) (.agg #[Iv a,Iv b])).run prog W=.ok (.bool true) W):=λa b W=>by go_simp
 have aV:Hid (w.heap.size<=X.heap.size):=ar.size;clear h ar aC aG;unfold frA at HX HI;unfold frA Pl.Net.val;rw[HX.o] at a0 a1;skip
 go_enter func3,ntmps3;(go_wp2_with fail);rw[<-HX.o];refine HP.o.mono ?_;rintro e w1 ⟨na,nk,nc,la,lk,lc,oa,ol,oc,f1,f2,rfl,H1⟩;clear HP a0 a1;obtain⟨Z,HZ⟩:=nm (((w1.alloc (.cells #[.slice na nk nc,.slice la lk lc] 25)).alloc (.cells #[.slice oa ol oc] 34)).alloc (.cells #[Iv f1,Iv f2] 37))
 have h3:=a1x w1 (.cells #[.slice na nk nc,.slice la lk lc] 25) (.cells #[.slice oa ol oc] 34) (.cells #[Iv f1,Iv f2] 37);rw[<-HZ.o] at h3;obtain⟨y0,y1,y2,y3⟩:=h3;obtain⟨G,HG⟩:=nm w1.heap.size
 have aD:X.heap.size<=G:=(by rw[HG.o];exact H1.o.1.size)
 rw[<-HG.o] at y0 y1 y2;have au:Bl X Z:=a0c H1.o.1 y3;obtain⟨b0,b1⟩:=tC2 y0;have b2:=a9Y _ _ 0 _ _ _ y1;obtain⟨b3,b4⟩:=tC2 y2;have r0:=lF0 y0 0;have r1:=lF0 y0 1;have r2:=lF0 y1 0;obtain⟨_,n0,_,_⟩:=HI.o Z au;obtain⟨a0,a1⟩:=tC2 n0;have ax:Hid (f1=0->∃N2 ab ac t2,TwoB X Z G N2 ab ac t2):=λz=>by
  obtain⟨n',t',⟨rfl,rfl,rfl⟩,⟨rfl,rfl,rfl⟩,rfl,h5,h7,h8⟩:=H1.o.2 z;exact⟨n',oa,oc,t',y0,y1,h5,⟨h7.below y3,h8.below y3⟩,au⟩
 have ak:Hid (∃N2 ab ac t2,TwoB X (((Z.setCell (Pv G 0) (.slice n.bao n.K n.bcap)).setCell (Pv G 1) (.slice n.lao n.L n.lcap)).setCell (Pv (G+1) 0) sN) G N2 ab ac t2):=by
  have am:Bl X (((Z.setCell (Pv G 0) (.slice n.bao n.K n.bcap)).setCell (Pv G 1) (.slice n.lao n.L n.lcap)).setCell (Pv (G+1) 0) sN):=((au.setCell aD _).setCell aD _).setCell (show X.heap.size<=G+1 by omega) _;have hx:=(HI.o _ am).1;exact⟨n,none,0,[],a0o (a0i y0) om,a1o (a0o (a0o y1 om) om),hx.wf,⟨hx.net,no_row _⟩,am⟩
 clear H1 y0 y1 y2 y3 au n0 aD;(go_upto_region 2 with fail);rw[<-HZ.o,<-HG.o];clear HZ HG;go_upto_if 36 with fail
 go_cut [37] (λ_ wx=>Hid (∃N2 ab ac t2,TwoB X wx G N2 ab ac t2))
 case first =>
  clear HI ag aj aW aV;by_cases hf:f1=0
  ·have HF:Hid (∃N2 ab ac t2,TwoB X Z G N2 ab ac t2):=ax.o hf;subst hf;clear ax ak;(go_wp2_with fail);go_meet
   exact HF
  ·have aZ:(f1 != 0)=true:=(by simp[hf])
   clear ax;(go_wp2_with fail);go_meet
   exact ak
 case rest =>
 obtain⟨N2,ab,ac,t2,hJ⟩:=hcut.o;rename World=>wc
 have HJ:Hid (TwoB X wc G N2 ab ac t2):=hJ;clear b0 b1 b2 b3 b4 r0 r1 r2 a0 a1 ax ak hcut;obtain⟨b0,b1⟩:=tC2 hJ.net;have b2:=a9Y _ _ 0 _ _ _ hJ.talk;obtain⟨_,_,ap,_⟩:=HI.o wc hJ.low;obtain⟨g0,g1,g2,g3,g4,g5,g6,g7⟩:=a0U ap;have aI:Hid (Calls prog 10 #[.agg #[.slice N2.bao N2.K N2.bcap,.slice N2.lao N2.L N2.lcap],.agg #[.slice ab t2.length ac],.slice ko B ad,Iv aa,Iv vid,.agg #[Uv f.dst,Uv f.src,.bool f.tagged,Iv f.prio,.bool f.drop,Iv f.vid,Iv f.type,.slice f.ao f.n f.cap]] wc λe w'=>∃so sn sc ka kn kc ok e1 e2,e=.returned (.tuple #[.slice so sn sc,.slice ka kn kc,.bool ok,.agg #[Iv e1,Iv e2]])/\Hid (Bl wc w'/\AnsW w' N2.K f (sErr N2 t2 B aa vid f) (sent N2 t2 vid f ah aa.toNat) so sn sc ka kn kc ok e1 e2)):=(ag.o wc G N2 ab ac t2 hJ).1;clear hJ ap;(go_wp2_with fail);refine aI.o.mono ?_;rintro e w3 ⟨so,sn,sc,ka,kn,kc,ok,e1,e2,rfl,H3⟩;clear aI b0 b1 b2 g0 g1 g2 g3 g4 g5 g6 g7;obtain⟨Z3,ay⟩:=nm (w3.alloc (.cells #[Iv e1,Iv e2] 37))
 have q3:Bl w3 Z3:=(by rw[ay.o];exact bA1 _ _)
 have u3:Z3.heap[w3.heap.size]?=some (.cells #[Iv e1,Iv e2] 37):=(by rw[ay.o];exact a9Z _ _)
 obtain⟨G3,aE⟩:=nm w3.heap.size
 rw[<-aE.o] at u3;have aF:Hid (Z3.heap[G3]?=some (.cells #[Iv e1,Iv e2] 37)/\Bl w3 Z3):=⟨u3,q3⟩
 have al:=HJ.o.below (a0c H3.o.1 q3);have aJ:Hid (TwoB X Z3 G N2 ab ac t2):=al;obtain⟨b0,b1⟩:=tC2 al.net;have b2:=a9Y _ _ 0 _ _ _ al.talk;obtain⟨_,_,ap,_⟩:=HI.o Z3 al.low;obtain⟨g0,g1,g2,g3,g4,g5,g6,g7⟩:=a0U ap;have aN:Hid (Calls prog 11 #[.agg #[.slice N2.bao N2.K N2.bcap,.slice N2.lao N2.L N2.lcap],.agg #[.slice ab t2.length ac],.slice ko B ad,Iv aa,Iv vid,.agg #[Uv f.dst,Uv f.src,.bool f.tagged,Iv f.prio,.bool f.drop,Iv f.vid,Iv f.type,.slice f.ao f.n f.cap]] Z3 λe w'=>∃so sn sc ka kn kc ok e1 e2,e=.returned (.tuple #[.slice so sn sc,.slice ka kn kc,.bool ok,.agg #[Iv e1,Iv e2]])/\Hid (Bl Z3 w'/\AnsW w' N2.K f (sErr N2 t2 B aa vid f) (sent N2 t2 vid f ah aa.toNat) so sn sc ka kn kc ok e1 e2)):=(ag.o Z3 G N2 ab ac t2 al).2;clear al ap u3 q3 ag;(go_upto_region 5 with fail);rw[<-ay.o,<-aE.o];clear ay;(go_wp2_with fail);refine aN.o.mono ?_;rintro e w4 ⟨aT,aU,aX,aL,aR,aM,aK,aq,aw,rfl,H4⟩;clear aN b0 b1 b2 g0 g1 g2 g3 g4 g5 g6 g7;obtain⟨rfl,rfl,rfl,hC⟩:=ans_two H3.o.2 H4.o.2 (sent_few N2 t2 vid f ah aa.toNat) (aj.o N2 t2 HJ.o.wf);obtain⟨Z4,av⟩:=nm (w4.alloc (.cells #[Iv aq,Iv aw] 37))
 have q4:Bl w4 Z4:=(by rw[av.o];exact bA1 _ _)
 have u4:Z4.heap[w4.heap.size]?=some (.cells #[Iv aq,Iv aw] 37):=(by rw[av.o];exact a9Z _ _)
 have ai:Bl Z3 Z4:=a0c H4.o.1 q4;have az:Bl w3 Z4:=a0c aF.o.2 ai;obtain⟨c0,c1⟩:=tC2 (keep aF.o.1 ai);obtain⟨d0,d1⟩:=tC2 u4;have aH:Hid (Bl w Z4):=(HI.o Z4 (a0c aJ.o.low ai)).2.2.2;have aQ:Hid (Calls prog 12 #[.slice so sn sc,.slice aT aU aX] Z4 λe w'=>e=.returned (.bool true)/\Hid (Bl Z4 w')):=(hC Z4 az q4).1.mono (λ_ _ z=>⟨z.1,z.2⟩);have aO:Hid (∀V,Bl Z4 V->Calls prog 13 #[.slice ka kn kc,.slice aL aR aM] V λe w'=>e=.returned (.bool true)/\Hid (Bl Z4 w')):=λV hV=>(hC V (a0c az hV) (a0c q4 hV)).2.mono (λ_ _ z=>⟨z.1,a0c hV z.2⟩);obtain⟨G4,aB⟩:=nm w4.heap.size
 rw[<-aB.o] at d0 d1;have v1:(aK == aK)=true:=(by simp)
 have v2:(aq == aq)=true:=(by simp)
 have v3:(aw == aw)=true:=(by simp)
 clear hC q4 u4 ai az HI H3 H4 aF HJ aJ aj;(go_upto_region 6 with fail);rw[<-av.o,<-aB.o];clear av aB aE;(go_wp2_with fail);refine aQ.o.mono ?_;rintro e w5 ⟨rfl,H5⟩;have aY:Hid (Calls prog 13 #[.slice ka kn kc,.slice aL aR aM] w5 λe w'=>e=.returned (.bool true)/\Hid (Bl Z4 w')):=aO.o w5 H5.o;clear aQ aO;(go_wp2_with fail);refine aY.o.mono ?_;rintro e w6 ⟨rfl,H6⟩;(go_wp2_with fail);go_ret;exact⟨rfl,aH.o.trans (H6.o.mono aH.o.size)⟩
end
end Go.Proofs.YtelebnancdjjiaaGreatDoor
namespace Go.Proofs.YtelebnancdjjiaaGreatDoor.lanTells
open Go.ChangeShapes Go.WideShapes Go.ChangeAt Go.RowKit
theorem contract (H:Type) (enc:TypeId×Value->H) (W:World) (base:Nat) (args:Array Value) (ds gs:List (DataW H)) (before:List MemPlace)
  (hval:∀(j:Nat) t v,Tryz.f3.params[j]?=some t->args[j]?=some v->Value.okWide Tryz.prog W .any base t v)
  (hW:DataW.Whole enc Tryz.prog Tryz.f3.params.toList Rows.lanTellsSpec.vars false W args.toList ds gs before)
  (hsz:(DataW.weightsEach Tryz.prog (Tryz.f3.params.toList++(OpenSpec.ofChange Rows.lanTellsSpec).bare.plain.varTypes Tryz.prog) (ds++gs)).all (·<=reachBytes)=true)
  (hL:laidMetH Tryz.prog Rows.lanTellsRow.laid W) :
  Calls Tryz.prog 3 args W fun e W'=>∃v,e=.returned v∧Rows.lanTellsSpec.post enc Tryz.prog Tryz.f3 false true false false W args v W':=by
 have hW':=hW;obtain⟨p,q,hA0,hV,rfl,hfz,hnd⟩:=hW;have hA:DataW.TrodAll enc Tryz.prog W 0 (fun _=>true) true Tryz.f3.params.toList args.toList ds p:=hA0;rw[Tryz.params3] at hA hval hsz;obtain⟨v0,vs0,d0,ds0,p0,q0,hargs,rfl,rfl,h0,r0⟩:=trodAll_cons hA;obtain⟨v1,vs1,d1,ds1,p1,q1,rfl,rfl,rfl,h1,r1⟩:=trodAll_cons r0;obtain⟨v2,vs2,d2,ds2,p2,q2,rfl,rfl,rfl,h2,r2⟩:=trodAll_cons r1;obtain⟨v3,vs3,d3,ds3,p3,q3,rfl,rfl,rfl,h3,r3⟩:=trodAll_cons r2;obtain⟨v4,vs4,d4,ds4,p4,q4,rfl,rfl,rfl,h4,r4⟩:=trodAll_cons r3;obtain⟨v5,vs5,d5,ds5,p5,q5,rfl,rfl,rfl,h5,r5⟩:=trodAll_cons r4;obtain⟨v6,vs6,d6,ds6,p6,q6,rfl,rfl,rfl,h6,r6⟩:=trodAll_cons r5;obtain⟨rfl,rfl,rfl⟩:=trodAll_nil r6;obtain rfl:args=#[v0,v1,v2,v3,v4,v5,v6]:=by cases args;simp_all
 obtain⟨rfl,rfl⟩:=trodVars_none hV;have lt0:∀x∈p0,x.block<W.heap.size:=by obtain⟨m,hm⟩:=h0;exact DataW.trod_lt m _ _ _ hm
 obtain⟨n0,rfl,hat0,hwf0,hnb0,hnl0,hnp0⟩:=net_in7 (hval 0 25 v0 rfl rfl) h0;have lt1:∀x∈p1,x.block<W.heap.size:=by obtain⟨m,hm⟩:=h1;exact DataW.trod_lt m _ _ _ hm
 obtain⟨z1,rfl⟩:=okWide_int Tryz.underlying3 (hval 1 3 v1 rfl rfl);have lt2:∀x∈p2,x.block<W.heap.size:=by obtain⟨m,hm⟩:=h2;exact DataW.trod_lt m _ _ _ hm
 obtain⟨da2,dn2,dc2,dd2,rfl,hd2,hnl2,hdn2,hdz2⟩:=dos_in (hval 2 26 v2 rfl rfl) h2;have lt3:∀x∈p3,x.block<W.heap.size:=by obtain⟨m,hm⟩:=h3;exact DataW.trod_lt m _ _ _ hm
 obtain⟨ko3,kn3,kc3,bk3,bo3,bc3,rfl,hkn3,hkz3⟩:=books_in (hval 3 27 v3 rfl rfl) h3;have lt4:∀x∈p4,x.block<W.heap.size:=by obtain⟨m,hm⟩:=h4;exact DataW.trod_lt m _ _ _ hm
 obtain⟨z4,rfl⟩:=okWide_int Tryz.underlying3 (hval 4 3 v4 rfl rfl);have lt5:∀x∈p5,x.block<W.heap.size:=by obtain⟨m,hm⟩:=h5;exact DataW.trod_lt m _ _ _ hm
 obtain⟨z5,rfl⟩:=okWide_int Tryz.underlying3 (hval 5 3 v5 rfl rfl);have lt6:∀x∈p6,x.block<W.heap.size:=by obtain⟨m,hm⟩:=h6;exact DataW.trod_lt m _ _ _ hm
 obtain⟨f6,rfl,hr6,hnil6,hfd6,hfs6⟩:=a9i (hval 6 31 v6 rfl rfl) h6;have hall:=hsz;simp only[List.cons_append,DataW.weightsEach,List.all_append,Bool.and_eq_true] at hall;have hb3:=hkz3 hall.2.2.2.1;have hT:=tabs_of hL;have hG:2<=W.heap.size:=hT.lt;clear hA0 hall hsz;refine(a5L n0 z1 da2 dn2 dc2 dd2 ko3 kn3 kc3 bk3 bo3 bc3 z4 z5 f6 W ⟨hwf0,hat0,hnb0,hnl0,hnp0,hdn2,hd2,hkn3,hb3,a9j h3,hr6,hnil6,hfd6,hfs6,hT,hG⟩).mono fun e W' ⟨he,bel⟩ => ?_;subst he;exact⟨_,rfl,_,_,_,[],_,[],hW',trodAll_mk1 (shut_bool Tryz.underlying4 _),(trodAll_cons_mk (Below.trod a2y (by kernel_rfl) (of_decide_eq_true (by kernel_rfl)) h0 bel lt0) (trodAll_cons_mk (Below.trod a2y (by kernel_rfl) (of_decide_eq_true (by kernel_rfl)) h1 bel lt1) (trodAll_cons_mk (Below.trod a2y (by kernel_rfl) (of_decide_eq_true (by kernel_rfl)) h2 bel lt2) (trodAll_cons_mk (Below.trod a2y (by kernel_rfl) (of_decide_eq_true (by kernel_rfl)) h3 bel lt3) (trodAll_cons_mk (Below.trod a2y (by kernel_rfl) (of_decide_eq_true (by kernel_rfl)) h4 bel lt4) (trodAll_cons_mk (Below.trod a2y (by kernel_rfl) (of_decide_eq_true (by kernel_rfl)) h5 bel lt5) (trodAll_cons_mk (Below.trod a2y (by kernel_rfl) (of_decide_eq_true (by kernel_rfl)) h6 bel lt6) trodAll_mk0))))))),rfl,bel.frame _,fun h=>by cases h⟩
theorem laid_met (os:Os):laidMet Tryz.prog Rows.lanTellsRow.laid ((laidW (World.holding Tryz.prog os ⟨#[],#[],[]⟩)).forCall (fun _ _=>0) ⟨#[],#[.agg #[.slice none 0 0,.slice none 0 0],.int .i64 0,.slice none 0 0,.slice none 0 0,.int .i64 0,.int .i64 0,.agg #[.int .u64 0,.int .u64 0,.bool false,.int .i64 0,.bool false,.int .i64 0,.int .i64 0,.slice none 0 0]],[]⟩).memory :=
 laidMet_of_run' 8 (by kernel_rfl) (by kernel_rfl)
theorem reads (os:Os) {H:Type}(enc:TypeId×Value->H):∃places,DataW.whole enc Tryz.prog ((laidW (World.holding Tryz.prog os ⟨#[],#[],[]⟩)).forCall (fun _ _=>0) ⟨#[],#[.agg #[.slice none 0 0,.slice none 0 0],.int .i64 0,.slice none 0 0,.slice none 0 0,.int .i64 0,.int .i64 0,.agg #[.int .u64 0,.int .u64 0,.bool false,.int .i64 0,.bool false,.int .i64 0,.int .i64 0,.slice none 0 0]],[]⟩).memory Tryz.f3.params.toList Rows.lanTellsSpec.vars false #[Value.agg #[.slice none 0 0,.slice none 0 0],.int .i64 0,.slice none 0 0,.slice none 0 0,.int .i64 0,.int .i64 0,.agg #[.int .u64 0,.int .u64 0,.bool false,.int .i64 0,.bool false,.int .i64 0,.int .i64 0,.slice none 0 0]].toList 8=some ([.agg [.nil,.nil],.lit (.int .i64 0),.nil,.nil,.lit (.int .i64 0),.lit (.int .i64 0),.agg [.lit (.int .u64 0),.lit (.int .u64 0),.lit (.bool false),.lit (.int .i64 0),.lit (.bool false),.lit (.int .i64 0),.lit (.int .i64 0),.nil]],[],places) :=
 ⟨[],by kernel_rfl⟩
theorem lifted (os:Os) (started:os.Started) (H:Type) (enc:TypeId×Value->H) (F:Stop.Interp) :
  ReturnsInHanded {} Tryz.checked os 3 .any ((OpenSpec.ofChange Rows.lanTellsSpec).preRow enc Tryz.prog Tryz.f3 Rows.lanTellsRow.domain false Rows.lanTellsRow.laid) (((OpenSpec.ofChange Rows.lanTellsSpec).at F).post enc Tryz.prog Tryz.f3 false true false false):=by
 obtain⟨places,hx⟩:=reads os enc;refine returnsInHanded_of_row (C:=Tryz.checked) (s:=OpenSpec.ofChange Rows.lanTellsSpec) own started (by kernel_rfl) Tryz.func3
  (witness_row_at (enc:=enc) (C:=Tryz.checked) false (laidW (World.holding Tryz.prog os ⟨#[],#[],[]⟩)) #[.agg #[.slice none 0 0,.slice none 0 0],.int .i64 0,.slice none 0 0,.slice none 0 0,.int .i64 0,.int .i64 0,.agg #[.int .u64 0,.int .u64 0,.bool false,.int .i64 0,.bool false,.int .i64 0,.int .i64 0,.slice none 0 0]] rfl (by kernel_rfl) (by kernel_rfl) (by kernel_rfl)
   (OpenSpec.preRow_of_cond 8 hx (by kernel_rfl) (fun k hk=>by cases hk) (by kernel_rfl) (laid_met os))) ?_
 intro W base args ds gs before hval hW _ _ hsz hL _ _;exact contract H enc W base args ds gs before hval hW hsz hL
theorem said:Rows.LanTellsSaid :=
 OpenClaim.holds_of_cond 3 Tryz.f3 rfl rfl rfl rfl rfl rfl rfl ⟨rfl,rfl,rfl,rfl,rfl⟩ rfl rfl rfl rfl rfl (by kernel_rfl) Tryz.func3 (by kernel_rfl)
  (of_decide_eq_true (by kernel_rfl)) (by unfold Func.isWrapper;first | (rw[if_pos (by decide +kernel)];kernel_rfl) | (rw[if_neg (by decide +kernel)];exact⟨rfl,rfl⟩))
  (fun os started H enc _ F=>by rw[OpenClaim.pre_eq_preRow];exact lifted os started H enc F)
theorem plain (f:FuncId) (fn:Func) (hf:Tryz.pinned.checked.prog.funcNamed "hedgerow/hedgelaw10.LanTells" = some f) (hfn:Tryz.pinned.checked.prog.funcs[f]?=some fn) :
  false=Tryz.pinned.checked.prog.looks []∧∀(j:Nat) t,fn.params[j]?=some t->Tryz.pinned.checked.prog.wantsStandIn t=false:=by
 obtain rfl:f=3:=Option.some.inj ((show Tryz.prog.funcNamed "hedgerow/hedgelaw10.LanTells" = some 3 by kernel_rfl).symm.trans hf) |>.symm;obtain rfl:fn=Tryz.f3:=(Option.some.inj (Tryz.func3.symm.trans hfn)).symm;refine⟨by kernel_rfl,fun j t ht => ?_⟩;rw[Tryz.params3] at ht;have h1:Tryz.prog.wantsStandIn 25=false:=(by kernel_rfl)
 have h2:Tryz.prog.wantsStandIn 3=false:=(by kernel_rfl)
 have h3:Tryz.prog.wantsStandIn 26=false:=(by kernel_rfl)
 have h4:Tryz.prog.wantsStandIn 27=false:=(by kernel_rfl)
 have h5:Tryz.prog.wantsStandIn 31=false:=(by kernel_rfl)
 have ht2:t=25∨t=3∨t=26∨t=27∨t=3∨t=3∨t=31:=(by simpa using Array.mem_of_getElem? ht)
 rcases ht2 with rfl | rfl | rfl | rfl | rfl | rfl | rfl
 ·exact h1
 ·exact h2
 ·exact h3
 ·exact h4
 ·exact h2
 ·exact h2
 ·exact h5
theorem card:Rows.LanTellsCardSaid :=
 Claim7.holds_tied_plain_at .later [] _ _ _ _ said (fun _ h=>by cases h) (by kernel_rfl) (fun _ h=>by cases h) lanTells_row_tie rfl ⟨rfl,rfl⟩ (by kernel_rfl) rfl plain (by kernel_rfl)
end Go.Proofs.YtelebnancdjjiaaGreatDoor.lanTells
namespace Go.Proofs.YtelebnancdjjiaaGreatDoor
theorem lanTells_card:Rows.LanTellsCardSaid:=lanTells.card
#print axioms lanTells_card
end Go.Proofs.YtelebnancdjjiaaGreatDoor
