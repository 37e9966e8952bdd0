/- TNw -/
import Derived.Test.YtelebnancdjjiaaGreatDoorE09
set_option maxRecDepth 100000
set_option maxHeartbeats 40000000
namespace Go.Proofs.YtelebnancdjjiaaGreatDoor
section
open Go.Proofs.Tryz Go.RowKit
open Vc(V Of)
open Pl(En Lk Br Net)
open Tk(Md Mnd)
structure CpB (w W:World) (X B Z ty:Nat) (cb cz:Array Value):Prop where
 b:W.heap[B]?=some (.cells cb ty (0,0))
 z:W.heap[Z]?=some (.cells cz ty (0,0))
 low:Bl w W
 sz:X<=W.heap.size
theorem CpB.set {w W V:World}{X B Z ty:Nat}{cb cz:Array Value}(h:CpB w W X B Z ty cb cz) (hV:Bl W V) {g tg:Nat}{aa:Array Value}(hg:V.heap[g]?=some (.cells aa tg (0,0))) (hX:X<=g) (hw:w.heap.size<=X) (ht:ty≠tg) (o:Nat) (v:Value):CpB w (V.setCell (Pv g o) v) X B Z ty cb cz:=by
 have k1:=keep h.b hV;have k2:=keep h.z hV;have ne:∀{q cur'},V.heap[q]?=some (.cells cur' ty (0,0))->q≠g:=λhq e=>by subst e;exact ht (a1j hq hg)
 exact⟨(b0f _ _ _ _ (ne k1)).trans k1,(b0f _ _ _ _ (ne k2)).trans k2,(h.low.trans (hV.mono h.low.size)).setCell (b0p hw hX) _,b0p h.sz (b0p hV.size ((b0h 0 V).setCell (Nat.zero_le _) _).size)⟩
def RowF (W:World) (X ty n k i:Nat) (P:Nat->(Nat->Value)->Prop) (ao:OA):Prop :=
 ∃g sp c,ao=some (Pv g 0)/\X<=g/\W.heap[g]?=some (.cells (rowS sp n k c) ty (0,0))/\∀a,i<=a->a<n->P a (c a)
section
variable {W W':World}{X Y ty n k i:Nat}{P:Nat->(Nat->Value)->Prop}{ao:OA}
theorem RowF.below (h:RowF W X ty n k i P ao) (hb:Bl W W'):RowF W' X ty n k i P ao:=by
 obtain⟨g,sp,c,e,hg,hh,hp⟩:=h;exact⟨g,sp,c,e,hg,keep hh hb,hp⟩
theorem RowF.off (h:RowF W Y ty n k i P ao) {B:Nat}(hB:B<Y) (hX:X<=Y) (o:Nat) (v:Value):RowF (W.setCell (Pv B o) v) X ty n k i P ao:=by
 obtain⟨g,sp,c,e,hg,hh,hp⟩:=h;exact⟨g,sp,c,e,b0p hX hg,(b0f _ _ _ _ (show g≠B by omega)).trans hh,hp⟩
theorem own_f {v:Value}{c:Nat->Nat->Value}(h:W.ownsRow X ty k v n (a0f n k c)) (hp:∀a,a<n->P a (c a)):∃a cp,v=.slice a n cp/\(0<n->RowF W X ty n k 0 P a):=by
 rcases a1G h with⟨rfl,rfl⟩ | ⟨g,cap,sp,rfl,hg,_,_,_,hh⟩
 ·exact⟨_,_,rfl,λh=>absurd h om⟩
 ·exact⟨_,_,rfl,λ_=>⟨g,sp,c,rfl,hg,hh,λa _ ha=>hp a ha⟩⟩
theorem a7V {j:Nat}{c:Nat->Nat->Value}{v:Value}(hp:∀a,i+1<=a->a<n->P a (c a)):∀a,i+1<=a->a<n->P a (updC c i j v a):=λa h1 h2=>by
 have e:updC c i j v a=c a:=by
  funext x
  unfold updC;rw[iN (λq=>by omega)]
 rw[e];exact hp a h1 h2
end
def PBr (n:Net) (a:Nat) (f:Nat->Value):Prop:=f 1=.slice (n.bs a).pao (n.bs a).pn (n.bs a).pcap/\f 4=.slice (n.bs a).reg.ao (n.bs a).reg.n (n.bs a).reg.cap
def PTt (t:List Tr) (a:Nat) (f:Nat->Value):Prop:=f 0=.slice (tat t a).ao (tat t a).l.length (tat t a).cap
def PMm (l:List Mi) (a:Nat) (f:Nat->Value):Prop:=f 6=.slice (mat l a).po (mat l a).ports.length (mat l a).pc/\f 7=.slice (mat l a).ro (mat l a).roles.length (mat l a).rc/\f 8=.slice (mat l a).co (mat l a).calm.length (mat l a).cc
def CpN (w W:World) (X:Nat) (n:Net) (B Z:Nat) (ba:OA) (bc:Nat) (la:OA) (lc i:Nat):Prop :=
 CpB w W X B Z 25 #[.slice ba n.K bc,.slice la n.L lc] #[sN,sN]/\(0<n.K->RowF W X 65 n.K 5 i (PBr n) ba)
theorem tcopnet0 (n:Net) (w:World) (hK:n.K<=12) (hL:n.L<=40) (ad:∀i,i<n.K->(n.bs i).pn<=100000/\(n.bs i).reg.n<=100000) (af:n.at' w) :
  Calls prog 103 #[n.val] w λe w'=>∃ba bc la lc,e=.returned (.agg #[.slice ba n.K bc,.slice la n.L lc])/\Bl w w':=by
 obtain⟨X,HX⟩:=nm ((w.alloc (.cells #[.slice n.bao n.K n.bcap,.slice n.lao n.L n.lcap] 25)).alloc (.cells #[sN,sN] 25))
 have ab:Bl w X:=(by rw[HX.o];exact bA2 _ _ _)
 have ac:X.heap[w.heap.size]?=some (.cells #[.slice n.bao n.K n.bcap,.slice n.lao n.L n.lcap] 25):=(by rw[HX.o];exact b0d _ _ _)
 have ag:X.heap[w.heap.size+1]?=some (.cells #[sN,sN] 25):=(by rw[HX.o];exact b0c _ _ _)
 have ax:X.heap.size=w.heap.size+2:=(by rw[HX.o];simp only[World.alloc,Array.size_push])
 obtain⟨B,HB⟩:=nm w.heap.size
 obtain⟨Z,HZ⟩:=nm (w.heap.size+1)
 rw[<-HB.o] at ac;rw[<-HZ.o] at ag;obtain⟨c0,c1⟩:=tC2 ac;have aj:Hid (B<X.heap.size/\w.heap.size<=B/\w.heap.size<=Z/\Z≠B):=by
  have:=HB.o;have:=HZ.o;exact⟨om,om,om,om⟩
 have aa:Hid (∀V,Bl X V->V.cell? (Pv B 0)=some (.slice n.bao n.K n.bcap)/\V.cell? (Pv B 1)=some (.slice n.lao n.L n.lcap)/\V.frozen? (Pv B 0)=false/\V.frozen? (Pv B 1)=false):=λV hV=>by
  have k0:=keep ac hV;exact⟨(tC2 k0).1,(tC2 k0).2,b0a _ _ _ _ _ k0,b0a _ _ _ _ _ k0⟩
 have al:Hid (∀V,Bl X V->Calls prog 155 #[.slice n.bao n.K n.bcap] V λe w'=>∃a cp,e=.returned (.slice a n.K cp)/\Hid (Bl X w'/\(0<n.K->RowF w' X.heap.size 65 n.K 5 0 (PBr n) a))):=λV hV=>by
  refine(clone_br n.bao n.K n.bcap (λi=>brC (n.bs i)) V om (λi j=>a8y _ _) (CRow.below (CRow.below af.brs ab) hV)).mono ?_;rintro e w' ⟨v,rfl,h1,h2⟩;obtain⟨a,cp,rfl,h3⟩:=own_f (a0v h1 hV.size) (P:=PBr n) (λ_ _=>⟨rfl,rfl⟩);exact⟨a,cp,rfl,hV.trans (h2.mono hV.size),h3⟩
 have ak:Hid (∀V,Bl X V->Calls prog 156 #[.slice n.lao n.L n.lcap] V λe w'=>∃a cp,e=.returned (.slice a n.L cp)/\Hid (Bl V w'/\Bl X w')):=λV hV=>by
  refine(clone_lk n.lao n.L n.lcap (λi=>lkC (n.ls i)) V om (λi j=>a5S _ _) (CRow.below (CRow.below af.lks ab) hV)).mono ?_;rintro e w' ⟨v,rfl,h1,h2⟩;obtain⟨a,cp,rfl⟩:=a2N h1;exact⟨a,cp,rfl,h2,hV.trans (h2.mono hV.size)⟩
 have ae:Hid (∀m,Bl X (X.drewN m)):=λm=>a0d (b0h _ _) m;have ap:Hid (∀V a1 p1 a2 p2,Bl X V->(0<n.K->RowF V X.heap.size 65 n.K 5 0 (PBr n) a1)->CpN w ((V.setCell (Pv B 0) (.slice a1 n.K p1)).setCell (Pv B 1) (.slice a2 n.L p2)) X.heap.size n B Z a1 p1 a2 p2 0):=λV a1 p1 a2 p2 hV hR=>by
  obtain⟨h1,h2,_,h4⟩:=aj.o;have k1:=b0e _ _ 0 _ _ (Value.slice a1 n.K p1) (keep ac hV);refine⟨⟨by rw[b0e _ _ 1 _ _ _ k1];rfl,(b0f _ _ _ _ h4).trans ((b0f _ _ _ _ h4).trans (keep ag hV)),((ab.trans (hV.mono ab.size)).setCell h2 _).setCell h2 _,?_⟩,λhp=>((hR hp).off h1 (b0g _) _ _).off h1 (b0g _) _ _⟩;exact b0p hV.size (((b0h 0 V).setCell (Nat.zero_le _) _).setCell (Nat.zero_le _) _).size
 have ah:Hid (∀i,i<n.K->(n.bs i).pn<=100000/\(n.bs i).reg.n<=100000):=ad;have aq:Hid (n.at' w):=af;have am:w.heap.size<=X.heap.size:=ab.size;clear af ad ac ag ax ab;unfold Net.val;go_enter func103,ntmps103;(go_wp2_with fail);rw[<-HX.o,<-HZ.o,<-HB.o];go_cut [3] (λ_ wx=>∃ba bc la lc,Hid (CpN w wx X.heap.size n B Z ba bc la lc 0))
 case first =>
  go_region_with (first | (go_at_call 155;refine(al.o _ (by first | exact ae.o _ | exact b0i (b0h _ _))).mono ?_;rintro e w1 ⟨a1,p1,rfl,H1⟩;obtain⟨y1,y2,y3,y4⟩:=aa.o w1 H1.o.1) | (go_at_call 156;refine(ak.o _ H1.o.1).mono ?_;rintro e w2 ⟨a2,p2,rfl,H2⟩;obtain⟨z1,z2,z3,z4⟩:=aa.o w2 H2.o.2))
  (all_goals go_wp2_with fail);all_goals go_meet
  all_goals exact⟨a1,p1,a2,p2,ap.o _ a1 p1 a2 p2 H2.o.2 (λh=>(H1.o.2 h).below H2.o.1)⟩
 case rest =>
 obtain⟨ba,bc,la,lc,HC⟩:=hcut;clear aa al ak ap c0 c1;obtain⟨c0,c1⟩:=tC2 HC.o.1.b;(go_wp2_with fail);clear c0 c1;go_loopw [16] (λz wr=>∃i:Nat,i<=n.K/\z=Iv i/\Hid (CpN w wr X.heap.size n B Z ba bc la lc i)) (λz _=>n.K-(intOf z).toNat)
 case atStart=>exact⟨0,om,rfl,HC⟩
 case round =>
  obtain⟨i,hi,rfl,hY⟩:=hrel;clear HC;by_cases hlt:i<n.K
  ·obtain⟨hC,ar⟩:=hY.o;obtain⟨g,sp,c,rfl,hg,hh,hp⟩:=ar om;obtain⟨c0,c1⟩:=tC2 hC.b;obtain⟨o1,o2⟩:=hp i (b0g _) hlt;have aa:Hid (∀V,Bl wr V->V.cell? (Pv g (i*5+1))=some (.slice (n.bs i).pao (n.bs i).pn (n.bs i).pcap)/\V.cell? (Pv g (i*5+4))=some (.slice (n.bs i).reg.ao (n.bs i).reg.n (n.bs i).reg.cap)/\V.frozen? (Pv g (i*5+1))=false/\V.frozen? (Pv g (i*5+4))=false):=λV hV=>by
    have k0:=keep hh hV;refine⟨?_,?_,b0a _ _ _ _ _ k0,b0a _ _ _ _ _ k0⟩
    ·rw[<-o1];exact a1m k0 hlt (show 1<5 by omega)
    ·rw[<-o2];exact a1m k0 hlt (show 4<5 by omega)
   have ai:=aq.o.each i hlt;have ay:Hid (∀V,Bl wr V->Calls prog 157 #[.slice (n.bs i).pao (n.bs i).pn (n.bs i).pcap] V λe w'=>∃a cp,e=.returned (.slice a (n.bs i).pn cp)/\Hid (Bl wr w')):=λV hV=>by
    refine(a5o (n.bs i).pao (n.bs i).pn (n.bs i).pcap (λj _=>Iv ((n.bs i).pv j)) V (ah.o i hlt).1 (λ_ _=>rfl) (CRow.below (CRow.below ai.1 hC.low) hV)).mono ?_;rintro e w' ⟨v,rfl,h1,h2⟩;obtain⟨a,cp,rfl⟩:=a2N h1;exact⟨a,cp,rfl,hV.trans (h2.mono hV.size)⟩
   have av:Hid (∀V,Bl wr V->Calls prog 158 #[.slice (n.bs i).reg.ao (n.bs i).reg.n (n.bs i).reg.cap] V λe w'=>∃a cp,e=.returned (.slice a (n.bs i).reg.n cp)/\Hid (Bl wr w')):=λV hV=>by
    refine(a8O (n.bs i).reg.ao (n.bs i).reg.n (n.bs i).reg.cap (λj=>wyC ((n.bs i).reg.vs j) ((n.bs i).reg.ts j)) V (ah.o i hlt).2 (λ_ _=>wyC_one _ _ _) (CRow.below (CRow.below (way_crow ai.2.1) hC.low) hV)).mono ?_;rintro e w' ⟨v,rfl,h1,h2⟩;obtain⟨a,cp,rfl⟩:=a2N h1;exact⟨a,cp,rfl,hV.trans (h2.mono hV.size)⟩
   have aw:Hid (∀V v1 v2,Bl wr V->CpN w ((V.setCell (Pv g (i*5+1)) v1).setCell (Pv g (i*5+4)) v2) X.heap.size n B Z (some (Pv g 0)) bc la lc (i+1)):=λV v1 v2 hV=>by
    have s1:=a1D (keep hh hV) hlt (show 1<5 by omega) v1;have s2:=a1D s1 hlt (show 4<5 by omega) v2;exact⟨(hC.set hV (keep hh hV) hg am dd _ _).set (b0h _ _) s1 hg am dd _ _,λ_=>⟨g,sp,_,rfl,hg,s2,a7V (a7V (λa h=>hp a om))⟩⟩
   have ae:Hid (∀m,Bl wr (wr.drewN m)):=λm=>a0d (b0h _ _) m;have au:Hid (Bl wr wr.drew):=b0i (b0h _ _);obtain⟨x1,x2,x3,x4⟩:=aa.o wr (b0h _ _);have ii:(0:Int)<=(i:Int):=om
   have ni:(i:Int)<(n.K:Int):=om
   clear hY ar hC hh hp ai o1 o2 ah aq hg;generalize (n.bs i).pao=pao at *;generalize (n.bs i).pcap=pcap at *;generalize (n.bs i).reg.ao=wao at *;generalize (n.bs i).reg.cap=wcap at *;(go_wp2_with fail);go_region_with (first | (go_at_call 157;refine(ay.o _ (by first | exact ae.o _ | exact au.o | exact H2.o)).mono ?_;rintro e w1 ⟨a1,p1,rfl,H1⟩;obtain⟨y1,y2,y3,y4⟩:=aa.o w1 H1.o) | (go_at_call 158;refine(av.o _ (by first | exact H1.o | exact ae.o _ | exact au.o)).mono ?_;rintro e w2 ⟨a2,p2,rfl,H2⟩;obtain⟨z1,z2,z3,z4⟩:=aa.o w2 H2.o))
   (all_goals go_wp2_with fail);all_goals exact⟨⟨i+1,om,gn,aw.o _ _ _ H2.o⟩,io⟩
  ·obtain rfl:i=n.K:=om
   have hC:=hY.o.1;obtain⟨c0,c1⟩:=tC2 hC.b;obtain⟨d0,d1⟩:=tC2 hC.z;have g0:wr.frozen? (Pv Z 0)=false:=b0a _ _ _ _ _ hC.z;have g1:wr.frozen? (Pv Z 1)=false:=b0a _ _ _ _ _ hC.z;have an:Hid (((wr.setCell (Pv Z 0) (.slice ba n.K bc)).setCell (Pv Z 1) (.slice la n.L lc)).heap[Z]?=some (.cells #[.slice ba n.K bc,.slice la n.L lc] 25)/\Bl w ((wr.setCell (Pv Z 0) (.slice ba n.K bc)).setCell (Pv Z 1) (.slice la n.L lc))):=by
    have k1:=b0e _ _ 0 _ _ (Value.slice ba n.K bc) hC.z;exact⟨by rw[b0e _ _ 1 _ _ _ k1];rfl,(hC.low.setCell aj.o.2.2.1 _).setCell aj.o.2.2.1 _⟩
   clear hY hC;(go_wp2_with fail);exact b0b (v:=.agg #[.slice ba n.K bc,.slice la n.L lc]) (a0b (p:=2) (ty:=25) results103 _ _ Z 25 #[.slice ba n.K bc,.slice la n.L lc] (0,0) _ rfl an.o.1 underlying25 rfl kr) rfl ⟨ba,bc,la,lc,rfl,an.o.2⟩
def CpT (w W:World) (X:Nat) (t:List Tr) (B Z:Nat) (oa:OA) (oc k:Nat):Prop :=
 CpB w W X B Z 34 #[.slice oa t.length oc] #[sN]/\(0<t.length->RowF W X 112 t.length 1 k (PTt t) oa)
def CpM (w W:World) (X:Nat) (T:Nat) (B Z go oc:Nat) (cur:Array Value) (l:List Mi) (ma:OA) (i:Nat):Prop :=
 CpB w W X B Z 34 #[.slice (some (Pv go 0)) T oc] #[sN]/\W.heap[go]?=some (.cells cur 112)/\(0<l.length->RowF W X 117 l.length 9 i (PMm l) ma)
theorem CpM.cell {w W:World}{X T B Z go oc:Nat}{sp:Array Value}{c:Nat->Nat->Value}{k:Nat}{v:Value}{l:List Mi}{ma:OA}{i:Nat}(h:CpM w W X T B Z go oc (rowS sp T 1 (updC c k 0 v)) l ma i) (hk:k<T):W.cell? (Pv go k)=some v:=by
 have k1:=a1m h.2.1 hk (show 0<1 by omega);rw[show k*1+0=k by omega,show updC c k 0 v k 0=v from iP ⟨rfl,rfl⟩] at k1;exact k1
theorem a9o (t:List Tr) (oao:OA) (ocap:Nat) (w:World) (hT:t.length<=100000) (al:∀k,k<t.length->(tat t k).l.length<=100000/\∀i,i<(tat t k).l.length->(mat (tat t k).l i).ports.length<=100000/\(mat (tat t k).l i).roles.length<=100000/\(mat (tat t k).l i).calm.length<=100000) (aw:TrRow w oao ocap t) :
  Calls prog 104 #[.agg #[.slice oao t.length ocap]] w λe w'=>∃oa oc,e=.returned (.agg #[.slice oa t.length oc])/\Bl w w':=by
 obtain⟨X,HX⟩:=nm ((w.alloc (.cells #[.slice oao t.length ocap] 34)).alloc (.cells #[sN] 34))
 have ae:Bl w X:=(by rw[HX.o];exact bA2 _ _ _)
 have ai:X.heap[w.heap.size]?=some (.cells #[.slice oao t.length ocap] 34):=(by rw[HX.o];exact b0d _ _ _)
 have ar:X.heap[w.heap.size+1]?=some (.cells #[sN] 34):=(by rw[HX.o];exact b0c _ _ _)
 have aR:X.heap.size=w.heap.size+2:=(by rw[HX.o];simp only[World.alloc,Array.size_push])
 obtain⟨B,HB⟩:=nm w.heap.size
 obtain⟨Z,HZ⟩:=nm (w.heap.size+1)
 rw[<-HB.o] at ai;rw[<-HZ.o] at ar;have ay:Hid (B<X.heap.size/\w.heap.size<=B/\w.heap.size<=Z/\Z≠B):=by
  have:=HB.o;have:=HZ.o;exact⟨om,om,om,om⟩
 have c0:=a0x ai;have f0:X.frozen? (Pv B 0)=false:=b0a _ _ _ _ _ ai;have aD:Hid (Calls prog 159 #[.slice oao t.length ocap] X λe w'=>∃a cp,e=.returned (.slice a t.length cp)/\w'.cell? (Pv B 0)=some (.slice oao t.length ocap)/\w'.frozen? (Pv B 0)=false/\Hid (CpT w (w'.setCell (Pv B 0) (.slice a t.length cp)) X.heap.size t B Z a cp 0)):=by
  refine(clone_ms oao t.length ocap (λk _=>.slice (tat t k).ao (tat t k).l.length (tat t k).cap) X hT (λ_ _=>rfl) (CRow.below aw.row ae)).mono ?_;rintro e w' ⟨v,rfl,h1,h2⟩;obtain⟨a,cp,rfl,h3⟩:=own_f h1 (P:=PTt t) (λ_ _=>rfl);have k0:=keep ai h2;obtain⟨b1,b2,_,b4⟩:=ay.o;refine⟨a,cp,rfl,a0x k0,b0a _ _ _ _ _ k0,⟨by rw[b0e _ _ 0 _ _ _ k0];rfl,(b0f _ _ _ _ b4).trans (keep ar h2),(ae.trans (h2.mono ae.size)).setCell b2 _,?_⟩,λhp=>(h3 hp).off b1 (b0g _) _ _⟩;exact b0p h2.size ((b0h 0 w').setCell (Nat.zero_le _) _).size
 have aB:Hid (∀k,k<t.length->(tat t k).l.length<=100000/\∀i,i<(tat t k).l.length->(mat (tat t k).l i).ports.length<=100000/\(mat (tat t k).l i).roles.length<=100000/\(mat (tat t k).l i).calm.length<=100000):=al;have aI:Hid (TrRow w oao ocap t):=aw;have am:w.heap.size<=X.heap.size:=ae.size;clear aw al ai ar aR ae;go_enter func104,ntmps104;(go_wp2_with fail);rw[<-HX.o,<-HZ.o,<-HB.o];refine aD.o.mono ?_;rintro e w1 ⟨oa,oc,rfl,y0,y1,H1⟩;clear aD c0 f0;have c2:=a0x H1.o.1.b;(go_wp2_with fail);clear y0 y1 c2;go_loopw [13] (λz wr=>∃k:Nat,k<=t.length/\z=Iv k/\Hid (CpT w wr X.heap.size t B Z oa oc k)) (λz _=>t.length-(intOf z).toNat)
 case atStart=>exact⟨0,om,rfl,H1⟩
 case round =>
  obtain⟨k,hk,rfl,hY⟩:=hrel;clear H1;by_cases hlt:k<t.length
  ·obtain⟨hC,ak⟩:=hY.o;obtain⟨go,sp,c,rfl,au,ah,hp⟩:=ak om;have c0:=a0x hC.b;have o1:c k 0=.slice (tat t k).ao (tat t k).l.length (tat t k).cap:=hp k (b0g _) hlt;have aj:=aI.o.each k hlt;obtain⟨l0,lI⟩:=aB.o k hlt;have av:Hid (X.heap.size<=go/\∀a,k+1<=a->a<t.length->PTt t a (c a)):=⟨au,λa h=>hp a om⟩
   obtain⟨tk,aL⟩:=nm (tat t k)
   rw[<-aL.o] at o1 aj l0 lI;obtain⟨an,ac,l⟩:=tk;simp only at o1 aj l0 lI;have aG:Hid (MiRow w an ac l):=aj;have az:Hid (∀i,i<l.length->(mat l i).ports.length<=100000/\(mat l i).roles.length<=100000/\(mat l i).calm.length<=100000):=lI;have ab:Hid (∀V,Bl wr V->V.cell? (Pv B 0)=some (.slice (some (Pv go 0)) t.length oc)/\V.cell? (Pv go k)=some (.slice an l.length ac)/\V.frozen? (Pv go k)=false):=λV hV=>by
    have k0:=keep ah hV;have k1:=a1m k0 hlt (show 0<1 by omega);rw[show k*1+0=k by omega,o1] at k1;exact⟨a0x (keep hC.b hV),k1,b0a _ _ _ _ _ k0⟩
   have aC:Hid (∀V,Bl wr V->Calls prog 160 #[.slice an l.length ac] V λe w'=>∃a cp,e=.returned (.slice a l.length cp)/\Hid (Bl wr w')/\Hid (CpM w (w'.setCell (Pv go k) (.slice a l.length cp)) X.heap.size t.length B Z go oc (rowS sp t.length 1 (updC c k 0 (.slice a l.length cp))) l a 0)):=λV hV=>by
    refine(clone_mn an l.length ac (λi=>mdC (mat l i).md (.slice (mat l i).po (mat l i).ports.length (mat l i).pc) (.slice (mat l i).ro (mat l i).roles.length (mat l i).rc) (.slice (mat l i).co (mat l i).calm.length (mat l i).cc)) V l0 (λi j=>a8J _ rfl rfl rfl _) (CRow.below (CRow.below aj.row hC.low) hV)).mono ?_;rintro e w' ⟨v,rfl,h1,h2⟩;obtain⟨a,cp,rfl,h3⟩:=own_f h1 (P:=PMm l) (λ_ _=>⟨rfl,rfl,rfl⟩);have h4:Bl wr w':=hV.trans (h2.mono hV.size);have aT:go<V.heap.size:=(gSm.1 (keep ah hV)).1;have s1:=a1D (keep ah h4) hlt (show 0<1 by omega) (Value.slice a l.length cp);rw[show k*1+0=k by omega] at s1;exact⟨a,cp,rfl,h4,hC.set h4 (keep ah h4) au am dd _ _,s1,λhp=>(h3 hp).off aT (b0p hC.sz hV.size) _ _⟩
   have aF:Hid (∀m,Bl wr (wr.drewN m)):=λm=>a0d (b0h _ _) m;have aq:Hid (Bl wr wr.drew):=b0i (b0h _ _);obtain⟨x1,x2,x3⟩:=ab.o wr (b0h _ _);have ik:(0:Int)<=(k:Int):=om
   have nk:(k:Int)<(t.length:Int):=om
   clear hY ak hC ah hp o1 aj lI c0 au;(go_wp2_with fail);go_cut [3] (λs3 wx=>s3=Iv k/\∃ma mc,Hid (CpM w wx X.heap.size t.length B Z go oc (rowS sp t.length 1 (updC c k 0 (.slice ma l.length mc))) l ma 0))
   case first =>
    go_region_with (go_at_call 160;refine(aC.o _ (by first | exact aF.o _ | exact aq.o)).mono ?_;rintro e w2 ⟨a1,p1,rfl,HQ,H2⟩;obtain⟨y1,y2,y3⟩:=ab.o w2 HQ.o)
    (all_goals go_wp2_with fail);all_goals go_meet
    all_goals exact⟨rfl,a1,p1,H2⟩
   case rest =>
   obtain⟨rfl,ma,mc,HC⟩:=hcut;clear ab aC aF aq x1 x2 x3;have c0:=a0x HC.o.1.b;have c1:=HC.o.cell hlt;(go_wp2_with fail);clear c0 c1;go_loopw [32] (λz wr=>∃i:Nat,i<=l.length/\z=Iv i/\Hid (CpM w wr X.heap.size t.length B Z go oc (rowS sp t.length 1 (updC c k 0 (.slice ma l.length mc))) l ma i)) (λz _=>l.length-(intOf z).toNat)
   case atStart=>exact⟨0,om,rfl,HC⟩
   case round =>
    obtain⟨i,hi,rfl,hZ⟩:=hrel;clear HC;by_cases hli:i<l.length
    ·obtain⟨hC,ad,ak⟩:=hZ.o;have c0:=a0x hC.b;have c1:=hZ.o.cell hlt;obtain⟨gm,aK,c2,rfl,ag,af,ax⟩:=ak om;obtain⟨q6,q7,q8⟩:=ax i (b0g _) hli;have hm:=aG.o.each i hli;obtain⟨l1,l2,l3⟩:=az.o i hli;obtain⟨x,aH⟩:=nm (mat l i)
     rw[<-aH.o] at q6 q7 q8 hm l1 l2 l3;obtain⟨i1,i2,i3,_⟩:=hm;have ab:Hid (∀V,Bl wr V->(V.cell? (Pv gm (i*9+6))=some (.slice x.po x.ports.length x.pc)/\V.cell? (Pv gm (i*9+7))=some (.slice x.ro x.roles.length x.rc)/\V.cell? (Pv gm (i*9+8))=some (.slice x.co x.calm.length x.cc))/\V.frozen? (Pv gm (i*9+6))=false/\V.frozen? (Pv gm (i*9+7))=false/\V.frozen? (Pv gm (i*9+8))=false):=λV hV=>by
      have k0:=keep af hV;have fz:∀o,V.frozen? (Pv gm o)=false:=λo=>b0a _ _ _ _ _ k0;refine⟨⟨?_,?_,?_⟩,fz _,fz _,fz _⟩
      ·rw[<-q6];exact a1m k0 hli (show 6<9 by omega)
      ·rw[<-q7];exact a1m k0 hli (show 7<9 by omega)
      ·rw[<-q8];exact a1m k0 hli (show 8<9 by omega)
     have ap:Hid (∀{ao:OA}{cap:Nat}{y:List Int},y.length<=100000->ILs w ao cap y->Hid (∀V,Bl wr V->Calls prog 157 #[.slice ao y.length cap] V λe w'=>∃a cp,e=.returned (.slice a y.length cp)/\Hid (Bl wr w'))):=λ{ao cap y} hy hr V hV=>by
      refine(a5o ao y.length cap (λj _=>Iv (y.getD j 0)) V hy (λ_ _=>rfl) (CRow.below (CRow.below hr hC.low) hV)).mono ?_;rintro e w' ⟨v,rfl,h1,h2⟩;obtain⟨a,cp,rfl⟩:=a2N h1;exact⟨a,cp,rfl,hV.trans (h2.mono hV.size)⟩
     have aN:Hid (∀V v1 v2 v3,Bl wr V->CpM w (((V.setCell (Pv gm (i*9+6)) v1).setCell (Pv gm (i*9+7)) v2).setCell (Pv gm (i*9+8)) v3) X.heap.size t.length B Z go oc (rowS sp t.length 1 (updC c k 0 (.slice (some (Pv gm 0)) l.length mc))) l (some (Pv gm 0)) (i+1)):=λV v1 v2 v3 hV=>by
      have s1:=a1D (keep af hV) hli (show 6<9 by omega) v1;have s2:=a1D s1 hli (show 7<9 by omega) v2;have s3:=a1D s2 hli (show 8<9 by omega) v3;have ne:go≠gm:=λe=>by subst e;exact absurd (a1j ad af) dd
      exact⟨((hC.set hV (keep af hV) ag am dd _ _).set (b0h _ _) s1 ag am dd _ _).set (b0h _ _) s2 ag am dd _ _,(b0f _ _ _ _ ne).trans ((b0f _ _ _ _ ne).trans ((b0f _ _ _ _ ne).trans (keep ad hV))),λ_=>⟨gm,aK,_,rfl,ag,s3,a7V (a7V (a7V (λa h=>ax a om)))⟩⟩
     have aJ:=ap.o (ao:=x.po) (cap:=x.pc) (y:=x.ports) l1 i1;have aQ:=ap.o (ao:=x.ro) (cap:=x.rc) (y:=x.roles) l2 i2;have aO:=ap.o (ao:=x.co) (cap:=x.cc) (y:=x.calm) l3 i3;clear ap i1 i2 i3 l1 l2 l3;generalize x.po=pa at *;generalize x.ro=ra at *;generalize x.co=ca at *;generalize x.ports.length=n0 at *;generalize x.roles.length=n1 at *;generalize x.calm.length=n2 at *;generalize x.pc=pc at *;generalize x.rc=rc at *;generalize x.cc=cc at *;have aq:Hid (Bl wr wr.drew):=b0i (b0h _ _);obtain⟨⟨x1,x2,x3⟩,_⟩:=ab.o wr (b0h _ _);have ik:(0:Int)<=(k:Int):=om
     have nk:(k:Int)<(t.length:Int):=om
     have ii:(0:Int)<=(i:Int):=om
     have ni:(i:Int)<(l.length:Int):=om
     have aM:Hid (i<l.length):=hli;clear hZ hC ad ak af ax q6 q7 q8 ag aG az aI aB aH av HX HB HZ ay;(go_wp2_with fail);clear c0 c1 ik nk ii ni;refine a2p (z:=20) (C:=λW=>W.cell? (Pv gm (i*9+6))=some (.slice pa n0 pc)/\W.cell? (Pv gm (i*9+7))=some (.slice ra n1 rc)/\W.cell? (Pv gm (i*9+8))=some (.slice ca n2 cc)) kr ⟨x1,x2,x3⟩ (λaa => ?_);refine zTk 0 42 aa ?_;simp only[aP];refine zTk 1 43 aa ?_;simp only[aP];refine zTk 2 44 aa ?_;simp only[aP];refine zTk 3 45 aa ?_;simp only[aP];refine zTk 4 46 aa ?_;simp only[aP];refine zTk 5 47 aa ?_;simp only[aP];refine zLd 6 48 aa ?_;simp only[aP];refine zTk 8 50 aa ?_;simp only[aP];refine zTk 9 51 aa ?_;simp only[aP];refine zTk 10 52 aa ?_;simp only[aP];refine zLd 11 53 aa ?_;simp only[aP];refine zTk 13 55 aa ?_;simp only[aP];refine zTk 14 56 aa ?_;simp only[aP];refine zTk 15 57 aa ?_;simp only[aP];refine zLd 16 58 aa ?_;simp only[aP];refine a2b (i:=7) kr rfl (λK hK => ?_);go_simp;(with_reducible refine(aJ.o _ aq.o).mono ?_)
     rintro e w3 ⟨a1,p1,rfl,H1⟩;refine hK.out _ _ (Or.inr (ab.o w3 H1.o).1) (λaa => ?_);clear hK K;refine a2b (i:=12) kr rfl (λK hK => ?_);go_simp;(with_reducible refine(aQ.o _ H1.o).mono ?_)
     rintro e w4 ⟨a2,p2,rfl,H2⟩;refine hK.out _ _ (Or.inr (ab.o w4 H2.o).1) (λaa => ?_);clear hK K;refine a2b (i:=17) kr rfl (λK hK => ?_);go_simp;(with_reducible refine(aO.o _ H2.o).mono ?_)
     rintro e w5 ⟨a3,p3,rfl,H3⟩;refine hK.out _ _ (Or.inr (ab.o w5 H3.o).1) (λaa => ?_);clear hK K;refine zTk 18 60 aa ?_;simp only[aP];refine zTk 19 61 aa ?_;simp only[aP];refine a2b (i:=20) kr rfl (λK hK => ?_);obtain⟨⟨u1,u2,u3⟩,u4,u5,u6⟩:=ab.o w5 H3.o;go_simp;refine hK.out _ _ (Or.inl kr) (λaa => ?_);clear hK K;refine zTk 21 62 aa ?_;simp only[aP];refine zTk 22 63 aa ?_;simp only[aP];refine a2b (i:=23) kr rfl (λK hK => ?_);go_simp;refine hK.out _ _ (Or.inl kr) (λaa => ?_);clear hK K;refine zTk 24 64 aa ?_;simp only[aP];refine zTk 25 65 aa ?_;simp only[aP];refine a2b (i:=26) kr rfl (λK hK => ?_);go_simp;refine hK.out _ _ (Or.inl kr) (λaa => ?_);clear hK K;refine a5q kr ?_ _;(go_wp2_with fail);have aU:=aM.o;exact⟨⟨i+1,om,gn,aN.o _ _ _ _ H3.o⟩,io⟩
    ·obtain rfl:i=l.length:=om
     have HN:Hid (CpT w wr X.heap.size t B Z (some (Pv go 0)) oc (k+1)):=⟨hZ.o.1,λ_=>⟨go,sp,_,rfl,av.o.1,hZ.o.2.1,a7V av.o.2⟩⟩
     clear hZ;(go_wp2_with fail);exact⟨⟨k+1,om,gn,HN⟩,io⟩
  ·obtain rfl:k=t.length:=om
   have hC:=hY.o.1;have c0:=a0x hC.b;have d0:=a0x hC.z;have g0:wr.frozen? (Pv Z 0)=false:=b0a _ _ _ _ _ hC.z;have aE:Hid ((wr.setCell (Pv Z 0) (.slice oa t.length oc)).heap[Z]?=some (.cells #[.slice oa t.length oc] 34)/\Bl w (wr.setCell (Pv Z 0) (.slice oa t.length oc))):=⟨by rw[b0e _ _ 0 _ _ _ hC.z];rfl,hC.low.setCell ay.o.2.2.1 _⟩
   clear hY hC;(go_wp2_with fail);exact b0b (v:=.agg #[.slice oa t.length oc]) (a0b (p:=2) (ty:=34) results104 _ _ Z 34 #[.slice oa t.length oc] (0,0) _ rfl aE.o.1 underlying34 rfl kr) rfl ⟨oa,oc,rfl,aE.o.2⟩
namespace Es
def Ro (sp:Array Value) (g n:Nat) (u w:World):Prop:=(∃f,w.heap[g]?=some (.cells (rowE sp n f) 221))/\But g u w
section
variable {sp:Array Value}{u w:World}{g n:Nat}{f:Nat->En}
theorem ro_swap (h:w.heap[g]?=some (.cells (rowE sp n f) 221)) (hb:But g u w) {i j:Nat}(hi:i<n) (hj:j<n) (aa:i≠j) :
  Ro sp g n u ((((((((((w.setCell (Pv g (i*5)) (Iv (f j).port)).setCell (Pv g (i*5+1)) (Iv (f j).cost)).setCell (Pv g (i*5+2)) (Iv (f j).other)).setCell (Pv g (i*5+3)) (Iv (f j).oport)).setCell (Pv g (i*5+4)) (.bool (f j).live)).setCell (Pv g (j*5)) (Iv (f i).port)).setCell (Pv g (j*5+1)) (Iv (f i).cost)).setCell (Pv g (j*5+2)) (Iv (f i).other)).setCell (Pv g (j*5+3)) (Iv (f i).oport)).setCell (Pv g (j*5+4)) (.bool (f i).live)).drew:=⟨⟨_,a6y (rowE_swap h hi hj aa)⟩,(but_set5 (but_set5 hb)).drew⟩
theorem ro_low (h:Ro sp g n u w) (W:World) (hW:Bl w W):Ro sp g n u W:=by
 obtain⟨⟨f,hf⟩,hb⟩:=h;exact⟨⟨f,keep hf hW⟩,hb.low hW⟩
end
theorem two_ec {sp:Array Value}{X:World}{g n:Nat}{G:Nat->En}{ty:TypeId}(hG:X.heap[g]?=some (.cells (rowE sp n G) ty (0,0))) {i j:Nat}(hi:i<n) (hj:j<n) (W:World) (hW:Bl X W) :
  (W.cell? (Pv g (i*5))=some (Iv (G i).port)/\W.cell? (Pv g (i*5+1))=some (Iv (G i).cost)/\W.cell? (Pv g (i*5+2))=some (Iv (G i).other)/\W.cell? (Pv g (i*5+3))=some (Iv (G i).oport)/\W.cell? (Pv g (i*5+4))=some (.bool (G i).live))/\W.cell? (Pv g (j*5))=some (Iv (G j).port)/\W.cell? (Pv g (j*5+1))=some (Iv (G j).cost)/\W.cell? (Pv g (j*5+2))=some (Iv (G j).other)/\W.cell? (Pv g (j*5+3))=some (Iv (G j).oport)/\W.cell? (Pv g (j*5+4))=some (.bool (G j).live) :=
 ⟨rowE_cells (keep hG hW) hi,rowE_cells (keep hG hW) hj⟩
theorem wcmp (x y:En) (X W:World) (hW:Bl X W) :
  Calls prog 153 #[.agg #[Iv x.port,Iv x.cost,Iv x.other,Iv x.oport,.bool x.live],.agg #[Iv y.port,Iv y.cost,Iv y.other,Iv y.oport,.bool y.live]] W λe w'=>e=.returned (Iv (Ec.cmp x y))/\Hid (Bl X w') :=
 (ecmp_any x y W).mono (λ_ _ h=>⟨h.1,hW.trans (h.2.mono hW.size)⟩)
theorem wswap (sp:Array Value) (g n cap a b c:Nat) (cv:Value) (u w:World) (hA:Ro sp g n u w) (hn:n<=4398046511104) (h1:a+c<=b) (h2:b+c<=n) :
  Calls prog 219 #[.slice (some (Pv g 0)) n cap,Iv a,Iv b,Iv c,cv] w λe w'=>e=.returned (.tuple #[])/\Ro sp g n u w':=by
 have HA:Hid (Ro sp g n u w):=hA;clear hA;go_enter func219,ntmps219;(go_wp2_with fail);go_loopw [10] (λi wr=>∃k:Nat,k<=c/\i=Iv k/\Hid (Ro sp g n u wr)) (λi _=>c-(intOf i).toNat)
 case atStart=>exact⟨0,om,rfl,HA⟩
 case round =>
  obtain⟨k,hk,rfl,hX⟩:=hrel;by_cases hlt:k<c
  ·obtain⟨⟨F,hF⟩,hB⟩:=hX.o;obtain⟨i,hi⟩:=nn (a+k)
   obtain⟨j,hj⟩:=nn (b+k)
   have wi:IntKind.i64.wrap ((a:Int)+(k:Int))=(i:Int):=(by rw[a0t _ om om];omega)
   have wj:IntKind.i64.wrap ((b:Int)+(k:Int))=(j:Int):=(by rw[a0t _ om om];omega)
   have ii:(0:Int)<=(i:Int):=om
   have ij:(0:Int)<=(j:Int):=om
   have ni:(i:Int)<(n:Int):=om
   have nj:(j:Int)<(n:Int):=om
   obtain⟨c0,c1,c2,c3,c4⟩:=rowE_cells hF (show i<n by omega);obtain⟨d0,d1,d2,d3,d4⟩:=rowE_cells hF (show j<n by omega);obtain⟨f0,f1,f2,f3,f4⟩:=rowE_free hF i;obtain⟨e0,e1,e2,e3,e4⟩:=rowE_free hF j;have aa:Hid _:=ro_swap hF hB (show i<n by omega) (show j<n by omega) (show i≠j by omega);generalize F i=x at *;generalize F j=y at *;have ab:i*5≠j*5:=om
   clear hX HA hi hj hF hB;(go_wp2_with fail);go_region
   (all_goals go_wp2_with fail);all_goals exact⟨⟨k+1,om,gn,aa⟩,io⟩
  ·obtain rfl:k=c:=om
   (go_wp2_with fail);exact bodyPost_end (results_none results219 _ _ _) rfl ⟨rfl,hX.o⟩
theorem wrotate (sp:Array Value) (g n cap s m e:Nat) (cv:Value) (u w:World) (hA:Ro sp g n u w) (hn:n<=4398046511104) (h1:s<m) (h2:m<e) (h3:e<=n) :
  Calls prog 214 #[.slice (some (Pv g 0)) n cap,Iv s,Iv m,Iv e,cv] w λx w'=>x=.returned (.tuple #[])/\Ro sp g n u w':=by
 have HA:Hid (Ro sp g n u w):=hA;have aa:Hid (∀(a b c:Nat) (A B C:Int) (W:World),A=a->B=b->C=c->Ro sp g n u W->a+c<=b->b+c<=n->Calls prog 219 #[.slice (some (Pv g 0)) n cap,Iv A,Iv B,Iv C,cv] W λe w'=>e=.returned (.tuple #[])/\Hid (Ro sp g n u w')):=λa b c A B C W eA eB eC hW q1 q2=>by
  subst eA;subst eB;subst eC;exact wswap sp g n cap a b c cv u W hW hn q1 q2
 have ac:IntKind.i64.wrap ((m:Int)-(s:Int))=((m-s:Nat):Int):=(by rw[a0t _ om om];omega)
 have ab:IntKind.i64.wrap ((e:Int)-(m:Int))=((e-m:Nat):Int):=(by rw[a0t _ om om];omega)
 clear hA;go_enter func214,ntmps214;(go_wp2_with fail);go_loopw [10,11] (λvi vj wr=>∃i j:Nat,0<i/\0<j/\i+s<=m/\j+m<=e/\vi=Iv i/\vj=Iv j/\Hid (Ro sp g n u wr)) (λi j _=>(intOf i).toNat+(intOf j).toNat)
 case atStart=>exact⟨m-s,e-m,om,om,om,om,by first | rfl | (congr 1;omega),by first | rfl | (congr 1;omega),HA⟩
 case round =>
  obtain⟨i,j,pi,pj,li,lj,rfl,rfl,hX⟩:=hrel;clear HA ac ab;by_cases q:i=j
  ·subst q;(go_wp2_with fail);refine(aa.o (m-i) m i _ _ _ _ om rfl rfl hX.o om om).mono ?_;rintro x w1 ⟨rfl,HF⟩;clear aa hX;(go_wp2_with fail);exact bodyPost_end (results_none results214 _ _ _) rfl ⟨rfl,HF.o⟩
  ·have dq:((i:Int) != (j:Int))=true:=(by simp;omega)
   have dn:¬((i:Int)=(j:Int)):=om
   by_cases r:j<i
   ·have ri:(j:Int)<(i:Int):=om
    (go_wp2_with fail);refine(aa.o (m-i) m j _ _ _ _ om rfl rfl hX.o om om).mono ?_;rintro x w1 ⟨rfl,HF⟩;clear aa hX;(go_wp2_with fail);exact⟨⟨i-j,j,om,pj,om,lj,by congr 1;omega,rfl,HF⟩,io⟩
   ·have ri:(i:Int)<(j:Int):=om
    (go_wp2_with fail);refine(aa.o (m-i) (m+j-i) i _ _ _ _ om om rfl hX.o om om).mono ?_;rintro x w1 ⟨rfl,HF⟩;clear aa hX;(go_wp2_with fail);exact⟨⟨i,j-i,pi,om,li,om,rfl,by congr 1;omega,HF⟩,io⟩
end Es
namespace Es
theorem winsertion (sp:Array Value) (g n cap a b:Nat) (u w:World) (hA:Ro sp g n u w) (hn:n<=4398046511104) (ha:a<=n) (hb:b<=n) :
  Calls prog 207 #[.slice (some (Pv g 0)) n cap,Iv a,Iv b,.func (.func 153) #[] #[]] w λx w'=>x=.returned (.tuple #[])/\Ro sp g n u w':=by
 have HA:Hid (Ro sp g n u w):=hA;clear hA;go_enter func207,ntmps207;(go_wp2_with fail);go_loopw [8] (λvi wr=>∃i:Nat,a+1<=i/\(i<=b\/i=a+1)/\vi=Iv i/\Hid (Ro sp g n u wr)) (λi _=>b-(intOf i).toNat)
 case atStart=>exact⟨a+1,om,Or.inr rfl,gn,HA⟩
 case round =>
  obtain⟨i,li,ui,rfl,HX⟩:=hrel;clear HA;by_cases hlt:i<b
  ·have al:(i:Int)<(b:Int):=om
   (go_wp2_with fail);go_loopw [9] (λvj wi=>∃j:Nat,a<=j/\j<=i/\vj=Iv j/\Hid (Ro sp g n u wi)) (λj _=>(intOf j).toNat)
   case atStart=>exact⟨i,om,om,rfl,HX⟩
   case round =>
    obtain⟨j,lj,uj,rfl,hX⟩:=hrel;clear HX;by_cases hj:a<j
    ·obtain⟨p,hp⟩:=nn (j-1)
     have wp:IntKind.i64.wrap ((j:Int)-1)=(p:Int):=(by rw[a0t _ om om];omega)
     have ap:(a:Int)<(j:Int):=om
     have ip:(0:Int)<=(p:Int):=om
     have ij:(0:Int)<=(j:Int):=om
     have np:(p:Int)<(n:Int):=om
     have nj:(j:Int)<(n:Int):=om
     have ar:p<j:=om
     have am:a<=p:=om
     clear hp;obtain⟨⟨G,hG⟩,aj⟩:=hX.o;have af:Hid (∀W,Bl wr W->_):=λW hW=>ro_swap (keep hG hW) (aj.low hW) (show j<n by omega) (show p<n by omega) (show j≠p by omega);have ah:Hid (∀W,Bl wr W->(W.frozen? (Pv g (j*5))=false/\W.frozen? (Pv g (j*5+1))=false/\W.frozen? (Pv g (j*5+2))=false/\W.frozen? (Pv g (j*5+3))=false/\W.frozen? (Pv g (j*5+4))=false)/\W.frozen? (Pv g (p*5))=false/\W.frozen? (Pv g (p*5+1))=false/\W.frozen? (Pv g (p*5+2))=false/\W.frozen? (Pv g (p*5+3))=false/\W.frozen? (Pv g (p*5+4))=false):=λW hW=>⟨rowE_free (keep hG hW) j,rowE_free (keep hG hW) p⟩
     have aa:Hid (∀W,Bl wr W->_):=two_ec hG (show j<n by omega) (show p<n by omega);have ag:Hid (∀W,Bl wr W->Ro sp g n u W):=ro_low hX.o;have ac:Hid (Bl wr wr):=b0h _ _;obtain⟨⟨c0,c1,c2,c3,c4⟩,d0,d1,d2,d3,d4⟩:=aa.o wr ac.o;clear hX hG aj;generalize G j=x at *;generalize G p=y at *;have ad:Hid (∀W,Bl wr W->_):=wcmp x y wr;obtain⟨CV,ak⟩:∃CV,Ec.cmp x y=CV:=⟨_,rfl⟩
     rw[ak] at ad;clear ak;(go_wp2_with fail);go_region_held3 (λW=>(W.cell? (Pv g (j*5))=some (Iv x.port)/\W.cell? (Pv g (j*5+1))=some (Iv x.cost)/\W.cell? (Pv g (j*5+2))=some (Iv x.other)/\W.cell? (Pv g (j*5+3))=some (Iv x.oport)/\W.cell? (Pv g (j*5+4))=some (.bool x.live))/\W.cell? (Pv g (p*5))=some (Iv y.port)/\W.cell? (Pv g (p*5+1))=some (Iv y.cost)/\W.cell? (Pv g (p*5+2))=some (Iv y.other)/\W.cell? (Pv g (p*5+3))=some (Iv y.oport)/\W.cell? (Pv g (p*5+4))=some (.bool y.live))
      (first | (exact aa.o _ (b0i ac.o)) | (exact aa.o _ (Hid.o aS)))
      (first | (go_at_call 153;refine(ad.o _ (b0i ac.o)).mono ?_;rintro e w3 ⟨rfl,ab⟩))
     clear c0 c1 c2 c3 c4 d0 d1 d2 d3 d4;have ai:Hid _:=ag.o w3 ab.o;by_cases hc:CV<0
     ·have an:Hid _:=af.o w3 ab.o;obtain⟨⟨c0,c1,c2,c3,c4⟩,d0,d1,d2,d3,d4⟩:=aa.o w3 ab.o;obtain⟨⟨e0,e1,e2,e3,e4⟩,f0,f1,f2,f3,f4⟩:=ah.o w3 ab.o;have ao:j*5≠p*5:=om
      clear af aa ad ah ag ac ab ai;(go_wp2_with fail);go_region
      (all_goals go_wp2_with fail);all_goals exact⟨⟨p,am,om,rfl,an⟩,io⟩
     ·have aq:decide (CV<0)=false:=b0j hc;clear af aa ad ah ag ac ab;(go_wp2_with fail);exact⟨⟨i+1,om,om,gn,ai⟩,io⟩
    ·have ae:Hid (∀m,Ro sp g n u (wr.drewN m)):=λm=>ro_low hX.o _ (a0d (b0h _ _) m);have hd:decide ((a:Int)<(j:Int))=false:=b0j om;clear hX;(go_wp2_with fail);(go_quiet (fail));(go_wp2_with fail);exact⟨⟨i+1,om,om,gn,ae.o _⟩,io⟩
  ·(go_wp2_with fail);exact bodyPost_end (results_none results207 _ _ _) rfl ⟨rfl,HX.o⟩
theorem wmergeA (sp:Array Value) (g n cap a m b:Nat) (u w:World) (hA:Ro sp g n u w) (hn:n<=4398046511104) (hm:m=a+1) (h1:m<b) (h2:b<=n) :
  Calls prog 208 #[.slice (some (Pv g 0)) n cap,Iv a,Iv m,Iv b,.func (.func 153) #[] #[]] w λx w'=>x=.returned (.tuple #[])/\Ro sp g n u w':=by
 have HA:Hid (Ro sp g n u w):=hA;have wm:IntKind.i64.wrap ((m:Int)-(a:Int))=1:=(by rw[a0t _ om om];omega)
 have am:a<m:=om
 clear hA hm;go_enter func208,ntmps208;(go_wp2_with fail);go_loopw [10,11] (λx y wr=>∃i j:Nat,m<=i/\i<=j/\j<=b/\x=Iv i/\y=Iv j/\Hid (Ro sp g n u wr)) (λx y _=>(intOf y-intOf x).toNat)
 case atStart=>exact⟨m,b,om,om,om,rfl,rfl,HA⟩
 case round =>
  obtain⟨i,j,li,ao,uj,rfl,rfl,hX⟩:=hrel;clear HA;by_cases hlt:i<j
  ·obtain⟨h,hh⟩:=nn ((i+j)/2)
   have eh:((i:Int)+(j:Int))/2=(h:Int):=om
   have l1:i<=h:=om
   have l2:h<j:=om
   clear hh;have ai:(i:Int)<(j:Int):=om
   have ia:(0:Int)<=(a:Int):=om
   have ih:(0:Int)<=(h:Int):=om
   have na:(a:Int)<(n:Int):=om
   have nh:(h:Int)<(n:Int):=om
   obtain⟨⟨F,hF⟩,hB⟩:=hX.o;have aa:Hid (∀W,Bl wr W->_):=two_ec hF (show h<n by omega) (show a<n by omega);have af:Hid (∀W,Bl wr W->Ro sp g n u W):=ro_low hX.o;have ab:Hid (Bl wr wr):=b0h _ _;obtain⟨⟨c0,c1,c2,c3,c4⟩,d0,ae,ak,d3,d4⟩:=aa.o wr ab.o;clear hX hF hB;generalize F h=x at *;generalize F a=y at *;have ac:Hid (∀W,Bl wr W->_):=wcmp x y wr;obtain⟨CV,ah⟩:∃CV,Ec.cmp x y=CV:=⟨_,rfl⟩
   rw[ah] at ac;clear ah;by_cases hc:CV<0
   case' pos=>have aj:decide (CV<0)=true:=b0k hc
   case' neg=>have aj:decide (CV<0)=false:=b0j hc
   all_goals
    (go_wp2_with fail);go_region_held3 (λW=>(W.cell? (Pv g (h*5))=some (Iv x.port)/\W.cell? (Pv g (h*5+1))=some (Iv x.cost)/\W.cell? (Pv g (h*5+2))=some (Iv x.other)/\W.cell? (Pv g (h*5+3))=some (Iv x.oport)/\W.cell? (Pv g (h*5+4))=some (.bool x.live))/\W.cell? (Pv g (a*5))=some (Iv y.port)/\W.cell? (Pv g (a*5+1))=some (Iv y.cost)/\W.cell? (Pv g (a*5+2))=some (Iv y.other)/\W.cell? (Pv g (a*5+3))=some (Iv y.oport)/\W.cell? (Pv g (a*5+4))=some (.bool y.live))
     (first | (exact aa.o _ (b0i ab.o)) | (exact aa.o _ (Hid.o aS)))
     (first | (go_at_call 153;refine(ac.o _ (b0i ab.o)).mono ?_;rintro e w3 ⟨rfl,ag⟩))
    clear c0 c1 c2 c3 c4 d0 ae ak d3 d4;have ad:Hid _:=af.o w3 ag.o;clear af aa ac ab ag;go_wp2_with fail
   ·exact⟨⟨i,h,li,l1,om,rfl,rfl,ad⟩,io⟩
   ·exact⟨⟨h+1,j,om,om,uj,gn,rfl,ad⟩,io⟩
  ·obtain rfl:i=j:=om
   obtain⟨p,hp⟩:=nn (i-1)
   have wp:IntKind.i64.wrap ((i:Int)-1)=(p:Int):=(by rw[a0t _ om om];omega)
   have pb:p<b:=om
   have ap:a<=p:=om
   clear hp;(go_wp2_with fail);go_loopw [13] (λvk wi=>∃k:Nat,a<=k/\k<=p/\vk=Iv k/\Hid (Ro sp g n u wi)) (λk _=>p-(intOf k).toNat)
   case atStart=>exact⟨a,om,ap,rfl,hX⟩
   case round =>
    obtain⟨k,lk,uk,rfl,hY⟩:=hrel;clear hX;by_cases hk:k<p
    ·obtain⟨q,hq⟩:=nn (k+1)
     have wq:IntKind.i64.wrap ((k:Int)+1)=(q:Int):=(by rw[a0t _ om om];omega)
     have ik:(0:Int)<=(k:Int):=om
     have iq:(0:Int)<=(q:Int):=om
     have nk:(k:Int)<(n:Int):=om
     have aq:(q:Int)<(n:Int):=om
     have ar:(k:Int)<(p:Int):=om
     have qp:q<=p:=om
     have kq:k<q:=om
     obtain⟨⟨F,hF⟩,hB⟩:=hY.o;obtain⟨c0,c1,c2,c3,c4⟩:=rowE_cells hF (show k<n by omega);obtain⟨d0,ae,d2,d3,d4⟩:=rowE_cells hF (show q<n by omega);obtain⟨f0,f1,f2,f3,f4⟩:=rowE_free hF k;obtain⟨e0,e1,e2,e3,e4⟩:=rowE_free hF q;have al:Hid _:=ro_swap hF hB (show k<n by omega) (show q<n by omega) (show k≠q by omega);have an:k*5≠q*5:=om
     clear hY hq hF hB;generalize F k=x at *;generalize F q=y at *;(go_wp2_with fail);go_region
     (all_goals go_wp2_with fail);all_goals exact⟨⟨q,om,qp,rfl,al⟩,io⟩
    ·obtain rfl:k=p:=om
     (go_wp2_with fail);exact b0b (results_none results208 _ _ _) rfl ⟨rfl,hY.o⟩
theorem wmergeB (sp:Array Value) (g n cap a m b:Nat) (u w:World) (hA:Ro sp g n u w) (hn:n<=4398046511104) (hm:b=m+1) (h1:a+1<m) (h2:b<=n) :
  Calls prog 208 #[.slice (some (Pv g 0)) n cap,Iv a,Iv m,Iv b,.func (.func 153) #[] #[]] w λx w'=>x=.returned (.tuple #[])/\Ro sp g n u w':=by
 have HA:Hid (Ro sp g n u w):=hA;obtain⟨d,hd⟩:=nn (m-a)
 have wd:IntKind.i64.wrap ((m:Int)-(a:Int))=(d:Int):=(by rw[a0t _ om om];omega)
 have d1:((d:Int) == 1)=false:=(by simp;omega)
 have wm:IntKind.i64.wrap ((b:Int)-(m:Int))=1:=(by rw[a0t _ om om];omega)
 have am:a<m:=om
 have mb:m<b:=om
 have mn:m<n:=om
 clear hA hm hd;go_enter func208,ntmps208;(go_wp2_with fail);go_loopw [14,15] (λx y wr=>∃i j:Nat,a<=i/\i<=j/\j<=m/\x=Iv i/\y=Iv j/\Hid (Ro sp g n u wr)) (λx y _=>(intOf y-intOf x).toNat)
 case atStart=>exact⟨a,m,om,om,om,rfl,rfl,HA⟩
 case round =>
  obtain⟨i,j,li,ao,uj,rfl,rfl,hX⟩:=hrel;clear HA;by_cases hlt:i<j
  ·obtain⟨h,hh⟩:=nn ((i+j)/2)
   have eh:((i:Int)+(j:Int))/2=(h:Int):=om
   have l1:i<=h:=om
   have l2:h<j:=om
   clear hh;have ai:(i:Int)<(j:Int):=om
   have ia:(0:Int)<=(m:Int):=om
   have ih:(0:Int)<=(h:Int):=om
   have na:(m:Int)<(n:Int):=om
   have nh:(h:Int)<(n:Int):=om
   obtain⟨⟨F,hF⟩,hB⟩:=hX.o;have aa:Hid (∀W,Bl wr W->_):=two_ec hF (show m<n by omega) (show h<n by omega);have ae:Hid (∀W,Bl wr W->Ro sp g n u W):=ro_low hX.o;have ab:Hid (Bl wr wr):=b0h _ _;obtain⟨⟨c0,c1,c2,c3,c4⟩,d0,ah,aj,d3,d4⟩:=aa.o wr ab.o;clear hX hF hB;generalize F m=x at *;generalize F h=y at *;have ac:Hid (∀W,Bl wr W->_):=wcmp x y wr;obtain⟨CV,ag⟩:∃CV,Ec.cmp x y=CV:=⟨_,rfl⟩
   rw[ag] at ac;clear ag;by_cases hc:CV<0
   case' pos=>have al:decide (CV<0)=true:=b0k hc
   case' neg=>have al:decide (CV<0)=false:=b0j hc
   all_goals
    (go_wp2_with fail);go_region_held3 (λW=>(W.cell? (Pv g (m*5))=some (Iv x.port)/\W.cell? (Pv g (m*5+1))=some (Iv x.cost)/\W.cell? (Pv g (m*5+2))=some (Iv x.other)/\W.cell? (Pv g (m*5+3))=some (Iv x.oport)/\W.cell? (Pv g (m*5+4))=some (.bool x.live))/\W.cell? (Pv g (h*5))=some (Iv y.port)/\W.cell? (Pv g (h*5+1))=some (Iv y.cost)/\W.cell? (Pv g (h*5+2))=some (Iv y.other)/\W.cell? (Pv g (h*5+3))=some (Iv y.oport)/\W.cell? (Pv g (h*5+4))=some (.bool y.live))
     (first | (exact aa.o _ (b0i ab.o)) | (exact aa.o _ (Hid.o aS)))
     (first | (go_at_call 153;refine(ac.o _ (b0i ab.o)).mono ?_;rintro e w3 ⟨rfl,af⟩))
    clear c0 c1 c2 c3 c4 d0 ah aj d3 d4;have ad:Hid _:=ae.o w3 af.o;clear ae aa ac ab af;go_wp2_with fail
   ·exact⟨⟨h+1,j,om,om,uj,gn,rfl,ad⟩,io⟩
   ·exact⟨⟨i,h,li,l1,om,rfl,rfl,ad⟩,io⟩
  ·obtain rfl:i=j:=om
   (go_wp2_with fail);go_loopw [17] (λvk wi=>∃k:Nat,i<=k/\k<=m/\vk=Iv k/\Hid (Ro sp g n u wi)) (λk _=>(intOf k).toNat)
   case atStart=>exact⟨m,uj,om,rfl,hX⟩
   case round =>
    obtain⟨k,lk,uk,rfl,hY⟩:=hrel;clear hX;by_cases hk:i<k
    ·obtain⟨q,hq⟩:=nn (k-1)
     have wq:IntKind.i64.wrap ((k:Int)-1)=(q:Int):=(by rw[a0t _ om om];omega)
     have ik:(0:Int)<=(k:Int):=om
     have iq:(0:Int)<=(q:Int):=om
     have nk:(k:Int)<(n:Int):=om
     have ap:(q:Int)<(n:Int):=om
     have aq:(i:Int)<(k:Int):=om
     have qi:i<=q:=om
     have kq:q<k:=om
     obtain⟨⟨F,hF⟩,hB⟩:=hY.o;obtain⟨c0,c1,c2,c3,c4⟩:=rowE_cells hF (show k<n by omega);obtain⟨d0,ah,d2,d3,d4⟩:=rowE_cells hF (show q<n by omega);obtain⟨f0,f1,f2,f3,f4⟩:=rowE_free hF k;obtain⟨e0,e1,e2,e3,e4⟩:=rowE_free hF q;have ak:Hid _:=ro_swap hF hB (show k<n by omega) (show q<n by omega) (show k≠q by omega);have an:k*5≠q*5:=om
     clear hY hq hF hB;generalize F k=x at *;generalize F q=y at *;(go_wp2_with fail);go_region
     (all_goals go_wp2_with fail);all_goals exact⟨⟨q,qi,om,rfl,ak⟩,io⟩
    ·obtain rfl:k=i:=om
     (go_wp2_with fail);exact b0b (results_none results208 _ _ _) rfl ⟨rfl,hY.o⟩
end Es
