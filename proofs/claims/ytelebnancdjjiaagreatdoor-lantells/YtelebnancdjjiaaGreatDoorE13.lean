/- J2 -/
import Derived.Test.YtelebnancdjjiaaGreatDoorE12
set_option maxRecDepth 100000
set_option maxHeartbeats 40000000
namespace Go.Proofs.YtelebnancdjjiaaGreatDoor
section
open Go.Proofs.Tryz Go.RowKit
open Rl(G gat)
open Bk(E at')
def mkG (t:List Tr) (bridge vid:Int) (port plain:Int) (a b:Nat):G:=⟨port,plain,[vid],(List.range t.length).map (a0Z t bridge port),some (Pv a 0),1,some (Pv b 0),t.length⟩
def a1c (t:List Tr) (bridge vid:Int) (pf:Nat->Int) (fa fb:Nat->Nat):Nat->List G
 | 0=>[mkG t bridge vid 0 vid (fa 0) (fb 0)]
 | j+1=>a1c t bridge vid pf fa fb j++[mkG t bridge vid (pf j) 0 (fa (j+1)) (fb (j+1))]
theorem a1W (t:List Tr) (aa vid:Int) (pf:Nat->Int) (fa fb:Nat->Nat):∀j,(a1c t aa vid pf fa fb j).length=j+1
 | 0=>rfl
 | j+1=>by
  show(a1c t aa vid pf fa fb j++[_]).length=j+1+1;rw[List.length_append,a1W t aa vid pf fa fb j];rfl
theorem a3R {t:List Tr}{aa vid:Int}{pf:Nat->Int}{fa fb fa' fb':Nat->Nat}:∀j,(∀i,i<=j->fa i=fa' i/\fb i=fb' i)->a1c t aa vid pf fa fb j=a1c t aa vid pf fa' fb' j
 | 0,h=>by
  show [mkG t aa vid 0 vid (fa 0) (fb 0)]=[mkG t aa vid 0 vid (fa' 0) (fb' 0)]
  rw[(h 0 (b0g _)).1,(h 0 (b0g _)).2]
 | j+1,h=>by
  show a1c t aa vid pf fa fb j++[mkG t aa vid (pf j) 0 (fa (j+1)) (fb (j+1))]=a1c t aa vid pf fa' fb' j++[mkG t aa vid (pf j) 0 (fa' (j+1)) (fb' (j+1))]
  rw[a3R j (λi hi=>h i om),(h (j+1) (b0g _)).1,(h (j+1) (b0g _)).2]
theorem gat_app {l:List G}{x:G}{i:Nat}(h:i<l.length):gat (l++[x]) i=gat l i:=by
 unfold gat;rw[List.getD_eq_getElem?_getD,List.getD_eq_getElem?_getD,List.getElem?_append_left h]
theorem gat_last {l:List G}{x:G}:gat (l++[x]) l.length=x:=by
 unfold gat;rw[List.getD_eq_getElem?_getD,List.getElem?_append_right (b0g _),Nat.sub_self];rfl
theorem infoGate:(prog.info? 95).map (λi=>(i.zero,i.size,i.bytes))=some (some (.agg #[Iv 0,sN,Iv 0,sN]),4,64):=by kernel_rfl
theorem one_gate {W:World}{g:Nat}{x:G}{ty:TypeId}(h:W.heap[g]?=some (.cells (gA x) ty (0,0))):CRow W (some (Pv g 0)) 1 1 4 (λ_=>gC x):=by
 refine⟨b0g _,λ_=>⟨g,0,rfl,(gSm.1 h).1,λi hi j hj => ?_⟩⟩;obtain rfl:i=0:=om
 rcases(by omega:j=0\/j=1\/j=2\/j=3) with e | e | e | e<;>subst e<;>exact a9Y W g _ _ _ _ h
structure GtW (w W:World) (t:List Tr) (bridge vid:Int) (pf:Nat->Int) (fa fb:Nat->Nat) (v:Value) (j:Nat):Prop where
 own:W.ownsRow w.heap.size 95 4 v (j+1) (a0f (j+1) 4 (λi=>gC (gat (a1c t bridge vid pf fa fb j) i)))
 ways:∀i,i<=j->W.heap[fa i]?=some (.cells #[Iv vid] 3)
 opens:∀i,i<=j->OpAt W (fb i) t.length (a0Z t bridge (if i=0 then 0 else pf (i-1)))
 low:Bl w W
theorem GtW.below {w W W':World}{t:List Tr}{aa vid:Int}{pf:Nat->Int}{fa fb:Nat->Nat}{v:Value}{j:Nat}(h:GtW w W t aa vid pf fa fb v j) (hb:Bl W W'):GtW w W' t aa vid pf fa fb v j :=
 ⟨a0h h.own hb,λi hi=>keep (h.ways i hi) hb,λi hi=>(h.opens i hi).below hb,h.low.trans (hb.mono h.low.size)⟩
theorem GtW.more {w W:World}{t:List Tr}{aa vid:Int}{pf:Nat->Int}{fa fb:Nat->Nat}{v:Value}{j a b g:Nat}(h:GtW w W t aa vid pf fa fb v j) (ha:W.heap[a]?=some (.cells #[Iv vid] 3)) (hb:OpAt W b t.length (a0Z t aa (pf j)))
  (hg:W.heap[g]?=some (.cells #[Iv (pf j),.slice (some (Pv a 0)) 1 1,Iv 0,.slice (some (Pv b 0)) t.length t.length] 95)) (hj:j<=1000) :
  ∃a1 c1 w',(Builtin.append_ #[92,92] 92 #[v,.slice (some (Pv g 0)) 1 1]).run prog W=.ok (.slice a1 (j+1+1) c1) w'/\GtW w w' t aa vid pf (λi=>if i=j+1 then a else fa i) (λi=>if i=j+1 then b else fb i) (.slice a1 (j+1+1) c1) (j+1):=by
 have ac:W.heap[g]?=some (.cells (gA (mkG t aa vid (pf j) 0 a b)) 95):=by
  rw[hg];unfold gA mkG;simp
 obtain⟨a1,c1,w',r,o,bl,q⟩:=a0E W 92 95 _ 4 64 underlying92 infoGate rfl om w.heap.size v (j+1) _ h.own (some (Pv g 0)) 1 1 (λ_=>gC (mkG t aa vid (pf j) 0 a b)) (λ_ _=>gC_one _ _) (one_gate ac) (λz=>by cases z) (by unfold maxLen;omega) om h.low.size;have ad:a1c t aa vid pf (λi=>if i=j+1 then a else fa i) (λi=>if i=j+1 then b else fb i) (j+1)=a1c t aa vid pf fa fb j++[mkG t aa vid (pf j) 0 a b]:=by
  show a1c t aa vid pf (λi=>if i=j+1 then a else fa i) (λi=>if i=j+1 then b else fb i) j++[mkG t aa vid (pf j) 0 (if j+1=j+1 then a else fa (j+1)) (if j+1=j+1 then b else fb (j+1))]=_;rw[iP rfl,iP rfl,a3R (fa':=fa) (fb':=fb) j (λi hi=>⟨by rw[iN om],by rw[iN om]⟩)]
 have ab:=a1W t aa vid pf fa fb j;have other:∀{x:Nat}{cs:Array Value}{ty:TypeId},W.heap[x]?=some (.cells cs ty (0,0))->ty≠95->w'.heap[x]?=some (.cells cs ty (0,0)):=λ{x cs ty} hx hne=>(q x (gSm.1 hx).1 (λhv=>by
  obtain⟨c2,h4⟩:=a0z h.own hv.symm;exact hne (a1j hx h4))).trans hx
 refine⟨a1,c1,w',r,?_,λi hi => ?_,λi hi => ?_,h.low.trans bl⟩
 ·rw[ad];rw[a0k (j+1+1) 4 _ (λi=>gC (gat (a1c t aa vid pf fa fb j++[mkG t aa vid (pf j) 0 a b]) i)) (λi hi=>by
   unfold catC;by_cases c:i<j+1
   ·rw[iP c,gat_app (by rw[ab];exact c)]
   ·have e:i=(a1c t aa vid pf fa fb j).length:=om
    rw[iN c,e,gat_last])] at o
  exact o
 ·by_cases e:i=j+1
  ·simp only[iP e];exact other ha dd
  ·simp only[iN e];exact other (h.ways i om) dd
 ·by_cases e:i=j+1
  ·subst e;simp only[iP];rw[iN om,show j+1-1=j by omega];exact other hb dd
  ·simp only[iN e];exact other (h.opens i om) dd
theorem GtW.row {w W:World}{t:List Tr}{aa vid:Int}{pf:Nat->Int}{fa fb:Nat->Nat}{ao:OA}{n cap j:Nat}(h:GtW w W t aa vid pf fa fb (.slice ao n cap) j) (hj:j<=1000) (ht:t.length<=4):n=j+1/\GRow W ao cap (a1c t aa vid pf fa fb j):=by
 have hl:=a1W t aa vid pf fa fb j;obtain⟨e,hr⟩:=a2A om h.own;refine⟨e,by rw[hl];exact hr,?_,om⟩;have key:∀k,k<=j->∀x∈a1c t aa vid pf fa fb k,GIn W x:=by
  intro k;have mk:∀i,i<=j->∀p pl,(if i=0 then 0 else pf (i-1))=p->GIn W (mkG t aa vid p pl (fa i) (fb i)):=λi hi p pl hp=>by
   have h1:=h.ways i hi;have h2:=h.opens i hi;rw[hp] at h2;refine⟨⟨b0g _,λ_=>⟨fa i,0,rfl,(gSm.1 h1).1,λq hq m hm => ?_⟩⟩,?_,by show 1<=_;omega,by show((List.range t.length).map _).length<=_;simp;omega⟩
   ·obtain rfl:m=0:=om
    obtain rfl:q=0:=by have:q<1:=hq;omega
    exact a9Y W _ _ _ _ _ h1
   ·refine BLs.of ⟨b0g _,λ_=>⟨fb i,0,rfl,(gSm.1 h2).1,λq hq m hm => ?_⟩⟩;obtain rfl:m=0:=om
    have:=(h2.cell hq).1;rw[Nat.mul_one,Nat.add_zero,Nat.zero_add];exact this
  induction k with
  | zero =>
   intro hk x hx;obtain rfl:x=mkG t aa vid 0 vid (fa 0) (fb 0):=by simpa[a1c] using hx
   exact mk 0 om 0 vid rfl
  | succ k ih =>
   intro hk x hx;have hx:x∈a1c t aa vid pf fa fb k++[mkG t aa vid (pf k) 0 (fa (k+1)) (fb (k+1))]:=hx;rw[List.mem_append,List.mem_singleton] at hx;rcases hx with hx | rfl
   ·exact ih om x hx
   ·exact mk (k+1) hk (pf k) 0 (by rw[iN om,show k+1-1=k by omega])
 exact key j (b0g _)
theorem a7F (oao:OA) (ocap:Nat) (t:List Tr) (aa:Int) (am:OA) (pn af:Nat) (pf:Nat->Int) (vid:Int) (w:World) (ax:TrRow w oao ocap t) (h4:t.length<=4) (av:IRow w am pn af pf) (aH:pn<=1000) :
  Calls prog 50 #[.agg #[.slice oao t.length ocap],Iv aa,.slice am pn af,Iv vid] w λe w'=>∃ao cap fa fb,e=.returned (.slice ao (a1c t aa vid pf fa fb pn).length cap)/\Hid (GRow w' ao cap (a1c t aa vid pf fa fb pn)/\Bl w w'):=by
 obtain⟨X,HX⟩:=nm ((w.alloc (.cells #[.slice oao t.length ocap] 34)).alloc (.cells #[Iv aa] 3))
 have ae:Bl w X:=(by rw[HX.o];exact bA2 _ _ _)
 have x0:X.heap[w.heap.size]?=some (.cells #[.slice oao t.length ocap] 34):=(by rw[HX.o];exact b0d _ _ _)
 have x1:X.heap[w.heap.size+1]?=some (.cells #[Iv aa] 3):=(by rw[HX.o];exact b0c _ _ _)
 have au:Hid (∀V,Bl X V->∀ac,Calls prog 78 #[Iv ac,.pointer (some (Pv w.heap.size 0)),.pointer (some (Pv (w.heap.size+1) 0))] V λe w'=>∃g,e=.returned (.slice (some (Pv g 0)) t.length t.length)/\Hid (V.heap.size<=g/\OpAt w' g t.length (a0Z t aa ac)/\Bl V w')):=λV hV ac=>a8V ac aa _ _ oao ocap t V (keep x0 hV) (keep x1 hV) (ax.below (ae.trans (hV.mono ae.size))) h4;have an:Hid (∀V,Bl X V->IRow V am pn af pf/\Bl w V):=λV hV=>⟨CRow.below av (ae.trans (hV.mono ae.size)),ae.trans (hV.mono ae.size)⟩
 have aC:=av.1;clear ax av x0 x1 ae;go_enter func50,ntmps50;(go_wp2_with fail);obtain⟨A,HA⟩:=nm (X.alloc (.cells #[Iv vid] 3))
 have aj:Bl X A:=(by rw[HA.o];exact bA1 _ _)
 have aG:X.heap.size=w.heap.size+1+1:=(by rw[HX.o];simp)
 have aB:A.heap[w.heap.size+1+1]?=some (.cells #[Iv vid] 3):=(by rw[HA.o,<-aG];exact a9Z _ _)
 rw[<-HX.o];rw[<-HA.o];refine(au.o A aj 0).mono ?_;rintro e w2 ⟨g,rfl,H2⟩;obtain⟨D,HD⟩:=nm (w2.alloc (.cells #[Iv 0,.slice (some (Pv (w.heap.size+1+1) 0)) 1 1,Iv vid,.slice (some (Pv g 0)) t.length t.length] 95))
 have al:Bl w2 D:=(by rw[HD.o];exact bA1 _ _)
 have ad:Bl X w2:=aj.trans (H2.o.2.2.mono aj.size);have H0:Hid (GtW X D t aa vid pf (λ_=>w.heap.size+1+1) (λ_=>g) (.slice (some (Pv w2.heap.size 0)) 1 1) 0):=by
  have aF:=ad.trans (al.mono ad.size);refine⟨?_,λi hi => ?_,λi hi => ?_,aF⟩
  ·have hh:D.heap[w2.heap.size]?=some (.cells (rowS #[] 1 4 (λi=>gC (gat (a1c t aa vid pf (λ_=>w.heap.size+1+1) (λ_=>g) 0) i))) 95):=by
    rw[HD.o,a9Z];congr 2
    unfold rowS rowC a0f gC gat a1c mkG;simp[List.range_succ]
   exact a1H ad.size (b0g _) (by unfold maxLen;omega) rfl hh
  ·exact keep (keep aB H2.o.2.2) al
  ·obtain rfl:i=0:=om
   exact(H2.o.2.1).below al
 clear aj aB H2 al ad;(go_wp2_with fail);rw[<-HD.o];go_loopw [10,23] (λaE aq wr=>∃(j:Nat) (fa fb:Nat->Nat) (v:Value),j<=pn/\aq=Iv j/\v=aE/\Hid (GtW X wr t aa vid pf fa fb v j)) (λ_ aq _=>pn-(intOf aq).toNat)
 case atStart=>exact⟨0,_,_,_,om,rfl,rfl,H0⟩
 case round =>
  obtain⟨j,fa,fb,v,hj,rfl,rfl,hB⟩:=hrel;clear H0;by_cases hlt:j<pn
  ·have hi:(j:Int)<(pn:Int):=om
   have aI:(0:Int)<=(j:Int):=om
   have ab:=(an.o wr hB.o.low).1;obtain⟨pb,aD,ea,_⟩:=CRow.some ab om;subst ea;have c0:=IRow.cells ab hlt;have wj:IntKind.i64.wrap ((j:Int)+1)=((j+1:Nat):Int):=(by rw[IntKind.wrap_i64];omega)
   obtain⟨A2,ar⟩:=nm (wr.alloc (.cells #[Iv vid] 3))
   have ak:Bl wr A2:=(by rw[ar.o];exact bA1 _ _)
   have ah:A2.heap[wr.heap.size]?=some (.cells #[Iv vid] 3):=(by rw[ar.o];exact a9Z _ _)
   have ag:Bl X A2:=hB.o.low.trans (ak.mono hB.o.low.size);(go_wp2_with fail);rw[<-ar.o];refine(au.o A2 ag (pf j)).mono ?_;rintro e w5 ⟨g5,rfl,H5⟩;obtain⟨D5,ap⟩:=nm (w5.alloc (.cells #[Iv (pf j),.slice (some (Pv wr.heap.size 0)) 1 1,Iv 0,.slice (some (Pv g5 0)) t.length t.length] 95))
   have ai:Bl w5 D5:=(by rw[ap.o];exact bA1 _ _)
   have az:D5.heap[w5.heap.size]?=some (.cells #[Iv (pf j),.slice (some (Pv wr.heap.size 0)) 1 1,Iv 0,.slice (some (Pv g5 0)) t.length t.length] 95):=(by rw[ap.o];exact a9Z _ _)
   have aw:Bl wr D5:=by
    have h:=ak.trans (H5.o.2.2.mono ak.size);exact h.trans (ai.mono h.size)
   obtain⟨a1,c1,w6,r,ay⟩:=(hB.o.below aw).more (keep (keep ah H5.o.2.2) ai) (H5.o.2.1.below ai) az om;have HR:Hid ((Builtin.append_ #[92,92] 92 #[v,.slice (some (Pv w5.heap.size 0)) 1 1]).run prog (w5.alloc (.cells #[Iv (pf j),.slice (some (Pv wr.heap.size 0)) 1 1,Iv 0,.slice (some (Pv g5 0)) t.length t.length] 95))=.ok (.slice a1 (j+1+1) c1) w6):=by
    have r':=r;rw[ap.o] at r';exact r'
   have HN:Hid (GtW X w6 t aa vid pf (λi=>if i=j+1 then wr.heap.size else fa i) (λi=>if i=j+1 then g5 else fb i) (.slice a1 (j+1+1) c1) (j+1)):=ay;clear hB ab ak ah ag H5 ai az aw r ay c0;go_wp2_with (at_builtin;refine a0a rfl (.tmp 27) (.tmp 35) 92 rfl _ _ _ rfl rfl HR.o ?_;clear HR)
   exact⟨⟨j+1,_,_,_,om,gn,rfl,HN⟩,io⟩
  ·obtain rfl:j=pn:=om
   have hi:¬(j:Int)<(j:Int):=om
   obtain⟨a1,c1,e7,_⟩:=a0W om hB.o.own;subst e7;obtain⟨_,ab⟩:=hB.o.row om h4;have HF:Hid (GRow wr a1 c1 (a1c t aa vid pf fa fb j)/\Bl w wr):=⟨ab,(an.o wr hB.o.low).2⟩
   have hl:=a1W t aa vid pf fa fb j;clear hB ab au an;(go_wp2_with fail);go_ret;exact⟨a1,c1,fa,fb,by rw[hl];rfl,HF⟩
theorem a5t (b off n cap:Nat) (f:Nat->Int) (w:World) (hn:n<=9223372036854775807) (ab:n<=cap) (hf:∀i,i<n->w.cell? (Pv b (off+i))=some (Iv (f i))) :
  Calls prog 81 #[.slice (some (Pv b off)) n cap] w λe w'=>e=.returned (Iv (orTo f n))/\w'=w:=by
 have HF:Hid (∀i,i<n->w.cell? (Pv b (off+i))=some (Iv (f i))):=hf;clear hf;go_enter func81,ntmps81;(go_wp2_with fail);go_loopw [8] (λi wr=>∃k:Nat,k<=n/\i=Iv k/\Hid (orTo f k=0)/\wr=w) (λi _=>n-(intOf i).toNat)
 case atStart=>exact⟨0,om,rfl,rfl,rfl⟩
 case round =>
  obtain⟨k,hk,rfl,hS,rfl⟩:=hrel;by_cases hlt:k<n
  ·have c0:=HF.o k hlt;by_cases h0:f k=0
   ·have d0:(f k != 0)=false:=(by simp[h0])
    have aa:Hid (orTo f (k+1)=0):=by show(if orTo f k=0 then f k else orTo f k)=0;rw[iP hS.o,h0]
    clear HF hS;(go_wp2_with fail);exact⟨⟨k+1,om,gn,aa,trivial⟩,io⟩
   ·have d0:(f k != 0)=true:=(by simp[h0])
    have aa:Hid (orTo f n=f k):=a2Y f k hS.o h0 n hlt;clear HF hS h0;(go_wp2_with fail);go_ret;exact⟨by rw[aa.o];rfl,rfl⟩
  ·obtain rfl:k=n:=om
   clear HF;(go_wp2_with fail);go_ret;exact⟨by rw[hS.o];rfl,rfl⟩
theorem a3S (a n:Int) (w:World):Calls prog 126 #[Iv a,Iv n] w λe w'=>e=.returned (Iv (Rl.rise a n))/\w'=w:=by
 unfold Rl.rise;by_cases h:n<=a
 ·rw[iP h];go_enter func126,ntmps126;go_wp2
  go_ret;exact⟨rfl,rfl⟩
 ·rw[iN h];go_enter func126,ntmps126;go_wp2
  go_ret;exact⟨rfl,rfl⟩
theorem a8Z (d:Int) (w:World):Calls prog 89 #[Uv d] w λe w'=>e=.returned (.bool (Rl.res d))/\w'=w:=by
 unfold Rl.res;by_cases h1:1652522221568<=d<;>by_cases h2:d<=1652522221583
 all_goals
  go_enter func89,ntmps89;go_wp2
  go_ret;exact⟨by simp[h1,h2],rfl⟩
theorem a4Q (g:G) (w:World):Calls prog 124 #[.agg #[Iv g.port,.slice g.wo g.ways.length g.wcap,Iv g.plain,.slice g.oo g.opens.length g.ocap]] w λe w'=>e=.returned (Iv (Rl.gateErr g))/\Bl w w':=by
 unfold Rl.gateErr;have HB:Hid (∀o,Bl w (w.alloc o)):=λo=>bA1 w o;by_cases h1:0<=g.port/\g.port<=30
 ·have e1:decide (0<=g.port/\g.port<=30)=true:=b0k h1;by_cases h2:0<=g.plain/\g.plain<=4094
  ·have e2:decide (0<=g.plain/\g.plain<=4094)=true:=b0k h2;rw[iP ⟨h1,h2⟩];by_cases h3:(16:Int)<g.opens.length
   ·rw[iP h3];clear h1 h2;go_enter func124,ntmps124;go_wp2_with (go_at_call 63;refine(a0u _ _ _ _).mono ?_;rintro e w1 ⟨rfl,rfl⟩;(first | rw[e1] | rw[e2]))
    go_ret;exact⟨rfl,HB.o _⟩
   ·rw[iN h3];clear h1 h2;go_enter func124,ntmps124;go_wp2_with (go_at_call 63;refine(a0u _ _ _ _).mono ?_;rintro e w1 ⟨rfl,rfl⟩;(first | rw[e1] | rw[e2]))
    go_ret;exact⟨rfl,HB.o _⟩
  ·have e2:decide (0<=g.plain/\g.plain<=4094)=false:=b0j h2;rw[iN (λh=>h2 h.2)];clear h1 h2;go_enter func124,ntmps124;go_wp2_with (go_at_call 63;refine(a0u _ _ _ _).mono ?_;rintro e w1 ⟨rfl,rfl⟩;(first | rw[e1] | rw[e2]))
   go_ret;exact⟨rfl,HB.o _⟩
 ·have e1:decide (0<=g.port/\g.port<=30)=false:=b0j h1;rw[iN (λh=>h1 h.1)];clear h1;go_enter func124,ntmps124;go_wp2_with (go_at_call 63;refine(a0u _ _ _ _).mono ?_;rintro e w1 ⟨rfl,rfl⟩;rw[e1])
  go_ret;exact⟨rfl,HB.o _⟩
theorem a4e (ao:OA) (cap:Nat) (l:List Int) (w:World) (hn:l.length<=9223372036854775807) (hr:ILs w ao cap l) :
  Calls prog 125 #[.slice ao l.length cap] w λe w'=>e=.returned (Iv (Rl.waysErr l))/\w'=w:=by
 unfold Rl.waysErr;have ab:l.length<=cap:=hr.1;have HR:Hid (ILs w ao cap l):=hr;clear hr;go_enter func125,ntmps125;(go_wp2_with fail);go_loopw [3,9] (λa i wr=>∃k:Nat,k<=l.length/\i=Iv k/\a=Iv (Rg.last (Rl.wv l) k)/\Hid (Rg.wrongTo (Rl.wv l) (λ_=>1) k=0)/\wr=w) (λ_ i _=>l.length-(intOf i).toNat)
 case atStart=>exact⟨0,om,rfl,rfl,rfl,rfl⟩
 case round =>
  obtain⟨k,hk,rfl,rfl,hX,rfl⟩:=hrel;by_cases hlt:k<l.length
  ·obtain⟨b,off,rfl,_⟩:=HR.o.place om;have c0:wr.cell? (Pv b (off+k))=some (Iv (Rl.wv l k)):=HR.o.cell hlt;have aa:Hid (Rg.wayErr (Rg.last (Rl.wv l) k) (Rl.wv l k) 1≠0->Rg.wrongTo (Rl.wv l) (λ_=>1) l.length=Rg.wayErr (Rg.last (Rl.wv l) k) (Rl.wv l k) 1):=λh=>Rg.wrongTo_here (Rl.wv l) (λ_=>1) k l.length hlt hX.o h;have HZ:Hid (Rg.wayErr (Rg.last (Rl.wv l) k) (Rl.wv l k) 1=0->Rg.wrongTo (Rl.wv l) (λ_=>1) (k+1)=0):=λh=>Rg.wrongTo_succ (Rl.wv l) (λ_=>1) k hX.o h;have HL:Hid (Rg.last (Rl.wv l) (k+1)=Rl.wv l k):=by show Rg.last (Rl.wv l) (k+1)=Rl.wv l k;unfold Rg.last;rw[iN om];rfl
   clear HR hX;generalize Rg.last (Rl.wv l) k=a at *;generalize Rl.wv l k=v at *;by_cases g1:1<=v/\v<=4094
   ·have e1:decide (1<=v/\v<=4094)=true:=b0k g1;by_cases g2:v<=a
    ·have HW:Hid (Rg.wayErr a v 1=2):=by show Rg.wayErr a v 1=2;unfold Rg.wayErr;rw[iP om,iP g2]
     have HV:Hid (Rl.rise a v=2):=by show Rl.rise a v=2;unfold Rl.rise;rw[iP g2]
     clear g1 g2 HZ;go_wp2_with (first | (go_at_call 63;refine(a0u _ _ _ _).mono ?_;rintro e w1 ⟨rfl,rfl⟩;rw[e1]) | (go_at_call 126;refine(a3S _ _ _).mono ?_;rintro e w1 ⟨rfl,rfl⟩;rw[HV.o]))
     go_ret;exact⟨by rw[aa.o (by rw[HW.o];decide),HW.o];rfl,rfl⟩
    ·have HW:Hid (Rg.wayErr a v 1=0):=by show Rg.wayErr a v 1=0;unfold Rg.wayErr;rw[iP om,iN g2]
     have HV:Hid (Rl.rise a v=0):=by show Rl.rise a v=0;unfold Rl.rise;rw[iN g2]
     clear g1 g2 aa;go_wp2_with (first | (go_at_call 63;refine(a0u _ _ _ _).mono ?_;rintro e w1 ⟨rfl,rfl⟩;rw[e1]) | (go_at_call 126;refine(a3S _ _ _).mono ?_;rintro e w1 ⟨rfl,rfl⟩;rw[HV.o]))
     exact⟨⟨k+1,om,gn,by rw[HL.o],HZ.o HW.o,trivial⟩,io⟩
   ·have e1:decide (1<=v/\v<=4094)=false:=b0j g1;have HW:Hid (Rg.wayErr a v 1=3):=by show Rg.wayErr a v 1=3;unfold Rg.wayErr;rw[iN om]
    clear g1 HZ;go_wp2_with (go_at_call 63;refine(a0u _ _ _ _).mono ?_;rintro e w1 ⟨rfl,rfl⟩;rw[e1])
    go_ret;exact⟨by rw[aa.o (by rw[HW.o];decide),HW.o];rfl,rfl⟩
  ·obtain rfl:k=l.length:=om
   clear HR;(go_wp2_with fail);go_ret;exact⟨by rw[hX.o];rfl,rfl⟩
theorem a9a (f:Rl.F) (g:G) (w:World):Calls prog 87 #[.agg #[Uv f.dst,Uv f.src,.bool f.tagged,Iv f.prio,.bool f.drop,Iv f.vid,Iv f.type,.slice f.ao f.n f.cap],.agg #[Iv g.port,.slice g.wo g.ways.length g.wcap,Iv g.plain,.slice g.oo g.opens.length g.ocap]] w λe w'=>e=.returned (Iv (Rl.wayOf f g))/\Bl w w':=by
 unfold Rl.wayOf;have HB:Hid (∀o1 o2,Bl w ((w.alloc o1).alloc o2)):=λo1 o2=>bA2 w o1 o2;by_cases h1:f.tagged=true
 ·by_cases h2:f.vid=0
  ·have e2:(f.vid != 0)=false:=(by simp[h2])
   rw[iN (λh=>h.2 h2)];clear h2;go_enter func87,ntmps87;rw[h1];go_wp2
   go_ret;exact⟨rfl,HB.o _ _⟩
  ·have e2:(f.vid != 0)=true:=(by simp[h2])
   rw[iP ⟨h1,h2⟩];clear h2;go_enter func87,ntmps87;rw[h1];go_wp2
   go_ret;exact⟨rfl,HB.o _ _⟩
 ·rw[iN (λh=>h1 h.1)];have e1:f.tagged=false:=(by simpa using h1)
  clear h1;go_enter func87,ntmps87;rw[e1];go_wp2
  go_ret;exact⟨rfl,HB.o _ _⟩
theorem orTo3 (f:Nat->Int):orTo f 3=Rl.or3 (f 0) (f 1) (f 2):=by
 by_cases h1:f 0=0<;>by_cases h2:f 1=0<;>simp[orTo,Rl.or3,h1,h2]
theorem a1u {a b:World}(h:Bl a b) (o:Obj):Bl a (b.alloc o):=h.alloc h.size o
theorem core3 (a b c:Int) (g:Nat) (ty:TypeId) (w:World) (h:w.heap[g]?=some (.cells #[Iv a,Iv b,Iv c] ty (0,0))) :
  Calls prog 81 #[.slice (some (Pv g 0)) 3 3] w λe w'=>e=.returned (Iv (Rl.or3 a b c))/\w'=w:=by
 have:=a5t g 0 3 3 (λi=>if i=0 then a else if i=1 then b else c) w om om (λi hi=>by
  rcases(by omega:i=0\/i=1\/i=2) with e | e | e<;>subst e
  ·exact a9Y w g 0 _ _ _ h
  ·exact a9Y w g 1 _ _ _ h
  ·exact a9Y w g 2 _ _ _ h)
 rw[orTo3] at this;exact this
theorem a6d (ao:OA) (cap:Nat) (l:List G) (w:World) (hr:GRow w ao cap l) :
  Calls prog 83 #[.slice ao l.length cap] w λe w'=>e=.returned (faV (Rl.wrong l))/\Bl w w':=by
 have hn:=hr.many;have ae:Hid (∀W,Bl w W->GRow W ao cap l):=λW hW=>hr.below hW;have au:l.length<=cap:=hr.row.1;clear hr;obtain⟨G,HG⟩:=nm w.heap.size
 have HI:Hid (∀W,W=w.alloc (.cells #[Iv 0,Iv 0] 37)->Bl w W/\W.heap[G]?=some (.cells #[Iv 0,Iv 0] 37)):=by
  intro W hW;rw[hW,HG.o];exact⟨bA1 _ _,a9Z _ _⟩
 have af:w.heap.size<=G:=(by rw[HG.o];exact b0g _)
 have ar:Hid (Rl.wrong l=Bk.firstTo (Rl.gErr l) l.length):=rfl;go_enter func83,ntmps83;(go_wp2_with fail);rw[<-HG.o];go_loopw [3,9] (λa i wr=>∃k:Nat,k<=l.length/\i=Iv k/\a=Iv (Rl.aheadP l k)/\Hid (∀j,j<k->Rl.gErr l j=0)/\Hid (Bl w wr/\wr.heap[G]?=some (.cells #[Iv 0,Iv 0] 37))) (λ_ i _=>l.length-(intOf i).toNat)
 case atStart=>exact⟨0,om,rfl,rfl,(λj hj=>absurd hj om),HI.o _ rfl⟩
 case round =>
  obtain⟨k,hk,rfl,rfl,hS,hX⟩:=hrel;clear HI;by_cases hlt:k<l.length
  ·obtain⟨b,off,rfl,_⟩:=(ae.o wr hX.o.1).place om;obtain⟨c0,c1,c2,c3⟩:=(ae.o wr hX.o.1).cells hlt;have an:=(ae.o wr hX.o.1).at hlt;obtain⟨X,HX⟩:=nm (wr.alloc (.cells #[Iv (gat l k).port,.slice (gat l k).wo (gat l k).ways.length (gat l k).wcap,Iv (gat l k).plain,.slice (gat l k).oo (gat l k).opens.length (gat l k).ocap] 95))
   have ac:Hid (Bl wr X):=(by rw[HX.o];exact bA1 _ _)
   have aq:Hid (X.heap[wr.heap.size]?=some (.cells #[Iv (gat l k).port,.slice (gat l k).wo (gat l k).ways.length (gat l k).wcap,Iv (gat l k).plain,.slice (gat l k).oo (gat l k).opens.length (gat l k).ocap] 95)):=(by rw[HX.o];exact a9Z _ _)
   have av:Hid (Bl X X):=b0h _ _;have aj:Hid (∀W,Bl X W->Calls prog 124 #[.agg #[Iv (gat l k).port,.slice (gat l k).wo (gat l k).ways.length (gat l k).wcap,Iv (gat l k).plain,.slice (gat l k).oo (gat l k).opens.length (gat l k).ocap]] W λe w'=>e=.returned (Iv (Rl.gateErr (gat l k)))/\Hid (Bl X w')):=λW hW=>(a4Q (gat l k) W).mono (λe w' h=>⟨h.1,hW.trans (h.2.mono hW.size)⟩);have ai:Hid (∀W,Bl X W->Calls prog 125 #[.slice (gat l k).wo (gat l k).ways.length (gat l k).wcap] W λe w'=>e=.returned (Iv (Rl.waysErr (gat l k).ways))/\Hid (Bl X w')):=λW hW=>(a4e _ _ _ W an.wn ((an.ways.below ac.o).below hW)).mono (λe w' h=>⟨h.1,by rw[h.2];exact hW⟩);have ak:Hid (∀W,Bl X W->Calls prog 126 #[Iv (Rl.aheadP l k),Iv (gat l k).port] W λe w'=>e=.returned (Iv (Rl.rise (Rl.aheadP l k) (gat l k).port))/\Hid (Bl X w')):=λW hW=>(a3S _ _ W).mono (λe w' h=>⟨h.1,by rw[h.2];exact hW⟩);have ag:Hid (∀W,Bl X W->Calls prog 81 #[.slice (some (Pv W.heap.size 0)) 3 3] (W.alloc (.cells #[Iv (Rl.gateErr (gat l k)),Iv (Rl.waysErr (gat l k).ways),Iv (Rl.rise (Rl.aheadP l k) (gat l k).port)] 35)) λe w'=>e=.returned (Iv (Rl.gErr l k))/\Hid (Bl X w')):=λW hW=>(core3 _ _ _ W.heap.size _ _ (a9Z _ _)).mono (λe w' h=>⟨h.1,by rw[h.2];exact hW.alloc hW.size _⟩);have am:Hid (Rl.gErr l k≠0->Bk.firstTo (Rl.gErr l) l.length=(Rl.gErr l k,(k:Int))):=λhe=>Bk.firstTo_stay _ k (by rw[Bk.firstTo_none _ _ hS.o]) he _ hlt;have ap:Hid (Rl.gErr l k=0->∀j,j<k+1->Rl.gErr l j=0):=λh j hj=>by
    by_cases e:j=k
    ·subst e;exact h
    ·exact hS.o j om
   have HA:Hid (Rl.aheadP l (k+1)=(gat l k).port):=by show Rl.aheadP l (k+1)=_;unfold Rl.aheadP;rw[iN om];rfl
   have aa:Hid (∀W,Bl X W->W.cell? (Pv wr.heap.size 0)=some (Iv (gat l k).port)/\W.cell? (Pv wr.heap.size 1)=some (.slice (gat l k).wo (gat l k).ways.length (gat l k).wcap)/\W.cell? (Pv wr.heap.size 2)=some (Iv (gat l k).plain)/\W.cell? (Pv wr.heap.size 3)=some (.slice (gat l k).oo (gat l k).opens.length (gat l k).ocap)):=λW hW=>a1O (keep aq.o hW);have ab:Hid (∀W,Bl X W->Bl w W/\W.heap[G]?=some (.cells #[Iv 0,Iv 0] 37)):=λW hW=>⟨(hX.o.1.trans (ac.o.mono hX.o.1.size)).trans (hW.mono (by have:=hX.o.1.size;have:=ac.o.size;omega)),keep (keep hX.o.2 ac.o) hW⟩
   obtain⟨d0,d1,d2,d3⟩:=aa.o X av.o;clear hX hS aq ac an ae;generalize Rl.gErr l k=er at *;generalize Rl.gateErr (gat l k)=e1 at *;generalize Rl.waysErr (gat l k).ways=e2 at *;generalize Rl.rise (Rl.aheadP l k) (gat l k).port=e3 at *;generalize Rl.aheadP l k=ah at *;generalize gat l k=x at *;(go_wp2_with fail);rw[<-HX.o];clear c0 c1 c2 c3;by_cases he:er=0
   ·have dq:(er != 0)=false:=(by simp[he])
    have aw:Hid _:=ap.o he;clear ap am he;go_region_held3 (λW=>W.cell? (Pv wr.heap.size 0)=some (Iv x.port)/\W.cell? (Pv wr.heap.size 1)=some (.slice x.wo x.ways.length x.wcap)/\W.cell? (Pv wr.heap.size 2)=some (Iv x.plain)/\W.cell? (Pv wr.heap.size 3)=some (.slice x.oo x.opens.length x.ocap))
     (first | (exact aa.o _ (Hid.o aS)) | (exact aa.o _ (b0i (Hid.o aS))) | (exact aa.o _ (a1u (Hid.o aS) _)))
     (first | (go_at_call 124;refine(aj.o _ (by first | exact(Hid.o aS) | exact b0i (Hid.o aS))).mono ?_;rintro e w1 ⟨rfl,HB⟩) | (go_at_call 125;refine(ai.o _ (by first | exact(Hid.o aS) | exact b0i (Hid.o aS))).mono ?_;rintro e w1 ⟨rfl,HB⟩) | (go_at_call 126;refine(ak.o _ (by first | exact(Hid.o aS) | exact b0i (Hid.o aS))).mono ?_;rintro e w1 ⟨rfl,HB⟩) | (go_at_call 81;refine(ag.o _ (by first | exact(Hid.o aS) | exact b0i (Hid.o aS))).mono ?_;rintro e w1 ⟨rfl,HB⟩))
    all_goals
     have ad:Hid _:=ab.o _ HB.o;obtain⟨u0,u1,u2,u3⟩:=aa.o _ HB.o;clear ab aa aj ai ak ag d0 d1 d2 d3;(go_wp2_with fail);exact⟨⟨k+1,om,gn,by rw[HA.o],aw,ad.o⟩,io⟩
   ·have dq:(er != 0)=true:=(by simp[he])
    have al:Hid _:=am.o he;clear ap am he;go_region_held3 (λW=>W.cell? (Pv wr.heap.size 0)=some (Iv x.port)/\W.cell? (Pv wr.heap.size 1)=some (.slice x.wo x.ways.length x.wcap)/\W.cell? (Pv wr.heap.size 2)=some (Iv x.plain)/\W.cell? (Pv wr.heap.size 3)=some (.slice x.oo x.opens.length x.ocap))
     (first | (exact aa.o _ (Hid.o aS)) | (exact aa.o _ (b0i (Hid.o aS))) | (exact aa.o _ (a1u (Hid.o aS) _)))
     (first | (go_at_call 124;refine(aj.o _ (by first | exact(Hid.o aS) | exact b0i (Hid.o aS))).mono ?_;rintro e w1 ⟨rfl,HB⟩) | (go_at_call 125;refine(ai.o _ (by first | exact(Hid.o aS) | exact b0i (Hid.o aS))).mono ?_;rintro e w1 ⟨rfl,HB⟩) | (go_at_call 126;refine(ak.o _ (by first | exact(Hid.o aS) | exact b0i (Hid.o aS))).mono ?_;rintro e w1 ⟨rfl,HB⟩) | (go_at_call 81;refine(ag.o _ (by first | exact(Hid.o aS) | exact b0i (Hid.o aS))).mono ?_;rintro e w1 ⟨rfl,HB⟩))
    all_goals
     have ad:Hid _:=ab.o _ HB.o;obtain⟨f0,f1,f2,f3⟩:=a0M ad.o.2;clear ab aa aj ai ak ag d0 d1 d2 d3;(go_wp2_with fail);exact b0b (v:=.agg #[Iv er,Iv k]) (a0b (p:=2) (ty:=37) results83 _ _ G 37 #[Iv er,Iv k] (0,0) _ rfl (a0R ad.o.2) underlying37 rfl (by rw[a0O];rfl)) rfl ⟨by rw[ar.o,al.o],(ad.o.1.setCell af _).setCell af _⟩
  ·obtain rfl:k=l.length:=om
   have al:Hid (Bk.firstTo (Rl.gErr l) l.length=(0,0)):=Bk.firstTo_none _ _ hS.o;obtain⟨f0,f1,f2,f3⟩:=a0M hX.o.2;clear ae;(go_wp2_with fail);exact b0b (v:=.agg #[Iv 0,Iv 0]) (a0b (p:=2) (ty:=37) results83 _ _ G 37 #[Iv 0,Iv 0] (0,0) _ rfl (a0R hX.o.2) underlying37 rfl (by rw[a0O];rfl)) rfl ⟨by rw[ar.o,al.o],(hX.o.1.setCell af _).setCell af _⟩
theorem a5u (g:G) (Bw Bt:Nat) (aa tree:Int) (w:World) (hg:GIn w g) (hw:w.cell? (Pv Bw 0)=some (Iv aa)) (ht:w.cell? (Pv Bt 0)=some (Iv tree)) :
  Calls prog 129 #[.agg #[Iv g.port,.slice g.wo g.ways.length g.wcap,Iv g.plain,.slice g.oo g.opens.length g.ocap],.pointer (some (Pv Bw 0)),.pointer (some (Pv Bt 0))] w λe w'=>e=.returned (.bool (Rl.passes g tree aa))/\Bl w w':=by
 have l1:=b0r hw;have l2:=b0r ht;have HC:Hid (∀W,Bl w W->Calls prog 130 #[.slice g.wo g.ways.length g.wcap,Iv aa] W λe w'=>e=.returned (.bool (g.ways.contains aa))/\w'=W):=λW hW=>a4P g.wo g.wcap g.ways aa W hg.wn (hg.ways.below hW);have HB:Hid (∀o,Bl w (w.alloc o)):=λo=>bA1 w o;have HP:Hid (Rl.passes g tree aa=(g.ways.contains aa&&(decide (0<=tree/\tree<=(g.opens.length:Int)-1)&&g.opens.getD tree.toNat false))):=rfl;have af:=hg.on;have ac:IntKind.i64.wrap ((g.opens.length:Int)-1)=(g.opens.length:Int)-1:=by
  simp[IntKind.wrap,IntKind.bits,IntKind.signed];omega
 have ae:g.opens.length<=g.ocap:=hg.opens.1;have HO:Hid (BLs w g.oo g.ocap g.opens):=hg.opens;clear hg;cases hc:g.ways.contains aa with
 | false =>
  rw[hc] at HC HP;have ad:Hid (Rl.passes g tree aa=false):=HP.o;clear HP hc HO;go_enter func129,ntmps129;go_wp2_with (go_at_call 130;refine(HC.o _ (HB.o _)).mono ?_;rintro e w1 ⟨rfl,rfl⟩)
  go_ret;exact⟨by rw[ad.o];rfl,HB.o _⟩
 | true =>
  rw[hc,Bool.true_and] at HP;rw[hc] at HC;clear hc;by_cases hd:0<=tree/\tree<=(g.opens.length:Int)-1
  ·have e1:decide (0<=tree/\tree<=(g.opens.length:Int)-1)=true:=b0k hd;rw[e1,Bool.true_and] at HP;obtain⟨k,rfl⟩:=Int.eq_ofNat_of_zero_le hd.1;rw[Int.toNat_natCast] at HP;have hk:k<g.opens.length:=om
   obtain⟨b,off,ab,hb⟩:=HO.o.place om;have ag:w.cell? (Pv b (off+k))=some (.bool (g.opens.getD k false)):=BLs.cell (cap:=g.ocap) (by rw[<-ab];exact HO.o) hk;have ik:(0:Int)<=(k:Int):=om
   have nk:(k:Int)<(g.opens.length:Int):=om
   clear hd HO;generalize g.opens.getD k false=bo at *;generalize hon':g.opens.length=on at *;clear hon';rw[ab];go_enter func129,ntmps129;go_wp2_with (first | (go_at_call 130;refine(HC.o _ (HB.o _)).mono ?_;rintro e w1 ⟨rfl,rfl⟩) | (go_at_call 63;refine(a0u _ _ _ _).mono ?_;rintro e w1 ⟨rfl,rfl⟩;(try rw[ac]);rw[e1]))
   go_ret;exact⟨by rw[HP.o];rfl,HB.o _⟩
  ·have e1:decide (0<=tree/\tree<=(g.opens.length:Int)-1)=false:=b0j hd;rw[e1,Bool.false_and] at HP;clear hd HO;go_enter func129,ntmps129;go_wp2_with (first | (go_at_call 130;refine(HC.o _ (HB.o _)).mono ?_;rintro e w1 ⟨rfl,rfl⟩) | (go_at_call 63;refine(a0u _ _ _ _).mono ?_;rintro e w1 ⟨rfl,rfl⟩;(try rw[ac]);rw[e1]))
   go_ret;exact⟨by rw[HP.o];rfl,HB.o _⟩
theorem a7G (aa tree:Int) (w:World) :
  Calls prog 88 #[Iv aa,Iv tree] w λe w'=>e=.returned (.func (.func 129) #[] #[.pointer (some (Pv w.heap.size 0)),.pointer (some (Pv (w.heap.size+1) 0))])/\w'.heap[w.heap.size]?=some (.cells #[Iv aa] 3)/\w'.heap[w.heap.size+1]?=some (.cells #[Iv tree] 3)/\Bl w w':=by
 have H1:Hid (∀o1 o2,((w.alloc o1).alloc o2).heap[w.heap.size]?=some o1):=λo1 o2=>b0d w o1 o2;have H2:Hid (∀o1 o2,((w.alloc o1).alloc o2).heap[w.heap.size+1]?=some o2):=λo1 o2=>b0c w o1 o2;have HB:Hid (∀o1 o2,Bl w ((w.alloc o1).alloc o2)):=λo1 o2=>bA2 w o1 o2;go_enter func88,ntmps88;go_wp2
 go_ret;exact⟨rfl,H1.o _ _,H2.o _ _,HB.o _ _⟩
theorem a7H (g:G) (Bp:Nat) (p:Int) (w:World) (hp:w.cell? (Pv Bp 0)=some (Iv p)) :
  Calls prog 86 #[.agg #[Iv g.port,.slice g.wo g.ways.length g.wcap,Iv g.plain,.slice g.oo g.opens.length g.ocap],.pointer (some (Pv Bp 0))] w λe w'=>e=.returned (.bool (decide (g.port=p)))/\Bl w w':=by
 have l1:=b0r hp;have HB:Hid (∀o,Bl w (w.alloc o)):=λo=>bA1 w o;go_enter func86,ntmps86;go_wp2
 go_ret;exact⟨rfl,HB.o _⟩
theorem a6e (ao:OA) (cap:Nat) (l:List G) (Bp:Nat) (p:Int) (w:World) (hr:GRow w ao cap l) (hp:w.cell? (Pv Bp 0)=some (Iv p)) :
  Calls prog 85 #[.slice ao l.length cap,.func (.func 86) #[] #[.pointer (some (Pv Bp 0))]] w λe w'=>e=.returned (Iv (Rl.idx l p l.length))/\Bl w w':=by
 have hn:=hr.many;have af:l.length<=cap:=hr.row.1;have HR:Hid (∀W,Bl w W->GRow W ao cap l):=λW hW=>hr.below hW;have l1:=b0r hp;have HC:Hid (∀W,Bl w W->∀g:G,Calls prog 86 #[.agg #[Iv g.port,.slice g.wo g.ways.length g.wcap,Iv g.plain,.slice g.oo g.opens.length g.ocap],.pointer (some (Pv Bp 0))] W λe w'=>e=.returned (.bool (decide (g.port=p)))/\Hid (Bl w w')):=λW hW g=>(a7H g Bp p W ((hW.cell (by exact l1)).trans hp)).mono (λe w' h=>⟨h.1,hW.trans (h.2.mono hW.size)⟩);clear hr hp l1;go_enter func85,ntmps85;(go_wp2_with fail);go_loopw [8] (λi wr=>∃k:Nat,k<=l.length/\i=Iv k/\Hid (Rl.idx l p k = -1)/\Hid (Bl w wr)) (λi _=>l.length-(intOf i).toNat)
 case atStart=>exact⟨0,om,rfl,rfl,b0h _ _⟩
 case round =>
  obtain⟨k,hk,rfl,hS,hB⟩:=hrel;by_cases hlt:k<l.length
  ·obtain⟨b,off,rfl,_⟩:=(HR.o wr hB.o).place om;obtain⟨c0,c1,c2,c3⟩:=(HR.o wr hB.o).cells hlt;have ab:Hid (Rl.idx l p (k+1)=if (gat l k).port=p then(k:Int) else -1):=by
    show(if 0<=Rl.idx l p k then Rl.idx l p k else if (gat l k).port=p then(k:Int) else -1)=_;rw[iN (by rw[hS.o];omega)]
   have ac:Hid ((gat l k).port=p->Rl.idx l p l.length=(k:Int)):=λh=>by
    have h1:=ab.o;rw[iP h] at h1;rw[Rl.idx_stay l p (k+1) om l.length om,h1]
   have aa:Hid (Calls prog 86 #[.agg #[Iv (gat l k).port,.slice (gat l k).wo (gat l k).ways.length (gat l k).wcap,Iv (gat l k).plain,.slice (gat l k).oo (gat l k).opens.length (gat l k).ocap],.pointer (some (Pv Bp 0))] wr λe w'=>e=.returned (.bool (decide ((gat l k).port=p)))/\Hid (Bl w w')):=HC.o wr hB.o (gat l k);clear HR hS HC hB;by_cases q:(gat l k).port=p
   ·have ad:Hid _:=ac.o q;rw[b0k q] at aa;clear ac ab q;generalize gat l k=x at *;go_wp2_with (go_at_call 86;refine aa.o.mono ?_;rintro e w2 ⟨rfl,ae⟩)
    go_ret;exact⟨by rw[ad.o];rfl,ae.o⟩
   ·have ad:Hid (Rl.idx l p (k+1) = -1):=(by rw[ab.o,iN q];rfl)
    rw[b0j q] at aa;clear ac ab q;generalize gat l k=x at *;go_wp2_with (go_at_call 86;refine aa.o.mono ?_;rintro e w2 ⟨rfl,ae⟩)
    exact⟨⟨k+1,om,gn,ad,ae⟩,io⟩
  ·obtain rfl:k=l.length:=om
   clear HR HC;(go_wp2_with fail);go_ret;exact⟨by rw[hS.o];rfl,hB.o⟩
theorem a9b (g:G) (Bp Bf Bk Bs Bw Bt:Nat) (p ac tree s:Int) (kn:Bool) (w:World) (hg:GIn w g) (hp:w.cell? (Pv Bp 0)=some (Iv p)) (hf:w.cell? (Pv Bf 0)=some (.func (.func 129) #[] #[.pointer (some (Pv Bw 0)),.pointer (some (Pv Bt 0))])) (hk:w.cell? (Pv Bk 0)=some (.bool kn)) (hs:w.cell? (Pv Bs 0)=some (Iv s)) (hw:w.cell? (Pv Bw 0)=some (Iv ac)) (ht:w.cell? (Pv Bt 0)=some (Iv tree)) :
  Calls prog 92 #[.agg #[Iv g.port,.slice g.wo g.ways.length g.wcap,Iv g.plain,.slice g.oo g.opens.length g.ocap],.pointer (some (Pv Bp 0)),.pointer (some (Pv Bf 0)),.pointer (some (Pv Bk 0)),.pointer (some (Pv Bs 0))] w λe w'=>e=.returned (.bool (decide (g.port≠p)&&(Rl.passes g tree ac&&(!kn||decide (g.port=s)))))/\Bl w w':=by
 have l1:=b0r hp;have l2:=b0r hf;have l3:=b0r hk;have l4:=b0r hs;have l5:=b0r hw;have l6:=b0r ht;obtain⟨W0,ab⟩:=nm (w.alloc (.cells #[Iv g.port,.slice g.wo g.ways.length g.wcap,Iv g.plain,.slice g.oo g.opens.length g.ocap] 95))
 have aa:Bl w W0:=(by rw[ab.o];exact bA1 _ _)
 have ae:W0.heap[w.heap.size]?=some (.cells #[Iv g.port,.slice g.wo g.ways.length g.wcap,Iv g.plain,.slice g.oo g.opens.length g.ocap] 95):=(by rw[ab.o];exact a9Z _ _)
 have af:Hid (Bl w W0):=aa;have HC:Hid (Calls prog 129 #[.agg #[Iv g.port,.slice g.wo g.ways.length g.wcap,Iv g.plain,.slice g.oo g.opens.length g.ocap],.pointer (some (Pv Bw 0)),.pointer (some (Pv Bt 0))] W0 λe w'=>e=.returned (.bool (Rl.passes g tree ac))/\Hid (Bl w w')/\w'.cell? (Pv w.heap.size 0)=some (Iv g.port)/\w'.cell? (Pv Bk 0)=some (.bool kn)/\w'.cell? (Pv Bs 0)=some (Iv s)) :=
  (a5u g Bw Bt ac tree W0 (hg.below aa) ((aa.cell (by exact l5)).trans hw) ((aa.cell (by exact l6)).trans ht)).mono (λe w' h=>by
   have hb:=aa.trans (h.2.mono aa.size);exact⟨h.1,hb,(a1O (keep ae h.2)).1,(hb.cell (by exact l3)).trans hk,(hb.cell (by exact l4)).trans hs⟩)
 clear hg hw ht aa ae l5 l6;generalize Rl.passes g tree ac=ps at *;by_cases q1:g.port=p
 ·have n1:(g.port != p)=false:=(by simp[q1])
  have n2:decide (g.port≠p)=false:=(by simp[q1])
  rw[n2,Bool.false_and];clear q1 n2 HC;go_enter func92,ntmps92;(go_wp2_with fail);go_ret;exact⟨rfl,by rw[<-ab.o];exact af.o⟩
 ·have n1:(g.port != p)=true:=(by simp[q1])
  have n2:decide (g.port≠p)=true:=(by simp[q1])
  rw[n2,Bool.true_and];clear q1 n2;cases ps with
  | false =>
   go_enter func92,ntmps92;go_wp2_with (go_at_call 129;rw[<-ab.o];refine HC.o.mono ?_;rintro e w1 ⟨rfl,ad,f0,f1,f2⟩)
   go_ret;exact⟨rfl,ad.o⟩
  | true =>
   rw[Bool.true_and];cases kn with
   | false =>
    go_enter func92,ntmps92;go_wp2_with (go_at_call 129;rw[<-ab.o];refine HC.o.mono ?_;rintro e w1 ⟨rfl,ad,f0,f1,f2⟩;clear hp hf hk hs)
    go_ret;exact⟨rfl,ad.o⟩
   | true =>
    go_enter func92,ntmps92;go_wp2_with (go_at_call 129;rw[<-ab.o];refine HC.o.mono ?_;rintro e w1 ⟨rfl,ad,f0,f1,f2⟩;clear hp hf hk hs)
    go_ret;exact⟨rfl,ad.o⟩
theorem a3s (n l m:Int) (w:World) :
  Calls prog 63 #[Iv n,Iv l,Iv m] w λe w'=>e=.returned (.bool (decide (l<=n/\n<=m)))/\w'=w:=by
 by_cases h1:l<=n<;>by_cases h2:n<=m
 all_goals
  go_enter func63,ntmps63;go_wp2
  go_ret;exact⟨by simp[h1,h2],rfl⟩
theorem a2r (d s:Int) (t:Bool) (p:Int) (dr:Bool) (v y:Int) (ao:OA) (n c:Nat) (w:World) :
  Calls prog 114 #[.agg #[Uv d,Uv s,.bool t,Iv p,.bool dr,Iv v,Iv y,.slice ao n c]] w λe w'=>e=.returned (.bool (decide ((0<=v/\v<=4094)/\0<=p/\p<=7)))/\Bl w w':=by
 by_cases h1:0<=v/\v<=4094
 all_goals
  go_enter func114,ntmps114;go_wp2_with (go_at_call 63;refine(a3s _ _ _ _).mono ?_;rintro e w1 ⟨rfl,rfl⟩)
  go_ret;exact⟨by simp[h1],(b0h _ _).alloc (b0g _) _⟩
theorem a1S (y:Int) (w:World) :
  Calls prog 115 #[Iv y] w λe w'=>e=.returned (.bool (decide ((1536<=y/\y<=65535)/\y≠33024)))/\w'=w:=by
 by_cases h1:1536<=y/\y<=65535
 all_goals
  go_enter func115,ntmps115;go_wp2_with (go_at_call 63;refine(a3s _ _ _ _).mono ?_;rintro e w1 ⟨rfl,rfl⟩)
  go_ret;exact⟨by by_cases e:y=33024<;>simp[h1,e],rfl⟩
theorem a0U {w:World}{g:Nat}{a0 a1 a2 a3 a4 a5 a6 a7:Value}{ty:TypeId}(h:w.heap[g]?=some (.cells #[a0,a1,a2,a3,a4,a5,a6,a7] ty (0,0))) :
  w.cell? (Pv g 0)=some a0/\w.cell? (Pv g 1)=some a1/\w.cell? (Pv g 2)=some a2/\w.cell? (Pv g 3)=some a3/\w.cell? (Pv g 4)=some a4/\w.cell? (Pv g 5)=some a5/\w.cell? (Pv g 6)=some a6/\w.cell? (Pv g 7)=some a7 :=
 ⟨a9Y w g 0 _ _ _ h,a9Y w g 1 _ _ _ h,a9Y w g 2 _ _ _ h,a9Y w g 3 _ _ _ h,a9Y w g 4 _ _ _ h,a9Y w g 5 _ _ _ h,a9Y w g 6 _ _ _ h,a9Y w g 7 _ _ _ h⟩
theorem a4R {w:World}{g:Nat}{A:Array Value}{ty:TypeId}(h:w.heap[g]?=some (.cells A ty (0,0))) :
  w.frozen? (Pv g 0)=false/\w.frozen? (Pv g 1)=false/\w.frozen? (Pv g 2)=false/\w.frozen? (Pv g 3)=false/\w.frozen? (Pv g 4)=false/\w.frozen? (Pv g 5)=false/\w.frozen? (Pv g 6)=false/\w.frozen? (Pv g 7)=false :=
 ⟨b0a _ _ _ _ _ h,b0a _ _ _ _ _ h,b0a _ _ _ _ _ h,b0a _ _ _ _ _ h,b0a _ _ _ _ _ h,b0a _ _ _ _ _ h,b0a _ _ _ _ _ h,b0a _ _ _ _ _ h⟩
theorem a5v (d s:Int) (t:Bool) (p:Int) (dr:Bool) (v y:Int) (ao:OA) (n c:Nat) (w:World) (h0:0<=s) (h1:s<18446744073709551616) :
  Calls prog 74 #[.agg #[Uv d,Uv s,.bool t,Iv p,.bool dr,Iv v,Iv y,.slice ao n c]] w λe w'=>e=.returned (Iv (wrong d s t p v y n))/\Bl w w':=by
 unfold wrong;have HM:Hid (∀w,Calls prog 113 #[Uv s] w λe w'=>e=.returned (.bool (decide (s/1099511627776%2=1)))/\w'=w):=λw=>a4s s w h0 h1;clear h0 h1;by_cases c1:281474976710655<d\/281474976710655<s
 ·rw[iP c1];by_cases c2:281474976710655<d
  ·go_enter func74,ntmps74;(go_wp2_with fail);go_ret;exact⟨rfl,(b0h _ _).alloc (b0g _) _⟩
  ·have c3:281474976710655<s:=om
   clear c1;go_enter func74,ntmps74;(go_wp2_with fail);go_ret;exact⟨rfl,(b0h _ _).alloc (b0g _) _⟩
 ·rw[iN c1];have c2:¬281474976710655<d:=om
  have c3:¬281474976710655<s:=om
  clear c1;by_cases c4:s/1099511627776%2=1
  ·rw[iP c4];go_enter func74,ntmps74;go_wp2_with (go_at_call 113;refine(HM.o _).mono ?_;rintro e w1 ⟨rfl,rfl⟩)
   go_ret;exact⟨rfl,(b0h _ _).alloc (b0g _) _⟩
  ·rw[iN c4];by_cases c5:t=true/\¬((0<=v/\v<=4094)/\0<=p/\p<=7)
   ·rw[iP c5];obtain⟨rfl,c6⟩:=c5;go_enter func74,ntmps74;go_wp2_with (first | (go_at_call 113;refine(HM.o _).mono ?_;rintro e w1 ⟨rfl,rfl⟩) | (go_at_call 114;refine(a2r _ _ _ _ _ _ _ _ _ _ _).mono ?_;rintro e w1 ⟨rfl,hb⟩))
    go_ret;exact⟨rfl,(bA1 _ _).trans (hb.mono (by simp))⟩
   ·rw[iN c5];have HB:Hid (∀w1:World,∀a0 a1 a2 a3 a4 a5 a6 a7:Value,Below (w.alloc (.cells #[a0,a1,a2,a3,a4,a5,a6,a7] 31)).heap.size (w.alloc (.cells #[a0,a1,a2,a3,a4,a5,a6,a7] 31)) w1->w1.cell? (Pv w.heap.size 6)=some a6/\w1.cell? (Pv w.heap.size 7)=some a7/\Hid (Bl w w1)):=by
     intro w1 a0 a1 a2 a3 a4 a5 a6 a7 hb;have h:=a0U ((hb.block _ (by simp)).trans (a9Z w (.cells #[a0,a1,a2,a3,a4,a5,a6,a7] 31)));exact⟨h.2.2.2.2.2.2.1,h.2.2.2.2.2.2.2,(bA1 w _).trans (hb.mono (by simp))⟩
    by_cases c6:(1536<=y/\y<=65535)/\y≠33024
    ·rw[iN (λh=>h c6)];have c7:decide ((1536<=y/\y<=65535)/\y≠33024)=true:=b0k c6;clear c6;cases t with
     | false =>
      clear c5;by_cases c8:(1500:Int)<n
      ·have c9:1500<n:=om
       rw[iP c9];clear c9;go_enter func74,ntmps74;go_wp2_with (first | (go_at_call 113;refine(HM.o _).mono ?_;rintro e w1 ⟨rfl,rfl⟩) | (go_at_call 115;refine(a1S _ _).mono ?_;rintro e w1 ⟨rfl,rfl⟩))
       go_ret;exact⟨rfl,(bA1 _ _)⟩
      ·have c9:¬1500<n:=om
       rw[iN c9];clear c9;go_enter func74,ntmps74;go_wp2_with (first | (go_at_call 113;refine(HM.o _).mono ?_;rintro e w1 ⟨rfl,rfl⟩) | (go_at_call 115;refine(a1S _ _).mono ?_;rintro e w1 ⟨rfl,rfl⟩))
       go_ret;exact⟨rfl,(bA1 _ _)⟩
     | true =>
      have ab:decide ((0<=v/\v<=4094)/\0<=p/\p<=7)=true:=b0k (by by_cases q:(0<=v/\v<=4094)/\0<=p/\p<=7;exact q;exact absurd ⟨rfl,q⟩ c5);clear c5;by_cases c8:(1500:Int)<n
      ·have c9:1500<n:=om
       rw[iP c9];clear c9;go_enter func74,ntmps74;go_wp2_with (first | (go_at_call 113;refine(HM.o _).mono ?_;rintro e w1 ⟨rfl,rfl⟩) | (go_at_call 114;refine(a2r _ _ _ _ _ _ _ _ _ _ _).mono ?_;rintro e w1 ⟨rfl,hb⟩;rw[ab];obtain⟨q6,q7,aa⟩:=HB.o _ _ _ _ _ _ _ _ _ hb;clear hb) | (go_at_call 115;refine(a1S _ _).mono ?_;rintro e w1 ⟨rfl,rfl⟩))
       go_ret;exact⟨rfl,aa.o⟩
      ·have c9:¬1500<n:=om
       rw[iN c9];clear c9;go_enter func74,ntmps74;go_wp2_with (first | (go_at_call 113;refine(HM.o _).mono ?_;rintro e w1 ⟨rfl,rfl⟩) | (go_at_call 114;refine(a2r _ _ _ _ _ _ _ _ _ _ _).mono ?_;rintro e w1 ⟨rfl,hb⟩;rw[ab];obtain⟨q6,q7,aa⟩:=HB.o _ _ _ _ _ _ _ _ _ hb;clear hb) | (go_at_call 115;refine(a1S _ _).mono ?_;rintro e w1 ⟨rfl,rfl⟩))
       go_ret;exact⟨rfl,aa.o⟩
    ·rw[iP c6];have c7:decide ((1536<=y/\y<=65535)/\y≠33024)=false:=b0j c6;clear c6;cases t with
     | false =>
      clear c5;go_enter func74,ntmps74;go_wp2_with (first | (go_at_call 113;refine(HM.o _).mono ?_;rintro e w1 ⟨rfl,rfl⟩) | (go_at_call 115;refine(a1S _ _).mono ?_;rintro e w1 ⟨rfl,rfl⟩;rw[c7]))
      go_ret;exact⟨rfl,(bA1 _ _)⟩
     | true =>
      have ab:decide ((0<=v/\v<=4094)/\0<=p/\p<=7)=true:=b0k (by by_cases q:(0<=v/\v<=4094)/\0<=p/\p<=7;exact q;exact absurd ⟨rfl,q⟩ c5);clear c5;go_enter func74,ntmps74;go_wp2_with (first | (go_at_call 113;refine(HM.o _).mono ?_;rintro e w1 ⟨rfl,rfl⟩) | (go_at_call 114;refine(a2r _ _ _ _ _ _ _ _ _ _ _).mono ?_;rintro e w1 ⟨rfl,hb⟩;rw[ab];obtain⟨q6,q7,aa⟩:=HB.o _ _ _ _ _ _ _ _ _ hb;clear hb) | (go_at_call 115;refine(a1S _ _).mono ?_;rintro e w1 ⟨rfl,rfl⟩;rw[c7]))
      go_ret;exact⟨rfl,aa.o⟩
