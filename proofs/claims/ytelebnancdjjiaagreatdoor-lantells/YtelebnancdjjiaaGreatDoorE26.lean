/- PQO2 -/
import Derived.Test.YtelebnancdjjiaaGreatDoorE25
set_option maxRecDepth 100000
set_option maxHeartbeats 40000000
namespace Go.Proofs.YtelebnancdjjiaaGreatDoor
section
open Go.Proofs.Tryz
open Go.RowKit
open Vc (V Of)
open Pl (Br Net Pc Lk En)
def a1C (es:Nat->Lk) (i:Nat) (x:Nat->Tk.Md) (k:Nat):List Of:=(Pl.endsTo es (λ_=>true) i k).map (Tk.heardOf x)
theorem a5E (es:Nat->Lk) (i:Nat) (x:Nat->Tk.Md) (k:Nat):(a1C es i x k).length<=2*k:=by
 unfold a1C;rw[List.length_map];induction k with
 | zero=>simp[Pl.endsTo]
 | succ k ih =>
  simp only[Pl.endsTo,List.length_append,Pl.endsAt];split<;>split<;>simp<;>omega
theorem a6r (lao:OA) (m lcap:Nat) (es:Nat->Lk) (i:Nat) (sb ac ab ae K:Nat) (x:Nat->Tk.Md) (w:World) (hm:m<=400) (ar:LRow w lao m lcap es) (hv:VRow w (some (Pv sb 0)) K ac (λo=>(x o).v)) (ha:IRow w (some (Pv ab 0)) K ae (λo=>(x o).age)) (aH:ab<w.heap.size)
  (aB:∀k,k<m->(0<=(es k).a/\(es k).a<K)/\(0<=(es k).b/\(es k).b<K)/\(es k).a≠(es k).b) :
  Calls prog 71 #[.slice lao m lcap,Iv i,.slice (some (Pv sb 0)) K ac,.slice (some (Pv ab 0)) K ae] w λe w'=>∃ao cap,e=.returned (.slice ao (a1C es i x m).length cap)/\ORow w' ao (a1C es i x m).length cap (Pl.lf (a1C es i x m))/\Bl w w'/\∀ad,ao=some ad->w.heap.size<=ad.block:=by
 obtain⟨X,HX⟩:=nm (((w.alloc (.cells #[.slice (some (Pv sb 0)) K ac] 150)).alloc (.cells #[.slice (some (Pv ab 0)) K ae] 52)).alloc (.cells #[sN] 151))
 have au:Bl w X:=(by rw[HX.o];exact((bA2 w _ _).alloc (by simp;omega) _))
 have aF:X.heap.size=w.heap.size+3:=(by rw[HX.o];simp)
 have ax:X.heap[w.heap.size]?=some (.cells #[.slice (some (Pv sb 0)) K ac] 150):=by
  rw[HX.o];exact((bA1 _ _).block _ (by simp;omega)).trans (b0d w _ _)
 have av:X.heap[w.heap.size+1]?=some (.cells #[.slice (some (Pv ab 0)) K ae] 52):=by
  rw[HX.o];exact((bA1 _ _).block _ (by simp)).trans (b0c w _ _)
 have az:X.heap[w.heap.size+2]?=some (.cells #[sN] 151):=by
  rw[HX.o];have:=a9Z ((w.alloc (.cells #[.slice (some (Pv sb 0)) K ac] 150)).alloc (.cells #[.slice (some (Pv ab 0)) K ae] 52)) (.cells #[sN] 151);simpa using this
 obtain⟨OB,ap⟩:=nm (w.heap.size+2)
 have ag:Hid (∀W,Below OB X W->W.cell? (Pv w.heap.size 0)=some (.slice (some (Pv sb 0)) K ac)/\W.cell? (Pv (w.heap.size+1) 0)=some (.slice (some (Pv ab 0)) K ae)/\VRow W (some (Pv sb 0)) K ac (λo=>(x o).v)/\IRow W (some (Pv ab 0)) K ae (λo=>(x o).age)/\LRow W lao m lcap es/\Bl w W):=λW hW=>by
  rw[ap.o] at hW;have hw:Bl w W:=au.trans (hW.mono om);exact⟨a2C ((hW.block _ om).trans ax),a2C ((hW.block _ om).trans av),CRow.below hv hw,CRow.below ha hw,CRow.below ar hw,hw⟩
 have H0:Hid (∃v,OffW X X OB (a1C es i x 0) v):=⟨sN,b0h _ _,by rw[ap.o];exact az,a0y _ _ _ _ _⟩
 have aE:=ar.1;have al:Hid (∀k,k<m->(0<=(es k).a/\(es k).a<K)/\(0<=(es k).b/\(es k).b<K)/\(es k).a≠(es k).b):=aB;have ay:Hid (w.heap.size+1<OB/\ab<OB):=(by rw[ap.o];exact⟨om,om⟩)
 clear ar hv ha aB ax av az au aF;go_enter func71,ntmps71;(go_wp2_with fail);rw[<-HX.o];rw[<-ap.o];go_loopw [16] (λq wr=>∃k:Nat,k<=m/\q=Iv k/\Hid (∃v,OffW X wr OB (a1C es i x k) v)) (λq _=>m-(intOf q).toNat)
 case atStart=>exact⟨0,om,rfl,H0⟩
 case round =>
  obtain⟨k,hk,rfl,hX⟩:=hrel;clear H0;obtain⟨v,hO⟩:=hX.o;by_cases hlt:k<m
  ·obtain⟨_,_,_,_,f5,_⟩:=ag.o wr hO.low;obtain⟨lb,aG,rfl,_⟩:=CRow.some f5 om;obtain⟨c0,c1,c2,c3,c4,c5⟩:=LRow.cells f5 hlt;obtain⟨o1,o2,o3⟩:=al.o k hlt;have ah:=a5E es i x k;have aa:a1C es i x (k+1)=a1C es i x k++(Pl.endsAt (es k) true i).map (Tk.heardOf x):=(by unfold a1C;simp only[Pl.endsTo,List.map_append])
   have i0:(0:Int)<=(k:Int):=om
   have i1:(k:Int)<(m:Int):=om
   generalize es k=l at *;obtain⟨a,pa,b,pb,c,up⟩:=l;simp only at c0 c1 c2 c3 c4 c5 o1 o2 o3;unfold Pl.endsAt at aa;simp only at aa;obtain⟨na,aC⟩:∃na:Nat,a=na:=⟨a.toNat,om⟩
   obtain⟨nb,aD⟩:∃nb:Nat,b=nb:=⟨b.toNat,om⟩
   subst aC;subst aD;obtain⟨Y,HY⟩:=nm (wr.alloc (.cells #[Iv na,Iv pa,Iv nb,Iv pb,Iv c,.bool up] 103))
   have aq:Bl wr Y:=(by rw[HY.o];exact bA1 _ _)
   have aj:Y.heap[wr.heap.size]?=some (.cells #[Iv na,Iv pa,Iv nb,Iv pb,Iv c,.bool up] 103):=(by rw[HY.o];exact a9Z _ _)
   have ak:=hO.below aq;obtain⟨g1,g2,g3,g4,_,_⟩:=ag.o Y ak.low;have am:Hid (∀(af other:Int) (o:Nat),o<K->Calls prog 109 #[Iv af,Iv c,Iv o,Iv other,.pointer (some (Pv w.heap.size 0)),.pointer (some (Pv OB 0)),.pointer (some (Pv (w.heap.size+1) 0))] Y λe w'=>∃v',e=.returned (.tuple #[])/\Hid (OffW X w' OB (a1C es i x k++[⟨af,c,(x o).age,⟨(x o).v.root,(x o).v.cost,(x o).v.bridge,other⟩⟩]) v'/\w'.heap[wr.heap.size]?=some (.cells #[Iv na,Iv pa,Iv nb,Iv pb,Iv c,.bool up] 103))):=λaf other o ho=>by
    refine(radd_any X w.heap.size (w.heap.size+1) OB sb 0 ac ab 0 ae K o (λo=>(x o).v) (λo=>(x o).age) af c other (a1C es i x k) v Y ho om ak g1 g2 g3 g4 ay.o).mono ?_;rintro e w' ⟨v',rfl,hh⟩;obtain⟨z1,z2⟩:=hh.o;refine⟨v',rfl,z1,(z2 wr.heap.size (gSm.1 aj).1 ?_ ?_).trans aj⟩
    ·have:=(gSm.1 hO.box).1;omega
    ·intro p;have:=(oCb hO.own _ p).2;omega
   obtain⟨q0,q1,q2,q3,q4,_⟩:=a1s aj;by_cases hia:(na:Int)=(i:Int)
   ·have an:¬(nb:Int)=(i:Int):=om
    rw[iP hia,iN an,List.append_nil] at aa;have e2:((nb:Int) == (i:Int))=false:=(by simp;omega)
    have hc:=am.o pa pb nb om;have HC:Hid (Calls prog 109 #[Iv pa,Iv c,Iv nb,Iv pb,.pointer (some (Pv w.heap.size 0)),.pointer (some (Pv OB 0)),.pointer (some (Pv (w.heap.size+1) 0))] Y λe w'=>∃v',e=.returned (.tuple #[])/\Hid (OffW X w' OB (a1C es i x (k+1)) v'/\w'.heap[wr.heap.size]?=some (.cells #[Iv na,Iv pa,Iv nb,Iv pb,Iv c,.bool up] 103))):=by
     rw[aa];exact hc
    have hn:na=i:=om
    clear hc am hX hO f5 aa aq aj ak g1 g2 g3 g4 ag al o1 o2 o3 hia ah;subst hn;rw[HY.o] at q0 q1 q2 q3 q4;(go_wp2_with fail);rw[<-HY.o];refine HC.o.mono ?_;rintro e w2 ⟨v',rfl,HN⟩;obtain⟨_,_,p2,_,_,_⟩:=a1s HN.o.2;have ai:Hid (∃v,OffW X w2 OB (a1C es na x (k+1)) v):=⟨v',HN.o.1⟩
    clear HC HN q0 q1 q2 q3 q4;(go_wp2_with fail);exact⟨⟨k+1,om,gn,ai⟩,io⟩
   ·have e1:((na:Int) == (i:Int))=false:=(by simp;omega)
    rw[iN hia,List.nil_append] at aa;by_cases an:(nb:Int)=(i:Int)
    ·rw[iP an] at aa;have hc:=am.o pb pa na om;have HC:Hid (Calls prog 109 #[Iv pb,Iv c,Iv na,Iv pa,.pointer (some (Pv w.heap.size 0)),.pointer (some (Pv OB 0)),.pointer (some (Pv (w.heap.size+1) 0))] Y λe w'=>∃v',e=.returned (.tuple #[])/\Hid (OffW X w' OB (a1C es i x (k+1)) v'/\w'.heap[wr.heap.size]?=some (.cells #[Iv na,Iv pa,Iv nb,Iv pb,Iv c,.bool up] 103))):=by
      rw[aa];exact hc
     have hn:nb=i:=om
     clear hc am hX hO f5 aa aq aj ak g1 g2 g3 g4 ag al o1 o2 o3 an ah hia;subst hn;rw[HY.o] at q0 q1 q2 q3 q4;(go_wp2_with fail);rw[<-HY.o];refine HC.o.mono ?_;rintro e w2 ⟨v',rfl,HN⟩;have ai:Hid (∃v,OffW X w2 OB (a1C es nb x (k+1)) v):=⟨v',HN.o.1⟩
     clear HC HN q0 q1 q2 q3 q4;(go_wp2_with fail);exact⟨⟨k+1,om,gn,ai⟩,io⟩
    ·have e2:((nb:Int) == (i:Int))=false:=(by simp;omega)
     rw[iN an] at aa;have aw:a1C es i x (k+1)=a1C es i x k:=(by rw[aa];simp)
     have ai:Hid (∃v,OffW X Y OB (a1C es i x (k+1)) v):=⟨v,by rw[aw];exact ak⟩
     clear am hX hO f5 aa aq aj ak g1 g2 g3 g4 ag al o1 o2 o3 ah aw;rw[HY.o] at ai q0 q2;(go_wp2_with fail);exact⟨⟨k+1,om,gn,ai⟩,io⟩
  ·obtain rfl:k=m:=om
   obtain⟨ao,cap,ev,h1,_,h3⟩:=a0W om hO.own;have hb:=a2C hO.box;have hw:=(ag.o wr hO.low).2.2.2.2.2;subst ev;have HF:Hid (ORow wr ao (a1C es i x k).length cap (Pl.lf (a1C es i x k))/\Bl w wr/\∀ad,ao=some ad->w.heap.size<=ad.block):=⟨h1,hw,λad e=>by have:=h3 ad e;have:=ay.o;omega⟩
   clear hX hO h1 h3 hw ag al;(go_wp2_with fail);go_ret;exact⟨ao,cap,rfl,HF.o⟩
end
section
open Go.Proofs.Tryz
open Go.RowKit
open Vc (V)
theorem a3X (a b:V) (w:World) :
  Calls prog 111 #[.agg #[Uv a.root,Iv a.cost,Uv a.bridge,Iv a.port],.agg #[Uv b.root,Iv b.cost,Uv b.bridge,Iv b.port]] w λe w'=>e=.returned (.bool (decide (Vc.lt a b)))/\Bl w w':=by
 obtain⟨ar,ac,ab,ap⟩:=a;obtain⟨br,bc,bb,bp⟩:=b;have H:Hid (∀x:Bool,(x=true↔(ar<br\/(ar=br/\(ac<bc\/(ac=bc/\(ab<bb\/(ab=bb/\ap<bp)))))))->decide (Vc.lt ⟨ar,ac,ab,ap⟩ ⟨br,bc,bb,bp⟩)=x):=λx hx=>by
  cases x with
  | true=>exact b0k (hx.1 rfl)
  | false=>exact b0j (λq=>by have:=hx.2 q;cases this)
 simp only;by_cases h1:ar=br
 ·have d1:(ar != br)=false:=(by simp[h1])
  by_cases h2:ac=bc
  ·have d2:(ac != bc)=false:=(by simp[h2])
   by_cases h3:ab=bb
   ·have d3:(ab != bb)=false:=(by simp[h3])
    have HX:Hid (decide (Vc.lt ⟨ar,ac,ab,ap⟩ ⟨br,bc,bb,bp⟩)=decide (ap<bp)):=H.o _ (by simp only[decide_eq_true_eq];omega);clear H h1 h2 h3;go_enter func111,ntmps111;(go_wp2_with fail);go_ret;exact⟨by rw[HX.o];rfl,bA2 _ _ _⟩
   ·have d3:(ab != bb)=true:=(by simp[h3])
    have HX:Hid (decide (Vc.lt ⟨ar,ac,ab,ap⟩ ⟨br,bc,bb,bp⟩)=decide (ab<bb)):=H.o _ (by simp only[decide_eq_true_eq];omega);clear H h1 h2 h3;go_enter func111,ntmps111;(go_wp2_with fail);go_ret;exact⟨by rw[HX.o];rfl,bA2 _ _ _⟩
  ·have d2:(ac != bc)=true:=(by simp[h2])
   have HX:Hid (decide (Vc.lt ⟨ar,ac,ab,ap⟩ ⟨br,bc,bb,bp⟩)=decide (ac<bc)):=H.o _ (by simp only[decide_eq_true_eq];omega);clear H h1 h2;go_enter func111,ntmps111;(go_wp2_with fail);go_ret;exact⟨by rw[HX.o];rfl,bA2 _ _ _⟩
 ·have d1:(ar != br)=true:=(by simp[h1])
  have HX:Hid (decide (Vc.lt ⟨ar,ac,ab,ap⟩ ⟨br,bc,bb,bp⟩)=decide (ar<br)):=H.o _ (by simp only[decide_eq_true_eq];omega);clear H h1;go_enter func111,ntmps111;(go_wp2_with fail);go_ret;exact⟨by rw[HX.o];rfl,bA2 _ _ _⟩
end
section
open Go.Proofs.Tryz
open Go.RowKit
open Vc (V Of)
theorem a9u (s:V) (root aa:Int) (ao:OA) (n cap:Nat) (os:Nat->Of) (w:World) (hn:n<=9223372036854775807) (hr:ORow w ao n cap os) :
  Calls prog 112 #[.agg #[Uv s.root,Iv s.cost,Uv s.bridge,Iv s.port],Iv root,Iv aa,.slice ao n cap] w λe w'=>e=.returned (Iv (Vc.role s root aa os n))/\Bl w w':=by
 have HR:Hid (ORow w ao n cap os):=hr;clear hr;unfold Vc.role;by_cases h0:aa=root
 ·rw[iP h0];subst h0;go_enter func112,ntmps112;(go_wp2_with fail);go_ret;exact⟨rfl,bA1 _ _⟩
 ·rw[iN h0];obtain⟨R,hR⟩:∃R:Int,(if Vc.someTo (λi=>decide (Vc.hears s aa (os i))) n=true then(3:Int) else 2)=R:=⟨_,rfl⟩
  rw[hR];have ai:Hid (Vc.someTo (λi=>decide (Vc.hears s aa (os i))) n=true->R=3):=λh=>by rw[<-hR,iP h]
  have ak:Hid (Vc.someTo (λi=>decide (Vc.hears s aa (os i))) n=false->R=2):=λh=>by rw[<-hR,h];rfl
  clear hR;have d0:(aa == root)=false:=(by simp[h0])
  have aj:Hid (∀(a b:V) (W:World),Calls prog 111 #[.agg #[Uv a.root,Iv a.cost,Uv a.bridge,Iv a.port],.agg #[Uv b.root,Iv b.cost,Uv b.bridge,Iv b.port]] W λe w'=>e=.returned (.bool (decide (Vc.lt a b)))/\Bl W w'):=λa b W=>a3X a b W;have HH:Hid (∀o,decide (Vc.hears s aa o)=decide (o.port=aa/\(0<=o.age/\o.age<=20)/\Vc.lt o.vec ⟨s.root,s.cost,s.bridge,aa⟩)):=λo=>rfl;have H0:Hid (((w.alloc (.cells #[Uv s.root,Iv s.cost,Uv s.bridge,Iv s.port] 115)).alloc (.cells #[Uv s.root,Iv s.cost,Uv s.bridge,Iv aa] 115)).heap[w.heap.size+1]?=some (.cells #[Uv s.root,Iv s.cost,Uv s.bridge,Iv aa] 115)):=b0c w _ _;go_enter func112,ntmps112;(go_wp2_with fail);go_loopw [25] (λi wr=>∃k:Nat,k<=n/\i=Iv k/\Hid (Vc.someTo (λi=>decide (Vc.hears s aa (os i))) k=false)/\Hid (wr.heap[w.heap.size+1]?=some (.cells #[Uv s.root,Iv s.cost,Uv s.bridge,Iv aa] 115)/\Bl w wr)) (λi _=>n-(intOf i).toNat)
  case atStart=>exact⟨0,om,rfl,rfl,H0.o,bA2 _ _ _⟩
  case round =>
   obtain⟨k,hk,rfl,hS,hX⟩:=hrel;by_cases hlt:k<n
   ·obtain⟨b,off,rfl,hb⟩:=CRow.some HR.o om;have ah:=HR.o.1;obtain⟨c0,c1,c2,c3,c4,c5,c6⟩:=ORow.cells (CRow.other HR.o (w':=wr) (λq _ _ hq=>hX.o.2.block q hq) hX.o.2.size) hlt;obtain⟨v0,v1,v2,v3⟩:=a1p hX.o.1;have ad:Hid (decide (Vc.hears s aa (os k))=false->Vc.someTo (λi=>decide (Vc.hears s aa (os i))) (k+1)=false):=λh=>by
     show(Vc.someTo _ k||decide (Vc.hears s aa (os k)))=false;rw[h,hS.o];rfl
    have ab:Hid (decide (Vc.hears s aa (os k))=true->Vc.someTo (λi=>decide (Vc.hears s aa (os i))) n=true):=λh=>a3E _ k h n hlt;rw[HH.o] at ad ab;have ac:Hid (∀o,(wr.alloc o).heap[w.heap.size+1]?=some (.cells #[Uv s.root,Iv s.cost,Uv s.bridge,Iv aa] 115)/\Bl w (wr.alloc o)):=λo=>⟨keep hX.o.1 (bA1 _ _),hX.o.2.alloc hX.o.2.size _⟩
    have u0:∀o,(wr.alloc o).cell? (Pv (w.heap.size+1) 0)=some (Uv s.root):=λo=>(a1p (ac.o o).1).1;have u1:∀o,(wr.alloc o).cell? (Pv (w.heap.size+1) 1)=some (Iv s.cost):=λo=>(a1p (ac.o o).1).2.1;have u2:∀o,(wr.alloc o).cell? (Pv (w.heap.size+1) 2)=some (Uv s.bridge):=λo=>(a1p (ac.o o).1).2.2.1;have u3:∀o,(wr.alloc o).cell? (Pv (w.heap.size+1) 3)=some (Iv aa):=λo=>(a1p (ac.o o).1).2.2.2;clear hX hS hb HH HR H0;generalize os k=o at *;obtain⟨op,oc,oa,⟨vr,vc,vb,vp⟩⟩:=o;simp only at c0 c1 c2 c3 c4 c5 c6 ad ab;by_cases p1:op=aa
    ·have e1:(op == aa)=true:=(by simp[p1])
     by_cases p2:0<=oa
     ·by_cases p3:oa<=20
      ·have af:Hid (∀W,Calls prog 111 #[.agg #[Uv vr,Iv vc,Uv vb,Iv vp],.agg #[Uv s.root,Iv s.cost,Uv s.bridge,Iv aa]] W λe w'=>e=.returned (.bool (decide (Vc.lt ⟨vr,vc,vb,vp⟩ ⟨s.root,s.cost,s.bridge,aa⟩)))/\Bl W w'):=λW=>aj.o ⟨vr,vc,vb,vp⟩ ⟨s.root,s.cost,s.bridge,aa⟩ W;by_cases p4:Vc.lt ⟨vr,vc,vb,vp⟩ ⟨s.root,s.cost,s.bridge,aa⟩
       ·have HF:Hid (Vc.someTo (λi=>decide (Vc.hears s aa (os i))) n=true):=ab.o (b0k ⟨p1,⟨p2,p3⟩,p4⟩);rw[b0k p4] at af;clear p4 ad ab p1;(go_wp2_with fail);refine(af.o _).mono ?_;rintro e w2 ⟨rfl,ae⟩;have ag:Hid (Bl w w2):=(ac.o _).2.trans (ae.mono (ac.o _).2.size);clear ae;(go_wp2_with fail);go_ret;exact⟨by rw[ai.o HF.o];rfl,ag.o⟩
       ·have HF:Hid (Vc.someTo (λi=>decide (Vc.hears s aa (os i))) (k+1)=false):=ad.o (b0j (λq=>p4 q.2.2));rw[b0j p4] at af;clear p4 ad ab p1;(go_wp2_with fail);refine(af.o _).mono ?_;rintro e w2 ⟨rfl,ae⟩;have ag:Hid (w2.heap[w.heap.size+1]?=some (.cells #[Uv s.root,Iv s.cost,Uv s.bridge,Iv aa] 115)/\Bl w w2):=⟨keep (ac.o _).1 ae,(ac.o _).2.trans (ae.mono (ac.o _).2.size)⟩
        clear ae;(go_wp2_with fail);exact⟨⟨k+1,om,gn,HF,ag⟩,io⟩
      ·have HF:Hid (Vc.someTo (λi=>decide (Vc.hears s aa (os i))) (k+1)=false):=ad.o (b0j (λq=>p3 q.2.1.2));clear ad ab p1;(go_wp2_with fail);exact⟨⟨k+1,om,gn,HF,ac.o _⟩,io⟩
     ·have HF:Hid (Vc.someTo (λi=>decide (Vc.hears s aa (os i))) (k+1)=false):=ad.o (b0j (λq=>p2 q.2.1.1));clear ad ab p1;(go_wp2_with fail);exact⟨⟨k+1,om,gn,HF,ac.o _⟩,io⟩
    ·have e1:(op == aa)=false:=(by simp[p1])
     have HF:Hid (Vc.someTo (λi=>decide (Vc.hears s aa (os i))) (k+1)=false):=ad.o (b0j (λq=>p1 q.1));clear ad ab p1;(go_wp2_with fail);exact⟨⟨k+1,om,gn,HF,ac.o _⟩,io⟩
   ·obtain rfl:k=n:=om
    (go_wp2_with fail);go_ret;exact⟨by rw[ak.o hS.o];rfl,hX.o.2⟩
end
section
open Go.Proofs.Tryz
open Go.RowKit
open Vc (V Of)
open Pl (Br Net Pc Lk En)
def a7Z (es:Nat->Lk) (m i:Nat) (R:Int->Int) (p:Int):Int:=if Vc.someTo (λj=>Pl.isEnd (es j) (i:Int) p) m=true then R p else 0
def rlTo (pts:List Int) (f:Int->Int):Nat->List Int
 | 0=>[]
 | k+1=>rlTo pts f k++[f (IL pts k)]
theorem a5a (pts:List Int) (f:Int->Int):∀k,(rlTo pts f k).length=k
 | 0=>rfl
 | k+1=>by simp[rlTo,a5a pts f k]
theorem a5F (pts:List Int) (f:Int->Int):∀k,k<=pts.length->rlTo pts f k=(pts.take k).map f
 | 0,_=>by simp[rlTo]
 | k+1,h=>by
  have hk:k<pts.length:=om
  simp only[rlTo];rw[a5F pts f k om,List.take_add_one,List.getElem?_eq_getElem hk,List.map_append];simp[IL,List.getD,List.getElem?_eq_getElem hk]
theorem a6T (pts:List Int) (f:Int->Int):rlTo pts f pts.length=pts.map f:=by
 rw[a5F pts f _ (b0g _),List.take_length]
def rkTo (es:Nat->Lk) (i:Nat) (p ρ:Int) (j:Nat):Int:=if Vc.someTo (λj=>Pl.isEnd (es j) (i:Int) p) j=true then ρ else 0
theorem rkTo_yes {es:Nat->Lk}{i:Nat}{p ρ:Int}{j:Nat}(h:Pl.isEnd (es j) (i:Int) p=true):rkTo es i p ρ (j+1)=ρ:=by
 unfold rkTo;rw[iP (by simp only[Vc.someTo];rw[h,Bool.or_true])]
theorem rkTo_no {es:Nat->Lk}{i:Nat}{p ρ:Int}{j:Nat}(h:Pl.isEnd (es j) (i:Int) p=false):rkTo es i p ρ (j+1)=rkTo es i p ρ j:=by
 unfold rkTo;have:Vc.someTo (λj=>Pl.isEnd (es j) (i:Int) p) (j+1)=Vc.someTo (λj=>Pl.isEnd (es j) (i:Int) p) j:=by
  simp only[Vc.someTo];rw[h,Bool.or_false]
 rw[this]
theorem a8a (n:Net) (lao:OA) (m lcap:Nat) (es:Nat->Lk) (i:Nat) (s:V) (rp:Int) (os:List Of) (oao:OA) (ocap:Nat) (w:World) (aR:n.at' w) (hL:n.L<=40) (R:Pl.RightL n.K n.L n.ls) (hm:m<=400) (aH:LRow w lao m lcap es) (a7:os.length<=1000) (ho:ORow w oao os.length ocap (Pl.lf os)) (aO:∀k,k<m->(es k).a≠(es k).b) :
  Calls prog 73 #[n.val,.slice lao m lcap,Iv i,.agg #[Uv s.root,Iv s.cost,Uv s.bridge,Iv s.port],Iv rp,.slice oao os.length ocap] w λe w'=>∃ao cap,e=.returned (.slice ao (Pl.ptsAll n.ls n.L i 30).length cap)/\IRow w' ao (Pl.ptsAll n.ls n.L i 30).length cap (IL ((Pl.ptsAll n.ls n.L i 30).map (a7Z es m i (λp=>Vc.role s rp p (Pl.lf os) os.length))))/\(∀ad,ao=some ad->w.heap.size<=ad.block)/\Bl w w'/\w'.ownsRow w.heap.size 3 1 (.slice ao (Pl.ptsAll n.ls n.L i 30).length cap) (Pl.ptsAll n.ls n.L i 30).length (a0j ((Pl.ptsAll n.ls n.L i 30).map (a7Z es m i (λp=>Vc.role s rp p (Pl.lf os) os.length)))):=by
 obtain⟨X,HX⟩:=nm ((w.alloc (.cells #[.slice n.bao n.K n.bcap,.slice n.lao n.L n.lcap] 25)).alloc (.cells #[Uv s.root,Iv s.cost,Uv s.bridge,Iv s.port] 115))
 have ak:Bl w X:=(by rw[HX.o];exact bA2 _ _ _)
 have aU:X.heap[w.heap.size]?=some (.cells #[.slice n.bao n.K n.bcap,.slice n.lao n.L n.lcap] 25):=(by rw[HX.o];exact b0d w _ _)
 have aL:X.heap[w.heap.size+1]?=some (.cells #[Uv s.root,Iv s.cost,Uv s.bridge,Iv s.port] 115):=(by rw[HX.o];exact b0c w _ _)
 have ai:Hid (∀W,Bl X W->W.heap[w.heap.size+1]?=some (.cells #[Uv s.root,Iv s.cost,Uv s.bridge,Iv s.port] 115)/\LRow W lao m lcap es/\ORow W oao os.length ocap (Pl.lf os)/\Bl w W):=λW hW=>by
  have h1:=ak.trans (hW.mono ak.size);exact⟨keep aL hW,CRow.below aH h1,CRow.below ho h1,h1⟩
 obtain⟨n0,n1⟩:=tC2 aU;rw[HX.o] at n0 n1;have an:(Pl.ptsAll n.ls n.L i 30).length<=1200:=by
  have h1:=a2P n.ls n.L i 30;have h3:30*n.L<=30*40:=Nat.mul_le_mul (b0g _) hL;omega
 obtain⟨pts,am⟩:=nm (Pl.ptsAll n.ls n.L i 30)
 have aT:Hid (Calls prog 35 #[n.val,Iv i] X λe w'=>∃ao cap,e=.returned (.slice ao pts.length cap)/\IRow w' ao pts.length cap (IL pts)/\Bl X w'):=by
  refine(a7R n i X (aR.below ak) hL R).mono ?_;rintro e w' ⟨ao,cap,rfl,z1,_,_,z4⟩;rw[<-am.o] at z1 ⊢;exact⟨ao,cap,rfl,z1,z4⟩
 rw[<-am.o] at an ⊢;obtain⟨f,HF⟩:=nm (a7Z es m i (λp=>Vc.role s rp p (Pl.lf os) os.length))
 rw[<-HF.o];have a4:=aH.1;have aq:Hid (∀k,k<m->(es k).a≠(es k).b):=aO;have a8:=ak.size;clear aR R aH ho aO aU aL ak;simp only[Pl.Net.val] at *;go_enter func73,ntmps73;(go_wp2_with fail);rw[<-HX.o];refine aT.o.mono ?_;rintro e w1 ⟨aW,ax,rfl,hP,ar⟩;have HP:Hid (∀W,Bl w1 W->IRow W aW pts.length ax (IL pts)/\Bl X W):=λW hW=>⟨CRow.below hP hW,ar.trans (hW.mono ar.size)⟩
 have bb:=hP.1;have H0:Hid (w1.ownsRow w1.heap.size 3 1 (.slice none (rlTo pts f 0).length 0) (rlTo pts f 0).length (a0j (rlTo pts f 0))/\Bl w1 w1):=⟨a0y _ _ _ _ _,b0h _ _⟩
 have ba:=ar.size;clear aT hP ar n0 n1;(go_wp2_with fail);go_loopw [13,23] (λaX aG wr=>∃(k:Nat) (ao:OA) (cap:Nat),k<=pts.length/\aG=Iv k/\aX=.slice ao (rlTo pts f k).length cap/\Hid (wr.ownsRow w1.heap.size 3 1 (.slice ao (rlTo pts f k).length cap) (rlTo pts f k).length (a0j (rlTo pts f k))/\Bl w1 wr)) (λ_ aG _=>pts.length-(intOf aG).toNat)
 case atStart=>exact⟨0,none,0,om,rfl,rfl,H0⟩
 case round =>
  obtain⟨k,ao,cap,hk,rfl,rfl,hW⟩:=hrel;clear H0;by_cases hlt:k<pts.length
  ·obtain⟨f1,f2⟩:=HP.o wr hW.o.2;obtain⟨pb,aY,rfl,_⟩:=CRow.some f1 om;have c0:=IRow.cells f1 hlt;have i0:(0:Int)<=(k:Int):=om
   have i1:(k:Int)<(pts.length:Int):=om
   obtain⟨p,ap⟩:=nm (IL pts k)
   rw[<-ap.o] at c0;obtain⟨ρ,ac⟩:=nm (Vc.role s rp p (Pl.lf os) os.length)
   have aj:Hid (Bl X wr):=f2;have HW:Hid (wr.ownsRow w1.heap.size 3 1 (.slice ao (rlTo pts f k).length cap) (rlTo pts f k).length (a0j (rlTo pts f k))/\Bl w1 wr):=hW;have aD:Hid (f p=rkTo es i p ρ m):=(by rw[HF.o,ac.o];rfl)
   have a5:Hid ((rlTo pts f k).length=k):=a5a pts f k;have aE:Hid (∀W,Bl wr W->Calls prog 112 #[.agg #[Uv s.root,Iv s.cost,Uv s.bridge,Iv s.port],Iv rp,Iv p,.slice oao os.length ocap] W λe w'=>e=.returned (Iv ρ)/\Hid (Bl wr w')):=λW av=>by
    refine(a9u s rp p oao os.length ocap (Pl.lf os) W om (ai.o W (aj.o.trans (av.mono aj.o.size))).2.2.1).mono ?_;rintro e w' ⟨rfl,z⟩;exact⟨by rw[ac.o],av.trans (z.mono av.size)⟩
   have aN:Hid (Bl wr wr):=b0h _ _;clear hW f1 f2;obtain⟨V,hV⟩:=nn wr
   subst hV;(go_wp2_with fail);go_loopw [16,29] (λaZ az wi=>∃j:Nat,j<=m/\az=Iv j/\aZ=Iv (rkTo es i p ρ j)/\Hid (Bl V wi)) (λ_ az _=>m-(intOf az).toNat)
   case atStart=>exact⟨0,om,rfl,rfl,aN⟩
   case round =>
    obtain⟨j,hj,rfl,rfl,hY⟩:=hrel;clear aN;by_cases hjm:j<m
    ·have aV:Bl X wr:=aj.o.trans (hY.o.mono aj.o.size);obtain⟨g1,g2,_,_⟩:=ai.o wr aV;obtain⟨lb,a6,el,_⟩:=CRow.some g2 om;rw[el] at g2 ⊢;obtain⟨d0,d1,d2,d3,d4,d5⟩:=LRow.cells g2 hjm;have o3:=aq.o j hjm;have aa:Pl.isEnd (es j) (i:Int) p=(decide ((es j).a=(i:Int)/\(es j).pa=p)||decide ((es j).b=(i:Int)/\(es j).pb=p)):=rfl;obtain⟨Z,HZ⟩:=nm (wr.alloc (.cells (lkA (es j)) 103))
     have aI:Bl wr Z:=(by rw[HZ.o];exact bA1 _ _)
     have aF:Bl V Z:=hY.o.trans (aI.mono hY.o.size);obtain⟨v0,v1,v2,v3⟩:=a1p (keep g1 aI);have ab:Hid (Calls prog 112 #[.agg #[Uv s.root,Iv s.cost,Uv s.bridge,Iv s.port],Iv rp,Iv p,.slice oao os.length ocap] Z λe w'=>e=.returned (Iv ρ)/\Hid (Bl V w')):=aE.o Z aF;have af:Hid (Bl V Z):=aF;have j0:(0:Int)<=(j:Int):=om
     have j1:(j:Int)<(m:Int):=om
     have ah:Hid (Pl.isEnd (es j) (i:Int) p=true->rkTo es i p ρ (j+1)=ρ):=rkTo_yes;have ag:Hid (Pl.isEnd (es j) (i:Int) p=false->rkTo es i p ρ (j+1)=rkTo es i p ρ j):=rkTo_no;clear hY aV g1 g2 el aI aF ai aq aE aD ac ap HF am;generalize Pl.isEnd (es j) (i:Int) p=D at *;generalize es j=l at *;obtain⟨la,pa,al,aC,co,up⟩:=l;simp only at d0 d1 d2 d3 d4 d5 o3 aa;simp only[lkA] at *;rw[HZ.o] at v0 v1 v2 v3;by_cases ea:la=(i:Int)
     ·have fb:¬al=(i:Int):=om
      by_cases ep:pa=p
      ·have hD:D=true:=(by rw[aa,b0k ⟨ea,ep⟩,Bool.true_or])
       have ae:Hid (rkTo es i p ρ (j+1)=ρ):=ah.o hD;clear ah ag aa hD;subst ea;subst ep;(go_wp2_with fail);rw[<-HZ.o];refine ab.o.mono ?_;rintro e w2 ⟨rfl,ay⟩;clear ab af v0 v1 v2 v3;(go_wp2_with fail);exact⟨⟨j+1,om,gn,by rw[ae.o],ay⟩,io⟩
      ·have hD:D=false:=(by rw[aa,b0j (λh=>ep h.2),b0j (λh=>fb h.1)];rfl)
       have ae:Hid (rkTo es i p ρ (j+1)=rkTo es i p ρ j):=ag.o hD;have g1:(pa == p)=false:=(by simp[ep])
       have g2:(al == (i:Int))=false:=(by simp[fb])
       rw[HZ.o] at af;clear ah ag aa hD ab;subst ea;(go_wp2_with fail);exact⟨⟨j+1,om,gn,by rw[ae.o],af⟩,io⟩
     ·have g0:(la == (i:Int))=false:=(by simp[ea])
      by_cases eb:al=(i:Int)
      ·by_cases ep:aC=p
       ·have hD:D=true:=(by rw[aa,b0k (⟨eb,ep⟩:al=(i:Int)/\aC=p),Bool.or_true])
        have ae:Hid (rkTo es i p ρ (j+1)=ρ):=ah.o hD;clear ah ag aa hD;subst eb;subst ep;(go_wp2_with fail);rw[<-HZ.o];refine ab.o.mono ?_;rintro e w2 ⟨rfl,ay⟩;clear ab af v0 v1 v2 v3;(go_wp2_with fail);exact⟨⟨j+1,om,gn,by rw[ae.o],ay⟩,io⟩
       ·have hD:D=false:=(by rw[aa,b0j (λh=>ea h.1),b0j (λh=>ep h.2)];rfl)
        have ae:Hid (rkTo es i p ρ (j+1)=rkTo es i p ρ j):=ag.o hD;have g1:(aC == p)=false:=(by simp[ep])
        rw[HZ.o] at af;clear ah ag aa hD ab;subst eb;(go_wp2_with fail);exact⟨⟨j+1,om,gn,by rw[ae.o],af⟩,io⟩
      ·have hD:D=false:=(by rw[aa,b0j (λh=>ea h.1),b0j (λh=>eb h.1)];rfl)
       have ae:Hid (rkTo es i p ρ (j+1)=rkTo es i p ρ j):=ag.o hD;have g1:(al == (i:Int))=false:=(by simp[eb])
       rw[HZ.o] at af;clear ah ag aa hD ab;(go_wp2_with fail);exact⟨⟨j+1,om,gn,by rw[ae.o],af⟩,io⟩
    ·obtain rfl:j=m:=om
     have hB:Bl w1 wr:=HW.o.2.trans (hY.o.mono HW.o.2.size);have a3:w1.heap.size<=wr.heap.size:=hB.size;obtain⟨a1,aQ,w2,r,aM,aJ⟩:=a3A (a0h HW.o.1 hY.o) a3 (by have:=a5.o;omega) (f p);have aw:rlTo pts f (k+1)=rlTo pts f k++[f p]:=(by rw[ap.o];rfl)
     have HN:Hid (w2.ownsRow w1.heap.size 3 1 (.slice a1 (rlTo pts f (k+1)).length aQ) (rlTo pts f (k+1)).length (a0j (rlTo pts f (k+1)))/\Bl w1 w2):=by
      rw[aw];exact⟨aM,hB.trans aJ⟩
     have aB:Hid ((rlTo pts f (k+1)).length=(rlTo pts f k++[f p]).length):=by show _=_;rw[aw]
     have aK:Hid _:=r;rw[aD.o] at aK;clear r aM aJ aw hB hY aE aD ac ap HF am ai aq aj HW;go_wp2_with (at_builtin;refine a0a rfl (.tmp 61) (.tmp 63) 52 rfl _ _ _ rfl rfl aK.o ?_)
     exact⟨⟨k+1,a1,aQ,om,gn,by rw[aB.o,List.length_append];rfl,HN⟩,io⟩
  ·obtain rfl:k=pts.length:=om
   obtain⟨hO,hB⟩:=hW.o;obtain⟨a9,a0,ev,z1,z3⟩:=IL_row hO;injection ev with ev1 ev2 ev3;subst ev1;subst ev3;have hl:=a5a pts f pts.length;rw[a6T] at z1;have hw:=(ai.o wr (HP.o wr hB).2).2.2.2;have el:(pts.map f).length=pts.length:=List.length_map _;rw[el] at z1;have au:=a0v hO (show w.heap.size<=w1.heap.size by omega);rw[hl,a6T] at au;have a2:Hid (IRow wr ao pts.length cap (IL (pts.map f))/\(∀ad,ao=some ad->w.heap.size<=ad.block)/\Bl w wr/\wr.ownsRow w.heap.size 3 1 (.slice ao pts.length cap) pts.length (a0j (pts.map f))):=⟨z1,λad e=>by have:=z3 ad e;omega,hw,au⟩
   have aB:Hid ((rlTo pts f pts.length).length=pts.length):=hl;clear hW hO au hB z1 z3 hw el hl ev2 ai HP aq HF am;(go_wp2_with fail);go_ret;exact⟨ao,cap,congrArg (λn=>Ending.returned (Value.slice ao n cap)) aB.o,a2.o⟩
theorem infoLk:(prog.info? 103).map (λi=>(i.zero,i.size,i.bytes))=some (some (.agg #[Iv 0,Iv 0,Iv 0,Iv 0,Iv 0,.bool false]),6,48):=by kernel_rfl
end
section
open Go.Proofs.Tryz
namespace Pl
open Vc (V Of)
section
variable {K L:Nat}{ls:Nat->Lk}{ids:Nat->Int}{lv:Nat->Bool}
end
end Pl
end
section
open Go.Proofs.Tryz
open Go.RowKit
open Vc (V Of)
open Pl (Br Net Pc Lk En)
namespace Pl
def LN (l:List Nat) (j:Nat):Nat:=l.getD j 0
def Net.lvsTo (n:Net) (k:Nat):List Nat:=(List.range k).filter n.live
def Net.lvs (n:Net):List Nat:=n.lvsTo n.L
theorem Net.lvsTo_next (n:Net) (k:Nat):n.lvsTo (k+1)=n.lvsTo k++if n.live k=true then [k] else []:=by
 unfold Net.lvsTo;rw[List.range_succ,List.filter_append];congr 1
 cases h:n.live k<;>simp[h]
theorem Net.lvsTo_few (n:Net) (k:Nat):(n.lvsTo k).length<=k:=by
 have:=List.length_filter_le n.live (List.range k);rw[List.length_range] at this;exact this
theorem LN_get {l:List Nat}{j:Nat}(h:j<l.length):LN l j=l[j]:=by
 unfold LN;rw[List.getD_eq_getElem?_getD,List.getElem?_eq_getElem h];rfl
theorem Net.lvs_mem {n:Net}{j:Nat}(h:j<n.lvs.length):LN n.lvs j<n.L/\n.live (LN n.lvs j)=true:=by
 have hm:LN n.lvs j∈n.lvs:=(by rw[LN_get h];exact List.getElem_mem h)
 unfold Net.lvs Net.lvsTo at hm;obtain⟨h1,h2⟩:=List.mem_filter.1 hm;exact⟨List.mem_range.1 h1,h2⟩
theorem Net.lvs_all {n:Net}{k:Nat}(hk:k<n.L) (h:n.live k=true):∃j,j<n.lvs.length/\LN n.lvs j=k:=by
 have hm:k∈n.lvs:=List.mem_filter.2 ⟨List.mem_range.2 hk,h⟩;obtain⟨j,hj,e⟩:=List.getElem_of_mem hm;exact⟨j,hj,by rw[LN_get hj];exact e⟩
end Pl
open Pl (LN)
abbrev a3t (ls:Nat->Lk) (l:List Nat):List Value:=a0f l.length 6 (λj=>lkC (ls (LN l j)))
theorem ln_snoc (ls:Nat->Lk) (l:List Nat) (k:Nat):a0f (l.length+1) 6 (catC l.length (λj=>lkC (ls (LN l j))) (λ_=>lkC (ls k)))=a3t ls (l++[k]):=by
 unfold a3t;rw[List.length_append];apply a0k
 intro i hi;simp only[catC];by_cases q:i<l.length
 ·rw[iP q];simp[LN,List.getD,List.getElem?_append_left q]
 ·rw[iN q];obtain rfl:i=l.length:=om
  simp[LN,List.getD]
theorem a8b {w:World}{g:Nat}{l:Lk}{ty:TypeId}(h:w.heap[g]?=some (.cells (lkA l) ty (0,0))):LRow w (some (Pv g 0)) 1 1 (λ_=>l):=by
 refine⟨b0g _,λ_=>⟨g,0,rfl,(gSm.1 h).1,λi hi j hj => ?_⟩⟩;obtain rfl:i=0:=om
 rcases(by omega:j=0\/j=1\/j=2\/j=3\/j=4\/j=5) with e | e | e | e | e | e<;>subst e<;>exact a9Y w g _ _ _ _ h
end
section
open Go.Proofs.Tryz
open Vc (V Of)
open Pl (Br Net Lk En LN lf lf_mem lf_of_mem ends ends_mem endsTo_mem endsAt_mem ends_one Lives RightL)
open Tk (Md Mnd heardOf heard chM chM_real)
theorem lives_of (n:Net):Lives n.ls n.live n.L n.lvs.length (LN n.lvs):=⟨λ_ hj=>Pl.Net.lvs_mem hj,λ_ hk h=>Pl.Net.lvs_all hk h⟩
section
variable {ls:Nat->Lk}{lv:Nat->Bool}{K L m:Nat}{on:Nat->Nat}
theorem a9v (V:Lives ls lv L m on) (i:Nat) (x:Nat->Md) (o:Of):o∈a1C (λj=>ls (on j)) i x m↔o∈heard (ends ls lv L i) x:=by
 constructor
 ·intro h;obtain⟨e,he,rfl⟩:=List.mem_map.1 h;obtain⟨j,hj,hh⟩:=endsTo_mem.1 he;obtain⟨h1,h2⟩:=V.mem j hj;rcases endsAt_mem.1 hh with⟨q,rfl⟩ | ⟨q,rfl⟩
  ·have hm:(⟨(ls (on j)).pa,(ls (on j)).cost,(ls (on j)).b,(ls (on j)).pb,lv (on j)⟩:En)∈ends ls lv L i:=ends_mem.2 ⟨on j,h1,Or.inl ⟨q,rfl⟩⟩;rw[h2] at hm;exact Tk.mem_heard (x:=x) hm rfl
  ·have hm:(⟨(ls (on j)).pb,(ls (on j)).cost,(ls (on j)).a,(ls (on j)).pa,lv (on j)⟩:En)∈ends ls lv L i:=ends_mem.2 ⟨on j,h1,Or.inr ⟨q,rfl⟩⟩;rw[h2] at hm;exact Tk.mem_heard (x:=x) hm rfl
 ·intro h;obtain⟨e,he,hl,rfl⟩:=Tk.heard_mem h;obtain⟨k,hk,hh⟩:=ends_mem.1 he;have aa:lv k=true:=by rcases hh with⟨_,rfl⟩ | ⟨_,rfl⟩<;>exact hl
  obtain⟨j,hj,ej⟩:=V.all k hk aa;rcases hh with⟨q,rfl⟩ | ⟨q,rfl⟩
  ·exact List.mem_map.2 ⟨⟨(ls k).pa,(ls k).cost,(ls k).b,(ls k).pb,true⟩,endsTo_mem.2 ⟨j,hj,endsAt_mem.2 (Or.inl ⟨by rw[ej];exact q,by rw[ej]⟩)⟩,rfl⟩
  ·exact List.mem_map.2 ⟨⟨(ls k).pb,(ls k).cost,(ls k).a,(ls k).pa,true⟩,endsTo_mem.2 ⟨j,hj,endsAt_mem.2 (Or.inr ⟨by rw[ej];exact q,by rw[ej]⟩)⟩,rfl⟩
theorem chM_mem {id:Int}{l l':List Of}(h:∀o,o∈l↔o∈l') (one:∀o o',o∈l'->o'∈l'->o.port=o'.port->o=o'):chM id l=chM id l':=by
 rcases chM_real id l with⟨h1,h2⟩ | ⟨o,h1,h2,h3,h4⟩
 ·rcases chM_real id l' with⟨g1,g2⟩ | ⟨q,g1,g2,g3,g4⟩
  ·rw[h1,g1]
  ·exact absurd g2 (h2 q ((h q).2 g1))
 ·rcases chM_real id l' with⟨g1,g2⟩ | ⟨q,g1,g2,g3,g4⟩
  ·exact absurd h2 (g2 o ((h o).1 h1))
  ·have hp:=(Vc.not_ahead (h4 q ((h q).2 g1) g2) (g4 o ((h o).1 h1) h2)).2;have:=one q o g1 ((h o).1 h1) hp;rw[h3,g3,this]
theorem role_mem {l l':List Of}(h:∀o,o∈l↔o∈l') (s:V) (rp p:Int):Vc.role s rp p (lf l) l.length=Vc.role s rp p (lf l') l'.length:=by
 unfold Vc.role;have key:(Vc.someTo (λj=>decide (Vc.hears s p (lf l j))) l.length=true)↔(Vc.someTo (λj=>decide (Vc.hears s p (lf l' j))) l'.length=true):=by
  rw[Pl.someTo_iff,Pl.someTo_iff];constructor
  ·rintro⟨j,hj,h1⟩;obtain⟨q,hq,eq⟩:=lf_of_mem ((h _).1 (lf_mem hj));exact⟨q,hq,by rw[eq];exact h1⟩
  ·rintro⟨j,hj,h1⟩;obtain⟨q,hq,eq⟩:=lf_of_mem ((h _).2 (lf_mem hj));exact⟨q,hq,by rw[eq];exact h1⟩
 by_cases c:p=rp
 ·rw[iP c,iP c]
 ·rw[iN c,iN c];by_cases d:Vc.someTo (λj=>decide (Vc.hears s p (lf l j))) l.length=true
  ·rw[iP d,iP (key.1 d)]
  ·rw[iN d,iN (λq=>d (key.2 q))]
theorem live_mem (R:RightL K L ls) (V:Lives ls lv L m on) {i:Nat}{e:En}(he:e∈ends ls lv L i):Vc.someTo (λj=>Pl.isEnd (ls (on j)) (i:Int) e.port) m=true↔e.live=true:=by
 rw[Pl.someTo_iff];obtain⟨k,hk,hh⟩:=ends_mem.1 he;constructor
 ·rintro⟨j,hj,h⟩;obtain⟨h1,h2⟩:=V.mem j hj;unfold Pl.isEnd at h;simp only[Bool.or_eq_true,decide_eq_true_eq] at h;rcases h with⟨a1,a2⟩ | ⟨a1,a2⟩
  ·have hm:(⟨(ls (on j)).pa,(ls (on j)).cost,(ls (on j)).b,(ls (on j)).pb,lv (on j)⟩:En)∈ends ls lv L i:=ends_mem.2 ⟨on j,h1,Or.inl ⟨a1,rfl⟩⟩;have:=ends_one R lv hm he a2;rw[<-this];exact h2
  ·have hm:(⟨(ls (on j)).pb,(ls (on j)).cost,(ls (on j)).a,(ls (on j)).pa,lv (on j)⟩:En)∈ends ls lv L i:=ends_mem.2 ⟨on j,h1,Or.inr ⟨a1,rfl⟩⟩;have:=ends_one R lv hm he a2;rw[<-this];exact h2
 ·intro hl;have aa:lv k=true:=by rcases hh with⟨_,rfl⟩ | ⟨_,rfl⟩<;>exact hl
  obtain⟨j,hj,ej⟩:=V.all k hk aa;refine⟨j,hj,?_⟩;rw[ej];unfold Pl.isEnd;rcases hh with⟨q,rfl⟩ | ⟨q,rfl⟩<;>simp[q]
end
def a1t (n:Net) (id:Int) (x:Nat->Mnd) (i:Nat):Md:=chM id (a1C (λj=>n.ls (LN n.lvs j)) i (λj=>(x j).md) n.lvs.length)
def a1g (n:Net) (m:Md) (x:Nat->Mnd) (i:Nat):List Int:=(Pl.ptsAll n.ls n.L i 30).map (a7Z (λj=>n.ls (LN n.lvs j)) n.lvs.length i (λp=>Vc.role m.v m.rp p (lf (a1C (λj=>n.ls (LN n.lvs j)) i (λj=>(x j).md) n.lvs.length)) (a1C (λj=>n.ls (LN n.lvs j)) i (λj=>(x j).md) n.lvs.length).length))
def a1Z (rs cs:List Int):Nat->List Int
 | 0=>[]
 | k+1=>a1Z rs cs k++[Tk.calmOf (rs.getD k 0) (cs.getD k 0)]
theorem a1A (rs cs:List Int):∀k,(a1Z rs cs k).length=k
 | 0=>rfl
 | k+1=>by simp[a1Z,a1A rs cs k]
theorem a5G (rs cs:List Int):∀k j,j<k->(a1Z rs cs k).getD j 0=Tk.calmOf (rs.getD j 0) (cs.getD j 0)
 | 0,j,h=>by omega
 | k+1,j,h=>by
  simp only[a1Z];rw[List.getD_eq_getElem?_getD];by_cases e:j=k
  ·subst e;rw[List.getElem?_append_right (by rw[a1A];exact b0g _),a1A];simp
  ·rw[List.getElem?_append_left (by rw[a1A];omega),<-List.getD_eq_getElem?_getD];exact a5G rs cs k j om
theorem a9w (rs cs:List Int) (h:rs.length=cs.length):a1Z rs cs rs.length=List.zipWith Tk.calmOf rs cs:=by
 apply List.ext_getElem
 ·rw[a1A];simp[h]
 ·intro j h1 h2;rw[a1A] at h1;have a:=a5G rs cs rs.length j h1;have b:=Tk.getD_zip rs cs h j h1;rw[<-b] at a;rw[List.getD_eq_getElem?_getD,List.getD_eq_getElem?_getD,List.getElem?_eq_getElem (by rw[a1A];exact h1),List.getElem?_eq_getElem h2] at a;exact a
theorem a8c {n:Net}(R:RightL n.K n.L n.ls) (ids:Nat->Int) (x:Nat->Mnd) (i:Nat) (hc:(x i).calm.length=(n.ends i).length) :
  (⟨a1t n (ids i) x i,a1g n (a1t n (ids i) x i) x i,a1Z (a1g n (a1t n (ids i) x i) x i) (x i).calm (a1g n (a1t n (ids i) x i) x i).length⟩:Mnd)=Tk.tickF ids n.ends x i:=by
 have V:=lives_of n;have aa:=a9v V i (λj=>(x j).md);have e1:a1t n (ids i) x i=chM (ids i) (heard (n.ends i) (λj=>(x j).md)):=by
  refine chM_mem aa (λo o' h1 h2 hp => ?_);obtain⟨a,a1,a2,rfl⟩:=Tk.heard_mem h1;obtain⟨b,b1,b2,rfl⟩:=Tk.heard_mem h2;rw[ends_one R n.live a1 b1 hp]
 have e2:a1g n (a1t n (ids i) x i) x i=(n.ends i).map (Tk.roleM (chM (ids i) (heard (n.ends i) (λj=>(x j).md))) (heard (n.ends i) (λj=>(x j).md))):=by
  unfold a1g;rw[Pl.ports_same R n.live i,List.map_map,e1];apply List.map_congr_left
  intro e he;have hl:=live_mem R V he;show a7Z _ _ _ _ e.port=Tk.roleM _ _ e;unfold a7Z Tk.roleM;by_cases q:e.live=true
  ·rw[iP (hl.2 q),iP q];exact role_mem aa _ _ _
  ·rw[iN (λz=>q (hl.1 z)),iN q]
 have e3:a1Z (a1g n (a1t n (ids i) x i) x i) (x i).calm (a1g n (a1t n (ids i) x i) x i).length=List.zipWith Tk.calmOf (a1g n (a1t n (ids i) x i) x i) (x i).calm:=a9w _ _ (by rw[e2,List.length_map,hc]);rw[e3,e2,e1];rfl
