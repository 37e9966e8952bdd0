/- TFn -/
import Derived.Test.YtelebnancdjjiaaGreatDoorE10
import Derived.Test.YtelebnancdjjiaaGreatDoorRows
set_option maxRecDepth 100000
set_option maxHeartbeats 40000000
namespace Go.Proofs.YtelebnancdjjiaaGreatDoor
section
open Go.Proofs.Tryz
open Go.ChangeShapes Go.WideShapes Go.ChangeAt Go.RowKit
open Pl (Br Net Pc Lk En)
theorem a4O {H:Type}{enc:TypeId×Value->H}{W:World}{v:Value}{aa:Nat}{x:DataW H×List MemPlace}
  (hf:DataW.trod enc prog W 0 (λ_=>true) true aa 22 [v]=some x) :
  ∃(ao:OA) (n cap:Nat) (f:Nat->Br),v=.slice ao n cap/\BRow W ao n cap f/\a0s ao n cap/\n<=9223372036854775807/\∀i,i<n->(f i).at' W/\(Lit.int .u64 (f i).addr).wf=true/\a0s (f i).pao (f i).pn (f i).pcap:=by
 haveI:Inhabited Br:=⟨⟨0,none,0,0,λ_=>0,⟨⟨#[]⟩,0,none,0,0,λ_=>0,λ_=>0⟩⟩⟩
 refine a3b om underlying22 cellsBg brC (λb=>b.at' W/\(Lit.int .u64 b.addr).wf=true/\a0s b.pao b.pn b.pcap) (λaa cs x hl h => ?_) hf;obtain⟨c0,c1,c2,c3,c4,rfl⟩:=plist5 hl;obtain⟨xs,m,_,_,_,ab,ad⟩:=DataW.trod_struct underlying65 h;obtain⟨y0,y1,y2,rfl⟩:=plist3 (by simpa using ab);obtain⟨a,e0,_,w0⟩:=DataW.trod_int underlying28 (ad 0 _ rfl);have g1:=ad 1 _ rfl;have g2:=ad 2 _ rfl;obtain⟨ag,pn,ac,pv,e1,hp,ae,af⟩:=a8U g1;obtain⟨r,e2,e3,e4,hr,hn⟩:=a5r g2;refine⟨⟨a,ag,pn,ac,pv,r⟩,λj hj => ?_,⟨hp,hr,af,hn⟩,w0,ae⟩;rw[a1f e0,e1,e2,e3,e4];rcases(by omega:j=0\/j=1\/j=2\/j=3\/j=4) with q | q | q | q | q<;>subst q<;>rfl
theorem net_in7 {H:Type}{enc:TypeId×Value->H}{W:World}{base:Nat}{v:Value}{D:DataW H}{ps:List MemPlace}
  (hv:Value.okWide prog W .any base 25 v) (h:DataW.Trod enc prog W 0 (λ_=>true) true 25 v D ps) :
  ∃n:Net,v=n.val/\n.at' W/\n.Wf/\a0s n.bao n.K n.bcap/\a0s n.lao n.L n.lcap/\∀i,i<n.K->a0s (n.bs i).pao (n.bs i).pn (n.bs i).pcap:=by
 obtain⟨cs,rfl,ac⟩:=okWide_struct underlying25 hv;rw[cellsNt] at ac;obtain⟨l⟩:=cs;obtain⟨c0,c1,rfl⟩:=plist2 (by simpa using ac);obtain⟨ah,hf⟩:=h;obtain⟨xs,m,_,ak,_,ab,ad⟩:=DataW.trod_struct underlying25 hf;obtain⟨y0,y1,rfl⟩:=plist2 (by simpa using ab);have g0:=ad 0 _ rfl;have g1:=ad 1 _ rfl;simp only[Value.cells] at g0 g1;obtain⟨bao,K,bcap,bs,rfl,hb,ai,ag,aa⟩:=a4O g0;obtain⟨lao,L,lcap,ls,rfl,hl,ae,af,aj⟩:=a7C g1;exact⟨⟨bao,K,bcap,bs,lao,L,lcap,ls⟩,rfl,⟨hb,λi hi=>(aa i hi).1,hl,ag,af⟩,⟨λi hi=>(aa i hi).2.1,aj⟩,ai,ae,λi hi=>(aa i hi).2.2⟩
end
section
open Go.Proofs.Tryz
open Go.RowKit
open Tk (Md)
def opM (m:Mi) (port:Int):Bool:=if 0<=Bk.idx m.ports port m.ports.length/\Bk.idx m.ports port m.ports.length<=(m.calm.length:Int)-1 then decide (50<=m.calm.getD (Bk.idx m.ports port m.ports.length).toNat 0) else false
def opT (t:List Tr) (tree bridge port:Int):Bool:=if (0<=tree/\tree<=(t.length:Int)-1)/\(0<=bridge/\bridge<=((tat t tree.toNat).l.length:Int)-1) then opM (mat (tat t tree.toNat).l bridge.toNat) port else false
theorem a7D (oao:OA) (ocap:Nat) (t:List Tr) (tree aa ab:Int) (w:World) (ht:TrRow w oao ocap t) :
  Calls prog 79 #[.agg #[.slice oao t.length ocap],Iv tree,Iv aa,Iv ab] w λe w'=>e=.returned (.bool (opT t tree aa ab))/\Bl w w':=by
 obtain⟨X,HX⟩:=nm (w.alloc (.cells #[.slice oao t.length ocap] 34))
 have ad:Bl w X:=(by rw[HX.o];exact bA1 _ _)
 have ah:X.heap[w.heap.size]?=some (.cells #[.slice oao t.length ocap] 34):=(by rw[HX.o];exact a9Z _ _)
 have c0:X.cell? (Pv w.heap.size 0)=some (.slice oao t.length ocap):=a9Y X _ 0 _ _ _ ah;have an:=ht.many;have ao:=ht.row.1;by_cases h1:0<=tree/\tree<=(t.length:Int)-1
 ·obtain⟨k,rfl⟩:∃k:Nat,tree=(k:Int):=⟨tree.toNat,om⟩
  have hk:k<t.length:=om
  have ac:=ht.below ad;obtain⟨b,off,rfl,_⟩:=ac.place om;have c1:=ac.cell hk;have hm:=ac.each k hk;have ik:(0:Int)<=(k:Int):=om
  have nk:(k:Int)<(t.length:Int):=om
  have aw:=hm.many;have au:=hm.row.1;have ae:Hid (opT t k aa ab=if 0<=aa/\aa<=((tat t k).l.length:Int)-1 then opM (mat (tat t k).l aa.toNat) ab else false):=by
   show(if (0<=(k:Int)/\(k:Int)<=(t.length:Int)-1)/\(0<=aa/\aa<=((tat t ((k:Int)).toNat).l.length:Int)-1) then opM (mat (tat t ((k:Int)).toNat).l aa.toNat) ab else false)=_;rw[Int.toNat_natCast];by_cases z:0<=aa/\aa<=((tat t k).l.length:Int)-1
   ·rw[iP ⟨h1,z⟩,iP z]
   ·rw[iN (λq=>z q.2),iN z]
  generalize tat t k=x at *;by_cases h2:0<=aa/\aa<=(x.l.length:Int)-1
  ·obtain⟨i,rfl⟩:∃i:Nat,aa=(i:Int):=⟨aa.toNat,om⟩
   have hi:i<x.l.length:=om
   obtain⟨xa,xc,xl⟩:=x;simp only at *;obtain⟨b2,aq,rfl,_⟩:=hm.place om;obtain⟨d0,d1,d2,d3,d4,d5,d6,d7,d8⟩:=hm.cells hi;have ag:=hm.each i hi;have ii:(0:Int)<=(i:Int):=om
   have ni:(i:Int)<(xl.length:Int):=om
   rw[Int.toNat_natCast,iP h2] at ae;generalize mat xl i=m at *;obtain⟨Y,HY⟩:=nm (X.alloc (.cells #[Uv m.md.v.root,Iv m.md.v.cost,Uv m.md.v.bridge,Iv m.md.v.port,Iv m.md.age,Iv m.md.rp,.slice m.po m.ports.length m.pc,.slice m.ro m.roles.length m.rc,.slice m.co m.calm.length m.cc] 117))
   have ai:Bl X Y:=(by rw[HY.o];exact bA1 _ _)
   have ak:Y.heap[X.heap.size]?=some (.cells #[Uv m.md.v.root,Iv m.md.v.cost,Uv m.md.v.bridge,Iv m.md.v.port,Iv m.md.age,Iv m.md.rp,.slice m.po m.ports.length m.pc,.slice m.ro m.roles.length m.rc,.slice m.co m.calm.length m.cc] 117):=(by rw[HY.o];exact a9Z _ _)
   have y6:Y.cell? (Pv X.heap.size 6)=some (.slice m.po m.ports.length m.pc):=a9Y Y _ 6 _ _ _ ak;have y8:Y.cell? (Pv X.heap.size 8)=some (.slice m.co m.calm.length m.cc):=a9Y Y _ 8 _ _ _ ak;have ar:X.heap.size=w.heap.size+1:=(by rw[HX.o];simp)
   rw[ar] at y8;have al:Hid (Calls prog 119 #[.slice m.po m.ports.length m.pc,Iv ab] Y λe w'=>e=.returned (Iv (Bk.idx m.ports ab m.ports.length))/\w'=Y):=a4r m.po m.pc m.ports ab Y ag.pn (ag.ports.below ai);have am:Hid (Bl w Y):=ad.trans (ai.mono ad.size);have ax:=ag.cn;have af:=ag.calm.below ai;have av:=af.1;have HM:Hid (opM m ab=if 0<=Bk.idx m.ports ab m.ports.length/\Bk.idx m.ports ab m.ports.length<=(m.calm.length:Int)-1 then decide (50<=m.calm.getD (Bk.idx m.ports ab m.ports.length).toNat 0) else false):=rfl;generalize Bk.idx m.ports ab m.ports.length=ix at *;rw[HX.o] at c0 c1 d0 d1 d2 d3 d4 d5 d6 d7 d8;have z6:=y6;rw[HY.o,HX.o] at z6;clear ac hm ag ad ah ai ak ht;go_enter func79,ntmps79;(go_wp2_with fail);refine(a0u _ _ _ _).mono ?_;rintro e w1 ⟨rfl,rfl⟩;rw[b0k h1];(go_wp2_with fail);refine(a0u _ _ _ _).mono ?_;rintro e w1 ⟨rfl,rfl⟩;rw[b0k h2];(go_wp2_with fail);rw[<-HX.o,<-HY.o];refine al.o.mono ?_;rintro e w1 ⟨rfl,rfl⟩;clear c0 c1 d0 d1 d2 d3 d4 d5 d6 d7 d8 al z6;by_cases h3:0<=ix/\ix<=(m.calm.length:Int)-1
   ·obtain⟨j,rfl⟩:∃j:Nat,ix=(j:Int):=⟨ix.toNat,om⟩
    have hj:j<m.calm.length:=om
    obtain⟨b3,ap,e3,_⟩:=af.place om;rw[e3] at af y8;have d9:=af.cell hj;have jj:(0:Int)<=(j:Int):=om
    have nj:(j:Int)<(m.calm.length:Int):=om
    rw[Int.toNat_natCast,iP h3] at HM;clear af;(go_wp2_with fail);refine(a0u _ _ _ _).mono ?_;rintro e w1 ⟨rfl,rfl⟩;rw[b0k h3];(go_wp2_with fail);go_ret;exact⟨by rw[ae.o,HM.o];first | rfl | simp[hj],am.o⟩
   ·rw[iN h3] at HM;clear af;(go_wp2_with fail);refine(a0u _ _ _ _).mono ?_;rintro e w1 ⟨rfl,rfl⟩;rw[b0j h3];(go_wp2_with fail);go_ret;exact⟨by rw[ae.o,HM.o];rfl,am.o⟩
  ·rw[iN h2] at ae;have aj:Hid (Bl w X):=ad;rw[HX.o] at c0 c1;clear ac hm ad ah ht;go_enter func79,ntmps79;(go_wp2_with fail);refine(a0u _ _ _ _).mono ?_;rintro e w1 ⟨rfl,rfl⟩;rw[b0k h1];(go_wp2_with fail);refine(a0u _ _ _ _).mono ?_;rintro e w1 ⟨rfl,rfl⟩;rw[b0j h2];(go_wp2_with fail);rw[<-HX.o];go_ret;exact⟨by rw[ae.o];rfl,aj.o⟩
 ·have ae:Hid (opT t tree aa ab=false):=iN (λq=>h1 q.1);have aj:Hid (Bl w X):=ad;rw[HX.o] at c0;clear ad ah ht;go_enter func79,ntmps79;(go_wp2_with fail);refine(a0u _ _ _ _).mono ?_;rintro e w1 ⟨rfl,rfl⟩;rw[b0j h1];(go_wp2_with fail);rw[<-HX.o];go_ret;exact⟨by rw[ae.o];rfl,aj.o⟩
end
section
open Go.Proofs.Tryz
open Go.RowKit
def OpAt (W:World) (g n:Nat) (th:Nat->Bool):Prop:=W.heap[g]?=some (.cells (rowC n 1 (λi _=>.bool (th i))) 4)
theorem OpAt.cell {W:World}{g n:Nat}{th:Nat->Bool}(h:OpAt W g n th) {i:Nat}(hi:i<n):W.cell? (Pv g i)=some (.bool (th i))/\W.frozen? (Pv g i)=false:=by
 have h1:=a0C h hi (show 0<1 by omega);rw[show i*1+0=i by omega] at h1;exact⟨h1,b0a _ _ _ _ _ h⟩
theorem OpAt.set {W:World}{g n:Nat}{th:Nat->Bool}(h:OpAt W g n th) {i:Nat}(hi:i<n) (z:Bool):OpAt (W.setCell (Pv g i) (.bool z)) g n (λj=>if j=i then z else th j):=by
 have h0:=a1r h hi (show 0<1 by omega) (.bool z);rw[show i*1+0=i by omega] at h0;unfold OpAt;rw[h0,rC2 (d:=λj _=>.bool (if j=i then z else th j)) (λj _ m hm => ?_)];unfold updC;obtain rfl:m=0:=om
 by_cases e:j=i
 ·rw[iP ⟨e,rfl⟩,iP e]
 ·rw[iN (λq=>e q.1),iN e]
theorem OpAt.congr {W:World}{g n:Nat}{th h:Nat->Bool}(hr:OpAt W g n th) (e:∀i,i<n->th i=h i):OpAt W g n h:=by
 unfold OpAt at hr ⊢;rw[hr,rC2 (λi hi j _=>by rw[e i hi])]
theorem OpAt.below {W W':World}{g n:Nat}{th:Nat->Bool}(h:OpAt W g n th) (hb:Bl W W'):OpAt W' g n th:=keep h hb
def a0Z (t:List Tr) (bridge port:Int) (k:Nat):Bool:=decide (port=0)||opT t (k:Int) bridge port
theorem a8V (ab aa:Int) (TB BB:Nat) (oao:OA) (ocap:Nat) (t:List Tr) (w:World) (hT:w.heap[TB]?=some (.cells #[.slice oao t.length ocap] 34)) (hB:w.heap[BB]?=some (.cells #[Iv aa] 3)) (ac:TrRow w oao ocap t) (h4:t.length<=4) :
  Calls prog 78 #[Iv ab,.pointer (some (Pv TB 0)),.pointer (some (Pv BB 0))] w λe w'=>∃g,e=.returned (.slice (some (Pv g 0)) t.length t.length)/\Hid (w.heap.size<=g/\OpAt w' g t.length (a0Z t aa ab)/\Bl w w'):=by
 have HC:Hid (∀V,Bl w V->V.cell? (Pv TB 0)=some (.slice oao t.length ocap)/\V.cell? (Pv BB 0)=some (Iv aa)/\TrRow V oao ocap t):=λV hV=>⟨a9Y _ _ 0 _ _ _ (keep hT hV),a9Y _ _ 0 _ _ _ (keep hB hV),ac.below hV⟩
 obtain⟨G,HG⟩:=nm w.heap.size
 have ah:(Instr.makeSlice 50 (Iv (t.length:Int)) (Iv (t.length:Int))).run prog w=.ok (.slice (some (Pv w.heap.size 0)) t.length t.length) (w.alloc (.cells (rowC t.length 1 (λ_ _=>.bool false)) 4)):=a1E w 50 4 (.bool false) 1 1 t.length underlying50 (show(prog.info? 4).map (λi=>(i.zero,i.size,i.bytes))=some (some (.bool false),1,1) by kernel_rfl) om rfl om om _ (λ_ j hj=>by rw[show j=0 by omega];rfl);obtain⟨X,HX⟩:=nm (w.alloc (.cells (rowC t.length 1 (λ_ _=>.bool false)) 4))
 have H0:Hid (OpAt X G t.length (λk=>if k<0 then a0Z t aa ab k else false)/\Bl w X):=by
  rw[HX.o,HG.o];refine⟨?_,bA1 _ _⟩;unfold OpAt;rw[a9Z];rfl
 obtain⟨c0,c1,_⟩:=HC.o w (b0h _ _);clear hT hB ac;go_enter func78,ntmps78;(go_wp2_with fail);rw[<-HX.o];rw[<-HG.o];clear c0 c1 ah;go_loopw [13] (λi wr=>∃j:Nat,j<=t.length/\i=Iv j/\Hid (OpAt wr G t.length (λk=>if k<j then a0Z t aa ab k else false)/\Bl w wr)) (λi _=>t.length-(intOf i).toNat)
 case atStart=>exact⟨0,om,rfl,H0⟩
 case round =>
  obtain⟨j,hj,rfl,hB⟩:=hrel;clear H0;by_cases hlt:j<t.length
  ·have hi:(j:Int)<(t.length:Int):=om
   have aj:(0:Int)<=(j:Int):=om
   obtain⟨c0,c1,ac⟩:=HC.o wr hB.o.2;obtain⟨g0,f0⟩:=hB.o.1.cell hlt;have wj:IntKind.i64.wrap ((j:Int)+1)=((j+1:Nat):Int):=(by rw[IntKind.wrap_i64];omega)
   have ag:Hid (w.heap.size<=G):=(by rw[HG.o];exact b0g _)
   have HN:Hid (∀V,Bl wr V->OpAt (V.setCell (Pv G j) (.bool (a0Z t aa ab j))) G t.length (λk=>if k<j+1 then a0Z t aa ab k else false)/\Bl w (V.setCell (Pv G j) (.bool (a0Z t aa ab j)))):=λV hV=>by
    refine⟨((hB.o.1.below hV).set hlt _).congr (λi hi => ?_),(hB.o.2.trans (hV.mono hB.o.2.size)).setCell ag.o _⟩;by_cases e:i=j
    ·subst e;rw[iP rfl,iP om]
    ·rw[iN e];by_cases e2:i<j
     ·rw[iP e2,iP om]
     ·rw[iN e2,iN om]
   by_cases hp:ab=0
   ·have hg:a0Z t aa ab j=true:=(by unfold a0Z;rw[b0k hp];rfl)
    rw[hg] at HN;subst hp;clear hB ac hg;(go_wp2_with fail);exact⟨⟨j+1,om,gn,HN.o _ (b0h _ _)⟩,io⟩
   ·have hg:a0Z t aa ab j=opT t (j:Int) aa ab:=(by unfold a0Z;rw[b0j hp];rfl)
    rw[hg] at HN;have ai:(ab == 0)=false:=(by simpa using hp)
    have HO:Hid (Calls prog 79 #[.agg #[.slice oao t.length ocap],Iv j,Iv aa,Iv ab] wr λe w'=>e=.returned (.bool (opT t (j:Int) aa ab))/\Bl wr w'):=a7D oao ocap t (j:Int) aa ab wr ac;have ae:Hid (∀V,Bl wr V->V.cell? (Pv G j)=some (.bool (if j<j then a0Z t aa ab j else false))/\V.frozen? (Pv G j)=false):=λV hV=>(hB.o.1.below hV).cell hlt;clear hB ac hg;(go_wp2_with fail);refine HO.o.mono ?_;rintro e w2 ⟨rfl,ad⟩;obtain⟨g1,f1⟩:=ae.o w2 ad;have af:Hid _:=HN.o w2 ad;clear HO ae HN ad g0 f0;(go_wp2_with fail);exact⟨⟨j+1,om,gn,af⟩,io⟩
  ·obtain rfl:j=t.length:=om
   have hi:¬(t.length:Int)<(t.length:Int):=om
   have HF:Hid (w.heap.size<=G/\OpAt wr G t.length (a0Z t aa ab)/\Bl w wr):=⟨by rw[HG.o];exact b0g _,hB.o.1.congr (λi hi=>by rw[iP hi]),hB.o.2⟩
   clear hB HC;(go_wp2_with fail);go_ret;exact⟨G,rfl,HF⟩
end
section
open Go.Proofs.Tryz
namespace Bk
structure E where
 vid:Int
 addr:Int
 port:Int
 age:Int
def e0:E:=⟨0,0,0,0⟩
def at' (l:List E) (i:Nat):E:=l.getD i e0
theorem at_get (l:List E) (i:Nat) (h:i<l.length):at' l i=l[i]:=by simp[at',h]
theorem at_mem (l:List E) (i:Nat) (h:i<l.length):at' l i∈l:=by rw[at_get l i h];exact List.getElem_mem h
theorem mem_at {l:List E}{e:E}(h:e∈l):∃i,i<l.length/\at' l i=e:=by
 obtain⟨i,hi,rfl⟩:=List.getElem_of_mem h;exact⟨i,hi,at_get l i hi⟩
theorem at_append_left (l m:List E) (i:Nat) (h:i<l.length):at' (l++m) i=at' l i:=by
 simp[at',h,List.getElem?_append_left]
theorem at_append_right (l m:List E) (i:Nat) (h:l.length<=i):at' (l++m) i=at' m (i-l.length):=by
 simp[at',h,List.getElem?_append_right]
theorem at_take (l:List E) (k i:Nat) (h:i<k):at' (l.take k) i=at' l i:=by
 simp[at',h]
theorem at_drop (l:List E) (k i:Nat):at' (l.drop k) i=at' l (k+i):=by
 simp[at',List.getElem?_drop]
def listOf (n:Nat) (f:Nat->E):List E:=(List.range n).map f
theorem listOf_length (n:Nat) (f:Nat->E):(listOf n f).length=n:=by simp[listOf]
theorem listOf_at (n:Nat) (f:Nat->E) (i:Nat) (h:i<n):at' (listOf n f) i=f i:=by simp[at',listOf,h]
theorem take_succ (l:List E) (k:Nat) (h:k<l.length):l.take (k+1)=l.take k++[at' l k]:=by
 rw[at_get l k h,List.take_succ_eq_append_getElem h]
def lt (a b:E):Prop:=a.vid<b.vid\/(a.vid=b.vid/\a.addr<b.addr)
instance (a b:E):Decidable (lt a b):=by unfold lt;infer_instance
def ltb (a b:E):Bool:=decide (lt a b)
theorem ltb_iff {a b:E}:ltb a b=true↔lt a b:=decide_eq_true_iff
theorem lt_irrefl (a:E):¬lt a a:=by unfold lt;omega
theorem lt_trans {a b c:E}(h:lt a b) (k:lt b c):lt a c:=by unfold lt at *;omega
theorem lt_asymm {a b:E}(h:lt a b):¬lt b a:=λk=>lt_irrefl a (lt_trans h k)
def key (a b:E):Prop:=a.vid=b.vid/\a.addr=b.addr
instance (a b:E):Decidable (key a b):=by unfold key;infer_instance
theorem key_iff {a b:E}:key a b↔¬lt a b/\¬lt b a:=by unfold key lt;omega
theorem key.lt_left {a b c:E}(h:key a b):lt a c↔lt b c:=by unfold key at h;unfold lt;omega
theorem key.lt_right {a b c:E}(h:key a b):lt c a↔lt c b:=by unfold key at h;unfold lt;omega
def cmp (a b:E):Int:=if lt a b then -1 else if lt b a then 1 else 0
theorem cmp_lt {a b:E}:cmp a b<0↔lt a b:=by
 unfold cmp;by_cases h:lt a b
 ·simp[h]
 ·by_cases k:lt b a<;>simp[h,k]
theorem cmp_zero {a b:E}:cmp a b=0↔key a b:=by
 unfold cmp;rw[key_iff];by_cases h:lt a b
 ·simp[h]
 ·by_cases k:lt b a<;>simp[h,k]
def rng (e:E):Prop:=(1<=e.vid/\e.vid<=4094)/\e.addr<=281474976710655/\(0<=e.port/\e.port<=30)/\(0<=e.age/\e.age<=300)
instance (e:E):Decidable (rng e):=by unfold rng;infer_instance
def errAt (f:Nat->E) (i:Nat):Int:=if ¬rng (f i) then 3 else if 0<i/\¬lt (f (i-1)) (f i) then 2 else 0
def firstTo (g:Nat->Int):Nat->Int×Int
 | 0=>(0,0)
 | k+1=>if (firstTo g k).1≠0 then firstTo g k else if g k≠0 then(g k,k) else(0,0)
theorem firstTo_stay (g:Nat->Int) (k:Nat) (h0:(firstTo g k).1=0) (h:g k≠0):∀n,k<n->firstTo g n=(g k,(k:Int))
 | 0,hn=>by omega
 | n+1,hn=>by
  simp only[firstTo];by_cases e:k=n
  ·subst e;rw[iN (by simp[h0]),iP h]
  ·rw[firstTo_stay g k h0 h n om,iP h]
theorem firstTo_zero (g:Nat->Int):∀n,(firstTo g n).1=0->firstTo g n=(0,0)/\∀i,i<n->g i=0
 | 0,_=>⟨rfl,λi hi=>by omega⟩
 | n+1,h=>by
  simp only[firstTo] at h ⊢;by_cases h1:(firstTo g n).1=0
  ·rw[iN (by simp[h1])] at h ⊢;by_cases h2:g n=0
   ·rw[iN (by simp[h2])];refine⟨rfl,λi hi => ?_⟩;by_cases e:i=n
    ·subst e;exact h2
    ·exact(firstTo_zero g n h1).2 i om
   ·rw[iP h2] at h;exact absurd h h2
  ·rw[iP h1] at h;exact absurd h h1
theorem firstTo_none (g:Nat->Int) (n:Nat) (h:∀i,i<n->g i=0):firstTo g n=(0,0):=by
 induction n with
 | zero=>rfl
 | succ n ih =>
  simp only[firstTo];rw[ih (λi hi=>h i om),iN (by simp),iN (by simp[h n om])]
def wrong (f:Nat->E) (n:Nat):Int×Int:=if 30<n then(5,0) else firstTo (errAt f) n
structure Book (l:List E):Prop where
 many:l.length<=30
 rng:∀e∈l,rng e
 asc:l.Pairwise lt
theorem errAt_zero {f:Nat->E}{i:Nat}:errAt f i=0↔rng (f i)/\(0<i->lt (f (i-1)) (f i)):=by
 unfold errAt;by_cases h:rng (f i)
 ·simp only[h,not_true_eq_false,if_false,true_and];by_cases k:0<i/\¬lt (f (i-1)) (f i)
  ·rw[iP k];constructor
   ·intro e;omega
   ·intro e;exact absurd (e k.1) k.2
  ·rw[iN k];refine⟨λ_ hi => ?_,λ_=>rfl⟩;by_cases q:lt (f (i-1)) (f i)
   ·exact q
   ·exact absurd ⟨hi,q⟩ k
 ·simp[h]
theorem asc_of {l:List E}(h:∀i,0<i->i<l.length->lt (at' l (i-1)) (at' l i)):l.Pairwise lt:=by
 have H:∀d i,i+(d+1)<l.length->lt (at' l i) (at' l (i+(d+1))):=by
  intro d;induction d with
  | zero=>intro i hi;have:=h (i+1) om hi;simpa using this
  | succ d ih =>
   intro i hi;have h1:=ih i om;have h2:=h (i+(d+1+1)) om hi;rw[show i+(d+1+1)-1=i+(d+1) by omega] at h2;exact lt_trans h1 h2
 rw[List.pairwise_iff_getElem];intro i j hi hj aa;have:=H (j-i-1) i om;rw[show i+(j-i-1+1)=j by omega,at_get l i hi,at_get l j hj] at this;exact this
theorem Book.less {l:List E}(h:Book l) {i j:Nat}(aa:i<j) (hj:j<l.length):lt (at' l i) (at' l j):=by
 have:=List.pairwise_iff_getElem.1 h.asc i j om hj aa;rwa [at_get l i om,at_get l j hj]
theorem wrong_book {l:List E}:(wrong (at' l) l.length).1=0↔Book l:=by
 unfold wrong;constructor
 ·intro h;by_cases k:30<l.length
  ·rw[iP k] at h;simp at h
  ·rw[iN k] at h;have:=(firstTo_zero _ _ h).2;refine⟨om,λe he => ?_,asc_of (λi h0 hi=>(errAt_zero.1 (this i hi)).2 h0)⟩;obtain⟨i,hi,rfl⟩:=mem_at he;exact(errAt_zero.1 (this i hi)).1
 ·intro h;rw[iN (by have:=h.many;omega),firstTo_none];intro i hi;exact errAt_zero.2 ⟨h.rng _ (at_mem l i hi),λh0=>h.less om hi⟩
def Spot (l:List E) (s:E) (k:Nat):Prop:=k<=l.length/\(∀i,i<k->lt (at' l i) s)/\(∀i,k<=i->i<l.length->¬lt (at' l i) s)
def lo (l:List E) (s:E):List E:=l.filter (λe=>ltb e s)
def hi (l:List E) (s:E):List E:=l.filter (λe=>ltb s e)
theorem filter_all {p:E->Bool}{l:List E}(h:∀e∈l,p e=true):l.filter p=l:=List.filter_eq_self.2 h
theorem filter_no {p:E->Bool}{l:List E}(h:∀e∈l,p e=false):l.filter p=[]:=List.filter_eq_nil_iff.2 (λe he=>by simp[h e he])
theorem mem_take {l:List E}{k:Nat}{e:E}(h:e∈l.take k):∃i,i<k/\i<l.length/\at' l i=e:=by
 obtain⟨i,hi,rfl⟩:=mem_at h;rw[List.length_take] at hi;exact⟨i,om,om,(at_take l k i om).symm⟩
theorem mem_drop {l:List E}{k:Nat}{e:E}(h:e∈l.drop k):∃i,k<=i/\i<l.length/\at' l i=e:=by
 obtain⟨i,hi,rfl⟩:=mem_at h;rw[List.length_drop] at hi;exact⟨k+i,om,om,(at_drop l k i).symm⟩
theorem Spot.lo {l:List E}{s:E}{k:Nat}(h:Spot l s k):Bk.lo l s=l.take k:=by
 unfold Bk.lo;conv=>lhs;rw[<-List.take_append_drop k l]
 rw[List.filter_append,filter_all,filter_no,List.append_nil]
 ·intro e he;obtain⟨i,h1,h2,rfl⟩:=mem_drop he;exact b0j (h.2.2 i h1 h2)
 ·intro e he;obtain⟨i,h1,h2,rfl⟩:=mem_take he;exact b0k (h.2.1 i h1)
def Known (l:List E) (s:E):Prop:=∃e∈l,key e s
theorem Spot.known {l:List E}{s:E}{k:Nat}(hb:Book l) (h:Spot l s k):Known l s↔k<l.length/\key (at' l k) s:=by
 constructor
 ·rintro⟨e,he,hk⟩;obtain⟨i,hi,rfl⟩:=mem_at he;have h1:k<=i:=by
   rcases Nat.lt_or_ge i k with q | q
   ·exact absurd (h.2.1 i q) (key_iff.1 hk).1
   ·exact q
  rcases Nat.eq_or_lt_of_le h1 with q | q
  ·subst q;exact⟨hi,hk⟩
  ·have:=hb.less q hi;exact absurd ((hk.lt_right).1 this) (h.2.2 k (b0g _) om)
 ·rintro⟨h1,h2⟩;exact⟨_,at_mem l k h1,h2⟩
theorem Spot.hi_new {l:List E}{s:E}{k:Nat}(h:Spot l s k) (hn:¬Known l s):Bk.hi l s=l.drop k:=by
 unfold Bk.hi;conv=>lhs;rw[<-List.take_append_drop k l]
 rw[List.filter_append,filter_no,filter_all,List.nil_append]
 ·intro e he;obtain⟨i,h1,h2,rfl⟩:=mem_drop he;apply b0k
  have q1:=h.2.2 i h1 h2;by_cases q:lt s (at' l i)
  ·exact q
  ·exact absurd ⟨_,at_mem l i h2,key_iff.2 ⟨q1,q⟩⟩ hn
 ·intro e he;obtain⟨i,h1,h2,rfl⟩:=mem_take he;exact b0j (lt_asymm (h.2.1 i h1))
theorem Spot.hi_old {l:List E}{s:E}{k:Nat}(hb:Book l) (h:Spot l s k) (hn:Known l s):Bk.hi l s=l.drop (k+1):=by
 obtain⟨h1,h2⟩:=(h.known hb).1 hn;unfold Bk.hi;conv=>lhs;rw[<-List.take_append_drop (k+1) l]
 rw[List.filter_append,filter_no,filter_all,List.nil_append]
 ·intro e he;obtain⟨i,q1,q2,rfl⟩:=mem_drop he;apply b0k
  exact(h2.lt_left).1 (hb.less (show k<i by omega) q2)
 ·intro e he;obtain⟨i,q1,q2,rfl⟩:=mem_take he;apply b0j
  by_cases q:i=k
  ·subst q;exact(key_iff.1 h2).2
  ·exact lt_asymm (h.2.1 i om)
def may (s:E):Prop:=rng s/\s.addr/1099511627776%2=0
instance (e:E):Decidable (may e):=by unfold may;infer_instance
instance (l:List E) (s:E):Decidable (Known l s):=by unfold Known;infer_instance
def learn (l:List E) (s:E):List E:=if ¬may s\/(¬Known l s/\30<=l.length) then l else lo l s++s :: hi l s
def look (l:List E) (s:E):Option E:=l.find? (λe=>decide (key e s))
theorem look_some {l:List E}{s:E}(hb:Book l) {e:E}(he:e∈l) (hk:key e s):look l s=some e:=by
 unfold look;cases q:l.find? (λe=>decide (key e s)) with
 | none=>exact absurd hk (by simpa using List.find?_eq_none.1 q e he)
 | some e' =>
  have h1:=List.find?_some q;have h2:=List.mem_of_find?_eq_some q;simp at h1;obtain⟨i,hi,rfl⟩:=mem_at he;obtain⟨j,hj,rfl⟩:=mem_at h2;have aa:key (at' l i) (at' l j):=⟨hk.1.trans h1.1.symm,hk.2.trans h1.2.symm⟩
  rcases Nat.lt_trichotomy i j with r | r | r
  ·exact absurd (hb.less r hj) (key_iff.1 aa).1
  ·subst r;rfl
  ·exact absurd (hb.less r hi) (key_iff.1 aa).2
theorem look_none {l:List E}{s:E}(h:¬Known l s):look l s=none:=by
 unfold look;rw[List.find?_eq_none];intro e he;simp;exact λk=>h ⟨e,he,k⟩
end Bk
namespace Bk
theorem lens (l:List E) (s:E):(lo l s).length+(hi l s).length+(l.filter (λe=>decide (key e s))).length=l.length:=by
 induction l with
 | nil=>rfl
 | cons x l ih =>
  unfold lo hi at *;rw[List.filter_cons,List.filter_cons,List.filter_cons,List.length_cons];by_cases h1:lt x s
  ·have h2:¬lt s x:=lt_asymm h1;have h3:¬key x s:=λk=>(key_iff.1 k).1 h1;rw[iP (ltb_iff.2 h1),iN (λq=>h2 (ltb_iff.1 q)),iN (by simpa using h3),List.length_cons];omega
  ·by_cases h2:lt s x
   ·have h3:¬key x s:=λk=>(key_iff.1 k).2 h2;rw[iN (λq=>h1 (ltb_iff.1 q)),iP (ltb_iff.2 h2),iN (by simpa using h3),List.length_cons];omega
   ·have h3:key x s:=key_iff.2 ⟨h1,h2⟩;rw[iN (λq=>h1 (ltb_iff.1 q)),iN (λq=>h2 (ltb_iff.1 q)),iP (by simpa using h3),List.length_cons];omega
theorem Known.pos {l:List E}{s:E}(h:Known l s):1<=(l.filter (λe=>decide (key e s))).length:=by
 obtain⟨e,he,hk⟩:=h;exact List.length_pos_of_mem (List.mem_filter.2 ⟨he,by simpa using hk⟩)
theorem learn_book {l:List E}(hb:Book l) (s:E):Book (learn l s):=by
 by_cases c:¬may s\/(¬Known l s/\30<=l.length)
 ·have:learn l s=l:=iP c;rw[this];exact hb
 ·have e1:learn l s=lo l s++s :: hi l s:=iN c;have hl:=lens l s;rw[e1];refine⟨?_,?_,?_⟩
  ·rw[List.length_append,List.length_cons];have:=hb.many;by_cases kn:Known l s
   ·have:=kn.pos;omega
   ·have:¬30<=l.length:=λq=>c (Or.inr ⟨kn,q⟩);omega
  ·intro e he;rw[List.mem_append,List.mem_cons] at he;rcases he with he | rfl | he
   ·exact hb.rng e (List.mem_filter.1 he).1
   ·exact(Decidable.not_not.1 (λq=>c (Or.inl q))).1
   ·exact hb.rng e (List.mem_filter.1 he).1
  ·rw[List.pairwise_append,List.pairwise_cons];refine⟨hb.asc.filter _,⟨λe he=>ltb_iff.1 (List.mem_filter.1 he).2,hb.asc.filter _⟩,λa ha b aa => ?_⟩;have h1:=ltb_iff.1 (List.mem_filter.1 ha).2;rcases List.mem_cons.1 aa with rfl | h
   ·exact h1
   ·exact lt_trans h1 (ltb_iff.1 (List.mem_filter.1 h).2)
end Bk
namespace Bk
def outK (l:List E) (s:E) (k:Nat):List E:=lo (l.take k) s++(match hi (l.take k) s with | []=>[] | a :: r=>s :: a :: r)
def putK (l:List E) (s:E) (k:Nat):Bool:=match hi (l.take k) s with | []=>false | _ :: _=>true
def hadK (l:List E) (s:E) (k:Nat):Bool:=decide (Known (l.take k) s)
theorem lo_append (l m:List E) (s:E):lo (l++m) s=lo l s++lo m s:=by unfold lo;rw[List.filter_append]
theorem hi_append (l m:List E) (s:E):hi (l++m) s=hi l s++hi m s:=by unfold hi;rw[List.filter_append]
theorem lo_one (x s:E):lo [x] s=if lt x s then [x] else []:=by
 unfold lo;by_cases h:lt x s
 ·rw[iP h,List.filter_cons,iP (ltb_iff.2 h)];rfl
 ·rw[iN h,List.filter_cons,iN (λq=>h (ltb_iff.1 q))];rfl
theorem hi_one (x s:E):hi [x] s=if lt s x then [x] else []:=by
 unfold hi;by_cases h:lt s x
 ·rw[iP h,List.filter_cons,iP (ltb_iff.2 h)];rfl
 ·rw[iN h,List.filter_cons,iN (λq=>h (ltb_iff.1 q))];rfl
section
variable {l:List E}(hb:Book l) (s:E) {k:Nat}(hk:k<l.length)
include hk
theorem lo_step:lo (l.take (k+1)) s=lo (l.take k) s++if lt (at' l k) s then [at' l k] else []:=by
 rw[take_succ l k hk,lo_append,lo_one]
theorem hi_step:hi (l.take (k+1)) s=hi (l.take k) s++if lt s (at' l k) then [at' l k] else []:=by
 rw[take_succ l k hk,hi_append,hi_one]
theorem had_step:hadK l s (k+1)=(hadK l s k||decide (key (at' l k) s)):=by
 unfold hadK;rw[take_succ l k hk];by_cases q:key (at' l k) s
 ·rw[b0k q,Bool.or_true];exact b0k ⟨_,by simp,q⟩
 ·rw[b0j q,Bool.or_false];refine decide_eq_decide.2 ⟨?_,?_⟩
  ·rintro⟨e,he,aa⟩;rcases List.mem_append.1 he with h | h
   ·exact⟨e,h,aa⟩
   ·simp at h;subst h;exact absurd aa q
  ·rintro⟨e,he,aa⟩;exact⟨e,List.mem_append_left _ he,aa⟩
theorem step_key (h:key (at' l k) s):outK l s (k+1)=outK l s k/\putK l s (k+1)=putK l s k:=by
 have h1:=(key_iff.1 h).1;have h2:=(key_iff.1 h).2;unfold outK putK;rw[lo_step s hk,hi_step s hk,iN h1,iN h2,List.append_nil,List.append_nil];exact⟨rfl,rfl⟩
theorem step_put (h:lt s (at' l k)) (hp:putK l s k=false):outK l s (k+1)=outK l s k++[s]++[at' l k]/\putK l s (k+1)=true:=by
 unfold outK putK at *;rw[lo_step s hk,hi_step s hk,iN (lt_asymm h),iP h,List.append_nil];cases q:hi (l.take k) s with
 | nil=>simp
 | cons a r=>rw[q] at hp;cases hp
theorem step_more (h:lt s (at' l k)) (hp:putK l s k=true):outK l s (k+1)=outK l s k++[at' l k]/\putK l s (k+1)=true:=by
 unfold outK putK at *;rw[lo_step s hk,hi_step s hk,iN (lt_asymm h),iP h,List.append_nil];cases q:hi (l.take k) s with
 | nil=>rw[q] at hp;cases hp
 | cons a r=>simp
include hb
theorem step_low (h:lt (at' l k) s):outK l s (k+1)=outK l s k++[at' l k]/\putK l s (k+1)=false/\putK l s k=false:=by
 have e:hi (l.take k) s=[]:=by
  unfold hi;apply filter_no
  intro e he;obtain⟨i,h1,h2,rfl⟩:=mem_take he;exact b0j (lt_asymm (lt_trans (hb.less h1 hk) h))
 unfold outK putK;rw[lo_step s hk,hi_step s hk,iP h,iN (lt_asymm h),e];simp
end
theorem outK_zero (l:List E) (s:E):outK l s 0=[]/\putK l s 0=false/\hadK l s 0=false:=by
 refine⟨rfl,rfl,b0j ?_⟩;rintro⟨e,he,_⟩;simp at he
theorem outK_length (l:List E) (s:E) (k:Nat):(outK l s k).length<=l.length+1:=by
 have h:=lens (l.take k) s;have h2:(l.take k).length<=l.length:=(by simp;omega)
 unfold outK;cases q:hi (l.take k) s with
 | nil=>simp;omega
 | cons a r =>
  rw[q] at h;simp only[List.length_append,List.length_cons] at h ⊢;omega
theorem out_all (l:List E) (s:E):(if putK l s l.length=true then outK l s l.length else outK l s l.length++[s])=lo l s++s :: hi l s:=by
 unfold outK putK;rw[List.take_length];cases q:hi l s with
 | nil=>simp
 | cons a r=>simp
end Bk
end
section
open Go.Proofs.Tryz
open Go.RowKit
theorem and40 (s:Int) (h0:0<=s) (h1:s<18446744073709551616):bits BinOp.and IntKind.u64 s 1099511627776=s/1099511627776%2*1099511627776:=by
 obtain⟨a,rfl⟩:=Int.eq_ofNat_of_zero_le h0;have h:=bits_and_u64_nat a 1099511627776 om om;rw[show((1099511627776:Nat):Int)=1099511627776 from rfl] at h;rw[h];have h2:a &&& 2 ^ 40=a/2 ^ 40%2 ^ 1*2 ^ 40:=by
  apply Nat.eq_of_testBit_eq
  intro i;rw[Nat.testBit_and,Nat.testBit_two_pow,Nat.testBit_mul_two_pow,Nat.testBit_mod_two_pow,Nat.testBit_div_two_pow];by_cases e:40=i
  ·subst e;simp
  ·by_cases e2:40<=i
   ·simp[e,show ¬(i-40<1) by omega]
   ·simp[e,e2]
 rw[show(2:Nat) ^ 40=1099511627776 from rfl] at h2;rw[h2];omega
def wrong (d s:Int) (t:Bool) (p v y:Int) (n:Nat):Int :=
 if 281474976710655<d\/281474976710655<s then 3
 else if s/1099511627776%2=1 then 8
 else if t=true/\¬((0<=v/\v<=4094)/\0<=p/\p<=7) then 3
 else if ¬((1536<=y/\y<=65535)/\y≠33024) then 1
 else if 1500<n then 4 else 0
end
section
open Go.Proofs.Tryz
open Go.RowKit
open Bk (E at')
def eA (e:E):Array Value:=#[Iv e.vid,Uv e.addr,Iv e.port,Iv e.age]
def eC (e:E) (j:Nat):Value:=if j=0 then Iv e.vid else if j=1 then Uv e.addr else if j=2 then Iv e.port else Iv e.age
theorem eC_one (e:E) (j:Nat):(eC e j).oneCell'=true:=by
 unfold eC;repeat' split
 all_goals rfl
theorem a6M:(prog.info? 110).map (λi=>(i.zero,i.size,i.bytes))=some (some (.agg (eA Bk.e0)),4,32):=by kernel_rfl
theorem a0F {w:World}{g:Nat}{a0 a1 a2 a3:Value}{ty:TypeId}(h:w.heap[g]?=some (.cells #[a0,a1,a2,a3] ty (0,0))) :
  w.cell? (Pv g 0)=some a0/\w.cell? (Pv g 1)=some a1/\w.cell? (Pv g 2)=some a2/\w.cell? (Pv g 3)=some a3 :=
 ⟨a9Y w g 0 _ _ _ h,a9Y w g 1 _ _ _ h,a9Y w g 2 _ _ _ h,a9Y w g 3 _ _ _ h⟩
def BEL (w:World) (ao:OA) (cap:Nat) (l:List E):Prop:=CRow w ao l.length cap 4 (λi=>eC (at' l i))
theorem BEL.below {w w':World}{ao:OA}{cap:Nat}{l:List E}(h:BEL w ao cap l) (hb:Bl w w'):BEL w' ao cap l:=CRow.below h hb
theorem BEL.cells {w:World}{b off cap:Nat}{l:List E}(h:BEL w (some (Pv b off)) cap l) {i:Nat}(hi:i<l.length) :
  w.cell? (Pv b (off+i*4))=some (Iv (at' l i).vid)/\w.cell? (Pv b (off+i*4+1))=some (Uv (at' l i).addr)/\w.cell? (Pv b (off+i*4+2))=some (Iv (at' l i).port)/\w.cell? (Pv b (off+i*4+3))=some (Iv (at' l i).age):=by
 obtain⟨b',aa,e,_,hc⟩:=h.2 om;cases e
 exact⟨hc i hi 0 om,hc i hi 1 om,hc i hi 2 om,hc i hi 3 om⟩
theorem BEL.place {w:World}{ao:OA}{cap:Nat}{l:List E}(h:BEL w ao cap l) (hn:0<l.length):∃b off,ao=.some ⟨b,off,.none⟩/\b<w.heap.size:=by
 obtain⟨b,off,e,hb,_⟩:=h.2 hn;exact⟨b,off,e,hb⟩
def OwnE (w:World) (base:Nat) (v:Value) (l:List E):Prop:=w.ownsRow base 110 4 v l.length (a0f l.length 4 (λi=>eC (at' l i)))
theorem OwnE.el {w:World}{base:Nat}{v:Value}{l:List E}(h:OwnE w base v l):∃ao cap,v=.slice ao l.length cap/\BEL w ao cap l/\a0s ao l.length cap/\(∀ad,ao=some ad->base<=ad.block):=a0W om h
theorem OwnE.below {w w':World}{base:Nat}{v:Value}{l:List E}(h:OwnE w base v l) (hb:Bl w w'):OwnE w' base v l:=a0h h hb
theorem OwnE.mono {w:World}{base aa:Nat}{v:Value}{l:List E}(h:OwnE w base v l) (hb:aa<=base):OwnE w aa v l:=by
 obtain⟨h1,h2⟩:=h;refine⟨h1,?_⟩;rcases h2 with h2 | ⟨g,cap,ab,hv,hg,r⟩
 ·exact Or.inl h2
 ·exact Or.inr ⟨g,cap,ab,hv,b0p hb hg,r⟩
theorem OwnE.nil (w:World) (base:Nat):OwnE w base sN []:=a0y w base _ _ _
theorem a2q (w:World) (base:Nat) (v:Value) (l:List E) (ab:OwnE w base v l) (ao:OA) (cp:Nat) (m:List E) (n:Nat) (hn:n=m.length) (hr:BEL w ao cp m) (ac:a0s ao n cp) (hb:l.length+n<=1000000) (aa:base<=w.heap.size) :
  ∃a1 c1 w',(Builtin.append_ #[67,67] 67 #[v,.slice ao n cp]).run prog w=.ok (.slice a1 (l++m).length c1) w'/\OwnE w' base (.slice a1 (l++m).length c1) (l++m)/\Below base w w'/\(∀q,q<w.heap.size->some q≠v.ownBlock->w'.heap[q]?=w.heap[q]?):=by
 subst hn;obtain⟨a1,c1,w',r,o,b,q⟩:=a0E w 67 110 _ 4 32 underlying67 a6M rfl om base v l.length _ ab ao m.length cp (λi=>eC (at' m i)) (λ_ _=>eC_one _ _) hr ac (by unfold maxLen;omega) om aa;have e:l.length+m.length=(l++m).length:=(by simp)
 rw[e] at r o;refine⟨a1,c1,w',r,?_,b,q⟩;unfold OwnE;rw[a0k _ 4 _ (λi=>eC (at' (l++m) i))] at o
 ·exact o
 ·intro i hi;unfold catC;by_cases h:i<l.length
  ·rw[iP h,Bk.at_append_left l m i h]
  ·rw[iN h,Bk.at_append_right l m i om]
theorem a3Q {w:World}{g:Nat}{e:E}{ty:TypeId}(h:w.heap[g]?=some (.cells (eA e) ty (0,0))):BEL w (some (Pv g 0)) 1 [e]:=by
 refine⟨b0g _,λ_=>⟨g,0,rfl,(gSm.1 h).1,λi hi j hj => ?_⟩⟩;obtain rfl:i=0:=by simp at hi;exact hi
 rcases(show j=0\/j=1\/j=2\/j=3 by omega) with rfl | rfl | rfl | rfl
 ·exact a9Y w g 0 _ _ _ h
 ·exact a9Y w g 1 _ _ _ h
 ·exact a9Y w g 2 _ _ _ h
 ·exact a9Y w g 3 _ _ _ h
theorem BEL.take {w:World}{ao:OA}{cap:Nat}{l:List E}(h:BEL w ao cap l) (k:Nat) (hk:k<=l.length):BEL w ao cap (l.take k):=by
 unfold BEL;rw[show(l.take k).length=k by simp;omega];exact(h.prefix hk).congr (λi hi=>by rw[Bk.at_take l k i hi])
theorem BEL.drop {w:World}{b off cap:Nat}{l:List E}(h:BEL w (some (Pv b off)) cap l) (k:Nat) (hk:k<=l.length):BEL w (some (Pv b (off+k*4))) (cap-k) (l.drop k):=by
 unfold BEL;rw[List.length_drop];exact(h.behind k hk).congr (λi hi=>by rw[Bk.at_drop l k i])
theorem BEL.of {w:World}{ao:OA}{n cap:Nat}{f:Nat->E}(h:CRow w ao n cap 4 (λi=>eC (f i))):BEL w ao cap (Bk.listOf n f):=by
 unfold BEL;rw[Bk.listOf_length];exact h.congr (λi hi=>by rw[Bk.listOf_at n f i hi])
end
section
open Go.Proofs.Tryz
open Go.RowKit
theorem a4s (s:Int) (w:World) (h0:0<=s) (h1:s<18446744073709551616) :
  Calls prog 113 #[Uv s] w λe w'=>e=.returned (.bool (decide (s/1099511627776%2=1)))/\w'=w:=by
 have h:=and40 s h0 h1;go_enter func113,ntmps113;go_wp2
 go_ret;refine⟨?_,rfl⟩;by_cases e:s/1099511627776%2=1
 ·simp[e]
 ·have:s/1099511627776%2=0:=om
  simp[this]
end
section
open Go.Proofs.Tryz
open Go.RowKit
open Bk (E at')
theorem binr_raw (vi ad po ag:Int) (w:World) :
  Calls prog 127 #[.agg #[Iv vi,Uv ad,Iv po,Iv ag]] w λe w'=>e=.returned (.bool (decide ((1<=vi/\vi<=4094)/\ad<=281474976710655/\(0<=po/\po<=30)/\(0<=ag/\ag<=300))))/\Bl w w':=by
 by_cases h1:1<=vi/\vi<=4094
 ·have d1:decide (1<=vi/\vi<=4094)=true:=b0k h1;by_cases h2:ad<=281474976710655
  ·by_cases h3:0<=po/\po<=30
   ·have d3:decide (0<=po/\po<=30)=true:=b0k h3;go_enter func127,ntmps127;go_wp2_with (go_at_call 63;refine(a0u _ _ _ _).mono ?_;rintro e w1 ⟨rfl,rfl⟩;first | rw[d1] | rw[d3] | skip)
    go_ret;exact⟨by simp[h1,h2,h3],(b0h _ _).alloc (b0g _) _⟩
   ·have d3:decide (0<=po/\po<=30)=false:=b0j h3;go_enter func127,ntmps127;go_wp2_with (go_at_call 63;refine(a0u _ _ _ _).mono ?_;rintro e w1 ⟨rfl,rfl⟩;first | rw[d1] | rw[d3] | skip)
    go_ret;exact⟨by simp[h3],(b0h _ _).alloc (b0g _) _⟩
  ·have d2:decide (ad<=281474976710655)=false:=b0j h2;go_enter func127,ntmps127;go_wp2_with (go_at_call 63;refine(a0u _ _ _ _).mono ?_;rintro e w1 ⟨rfl,rfl⟩;first | rw[d1] | skip)
   go_ret;exact⟨by simp;intros;omega,(b0h _ _).alloc (b0g _) _⟩
 ·have d1:decide (1<=vi/\vi<=4094)=false:=b0j h1;go_enter func127,ntmps127;go_wp2_with (go_at_call 63;refine(a0u _ _ _ _).mono ?_;rintro e w1 ⟨rfl,rfl⟩;first | rw[d1] | skip)
  go_ret;exact⟨by simp[h1],(b0h _ _).alloc (b0g _) _⟩
theorem a6N (x:E) (w:World) :
  Calls prog 127 #[.agg #[Iv x.vid,Uv x.addr,Iv x.port,Iv x.age]] w λe w'=>e=.returned (.bool (decide (Bk.rng x)))/\Bl w w':=binr_raw _ _ _ _ w
theorem bmay_any (x:E) (w:World) (h0:0<=x.addr) (h1:x.addr<18446744073709551616) :
  Calls prog 132 #[.agg #[Iv x.vid,Uv x.addr,Iv x.port,Iv x.age]] w λe w'=>e=.returned (.bool (decide (Bk.may x)))/\Bl w w':=by
 have HM:Hid (∀w,Calls prog 113 #[Uv x.addr] w λe w'=>e=.returned (.bool (decide (x.addr/1099511627776%2=1)))/\w'=w):=λw=>a4s x.addr w h0 h1;have HX:Hid (∀W W',Bl w W->Bl W W'->Bl w W'):=λW W' h h'=>h.trans (h'.mono h.size);have HE:Hid (decide (Bk.may x)=(decide (Bk.rng x) && !decide (x.addr/1099511627776%2=1))):=by
  show decide (Bk.rng x/\x.addr/1099511627776%2=0)=(decide (Bk.rng x) && !decide (x.addr/1099511627776%2=1))
  by_cases q:x.addr/1099511627776%2=1
  ·simp[q]
  ·simp[show x.addr/1099511627776%2=0 by omega]
 have HR:Hid (∀W,Calls prog 127 #[.agg #[Iv x.vid,Uv x.addr,Iv x.port,Iv x.age]] W λe w'=>e=.returned (.bool (decide (Bk.rng x)))/\Bl W w'):=λW=>a6N x W;obtain⟨W0,ab⟩:=nm (w.alloc (.cells #[Iv x.vid,Uv x.addr,Iv x.port,Iv x.age] 110))
 have ad:Hid (Bl w W0):=(by rw[ab.o];exact bA1 _ _)
 have HC:Hid (∀W,Bl W0 W->W.cell? (Pv w.heap.size 1)=some (Uv x.addr)):=λW hW=>by
  rw[ab.o] at hW;exact(a0F (keep (a9Z w _) hW)).2.1
 clear h0 h1;rw[HE.o];by_cases h:Bk.rng x
 ·rw[b0k h] at HR;rw[b0k h];go_enter func132,ntmps132;(go_wp2_with fail);rw[<-ab.o];refine(HR.o _).mono ?_;rintro e w1 ⟨rfl,aa⟩;have c1:=HC.o w1 aa;have ac:Hid (Bl w w1):=HX.o _ _ ad.o aa;clear aa;go_wp2_with (go_at_call 113;refine(HM.o _).mono ?_;rintro e w2 ⟨rfl,rfl⟩)
  go_ret;exact⟨by simp,ac.o⟩
 ·rw[b0j h] at HR;rw[b0j h];go_enter func132,ntmps132;(go_wp2_with fail);rw[<-ab.o];refine(HR.o _).mono ?_;rintro e w1 ⟨rfl,aa⟩;have ac:Hid (Bl w w1):=HX.o _ _ ad.o aa;clear aa;(go_wp2_with fail);go_ret;exact⟨by simp,ac.o⟩
def sg2 (a b:E) (i:Nat):Int:=if i=0 then sg a.vid b.vid else sg a.addr b.addr
theorem orTo_sg2 (a b:E):orTo (sg2 a b) 2=Bk.cmp a b:=by
 have e1:orTo (sg2 a b) 1=sg a.vid b.vid:=(by simp[orTo,sg2])
 show(if orTo (sg2 a b) 1=0 then sg2 a b 1 else orTo (sg2 a b) 1)=_;rw[e1];show(if sg a.vid b.vid=0 then sg a.addr b.addr else sg a.vid b.vid)=_;simp only[sg_zero];have L:Bk.lt a b->Bk.cmp a b = -1:=λh=>iP h;have G:Bk.lt b a->Bk.cmp a b=1:=λh=>by unfold Bk.cmp;rw[iN (Bk.lt_asymm h),iP h]
 have Z:Bk.key a b->Bk.cmp a b=0:=λh=>Bk.cmp_zero.2 h;unfold sg;by_cases h0:a.vid=b.vid
 ·rw[iP h0];by_cases h1:a.addr<b.addr
  ·rw[iP h1,L (by unfold Bk.lt;omega)]
  ·rw[iN h1];by_cases h2:b.addr<a.addr
   ·rw[iP h2,G (by unfold Bk.lt;omega)]
   ·rw[iN h2,Z (by unfold Bk.key;omega)]
 ·rw[iN h0];by_cases h1:a.vid<b.vid
  ·rw[iP h1,L (by unfold Bk.lt;omega)]
  ·rw[iN h1,iP om,G (by unfold Bk.lt;omega)]
theorem cor2y (a b:E) (g:Nat) (ty:TypeId) (w:World) (h:w.heap[g]?=some (.cells #[Iv (sg a.vid b.vid),Iv (sg a.addr b.addr)] ty (0,0))) :
  Calls prog 179 #[.slice (some (Pv g 0)) 2 2] w λe w'=>e=.returned (Iv (Bk.cmp a b))/\w'=w:=by
 rw[<-orTo_sg2];refine cor_any g 0 2 2 (sg2 a b) w om om (λi hi => ?_);rcases(by omega:i=0\/i=1) with e | e<;>subst e
 ·exact a9Y w g 0 _ _ _ h
 ·exact a9Y w g 1 _ _ _ h
theorem a2k {n:Nat}{w w':World}(h:Below n w w') (hn:n<=w'.heap.size) (o:Obj):Below n w (w'.drew.alloc o):=(b0i h).alloc hn o
theorem a3r (a b:E) (w:World) :
  Calls prog 128 #[.agg #[Iv a.vid,Uv a.addr,Iv a.port,Iv a.age],.agg #[Iv b.vid,Uv b.addr,Iv b.port,Iv b.age]] w λe w'=>e=.returned (Iv (Bk.cmp a b))/\Bl w w':=by
 obtain⟨W0,ab⟩:=nm ((w.alloc (.cells #[Iv a.vid,Uv a.addr,Iv a.port,Iv a.age] 110)).alloc (.cells #[Iv b.vid,Uv b.addr,Iv b.port,Iv b.age] 110))
 have ac:Hid (Bl w W0):=(by rw[ab.o];exact bA2 _ _ _)
 have aa:Hid (Bl W0 W0):=b0h _ _;have HC:Hid (∀W,Bl W0 W->W.cell? (Pv w.heap.size 0)=some (Iv a.vid)/\W.cell? (Pv w.heap.size 1)=some (Uv a.addr)/\W.cell? (Pv (w.heap.size+1) 0)=some (Iv b.vid)/\W.cell? (Pv (w.heap.size+1) 1)=some (Uv b.addr)):=λW hW=>by
  rw[ab.o] at hW;have h1:=a0F (keep (b0d w _ _) hW);have h2:=a0F (keep (b0c w _ _) hW);exact⟨h1.1,h1.2.1,h2.1,h2.2.1⟩
 have ad:Hid (∀(g:Nat) (ty:TypeId) (W:World),W.heap[g]?=some (.cells #[Iv (sg a.vid b.vid),Iv (sg a.addr b.addr)] ty (0,0))->Calls prog 179 #[.slice (some (Pv g 0)) 2 2] W λe w'=>e=.returned (Iv (Bk.cmp a b))/\w'=W):=λg ty W h=>cor2y a b g ty W h;have HL:Hid (∀W,Bl W0 W->Bl w W):=λW hW=>ac.o.trans (hW.mono ac.o.size);obtain⟨c0,c1,d0,d1⟩:=HC.o W0 aa.o;go_enter func128,ntmps128;(go_wp2_with fail);rw[<-ab.o];go_region_held3 (λW=>W.cell? (Pv w.heap.size 0)=some (Iv a.vid)/\W.cell? (Pv w.heap.size 1)=some (Uv a.addr)/\W.cell? (Pv (w.heap.size+1) 0)=some (Iv b.vid)/\W.cell? (Pv (w.heap.size+1) 1)=some (Uv b.addr))
  (first | (exact HC.o _ (b0i aa.o)) | (exact HC.o _ (a2k aa.o (b0g _) _)))
  (first | (go_at_call 180;refine(a8C _ _ _).mono ?_;rintro e w1 ⟨rfl,rfl⟩) | (go_at_call 154;refine(a5j _ _ _).mono ?_;rintro e w1 ⟨rfl,rfl⟩) | (go_at_call 179;refine(ad.o _ _ _ (a9Z W0.drew _)).mono ?_;rintro e w1 ⟨rfl,rfl⟩))
 (go_wp2_with fail);go_ret;exact⟨rfl,HL.o _ (a2k aa.o (b0g _) _)⟩
