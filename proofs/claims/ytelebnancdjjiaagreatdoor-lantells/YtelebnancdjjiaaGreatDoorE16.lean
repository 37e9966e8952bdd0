/- J4 -/
import Derived.Test.YtelebnancdjjiaaGreatDoorE15
import Derived.Maps.OwnSet
import Derived.ArgAppend
import Derived.Lib.LazyBuf
import Derived.Deep.Upon
set_option maxRecDepth 100000
set_option maxHeartbeats 40000000
namespace Go.Proofs.YtelebnancdjjiaaGreatDoor
section
open Go.Proofs.Tryz
open Go.RowKit
open Vc (V Of)
open Pl (Br Net Pc Lk En)
open Bk (E at')
open Rl (G gat F R O)
abbrev arA (i:Nat) (p:Int) (f:F):Array Value:=#[Iv i,Iv p,Uv f.dst,Uv f.src,.bool f.tagged,Iv f.prio,.bool f.drop,Iv f.vid,Iv f.type,.slice f.ao f.n f.cap]
theorem a4V {W W':World}{base:Nat}{ty:TypeId}{c:Nat}{v:Value}{n:Nat}{l:List Value}(h:W.ownsRow base ty c v n l) (hb:∀g,base<=g->W'.heap[g]?=W.heap[g]?):W'.ownsRow base ty c v n l:=by
 obtain⟨h1,h2⟩:=h;rcases h2 with⟨rfl,rfl⟩ | ⟨g,cap,aa,rfl,hg,hh,r⟩
 ·exact⟨h1,Or.inl ⟨rfl,rfl⟩⟩
 ·exact⟨h1,Or.inr ⟨g,cap,aa,rfl,hg,(hb g hg).trans hh,r⟩⟩
theorem OwnO.far {W W':World}{base:Nat}{v:Value}{f:F}{l:List OV}(h:OwnO W base v f l) (hb:∀g,base<=g->W'.heap[g]?=W.heap[g]?):OwnO W' base v f l:=⟨a4V h.row hb,λx hx=>a4V (h.data x hx) hb⟩
theorem a5w {r:R}{l:List G}{b:List E}{p:Int}{f:F}(h:b.length<=9223372036854775807):(Rl.relay r l b p f).book.length<=9223372036854775807:=by
 unfold Rl.relay;by_cases c:Rl.errR r l b f=0
 ·rw[iP c];split
  ·exact Nat.zero_le _
  ·split
   ·exact h
   ·have hb:Bk.Book b:=by
     unfold Rl.errR Rl.or4 at c;by_cases c1:r.wrong=0
     ·rw[iP c1] at c;exact Bk.wrong_book.1 (Rl.or3_zero c).2.1
     ·rw[iN c1] at c;exact absurd c c1
    have h2:=(Bk.learn_book hb ⟨Rl.wayOf f (Rl.inG l p),f.src,p,0⟩).many;show(Bk.learn b ⟨Rl.wayOf f (Rl.inG l p),f.src,p,0⟩).length<=_;omega
 ·rw[iN c];exact Nat.zero_le _
theorem a7M (n:Net) (t:List Tr) (oao:OA) (ocap:Nat) (vid:Int) (TB NB VB KB gk ah:Nat) (ad:Nat->List E) (bo:Nat->OA) (bc:Nat->Nat) (i:Nat) (p:Int) (f:F) (w:World) (h:RlH w n t oao ocap vid TB NB VB KB gk ah ad bo bc) (hi:i<n.K) (hd:ByteRow w f.ao f.n f.cap f.bs) (aJ:a0s f.ao f.n f.cap) (aK:0<=f.dst/\f.dst<18446744073709551616) (aM:0<=f.src/\f.src<18446744073709551616) :
  Calls prog 49 #[.agg (arA i p f),.pointer (some (Pv TB 0)),.pointer (some (Pv NB 0)),.pointer (some (Pv VB 0)),.pointer (some (Pv KB 0))] w λe w'=>∃oo oc os fa fb ab aa,e=.returned (.tuple #[.slice oo os.length oc,Iv (Rl.relay (rgR (n.bs i)) (a1c t (i:Int) vid (IL (n.pts i)) fa fb (n.pts i).length) (ad i) p f).err])/\Hid (os.map OV.o=(Rl.relay (rgR (n.bs i)) (a1c t (i:Int) vid (IL (n.pts i)) fa fb (n.pts i).length) (ad i) p f).out/\OwnO w' w.heap.size (.slice oo os.length oc) f os/\OwnE w' w.heap.size (.slice ab (Rl.relay (rgR (n.bs i)) (a1c t (i:Int) vid (IL (n.pts i)) fa fb (n.pts i).length) (ad i) p f).book.length aa) (Rl.relay (rgR (n.bs i)) (a1c t (i:Int) vid (IL (n.pts i)) fa fb (n.pts i).length) (ad i) p f).book/\BkW w' gk n.K (λj=>if j=i then(Rl.relay (rgR (n.bs i)) (a1c t (i:Int) vid (IL (n.pts i)) fa fb (n.pts i).length) (ad i) p f).book else ad j) (λj=>if j=i then ab else bo j) (λj=>if j=i then aa else bc j)/\w.grownBy w' (some gk)):=by
 obtain⟨X,HX⟩:=nm (w.alloc (.cells (arA i p f) 77))
 have ax:Bl w X:=(by rw[HX.o];exact bA1 _ _)
 have aD:X.heap[w.heap.size]?=some (.cells (arA i p f) 77):=(by rw[HX.o];exact a9Z _ _)
 have HH:Hid (∀V,Bl X V->RlH V n t oao ocap vid TB NB VB KB gk ah ad bo bc/\V.heap[w.heap.size]?=some (.cells (arA i p f) 77)/\ByteRow V f.ao f.n f.cap f.bs/\Bl w V):=λV hV=>by
  have aB:=ax.trans (hV.mono ax.size);exact⟨h.below aB,keep aD hV,hd.below aB,aB⟩
 have aH:Hid (a0s f.ao f.n f.cap):=aJ;have aU:=h.right.few;have be:=h.cap;have a8:gk<w.heap.size:=(gSm.1 h.books.row).1;have a9:=h.few;have a0:X.cell? (Pv w.heap.size 0)=some (Iv i):=a9Y _ _ 0 _ _ _ aD;rw[HX.o] at a0;clear h hd aJ ax aD;go_enter func49,ntmps49;(go_wp2_with fail);rw[<-HX.o];clear a0;have aw:Hid (∀V,Bl X V->V.cell? (Pv TB 0)=some (.slice oao t.length ocap)/\V.cell? (Pv NB 1)=some (.slice n.lao n.L n.lcap)/\V.cell? (Pv VB 0)=some (Iv vid)):=λV hV=>by
  obtain⟨r,_⟩:=HH.o V hV;exact⟨a9Y _ _ 0 _ _ _ r.tb,(tC2 r.nb).2,a9Y _ _ 0 _ _ _ r.vb⟩
 have aO:Hid (∀V,Bl X V->Calls prog 51 #[.slice n.lao n.L n.lcap,Iv i] V λe w'=>∃ao cap,e=.returned (.slice ao (n.pts i).length cap)/\Hid (Bl X w')/\Hid (Calls prog 50 #[.agg #[.slice oao t.length ocap],Iv i,.slice ao (n.pts i).length cap,Iv vid] w' λe az=>∃ap ag fa fb,e=.returned (.slice ap (a1c t (i:Int) vid (IL (n.pts i)) fa fb (n.pts i).length).length ag)/\Hid (Bl X az/\GRow az ap ag (a1c t (i:Int) vid (IL (n.pts i)) fa fb (n.pts i).length)))):=λV hV=>by
  obtain⟨r,_⟩:=HH.o V hV;refine(a4p n.lao n.K n.L n.lcap n.ls n.live i V r.right.fewL r.net.lks r.right.links).mono ?_;rintro e w' ⟨ao,cap,rfl,h1,h2,_⟩;have aq:=hV.trans (h2.mono hV.size);refine⟨ao,cap,rfl,aq,?_⟩;obtain⟨r',_⟩:=HH.o w' aq;have aF:(n.pts i).length<=1000:=by
   have:=a6G n i r'.right.fewL;unfold Pl.Net.pts;rw[List.length_map];omega
  refine(a7F oao ocap t (i:Int) ao (n.pts i).length cap (IL (n.pts i)) vid w' r'.talk r'.few h1 aF).mono ?_;rintro e az ⟨ap,ag,fa,fb,rfl,H⟩;exact⟨ap,ag,fa,fb,rfl,aq.trans (H.o.2.mono aq.size),H.o.1⟩
 have a1:Hid (Bl X X.drew):=b0i (b0h _ _);go_region_held3 (λW=>W.cell? (Pv TB 0)=some (.slice oao t.length ocap)/\W.cell? (Pv NB 1)=some (.slice n.lao n.L n.lcap)/\W.cell? (Pv VB 0)=some (Iv vid))
  (first | (exact aw.o _ (Hid.o aS)) | (exact aw.o _ (b0i (Hid.o aS))))
  (first | (go_at_call 51;(with_reducible refine(aO.o _ (by first | exact(Hid.o aS) | exact b0i (Hid.o aS))).mono ?_);rintro e w5 ⟨a5,aW,rfl,aX,aT⟩) | (go_at_call 50;(with_reducible refine aT.o.mono ?_);rintro e w6 ⟨aR,am,fa,fb,rfl,au⟩;have aV:Hid (Bl X w6):=au.o.1))
 (all_goals go_wp2_with fail);have ai:=aV.o;obtain⟨r6,a4,_⟩:=HH.o w6 ai;obtain⟨bb,ac,eb,_⟩:=CRow.some r6.net.brs om;have bd:=r6.net.brs.1;obtain⟨gl,aE⟩:=nn (a1c t (i:Int) vid (IL (n.pts i)) fa fb (n.pts i).length)
 rw[<-aE] at au ⊢;obtain⟨res,af⟩:=nn (Rl.relay (rgR (n.bs i)) gl (ad i) p f)
 have av:Hid (∀V,Bl w6 V->V.cell? (Pv NB 0)=some (.slice (some (Pv bb ac)) n.K n.bcap)/\(V.cell? (Pv bb (ac+i*5+2))=some (.string (n.bs i).reg.s)/\V.cell? (Pv bb (ac+i*5+2+1))=some (Iv (n.bs i).reg.rev)/\V.cell? (Pv bb (ac+i*5+2+2))=some (.slice (n.bs i).reg.ao (n.bs i).reg.n (n.bs i).reg.cap))/\V.cell? (Pv KB 0)=some (.slice (some (Pv gk 0)) n.K ah)/\V.cell? (Pv gk i)=some (.slice (bo i) (ad i).length (bc i))/\(V.cell? (Pv w.heap.size 1)=some (Iv p)/\V.cell? (Pv w.heap.size 2)=some (Uv f.dst)/\V.cell? (Pv w.heap.size 3)=some (Uv f.src)/\V.cell? (Pv w.heap.size 4)=some (.bool f.tagged)/\V.cell? (Pv w.heap.size 5)=some (Iv f.prio)/\V.cell? (Pv w.heap.size 6)=some (.bool f.drop)/\V.cell? (Pv w.heap.size 7)=some (Iv f.vid)/\V.cell? (Pv w.heap.size 8)=some (Iv f.type)/\V.cell? (Pv w.heap.size 9)=some (.slice f.ao f.n f.cap))):=λV hV=>by
  obtain⟨r,ar,_⟩:=HH.o V (ai.trans (hV.mono ai.size));obtain⟨y0,_⟩:=tC2 r.nb;have aN:=r.net.brs;rw[eb] at y0 aN;obtain⟨_,_,b2,b3,b4⟩:=BRow.cells aN hi;exact⟨y0,⟨b2,b3,b4⟩,a9Y _ _ 0 _ _ _ r.kb,(r.books.cell hi).1,a9Y _ _ 1 _ _ _ ar,a9Y _ _ 2 _ _ _ ar,a9Y _ _ 3 _ _ _ ar,a9Y _ _ 4 _ _ _ ar,a9Y _ _ 5 _ _ _ ar,a9Y _ _ 6 _ _ _ ar,a9Y _ _ 7 _ _ _ ar,a9Y _ _ 8 _ _ _ ar,a9Y _ _ 9 _ _ _ ar⟩
 have aG:Hid (∀V,Bl w6 V->Calls prog 52 #[.agg #[.string (n.bs i).reg.s,Iv (n.bs i).reg.rev,.slice (n.bs i).reg.ao (n.bs i).reg.n (n.bs i).reg.cap],.slice aR gl.length am,.slice (bo i) (ad i).length (bc i),Iv p,.agg #[Uv f.dst,Uv f.src,.bool f.tagged,Iv f.prio,.bool f.drop,Iv f.vid,Iv f.type,.slice f.ao f.n f.cap]] V λe w'=>∃oo oc os ab aa,e=.returned (.tuple #[.slice oo os.length oc,.slice ab res.book.length aa,Iv res.err])/\Hid (RelOut V w' f res oo oc os ab aa)/\Hid (OwnO w' w.heap.size (.slice oo os.length oc) f os/\OwnE w' w.heap.size (.slice ab res.book.length aa) res.book)/\Hid (Bl w6 w')):=λV hV=>by
  obtain⟨r,_,a2,_⟩:=HH.o V (ai.trans (hV.mono ai.size));obtain⟨_,_,_,an⟩:=HH.o w6 ai;obtain⟨k1,k2,k3⟩:=r.books.each i hi;obtain⟨_,e2,_,e4⟩:=r.net.each i hi;have hR:=a9g (rgR (n.bs i)) aR am gl (bo i) (bc i) (ad i) p f V ⟨e2,e4,au.o.2.below hV,k1,k3,k2,a2,aH.o,aK,aM⟩;rw[<-af] at hR;refine hR.mono ?_;rintro e w' ⟨oo,oc,os,ab,aa,rfl,ho⟩;exact⟨oo,oc,os,ab,aa,rfl,ho,⟨ho.own.mono (b0p an.size hV.size),ho.bown.mono (b0p an.size hV.size)⟩,hV.trans (ho.low.mono hV.size)⟩
 have ak:Hid (res.book.length<=9223372036854775807):=by
  rw[af];exact a5w (r6.books.each i hi).2.2
 have aY:Hid (Bl w6 w6.drew):=b0i (b0h _ _);have ii:(i:Int)<(n.K:Int):=om
 have aQ:Hid (∀V,Bl w6 V->BkW V gk n.K ad bo bc/\Bl w V):=λV hV=>by
  obtain⟨r,_,_,h4⟩:=HH.o V (ai.trans (hV.mono ai.size));exact⟨r.books,h4⟩
 have aI:Hid (res=Rl.relay (rgR (n.bs i)) (a1c t (i:Int) vid (IL (n.pts i)) fa fb (n.pts i).length) (ad i) p f):=by show _=_;rw[<-aE];exact af
 clear ai r6 a4 eb aE af HH aw aO aT au aX a1 aK aM aH;generalize (n.bs i).reg.s=rs at *;generalize (n.bs i).reg.rev=rv at *;generalize Value.slice (n.bs i).reg.ao (n.bs i).reg.n (n.bs i).reg.cap=rw3 at *;generalize Value.slice (bo i) (ad i).length (bc i)=vbk at *;go_region_held3 (λV=>V.cell? (Pv NB 0)=some (.slice (some (Pv bb ac)) n.K n.bcap)/\(V.cell? (Pv bb (ac+i*5+2))=some (.string rs)/\V.cell? (Pv bb (ac+i*5+2+1))=some (Iv rv)/\V.cell? (Pv bb (ac+i*5+2+2))=some rw3)/\V.cell? (Pv KB 0)=some (.slice (some (Pv gk 0)) n.K ah)/\V.cell? (Pv gk i)=some vbk/\(V.cell? (Pv w.heap.size 1)=some (Iv p)/\V.cell? (Pv w.heap.size 2)=some (Uv f.dst)/\V.cell? (Pv w.heap.size 3)=some (Uv f.src)/\V.cell? (Pv w.heap.size 4)=some (.bool f.tagged)/\V.cell? (Pv w.heap.size 5)=some (Iv f.prio)/\V.cell? (Pv w.heap.size 6)=some (.bool f.drop)/\V.cell? (Pv w.heap.size 7)=some (Iv f.vid)/\V.cell? (Pv w.heap.size 8)=some (Iv f.type)/\V.cell? (Pv w.heap.size 9)=some (.slice f.ao f.n f.cap)))
  (first | (exact av.o _ (Hid.o aS)) | (exact av.o _ (b0i (Hid.o aS))))
  (first | (go_at_call 52;(with_reducible refine(aG.o _ (by first | exact(Hid.o aS) | exact b0i (Hid.o aS))).mono ?_);rintro e w7 ⟨oo,oc,os,ab,aa,rfl,ae,al,aL⟩))
 have aC:=aL.o;obtain⟨ay,aj⟩:=aQ.o w7 aC;obtain⟨a6,ba⟩:=ay.cell hi;obtain⟨_,_,a7,_⟩:=av.o w7 aC;have aZ:Hid (os.map OV.o=res.out/\OwnO (w7.setCell (Pv gk i) (.slice ab res.book.length aa)) w.heap.size (.slice oo os.length oc) f os/\OwnE (w7.setCell (Pv gk i) (.slice ab res.book.length aa)) w.heap.size (.slice ab res.book.length aa) res.book/\BkW (w7.setCell (Pv gk i) (.slice ab res.book.length aa)) gk n.K (λj=>if j=i then res.book else ad j) (λj=>if j=i then ab else bo j) (λj=>if j=i then aa else bc j)/\w.grownBy (w7.setCell (Pv gk i) (.slice ab res.book.length aa)) (some gk)):=by
  refine⟨ae.o.out,al.o.1.far (λg hg=>b0f _ _ _ _ (show g≠gk by omega)),a4V al.o.2 (λg hg=>b0f _ _ _ _ (show g≠gk by omega)),ay.put hi ae.o.book ae.o.bnil ak.o,?_⟩;have bz:Below 0 w7 (w7.setCell (Pv gk i) (.slice ab res.book.length aa)):=(b0h 0 w7).setCell (Nat.zero_le _) _;exact⟨bz.os.trans aj.os,bz.tape.trans aj.tape,bz.output.trans aj.output,b0p aj.size bz.size,λq hq a3=>(b0f _ _ _ _ (by exact λe=>a3 (by rw[e]))).trans (aj.block q hq)⟩
 clear aC ay aj av aG aQ ae aL ak;(go_wp2_with fail);go_ret2;refine⟨oo,oc,os,fa,fb,ab,aa,?_,?_⟩
 ·rw[<-aI.o];rfl
 ·rw[<-aI.o];exact aZ
end
section
open Go.Proofs.Tryz
open Go.RowKit Go.Maps Go.WideElems Go.ChangeShapes Go.WideShapes Go.MapKept Go.ChangeMaps
open Pl (Lk)
def a0K (ls:Nat->Lk):Nat->Int×Int->Option (Int×Int)
 | 0,_=>none
 | k+1,p=>if (ls k).up=true then(if p=((ls k).a,(ls k).pa) then some ((ls k).b,(ls k).pb) else if p=((ls k).b,(ls k).pb) then some ((ls k).a,(ls k).pa) else a0K ls k p) else a0K ls k p
def pR:Value->Option (DataW Unit×List MemPlace)
 | .agg c=>match c.toList with
  | [.int .i64 a,.int .i64 b]=>some (.agg [.lit (.int .i64 a),.lit (.int .i64 b)],[])
  | _=>none
 | _=>none
def pD (x:Int×Int):DataW Unit:=.agg [.lit (.int .i64 x.1),.lit (.int .i64 x.2)]
theorem pR_mk (x:Int×Int):pR (pV x)=some (pD x,[]):=rfl
theorem pR_inv {v:Value}{ps:List MemPlace}{x:Int×Int}(h:pR v=some (pD x,ps)):v=pV x:=by
 unfold pR at h;split at h
 ·rename_i c;split at h
  ·rename_i a b e;injection h with h;injection h with h _;unfold pD at h;injection h with h;injection h with h1 h;injection h with h2 _;have h1:=a3n h1;have h2:=a3n h2;subst h1;subst h2;unfold pV;congr 1
   apply Array.ext'
   rw[e]
  ·cases h
 ·cases h
def CrW (w:World) (b n:Nat) (f:Int×Int->Option (Int×Int)):Prop:=∃D:DataW Unit,w.ownsMap prog 75 pR b n D/\IsMap D/\∀a:Int×Int,(Lit.int .i64 a.1).wf=true->(Lit.int .i64 a.2).wf=true->Maps.has D (pkl a)=(f a).isSome/\D.atKey (pkl a) (pD (0,0))=pD ((f a).getD (0,0))
theorem CrW.same {w w':World}{b n:Nat}{f:Int×Int->Option (Int×Int)}(h:CrW w b n f) (e:w'.heap[b]?=w.heap[b]?):CrW w' b n f:=by
 obtain⟨D,⟨es,aa,hb,r⟩,h2⟩:=h;exact⟨D,⟨es,aa,e.trans hb,r⟩,h2⟩
theorem CrW.lt {w:World}{b n:Nat}{f:Int×Int->Option (Int×Int)}(h:CrW w b n f):b<w.heap.size:=by
 obtain⟨D,h1,_⟩:=h;exact h1.lt
theorem CrW.put {w:World}{b n:Nat}{f:Int×Int->Option (Int×Int)}(h:CrW w b n f) (x y:Int×Int) (hn:n<=1000) (x1:(Lit.int .i64 x.1).wf=true) (x2:(Lit.int .i64 x.2).wf=true) :
  ∃w',(Instr.mapUpdate 126 (.map (some b)) (pV x) (pV y)).run prog w=.ok () w'/\CrW w' b (n+1) (λp=>if p=x then some y else f p)/\w.grownBy w' (some b):=by
 obtain⟨D,ho,hD,ac⟩:=h;have aa:=a3K x x1 x2;obtain⟨w1,e3,ad,hg⟩:=ho.update pkeyed underlying126 (by unfold maxLen;omega) aa (pR_mk y);refine⟨w1,e3,⟨_,ad,hD.put _ _,λa a1 a2 => ?_⟩,hg⟩;by_cases e:a=x
 ·subst e;simp only[iP];exact⟨has_put_same hD (pkeyed.key aa) _,atKey_put_same hD (pkeyed.key aa) _ _⟩
 ·simp only[iN e];have ab:pkl a≠pkl x:=λq=>e (a8I a1 a2 x1 x2 q);rw[has_put_other ab,atKey_put_other ab];exact ac a a1 a2
theorem sizePt:(prog.info? 75).map (·.size)=some 2:=by kernel_rfl
theorem crzero (w:World):(zeroValue 75).run prog w=.ok (pV (0,0)) w:=by kernel_rfl
theorem CrW.look {w:World}{b n:Nat}{f:Int×Int->Option (Int×Int)}(h:CrW w b n f) (x:Int×Int) (x1:(Lit.int .i64 x.1).wf=true) (x2:(Lit.int .i64 x.2).wf=true) :
  (Instr.lookup 126 (.map (some b)) (pV x) true).run prog w=.ok (.tuple #[pV ((f x).getD (0,0)),.bool (f x).isSome]) w:=by
 obtain⟨D,ho,hD,aa⟩:=h;obtain⟨v,ps,e1,e2⟩:=ho.look_ok pkeyed underlying126 (crzero w) (pR_mk (0,0)) (a3K x x1 x2);obtain⟨q1,q2⟩:=aa x x1 x2;rw[q1] at e1;rw[q2] at e2;rw[e1,pR_inv e2]
theorem a7N (P b n:Nat) (f:Int×Int->Option (Int×Int)) (a:Int×Int) (w:World) (hP:w.cell? (Pv P 0)=some (.map (some b))) (h:CrW w b n f) (h1:(Lit.int .i64 a.1).wf=true) (h2:(Lit.int .i64 a.2).wf=true) :
  Calls prog 53 #[.agg #[.int .i64 a.1,.int .i64 a.2],.pointer (some (Pv P 0))] w λe w'=>e=.returned (.tuple #[pV ((f a).getD (0,0)),.bool (f a).isSome])/\Hid (Bl w w'):=by
 have ad:=h.lt;have aa:=b0r hP;simp only at aa;obtain⟨X,HX⟩:=nm ((w.alloc (.cells #[.int .i64 a.1,.int .i64 a.2] 75)).alloc (.cells #[.int .i64 0,.int .i64 0] 75))
 have ab:Bl w X:=(by rw[HX.o];exact bA2 _ _ _)
 have hl:=(h.same (ab.block b ad)).look a h1 h2;have ac:X.cell? (Pv P 0)=some (.map (some b)):=(ab.cell (by exact aa)).trans hP;obtain⟨⟨y1,y2⟩,hy⟩:∃y:Int×Int,y=(f a).getD (0,0):=⟨_,rfl⟩
 have ae:Hid (∀o1 o2 o3,Bl w (((w.alloc o1).alloc o2).alloc o3)):=λo1 o2 o3=>(bA2 _ _ _).trans ((bA1 _ _).mono (by simp;omega));rw[<-hy] at hl ⊢;generalize (f a).isSome=up at *;rw[HX.o] at hl;unfold pV at *;simp only at *;clear hy h ab ac HX X;go_enter func53,ntmps53;(go_wp2_with fail);exact b0b (v:=.tuple #[.agg #[.int .i64 y1,.int .i64 y2],.bool up]) (rRt (p:=3) (u:=4) (ty:=75) results53 _ _ (w.heap.size+1) 75 #[.int .i64 y1,.int .i64 y2] (0,0) _ rfl (keep (b0c w _ _) (bA1 _ _)) underlying75 rfl (by rw[sizePt];rfl)) rfl ⟨rfl,ae.o _ _ _⟩
theorem a5x (K:Nat) (ao:OA) (L cap:Nat) (ls:Nat->Lk) (w:World) (hr:LRow w ao L cap ls) (hL:L<=40) (aV:Pl.RightL K L ls) (hK:K<=12) :
  Calls prog 29 #[.slice ao L cap] w λe w'=>∃P M,e=.returned (.func (.func 53) #[] #[.pointer (some (Pv P 0))])/\Hid (w.heap.size<=P/\w'.cell? (Pv P 0)=some (.map (some M))/\w.heap.size<=M/\CrW w' M (2*L) (a0K ls L)/\Bl w w'):=by
 have aY:L<=cap:=hr.1;have HR:Hid (∀W,Bl w W->LRow W ao L cap ls):=λW hW=>hr.below hW;have aO:Hid (Pl.RightL K L ls):=aV;have a4:=@run_makeMap prog;clear hr aV;obtain⟨w0,aR⟩:=nm ((w.alloc (.map #[] 0)).alloc (.cells #[.map (some w.heap.size)] 126))
 have H0:Hid (w0.heap[w.heap.size+1]?=some (.cells #[.map (some w.heap.size)] 126)/\CrW w0 w.heap.size (2*0) (a0K ls 0)/\Bl w w0):=by
  rw[aR.o];exact⟨b0c w (.map #[] 0) (.cells #[.map (some w.heap.size)] 126),⟨.map [],(World.ownsMap_made w _ _ _).alloc _,isMap_empty,λ_ _ _=>⟨rfl,rfl⟩⟩,bA2 _ _ _⟩
 go_enter func29,ntmps29;(go_wp2_with fail);rw[<-aR.o];clear a4;go_loopw [11] (λi wr=>∃(k:Nat),k<=L/\i=.int .i64 k/\Hid (wr.heap[w.heap.size+1]?=some (.cells #[.map (some w.heap.size)] 126)/\CrW wr w.heap.size (2*k) (a0K ls k)/\Bl w wr)) (λi _=>L-(intOf i).toNat)
 case atStart=>exact⟨0,om,rfl,H0⟩
 case round =>
  obtain⟨k,hk,rfl,hX⟩:=hrel;by_cases hlt:k<L
  ·obtain⟨ap,al,aa⟩:=hX.o;obtain⟨b,off,rfl,bg⟩:=CRow.some (HR.o wr aa) om;obtain⟨c0,c1,c2,c3,c4,c5⟩:=LRow.cells (HR.o wr aa) hlt;obtain⟨⟨bl,bc⟩,⟨a7,be⟩,bf,⟨bh,bb⟩,⟨ba,a9⟩,_⟩:=aO.o.ok k hlt;have ar:a0K ls (k+1)=λp=>if (ls k).up=true then(if p=((ls k).a,(ls k).pa) then some ((ls k).b,(ls k).pb) else if p=((ls k).b,(ls k).pb) then some ((ls k).a,(ls k).pa) else a0K ls k p) else a0K ls k p:=rfl
   have i1:(k:Int)<(L:Int):=om
   have i2:IntKind.i64.wrap ((k:Int)+1)=((k+1:Nat):Int):=(by rw[a0t _ om om];rfl)
   generalize hlk:ls k=lk at *;obtain⟨la,ab,lb,ac,aU,aI⟩:=lk;simp only at *;obtain⟨X,HX⟩:=nm (wr.alloc (.cells #[.int .i64 la,.int .i64 ab,.int .i64 lb,.int .i64 ac,.int .i64 aU,.bool aI] 103))
   have ah:Bl wr X:=(by rw[HX.o];exact bA1 _ _)
   have aj:X.heap[wr.heap.size]?=some (.cells #[.int .i64 la,.int .i64 ab,.int .i64 lb,.int .i64 ac,.int .i64 aU,.bool aI] 103):=(by rw[HX.o];exact a9Z _ _)
   have ak:Bl w X:=aa.trans (ah.mono aa.size);cases hup:aI
   ·subst hup;have aw:Hid (X.heap[w.heap.size+1]?=some (.cells #[.map (some w.heap.size)] 126)/\CrW X w.heap.size (2*(k+1)) (a0K ls (k+1))/\Bl w X):=by
     refine⟨keep ap ah,?_,ak⟩;rw[ar];simp only[Bool.false_eq_true,if_false];obtain⟨D,⟨es,au,q1,q2,q3,q4⟩,r⟩:=al.same (ah.block _ al.lt);exact⟨D,⟨es,au,q1,q2,om,q4⟩,r⟩
    clear ap al aa hX ar ah ak;have a5:=a9Y X wr.heap.size 5 _ _ _ aj;(go_wp2_with fail);rw[<-HX.o];(go_wp2_with fail);go_roundw
    case rel=>exact⟨k+1,om,rfl,aw⟩
    case measure=>simp only[intOf];omega
   ·subst hup;have a0:=a9Y X wr.heap.size 0 _ _ _ aj;have a1:=a9Y X wr.heap.size 1 _ _ _ aj;have a2:=a9Y X wr.heap.size 2 _ _ _ aj;have a3:=a9Y X wr.heap.size 3 _ _ _ aj;have a5:=a9Y X wr.heap.size 5 _ _ _ aj;(go_upto_region 6 with fail);rw[<-HX.o];have az:Hid (∀o1 o2:Obj,((X.alloc o1).alloc o2).heap[X.heap.size+1]?=some o2):=λo1 o2=>b0c X o1 o2;go_cut [6,7] (λs6 s7 wx=>∃pa pb,s6=.pointer (some (Pv pa 0))/\s7=.pointer (some (Pv pb 0))/\Hid (pa≠pb/\X.heap.size<=pa/\X.heap.size<=pb/\wx.heap[pa]?=some (.cells #[.int .i64 la,.int .i64 ab] 75)/\wx.heap[pb]?=some (.cells #[.int .i64 lb,.int .i64 ac] 75)/\Bl X wx))
    case first =>
     go_region_held3 (λW=>W.cell? (Pv wr.heap.size 0)=some (.int .i64 la)/\W.cell? (Pv wr.heap.size 1)=some (.int .i64 ab)/\W.cell? (Pv wr.heap.size 2)=some (.int .i64 lb)/\W.cell? (Pv wr.heap.size 3)=some (.int .i64 ac)) (go_keep) (fail)
     ·(go_wp2_with fail);go_meet
      exact⟨_,_,rfl,rfl,om,om,om,keep (a9Z _ _) (bA1 _ _).drew,az.o _ _,(bA2 _ _ _).drew⟩
     ·(go_wp2_with fail);go_meet
      exact⟨_,_,rfl,rfl,om,om,om,az.o _ _,keep (a9Z _ _) (bA1 _ _).drew,(bA2 _ _ _).drew⟩
    case rest =>
    obtain⟨pa,pb,rfl,rfl,HC⟩:=hcut;obtain⟨bd,bm,a8,aJ,aK,ax⟩:=HC.o;have aF:=al.lt;have a6:=ah.size;have bi:=aa.size;have ay:Bl wr wc:=ah.trans (ax.mono a6);have bj:=(gSm.1 ap).1;have af:∀z:Int,0<=z->z<=100000->(Lit.int .i64 z).wf=true:=λz h0 h1=>mwf h0 h1;have hD:CrW wc.drew w.heap.size (2*k) (a0K ls k):=al.same (ay.block _ aF);obtain⟨Wa,ea,aQ,an⟩:=hD.put (la,ab) (lb,ac) om (af _ om om) (af _ om om);obtain⟨aB,aM,am,ae⟩:=aQ.put (lb,ac) (la,ab) om (af _ om om) (af _ om om);obtain⟨Wb,eb,aN,aq⟩:=hD.put (lb,ac) (la,ab) om (af _ om om) (af _ om om);obtain⟨aC,aL,av,ad⟩:=aN.put (la,ab) (lb,ac) om (af _ om om) (af _ om om);have ag:∀V,wc.drew.grownBy V (some w.heap.size)->V.heap[w.heap.size+1]?=some (.cells #[.map (some w.heap.size)] 126)/\(V.cell? (Pv (w.heap.size+1) 0)=some (.map (some w.heap.size))/\V.cell? (Pv pa 0)=some (.int .i64 la)/\V.cell? (Pv pa 1)=some (.int .i64 ab)/\V.cell? (Pv pb 0)=some (.int .i64 lb)/\V.cell? (Pv pb 1)=some (.int .i64 ac)):=λV hV=>by
     have t0:=a1v (w:=wc.drew) (show wc.drew.heap[w.heap.size+1]?=_ from keep ap ay.drew) hV om;have t1:=tC2 (a1v (w:=wc.drew) (show wc.drew.heap[pa]?=_ from aJ) hV om);have t2:=tC2 (a1v (w:=wc.drew) (show wc.drew.heap[pb]?=_ from aK) hV om);exact⟨t0,a9Y _ _ 0 _ _ _ t0,t1.1,t1.2,t2.1,t2.2⟩
    have aT:wc.drew.grownBy wc.drew (some w.heap.size):=⟨rfl,rfl,rfl,b0g _,λ_ _ _=>rfl⟩
    have aX:=(ag _ aT).2;have aW:=(ag _ an).2;have aZ:=(ag _ aq).2;have aG:=(ag _ (an.trans ae)).2;have aH:=(ag _ (aq.trans ad)).2;have ai:∀V,wc.drew.grownBy V (some w.heap.size)->Bl w V:=λV hV=>(ak.trans (ax.mono ak.size)).drew.grown hV (by show w.heap.size<=wc.heap.size;have:=ax.size;have:=ak.size;omega) (λq e=>by injection e with e;omega);have aD:Hid (aB.heap[w.heap.size+1]?=some (.cells #[.map (some w.heap.size)] 126)/\CrW aB w.heap.size (2*(k+1)) (a0K ls (k+1))/\Bl w aB):=by
     refine⟨(ag _ (an.trans ae)).1,?_,ai _ (an.trans ae)⟩;rw[ar];simp only[if_true];rw[show(2*(k+1))=2*k+1+1 by omega];refine cast (congrArg _ (funext λp => ?_)) am;by_cases e1:p=(la,ab)
     ·rw[iP e1,iN (λq=>by rw[e1] at q;injection q with q1 q2;omega),iP e1]
     ·rw[iN e1,iN e1]
    have aE:Hid (aC.heap[w.heap.size+1]?=some (.cells #[.map (some w.heap.size)] 126)/\CrW aC w.heap.size (2*(k+1)) (a0K ls (k+1))/\Bl w aC):=by
     refine⟨(ag _ (aq.trans ad)).1,?_,ai _ (aq.trans ad)⟩;rw[ar];simp only[if_true];rw[show(2*(k+1))=2*k+1+1 by omega];exact av
    unfold pV at ea aM eb aL;simp only at ea aM eb aL;clear ag ai aT an aq ae ad aQ aN am av hD al ap aa hX ar ah ak ay HC aJ aK ax aj hlk aO HR az af;(go_upto_region 7 with fail);go_region_held3 (λV=>V.cell? (Pv (w.heap.size+1) 0)=some (.map (some w.heap.size))/\V.cell? (Pv pa 0)=some (.int .i64 la)/\V.cell? (Pv pa 1)=some (.int .i64 ab)/\V.cell? (Pv pb 0)=some (.int .i64 lb)/\V.cell? (Pv pb 1)=some (.int .i64 ac)) (first | exact aX | exact aW | exact aZ | exact aG | exact aH) (fail)
    (all_goals go_wp2_with fail);all_goals first
     | exact⟨⟨k+1,om,rfl,aD⟩,by simp only[intOf];omega⟩
     | exact⟨⟨k+1,om,rfl,aE⟩,by simp only[intOf];omega⟩
  ·obtain rfl:k=L:=om
   have aw:=hX.o;have h3:=a9Y wr _ 0 _ _ _ aw.1;(go_wp2_with fail);go_ret;exact⟨_,_,rfl,om,h3,b0g _,aw.2⟩
end
section
open Go.Proofs.Tryz
namespace Rl
open Bk (E at')
theorem filter_same (P:G->Bool) (Q:G->O):∀l l':List G,l'.length=l.length->(∀i,i<l.length->P (gat l' i)=P (gat l i)/\Q (gat l' i)=Q (gat l i))->(l'.filter P).map Q=(l.filter P).map Q
 | [],[],_,_=>rfl
 | [],_ :: _,h,_=>by simp at h
 | _ :: _,[],h,_=>by simp at h
 | a :: m,a' :: m',h,hs=>by
  have ih:=filter_same P Q m m' (by simpa using h) (λi hi=>by
   have:=hs (i+1) (by simp;omega);simpa[gat] using this)
  have h0:=hs 0 (by simp);have e1:P a'=P a:=(by simpa[gat] using h0.1)
  have e2:Q a'=Q a:=(by simpa[gat] using h0.2)
  cases hp:P a with
  | true =>
   rw[List.filter_cons_of_pos (by rw[e1,hp]),List.filter_cons_of_pos hp,List.map_cons,List.map_cons,ih,e2]
  | false =>
   rw[List.filter_cons_of_neg (by rw[e1,hp];simp),List.filter_cons_of_neg (by rw[hp];simp),ih]
structure Alike (l l':List G) (t v:Int):Prop where
 len:l'.length=l.length
 port:∀i,(gat l' i).port=(gat l i).port
 plain:∀i,(gat l' i).plain=(gat l i).plain
 ways:∀i,(gat l' i).ways=(gat l i).ways
 opens:∀i,(gat l' i).opens.length=(gat l i).opens.length
 pass:∀i,passes (gat l' i) t v=passes (gat l i) t v
theorem Alike.wrong {l l':List G}{t v:Int}(h:Alike l l' t v):wrong l'=wrong l:=by
 unfold Rl.wrong;rw[h.len];congr 1
 funext i
 unfold gErr gateErr aheadP;rw[h.port i,h.plain i,h.ways i,h.opens i,h.port (i-1)]
theorem Alike.idx {l l':List G}{t v:Int}(h:Alike l l' t v) (p:Int):∀k,Rl.idx l' p k=Rl.idx l p k
 | 0=>rfl
 | k+1=>by
  show(if 0<=Rl.idx l' p k then Rl.idx l' p k else if (gat l' k).port=p then(k:Int) else -1)=(if 0<=Rl.idx l p k then Rl.idx l p k else if (gat l k).port=p then(k:Int) else -1)
  rw[h.idx p k,h.port k]
theorem relay_same {r:R}{l l':List G}{b:List E}{p:Int}{f:F}(h:Alike l l' (r.tree (wayOf f (inG l p))) (wayOf f (inG l p))):relay r l' b p f=relay r l b p f:=by
 have e1:errR r l' b f=errR r l b f:=(by unfold errR;rw[h.wrong])
 have e2:Rl.idx l' p l'.length=Rl.idx l p l.length:=(by rw[h.len,h.idx])
 have e3:wayOf f (inG l' p)=wayOf f (inG l p):=by
  unfold inG wayOf;rw[e2,h.plain]
 have e4:stays r l' p f=stays r l p f:=by
  unfold stays;rw[e3];unfold inG at h ⊢;rw[e2,h.pass]
 have e5:learnt b l' p f=learnt b l p f:=(by unfold learnt;rw[e3])
 have e6:outs r l' b p f=outs r l b p f:=by
  unfold outs;rw[e5,e3];refine filter_same _ _ l l' h.len (λi hi=>⟨?_,?_⟩)
  ·unfold leads;rw[h.port i,h.pass i]
  ·unfold leave;rw[h.plain i,h.port i]
 unfold relay;rw[e1,e2,e4,e5,e6]
end Rl
end
section
open Go.Proofs.Tryz
open Pl (Net Lk)
open Bk (E at')
open Rl (G gat F R O)
namespace Ln
def frO (f:F) (o:O):F:={ f with tagged:=o.tagged,prio:=o.prio,drop:=o.drop,vid:=o.vid }
def frV (f:F) (x:OV):F:={ f with tagged:=x.o.tagged,prio:=x.o.prio,drop:=x.o.drop,vid:=x.o.vid,ao:=x.da,cap:=x.dc }
def gates (n:Net) (t:List Tr) (vid:Int) (i:Nat):List G:=a1c t (i:Int) vid (IL (n.pts i)) (λ_=>0) (λ_=>0) (n.pts i).length
def rl (n:Net) (t:List Tr) (vid:Int) (f:F) (bks:Nat->List E) (i:Nat) (o:O):Rl.Res:=Rl.relay (rgR (n.bs i)) (gates n t vid i) (bks i) o.port (frO f o)
theorem gat_snoc (l:List G) (x:G) (i:Nat):gat (l++[x]) i=if i<l.length then gat l i else if i=l.length then x else Rl.g0:=by
 unfold Rl.gat;by_cases h:i<l.length
 ·rw[iP h];simp[h,List.getElem?_append_left]
 ·rw[iN h];by_cases e:i=l.length
  ·subst e;simp
  ·rw[iN e];simp[List.getElem?_append_right (by omega:l.length<=i)];rw[List.getElem?_eq_none (by simp;omega)];rfl
theorem gList_same (t:List Tr) (aa vid:Int) (pf:Nat->Int) (fa fb fa' fb':Nat->Nat) (tr v:Int):∀j,Rl.Alike (a1c t aa vid pf fa fb j) (a1c t aa vid pf fa' fb' j) tr v
 | 0=>by
  refine⟨rfl,λi => ?_,λi => ?_,λi => ?_,λi => ?_,λi => ?_⟩;all_goals cases i<;>rfl
 | j+1=>by
  have ih:=gList_same t aa vid pf fa fb fa' fb' tr v j;have e1:a1c t aa vid pf fa fb (j+1)=a1c t aa vid pf fa fb j++[mkG t aa vid (pf j) 0 (fa (j+1)) (fb (j+1))]:=rfl;have e2:a1c t aa vid pf fa' fb' (j+1)=a1c t aa vid pf fa' fb' j++[mkG t aa vid (pf j) 0 (fa' (j+1)) (fb' (j+1))]:=rfl;rw[e1,e2];refine⟨by simp[a1W],λi => ?_,λi => ?_,λi => ?_,λi => ?_,λi => ?_⟩;all_goals rw[gat_snoc,gat_snoc,a1W,a1W]
  all_goals by_cases h:i<j+1
  all_goals first | (rw[iP h,iP h];first | exact ih.port i | exact ih.plain i | exact ih.ways i | exact ih.opens i | exact ih.pass i) | (rw[iN h,iN h];split<;>rfl)
theorem rl_eq (n:Net) (t:List Tr) (vid:Int) (f:F) (aa:Nat->List E) (i:Nat) (x:OV) (fa fb:Nat->Nat):Rl.relay (rgR (n.bs i)) (a1c t (i:Int) vid (IL (n.pts i)) fa fb (n.pts i).length) (aa i) x.o.port (frV f x)=rl n t vid f aa i x.o:=by
 have h1:=Rl.relay_same (r:=rgR (n.bs i)) (b:=aa i) (p:=x.o.port) (f:=frV f x) (gList_same t (i:Int) vid (IL (n.pts i)) (λ_=>0) (λ_=>0) fa fb _ _ (n.pts i).length);exact h1
def crs (n:Net) (i:Nat) (o:O):Option (Nat×O):=if o.port=0 then none else(a0K n.ls n.L ((i:Int),o.port)).map λq=>(q.1.toNat,{ o with port:=q.2 })
def seenOf (i:Nat) (os:List O):List (Nat×O):=(os.filter (λo=>decide (o.port=0))).map (λo=>(i,o))
def waitOf (n:Net) (i:Nat) (os:List O):List (Nat×O):=os.filterMap (crs n i)
structure Cs where
 seen:List (Nat×O)
 wait:List (Nat×O)
 books:Nat->List E
 err:Int
def step (n:Net) (t:List Tr) (vid:Int) (f:F) (s:Cs) (x:Nat×O) (r:List (Nat×O)):Cs :=
 ⟨s.seen++seenOf x.1 (rl n t vid f s.books x.1 x.2).out,r++waitOf n x.1 (rl n t vid f s.books x.1 x.2).out,λj=>if j=x.1 then(rl n t vid f s.books x.1 x.2).book else s.books j,(rl n t vid f s.books x.1 x.2).err⟩
def carry (n:Net) (t:List Tr) (vid:Int) (f:F):Nat->Cs->Cs
 | 0,s=>s
 | k+1,s=>match s.wait with
  | []=>s
  | x :: r=>if (step n t vid f s x r).err=0 then carry n t vid f k (step n t vid f s x r) else step n t vid f s x r
theorem carry_nil (n:Net) (t:List Tr) (vid:Int) (f:F) (k:Nat) (s:Cs) (h:s.wait=[]):carry n t vid f k s=s:=by
 cases k with
 | zero=>rfl
 | succ k=>simp[carry,h]
theorem carry_cons (n:Net) (t:List Tr) (vid:Int) (f:F) (k:Nat) (s:Cs) {x:Nat×O}{r:List (Nat×O)}(h:s.wait=x :: r):carry n t vid f (k+1) s=if (step n t vid f s x r).err=0 then carry n t vid f k (step n t vid f s x r) else step n t vid f s x r:=by
 simp[carry,h]
theorem seenOf_len (i:Nat) (os:List O):(seenOf i os).length<=os.length:=by
 unfold seenOf;rw[List.length_map];exact List.length_filter_le _ _
theorem waitOf_len (n:Net) (i:Nat) (os:List O):(waitOf n i os).length<=os.length:=List.length_filterMap_le _ _
theorem seenOf_snoc (i:Nat) (os:List O) (o:O):seenOf i (os++[o])=seenOf i os++if o.port=0 then [(i,o)] else []:=by
 unfold seenOf;rw[List.filter_append,List.map_append];by_cases h:o.port=0<;>simp[h]
theorem waitOf_snoc (n:Net) (i:Nat) (os:List O) (o:O):waitOf n i (os++[o])=waitOf n i os++(crs n i o).toList:=by
 unfold waitOf;rw[List.filterMap_append];cases h:crs n i o<;>simp[h]
theorem out_mem {r:R}{l:List G}{b:List E}{p:Int}{f:F}{o:O}(h:o∈(Rl.relay r l b p f).out):Rl.errR r l b f=0/\Rl.Right l/\∃g∈l,Rl.leads r (Rl.learnt b l p f) (Rl.wayOf f (Rl.inG l p)) f p g=true/\Rl.leave f (Rl.wayOf f (Rl.inG l p)) g=o:=by
 unfold Rl.relay at h;split at h
 ·rename_i hz;split at h
  ·simp at h
  ·split at h
   ·simp at h
   ·have ho:o∈Rl.outs r l b p f:=h;unfold Rl.outs at ho;obtain⟨g,hg,e⟩:=List.mem_map.1 ho;refine⟨hz,?_,g,(List.mem_filter.1 hg).1,(List.mem_filter.1 hg).2,e⟩;unfold Rl.errR Rl.or4 at hz;by_cases c1:r.wrong=0
    ·rw[iP c1] at hz;exact Rl.right_of (Rl.or3_zero hz).1
    ·rw[iN c1] at hz;exact absurd hz c1
 ·simp at h
theorem out_port {r:R}{l:List G}{b:List E}{p:Int}{f:F}{o:O}(h:o∈(Rl.relay r l b p f).out):(0<=o.port/\o.port<=30)/\o.port≠p:=by
 obtain⟨_,hr,g,hg,hl,e⟩:=out_mem h;obtain⟨i,hi,e2⟩:=Rl.mem_gat hg;rw[<-e,Rl.leave_port];unfold Rl.leads at hl;simp only[Bool.and_eq_true,decide_eq_true_eq] at hl;refine⟨?_,hl.1⟩;rw[<-e2];exact hr.port i hi
theorem out_few {r:R}{l:List G}{b:List E}{p:Int}{f:F}:(Rl.relay r l b p f).out.length<=31:=by
 unfold Rl.relay;split
 ·rename_i h;have hr:Rl.Right l:=by
   unfold Rl.errR Rl.or4 at h;by_cases c1:r.wrong=0
   ·rw[iP c1] at h;exact Rl.right_of (Rl.or3_zero h).1
   ·rw[iN c1] at h;exact absurd h c1
  split
  ·simp
  ·split
   ·simp
   ·show(Rl.outs r l b p f).length<=31;unfold Rl.outs;rw[List.length_map];exact b0p (List.length_filter_le _ _) hr.many
 ·simp
theorem crossTo_range {K:Nat}{ls:Nat->Lk}{L:Nat}(R:Pl.RightL K L ls) {p q:Int×Int}:∀k,k<=L->a0K ls k p=some q->(0<=q.1/\q.1<K)/\1<=q.2/\q.2<=30
 | 0,_,h=>by cases h
 | k+1,hk,h=>by
  obtain⟨ha,hb,_,ab,aa,_⟩:=R.ok k om;unfold a0K at h;split at h
  ·split at h
   ·injection h with h;subst h;exact⟨hb,aa⟩
   ·split at h
    ·injection h with h;subst h;exact⟨ha,ab⟩
    ·exact crossTo_range R k om h
  ·exact crossTo_range R k om h
theorem crs_range {n:Net}(R:n.Right) {i:Nat}{o:O}{y:Nat×O}(h:crs n i o=some y):y.1<n.K/\1<=y.2.port/\y.2.port<=30:=by
 unfold crs at h;split at h
 ·cases h
 ·cases e:a0K n.ls n.L ((i:Int),o.port) with
  | none=>rw[e] at h;cases h
  | some q =>
   rw[e] at h;injection h with h;subst h;obtain⟨h1,h2⟩:=crossTo_range R.links n.L (b0g _) e;exact⟨by show q.1.toNat<n.K;omega,h2⟩
theorem wait_range {n:Net}(R:n.Right) {i:Nat}{os:List O}:∀y∈waitOf n i os,y.1<n.K:=λy hy=>by
 unfold waitOf at hy;obtain⟨o,_,h⟩:=List.mem_filterMap.1 hy;exact(crs_range R h).1
end Ln
end
section
open Go.Proofs.Tryz
open Go.RowKit
open Bk (E at')
open Rl (G gat F R O)
structure AV where
 i:Nat
 v:OV
def AV.p (x:AV):Nat×O:=(x.i,x.v.o)
def av0:AV:=⟨0,ov0⟩
def aat (l:List AV) (i:Nat):AV:=l.getD i av0
theorem a3d (l m:List AV) (i:Nat) (h:i<l.length):aat (l++m) i=aat l i:=by simp[aat,h,List.getElem?_append_left]
theorem a3e (l:List AV) (x:AV):aat (l++[x]) l.length=x:=by simp[aat]
def aA (f:F) (x:AV):Array Value:=#[Iv (x.i:Int),Iv x.v.o.port,Uv f.dst,Uv f.src,.bool x.v.o.tagged,Iv x.v.o.prio,.bool x.v.o.drop,Iv x.v.o.vid,Iv f.type,.slice x.v.da f.n x.v.dc]
def sA (f:F) (x:AV):Array Value:=#[Iv (x.i:Int),Uv f.dst,Uv f.src,.bool x.v.o.tagged,Iv x.v.o.prio,.bool x.v.o.drop,Iv x.v.o.vid,Iv f.type,.slice x.v.da f.n x.v.dc]
def sC (f:F) (x:AV) (j:Nat):Value:=(sA f x).getD j (Iv 0)
theorem sC_one (f:F) (x:AV) (j:Nat):(sC f x j).oneCell'=true:=by
 unfold sC sA;by_cases h:j<9
 ·rcases(by omega:j=0\/j=1\/j=2\/j=3\/j=4\/j=5\/j=6\/j=7\/j=8) with e | e | e | e | e | e | e | e | e<;>subst e<;>rfl
 ·simp[h];rfl
theorem aA_one (f:F) (x:AV):∀u∈(aA f x).toList,u.oneCell'=true:=by
 intro u hu;simp only[aA,List.mem_cons,List.not_mem_nil,or_false] at hu;rcases hu with rfl | rfl | rfl | rfl | rfl | rfl | rfl | rfl | rfl | rfl<;>rfl
theorem infoAr:(prog.info? 77).map (λi=>(i.zero,i.size,i.bytes))=some (some (.agg #[Iv 0,Iv 0,Uv 0,Uv 0,.bool false,Iv 0,.bool false,Iv 0,Iv 0,sN]),10,96):=by kernel_rfl
theorem infoSe:(prog.info? 54).map (λi=>(i.zero,i.size,i.bytes))=some (some (.agg #[Iv 0,Uv 0,Uv 0,.bool false,Iv 0,.bool false,Iv 0,Iv 0,sN]),9,88):=by kernel_rfl
def Dt (W:World) (base:Nat) (f:F) (x:OV):Prop:=(x.da=f.ao/\x.dc=f.cap)\/W.ownsRow base 5 1 (.slice x.da f.n x.dc) f.n (a0e f.n f.bs)
def QAt (W:World) (base g off cap:Nat) (f:F) (l:List AV):Prop :=
 base<=g/\l.length<=cap/\∃N c,W.rowIs g 77 N c/\off+cap*10<=N/\∀i,i<l.length->∀j,j<10->(aA f (aat l i))[j]?=some (c (off+i*10+j))
theorem QAt.other {W W':World}{base g off cap:Nat}{f:F}{l:List AV}(h:QAt W base g off cap f l) (e:W'.heap[g]?=W.heap[g]?):QAt W' base g off cap f l:=by
 obtain⟨h1,h2,N,c,⟨cs,h3,h4⟩,r⟩:=h;exact⟨h1,h2,N,c,⟨cs,e.trans h3,h4⟩,r⟩
theorem QAt.lt {W:World}{base g off cap:Nat}{f:F}{l:List AV}(h:QAt W base g off cap f l):g<W.heap.size:=by
 obtain⟨h1,h2,N,c,⟨cs,h3,h4⟩,r⟩:=h;exact(gSm.1 h3).1
theorem QAt.type {W:World}{base g off cap:Nat}{f:F}{l:List AV}(h:QAt W base g off cap f l):∃cs,W.heap[g]?=some (.cells cs 77):=by
 obtain⟨h1,h2,N,c,⟨cs,h3,h4⟩,r⟩:=h;exact⟨cs,h3⟩
theorem QAt.below {W W':World}{base g off cap:Nat}{f:F}{l:List AV}(h:QAt W base g off cap f l) (hb:Bl W W'):QAt W' base g off cap f l:=h.other (hb.block _ h.lt)
theorem QAt.one {W:World}{base g:Nat}{f:F}{x:AV}(h:W.heap[g]?=some (.cells (aA f x) 77)) (hb:base<=g):QAt W base g 0 1 f [x]:=by
 refine⟨hb,by simp,10,λj=>(aA f x).getD j (Iv 0),⟨_,h,rfl,λj hj => ?_⟩,om,λi hi j hj => ?_⟩
 ·have hs:j<(aA f x).size:=hj;simp[hs]
 ·obtain rfl:i=0:=by simp at hi;omega
  have hs:j<(aA f x).size:=hj;show(aA f x)[j]?=some ((aA f x).getD (0+0*10+j) (Iv 0));rw[show 0+0*10+j=j by omega];simp[hs]
theorem QAt.cell {W:World}{base g off cap:Nat}{f:F}{l:List AV}(h:QAt W base g off cap f l) {i:Nat}(hi:i<l.length) {j:Nat}(hj:j<10):W.cell? (Pv g (off+i*10+j))=(aA f (aat l i))[j]?:=by
 obtain⟨h1,h2,N,c,⟨cs,h3,h4,h5⟩,h6,h7⟩:=h;rw[h7 i hi j hj,a9Y W g _ _ _ _ h3];have:i*10+10<=cap*10:=om
 exact h5 _ om
theorem QAt.tail {W:World}{base g off cap:Nat}{f:F}{x:AV}{l:List AV}(h:QAt W base g off cap f (x :: l)):QAt W base g (off+10) (cap-1) f l:=by
 obtain⟨h1,h2,N,c,h3,h4,h5⟩:=h;simp only[List.length_cons] at h2;refine⟨h1,om,N,c,h3,om,λi hi j hj => ?_⟩;have:=h5 (i+1) (by simp;omega) j hj;rw[show off+10+i*10+j=off+(i+1)*10+j by omega];exact this
abbrev a6g (v x:Value) (w:World) (v':Value) (w':World):Prop:=(Builtin.append_ #[121,121] 121 #[v,x]).run prog w=.ok v' w'
abbrev a4W (v x:Value) (w:World) (v':Value) (w':World):Prop:=(Builtin.append_ #[40,40] 40 #[v,x]).run prog w=.ok v' w'
theorem one_ar {W:World}{g:Nat}{f:F}{x:AV}(h:W.heap[g]?=some (.cells (aA f x) 77)) (j:Nat) (u:Value) (hj:(aA f x).toList[j]?=some u):W.cell? (Addr.add ⟨g,0,none⟩ j)=some u:=by
 rw[Addr.add_lit,Nat.zero_add,a9Y W g _ _ _ _ h];rw[Array.getElem?_toList] at hj;exact hj
theorem more_q (base g off cap:Nat) (W:World) (f:F) (l:List AV) (x:AV) (h:QAt W base g off cap f l) (hl:l.length<=100000) (ac:base<=W.heap.size) :
  ∃g' ai aa W2,a6g (.slice (some (Pv g off)) l.length cap) (.slice (some (Pv W.heap.size 0)) 1 1) (W.alloc (.cells (aA f x) 77)) (.slice (some (Pv g' ai)) (l.length+1) aa) W2/\QAt W2 base g' ai aa f (l++[x])/\(g'=g\/W.heap.size<g')/\Below base W W2/\∀q,q≠g->q<W.heap.size->W2.heap[q]?=W.heap[q]?:=by
 obtain⟨i0,hi,ay,ak,aq⟩:=info_parts infoAr;have aj:=bA1 W (.cells (aA f x) 77);have hq:=h.below aj;have ad:=a9Z W (.cells (aA f x) 77);have al:=h.lt;obtain⟨h1,h2,N,c,ag,h4,h5⟩:=hq;have ah:=ag;obtain⟨cs,am,aD,ap⟩:=ah;by_cases hroom:l.length+1<=cap
 ·have ab:=run_append_room_cells (P:=prog) (W.alloc (.cells (aA f x) 77)) 121 121 77 i0 underlying121 hi g off l.length cap ⟨W.heap.size,0,none⟩ 1 1 (aA f x).toList (by rw[ak];rfl) (one_ar ad) (aA_one f x) hroom (λj hj=>by
   rw[a9Y _ g _ _ _ _ am,ak,ap _ (by have:j<10:=hj;omega)];rfl) (λj hj=>b0a _ _ _ _ _ am)
  rw[ak] at ab;refine⟨g,off,cap,_,ab,⟨h1,by simp;omega,N,_,rowIs_setCells _ _ _ _ ag,h4,λi hi j hj => ?_⟩,Or.inl rfl,?_,λq ao al => ?_⟩
  ·simp only[List.length_append,List.length_cons,List.length_nil] at hi;show _=some (if _ then _ else _);rw[show(aA f x).toList.length=10 from rfl];by_cases e:i<l.length
   ·rw[a3d l _ i e,h5 i e j hj,iN om]
   ·obtain rfl:i=l.length:=om
    rw[a3e,iP om,show off+l.length*10+j-(off+l.length*10)=j by omega];have hs:j<(aA f x).size:=hj;simp[hs]
  ·exact(aj.mono ac).trans (below_setCells h1 _ _ _ (b0h _ _))
  ·rw[World.heap_setCells_other _ _ _ _ (by simp;omega) ao];exact aj.block q al
 ·obtain⟨af,eo⟩:=nn (a0f l.length 10 (λi j=>c (off+i*10+j)))
  obtain⟨v',w',ab,an,hg⟩:=run_append_arg_grows (P:=prog) (W.alloc (.cells (aA f x) 77)) 121 121 77 i0 _ 10 96 underlying121 hi ay ak aq rfl om ⟨g,off,none⟩ l.length cap af (by rw[eo,a0p]) (λj u hj=>by
   rw[Addr.add_lit,a9Y _ g _ _ _ _ am];rw[eo] at hj;have av:j<l.length*10:=(by have:=(List.getElem?_eq_some_iff.1 hj).1;rwa [a0p] at this)
   rw[ap _ om];simp[a0f,av] at hj;rw[<-hj,show off+j/10*10+j%10=off+j by omega]) ⟨W.heap.size,0,none⟩ 1 1 (aA f x).toList rfl (one_ar ad) om (by unfold maxLen;omega) om
  obtain⟨aC,aw⟩:=an;rcases aw with⟨rfl,e0⟩ | ⟨g',aa,ae,rfl,ar,hh,az,hm,hs,ht⟩
  ·omega
  ·have aB:W.heap.size+1<=g':=(by simpa using ar)
   refine⟨g',0,aa,w',ab,⟨om,by simp;omega,ae.size,λj=>ae.getD j (Iv 0),⟨ae,hh,rfl,λi hi=>by simp[hi]⟩,om,λi hi j hj => ?_⟩,Or.inr om,?_,λq ao al => ?_⟩
   ·simp only[List.length_append,List.length_cons,List.length_nil] at hi;have hk:i*10+j<(l.length+1)*10:=om
    have h3:(ae.toList.take ((l.length+1)*10))[i*10+j]?=(af++(aA f x).toList)[i*10+j]?:=(by rw[ht])
    rw[List.getElem?_take_of_lt hk,Array.getElem?_toList] at h3;have ax:i*10+j<ae.size:=om
    have h6:some (ae.getD (0+i*10+j) (Iv 0))=ae[i*10+j]?:=by
     rw[Nat.zero_add];simp[ax]
    show _=some (ae.getD (0+i*10+j) (Iv 0));rw[h6,h3];have au:af.length=l.length*10:=(by rw[eo,a0p])
    by_cases e:i<l.length
    ·rw[List.getElem?_append_left om,a3d l _ i e,h5 i e j hj,eo];have:i*10+j<l.length*10:=om
     simp[a0f,this];rw[show(i*10+j)/10=i by omega,Nat.mod_eq_of_lt hj]
    ·obtain rfl:i=l.length:=om
     rw[List.getElem?_append_right om,a3e,au,show l.length*10+j-l.length*10=j by omega,Array.getElem?_toList]
   ·exact(aj.mono ac).grown hg (by simp;omega) (λk hk=>by cases hk)
   ·rw[hg.block q (by simp;omega) (by simp)];exact aj.block q al
theorem one_seen {W:World}{g:Nat}{f:F}{x:AV}(h:W.heap[g]?=some (.cells (sA f x) 54)):CRow W (some (Pv g 0)) 1 1 9 (λ_=>sC f x):=by
 refine⟨b0g _,λ_=>⟨g,0,rfl,(gSm.1 h).1,λi hi j hj => ?_⟩⟩;obtain rfl:i=0:=om
 rw[show 0+0*9+j=j by omega,a9Y W g j _ _ _ h];have hs:j<(sA f x).size:=hj;simp[sC,hs]
theorem more_s (base:Nat) (W:World) (v:Value) (f:F) (l:List AV) (x:AV) (ho:W.ownsRow base 54 9 v l.length (a0f l.length 9 (λi=>sC f (aat l i)))) (hl:l.length<=100000) (aa:base<=W.heap.size) :
  ∃a c W2,a4W v (.slice (some (Pv W.heap.size 0)) 1 1) (W.alloc (.cells (sA f x) 54)) (.slice a (l.length+1) c) W2/\W2.ownsRow base 54 9 (.slice a (l.length+1) c) (l++[x]).length (a0f (l++[x]).length 9 (λi=>sC f (aat (l++[x]) i)))/\Below base W W2/\(∀(q:Nat) (ac:Array Value) (ty:TypeId),W.heap[q]?=some (Obj.cells ac ty (0,0))->ty≠54->W2.heap[q]?=some (Obj.cells ac ty (0,0))):=by
 have ab:=bA1 W (.cells (sA f x) 54);have ae:=a0h ho ab;obtain⟨a1,c1,w',r,o,b,q⟩:=a0E (W.alloc (.cells (sA f x) 54)) 40 54 _ 9 88 underlying40 infoSe rfl om base v l.length _ ae (some (Pv W.heap.size 0)) 1 1 (λ_=>sC f x) (λ_ _=>sC_one _ _ _) (one_seen (a9Z W _)) (λh=>by cases h) (by unfold maxLen;omega) om (by have:=ab.size;omega);have e:l.length+1=(l++[x]).length:=(by simp)
 refine⟨a1,c1,w',r,?_,(ab.mono aa).trans b,λg ac ty hg af => ?_⟩
 ·rw[<-e];rw[a0k (l.length+1) 9 _ (λi=>sC f (aat (l++[x]) i)) (λi hi => ?_)] at o
  ·exact o
  ·unfold catC;by_cases q:i<l.length
   ·rw[iP q,a3d l _ i q]
   ·obtain rfl:i=l.length:=om
    rw[iN q,a3e]
 ·have ad:=keep hg ab;refine(q g (gSm.1 ad).1 (λhv => ?_)).trans ad;obtain⟨c2,h2⟩:=a0z ae hv.symm;rw[ad] at h2;injection h2 with h2;injection h2 with _ h2;exact af h2
