/- ZC -/
import Derived.Test.YtelebnancdjjiaaGreatDoorE21
import Derived.Test.YtelebnancdjjiaaGreatDoorE32
set_option maxRecDepth 100000
set_option maxHeartbeats 40000000
namespace Go.Proofs.YtelebnancdjjiaaGreatDoor
section
open Go.Proofs.Tryz Go.RowKit
open Pl(Net Lk Br)
open Bk(E at')
open Rl(G gat F R O)
theorem infoBo:(prog.info? 4).map (λi=>(i.zero,i.size,i.bytes))=some (some (.bool false),1,1):=by kernel_rfl
theorem infoGt:(prog.info? 95).map (λi=>(i.zero,i.size,i.bytes))=some (some (.agg #[Iv 0,sN,Iv 0,sN]),4,64):=by kernel_rfl
theorem infoBs:(prog.info? 67).map (λi=>(i.zero,i.size,i.bytes))=some (some sN,1,24):=by kernel_rfl
abbrev a1e (l:List Bool):List Value:=a0f l.length 1 (λi _=>.bool (l.getD i false))
theorem more_b (base:Nat) (W:World) (v:Value) (l:List Bool) (b:Bool) (ho:W.ownsRow base 4 1 v l.length (a1e l)) (hl:l.length<=1000) (ab:base<=W.heap.size) :
  ∃a c W2,(Builtin.append_ #[50,50] 50 #[v,.slice (some (Pv W.heap.size 0)) 1 1]).run prog (W.alloc (.cells #[.bool b] 4))=.ok (.slice a (l.length+1) c) W2/\W2.ownsRow base 4 1 (.slice a (l.length+1) c) (l++[b]).length (a1e (l++[b]))/\Below base W W2/\(∀e,e≠4->Ty W W2 e):=by
 have aa:=bA1 W (.cells #[.bool b] 4);have ad:CRow (W.alloc (.cells #[.bool b] 4)) (some (Pv W.heap.size 0)) 1 1 1 (λ_ _=>.bool b):=by
  refine⟨b0g _,λ_=>⟨W.heap.size,0,rfl,by simp,λi hi j hj => ?_⟩⟩;obtain rfl:i=0:=om
  obtain rfl:j=0:=om
  exact a9Y _ W.heap.size 0 _ _ _ (a9Z W _)
 obtain⟨a1,c1,w',r,o,bb,q⟩:=a0E (W.alloc (.cells #[.bool b] 4)) 50 4 _ 1 1 underlying50 infoBo rfl om base v l.length _ (a0h ho aa) (some (Pv W.heap.size 0)) 1 1 (λ_ _=>.bool b) (λ_ _=>rfl) ad (λh=>by cases h) (by unfold maxLen;omega) om (by have:=aa.size;omega);have e:l.length+1=(l++[b]).length:=(by simp)
 refine⟨a1,c1,w',r,?_,(aa.mono ab).trans bb,λe he p ae hp => ?_⟩;rotate_left 1
 ·have ac:=keep hp aa;refine(q p (gSm.1 ac).1 (λhv => ?_)).trans ac;obtain⟨c2,h2⟩:=a0z (a0h ho aa) hv.symm;rw[ac] at h2;injection h2 with h2;injection h2 with _ h2;exact he h2
 rw[<-e];unfold a1e;rw[a0k _ 1 _ (λi _=>.bool ((l++[b]).getD i false))] at o
 ·rw[<-e];exact o
 ·intro i hi;unfold catC;by_cases h:i<l.length
  ·rw[iP h];simp[List.getElem?_append_left h]
  ·obtain rfl:i=l.length:=om
   rw[iN h];simp
structure GOw (W:World) (base:Nat) (v:Value) (gl:List G):Prop where
 row:W.ownsRow base 95 4 v gl.length (a0f gl.length 4 (λi=>gC (gat gl i)))
 ways:∀g∈gl,W.ownsRow base 3 1 (.slice g.wo g.ways.length g.wcap) g.ways.length (a0j g.ways)
 opens:∀g∈gl,W.ownsRow base 4 1 (.slice g.oo g.opens.length g.ocap) g.opens.length (a1e g.opens)
theorem GOw.below {W W':World}{base:Nat}{v:Value}{gl:List G}(h:GOw W base v gl) (hb:Bl W W'):GOw W' base v gl:=⟨a0h h.row hb,λg hg=>a0h (h.ways g hg) hb,λg hg=>a0h (h.opens g hg) hb⟩
theorem GOw.nil (W:World) (base:Nat):GOw W base sN []:=⟨a0y _ _ _ _ _,λg h=>by simp at h,λg h=>by simp at h⟩
theorem GOw.el {W:World}{base:Nat}{v:Value}{gl:List G}(h:GOw W base v gl) (hl:gl.length<=1000) (hg:∀g∈gl,g.ways.length<=1000/\g.opens.length<=1000):∃ao cap,v=.slice ao gl.length cap/\GRow W ao cap gl:=by
 obtain⟨ao,cap,rfl,h1,_⟩:=a0W om h.row;refine⟨ao,cap,rfl,h1,λg hm => ?_,om⟩;obtain⟨g1,g2⟩:=hg g hm;obtain⟨a1,c1,e1,r1,_⟩:=a0W om (h.ways g hm);obtain⟨a2,c2,e2,r2,_⟩:=a0W om (h.opens g hm);injection e1 with e1 _ e3;injection e2 with e2 _ e4;refine⟨?_,?_,om,om⟩
 ·rw[e1,e3];exact r1
 ·rw[e2,e4];exact r2
theorem more_gt (base:Nat) (W:World) (v:Value) (gl:List G) (x:G) (h:GOw W base v gl) (ae:W.ownsRow base 3 1 (.slice x.wo x.ways.length x.wcap) x.ways.length (a0j x.ways)) (ad:W.ownsRow base 4 1 (.slice x.oo x.opens.length x.ocap) x.opens.length (a1e x.opens)) (hl:gl.length<=1000) (aa:base<=W.heap.size) :
  ∃a c W2,(Builtin.append_ #[92,92] 92 #[v,.slice (some (Pv W.heap.size 0)) 1 1]).run prog (W.alloc (.cells (gA x) 95))=.ok (.slice a (gl.length+1) c) W2/\GOw W2 base (.slice a (gl.length+1) c) (gl++[x])/\Below base W W2:=by
 have ab:=bA1 W (.cells (gA x) 95);have h1:=h.below ab;have ac:CRow (W.alloc (.cells (gA x) 95)) (some (Pv W.heap.size 0)) 1 1 4 (λ_=>gC x):=by
  refine⟨b0g _,λ_=>⟨W.heap.size,0,rfl,by simp,λi hi j hj => ?_⟩⟩;obtain rfl:i=0:=om
  rw[show 0+0*4+j=j by omega,a9Y _ W.heap.size j _ _ _ (a9Z W _)];rcases(by omega:j=0\/j=1\/j=2\/j=3) with e | e | e | e<;>subst e<;>rfl
 obtain⟨a1,c1,w',r,o,bb,q⟩:=a0E (W.alloc (.cells (gA x) 95)) 92 95 _ 4 64 underlying92 infoGt rfl om base v gl.length _ h1.row (some (Pv W.heap.size 0)) 1 1 (λ_=>gC x) (λ_ _=>gC_one _ _) ac (λh=>by cases h) (by unfold maxLen;omega) om (by have:=ab.size;omega);have e:gl.length+1=(gl++[x]).length:=(by simp)
 have t:∀e,e≠95->Ty (W.alloc (.cells (gA x) 95)) w' e:=λe he p af hp=>by
  refine(q p (gSm.1 hp).1 (λhv => ?_)).trans hp;obtain⟨c2,h2⟩:=a0z h1.row hv.symm;rw[hp] at h2;injection h2 with h2;injection h2 with _ h2;exact he h2
 refine⟨a1,c1,w',r,⟨?_,λg hg => ?_,λg hg => ?_⟩,(ab.mono aa).trans bb⟩
 ·rw[a0k _ 4 _ (λi=>gC (gat (gl++[x]) i)),e] at o
  ·rw[e];exact o
  ·intro i hi;unfold catC;rw[Ln.gat_snoc];by_cases h:i<gl.length
   ·rw[iP h,iP h]
   ·rw[iN h,iN h,iP om]
 ·rcases List.mem_append.1 hg with hg | hg
  ·exact(t _ dd).owns (h1.ways g hg)
  ·obtain rfl:g=x:=by simpa using hg
   exact(t _ dd).owns (a0h ae ab)
 ·rcases List.mem_append.1 hg with hg | hg
  ·exact(t _ dd).owns (h1.opens g hg)
  ·obtain rfl:g=x:=by simpa using hg
   exact(t _ dd).owns (a0h ad ab)
theorem cp_bk {W:World}{ao:OA}{K cap:Nat}{bks:Nat->List E}{bo:Nat->OA}{bc:Nat->Nat}(hr:CRow W ao K cap 1 (λi _=>.slice (bo i) (bks i).length (bc i))) (ab:a0s ao K cap) (hn:K<=1000) (h0:0<K) :
  ∃gk kc w',(Builtin.append_ #[27,27] 27 #[.slice (some (Pv W.heap.size 0)) 0 0,.slice ao K cap]).run prog (W.alloc (.cells #[] 67))=.ok (.slice (some (Pv gk 0)) K kc) w'/\w'.ownsRow W.heap.size 67 1 (.slice (some (Pv gk 0)) K kc) K (a0f K 1 (λi _=>.slice (bo i) (bks i).length (bc i)))/\Bl W w':=by
 have aa:=bA1 W (.cells #[] 67);obtain⟨a1,c1,w',r,o,b,_⟩:=a0E (W.alloc (.cells #[] 67)) 27 67 _ 1 24 underlying27 infoBs rfl om W.heap.size _ 0 _ (a3D W 67 1 (b0g _)) ao K cap (λi _=>.slice (bo i) (bks i).length (bc i)) (λ_ _=>rfl) (CRow.below hr aa) ab (by unfold maxLen;omega) om aa.size;rw[Nat.zero_add] at r o;rw[a0k K 1 _ (λi _=>.slice (bo i) (bks i).length (bc i)) (λi hi=>by unfold catC;rw[iN om,Nat.sub_zero])] at o;rcases a1G o with⟨_,e⟩ | ⟨g,c2,sp,e,_⟩
 ·omega
 ·rw[e] at r o;exact⟨g,c2,w',r,o,aa.trans b⟩
theorem a4B {K L:Nat}{ls:Nat->Lk}(R:Pl.RightL K L ls) (i:Nat):∀m,(Pl.ptsAll ls L i m).length<=m
 | 0=>b0g _
 | m+1=>by
  unfold Pl.ptsAll;rw[List.length_append];have h1:=a4B R i m;rcases Pl.ptsTo_one R i ((m:Int)+1) L (b0g _) with h | h
  ·rw[h.1,List.length_nil];omega
  ·rw[h.1];simp;omega
theorem a9P {n:Net}(R:n.Right) (i:Nat):(n.pts i).length<=30:=by
 rw[<-show Pl.ptsAll n.ls n.L i 30=n.pts i from Pl.ports_same R.links n.live i];exact a4B R.links i 30
theorem a9Q {Z:World}{base:Nat}{v:Value}{z:Int}{ao:OA}{cap:Nat}{l:List Int}(ho:Z.ownsRow base 3 1 v 1 (a0f 1 1 (λ_ _=>Iv z))) (hr:ILs Z ao cap l) (aa:a0s ao l.length cap) (hl:l.length<=100000) (hb:base<=Z.heap.size) :
  ∃a1 c1 w',(Builtin.append_ #[52,52] 52 #[v,.slice ao l.length cap]).run prog Z=.ok (.slice a1 (1+l.length) c1) w'/\ILs w' a1 c1 (z :: l)/\Below base Z w':=by
 obtain⟨a1,c1,w',r,o,b,_⟩:=a0E Z 52 3 _ 1 8 underlying52 infoI rfl om base v 1 _ ho ao l.length cap _ (λ_ _=>rfl) hr aa (by unfold maxLen;omega) om hb;obtain⟨a2,c2,e,h1,_⟩:=a0W om o;injection e with e1 _ e2;subst e1 e2;refine⟨a1,c1,w',r,?_,b⟩;unfold ILs;rw[show(z :: l).length=1+l.length by simp;omega];refine h1.congr (λi hi => ?_);unfold catC;by_cases h:i<1
 ·obtain rfl:i=0:=om
  rw[iP h];rfl
 ·obtain⟨m,rfl⟩:∃m,i=m+1:=⟨i-1,om⟩
  rw[iN h,Nat.add_sub_cancel];simp
section
variable {P:Program}{md:Region.Mode}{ops:Array Oper}{Q:Exit->Act->World->Prop}{z:Nat}{C:World->Prop}
theorem a9R {i:Nat}{oi:Oper}(d:Option Tmp) {ab:Nat}{aa:Array Bool}{a:Act}{w:World}(hi:ops[i]?=some oi) (hd:oi.dst=d)
  (hs:Region.noSelect ops=true) (hf:Region.free md ops aa i=true) (hr:(Region.ready md ops aa).contains i=true) (ac:i≠z)
  (hQ:∀c a w,Q (.panic c) (a.put d undef) w->Q (.panic c) a w) (hw:Region.wanted oi (yielded ops a.tmps)=false) (hS:aa.getD z true=true\/C w)
  (h:a1n P md ops Q z C ab (aa.setIfInBounds i true) (a.put d undef) w):a1n P md ops Q z C (ab+1) aa a w:=by
 subst hd;exact a2Z hi (Region.noSelect_spec hs) hQ ac ab aa a w (Region.free_spec hi hf) (by simpa using hr) (Or.inr ⟨hw,rfl⟩) hS h
end
theorem OwnR.cells {W:World}{base:Nat}{oo:OA}{oc:Nat}{f:F}{l:List O}(h:OwnR W base (.slice oo l.length oc) f l) {k:Nat}(hk:k<l.length):l.length<=oc/\∃b off,oo=some (Pv b off)/\b<W.heap.size/\W.cell? (Pv b (off+k*9))=some (Iv l[k].port)/\W.cell? (Pv b (off+k*9+1))=some (Uv f.dst)/\W.cell? (Pv b (off+k*9+2))=some (Uv f.src)/\W.cell? (Pv b (off+k*9+3))=some (.bool l[k].tagged)/\W.cell? (Pv b (off+k*9+4))=some (Iv l[k].prio)/\W.cell? (Pv b (off+k*9+5))=some (.bool l[k].drop)/\W.cell? (Pv b (off+k*9+6))=some (Iv l[k].vid)/\W.cell? (Pv b (off+k*9+7))=some (Iv f.type)/\W.cell? (Pv b (off+k*9+8))=some (.slice f.ao f.n f.cap):=by
 obtain⟨ao,cap,e,h1,_⟩:=a0W om h;injection e with e1 _ e2;subst e1 e2;obtain⟨b,off,e,hb,hc⟩:=h1.2 om;have e3:l.getD k ⟨0,false,0,false,0⟩=l[k]:=(by simp[hk])
 have aa:=hc k hk;simp only[e3] at aa;exact⟨h1.1,b,off,e,hb,aa 0 om,aa 1 om,aa 2 om,aa 3 om,aa 4 om,aa 5 om,aa 6 om,aa 7 om,aa 8 om⟩
structure LM (w W:World) (BN BT RF:Nat) (n:Net) (oao:OA) (ocap T:Nat) (f:F) (bks0:Nat->List E) (bo0:Nat->OA) (bc0:Nat->Nat) (gk kc:Nat) (bks:Nat->List E) (bo:Nat->OA) (bc:Nat->Nat) (so:OA) (sc:Nat) (ss:List AV) (B5:Nat) (ov:Value) (L:List O) (ks:List (Nat×Array Value×TypeId)) (ps:List (Nat×O)) (g off qn cap:Nat):Prop where
 ws:∃ws:List AV,ws.map AV.p=ps/\qn=ws.length/\DM w W BN BT RF n oao ocap T f bks0 bo0 bc0 gk kc bks bo bc so sc ss g off cap ws
 kb:∀x∈ks,W.heap[x.1]?=some (.cells x.2.1 x.2.2)/\x.1≠g/\x.2.2≠54
 out:OwnR W B5 ov f L
abbrev LM.o:=@LM.out
section
variable {w W W':World}{BN BT RF:Nat}{n:Net}{oao:OA}{ocap T:Nat}{f:F}{bks0:Nat->List E}{bo0:Nat->OA}{bc0:Nat->Nat}{gk kc:Nat}{bks:Nat->List E}{bo:Nat->OA}{bc:Nat->Nat}{so:OA}{sc:Nat}{ss:List AV}{B5:Nat}{ov:Value}{L:List O}{ks:List (Nat×Array Value×TypeId)}{ps:List (Nat×O)}{g off qn cap:Nat}
theorem LM.below (h:LM w W BN BT RF n oao ocap T f bks0 bo0 bc0 gk kc bks bo bc so sc ss B5 ov L ks ps g off qn cap) (hb:Bl W W'):LM w W' BN BT RF n oao ocap T f bks0 bo0 bc0 gk kc bks bo bc so sc ss B5 ov L ks ps g off qn cap:=by
 obtain⟨ws,h1,h2,h3⟩:=h.ws;exact⟨⟨ws,h1,h2,h3.below hb⟩,λx hx=>⟨keep (h.kb x hx).1 hb,(h.kb x hx).2⟩,h.o.below hb⟩
theorem LM.gl (h:LM w W BN BT RF n oao ocap T f bks0 bo0 bc0 gk kc bks bo bc so sc ss B5 ov L ks ps g off qn cap):g<W.heap.size:=by
 obtain⟨ws,h1,h2,h3⟩:=h.ws;exact h3.q.lt
theorem LM.low (h:LM w W BN BT RF n oao ocap T f bks0 bo0 bc0 gk kc bks bo bc so sc ss B5 ov L ks ps g off qn cap):Bl w W:=by
 obtain⟨ws,h1,h2,h3⟩:=h.ws;exact h3.low
theorem LM.add (h:LM w W BN BT RF n oao ocap T f bks0 bo0 bc0 gk kc bks bo bc so sc ss B5 ov L ks ps g off qn cap) (cs:Array Value) (ty:TypeId) (ht:ty≠54):LM w (W.alloc (.cells cs ty)) BN BT RF n oao ocap T f bks0 bo0 bc0 gk kc bks bo bc so sc ss B5 ov L ((W.heap.size,cs,ty) :: ks) ps g off qn cap:=by
 have h1:=h.below (bA1 W (.cells cs ty));refine⟨h1.ws,λx hx => ?_,h1.o⟩;rcases List.mem_cons.1 hx with rfl | hx
 ·exact⟨a9Z W _,by have:=h.gl;show W.heap.size≠g;omega,ht⟩
 ·exact h1.kb x hx
theorem LM.less (h:LM w W BN BT RF n oao ocap T f bks0 bo0 bc0 gk kc bks bo bc so sc ss B5 ov L ks ps g off qn cap) {aa:List (Nat×Array Value×TypeId)}(hk:∀x∈aa,x∈ks):LM w W BN BT RF n oao ocap T f bks0 bo0 bc0 gk kc bks bo bc so sc ss B5 ov L aa ps g off qn cap:=⟨h.ws,λx hx=>h.kb x (hk x hx),h.o⟩
theorem LM.more (h:LM w W BN BT RF n oao ocap T f bks0 bo0 bc0 gk kc bks bo bc so sc ss B5 ov L ks ps g off qn cap) (y:Nat) (o:O) (hl:ps.length<=90000):∃g' ab aa W2,a3W (.slice (some (Pv g off)) qn cap) (.slice (some (Pv W.heap.size 0)) 1 1) (W.alloc (.cells #[Iv y,Iv o.port,Uv f.dst,Uv f.src,.bool o.tagged,Iv o.prio,.bool o.drop,Iv o.vid,Iv f.type,.slice f.ao f.n f.cap] 90)) (.slice (some (Pv g' ab)) (qn+1) aa) W2/\LM w W2 BN BT RF n oao ocap T f bks0 bo0 bc0 gk kc bks bo bc so sc ss B5 ov L ks (ps++[(y,o)]) g' ab (qn+1) aa:=by
 obtain⟨ws,h1,rfl,h3⟩:=h.ws;have ad:ws.length=ps.length:=(by rw[<-h1,List.length_map])
 obtain⟨g',ab,aa,W2,ac,hq,hg,hb,ht⟩:=more_d w.heap.size g off cap W f ws ⟨y,⟨o,f.ao,f.cap⟩⟩ h3.q om h3.low.size;obtain⟨cs,af⟩:=h3.q.type;refine⟨g',ab,aa,W2,ac,⟨⟨ws++[⟨y,⟨o,f.ao,f.cap⟩⟩],by rw[List.map_append,h1];rfl,by simp,h3.more ⟨rfl,rfl⟩ hq hb ht⟩,λx hx => ?_,(Ty.but af ht _ dd).owns h.o⟩⟩;obtain⟨k1,k2,k3⟩:=h.kb x hx;have ae:x.1<W.heap.size:=(gSm.1 k1).1;refine⟨(ht x.1 k2 ae).trans k1,?_,k3⟩;rcases hg with e | e
 ·rw[e];exact k2
 ·omega
theorem LM.see (h:LM w W BN BT RF n oao ocap T f bks0 bo0 bc0 gk kc bks bo bc so sc ss B5 ov L ks ps g off qn cap) (i:Nat) (o:O) (hl:ss.length<=90000):∃ab ac W2,a4W (.slice so ss.length sc) (.slice (some (Pv W.heap.size 0)) 1 1) (W.alloc (.cells #[Iv i,Uv f.dst,Uv f.src,.bool o.tagged,Iv o.prio,.bool o.drop,Iv o.vid,Iv f.type,.slice f.ao f.n f.cap] 54)) (.slice ab (ss.length+1) ac) W2/\LM w W2 BN BT RF n oao ocap T f bks0 bo0 bc0 gk kc bks bo bc ab ac (ss++[⟨i,⟨o,f.ao,f.cap⟩⟩]) B5 ov L ks ps g off qn cap:=by
 obtain⟨ws,h1,h2,h3⟩:=h.ws;obtain⟨a1,c1,W2,aa,ho,hb,ht⟩:=more_s w.heap.size W (.slice so ss.length sc) f ss ⟨i,⟨o,f.ao,f.cap⟩⟩ h3.row om h3.low.size;refine⟨a1,c1,W2,aa,⟨⟨ws,h1,h2,h3.seen ⟨rfl,rfl⟩ ho hb ht⟩,λx hx => ?_,(show Ty W W2 101 from λq ad hq=>ht q ad _ hq dd).owns h.o⟩⟩;obtain⟨k1,k2,k3⟩:=h.kb x hx;exact⟨ht _ _ _ k1 k3,k2,k3⟩
end
theorem DM.fin {w W W':World}{BN BT RF:Nat}{n:Net}{oao:OA}{ocap T:Nat}{f:F}{bks0:Nat->List E}{bo0:Nat->OA}{bc0:Nat->Nat}{gk kc:Nat}{bks:Nat->List E}{bo:Nat->OA}{bc:Nat->Nat}{so:OA}{sc:Nat}{ss:List AV}{g off cap:Nat}{ws:List AV}(h:DM w W BN BT RF n oao ocap T f bks0 bo0 bc0 gk kc bks bo bc so sc ss g off cap ws) (h0:∀i,i<n.K->BEL w (bo0 i) (bc0 i) (bks0 i)/\a0s (bo0 i) (bks0 i).length (bc0 i)) (hb:Bl w W') (t:∀e,e≠37->Ty W W' e) :
  CRow W' so ss.length sc 9 (λi=>sC f (aat ss i))/\CRow W' (some (Pv gk 0)) n.K kc 1 (λi _=>.slice (bo i) (bks i).length (bc i))/\∀i,i<n.K->BEL W' (bo i) (bc i) (bks i)/\(bks i).length<=9223372036854775807:=by
 obtain⟨a1,c1,e1,r1,_⟩:=a0W om ((t _ dd).owns h.row);obtain⟨a2,c2,e2,r2,_⟩:=a0W om ((t _ dd).owns h.o);injection e1 with p1 _ p2;injection e2 with p3 _ p4;refine⟨by rw[p1,p2];exact r1,by rw[p3,p4];exact r2,λi hi=>⟨?_,(h.each i hi).2⟩⟩;rcases(h.each i hi).1 with⟨e1,e2,e3⟩ | z
 ·rw[e1,e2,e3];exact(h0 i hi).1.below hb
 ·obtain⟨a,c,e,z1,_⟩:=OwnE.el ((t _ dd).owns z);injection e with e1 _ e2;rw[e1,e2];exact z1
structure Cq (n:Net) (t:List Tr) (vid:Int) (f:F) (s0 s:Ln.Cs) (c:Nat) (ss ws:List AV):Prop where
 eq:Ln.carry n t vid f 41 s0=Ln.carry n t vid f (41-c) s
 err:s.err=0
 seen:ss.map AV.p=s.seen
 wait:ws.map AV.p=s.wait
 lenS:ss.length<=31*c
 lenW:ws.length<=1+31*c
 range:∀x∈s.wait,x.1<n.K
structure Cj (n:Net) (c:Nat) (se:List (Nat×O)) (i:Nat) (os:List O) (k:Nat) (ss:List AV):Prop where
 seen:ss.map AV.p=se++Ln.seenOf i (os.take k)
 lenS:ss.length<=31*c+k
def psOf (n:Net) (wa:List (Nat×O)) (i:Nat) (os:List O) (k:Nat):List (Nat×O):=wa++Ln.waitOf n i (os.take k)
theorem a6Z (n:Net) (wa:List (Nat×O)) (i:Nat) (os:List O) (k:Nat):(psOf n wa i os k).length<=wa.length+k:=by
 unfold psOf;rw[List.length_append];have h2:=Ln.waitOf_len n i (os.take k);have h3:(os.take k).length<=k:=(by simp;omega)
 omega
section
variable {n:Net}{t:List Tr}{vid:Int}{f:F}{s0 s:Ln.Cs}{c:Nat}{ss ws:List AV}
theorem Cq.fin (h:Cq n t vid f s0 s c ss ws) (he:c=41\/ws=[]):Ln.carry n t vid f 41 s0=s:=by
 rw[h.eq];rcases he with rfl | rfl
 ·rfl
 ·exact Ln.carry_nil _ _ _ _ _ _ h.wait.symm
theorem Cq.next {x:AV}{rest:List AV}(h:Cq n t vid f s0 s c ss (x :: rest)) (hc:c<=40) (hR:n.Right) (he:(Ln.rl n t vid f s.books x.i x.v.o).err=0) {ab aa:List AV}
  (j:Cj n c s.seen x.i (Ln.rl n t vid f s.books x.i x.v.o).out (Ln.rl n t vid f s.books x.i x.v.o).out.length ab) (jw:aa.map AV.p=psOf n (rest.map AV.p) x.i (Ln.rl n t vid f s.books x.i x.v.o).out (Ln.rl n t vid f s.books x.i x.v.o).out.length):Cq n t vid f s0 (Ln.step n t vid f s x.p (rest.map AV.p)) (c+1) ab aa:=by
 have hw:s.wait=x.p :: rest.map AV.p:=h.wait.symm;have ac:(Ln.rl n t vid f s.books x.i x.v.o).out.length<=31:=Ln.out_few;have j1:=j.seen;have j2:=a6Z n (rest.map AV.p) x.i (Ln.rl n t vid f s.books x.i x.v.o).out (Ln.rl n t vid f s.books x.i x.v.o).out.length;rw[<-jw,List.length_map,List.length_map] at j2;have j3:=h.lenW;simp only[List.length_cons] at j3;unfold psOf at jw;rw[List.take_length] at j1 jw;refine⟨?_,he,j1,jw,by have:=j.lenS;omega,om,λy hy => ?_⟩
 ·rw[h.eq,show 41-c=(41-(c+1))+1 by omega,Ln.carry_cons n t vid f _ s hw,iP (show(Ln.step n t vid f s x.p (rest.map AV.p)).err=0 from he)]
 ·rcases List.mem_append.1 hy with hy | hy
  ·exact h.range y (by rw[hw];exact b0n _ hy)
  ·exact Ln.wait_range hR y hy
theorem Cq.bad {x:AV}{rest:List AV}(h:Cq n t vid f s0 s c ss (x :: rest)) (hc:c<=40) (he:(Ln.rl n t vid f s.books x.i x.v.o).err≠0):(Ln.carry n t vid f 41 s0).err=(Ln.rl n t vid f s.books x.i x.v.o).err:=by
 have hw:s.wait=x.p :: rest.map AV.p:=h.wait.symm;rw[h.eq,show 41-c=(41-(c+1))+1 by omega,Ln.carry_cons n t vid f _ s hw,iN (show ¬(Ln.step n t vid f s x.p (rest.map AV.p)).err=0 from he)];rfl
variable {se wa:List (Nat×O)}{i:Nat}{os:List O}{k:Nat}
theorem Cj.see (j:Cj n c se i os k ss) (hk:k<os.length) (hp:(os[k]).port=0) (a:OA) (b:Nat):Cj n c se i os (k+1) (ss++[⟨i,⟨os[k],a,b⟩⟩]):=by
 refine⟨?_,by have:=j.lenS;simp;omega⟩;rw[List.take_succ_eq_append_getElem hk,Ln.seenOf_snoc,iP hp,List.map_append,j.seen,List.append_assoc];rfl
theorem Cj.skip (j:Cj n c se i os k ss) (hk:k<os.length) (hp:(os[k]).port≠0):Cj n c se i os (k+1) ss:=by
 refine⟨?_,by have:=j.lenS;omega⟩;rw[List.take_succ_eq_append_getElem hk,Ln.seenOf_snoc,iN hp,List.append_nil,j.seen]
theorem ps_see (hk:k<os.length) (hp:(os[k]).port=0):psOf n wa i os (k+1)=psOf n wa i os k:=by
 unfold psOf;rw[List.take_succ_eq_append_getElem hk,Ln.waitOf_snoc];have:Ln.crs n i os[k]=none:=iP hp;rw[this];simp
theorem ps_wait (R:n.Right) (hk:k<os.length) (hp:(os[k]).port≠0):psOf n wa i os (k+1)=psOf n wa i os k++Ln.hits n.ls i os[k] n.L:=by
 unfold psOf;rw[List.take_succ_eq_append_getElem hk,Ln.waitOf_snoc,Ln.hits_crs R i _ hp,List.append_assoc]
end
theorem a9S {w:World}{g:Nat}{c:Array Value}{ty:TypeId}{fr:Nat×Nat}{a b:Value}(h:w.heap[g]?=some (.cells c ty fr)):∀e,e≠ty->Ty w ((w.setCell (Pv g 0) a).setCell (Pv g 1) b) e:=λe aa =>
 Ty.but h (λ_ hq _=>(b0f _ _ _ _ (λz=>hq z)).trans (b0f _ _ _ _ (λz=>hq z))) e aa
theorem a9T (n:Net) (oao:OA) (ocap:Nat) (t:List Tr) (ko:OA) (B ag:Nat) (ad:Nat->List E) (bo:Nat->OA) (bc:Nat->Nat) (aa vid:Int) (f:F) (w:World) (ax:n.Wf) (aC:n.at' w) (aG:TrRow w oao ocap t) (aV:Tabs w) (az:2<=w.heap.size) (hB:B<=9223372036854775807) (aM:BIn w ko B ag ad bo bc) (hd:ByteRow w f.ao f.n f.cap f.bs) (aR:a0s f.ao f.n f.cap) (aL:0<=f.dst/\f.dst<18446744073709551616) (hs:0<=f.src/\f.src<18446744073709551616) :
  Calls prog 10 #[n.val,.agg #[.slice oao t.length ocap],.slice ko B ag,Iv aa,Iv vid,.agg (frA f)] w λe w'=>a7Y w n t vid f B ad aa e w':=by
 have ac:w.heap.size<=w.heap.size+1+1+1:=om
 obtain⟨X0,ar⟩:=nm (((w.alloc (.cells #[.slice n.bao n.K n.bcap,.slice n.lao n.L n.lcap] 25)).alloc (.cells #[.slice oao t.length ocap] 34)).alloc (.cells (frA f) 31))
 have h3:=a1x w (.cells #[.slice n.bao n.K n.bcap,.slice n.lao n.L n.lcap] 25) (.cells #[.slice oao t.length ocap] 34) (.cells (frA f) 31);rw[<-ar.o] at h3;obtain⟨g0,g1,g2,b0⟩:=h3;obtain⟨X,HX⟩:=nm (X0.alloc (.cells #[Iv 0,Iv 0] 37))
 have b1:Bl X0 X:=(by rw[HX.o];exact bA1 _ _)
 have s0:X0.heap.size=w.heap.size+1+1+1:=(by rw[ar.o];simp)
 have g3:X.heap[w.heap.size+1+1+1]?=some (.cells #[Iv 0,Iv 0] 37):=(by rw[HX.o,<-s0];exact a9Z _ _)
 have bX:Bl w X:=b0.trans (b1.mono b0.size);have HH:Hid (∀V,Bl X V->(V.heap[w.heap.size]?=some (.cells #[.slice n.bao n.K n.bcap,.slice n.lao n.L n.lcap] 25)/\V.heap[w.heap.size+1]?=some (.cells #[.slice oao t.length ocap] 34)/\V.heap[w.heap.size+1+1]?=some (.cells (frA f) 31)/\V.heap[w.heap.size+1+1+1]?=some (.cells #[Iv 0,Iv 0] 37))/\Bl w V/\w.heap.size+1+1+1<V.heap.size):=λV hV=>by
  have h1:=b1.trans (hV.mono b1.size);have h2:=keep g3 hV;exact⟨⟨keep g0 h1,keep g1 h1,keep g2 h1,h2⟩,bX.trans (hV.mono bX.size),(gSm.1 h2).1⟩
 have aw:Hid (Calls prog 25 #[.agg #[.slice n.bao n.K n.bcap,.slice n.lao n.L n.lcap],.agg #[.slice oao t.length ocap],.slice ko B ag,Iv aa,Iv vid,.agg #[Uv f.dst,Uv f.src,.bool f.tagged,Iv f.prio,.bool f.drop,Iv f.vid,Iv f.type,.slice f.ao f.n f.cap]] X λe w'=>e=.returned (.agg #[Iv (sErr n t B aa vid f).1,Iv (sErr n t B aa vid f).2])/\Hid (Bl X w')) :=
  (a7X n oao ocap t ko B ag aa vid f X ax (aC.below bX) (aG.below bX) (aV.below bX az) (b0p az bX.size) hB hs).mono (λe w' h=>⟨h.1,h.2⟩)
 have au:Hid ((sErr n t B aa vid f).1=0->∃i0:Nat,aa=(i0:Int)/\i0<n.K/\B=n.K/\n.Right/\t.length<=4/\(sErr n t B aa vid f).2=0):=λhe=>by
  obtain⟨e0,e1,e2,⟨e3,e4⟩,_⟩:=a5D he;have hz:=a2O (a3q e1).1;exact⟨aa.toNat,om,om,e2,right_of ax hz.2.1,(a2z.1 hz.2.2.1).1.2,by rw[e0]⟩
 have aD:Hid (n.at' w/\TrRow w oao ocap t/\BIn w ko B ag ad bo bc/\ByteRow w f.ao f.n f.cap f.bs/\a0s f.ao f.n f.cap/\(0<=f.dst/\f.dst<18446744073709551616)/\0<=f.src/\f.src<18446744073709551616):=⟨aC,aG,aM,hd,aR,aL,hs⟩
 clear ax aC aG aV az g0 g1 g2 g3 b0 b1 bX s0 hs aM hd aR aL;unfold frA at ar HH;unfold frA Pl.Net.val;obtain⟨e1,aF⟩:=nn ((sErr n t B aa vid f).1)
 obtain⟨e2,aj⟩:=nn ((sErr n t B aa vid f).2)
 rw[<-aF,<-aj] at au aw;have ai:Hid (e1=(sErr n t B aa vid f).1):=aF;have ay:Hid (e2=(sErr n t B aa vid f).2):=aj;clear aF aj;go_enter func10,ntmps10;(go_wp2_with fail);rw[<-ar.o,<-HX.o];refine aw.o.mono ?_;rintro e w1 ⟨rfl,aJ⟩;clear aw;obtain⟨V,HV⟩:=nm (w1.alloc (.cells #[Iv e1,Iv e2] 37))
 have v2:V.heap[w1.heap.size]?=some (.cells #[Iv e1,Iv e2] 37):=(by rw[HV.o];exact a9Z _ _)
 have bV:Bl w1 V:=(by rw[HV.o];exact bA1 _ _)
 have ak:Hid (Bl X V):=aJ.o.trans (bV.mono aJ.o.size);obtain⟨x0,x1⟩:=tC2 v2;clear bV v2;by_cases he:e1=0
 ·obtain⟨i0,bl,bj,bi,hR,hT,aj⟩:=au.o he;subst he aj bl bi;clear au;obtain⟨a1,a2,a3,a4,a5,a6,a7⟩:=aD.o;have aU:=(HH.o V ak.o).2.1;have al:=hR.few;have av:Hid (Calls prog 26 #[.slice ko n.K ag] V λe w'=>e=.returned (.slice (some (Pv V.heap.size 0)) n.K n.K)/\Hid (∃ae af,BkO w' V.heap.size V.heap.size n.K ad ae af/\Bl V w')):=(a6h ko n.K ag ad bo bc V (a3.below aU) al).mono (λe w' h=>h);obtain⟨gk,HG⟩:=nm V.heap.size
  rw[<-HG.o] at av;(go_upto_region 2 with fail);rw[<-HV.o];(go_wp2_with fail);refine av.o.mono ?_;rintro e w2 ⟨rfl,H2⟩;clear av x0 x1;obtain⟨aK,aX,aH,b2⟩:=H2.o;have aO:Bl X w2:=ak.o.trans ((show Bl V w2 from b2).mono ak.o.size);obtain⟨⟨j0,j1,j2,j3⟩,j4,j5⟩:=HH.o w2 aO;obtain⟨z0,z1,z2,z3,z4,z5,z6,z7⟩:=a0U j2;obtain⟨ZB,aI⟩:=nm w2.heap.size
  obtain⟨Z,HZ⟩:=nm (w2.alloc (.cells #[Iv i0,Iv 0,Uv f.dst,Uv f.src,.bool f.tagged,Iv f.prio,.bool f.drop,Iv f.vid,Iv f.type,.slice f.ao f.n f.cap] 77))
  have bZ:Bl w2 Z:=(by rw[HZ.o];exact bA1 _ _)
  have sZ:Z.heap.size=w2.heap.size+1:=(by rw[HZ.o];simp)
  have zz:Z.heap[ZB]?=some (.cells #[Iv i0,Iv 0,Uv f.dst,Uv f.src,.bool f.tagged,Iv f.prio,.bool f.drop,Iv f.vid,Iv f.type,.slice f.ao f.n f.cap] 77):=(by rw[HZ.o,aI.o];exact a9Z _ _)
  have bu:gk<w2.heap.size:=(gSm.1 aH.row).1;have bw:w.heap.size+1+1+1<gk:=(by rw[HG.o];exact(HH.o V ak.o).2.2)
  have ah:Bl w Z:=j4.trans (bZ.mono j4.size);have ba:ZB≠gk:=(by rw[aI.o];omega)
  have aZ:Hid (∀W,Z.grownBy W (some gk)->(W.cell? (Pv w.heap.size 0)=some (.slice n.bao n.K n.bcap)/\W.cell? (Pv w.heap.size 1)=some (.slice n.lao n.L n.lcap))/\W.cell? (Pv (w.heap.size+1) 0)=some (.slice oao t.length ocap)/\W.cell? (Pv ZB 0)=some (Iv i0)/\W.cell? (Pv ZB 1)=some (Iv 0)/\W.cell? (Pv ZB 2)=some (Uv f.dst)/\W.cell? (Pv ZB 3)=some (Uv f.src)/\W.cell? (Pv ZB 4)=some (.bool f.tagged)/\W.cell? (Pv ZB 5)=some (Iv f.prio)/\W.cell? (Pv ZB 6)=some (.bool f.drop)/\W.cell? (Pv ZB 7)=some (Iv f.vid)/\W.cell? (Pv ZB 8)=some (Iv f.type)/\W.cell? (Pv ZB 9)=some (.slice f.ao f.n f.cap)):=λW hW=>by
   have k0:=(hW.block _ (gSm.1 (keep j0 bZ)).1 (by simp;omega)).trans (keep j0 bZ);have k1:=(hW.block _ (gSm.1 (keep j1 bZ)).1 (by simp;omega)).trans (keep j1 bZ);have k2:=(hW.block _ (gSm.1 zz).1 (by simpa using ba)).trans zz;exact⟨tC2 k0,a9Y _ _ 0 _ _ _ k1,a9Y _ _ 0 _ _ _ k2,a9Y _ _ 1 _ _ _ k2,a9Y _ _ 2 _ _ _ k2,a9Y _ _ 3 _ _ _ k2,a9Y _ _ 4 _ _ _ k2,a9Y _ _ 5 _ _ _ k2,a9Y _ _ 6 _ _ _ k2,a9Y _ _ 7 _ _ _ k2,a9Y _ _ 8 _ _ _ k2,a9Y _ _ 9 _ _ _ k2⟩
  have aQ:Hid (∀W,Z.grownBy W (some gk)->W.heap[w.heap.size+1+1+1]?=some (.cells #[Iv 0,Iv 0] 37)/\Bl w W):=λW hW=>by
   refine⟨(hW.block _ (gSm.1 (keep j3 bZ)).1 (by simp;omega)).trans (keep j3 bZ),⟨hW.os.trans ah.os,hW.tape.trans ah.tape,hW.output.trans ah.output,b0p ah.size hW.size,λi hi=>(hW.block i (b0q hi ah.size) (by simp;omega)).trans (ah.block i hi)⟩⟩
  obtain⟨RR,an⟩:=nn (sent n t vid f ad i0)
  have a0:Hid (∀W,Bl Z W->Calls prog 28 #[.agg #[.slice n.bao n.K n.bcap,.slice n.lao n.L n.lcap],.agg #[.slice oao t.length ocap],Iv vid,.slice (some (Pv gk 0)) n.K n.K] W λe w5=>∃TB NB VB KB:Nat,e=.returned (.func (.func 49) #[] #[.pointer (some (Pv TB 0)),.pointer (some (Pv NB 0)),.pointer (some (Pv VB 0)),.pointer (some (Pv KB 0))])/\Hid (Z.grownBy w5 (some gk))/\Hid (Calls prog 29 #[.slice n.lao n.L n.lcap] w5 λe w6=>∃P:Nat,e=.returned (.func (.func 53) #[] #[.pointer (some (Pv P 0))])/\Hid (Z.grownBy w6 (some gk))/\Hid (Calls prog 27 #[.agg #[Iv i0,Iv 0,Uv f.dst,Uv f.src,.bool f.tagged,Iv f.prio,.bool f.drop,Iv f.vid,Iv f.type,.slice f.ao f.n f.cap],.func (.func 49) #[] #[.pointer (some (Pv TB 0)),.pointer (some (Pv NB 0)),.pointer (some (Pv VB 0)),.pointer (some (Pv KB 0))],.func (.func 53) #[] #[.pointer (some (Pv P 0))]] w6 λe w7=>∃(so:OA) (sn sc:Nat) (ab:Bool) (er:Int),e=.returned (.tuple #[.slice so sn sc,.bool ab,Iv er])/\Hid (Z.grownBy w7 (some gk))/\Hid (er=RR.err/\((RR.err=0/\ab=decide (RR.wait=[])/\∃ss ae af,sn=ss.length/\∀W,(∀e,e≠37->Ty w7 W e)->SdIs w W n.K f RR so sc ss gk ae af)\/(RR.err≠0/\ab=false)))))):=λW hW=>by
   refine(a5C n oao t.length ocap vid gk n.K n.K W).mono ?_;rintro e w5 ⟨rfl,H5⟩;obtain⟨q1,q2,q3,q4,q5,q6⟩:=H5.o;have b5:Bl Z w5:=hW.trans (q2.mono hW.size);have br:=hW.size;refine⟨_,_,_,_,rfl,a2B (World.grownBy.refl _ _) b5,?_⟩;have bf:Bl w w5:=ah.trans (b5.mono ah.size);refine(a5x n.K n.lao n.L n.lcap n.ls w5 (a1.below bf).lks hR.fewL hR.links al).mono ?_;rintro e w6 ⟨P,M,rfl,H6⟩;obtain⟨r1,r2,r3,r4,r5⟩:=H6.o;have b6:Bl Z w6:=b5.trans (r5.mono b5.size);have bq:=b5.size;have bt:=r5.size;refine⟨P,rfl,a2B (World.grownBy.refl _ _) b6,?_⟩;have aB:Bl w w6:=ah.trans (b6.mono ah.size);have be:CyH w6 n t oao ocap vid (W.heap.size+1) W.heap.size (W.heap.size+2) (W.heap.size+3) gk gk n.K P M (2*n.L) f:=cyh_of aB om om om hR a1 a2 hT a4 a5 a6 a7 ⟨keep q3 r5,keep q4 r5,keep q5 r5,keep q6 r5⟩ ⟨om,om,om,om,om,om⟩ r2 r4;have aE:BkO w6 gk gk n.K ad aK aX:=aH.ty (Ty.below _ (bZ.trans (b6.mono bZ.size))) (Ty.below _ (bZ.trans (b6.mono bZ.size)));refine(a7S n t oao ocap vid _ _ _ _ gk gk n.K P M (2*n.L) f i0 ⟨0,f.tagged,f.prio,f.drop,f.vid⟩ ad aK aX w6 be aE bj _ rfl).mono ?_;rintro e w7 ⟨so,sc,ss,ab,ae,af,rfl,H7⟩;obtain⟨t1,t2,t3⟩:=H7.o;have am:Ln.carry n t vid f 41 ⟨[],[(i0,⟨0,f.tagged,f.prio,f.drop,f.vid⟩)],ad,0⟩=RR:=an.symm;rw[am] at t1 t3;rw[am];have g7:Z.grownBy w7 (some gk):=⟨t2.os.trans b6.os,t2.tape.trans b6.tape,t2.output.trans b6.output,b0p b6.size t2.size,λi hi aN=>(t2.block i (b0q hi b6.size) aN).trans (b6.block i hi)⟩
   refine⟨so,ss.length,sc,ab,RR.err,rfl,g7,rfl,?_⟩;rcases t3 with⟨c1,c2,c3,c4,c5⟩ | ⟨c1,c2,_⟩
   ·refine Or.inl ⟨c1,c2,ss,ae,af,rfl,λU hU=>⟨c3,?_,λx hx => ?_,?_,om⟩⟩
    ·exact(hU _ dd).owns (a0v c4 aB.size)
    ·refine(hU _ dd).dt ?_;rcases c5 x hx with d | d
     ·exact Or.inl d
     ·exact Or.inr (a0v d aB.size)
    ·have h1:=t1.ty (hU _ dd) (hU _ dd);exact⟨h1.row,λi hi=>⟨a0v (h1.each i hi).1 om,(h1.each i hi).2⟩⟩
   ·exact Or.inr ⟨c1,c2⟩
  have bh:Hid (Bl Z Z.drew):=b0i (b0h _ _);have bn:Hid (Z.grownBy Z.drew (some gk)):=a2B (World.grownBy.refl _ _) bh.o;have bm:Hid (RR=sent n t vid f ad i0):=an;have aY:Hid (∀(W:World) (so:OA) (sc:Nat) (ss:List AV) (ae:Nat->OA) (af:Nat->Nat),RR.err=0->RR.wait=[]->Bl w W->SdIs w W n.K f RR so sc ss gk ae af->a7Y w n t vid f n.K ad (i0:Int) (.returned (.tuple #[.slice so ss.length sc,.slice (some (Pv gk 0)) n.K n.K,.bool true,.agg #[Iv 0,Iv 0]])) W):=λW so sc ss ae af k1 k2 k3 k4=>by
   have hq:sent n t vid f ad (i0:Int).toNat=RR:=an.symm;refine⟨k3,Or.inr ⟨ai.o.symm,Or.inr ?_⟩⟩;rw[hq];exact⟨k1,k2,so,sc,ss,gk,ae,af,rfl,k4⟩
  have aT:Hid (∀(W:World),¬(RR.err=0/\RR.wait=[])->Bl w W->a7Y w n t vid f n.K ad (i0:Int) (.returned (.tuple #[sN,sN,.bool false,.agg #[Iv RR.err,Iv 0]])) W):=λW k1 k3=>by
   have hq:sent n t vid f ad (i0:Int).toNat=RR:=an.symm;refine⟨k3,Or.inr ⟨ai.o.symm,Or.inl ?_⟩⟩;rw[hq];exact⟨k1,rfl⟩
  clear an aH b2 aO j0 j1 j2 j3 j4 bZ sZ zz ah a1 a2 a3 a4 a5 a6 a7 aD H2 hR aU ai ay HH;(go_upto_region 6 with fail);rw[<-HZ.o,<-aI.o];clear z0 z1 z2 z3 z4 z5 z6 z7;go_region_held3 (λW=>(W.cell? (Pv w.heap.size 0)=some (.slice n.bao n.K n.bcap)/\W.cell? (Pv w.heap.size 1)=some (.slice n.lao n.L n.lcap))/\W.cell? (Pv (w.heap.size+1) 0)=some (.slice oao t.length ocap)/\W.cell? (Pv ZB 0)=some (Iv i0)/\W.cell? (Pv ZB 1)=some (Iv 0)/\W.cell? (Pv ZB 2)=some (Uv f.dst)/\W.cell? (Pv ZB 3)=some (Uv f.src)/\W.cell? (Pv ZB 4)=some (.bool f.tagged)/\W.cell? (Pv ZB 5)=some (Iv f.prio)/\W.cell? (Pv ZB 6)=some (.bool f.drop)/\W.cell? (Pv ZB 7)=some (Iv f.vid)/\W.cell? (Pv ZB 8)=some (Iv f.type)/\W.cell? (Pv ZB 9)=some (.slice f.ao f.n f.cap))
   (exact aZ.o _ (Hid.o aS))
   (first | (go_at_call 28;(with_reducible refine(a0.o _ (by first | exact(Hid.o aS) | exact b0i (Hid.o aS))).mono ?_);rintro e w5 ⟨TB,NB,VB,KB,rfl,bv,aW⟩) | (go_at_call 29;(with_reducible refine aW.o.mono ?_);rintro e w6 ⟨P,rfl,bp,a8⟩) | (go_at_call 27;(with_reducible refine a8.o.mono ?_);rintro e w7 ⟨so,sn,sc,ab,er,rfl,a9,H7⟩))
  all_goals
   obtain⟨ap,aq⟩:=H7.o;obtain⟨f0,f1⟩:=aQ.o w7 a9.o;obtain⟨q0,q1⟩:=tC2 f0;have q2:=lF0 f0 0;have q3:=lF0 f0 1;have HJ:Hid (w7.heap[w.heap.size+1+1+1]?=some (.cells #[Iv 0,Iv 0] 37)/\Bl w w7):=⟨f0,f1⟩
   clear f0 f1 H7 a0 aZ aQ aW a8;by_cases hok:er=0/\ab=true
   ·obtain⟨rfl,rfl⟩:=hok;have HS:Hid (∃ss ae af,sn=ss.length/\(RR.err=0/\RR.wait=[])/\∀W,(∀e,e≠37->Ty w7 W e)->SdIs w W n.K f RR so sc ss gk ae af):=by
     rcases aq with⟨c1,c2,ss,ae,af,c3,c4⟩ | ⟨c1,c2⟩
     ·exact⟨ss,ae,af,c3,⟨c1,by simpa using c2.symm⟩,c4⟩
     ·cases c2
    clear ap aq;(go_wp2_with fail);refine b0b (v:=.tuple #[.slice so sn sc,.slice (some (Pv gk 0)) n.K n.K,.bool true,.agg #[Iv 0,Iv 0]]) (a0n (p:=15) (ty:=37) results10 _ _ (w.heap.size+1+1+1) 37 #[Iv 0,Iv 0] (0,0) _ rfl ?h1 underlying37 rfl (by rw[a0q];rfl)) rfl ?h2
    case h1=>first | (with_reducible exact a0i HJ.o.1) | (with_reducible exact a0w (a0i HJ.o.1)) | exact a0i (a0w HJ.o.1)
    case h2 =>
     obtain⟨ss,ae,af,rfl,⟨k1,k2⟩,k3⟩:=HS.o;refine aY.o _ so sc ss ae af k1 k2 ?_ (k3 _ (a9S HJ.o.1));first | exact(HJ.o.2.setCell ac _).setCell ac _ | exact((HJ.o.2.setCell ac _).setCell ac _).drew | exact(HJ.o.2.drew.setCell ac _).setCell ac _
   ·have HS:Hid (¬(RR.err=0/\RR.wait=[])):=by
     rintro⟨k1,k2⟩;rcases aq with⟨c1,c2,_⟩ | ⟨c1,c2⟩
     ·exact hok ⟨ap.trans c1,by rw[c2,k2];rfl⟩
     ·exact c1 k1
    have bb:er≠0\/er=0/\ab=false:=by
     by_cases q:er=0
     ·exact Or.inr ⟨q,by cases ab with | true=>exact absurd ⟨q,rfl⟩ hok | false=>rfl⟩
     ·exact Or.inl q
    have bg:Hid (∀W,Bl w W->a7Y w n t vid f n.K ad (i0:Int) (.returned (.tuple #[sN,sN,.bool false,.agg #[Iv er,Iv 0]])) W):=λW hW=>by
     rw[ap];exact aT.o W HS.o hW
    clear ap aq hok aT HS aY;rcases bb with hq | ⟨rfl,rfl⟩;all_goals
     (go_wp2_with fail);refine b0b (v:=.tuple #[sN,sN,.bool false,.agg #[Iv _,Iv 0]]) (a0n (p:=15) (ty:=37) results10 _ _ (w.heap.size+1+1+1) 37 #[Iv _,Iv 0] (0,0) _ rfl ?h1 underlying37 rfl (by rw[a0q];rfl)) rfl (bg.o _ ?h2)
     case h1=>first | (with_reducible exact a0i HJ.o.1) | (with_reducible exact a0w (a0i HJ.o.1)) | exact a0i (a0w HJ.o.1)
     case h2=>first | exact(HJ.o.2.setCell ac _).setCell ac _ | exact((HJ.o.2.setCell ac _).setCell ac _).drew | exact(HJ.o.2.drew.setCell ac _).setCell ac _
 ·have bd:Hid (∀W,Bl w W->a7Y w n t vid f B ad aa (.returned (.tuple #[sN,sN,.bool false,.agg #[Iv e1,Iv e2]])) W):=λW hW=>⟨hW,Or.inl ⟨by rw[<-ai.o];exact he,by rw[<-ai.o,<-ay.o]⟩⟩
  obtain⟨⟨_,_,_,j3⟩,j4,j5⟩:=HH.o V ak.o;obtain⟨q0,q1⟩:=tC2 j3;have q2:=lF0 j3 0;have q3:=lF0 j3 1;have HJ:Hid (V.heap[w.heap.size+1+1+1]?=some (.cells #[Iv 0,Iv 0] 37)/\Bl w V):=⟨j3,j4⟩
  have aN:w1.heap.size≠w.heap.size+1+1+1:=(by have:=(HH.o w1 aJ.o).2.2;omega)
  clear j3 j4 aD HH au ai ay;(go_upto_region 2 with fail);rw[<-HV.o];(go_wp2_with fail);go_region
  (all_goals go_wp2_with fail);all_goals
   refine b0b (v:=.tuple #[sN,sN,.bool false,.agg #[Iv e1,Iv e2]]) (a0n (p:=15) (ty:=37) results10 _ _ (w.heap.size+1+1+1) 37 #[Iv e1,Iv e2] (0,0) _ rfl ?h1 underlying37 rfl (by rw[a0q];rfl)) rfl (bd.o _ ?h2)
   case h1=>first | (with_reducible exact a0i HJ.o.1) | (with_reducible exact a0w (a0i HJ.o.1)) | exact a0i (a0w HJ.o.1)
   case h2=>first | exact(HJ.o.2.setCell ac _).setCell ac _ | exact((HJ.o.2.setCell ac _).setCell ac _).drew | exact(HJ.o.2.drew.setCell ac _).setCell ac _
