/- TF6a -/
import Derived.Test.YtelebnancdjjiaaGreatDoorE28
set_option maxRecDepth 100000
set_option maxHeartbeats 40000000
namespace Go.Proofs.YtelebnancdjjiaaGreatDoor
section
open Go.Proofs.Tryz Go.RowKit
open Vc(V Of)
open Pl(En Lk Br Net LN lf)
open Tk(Md Mnd Cn Sc Dn)
theorem a6t {ids:Nat->Int}{E:Nat->List En}{K:Nat}(G:Pl.Good ids E K) {x y:Nat->Mnd}(h:∀j,j<K->x j=y j) {i:Nat}(hi:i<K):Tk.tickF ids E x i=Tk.tickF ids E y i:=by
 have e:Tk.heard (E i) (λj=>(x j).md)=Tk.heard (E i) (λj=>(y j).md):=by
  unfold Tk.heard;apply List.map_congr_left
  intro e he;obtain⟨h1,h2⟩:=List.mem_filter.1 he;have hj:=Pl.toNat_lt (G.lt i hi e h1 h2).1;unfold Tk.heardOf;simp only[h _ hj]
 unfold Tk.tickF;rw[e,h i hi]
section
variable {n:Net}{s:Sc}{bao lao:OA}{bcap lcap:Nat}{f:Nat->OA×Nat×OA×Nat}
theorem re_sc:(a1V n s bao bcap lao lcap f).sc s.ms=s:=by
 show(⟨λi=>lsF (IL (s.pr i)) (s.pr i).length,s.ls,s.ms⟩:Sc)=s;have:(λi=>lsF (IL (s.pr i)) (s.pr i).length)=s.pr:=funext (λi=>lsF_IL _);rw[this]
theorem re_ends:(a1V n s bao bcap lao lcap f).ends=s.E n.cn:=by
 have:=Pl.Net.sc_E (a1V n s bao bcap lao lcap f) s.ms;rw[re_sc] at this;exact this.symm
theorem re_ids (k:Int):(a1V n s bao bcap lao lcap f).ids k=s.ids n.cn k:=by
 funext i
 have:=net_ids (n:=a1V n s bao bcap lao lcap f) s.ms k i;rw[re_sc] at this;exact this.symm
end
structure OnS (w W:World) (BN BT RN RT RF:Nat) (n:Net) (M:Nat->Prop) (T:Nat) (s:Sc) (n':Net) (oao:OA) (ocap:Nat) (t':List Tr):Prop where
 low:Bl w W
 bxN:W.heap[BN]?=some (.cells #[.slice n'.bao n'.K n'.bcap,.slice n'.lao n'.L n'.lcap] 25)
 bxT:W.heap[BT]?=some (.cells #[.slice oao t'.length ocap] 34)
 rN:W.heap[RN]?=some (.cells #[sN,sN] 25)
 rT:W.heap[RT]?=some (.cells #[sN] 34)
 rF:W.heap[RF]?=some (.cells #[Iv 0,Iv 0] 37)
 brs:W.ownsRow (RF+1) 65 5 (.slice n'.bao n'.K n'.bcap) n'.K (a0f n'.K 5 (λi=>brC (n'.bs i)))
 lks:W.ownsRow (RF+1) 103 6 (.slice n'.lao n'.L n'.lcap) n'.L (a0f n'.L 6 (λi=>lkC (n'.ls i)))
 mB:∀q,(Value.slice n'.bao n'.K n'.bcap).ownBlock=some q->M q
 mL:∀q,(Value.slice n'.lao n'.L n'.lcap).ownBlock=some q->M q
 mX:M (BT)
 mS:∀q,M q->q<W.heap.size
 each:Bz M W (λV=>∀i,i<n'.K->(n'.bs i).at' V/\a0s (n'.bs i).pao (n'.bs i).pn (n'.bs i).pcap)
 talk:Bz M W (λV=>TrRow V oao ocap t')
 re:∃f,n'=a1V n s n'.bao n'.bcap n'.lao n'.lcap f
 len:t'.length=T
 ord:w.heap.size<=BN/\BN<BT/\BT<RN/\RN<RT/\RT<RF
 ms:∀k,k<T->(tat t' k).l.length=n.K/\∀i,i<n.K->msT t' k i=s.ms k i/\(mat (tat t' k).l i).ports=n.pts i
section
variable {w W:World}{BN BT RN RT RF:Nat}{n:Net}{M:Nat->Prop}{T:Nat}{s:Sc}{n':Net}{oao:OA}{ocap:Nat}{t':List Tr}
theorem OnS.sizes (h:OnS w W BN BT RN RT RF n M T s n' oao ocap t'):n'.K=n.K/\n'.L=n.L/\n'.ls=s.ls:=by
 obtain⟨f,e⟩:=h.re;rw[e];exact⟨rfl,rfl,rfl⟩
theorem OnS.plain (h:OnS w W BN BT RN RT RF n M T s n' oao ocap t'):n'.cn=n.cn/\n'.sc s.ms=s/\n'.ends=s.E n.cn/\∀k:Int,n'.ids k=s.ids n.cn k:=by
 obtain⟨f,e⟩:=h.re;rw[e];exact⟨rfl,re_sc,re_ends,re_ids⟩
theorem OnS.fine (h:OnS w W BN BT RN RT RF n M T s n' oao ocap t') (hw:n.Wf) (h0:n.wrong.1=0) (hf:Tk.Fine n.cn s):n'.wrong.1=0/\n'.Wf/\n'.Right:=by
 obtain⟨f,e⟩:=h.re;have:=a6b (bao:=n'.bao) (bcap:=n'.bcap) (lao:=n'.lao) (lcap:=n'.lcap) (f:=f) hw h0 hf;rw[<-e] at this;exact⟨this.1,this.2,right_of this.2 this.1⟩
theorem OnS.net (h:OnS w W BN BT RN RT RF n M T s n' oao ocap t') (hK:n.K<=12) (hL:n.L<=40):n'.at' W:=by
 obtain⟨e1,e2,_⟩:=h.sizes;exact⟨(a2A om h.brs).2,λi hi=>(h.each.here i hi).1,(a2A om h.lks).2,om,om⟩
theorem OnS.fits (h:OnS w W BN BT RN RT RF n M T s n' oao ocap t') (hT:1<=T/\T<=4) {ms:Nat->Nat->Mnd}(aa:Tk.Ok n.cn s T) (ac:Tk.Fine n.cn (n.sc ms)) (hs:Tk.SameEnds n.cn (n.sc ms) s):fitT n' t'=true/\∀k i j,k<t'.length->i<n'.K->0<=(mat (tat t' k).l i).calm.getD j 0:=by
 obtain⟨e1,_,_⟩:=h.sizes;obtain⟨_,_,e3,_⟩:=h.plain;have hp:∀i,n'.pts i=n.pts i:=λi=>by
  have:=(hs.len ac aa.fine i).1;rw[Pl.Net.sc_E,<-e3] at this;exact this
 have hl:=h.len;refine⟨a2z.2 ⟨om,λk hk => ?_⟩,λk i j hk hi => ?_⟩
 ·rw[hl] at hk;obtain⟨a1,a2⟩:=h.ms k hk;refine⟨a1.trans e1.symm,λi hi => ?_⟩;rw[e1] at hi;obtain⟨b1,b2⟩:=a2 i hi;have hf:=aa.fit k hk i hi;have ab:(n'.pts i).length=(s.E n.cn i).length:=(by unfold Pl.Net.pts;rw[e3];simp)
  rw[<-b1] at hf;exact⟨b2.trans (hp i).symm,hf.1.trans ab.symm,hf.2.trans ab.symm⟩
 ·rw[hl] at hk;rw[e1] at hi;obtain⟨_,a2⟩:=h.ms k hk;have:=(aa.calm k hk i hi j).1;rw[<-(a2 i hi).1] at this;exact this
theorem OnS.below (h:OnS w W BN BT RN RT RF n M T s n' oao ocap t') {W':World}(hb:Bl W W'):OnS w W' BN BT RN RT RF n M T s n' oao ocap t' :=
 ⟨h.low.trans (hb.mono h.low.size),keep h.bxN hb,keep h.bxT hb,keep h.rN hb,keep h.rT hb,keep h.rF hb,a0h h.brs hb,a0h h.lks hb,h.mB,h.mL,h.mX,λq hq=>b0q (h.mS q hq) hb.size,h.each.below hb,h.talk.below hb,h.re,h.len,h.ord,h.ms⟩
theorem OnS.prios (h:OnS w W BN BT RN RT RF n M T s n' oao ocap t') {i:Nat}(hi:i<n.K):∃gb,n'.bao=some (Pv gb 0)/\gb<W.heap.size/\W.frozen? (Pv gb (i*5+1))=false/\W.cell? (Pv gb (i*5+1))=some (.slice (n'.bs i).pao (s.pr i).length (n'.bs i).pcap)/\IRow W (n'.bs i).pao (s.pr i).length (n'.bs i).pcap (IL (s.pr i))/\a0s (n'.bs i).pao (s.pr i).length (n'.bs i).pcap/\n.K<=n'.bcap:=by
 obtain⟨e1,_,_⟩:=h.sizes;obtain⟨f,e⟩:=h.re;have ab:=h.each.here i om;have aa:(n'.bs i).pn=(s.pr i).length/\(n'.bs i).pv=IL (s.pr i):=(by rw[e];exact⟨rfl,rfl⟩)
 obtain⟨⟨a1,_,_,_⟩,a2⟩:=ab;rw[aa.1,aa.2] at a1;rw[aa.1] at a2;rcases a1G h.brs with⟨_,z⟩ | ⟨gb,cap,sp,e3,e4,e5,e6,e7,e8⟩
 ·omega
 ·injection e3 with e3 _ e9;rw[e1] at e5 e8;have hc:=a1m e8 hi (show 1<5 by omega);refine⟨gb,e3,a1a e8,b0a _ _ _ _ _ e8,hc.trans ?_,a1,a2,by rw[e9];exact e5⟩;show some (Value.slice (n'.bs i).pao (n'.bs i).pn (n'.bs i).pcap)=_;rw[aa.1]
theorem OnS.tick (h:OnS w W BN BT RN RT RF n M T s n' oao ocap t') (aa:Tk.Ok n.cn s T) {w2:World}{ao:OA}{cap:Nat}{t2:List Tr}(hl:t2.length=t'.length) (he:∀k,k<t'.length->a5H n' (n'.ids k) (tat t' k).l (tat t2 k).l) (ht:Bz M w2 (λV=>TrRow V ao cap t2)) (hb:Bl W w2) :
  OnS w (w2.setCell (Pv BT 0) (.slice ao t2.length cap)) BN BT RN RT RF n M T (s.ticks n.cn 1) n' ao cap t2:=by
 obtain⟨e1,_,_⟩:=h.sizes;obtain⟨_,_,e3,e4⟩:=h.plain;have ab:=keep h.bxT hb;obtain⟨o1,o2,o3,o4,o5⟩:=h.ord;refine⟨(h.low.trans (hb.mono h.low.size)).setCell (show w.heap.size<=BT by omega) _,a0D (keep h.bxN hb) om,by rw[b0e _ _ _ _ _ _ ab];rfl,a0D (keep h.rN hb) om,a0D (keep h.rT hb) om,a0D (keep h.rF hb) om,?_,?_,h.mB,h.mL,h.mX,λq hq => ?_,(h.each.below hb).set h.mX,ht.set h.mX,h.re,hl.trans h.len,h.ord,λk hk => ?_⟩
 ·have h1:=a0h h.brs hb;exact a0A h1 (λq hq=>a0J (by have:=(oCb h1 q hq).1;omega))
 ·have h1:=a0h h.lks hb;exact a0A h1 (λq hq=>a0J (by have:=(oCb h1 q hq).1;omega))
 ·have h1:=h.mS q hq;have h2:=hb.size;have h3:(w2.setCell (Pv BT 0) (.slice ao t2.length cap)).heap.size=w2.heap.size:=(by simp)
  omega
 ·obtain⟨z1,z2⟩:=he k (by rw[h.len];exact hk);obtain⟨a1,a2⟩:=h.ms k hk;refine⟨z1.trans e1,λi hi => ?_⟩;obtain⟨⟨_,_,p3⟩,hm⟩:=z2 i (by rw[e1];exact hi);refine⟨?_,p3.trans (a2 i hi).2⟩;show(⟨(mat (tat t2 k).l i).md,(mat (tat t2 k).l i).roles,(mat (tat t2 k).l i).calm⟩:Mnd)=Tk.tickF (s.ids n.cn k) (s.E n.cn) (s.ms k) i;rw[hm,e3,e4];exact a6t (Pl.good aa.fine.links aa.fine.few _ _) (λj hj=>(a2 j hj).1) hi
theorem OnS.link (h:OnS w W BN BT RN RT RF n M T s n' oao ocap t') {k x:Nat}{val:Value}{s':Sc}(hk:k<n.L) (hx:x<6) (ab:s'.pr=s.pr) (ae:s'.ms=s.ms) (ad:∀j,j<n.L->∀y,y<6->lkC (s'.ls j) y=if j=k/\y=x then val else lkC (s.ls j) y) :
  ∃gl,n'.lao=some (Pv gl 0)/\(W.frozen? (Pv gl (k*6+x))=false/\W.cell? (Pv gl (k*6+x))=some (lkC (s.ls k) x)/\n.L<=n'.lcap)/\∃n2,OnS w (W.setCell (Pv gl (k*6+x)) val) BN BT RN RT RF n M T s' n2 oao ocap t':=by
 obtain⟨f,e⟩:=h.re;obtain⟨bao,K,bcap,bs,lao,L,lcap,ls⟩:=n';simp only at e;unfold a1V at e;simp only[Pl.Net.mk.injEq,true_and] at e;obtain⟨rfl,rfl,rfl,rfl⟩:=e;have ac:=h.lks;simp only at ac;rcases a1G ac with⟨_,z⟩ | ⟨gl,cap,sp,e1,e2,e3,e4,e5,e6⟩
 ·omega
 ·injection e1 with e1 _ e7;subst e1 e7;have hM:M gl:=h.mL gl rfl;obtain⟨o1,o2,o3,o4,o5⟩:=h.ord;have aa:=a1D e6 hk hx val;have af:∀q,M q->q<(W.setCell (Pv gl (k*6+x)) val).heap.size:=λq hq=>by
   have h1:=h.mS q hq;have h3:(W.setCell (Pv gl (k*6+x)) val).heap.size=W.heap.size:=(by simp)
   omega
  refine⟨gl,rfl,⟨b0a _ _ _ _ _ e6,a1m e6 hk hx,e3⟩,a1V n s' bao bcap (some (Pv gl 0)) lcap f,?_⟩;refine⟨h.low.setCell (show w.heap.size<=gl by omega) _,a0D h.bxN om,a0D h.bxT om,a0D h.rN om,a0D h.rT om,a0D h.rF om,?_,?_,h.mB,h.mL,h.mX,af,?_,h.talk.set hM,⟨f,rfl⟩,h.len,h.ord,λk hk => ?_⟩
  ·have h1:=a0A (w':=W.setCell (Pv gl (k*6+x)) val) h.brs (λq hq=>a0J (λz=>by
    obtain⟨c2,h2⟩:=a0z h.brs hq;rw[z] at h2;exact absurd (a1j h2 e6) dd))
   unfold a1V;simp only at h1 ⊢;rw[ab];exact h1
  ·refine a1H e2 e3 e4 e5 ?_;refine aa.trans (congrArg (λa=>some (Obj.cells a 103)) (a2o sp ?_));intro j hj y hy;unfold updC;exact(ad j hj y hy).symm
  ·have h1:=h.each.set (o:=k*6+x) (v:=val) hM;unfold a1V;simp only at h1 ⊢;rw[ab];exact h1
  ·obtain⟨a1,a2⟩:=h.ms k hk;exact⟨a1,λi hi=>⟨by rw[ae];exact(a2 i hi).1,(a2 i hi).2⟩⟩
theorem OnS.prio (h:OnS w W BN BT RN RT RF n M T s n' oao ocap t') {W2:World}{i tr pc:Nat}{v:Int}{pa:OA}(hi:i<n.K) (hb:Bl W W2) (hp:W2.ownsRow W.heap.size 3 1 (.slice pa (Tk.setPr (s.pr i) tr v).length pc) (Tk.setPr (s.pr i) tr v).length (a0j (Tk.setPr (s.pr i) tr v))) :
  ∃gb,n'.bao=some (Pv gb 0)/\(W2.frozen? (Pv gb (i*5+1))=false/\W2.cell? (Pv gb (i*5+1))=some (brC (n'.bs i) 1)/\n.K<=n'.bcap)/\∃n2,OnS w (W2.setCell (Pv gb (i*5+1)) (.slice pa (Tk.setPr (s.pr i) tr v).length pc)) BN BT RN RT RF n M T (s.setPrio i tr v) n2 oao ocap t':=by
 obtain⟨f,e⟩:=h.re;obtain⟨bao,K,bcap,bs,lao,L,lcap,ls⟩:=n';simp only at e;unfold a1V at e;simp only[Pl.Net.mk.injEq,true_and] at e;obtain⟨rfl,rfl,rfl,rfl⟩:=e;have ad:=a0h h.brs hb;simp only at ad;rcases a1G ad with⟨_,z⟩ | ⟨gb,cap,sp,e1,e2,e3,e4,e5,e6⟩
 ·omega
 ·injection e1 with e1 _ e7;subst e1 e7;have hM:M gb:=h.mB gb rfl;obtain⟨o1,o2,o3,o4,o5⟩:=h.ord;obtain⟨al,ak,ee,ah,ac,ai⟩:=a0W om hp;injection ee with ee1 _ ee2;subst ee1 ee2;have ab:=a1D e6 hi (show 1<5 by omega) (.slice pa (Tk.setPr (s.pr i) tr v).length pc);have aj:∀q,M q->q<(W2.setCell (Pv gb (i*5+1)) (.slice pa (Tk.setPr (s.pr i) tr v).length pc)).heap.size:=λq hq=>by
   have h1:=h.mS q hq;have h2:=hb.size;have h3:(W2.setCell (Pv gb (i*5+1)) (.slice pa (Tk.setPr (s.pr i) tr v).length pc)).heap.size=W2.heap.size:=(by simp)
   omega
  refine⟨gb,rfl,⟨b0a _ _ _ _ _ e6,a1m e6 hi (show 1<5 by omega),e3⟩,a1V n (s.setPrio i tr v) (some (Pv gb 0)) bcap lao lcap (λj=>if j=i then(pa,pc,(f j).2.2.1,(f j).2.2.2) else f j),?_⟩;refine⟨(h.low.trans (hb.mono h.low.size)).setCell (show w.heap.size<=gb by omega) _,a0D (keep h.bxN hb) om,a0D (keep h.bxT hb) om,a0D (keep h.rN hb) om,a0D (keep h.rT hb) om,a0D (keep h.rF hb) om,?_,?_,h.mB,h.mL,h.mX,aj,λV hV j hj => ?_,(h.talk.below hb).set hM,⟨_,rfl⟩,h.len,h.ord,h.ms⟩
  ·refine a1H e2 e3 e4 e5 ?_;refine ab.trans (congrArg (λa=>some (Obj.cells a 65)) (a2o sp ?_));intro j hj y hy;unfold updC Tk.Sc.setPrio;by_cases q:j=i
   ·subst q;rcases(by omega:y=0\/y=1\/y=2\/y=3\/y=4) with q | q | q | q | q<;>subst q<;>simp[brC,a1V]
   ·simp only[q,false_and,if_false,a1V]
  ·have h1:=a0h h.lks hb;exact a0A h1 (λq hq=>a0J (λz=>by
    obtain⟨c2,h2⟩:=a0z h1 hq;rw[z] at h2;exact absurd (a1j h2 e6) dd))
  ·have aa:=(h.each.below hb).set (o:=i*5+1) (v:=.slice pa (Tk.setPr (s.pr i) tr v).length pc) hM V hV j hj;by_cases q:j=i
   ·subst q;simp only at aa;obtain⟨⟨_,o2,_,o4⟩,_⟩:=aa;have ag:V.ownsRow W.heap.size 3 1 (.slice pa (Tk.setPr (s.pr j) tr v).length pc) (Tk.setPr (s.pr j) tr v).length (a0j (Tk.setPr (s.pr j) tr v)):=a0A hp (λq hq=>by
     obtain⟨u1,u2⟩:=oCb hp q hq;have ae:¬M q:=λz=>by have:=h.mS q z;omega
     have h3:(W2.setCell (Pv gb (j*5+1)) (.slice pa (Tk.setPr (s.pr j) tr v).length pc)).heap.size=W2.heap.size:=(by simp)
     have af:q≠gb:=λz=>ae (by rw[z];exact hM);exact(hV q om ae).trans (a0J af))
    unfold a1V Tk.Sc.setPrio;simp only[if_true];exact⟨⟨(a2A om ag).2,o2,a6L hp,o4⟩,ac⟩
   ·unfold a1V Tk.Sc.setPrio;simp only[iN q];exact aa
theorem OnS.out {N:Nat->Prop}(h:OnS w W BN BT RN RT RF n M T s n' oao ocap t') (hw:n.Wf) (h0:n.wrong.1=0) (ac:Tk.Ok n.cn s T) (ad:∀q,N q->M q) (hN:∀q,N q->q<w.heap.size) {W3:World}(hs:W3.heap.size=W.heap.size) (hk:∀q,q≠RN->q≠RT->q≠RF->W3.heap[q]?=W.heap[q]?) (hR:M (RN)/\M (RT)/\M (RF)):Bz N W3 (λV=>SnOut V n T s n' oao ocap t'):=λV hV=>by
 have R:=right_of hw h0;obtain⟨o1,o2,o3,o4,o5⟩:=h.ord;have ab:∀q,q<W.heap.size->¬M q->V.heap[q]?=W.heap[q]?:=λq h1 h2=>(hV q om (λz=>h2 (ad q z))).trans (hk q (λz=>h2 (by rw[z];exact hR.1)) (λz=>h2 (by rw[z];exact hR.2.1)) (λz=>h2 (by rw[z];exact hR.2.2)));have aa:∀q,RF+1<=q->q<W.heap.size->V.heap[q]?=W.heap[q]?:=λq h1 h2=>(hV q om (λz=>by have:=hN q z;omega)).trans (hk q om om om);obtain⟨e1,e2,_⟩:=h.sizes;obtain⟨c1,c2,_,_⟩:=h.plain;obtain⟨f1,f2,_⟩:=h.fine hw h0 ac.fine;have hb:=a0A (w':=V) h.brs (λq hq=>aa q (oCb h.brs q hq).1 (oCb h.brs q hq).2);have hl:=a0A (w':=V) h.lks (λq hq=>aa q (oCb h.lks q hq).1 (oCb h.lks q hq).2);have hr:=R.few;have ae:=R.fewL;refine⟨⟨(a2A om hb).2,λi hi=>(h.each V ab i hi).1,(a2A om hl).2,om,om⟩,f2,f1,c1,c2,h.talk V ab,h.len,h.ms,ac,λi => ?_⟩;obtain⟨f,e⟩:=h.re;rw[e];exact⟨rfl,rfl,rfl,rfl,rfl⟩
end
