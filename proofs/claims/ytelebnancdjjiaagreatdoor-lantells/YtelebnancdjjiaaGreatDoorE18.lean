/- GR2b -/
import Derived.Test.YtelebnancdjjiaaGreatDoorE17
set_option maxRecDepth 100000
set_option maxHeartbeats 40000000
namespace Go.Proofs.YtelebnancdjjiaaGreatDoor
section
open Go.Proofs.Tryz
open Go.RowKit
theorem a3T (s:ByteArray) (ad:Int) (ao:OA) (n cap:Nat) (vs ts:Nat->Int) (vid:Int) (w:World) (hR:Rg.Right vs ts n) (hr:WayRow w ao n cap vs ts) :
  Calls prog 34 #[.agg #[.string s,Iv ad,.slice ao n cap],Iv vid] w λe w'=>e=.returned (Iv (Rg.tree vs ts vid n))/\Bl w w':=by
 have hn:=hR.many;have aa:Hid (Rg.Right vs ts n):=hR;have HW:Hid (∀W,Bl w W->WayRow W ao n cap vs ts):=λW hW=>hr.below hW;clear hr hR;go_enter func34,ntmps34;(go_wp2_with fail);go_loopw [10] (λi wr=>∃k:Nat,k<=n/\i=Iv k/\Hid (∀i,i<k->vs i≠vid)/\Hid (Bl w wr)) (λi _=>n-(intOf i).toNat)
 case atStart=>exact⟨0,om,rfl,λi hi=>by omega,bA1 _ _⟩
 case round =>
  obtain⟨k,hk,rfl,hX,hB⟩:=hrel;by_cases hlt:k<n
  ·obtain⟨b,off,rfl,hb,hc⟩:=(HW.o _ hB.o).2 om;have ac:=(HW.o _ hB.o).1;have c0:wr.cell? (Pv b (off+k*2))=some (Iv (vs k)):=(hc k hlt).1;have c1:wr.cell? (Pv b (off+k*2+1))=some (Iv (ts k)):=(hc k hlt).2;have ab:Hid (∀o,Bl w (wr.alloc o)):=λo=>hB.o.alloc hB.o.size _;by_cases he:vs k=vid
   ·have HT:Hid (Rg.tree vs ts vid n=ts k):=(by rw[<-he];exact Rg.tree_at aa.o k hlt n hlt (b0g _))
    rw[he] at c0;clear hc HW aa hX hB he;generalize ts k=t at *;go_wp2
    go_ret;exact⟨by rw[HT.o];rfl,ab.o _⟩
   ·have HX:Hid (∀i,i<k+1->vs i≠vid):=λi hi=>by
     by_cases e:i=k
     ·subst e;exact he
     ·exact hX.o i om
    clear hc HW aa hX hB;generalize vs k=v at *;generalize ts k=t at *;have hd:decide (v=vid)=false:=b0j he;have ae:(v == vid)=false:=(by simpa using he)
    go_wp2
    exact⟨⟨k+1,om,gn,HX,ab.o _⟩,io⟩
  ·obtain rfl:k=n:=om
   have HT:Hid (Rg.tree vs ts vid k=0):=Rg.tree_none vs ts vid k hX.o;go_wp2
   go_ret;exact⟨by rw[HT.o];rfl,hB.o⟩
end
section
open Go.Proofs.Tryz
open Go.RowKit
open Bk (E at')
theorem a4x (a b:E) (w:World) :
  Calls prog 44 #[.agg #[Iv a.vid,Uv a.addr,Iv a.port,Iv a.age],.agg #[Iv b.vid,Uv b.addr,Iv b.port,Iv b.age]] w λe w'=>e=.returned (.bool (Bk.ltb a b))/\Bl w w':=by
 have HB:Hid (∀o1 o2,Bl w ((w.alloc o1).alloc o2)):=λo1 o2=>bA2 w o1 o2;by_cases h1:a.vid<b.vid
 ·have HD:Hid (Bk.ltb a b=true):=b0k (Or.inl h1);go_enter func44,ntmps44;(go_wp2_with fail);go_ret;exact⟨by rw[HD.o];rfl,HB.o _ _⟩
 ·by_cases h2:a.vid=b.vid
  ·have HD:Hid (Bk.ltb a b=decide (a.addr<b.addr)):=decide_eq_decide.2 ⟨λq=>q.elim (λr=>absurd r h1) (λr=>r.2),λq=>Or.inr ⟨h2,q⟩⟩;have e2:(a.vid == b.vid)=true:=(by simp[h2])
   have e1:decide (a.vid<b.vid)=false:=b0j h1;clear h2 h1;go_enter func44,ntmps44;(go_wp2_with fail);go_ret;exact⟨by rw[HD.o];rfl,HB.o _ _⟩
  ·have HD:Hid (Bk.ltb a b=false):=b0j (λq=>q.elim h1 (λr=>h2 r.1));have e2:(a.vid == b.vid)=false:=(by simpa using h2)
   go_enter func44,ntmps44;(go_wp2_with fail);go_ret;exact⟨by rw[HD.o];rfl,HB.o _ _⟩
theorem a6P (W0 W:World) (hb:Bl W0 W) (v:Value) (o:List E) (x:E) (ho:OwnE W W0.heap.size v o) (hl:o.length<=1000) :
  ∃a m c W2,a2t v (.slice (some (Pv W.heap.size 0)) 1 1) (W.alloc (.cells #[Iv x.vid,Uv x.addr,Iv x.port,Iv x.age] 110)) (.slice a m c) W2/\m=(o++[x]).length/\OwnE W2 W0.heap.size (.slice a m c) (o++[x])/\Bl W0 W2/\(∀q,q<W.heap.size->some q≠v.ownBlock->W2.heap[q]?=W.heap[q]?):=by
 obtain⟨a1,c1,w2,r,o2,bb,q2⟩:=a2q (W.alloc (.cells #[Iv x.vid,Uv x.addr,Iv x.port,Iv x.age] 110)) W0.heap.size v o (ho.below (bA1 W _)) (some (Pv W.heap.size 0)) 1 [x] 1 rfl (a3Q (a9Z W _)) (λh=>by cases h) om (by have:=hb.size;simp;omega);exact⟨a1,_,c1,w2,r,rfl,o2,(hb.alloc hb.size _).trans bb,λq hq aa=>(q2 q (by simp;omega) aa).trans ((bA1 W _).block q hq)⟩
theorem a7O (ao:OA) (cap:Nat) (l:List E) (vid aa:Int) (w:World) (af:Bk.Book l) (hr:BEL w ao cap l) :
  Calls prog 60 #[.slice ao l.length cap,Iv vid,Uv aa] w λe w'=>e=.returned (.tuple #[Iv (Bk.lookP l (a0L vid aa)),.bool (decide (Bk.Known l (a0L vid aa)))])/\Bl w w':=by
 have hn:=af.many;have ai:l.length<=cap:=hr.1;have ah:Hid (Bk.Book l):=af;have ae:Hid (∀W,Bl w W->BEL W ao cap l):=λW hW=>BEL.below hr hW;clear hr af;go_enter func60,ntmps60;(go_wp2_with fail);go_loopw [12] (λi wr=>∃k:Nat,k<=l.length/\i=Iv k/\Hid (∀j,j<k->¬Bk.key (at' l j) (a0L vid aa))/\Hid (Bl w wr)) (λi _=>l.length-(intOf i).toNat)
 case atStart=>exact⟨0,om,rfl,(λj hj=>absurd hj om),b0h _ _⟩
 case round =>
  obtain⟨k,hk,rfl,HN,HB⟩:=hrel;by_cases hlt:k<l.length
  ·obtain⟨b,off,rfl,_⟩:=(ae.o wr HB.o).place om;obtain⟨c0,c1,c2,c3⟩:=(ae.o wr HB.o).cells hlt;have ag:Hid (∀o,Bl w (wr.alloc o)):=λo=>HB.o.alloc HB.o.size o;have ad:Hid (¬Bk.key (at' l k) (a0L vid aa)->∀j,j<k+1->¬Bk.key (at' l j) (a0L vid aa)):=λh j hj=>by
    by_cases e:j=k
    ·subst e;exact h
    ·exact HN.o j om
   have ab:Hid (Bk.key (at' l k) (a0L vid aa)->Bk.lookP l (a0L vid aa)=(at' l k).port/\decide (Bk.Known l (a0L vid aa))=true):=λh=>⟨Bk.lookP_some ah.o (Bk.at_mem l k hlt) h,b0k ⟨_,Bk.at_mem l k hlt,h⟩⟩
   have ac:Hid (Bk.key (at' l k) (a0L vid aa)↔(at' l k).vid=vid/\(at' l k).addr=aa):=Iff.rfl;clear ae ah HN HB;by_cases q1:(at' l k).vid=vid
   ·have e1:((at' l k).vid == vid)=true:=(by simp[q1])
    by_cases q2:(at' l k).addr=aa
    ·have e2:((at' l k).addr == aa)=true:=(by simp[q2])
     have HZ:Hid _:=ab.o (ac.o.2 ⟨q1,q2⟩);clear ab ad ac q1 q2;generalize at' l k=y at *;(go_wp2_with fail);go_ret2;exact⟨by rw[HZ.o.1,HZ.o.2];rfl,ag.o _⟩
    ·have e2:((at' l k).addr == aa)=false:=(by simpa using q2)
     have HZ:Hid _:=ad.o (λh=>q2 (ac.o.1 h).2);clear ab ad ac q1 q2;generalize at' l k=y at *;(go_wp2_with fail);exact⟨⟨k+1,om,gn,HZ,ag.o _⟩,io⟩
   ·have e1:((at' l k).vid == vid)=false:=(by simpa using q1)
    have HZ:Hid _:=ad.o (λh=>q1 (ac.o.1 h).1);clear ab ad ac q1;generalize at' l k=y at *;(go_wp2_with fail);exact⟨⟨k+1,om,gn,HZ,ag.o _⟩,io⟩
  ·obtain rfl:k=l.length:=om
   have HZ:Hid (¬Bk.Known l (a0L vid aa)):=by
    rintro⟨e,he,hk⟩;obtain⟨i,hi,rfl⟩:=Bk.mem_at he;exact HN.o i hi hk
   clear HN ae;(go_wp2_with fail);go_ret2;exact⟨by rw[Bk.lookP_none HZ.o,b0j HZ.o];rfl,HB.o⟩
theorem rin_any (ao:OA) (cap:Nat) (l:List Int) (n:Int) (w:World) (hn:l.length<=9223372036854775807) (hr:ILs w ao cap l) :
  Calls prog 96 #[.slice ao l.length cap,Iv n] w λe w'=>e=.returned (.bool (l.contains n))/\w'=w:=by
 have aa:l.length<=cap:=hr.1;have HR:Hid (ILs w ao cap l):=hr;clear hr;go_enter func96,ntmps96;(go_wp2_with fail);go_loopw [9] (λi wr=>∃k:Nat,k<=l.length/\i=Iv k/\Hid (∀j,j<k->l.getD j 0≠n)/\wr=w) (λi _=>l.length-(intOf i).toNat)
 case atStart=>exact⟨0,om,rfl,(λj hj=>absurd hj om),rfl⟩
 case round =>
  obtain⟨k,hk,rfl,hS,rfl⟩:=hrel;by_cases hlt:k<l.length
  ·obtain⟨b,off,rfl,_⟩:=HR.o.place om;have c0:=HR.o.cell hlt;by_cases q:l.getD k 0=n
   ·have HC:Hid (l.contains n=true):=by
     have:n∈l:=by rw[<-q];simp[hlt]
     show l.contains n=true;simpa using this
    have e1:(l.getD k 0 == n)=true:=beq_iff_eq.2 q;clear HR hS q;generalize l.getD k 0=v at *;(go_wp2_with fail);go_ret;exact⟨by rw[HC.o];rfl,rfl⟩
   ·have ab:Hid (∀j,j<k+1->l.getD j 0≠n):=λj hj=>by
     by_cases e:j=k
     ·subst e;exact q
     ·exact hS.o j om
    have e1:(l.getD k 0 == n)=false:=(by simpa using q)
    clear HR hS q;generalize l.getD k 0=v at *;(go_wp2_with fail);exact⟨⟨k+1,om,gn,ab,trivial⟩,io⟩
  ·obtain rfl:k=l.length:=om
   have HC:Hid (l.contains n=false):=by
    have:¬n∈l:=by
     intro hm;obtain⟨i,hi,he⟩:=List.getElem_of_mem hm;exact hS.o i hi (by simp[hi,he])
    show l.contains n=false;simpa using this
   clear HR hS;(go_wp2_with fail);go_ret;exact⟨by rw[HC.o];rfl,rfl⟩
end
section
open Go.Proofs.Tryz
open Go.RowKit
open Bk (E at')
open Rl (G gat F O R)
def Rl.atG (l:List G) (p:Int):G:=if Rl.idx l p l.length<0 then Rl.g0 else Rl.inG l p
theorem Rl.atG_at {l:List G}{p:Int}{k:Nat}(h:Rl.idx l p l.length=(k:Int)):Rl.atG l p=gat l k:=by
 unfold Rl.atG Rl.inG;rw[h,iN om,Int.toNat_natCast]
theorem a6k (g:G) (r:R) (vid:Int) (w:World) (hg:GIn w g) (hR:Rg.Right r.vs r.ts r.n) (hr:WayRow w r.ao r.n r.cap r.vs r.ts) :
  Calls prog 58 #[.agg #[Iv g.port,.slice g.wo g.ways.length g.wcap,Iv g.plain,.slice g.oo g.opens.length g.ocap],.agg #[.string r.name,Iv r.rev,.slice r.ao r.n r.cap],Iv vid] w λe w'=>e=.returned (.bool (Rl.passes g (r.tree vid) vid))/\Bl w w':=by
 obtain⟨t,ht⟩:=nn (r.tree vid)
 have ad:0<=t:=(by rw[ht];exact(Rg.tree_range hR vid r.n (b0g _)).1)
 obtain⟨k,rfl⟩:=Int.eq_ofNat_of_zero_le ad;obtain⟨W0,ac⟩:=nm ((w.alloc (.cells #[Iv g.port,.slice g.wo g.ways.length g.wcap,Iv g.plain,.slice g.oo g.opens.length g.ocap] 95)).alloc (.cells #[.string r.name,Iv r.rev,.slice r.ao r.n r.cap] 63))
 have ab:Bl w W0:=(by rw[ac.o];exact bA2 _ _ _)
 have ae:W0.heap[w.heap.size]?=some (.cells #[Iv g.port,.slice g.wo g.ways.length g.wcap,Iv g.plain,.slice g.oo g.opens.length g.ocap] 95):=(by rw[ac.o];exact b0d _ _ _)
 have HT:Hid (Calls prog 34 #[.agg #[.string r.name,Iv r.rev,.slice r.ao r.n r.cap],Iv vid] W0 λe w'=>e=.returned (Iv k)/\Hid (Bl W0 w')):=by
  rw[ht];exact(a3T r.name r.rev r.ao r.n r.cap r.vs r.ts vid W0 hR (hr.below ab)).mono (λe w' h=>⟨h.1,h.2⟩)
 have HC:Hid (∀W,Bl W0 W->Calls prog 96 #[.slice g.wo g.ways.length g.wcap,Iv vid] W λe w'=>e=.returned (.bool (g.ways.contains vid))/\w'=W):=λW hW=>rin_any g.wo g.wcap g.ways vid W hg.wn ((hg.ways.below ab).below hW);have HL:Hid (∀W,Bl W0 W->Bl w W):=λW hW=>a0c ab hW;have HK:Hid (∀W,Bl W0 W->W.cell? (Pv w.heap.size 0)=some (Iv g.port)/\W.cell? (Pv w.heap.size 1)=some (.slice g.wo g.ways.length g.wcap)/\W.cell? (Pv w.heap.size 2)=some (Iv g.plain)/\W.cell? (Pv w.heap.size 3)=some (.slice g.oo g.opens.length g.ocap)):=λW hW=>a1O (keep ae hW);have HO:Hid (∀W,Bl W0 W->BLs W g.oo g.ocap g.opens):=λW hW=>(hg.opens.below ab).below hW;have HP:Hid (Rl.passes g (r.tree vid) vid=(g.ways.contains vid&&(decide ((k:Int)<g.opens.length)&&g.opens.getD k false))):=by
  show Rl.passes g (r.tree vid) vid=_;rw[<-ht];unfold Rl.passes;rw[Int.toNat_natCast];congr 2
  exact decide_eq_decide.2 ⟨λh=>by omega,λh=>by omega⟩
 have ai:=hg.on;have ah:g.opens.length<=g.ocap:=hg.opens.1;clear hg hR hr ab ae ht ad;go_enter func58,ntmps58;(go_wp2_with fail);rw[<-ac.o];refine HT.o.mono ?_;rintro e w1 ⟨rfl,aa⟩;obtain⟨d0,d1,d2,d3⟩:=HK.o w1 aa.o;cases hc:g.ways.contains vid with
 | false =>
  rw[hc] at HC HP;have ag:Hid (Rl.passes g (r.tree vid) vid=false):=HP.o;clear HP hc HO;go_wp2_with (go_at_call 96;refine(HC.o _ aa.o).mono ?_;rintro e w2 ⟨rfl,rfl⟩)
  go_ret;exact⟨by rw[ag.o];rfl,HL.o _ aa.o⟩
 | true =>
  rw[hc,Bool.true_and] at HP;rw[hc] at HC;clear hc;by_cases hd:(k:Int)<g.opens.length
  ·have e1:decide ((k:Int)<(g.opens.length:Int))=true:=b0k hd;rw[e1,Bool.true_and] at HP;have hk:k<g.opens.length:=om
   obtain⟨b,off,af,hb⟩:=(HO.o w1 aa.o).place om;have aj:w1.cell? (Pv b (off+k))=some (.bool (g.opens.getD k false)):=BLs.cell (cap:=g.ocap) (by rw[<-af];exact HO.o w1 aa.o) hk;have ik:(0:Int)<=(k:Int):=om
   rw[af] at d3;clear HO;generalize g.opens.getD k false=bo at *;generalize hon':g.opens.length=on at *;clear hon';go_wp2_with (go_at_call 96;refine(HC.o _ aa.o).mono ?_;rintro e w2 ⟨rfl,rfl⟩)
   go_ret;exact⟨by rw[HP.o];rfl,HL.o _ aa.o⟩
  ·have e1:decide ((k:Int)<(g.opens.length:Int))=false:=b0j hd;rw[e1,Bool.false_and] at HP;clear HO;go_wp2_with (go_at_call 96;refine(HC.o _ aa.o).mono ?_;rintro e w2 ⟨rfl,rfl⟩)
   go_ret;exact⟨by rw[HP.o];rfl,HL.o _ aa.o⟩
end
section
open Go.Proofs.Tryz
namespace Rl
open Bk (E at')
section
variable {r:R}{l:List G}{b:List E}{p:Int}{f:F}
structure Ok (r:R) (l:List G) (b:List E) (p:Int) (f:F):Prop where
 gate:∃k,k<l.length/\idx l p l.length=(k:Int)
 right:Right l
 reg:Rg.Right r.vs r.ts r.n
 book:Bk.Book b
 frame:f.wrong=0
 err:errR r l b f=0
theorem Ok.atG (h:Ok r l b p f):Rl.atG l p=inG l p:=by
 obtain⟨k,_,hk⟩:=h.gate;unfold Rl.atG;rw[hk,iN om]
def vid (l:List G) (p:Int) (f:F):Int:=wayOf f (Rl.atG l p)
theorem Ok.vid (h:Ok r l b p f):wayOf f (inG l p)=vid l p f:=by unfold Rl.vid;rw[h.atG]
theorem Ok.stays (h:Ok r l b p f):stays r l p f=(!passes (Rl.atG l p) (r.tree (Rl.vid l p f)) (Rl.vid l p f)||res f.dst):=by
 unfold Rl.stays;rw[h.vid,<-h.atG]
theorem passes_way (h:Right l) {g:G}(hg:g∈l) {t w:Int}(hp:passes g t w=true):1<=w/\w<=4094:=by
 unfold passes at hp;simp only[Bool.and_eq_true] at hp;have hm:w∈g.ways:=(by simpa using hp.1)
 obtain⟨i,hi,rfl⟩:=mem_gat hg;obtain⟨j,hj,e⟩:=List.getElem_of_mem hm;have:=(h.ways i hi).vid j hj;have e2:wv (gat l i).ways j=w:=(by simp[wv,hj,e])
 rwa [e2] at this
theorem Ok.inMem (h:Ok r l b p f):Rl.atG l p∈l:=by
 obtain⟨k,hk,e⟩:=h.gate;rw[atG_at e];exact gat_mem l k hk
theorem res_iff (d:Int):res d=decide (d/16=103282638848):=by
 unfold res;exact decide_eq_decide.2 ⟨λh=>by omega,λh=>by omega⟩
theorem flood_stays (h:Ok r l b p f):Rl.stays r l p f=(decide (Rl.vid l p f=0)||(!passes (Rl.atG l p) (r.tree (Rl.vid l p f)) (Rl.vid l p f)||decide (f.dst/16=103282638848))):=by
 rw[h.stays,res_iff];by_cases e:Rl.vid l p f=0
 ·rw[b0k e,Bool.true_or];cases hp:passes (Rl.atG l p) (r.tree (Rl.vid l p f)) (Rl.vid l p f) with
  | false=>rfl
  | true =>
   have:=passes_way h.right h.inMem hp;omega
 ·rw[b0j e,Bool.false_or]
end
end Rl
end
section
open Go.Proofs.Tryz
open Go.RowKit
open Bk (E at')
theorem a6l (ao:OA) (cap:Nat) (l:List E) (w:World) (hn:l.length<=9223372036854775807) (hr:BEL w ao cap l) :
  Calls prog 21 #[.slice ao l.length cap] w λe w'=>e=.returned (faV (Bk.wrong (at' l) l.length))/\Bl w w':=by
 have af:Hid (∀W,Bl w W->BEL W ao cap l):=λW hW=>BEL.below hr hW;have ax:l.length<=cap:=hr.1;clear hr;obtain⟨G,HG⟩:=nm w.heap.size
 have HI:Hid (∀W,W=w.alloc (.cells #[Iv 0,Iv 0] 37)->Bl w W/\W.heap[G]?=some (.cells #[Iv 0,Iv 0] 37)):=by
  intro W hW;rw[hW,HG.o];exact⟨bA1 _ _,a9Z _ _⟩
 have aa:w.heap.size<=G:=(by rw[HG.o];exact b0g _)
 have HZ:Hid (30<l.length->Bk.wrong (at' l) l.length=(5,0)):=λh=>iP h;have HN:Hid (¬30<l.length->Bk.wrong (at' l) l.length=Bk.firstTo (Bk.errAt (at' l)) l.length):=λh=>iN h;by_cases h30:30<l.length
 ·have ay:Hid _:=HZ.o h30;have ar:(30:Int)<(l.length:Int):=om
  clear HI HZ HN;go_enter func21,ntmps21;(go_wp2_with fail);exact b0b (v:=.agg #[Iv 5,Iv 0]) (a0b (p:=2) (ty:=37) results21 _ _ w.heap.size 37 #[Iv 5,Iv 0] (0,0) _ rfl (a9Z _ _) underlying37 rfl (by rw[a0O];rfl)) rfl ⟨by rw[ay.o],bA1 _ _⟩
 ·have aj:Hid _:=HN.o h30;have ar:¬(30:Int)<(l.length:Int):=om
  clear HZ HN;go_enter func21,ntmps21;(go_wp2_with fail);rw[<-HG.o];go_loopw [11] (λi wr=>∃k:Nat,k<=l.length/\i=Iv k/\Hid (∀j,j<k->Bk.errAt (at' l) j=0)/\Hid (Bl w wr/\wr.heap[G]?=some (.cells #[Iv 0,Iv 0] 37))) (λi _=>l.length-(intOf i).toNat)
  case atStart=>exact⟨0,om,rfl,(λj hj=>absurd hj om),HI.o _ rfl⟩
  case round =>
   obtain⟨k,hk,rfl,hS,hX⟩:=hrel;clear HI;by_cases hlt:k<l.length
   ·obtain⟨b,off,rfl,_⟩:=(af.o wr hX.o.1).place om;obtain⟨c0,c1,c2,c3⟩:=(af.o wr hX.o.1).cells hlt;obtain⟨X,HX⟩:=nm (wr.alloc (.cells #[Iv (at' l k).vid,Uv (at' l k).addr,Iv (at' l k).port,Iv (at' l k).age] 110))
    have al:Hid (Bl w X/\X.heap[G]?=some (.cells #[Iv 0,Iv 0] 37)/\X.heap[wr.heap.size]?=some (.cells #[Iv (at' l k).vid,Uv (at' l k).addr,Iv (at' l k).port,Iv (at' l k).age] 110)):=by
     have hb:Bl wr X:=(by rw[HX.o];exact bA1 _ _)
     have y1:Bl w X:=hX.o.1.trans (hb.mono hX.o.1.size);exact⟨y1,keep hX.o.2 hb,by rw[HX.o];exact a9Z _ _⟩
    have ah:Hid (∀e,e≠0->Bk.errAt (at' l) k=e->Bk.firstTo (Bk.errAt (at' l)) l.length=(e,(k:Int))):=λe he h=>by
     subst h;exact Bk.firstTo_stay _ k (by rw[Bk.firstTo_none _ _ hS.o]) he _ hlt
    have ag:Hid (Bk.errAt (at' l) k=0->∀j,j<k+1->Bk.errAt (at' l) j=0):=λh j hj=>by
     by_cases e:j=k
     ·subst e;exact h
     ·exact hS.o j om
    have ae:Hid (¬Bk.rng (at' l k)->Bk.firstTo (Bk.errAt (at' l)) l.length=(3,(k:Int))):=λh=>ah.o 3 om (iP h);obtain⟨f0,f1,f2,f3⟩:=a0M hX.o.2;have aB:G<wr.heap.size:=b0r f0;have ad:Hid (Bk.rng (at' l k)↔(1<=(at' l k).vid/\(at' l k).vid<=4094)/\(at' l k).addr<=281474976710655/\(0<=(at' l k).port/\(at' l k).port<=30)/\(0<=(at' l k).age/\(at' l k).age<=300)):=Iff.rfl;have ab:Hid (Bl w wr/\wr.heap[G]?=some (.cells #[Iv 0,Iv 0] 37)):=hX;clear hX hS;by_cases q1:1<=(at' l k).vid
    ·by_cases q2:(at' l k).vid<=4094
     ·by_cases q3:(at' l k).addr<=281474976710655
      ·by_cases q4:0<=(at' l k).port
       ·by_cases q5:(at' l k).port<=30
        ·by_cases q6:0<=(at' l k).age
         ·by_cases q7:(at' l k).age<=300
          ·have hg:Bk.rng (at' l k):=ad.o.2 om;clear ae ad;by_cases hk0:k=0
           ·have aC:decide (0<k)=false:=b0j om;have aw:Hid _:=ag.o (Bk.errAt_zero.2 ⟨hg,λh=>absurd h om⟩);clear ag ah af aj hg hk0;generalize at' l k=x at *;(go_wp2_with fail);rw[<-HX.o];clear c0 c1 c2 c3 f0 f1 f2 f3;(go_quiet (fail));(go_wp2_with fail);exact⟨⟨k+1,om,gn,aw,⟨a0d al.o.1 _,al.o.2.1⟩⟩,io⟩
           ·obtain⟨p,hp⟩:=nn (k-1)
            have wp:IntKind.i64.wrap ((k:Int)-1)=(p:Int):=(by rw[a0t _ om om];omega)
            have k0:decide (0<k)=true:=b0k om;have ip:(0:Int)<=(p:Int):=om
            have np:(p:Int)<(l.length:Int):=om
            have az:p<l.length:=om
            have aq:Hid (¬Bk.lt (at' l p) (at' l k)->Bk.errAt (at' l) k=2):=λh=>by
             show(if ¬Bk.rng (at' l k) then(3:Int) else if 0<k/\¬Bk.lt (at' l (k-1)) (at' l k) then 2 else 0)=2;rw[iN (by simp[hg]),iP ⟨om,by rw[<-hp];exact h⟩]
            have av:Hid (Bk.lt (at' l p) (at' l k)->Bk.errAt (at' l) k=0):=λh=>Bk.errAt_zero.2 ⟨hg,λ_=>by rw[<-hp];exact h⟩;have ap:Hid (Bl X X):=b0h _ _;have am:Hid (∀W,Bl X W->Calls prog 44 #[.agg #[Iv (at' l p).vid,Uv (at' l p).addr,Iv (at' l p).port,Iv (at' l p).age],.agg #[Iv (at' l k).vid,Uv (at' l k).addr,Iv (at' l k).port,Iv (at' l k).age]] W λe w'=>e=.returned (.bool (Bk.ltb (at' l p) (at' l k)))/\Hid (Bl X w')):=λW hW=>(a4x (at' l p) (at' l k) W).mono (λe w' h=>⟨h.1,hW.trans (h.2.mono hW.size)⟩);have ai:Hid (∀W,Bl X W->Bl w W/\W.heap[G]?=some (.cells #[Iv 0,Iv 0] 37)):=λW hW=>⟨al.o.1.trans (hW.mono al.o.1.size),keep al.o.2.1 hW⟩
            have ak:Hid (∀W,Bl X W->(W.cell? (Pv b (off+p*4))=some (Iv (at' l p).vid)/\W.cell? (Pv b (off+p*4+1))=some (Uv (at' l p).addr)/\W.cell? (Pv b (off+p*4+2))=some (Iv (at' l p).port)/\W.cell? (Pv b (off+p*4+3))=some (Iv (at' l p).age))/\W.cell? (Pv wr.heap.size 0)=some (Iv (at' l k).vid)/\W.cell? (Pv wr.heap.size 1)=some (Uv (at' l k).addr)/\W.cell? (Pv wr.heap.size 2)=some (Iv (at' l k).port)/\W.cell? (Pv wr.heap.size 3)=some (Iv (at' l k).age)):=λW hW=>⟨(af.o W (ai.o W hW).1).cells az,a0F (keep al.o.2.2 hW)⟩
            obtain⟨⟨t0,t1,t2,t3⟩,u0,u1,u2,u3⟩:=ak.o X ap.o;clear hp hg af f0 f1 f2 f3;by_cases hl:Bk.lt (at' l p) (at' l k)
            ·have aw:Hid _:=ag.o (av.o hl);rw[show Bk.ltb (at' l p) (at' l k)=true from b0k hl] at am;clear ag ah av aq hl aj;generalize at' l p=y at *;generalize at' l k=x at *;(go_wp2_with fail);rw[<-HX.o];clear c0 c1 c2 c3;go_region_held3 (λW=>(W.cell? (Pv b (off+p*4))=some (Iv y.vid)/\W.cell? (Pv b (off+p*4+1))=some (Uv y.addr)/\W.cell? (Pv b (off+p*4+2))=some (Iv y.port)/\W.cell? (Pv b (off+p*4+3))=some (Iv y.age))/\W.cell? (Pv wr.heap.size 0)=some (Iv x.vid)/\W.cell? (Pv wr.heap.size 1)=some (Uv x.addr)/\W.cell? (Pv wr.heap.size 2)=some (Iv x.port)/\W.cell? (Pv wr.heap.size 3)=some (Iv x.age))
              (first | (exact ak.o _ (b0i ap.o)) | (exact ak.o _ (Hid.o aS)))
              (first | (go_at_call 44;refine(am.o _ (b0i ap.o)).mono ?_;rintro e w3 ⟨rfl,au⟩))
             clear t0 t1 t2 t3 u0 u1 u2 u3;have an:Hid _:=ai.o w3 au.o;clear ai ak am;(go_wp2_with fail);exact⟨⟨k+1,om,gn,aw,an.o⟩,io⟩
            ·have ac:Hid _:=ah.o 2 om (aq.o hl);rw[show Bk.ltb (at' l p) (at' l k)=false from b0j hl] at am;clear ag ah av aq hl;generalize at' l p=y at *;generalize at' l k=x at *;(go_wp2_with fail);rw[<-HX.o];clear c0 c1 c2 c3;go_region_held3 (λW=>(W.cell? (Pv b (off+p*4))=some (Iv y.vid)/\W.cell? (Pv b (off+p*4+1))=some (Uv y.addr)/\W.cell? (Pv b (off+p*4+2))=some (Iv y.port)/\W.cell? (Pv b (off+p*4+3))=some (Iv y.age))/\W.cell? (Pv wr.heap.size 0)=some (Iv x.vid)/\W.cell? (Pv wr.heap.size 1)=some (Uv x.addr)/\W.cell? (Pv wr.heap.size 2)=some (Iv x.port)/\W.cell? (Pv wr.heap.size 3)=some (Iv x.age))
              (first | (exact ak.o _ (b0i ap.o)) | (exact ak.o _ (Hid.o aS)))
              (first | (go_at_call 44;refine(am.o _ (b0i ap.o)).mono ?_;rintro e w3 ⟨rfl,au⟩))
             clear t0 t1 t2 t3 u0 u1 u2 u3;have an:Hid _:=ai.o w3 au.o;obtain⟨g0,g1,g2,g3⟩:=a0M an.o.2;clear ai ak am;(go_wp2_with fail);exact b0b (v:=.agg #[Iv 2,Iv k]) (a0b (p:=2) (ty:=37) results21 _ _ G 37 #[Iv 2,Iv k] (0,0) _ rfl (a0R an.o.2) underlying37 rfl (by rw[a0O];rfl)) rfl ⟨by rw[aj.o,ac.o],(an.o.1.setCell aa _).setCell aa _⟩
          ·have ac:Hid _:=ae.o (λh=>by have:=ad.o.1 h;omega);clear ag ah af ad ae;generalize at' l k=x at *;(go_wp2_with fail);exact b0b (v:=.agg #[Iv 3,Iv k]) (a0b (p:=2) (ty:=37) results21 _ _ G 37 #[Iv 3,Iv k] (0,0) _ rfl (keep (a0R ab.o.2) (bA1 _ _)) underlying37 rfl (by rw[a0O];rfl)) rfl ⟨by rw[aj.o,ac.o],((ab.o.1.setCell aa _).setCell aa _).alloc ((ab.o.1.setCell aa _).setCell aa _).size _⟩
         ·have ac:Hid _:=ae.o (λh=>by have:=ad.o.1 h;omega);clear ag ah af ad ae;generalize at' l k=x at *;(go_wp2_with fail);exact b0b (v:=.agg #[Iv 3,Iv k]) (a0b (p:=2) (ty:=37) results21 _ _ G 37 #[Iv 3,Iv k] (0,0) _ rfl (keep (a0R ab.o.2) (bA1 _ _)) underlying37 rfl (by rw[a0O];rfl)) rfl ⟨by rw[aj.o,ac.o],((ab.o.1.setCell aa _).setCell aa _).alloc ((ab.o.1.setCell aa _).setCell aa _).size _⟩
        ·have ac:Hid _:=ae.o (λh=>by have:=ad.o.1 h;omega);clear ag ah af ad ae;generalize at' l k=x at *;(go_wp2_with fail);exact b0b (v:=.agg #[Iv 3,Iv k]) (a0b (p:=2) (ty:=37) results21 _ _ G 37 #[Iv 3,Iv k] (0,0) _ rfl (keep (a0R ab.o.2) (bA1 _ _)) underlying37 rfl (by rw[a0O];rfl)) rfl ⟨by rw[aj.o,ac.o],((ab.o.1.setCell aa _).setCell aa _).alloc ((ab.o.1.setCell aa _).setCell aa _).size _⟩
       ·have ac:Hid _:=ae.o (λh=>by have:=ad.o.1 h;omega);clear ag ah af ad ae;generalize at' l k=x at *;(go_wp2_with fail);exact b0b (v:=.agg #[Iv 3,Iv k]) (a0b (p:=2) (ty:=37) results21 _ _ G 37 #[Iv 3,Iv k] (0,0) _ rfl (keep (a0R ab.o.2) (bA1 _ _)) underlying37 rfl (by rw[a0O];rfl)) rfl ⟨by rw[aj.o,ac.o],((ab.o.1.setCell aa _).setCell aa _).alloc ((ab.o.1.setCell aa _).setCell aa _).size _⟩
      ·have ac:Hid _:=ae.o (λh=>by have:=ad.o.1 h;omega);clear ag ah af ad ae;generalize at' l k=x at *;(go_wp2_with fail);exact b0b (v:=.agg #[Iv 3,Iv k]) (a0b (p:=2) (ty:=37) results21 _ _ G 37 #[Iv 3,Iv k] (0,0) _ rfl (keep (a0R ab.o.2) (bA1 _ _)) underlying37 rfl (by rw[a0O];rfl)) rfl ⟨by rw[aj.o,ac.o],((ab.o.1.setCell aa _).setCell aa _).alloc ((ab.o.1.setCell aa _).setCell aa _).size _⟩
     ·have ac:Hid _:=ae.o (λh=>by have:=ad.o.1 h;omega);clear ag ah af ad ae;generalize at' l k=x at *;(go_wp2_with fail);exact b0b (v:=.agg #[Iv 3,Iv k]) (a0b (p:=2) (ty:=37) results21 _ _ G 37 #[Iv 3,Iv k] (0,0) _ rfl (keep (a0R ab.o.2) (bA1 _ _)) underlying37 rfl (by rw[a0O];rfl)) rfl ⟨by rw[aj.o,ac.o],((ab.o.1.setCell aa _).setCell aa _).alloc ((ab.o.1.setCell aa _).setCell aa _).size _⟩
    ·have ac:Hid _:=ae.o (λh=>by have:=ad.o.1 h;omega);clear ag ah af ad ae;generalize at' l k=x at *;(go_wp2_with fail);exact b0b (v:=.agg #[Iv 3,Iv k]) (a0b (p:=2) (ty:=37) results21 _ _ G 37 #[Iv 3,Iv k] (0,0) _ rfl (keep (a0R ab.o.2) (bA1 _ _)) underlying37 rfl (by rw[a0O];rfl)) rfl ⟨by rw[aj.o,ac.o],((ab.o.1.setCell aa _).setCell aa _).alloc ((ab.o.1.setCell aa _).setCell aa _).size _⟩
   ·obtain rfl:k=l.length:=om
    have ac:Hid (Bk.firstTo (Bk.errAt (at' l)) l.length=(0,0)):=Bk.firstTo_none _ _ hS.o;obtain⟨f0,f1,f2,f3⟩:=a0M hX.o.2;clear af;(go_wp2_with fail);exact b0b (v:=.agg #[Iv 0,Iv 0]) (a0b (p:=2) (ty:=37) results21 _ _ G 37 #[Iv 0,Iv 0] (0,0) _ rfl (a0R hX.o.2) underlying37 rfl (by rw[a0O];rfl)) rfl ⟨by rw[aj.o,ac.o],(hX.o.1.setCell aa _).setCell aa _⟩
def RLn (W0 W:World) (v:Value) (m:Nat) (pu ha:Bool) (l:List E) (s:E) (k:Nat):Prop :=
 m=(Bk.outK l s k).length/\pu=Bk.putK l s k/\ha=Bk.hadK l s k/\OwnE W W0.heap.size v (Bk.outK l s k)/\Bl W0 W
def BkD (w':World) (base:Nat) (ao:OA) (cap:Nat) (l:List E) (a:OA) (c:Nat) (m:List E):Prop:=(a=ao/\c=cap/\m=l)\/OwnE w' base (.slice a m.length c) m
theorem a6m (ao:OA) (cap:Nat) (l:List E) (vid aa ab:Int) (w:World) (aX:Bk.Book l) (hr:BEL w ao cap l) (h0:0<=aa) (h1:aa<18446744073709551616) :
  Calls prog 59 #[.slice ao l.length cap,Iv vid,Uv aa,Iv ab] w λe w'=>∃a c,e=.returned (.slice a (Bk.learn l ⟨vid,aa,ab,0⟩).length c)/\BEL w' a c (Bk.learn l ⟨vid,aa,ab,0⟩)/\Bl w w'/\BkD w' w.heap.size ao cap l a c (Bk.learn l ⟨vid,aa,ab,0⟩):=by
 have hn:=aX.many;have be:l.length<=cap:=hr.1;have aU:Hid (Bk.Book l):=aX;have ak:Hid (∀W,Bl w W->BEL W ao cap l):=λW hW=>BEL.below hr hW;obtain⟨s,hs⟩:∃s:E,s=⟨vid,aa,ab,0⟩:=⟨_,rfl⟩
 have aj:Hid (s.vid=vid/\s.addr=aa/\s.port=ab/\s.age=0):=(by rw[hs];exact⟨rfl,rfl,rfl,rfl⟩)
 have d1:Int.tdiv aa 1099511627776=aa/1099511627776:=Int.tdiv_eq_ediv_of_nonneg h0;have d2:Int.tmod (aa/1099511627776) 2=aa/1099511627776%2:=Int.tmod_eq_emod_of_nonneg om;rw[<-hs];have ac:Hid (¬Bk.may s->Bk.learn l s=l):=λh=>iP (Or.inl h);have ai:Hid (Bk.may s↔((1<=vid/\vid<=4094)/\aa<=281474976710655/\(0<=ab/\ab<=30))/\aa/1099511627776%2=0):=by
  rw[hs];show(_/\_)↔_;unfold Bk.rng;simp only;omega
 have bh:Hid (s=⟨vid,aa,ab,0⟩):=hs;clear aX hr hs;by_cases p1:aa/1099511627776%2=0
 ·have e0:(aa/1099511627776%2 == 1)=false:=(by simp[p1])
  by_cases p2:aa<=281474976710655
  ·by_cases p3:1<=vid
   ·by_cases p4:vid<=4094
    ·by_cases p5:0<=ab
     ·by_cases p6:ab<=30
      ·have hm:Bk.may s:=ai.o.2 om;clear ac ai;obtain⟨W0,a3⟩:=nm (w.alloc (.cells #[Iv vid,Uv aa,Iv ab,Iv 0] 110))
       have a6:Hid (Bl w W0):=(by rw[a3.o];exact bA1 _ _)
       have aM:Hid (∀W,Bl W0 W->W.heap[w.heap.size]?=some (.cells #[Iv vid,Uv aa,Iv ab,Iv 0] 110)):=λW hW=>by
        rw[a3.o] at hW;exact keep (a9Z w _) hW
       have aG:Hid (∀W,Bl W0 W->Bl w W):=λW hW=>a6.o.trans (hW.mono a6.o.size);have aq:Hid (∀W,Bl W0 W->Bk.hadK l s l.length=false->30<=l.length->Bk.learn l s=l/\BEL W ao cap l/\Bl w W):=λW hW h h'=>by
        have hk:¬Bk.Known l s:=by
         have:=of_decide_eq_false h;rwa [List.take_length] at this
        exact⟨iP (Or.inr ⟨hk,h'⟩),ak.o W (aG.o W hW),aG.o W hW⟩
       have av:Hid ((Bk.hadK l s l.length=true\/l.length<30)->Bk.learn l s=Bk.lo l s++s :: Bk.hi l s):=λh=>by
        refine iN (λq=>q.elim (λq=>q hm) (λq => ?_));rcases h with h | h
        ·have:=b0o h;rw[List.take_length] at this;exact q.1 this
        ·omega
       clear hm;go_enter func59,ntmps59;(go_wp2_with fail);rw[<-a3.o];go_loopw [10,11,12,46] (λo pu ha i wr=>∃(k:Nat) (a:OA) (m c:Nat) (pb hb:Bool),k<=l.length/\i=Iv k/\o=.slice a m c/\pu=.bool pb/\ha=.bool hb/\Hid (RLn W0 wr (.slice a m c) m pb hb l s k)) (λ_ _ _ i _=>l.length-(intOf i).toNat)
       case atStart=>exact⟨0,none,0,0,false,false,om,rfl,rfl,rfl,rfl,⟨rfl,rfl,(Bk.outK_zero l s).2.2.symm,OwnE.nil _ _,b0h _ _⟩⟩
       case round =>
        obtain⟨k,a,m,c,pb,hb,hk,rfl,rfl,rfl,rfl,hX⟩:=hrel;by_cases hlt:k<l.length
        ·obtain⟨b,off,rfl,_⟩:=(ak.o wr (aG.o wr hX.o.2.2.2.2)).place om;obtain⟨c0,c1,c2,c3⟩:=(ak.o wr (aG.o wr hX.o.2.2.2.2)).cells hlt;obtain⟨X,HX⟩:=nm (wr.alloc (.cells #[Iv (at' l k).vid,Uv (at' l k).addr,Iv (at' l k).port,Iv (at' l k).age] 110))
         have aV:Bl wr X:=(by rw[HX.o];exact bA1 _ _)
         have aR:X.heap[wr.heap.size]?=some (.cells #[Iv (at' l k).vid,Uv (at' l k).addr,Iv (at' l k).port,Iv (at' l k).age] 110):=(by rw[HX.o];exact a9Z _ _)
         have a9:X.heap.size=wr.heap.size+1:=(by rw[HX.o];simp)
         have ar:Bl W0 X:=hX.o.2.2.2.2.trans (aV.mono hX.o.2.2.2.2.size);have aT:OwnE X W0.heap.size (.slice a m c) (Bk.outK l s k):=hX.o.2.2.2.1.below aV;have ba:(Bk.outK l s k).length<=500:=b0p (Bk.outK_length l s k) om;have aJ:some wr.heap.size≠(Value.slice a m c).ownBlock:=λq=>by
          have:=(oCb hX.o.2.2.2.1 wr.heap.size q.symm).2;omega
         have aH:=hX.o.2.1;have a5:=hX.o.2.2.1;have ah:Hid (Bk.key (at' l k) s->RLn W0 X (.slice a m c) m pb true l s (k+1)):=λh=>by
          obtain⟨s1,s2⟩:=Bk.step_key s hlt h;refine⟨by rw[s1];exact hX.o.1,by rw[s2];exact aH,by rw[Bk.had_step s hlt,b0k h,Bool.or_true],by rw[s1];exact aT,ar⟩
         have aB:Hid (¬Bk.key (at' l k) s->hb=Bk.hadK l s (k+1)):=λh=>by rw[Bk.had_step s hlt,b0j h,Bool.or_false];exact a5
         have ad:Hid (¬Bk.key (at' l k) s->(pb=true\/¬Bk.lt s (at' l k))->∀V:World,Bl X V->∃a1 m1 c1 w2,a2t (.slice a m c) (.slice (some (Pv V.heap.size 0)) 1 1) (V.alloc (.cells #[Iv (at' l k).vid,Uv (at' l k).addr,Iv (at' l k).port,Iv (at' l k).age] 110)) (.slice a1 m1 c1) w2/\Hid (RLn W0 w2 (.slice a1 m1 c1) m1 pb hb l s (k+1))):=λag bd V hV=>by
          have a4:Bl W0 V:=ar.trans (hV.mono ar.size);obtain⟨a1,m1,c1,w2,r,e1,o,bb,_⟩:=a6P W0 V a4 (.slice a m c) _ (at' l k) (aT.below hV) om;have aZ:Bk.outK l s (k+1)=Bk.outK l s k++[at' l k]/\Bk.putK l s (k+1)=pb:=by
           by_cases q:Bk.lt s (at' l k)
           ·have hp:pb=true:=bd.elim id (λr=>absurd q r);obtain⟨t1,t2⟩:=Bk.step_more s hlt q (by rw[<-aH];exact hp);exact⟨t1,by rw[t2,hp]⟩
           ·have q2:Bk.lt (at' l k) s:=by
             by_cases q3:Bk.lt (at' l k) s
             ·exact q3
             ·exact absurd (Bk.key_iff.2 ⟨q3,q⟩) ag
            obtain⟨t1,t2,t3⟩:=Bk.step_low aU.o s hlt q2;exact⟨t1,by rw[t2,aH,t3]⟩
          exact⟨a1,m1,c1,w2,r,⟨by rw[aZ.1];exact e1,aZ.2.symm,aB.o ag,by rw[aZ.1];exact o,bb⟩⟩
         have af:Hid (¬Bk.key (at' l k) s->pb=false->Bk.lt s (at' l k)->∀V:World,Bl X V->∃a1 m1 c1 w2 a2 m2 ay w3,a2t (.slice a m c) (.slice (some (Pv V.heap.size 0)) 1 1) (V.alloc (.cells #[Iv vid,Uv aa,Iv ab,Iv 0] 110)) (.slice a1 m1 c1) w2/\w2.heap[wr.heap.size]?=some (.cells #[Iv (at' l k).vid,Uv (at' l k).addr,Iv (at' l k).port,Iv (at' l k).age] 110)/\a2t (.slice a1 m1 c1) (.slice (some (Pv w2.heap.size 0)) 1 1) (w2.alloc (.cells #[Iv (at' l k).vid,Uv (at' l k).addr,Iv (at' l k).port,Iv (at' l k).age] 110)) (.slice a2 m2 ay) w3/\Hid (RLn W0 w3 (.slice a2 m2 ay) m2 true hb l s (k+1))):=λag hp hl V hV=>by
          have a4:Bl W0 V:=ar.trans (hV.mono ar.size);obtain⟨a1,m1,c1,w2,r,e1,o,bb,q1⟩:=a6P W0 V a4 (.slice a m c) _ s (aT.below hV) om;obtain⟨a2,m2,ay,w3,r2,e2,o2,bc,_⟩:=a6P W0 w2 bb (.slice a1 m1 c1) _ (at' l k) o (by simp;omega);obtain⟨t1,t2⟩:=Bk.step_put s hlt hl (by rw[<-aH];exact hp);rw[aj.o.1,aj.o.2.1,aj.o.2.2.1,aj.o.2.2.2] at r;have bg:wr.heap.size<V.heap.size:=(by have:=hV.size;omega)
          refine⟨a1,m1,c1,w2,a2,m2,ay,w3,r,?_,r2,⟨by rw[t1];exact e2,t2.symm,aB.o ag,by rw[t1];exact o2,bc⟩⟩;exact(q1 _ bg aJ).trans (keep aR hV)
         have aF:Hid (Bl X X):=b0h _ _;have am:Hid (∀W,Bl X W->Calls prog 44 #[.agg #[Iv vid,Uv aa,Iv ab,Iv 0],.agg #[Iv (at' l k).vid,Uv (at' l k).addr,Iv (at' l k).port,Iv (at' l k).age]] W λe w'=>e=.returned (.bool (Bk.ltb s (at' l k)))/\w'.heap[wr.heap.size]?=some (.cells #[Iv (at' l k).vid,Uv (at' l k).addr,Iv (at' l k).port,Iv (at' l k).age] 110)/\w'.heap[w.heap.size]?=some (.cells #[Iv vid,Uv aa,Iv ab,Iv 0] 110)/\Hid (Bl X w')):=λW hW=>by
          have:=a4x s (at' l k) W;rw[aj.o.1,aj.o.2.1,aj.o.2.2.1,aj.o.2.2.2] at this;refine this.mono ?_;rintro e w' ⟨rfl,bf⟩;have a0:Bl X w':=hW.trans (bf.mono hW.size);exact⟨rfl,keep aR a0,aM.o _ (ar.trans (a0.mono ar.size)),a0⟩
         have a7:=aM.o X ar;obtain⟨g0,g1,g2,g3⟩:=a0F a7;obtain⟨x0,x1,x2,x3⟩:=a0F aR;have ap:Hid (Bk.key (at' l k) s↔(at' l k).vid=vid/\(at' l k).addr=aa):=by
          show((at' l k).vid=s.vid/\(at' l k).addr=s.addr)↔_;rw[aj.o.1,aj.o.2.1]
         have a8:Hid (X.heap.size=wr.heap.size+1):=a9;have al:Hid (Bk.ltb s (at' l k)=true↔Bk.lt s (at' l k)):=Bk.ltb_iff;have bi:w.heap.size<wr.heap.size:=by
          have h1:=(gSm.1 (aM.o wr hX.o.2.2.2.2)).1;exact h1
         obtain⟨y0,y1,y2,y3⟩:=a0F (aM.o wr hX.o.2.2.2.2);clear hX aV aR a9 ar aT ba aJ aH a5 a7 aB ak aU av aq;generalize Bk.ltb s (at' l k)=LB at *;generalize Bk.lt s (at' l k)=LP at *;by_cases q1:(at' l k).vid=vid
         ·have e1:((at' l k).vid == vid)=true:=(by simp[q1])
          by_cases q2:(at' l k).addr=aa
          ·have e2:((at' l k).addr == aa)=true:=(by simp[q2])
           have HN:Hid _:=ah.o (ap.o.2 ⟨q1,q2⟩);clear ad af ah ap am al q1 q2;generalize at' l k=y at *;(go_wp2_with fail);rw[<-HX.o];exact⟨⟨k+1,a,m,c,pb,true,om,gn,rfl,rfl,rfl,HN⟩,io⟩
          ·have e2:((at' l k).addr == aa)=false:=(by simpa using q2)
           have ag:¬Bk.key (at' l k) s:=λh=>q2 (ap.o.1 h).2;cases pb with
           | true =>
            obtain⟨a1,m1,au,w2,r,HN⟩:=ad.o ag (Or.inl rfl) X aF.o;rw[a8.o,HX.o] at r;have HR:Hid _:=r;clear ad af ah ap am al r ag q1 q2;generalize at' l k=y at *;go_wp2_with (at_builtin;refine a0a rfl (.tmp 71) (.tmp 73) 67 rfl _ _ _ rfl rfl HR.o ?_;clear HR)
            exact⟨⟨k+1,a1,m1,au,true,hb,om,gn,rfl,rfl,rfl,HN⟩,io⟩
           | false =>
            cases LB with
            | true =>
             have aN:Hid _:=af.o ag rfl (al.o.1 rfl);clear ad af ah ap al ag q1 q2;generalize at' l k=y at *;(go_wp2_with fail);rw[<-HX.o];refine(am.o X aF.o).mono ?_;rintro e w1 ⟨rfl,aO,aL,aD⟩;obtain⟨a1,m1,au,w2,a2,m2,ay,w3,r,aY,r2,HN⟩:=aN.o w1 aD.o;have HR:Hid _:=r;have aK:Hid _:=r2;clear c0 c1 c2 c3 g0 g1 g2 g3 x0 x1 x2 x3 y0 y1 y2 y3 r r2 aN am;obtain⟨g0,g1,g2,g3⟩:=a0F aL;obtain⟨x0,x1,x2,x3⟩:=a0F aY;go_wp2_with (at_builtin;first | (refine a0a rfl (.tmp 67) (.tmp 69) 67 rfl _ _ _ rfl rfl HR.o ?_;clear HR) | (refine a0a rfl (.tmp 71) (.tmp 73) 67 rfl _ _ _ rfl rfl aK.o ?_;clear aK))
             exact⟨⟨k+1,a2,m2,ay,true,hb,om,gn,rfl,rfl,rfl,HN⟩,io⟩
            | false =>
             have aI:Hid _:=ad.o ag (Or.inr (λh=>by have:=al.o.2 h;cases this));clear ad af ah ap al ag q1 q2;generalize at' l k=y at *;(go_wp2_with fail);rw[<-HX.o];refine(am.o X aF.o).mono ?_;rintro e w1 ⟨rfl,aO,aL,aD⟩;obtain⟨a1,m1,au,w2,r,HN⟩:=aI.o w1 aD.o;have HR:Hid _:=r;clear c0 c1 c2 c3 g0 g1 g2 g3 x0 x1 x2 x3 y0 y1 y2 y3 r aI am;obtain⟨x0,x1,x2,x3⟩:=a0F aO;go_wp2_with (at_builtin;refine a0a rfl (.tmp 71) (.tmp 73) 67 rfl _ _ _ rfl rfl HR.o ?_;clear HR)
             exact⟨⟨k+1,a1,m1,au,false,hb,om,gn,rfl,rfl,rfl,HN⟩,io⟩
         ·have e1:((at' l k).vid == vid)=false:=(by simpa using q1)
          have ag:¬Bk.key (at' l k) s:=λh=>q1 (ap.o.1 h).1;cases pb with
          | true =>
           obtain⟨a1,m1,au,w2,r,HN⟩:=ad.o ag (Or.inl rfl) X aF.o;rw[a8.o,HX.o] at r;have HR:Hid _:=r;clear ad af ah ap am al r ag q1;generalize at' l k=y at *;go_wp2_with (at_builtin;refine a0a rfl (.tmp 71) (.tmp 73) 67 rfl _ _ _ rfl rfl HR.o ?_;clear HR)
           exact⟨⟨k+1,a1,m1,au,true,hb,om,gn,rfl,rfl,rfl,HN⟩,io⟩
          | false =>
           cases LB with
           | true =>
            have aN:Hid _:=af.o ag rfl (al.o.1 rfl);clear ad af ah ap al ag q1;generalize at' l k=y at *;(go_wp2_with fail);rw[<-HX.o];refine(am.o X aF.o).mono ?_;rintro e w1 ⟨rfl,aO,aL,aD⟩;obtain⟨a1,m1,au,w2,a2,m2,ay,w3,r,aY,r2,HN⟩:=aN.o w1 aD.o;have HR:Hid _:=r;have aK:Hid _:=r2;clear c0 c1 c2 c3 g0 g1 g2 g3 x0 x1 x2 x3 y0 y1 y2 y3 r r2 aN am;obtain⟨g0,g1,g2,g3⟩:=a0F aL;obtain⟨x0,x1,x2,x3⟩:=a0F aY;go_wp2_with (at_builtin;first | (refine a0a rfl (.tmp 67) (.tmp 69) 67 rfl _ _ _ rfl rfl HR.o ?_;clear HR) | (refine a0a rfl (.tmp 71) (.tmp 73) 67 rfl _ _ _ rfl rfl aK.o ?_;clear aK))
            exact⟨⟨k+1,a2,m2,ay,true,hb,om,gn,rfl,rfl,rfl,HN⟩,io⟩
           | false =>
            have aI:Hid _:=ad.o ag (Or.inr (λh=>by have:=al.o.2 h;cases this));clear ad af ah ap al ag q1;generalize at' l k=y at *;(go_wp2_with fail);rw[<-HX.o];refine(am.o X aF.o).mono ?_;rintro e w1 ⟨rfl,aO,aL,aD⟩;obtain⟨a1,m1,au,w2,r,HN⟩:=aI.o w1 aD.o;have HR:Hid _:=r;clear c0 c1 c2 c3 g0 g1 g2 g3 x0 x1 x2 x3 y0 y1 y2 y3 r aI am;obtain⟨x0,x1,x2,x3⟩:=a0F aO;go_wp2_with (at_builtin;refine a0a rfl (.tmp 71) (.tmp 73) 67 rfl _ _ _ rfl rfl HR.o ?_;clear HR)
            exact⟨⟨k+1,a1,m1,au,false,hb,om,gn,rfl,rfl,rfl,HN⟩,io⟩
        ·obtain rfl:k=l.length:=om
         have ae:Hid (∀W v,OwnE W W0.heap.size v (Bk.lo l s++s :: Bk.hi l s)->Bl W0 W->(hb=true\/l.length<30)->∃a c,v=.slice a (Bk.learn l s).length c/\BEL W a c (Bk.learn l s)/\Bl w W/\BkD W w.heap.size ao cap l a c (Bk.learn l s)):=λW v ho hW hh=>by
          rw[av.o (by rw[<-hX.o.2.2.1];exact hh)];obtain⟨a',c',e',h',_⟩:=ho.el;exact⟨a',c',e',h',aG.o W hW,Or.inr (by rw[<-e'];exact ho.mono (aG.o W0 (b0h _ _)).size)⟩
         have aw:Hid (∀W,Bl W0 W->hb=false->30<=l.length->Bk.learn l s=l/\BEL W ao cap l/\Bl w W):=λW hW h=>aq.o W hW (by rw[<-hX.o.2.2.1];exact h);have an:=Bk.out_all l s;rw[<-hX.o.2.1] at an;have aQ:Hid (Bl W0 wr):=hX.o.2.2.2.2;cases pb with
         | true =>
          have HO:Hid (OwnE wr W0.heap.size (.slice a m c) (Bk.lo l s++s :: Bk.hi l s)):=(by rw[<-an];exact hX.o.2.2.2.1)
          clear hX ak aU av aq an;cases hb with
          | true =>
           have HF:Hid _:=ae.o wr _ HO.o aQ.o (Or.inl rfl);clear ae aw;(go_wp2_with fail);go_ret;obtain⟨a',c',e',aE,az⟩:=HF.o;exact⟨a',c',congrArg Ending.returned e',aE,az⟩
          | false =>
           by_cases hl30:l.length<30
           ·have hz:(l.length:Int)<30:=om
            have HF:Hid _:=ae.o wr _ HO.o aQ.o (Or.inr hl30);clear ae aw;(go_wp2_with fail);go_ret;obtain⟨a',c',e',aE,az⟩:=HF.o;exact⟨a',c',congrArg Ending.returned e',aE,az⟩
           ·have hz:(30:Int)<=(l.length:Int):=om
            obtain⟨HL,HF⟩:=aw.o wr aQ.o rfl om;have aC:Hid _:=HL;clear ae aw HL;(go_wp2_with fail);go_ret;exact⟨ao,cap,by rw[aC.o];rfl,by rw[aC.o];exact HF.1,HF.2,Or.inl ⟨rfl,rfl,aC.o⟩⟩
         | false =>
          obtain⟨a1,m1,c1,w2,r,e1,o,bb,_⟩:=a6P W0 wr aQ.o (.slice a m c) _ s hX.o.2.2.2.1 (b0p (Bk.outK_length l s _) om);rw[aj.o.1,aj.o.2.1,aj.o.2.2.1,aj.o.2.2.2] at r;have ax:Bk.outK l s l.length++[s]=Bk.lo l s++s :: Bk.hi l s:=an;rw[ax] at o;have HO:Hid (OwnE w2 W0.heap.size (.slice a1 m1 c1) (Bk.lo l s++s :: Bk.hi l s)):=o;have aW:Hid (Bl W0 w2):=bb;have HR:Hid _:=r;obtain⟨g0,g1,g2,g3⟩:=a0F (aM.o wr aQ.o);clear hX ak aU av aq an ax o bb r e1;cases hb with
          | true =>
           have HF:Hid _:=ae.o w2 _ HO.o aW.o (Or.inl rfl);clear ae aw;go_wp2_with (at_builtin;refine a0a rfl (.tmp 78) (.tmp 80) 67 rfl _ _ _ rfl rfl HR.o ?_;clear HR)
           go_ret;obtain⟨a',c',e',aE,az⟩:=HF.o;exact⟨a',c',congrArg Ending.returned e',aE,az⟩
          | false =>
           by_cases hl30:l.length<30
           ·have hz:(l.length:Int)<30:=om
            have HF:Hid _:=ae.o w2 _ HO.o aW.o (Or.inr hl30);clear ae aw;go_wp2_with (at_builtin;refine a0a rfl (.tmp 78) (.tmp 80) 67 rfl _ _ _ rfl rfl HR.o ?_;clear HR)
            go_ret;obtain⟨a',c',e',aE,az⟩:=HF.o;exact⟨a',c',congrArg Ending.returned e',aE,az⟩
           ·have hz:(30:Int)<=(l.length:Int):=om
            obtain⟨HL,HF⟩:=aw.o w2 aW.o rfl om;have aC:Hid _:=HL;clear ae aw HL;go_wp2_with (at_builtin;refine a0a rfl (.tmp 78) (.tmp 80) 67 rfl _ _ _ rfl rfl HR.o ?_;clear HR)
            go_ret;exact⟨ao,cap,by rw[aC.o];rfl,by rw[aC.o];exact HF.1,HF.2,Or.inl ⟨rfl,rfl,aC.o⟩⟩
      ·have HL:Hid _:=ac.o (λh=>by have:=ai.o.1 h;omega);clear ac ai;go_enter func59,ntmps59;(go_wp2_with fail);go_ret;exact⟨ao,cap,by rw[HL.o];rfl,by rw[HL.o];exact ak.o w (b0h _ _),b0h _ _,Or.inl ⟨rfl,rfl,HL.o⟩⟩
     ·have HL:Hid _:=ac.o (λh=>by have:=ai.o.1 h;omega);clear ac ai;go_enter func59,ntmps59;(go_wp2_with fail);go_ret;exact⟨ao,cap,by rw[HL.o];rfl,by rw[HL.o];exact ak.o w (b0h _ _),b0h _ _,Or.inl ⟨rfl,rfl,HL.o⟩⟩
    ·have HL:Hid _:=ac.o (λh=>by have:=ai.o.1 h;omega);clear ac ai;go_enter func59,ntmps59;(go_wp2_with fail);go_ret;exact⟨ao,cap,by rw[HL.o];rfl,by rw[HL.o];exact ak.o w (b0h _ _),b0h _ _,Or.inl ⟨rfl,rfl,HL.o⟩⟩
   ·have HL:Hid _:=ac.o (λh=>by have:=ai.o.1 h;omega);clear ac ai;go_enter func59,ntmps59;(go_wp2_with fail);go_ret;exact⟨ao,cap,by rw[HL.o];rfl,by rw[HL.o];exact ak.o w (b0h _ _),b0h _ _,Or.inl ⟨rfl,rfl,HL.o⟩⟩
  ·have HL:Hid _:=ac.o (λh=>by have:=ai.o.1 h;omega);clear ac ai;go_enter func59,ntmps59;(go_wp2_with fail);go_ret;exact⟨ao,cap,by rw[HL.o];rfl,by rw[HL.o];exact ak.o w (b0h _ _),b0h _ _,Or.inl ⟨rfl,rfl,HL.o⟩⟩
 ·have e0:(aa/1099511627776%2 == 1)=true:=(by simp;omega)
  have HL:Hid _:=ac.o (λh=>by have:=ai.o.1 h;omega);clear ac ai;go_enter func59,ntmps59;(go_wp2_with fail);go_ret;exact⟨ao,cap,by rw[HL.o];rfl,by rw[HL.o];exact ak.o w (b0h _ _),b0h _ _,Or.inl ⟨rfl,rfl,HL.o⟩⟩
