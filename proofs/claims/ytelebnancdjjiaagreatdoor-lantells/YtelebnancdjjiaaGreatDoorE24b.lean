/- PV8 -/
import Derived.Test.YtelebnancdjjiaaGreatDoorE24
set_option maxRecDepth 100000
set_option maxHeartbeats 40000000
namespace Go.Proofs.YtelebnancdjjiaaGreatDoor
section
open Go.Proofs.Tryz Go.RowKit
open Pl(En Br Net Pc Lk)
open Vc(V Of)
theorem a9p (base:Nat) (v:Value) (l:List En) (w:World) (hl:l.length<=1000) (ho:w.ownsRow base 221 5 v l.length (a3J l)) :
  Calls prog 152 #[v,.func (.func 153) #[] #[]] w λe w'=>e=.returned (.tuple #[])/\∃l':List En,l'.length=l.length/\w'.ownsRow base 221 5 v l'.length (a3J l')/\w.grownBy w' v.ownBlock:=by
 rcases a1G ho with⟨rfl,h0⟩ | ⟨g,cap,sp,rfl,hg,hn,hm,hs,hh⟩
 ·refine(Es.esort_none _ w).mono ?_;rintro e w' ⟨rfl,rfl⟩;exact⟨rfl,l,rfl,ho,rfl,rfl,rfl,b0g _,λ_ _ _=>rfl⟩
 ·refine(Es.wsortf sp g l.length cap w ⟨⟨EL l,hh⟩,Es.But.refl _ _⟩ om).mono ?_;rintro e w' ⟨rfl,⟨f,hf⟩,hb⟩;have e1:((List.range l.length).map f).length=l.length:=(by simp)
  have e2:a0f l.length 5 (λj=>enC (EL ((List.range l.length).map f) j))=a0f l.length 5 (λj=>enC (f j)):=by
   apply a0k
   intro i hi;simp[EL,List.getD,hi]
  refine⟨rfl,(List.range l.length).map f,e1,?_,hb⟩;show w'.ownsRow base _ 5 _ _ (a0f _ 5 _);rw[e1,e2];exact a1H hg hn hm hs hf
def Mid0 (w1 W:World) (G K B:Nat) (l:Lk) (m:Nat):Prop:=∃L,(∀i,(L i).length<=m)/\MidW w1 W G K B l L
def En0 (w1 W:World) (G K m:Nat):Prop:=Below G w1 W/\∃v L,(∀i,(L i).length<=m)/\EnAt W G K v L
theorem a6R {L:Nat->List En}{m i:Nat}(h:∀j,(L j).length<=m) (e:En) (j:Nat):(L j++if j=i then [e] else []).length<=m+1:=by
 have:=h j;rw[List.length_append];split<;>simp<;>omega
theorem a9q {w1 W:World}{G K B:Nat}{l:Lk}{m:Nat}(h:Mid0 w1 W G K B l m):Below G w1 W:=h.choose_spec.2.1
theorem mid_lk {w1 W:World}{G K B:Nat}{l:Lk}{m:Nat}(h:Mid0 w1 W G K B l m):W.heap[B]?=some (.cells (lkA l) 103):=h.choose_spec.2.2.1
theorem pends0 (K:Nat) (bs:Nat->Br) (B1 B2:Nat) (lao:OA) (L lcap:Nat) (ls:Nat->Lk) (w:World) (hK:K<=12) (hL:L<=40) (hA:AmongAt w K bs B1 B2) (av:LRow w lao L lcap ls) (R:Pl.RightL K L ls) :
  Calls prog 150 #[.slice lao L lcap,.pointer (some ⟨B1,0,none⟩),.pointer (some ⟨B2,0,none⟩)] w λe w'=>∃G,e=.returned (.slice (some ⟨G,0,none⟩) K K)/\Bl w w':=by
 obtain⟨IB,vI,hI,aL,ac⟩:=hA;have aQ:=av.1;have HR:Hid (Pl.RightL K L ls):=R;have aC:∀W:World,(Instr.makeSlice 146 (Iv K) (Iv K)).run prog W=.ok (.slice (some ⟨W.heap.size,0,none⟩) K K) (W.alloc (.cells (rowC K 1 (λ_ _=>sN)) 219)):=λW=>a1E W 146 219 sN 1 24 K underlying146 infoEs om rfl om om _ (λ_ j hj=>by rw[show j=0 by omega];rfl);obtain⟨G,HG⟩:=nm w.heap.size
 have aB:w.heap.size<=G:=(by rw[HG.o];exact b0g _)
 have ae:Hid (∀W,Below G w W->(W.cell? ⟨B1,0,none⟩=some (.slice (some ⟨IB,0,none⟩) K K)/\W.cell? ⟨B2,0,none⟩=some (.func (.func 149) #[] #[.pointer (some ⟨B1,0,none⟩)]))/\LRow W lao L lcap ls/\IdsAt W IB K bs vI K/\Bl w W):=λW hW=>by
  rw[HG.o] at hW;exact⟨⟨a9Y W B1 0 _ _ _ (keep aL hW),a9Y W B2 0 _ _ _ (keep ac hW)⟩,CRow.below av hW,hI.below hW,hW⟩
 obtain⟨⟨m0,_⟩,_⟩:=ae.o w (by rw[HG.o];exact b0h _ _);have H0:Hid (En0 w (w.alloc (.cells (rowC K 1 (λ_ _=>sN)) 219)) G K 0):=by
  rw[HG.o];exact⟨bA1 _ _,λ_=>sN,λ_=>[],λ_=>b0g _,a9Z _ _,λi hi=>a0y _ _ _ _ _,λi j _ _ _ q hq=>by cases hq⟩
 have aD:Hid (G<=w.heap.size):=(by rw[HG.o];exact b0g _)
 have au:Hid (∀(W:World) (q:Nat),q<K->W.cell? ⟨B1,0,none⟩=some (.slice (some ⟨IB,0,none⟩) K K)->Calls prog 149 #[Iv q,.pointer (some ⟨B1,0,none⟩)] W λe w'=>e=.returned (.bool true)/\w'=W):=λW q hq hc=>by
  have:=pisb_any (q:Int) B1 IB K W hK hc;rw[b0k om] at this;exact this
 clear av R hI aL ac;go_enter func150,ntmps150;(go_wp2_with fail);rw[<-HG.o];clear m0;go_loopw [16] (λi wr=>∃k:Nat,k<=L/\i=Iv k/\Hid (En0 w wr G K (2*k))) (λi _=>L-(intOf i).toNat)
 case atStart=>exact⟨0,om,rfl,H0⟩
 case round =>
  obtain⟨k,hk,rfl,hX⟩:=hrel;clear H0;by_cases hlt:k<L
  ·obtain⟨hB,v,M,hM,hE⟩:=hX.o;obtain⟨_,f2,f3,_⟩:=ae.o wr hB;obtain⟨lb,aV,rfl,_⟩:=CRow.some f2 om;obtain⟨c0,c1,c2,c3,c4,c5⟩:=LRow.cells f2 hlt;obtain⟨o1,o2,o3,_⟩:=HR.o.ok k hlt;obtain⟨na,aH⟩:∃na:Nat,(ls k).a=na:=⟨(ls k).a.toNat,om⟩
   obtain⟨nb,aI⟩:∃nb:Nat,(ls k).b=nb:=⟨(ls k).b.toNat,om⟩
   have ha:na<K:=om
   have hb:nb<K:=om
   obtain⟨B,ag⟩:=nm wr.heap.size
   have am:G<wr.heap.size:=(gSm.1 hE.blk).1;have af:Hid (Mid0 w (wr.alloc (.cells (lkA (ls k)) 103)) G K B (ls k) (2*k)):=by
    refine⟨M,hM,hB.trans ((bA1 wr _).mono (Nat.le_of_lt am)),by rw[ag.o];exact a9Z _ _,by rw[ag.o];omega,v,hE.below (bA1 _ _),λi hi p => ?_⟩;have:=(oCb (hE.own i hi) B p).2;rw[ag.o] at this;omega
   obtain⟨lv,aq⟩:=nm ((ls k).up&&decide (a1q 50 (bs na).reg.id=a1q 50 (bs nb).reg.id))
   have ap:Hid (2*k+2<=1000):=by have:k<L:=hlt;exact(by omega:2*k+2<=1000)
   have aW:(0:Int)<=(na:Int):=om
   have aX:(na:Int)<(K:Int):=om
   have aZ:(0:Int)<=(nb:Int):=om
   have aY:(nb:Int)<(K:Int):=om
   clear hX hB hE hM f2 f3 o1 o2 o3 am;generalize ls k=l at *;obtain⟨a,pa,b,pb,c,up⟩:=l;simp only at aH aI c0 c1 c2 c3 c4 c5 aq;subst aH;subst aI;simp only[lkA] at af;obtain⟨⟨ao,aN⟩,_⟩:=ae.o _ (a9q af.o);have az:Hid (Calls prog 149 #[Iv na,.pointer (some ⟨B1,0,none⟩)] (wr.alloc (.cells #[Iv na,Iv pa,Iv nb,Iv pb,Iv c,.bool up] 103)) λe w'=>e=.returned (.bool true)/\w'=(wr.alloc (.cells #[Iv na,Iv pa,Iv nb,Iv pb,Iv c,.bool up] 103))):=au.o _ na ha ao;have aG:Hid (Calls prog 149 #[Iv nb,.pointer (some ⟨B1,0,none⟩)] (wr.alloc (.cells #[Iv na,Iv pa,Iv nb,Iv pb,Iv c,.bool up] 103)) λe w'=>e=.returned (.bool true)/\w'=(wr.alloc (.cells #[Iv na,Iv pa,Iv nb,Iv pb,Iv c,.bool up] 103))):=au.o _ nb hb ao;obtain⟨y0,y1,y2,y3,y4,y5⟩:=a1s (mid_lk af.o);rw[ag.o] at y0 y1 y2 y3 y4 y5;go_wp2_with (go_at_call 149;(first | (with_reducible refine az.o.mono ?_) | (with_reducible refine aG.o.mono ?_));rintro e w3 ⟨rfl,rfl⟩)
   rw[<-ag.o];clear y0 y1 y2 y3 y4 y5 ao aN az aG au;go_cut [7,8] (λs6 s7 wx=>s6=.pointer (some ⟨B,0,none⟩)/\s7=.bool lv/\Hid (Mid0 w wx G K B ⟨na,pa,nb,pb,c,up⟩ (2*k)))
   case first =>
    obtain⟨Z,HZ⟩:=nm (wr.alloc (.cells #[Iv na,Iv pa,Iv nb,Iv pb,Iv c,.bool up] 103))
    rw[<-HZ.o] at af ⊢;have an:=af.o;obtain⟨⟨ao,_⟩,_,g3,_⟩:=ae.o Z (a9q an);obtain⟨q0,q1,q2,q3,q4,q5⟩:=a1s (mid_lk an);have aK:Hid (∀j,Mid0 w (Z.drewN j) G K B ⟨na,pa,nb,pb,c,up⟩ (2*k)):=λj=>by
     obtain⟨M,h1,h2⟩:=an;exact⟨M,h1,h2.below (a0d (b0h _ _) j)⟩
    have eA:(⟨IB,na,none⟩:Addr)=⟨IB,na*1+0,none⟩:=(by simp)
    have eB:(⟨IB,nb,none⟩:Addr)=⟨IB,nb*1+0,none⟩:=(by simp)
    have ca:Z.cell? ⟨IB,na,none⟩=some (vI na):=(by rw[eA];exact a0C g3.1 ha om)
    have cb:Z.cell? ⟨IB,nb,none⟩=some (vI nb):=(by rw[eB];exact a0C g3.1 hb om)
    obtain⟨ab,ar,aM,xa,ra,_⟩:=g3.2 na ha;obtain⟨bb,ay,aU,xb,rb,_⟩:=g3.2 nb hb;rw[xa] at ca;rw[xb] at cb;have aR:Hid (∀m,Calls prog 151 #[.slice (some ⟨ab,ar,none⟩) 50 aM,.slice (some ⟨bb,ay,none⟩) 50 aU] (Z.drewN m) λe w'=>e=.returned (.bool (decide (a1q 50 (bs na).reg.id=a1q 50 (bs nb).reg.id)))/\w'=Z.drewN m):=λm=>a7l _ _ 50 _ 50 _ _ _ (Z.drewN m) (ra.below (a0d (b0h _ _) m)) (λh=>by cases h) (rb.below (a0d (b0h _ _) m)) (λh=>by cases h);clear an g3 ra rb xa xb eA eB af ae;generalize decide (a1q 50 (bs na).reg.id=a1q 50 (bs nb).reg.id)=D at *;cases up with
    | true =>
     have ax:lv=D:=(by rw[aq.o,Bool.true_and])
     go_quiet (first | (go_at_call 151;exact Calls.quiet_of_same (aR.o _)))
     (all_goals go_wp2_with fail);all_goals go_meet
     all_goals (refine⟨rfl,?_,?_⟩;(rw[ax]);exact aK.o _)
    | false =>
     have ax:lv=false:=(by rw[aq.o,Bool.false_and])
     (go_quiet (fail));(go_wp2_with fail);go_meet
     refine⟨rfl,?_,?_⟩
     ·rw[ax]
     ·exact aK.o _
   case rest =>
   obtain⟨rfl,rfl,HM⟩:=hcut;clear af c0 c1 c2 c3 c4 c5 ag aq;have ad:Hid (∀W:World,W.heap[B]?=some (.cells (lkA ⟨na,pa,nb,pb,c,up⟩) 103)->(W.cell? ⟨B,0,none⟩=some (Iv na)/\W.cell? ⟨B,1,none⟩=some (Iv pa)/\W.cell? ⟨B,2,none⟩=some (Iv nb)/\W.cell? ⟨B,3,none⟩=some (Iv pb))/\W.cell? ⟨B,4,none⟩=some (Iv c)):=λW h=>by
    obtain⟨q0,q1,q2,q3,q4,q5⟩:=a1s h;exact⟨⟨q0,q1,q2,q3⟩,q4⟩
   (go_wp2_with fail);go_cut [7,8] (λs6 s7 wx=>s6=.pointer (some ⟨B,0,none⟩)/\s7=.bool lv/\Hid (Mid0 w wx G K B ⟨na,pa,nb,pb,c,up⟩ (2*k+1)))
   case first =>
    obtain⟨M,hM,ak⟩:=HM.o;obtain⟨x,vo,vn,vc,w2,hW,r,s1,s2,ac,al,aw,hN⟩:=a4o ak na ha ⟨pa,c,nb,pb,lv⟩ (by have:=hM na;have:=ap.o;omega);have HN:Hid (Mid0 w (w2.setCell ⟨G,na,none⟩ (.slice vo vn vc)) G K B ⟨na,pa,nb,pb,c,up⟩ (2*k+1)):=⟨_,a6R hM _,hN⟩
    have HW:Hid (∀W,Bl wc W->W.cell? ⟨G,na,none⟩=some x/\((W.cell? ⟨B,0,none⟩=some (Iv na)/\W.cell? ⟨B,1,none⟩=some (Iv pa)/\W.cell? ⟨B,2,none⟩=some (Iv nb)/\W.cell? ⟨B,3,none⟩=some (Iv pb))/\W.cell? ⟨B,4,none⟩=some (Iv c))):=λW h=>⟨(hW W h).1,ad.o W (hW W h).2⟩
    have ai:Hid _:=ad.o w2 ac;have aj:Hid _:=ad.o _ al;have g0:=(hW wc (b0h _ _)).1;have g1:∀o,(wc.alloc o).cell? ⟨G,na,none⟩=some x:=λo=>(hW _ ((b0h _ _).alloc (b0g _) o)).1;simp only at r;have ah:Hid _:=r;clear r hN hW ac al aw hM ak HM ap ae HR ad;clear aC HG aD aB;refine wp_region_held_drew (S:=λW=>(W.cell? ⟨B,0,none⟩=some (Iv na)/\W.cell? ⟨B,1,none⟩=some (Iv pa)/\W.cell? ⟨B,2,none⟩=some (Iv nb)/\W.cell? ⟨B,3,none⟩=some (Iv pb))/\W.cell? ⟨B,4,none⟩=some (Iv c)) kr (HW.o _ (b0i (b0h _ _))).2 (λaa => ?_);refine a0l 0 47 aa ?_;(try simp only[aP])
    refine a0l 1 48 aa ?_;(try simp only[aP])
    refine a0l 2 49 aa ?_;(try simp only[aP])
    refine a0l 3 50 aa ?_;(try simp only[aP])
    refine a0l 4 51 aa ?_;(try simp only[aP])
    refine a0l 5 52 aa ?_;(try simp only[aP])
    refine a0l 6 53 aa ?_;(try simp only[aP])
    refine a0l 8 55 aa ?_;(try simp only[aP])
    refine a0l 9 56 aa ?_;(try simp only[aP])
    refine a0l 10 57 aa ?_;(try simp only[aP])
    refine a0l 11 58 aa ?_;(try simp only[aP])
    refine a0l 12 59 aa ?_;(try simp only[aP])
    refine a0l 13 60 aa ?_;(try simp only[aP])
    refine a0l 14 61 aa ?_;(try simp only[aP])
    refine a0l 15 62 aa ?_;(try simp only[aP])
    refine a0l 16 63 aa ?_;(try simp only[aP])
    refine a0l 17 64 aa ?_;(try simp only[aP])
    refine wpAnyH_ready (rs:=[7,18]) kr (by simp) ?_;refine AllReadyH.cons rfl (λK hK => ?_) (AllReadyH.cons rfl (λK hK => ?_) AllReadyH.nil)
    ·go_simp;refine hK.out _ _ aa (λaa => ?_);clear hK K;(try simp only[aP])
     refine a1N 18 (λK hK=>?_);go_simp;refine hK.out _ _ (HW.o _ ((b0i (b0h _ _)).alloc (b0g _) _)).2 (λaa => ?_);clear hK K;(try simp only[aP])
     refine a1N 19 (λK hK=>?_);refine a0Y (some 66) rfl rfl (.tmp 54) (.tmp 65) 219 rfl _ _ _ rfl rfl ah.o ?_;refine hK.out _ _ ai.o (λaa => ?_);clear hK K;(try simp only[aP])
     refine a0l 20 67 aa ?_;(try simp only[aP])
     refine a1N 21 (λK hK=>?_);go_simp;refine hK.out _ _ aj.o (λaa => ?_);clear hK K;refine wpAnyH_done kr ?_ _;(go_wp2_with fail);go_meet
     exact⟨rfl,rfl,HN⟩
    ·go_simp;refine hK.out _ _ (HW.o _ ((b0i (b0h _ _)).alloc (b0g _) _)).2 (λaa => ?_);clear hK K;(try simp only[aP])
     refine a1N 7 (λK hK=>?_);go_simp;refine hK.out _ _ aa (λaa => ?_);clear hK K;(try simp only[aP])
     refine a1N 19 (λK hK=>?_);refine a0Y (some 66) rfl rfl (.tmp 54) (.tmp 65) 219 rfl _ _ _ rfl rfl ah.o ?_;refine hK.out _ _ ai.o (λaa => ?_);clear hK K;(try simp only[aP])
     refine a0l 20 67 aa ?_;(try simp only[aP])
     refine a1N 21 (λK hK=>?_);go_simp;refine hK.out _ _ aj.o (λaa => ?_);clear hK K;refine wpAnyH_done kr ?_ _;(go_wp2_with fail);go_meet
     exact⟨rfl,rfl,HN⟩
   case rest =>
   obtain⟨rfl,rfl,aJ⟩:=hcut;clear HM;(go_wp2_with fail);obtain⟨M,hM,ak⟩:=aJ.o;obtain⟨x,vo,vn,vc,w2,hW,r,s1,s2,ac,al,aw,hN⟩:=a4o ak nb hb ⟨pb,c,na,pa,lv⟩ (by have:=hM nb;have:=ap.o;omega);have HN:Hid (En0 w (w2.setCell ⟨G,nb,none⟩ (.slice vo vn vc)) G K (2*(k+1))):=by
    obtain⟨h1,_,_,v,h4,_⟩:=hN;exact⟨h1,v,_,a6R hM _,h4⟩
   have HW:Hid (∀W,Bl wc W->W.cell? ⟨G,nb,none⟩=some x/\((W.cell? ⟨B,0,none⟩=some (Iv na)/\W.cell? ⟨B,1,none⟩=some (Iv pa)/\W.cell? ⟨B,2,none⟩=some (Iv nb)/\W.cell? ⟨B,3,none⟩=some (Iv pb))/\W.cell? ⟨B,4,none⟩=some (Iv c))):=λW h=>⟨(hW W h).1,ad.o W (hW W h).2⟩
   have ai:Hid _:=ad.o w2 ac;have aj:Hid _:=ad.o _ al;have g0:=(hW wc (b0h _ _)).1;have g1:∀o,(wc.alloc o).cell? ⟨G,nb,none⟩=some x:=λo=>(hW _ ((b0h _ _).alloc (b0g _) o)).1;simp only at r;have ah:Hid _:=r;clear r hN hW ac al aw hM ak aJ ap ae HR ad;clear aC HG aD aB;refine wp_region_held_drew (S:=λW=>(W.cell? ⟨B,0,none⟩=some (Iv na)/\W.cell? ⟨B,1,none⟩=some (Iv pa)/\W.cell? ⟨B,2,none⟩=some (Iv nb)/\W.cell? ⟨B,3,none⟩=some (Iv pb))/\W.cell? ⟨B,4,none⟩=some (Iv c)) kr (HW.o _ (b0i (b0h _ _))).2 (λaa => ?_);refine a0l 0 68 aa ?_;(try simp only[aP])
   refine a0l 1 69 aa ?_;(try simp only[aP])
   refine a0l 2 70 aa ?_;(try simp only[aP])
   refine a0l 3 71 aa ?_;(try simp only[aP])
   refine a0l 4 72 aa ?_;(try simp only[aP])
   refine a0l 5 73 aa ?_;(try simp only[aP])
   refine a0l 6 74 aa ?_;(try simp only[aP])
   refine a0l 8 76 aa ?_;(try simp only[aP])
   refine a0l 9 77 aa ?_;(try simp only[aP])
   refine a0l 10 78 aa ?_;(try simp only[aP])
   refine a0l 11 79 aa ?_;(try simp only[aP])
   refine a0l 12 80 aa ?_;(try simp only[aP])
   refine a0l 13 81 aa ?_;(try simp only[aP])
   refine a0l 14 82 aa ?_;(try simp only[aP])
   refine a0l 15 83 aa ?_;(try simp only[aP])
   refine a0l 16 84 aa ?_;(try simp only[aP])
   refine a0l 17 85 aa ?_;(try simp only[aP])
   refine wpAnyH_ready (rs:=[7,18]) kr (by simp) ?_;refine AllReadyH.cons rfl (λK hK => ?_) (AllReadyH.cons rfl (λK hK => ?_) AllReadyH.nil)
   ·go_simp;refine hK.out _ _ aa (λaa => ?_);clear hK K;(try simp only[aP])
    refine a1N 18 (λK hK=>?_);go_simp;refine hK.out _ _ (HW.o _ ((b0i (b0h _ _)).alloc (b0g _) _)).2 (λaa => ?_);clear hK K;(try simp only[aP])
    refine a1N 19 (λK hK=>?_);refine a0Y (some 87) rfl rfl (.tmp 75) (.tmp 86) 219 rfl _ _ _ rfl rfl ah.o ?_;refine hK.out _ _ ai.o (λaa => ?_);clear hK K;(try simp only[aP])
    refine a0l 20 88 aa ?_;(try simp only[aP])
    refine a1N 21 (λK hK=>?_);go_simp;refine hK.out _ _ aj.o (λaa => ?_);clear hK K;refine wpAnyH_done kr ?_ _;(go_wp2_with fail);exact⟨⟨k+1,om,gn,HN⟩,io⟩
   ·go_simp;refine hK.out _ _ (HW.o _ ((b0i (b0h _ _)).alloc (b0g _) _)).2 (λaa => ?_);clear hK K;(try simp only[aP])
    refine a1N 7 (λK hK=>?_);go_simp;refine hK.out _ _ aa (λaa => ?_);clear hK K;(try simp only[aP])
    refine a1N 19 (λK hK=>?_);refine a0Y (some 87) rfl rfl (.tmp 75) (.tmp 86) 219 rfl _ _ _ rfl rfl ah.o ?_;refine hK.out _ _ ai.o (λaa => ?_);clear hK K;(try simp only[aP])
    refine a0l 20 88 aa ?_;(try simp only[aP])
    refine a1N 21 (λK hK=>?_);go_simp;refine hK.out _ _ aj.o (λaa => ?_);clear hK K;refine wpAnyH_done kr ?_ _;(go_wp2_with fail);exact⟨⟨k+1,om,gn,HN⟩,io⟩
  ·obtain rfl:k=L:=om
   have HX:Hid (En0 w wr G K 1000):=by
    obtain⟨hB,v,M,hM,hE⟩:=hX.o;exact⟨hB,v,M,λi=>by have:=hM i;omega,hE⟩
   clear hX;(go_wp2_with fail);go_loopw [92] (λi wr=>∃j:Nat,j<=K/\i=Iv j/\Hid (En0 w wr G K 1000)) (λi _=>K-(intOf i).toNat)
   case atStart=>exact⟨0,om,rfl,HX⟩
   case round =>
    obtain⟨j,hj,rfl,hY⟩:=hrel;clear HX;by_cases hlt2:j<K
    ·obtain⟨hB,v,M,hM,hE⟩:=hY.o;have eA:(⟨G,j,none⟩:Addr)=⟨G,j*1+0,none⟩:=(by simp)
     have ca:wr.cell? ⟨G,j,none⟩=some (v j):=(by rw[eA];exact a0C hE.blk hlt2 om)
     have aE:Hid (Calls prog 152 #[v j,.func (.func 153) #[] #[]] wr λe w'=>e=.returned (.tuple #[])/\Hid (En0 w w' G K 1000)):=by
      have aF:G<wr.heap.size:=(gSm.1 hE.blk).1;refine(a9p (G+1) (v j) (M j) wr (hM j) (hE.own j hlt2)).mono ?_;rintro e w' ⟨rfl,l',z1,z2,z3⟩;have aO:(v j).ownBlock≠some G:=λq=>by have:=(oCb (hE.own j hlt2) G q).1;omega
      refine⟨rfl,hB.grown z3 (Nat.le_of_lt aF) (λq hq => ?_),v,λi=>if i=j then l' else M i,λi => ?_,(z3.block G aF (λq=>aO q.symm)).trans hE.blk,λi hi => ?_,hE.apart⟩
      ·have:=(oCb (hE.own j hlt2) q hq).1;omega
      ·show(if i=j then l' else M i).length<=1000;by_cases q:i=j
       ·rw[iP q,z1];exact hM j
       ·rw[iN q];exact hM i
      ·by_cases q:i=j
       ·subst q;simp only[if_true];exact z2
       ·simp only[iN q];exact a2L (hE.own i hi) z3 (λp hp r=>hE.apart i j hi hlt2 q p hp r)
     have i0:(0:Int)<=(j:Int):=om
     have i1:(j:Int)<(K:Int):=om
     clear hY hB hE hM eA HR;(go_wp2_with fail);refine aE.o.mono ?_;rintro e w2 ⟨rfl,HN⟩;clear aE;(go_wp2_with fail);exact⟨⟨j+1,om,gn,HN⟩,io⟩
    ·obtain rfl:j=K:=om
     have aT:Hid (Bl w wr):=(ae.o wr hY.o.1).2.2.2;(go_wp2_with fail);go_ret;exact⟨G,rfl,aT.o⟩
