/- PW3 -/
import Derived.Test.YtelebnancdjjiaaGreatDoorE06
import Derived.Laws.EntriesVeiled
set_option maxRecDepth 100000
set_option maxHeartbeats 40000000
namespace Go.Proofs.YtelebnancdjjiaaGreatDoor
section
open Go.Proofs.Tryz Go.RowKit Go.Maps
open Pl(Br Net Pc Lk En)
open Vc(V Of)
open Tk(Md Mnd Cn Sc)
theorem a1s {w:World}{g:Nat}{a0 a1 a2 a3 a4 a5:Value}{ty:TypeId}(h:w.heap[g]?=some (.cells #[a0,a1,a2,a3,a4,a5] ty (0,0))) :
  w.cell? (Pv g 0)=some a0/\w.cell? (Pv g 1)=some a1/\w.cell? (Pv g 2)=some a2/\w.cell? (Pv g 3)=some a3/\w.cell? (Pv g 4)=some a4/\w.cell? (Pv g 5)=some a5 :=
 ⟨a9Y w g 0 _ _ _ h,a9Y w g 1 _ _ _ h,a9Y w g 2 _ _ _ h,a9Y w g 3 _ _ _ h,a9Y w g 4 _ _ _ h,a9Y w g 5 _ _ _ h⟩
def lkA (l:Lk):Array Value:=#[Iv l.a,Iv l.pa,Iv l.b,Iv l.pb,Iv l.cost,.bool l.up]
theorem a4d (K:Nat) (l:Lk) (w:World) (hK:K<=12) :
  Calls prog 142 #[.agg (lkA l),Iv K] w λe w'=>e=.returned (Iv (Pl.lkErr K l))/\Bl w w':=by
 obtain⟨a,pa,b,pb,c,up⟩:=l;simp only[lkA];have HA:Hid (∀W,Calls prog 63 #[Iv a,Iv 0,Iv ((K:Int)-1)] W λe w'=>e=.returned (.bool (decide (0<=a/\a<=(K:Int)-1)))/\w'=W):=λW=>a0G _ _ _ W;have HB:Hid (∀W,Calls prog 63 #[Iv b,Iv 0,Iv ((K:Int)-1)] W λe w'=>e=.returned (.bool (decide (0<=b/\b<=(K:Int)-1)))/\w'=W):=λW=>a0G _ _ _ W;have HP:Hid (∀W,Calls prog 63 #[Iv pa,Iv 1,Iv 30] W λe w'=>e=.returned (.bool (decide (1<=pa/\pa<=30)))/\w'=W):=λW=>a0G _ _ _ W;have HQ:Hid (∀W,Calls prog 63 #[Iv pb,Iv 1,Iv 30] W λe w'=>e=.returned (.bool (decide (1<=pb/\pb<=30)))/\w'=W):=λW=>a0G _ _ _ W;have HC:Hid (∀W,Calls prog 63 #[Iv c,Iv 1,Iv 200000] W λe w'=>e=.returned (.bool (decide (1<=c/\c<=200000)))/\w'=W):=λW=>a0G _ _ _ W;have wk:IntKind.i64.wrap ((K:Int)-1)=(K:Int)-1:=(by rw[IntKind.wrap_i64];omega)
 obtain⟨c0,c1,c2,c3,c4,c5⟩:=a1s (a9Z w (.cells #[Iv a,Iv pa,Iv b,Iv pb,Iv c,.bool up] 103));have HE:Hid (Pl.lkErr K ⟨a,pa,b,pb,c,up⟩=if ¬(0<=a/\a<=(K:Int)-1)\/¬(0<=b/\b<=(K:Int)-1) then 6 else if a=b then 8 else if ¬(1<=pa/\pa<=30)\/¬(1<=pb/\pb<=30)\/¬(1<=c/\c<=200000) then 3 else 0):=rfl;rw[HE.o];clear HE;by_cases h1:0<=a/\a<=(K:Int)-1
 ·rw[b0k h1] at HA;by_cases h2:0<=b/\b<=(K:Int)-1
  ·rw[b0k h2] at HB;rw[iN (by simp only[not_or,Classical.not_not];exact⟨h1,h2⟩)];by_cases h3:a=b
   ·rw[iP h3];have d3:(a == b)=true:=(by simp[h3])
    clear h1 h2 h3;go_enter func142,ntmps142;go_wp2_with (go_at_call 63;first | ((with_reducible refine(HA.o _).mono ?_);rintro e w1 ⟨rfl,rfl⟩) | ((with_reducible refine(HB.o _).mono ?_);rintro e w1 ⟨rfl,rfl⟩))
    go_ret;exact⟨rfl,bA1 _ _⟩
   ·rw[iN h3];have d3:(a == b)=false:=(by simp[h3])
    by_cases h4:1<=pa/\pa<=30
    ·rw[b0k h4] at HP;by_cases h5:1<=pb/\pb<=30
     ·rw[b0k h5] at HQ;by_cases h6:1<=c/\c<=200000
      ·rw[b0k h6] at HC;rw[iN (by simp only[not_or,Classical.not_not];exact⟨h4,h5,h6⟩)];clear h1 h2 h3 h4 h5 h6;go_enter func142,ntmps142;go_wp2_with (go_at_call 63;first | ((with_reducible refine(HA.o _).mono ?_);rintro e w1 ⟨rfl,rfl⟩) | ((with_reducible refine(HB.o _).mono ?_);rintro e w1 ⟨rfl,rfl⟩) | ((with_reducible refine(HP.o _).mono ?_);rintro e w1 ⟨rfl,rfl⟩) | ((with_reducible refine(HQ.o _).mono ?_);rintro e w1 ⟨rfl,rfl⟩) | ((with_reducible refine(HC.o _).mono ?_);rintro e w1 ⟨rfl,rfl⟩))
       go_ret;exact⟨rfl,bA1 _ _⟩
      ·rw[b0j h6] at HC;rw[iP (Or.inr (Or.inr h6))];clear h1 h2 h3 h4 h5 h6;go_enter func142,ntmps142;go_wp2_with (go_at_call 63;first | ((with_reducible refine(HA.o _).mono ?_);rintro e w1 ⟨rfl,rfl⟩) | ((with_reducible refine(HB.o _).mono ?_);rintro e w1 ⟨rfl,rfl⟩) | ((with_reducible refine(HP.o _).mono ?_);rintro e w1 ⟨rfl,rfl⟩) | ((with_reducible refine(HQ.o _).mono ?_);rintro e w1 ⟨rfl,rfl⟩) | ((with_reducible refine(HC.o _).mono ?_);rintro e w1 ⟨rfl,rfl⟩))
       go_ret;exact⟨rfl,bA1 _ _⟩
     ·rw[b0j h5] at HQ;rw[iP (Or.inr (Or.inl h5))];clear h1 h2 h3 h4 h5;go_enter func142,ntmps142;go_wp2_with (go_at_call 63;first | ((with_reducible refine(HA.o _).mono ?_);rintro e w1 ⟨rfl,rfl⟩) | ((with_reducible refine(HB.o _).mono ?_);rintro e w1 ⟨rfl,rfl⟩) | ((with_reducible refine(HP.o _).mono ?_);rintro e w1 ⟨rfl,rfl⟩) | ((with_reducible refine(HQ.o _).mono ?_);rintro e w1 ⟨rfl,rfl⟩))
      go_ret;exact⟨rfl,bA1 _ _⟩
    ·rw[b0j h4] at HP;rw[iP (Or.inl h4)];clear h1 h2 h3 h4;go_enter func142,ntmps142;go_wp2_with (go_at_call 63;first | ((with_reducible refine(HA.o _).mono ?_);rintro e w1 ⟨rfl,rfl⟩) | ((with_reducible refine(HB.o _).mono ?_);rintro e w1 ⟨rfl,rfl⟩) | ((with_reducible refine(HP.o _).mono ?_);rintro e w1 ⟨rfl,rfl⟩))
     go_ret;exact⟨rfl,bA1 _ _⟩
  ·rw[b0j h2] at HB;rw[iP (Or.inr h2)];clear h1 h2;go_enter func142,ntmps142;go_wp2_with (go_at_call 63;first | ((with_reducible refine(HA.o _).mono ?_);rintro e w1 ⟨rfl,rfl⟩) | ((with_reducible refine(HB.o _).mono ?_);rintro e w1 ⟨rfl,rfl⟩))
   go_ret;exact⟨rfl,bA1 _ _⟩
 ·rw[b0j h1] at HA;rw[iP (Or.inl h1)];clear h1;go_enter func142,ntmps142;go_wp2_with (go_at_call 63;refine(HA.o _).mono ?_;rintro e w1 ⟨rfl,rfl⟩)
  go_ret;exact⟨rfl,bA1 _ _⟩
theorem core_any (b off n cap:Nat) (f:Nat->Int) (w:World) (hn:n<=9223372036854775807) (ab:n<=cap) (hf:∀i,i<n->w.cell? (Pv b (off+i))=some (Iv (f i))) :
  Calls prog 81 #[.slice (some (Pv b off)) n cap] w λe w'=>e=.returned (Iv (orTo f n))/\w'=w:=by
 have HF:Hid (∀i,i<n->w.cell? (Pv b (off+i))=some (Iv (f i))):=hf;clear hf;go_enter func81,ntmps81;(go_wp2_with fail);go_loopw [8] (λi wr=>∃k:Nat,k<=n/\i=Iv k/\Hid (orTo f k=0)/\wr=w) (λi _=>n-(intOf i).toNat)
 case atStart=>exact⟨0,om,rfl,rfl,rfl⟩
 case round =>
  obtain⟨k,hk,rfl,hS,rfl⟩:=hrel;by_cases hlt:k<n
  ·have c0:=HF.o k hlt;by_cases h0:f k=0
   ·have d0:(f k != 0)=false:=(by simp[h0])
    have aa:Hid (orTo f (k+1)=0):=by show(if orTo f k=0 then f k else orTo f k)=0;rw[iP hS.o,h0]
    clear HF hS;(go_wp2_with fail);exact⟨⟨k+1,om,gn,aa,trivial⟩,io⟩
   ·have d0:(f k != 0)=true:=(by simp[h0])
    have aa:Hid (orTo f n=f k):=a2Y f k hS.o h0 n hlt;clear HF hS h0;(go_wp2_with fail);go_ret;exact⟨by rw[aa.o];rfl,rfl⟩
  ·obtain rfl:k=n:=om
   clear HF;(go_wp2_with fail);go_ret;exact⟨by rw[hS.o];rfl,rfl⟩
theorem core2 (x y:Int) (g:Nat) (ty:TypeId) (w:World) (h:w.heap[g]?=some (.cells #[Iv x,Iv y] ty (0,0))) :
  Calls prog 81 #[.slice (some (Pv g 0)) 2 2] w λe w'=>e=.returned (Iv (if x=0 then y else x))/\w'=w:=by
 obtain⟨c0,c1⟩:=tC2 h;have:=core_any g 0 2 2 (λi=>if i=0 then x else y) w om om (λi hi=>by
  rcases(by omega:i=0\/i=1) with e | e<;>subst e
  ·exact c0
  ·exact c1)
 have e:orTo (λi=>if i=0 then x else y) 2=if x=0 then y else x:=by
  have e1:orTo (λi=>if i=0 then x else y) 1=x:=(by simp[orTo])
  show(if orTo (λi=>if i=0 then x else y) 1=0 then y else orTo (λi=>if i=0 then x else y) 1)=_;rw[e1]
 rw[e] at this;exact this
theorem a4n (ls:Nat->Lk) (lv:Nat->Bool) (i:Nat):∀k,(Pl.endsTo ls lv i k).length<=2*k
 | 0=>by simp[Pl.endsTo]
 | k+1=>by
  have:=a4n ls lv i k;simp only[Pl.endsTo,List.length_append,Pl.endsAt];split<;>split<;>simp<;>omega
def MidW (w1 W:World) (G K B:Nat) (l:Lk) (L:Nat->List En):Prop :=
 Below G w1 W/\W.heap[B]?=some (.cells (lkA l) 103)/\B≠G/\∃v,EnAt W G K v L/\∀i,i<K->(v i).ownBlock≠some B
theorem EnAt.congr {w:World}{G K:Nat}{v:Nat->Value}{L M:Nat->List En}(h:EnAt w G K v L) (e:∀i,i<K->L i=M i):EnAt w G K v M :=
 ⟨h.blk,λi hi=>by rw[<-e i hi];exact h.own i hi,h.apart⟩
theorem MidW.below {w1 Z W:World}{G K B:Nat}{l:Lk}{L:Nat->List En}(h:MidW w1 Z G K B l L) (hb:Bl Z W):MidW w1 W G K B l L:=by
 obtain⟨h1,h2,h3,v,h4,h5⟩:=h;have hG:G<Z.heap.size:=(gSm.1 h4.blk).1;exact⟨h1.trans (hb.mono (Nat.le_of_lt hG)),keep h2 hb,h3,v,h4.below hb,h5⟩
theorem a4o {w1 Z:World}{G K B:Nat}{l:Lk}{L:Nat->List En}(h:MidW w1 Z G K B l L) (i:Nat) (hi:i<K) (e:En) (ab:(L i).length<=1000) :
  ∃(x:Value) (vo:OA) (vn vc:Nat) (w2:World),(∀W,Bl Z W->W.cell? ⟨G,i,none⟩=some x/\W.heap[B]?=some (.cells (lkA l) 103)) /\
   (Builtin.append_ #[219,219] 219 #[x,.slice (some ⟨Z.heap.size,0,none⟩) 1 1]).run prog (Z.drew.alloc (.cells #[Iv e.port,Iv e.cost,Iv e.other,Iv e.oport,.bool e.live] 221))=.ok (.slice vo vn vc) w2 /\
   w2.cell? ⟨G,i,none⟩=some x/\w2.frozen? ⟨G,i,none⟩=false/\w2.heap[B]?=some (.cells (lkA l) 103)/\(w2.setCell ⟨G,i,none⟩ (.slice vo vn vc)).heap[B]?=some (.cells (lkA l) 103)/\((w2.setCell ⟨G,i,none⟩ (.slice vo vn vc)).cell? ⟨G,i,none⟩).isSome=true /\
   MidW w1 (w2.setCell ⟨G,i,none⟩ (.slice vo vn vc)) G K B l (λj=>L j++if j=i then [e] else []):=by
 obtain⟨hB,hb,ac,v,hE,aa⟩:=h;obtain⟨v',w2,r1,r2,r3,r4,r5,r6,r7,r8⟩:=a8D hE i hi e ab;have af:B<Z.heap.size:=(gSm.1 hb).1;have ad:w2.heap[B]?=some (.cells (lkA l) 103):=(r7 B af (aa i hi)).trans hb;have ae:(w2.setCell ⟨G,i,none⟩ v').heap[B]?=some (.cells (lkA l) 103):=(b0f _ _ _ _ (by exact ac)).trans ad;have eC:(⟨G,i,none⟩:Addr)=⟨G,i*1+0,none⟩:=(by simp)
 have ag:∃vo vn vc,v'=.slice vo vn vc:=by
  have:=r4.own i hi;simp only[if_true] at this;obtain⟨ao,cap,e1,_⟩:=a0W om this;exact⟨ao,_,cap,e1⟩
 obtain⟨vo,vn,vc,rfl⟩:=ag;refine⟨v i,vo,vn,vc,w2,λW hW=>⟨by rw[eC];exact a0C (keep hE.blk hW) hi om,keep hb hW⟩,r1,r2,r3,ad,ae,?_,hB.trans r5,ae,ac,_,r4.congr (λj hj => ?_),λj hj => ?_⟩
 ·rw[eC,show(⟨G,i*1+0,none⟩:Addr)=⟨G,i*1+0,none⟩ from rfl,<-eC];have:=a0C r4.blk hi (show 0<1 by omega);unfold Pv at this;rw[<-eC] at this;rw[this];rfl
 ·by_cases q:j=i
  ·rw[iP q,iP q,q]
  ·rw[iN q,iN q,List.append_nil]
 ·by_cases q:j=i
  ·simp only[iP q];rcases r6 with r6 | r6
   ·rw[r6];exact aa i hi
   ·rw[r6];intro p;injection p with p;omega
  ·simp only[iN q];exact aa j hj
def AmongAt (w:World) (K:Nat) (bs:Nat->Br) (B1 B2:Nat):Prop :=
 ∃IB vI,IdsAt w IB K bs vI K/\w.heap[B1]?=some (.cells #[.slice (some ⟨IB,0,none⟩) K K] 137)/\w.heap[B2]?=some (.cells #[.func (.func 149) #[] #[.pointer (some ⟨B1,0,none⟩)]] 187)
theorem AmongAt.below {w w':World}{K:Nat}{bs:Nat->Br}{B1 B2:Nat}(h:AmongAt w K bs B1 B2) (hb:Bl w w'):AmongAt w' K bs B1 B2:=by
 obtain⟨IB,vI,h1,h2,h3⟩:=h;exact⟨IB,vI,h1.below hb,keep h2 hb,keep h3 hb⟩
theorem pisb_any (i:Int) (B1 IB K:Nat) (w:World) (hK:K<=12) (h:w.cell? ⟨B1,0,none⟩=some (.slice (some ⟨IB,0,none⟩) K K)) :
  Calls prog 149 #[Iv i,.pointer (some ⟨B1,0,none⟩)] w λe w'=>e=.returned (.bool (decide (0<=i/\i<=(K:Int)-1)))/\w'=w:=by
 have HW:Hid (∀W,Calls prog 63 #[Iv i,Iv 0,Iv ((K:Int)-1)] W λe w'=>e=.returned (.bool (decide (0<=i/\i<=(K:Int)-1)))/\w'=W):=λW=>a0G _ _ _ W;have wk:IntKind.i64.wrap ((K:Int)-1)=(K:Int)-1:=(by rw[IntKind.wrap_i64];omega)
 generalize decide (0<=i/\i<=(K:Int)-1)=b at *;go_enter func149,ntmps149;go_wp2_with (go_at_call 63;refine(HW.o _).mono ?_;rintro e w1 ⟨rfl,rfl⟩)
 go_ret;exact⟨rfl,rfl⟩
theorem a7v (bao:OA) (K bcap:Nat) (bs:Nat->Br) (w:World) (hK:K<=12) (ab:BRow w bao K bcap bs) (aa:∀i,i<K->(bs i).at' w) (hf:∀i,i<K->(bs i).Fine) (ht:Tabs w) (ac:2<=w.heap.size) :
  Calls prog 102 #[.slice bao K bcap] w λe w'=>∃B1 B2,e=.returned (.func (.func 150) #[] #[.pointer (some ⟨B1,0,none⟩),.pointer (some ⟨B2,0,none⟩)])/\AmongAt w' K bs B1 B2/\Bl w w':=by
 have ad:Hid (Calls prog 148 #[.slice bao K bcap] w λe w'=>∃v,e=.returned (.slice (some ⟨w.heap.size,0,none⟩) K K)/\IdsAt w' w.heap.size K bs v K/\Bl w w'):=a5U bao K bcap bs w hK ab aa hf ht ac;clear ab aa hf ht ac;go_enter func102,ntmps102;(go_wp2_with fail);refine ad.o.mono ?_;rintro e w1 ⟨v,rfl,hI,hb⟩;obtain⟨IB,ae⟩:=nm w.heap.size
 rw[<-ae.o] at hI ⊢;have HI:Hid (IdsAt w1 IB K bs v K):=hI;have HB:Hid (Bl w w1):=hb;clear hI hb ad;(go_wp2_with fail);go_ret;refine⟨w1.heap.size,w1.heap.size+1,rfl,⟨IB,v,HI.o.below (bA2 _ _ _),?_,?_⟩,HB.o.trans ((bA2 _ _ _).mono HB.o.size)⟩
 ·exact b0d w1 _ _
 ·exact b0c w1 _ _
theorem a1j {w:World}{q e e':Nat}{c c':Array Value}(h:w.heap[q]?=some (.cells c e (0,0))) (h':w.heap[q]?=some (.cells c' e' (0,0))):e=e':=by
 rw[h] at h';injection h' with h';injection h' with _ h3
def wyC (v t:Int) (x:Nat):Value:=if x=0 then Iv v else Iv t
theorem wyC_one (v t:Int) (x:Nat):(wyC v t x).oneCell'=true:=by
 unfold wyC;split<;>rfl
theorem way_crow {w:World}{ao:OA}{n cap:Nat}{vs ts:Nat->Int}(h:WayRow w ao n cap vs ts):CRow w ao n cap 2 (λj=>wyC (vs j) (ts j)):=by
 refine⟨h.1,λhp => ?_⟩;obtain⟨b,off,e,hb,hc⟩:=h.2 hp;refine⟨b,off,e,hb,λj hj x hx => ?_⟩;rcases(by omega:x=0\/x=1) with q | q
 ·subst q;exact(hc j hj).1
 ·subst q;exact(hc j hj).2
theorem a2N {w:World}{base e k n:Nat}{v:Value}{xs:List Value}(h:w.ownsRow base e k v n xs):∃a c,v=.slice a n c:=by
 obtain⟨_,h2⟩:=h;rcases h2 with⟨rfl,rfl⟩ | ⟨g,cap,aa,rfl,_⟩
 ·exact⟨_,_,rfl⟩
 ·exact⟨_,_,rfl⟩
theorem a0x {w:World}{g:Nat}{a0:Value}{ty:TypeId}(h:w.heap[g]?=some (.cells #[a0] ty (0,0))):w.cell? (Pv g 0)=some a0:=a9Y w g 0 _ _ _ h
theorem a8J (m:Md) {p r c:Value}(hp:p.oneCell'=true) (hr:r.oneCell'=true) (hc:c.oneCell'=true) (x:Nat):(mdC m p r c x).oneCell'=true:=by
 unfold mdC;repeat' split
 all_goals first | rfl | exact vC_one _ _ | assumption
theorem vids_few {vs ts:Nat->Int}{m:Nat}(h:Rg.Right vs ts m):m<=4094:=by
 have k:∀i,i<m->(i:Int)+1<=vs i:=λi=>by
  induction i with
  | zero=>intro hi;have:=(h.vid 0 hi).1;omega
  | succ i ih =>
   intro hi;have h1:=ih om;have h2:=h.less i (i+1) om hi;omega
 by_cases q:m=0
 ·omega
 ·have h1:=k (m-1) om;have h2:=(h.vid (m-1) om).2;omega
theorem RlAt.owns {W:World}{g n:Nat}{f:Nat->Int}(h:RlAt W g n f) (hn:n<=100000):W.ownsRow g 3 1 (.slice (some (Pv g 0)) n n) n (a0f n 1 (λj _=>Iv (f j))):=by
 refine⟨a0p _ _ _,Or.inr ⟨g,n,_,rfl,b0g _,h,b0g _,by unfold maxLen;omega,by rw[a1l],?_⟩⟩;unfold rowC;simp only;rw[List.take_of_length_le (by rw[a0p];exact b0g _)]
def a0r (ls:Nat->Lk) (j:Nat):Int×Int:=if j%2=0 then((ls (j/2)).a,(ls (j/2)).pa) else((ls (j/2)).b,(ls (j/2)).pb)
theorem a1w (ls:Nat->Lk) (k:Nat):a0r ls (2*k)=((ls k).a,(ls k).pa):=by
 unfold a0r;rw[iP om,show 2*k/2=k by omega]
theorem a1R (ls:Nat->Lk) (k:Nat):a0r ls (2*k+1)=((ls k).b,(ls k).pb):=by
 unfold a0r;rw[iN om,show(2*k+1)/2=k by omega]
def lSay (K:Nat) (l:Lk) (c d:Int):Int:=if Pl.lkErr K l≠0 then Pl.lkErr K l else if 0<c then 7 else if 0<d then 7 else 0
theorem a4J (K:Nat) (hK:K<=12) (l:Lk) (N Q P B m:Nat) (f:Nat->Int×Int) (w:World) (hN:w.cell? (Pv N 0)=some (.int .i64 K)) (hQ:w.cell? (Pv Q 0)=some (.func (.func 185) #[] #[.pointer (some (Pv P 0))])) (hP:w.cell? (Pv P 0)=some (.map (some B))) (af:P≠B) (au:Q≠B) (hc:PCnt w B f m) (hm:m<=900) (hf:f m=(l.a,l.pa)) (ai:f (m+1)=(l.b,l.pb))
  (wa:(Lit.int .i64 l.a).wf=true) (wpa:(Lit.int .i64 l.pa).wf=true) (wb:(Lit.int .i64 l.b).wf=true) (wpb:(Lit.int .i64 l.pb).wf=true) :
  Calls prog 141 #[.agg (lkA l),.pointer (some (Pv N 0)),.pointer (some (Pv Q 0))] w λe w'=>e=.returned (.int .i64 (lSay K l (cntI f (l.a,l.pa) m) (cntI f (l.b,l.pb) (m+1))))/\(Pl.lkErr K l=0->PCnt w' B f (m+2))/\w.grownBy w' (some B):=by
 obtain⟨X,HX⟩:=nm (w.alloc (.cells (lkA l) 103))
 have ac:Bl w X:=(by rw[HX.o];exact bA1 _ _)
 have ag:X.heap[w.heap.size]?=some (.cells (lkA l) 103):=(by rw[HX.o];exact a9Z _ _)
 have ao:=hc.lt;have ak:=b0r hQ;have ah:=b0r hP;have ap:=b0r hN;simp only at ak ah ap;have HL:Hid (∀W,X.grownBy W (some B)->(W.cell? (Pv w.heap.size 0)=some (.int .i64 l.a)/\W.cell? (Pv w.heap.size 1)=some (.int .i64 l.pa)/\W.cell? (Pv w.heap.size 2)=some (.int .i64 l.b)/\W.cell? (Pv w.heap.size 3)=some (.int .i64 l.pb))/\W.cell? (Pv Q 0)=some (.func (.func 185) #[] #[.pointer (some (Pv P 0))])):=by
  intro W hW;obtain⟨x0,x1,x2,x3,_⟩:=a1s (a1v ag hW om);exact⟨⟨x0,x1,x2,x3⟩,a0V ((ac.cell (by exact ak)).trans hQ) hW au⟩
 have an:Hid (∀W,X.grownBy W (some B)->w.grownBy W (some B)):=λW hW=>(a1i ac).trans hW;have HC:Hid (Calls prog 142 #[.agg (lkA l),.int .i64 K] X λe w'=>e=.returned (.int .i64 (Pl.lkErr K l))/\Hid (X.grownBy w' (some B)/\PCnt w' B f m)):=by
  refine(a4d K l X hK).mono ?_;rintro e w' ⟨rfl,h2⟩;exact⟨rfl,a1i h2,(hc.same (ac.block B ao)).same (h2.block B (b0q ao ac.size))⟩
 have av:Hid (∀W,Hid (X.grownBy W (some B)/\PCnt W B f m)->Calls prog 185 #[.agg #[.int .i64 l.a,.int .i64 l.pa],.pointer (some (Pv P 0))] W λe w'=>e=.returned (.int .i64 (if 0<cntI f (l.a,l.pa) m then 7 else 0))/\Hid (X.grownBy w' (some B)/\PCnt w' B f (m+1))):=by
  intro W hW;refine(a5m P B m f (l.a,l.pa) W (a0V ((ac.cell (by exact ah)).trans hP) hW.o.1 af) af hW.o.2 om hf wa wpa).mono ?_;rintro e w' ⟨rfl,k1,k2⟩;exact⟨rfl,hW.o.1.trans k2,k1⟩
 have aq:Hid (∀W,Hid (X.grownBy W (some B)/\PCnt W B f (m+1))->Calls prog 185 #[.agg #[.int .i64 l.b,.int .i64 l.pb],.pointer (some (Pv P 0))] W λe w'=>e=.returned (.int .i64 (if 0<cntI f (l.b,l.pb) (m+1) then 7 else 0))/\Hid (X.grownBy w' (some B)/\PCnt w' B f (m+2))):=by
  intro W hW;refine(a5m P B (m+1) f (l.b,l.pb) W (a0V ((ac.cell (by exact ah)).trans hP) hW.o.1 af) af hW.o.2 om ai wb wpb).mono ?_;rintro e w' ⟨rfl,k1,k2⟩;exact⟨rfl,hW.o.1.trans k2,k1⟩
 obtain⟨q0,q1,q2,q3,q4,q5⟩:=a1s ag;have n0:X.cell? (Pv N 0)=some (.int .i64 K):=(ac.cell (by exact ap)).trans hN;have ab:Hid (∀W (o:Obj),Hid (X.grownBy W (some B)/\PCnt W B f (m+2))->PCnt (W.alloc o) B f (m+2)/\w.grownBy (W.alloc o) (some B)):=λW o hW=>by
  have h1:=hW.o.2.lt;exact⟨hW.o.2.same ((bA1 W o).block B h1),(an.o W hW.o.1).trans (a1i (bA1 W o))⟩
 have aj:Hid (∀W,Hid (X.grownBy W (some B)/\PCnt W B f m)->Hid (X.grownBy W.drew (some B)/\PCnt W.drew B f m)):=λW hW=>⟨⟨hW.o.1.os,hW.o.1.tape,hW.o.1.output,hW.o.1.size,hW.o.1.block⟩,hW.o.2⟩
 have ad:Hid (Pl.lkErr K l=0->lSay K l (cntI f (l.a,l.pa) m) (cntI f (l.b,l.pb) (m+1))=if (if 0<cntI f (l.a,l.pa) m then(7:Int) else 0)=0 then(if 0<cntI f (l.b,l.pb) (m+1) then 7 else 0) else(if 0<cntI f (l.a,l.pa) m then 7 else 0)):=λh=>by
  unfold lSay;rw[iN (λq=>q h)];by_cases c:0<cntI f (l.a,l.pa) m
  ·rw[iP c,iP c];rfl
  ·rw[iN c,iN c];rfl
 have aa:Hid (Pl.lkErr K l≠0->lSay K l (cntI f (l.a,l.pa) m) (cntI f (l.b,l.pb) (m+1))=Pl.lkErr K l):=λh=>iP h;generalize lSay K l (cntI f (l.a,l.pa) m) (cntI f (l.b,l.pb) (m+1))=S at *;generalize (if 0<cntI f (l.a,l.pa) m then(7:Int) else 0)=R1 at *;generalize (if 0<cntI f (l.b,l.pb) (m+1) then(7:Int) else 0)=R2 at *;generalize Pl.lkErr K l=E at *;clear hQ hP hc hf ai ag ac hN wa wpa wb wpb;obtain⟨a,pa,b,pb,c,up⟩:=l;simp only[lkA] at *;rw[HX.o] at n0;by_cases e0:E=0
 ·subst e0;have HS:Hid (S=if R1=0 then R2 else R1):=ad.o (by first | exact rfl | trivial);have aw:Hid (∀(g:Nat) (ty:TypeId) (W:World),W.heap[g]?=some (.cells #[.int .i64 R1,.int .i64 R2] ty (0,0))->Calls prog 81 #[.slice (some (Pv g 0)) 2 2] W λe w'=>e=.returned (.int .i64 S)/\w'=W):=λg ty W h=>by rw[HS.o];exact core2 R1 R2 g ty W h
  clear ad aa HS;go_enter func141,ntmps141;(go_wp2_with fail);rw[<-HX.o];refine HC.o.mono ?_;rintro e w1 ⟨rfl,hA⟩;obtain⟨⟨x0,x1,x2,x3⟩,x4⟩:=HL.o w1 hA.o.1;have am:Hid _:=aj.o w1 hA;have ar:Hid (X.grownBy w1.drew (some B)):=am.o.1;clear q0 q1 q2 q3 q4 q5 n0 hA aj HC;(go_wp2_with fail);go_region_held3 (λW=>(W.cell? (Pv w.heap.size 0)=some (.int .i64 a)/\W.cell? (Pv w.heap.size 1)=some (.int .i64 pa)/\W.cell? (Pv w.heap.size 2)=some (.int .i64 b)/\W.cell? (Pv w.heap.size 3)=some (.int .i64 pb))/\W.cell? (Pv Q 0)=some (.func (.func 185) #[] #[.pointer (some (Pv P 0))]))
   (first | (exact HL.o _ ar.o) | (exact HL.o _ al.o.1) | (exact HL.o _ ae.o.1) | (exact HL.o _ (ae.o.1.trans (a1i (bA1 _ _)))))
   (first | (go_at_call 185;first | ((with_reducible refine(av.o _ am).mono ?_);rintro e wa ⟨rfl,al⟩) | ((with_reducible refine(aq.o _ al).mono ?_);rintro e wb ⟨rfl,ae⟩)) | (go_at_call 81;refine(aw.o _ _ _ (a9Z _ _)).mono ?_;rintro e wc ⟨rfl,rfl⟩))
  (all_goals go_wp2_with fail);(all_goals go_ret);all_goals first | exact⟨rfl,λ_=>(ab.o _ _ ae).1,(ab.o _ _ ae).2⟩ | exact⟨rfl,(ab.o _ _ ae).1,(ab.o _ _ ae).2⟩
 ·have e1:(E == 0)=false:=(by simp[e0])
  have HS:Hid (S=E):=aa.o e0;clear ad aa;go_enter func141,ntmps141;(go_wp2_with fail);rw[<-HX.o];refine HC.o.mono ?_;rintro e w1 ⟨rfl,hA⟩;(go_wp2_with fail);go_ret;exact⟨by rw[HS.o];rfl,λh=>absurd h e0,an.o _ hA.o.1⟩
theorem a2j (ls:Nat->Lk) (x p:Int) (k:Nat):Vc.someTo (λj=>decide (a0r ls j=(x,p))) (2*k)=true↔∃i,i<k/\Pl.isEnd (ls i) x p=true:=by
 rw[Pl.someTo_iff];constructor
 ·rintro⟨j,hj,h⟩;have h:=b0o h;refine⟨j/2,om,?_⟩;unfold a0r at h;unfold Pl.isEnd;by_cases e:j%2=0
  ·rw[iP e] at h;injection h with h1 h2;simp[h1,h2]
  ·rw[iN e] at h;injection h with h1 h2;simp[h1,h2]
 ·rintro⟨i,hi,h⟩;unfold Pl.isEnd at h;simp only[Bool.or_eq_true,decide_eq_true_eq] at h;rcases h with⟨h1,h2⟩ | ⟨h1,h2⟩
  ·exact⟨2*i,om,b0k (by rw[a1w,h1,h2])⟩
  ·exact⟨2*i+1,om,b0k (by rw[a1R,h1,h2])⟩
theorem lSay_err (K:Nat) (ls:Nat->Lk) (k:Nat):lSay K (ls k) (cntI (a0r ls) ((ls k).a,(ls k).pa) (2*k)) (cntI (a0r ls) ((ls k).b,(ls k).pb) (2*k+1))=Pl.lErr K ls k:=by
 unfold lSay Pl.lErr;by_cases h:Pl.lkErr K (ls k)=0
 ·have hn:¬Pl.lkErr K (ls k)≠0:=λq=>q h;rw[iN hn,iN hn];have aa:=(Pl.lkErr_ok h).2.2.1;have c1:=(a3B (a0r ls) ((ls k).a,(ls k).pa) (2*k)).trans (a2j ls _ _ k);have c2:0<cntI (a0r ls) ((ls k).b,(ls k).pb) (2*k+1)↔∃i,i<k/\Pl.isEnd (ls i) (ls k).b (ls k).pb=true:=by
   have e:cntI (a0r ls) ((ls k).b,(ls k).pb) (2*k+1)=cntI (a0r ls) ((ls k).b,(ls k).pb) (2*k):=by
    show _+(if a0r ls (2*k)=_ then(1:Int) else 0)=_;rw[iN (by rw[a1w];intro q;injection q with q1 _;exact aa q1),Int.add_zero]
   rw[e];exact(a3B (a0r ls) ((ls k).b,(ls k).pb) (2*k)).trans (a2j ls _ _ k)
  have c3:Vc.someTo (λj=>Pl.isEnd (ls j) (ls k).a (ls k).pa||Pl.isEnd (ls j) (ls k).b (ls k).pb) k=true↔(0<cntI (a0r ls) ((ls k).a,(ls k).pa) (2*k)\/0<cntI (a0r ls) ((ls k).b,(ls k).pb) (2*k+1)):=by
   rw[Pl.someTo_iff,c1,c2];constructor
   ·rintro⟨i,hi,q⟩;simp only[Bool.or_eq_true] at q;rcases q with q | q
    ·exact Or.inl ⟨i,hi,q⟩
    ·exact Or.inr ⟨i,hi,q⟩
   ·rintro(⟨i,hi,q⟩ | ⟨i,hi,q⟩)
    ·exact⟨i,hi,by simp[q]⟩
    ·exact⟨i,hi,by simp[q]⟩
  by_cases q1:0<cntI (a0r ls) ((ls k).a,(ls k).pa) (2*k)
  ·rw[iP q1,iP (c3.2 (Or.inl q1))]
  ·rw[iN q1];by_cases q2:0<cntI (a0r ls) ((ls k).b,(ls k).pb) (2*k+1)
   ·rw[iP q2,iP (c3.2 (Or.inr q2))]
   ·rw[iN q2,iN (λq=>by rcases c3.1 q with q | q;exact q1 q;exact q2 q)]
 ·rw[iP h,iP h]
theorem a8K {K:Nat}{ls:Nat->Lk}{k:Nat}(h:Pl.lErr K ls k=0):Pl.lkErr K (ls k)=0:=(Pl.lErr_ok h).1
theorem a5Z (ao:OA) (n cap:Nat) (ls:Nat->Lk) (K:Nat) (hK:K<=12) (N Q P B:Nat) (W0 w:World) (hn:n<=40) (hr:LRow W0 ao n cap ls) (ai:∀i,i<n->(Lit.int .i64 (ls i).a).wf=true/\(Lit.int .i64 (ls i).pa).wf=true/\(Lit.int .i64 (ls i).b).wf=true/\(Lit.int .i64 (ls i).pb).wf=true)
  (hN:w.cell? (Pv N 0)=some (.int .i64 K)) (ar:N≠B)
  (hQ:w.cell? (Pv Q 0)=some (.func (.func 185) #[] #[.pointer (some (Pv P 0))])) (hP:w.cell? (Pv P 0)=some (.map (some B))) (am:P≠B) (ak:Q≠B) (hc:PCnt w B (a0r ls) 0)
  (hM:W0.heap.size<=B) (ac:Bl W0 w) :
  Calls prog 140 #[.slice ao n cap,.func (.func 141) #[] #[.pointer (some (Pv N 0)),.pointer (some (Pv Q 0))]] w λe w'=>e=.returned (.agg (ftA (Pl.firstTo (Pl.lErr K ls) n)))/\Bl W0 w':=by
 have ae:Hid (∀W,Bl W0 W->LRow W ao n cap ls):=λW hW=>CRow.other hr (λq _ _ hq=>hW.block q hq) hW.size;have an:Hid (∀i,i<n->(Lit.int .i64 (ls i).a).wf=true/\(Lit.int .i64 (ls i).pa).wf=true/\(Lit.int .i64 (ls i).b).wf=true/\(Lit.int .i64 (ls i).pb).wf=true):=ai;have ap:=hr.1;have al:=hc.lt;obtain⟨G,HG⟩:=nm w.heap.size
 have aq:G≠B:=(by rw[HG.o];omega)
 have ab:W0.heap.size<=G:=(by rw[HG.o];exact ac.size)
 have HI:Hid (∀W,W=w.alloc (.cells #[.int .i64 0,.int .i64 0] 37)->Bl W0 W/\PCnt W B (a0r ls) 0/\W.heap[G]?=some (.cells #[.int .i64 0,.int .i64 0] 37)/\W.cell? (Pv Q 0)=some (.func (.func 185) #[] #[.pointer (some (Pv P 0))])/\W.cell? (Pv P 0)=some (.map (some B))/\W.cell? (Pv N 0)=some (.int .i64 K)):=by
  intro W hW;have h1:Bl w W:=(by rw[hW];exact bA1 _ _)
  have av:=b0r hQ;have au:=b0r hP;have ax:=b0r hN;exact⟨ac.trans (h1.mono ac.size),hc.same (h1.block B al),by rw[hW,HG.o];exact a9Z _ _,(h1.cell (by exact av)).trans hQ,(h1.cell (by exact au)).trans hP,(h1.cell (by exact ax)).trans hN⟩
 clear hr ai hQ hP hN hc ac al;go_enter func140,ntmps140;(go_wp2_with fail);rw[<-HG.o];go_loopw [10] (λi wr=>∃k:Nat,k<=n/\i=.int .i64 k/\Hid (∀j,j<k->Pl.lErr K ls j=0)/\Hid (Bl W0 wr/\PCnt wr B (a0r ls) (2*k)/\wr.heap[G]?=some (.cells #[.int .i64 0,.int .i64 0] 37)/\wr.cell? (Pv Q 0)=some (.func (.func 185) #[] #[.pointer (some (Pv P 0))])/\wr.cell? (Pv P 0)=some (.map (some B))/\wr.cell? (Pv N 0)=some (.int .i64 K))) (λi _=>n-(intOf i).toNat)
 case atStart=>exact⟨0,om,rfl,(λj hj=>absurd hj om),HI.o _ rfl⟩
 case round =>
  obtain⟨k,hk,rfl,hS,hX⟩:=hrel;clear HI;by_cases hlt:k<n
  ·obtain⟨b,off,rfl,_⟩:=CRow.some (ae.o wr hX.o.1) om;obtain⟨c0,c1,c2,c3,c4,c5⟩:=LRow.cells (ae.o wr hX.o.1) hlt;obtain⟨X,HX⟩:=nm (wr.alloc (.cells (lkA (ls k)) 103))
   have aa:Hid (Bl wr X):=(by rw[HX.o];exact bA1 _ _)
   have aj:Hid (X.heap[wr.heap.size]?=some (.cells (lkA (ls k)) 103)):=(by rw[HX.o];exact a9Z _ _)
   have ah:Hid (Calls prog 141 #[.agg (lkA (ls k)),.pointer (some (Pv N 0)),.pointer (some (Pv Q 0))] X λe w'=>e=.returned (.int .i64 (Pl.lErr K ls k))/\Hid (Bl W0 w'/\(Pl.lErr K ls k=0->PCnt w' B (a0r ls) (2*(k+1)))/\w'.heap[G]?=some (.cells #[.int .i64 0,.int .i64 0] 37)/\w'.cell? (Pv Q 0)=some (.func (.func 185) #[] #[.pointer (some (Pv P 0))])/\w'.cell? (Pv P 0)=some (.map (some B))/\w'.cell? (Pv N 0)=some (.int .i64 K))):=by
    obtain⟨x1,x2,x3,x4,x5,x6⟩:=hX.o;have l1:=b0r x4;have l2:=b0r x5;have l3:=b0r x6;have y6:=(aa.o.cell (by exact l3)).trans x6;obtain⟨v1,v2,v3,v4⟩:=an.o k hlt;have y1:Bl W0 X:=x1.trans (aa.o.mono x1.size);have y4:=(aa.o.cell (by exact l1)).trans x4;have y5:=(aa.o.cell (by exact l2)).trans x5;have y3:=keep x3 aa.o;refine(a4J K hK (ls k) N Q P B (2*k) (a0r ls) X y6 y4 y5 am ak (x2.same (aa.o.block B x2.lt)) om (a1w ls k) (a1R ls k) v1 v2 v3 v4).mono ?_;rintro e w' ⟨rfl,z1,z2⟩;rw[lSay_err];exact⟨rfl,y1.trans (a2S z2 y1.size hM),λh=>z1 (a8K h),a1v y3 z2 aq,a0V y4 z2 ak,a0V y5 z2 am,a0V y6 z2 ar⟩
   have ag:Hid (Pl.lErr K ls k≠0->ftA (Pl.firstTo (Pl.lErr K ls) n)=#[.int .i64 (Pl.lErr K ls k),.int .i64 (k:Int)]):=λh=>by rw[Pl.firstTo_here (Pl.lErr K ls) k hS.o h n hlt];rfl
   have af:Hid (Pl.lErr K ls k=0->∀j,j<k+1->Pl.lErr K ls j=0):=λh j hj=>by
    by_cases e:j=k
    ·subst e;exact h
    ·exact hS.o j om
   obtain⟨d0,d1,d2,d3,d4,d5⟩:=a1s aj.o;clear hX hS aj aa an ae;generalize Pl.lErr K ls k=E at *;by_cases e0:E=0
   ·subst e0;have aw:Hid (∀j,j<k+1->Pl.lErr K ls j=0):=af.o rfl;clear af ag;simp only[lkA] at *;(go_wp2_with fail);rw[<-HX.o];refine ah.o.mono ?_;rintro e w1 ⟨rfl,hY⟩;clear d0 d1 d2 d3 d4 d5 c0 c1 c2 c3 c4 c5;(go_wp2_with fail);exact⟨⟨k+1,om,gn,aw,⟨hY.o.1,hY.o.2.1 (by first | exact rfl | trivial),hY.o.2.2⟩⟩,io⟩
   ·have e1:(E == 0)=false:=(by simp[e0])
    have ad:Hid _:=ag.o e0;clear af ag;simp only[lkA] at *;(go_wp2_with fail);rw[<-HX.o];refine ah.o.mono ?_;rintro e w1 ⟨rfl,hY⟩;clear d0 d1 d2 d3 d4 d5 c0 c1 c2 c3 c4 c5;obtain⟨f0,f1⟩:=tC2 hY.o.2.2.1;obtain⟨g0,g1,_,_⟩:=a1K hY.o.2.2.1;(go_wp2_with fail);exact b0b (v:=.agg #[.int .i64 E,.int .i64 (k:Int)]) (a0b (p:=4) (ty:=37) results140 _ _ G 37 #[.int .i64 E,.int .i64 (k:Int)] (0,0) _ rfl (a0i hY.o.2.2.1) underlying37 rfl (by rw[a0q];rfl)) rfl ⟨by rw[ad.o],(hY.o.1.setCell ab _).setCell ab _⟩
  ·obtain rfl:k=n:=om
   have ad:Hid (ftA (Pl.firstTo (Pl.lErr K ls) k)=#[.int .i64 0,.int .i64 0]):=(by rw[Pl.firstTo_all _ _ hS.o];rfl)
   obtain⟨f0,f1⟩:=tC2 hX.o.2.2.1;obtain⟨g0,g1,_,_⟩:=a1K hX.o.2.2.1;(go_wp2_with fail);exact b0b (v:=.agg #[.int .i64 0,.int .i64 0]) (a0b (p:=4) (ty:=37) results140 _ _ G 37 #[.int .i64 0,.int .i64 0] (0,0) _ rfl (a0i hX.o.2.2.1) underlying37 rfl (by rw[a0q];rfl)) rfl ⟨by rw[ad.o],(hX.o.1.setCell ab _).setCell ab _⟩
theorem a3o (ao:OA) (n cap:Nat) (bs:Nat->Br) (w:World) (hn:n<=12) (hr:BRow w ao n cap bs) (hb:∀i,i<n->(bs i).at' w) (ad:∀i,i<n->(Lit.int .u64 (bs i).addr).wf=true) :
  Calls prog 98 #[.slice ao n cap] w λe w'=>e=.returned (.agg (ftA (Pl.firstTo (Pl.bErr bs) n)))/\Bl w w':=by
 obtain⟨X,HX⟩:=nm (w.alloc (.cells #[.int .i64 0,.int .i64 0] 37))
 have aa:Bl w X:=(by rw[HX.o];exact bA1 _ _)
 have ae:X.heap[w.heap.size]?=some (.cells #[.int .i64 0,.int .i64 0] 37):=(by rw[HX.o];exact a9Z _ _)
 have ah:X.heap.size=w.heap.size+1:=(by rw[HX.o];simp)
 have HT:Hid (Calls prog 135 #[] X λe w'=>e=.returned (.func (.func 182) #[] #[.pointer (some (Pv (X.heap.size+1) 0))])/\Hid (w'.cell? (Pv (X.heap.size+1) 0)=some (.map (some X.heap.size))/\UCnt w' X.heap.size (λj=>(bs j).addr) 0/\Bl X w')):=a7s _ X;have HF:Hid (∀w1,Hid (w1.cell? (Pv (X.heap.size+1) 0)=some (.map (some X.heap.size))/\UCnt w1 X.heap.size (λj=>(bs j).addr) 0/\Bl X w1)->∀Y,Y=w1.alloc (.cells #[.func (.func 182) #[] #[.pointer (some (Pv (X.heap.size+1) 0))]] 202) ->
   Calls prog 136 #[.slice ao n cap,.func (.func 137) #[] #[.pointer (some (Pv w1.heap.size 0))]] Y λe w'=>e=.returned (.agg (ftA (Pl.firstTo (Pl.bErr bs) n)))/\Bl X w'):=by
  intro w1 h Y hY;obtain⟨h1,h2,h3⟩:=h.o;have ac:Bl w1 Y:=(by rw[hY];exact bA1 _ _)
  have l1:=b0r h1;have ag:=h2.lt;have ak:Bl X Y:=h3.trans (ac.mono h3.size);have af:Y.heap[w1.heap.size]?=some (.cells #[.func (.func 182) #[] #[.pointer (some (Pv (X.heap.size+1) 0))]] 202):=(by rw[hY];exact a9Z _ _)
  refine(a5Y ao n cap bs w1.heap.size (X.heap.size+1) X.heap.size X Y hn (CRow.below hr aa) (λi hi=>(hb i hi).below aa) ad (a9Y _ _ 0 _ _ _ af) ((ac.cell (by exact l1)).trans h1) om om (h2.same (ac.block _ ag)) (b0g _) ak).mono ?_;rintro e w' ⟨rfl,z⟩;exact⟨rfl,z⟩
 have ab:Hid (∀W,Bl X W->W.heap[w.heap.size]?=some (.cells #[.int .i64 0,.int .i64 0] 37)/\Bl w W):=λW hW=>⟨keep ae hW,aa.trans (hW.mono aa.size)⟩
 clear hr hb ad ae aa ah;generalize Pl.firstTo (Pl.bErr bs) n=R at *;obtain⟨r1,r2⟩:=R;simp only[ftA] at *;go_enter func98,ntmps98;(go_wp2_with fail);rw[<-HX.o];refine HT.o.mono ?_;rintro e w1 ⟨rfl,h1⟩;have hf:=HF.o w1 h1 _ rfl;clear HT HF h1;(go_wp2_with fail);refine hf.mono ?_;rintro e w2 ⟨rfl,h2⟩;obtain⟨k1,k2⟩:=ab.o w2 h2;obtain⟨f0,f1⟩:=tC2 k1;obtain⟨g0,g1,_,_⟩:=a1K k1;have ai:Hid (w2.heap[w.heap.size]?=some (.cells #[.int .i64 0,.int .i64 0] 37)):=k1;have aj:Hid (Bl w w2):=k2;clear hf k1 k2 h2 ab;(go_wp2_with fail);exact b0b (v:=.agg #[.int .i64 r1,.int .i64 r2]) (a0b (p:=2) (ty:=37) results98 _ _ w.heap.size 37 #[.int .i64 r1,.int .i64 r2] (0,0) _ rfl (a0i ai.o) underlying37 rfl (by rw[a0q];rfl)) rfl ⟨rfl,(aj.o.setCell (b0g _) _).setCell (b0g _) _⟩
theorem a3M (ao:OA) (n cap:Nat) (ls:Nat->Lk) (K:Nat) (hK:K<=12) (w:World) (hn:n<=40) (hr:LRow w ao n cap ls) (ae:∀i,i<n->(Lit.int .i64 (ls i).a).wf=true/\(Lit.int .i64 (ls i).pa).wf=true/\(Lit.int .i64 (ls i).b).wf=true/\(Lit.int .i64 (ls i).pb).wf=true) :
  Calls prog 99 #[.slice ao n cap,.int .i64 K] w λe w'=>e=.returned (.agg (ftA (Pl.firstTo (Pl.lErr K ls) n)))/\Bl w w':=by
 obtain⟨X,HX⟩:=nm ((w.alloc (.cells #[.int .i64 K] 3)).alloc (.cells #[.int .i64 0,.int .i64 0] 37))
 have ab:Bl w X:=(by rw[HX.o];exact bA2 _ _ _)
 have ad:X.heap[w.heap.size]?=some (.cells #[.int .i64 K] 3):=(by rw[HX.o];exact b0d w _ _)
 have af:X.heap[w.heap.size+1]?=some (.cells #[.int .i64 0,.int .i64 0] 37):=(by rw[HX.o];exact b0c w _ _)
 have aj:X.heap.size=w.heap.size+2:=(by rw[HX.o];simp)
 have HT:Hid (Calls prog 139 #[] X λe w'=>e=.returned (.func (.func 185) #[] #[.pointer (some (Pv (X.heap.size+1) 0))])/\Hid (w'.cell? (Pv (X.heap.size+1) 0)=some (.map (some X.heap.size))/\PCnt w' X.heap.size (a0r ls) 0/\Bl X w')):=a7u _ X;have HF:Hid (∀w1,Hid (w1.cell? (Pv (X.heap.size+1) 0)=some (.map (some X.heap.size))/\PCnt w1 X.heap.size (a0r ls) 0/\Bl X w1)->∀Y,Y=w1.alloc (.cells #[.func (.func 185) #[] #[.pointer (some (Pv (X.heap.size+1) 0))]] 206) ->
   Calls prog 140 #[.slice ao n cap,.func (.func 141) #[] #[.pointer (some (Pv w.heap.size 0)),.pointer (some (Pv w1.heap.size 0))]] Y λe w'=>e=.returned (.agg (ftA (Pl.firstTo (Pl.lErr K ls) n)))/\Bl X w'):=by
  intro w1 h Y hY;obtain⟨h1,h2,h3⟩:=h.o;have ac:Bl w1 Y:=(by rw[hY];exact bA1 _ _)
  have l1:=b0r h1;have ai:=h2.lt;have ag:Bl X Y:=h3.trans (ac.mono h3.size);have ah:Y.heap[w1.heap.size]?=some (.cells #[.func (.func 185) #[] #[.pointer (some (Pv (X.heap.size+1) 0))]] 206):=(by rw[hY];exact a9Z _ _)
  refine(a5Z ao n cap ls K hK w.heap.size w1.heap.size (X.heap.size+1) X.heap.size X Y hn (CRow.below hr ab) ae (a9Y _ _ 0 _ _ _ (keep ad ag)) om (a9Y _ _ 0 _ _ _ ah) ((ac.cell (by exact l1)).trans h1) om om (h2.same (ac.block _ ai)) (b0g _) ag).mono ?_;rintro e w' ⟨rfl,z⟩;exact⟨rfl,z⟩
 have aa:Hid (∀W,Bl X W->W.heap[w.heap.size+1]?=some (.cells #[.int .i64 0,.int .i64 0] 37)/\Bl w W):=λW hW=>⟨keep af hW,ab.trans (hW.mono ab.size)⟩
 clear hr ae af ad ab aj;generalize Pl.firstTo (Pl.lErr K ls) n=R at *;obtain⟨r1,r2⟩:=R;simp only[ftA] at *;go_enter func99,ntmps99;(go_wp2_with fail);rw[<-HX.o];refine HT.o.mono ?_;rintro e w1 ⟨rfl,h1⟩;have hf:=HF.o w1 h1 _ rfl;clear HT HF h1;(go_wp2_with fail);refine hf.mono ?_;rintro e w2 ⟨rfl,h2⟩;obtain⟨k1,k2⟩:=aa.o w2 h2;obtain⟨f0,f1⟩:=tC2 k1;obtain⟨g0,g1,_,_⟩:=a1K k1;have ak:Hid (w2.heap[w.heap.size+1]?=some (.cells #[.int .i64 0,.int .i64 0] 37)):=k1;have al:Hid (Bl w w2):=k2;clear hf k1 k2 h2 aa;(go_wp2_with fail);exact b0b (v:=.agg #[.int .i64 r1,.int .i64 r2]) (a0b (p:=4) (ty:=37) results99 _ _ (w.heap.size+1) 37 #[.int .i64 r1,.int .i64 r2] (0,0) _ rfl (a0i ak.o) underlying37 rfl (by rw[a0q];rfl)) rfl ⟨rfl,(al.o.setCell (Nat.le_add_right _ _) _).setCell (Nat.le_add_right _ _) _⟩
