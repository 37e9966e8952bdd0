/- GR4 -/
import Derived.Test.YtelebnancdjjiaaGreatDoorE31
import Derived.Test.YtelebnancdjjiaaGreatDoorE29
set_option maxRecDepth 100000
set_option maxHeartbeats 40000000
namespace Go.Proofs.YtelebnancdjjiaaGreatDoor
section
open Go.Proofs.Tryz Go.RowKit
open Vc(V Of)
open Pl(Br Net Pc Lk En LN lf)
open Tk(Md Mnd Cn Sc Dn)
theorem a6w (s:ByteArray) (ah:Int) (ao:OA) (n cap:Nat) (vs ts:Nat->Int) (w:World) (hR:Rg.Right vs ts n) (hr:WayRow w ao n cap vs ts) :
  Calls prog 43 #[.agg #[.string s,Iv ah,.slice ao n cap]] w λe w'=>∃ro rc,e=.returned (.slice ro 16 rc)/\ByteRow w' ro 16 rc (Md.dg (Rg.dig vs ts n))/\Bl w w':=by
 have ad:Hid (Rg.Right vs ts n):=hR;have HR:Hid (WayRow w ao n cap vs ts):=hr;clear hr hR;go_enter func43,ntmps43;(go_wp2_with fail);refine(a8g s ah ao n cap vs ts _ ad.o (HR.o.below (bA1 _ _))).mono ?_;rintro e w1 ⟨g,rfl,aa,ak⟩;have HG:Hid (w1.heap[g]?=some (.cells (rowF 4096 (λi=>Rg.tree vs ts (i:Int) n)) 5)):=aa;have ap:Hid (Bl w w1):=(bA1 w _).trans (ak.mono (by simp));have ar:g<w1.heap.size:=(gSm.1 aa).1;clear aa ak HR;(go_wp2_with fail);go_loopw [3,9] (λv i wr=>∃k:Nat,(k:Int)<=4096/\i=Iv k/\Hid (wr.ownsRow w1.heap.size 5 1 v (2*k) (a0e (2*k) (Rg.pairs vs ts n)))/\Hid (Bl w1 wr)) (λ_ i _=>4096-(intOf i).toNat)
 case atStart=>exact⟨0,om,rfl,World.ownsRow_nil _ _ _ _,b0h _ _⟩
 case round =>
  obtain⟨k,hk,rfl,hX,hB⟩:=hrel;by_cases hlt:(k:Int)<4096
  ·have hT:=Rg.tree_range ad.o (k:Int) n (b0g _);have c4:wr.cell? (Pv g k)=some (.int .u8 (Rg.tree vs ts (k:Int) n)):=(hB.o.cell (by exact ar)).trans ((a9Y _ _ _ _ _ _ HG.o).trans (a0Q _ _ _ om));have HY:Hid ((0:Int)=Rg.pairs vs ts n (2*k)):=(by rw[Rg.pairs_even];exact(rfl:(0:Int)=0))
   have HZ:Hid (Rg.tree vs ts (k:Int) n=Rg.pairs vs ts n (2*k+1)):=(by rw[Rg.pairs_odd];exact(rfl:Rg.tree vs ts (k:Int) n=Rg.tree vs ts (k:Int) n))
   have av:=hB.o.size;clear HG;generalize Rg.tree vs ts (k:Int) n=t at *;go_wp2_with (at_builtin;refine a2e rfl (.tmp 13) (.tmp 15) rfl w1.heap.size _ (2*k) (Rg.pairs vs ts n) rfl _ _ hX.o av rfl HY.o HZ.o om ?_;intro v3 w3 al ai;have au:Hid (w3.ownsRow w1.heap.size 5 1 v3 (2*(k+1)) (a0e (2*(k+1)) (Rg.pairs vs ts n))):=al;have ac:Hid (Bl w1 w3):=hB.o.trans ai;clear al ai)
   exact⟨⟨k+1,om,gn,au,ac⟩,io⟩
  ·obtain rfl:k=4096:=om
   obtain⟨bo,bc,rfl,ae,_,ab,_⟩:=a2n (n:=8192) (f:=Rg.pairs vs ts n) (by exact hX.o);have an:Hid (ByteRow wr bo 8192 bc (Rg.pairs vs ts n)):=ae;have aj:Hid (bo=none->8192=0/\bc=0):=ab;have am:Hid (Bl w wr):=ap.o.trans (hB.o.mono ap.o.size);have af:Hid (∀i,i<8192->0<=Rg.pairs vs ts n i/\Rg.pairs vs ts n i<=255):=λi _=>Rg.pairs_range ad.o i;have HM:Hid (∀W,Bl wr W->W.heap[wr.heap.size]?=some (.cells (rowF 16 Rg.key) 5)->Calls prog 70 #[.slice (some (Pv wr.heap.size 0)) 16 16,.slice bo 8192 bc] W λe w'=>∃ro rc,e=.returned (.slice ro 16 rc)/\Hid (ByteRow w' ro 16 rc (Md.dg (Rg.dig vs ts n)))/\Hid (Bl w w')):=by
    intro W hW aa;refine(a8h _ _ 16 16 8192 bc Rg.key (Rg.pairs vs ts n) W ((ByteRow.of_row (off:=0) (n:=16) (cap:=16) aa om (b0g _)).congr (λi _=>by rw[Nat.zero_add])) (an.o.below hW) aj.o om af.o om).mono ?_;rintro e w' ⟨ro,rc,rfl,h1,h2⟩;have ag:Bl w W:=am.o.trans (hW.mono am.o.size);exact⟨ro,rc,rfl,h1,ag.trans (h2.mono ag.size)⟩
   clear hX hB ae ab HG an aj af;go_wp2_with (go_at_call 70;refine(HM.o _ (bA1 _ _) (a9Z _ _)).mono ?_;rintro e w3 ⟨ro,rc,rfl,aq,ac⟩)
   go_ret;exact⟨ro,rc,rfl,aq.o,ac.o⟩
def slen:Value->Nat
 | .slice _ n _=>n
 | _=>0
theorem one_new (w:World) (y:Int):ByteRow (w.alloc (.cells #[.int .u8 y] 5)) (some (Pv w.heap.size 0)) 1 1 (λ_=>y):=by
 have hl:(w.alloc (.cells #[.int .u8 y] 5)).heap[w.heap.size]?=some (.cells (rowF 1 (λ_=>y)) 5):=a9Z _ _;exact ByteRow.of_row (off:=0) (n:=1) (cap:=1) hl om (b0g _)
theorem two_new (w:World) (y z:Int):ByteRow (w.alloc (.cells #[.int .u8 y,.int .u8 z] 5)) (some (Pv w.heap.size 0)) 2 2 (λi=>if i=0 then y else z):=by
 have hl:(w.alloc (.cells #[.int .u8 y,.int .u8 z] 5)).heap[w.heap.size]?=some (.cells (rowF 2 (λi=>if i=0 then y else z)) 5):=a9Z _ _;exact(ByteRow.of_row (off:=0) (n:=2) (cap:=2) hl om (b0g _)).congr (λi _=>by rw[Nat.zero_add])
theorem a8i (s:ByteArray) (aa:Int) (ao:OA) (n cap:Nat) (vs ts:Nat->Int) (w:World) (hs:s.size<=32) (hv:0<=aa/\aa<=65535) (hR:Rg.Right vs ts n) (hr:WayRow w ao n cap vs ts) :
  Calls prog 20 #[.agg #[.string s,Iv aa,.slice ao n cap]] w λe w'=>∃ro rc,e=.returned (.slice ro 50 rc)/\ByteRow w' ro 50 rc (Rg.ident s aa (Md.dg (Rg.dig vs ts n)))/\Bl w w'/\∀ad,ro=some ad->w.heap.size<ad.block:=by
 have aM:Hid (Rg.Right vs ts n):=hR;obtain⟨P,HP⟩:=nm (Rg.ident s aa (Md.dg (Rg.dig vs ts n)))
 have aB:Hid (∀i,i<s.size->Rg.nb s i=P i):=by
  intro i hi;rw[HP.o];unfold Rg.ident;rw[iP om,iP hi]
 have au:Hid (∀k,s.size<=k->k<32->∀i,i<k+1->cat k P (λ_=>0) i=P i):=by
  intro k h1 h2 i hi;unfold cat;by_cases e:i<k
  ·rw[iP e]
  ·rw[iN e,HP.o];unfold Rg.ident;rw[iP om,iN om]
 have aD:Hid (∀i,i<34->cat 32 P (λi=>if i=0 then aa/256 else aa%256) i=P i):=by
  intro i hi;unfold cat;by_cases e:i<32
  ·rw[iP e]
  ·rw[iN e,HP.o];unfold Rg.ident;rw[iN e];show(if i-32=0 then aa/256 else aa%256)=_;by_cases e2:i=32
   ·rw[iP (show i-32=0 by omega),iP e2]
   ·rw[iN (show ¬i-32=0 by omega),iN e2,iP (show i=33 by omega)]
 have aI:Hid (∀i,i<50->cat 34 P (Md.dg (Rg.dig vs ts n)) i=P i):=by
  intro i hi;unfold cat;by_cases e:i<34
  ·rw[iP e]
  ·rw[iN e,HP.o];unfold Rg.ident;rw[iN om,iN om,iN om]
 obtain⟨ax,a4,w1,ak,ay,ar,aG,ab,ah,av⟩:=a3l (w.alloc (.cells #[.string s,Iv aa,.slice ao n cap] 63)) s;have aO:(w.alloc (.cells #[.string s,Iv aa,.slice ao n cap] 63)).heap.size=w.heap.size+1:=(by simp)
 unfold Bl at ar;rw[aO] at ak ay ar aG ab;have aJ:Hid (OwnC w1 (w.heap.size+1) (.slice (some (Pv (w.heap.size+1) 0)) s.size ax) s.size P):=by
  refine(a4a (f:=Rg.nb s) ab (Or.inr (b0g _)) ah av (b0g _) (λi hi => ?_)).congr aB.o;obtain⟨b,off,e0,_,hc⟩:=ay.2 om;cases e0
  have:=hc i hi;rw[Nat.zero_add,a9Y _ _ _ _ _ _ ab] at this;exact this
 have HW:Hid (∀W,Below (w.heap.size+1) w1 W->W.cell? (Pv w.heap.size 0)=some (.string s)/\W.cell? (Pv w.heap.size 1)=some (Iv aa)/\W.cell? (Pv w.heap.size 2)=some (.slice ao n cap)/\WayRow W ao n cap vs ts/\Bl w W/\w.heap.size+2<=W.heap.size):=by
  intro W hW;have aE:=ar.trans hW;have h:=a2d ((aE.block w.heap.size om).trans (a9Z w (.cells #[.string s,Iv aa,.slice ao n cap] 63)));have hl:Bl w W:=(bA1 w _).trans (aE.mono om);have a3:=hW.size;exact⟨h.1,h.2.1,h.2.2,hr.below hl,hl,om⟩
 clear ay ar aO hr hR ab ah aG;go_enter func20,ntmps20;(go_wp2_with fail);go_loopw [3] (λv wr=>∃k:Nat,s.size<=k/\k<=32/\Hid (OwnC wr (w.heap.size+1) v k P)/\Hid (Below (w.heap.size+1) w1 wr)) (λv _=>32-slen v)
 case atStart=>exact⟨s.size,b0g _,hs,aJ,b0h _ _⟩
 case round =>
  clear ak aJ;obtain⟨k,aU,hk,hX,hB⟩:=hrel;obtain⟨g,gc,rfl,aZ⟩:=hX.o;have HX:Hid (OwnC wr (w.heap.size+1) (.slice (some (Pv g 0)) k gc) k P):=hX;obtain⟨c0,c1,c2,al,ag,a3⟩:=HW.o _ hB.o;have aW:Hid (WayRow wr ao n cap vs ts):=al;have aV:Hid (Bl w wr):=ag;clear aZ hX al ag;by_cases hlt:k<32
  ·have HA:Hid (∀v3 w3,OwnC w3 (w.heap.size+1) v3 (k+1) (cat k P (λ_=>0))->Below (w.heap.size+1) (wr.alloc (.cells #[.int .u8 0] 5)) w3->OwnC w3 (w.heap.size+1) v3 (k+1) P/\Below (w.heap.size+1) w1 w3/\slen v3=k+1):=by
    intro v3 w3 h1 h2;refine⟨h1.congr (au.o k aU hlt),(hB.o.alloc om _).trans h2,?_⟩;obtain⟨g3,c3,rfl,_⟩:=h1;rfl
   clear aB au aD aI HW;go_wp2_with (at_builtin;refine a2a rfl (.tmp 10) (.tmp 11) rfl (w.heap.size+1) _ k P rfl (HX.o.below (bA1 _ _)) wr.heap.size 0 1 1 (λ_=>0) rfl (one_new wr 0) om om (by simp;omega) ?_;intro v3 w3 am aj;obtain⟨aH,aN,aF⟩:=HA.o v3 w3 am aj;have aq:Hid (OwnC w3 (w.heap.size+1) v3 (k+1) P):=aH;have an:Hid (Below (w.heap.size+1) w1 w3):=aN;have aQ:Hid (slen v3=k+1):=aF;clear am aj aH aN aF)
   exact⟨⟨k+1,om,om,aq,an⟩,by rw[aQ.o];show 32-(k+1)<32-k;omega⟩
  ·obtain rfl:k=32:=om
   obtain⟨v1,v2⟩:=hv;have HA:Hid (∀o v3 w3,OwnC w3 (w.heap.size+1) v3 34 (cat 32 P (λi=>if i=0 then aa/256 else aa%256))->Below (w.heap.size+1) (wr.alloc o) w3->∃g3 c3,v3=.slice (some (Pv g3 0)) 34 c3/\Hid (OwnC w3 (w.heap.size+1) (.slice (some (Pv g3 0)) 34 c3) 34 P)/\Hid (Below (w.heap.size+1) w1 w3)):=by
    intro o v3 w3 h1 h2;have h3:=h1.congr aD.o;obtain⟨g3,c3,rfl,_⟩:=h1;exact⟨g3,c3,rfl,h3,(hB.o.alloc om _).trans h2⟩
   clear aB au aD aW aV;go_wp2_with (at_builtin;refine a2a rfl (.tmp 13) (.tmp 22) rfl (w.heap.size+1) _ 32 P rfl (HX.o.below (bA1 _ _)) wr.heap.size 0 2 2 (λi=>if i=0 then aa/256 else aa%256) rfl (two_new wr _ _) om om (by simp;omega) ?_;intro v3 w3 am aj;obtain⟨g3,c3,rfl,aq,an⟩:=HA.o _ v3 w3 am aj;clear am aj;obtain⟨k0,k1,k2,ac,ae,aT⟩:=HW.o _ an.o;have ai:Hid (WayRow w3 ao n cap vs ts):=ac;have af:Hid (Bl w w3):=ae;clear ac ae)
   refine(a6w s aa ao n cap vs ts _ aM.o ai.o).mono ?_;rintro e w4 ⟨ro,rc,rfl,aw,ap⟩;obtain⟨xg,xo,rfl,_,_⟩:=aw.2 om;have a0:Hid (ByteRow w4 (some (Pv xg xo)) 16 rc (Md.dg (Rg.dig vs ts n))):=aw;have a1:Hid (OwnC w4 (w.heap.size+1) (.slice (some (Pv g3 0)) 34 c3) 34 P):=aq.o.below ap;have az:Hid (Bl w w4):=af.o.trans (ap.mono af.o.size);have aC:w.heap.size+1<=w4.heap.size:=(by have:=ap.size;omega)
   have aX:Hid (∀v5 w5,OwnC w5 (w.heap.size+1) v5 50 (cat 34 P (Md.dg (Rg.dig vs ts n)))->Below (w.heap.size+1) w4 w5->∃g5 c5,v5=.slice (some (Pv g5 0)) 50 c5/\Hid (ByteRow w5 (some (Pv g5 0)) 50 c5 P)/\Hid (Bl w w5)/\Hid (w.heap.size<g5)):=by
    intro v5 w5 h1 h2;obtain⟨g5,c5,rfl,h3⟩:=(h1.congr aI.o).bytes;obtain⟨g6,c6,e6,hg,_⟩:=h1;cases e6
    exact⟨g5,c5,rfl,h3,az.o.trans (h2.mono om),hg⟩
   clear aw ap aq an af ai k0 k1 k2 HA HX HW hB c0 c1 c2 aM;go_wp2_with (at_builtin;refine a2a rfl (.tmp 24) (.tmp 26) rfl (w.heap.size+1) _ 34 P rfl a1.o xg xo 16 rc _ rfl a0.o om om aC ?_;intro v5 w5 aK aL;obtain⟨g5,c5,rfl,a2,aR,aY⟩:=aX.o v5 w5 aK aL;clear aK aL)
   go_ret;exact⟨_,c5,rfl,by rw[<-HP.o];exact a2.o,aR.o,λad e=>by cases e;exact aY.o⟩
theorem a9N (a1 a2:OA) (n1 c1 n2 c2:Nat) (b1 b2:Nat->Int) (w:World) (h1:ByteRow w a1 n1 c1 b1) (k1:a0s a1 n1 c1) (h2:ByteRow w a2 n2 c2 b2) (k2:a0s a2 n2 c2) :
  Calls prog 61 #[.slice a1 n1 c1,.slice a2 n2 c2] w λe w'=>e=.returned (.bool (decide (a1q n1 b1=a1q n2 b2)))/\w'=w:=by
 have q1:=a3k w a1 n1 c1 b1 h1 k1;have q2:=a3k w a2 n2 c2 b2 h2 k2;clear h1 k1 h2 k2;generalize a1q n1 b1=S at *;generalize a1q n2 b2=T at *;go_enter func61,ntmps61;go_wp2
 go_ret;refine⟨?_,rfl⟩;by_cases e:S=T
 ·subst e;simp
 ·have aa:¬S.toList=T.toList:=λh=>e (ByteArray.ext (Array.toList_inj.mp (by rw[<-ByteArray.toList_eq,<-ByteArray.toList_eq];exact h)));simp[e,aa]
theorem a9O (n:Net) (w:World) (an:n.at' w) (R:n.Right) :
  Calls prog 40 #[n.val] w λe w'=>∃ao cap,e=.returned (.slice ao n.lvs.length cap)/\LRow w' ao n.lvs.length cap (λj=>n.ls (LN n.lvs j))/\a0s ao n.lvs.length cap/\(∀ad,ao=some ad->w.heap.size<=ad.block)/\Bl w w':=by
 obtain⟨X0,ak⟩:∃X,Hid (X=w.alloc (.cells #[.slice n.bao n.K n.bcap,.slice n.lao n.L n.lcap] 25)):=⟨_,rfl⟩
 have ae:Bl w X0:=(by rw[ak.o];exact bA1 _ _)
 have aX:X0.heap.size=w.heap.size+1:=(by rw[ak.o];simp)
 have aK:X0.heap[w.heap.size]?=some (.cells #[.slice n.bao n.K n.bcap,.slice n.lao n.L n.lcap] 25):=(by rw[ak.o];exact a9Z _ _)
 have HC:Hid (∀W,Bl X0 W->(W.cell? ⟨w.heap.size,0,none⟩=some (.slice n.bao n.K n.bcap)/\W.cell? ⟨w.heap.size,1,none⟩=some (.slice n.lao n.L n.lcap))/\n.at' W/\Bl w W):=λW hW=>by
  have h1:Bl w W:=ae.trans (hW.mono ae.size);exact⟨tC2 (keep aK hW),an.below h1,h1⟩
 have HR:Hid n.Right:=R;have hK:=R.few;have hL:=R.fewL;have aZ:=an.brs.1;have aT:=an.lks.1;obtain⟨G,HG⟩:=nm (w.heap.size+1)
 have a8:∀W:World,(Instr.makeSlice 137 (Iv (n.K:Int)) (Iv (n.K:Int))).run prog W=.ok (.slice (some ⟨W.heap.size,0,none⟩) n.K n.K) (W.alloc (.cells (rowC n.K 1 (λ_ _=>sN)) 29)):=λW=>a1E W 137 29 sN 1 24 n.K underlying137 a5i om rfl om om _ (λ_ j hj=>by rw[show j=0 by omega];rfl);have H0:Hid (∃v,IdsAt (X0.alloc (.cells (rowC n.K 1 (λ_ _=>sN)) 29)) G n.K n.bs v 0/\Bl X0 (X0.alloc (.cells (rowC n.K 1 (λ_ _=>sN)) 29))):=⟨λ_=>sN,⟨by rw[HG.o,<-aX];exact a9Z _ _,λi hi=>absurd hi om⟩,bA1 _ _⟩
 obtain⟨⟨n0,n1⟩,_⟩:=HC.o X0 (b0h _ _);obtain⟨⟨m0,m1⟩,_⟩:=HC.o (X0.alloc (.cells (rowC n.K 1 (λ_ _=>sN)) 29)) (bA1 _ _);rw[ak.o] at n0 n1 m0 m1;clear an R aK ae;simp only[Pl.Net.val];go_enter func40,ntmps40;(go_wp2_with fail);rw[<-ak.o];rw[<-HG.o];clear n0 n1 m0 m1;go_loopw [16] (λi wr=>∃k:Nat,k<=n.K/\i=Iv k/\Hid (∃v,IdsAt wr G n.K n.bs v k/\Bl X0 wr)) (λi _=>n.K-(intOf i).toNat)
 case atStart=>exact⟨0,om,rfl,H0⟩
 case round =>
  obtain⟨k,hk,rfl,hX⟩:=hrel;clear H0;obtain⟨v,hI,hB⟩:=hX.o;by_cases hlt:k<n.K
  ·have af:=(HC.o wr hB).2.1;obtain⟨b,off,eb,_⟩:=CRow.some af.brs om;have aC:=af.brs;rw[eb] at aC ⊢;obtain⟨c0,c1,c2,c3,c4⟩:=BRow.cells aC hlt;obtain⟨X,HX⟩:=nm (wr.alloc (.cells (brA (n.bs k)) 65))
   have ae:Bl wr X:=(by rw[HX.o];exact bA1 _ _)
   have aJ:X.heap[wr.heap.size]?=some (.cells (brA (n.bs k)) 65):=(by rw[HX.o];exact a9Z _ _)
   have aE:=hI.below ae;have aq:Bl X0 X:=hB.trans (ae.mono hB.size);obtain⟨d0,d1,d2,d3,d4⟩:=a1L aJ;have aM:Hid (Calls prog 20 #[.agg #[.string (n.bs k).reg.s,Iv (n.bs k).reg.rev,.slice (n.bs k).reg.ao (n.bs k).reg.n (n.bs k).reg.cap]] X λe w'=>∃ro rc,e=.returned (.slice ro 50 rc)/\w'.cell? ⟨G,k,none⟩=some (v k)/\w'.frozen? ⟨G,k,none⟩=false/\Hid (∃v,IdsAt (w'.setCell ⟨G,k,none⟩ (.slice ro 50 rc)) G n.K n.bs v (k+1)/\Bl X0 (w'.setCell ⟨G,k,none⟩ (.slice ro 50 rc)))):=by
    obtain⟨_,x2,_⟩:=HC.o X aq;have ay:=(HR.o.fine k hlt).reg;refine(a8i (n.bs k).reg.s (n.bs k).reg.rev (n.bs k).reg.ao (n.bs k).reg.n (n.bs k).reg.cap (n.bs k).reg.vs (n.bs k).reg.ts X (Rg.isName_parts ay.1).2.1 ay.2.1 ay.2.2 (x2.each k hlt).2.1).mono ?_;rintro e w' ⟨ro,rc,rfl,y1,y2,y3⟩;have z1:=aE.below y2;have a3:Bl X0 w':=aq.trans (y2.mono aq.size);have e1:(⟨G,k,none⟩:Addr)=⟨G,k*1+0,none⟩:=(by simp)
    have bd:G<X.heap.size:=(by have:=(gSm.1 aE.1).1;exact this)
    obtain⟨rb,ac,er,bg,_⟩:=y1.2 om;subst er;have aH:rb≠G:=(by have:=y3 _ rfl;simp only at this;omega)
    refine⟨_,rc,rfl,?_,?_,λi=>if i=k then .slice (some ⟨rb,ac,none⟩) 50 rc else v i,⟨?_,λi hi => ?_⟩,a3.setCell (by rw[HG.o,aX];exact b0g _) _⟩
    ·rw[e1];exact a0C z1.1 hlt om
    ·exact lF0 z1.1 _
    ·rw[e1,a1r z1.1 hlt om,rC2 (d:=λi _=>if i=k then .slice (some ⟨rb,ac,none⟩) 50 rc else v i) (λi _ j hj=>by
      unfold updC;by_cases q:i=k
      ·rw[iP ⟨q,om⟩,iP q]
      ·rw[iN (λp=>q p.1),iN q])]
    ·have aR:∀b,b≠G->(w'.setCell ⟨G,k,none⟩ (.slice (some ⟨rb,ac,none⟩) 50 rc)).heap[b]?=w'.heap[b]?:=λb hb=>b0f _ _ _ _ (by exact hb);by_cases q:i=k
     ·subst q;exact⟨rb,ac,rc,iP rfl,a1M y1 (λb off e _=>by cases e;exact aR _ aH) (by simp),aH⟩
     ·obtain⟨b1,aB,aY,q1,q2,q3⟩:=z1.2 i om;exact⟨b1,aB,aY,by simp only;rw[iN q];exact q1,a1M q2 (λb off e _=>by cases e;exact aR _ q3) (by simp),q3⟩
   clear hX hI hB aE aq ae aJ aC af eb;simp only[brA] at *;generalize (n.bs k).reg.s=s at *;have i0:(0:Int)<=(k:Int):=om
   have i1:(k:Int)<(n.K:Int):=om
   (go_wp2_with fail);rw[<-HX.o];refine aM.o.mono ?_;rintro e w1 ⟨ro,rc,rfl,k1,k2,HN⟩;clear aM;(go_wp2_with fail);exact⟨⟨k+1,om,gn,HN⟩,io⟩
  ·obtain be:k=n.K:=om
   rw[be] at hI;have bj:¬(k:Int)<(n.K:Int):=om
   obtain⟨⟨m0,m1⟩,_⟩:=HC.o wr hB;obtain⟨w1,ax⟩:=nn wr
   subst ax;have aj:Hid (∀W,Bl w1 W->IdsAt W G n.K n.bs v n.K/\LRow W n.lao n.L n.lcap n.ls/\Bl w W):=λW hW=>by
    obtain⟨_,x2,x3⟩:=HC.o W (hB.trans (hW.mono hB.size));exact⟨hI.below hW,x2.lks,x3⟩
   have H1:Hid (w1.ownsRow w1.heap.size 103 6 (.slice none (n.lvsTo 0).length 0) (n.lvsTo 0).length (a3t n.ls (n.lvsTo 0))/\Bl w1 w1):=⟨a0y _ _ _ _ _,b0h _ _⟩
   clear hX hI hB HC a8;(go_wp2_with fail);clear m0 m1;go_loopw [3,31] (λs3 i wr=>∃(j:Nat) (ao:OA) (cap:Nat),j<=n.L/\i=Iv j/\s3=.slice ao (n.lvsTo j).length cap/\Hid (wr.ownsRow w1.heap.size 103 6 (.slice ao (n.lvsTo j).length cap) (n.lvsTo j).length (a3t n.ls (n.lvsTo j))/\Bl w1 wr)) (λ_ i _=>n.L-(intOf i).toNat)
   case atStart=>exact⟨0,none,0,om,rfl,rfl,H1⟩
   case round =>
    obtain⟨j,ao,cap,hj,rfl,rfl,hY⟩:=hrel;clear H1;by_cases hlt2:j<n.L
    ·obtain⟨hO,hB⟩:=hY.o;obtain⟨f1,f2,_⟩:=aj.o wr hB;obtain⟨lb,bc,el,_⟩:=CRow.some f2 om;rw[el] at f2 ⊢;obtain⟨c0,c1,c2,c3,c4,c5⟩:=LRow.cells f2 hlt2;obtain⟨o1,o2,o3,_⟩:=HR.o.links.ok j hlt2;have aa:=n.lvsTo_next j;have a2:=n.lvsTo_few j;have ah:n.live j=((n.ls j).up&&decide (a1q 50 (n.bs (n.ls j).a.toNat).reg.id=a1q 50 (n.bs (n.ls j).b.toNat).reg.id)):=rfl;obtain⟨na,aV⟩:∃na:Nat,(n.ls j).a=na:=⟨(n.ls j).a.toNat,om⟩
     obtain⟨nb,aW⟩:∃nb:Nat,(n.ls j).b=nb:=⟨(n.ls j).b.toNat,om⟩
     have ha:na<n.K:=om
     have hb:nb<n.K:=om
     have aL:(n.ls j).a.toNat=na:=om
     have aU:(n.ls j).b.toNat=nb:=om
     rw[aL,aU] at ah;obtain⟨Z,HZ⟩:=nm (wr.alloc (.cells (lkA (n.ls j)) 103))
     have am:Bl wr Z:=(by rw[HZ.o];exact bA1 _ _)
     have aN:Z.heap[wr.heap.size]?=some (.cells (lkA (n.ls j)) 103):=(by rw[HZ.o];exact a9Z _ _)
     have aO:Hid (Z.heap.size=wr.heap.size+1):=by show _=_;rw[HZ.o];simp
     have g3:=f1.below am;obtain⟨q0,q1,q2,q3,q4,q5⟩:=a1s aN;have eA:(⟨G,na,none⟩:Addr)=⟨G,na*1+0,none⟩:=(by simp)
     have eB:(⟨G,nb,none⟩:Addr)=⟨G,nb*1+0,none⟩:=(by simp)
     have ca:Z.cell? ⟨G,na,none⟩=some (v na):=(by rw[eA];exact a0C g3.1 ha om)
     have cb:Z.cell? ⟨G,nb,none⟩=some (v nb):=(by rw[eB];exact a0C g3.1 hb om)
     obtain⟨ab,au,a7,xa,ra,_⟩:=g3.2 na ha;obtain⟨bb,aF,ba,xb,rb,_⟩:=g3.2 nb hb;rw[xa] at ca;rw[xb] at cb;have ar:Hid (∀m,Calls prog 61 #[.slice (some ⟨ab,au,none⟩) 50 a7,.slice (some ⟨bb,aF,none⟩) 50 ba] (Z.drewN m) λe w'=>e=.returned (.bool (decide (a1q 50 (n.bs na).reg.id=a1q 50 (n.bs nb).reg.id)))/\w'=Z.drewN m):=λm=>a9N _ _ 50 _ 50 _ _ _ (Z.drewN m) (ra.below (a0d (b0h _ _) m)) (λh=>by cases h) (rb.below (a0d (b0h _ _) m)) (λh=>by cases h);have i0:(0:Int)<=(j:Int):=om
     have i1:(j:Int)<(n.L:Int):=om
     have bi:(0:Int)<=(na:Int):=om
     have bl:(na:Int)<(n.K:Int):=om
     have bh:(0:Int)<=(nb:Int):=om
     have bm:(nb:Int)<(n.K:Int):=om
     have al:Hid (n.live j=false->∀W,Bl Z W->W.ownsRow w1.heap.size 103 6 (.slice ao (n.lvsTo (j+1)).length cap) (n.lvsTo (j+1)).length (a3t n.ls (n.lvsTo (j+1)))/\Bl w1 W):=λhl W hW=>by
      rw[hl,iN dd,List.append_nil] at aa;have h1:Bl wr W:=am.trans (hW.mono am.size);rw[aa];exact⟨a0h hO h1,hB.trans (h1.mono hB.size)⟩
     have ai:Hid (n.live j=false->(n.lvsTo (j+1)).length=(n.lvsTo j).length):=λhl=>by
      rw[hl,iN dd,List.append_nil] at aa;rw[aa]
     have ap:Hid (n.live j=true->∀m,∃a1 ag w2,(Builtin.append_ #[23,23] 23 #[.slice ao (n.lvsTo j).length cap,.slice (some ⟨wr.heap.size+1,0,none⟩) 1 1]).run prog ((Z.drewN m).alloc (.cells (lkA (n.ls j)) 103))=.ok (.slice a1 ((n.lvsTo j).length+1) ag) w2/\Hid (w2.ownsRow w1.heap.size 103 6 (.slice a1 (n.lvsTo (j+1)).length ag) (n.lvsTo (j+1)).length (a3t n.ls (n.lvsTo (j+1)))/\Bl w1 w2)/\Hid ((n.lvsTo (j+1)).length=(n.lvsTo j).length+1)):=λhl m=>by
      rw[hl,iP rfl] at aa;have h1:Bl wr (Z.drewN m):=a0d am m;have hs:(Z.drewN m).heap.size=wr.heap.size+1:=aO.o;have h2:Below (Z.drewN m).heap.size (Z.drewN m) ((Z.drewN m).alloc (.cells (lkA (n.ls j)) 103)):=bA1 _ _;have h3:Bl wr ((Z.drewN m).alloc (.cells (lkA (n.ls j)) 103)):=h1.trans (h2.mono h1.size);have hr:LRow ((Z.drewN m).alloc (.cells (lkA (n.ls j)) 103)) (some ⟨wr.heap.size+1,0,none⟩) 1 1 (λ_=>n.ls j):=(by rw[<-hs];exact a8b (a9Z _ _))
      obtain⟨a1,ag,w2,r,aG,a6,_⟩:=a0E ((Z.drewN m).alloc (.cells (lkA (n.ls j)) 103)) 23 103 _ 6 48 underlying23 infoLk rfl om w1.heap.size (.slice ao (n.lvsTo j).length cap) (n.lvsTo j).length (λi=>lkC (n.ls (LN (n.lvsTo j) i))) (a0h hO h3) (some ⟨wr.heap.size+1,0,none⟩) 1 1 (λ_=>lkC (n.ls j)) (λ_ q=>a5S _ q) hr (λh=>by cases h) (by unfold maxLen;omega) om (by have:=hB.size;have:=h3.size;omega);rw[ln_snoc] at aG;refine⟨a1,ag,w2,r,?_,?_⟩
      ·rw[aa,List.length_append];exact⟨aG,(hB.trans (h3.mono hB.size)).trans a6⟩
      ·show _=_;rw[aa,List.length_append];rfl
     clear hY hO hB f1 f2 o1 o2 o3 aa g3 ra rb xa xb eA eB am aN aj HR el aL aU;generalize n.live j=lv at *;generalize decide (a1q 50 (n.bs na).reg.id=a1q 50 (n.bs nb).reg.id)=D at *;generalize n.ls j=l at *;obtain⟨a,pa,b,pb,c,up⟩:=l;simp only at aV aW c0 c1 c2 c3 c4 c5 ah;subst aV;subst aW;simp only[lkA] at *;rw[HZ.o] at q0 q1 q2 q3 q4 q5 ca cb;cases up with
     | false =>
      have aw:lv=false:=(by rw[ah,Bool.false_and])
      clear ah;subst aw;have aD:Hid _:=al.o rfl;have av:Hid _:=ai.o rfl;clear ap al ai ar;(go_wp2_with fail);rw[<-HZ.o] at q0 q1 q2 q3 q4 q5 ca cb ⊢;(go_quiet (fail));(go_wp2_with fail);exact⟨⟨j+1,ao,cap,om,gn,by rw[av.o],aD.o _ (a0d (b0h _ _) _)⟩,io⟩
     | true =>
      have aw:lv=D:=(by rw[ah,Bool.true_and])
      clear ah;subst aw;cases lv with
      | false =>
       have aD:Hid _:=al.o rfl;have av:Hid _:=ai.o rfl;clear ap al ai;(go_wp2_with fail);rw[<-HZ.o] at q0 q1 q2 q3 q4 q5 ca cb ⊢;go_quiet (first | (go_at_call 61;exact Calls.quiet_of_same (ar.o _)))
       (all_goals go_wp2_with fail);all_goals exact⟨⟨j+1,ao,cap,om,gn,by rw[av.o],aD.o _ (a0d (b0h _ _) _)⟩,io⟩
      | true =>
       have aQ:Hid _:=ap.o rfl;clear ap al ai;have aI:Hid (∀m,(Z.drewN m).cell? ⟨wr.heap.size,0,none⟩=some (Iv na)/\(Z.drewN m).cell? ⟨wr.heap.size,1,none⟩=some (Iv pa)/\(Z.drewN m).cell? ⟨wr.heap.size,2,none⟩=some (Iv nb)/\(Z.drewN m).cell? ⟨wr.heap.size,3,none⟩=some (Iv pb)/\(Z.drewN m).cell? ⟨wr.heap.size,4,none⟩=some (Iv c)/\(Z.drewN m).cell? ⟨wr.heap.size,5,none⟩=some (.bool true)):=by
        rw[<-HZ.o] at q0 q1 q2 q3 q4 q5;exact λm=>⟨q0,q1,q2,q3,q4,q5⟩
       (go_wp2_with fail);rw[<-HZ.o] at q0 q1 q2 q3 q4 q5 ca cb ⊢;go_quiet (first | (go_at_call 61;exact Calls.quiet_of_same (ar.o _)))
       generalize hgen:Z.drewN _=Y;obtain⟨m,rfl⟩:∃m,Y=Z.drewN m:=⟨_,hgen.symm⟩
       clear hgen;obtain⟨a1,ag,w2,r,HN,a0⟩:=aQ.o m;obtain⟨y0,y1,y2,y3,y4,y5⟩:=aI.o m;have a9:Hid _:=r;have a5:(Z.drewN m).heap.size=wr.heap.size+1:=aO.o;clear r aQ aI ar q0 q1 q2 q3 q4 q5 ca cb;generalize Z.drewN m=Y at *;go_wp2_with (at_builtin;(try rw[a5]);refine a0a rfl (.tmp 50) (.tmp 52) 23 rfl _ _ _ rfl rfl a9.o ?_)
       exact⟨⟨j+1,a1,ag,om,gn,by rw[a0.o],HN⟩,io⟩
    ·obtain a4:j=n.L:=om
     obtain⟨hO,hB⟩:=hY.o;have bf:¬(j:Int)<(n.L:Int):=om
     have HE:Hid (LRow wr ao n.lvs.length cap (λq=>n.ls (LN n.lvs q))/\a0s ao n.lvs.length cap/\(∀ad,ao=some ad->w.heap.size<=ad.block)/\Bl w wr):=by
      have az:=(aj.o wr hB).2.2;have ax:=(aj.o w1 (b0h _ _)).2.2.size;rw[a4] at hO;obtain⟨a1,c1,e1,h1,h2,h3⟩:=a0W om hO;injection e1 with e1 _ e2;subst e1;subst e2;exact⟨h1,h2,λad e=>b0p ax (h3 ad e),az⟩
     clear hY hO hB aj;(go_wp2_with fail);go_ret;exact⟨ao,cap,rfl,HE.o.1,HE.o.2.1,HE.o.2.2.1,HE.o.2.2.2⟩
theorem a6Y {W:World}{a b c:Nat}{x0 x1 x2 x3 x4 v0 v1 v2 v3 v4:Value}{t1 t2 t3:TypeId}(h1:W.heap[a]?=some (.cells #[x0,x1] t1)) (h2:W.heap[b]?=some (.cells #[x2] t2)) (h3:W.heap[c]?=some (.cells #[x3,x4] t3)) (ab:a≠b) (ac:a≠c) (bc:b≠c) :
  (((((W.setCell (Pv a 0) v0).setCell (Pv a 1) v1).setCell (Pv b 0) v2).setCell (Pv c 0) v3).setCell (Pv c 1) v4).heap[a]?=some (.cells #[v0,v1] t1) /\
  (((((W.setCell (Pv a 0) v0).setCell (Pv a 1) v1).setCell (Pv b 0) v2).setCell (Pv c 0) v3).setCell (Pv c 1) v4).heap[b]?=some (.cells #[v2] t2) /\
  (((((W.setCell (Pv a 0) v0).setCell (Pv a 1) v1).setCell (Pv b 0) v2).setCell (Pv c 0) v3).setCell (Pv c 1) v4).heap[c]?=some (.cells #[v3,v4] t3) :=
 ⟨a0o (a0o (a0o (a0i h1) ab) ac) ac,a0o (a0o (a1o (a0o (a0o h2 ab.symm) ab.symm)) bc) bc,a0i (a0o (a0o (a0o h3 ac.symm) ac.symm) bc.symm)⟩
theorem ron1_any (e a:Int) (w:World):Calls prog 46 #[Iv e,Iv a] w λr w'=>r=.returned (.tuple #[.agg #[sN,sN],.agg #[sN],.agg #[Iv e,Iv a]])/\Bl w w':=by
 obtain⟨X,HX⟩:=nm (((w.alloc (.cells #[sN,sN] 25)).alloc (.cells #[sN] 34)).alloc (.cells #[Iv e,Iv a] 37))
 have aa:Bl w X:=(by rw[HX.o];exact(bA2 _ _ _).alloc (by simp;omega) _)
 have g0:X.heap[w.heap.size]?=some (.cells #[sN,sN] 25):=(by rw[HX.o];exact keep (b0d _ _ _) (bA1 _ _))
 have g1:X.heap[w.heap.size+1]?=some (.cells #[sN] 34):=(by rw[HX.o];exact keep (b0c _ _ _) (bA1 _ _))
 have g2:X.heap[w.heap.size+1+1]?=some (.cells #[Iv e,Iv a] 37):=by
  have:w.heap.size+1+1=((w.alloc (.cells #[sN,sN] 25)).alloc (.cells #[sN] 34)).heap.size:=by simp
  rw[HX.o,this];exact a9Z _ _
 have HG:Hid (X.heap[w.heap.size]?=some (.cells #[sN,sN] 25)/\X.heap[w.heap.size+1]?=some (.cells #[sN] 34)/\X.heap[w.heap.size+1+1]?=some (.cells #[Iv e,Iv a] 37)/\Bl w X):=⟨g0,g1,g2,aa⟩
 clear aa g0 g1 g2;go_enter func46,ntmps46;(go_wp2_with fail);rw[<-HX.o];exact b0b (v:=.tuple #[.agg #[sN,sN],.agg #[sN],.agg #[Iv e,Iv a]]) (a0m results46 _ _ w.heap.size (w.heap.size+1) (w.heap.size+1+1) 25 34 37 #[sN,sN] #[sN] #[Iv e,Iv a] (0,0) (0,0) (0,0) _ _ _ rfl rfl rfl HG.o.1 HG.o.2.1 HG.o.2.2.1 underlying25 underlying34 underlying37 rfl rfl rfl (by rw[a1b];rfl) (by rw[a0T];rfl) (by rw[a0q];rfl)) rfl ⟨rfl,HG.o.2.2.2⟩
structure RB (w V:World) (RN RT RF:Nat):Prop where
 n:V.heap[RN]?=some (.cells #[sN,sN] 25)
 t:V.heap[RT]?=some (.cells #[sN] 34)
 f:V.heap[RF]?=some (.cells #[Iv 0,Iv 0] 37)
 low:Bl w V
theorem RB.below {w V V':World}{RN RT RF:Nat}(h:RB w V RN RT RF) (hb:Bl V V'):RB w V' RN RT RF:=⟨keep h.n hb,keep h.t hb,keep h.f hb,h.low.trans (hb.mono h.low.size)⟩
theorem RB.cells {w V:World}{RN RT RF:Nat}(h:RB w V RN RT RF):(V.cell? (Pv RN 0)=some sN/\V.cell? (Pv RN 1)=some sN)/\V.cell? (Pv RT 0)=some sN/\(V.cell? (Pv RF 0)=some (Iv 0)/\V.cell? (Pv RF 1)=some (Iv 0))/\(V.frozen? (Pv RN 0)=false/\V.frozen? (Pv RN 1)=false)/\V.frozen? (Pv RT 0)=false/\V.frozen? (Pv RF 0)=false/\V.frozen? (Pv RF 1)=false :=
 ⟨tC2 h.n,a0x h.t,tC2 h.f,⟨b0a _ _ _ _ _ h.n,b0a _ _ _ _ _ h.n⟩,b0a _ _ _ _ _ h.t,b0a _ _ _ _ _ h.f,b0a _ _ _ _ _ h.f⟩
theorem OnS.rb {w W:World}{BN BT RN RT RF:Nat}{n:Net}{M:Nat->Prop}{T:Nat}{s:Sc}{n':Net}{oao:OA}{ocap:Nat}{t':List Tr}(h:OnS w W BN BT RN RT RF n M T s n' oao ocap t'):RB w W RN RT RF:=⟨h.rN,h.rT,h.rF,h.low⟩
theorem a3D (W:World) (e k:Nat) {lo:Nat}(hl:lo<=W.heap.size):(W.alloc (.cells #[] e)).ownsRow lo e k (.slice (some (Pv W.heap.size 0)) 0 0) 0 (a0f 0 k (λ_ _=>Iv 0)) :=
 ⟨a0p _ _ _,Or.inr ⟨W.heap.size,0,#[],rfl,hl,a9Z _ _,b0g _,by unfold maxLen;omega,by simp,by simp[a0f]⟩⟩
theorem cp_br {W:World}{ao:OA}{K cap:Nat}{bs:Nat->Br}(hr:BRow W ao K cap bs) (ab:a0s ao K cap) (hn:K<=1000) :
  ∃a1 c1 w',(Builtin.append_ #[22,22] 22 #[.slice (some (Pv W.heap.size 0)) 0 0,.slice ao K cap]).run prog (W.alloc (.cells #[] 65))=.ok (.slice a1 K c1) w'/\w'.ownsRow W.heap.size 65 5 (.slice a1 K c1) K (a0f K 5 (λi=>brC (bs i)))/\Bl W w':=by
 have aa:=bA1 W (.cells #[] 65);obtain⟨a1,c1,w',r,o,b,_⟩:=a0E (W.alloc (.cells #[] 65)) 22 65 _ 5 80 underlying22 a6H rfl om W.heap.size _ 0 _ (a3D W 65 5 (b0g _)) ao K cap (λi=>brC (bs i)) (λ_ j=>a8y _ j) (CRow.below hr aa) ab (by unfold maxLen;omega) om aa.size;rw[Nat.zero_add] at r o;rw[a0k K 5 _ (λi=>brC (bs i)) (λi hi=>by unfold catC;rw[iN om,Nat.sub_zero])] at o;exact⟨a1,c1,w',r,o,aa.trans b⟩
theorem cp_lk {W:World}{ao:OA}{K cap:Nat}{ls:Nat->Lk}(hr:LRow W ao K cap ls) (ab:a0s ao K cap) (hn:K<=1000) :
  ∃a1 c1 w',(Builtin.append_ #[23,23] 23 #[.slice (some (Pv W.heap.size 0)) 0 0,.slice ao K cap]).run prog (W.alloc (.cells #[] 103))=.ok (.slice a1 K c1) w'/\w'.ownsRow W.heap.size 103 6 (.slice a1 K c1) K (a0f K 6 (λi=>lkC (ls i)))/\Bl W w':=by
 have aa:=bA1 W (.cells #[] 103);obtain⟨a1,c1,w',r,o,b,_⟩:=a0E (W.alloc (.cells #[] 103)) 23 103 _ 6 48 underlying23 a6I rfl om W.heap.size _ 0 _ (a3D W 103 6 (b0g _)) ao K cap (λi=>lkC (ls i)) (λ_ j=>a5S _ j) (CRow.below hr aa) ab (by unfold maxLen;omega) om aa.size;rw[Nat.zero_add] at r o;rw[a0k K 6 _ (λi=>lkC (ls i)) (λi hi=>by unfold catC;rw[iN om,Nat.sub_zero])] at o;exact⟨a1,c1,w',r,o,aa.trans b⟩
theorem cp_int {W:World}{ao:OA}{cap:Nat}{l:List Int}(hr:IRow W ao l.length cap (IL l)) (ab:a0s ao l.length cap) (hn:l.length<=1000) :
  ∃a1 c1 w',(Builtin.append_ #[52,52] 52 #[.slice (some (Pv W.heap.size 0)) 0 0,.slice ao l.length cap]).run prog (W.alloc (.cells #[] 3))=.ok (.slice a1 l.length c1) w'/\w'.ownsRow W.heap.size 3 1 (.slice a1 l.length c1) l.length (a0j l)/\Bl W w':=by
 have aa:=bA1 W (.cells #[] 3);obtain⟨a1,c1,w',r,o,b,_⟩:=a0E (W.alloc (.cells #[] 3)) 52 3 _ 1 8 underlying52 infoI rfl om W.heap.size _ 0 _ (a3D W 3 1 (b0g _)) ao l.length cap (λi _=>Iv (IL l i)) (λ_ _=>rfl) (CRow.below hr aa) ab (by unfold maxLen;omega) om aa.size;rw[Nat.zero_add] at r o;rw[a0k l.length 1 _ (λi _=>Iv (IL l i)) (λi hi=>by unfold catC;rw[iN om,Nat.sub_zero])] at o;exact⟨a1,c1,w',r,o,aa.trans b⟩
theorem int_put {W:World}{base cap x:Nat}{ao:OA}{l:List Int}(h:W.ownsRow base 3 1 (.slice ao l.length cap) l.length (a0j l)) (hx:x<l.length) (z:Int) :
  ∃g,ao=some (Pv g 0)/\base<=g/\l.length<=cap/\W.frozen? (Pv g x)=false/\W.cell? (Pv g x)=some (Iv (IL l x))/\(W.setCell (Pv g x) (Iv z)).ownsRow base 3 1 (.slice ao (l.set x z).length cap) (l.set x z).length (a0j (l.set x z)):=by
 rcases a1G h with⟨_,e⟩ | ⟨g,aa,sp,e1,e2,e3,e4,e5,e6⟩
 ·omega
 ·injection e1 with e1 _ e7;subst e1 e7;have hc:=a1m e6 hx (show 0<1 by omega);rw[show x*1+0=x by omega] at hc;refine⟨g,rfl,e2,e3,b0a _ _ _ _ _ e6,hc,?_⟩;have h0:=a1D e6 hx (show 0<1 by omega) (Iv z);rw[show x*1+0=x by omega] at h0;rw[List.length_set];have h1:=a1H (base:=base) (c:=λa _=>Iv (IL (l.set x z) a)) e2 e3 e4 e5 (h0.trans (congrArg (λa=>some (Obj.cells a 3)) (a2o sp (λa ha y hy=>by
   unfold updC IL;by_cases q:a=x
   ·subst q;rw[iP ⟨rfl,om⟩];simp[ha]
   ·rw[iN (λp=>q p.1)];have:x≠a:=λe=>q e.symm;simp[this]))))
  unfold a0j;rw[List.length_set];exact h1
def RonW (w:World) (N:Nat->Prop) (n:Net) (t:List Tr) (ms:Nat->Nat->Mnd) (ds:Nat->Dn) (dn:Nat) (e:Ending) (w':World):Prop :=
 Bl w w'/\(((a0P n t ds dn).1≠0/\e=.returned (.tuple #[.agg #[sN,sN],.agg #[sN],.agg #[Iv (a0P n t ds dn).1,Iv (a0P n t ds dn).2]])) \/
  ((a0P n t ds dn).1=0/\∃(n':Net) (oao:OA) (ocap:Nat) (t':List Tr),e=.returned (.tuple #[n'.val,.agg #[.slice oao t'.length ocap],.agg #[Iv 0,Iv 0]])/\Bz N w' (λV=>SnOut V n t.length ((n.sc ms).all n.cn ds dn) n' oao ocap t')))
