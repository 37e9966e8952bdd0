/- TP4 -/
import Derived.Test.YtelebnancdjjiaaGreatDoorE09
import Derived.SizedLaws
import Derived.Deep.DeepHandedRow
import Derived.Lib.LaidTab
import Derived.Stop.LaidErr
import Derived.Deep.SlicePairs
import Derived.Deep.Slices
set_option maxRecDepth 100000
set_option maxHeartbeats 40000000
namespace Go.Proofs.YtelebnancdjjiaaGreatDoor
section
open Go.Proofs.Tryz Go.RowKit Go.ChangeShapes Go.WideShapes Go.ChangeAt
open Tk(Md Mnd Cn Sc Dn)
open Pl(Br Net Lk Pc En)
open Vc(V Of)
theorem infoInts:(prog.info? 52).map (λi=>(i.zero,i.size,i.bytes))=some (some sN,1,24):=by kernel_rfl
def ptsN (n:Net) (i:Nat):List Int:=(Pl.ends n.ls n.live n.L i).map (·.port)
def fitT (n:Net) (t:List Tr):Bool:=decide ((1:Int)<=(t.length:Int)/\(t.length:Int)<=4)&&decide (∀k,k<t.length->(tat t k).l.length=n.K/\∀i,i<n.K->(mat (tat t k).l i).has (ptsN n i)=true)
structure PsAt (w:World) (n:Net) (G Bp:Nat) (ps:Nat->Po) (k:Nat):Prop where
 blk:w.heap[G]?=some (.cells (rowC n.K 1 (λi _=>.slice (ps i).ao (ps i).l.length (ps i).cap)) 52)
 box:w.heap[Bp]?=some (.cells #[.slice (some ⟨G,0,none⟩) n.K n.K] 213)
 done:∀i,i<k->(ps i).l=ptsN n i/\ILs w (ps i).ao (ps i).cap (ps i).l/\∀ad,(ps i).ao=some ad->ad.block≠G
theorem PsAt.below {w w':World}{n:Net}{G Bp:Nat}{ps:Nat->Po}{k:Nat}(h:PsAt w n G Bp ps k) (hb:Bl w w'):PsAt w' n G Bp ps k:=⟨keep h.blk hb,keep h.box hb,λi hi=>⟨(h.done i hi).1,(h.done i hi).2.1.below hb,(h.done i hi).2.2⟩⟩
theorem PsAt.set {w:World}{n:Net}{G Bp:Nat}{ps:Nat->Po}{k:Nat}(h:PsAt w n G Bp ps k) (ac:Bp≠G) (hk:k<n.K) (p:Po) (hl:p.l=ptsN n k) (hI:ILs w p.ao p.cap p.l) (ha:∀ad,p.ao=some ad->ad.block≠G) :
  PsAt (w.setCell ⟨G,k,none⟩ (.slice p.ao p.l.length p.cap)) n G Bp (λi=>if i=k then p else ps i) (k+1):=by
 have ab:∀b,b≠G->(w.setCell ⟨G,k,none⟩ (.slice p.ao p.l.length p.cap)).heap[b]?=w.heap[b]?:=λb hb=>b0f _ _ _ _ (by exact hb);have e1:(⟨G,k,none⟩:Addr)=⟨G,k*1+0,none⟩:=(by simp)
 have aa:∀q:Po,ILs w q.ao q.cap q.l->(∀ad,q.ao=some ad->ad.block≠G)->ILs (w.setCell ⟨G,k,none⟩ (.slice p.ao p.l.length p.cap)) q.ao q.cap q.l:=λq h1 h2=>CRow.other h1 (λb off e _=>ab b (by have:=h2 _ e;exact this)) (by simp);refine⟨?_,(ab Bp ac).trans h.box,λi hi => ?_⟩
 ·rw[e1,a1r h.blk hk om,rC2 (d:=λi _=>.slice (if i=k then p else ps i).ao (if i=k then p else ps i).l.length (if i=k then p else ps i).cap) (λi _ j hj=>by
   unfold updC;by_cases q:i=k
   ·rw[iP ⟨q,om⟩,iP q]
   ·rw[iN (λp=>q p.1),iN q])]
 ·by_cases q:i=k
  ·subst q;simp only[iP];exact⟨hl,aa p hI ha,ha⟩
  ·simp only[iN q];have:=h.done i om;exact⟨this.1,aa _ this.2.1 this.2.2,this.2.2⟩
def psL (n:Net) (ps:Nat->Po):List Po:=(List.range n.K).map ps
theorem a4M (n:Net) (ps:Nat->Po):(psL n ps).length=n.K:=by simp[psL]
theorem a6J (n:Net) (ps:Nat->Po) {i:Nat}(h:i<n.K):pat (psL n ps) i=ps i:=by
 unfold pat psL;rw[List.getD_eq_getElem?_getD,List.getElem?_map,List.getElem?_range h];rfl
theorem PsAt.row {w:World}{n:Net}{G Bp:Nat}{ps:Nat->Po}(h:PsAt w n G Bp ps n.K):PoRow w (some ⟨G,0,none⟩) n.K (psL n ps):=by
 refine⟨?_,λi hi => ?_⟩
 ·rw[a4M];exact CRow.congr (a8z h.blk) (λi hi=>by rw[a6J n ps hi])
 ·rw[a4M] at hi;rw[a6J n ps hi];exact(h.done i hi).2.1
theorem fitT_odd {w:World}{n:Net}{G Bp:Nat}{ps:Nat->Po}(h:PsAt w n G Bp ps n.K) (t:List Tr):fitT n t=(decide ((1:Int)<=(t.length:Int)/\(t.length:Int)<=4) && !(oddT t (psL n ps))):=by
 unfold fitT;congr 1
 have e:∀k,eqF (tat t k).l (psL n ps)=decide ((tat t k).l.length=n.K/\∀i,i<n.K->(mat (tat t k).l i).has (ptsN n i)=true):=λk=>by
  unfold eqF;rw[decide_eq_decide,a4M];constructor
  ·rintro⟨h1,h2⟩;refine⟨h1,λi hi => ?_⟩;have:=h2 i om;rw[a6J n ps hi,(h.done i hi).1] at this;exact this
  ·rintro⟨h1,h2⟩;refine⟨h1,λi hi => ?_⟩;have aa:i<n.K:=om
   rw[a6J n ps aa,(h.done i aa).1];exact h2 i aa
 unfold oddT;rw[<-decide_not,decide_eq_decide];constructor
 ·rintro h1 ⟨k,hk,h2⟩;rw[e k,b0k (h1 k hk)] at h2;cases h2
 ·intro h1 k hk;have:=λq=>h1 ⟨k,hk,q⟩;rw[e k] at this;simpa using this
theorem a8P (n:Net) (oao:OA) (ocap:Nat) (t:List Tr) (w:World) (hK:n.K<=12) (hL:n.L<=40) (R:Pl.RightL n.K n.L n.ls) (ap:n.at' w) (ht:TrRow w oao ocap t) :
  Calls prog 101 #[.agg #[.slice oao t.length ocap],n.val] w λe w'=>e=.returned (.bool (fitT n t))/\Bl w w':=by
 have aE:∀W:World,(Instr.makeSlice 213 (Iv (n.K:Int)) (Iv (n.K:Int))).run prog W=.ok (.slice (some ⟨W.heap.size,0,none⟩) n.K n.K) (W.alloc (.cells (rowC n.K 1 (λ_ _=>sN)) 52)):=λW=>a1E W 213 52 sN 1 24 n.K underlying213 infoInts om rfl om om _ (λ_ j hj=>by rw[show j=0 by omega];rfl);obtain⟨X,HX⟩:=nm ((w.alloc (.cells #[.slice oao t.length ocap] 34)).alloc (.cells #[.slice n.bao n.K n.bcap,.slice n.lao n.L n.lcap] 25))
 have af:Bl w X:=(by rw[HX.o];exact bA2 _ _ _)
 have an:X.heap[w.heap.size]?=some (.cells #[.slice oao t.length ocap] 34):=(by rw[HX.o];exact b0d _ _ _)
 have al:X.heap[w.heap.size+1]?=some (.cells #[.slice n.bao n.K n.bcap,.slice n.lao n.L n.lcap] 25):=(by rw[HX.o];exact b0c _ _ _)
 have ai:X.heap.size=w.heap.size+2:=(by rw[HX.o];simp only[World.alloc,Array.size_push])
 obtain⟨G,HG⟩:=nm (w.heap.size+1+1)
 obtain⟨Bp,HP⟩:=nm (w.heap.size+1+1+1)
 obtain⟨Y,HY⟩:=nm ((X.alloc (.cells (rowC n.K 1 (λ_ _=>sN)) 52)).alloc (.cells #[.slice (some ⟨G,0,none⟩) n.K n.K] 213))
 have aq:G=X.heap.size:=(by rw[HG.o,ai])
 have am:Bp=X.heap.size+1:=(by rw[HP.o,ai])
 have ar:Hid (Bp≠G/\X.heap.size<=G):=⟨om,om⟩
 have au:Bl X Y:=(by rw[HY.o];exact bA2 _ _ _)
 have H0:Hid (∃ps,PsAt Y n G Bp ps 0/\Bl X Y):=⟨λ_=>po0,⟨by rw[HY.o,aq];exact b0d _ _ _,by rw[HY.o,am];exact b0c _ _ _,λi hi=>absurd hi om⟩,au⟩
 have HC:Hid (∀W,Bl X W->W.cell? ⟨w.heap.size,0,none⟩=some (.slice oao t.length ocap)/\(W.cell? ⟨w.heap.size+1,0,none⟩=some (.slice n.bao n.K n.bcap)/\W.cell? ⟨w.heap.size+1,1,none⟩=some (.slice n.lao n.L n.lcap))/\n.at' W/\TrRow W oao ocap t/\Bl w W):=λW hW=>by
  have h1:Bl w W:=af.trans (hW.mono af.size);exact⟨a9Y W _ 0 _ _ _ (keep an hW),tC2 (keep al hW),ap.below h1,ht.below h1,h1⟩
 have HR:Hid (Pl.RightL n.K n.L n.ls):=R;have ak:=HX.o;obtain⟨_,⟨n0,n1⟩,_⟩:=HC.o X (b0h _ _);rw[ak] at n0 n1;have aF:t.length<=ocap:=ht.row.1;have aH:=ht.many;clear ak ap ht R af an al ai aq am au;simp only[Pl.Net.val];go_enter func101,ntmps101;(go_wp2_with fail);rw[<-HX.o,<-HP.o,<-HG.o,<-HY.o];clear n0 n1;go_loopw [14] (λi wr=>∃k:Nat,k<=n.K/\i=Iv k/\Hid (∃ps,PsAt wr n G Bp ps k/\Bl X wr)) (λi _=>n.K-(intOf i).toNat)
 case atStart=>exact⟨0,om,rfl,H0⟩
 case round =>
  obtain⟨k,hk,rfl,hX⟩:=hrel;clear H0;obtain⟨ps,hI,hB⟩:=hX.o;by_cases hlt:k<n.K
  ·obtain⟨_,⟨n0,n1⟩,aa,_,_⟩:=HC.o wr hB;have b0:=a9Y wr Bp 0 _ _ _ hI.box;have av:Hid (∀V,Bl wr V->V.cell? ⟨G,k,none⟩=some (.slice (ps k).ao (ps k).l.length (ps k).cap)/\V.frozen? ⟨G,k,none⟩=false/\V.cell? ⟨Bp,0,none⟩=some (.slice (some ⟨G,0,none⟩) n.K n.K)/\V.cell? ⟨w.heap.size+1,1,none⟩=some (.slice n.lao n.L n.lcap)):=λV hV=>by
    have ab:=hI.below hV;have q:=a0C ab.blk hlt (show 0<1 by omega);rw[show k*1+0=k by omega] at q;exact⟨q,lF0 ab.blk _,a9Y V Bp 0 _ _ _ ab.box,(HC.o V (hB.trans (hV.mono hB.size))).2.1.2⟩
   have ax:Hid (∀V,Bl wr V->Calls prog 51 #[.slice n.lao n.L n.lcap,Iv k] V λe w'=>∃ao cap,e=.returned (.slice ao (ptsN n k).length cap)/\Hid (Bl wr w')/\Hid (∃ps,PsAt (w'.setCell ⟨G,k,none⟩ (.slice ao (ptsN n k).length cap)) n G Bp ps (k+1)/\Bl X (w'.setCell ⟨G,k,none⟩ (.slice ao (ptsN n k).length cap)))):=λV hV=>by
    refine(a4p n.lao n.K n.L n.lcap n.ls n.live k V hL (CRow.below aa.lks hV) HR.o).mono ?_;rintro e w' ⟨ao,cap,rfl,z1,z2,z3⟩;have ah:Bl wr w':=hV.trans (z2.mono hV.size);have ab:=hI.below ah;have aB:Bl X w':=hB.trans (ah.mono hB.size);have aG:G<wr.heap.size:=(gSm.1 hI.blk).1;refine⟨ao,cap,rfl,ah,λi=>if i=k then⟨ao,cap,ptsN n k⟩ else ps i,ab.set ar.o.1 hlt ⟨ao,cap,ptsN n k⟩ rfl z1 (λad e => ?_),aB.setCell ar.o.2 _⟩;have h1:=z3 ad e;have h2:=hV.size;omega
   have az:Hid (∀m,Bl wr (wr.drewN m)):=λm=>a0d (b0h _ _) m;have aj:Hid (Bl wr wr.drew):=b0i (b0h _ _);obtain⟨x1,x2,x3,x4⟩:=av.o wr (b0h _ _);have i0:(0:Int)<=(k:Int):=om
   have i1:(k:Int)<(n.K:Int):=om
   clear hX hI hB aa HC n0 n1 b0;generalize (ptsN n k).length=m at *;(go_wp2_with fail);go_region_with (go_at_call 51;refine(ax.o _ (by first | exact az.o _ | exact aj.o)).mono ?_;rintro e w2 ⟨a1,p1,rfl,HQ,H2⟩;obtain⟨y1,y2,y3,y4⟩:=av.o w2 HQ.o)
   (all_goals go_wp2_with fail);all_goals exact⟨⟨k+1,om,gn,H2⟩,io⟩
  ·obtain aD:k=n.K:=om
   rw[aD] at hI;have aI:¬(k:Int)<(n.K:Int):=om
   have ac:=fitT_odd hI t;obtain⟨m0,_,_,aw,ae⟩:=HC.o wr hB;have ay:Hid (Calls prog 147 #[.slice oao t.length ocap,.func (.func 144) #[] #[.pointer (some ⟨Bp,0,none⟩)]] wr λe w'=>e=.returned (.bool (oddT t (psL n ps)))/\Hid (Bl w w')):=(a7A oao ocap t (some ⟨G,0,none⟩) n.K (psL n ps) Bp wr aw hI.row (by rw[a4M];exact a9Y wr Bp 0 _ _ _ hI.box)).mono (λe w' h=>⟨h.1,ae.trans (h.2.mono ae.size)⟩);have aC:Hid (Bl w wr):=ae;clear hX hI hB aw ae HC;generalize oddT t (psL n ps)=od at *;by_cases q:(1:Int)<=(t.length:Int)/\(t.length:Int)<=4
   ·have ag:Hid (fitT n t=!od):=(by rw[ac,b0k q,Bool.true_and];exact rfl)
    clear ac;go_wp2_with (first | (go_at_call 63;refine(a0u _ _ _ _).mono ?_;rintro e w1 ⟨rfl,rfl⟩;rw[b0k q]) | (go_at_call 147;refine ay.o.mono ?_;rintro e w1 ⟨rfl,aj⟩))
    go_ret;exact⟨by rw[ag.o];rfl,aj.o⟩
   ·have ag:Hid (fitT n t=false):=(by rw[ac,b0j q,Bool.false_and];exact rfl)
    clear ac;go_wp2_with (go_at_call 63;refine(a0u _ _ _ _).mono ?_;rintro e w1 ⟨rfl,rfl⟩;rw[b0j q])
    go_ret;exact⟨by rw[ag.o];rfl,aC.o⟩
def wrT (n:Net) (t:List Tr) (dn:Nat):Int×Int:=if n.wrong.1≠0 then n.wrong else if fitT n t=false then(8,0) else if 30<dn then(5,0) else(0,0)
theorem a7B (n:Net) (oao:OA) (ocap:Nat) (t:List Tr) (aq:OA) (dn al:Nat) (w:World) (ai:n.Wf) (aj:n.at' w) (ht:TrRow w oao ocap t) (av:dn<=9223372036854775807) :
  Calls prog 66 #[n.val,.agg #[.slice oao t.length ocap],.slice aq dn al] w λe w'=>e=.returned (.agg (ftA (wrT n t dn)))/\Bl w w':=by
 obtain⟨X,HX⟩:=nm ((w.alloc (.cells #[.slice n.bao n.K n.bcap,.slice n.lao n.L n.lcap] 25)).alloc (.cells #[.slice oao t.length ocap] 34))
 obtain⟨Y,HY⟩:=nm (X.alloc (.cells #[Iv 0,Iv 0] 37))
 have ah:Bl w X:=(by rw[HX.o];exact bA2 _ _ _)
 have af:X.heap[w.heap.size]?=some (.cells #[.slice n.bao n.K n.bcap,.slice n.lao n.L n.lcap] 25):=(by rw[HX.o];exact b0d _ _ _)
 have ag:X.heap[w.heap.size+1]?=some (.cells #[.slice oao t.length ocap] 34):=(by rw[HX.o];exact b0c _ _ _)
 have ao:X.heap.size=w.heap.size+2:=(by rw[HX.o];simp only[World.alloc,Array.size_push])
 obtain⟨F,HF⟩:=nm (w.heap.size+1+1)
 have ap:F=X.heap.size:=(by rw[HF.o,ao])
 have ad:Bl X Y:=(by rw[HY.o];exact bA1 _ _)
 have ae:Y.heap[F]?=some (.cells #[Iv 0,Iv 0] 37):=(by rw[HY.o,ap];exact a9Z _ _)
 have ac:Bl w Y:=ah.trans (ad.mono ah.size);have n1:=tC2 af;have n2:=a9Y X _ 0 _ _ _ ag;rw[HX.o] at n1 n2;obtain⟨n0,n1⟩:=n1;have m1:=tC2 (keep af ad);have m2:=a9Y Y _ 0 _ _ _ (keep ag ad);rw[HY.o,HX.o] at m1 m2;obtain⟨m0,m1⟩:=m1;have HC:Hid (∀V,Bl Y V->(V.cell? (Pv w.heap.size 0)=some (.slice n.bao n.K n.bcap)/\V.cell? (Pv w.heap.size 1)=some (.slice n.lao n.L n.lcap))/\V.cell? (Pv (w.heap.size+1) 0)=some (.slice oao t.length ocap)/\(V.cell? (Pv F 0)=some (Iv 0)/\V.cell? (Pv F 1)=some (Iv 0))/\V.frozen? (Pv F 0)=false/\V.frozen? (Pv F 1)=false):=λV hV =>
  ⟨tC2 (keep (keep af ad) hV),a9Y _ _ 0 _ _ _ (keep (keep ag ad) hV),tC2 (keep ae hV),b0a _ _ _ _ _ (keep ae hV),b0a _ _ _ _ _ (keep ae hV)⟩
 have HH:Hid (∀V,Bl Y V->V.heap[F]?=some (.cells #[Iv 0,Iv 0] 37)/\Bl w V/\w.heap.size<=F):=λV hV=>⟨keep ae hV,ac.trans (hV.mono ac.size),om⟩
 have HW:Hid (Calls prog 62 #[.agg #[.slice n.bao n.K n.bcap,.slice n.lao n.L n.lcap]] Y λe w'=>e=.returned (.agg #[Iv n.wrong.1,Iv n.wrong.2])/\Hid (Bl Y w')):=(a7w n Y (aj.below ac) ai).mono (λe w' h=>⟨h.1,h.2⟩);have ak:Hid (n.wrong.1=0->∀W,Bl Y W->Calls prog 101 #[.agg #[.slice oao t.length ocap],.agg #[.slice n.bao n.K n.bcap,.slice n.lao n.L n.lcap]] W λe w'=>e=.returned (.bool (fitT n t))/\Hid (Bl Y w')):=λh0 W hW=>by
  have R:=right_of ai h0;have an:=ac.trans (hW.mono ac.size);exact(a8P n oao ocap t W R.few R.fewL R.links (aj.below an) (ht.below an)).mono (λe w' h=>⟨h.1,hW.trans (h.2.mono hW.size)⟩)
 have au:Hid (∀V o,Bl Y V->Bl Y (V.alloc o)):=λV o hV=>hV.trans ((bA1 V o).mono hV.size);clear aj ht ai ah af ag ao ap ad ae ac;simp only[Pl.Net.val];go_enter func66,ntmps66;(go_wp2_with fail);rw[<-HX.o,<-HY.o,<-HF.o];refine HW.o.mono ?_;rintro e w1 ⟨rfl,H1⟩;obtain⟨V1,ab⟩:=nm (w1.alloc (.cells #[Iv n.wrong.1,Iv n.wrong.2] 37))
 have H2:Hid (Bl Y V1):=(by rw[ab.o];exact au.o _ _ H1.o)
 obtain⟨⟨p0,p1⟩,p2,⟨p3,p4⟩,p5,p6⟩:=HC.o V1 H2.o;have p7:V1.cell? (Pv w1.heap.size 0)=some (Iv n.wrong.1)/\V1.cell? (Pv w1.heap.size 1)=some (Iv n.wrong.2):=tC2 (by rw[ab.o];exact a9Z _ _);obtain⟨p7,p8⟩:=p7;clear n0 n1 n2 m0 m1 m2 HW;by_cases q:n.wrong.1=0
 ·have am:Hid (Calls prog 101 #[.agg #[.slice oao t.length ocap],.agg #[.slice n.bao n.K n.bcap,.slice n.lao n.L n.lcap]] V1 λe w'=>e=.returned (.bool (fitT n t))/\Hid (Bl Y w')):=ak.o q V1 H2.o;have HR:Hid (wrT n t dn=if fitT n t=false then(8,0) else if 30<dn then(5,0) else(0,0)):=iN (λh=>h q);rw[ab.o] at p0 p1 p2 p3 p4 p5 p6 p7 p8;clear ak;generalize n.wrong.1=r1 at *;generalize n.wrong.2=r2 at *;subst q;(go_wp2_with fail);rw[<-ab.o];refine am.o.mono ?_;rintro e w3 ⟨rfl,H3⟩;clear p0 p1 p2 p3 p4 p5 p6 p7 p8 am;obtain⟨_,_,⟨p3,p4⟩,p5,p6⟩:=HC.o w3 H3.o;cases hf:fitT n t with
  | false =>
   have aa:Hid (ftA (wrT n t dn)=#[Iv 8,Iv 0]):=(by rw[HR.o,iP hf];exact rfl)
   clear HR hf;(go_wp2_with fail);exact b0b (v:=.agg #[Iv 8,Iv 0]) (a0b (p:=6) (ty:=37) results66 _ _ F 37 #[Iv 8,Iv 0] (0,0) _ rfl (a0i (HH.o _ H3.o).1) underlying37 rfl (by rw[a0q];rfl)) rfl ⟨by rw[aa.o],((HH.o _ H3.o).2.1.setCell (HH.o _ H3.o).2.2 _).setCell (HH.o _ H3.o).2.2 _⟩
  | true =>
   by_cases hd:30<dn
   ·have aa:Hid (ftA (wrT n t dn)=#[Iv 5,Iv 0]):=(by rw[HR.o,iN (by rw[hf];exact Bool.noConfusion),iP hd];exact rfl)
    have ar:(30:Int)<(dn:Int):=om
    clear HR hf hd;(go_wp2_with fail);exact b0b (v:=.agg #[Iv 5,Iv 0]) (a0b (p:=6) (ty:=37) results66 _ _ F 37 #[Iv 5,Iv 0] (0,0) _ rfl (a0i (HH.o _ H3.o).1) underlying37 rfl (by rw[a0q];rfl)) rfl ⟨by rw[aa.o],((HH.o _ H3.o).2.1.setCell (HH.o _ H3.o).2.2 _).setCell (HH.o _ H3.o).2.2 _⟩
   ·have aa:Hid (ftA (wrT n t dn)=#[Iv 0,Iv 0]):=(by rw[HR.o,iN (by rw[hf];exact Bool.noConfusion),iN hd];exact rfl)
    have ar:¬(30:Int)<(dn:Int):=om
    clear HR hf hd;(go_wp2_with fail);exact b0b (v:=.agg #[Iv 0,Iv 0]) (a0b (p:=6) (ty:=37) results66 _ _ F 37 #[Iv 0,Iv 0] (0,0) _ rfl (a0i (HH.o _ H3.o).1) underlying37 rfl (by rw[a0q];rfl)) rfl ⟨by rw[aa.o],((HH.o _ H3.o).2.1.setCell (HH.o _ H3.o).2.2 _).setCell (HH.o _ H3.o).2.2 _⟩
 ·have HR:Hid (wrT n t dn=n.wrong):=iP q;have q1:(n.wrong.1 != 0)=true:=(by simpa using q)
  rw[ab.o] at p0 p1 p2 p3 p4 p5 p6 p7 p8;clear ak;have aa:Hid (ftA (wrT n t dn)=#[Iv n.wrong.1,Iv n.wrong.2]):=(by rw[HR.o];exact rfl)
  (go_wp2_with fail);rw[<-ab.o];exact b0b (v:=.agg #[Iv n.wrong.1,Iv n.wrong.2]) (a0b (p:=6) (ty:=37) results66 _ _ F 37 #[Iv n.wrong.1,Iv n.wrong.2] (0,0) _ rfl (a0i (HH.o _ H2.o).1) underlying37 rfl (by rw[a0q];rfl)) rfl ⟨by rw[aa.o],((HH.o _ H2.o).2.1.setCell (HH.o _ H2.o).2.2 _).setCell (HH.o _ H2.o).2.2 _⟩
theorem a3a (n:Net):n.wrong.1=0↔¬(12<n.K\/40<n.L)/\(∀i,i<n.K->Pl.bErr n.bs i=0)/\∀i,i<n.L->Pl.lErr n.K n.ls i=0:=by
 unfold Pl.Net.wrong;by_cases c1:12<n.K\/40<n.L
 ·rw[iP c1];exact⟨λh=>(by cases h),λh=>absurd c1 h.1⟩
 ·rw[iN c1];by_cases c2:(Pl.firstTo (Pl.bErr n.bs) n.K).1=0
  ·rw[iN (λq=>q c2)];have hb:=(Pl.firstTo_zero _ _ c2).2;exact⟨λh=>⟨c1,hb,(Pl.firstTo_zero _ _ h).2⟩,λh=>by rw[Pl.firstTo_all _ _ h.2.2]⟩
  ·rw[iP c2];exact⟨λh=>absurd h c2,λh=>absurd (by rw[Pl.firstTo_all _ _ h.2.1]) c2⟩
def msT (t:List Tr) (k i:Nat):Mnd:=⟨(mat (tat t k).l i).md,(mat (tat t k).l i).roles,(mat (tat t k).l i).calm⟩
def CalmT (t:List Tr):Prop:=∀k,k<t.length->∀i,i<(tat t k).l.length->∀j,0<=(mat (tat t k).l i).calm.getD j 0/\(0<(mat (tat t k).l i).calm.getD j 0->(mat (tat t k).l i).roles.getD j 0=1\/(mat (tat t k).l i).roles.getD j 0=2)
theorem a2z {n:Net}{t:List Tr}:fitT n t=true↔(1<=t.length/\t.length<=4)/\∀k,k<t.length->(tat t k).l.length=n.K/\∀i,i<n.K->((mat (tat t k).l i).ports=n.pts i/\(mat (tat t k).l i).roles.length=(n.pts i).length/\(mat (tat t k).l i).calm.length=(n.pts i).length):=by
 unfold fitT;rw[Bool.and_eq_true,decide_eq_true_eq,decide_eq_true_eq];have e:∀(m:Mi) i,m.has (ptsN n i)=true↔(m.ports=n.pts i/\m.roles.length=(n.pts i).length/\m.calm.length=(n.pts i).length):=λm i=>by
  unfold Mi.has hasP;rw[Bool.and_eq_true,Bool.and_eq_true,decide_eq_true_eq,decide_eq_true_eq,decide_eq_true_eq];exact Iff.rfl
 constructor
 ·rintro⟨h1,h2⟩;exact⟨⟨om,om⟩,λk hk=>⟨(h2 k hk).1,λi hi=>(e _ _).1 ((h2 k hk).2 i hi)⟩⟩
 ·rintro⟨h1,h2⟩;exact⟨⟨om,om⟩,λk hk=>⟨(h2 k hk).1,λi hi=>(e _ _).2 ((h2 k hk).2 i hi)⟩⟩
theorem prio_mod {n:Net}(h:n.wrong.1=0) {i:Nat}(hi:i<n.K):∀j,j<(n.bs i).pn->(n.bs i).pv j%4096=0:=λj hj=>by
 have h0:=a2i (((a3a n).1 h).2.1 i hi);unfold Pl.brErr at h0;split at h0
 ·omega
 ·split at h0
  ·omega
  ·split at h0
   ·omega
   ·rename_i q1 q2 q3;have:=Pl.someTo_false (by simpa using q3) j hj;unfold Pl.oddP at this;simp only[Bool.or_eq_false_iff,decide_eq_false_iff_not,Decidable.not_not] at this;exact this.2
theorem reg_zero {n:Net}(h:n.wrong.1=0) {i:Nat}(hi:i<n.K):Rg.wrong (n.bs i).reg.s (n.bs i).reg.rev (n.bs i).reg.vs (n.bs i).reg.ts (n.bs i).reg.n=0:=by
 have h0:=a2i (((a3a n).1 h).2.1 i hi);unfold Pl.brErr at h0;split at h0
 ·omega
 ·split at h0
  ·omega
  ·split at h0
   ·omega
   ·exact h0
theorem net_fine {n:Net}(hw:n.Wf) (h:n.wrong.1=0) (ms:Nat->Nat->Mnd):Tk.Fine n.cn (n.sc ms):=by
 have R:=right_of hw h;refine⟨R.few,R.fewL,R.links,λi hi=>(R.fine i hi).addr,R.apart,λi hi=>⟨?_,λp hp => ?_⟩⟩
 ·show(lsF (n.bs i).pv (n.bs i).pn).length<=16;rw[a4K];exact(R.fine i hi).few
 ·obtain⟨j,hj,rfl⟩:=lsF_mem hp;exact⟨((R.fine i hi).prio j hj).1,((R.fine i hi).prio j hj).2,prio_mod h hi j hj⟩
theorem fit_ok {n:Net}{t:List Tr}{ms:Nat->Nat->Mnd}(hw:n.Wf) (h:n.wrong.1=0) (hf:fitT n t=true) (hc:CalmT t) (hm:∀k,k<t.length->∀i,i<n.K->ms k i=msT t k i):Tk.Ok n.cn (n.sc ms) t.length:=by
 obtain⟨_,h2⟩:=a2z.1 hf;refine⟨net_fine hw h _,λk hk i hi => ?_,λk hk i hi j => ?_⟩
 ·have hi:i<n.K:=hi;obtain⟨_,e2,e3⟩:=(h2 k hk).2 i hi;rw[Pl.Net.sc_E];have e:(n.pts i).length=(n.ends i).length:=(by unfold Pl.Net.pts;simp)
  show(ms k i).roles.length=_/\(ms k i).calm.length=_;rw[hm k hk i hi];exact⟨e2.trans e,e3.trans e⟩
 ·have hi:i<n.K:=hi;show 0<=(ms k i).calm.getD j 0/\(0<(ms k i).calm.getD j 0->(ms k i).roles.getD j 0=1\/(ms k i).roles.getD j 0=2)
  rw[hm k hk i hi];exact hc k hk i (by rw[(h2 k hk).1];exact hi) j
structure SnOut (w:World) (n:Net) (T:Nat) (s:Sc) (n':Net) (oao:OA) (ocap:Nat) (t':List Tr):Prop where
 net:n'.at' w
 wf:n'.Wf
 right:n'.wrong.1=0
 cn:n'.cn=n.cn
 sc:n'.sc s.ms=s
 row:TrRow w oao ocap t'
 len:t'.length=T
 each:∀k,k<T->(tat t' k).l.length=n.K/\∀i,i<n.K->msT t' k i=s.ms k i/\(mat (tat t' k).l i).ports=n.pts i
 ok:Tk.Ok n.cn s T
 regs:∀i,(n'.bs i).reg.s=(n.bs i).reg.s/\(n'.bs i).reg.rev=(n.bs i).reg.rev/\(n'.bs i).reg.n=(n.bs i).reg.n/\(n'.bs i).reg.vs=(n.bs i).reg.vs/\(n'.bs i).reg.ts=(n.bs i).reg.ts
theorem a6K {x:Int}(h : -9223372036854775808<=x/\x<=9223372036854775807):(Lit.int .i64 x).wf=true:=by
 have h1:IntKind.i64.min = -9223372036854775808:=dd
 have h2:IntKind.i64.max=9223372036854775807:=dd
 simp only[Lit.wf,Bool.and_eq_true,decide_eq_true_eq];rw[h1,h2];exact h
theorem lErr_of {K L:Nat}{ls:Nat->Lk}(R:Pl.RightL K L ls) {i:Nat}(hi:i<L):Pl.lErr K ls i=0:=by
 obtain⟨a1,a2,a3,a4,a5,a6⟩:=R.ok i hi;have h0:Pl.lkErr K (ls i)=0:=by
  unfold Pl.lkErr;rw[iN om,iN a3,iN om]
 unfold Pl.lErr;rw[iN (λq=>q h0),iN];rw[Bool.not_eq_true];cases hq:Vc.someTo (λj=>Pl.isEnd (ls j) (ls i).a (ls i).pa||Pl.isEnd (ls j) (ls i).b (ls i).pb) i with
 | false=>rfl
 | true =>
  obtain⟨j,hj,hb⟩:=Pl.someTo_iff.1 hq;obtain⟨b1,b2⟩:=R.one j i hj hi;rw[b1,b2] at hb;cases hb
theorem a6L {w:World}{base e k n:Nat}{v:Value}{xs:List Value}(h:w.ownsRow base e k v n xs):n<=9223372036854775807:=by
 obtain⟨_,q⟩:=h;rcases q with⟨_,e⟩ | ⟨g,cap,aa,_,_,_,hn,hm,_,_⟩
 ·omega
 ·unfold maxLen at hm;omega
def a1V (n:Net) (s:Sc) (bao:OA) (bcap:Nat) (lao:OA) (lcap:Nat) (f:Nat->OA×Nat×OA×Nat):Net :=
 ⟨bao,n.K,bcap,λi=>⟨(n.bs i).addr,(f i).1,(s.pr i).length,(f i).2.1,IL (s.pr i),⟨(n.bs i).reg.s,(n.bs i).reg.rev,(f i).2.2.1,(n.bs i).reg.n,(f i).2.2.2,(n.bs i).reg.vs,(n.bs i).reg.ts⟩⟩,lao,n.L,lcap,s.ls⟩
theorem lsF_IL (l:List Int):lsF (IL l) l.length=l:=by
 apply List.ext_getElem
 ·rw[a4K]
 ·intro i h1 h2;simp[lsF,IL,h2]
theorem a6b {n:Net}{s:Sc}{bao:OA}{bcap:Nat}{lao:OA}{lcap:Nat}{f:Nat->OA×Nat×OA×Nat}(hw:n.Wf) (h:n.wrong.1=0) (hf:Tk.Fine n.cn s):(a1V n s bao bcap lao lcap f).wrong.1=0/\(a1V n s bao bcap lao lcap f).Wf:=by
 obtain⟨h1,h2,h3⟩:=(a3a n).1 h;have R:=right_of hw h;refine⟨(a3a _).2 ⟨h1,λi hi => ?_,λi hi=>lErr_of hf.links hi⟩,λi hi=>hw.addr i hi,λi hi => ?_⟩
 ·have hi:i<n.K:=hi;have h0:=h2 i hi;have hb:Pl.brErr ((a1V n s bao bcap lao lcap f).bs i)=0:=by
   have hz:=reg_zero h hi;obtain⟨p1,p2⟩:=hf.prios i hi;have:=(R.fine i hi).addr;unfold Pl.brErr a1V;simp only;rw[iN om,iN om,iN]
   ·exact hz
   ·rw[Bool.not_eq_true];cases hq:Vc.someTo (λj=>Pl.oddP (IL (s.pr i) j)) (s.pr i).length with
    | false=>rfl
    | true =>
     obtain⟨j,hj,hb⟩:=Pl.someTo_iff.1 hq;have hm:=p2 (IL (s.pr i) j) (by unfold IL;rw[List.getD_eq_getElem?_getD,List.getElem?_eq_getElem hj];exact List.getElem_mem hj);unfold Pl.oddP at hb;rw[b0k ⟨hm.1,hm.2.1⟩,b0j (by rw[Decidable.not_not];exact hm.2.2)] at hb;cases hb
  unfold Pl.bErr at h0 ⊢;rw[iN (λq=>q hb)];rw[iN (λq=>q (a2i (h2 i hi)))] at h0;exact h0
 ·obtain⟨a1,a2,_,a4,a5,_⟩:=hf.links.ok i hi;have hK:n.cn.K<=12:=R.few;show(Lit.int .i64 (s.ls i).a).wf=true/\(Lit.int .i64 (s.ls i).pa).wf=true/\(Lit.int .i64 (s.ls i).b).wf=true/\(Lit.int .i64 (s.ls i).pb).wf=true;exact⟨a6K om,a6K om,a6K om,a6K om⟩
theorem a2A {w:World}{base e k m n cap:Nat}{ao:OA}{c:Nat->Nat->Value}(hk:0<k) (h:w.ownsRow base e k (.slice ao m cap) n (a0f n k c)):m=n/\CRow w ao n cap k c:=by
 obtain⟨ab,aa,e1,h1,_⟩:=a0W hk h;injection e1 with e2 e3 e4;subst e2 e4;exact⟨e3,h1⟩
def Kept (w:World) (b:Nat) (P:World->Prop):Prop:=∀V,(∀q,b<=q->q<w.heap.size->V.heap[q]?=w.heap[q]?)->P V
theorem Kept.here {w:World}{b:Nat}{P:World->Prop}(h:Kept w b P):P w:=h w (λ_ _ _=>rfl)
theorem a0m {P:Program}{fn:Func}{p q r:Tmp}{t1 t2 t3:TypeId}(h:fn.results=#[.cell p t1,.cell q t2,.cell r t3]) (aa:Array Value) (w:World) (g1 g2 g3:Nat) (u1 u2 u3:TypeId) (c1 c2 c3:Array Value) (f1 f2 f3:Nat×Nat) (d1 d2 d3:TypeDesc)
  (hp:aa.getD p undef=.pointer (some (Pv g1 0))) (hq:aa.getD q undef=.pointer (some (Pv g2 0))) (hr:aa.getD r undef=.pointer (some (Pv g3 0)))
  (h1:w.heap[g1]?=some (.cells c1 u1 f1)) (h2:w.heap[g2]?=some (.cells c2 u2 f2)) (h3:w.heap[g3]?=some (.cells c3 u3 f3))
  (k1:P.underlying t1=some d1) (k2:P.underlying t2=some d2) (k3:P.underlying t3=some d3)
  (e1:(match d1 with | .struct _ | .array _ _=>true | _=>false)=true) (e2:(match d2 with | .struct _ | .array _ _=>true | _=>false)=true) (e3:(match d3 with | .struct _ | .array _ _=>true | _=>false)=true)
  (i1:(P.info? t1).map (·.size)=some c1.size) (i2:(P.info? t2).map (·.size)=some c2.size) (i3:(P.info? t3).map (·.size)=some c3.size) :
  (results fn aa).run P w=.ok (.tuple #[.agg c1,.agg c2,.agg c3]) w:=by
 have ac:aa[p]?.getD undef=.pointer (some (Pv g1 0)):=(by simpa using hp)
 have ad:aa[q]?.getD undef=.pointer (some (Pv g2 0)):=(by simpa using hq)
 have ab:aa[r]?.getD undef=.pointer (some (Pv g3 0)):=(by simpa using hr)
 simp[results,h,ac,ad,ab,asAddr,run_loadVar_row w g1 u1 t1 c1 f1 d1 h1 k1 e1 i1,run_loadVar_row w g2 u2 t2 c2 f2 d2 h2 k2 e2 i2,run_loadVar_row w g3 u3 t3 c3 f3 d3 h3 k3 e3 i3]
theorem a2f {P:Program}{fn:Func}{p q:Tmp}{t1 t2:TypeId}(h:fn.results=#[.cell p t1,.cell q t2]) (aa:Array Value) (w:World) (g1 g2:Nat) (u1 u2:TypeId) (c1 c2:Array Value) (f1 f2:Nat×Nat) (d1 d2:TypeDesc)
  (hp:aa.getD p undef=.pointer (some (Pv g1 0))) (hq:aa.getD q undef=.pointer (some (Pv g2 0)))
  (h1:w.heap[g1]?=some (.cells c1 u1 f1)) (h2:w.heap[g2]?=some (.cells c2 u2 f2))
  (k1:P.underlying t1=some d1) (k2:P.underlying t2=some d2)
  (e1:(match d1 with | .struct _ | .array _ _=>true | _=>false)=true) (e2:(match d2 with | .struct _ | .array _ _=>true | _=>false)=true)
  (i1:(P.info? t1).map (·.size)=some c1.size) (i2:(P.info? t2).map (·.size)=some c2.size) :
  (results fn aa).run P w=.ok (.tuple #[.agg c1,.agg c2]) w:=by
 have ab:aa[p]?.getD undef=.pointer (some (Pv g1 0)):=(by simpa using hp)
 have ac:aa[q]?.getD undef=.pointer (some (Pv g2 0)):=(by simpa using hq)
 simp[results,h,ab,ac,asAddr,run_loadVar_row w g1 u1 t1 c1 f1 d1 h1 k1 e1 i1,run_loadVar_row w g2 u2 t2 c2 f2 d2 h2 k2 e2 i2]
theorem a0o {w:World}{g j o:Nat}{v:Value}{x:Obj}(h:w.heap[g]?=some x) (aa:g≠j):(w.setCell (Pv j o) v).heap[g]?=some x :=
 (b0f _ _ _ _ (by exact aa)).trans h
theorem a1o {w:World}{g:Nat}{a0 v0:Value}{ty:TypeId}(h:w.heap[g]?=some (.cells #[a0] ty (0,0))):(w.setCell (Pv g 0) v0).heap[g]?=some (.cells #[v0] ty (0,0)):=by
 rw[b0e _ _ _ _ _ _ h];rfl
theorem a0w {w:World}{g:Nat}{o:Obj}(h:w.heap[g]?=some o):w.drew.heap[g]?=some o:=h
theorem a8Q {W V:World}{b g o:Nat}{v:Value}(h:∀q,b<=q->V.heap[q]?=W.heap[q]?) (hg:g<b):∀q,b<=q->(V.setCell (Pv g o) v).heap[q]?=W.heap[q]?:=λq hq =>
 (b0f _ _ _ _ (by show q≠g;omega)).trans (h q hq)
def dnC (d:Dn) (j:Nat):Value:=if j=0 then Iv d.kind else if j=1 then Iv d.n else if j=2 then Iv d.tree else Iv d.value
abbrev DRow (w:World) (ao:OA) (n cap:Nat) (ds:Nat->Dn):Prop:=CRow w ao n cap 4 (λi=>dnC (ds i))
theorem DRow.cells {w:World}{b off n cap:Nat}{ds:Nat->Dn}(h:DRow w (some (Pv b off)) n cap ds) {i:Nat}(hi:i<n) :
  w.cell? (Pv b (off+i*4))=some (Iv (ds i).kind)/\w.cell? (Pv b (off+i*4+1))=some (Iv (ds i).n)/\w.cell? (Pv b (off+i*4+2))=some (Iv (ds i).tree)/\w.cell? (Pv b (off+i*4+3))=some (Iv (ds i).value):=by
 obtain⟨b',aa,e,_,hc⟩:=h.2 om;cases e
 exact⟨hc i hi 0 om,hc i hi 1 om,hc i hi 2 om,hc i hi 3 om⟩
def a0P (n:Net) (t:List Tr) (ds:Nat->Dn) (dn:Nat):Int×Int:=if (wrT n t dn).1≠0 then wrT n t dn else Tk.errTo n.cn ds dn
theorem a3q {n:Net}{t:List Tr}{ds:Nat->Dn}{dn:Nat}(h:(a0P n t ds dn).1=0):(wrT n t dn).1=0/\(Tk.errTo n.cn ds dn).1=0:=by
 unfold a0P at h;by_cases q:(wrT n t dn).1=0
 ·rw[iN (λz=>z q)] at h;exact⟨q,h⟩
 ·rw[iP q] at h;exact absurd h q
theorem a2O {n:Net}{t:List Tr}{dn:Nat}(h:(wrT n t dn).1=0):wrT n t dn=(0,0)/\n.wrong.1=0/\fitT n t=true/\dn<=30:=by
 unfold wrT at h ⊢;by_cases q:n.wrong.1=0
 ·rw[iN (λz=>z q)] at h ⊢;by_cases q2:fitT n t=false
  ·rw[iP q2] at h;cases h
  ·rw[iN q2] at h ⊢;by_cases q3:30<dn
   ·rw[iP q3] at h;cases h
   ·rw[iN q3];exact⟨rfl,q,by simpa using q2,om⟩
 ·rw[iP q] at h;exact absurd h q
theorem a0T:(prog.info? 34).map (·.size)=some 1:=by kernel_rfl
theorem a1b:(prog.info? 25).map (·.size)=some 2:=by kernel_rfl
theorem gTurns:prog.globalNamed "hedgerow/md5.turns" = some 1:=by kernel_rfl
theorem gTurnsType:(prog.globals[1]?).map (·.type)=some 301:=by kernel_rfl
theorem gAdds:prog.globalNamed "hedgerow/md5.addends" = some 0:=by kernel_rfl
theorem a8R:(prog.globals[0]?).map (·.type)=some 297:=by kernel_rfl
theorem cells52:prog.cellsOf 297=64:=by kernel_rfl
theorem a8S:prog.cellsOf 300=4:=by kernel_rfl
theorem cells32:prog.cellsOf 236=1:=by kernel_rfl
theorem cells3:prog.cellsOf 3=1:=by kernel_rfl
theorem tabs_of {W:World}(h:laidMetH prog [("hedgerow/md5.turns",Rows.laid_hedgerow_md5_turns),("hedgerow/md5.addends",Rows.laid_hedgerow_md5_addends)] W):Tabs W:=by
 have h':laidMet prog [("hedgerow/md5.turns",Rows.laid_hedgerow_md5_turns),("hedgerow/md5.addends",Rows.laid_hedgerow_md5_addends)] W:=h;refine⟨λi hi => ?_,λi hi => ?_⟩
 ·have ht:laidMet prog [("hedgerow/md5.addends",Lib.tabData .u32 Md.tab)] W:=laidMet.tail h';have:=Lib.tabIs_of_head (rest:=[]) gAdds a8R underlying297 underlying236 cells32 cells52 ht;exact this.cell gAdds i hi
 ·obtain⟨ps,⟨g',t',cs,ag,p,q,af,ah,ad,hd,_,_⟩,_⟩:=h';obtain rfl:=Option.some.inj (gTurns.symm.trans af);obtain rfl:=Option.some.inj (gTurnsType.symm.trans ah);obtain⟨xs,m,rfl,hx,hl,ai,ac⟩:=DataW.trod_array underlying301 hd;have ab:xs.map (·.1)=[Lib.tabData .i64 [7,12,17,22],Lib.tabData .i64 [5,9,14,20],Lib.tabData .i64 [4,11,16,23],Lib.tabData .i64 [6,10,15,21]]:=by
   have:=congrArg Prod.fst hx;simp only[Rows.laid_hedgerow_md5_turns] at this;exact(DataW.agg.inj this).symm
  have row:∀r zs,r<4->(xs.map (·.1))[r]?=some (Lib.tabData .i64 zs)->(cs.toList.drop (r*4)).take 4=zs.map λz=>Value.int .i64 z:=by
   intro r zs hr hz;have h1:=ac r hr;rw[a8S] at h1;simp only[List.getElem?_map,Option.map_eq_some_iff] at hz;obtain⟨y,hy,ae⟩:=hz;rw[hy] at h1;obtain⟨y1,y2⟩:=y;simp only at ae;subst ae;exact Lib.cells_of_tab underlying300 underlying3 cells3 a8S h1
  have cell:=World.var?_cell gTurns ad i;rw[cell];have aa:∀r j,j<4->cs[r*4+j]?=((cs.toList.drop (r*4)).take 4)[j]?:=by
   intro r j hj;rw[List.getElem?_take_of_lt hj,List.getElem?_drop,Array.getElem?_toList]
  rcases(show(∃j,j<4/\i=0*4+j)\/(∃j,j<4/\i=1*4+j)\/(∃j,j<4/\i=2*4+j)\/(∃j,j<4/\i=3*4+j) from by
   by_cases h1:i<4
   ·exact Or.inl ⟨i,h1,om⟩
   ·by_cases h2:i<8
    ·exact Or.inr (Or.inl ⟨i-4,om,om⟩)
    ·by_cases h3:i<12
     ·exact Or.inr (Or.inr (Or.inl ⟨i-8,om,om⟩))
     ·exact Or.inr (Or.inr (Or.inr ⟨i-12,om,om⟩))) with⟨j,hj,rfl⟩ | ⟨j,hj,rfl⟩ | ⟨j,hj,rfl⟩ | ⟨j,hj,rfl⟩
  ·rw[aa 0 j hj,row 0 [7,12,17,22] om (by rw[ab];rfl)];rcases(show j=0\/j=1\/j=2\/j=3 by omega) with rfl | rfl | rfl | rfl<;>rfl
  ·rw[aa 1 j hj,row 1 [5,9,14,20] om (by rw[ab];rfl)];rcases(show j=0\/j=1\/j=2\/j=3 by omega) with rfl | rfl | rfl | rfl<;>rfl
  ·rw[aa 2 j hj,row 2 [4,11,16,23] om (by rw[ab];rfl)];rcases(show j=0\/j=1\/j=2\/j=3 by omega) with rfl | rfl | rfl | rfl<;>rfl
  ·rw[aa 3 j hj,row 3 [6,10,15,21] om (by rw[ab];rfl)];rcases(show j=0\/j=1\/j=2\/j=3 by omega) with rfl | rfl | rfl | rfl<;>rfl
def rowPut (cs:Array Value):Obj->Obj
 | .cells _ t frozen=>.cells cs t frozen
 | o=>o
def laidW (w:World):World :=
 { w with heap:=(w.heap.modify 0 (rowPut (Md.tab.map (Value.int .u32)).toArray)).modify 1 (rowPut (Md.trn.map (Value.int .i64)).toArray) }
theorem cellsWay:prog.cellsOf 131=2:=by kernel_rfl
theorem a4N:prog.cellsOf 3=1:=by kernel_rfl
theorem a8T {H:Type}{enc:TypeId×Value->H}{W:World}{v:Value}{ad:Nat}{x:DataW H×List MemPlace}
  (hf:DataW.trod enc prog W 0 (λ_=>true) true ad 61 [v]=some x) :
  ∃ao n cap vs ts,v=.slice ao n cap/\WayRow W ao n cap vs ts/\n<=9223372036854775807:=by
 rcases Deep.open_slice_pairs underlying61 underlying131 cellsWay rfl rfl a4N a4N hf with⟨aa,_⟩ | ⟨a,len,cap,m,k,V0,V1,D0,D1,P0,P1,aa,_,hl,hm,af,_,hx⟩
 ·simp at aa;subst aa;exact⟨none,0,0,λ_=>0,λ_=>0,rfl,⟨b0g _,λh=>absurd h om⟩,om⟩
 ·simp at aa;subst aa;rw[iP rfl] at af;have ac:∀i,i<len->∃q:Int×Int,V0 i=.int .i64 q.1/\V1 i=.int .i64 q.2:=by
   intro i hi;obtain⟨_,_,t0,t1⟩:=hx i om;obtain⟨y0,e0,_,_⟩:=DataW.trod_int underlying3 t0;obtain⟨y1,e1,_,_⟩:=DataW.trod_int underlying3 t1;exact⟨(y0,y1),a1f e0,a1f e1⟩
  obtain⟨q,hq⟩:=Deep.choose_lt ac;refine⟨some a,len,cap,λi=>(q i).1,λi=>(q i).2,rfl,⟨hl,λhp => ?_⟩,by unfold maxLen at hm;omega⟩;obtain⟨b,off,ae⟩:=a;have ab:ae=none:=by
   have h0:=(hx 0 om).1;simpa[Addr.add] using World.cell?_spot h0
  subst ab;have hc:∀i,i<len->W.cell? (Pv b (off+i*2))=some (.int .i64 (q i).1)/\W.cell? (Pv b (off+i*2+1))=some (.int .i64 (q i).2):=by
   intro i hi;obtain⟨c0,c1,_,_⟩:=hx i om;rw[a1J,(hq i hi).1] at c0;rw[a1J,(hq i hi).2] at c1;exact⟨c0,c1⟩
  exact⟨b,off,rfl,b0r (hc 0 hp).1,hc⟩
theorem cellsNt:prog.cellsOf 25=2:=by kernel_rfl
theorem cellsBg:prog.cellsOf 65=5:=by kernel_rfl
theorem cellsLk:prog.cellsOf 103=6:=by kernel_rfl
theorem plist2 {α:Type}{l:List α}(h:l.length=2):∃c0 c1,l=[c0,c1]:=by
 match l,h with
 | [c0,c1],_=>exact⟨c0,c1,rfl⟩
theorem plist3 {α:Type}{l:List α}(h:l.length=3):∃c0 c1 c2,l=[c0,c1,c2]:=by
 match l,h with
 | [c0,c1,c2],_=>exact⟨c0,c1,c2,rfl⟩
theorem plist5 {α:Type}{l:List α}(h:l.length=5):∃c0 c1 c2 c3 c4,l=[c0,c1,c2,c3,c4]:=by
 match l,h with
 | [c0,c1,c2,c3,c4],_=>exact⟨c0,c1,c2,c3,c4,rfl⟩
theorem plist6 {α:Type}{l:List α}(h:l.length=6):∃c0 c1 c2 c3 c4 c5,l=[c0,c1,c2,c3,c4,c5]:=by
 match l,h with
 | [c0,c1,c2,c3,c4,c5],_=>exact⟨c0,c1,c2,c3,c4,c5,rfl⟩
theorem a3b {α:Type} [Inhabited α] {H:Type}{enc:TypeId×Value->H}{W:World}{t e:TypeId}{k:Nat}(hk:0<k) (ht:prog.underlying t=some (.slice e)) (hc:prog.cellsOf e=k) (C:α->Nat->Value) (Q:α->Prop)
  (ae:∀aa cs x,cs.length=k->DataW.trod enc prog W 0 (λ_=>true) true aa e cs=some x->∃a:α,(∀j,j<k->cs[j]?=some (C a j))/\Q a)
  {v:Value}{aa:Nat}{x:DataW H×List MemPlace}(hf:DataW.trod enc prog W 0 (λ_=>true) true aa t [v]=some x) :
  ∃(ao:OA) (n cap:Nat) (f:Nat->α),v=.slice ao n cap/\CRow W ao n cap k (λi=>C (f i))/\a0s ao n cap/\n<=9223372036854775807/\∀i,i<n->Q (f i):=by
 rcases Deep.open_slice ht hf with⟨ab,_⟩ | ⟨a,len,cap,m,q,D,Pl,ab,_,hl,hm,ai,_,hx⟩
 ·simp at ab;subst ab;exact⟨none,0,0,λ_=>default,rfl,CRow.none _ _ _ _ _,λ_=>⟨rfl,rfl⟩,om,λi hi=>absurd hi om⟩
 ·simp at ab;subst ab;rw[iP rfl] at ai;have af:∀i,i<len->∃t:α,(∀j,j<k->W.cell? (a.add (i*k+j))=some (C t j))/\Q t:=by
   intro i hi;obtain⟨aj,h1,h2⟩:=hx i om;rw[hc] at h1;obtain⟨_,ag,ac⟩:=World.cells?_some h1;obtain⟨t,h3,h4⟩:=ae _ _ _ ag h2;refine⟨t,λj hj => ?_,h4⟩;have kj:=ac j om;rw[Deep.add_add] at kj;rw[kj];exact h3 j hj
  obtain⟨f,hq⟩:=Deep.choose_lt af;refine⟨some a,len,cap,f,rfl,⟨hl,λhp => ?_⟩,(λe=>by cases e),by unfold maxLen at hm;omega,λi hi=>(hq i hi).2⟩;obtain⟨b,off,ah⟩:=a;have ad:ah=none:=by
   have h0:=(hq 0 om).1 0 om;simpa[Addr.add] using World.cell?_spot h0
  subst ad;have hc:∀i,i<len->∀j,j<k->_:=λi hi j hj=>(hq i hi).1 j hj;simp only[a1J] at hc;refine⟨b,off,rfl,b0r (hc 0 hp 0 hk),λi hi j hj => ?_⟩;have:=hc i hi j hj;rw[<-Nat.add_assoc] at this;exact this
theorem a8U {H:Type}{enc:TypeId×Value->H}{W:World}{v:Value}{aa:Nat}{x:DataW H×List MemPlace}
  (hf:DataW.trod enc prog W 0 (λ_=>true) true aa 52 [v]=some x) :
  ∃(ao:OA) (n cap:Nat) (f:Nat->Int),v=.slice ao n cap/\IRow W ao n cap f/\a0s ao n cap/\n<=9223372036854775807:=by
 obtain⟨ao,n,cap,f,h1,h2,h3,h4,_⟩:=a3b om underlying52 a4N (fun(x:Int) _=>.int .i64 x) (λ_=>True) (λaa cs x hl h=>by
  obtain⟨y,e,_,_⟩:=DataW.trod_int underlying3 h;exact⟨y,λj hj=>by
   obtain rfl:j=0:=om
   rw[e];rfl,trivial⟩) hf
 exact⟨ao,n,cap,f,h1,h2,h3,h4⟩
theorem a7C {H:Type}{enc:TypeId×Value->H}{W:World}{v:Value}{ab:Nat}{x:DataW H×List MemPlace}
  (hf:DataW.trod enc prog W 0 (λ_=>true) true ab 23 [v]=some x) :
  ∃(ao:OA) (n cap:Nat) (f:Nat->Lk),v=.slice ao n cap/\LRow W ao n cap f/\a0s ao n cap/\n<=9223372036854775807/\∀i,i<n->(Lit.int .i64 (f i).a).wf=true/\(Lit.int .i64 (f i).pa).wf=true/\(Lit.int .i64 (f i).b).wf=true/\(Lit.int .i64 (f i).pb).wf=true:=by
 haveI:Inhabited Lk:=⟨⟨0,0,0,0,0,false⟩⟩
 refine a3b om underlying23 cellsLk lkC (λl=>(Lit.int .i64 l.a).wf=true/\(Lit.int .i64 l.pa).wf=true/\(Lit.int .i64 l.b).wf=true/\(Lit.int .i64 l.pb).wf=true) (λab cs x hl h => ?_) hf;obtain⟨c0,c1,c2,c3,c4,c5,rfl⟩:=plist6 hl;obtain⟨xs,m,_,_,_,ac,aa⟩:=DataW.trod_struct underlying103 h;obtain⟨y0,y1,y2,y3,y4,y5,rfl⟩:=plist6 (by simpa using ac);obtain⟨a,e0,_,w0⟩:=DataW.trod_int underlying3 (aa 0 _ rfl);obtain⟨pa,e1,_,w1⟩:=DataW.trod_int underlying3 (aa 1 _ rfl);obtain⟨b,e2,_,w2⟩:=DataW.trod_int underlying3 (aa 2 _ rfl);obtain⟨pb,e3,_,w3⟩:=DataW.trod_int underlying3 (aa 3 _ rfl);obtain⟨co,e4,_,_⟩:=DataW.trod_int underlying3 (aa 4 _ rfl);obtain⟨up,e5,_⟩:=DataW.trod_bool underlying4 (aa 5 _ rfl);refine⟨⟨a,pa,b,pb,co,up⟩,λj hj => ?_,w0,w1,w2,w3⟩;rw[a1f e0,a1f e1,a1f e2,a1f e3,a1f e4,a1f e5];rcases(by omega:j=0\/j=1\/j=2\/j=3\/j=4\/j=5) with q | q | q | q | q | q<;>subst q<;>rfl
theorem a5r {H:Type}{enc:TypeId×Value->H}{W:World}{c0 c1 c2:Value}{aa:Nat}{x:DataW H×List MemPlace}
  (hf:DataW.trod enc prog W 0 (λ_=>true) true aa 63 [c0,c1,c2]=some x) :
  ∃r:Rg.Reg,c0=.string r.s/\c1=.int .i64 r.rev/\c2=.slice r.ao r.n r.cap/\r.at' W/\r.n<=9223372036854775807:=by
 obtain⟨xs,m,_,_,_,ac,ab⟩:=DataW.trod_struct underlying63 hf;obtain⟨y0,y1,y2,rfl⟩:=plist3 (by simpa using ac);have g2:=ab 2 _ rfl;obtain⟨s,e0,_⟩:=DataW.trod_string underlying9 (ab 0 _ rfl);obtain⟨ad,e1,_,_⟩:=DataW.trod_int underlying3 (ab 1 _ rfl);obtain⟨ao,n,cap,vs,ts,e2,hr,hn⟩:=a8T g2;exact⟨⟨s,ad,ao,n,cap,vs,ts⟩,a1f e0,a1f e1,e2,hr,hn⟩
theorem cellsDo:prog.cellsOf 106=4:=by kernel_rfl
theorem bytesDo:prog.bytesOf 106=32:=by kernel_rfl
theorem plist4 {α:Type}{l:List α}(h:l.length=4):∃c0 c1 c2 c3,l=[c0,c1,c2,c3]:=by
 match l,h with
 | [c0,c1,c2,c3],_=>exact⟨c0,c1,c2,c3,rfl⟩
theorem dos_cell {H:Type}{enc:TypeId×Value->H}{W:World}{v:Value}{aa:Nat}{x:DataW H×List MemPlace}
  (hf:DataW.trod enc prog W 0 (λ_=>true) true aa 26 [v]=some x) :
  ∃(ao:OA) (n cap:Nat) (ds:Nat->Dn),v=.slice ao n cap/\DRow W ao n cap ds/\a0s ao n cap/\n<=9223372036854775807/\∀i,i<n->True:=by
 haveI:Inhabited Dn:=⟨⟨0,0,0,0⟩⟩
 refine a3b om underlying26 cellsDo dnC (λ_=>True) (λaa cs x hl h => ?_) hf;obtain⟨c0,c1,c2,c3,rfl⟩:=plist4 hl;obtain⟨xs,m,_,_,_,ac,ab⟩:=DataW.trod_struct underlying106 h;obtain⟨y0,y1,y2,y3,rfl⟩:=plist4 (by simpa using ac);obtain⟨a,e0,_,_⟩:=DataW.trod_int underlying3 (ab 0 _ rfl);obtain⟨b,e1,_,_⟩:=DataW.trod_int underlying3 (ab 1 _ rfl);obtain⟨c,e2,_,_⟩:=DataW.trod_int underlying3 (ab 2 _ rfl);obtain⟨d,e3,_,_⟩:=DataW.trod_int underlying3 (ab 3 _ rfl);refine⟨⟨a,b,c,d⟩,λj hj => ?_,trivial⟩;rw[a1f e0,a1f e1,a1f e2,a1f e3];rcases(by omega:j=0\/j=1\/j=2\/j=3) with q | q | q | q<;>subst q<;>rfl
theorem dos_many {H:Type}{enc:TypeId×Value->H}{W:World}{ao:OA}{n cap:Nat}{ab:Nat}{x:DataW H×List MemPlace}
  (hf:DataW.trod enc prog W 0 (λ_=>true) true ab 26 [.slice ao n cap]=some x) (hz:(x.1.weights prog 26).all (·<=reachBytes)=true):n*32<=reachBytes:=by
 rcases Deep.open_slice underlying26 hf with⟨aa,_⟩ | ⟨a,len,ac,m,k,D,Pl,aa,_,hl,hm,ad,hx,_⟩
 ·simp at aa;omega
 ·simp at aa;obtain⟨_,rfl,rfl⟩:=aa;rw[iP rfl] at ad;rw[hx] at hz;unfold DataW.weights at hz;rw[underlying26] at hz;simp only[List.all_cons,Bool.and_eq_true,decide_eq_true_eq,List.length_map,List.length_range,bytesDo] at hz;have:=hz.1;omega
theorem dos_in {H:Type}{enc:TypeId×Value->H}{W:World}{base:Nat}{v:Value}{D:DataW H}{ps:List MemPlace}
  (hv:Value.okWide prog W .any base 26 v) (h:DataW.Trod enc prog W 0 (λ_=>true) true 26 v D ps) :
  ∃(ao:OA) (n cap:Nat) (ds:Nat->Dn),v=.slice ao n cap/\DRow W ao n cap ds/\a0s ao n cap/\n<=9223372036854775807/\((D.weights prog 26).all (·<=reachBytes)=true->n*32<=reachBytes):=by
 obtain⟨a0,ab,ac,rfl⟩:=okWide_slice underlying26 hv;obtain⟨aa,hf⟩:=h;obtain⟨ao,n,cap,ds,e,h1,h2,h3,_⟩:=dos_cell hf;have e2:=e;injection e2 with e3 e4 e5;subst e3 e4 e5;exact⟨_,_,_,ds,rfl,h1,h2,h3,λhz=>dos_many hf hz⟩
