/- walks: the document's Wrong of frames -/
import Derived.Test.YtflghpnpjmodaaaGreatDoorH11
import Derived.Test.YtflghpnpjmodaaaGreatDoorH26
import Derived.Test.YtflghpnpjmodaaaGreatDoorH08
import Derived.Test.YtflghpnpjmodaaaGreatDoorH10
import Derived.Test.YtflghpnpjmodaaaGreatDoorH13
import Derived.Test.YtflghpnpjmodaaaGreatDoorH05
import Derived.Test.YtflghpnpjmodaaaGreatDoorH30
import Derived.Test.YtflghpnpjmodaaaGreatDoorH22
import Derived.Test.YtflghpnpjmodaaaGreatDoorH04
import Derived.Test.YtflghpnpjmodaaaGreatDoorH27
import Derived.Laws.OwnMore
set_option maxRecDepth 100000
set_option maxHeartbeats 40000000
namespace Go.Proofs.YtflghpnpjmodaaaGreatDoor
section
namespace Tk
open Vc (V Of)
open Pl (Lk En St RightL ends)
def Wd (m:Md):Prop:=(0≤m.v.root∧m.v.root<18446744073709551616)∧(0≤m.v.bridge∧m.v.bridge<18446744073709551616)∧(0≤m.v.cost∧m.v.cost≤1000000000)∧m.v.port=0∧0≤m.age∧m.age≤20
theorem wd_tick {ids:Nat→Int}{E:Nat→List En}{K:Nat}(G:Pl.Good ids E K) (hid:∀i,i<K→0≤ids i∧ids i<18446744073709551616) {x:Nat→Md}(h:∀i,i<K→Wd (x i)) {i:Nat}(hi:i<K):Wd (tick ids E x i):=by
 have hd:=hid i hi;show Wd (chM (ids i) (heard (E i) x));obtain⟨o1,o2,o3,_,_,o6,_⟩:=chM_own (ids i) (heard (E i) x);refine⟨?_,by rw[o1];exact hd,o6,o2,o3⟩;rcases chM_real (ids i) (heard (E i) x) with⟨e,_⟩ | ⟨o,ho,_,e,_⟩
 ·rw[e];exact hd
 ·rw[e];obtain⟨a,ha,hl,rfl⟩:=heard_mem ho;exact(h _ (Pl.toNat_lt (G.lt i hi a ha hl).1)).1
theorem wd_ticks {ids:Nat→Int}{E:Nat→List En}{K:Nat}(G:Pl.Good ids E K) (hid:∀i,i<K→0≤ids i∧ids i<18446744073709551616) {x:Nat→Md}(h:∀i,i<K→Wd (x i)):∀t i,i<K→Wd (ticks ids E x t i)
 | 0,i,hi=>h i hi
 | t+1,_,hi=>wd_tick G hid (wd_ticks G hid h t) hi
theorem sc_ids {c:Cn}{s:Sc}(hf:Fine c s) (tree:Int) {i:Nat}(hi:i<c.K):0≤s.ids c tree i∧s.ids c tree i<18446744073709551616:=by
 have ha:=hf.addr i hi;have hp:0≤prioOf (s.pr i) tree∧prioOf (s.pr i) tree≤61440:=by
  unfold prioOf;by_cases q:0≤tree∧tree≤((s.pr i).length:Int)-1
  ·rw[if_pos q];have hm:=(hf.prios i hi).2 ((s.pr i).getD tree.toNat 0) (by
    rw[List.getD_eq_getElem?_getD,List.getElem?_eq_getElem (show tree.toNat<(s.pr i).length by omega)];exact List.getElem_mem _)
   exact⟨hm.1,hm.2.1⟩
  ·rw[if_neg q];omega
 unfold Sc.ids;omega
theorem one_ms {c:Cn}(s:Sc) {d:Dn}(h:d.kind≠1):(s.one c d).ms=s.ms:=by
 unfold Sc.one;rw[if_neg h];repeat' split
 all_goals rfl
theorem wd_all {c:Cn}{s:Sc}{T:Nat}(hok:Ok c s T) (h:∀k,k<T→∀i,i<c.K→Wd (s.ms k i).md) (l:Nat→Dn):∀m,(∀k,k<m→errOf c (l k)=0)→∀k,k<T→∀i,i<c.K→Wd ((s.all c l m).ms k i).md
 | 0,_,k,hk,i,hi=>h k hk i hi
 | m+1,hl,k,hk,i,hi=>by
  have ih:=wd_all hok h l m (fun k hk=>hl k (by omega));have hf:=(hok.all l m (fun k hk=>hl k (by omega))).fine;show Wd (((s.all c l m).one c (l m)).ms k i).md;by_cases q:(l m).kind=1
  ·have e:(s.all c l m).one c (l m)=(s.all c l m).ticks c (l m).n.toNat:=(by unfold Sc.one;rw[if_pos q])
   rw[e];show Wd (ticksF ((s.all c l m).ids c k) ((s.all c l m).E c) ((s.all c l m).ms k) (l m).n.toNat i).md;rw[ticksF_md];exact wd_ticks (Pl.good hf.links hf.few _ _) (fun j hj=>sc_ids hf k hj) (fun j hj=>ih k hk j hj) _ i hi
  ·rw[one_ms _ q];exact ih k hk i hi
end Tk
end
section
open Go.RowKit
open Hl (Tl)
def talesL (n:Nat) (ts:Nat→Tl):List Value:=(List.range (n*6)).map (tlsC ts)
theorem talesL_length (n:Nat) (ts:Nat→Tl):(talesL n ts).length=n*6:=by simp[talesL]
theorem talesL_get (n:Nat) (ts:Nat→Tl) (j:Nat) (v:Value) (h:(talesL n ts)[j]?=some v):j<n*6∧v=tlsC ts j:=by
 have hj:j<n*6:=by
  have:=(List.getElem?_eq_some_iff.1 h).1;simpa[talesL] using this
 refine⟨hj,?_⟩;simp[talesL,hj] at h;exact h.symm
theorem tlC_one (t:Tl) (j:Nat):(l9tlC t j).oneCell'=true:=by
 unfold l9tlC;repeat' split
 all_goals rfl
theorem talesL_one (n:Nat) (ts:Nat→Tl):∀v∈talesL n ts,v.oneCell'=true:=by
 intro v hv;simp[talesL] at hv;obtain⟨i,_,rfl⟩:=hv;exact tlC_one _ _
def catT (n:Nat) (us ts:Nat→Tl) (i:Nat):Tl:=if i<n then us i else ts (i-n)
theorem talesL_cat (n m:Nat) (us ts:Nat→Tl):talesL n us++talesL m ts=talesL (n+m) (catT n us ts):=by
 apply List.ext_getElem?
 intro i;by_cases h:i<n*6
 ·rw[List.getElem?_append_left (by rw[talesL_length];exact h)];simp[talesL,h,show i<(n+m)*6 by omega];unfold tlsC catT;rw[if_pos (by omega)]
 ·rw[List.getElem?_append_right (by rw[talesL_length];omega),talesL_length];by_cases h2:i<(n+m)*6
  ·simp[talesL,h2,show i-n*6<m*6 by omega];unfold tlsC catT;rw[if_neg (by omega),show(i-n*6)/6=i/6-n by omega,show(i-n*6)%6=i%6 by omega]
  ·rw[List.getElem?_eq_none (by rw[talesL_length];omega),List.getElem?_eq_none (by rw[talesL_length];omega)]
theorem talesL_congr (n:Nat) (us ts:Nat→Tl) (h:∀i,i<n→us i=ts i):talesL n us=talesL n ts:=by
 unfold talesL;apply List.map_congr_left
 intro i hi;have:i<n*6:=by simpa using hi
 unfold tlsC;rw[h _ (by omega)]
theorem src_tales {W:World}{ao:Option Addr}{n cap:Nat}{ts:Nat→Tl}(h:TaleRow W ao n cap ts) {ad:Addr}(e:ao=some ad):∀j v,(talesL n ts)[j]?=some v→W.cell? (ad.add j)=some v:=by
 intro j v hj;obtain⟨hj1,rfl⟩:=talesL_get _ _ _ _ hj;obtain⟨b,off,e2,_,hc⟩:=h.2 (by omega);rw[e] at e2;cases e2
 rw[add_row];obtain⟨k0,k1,k2,k3,k4,k5⟩:=hc (j/6) (by omega);unfold tlsC;have hj6:j%6=0∨j%6=1∨j%6=2∨j%6=3∨j%6=4∨j%6=5:=(by omega)
 rcases hj6 with e | e | e | e | e | e
 ·rw[e,show off+j=off+j/6*6 by omega];exact k0
 ·rw[e,show off+j=off+j/6*6+1 by omega];exact k1
 ·rw[e,show off+j=off+j/6*6+2 by omega];exact k2
 ·rw[e,show off+j=off+j/6*6+3 by omega];exact k3
 ·rw[e,show off+j=off+j/6*6+4 by omega];exact k4
 ·rw[e,show off+j=off+j/6*6+5 by omega];exact k5
theorem owns_tales {w:World}{base n:Nat}{v:Value}{ts:Nat→Tl}(h:w.ownsRow base 66 6 v n (talesL n ts)):∃ao cap,v=.slice ao n cap∧TaleRow w ao n cap ts∧NilOk ao n cap∧(∀ad,ao=some ad→base≤ad.block):=by
 have h':=h;obtain⟨_,h2⟩:=h;rcases h2 with⟨rfl,rfl⟩ | ⟨g,cap,cur,rfl,hg,hh,hn,hm,_,_⟩
 ·exact⟨none,0,rfl,⟨Nat.le_refl _,fun h=>absurd h (by omega)⟩,fun _=>⟨rfl,rfl⟩,fun ad e=>by cases e⟩
 ·refine⟨_,cap,rfl,⟨hn,fun hp=>⟨g,0,rfl,?_,fun i hi => ?_⟩⟩,(fun e=>by cases e),(fun ad e=>by cases e;exact hg)⟩
  ·exact(gSm.1 hh).1
  ·have H:∀j,j<6→w.cell? ⟨g,0+i*6+j,none⟩=some (l9tlC (ts i) j):=fun j hj=>by
    rw[Nat.zero_add,h'.cellAt (i*6+j) (by omega)];simp[talesL,show i*6+j<n*6 by omega];unfold tlsC;rw[show(i*6+j)/6=i by omega,show(i*6+j)%6=j by omega]
   exact⟨H 0 (by omega),H 1 (by omega),H 2 (by omega),H 3 (by omega),H 4 (by omega),H 5 (by omega)⟩
theorem ownsT_below {w w':World}{base n:Nat}{v:Value}{xs:List Value}(h:w.ownsRow base 66 6 v n xs) (hb:Bl w w'):w'.ownsRow base 66 6 v n xs:=by
 obtain⟨h1,h2⟩:=h;refine⟨h1,?_⟩;rcases h2 with h2 | ⟨g,cap,cur,hv,hg,hh,r⟩
 ·exact Or.inl h2
 ·exact Or.inr ⟨g,cap,cur,hv,hg,keep hh hb,r⟩
theorem ownsT_block {w:World}{base n:Nat}{v:Value}{xs:List Value}(h:w.ownsRow base 66 6 v n xs):∀k,v.ownBlock=some k→base≤k:=by
 intro k hk;obtain⟨_,h2⟩:=h;rcases h2 with⟨rfl,_⟩ | ⟨g,cap,cur,rfl,hg,_⟩
 ·simp[Value.ownBlock] at hk
 ·simp[Value.ownBlock] at hk;omega
theorem append_tales_at (w:World) (base:Nat) (v:Value) (n:Nat) (us:Nat→Tl) (hown:w.ownsRow base 66 6 v n (talesL n us)) (ao:Option Addr) (m c:Nat) (ts:Nat→Tl) (hr:TaleRow w ao m c ts) (hnil:NilOk ao m c) (hb:(n+m)*48≤140737488355328) (hbase:base≤w.heap.size) :
  ∃a1 c1 w',(Builtin.append_ #[62,62] 62 #[v,.slice ao m c]).run Tryz.prog w=.ok (.slice a1 (n+m) c1) w'∧w'.ownsRow base 66 6 (.slice a1 (n+m) c1) (n+m) (talesL (n+m) (catT n us ts))∧Below base w w'∧(∀k,k<w.heap.size→some k≠v.ownBlock→w'.heap[k]?=w.heap[k]?):=by
 obtain⟨i0,hi,hz0,hz1,hz2⟩:=info_parts l9infoTl;cases ao with
 | none =>
  obtain⟨rfl,rfl⟩:=hnil rfl;have hrun:=run_append_owned_none (P:=Tryz.prog) (w:=w) base 62 62 66 i0 6 Tryz.underlying62 hi v n _ hown;obtain⟨a1,c1,rfl,_⟩:=owns_tales hown;refine⟨a1,c1,w,hrun,?_,Below.refl _ _,fun _ _ _=>rfl⟩;rw[Nat.add_zero,talesL_congr n (catT n us ts) us (fun i hi=>if_pos hi)];exact hown
 | some ad =>
  obtain⟨v',w',hrun,h1,h2,_⟩:=run_append_own (P:=Tryz.prog) w base 62 62 66 i0 (.agg (tlA tl0)) 6 48 Tryz.underlying62 hi hz0 hz1 hz2 rfl (by decide) v n _ hown ad m c (talesL m ts) (talesL_length _ _) (src_tales hr rfl) (talesL_one _ _) (by unfold maxLen;omega) hb hbase;rw[talesL_cat] at h1;obtain⟨a1,c1,rfl,_⟩:=owns_tales h1;exact⟨a1,c1,w',hrun,h1,(Below.refl _ _).grown h2 hbase (ownsT_block hown),h2.block⟩
theorem one_tale {w:World}{g:Nat}{t:Tl}{ty:TypeId}(h:w.heap[g]?=some (.cells (tlA t) ty (0,0))):TaleRow w (some ⟨g,0,none⟩) 1 1 (fun _=>t):=by
 refine⟨Nat.le_refl _,fun _=>⟨g,0,rfl,(gSm.1 h).1,fun i hi => ?_⟩⟩;obtain rfl:i=0:=by omega
 exact tl_cells h
end
section
namespace Pl
open Vc (V Of)
section
variable {ids:Nat→Int}{ls:Nat→Lk}{lv:Nat→Bool}{K L m:Nat}{on:Nat→Nat}
end
end Pl
namespace Pl
open Vc (V Of)
def cand (far:Int) (o:Of):Prop:=0<far∧o.v.cost=far
instance (far:Int) (o:Of):Decidable (cand far o):=by unfold cand;infer_instance
section
variable {ids:Nat→Int}{ls:Nat→Lk}{lv:Nat→Bool}{K L m:Nat}{on:Nat→Nat}
def ptsTo (ls:Nat→Lk) (i:Nat) (p:Int):Nat→List Int
 | 0=>[]
 | k+1=>ptsTo ls i p k++if isEnd (ls k) (i:Int) p=true then [p] else []
def ptsAll (ls:Nat→Lk) (L i:Nat):Nat→List Int
 | 0=>[]
 | p+1=>ptsAll ls L i p++ptsTo ls i ((p:Int)+1) L
theorem ptsTo_one (R:RightL K L ls) (i:Nat) (p:Int):∀k,k≤L→(ptsTo ls i p k=[]∧∀j,j<k→isEnd (ls j) (i:Int) p=false)∨(ptsTo ls i p k=[p]∧∃j,j<k∧isEnd (ls j) (i:Int) p=true)
 | 0,_=>Or.inl ⟨rfl,fun j hj=>absurd hj (by omega)⟩
 | k+1,hk=>by
  simp only[ptsTo];rcases ptsTo_one R i p k (by omega) with⟨h1,h2⟩ | ⟨h1,j,hj,h2⟩
  ·rw[h1];cases c:isEnd (ls k) (i:Int) p with
   | true=>exact Or.inr ⟨rfl,k,by omega,c⟩
   | false =>
    refine Or.inl ⟨rfl,fun j hj => ?_⟩;by_cases e:j=k
    ·rw[e];exact c
    ·exact h2 j (by omega)
  ·rw[h1];have c:isEnd (ls k) (i:Int) p=false:=by
    obtain⟨o1,o2⟩:=R.one j k hj (by omega);cases c:isEnd (ls k) (i:Int) p with
    | false=>rfl
    | true =>
     unfold isEnd at c;simp only[Bool.or_eq_true,decide_eq_true_eq] at c;rcases c with⟨c1,c2⟩ | ⟨c1,c2⟩
     ·rw[c1,c2,h2] at o1;cases o1
     ·rw[c1,c2,h2] at o2;cases o2
   rw[c];exact Or.inr ⟨rfl,j,by omega,h2⟩
theorem ptsAll_rise (R:RightL K L ls) (i:Nat):∀n,(ptsAll ls L i n).Pairwise (· < ·)∧∀x,x∈ptsAll ls L i n↔(1≤x∧x≤(n:Int))∧∃k,k<L∧isEnd (ls k) (i:Int) x=true
 | 0=>⟨List.Pairwise.nil,fun x=>⟨fun h=>by simp[ptsAll] at h,fun h=>absurd h.1 (by omega)⟩⟩
 | n+1=>by
  obtain⟨h1,h2⟩:=ptsAll_rise R i n;simp only[ptsAll];rcases ptsTo_one R i ((n:Int)+1) L (Nat.le_refl _) with⟨q1,q2⟩ | ⟨q1,k,hk,q2⟩
  ·rw[q1,List.append_nil];refine⟨h1,fun x => ?_⟩;rw[h2 x];constructor
   ·rintro⟨a,b⟩;exact⟨by omega,b⟩
   ·rintro⟨a,k,hk,b⟩;by_cases e:x=(n:Int)+1
    ·rw[e,q2 k hk] at b;cases b
    ·exact⟨by omega,k,hk,b⟩
  ·rw[q1];refine⟨?_,fun x => ?_⟩
   ·rw[List.pairwise_append];refine⟨h1,List.pairwise_singleton _ _,fun x hx y hy => ?_⟩;have:=((h2 x).1 hx).1;rw[List.mem_singleton] at hy;omega
   ·rw[List.mem_append,h2 x,List.mem_singleton];constructor
    ·rintro(⟨a,b⟩ | rfl)
     ·exact⟨by omega,b⟩
     ·exact⟨by omega,k,hk,q2⟩
    ·rintro⟨a,b⟩;by_cases e:x=(n:Int)+1
     ·exact Or.inr e
     ·exact Or.inl ⟨by omega,b⟩
end
end Pl
end
section
open Go.RowKit
open Vc (V Of)
open Pl (Br Net Pc Lk En St)
def curP (ls:Nat→Lk) (L i q k:Nat):List Int:=Pl.ptsAll ls L i q++Pl.ptsTo ls i ((q:Int)+1) k
theorem curP_zero (ls:Nat→Lk) (L i q:Nat):curP ls L i q 0=Pl.ptsAll ls L i q:=by unfold curP;simp[Pl.ptsTo]
theorem curP_next (ls:Nat→Lk) (L i q:Nat):curP ls L i q L=Pl.ptsAll ls L i (q+1):=rfl
theorem curP_more (ls:Nat→Lk) (L i q k:Nat):curP ls L i q (k+1)=curP ls L i q k++if Pl.isEnd (ls k) (i:Int) ((q:Int)+1)=true then [(q:Int)+1] else []:=by
 unfold curP;simp only[Pl.ptsTo];rw[List.append_assoc]
theorem ptsTo_few (ls:Nat→Lk) (i:Nat) (p:Int):∀k,(Pl.ptsTo ls i p k).length≤k
 | 0=>Nat.le_refl _
 | k+1=>by
  have:=ptsTo_few ls i p k;simp only[Pl.ptsTo,List.length_append];split<;>simp<;>omega
theorem ptsAll_few (ls:Nat→Lk) (L i:Nat):∀q,(Pl.ptsAll ls L i q).length≤q*L
 | 0=>by simp[Pl.ptsAll]
 | q+1=>by
  have h1:=ptsAll_few ls L i q;have h2:=ptsTo_few ls i ((q:Int)+1) L;simp only[Pl.ptsAll,List.length_append];rw[Nat.add_mul];omega
theorem rports_own (n:Net) (i:Nat) (w:World) (hat:n.at' w) (hL:n.L≤40) (R:Pl.RightL n.K n.L n.ls) :
  Calls Tryz.prog 25 #[n.val,.int .i64 i] w fun e w'=>∃ao cap,e=.returned (.slice ao (Pl.ptsAll n.ls n.L i 30).length cap)∧IRow w' ao (Pl.ptsAll n.ls n.L i 30).length cap (IL (Pl.ptsAll n.ls n.L i 30))∧NilOk ao (Pl.ptsAll n.ls n.L i 30).length cap∧(∀ad,ao=some ad→w.heap.size≤ad.block)∧Bl w w'∧w'.ownsRow w.heap.size 3 1 (.slice ao (Pl.ptsAll n.ls n.L i 30).length cap) (Pl.ptsAll n.ls n.L i 30).length (intCells (Pl.ptsAll n.ls n.L i 30)):=by
 obtain⟨X,HX⟩:∃X,Hid (X=w.alloc (.cells #[.slice n.bao n.K n.bcap,.slice n.lao n.L n.lcap] 32)):=⟨_,rfl⟩
 have hXB:Bl w X:=(by rw[HX.out];exact bA1 _ _)
 have hXn:X.heap[w.heap.size]?=some (.cells #[.slice n.bao n.K n.bcap,.slice n.lao n.L n.lcap] 32):=(by rw[HX.out];exact heap_alloc_last _ _)
 have HC:Hid (∀W,Bl X W→(W.cell? ⟨w.heap.size,0,none⟩=some (.slice n.bao n.K n.bcap)∧W.cell? ⟨w.heap.size,1,none⟩=some (.slice n.lao n.L n.lcap))∧LRow W n.lao n.L n.lcap n.ls∧Bl w W):=fun W hW=>by
  have h1:Bl w W:=hXB.trans (hW.mono hXB.size);exact⟨tC2 (keep hXn hW),CRow.below hat.lks h1,h1⟩
 have HR:Hid (Pl.RightL n.K n.L n.ls):=R;have hcapL:=hat.lks.1;have H0:Hid (X.ownsRow X.heap.size 3 1 (.slice none (Pl.ptsAll n.ls n.L i 0).length 0) (Pl.ptsAll n.ls n.L i 0).length (intCells (Pl.ptsAll n.ls n.L i 0))∧Bl X X):=⟨ownsC_nil _ _ _ _ _,Below.refl _ _⟩
 have hwX:=hXB.size;clear hat R hXn hXB;simp only[Pl.Net.val];go_enter Tryz.func25,Tryz.ntmps25;(go_wp2_with fail);rw[←HX.out];go_loopw [5,6] (fun s5 s6 wr=>∃(q:Nat) (ao:Option Addr) (cap:Nat),(q:Int)≤30∧s6=.int .i64 ((q:Int)+1)∧s5=.slice ao (Pl.ptsAll n.ls n.L i q).length cap∧Hid (wr.ownsRow X.heap.size 3 1 (.slice ao (Pl.ptsAll n.ls n.L i q).length cap) (Pl.ptsAll n.ls n.L i q).length (intCells (Pl.ptsAll n.ls n.L i q))∧Bl X wr)) (fun _ s6 _=>31-(intOf s6).toNat)
 case atStart=>exact⟨0,none,0,by omega,rfl,rfl,H0⟩
 case round =>
  obtain⟨q,ao,cap,hq,rfl,rfl,hW⟩:=hrel;clear H0;by_cases hlt:(q:Int)<30
  ·obtain⟨⟨m0,m1⟩,_,_⟩:=HC.out wr hW.out.2;have c1:(q:Int)+1≤30:=(by omega)
   have H1:Hid (wr.ownsRow X.heap.size 3 1 (.slice ao (curP n.ls n.L i q 0).length cap) (curP n.ls n.L i q 0).length (intCells (curP n.ls n.L i q 0))∧Bl X wr):=(by rw[curP_zero];exact hW)
   have HL0:Hid ((Pl.ptsAll n.ls n.L i q).length=(curP n.ls n.L i q 0).length):=by show _=_;rw[curP_zero]
   clear hW;(go_wp2_with fail);clear m0 m1;go_loopw [5,16] (fun s5 s16 wr=>∃(k:Nat) (ao:Option Addr) (cap:Nat),k≤n.L∧s16=.int .i64 k∧s5=.slice ao (curP n.ls n.L i q k).length cap∧Hid (wr.ownsRow X.heap.size 3 1 (.slice ao (curP n.ls n.L i q k).length cap) (curP n.ls n.L i q k).length (intCells (curP n.ls n.L i q k))∧Bl X wr)) (fun _ s16 _=>n.L-(intOf s16).toNat)
   case atStart=>exact⟨0,ao,cap,by omega,rfl,by rw[HL0.out],H1⟩
   case round =>
    obtain⟨k,ao,cap,hk,rfl,rfl,hY⟩:=hrel;clear H1 HL0;by_cases hkL:k<n.L
    ·obtain⟨_,f1,_⟩:=HC.out wr hY.out.2;obtain⟨lb,loff,el,_⟩:=CRow.some f1 (by omega);rw[el] at f1 ⊢;obtain⟨c0,c1',c2,c3,c4,c5⟩:=LRow.cells f1 hkL;obtain⟨_,_,o3,_⟩:=HR.out.ok k hkL;have hmore:=curP_more n.ls n.L i q k;have hend:Pl.isEnd (n.ls k) (i:Int) ((q:Int)+1)=(decide ((n.ls k).a=(i:Int)∧(n.ls k).pa=(q:Int)+1)||decide ((n.ls k).b=(i:Int)∧(n.ls k).pb=(q:Int)+1)):=rfl;have hfew:(curP n.ls n.L i q k).length≤100000:=by
      have h1:=ptsAll_few n.ls n.L i q;have h2:=ptsTo_few n.ls i ((q:Int)+1) k;unfold curP;rw[List.length_append];have h3:q*n.L≤30*40:=Nat.mul_le_mul (by omega) hL;omega
     obtain⟨Z,HZ⟩:∃Z,Hid (Z=wr.alloc (.cells (lkA (n.ls k)) 83)):=⟨_,rfl⟩
     have hZB:Bl wr Z:=(by rw[HZ.out];exact bA1 _ _)
     have hZs:Z.heap.size=wr.heap.size+1:=(by rw[HZ.out];simp)
     have hsz:=hY.out.2.size;have HNO:Hid (Pl.isEnd (n.ls k) (i:Int) ((q:Int)+1)=false→Z.ownsRow X.heap.size 3 1 (.slice ao (curP n.ls n.L i q (k+1)).length cap) (curP n.ls n.L i q (k+1)).length (intCells (curP n.ls n.L i q (k+1)))∧Bl X Z):=fun h=>by
      rw[hmore,h,if_neg (by decide),List.append_nil];exact⟨ownsC_below hY.out.1 hZB,hY.out.2.trans (hZB.mono hY.out.2.size)⟩
     have HLN:Hid (Pl.isEnd (n.ls k) (i:Int) ((q:Int)+1)=false→(curP n.ls n.L i q (k+1)).length=(curP n.ls n.L i q k).length):=fun h=>by rw[hmore,h,if_neg (by decide),List.append_nil]
     have HYES:Hid (Pl.isEnd (n.ls k) (i:Int) ((q:Int)+1)=true→∃a1 c1 w2,(Builtin.append_ #[37,37] 37 #[.slice ao (curP n.ls n.L i q k).length cap,.slice (some ⟨wr.heap.size+1,0,none⟩) 1 1]).run Tryz.prog (Z.alloc (.cells #[.int .i64 ((q:Int)+1)] 3))=.ok (.slice a1 (curP n.ls n.L i q (k+1)).length c1) w2∧Hid (w2.ownsRow X.heap.size 3 1 (.slice a1 (curP n.ls n.L i q (k+1)).length c1) (curP n.ls n.L i q (k+1)).length (intCells (curP n.ls n.L i q (k+1)))∧Bl X w2)):=fun h=>by
      obtain⟨a1,c1,w2,r,ho,hb⟩:=int_more (ownsC_below hY.out.1 hZB) (by omega) hfew ((q:Int)+1);rw[hmore,h,if_pos rfl];rw[hZs] at r;have hBZ:Bl X Z:=hY.out.2.trans (hZB.mono hY.out.2.size);exact⟨a1,c1,w2,r,ho,hBZ.trans hb⟩
     have i0:(0:Int)≤(k:Int):=(by omega)
     have i1:(k:Int)<(n.L:Int):=(by omega)
     clear hY f1 hmore hZB hZs hfew HC HR el;generalize Pl.isEnd (n.ls k) (i:Int) ((q:Int)+1)=D at *;generalize n.ls k=l at *;obtain⟨la,pa,lb',pb,co,up⟩:=l;simp only at c0 c1' c2 c3 c4 c5 o3 hend;simp only[lkA] at *;by_cases ea:la=(i:Int)
     ·have fb:¬lb'=(i:Int):=(by omega)
      by_cases ep:pa=(q:Int)+1
      ·have hD:D=true:=(by rw[hend,decide_eq_true ⟨ea,ep⟩,Bool.true_or])
       obtain⟨a1,c1,w2,r,HN⟩:=HYES.out hD;have HRR:Hid _:=r;rw[HZ.out] at HRR;clear r HYES HNO HLN hend hD;subst ea;subst ep;go_wp2_with (at_builtin;refine wpList_append_run rfl (.tmp 42) (.tmp 44) 37 rfl _ _ _ rfl rfl HRR.out ?_)
       exact⟨⟨k+1,a1,c1,by omega,by go_num,rfl,HN⟩,by simp[intOf];omega⟩
      ·have hD:D=false:=(by rw[hend,decide_eq_false (fun h=>ep h.2),decide_eq_false (fun h=>fb h.1)];rfl)
       have HN:Hid _:=HNO.out hD;have HLE:Hid _:=HLN.out hD;have g1:(pa == (q:Int)+1)=false:=(by simp[ep])
       have g2:(lb' == (i:Int))=false:=(by simp[fb])
       rw[HZ.out] at HN;clear HYES HNO HLN hend hD;subst ea;(go_wp2_with fail);exact⟨⟨k+1,ao,cap,by omega,by go_num,by rw[HLE.out],HN⟩,by simp[intOf];omega⟩
     ·have g0:(la == (i:Int))=false:=(by simp[ea])
      by_cases eb:lb'=(i:Int)
      ·by_cases ep:pb=(q:Int)+1
       ·have hD:D=true:=(by rw[hend,decide_eq_true (⟨eb,ep⟩:lb'=(i:Int)∧pb=(q:Int)+1),Bool.or_true])
        obtain⟨a1,c1,w2,r,HN⟩:=HYES.out hD;have HRR:Hid _:=r;rw[HZ.out] at HRR;clear r HYES HNO HLN hend hD;subst eb;subst ep;go_wp2_with (at_builtin;refine wpList_append_run rfl (.tmp 42) (.tmp 44) 37 rfl _ _ _ rfl rfl HRR.out ?_)
        exact⟨⟨k+1,a1,c1,by omega,by go_num,rfl,HN⟩,by simp[intOf];omega⟩
       ·have hD:D=false:=(by rw[hend,decide_eq_false (fun h=>ea h.1),decide_eq_false (fun h=>ep h.2)];rfl)
        have HN:Hid _:=HNO.out hD;have HLE:Hid _:=HLN.out hD;have g1:(pb == (q:Int)+1)=false:=(by simp[ep])
        rw[HZ.out] at HN;clear HYES HNO HLN hend hD;subst eb;(go_wp2_with fail);exact⟨⟨k+1,ao,cap,by omega,by go_num,by rw[HLE.out],HN⟩,by simp[intOf];omega⟩
      ·have hD:D=false:=(by rw[hend,decide_eq_false (fun h=>ea h.1),decide_eq_false (fun h=>eb h.1)];rfl)
       have HN:Hid _:=HNO.out hD;have HLE:Hid _:=HLN.out hD;have g1:(lb' == (i:Int))=false:=(by simp[eb])
       rw[HZ.out] at HN;clear HYES HNO HLN hend hD;(go_wp2_with fail);exact⟨⟨k+1,ao,cap,by omega,by go_num,by rw[HLE.out],HN⟩,by simp[intOf];omega⟩
    ·have hnk:¬(k:Int)<(n.L:Int):=(by omega)
     have hkk:k=n.L:=(by omega)
     rw[hkk] at hY;have HN:Hid (wr.ownsRow X.heap.size 3 1 (.slice ao (Pl.ptsAll n.ls n.L i (q+1)).length cap) (Pl.ptsAll n.ls n.L i (q+1)).length (intCells (Pl.ptsAll n.ls n.L i (q+1)))∧Bl X wr):=hY;have HLE:Hid ((curP n.ls n.L i q k).length=(Pl.ptsAll n.ls n.L i (q+1)).length):=by show _=_;rw[hkk,curP_next]
     clear hY hkk HC;(go_wp2_with fail);exact⟨⟨q+1,ao,cap,by omega,by go_num,by rw[HLE.out],HN⟩,by simp[intOf];omega⟩
  ·have hq30:q=30:=(by omega)
   subst hq30;obtain⟨hO,hB⟩:=hW.out;have hlow:=(HC.out wr hB).2.2;obtain⟨a1,c1,e1,h1,h2,h3⟩:=owns_c (by omega) hO;injection e1 with e1 _ e2;subst e1;subst e2;have HE:Hid (IRow wr ao (Pl.ptsAll n.ls n.L i 30).length cap (IL (Pl.ptsAll n.ls n.L i 30))∧NilOk ao (Pl.ptsAll n.ls n.L i 30).length cap∧(∀ad,ao=some ad→w.heap.size≤ad.block)∧Bl w wr∧wr.ownsRow w.heap.size 3 1 (.slice ao (Pl.ptsAll n.ls n.L i 30).length cap) (Pl.ptsAll n.ls n.L i 30).length (intCells (Pl.ptsAll n.ls n.L i 30))):=⟨h1,h2,fun ad e=>Nat.le_trans hwX (h3 ad e),hlow,owns_mono hO hwX⟩
   clear hW hO hB hlow h1 h2 h3 HC;(go_wp2_with fail);go_ret;exact⟨ao,cap,rfl,HE.out.1,HE.out.2.1,HE.out.2.2.1,HE.out.2.2.2.1,HE.out.2.2.2.2⟩
theorem rports_any (n:Net) (i:Nat) (w:World) (hat:n.at' w) (hL:n.L≤40) (R:Pl.RightL n.K n.L n.ls) :
  Calls Tryz.prog 25 #[n.val,.int .i64 i] w fun e w'=>∃ao cap,e=.returned (.slice ao (Pl.ptsAll n.ls n.L i 30).length cap)∧IRow w' ao (Pl.ptsAll n.ls n.L i 30).length cap (IL (Pl.ptsAll n.ls n.L i 30))∧NilOk ao (Pl.ptsAll n.ls n.L i 30).length cap∧(∀ad,ao=some ad→w.heap.size≤ad.block)∧Bl w w':=by
 refine(rports_own n i w hat hL R).mono ?_;rintro e w' ⟨ao,cap,h1,h2,h3,h4,h5,_⟩;exact⟨ao,cap,h1,h2,h3,h4,h5⟩
end
section
open Go.RowKit
open Vc (V Of)
open Pl (Br Net Pc Lk En St)
open Tk (Md Mnd Cn Sc Dn)
open Hl (Tl)
def taleM (k:Nat) (m:Md):Tl:=⟨(k:Int),m.v.root,m.v.cost,m.v.bridge,m.v.port,m.age⟩
def talesM (t:List Tr) (i k:Nat):Tl:=taleM k (mat (tat t k).l i).md
theorem talesM_right {t:List Tr}{i T:Nat}(hT:T≤4) (h:∀k,k<T→Tk.Wd (mat (tat t k).l i).md):Hl.wrongTo (talesM t i) T=0∧∀k,k<T→(talesM t i k).wide:=by
 refine⟨?_,fun k hk=>⟨(h k hk).1,(h k hk).2.1⟩⟩;have H:∀m,m≤T→Hl.wrongTo (talesM t i) m=0:=by
  intro m;induction m with
  | zero=>intro _;rfl
  | succ m ih =>
   intro hm;refine Hl.wrongTo_succ _ _ (ih (by omega)) ?_;obtain⟨_,_,w3,w4,w5,w6⟩:=h m (by omega);have hf:(talesM t i m).fits:=by
    show(0≤(m:Int)∧(m:Int)≤15)∧(0≤(mat (tat t m).l i).md.age∧(mat (tat t m).l i).md.age≤255)∧(0≤(mat (tat t m).l i).md.v.cost∧(mat (tat t m).l i).md.v.cost≤1000000000)∧0≤(mat (tat t m).l i).md.v.port∧(mat (tat t m).l i).md.v.port≤30;omega
   have hl:¬(talesM t i m).tree≤Hl.last (talesM t i) m:=by
    unfold Hl.last;by_cases e:m=0
    ·rw[if_pos e];show ¬(m:Int) ≤ -1;omega
    ·rw[if_neg e];show ¬(m:Int)≤((m-1:Nat):Int);omega
   unfold Hl.taleErr;rw[if_pos hf,if_neg hl]
 exact H T (Nat.le_refl _)
theorem dg_rangeU (s:Md.St) (i:Nat):0≤Md.dg s i∧Md.dg s i≤255:=by
 unfold Md.dg;have h1:=Int.emod_nonneg (Md.wordOf s (i/4)/2 ^ (8*(i%4))) (show(256:Int)≠0 by decide);have h2:=Int.emod_lt_of_pos (Md.wordOf s (i/4)/2 ^ (8*(i%4))) (show(0:Int)<256 by decide);omega
theorem rise_fewU {l:List Int}{m:Nat}(h:l.Pairwise (· < ·)) (hx:∀x,x∈l→1≤x∧x≤(m:Int)):l.length≤m:=by
 induction m generalizing l with
 | zero =>
  cases l with
  | nil=>exact Nat.le_refl _
  | cons a l=>have:=hx a (by simp);omega
 | succ m ih =>
  have h1:=ih (l:=l.filter (fun x=>decide (x≤(m:Int)))) (h.filter _) (fun x hm=>by
   obtain⟨a,b⟩:=List.mem_filter.1 hm;have:=hx x a;simp at b;omega)
  have h2:(l.filter (fun x=>!decide (x≤(m:Int)))).length≤1:=by
   have hp:=h.filter (fun x=>!decide (x≤(m:Int)));have hm:∀x,x∈l.filter (fun x=>!decide (x≤(m:Int)))→x=(m:Int)+1:=fun x hm=>by
    obtain⟨a,b⟩:=List.mem_filter.1 hm;have:=hx x a;simp at b;omega
   generalize l.filter (fun x=>!decide (x≤(m:Int)))=k at *;match k with
   | []=>simp
   | [a]=>simp
   | a :: b :: k =>
    have:=(List.pairwise_cons.1 hp).1 b (by simp);have e1:=hm a (by simp);have e2:=hm b (by simp);omega
  have h3:l.length=(l.filter (fun x=>decide (x≤(m:Int)))).length+(l.filter (fun x=>!decide (x≤(m:Int)))).length:=by
   clear h hx ih h1 h2;induction l with
   | nil=>rfl
   | cons a l ih =>
    by_cases q:a≤(m:Int)
    ·simp[q,ih];omega
    ·simp[q,ih];omega
  omega
theorem pts_fewU {n:Net}(R:Pl.RightL n.K n.L n.ls) (i:Nat):(Pl.ptsAll n.ls n.L i 30).length≤30:=by
 obtain⟨h1,h2⟩:=Pl.ptsAll_rise R i 30;exact rise_fewU h1 (fun x hx=>((h2 x).1 hx).1)
theorem wrong_hello {a:Int}{m:Nat}(h0:0≤a) (h1:a<281474976710656) (hm:m≤109) (p v:Int):wrong 1652522221568 (a-a/1099511627776%2*1099511627776) false p v 34952 m=0:=by
 obtain⟨⟨h2,h3⟩,h4⟩:=one40 h0 h1;unfold wrong;rw[if_neg (by omega),if_neg (by omega)];simp;omega
theorem tales_next (t:List Tr) (i k:Nat):talesL (k+1) (catT k (talesM t i) (fun _=>talesM t i k))=talesL (k+1) (talesM t i):=by
 refine talesL_congr _ _ _ (fun j hj => ?_);unfold catT;by_cases e:j<k
 ·rw[if_pos e]
 ·rw[if_neg e,show k=j by omega]
theorem talesL_nil (w:World) (base:Nat) (ts:Nat→Tl):w.ownsRow base 66 6 (.slice none 0 0) 0 (talesL 0 ts):=⟨by simp[talesL],Or.inl ⟨rfl,rfl⟩⟩
theorem one_cellU {w:World}{g:Nat}{a0:Value}{ty:TypeId}(h:w.heap[g]?=some (.cells #[a0] ty (0,0))):w.cell? ⟨g,0,none⟩=some a0:=cell_of_row w g 0 _ _ _ h
theorem ownsT_set {W:World}{base n g o:Nat}{v x:Value}{xs:List Value}(h:W.ownsRow base 66 6 v n xs) (hg:g<base):(W.setCell ⟨g,o,none⟩ x).ownsRow base 66 6 v n xs:=by
 obtain⟨h1,h2⟩:=h;refine⟨h1,?_⟩;rcases h2 with h2 | ⟨g',cap,cur,hv,hg',hh,r⟩
 ·exact Or.inl h2
 ·exact Or.inr ⟨g',cap,cur,hv,hg',(heap_setCell_other _ _ _ _ (show g'≠g by omega)).trans hh,r⟩
structure HeS (w3 wr:World) (g k:Nat) (ta:Option Addr) (tc:Nat) (ts:Nat→Tl):Prop where
 low:Bl w3 wr
 box:wr.heap[w3.heap.size]?=some (.cells #[.slice (some ⟨g,0,none⟩) 16 16,.slice ta k tc] 64)
 own:wr.ownsRow (w3.heap.size+1) 66 6 (.slice ta k tc) k (talesL k ts)
theorem HeS.first (w3:World) (g:Nat) (ts:Nat→Tl):HeS w3 (w3.alloc (.cells #[.slice (some ⟨g,0,none⟩) 16 16,.slice none 0 0] 64)) g 0 none 0 ts:=⟨bA1 _ _,heap_alloc_last _ _,talesL_nil _ _ _⟩
theorem HeS.next {w3 U:World}{g k i:Nat}{ta:Option Addr}{tc:Nat}{t:List Tr}(h:HeS w3 U g k ta tc (talesM t i)) {x:Md}(hx:x=(mat (tat t k).l i).md) (hk:k≤4) :
  ∃a1 c1 W1,(Builtin.append_ #[62,62] 62 #[.slice ta k tc,.slice (some ⟨U.heap.size,0,none⟩) 1 1]).run Tryz.prog (U.drew.alloc (.cells #[.int .i64 (k:Int),.int .u64 x.v.root,.int .i64 x.v.cost,.int .u64 x.v.bridge,.int .i64 x.v.port,.int .i64 x.age] 66))=.ok (.slice a1 (k+1) c1) W1∧(Bl w3 (U.drew.alloc (.cells #[.int .i64 (k:Int),.int .u64 x.v.root,.int .i64 x.v.cost,.int .u64 x.v.bridge,.int .i64 x.v.port,.int .i64 x.age] 66))∧(U.drew.alloc (.cells #[.int .i64 (k:Int),.int .u64 x.v.root,.int .i64 x.v.cost,.int .u64 x.v.bridge,.int .i64 x.v.port,.int .i64 x.age] 66)).cell? ⟨w3.heap.size,1,none⟩=some (.slice ta k tc))∧(Bl w3 W1∧W1.cell? ⟨w3.heap.size,1,none⟩=some (.slice ta k tc)∧W1.frozen? ⟨w3.heap.size,1,none⟩=false)∧HeS w3 (W1.setCell ⟨w3.heap.size,1,none⟩ (.slice a1 (k+1) c1)) g (k+1) a1 c1 (talesM t i):=by
 subst hx;have hlt:w3.heap.size<U.heap.size:=(gSm.1 h.box).1;obtain⟨X,HX⟩:∃X,X=U.drew.alloc (.cells (tlA (talesM t i k)) 66):=⟨_,rfl⟩
 have hX:Bl U X:=(by rw[HX];exact(Below.drew (Below.refl _ _)).trans (show Below U.heap.size U.drew _ from bA1 U.drew _))
 have hXg:X.heap[U.heap.size]?=some (.cells (tlA (talesM t i k)) 66):=(by rw[HX];exact heap_alloc_last U.drew _)
 obtain⟨a1,c1,W1,hrun,hown,hbl,hoth⟩:=append_tales_at X (w3.heap.size+1) (.slice ta k tc) k (talesM t i) (ownsT_below h.own hX) (some ⟨U.heap.size,0,none⟩) 1 1 (fun _=>talesM t i k) (one_tale hXg) (fun e=>by cases e) (by omega) (by have:=hX.size;omega);rw[tales_next] at hown;have hbox:W1.heap[w3.heap.size]?=some (.cells #[.slice (some ⟨g,0,none⟩) 16 16,.slice ta k tc] 64):=(hoth _ (by have:=hX.size;omega) (fun e=>by have:=ownsT_block h.own _ e.symm;omega)).trans (keep h.box hX);have hlX:Bl w3 X:=h.low.trans (hX.mono h.low.size);have hlW:Bl w3 W1:=hlX.trans (hbl.mono (Nat.le_succ _));have hcX:=(tC2 (keep h.box hX)).2;rw[HX] at hrun hlX hcX;refine⟨a1,c1,W1,hrun,⟨hlX,hcX⟩,⟨hlW,(tC2 hbox).2,frozen_of_row _ _ 1 _ _ hbox⟩,⟨?_,?_,?_⟩⟩
 ·exact hlW.setCell (Nat.le_refl _) _
 ·rw[heap_setCell_same _ _ _ _ _ _ hbox];rfl
 ·exact ownsT_set hown (Nat.lt_succ_self _)
end
section
open Go.RowKit
open Hl (Tl)
theorem lsame_true (da db:Option Addr) (dn dc dc2:Nat) (dg dg2:Nat→Int) (ao bo:Option Addr) (n cap cap2:Nat) (ts:Nat→Tl) (w:World) (hn:n≤9223372036854775807)
  (h1:ByteRow w da dn dc dg) (h2:ByteRow w db dn dc2 dg2) (hd:∀i,i<dn→dg i=dg2 i) (hz1:NilOk da dn dc) (hz2:NilOk db dn dc2) (h3:TaleRow w ao n cap ts) (h4:TaleRow w bo n cap2 ts) :
  Calls Tryz.prog 21 #[.agg #[.slice da dn dc,.slice ao n cap],.agg #[.slice db dn dc2,.slice bo n cap2]] w fun e w'=>e=.returned (.bool true)∧Bl w w':=by
 obtain⟨W0,HW0⟩:∃W0,Hid (W0=(w.alloc (.cells #[.slice da dn dc,.slice ao n cap] 64)).alloc (.cells #[.slice db dn dc2,.slice bo n cap2] 64)):=⟨_,rfl⟩
 have HB0:Hid (Bl w W0):=(by rw[HW0.out];exact bA2 _ _ _)
 have hz:Hid (W0.heap.size=w.heap.size+2):=(by rw[HW0.out];simp[Hid])
 have HA1:Hid (W0.heap[w.heap.size]?=some (.cells #[.slice da dn dc,.slice ao n cap] 64)):=(by rw[HW0.out];exact heap_alloc2_old w _ _)
 have HA2:Hid (W0.heap[w.heap.size+1]?=some (.cells #[.slice db dn dc2,.slice bo n cap2] 64)):=(by rw[HW0.out];exact heap_alloc2_new w _ _)
 have HC:Hid (∀W,Bl W0 W→(W.cell? ⟨w.heap.size,0,none⟩=some (.slice da dn dc)∧W.cell? ⟨w.heap.size,1,none⟩=some (.slice ao n cap))∧(W.cell? ⟨w.heap.size+1,0,none⟩=some (.slice db dn dc2)∧W.cell? ⟨w.heap.size+1,1,none⟩=some (.slice bo n cap2))):=by
  intro W hW;have:=hz.out;exact⟨hl_cells ((hW.block _ (by omega)).trans HA1.out),hl_cells ((hW.block _ (by omega)).trans HA2.out)⟩
 have HR1:Hid (∀W,Bl W0 W→TaleRow W ao n cap ts):=fun W hW=>(h3.below HB0.out).below hW;have HR2:Hid (∀W,Bl W0 W→TaleRow W bo n cap2 ts):=fun W hW=>(h4.below HB0.out).below hW;have s1:(convert 60 9 (.slice da dn dc)).run Tryz.prog ((w.alloc (.cells #[.slice da dn dc,.slice ao n cap] 64)).alloc (.cells #[.slice db dn dc2,.slice bo n cap2] 64))=.ok (.string (strOf dn dg)) ((w.alloc (.cells #[.slice da dn dc,.slice ao n cap] 64)).alloc (.cells #[.slice db dn dc2,.slice bo n cap2] 64)):=by
  rw[←HW0.out];exact run_str W0 da dn dc dg (h1.below HB0.out) hz1
 have s2:(convert 60 9 (.slice db dn dc2)).run Tryz.prog ((w.alloc (.cells #[.slice da dn dc,.slice ao n cap] 64)).alloc (.cells #[.slice db dn dc2,.slice bo n cap2] 64))=.ok (.string (strOf dn dg)) ((w.alloc (.cells #[.slice da dn dc,.slice ao n cap] 64)).alloc (.cells #[.slice db dn dc2,.slice bo n cap2] 64)):=by
  rw[←HW0.out,strOf_congr _ _ _ hd];exact run_str W0 db dn dc2 dg2 (h2.below HB0.out) hz2
 clear h1 h2 h3 h4 hd hz1 hz2;generalize strOf dn dg=S at *;go_enter Tryz.func21,Tryz.ntmps21;(go_wp2_with fail);rw[←HW0.out];clear s1 s2;go_loopw [25] (fun i wr=>∃k:Nat,k≤n∧i=.int .i64 k∧Hid (Bl W0 wr)) (fun i _=>n-(intOf i).toNat)
 case atStart=>exact⟨0,by omega,rfl,Below.refl _ _⟩
 case round =>
  obtain⟨k,hk,rfl,hX⟩:=hrel;by_cases hlt:k<n
  ·have R1:=HR1.out wr hX.out;have R2:=HR2.out wr hX.out;have hc1:=R1.1;have hc2:=R2.1;obtain⟨b,off,rfl,hb,hc⟩:=R1.2 (by omega);obtain⟨b2,off2,rfl,hb2,hc2⟩:=R2.2 (by omega);obtain⟨a0,a1,a2,a3,a4,a5⟩:=hc k hlt;obtain⟨e0,e1,e2,e3,e4,e5⟩:=hc2 k hlt;obtain⟨⟨q0,q1⟩,⟨r0,r1⟩⟩:=HC.out wr hX.out;have HXX:Hid (∀q,Bl W0 (wr.drewN q)):=fun q=>below_drewN hX.out q;have ik:(0:Int)≤(k:Int):=(by omega)
   have im:(k:Int)<(n:Int):=(by omega)
   clear hc hc2 hX HC HR1 HR2 HA1 HA2;generalize (ts k).tree=tr at *;generalize (ts k).root=ro at *;generalize (ts k).cost=co at *;generalize (ts k).bridge=br at *;generalize (ts k).port=po at *;generalize (ts k).age=ag at *;(go_wp2_with fail);(go_quiet (fail));(go_wp2_with fail);exact⟨⟨k+1,by omega,by go_num,HXX.out _⟩,by simp[intOf];omega⟩
  ·obtain rfl:k=n:=by omega
   go_wp2
   go_ret;exact⟨rfl,HB0.out.trans (hX.out.mono HB0.out.size)⟩
end
section
open Go.RowKit
theorem rwrong2_any (d s:Int) (t:Bool) (p:Int) (dr:Bool) (v y:Int) (ao:Option Addr) (n c:Nat) (w:World) (h0:0≤s) :
  Calls Tryz.prog 24 #[.agg #[.int .u64 d,.int .u64 s,.bool t,.int .i64 p,.bool dr,.int .i64 v,.int .i64 y,.slice ao n c]] w fun e w'=>e=.returned (.int .i64 (wrong d s t p v y n))∧Bl w w':=by
 unfold wrong;by_cases c1:281474976710655<d∨281474976710655<s
 ·rw[if_pos c1];by_cases c2:(281474976710656:Int)≤d
  ·clear c1;go_enter Tryz.func24,Tryz.ntmps24;go_wp2
   go_ret;exact⟨rfl,bA1 _ _⟩
  ·have c3:(281474976710656:Int)≤s:=(by omega)
   clear c1;go_enter Tryz.func24,Tryz.ntmps24;go_wp2
   go_ret;exact⟨rfl,bA1 _ _⟩
 ·rw[if_neg c1];have c2:¬(281474976710656:Int)≤d:=(by omega)
  have c3:¬(281474976710656:Int)≤s:=(by omega)
  clear c1;by_cases c4:s/1099511627776%2=1
  ·rw[if_pos c4];go_enter Tryz.func24,Tryz.ntmps24;go_wp2
   go_ret;exact⟨rfl,bA1 _ _⟩
  ·rw[if_neg c4];have c4b:(s/1099511627776%2 == 1)=false:=(by simp[c4])
   by_cases c5:t=true∧¬((0≤v∧v≤4094)∧0≤p∧p≤7)
   ·rw[if_pos c5];obtain⟨rfl,c6⟩:=c5;by_cases v1:v<0
    ·go_enter Tryz.func24,Tryz.ntmps24;go_wp2
     go_ret;exact⟨rfl,bA1 _ _⟩
    ·by_cases v2:4094<v
     ·go_enter Tryz.func24,Tryz.ntmps24;go_wp2
      go_ret;exact⟨rfl,bA1 _ _⟩
     ·by_cases v3:p<0
      ·go_enter Tryz.func24,Tryz.ntmps24;go_wp2
       go_ret;exact⟨rfl,bA1 _ _⟩
      ·have v4:7<p:=(by omega)
       go_enter Tryz.func24,Tryz.ntmps24;go_wp2
       go_ret;exact⟨rfl,bA1 _ _⟩
   ·rw[if_neg c5];have ct:t=true→(¬v<0)∧(¬4094<v)∧(¬p<0)∧(¬7<p):=fun e=>by
     by_cases q:(0≤v∧v≤4094)∧0≤p∧p≤7
     ·omega
     ·exact absurd ⟨e,q⟩ c5
    clear c5;by_cases c6:(1536≤y∧y≤65535)∧y≠33024
    ·rw[if_neg (fun h=>h c6)];have y1:¬y<1536:=(by omega)
     have y2:¬65535<y:=(by omega)
     have y3:¬y=33024:=(by omega)
     have y4:(y == 33024)=false:=(by simp[y3])
     clear c6;by_cases c8:(1500:Int)<n
     ·have c9:1500<n:=(by omega)
      rw[if_pos c9];clear c9;cases t with
      | false =>
       go_enter Tryz.func24,Tryz.ntmps24;go_wp2
       go_ret;exact⟨rfl,bA1 _ _⟩
      | true =>
       obtain⟨t1,t2,t3,t4⟩:=ct rfl;go_enter Tryz.func24,Tryz.ntmps24;go_wp2
       go_ret;exact⟨rfl,bA1 _ _⟩
     ·have c9:¬1500<n:=(by omega)
      rw[if_neg c9];clear c9;cases t with
      | false =>
       go_enter Tryz.func24,Tryz.ntmps24;go_wp2
       go_ret;exact⟨rfl,bA1 _ _⟩
      | true =>
       obtain⟨t1,t2,t3,t4⟩:=ct rfl;go_enter Tryz.func24,Tryz.ntmps24;go_wp2
       go_ret;exact⟨rfl,bA1 _ _⟩
    ·rw[if_pos c6];cases t with
     | false =>
      by_cases y1:y<1536
      ·go_enter Tryz.func24,Tryz.ntmps24;go_wp2
       go_ret;exact⟨rfl,bA1 _ _⟩
      ·by_cases y2:65535<y
       ·go_enter Tryz.func24,Tryz.ntmps24;go_wp2
        go_ret;exact⟨rfl,bA1 _ _⟩
       ·obtain rfl:y=33024:=by omega
        go_enter Tryz.func24,Tryz.ntmps24;go_wp2
        go_ret;exact⟨rfl,bA1 _ _⟩
     | true =>
      obtain⟨t1,t2,t3,t4⟩:=ct rfl;by_cases y1:y<1536
      ·go_enter Tryz.func24,Tryz.ntmps24;go_wp2
       go_ret;exact⟨rfl,bA1 _ _⟩
      ·by_cases y2:65535<y
       ·go_enter Tryz.func24,Tryz.ntmps24;go_wp2
        go_ret;exact⟨rfl,bA1 _ _⟩
       ·obtain rfl:y=33024:=by omega
        go_enter Tryz.func24,Tryz.ntmps24;go_wp2
        go_ret;exact⟨rfl,bA1 _ _⟩
end
end Go.Proofs.YtflghpnpjmodaaaGreatDoor
