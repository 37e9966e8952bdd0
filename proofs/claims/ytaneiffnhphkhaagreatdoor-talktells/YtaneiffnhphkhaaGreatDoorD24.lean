/- walks: the document's Better -/
import Derived.Test.YtaneiffnhphkhaaGreatDoorD23
import Derived.Test.YtaneiffnhphkhaaGreatDoorD09
import Derived.Test.YtaneiffnhphkhaaGreatDoorD12
import Derived.Test.YtaneiffnhphkhaaGreatDoorD05
import Derived.Test.YtaneiffnhphkhaaGreatDoorD10
import Derived.Test.YtaneiffnhphkhaaGreatDoorD08
import Derived.Test.YtaneiffnhphkhaaGreatDoorD01
set_option maxRecDepth 100000
set_option maxHeartbeats 40000000
namespace Go.Proofs.YtaneiffnhphkhaaGreatDoor
section
namespace Pl
open Vc (V Of)
def cand (far:Int) (o:Of):Prop:=0<far∧o.v.cost=far
instance (far:Int) (o:Of):Decidable (cand far o):=by unfold cand;infer_instance
section
variable {ids:Nat→Int}{ls:Nat→Lk}{lv:Nat→Bool}{K L m:Nat}{on:Nat→Nat}
def ptsTo (ls:Nat→Lk) (i:Nat) (p:Int):Nat→List Int
 | 0=>[]
 | k+1=>ptsTo ls i p k++if isEnd (ls k) (i:Int) p=true then [p] else []
def ptsAll (ls:Nat→Lk) (L i:Nat):Nat→List Int
 | 0=>[]
 | p+1=>ptsAll ls L i p++ptsTo ls i ((p:Int)+1) L
theorem ptsTo_one (R:RightL K L ls) (i:Nat) (p:Int):∀k,k≤L→(ptsTo ls i p k=[]∧∀j,j<k→isEnd (ls j) (i:Int) p=false)∨(ptsTo ls i p k=[p]∧∃j,j<k∧isEnd (ls j) (i:Int) p=true)
 | 0,_=>Or.inl ⟨rfl,fun j hj=>absurd hj (by omega)⟩
 | k+1,hk=>by
  simp only[ptsTo];rcases ptsTo_one R i p k (by omega) with⟨h1,h2⟩ | ⟨h1,j,hj,h2⟩
  ·rw[h1];cases c:isEnd (ls k) (i:Int) p with
   | true=>exact Or.inr ⟨rfl,k,by omega,c⟩
   | false =>
    refine Or.inl ⟨rfl,fun j hj => ?_⟩;by_cases e:j=k
    ·rw[e];exact c
    ·exact h2 j (by omega)
  ·rw[h1];have c:isEnd (ls k) (i:Int) p=false:=by
    obtain⟨o1,o2⟩:=R.one j k hj (by omega);cases c:isEnd (ls k) (i:Int) p with
    | false=>rfl
    | true =>
     unfold isEnd at c;simp only[Bool.or_eq_true,decide_eq_true_eq] at c;rcases c with⟨c1,c2⟩ | ⟨c1,c2⟩
     ·rw[c1,c2,h2] at o1;cases o1
     ·rw[c1,c2,h2] at o2;cases o2
   rw[c];exact Or.inr ⟨rfl,j,by omega,h2⟩
theorem ptsAll_rise (R:RightL K L ls) (i:Nat):∀n,(ptsAll ls L i n).Pairwise (· < ·)∧∀x,x∈ptsAll ls L i n↔(1≤x∧x≤(n:Int))∧∃k,k<L∧isEnd (ls k) (i:Int) x=true
 | 0=>⟨List.Pairwise.nil,fun x=>⟨fun h=>by simp[ptsAll] at h,fun h=>absurd h.1 (by omega)⟩⟩
 | n+1=>by
  obtain⟨h1,h2⟩:=ptsAll_rise R i n;simp only[ptsAll];rcases ptsTo_one R i ((n:Int)+1) L (Nat.le_refl _) with⟨q1,q2⟩ | ⟨q1,k,hk,q2⟩
  ·rw[q1,List.append_nil];refine⟨h1,fun x => ?_⟩;rw[h2 x];constructor
   ·rintro⟨a,b⟩;exact⟨by omega,b⟩
   ·rintro⟨a,k,hk,b⟩;by_cases e:x=(n:Int)+1
    ·rw[e,q2 k hk] at b;cases b
    ·exact⟨by omega,k,hk,b⟩
  ·rw[q1];refine⟨?_,fun x => ?_⟩
   ·rw[List.pairwise_append];refine⟨h1,List.pairwise_singleton _ _,fun x hx y hy => ?_⟩;have:=((h2 x).1 hx).1;rw[List.mem_singleton] at hy;omega
   ·rw[List.mem_append,h2 x,List.mem_singleton];constructor
    ·rintro(⟨a,b⟩ | rfl)
     ·exact⟨by omega,b⟩
     ·exact⟨by omega,k,hk,q2⟩
    ·rintro⟨a,b⟩;by_cases e:x=(n:Int)+1
     ·exact Or.inr e
     ·exact Or.inl ⟨by omega,b⟩
theorem rise_ext:∀{l l':List Int},l.Pairwise (· < ·)→l'.Pairwise (· < ·)→(∀e,e∈l↔e∈l')→l=l'
 | [],[],_,_,_=>rfl
 | [],a :: _,_,_,h=>by have:=(h a).2 (by simp);simp at this
 | a :: _,[],_,_,h=>by have:=(h a).1 (by simp);simp at this
 | a :: l,b :: l',h1,h2,h=>by
  obtain⟨p1,p2⟩:=List.pairwise_cons.1 h1;obtain⟨q1,q2⟩:=List.pairwise_cons.1 h2;have e:a=b:=by
   rcases List.mem_cons.1 ((h a).1 (by simp)) with e | e
   ·exact e
   ·rcases List.mem_cons.1 ((h b).2 (by simp)) with e' | e'
    ·exact e'.symm
    ·have:=p1 b e';have:=q1 a e;omega
  subst e;congr 1
  refine rise_ext p2 q2 (fun e=>⟨fun he => ?_,fun he => ?_⟩)
  ·rcases List.mem_cons.1 ((h e).1 (by simp[he])) with q | q
   ·subst q;have:=p1 e he;omega
   ·exact q
  ·rcases List.mem_cons.1 ((h e).2 (by simp[he])) with q | q
   ·subst q;have:=q1 e he;omega
   ·exact q
theorem ports_same (R:RightL K L ls) (lv:Nat→Bool) (i:Nat):ptsAll ls L i 30=(ends ls lv L i).map (·.port):=by
 obtain⟨h1,h2⟩:=ptsAll_rise R i 30;refine rise_ext h1 ?_ (fun x => ?_)
 ·rw[List.pairwise_map];exact ends_sorted R lv i
 ·rw[h2 x,List.mem_map];constructor
  ·rintro⟨_,k,hk,b⟩;unfold isEnd at b;simp only[Bool.or_eq_true,decide_eq_true_eq] at b;rcases b with⟨b1,b2⟩ | ⟨b1,b2⟩
   ·exact⟨_,ends_mem.2 ⟨k,hk,Or.inl ⟨b1,rfl⟩⟩,b2⟩
   ·exact⟨_,ends_mem.2 ⟨k,hk,Or.inr ⟨b1,rfl⟩⟩,b2⟩
  ·rintro⟨e,he,rfl⟩;obtain⟨k,hk,hh⟩:=ends_mem.1 he;obtain⟨_,_,_,o4,o5,_⟩:=R.ok k hk;rcases hh with⟨q,rfl⟩ | ⟨q,rfl⟩
   ·exact⟨⟨by show 1≤(ls k).pa;omega,by show(ls k).pa≤30;omega⟩,k,hk,by unfold isEnd;simp[q]⟩
   ·exact⟨⟨by show 1≤(ls k).pb;omega,by show(ls k).pb≤30;omega⟩,k,hk,by unfold isEnd;simp[q]⟩
end
end Pl
end
section
open Go.RowKit
open Vc (V Of)
open Pl (Br Net Pc Lk En)
def curP (ls:Nat→Lk) (L i q k:Nat):List Int:=Pl.ptsAll ls L i q++Pl.ptsTo ls i ((q:Int)+1) k
theorem curP_zero (ls:Nat→Lk) (L i q:Nat):curP ls L i q 0=Pl.ptsAll ls L i q:=by unfold curP;simp[Pl.ptsTo]
theorem curP_next (ls:Nat→Lk) (L i q:Nat):curP ls L i q L=Pl.ptsAll ls L i (q+1):=rfl
theorem curP_more (ls:Nat→Lk) (L i q k:Nat):curP ls L i q (k+1)=curP ls L i q k++if Pl.isEnd (ls k) (i:Int) ((q:Int)+1)=true then [(q:Int)+1] else []:=by
 unfold curP;simp only[Pl.ptsTo];rw[List.append_assoc]
theorem ptsTo_few (ls:Nat→Lk) (i:Nat) (p:Int):∀k,(Pl.ptsTo ls i p k).length≤k
 | 0=>Nat.le_refl _
 | k+1=>by
  have:=ptsTo_few ls i p k;simp only[Pl.ptsTo,List.length_append];split<;>simp<;>omega
theorem ptsAll_few (ls:Nat→Lk) (L i:Nat):∀q,(Pl.ptsAll ls L i q).length≤q*L
 | 0=>by simp[Pl.ptsAll]
 | q+1=>by
  have h1:=ptsAll_few ls L i q;have h2:=ptsTo_few ls i ((q:Int)+1) L;simp only[Pl.ptsAll,List.length_append];rw[Nat.add_mul];omega
theorem rports_own (n:Net) (i:Nat) (w:World) (hat:n.at' w) (hL:n.L≤40) (R:Pl.RightL n.K n.L n.ls) :
  Calls Tryz.prog 36 #[n.val,.int .i64 i] w fun e w'=>∃ao cap,e=.returned (.slice ao (Pl.ptsAll n.ls n.L i 30).length cap)∧IRow w' ao (Pl.ptsAll n.ls n.L i 30).length cap (IL (Pl.ptsAll n.ls n.L i 30))∧NilOk ao (Pl.ptsAll n.ls n.L i 30).length cap∧(∀ad,ao=some ad→w.heap.size≤ad.block)∧Bl w w'∧w'.ownsRow w.heap.size 3 1 (.slice ao (Pl.ptsAll n.ls n.L i 30).length cap) (Pl.ptsAll n.ls n.L i 30).length (intCells (Pl.ptsAll n.ls n.L i 30)):=by
 obtain⟨X,HX⟩:∃X,Hid (X=w.alloc (.cells #[.slice n.bao n.K n.bcap,.slice n.lao n.L n.lcap] 25)):=⟨_,rfl⟩
 have hXB:Bl w X:=(by rw[HX.out];exact bA1 _ _)
 have hXn:X.heap[w.heap.size]?=some (.cells #[.slice n.bao n.K n.bcap,.slice n.lao n.L n.lcap] 25):=(by rw[HX.out];exact heap_alloc_last _ _)
 have HC:Hid (∀W,Bl X W→(W.cell? ⟨w.heap.size,0,none⟩=some (.slice n.bao n.K n.bcap)∧W.cell? ⟨w.heap.size,1,none⟩=some (.slice n.lao n.L n.lcap))∧LRow W n.lao n.L n.lcap n.ls∧Bl w W):=fun W hW=>by
  have h1:Bl w W:=hXB.trans (hW.mono hXB.size);exact⟨tC2 (keep hXn hW),CRow.below hat.lks h1,h1⟩
 have HR:Hid (Pl.RightL n.K n.L n.ls):=R;have hcapL:=hat.lks.1;have H0:Hid (X.ownsRow X.heap.size 3 1 (.slice none (Pl.ptsAll n.ls n.L i 0).length 0) (Pl.ptsAll n.ls n.L i 0).length (intCells (Pl.ptsAll n.ls n.L i 0))∧Bl X X):=⟨ownsC_nil _ _ _ _ _,Below.refl _ _⟩
 have hwX:=hXB.size;clear hat R hXn hXB;simp only[Pl.Net.val];go_enter Tryz.func36,Tryz.ntmps36;(go_wp2_with fail);rw[←HX.out];go_loopw [5,6] (fun s5 s6 wr=>∃(q:Nat) (ao:Option Addr) (cap:Nat),(q:Int)≤30∧s6=.int .i64 ((q:Int)+1)∧s5=.slice ao (Pl.ptsAll n.ls n.L i q).length cap∧Hid (wr.ownsRow X.heap.size 3 1 (.slice ao (Pl.ptsAll n.ls n.L i q).length cap) (Pl.ptsAll n.ls n.L i q).length (intCells (Pl.ptsAll n.ls n.L i q))∧Bl X wr)) (fun _ s6 _=>31-(intOf s6).toNat)
 case atStart=>exact⟨0,none,0,by omega,rfl,rfl,H0⟩
 case round =>
  obtain⟨q,ao,cap,hq,rfl,rfl,hW⟩:=hrel;clear H0;by_cases hlt:(q:Int)<30
  ·obtain⟨⟨m0,m1⟩,_,_⟩:=HC.out wr hW.out.2;have c1:(q:Int)+1≤30:=(by omega)
   have H1:Hid (wr.ownsRow X.heap.size 3 1 (.slice ao (curP n.ls n.L i q 0).length cap) (curP n.ls n.L i q 0).length (intCells (curP n.ls n.L i q 0))∧Bl X wr):=(by rw[curP_zero];exact hW)
   have HL0:Hid ((Pl.ptsAll n.ls n.L i q).length=(curP n.ls n.L i q 0).length):=by show _=_;rw[curP_zero]
   clear hW;(go_wp2_with fail);clear m0 m1;go_loopw [5,16] (fun s5 s16 wr=>∃(k:Nat) (ao:Option Addr) (cap:Nat),k≤n.L∧s16=.int .i64 k∧s5=.slice ao (curP n.ls n.L i q k).length cap∧Hid (wr.ownsRow X.heap.size 3 1 (.slice ao (curP n.ls n.L i q k).length cap) (curP n.ls n.L i q k).length (intCells (curP n.ls n.L i q k))∧Bl X wr)) (fun _ s16 _=>n.L-(intOf s16).toNat)
   case atStart=>exact⟨0,ao,cap,by omega,rfl,by rw[HL0.out],H1⟩
   case round =>
    obtain⟨k,ao,cap,hk,rfl,rfl,hY⟩:=hrel;clear H1 HL0;by_cases hkL:k<n.L
    ·obtain⟨_,f1,_⟩:=HC.out wr hY.out.2;obtain⟨lb,loff,el,_⟩:=CRow.some f1 (by omega);rw[el] at f1 ⊢;obtain⟨c0,c1',c2,c3,c4,c5⟩:=LRow.cells f1 hkL;obtain⟨_,_,o3,_⟩:=HR.out.ok k hkL;have hmore:=curP_more n.ls n.L i q k;have hend:Pl.isEnd (n.ls k) (i:Int) ((q:Int)+1)=(decide ((n.ls k).a=(i:Int)∧(n.ls k).pa=(q:Int)+1)||decide ((n.ls k).b=(i:Int)∧(n.ls k).pb=(q:Int)+1)):=rfl;have hfew:(curP n.ls n.L i q k).length≤100000:=by
      have h1:=ptsAll_few n.ls n.L i q;have h2:=ptsTo_few n.ls i ((q:Int)+1) k;unfold curP;rw[List.length_append];have h3:q*n.L≤30*40:=Nat.mul_le_mul (by omega) hL;omega
     obtain⟨Z,HZ⟩:∃Z,Hid (Z=wr.alloc (.cells (lkA (n.ls k)) 83)):=⟨_,rfl⟩
     have hZB:Bl wr Z:=(by rw[HZ.out];exact bA1 _ _)
     have hZs:Z.heap.size=wr.heap.size+1:=(by rw[HZ.out];simp)
     have hsz:=hY.out.2.size;have HNO:Hid (Pl.isEnd (n.ls k) (i:Int) ((q:Int)+1)=false→Z.ownsRow X.heap.size 3 1 (.slice ao (curP n.ls n.L i q (k+1)).length cap) (curP n.ls n.L i q (k+1)).length (intCells (curP n.ls n.L i q (k+1)))∧Bl X Z):=fun h=>by
      rw[hmore,h,if_neg (by decide),List.append_nil];exact⟨ownsC_below hY.out.1 hZB,hY.out.2.trans (hZB.mono hY.out.2.size)⟩
     have HLN:Hid (Pl.isEnd (n.ls k) (i:Int) ((q:Int)+1)=false→(curP n.ls n.L i q (k+1)).length=(curP n.ls n.L i q k).length):=fun h=>by rw[hmore,h,if_neg (by decide),List.append_nil]
     have HYES:Hid (Pl.isEnd (n.ls k) (i:Int) ((q:Int)+1)=true→∃a1 c1 w2,(Builtin.append_ #[59,59] 59 #[.slice ao (curP n.ls n.L i q k).length cap,.slice (some ⟨wr.heap.size+1,0,none⟩) 1 1]).run Tryz.prog (Z.alloc (.cells #[.int .i64 ((q:Int)+1)] 3))=.ok (.slice a1 (curP n.ls n.L i q (k+1)).length c1) w2∧Hid (w2.ownsRow X.heap.size 3 1 (.slice a1 (curP n.ls n.L i q (k+1)).length c1) (curP n.ls n.L i q (k+1)).length (intCells (curP n.ls n.L i q (k+1)))∧Bl X w2)):=fun h=>by
      obtain⟨a1,c1,w2,r,ho,hb⟩:=int_more (ownsC_below hY.out.1 hZB) (by omega) hfew ((q:Int)+1);rw[hmore,h,if_pos rfl];rw[hZs] at r;have hBZ:Bl X Z:=hY.out.2.trans (hZB.mono hY.out.2.size);exact⟨a1,c1,w2,r,ho,hBZ.trans hb⟩
     have i0:(0:Int)≤(k:Int):=(by omega)
     have i1:(k:Int)<(n.L:Int):=(by omega)
     clear hY f1 hmore hZB hZs hfew HC HR el;generalize Pl.isEnd (n.ls k) (i:Int) ((q:Int)+1)=D at *;generalize n.ls k=l at *;obtain⟨la,pa,lb',pb,co,up⟩:=l;simp only at c0 c1' c2 c3 c4 c5 o3 hend;simp only[lkA] at *;by_cases ea:la=(i:Int)
     ·have fb:¬lb'=(i:Int):=(by omega)
      by_cases ep:pa=(q:Int)+1
      ·have hD:D=true:=(by rw[hend,decide_eq_true ⟨ea,ep⟩,Bool.true_or])
       obtain⟨a1,c1,w2,r,HN⟩:=HYES.out hD;have HRR:Hid _:=r;rw[HZ.out] at HRR;clear r HYES HNO HLN hend hD;subst ea;subst ep;go_wp2_with (at_builtin;refine wpList_append_run rfl (.tmp 42) (.tmp 44) 59 rfl _ _ _ rfl rfl HRR.out ?_)
       exact⟨⟨k+1,a1,c1,by omega,by go_num,rfl,HN⟩,by simp[intOf];omega⟩
      ·have hD:D=false:=(by rw[hend,decide_eq_false (fun h=>ep h.2),decide_eq_false (fun h=>fb h.1)];rfl)
       have HN:Hid _:=HNO.out hD;have HLE:Hid _:=HLN.out hD;have g1:(pa == (q:Int)+1)=false:=(by simp[ep])
       have g2:(lb' == (i:Int))=false:=(by simp[fb])
       rw[HZ.out] at HN;clear HYES HNO HLN hend hD;subst ea;(go_wp2_with fail);exact⟨⟨k+1,ao,cap,by omega,by go_num,by rw[HLE.out],HN⟩,by simp[intOf];omega⟩
     ·have g0:(la == (i:Int))=false:=(by simp[ea])
      by_cases eb:lb'=(i:Int)
      ·by_cases ep:pb=(q:Int)+1
       ·have hD:D=true:=(by rw[hend,decide_eq_true (⟨eb,ep⟩:lb'=(i:Int)∧pb=(q:Int)+1),Bool.or_true])
        obtain⟨a1,c1,w2,r,HN⟩:=HYES.out hD;have HRR:Hid _:=r;rw[HZ.out] at HRR;clear r HYES HNO HLN hend hD;subst eb;subst ep;go_wp2_with (at_builtin;refine wpList_append_run rfl (.tmp 42) (.tmp 44) 59 rfl _ _ _ rfl rfl HRR.out ?_)
        exact⟨⟨k+1,a1,c1,by omega,by go_num,rfl,HN⟩,by simp[intOf];omega⟩
       ·have hD:D=false:=(by rw[hend,decide_eq_false (fun h=>ea h.1),decide_eq_false (fun h=>ep h.2)];rfl)
        have HN:Hid _:=HNO.out hD;have HLE:Hid _:=HLN.out hD;have g1:(pb == (q:Int)+1)=false:=(by simp[ep])
        rw[HZ.out] at HN;clear HYES HNO HLN hend hD;subst eb;(go_wp2_with fail);exact⟨⟨k+1,ao,cap,by omega,by go_num,by rw[HLE.out],HN⟩,by simp[intOf];omega⟩
      ·have hD:D=false:=(by rw[hend,decide_eq_false (fun h=>ea h.1),decide_eq_false (fun h=>eb h.1)];rfl)
       have HN:Hid _:=HNO.out hD;have HLE:Hid _:=HLN.out hD;have g1:(lb' == (i:Int))=false:=(by simp[eb])
       rw[HZ.out] at HN;clear HYES HNO HLN hend hD;(go_wp2_with fail);exact⟨⟨k+1,ao,cap,by omega,by go_num,by rw[HLE.out],HN⟩,by simp[intOf];omega⟩
    ·have hnk:¬(k:Int)<(n.L:Int):=(by omega)
     have hkk:k=n.L:=(by omega)
     rw[hkk] at hY;have HN:Hid (wr.ownsRow X.heap.size 3 1 (.slice ao (Pl.ptsAll n.ls n.L i (q+1)).length cap) (Pl.ptsAll n.ls n.L i (q+1)).length (intCells (Pl.ptsAll n.ls n.L i (q+1)))∧Bl X wr):=hY;have HLE:Hid ((curP n.ls n.L i q k).length=(Pl.ptsAll n.ls n.L i (q+1)).length):=by show _=_;rw[hkk,curP_next]
     clear hY hkk HC;(go_wp2_with fail);exact⟨⟨q+1,ao,cap,by omega,by go_num,by rw[HLE.out],HN⟩,by simp[intOf];omega⟩
  ·have hq30:q=30:=(by omega)
   subst hq30;obtain⟨hO,hB⟩:=hW.out;have hlow:=(HC.out wr hB).2.2;obtain⟨a1,c1,e1,h1,h2,h3⟩:=owns_c (by omega) hO;injection e1 with e1 _ e2;subst e1;subst e2;have HE:Hid (IRow wr ao (Pl.ptsAll n.ls n.L i 30).length cap (IL (Pl.ptsAll n.ls n.L i 30))∧NilOk ao (Pl.ptsAll n.ls n.L i 30).length cap∧(∀ad,ao=some ad→w.heap.size≤ad.block)∧Bl w wr∧wr.ownsRow w.heap.size 3 1 (.slice ao (Pl.ptsAll n.ls n.L i 30).length cap) (Pl.ptsAll n.ls n.L i 30).length (intCells (Pl.ptsAll n.ls n.L i 30))):=⟨h1,h2,fun ad e=>Nat.le_trans hwX (h3 ad e),hlow,owns_mono hO hwX⟩
   clear hW hO hB hlow h1 h2 h3 HC;(go_wp2_with fail);go_ret;exact⟨ao,cap,rfl,HE.out.1,HE.out.2.1,HE.out.2.2.1,HE.out.2.2.2.1,HE.out.2.2.2.2⟩
theorem rports_any (n:Net) (i:Nat) (w:World) (hat:n.at' w) (hL:n.L≤40) (R:Pl.RightL n.K n.L n.ls) :
  Calls Tryz.prog 36 #[n.val,.int .i64 i] w fun e w'=>∃ao cap,e=.returned (.slice ao (Pl.ptsAll n.ls n.L i 30).length cap)∧IRow w' ao (Pl.ptsAll n.ls n.L i 30).length cap (IL (Pl.ptsAll n.ls n.L i 30))∧NilOk ao (Pl.ptsAll n.ls n.L i 30).length cap∧(∀ad,ao=some ad→w.heap.size≤ad.block)∧Bl w w':=by
 refine(rports_own n i w hat hL R).mono ?_;rintro e w' ⟨ao,cap,h1,h2,h3,h4,h5,_⟩;exact⟨ao,cap,h1,h2,h3,h4,h5⟩
structure OffW (w W:World) (OB:Nat) (l:List Of) (v:Value):Prop where
 low:Below OB w W
 box:W.heap[OB]?=some (.cells #[v] 107)
 own:W.ownsRow (OB+1) 141 7 v l.length (ofCells l)
theorem OffW.below {w W W':World}{OB:Nat}{l:List Of}{v:Value}(h:OffW w W OB l v) (hb:Bl W W'):OffW w W' OB l v :=
 ⟨h.low.trans (hb.mono (Nat.le_of_lt (gSm.1 h.box).1)),keep h.box hb,ownsC_below h.own hb⟩
theorem one_cellO {w:World}{g:Nat}{a0:Value}{ty:TypeId}(h:w.heap[g]?=some (.cells #[a0] ty (0,0))):w.cell? ⟨g,0,none⟩=some a0:=cell_of_row w g 0 _ _ _ h
theorem pstep_append {w w':World}{ops:Array Oper}{o:Oper}{a:Act}{K:Act→World→Prop}{Q:Exit→Act→World→Prop}{E:Prop}(d:Option Tmp) (hd:o.dst=d) (hgd:o.guard=none) (s x:Operand) (t:TypeId)
  (ho:o.op=.call { callee:=.builtin .append,args:=#[s,x],argTypes:=#[t,t] }) (v vx v':Value) (hs:a.eval s=v) (hx:a.eval x=vx) (hr:(Builtin.append_ #[t,t] o.type #[v,vx]).run Tryz.prog w=.ok v' w')
  (h:K (a.put d v') w'):if Region.wanted o (yielded ops a.tmps)=true then Oper.wp Tryz.prog o a w K Q else E:=by
 subst hd;exact step_append_c hgd s x t ho v vx v' hs hx hr h
theorem off_more {w W:World}{OB:Nat}{l:List Of}{v:Value}(h:OffW w W OB l v) (hl:l.length≤1000) (o:Of) :
  ∃a1 c1 w2,(Builtin.append_ #[107,107] 107 #[v,.slice (some ⟨W.heap.size,0,none⟩) 1 1]).run Tryz.prog (W.alloc (.cells (ofA o) 141))=.ok (.slice a1 (l.length+1) c1) w2∧(∀q,q<W.heap.size→v.ownBlock≠some q→w2.heap[q]?=W.heap[q]?)∧Below OB w w2∧w2.cell? ⟨OB,0,none⟩=some v∧w2.frozen? ⟨OB,0,none⟩=false∧OffW w (w2.setCell ⟨OB,0,none⟩ (.slice a1 (l.length+1) c1)) OB (l++[o]) (.slice a1 (l.length+1) c1):=by
 have hB:Bl W (W.alloc (.cells (ofA o) 141)):=bA1 _ _;have hN:=h.below hB;have hMl:OB<W.heap.size:=(gSm.1 h.box).1;obtain⟨a1,c1,w2,r,ho,hb,hk⟩:=append_c (W.alloc (.cells (ofA o) 141)) 107 141 _ 7 56 Tryz.underlying107 infoOf rfl (by omega) (OB+1) v l.length (fun i=>ofC (Pl.lf l i)) hN.own (some ⟨W.heap.size,0,none⟩) 1 1 (fun _=>ofC o) (fun _ q=>ofC_one _ q) (one_of_row (heap_alloc_last _ _)) (fun h=>by cases h) (by unfold maxLen;omega) (by omega) (by simp;omega);rw[lf_snoc] at ho;have hs:(W.alloc (.cells (ofA o) 141)).heap.size=W.heap.size+1:=(by simp)
 have hMne:v.ownBlock≠some OB:=fun e=>by have:=(oCb hN.own OB e).1;omega
 have hbox2:w2.heap[OB]?=some (.cells #[v] 107):=(hk OB (by omega) (fun e=>hMne e.symm)).trans hN.box;have hlow2:Below OB w w2:=hN.low.trans (hb.mono (by omega));have hvM:(Value.slice a1 (l.length+1) c1).ownBlock≠some OB:=fun e=>by have:=(oCb ho OB e).1;omega
 have hgs:w2.grownBy (w2.setCell ⟨OB,0,none⟩ (.slice a1 (l.length+1) c1)) (some OB):=by
  have bz:Below 0 w2 (w2.setCell ⟨OB,0,none⟩ (.slice a1 (l.length+1) c1)):=(Below.refl 0 w2).setCell (Nat.zero_le _) _;exact⟨bz.os,bz.tape,bz.output,bz.size,fun q hq hne=>heap_setCell_other _ _ _ _ (by exact fun e=>hne (by rw[e]))⟩
 refine⟨a1,c1,w2,r,fun q hq hne=>(hk q (by omega) (fun e=>hne e.symm)).trans (hB.block q hq),hlow2,one_cellO hbox2,lF0 hbox2 _,⟨hlow2.setCell (Nat.le_refl _) _,?_,?_⟩⟩
 ·rw[heap_setCell_same _ _ _ _ _ _ hbox2];rfl
 ·rw[List.length_append];refine ho.kept hgs ?_;cases hv:(Value.slice a1 (l.length+1) c1).ownBlock with
  | none=>exact Or.inl rfl
  | some q=>exact Or.inr (fun e=>hvM (by rw[hv];exact e))
theorem radd_any (w0:World) (SB AB OB sb soff scap ab aoff acap K o:Nat) (vs:Nat→V) (ages:Nat→Int) (port cost other:Int) (l:List Of) (v:Value) (w:World) (ho:o<K) (hl:l.length≤1000) (hW:OffW w0 w OB l v)
  (hS:w.cell? ⟨SB,0,none⟩=some (.slice (some ⟨sb,soff,none⟩) K scap)) (hA:w.cell? ⟨AB,0,none⟩=some (.slice (some ⟨ab,aoff,none⟩) K acap))
  (hv:VRow w (some ⟨sb,soff,none⟩) K scap vs) (ha:IRow w (some ⟨ab,aoff,none⟩) K acap ages) (hlo:AB<OB∧ab<OB) :
  Calls Tryz.prog 105 #[.int .i64 port,.int .i64 cost,.int .i64 o,.int .i64 other,.pointer (some ⟨SB,0,none⟩),.pointer (some ⟨OB,0,none⟩),.pointer (some ⟨AB,0,none⟩)] w fun e w'=>∃v',e=.returned (.tuple #[])∧Hid (OffW w0 w' OB (l++[⟨port,cost,ages o,⟨(vs o).root,(vs o).cost,(vs o).bridge,other⟩⟩]) v'∧∀q,q<w.heap.size→q≠OB→v.ownBlock≠some q→w'.heap[q]?=w.heap[q]?):=by
 obtain⟨p0,p1,p2,p3⟩:=VRow.cells hv ho;have q0:=IRow.cells ha ho;obtain⟨X,HX⟩:∃X,Hid (X=w.alloc (.cells #[.int .u64 (vs o).root,.int .i64 (vs o).cost,.int .u64 (vs o).bridge,.int .i64 other] 58)):=⟨_,rfl⟩
 have hXB:Bl w X:=(by rw[HX.out];exact bA1 _ _)
 obtain⟨VB,HVB⟩:∃VB,Hid (VB=w.heap.size):=⟨_,rfl⟩
 have hXs:X.heap.size=w.heap.size+1:=(by rw[HX.out];simp)
 have hXv:X.heap[VB]?=some (.cells #[.int .u64 (vs o).root,.int .i64 (vs o).cost,.int .u64 (vs o).bridge,.int .i64 other] 58):=(by rw[HX.out,HVB.out];exact heap_alloc_last _ _)
 have hWX:=(hW.below hXB).below (Below.drew (Below.refl _ _));have hOl:OB<w.heap.size:=(gSm.1 hW.box).1;have hVo:v.ownBlock≠some VB:=fun e=>by have:=(oCb hW.own VB e).2;rw[HVB.out] at this;omega
 obtain⟨a1,c1,w2,hap,hk2,hlo2,hcell2,hfz2,hN⟩:=off_more hWX hl ⟨port,cost,ages o,⟨(vs o).root,(vs o).cost,(vs o).bridge,other⟩⟩;have hA2:∀W,Below OB w W→W.cell? ⟨AB,0,none⟩=some (.slice (some ⟨ab,aoff,none⟩) K acap)∧W.cell? ⟨ab,aoff+o,none⟩=some (.int .i64 (ages o)):=fun W h=>⟨(h.cell (by exact hlo.1)).trans hA,(h.cell (by exact hlo.2)).trans q0⟩
 have hwX:Below OB w X:=hXB.mono (Nat.le_of_lt hOl);have hvb:∀{W:World},W.heap[VB]?=X.heap[VB]?→W.cell? ⟨VB,0,none⟩=some (.int .u64 (vs o).root)∧W.cell? ⟨VB,1,none⟩=some (.int .i64 (vs o).cost)∧W.cell? ⟨VB,2,none⟩=some (.int .u64 (vs o).bridge)∧W.cell? ⟨VB,3,none⟩=some (.int .i64 other):=fun {W} h=>vc_cells (h.trans hXv);have hVX:VB<X.heap.size:=(by rw[HVB.out,hXs];omega)
 have hXd:Below OB w X.drew:=hwX.drew;have hX1:Below OB w (X.drew.alloc (.cells (ofA ⟨port,cost,ages o,⟨(vs o).root,(vs o).cost,(vs o).bridge,other⟩⟩) 141)):=hXd.alloc (Nat.le_trans (Nat.le_of_lt hOl) hXB.size) _;have hgr:Below OB w w2:=by
  have e1:∀q,q<OB→w2.heap[q]?=w.heap[q]?:=fun q hq=>by
   rw[hk2 q (by have:X.drew.heap.size=X.heap.size:=rfl;have:=hXB.size;omega) (fun e=>by have:=(oCb hW.own q e).1;omega)];exact hwX.block q hq
  exact⟨by have:=hlo2.os;have:=hW.low.os;simp_all,by have:=hlo2.tape;have:=hW.low.tape;simp_all,by have:=hlo2.output;have:=hW.low.output;simp_all,by
   have h1:=hN.low.size;have h2:(w2.setCell ⟨OB,0,none⟩ (.slice a1 (l.length+1) c1)).heap.size=w2.heap.size:=(by simp)
   have h3:=(gSm.1 ((hk2 VB hVX hVo).trans hXv)).1;rw[HVB.out] at h3;omega,e1⟩
 have HS0:Hid _:=(⟨hA2 X.drew hXd,hvb rfl⟩:_∧_)
 have HS1:Hid _:=(⟨hA2 _ hX1,hvb ((bA1 X.drew (.cells (ofA ⟨port,cost,ages o,⟨(vs o).root,(vs o).cost,(vs o).bridge,other⟩⟩) 141)).block VB hVX)⟩:_∧_)
 have HS2:Hid _:=(⟨hA2 w2 hgr,hvb (hk2 VB hVX hVo)⟩:_∧_)
 have hne3:VB≠OB:=(by rw[HVB.out];omega)
 have hb3:(w2.setCell ⟨OB,0,none⟩ (.slice a1 (l.length+1) c1)).heap[VB]?=X.heap[VB]?:=(heap_setCell_other w2 ⟨OB,0,none⟩ VB _ hne3).trans (hk2 VB hVX hVo);have HS3:Hid _:=(⟨hA2 (w2.setCell ⟨OB,0,none⟩ (.slice a1 (l.length+1) c1)) (hgr.setCell (Nat.le_refl _) _),hvb hb3⟩:_∧_)
 have HAP:Hid _:=hap;have HN:Hid (OffW w0 (w2.setCell ⟨OB,0,none⟩ (.slice a1 (l.length+1) c1)) OB (l++[⟨port,cost,ages o,⟨(vs o).root,(vs o).cost,(vs o).bridge,other⟩⟩]) (.slice a1 (l.length+1) c1)):=hN;have g0:X.cell? ⟨OB,0,none⟩=some v:=one_cellO (hW.below hXB).box;have g1:∀ob,(X.alloc ob).cell? ⟨OB,0,none⟩=some v:=fun ob=>((bA1 X ob).cell (by show OB<X.heap.size;omega)).trans g0;have i0:(0:Int)≤(o:Int):=(by omega)
 have i1:(o:Int)<(K:Int):=(by omega)
 simp only[ofA] at HAP HS1;have hXd2:X.drew.heap.size=w.heap.size+1:=hXs;rw[hXd2] at HAP;clear hXd2;have HKQ:Hid (∀q,q<w.heap.size→q≠OB→v.ownBlock≠some q→(w2.setCell ⟨OB,0,none⟩ (.slice a1 (l.length+1) c1)).heap[q]?=w.heap[q]?):=fun q hq h1 h2=>by
  refine(heap_setCell_other _ _ _ _ (by exact h1)).trans ((hk2 q (by have:X.drew.heap.size=X.heap.size:=rfl;have:=hXB.size;omega) h2).trans ?_);exact hXB.block q hq
 clear hap hN hk2 hlo2 hgr hX1 hXd hvb hA2 hWX hW hv ha hXv hXB hwX q0 hVX hVo hb3;generalize (vs o).root=v0 at *;generalize (vs o).cost=v1 at *;generalize (vs o).bridge=v2 at *;generalize ages o=ag at *;go_enter Tryz.func105,Tryz.ntmps105;(go_wp2_with fail);rw[←HX.out,←HVB.out];refine wp_region_held_drew (S:=fun W=>(W.cell? ⟨AB,0,none⟩=some (.slice (some ⟨ab,aoff,none⟩) K acap)∧W.cell? ⟨ab,aoff+o,none⟩=some (.int .i64 ag))∧(W.cell? ⟨VB,0,none⟩=some (.int .u64 v0)∧W.cell? ⟨VB,1,none⟩=some (.int .i64 v1)∧W.cell? ⟨VB,2,none⟩=some (.int .u64 v2)∧W.cell? ⟨VB,3,none⟩=some (.int .i64 other))) (by kernel_rfl) HS0.out (fun hHeld => ?_);refine held_take (i:=1) (v := ?_) (some 19) rfl rfl (by kernel_rfl) (by kernel_rfl) (by kernel_rfl) (fun _ _ _ h=>h) (by rfl) ?_ hHeld ?_;rotate_left 1
 ·(intro wq hSw;go_simp;try with_reducible rfl)
 (try simp only[Act.put,lsA,lsZ,lsS])
 refine held_take (i:=2) (v := ?_) (some 20) rfl rfl (by kernel_rfl) (by kernel_rfl) (by kernel_rfl) (fun _ _ _ h=>h) (by rfl) ?_ hHeld ?_;rotate_left 1
 ·(intro wq hSw;go_simp;try with_reducible rfl)
 (try simp only[Act.put,lsA,lsZ,lsS])
 refine held_take (i:=3) (v := ?_) (some 21) rfl rfl (by kernel_rfl) (by kernel_rfl) (by kernel_rfl) (fun _ _ _ h=>h) (by rfl) ?_ hHeld ?_;rotate_left 1
 ·(intro wq hSw;go_simp;try with_reducible rfl)
 (try simp only[Act.put,lsA,lsZ,lsS])
 refine held_take (i:=4) (v := ?_) (some 22) rfl rfl (by kernel_rfl) (by kernel_rfl) (by kernel_rfl) (fun _ _ _ h=>h) (by rfl) ?_ hHeld ?_;rotate_left 1
 ·(intro wq hSw;go_simp;try with_reducible rfl)
 (try simp only[Act.put,lsA,lsZ,lsS])
 refine held_take (i:=5) (v := ?_) (some 23) rfl rfl (by kernel_rfl) (by kernel_rfl) (by kernel_rfl) (fun _ _ _ h=>h) (by rfl) ?_ hHeld ?_;rotate_left 1
 ·(intro wq hSw;go_simp;try with_reducible rfl)
 (try simp only[Act.put,lsA,lsZ,lsS])
 refine held_take (i:=6) (v := ?_) (some 24) rfl rfl (by kernel_rfl) (by kernel_rfl) (by kernel_rfl) (fun _ _ _ h=>h) (by rfl) ?_ hHeld ?_;rotate_left 1
 ·(intro wq hSw;go_simp;try with_reducible rfl)
 (try simp only[Act.put,lsA,lsZ,lsS])
 refine held_take (i:=7) (v := ?_) (some 25) rfl rfl (by kernel_rfl) (by kernel_rfl) (by kernel_rfl) (fun _ _ _ h=>h) (by rfl) ?_ hHeld ?_;rotate_left 1
 ·(intro wq hSw;go_simp;try with_reducible rfl)
 (try simp only[Act.put,lsA,lsZ,lsS])
 refine held_take (i:=8) (v := ?_) (some 26) rfl rfl (by kernel_rfl) (by kernel_rfl) (by kernel_rfl) (fun _ _ _ h=>h) (by rfl) ?_ hHeld ?_;rotate_left 1
 ·(intro wq hSw;go_simp;try with_reducible rfl)
 (try simp only[Act.put,lsA,lsZ,lsS])
 refine wpAnyH_ready (rs:=[0,9]) (by kernel_rfl) (by simp) ?_;refine AllReadyH.cons rfl (fun K hK => ?_) (AllReadyH.cons rfl (fun K hK => ?_) AllReadyH.nil)
 ·go_simp;refine hK.out _ _ hHeld (fun hHeld => ?_);clear hK K;(try simp only[Act.put,lsA,lsZ,lsS])
  refine wpAnyH_ready (rs:=[9]) (by kernel_rfl) (by simp) ?_;refine AllReadyH.cons rfl (fun K hK => ?_) AllReadyH.nil;go_simp;refine hK.out _ _ HS1.out (fun hHeld => ?_);clear hK K;(try simp only[Act.put,lsA,lsZ,lsS])
  refine wpAnyH_ready (rs:=[10]) (by kernel_rfl) (by simp) ?_;refine AllReadyH.cons rfl (fun K hK => ?_) AllReadyH.nil;refine pstep_append (some 28) rfl rfl (.tmp 18) (.tmp 27) 107 rfl _ _ _ rfl rfl HAP.out ?_;refine hK.out _ _ HS2.out (fun hHeld => ?_);clear hK K;(try simp only[Act.put,lsA,lsZ,lsS])
  refine wpAnyH_ready (rs:=[11]) (by kernel_rfl) (by simp) ?_;refine AllReadyH.cons rfl (fun K hK => ?_) AllReadyH.nil;go_simp;refine hK.out _ _ HS3.out (fun hHeld => ?_);clear hK K;refine wpAnyH_done (by kernel_rfl) ?_ _;clear hHeld;(go_wp2_with fail);go_end0;exact⟨_,rfl,HN.out,HKQ.out⟩
 ·go_simp;refine hK.out _ _ HS1.out (fun hHeld => ?_);clear hK K;(try simp only[Act.put,lsA,lsZ,lsS])
  refine wpAnyH_ready (rs:=[0]) (by kernel_rfl) (by simp) ?_;refine AllReadyH.cons rfl (fun K hK => ?_) AllReadyH.nil;go_simp;refine hK.out _ _ hHeld (fun hHeld => ?_);clear hK K;(try simp only[Act.put,lsA,lsZ,lsS])
  refine wpAnyH_ready (rs:=[10]) (by kernel_rfl) (by simp) ?_;refine AllReadyH.cons rfl (fun K hK => ?_) AllReadyH.nil;refine pstep_append (some 28) rfl rfl (.tmp 18) (.tmp 27) 107 rfl _ _ _ rfl rfl HAP.out ?_;refine hK.out _ _ HS2.out (fun hHeld => ?_);clear hK K;(try simp only[Act.put,lsA,lsZ,lsS])
  refine wpAnyH_ready (rs:=[11]) (by kernel_rfl) (by simp) ?_;refine AllReadyH.cons rfl (fun K hK => ?_) AllReadyH.nil;go_simp;refine hK.out _ _ HS3.out (fun hHeld => ?_);clear hK K;refine wpAnyH_done (by kernel_rfl) ?_ _;clear hHeld;(go_wp2_with fail);go_end0;exact⟨_,rfl,HN.out,HKQ.out⟩
def roffs (es:Nat→Lk) (i:Nat) (x:Nat→Tk.Md) (k:Nat):List Of:=(Pl.endsTo es (fun _=>true) i k).map (Tk.heardOf x)
theorem roffs_few (es:Nat→Lk) (i:Nat) (x:Nat→Tk.Md) (k:Nat):(roffs es i x k).length≤2*k:=by
 unfold roffs;rw[List.length_map];induction k with
 | zero=>simp[Pl.endsTo]
 | succ k ih =>
  simp only[Pl.endsTo,List.length_append,Pl.endsAt];split<;>split<;>simp<;>omega
theorem roffers_any (lao:Option Addr) (m lcap:Nat) (es:Nat→Lk) (i:Nat) (sb scap ab acap K:Nat) (x:Nat→Tk.Md) (w:World) (hm:m≤400) (hlk:LRow w lao m lcap es) (hv:VRow w (some ⟨sb,0,none⟩) K scap (fun o=>(x o).v)) (ha:IRow w (some ⟨ab,0,none⟩) K acap (fun o=>(x o).age)) (hab:ab<w.heap.size)
  (hok:∀k,k<m→(0≤(es k).a∧(es k).a<K)∧(0≤(es k).b∧(es k).b<K)∧(es k).a≠(es k).b) :
  Calls Tryz.prog 68 #[.slice lao m lcap,.int .i64 i,.slice (some ⟨sb,0,none⟩) K scap,.slice (some ⟨ab,0,none⟩) K acap] w fun e w'=>∃ao cap,e=.returned (.slice ao (roffs es i x m).length cap)∧ORow w' ao (roffs es i x m).length cap (Pl.lf (roffs es i x m))∧Bl w w'∧∀ad,ao=some ad→w.heap.size≤ad.block:=by
 obtain⟨X,HX⟩:∃X,Hid (X=((w.alloc (.cells #[.slice (some ⟨sb,0,none⟩) K scap] 129)).alloc (.cells #[.slice (some ⟨ab,0,none⟩) K acap] 59)).alloc (.cells #[.slice none 0 0] 107)):=⟨_,rfl⟩
 have hXB:Bl w X:=(by rw[HX.out];exact((bA2 w _ _).alloc (by simp;omega) _))
 have hXs:X.heap.size=w.heap.size+3:=(by rw[HX.out];simp)
 have hX0:X.heap[w.heap.size]?=some (.cells #[.slice (some ⟨sb,0,none⟩) K scap] 129):=by
  rw[HX.out];exact((bA1 _ _).block _ (by simp;omega)).trans (heap_alloc2_old w _ _)
 have hX1:X.heap[w.heap.size+1]?=some (.cells #[.slice (some ⟨ab,0,none⟩) K acap] 59):=by
  rw[HX.out];exact((bA1 _ _).block _ (by simp)).trans (heap_alloc2_new w _ _)
 have hX2:X.heap[w.heap.size+2]?=some (.cells #[.slice none 0 0] 107):=by
  rw[HX.out];have:=heap_alloc_last ((w.alloc (.cells #[.slice (some ⟨sb,0,none⟩) K scap] 129)).alloc (.cells #[.slice (some ⟨ab,0,none⟩) K acap] 59)) (.cells #[.slice none 0 0] 107);simpa using this
 obtain⟨OB,HOB⟩:∃OB,Hid (OB=w.heap.size+2):=⟨_,rfl⟩
 have HFR:Hid (∀W,Below OB X W→W.cell? ⟨w.heap.size,0,none⟩=some (.slice (some ⟨sb,0,none⟩) K scap)∧W.cell? ⟨w.heap.size+1,0,none⟩=some (.slice (some ⟨ab,0,none⟩) K acap)∧VRow W (some ⟨sb,0,none⟩) K scap (fun o=>(x o).v)∧IRow W (some ⟨ab,0,none⟩) K acap (fun o=>(x o).age)∧LRow W lao m lcap es∧Bl w W):=fun W hW=>by
  rw[HOB.out] at hW;have hw:Bl w W:=hXB.trans (hW.mono (by omega));exact⟨one_cellO ((hW.block _ (by omega)).trans hX0),one_cellO ((hW.block _ (by omega)).trans hX1),CRow.below hv hw,CRow.below ha hw,CRow.below hlk hw,hw⟩
 have H0:Hid (∃v,OffW X X OB (roffs es i x 0) v):=⟨.slice none 0 0,Below.refl _ _,by rw[HOB.out];exact hX2,ownsC_nil _ _ _ _ _⟩
 have hcap:=hlk.1;have HOK:Hid (∀k,k<m→(0≤(es k).a∧(es k).a<K)∧(0≤(es k).b∧(es k).b<K)∧(es k).a≠(es k).b):=hok;have HAB:Hid (w.heap.size+1<OB∧ab<OB):=(by rw[HOB.out];exact⟨by omega,by omega⟩)
 clear hlk hv ha hok hX0 hX1 hX2 hXB hXs;go_enter Tryz.func68,Tryz.ntmps68;(go_wp2_with fail);rw[←HX.out];rw[←HOB.out];go_loopw [16] (fun q wr=>∃k:Nat,k≤m∧q=.int .i64 k∧Hid (∃v,OffW X wr OB (roffs es i x k) v)) (fun q _=>m-(intOf q).toNat)
 case atStart=>exact⟨0,by omega,rfl,H0⟩
 case round =>
  obtain⟨k,hk,rfl,hX⟩:=hrel;clear H0;obtain⟨v,hO⟩:=hX.out;by_cases hlt:k<m
  ·obtain⟨_,_,_,_,f5,_⟩:=HFR.out wr hO.low;obtain⟨lb,loff,rfl,_⟩:=CRow.some f5 (by omega);obtain⟨c0,c1,c2,c3,c4,c5⟩:=LRow.cells f5 hlt;obtain⟨o1,o2,o3⟩:=HOK.out k hlt;have hfew:=roffs_few es i x k;have hnext:roffs es i x (k+1)=roffs es i x k++(Pl.endsAt (es k) true i).map (Tk.heardOf x):=(by unfold roffs;simp only[Pl.endsTo,List.map_append])
   have i0:(0:Int)≤(k:Int):=(by omega)
   have i1:(k:Int)<(m:Int):=(by omega)
   generalize es k=l at *;obtain⟨a,pa,b,pb,c,up⟩:=l;simp only at c0 c1 c2 c3 c4 c5 o1 o2 o3;unfold Pl.endsAt at hnext;simp only at hnext;obtain⟨na,hna⟩:∃na:Nat,a=na:=⟨a.toNat,by omega⟩
   obtain⟨nb,hnb⟩:∃nb:Nat,b=nb:=⟨b.toNat,by omega⟩
   subst hna;subst hnb;obtain⟨Y,HY⟩:∃Y,Hid (Y=wr.alloc (.cells #[.int .i64 na,.int .i64 pa,.int .i64 nb,.int .i64 pb,.int .i64 c,.bool up] 83)):=⟨_,rfl⟩
   have hYB:Bl wr Y:=(by rw[HY.out];exact bA1 _ _)
   have hYe:Y.heap[wr.heap.size]?=some (.cells #[.int .i64 na,.int .i64 pa,.int .i64 nb,.int .i64 pb,.int .i64 c,.bool up] 83):=(by rw[HY.out];exact heap_alloc_last _ _)
   have hOY:=hO.below hYB;obtain⟨g1,g2,g3,g4,_,_⟩:=HFR.out Y hOY.low;have HAD:Hid (∀(port other:Int) (o:Nat),o<K→Calls Tryz.prog 105 #[.int .i64 port,.int .i64 c,.int .i64 o,.int .i64 other,.pointer (some ⟨w.heap.size,0,none⟩),.pointer (some ⟨OB,0,none⟩),.pointer (some ⟨w.heap.size+1,0,none⟩)] Y fun e w'=>∃v',e=.returned (.tuple #[])∧Hid (OffW X w' OB (roffs es i x k++[⟨port,c,(x o).age,⟨(x o).v.root,(x o).v.cost,(x o).v.bridge,other⟩⟩]) v'∧w'.heap[wr.heap.size]?=some (.cells #[.int .i64 na,.int .i64 pa,.int .i64 nb,.int .i64 pb,.int .i64 c,.bool up] 83))):=fun port other o ho=>by
    refine(radd_any X w.heap.size (w.heap.size+1) OB sb 0 scap ab 0 acap K o (fun o=>(x o).v) (fun o=>(x o).age) port c other (roffs es i x k) v Y ho (by omega) hOY g1 g2 g3 g4 HAB.out).mono ?_;rintro e w' ⟨v',rfl,hh⟩;obtain⟨z1,z2⟩:=hh.out;refine⟨v',rfl,z1,(z2 wr.heap.size (gSm.1 hYe).1 ?_ ?_).trans hYe⟩
    ·have:=(gSm.1 hO.box).1;omega
    ·intro p;have:=(oCb hO.own _ p).2;omega
   obtain⟨q0,q1,q2,q3,q4,_⟩:=lk_cells hYe;by_cases hia:(na:Int)=(i:Int)
   ·have hib:¬(nb:Int)=(i:Int):=(by omega)
    rw[if_pos hia,if_neg hib,List.append_nil] at hnext;have e2:((nb:Int) == (i:Int))=false:=(by simp;omega)
    have hc:=HAD.out pa pb nb (by omega);have HC:Hid (Calls Tryz.prog 105 #[.int .i64 pa,.int .i64 c,.int .i64 nb,.int .i64 pb,.pointer (some ⟨w.heap.size,0,none⟩),.pointer (some ⟨OB,0,none⟩),.pointer (some ⟨w.heap.size+1,0,none⟩)] Y fun e w'=>∃v',e=.returned (.tuple #[])∧Hid (OffW X w' OB (roffs es i x (k+1)) v'∧w'.heap[wr.heap.size]?=some (.cells #[.int .i64 na,.int .i64 pa,.int .i64 nb,.int .i64 pb,.int .i64 c,.bool up] 83))):=by
     rw[hnext];exact hc
    have hn:na=i:=(by omega)
    clear hc HAD hX hO f5 hnext hYB hYe hOY g1 g2 g3 g4 HFR HOK o1 o2 o3 hia hfew;subst hn;rw[HY.out] at q0 q1 q2 q3 q4;(go_wp2_with fail);rw[←HY.out];refine HC.out.mono ?_;rintro e w2 ⟨v',rfl,HN⟩;obtain⟨_,_,p2,_,_,_⟩:=lk_cells HN.out.2;have HN1:Hid (∃v,OffW X w2 OB (roffs es na x (k+1)) v):=⟨v',HN.out.1⟩
    clear HC HN q0 q1 q2 q3 q4;(go_wp2_with fail);exact⟨⟨k+1,by omega,by go_num,HN1⟩,by simp[intOf];omega⟩
   ·have e1:((na:Int) == (i:Int))=false:=(by simp;omega)
    rw[if_neg hia,List.nil_append] at hnext;by_cases hib:(nb:Int)=(i:Int)
    ·rw[if_pos hib] at hnext;have hc:=HAD.out pb pa na (by omega);have HC:Hid (Calls Tryz.prog 105 #[.int .i64 pb,.int .i64 c,.int .i64 na,.int .i64 pa,.pointer (some ⟨w.heap.size,0,none⟩),.pointer (some ⟨OB,0,none⟩),.pointer (some ⟨w.heap.size+1,0,none⟩)] Y fun e w'=>∃v',e=.returned (.tuple #[])∧Hid (OffW X w' OB (roffs es i x (k+1)) v'∧w'.heap[wr.heap.size]?=some (.cells #[.int .i64 na,.int .i64 pa,.int .i64 nb,.int .i64 pb,.int .i64 c,.bool up] 83))):=by
      rw[hnext];exact hc
     have hn:nb=i:=(by omega)
     clear hc HAD hX hO f5 hnext hYB hYe hOY g1 g2 g3 g4 HFR HOK o1 o2 o3 hib hfew hia;subst hn;rw[HY.out] at q0 q1 q2 q3 q4;(go_wp2_with fail);rw[←HY.out];refine HC.out.mono ?_;rintro e w2 ⟨v',rfl,HN⟩;have HN1:Hid (∃v,OffW X w2 OB (roffs es nb x (k+1)) v):=⟨v',HN.out.1⟩
     clear HC HN q0 q1 q2 q3 q4;(go_wp2_with fail);exact⟨⟨k+1,by omega,by go_num,HN1⟩,by simp[intOf];omega⟩
    ·have e2:((nb:Int) == (i:Int))=false:=(by simp;omega)
     rw[if_neg hib] at hnext;have hn2:roffs es i x (k+1)=roffs es i x k:=(by rw[hnext];simp)
     have HN1:Hid (∃v,OffW X Y OB (roffs es i x (k+1)) v):=⟨v,by rw[hn2];exact hOY⟩
     clear HAD hX hO f5 hnext hYB hYe hOY g1 g2 g3 g4 HFR HOK o1 o2 o3 hfew hn2;rw[HY.out] at HN1 q0 q2;(go_wp2_with fail);exact⟨⟨k+1,by omega,by go_num,HN1⟩,by simp[intOf];omega⟩
  ·obtain rfl:k=m:=by omega
   obtain⟨ao,cap,ev,h1,_,h3⟩:=owns_c (by omega) hO.own;have hb:=one_cellO hO.box;have hw:=(HFR.out wr hO.low).2.2.2.2.2;subst ev;have HF:Hid (ORow wr ao (roffs es i x k).length cap (Pl.lf (roffs es i x k))∧Bl w wr∧∀ad,ao=some ad→w.heap.size≤ad.block):=⟨h1,hw,fun ad e=>by have:=h3 ad e;have:=HAB.out;omega⟩
   clear hX hO h1 h3 hw HFR HOK;(go_wp2_with fail);go_ret;exact⟨ao,cap,rfl,HF.out⟩
end
section
open Go.RowKit
open Vc (V)
theorem rbetter_any (a b:V) (w:World) :
  Calls Tryz.prog 107 #[.agg #[.int .u64 a.root,.int .i64 a.cost,.int .u64 a.bridge,.int .i64 a.port],.agg #[.int .u64 b.root,.int .i64 b.cost,.int .u64 b.bridge,.int .i64 b.port]] w fun e w'=>e=.returned (.bool (decide (Vc.lt a b)))∧Bl w w':=by
 obtain⟨ar,ac,ab,ap⟩:=a;obtain⟨br,bc,bb,bp⟩:=b;have H:Hid (∀x:Bool,(x=true↔(ar<br∨(ar=br∧(ac<bc∨(ac=bc∧(ab<bb∨(ab=bb∧ap<bp)))))))→decide (Vc.lt ⟨ar,ac,ab,ap⟩ ⟨br,bc,bb,bp⟩)=x):=fun x hx=>by
  cases x with
  | true=>exact decide_eq_true (hx.1 rfl)
  | false=>exact decide_eq_false (fun q=>by have:=hx.2 q;cases this)
 simp only;by_cases h1:ar=br
 ·have d1:(ar != br)=false:=(by simp[h1])
  by_cases h2:ac=bc
  ·have d2:(ac != bc)=false:=(by simp[h2])
   by_cases h3:ab=bb
   ·have d3:(ab != bb)=false:=(by simp[h3])
    have HX:Hid (decide (Vc.lt ⟨ar,ac,ab,ap⟩ ⟨br,bc,bb,bp⟩)=decide (ap<bp)):=H.out _ (by simp only[decide_eq_true_eq];omega);clear H h1 h2 h3;go_enter Tryz.func107,Tryz.ntmps107;(go_wp2_with fail);go_ret;exact⟨by rw[HX.out];rfl,bA2 _ _ _⟩
   ·have d3:(ab != bb)=true:=(by simp[h3])
    have HX:Hid (decide (Vc.lt ⟨ar,ac,ab,ap⟩ ⟨br,bc,bb,bp⟩)=decide (ab<bb)):=H.out _ (by simp only[decide_eq_true_eq];omega);clear H h1 h2 h3;go_enter Tryz.func107,Tryz.ntmps107;(go_wp2_with fail);go_ret;exact⟨by rw[HX.out];rfl,bA2 _ _ _⟩
  ·have d2:(ac != bc)=true:=(by simp[h2])
   have HX:Hid (decide (Vc.lt ⟨ar,ac,ab,ap⟩ ⟨br,bc,bb,bp⟩)=decide (ac<bc)):=H.out _ (by simp only[decide_eq_true_eq];omega);clear H h1 h2;go_enter Tryz.func107,Tryz.ntmps107;(go_wp2_with fail);go_ret;exact⟨by rw[HX.out];rfl,bA2 _ _ _⟩
 ·have d1:(ar != br)=true:=(by simp[h1])
  have HX:Hid (decide (Vc.lt ⟨ar,ac,ab,ap⟩ ⟨br,bc,bb,bp⟩)=decide (ar<br)):=H.out _ (by simp only[decide_eq_true_eq];omega);clear H h1;go_enter Tryz.func107,Tryz.ntmps107;(go_wp2_with fail);go_ret;exact⟨by rw[HX.out];rfl,bA2 _ _ _⟩
end
end Go.Proofs.YtaneiffnhphkhaaGreatDoor
