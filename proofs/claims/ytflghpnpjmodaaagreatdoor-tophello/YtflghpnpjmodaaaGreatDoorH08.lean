/- Plain: ticks, in which all bridges choose at once by what they heard; what is so old was said so many ticks ago; in the end all stand as they must -/
import Derived.Test.YtflghpnpjmodaaaGreatDoorH07
import Derived.Test.YtflghpnpjmodaaaGreatDoorH01
import Derived.Test.YtflghpnpjmodaaaGreatDoorH05
import Derived.Maps.AppendAt
set_option maxRecDepth 100000
set_option maxHeartbeats 40000000
namespace Go.Proofs.YtflghpnpjmodaaaGreatDoor
section
open Go.RowKit
open Pl (En)
namespace Es
def At (sp:Array Value) (g n:Nat) (f:Nat→En) (w:World) (G:Nat→En) (w':World):Prop :=
 w'.heap[g]?=some (.cells (rowE sp n G) 153)∧Ec.Pm 0 n f G∧But g w w'
theorem At.next {sp:Array Value}{g n:Nat}{f G H:Nat→En}{w w1 w2:World}(h:At sp g n f w G w1) (h1:w2.heap[g]?=some (.cells (rowE sp n H) 153)) (h2:Ec.Pm 0 n G H) (h3:But g w1 w2):At sp g n f w H w2 :=
 ⟨h1,h.2.1.trans h2,h.2.2.trans h3⟩
theorem sstable_any (sp:Array Value) (g n cap:Nat) (f:Nat→En) (w:World) (hA:w.heap[g]?=some (.cells (rowE sp n f) 153)) (hn:n≤4398046511104) :
  Calls Tryz.prog 114 #[.slice (some ⟨g,0,none⟩) n cap,.int .i64 n,.func (.func 72) #[] #[]] w fun x w'=>x=.returned (.tuple #[])∧∃G,At sp g n f w G w'∧Ec.SIn 0 n G:=by
 have HA:Hid (At sp g n f w f w):=⟨hA,Ec.Pm.refl,But.refl _ _⟩
 have HIN:Hid (∀(a b:Nat) (G:Nat→En) (W:World),At sp g n f w G W→a≤n→b≤n→Calls Tryz.prog 161 #[.slice (some ⟨g,0,none⟩) n cap,.int .i64 a,.int .i64 b,.func (.func 72) #[] #[]] W fun x w'=>x=.returned (.tuple #[])∧∃H,At sp g n f w H w'∧Ec.Pm a b G H∧Ec.SIn a b H):=fun a b G W hW q1 q2=>(sinsertion_any sp g n cap a b G W hW.1 hn q1 q2).mono (fun x w' h=>by
  obtain⟨e,H,k1,k2,k3,k4⟩:=h;exact⟨e,H,hW.next k1 (k2.mono (by omega) q2) k4,k2,k3⟩)
 have HME:Hid (∀(a m b:Nat) (G:Nat→En) (W:World),At sp g n f w G W→a<m→m<b→b≤n→Ec.SIn a m G→Ec.SIn m b G→Calls Tryz.prog 162 #[.slice (some ⟨g,0,none⟩) n cap,.int .i64 a,.int .i64 m,.int .i64 b,.func (.func 72) #[] #[]] W fun x w'=>x=.returned (.tuple #[])∧∃H,At sp g n f w H w'∧Ec.Pm a b G H∧Ec.SIn a b H):=fun a m b G W hW q1 q2 q3 q4 q5=>(smerge_any sp g n cap hn (b-a) a m b G W (Nat.le_refl _) hW.1 q1 q2 q3 q4 q5).mono (fun x w' h=>by
  obtain⟨e,H,k1,k2,k3,k4⟩:=h;exact⟨e,H,hW.next k1 (k2.mono (by omega) q3) k4,k2,k3⟩)
 clear hA;go_enter Tryz.func114,Tryz.ntmps114;(go_wp2_with fail);go_loopw [7,8] (fun va vb wr=>∃A B:Nat,B=A+20∧A≤n∧va=.int .i64 A∧vb=.int .i64 B∧Hid (∃t G,A=t*20∧At sp g n f w G wr∧∀q,q<t→Ec.SIn (q*20) ((q+1)*20) G)) (fun va _ _=>n-(intOf va).toNat)
 case atStart=>exact⟨0,20,rfl,by omega,rfl,rfl,0,f,rfl,HA.out,fun q hq=>by omega⟩
 case round =>
  obtain⟨A,B,hB,lA,rfl,rfl,hX⟩:=hrel;obtain⟨t,G,hAt,hG,hS⟩:=hX.out;clear hX HA;by_cases hlt:B≤n
  ·have HC:=HIN.out A B G wr hG lA hlt;obtain⟨B2,hB2⟩:∃B2,B2=B+20:=⟨_,rfl⟩
   have wB:IntKind.i64.wrap ((B:Int)+20)=(B2:Int):=(by rw[wraps_i64 _ (by omega) (by omega)];omega)
   have lB:(B:Int)≤(n:Int):=(by omega)
   have HST:Hid (∀H,Ec.Pm A B G H→Ec.SIn A B H→B=(t+1)*20∧∀q,q<t+1→Ec.SIn (q*20) ((q+1)*20) H):=fun H k1 k2=>by
    subst hB;exact⟨by omega,Ec.first_step hAt hS k1 k2⟩
   have HB2:Hid (B2=B+20):=hB2;have HBA:Hid (B=A+20):=hB;clear hAt hG hS HIN HME hB2 hB;(go_wp2_with fail);refine HC.mono ?_;rintro x w1 ⟨rfl,H,k1,k2,k3⟩;have HF:Hid (∃t G,B=t*20∧At sp g n f w G w1∧∀q,q<t→Ec.SIn (q*20) ((q+1)*20) G):=⟨t+1,H,(HST.out H k2 k3).1,k1,(HST.out H k2 k3).2⟩
   clear k1 k2 k3 HST HC;(go_wp2_with fail);exact⟨⟨B,B2,HB2.out,hlt,rfl,rfl,HF⟩,by have:=HBA.out;simp[intOf];omega⟩
  ·have HC:=HIN.out A n G wr hG lA (Nat.le_refl _);have HFD:Hid (∀H,Ec.Pm A n G H→Ec.SIn A n H→Ec.Blks 20 n H):=fun H k1 k2=>Ec.first_done hAt (by omega) hS k1 k2;have lB:¬(B:Int)≤(n:Int):=(by omega)
   have lB2:decide ((B:Int)≤(n:Int))=false:=decide_eq_false lB;clear hAt hG hS HIN hB;(go_wp2_with fail);refine HC.mono ?_;rintro x w1 ⟨rfl,H,k1,k2,k3⟩;have H0:Hid (∃G,At sp g n f w G w1∧Ec.Blks 20 n G):=⟨H,k1,HFD.out H k2 k3⟩
   clear k1 k2 k3 HFD HC lB lB2 hlt;(go_wp2_with fail);go_loopw [6] (fun vb wr=>∃bs:Nat,0<bs∧bs≤2*n+20∧vb=.int .i64 bs∧Hid (∃G,At sp g n f w G wr∧Ec.Blks bs n G)) (fun vb _=>n-(intOf vb).toNat)
   case atStart=>exact⟨20,by omega,by omega,rfl,H0⟩
   case round =>
    obtain⟨bs,pb,ub,rfl,hX⟩:=hrel;clear H0;by_cases hbn:bs<n
    ·obtain⟨D,hD⟩:∃D,D=2*bs:=⟨_,rfl⟩
     have eD:IntKind.i64.wrap (2*(bs:Int))=(D:Int):=(by rw[wraps_i64 _ (by omega) (by omega)];omega)
     have eD2:IntKind.i64.wrap ((bs:Int)*2)=(D:Int):=(by rw[wraps_i64 _ (by omega) (by omega)];omega)
     have hbn2:(bs:Int)<(n:Int):=(by omega)
     have HDD:Hid (D=2*bs):=hD;have uD:D≤8796093022208:=(by omega)
     have uD2:D≤2*n:=(by omega)
     have pD:bs<D:=(by omega)
     have HX:Hid (∃G,At sp g n f w G wr∧Ec.Blks bs n G):=hX;clear hX hD;(go_wp2_with fail);go_loopw [7,8] (fun va vb wi=>∃A B:Nat,B=A+D∧A≤n∧va=.int .i64 A∧vb=.int .i64 B∧Hid (∃t G,A=t*(2*bs)∧At sp g n f w G wi∧Ec.Half bs n t G)) (fun va _ _=>n-(intOf va).toNat)
     case atStart =>
      obtain⟨G,k1,k2⟩:=HX.out;exact⟨0,D,by omega,by omega,rfl,rfl,0,G,by omega,k1,Ec.half_start k2⟩
     case round =>
      obtain⟨A,B,hB,lA,rfl,rfl,hY⟩:=hrel;obtain⟨t,G,hAt,hG,hH⟩:=hY.out;clear hY HX;obtain⟨s1,s2⟩:=Ec.half_parts hH hAt;obtain⟨M,hM⟩:∃M,M=A+bs:=⟨_,rfl⟩
      have wM:IntKind.i64.wrap ((A:Int)+(bs:Int))=(M:Int):=(by rw[wraps_i64 _ (by omega) (by omega)];omega)
      have hDD:=HDD.out;by_cases hlt:B≤n
      ·have HC:=HME.out A M B G wr hG (by omega) (by omega) hlt (s1.sub (Nat.le_refl _) (by omega)) (s2.sub (by omega) (by omega));obtain⟨B2,hB2⟩:∃B2,B2=B+D:=⟨_,rfl⟩
       have wB:IntKind.i64.wrap ((B:Int)+(D:Int))=(B2:Int):=(by rw[wraps_i64 _ (by omega) (by omega)];omega)
       have lB:(B:Int)≤(n:Int):=(by omega)
       have HST:Hid (∀H,Ec.Pm A B G H→Ec.SIn A B H→B=(t+1)*(2*bs)∧Ec.Half bs n (t+1) H):=fun H k1 k2=>by
        have e:B=A+2*bs:=(by omega)
        rw[e] at k1 k2;refine⟨?_,Ec.half_step hH hAt k1 k2⟩;rw[Nat.add_mul,Nat.one_mul,←hAt];exact e
       have HB2:Hid (B2=B+D):=hB2;have hAB:A<B:=(by omega)
       clear hAt hG hH s1 s2 hM hDD HME hB2 hB;(go_wp2_with fail);refine HC.mono ?_;rintro x w2 ⟨rfl,H,k1,k2,k3⟩;have HF:Hid (∃t G,B=t*(2*bs)∧At sp g n f w G w2∧Ec.Half bs n t G):=⟨t+1,H,(HST.out H k2 k3).1,k1,(HST.out H k2 k3).2⟩
       clear k1 k2 k3 HST HC;(go_wp2_with fail);exact⟨⟨B,B2,HB2.out,hlt,rfl,rfl,HF⟩,by simp[intOf];omega⟩
      ·have lB:decide ((B:Int)≤(n:Int))=false:=decide_eq_false (by omega);have lB0:¬(B:Int)≤(n:Int):=(by omega)
       have HFD:Hid (∀H,Ec.Pm A n G H→Ec.SIn A n H→Ec.Blks D n H):=fun H k1 k2=>by rw[hDD];exact Ec.half_done hH hAt (by omega) k1 k2
       by_cases hmn:M<n
       ·have HC:=HME.out A M n G wr hG (by omega) hmn (Nat.le_refl _) (s1.sub (Nat.le_refl _) (by omega)) (s2.sub (by omega) (by omega));have hmn2:(M:Int)<(n:Int):=(by omega)
        clear hAt hG hH s1 s2 hM hDD HME hB hlt;(go_wp2_with fail);refine HC.mono ?_;rintro x w2 ⟨rfl,H,k1,k2,k3⟩;have HF:Hid (∃G,At sp g n f w G w2∧Ec.Blks D n G):=⟨H,k1,HFD.out H k2 k3⟩
        clear k1 k2 k3 HFD HC;(go_wp2_with fail);exact⟨⟨D,by omega,by omega,rfl,HF⟩,by simp[intOf];omega⟩
       ·have HF:Hid (∃G,At sp g n f w G wr∧Ec.Blks D n G):=⟨G,hG,HFD.out G Ec.Pm.refl (s1.sub (Nat.le_refl _) (by omega))⟩
        have hmn2:decide ((M:Int)<(n:Int))=false:=decide_eq_false (by omega);have hmn3:¬(M:Int)<(n:Int):=(by omega)
        clear hAt hG hH s1 s2 hM hDD HME hB hlt HFD;(go_wp2_with fail);exact⟨⟨D,by omega,by omega,rfl,HF⟩,by simp[intOf];omega⟩
    ·have HF:Hid (∃G,At sp g n f w G wr∧Ec.SIn 0 n G):=by
      obtain⟨G,k1,k2⟩:=hX.out;exact⟨G,k1,Ec.blks_all k2 (by omega)⟩
     have hbn2:decide ((bs:Int)<(n:Int))=false:=decide_eq_false (by omega);have hbn3:¬(bs:Int)<(n:Int):=(by omega)
     clear hX HME;(go_wp2_with fail);exact bodyPost_end (results_none Tryz.results114 _ _ _) rfl ⟨rfl,HF.out⟩
end Es
end
section
open Go.RowKit
open Pl (Br Net Pc Lk En St)
instance:Inhabited En:=⟨⟨0,0,0,0,false⟩⟩
def encE (e:En):List Value:=[.int .i64 e.port,.int .i64 e.cost,.int .i64 e.other,.int .i64 e.oport,.bool e.live]
abbrev EL (l:List En) (j:Nat):En:=l.getD j default
namespace Es
theorem eins_none (fv:Value) (w:World):Calls Tryz.prog 161 #[.slice none 0 0,.int .i64 0,.int .i64 0,fv] w fun e w'=>e=.returned (.tuple #[])∧w'=w:=by
 go_enter Tryz.func161,Tryz.ntmps161;go_wp2
 refine wp_loop_rounds 1 ?_;rw[rounds_succ];go_wp2
 go_end0
 exact⟨rfl,rfl⟩
theorem estable_none (fv:Value) (w:World):Calls Tryz.prog 114 #[.slice none 0 0,.int .i64 0,fv] w fun e w'=>e=.returned (.tuple #[])∧w'=w:=by
 have hi:=fun W=>eins_none fv W;go_enter Tryz.func114,Tryz.ntmps114;go_wp2
 refine wp_loop_rounds 1 ?_;rw[rounds_succ];go_wp2_with (go_at_call 161;refine(hi _).mono ?_;rintro e w' ⟨rfl,rfl⟩)
 refine wp_loop_rounds 1 ?_;rw[rounds_succ];go_wp2
 go_end0
 exact⟨rfl,rfl⟩
theorem esort_none (fv:Value) (w:World):Calls Tryz.prog 71 #[.slice none 0 0,fv] w fun e w'=>e=.returned (.tuple #[])∧w'=w:=by
 have hp:=fun W=>estable_none fv W;go_enter Tryz.func71,Tryz.ntmps71;go_wp2_with (go_at_call 114;refine(hp _).mono ?_;rintro e w' ⟨rfl,rfl⟩)
 go_end0
 exact⟨rfl,rfl⟩
theorem ssort_any (sp:Array Value) (g n cap:Nat) (f:Nat→En) (w:World) (hA:w.heap[g]?=some (.cells (rowE sp n f) 153)) (hn:n≤4398046511104) :
  Calls Tryz.prog 71 #[.slice (some ⟨g,0,none⟩) n cap,.func (.func 72) #[] #[]] w fun x w'=>x=.returned (.tuple #[])∧∃G,At sp g n f w G w'∧Ec.SIn 0 n G:=by
 have HC:Hid (Calls Tryz.prog 114 #[.slice (some ⟨g,0,none⟩) n cap,.int .i64 n,.func (.func 72) #[] #[]] w fun x w'=>x=.returned (.tuple #[])∧∃G,At sp g n f w G w'∧Ec.SIn 0 n G):=sstable_any sp g n cap f w hA hn;clear hA;go_enter Tryz.func71,Tryz.ntmps71;(go_wp2_with fail);refine HC.out.mono ?_;rintro x w1 ⟨rfl,hG⟩;have HF:Hid (∃G,At sp g n f w G w1∧Ec.SIn 0 n G):=hG;clear hG;(go_wp2_with fail);exact bodyPost_end (results_none Tryz.results71 _ _ _) rfl ⟨rfl,HF.out⟩
end Es
theorem listOf_EL (l:List En):Ec.listOf l.length (EL l)=l:=by
 unfold Ec.listOf;apply List.ext_getElem
 ·simp
 ·intro i h1 h2;simp[EL,List.getD,List.getElem?_eq_getElem h2]
theorem psort_any (base:Nat) (v:Value) (l:List En) (w:World) (hl:l.length≤1000) (ho:w.ownsRow base 153 5 v l.length (cellsL l.length 5 (fun j=>enC (EL l j)))) :
  Calls Tryz.prog 71 #[v,.func (.func 72) #[] #[]] w fun e w'=>e=.returned (.tuple #[])∧∃l':List En,l'.Perm l∧l'.Pairwise (fun x y=>¬y.port<x.port)∧(∃ao cap,v=.slice ao l'.length cap∧ERow w' ao l'.length cap (EL l'))∧w.grownBy w' v.ownBlock∧∀q,v.ownBlock=some q→∃cur,w'.heap[q]?=some (.cells cur 153):=by
 obtain⟨_,h2⟩:=ho;rcases h2 with⟨rfl,h0⟩ | ⟨g,cap,cur,rfl,hg,hh,hn,hm,hs,hx⟩
 ·have e0:l=[]:=List.eq_nil_of_length_eq_zero h0;subst e0;refine(Es.esort_none (.func (.func 72) #[] #[]) w).mono ?_;rintro e w' ⟨rfl,rfl⟩;exact⟨rfl,[],List.Perm.refl _,List.Pairwise.nil,⟨none,0,rfl,CRow.none _ _ _ _ _⟩,⟨rfl,rfl,rfl,Nat.le_refl _,fun _ _ _=>rfl⟩,fun q hq=>by simp[Value.ownBlock] at hq⟩
 ·have e1:cur=Es.rowE (cur.toList.drop (l.length*5)).toArray l.length (EL l):=by
   apply Array.ext'
   unfold Es.rowE rowC;rw[Array.toList_append];simp only;rw[←hx,List.take_append_drop]
  rw[e1] at hh;refine(Es.ssort_any _ g l.length cap (EL l) w hh (by omega)).mono ?_;rintro e w' ⟨rfl,G,⟨h1,h2,h3⟩,hS⟩;have hp:=h2.perm l.length (Nat.le_refl _);rw[listOf_EL] at hp;have hlen:(Ec.listOf l.length G).length=l.length:=(by simp[Ec.listOf])
  have hget:∀i,i<l.length→EL (Ec.listOf l.length G) i=G i:=fun i hi=>by
   simp[EL,Ec.listOf,List.getD,hi]
  refine⟨rfl,Ec.listOf l.length G,hp,?_,⟨_,cap,by rw[hlen],?_⟩,h3,fun q hq=>by simp[Value.ownBlock] at hq;subst hq;exact⟨_,h1⟩⟩
  ·rw[List.pairwise_iff_getElem];intro i j hi hj hij;have:=hS i j (Nat.zero_le _) hij (by rw[←hlen];exact hj);simpa[Ec.listOf,Ec.lt] using this
  ·rw[hlen];refine⟨hn,fun _=>⟨g,0,rfl,(gSm.1 h1).1,fun i hi j hj => ?_⟩⟩;rw[Nat.zero_add];show _=some (enC (EL (Ec.listOf l.length G) i) j);rw[hget i hi];exact(cell_of_row w' g _ _ _ _ h1).trans (Es.rowE_get _ _ G i j hi hj)
end
section
namespace Pl
open Vc (V Of)
structure RightL (K L:Nat) (ls:Nat→Lk):Prop where
 ok:∀k,k<L→(0≤(ls k).a∧(ls k).a<K)∧(0≤(ls k).b∧(ls k).b<K)∧(ls k).a≠(ls k).b∧(1≤(ls k).pa∧(ls k).pa≤30)∧(1≤(ls k).pb∧(ls k).pb≤30)∧(1≤(ls k).cost∧(ls k).cost≤200000)
 one:∀j k,j<k→k<L→isEnd (ls j) (ls k).a (ls k).pa=false∧isEnd (ls j) (ls k).b (ls k).pb=false
theorem someTo_false {p:Nat→Bool}:∀{n:Nat},Vc.someTo p n=false→∀i,i<n→p i=false
 | 0,_,i,hi=>by omega
 | n+1,h,i,hi=>by
  simp only[Vc.someTo,Bool.or_eq_false_iff] at h;by_cases e:i=n
  ·subst e;exact h.2
  ·exact someTo_false h.1 i (by omega)
theorem lkErr_ok {K:Nat}{l:Lk}(h:lkErr K l=0):(0≤l.a∧l.a<K)∧(0≤l.b∧l.b<K)∧l.a≠l.b∧(1≤l.pa∧l.pa≤30)∧(1≤l.pb∧l.pb≤30)∧(1≤l.cost∧l.cost≤200000):=by
 unfold lkErr at h;split at h
 ·omega
 ·split at h
  ·omega
  ·split at h
   ·omega
   ·omega
theorem lErr_ok {K:Nat}{ls:Nat→Lk}{i:Nat}(h:lErr K ls i=0):lkErr K (ls i)=0∧∀j,j<i→isEnd (ls j) (ls i).a (ls i).pa=false∧isEnd (ls j) (ls i).b (ls i).pb=false:=by
 unfold lErr at h;split at h
 ·omega
 ·rename_i h1;split at h
  ·omega
  ·rename_i h2;refine⟨by omega,fun j hj => ?_⟩;have:=someTo_false (by simpa using h2) j hj;simpa using this
theorem rightL {K L:Nat}{ls:Nat→Lk}(h:∀i,i<L→lErr K ls i=0):RightL K L ls :=
 ⟨fun k hk=>lkErr_ok (lErr_ok (h k hk)).1,fun j k hj hk=>(lErr_ok (h k hk)).2 j hj⟩
theorem endsAt_mem {l:Lk}{lv:Bool}{i:Nat}{e:En}:e∈endsAt l lv i↔(l.a=(i:Int)∧e=⟨l.pa,l.cost,l.b,l.pb,lv⟩)∨(l.b=(i:Int)∧e=⟨l.pb,l.cost,l.a,l.pa,lv⟩):=by
 unfold endsAt;by_cases h1:l.a=(i:Int)<;>by_cases h2:l.b=(i:Int)<;>simp[h1,h2]
theorem endsTo_mem {ls:Nat→Lk}{lv:Nat→Bool}{i:Nat}{e:En}:∀{L:Nat},e∈endsTo ls lv i L↔∃k,k<L∧e∈endsAt (ls k) (lv k) i
 | 0=>⟨fun h=>by simp[endsTo] at h,fun⟨k,hk,_⟩=>by omega⟩
 | L+1=>by
  simp only[endsTo,List.mem_append];rw[endsTo_mem (L:=L)];constructor
  ·rintro(⟨k,hk,h⟩ | h)
   ·exact⟨k,by omega,h⟩
   ·exact⟨L,by omega,h⟩
  ·rintro⟨k,hk,h⟩;by_cases e:k=L
   ·subst e;exact Or.inr h
   ·exact Or.inl ⟨k,by omega,h⟩
theorem ends_perm (ls:Nat→Lk) (lv:Nat→Bool) (L i:Nat):(ends ls lv L i).Perm (endsTo ls lv i L):=List.mergeSort_perm _ _
theorem ends_mem {ls:Nat→Lk}{lv:Nat→Bool}{L i:Nat}{e:En}:e∈ends ls lv L i↔∃k,k<L∧(((ls k).a=(i:Int)∧e=⟨(ls k).pa,(ls k).cost,(ls k).b,(ls k).pb,lv k⟩)∨((ls k).b=(i:Int)∧e=⟨(ls k).pb,(ls k).cost,(ls k).a,(ls k).pa,lv k⟩)):=by
 rw[(ends_perm ls lv L i).mem_iff,endsTo_mem];constructor
 ·rintro⟨k,hk,h⟩;exact⟨k,hk,endsAt_mem.1 h⟩
 ·rintro⟨k,hk,h⟩;exact⟨k,hk,endsAt_mem.2 h⟩
theorem endsTo_ports {K L:Nat}{ls:Nat→Lk}(R:RightL K L ls) (lv:Nat→Bool) (i:Nat):∀n,n≤L→(endsTo ls lv i n).Pairwise (fun x y=>x.port≠y.port)
 | 0,_=>List.Pairwise.nil
 | n+1,hn=>by
  simp only[endsTo];rw[List.pairwise_append];refine⟨endsTo_ports R lv i n (by omega),?_,?_⟩
  ·have:=(R.ok n (by omega)).2.2.1;unfold endsAt;by_cases h1:(ls n).a=(i:Int)<;>by_cases h2:(ls n).b=(i:Int)<;>simp[h1,h2]
   omega
  ·intro x hx y hy;obtain⟨k,hk,hx⟩:=endsTo_mem.1 hx;obtain⟨o1,o2⟩:=R.one k n (by omega) (by omega);unfold isEnd at o1 o2;simp only[Bool.or_eq_false_iff,decide_eq_false_iff_not] at o1 o2;rcases endsAt_mem.1 hx with⟨a1,rfl⟩ | ⟨a1,rfl⟩<;>rcases endsAt_mem.1 hy with⟨b1,rfl⟩ | ⟨b1,rfl⟩<;>simp only<;>intro e
   ·exact o1.1 ⟨by omega,e⟩
   ·exact o2.1 ⟨by omega,e⟩
   ·exact o1.2 ⟨by omega,e⟩
   ·exact o2.2 ⟨by omega,e⟩
theorem ends_sorted {K L:Nat}{ls:Nat→Lk}(R:RightL K L ls) (lv:Nat→Bool) (i:Nat):(ends ls lv L i).Pairwise (fun x y=>x.port<y.port):=by
 have h1:(ends ls lv L i).Pairwise (fun x y=>leP x y=true):=List.pairwise_mergeSort (fun a b c h1 h2=>by simp[leP] at *;omega) (fun a b=>by simp[leP];omega) _;have h2:(ends ls lv L i).Pairwise (fun x y=>x.port≠y.port):=((ends_perm ls lv L i).pairwise_iff (fun {a b}(h:a.port≠b.port)=>h.symm)).2 (endsTo_ports R lv i L (Nat.le_refl _));have:=h1.and h2;exact this.imp (fun {a b} ⟨q1,q2⟩=>by simp[leP] at q1;omega)
theorem ends_unique {K L:Nat}{ls:Nat→Lk}(R:RightL K L ls) (lv:Nat→Bool) (i:Nat) {l:List En}(hp:l.Perm (endsTo ls lv i L)) (h:l.Pairwise (fun x y=>¬y.port<x.port)):l=ends ls lv L i:=by
 have h2:l.Pairwise (fun x y=>x.port≠y.port):=(hp.pairwise_iff (fun {a b}(h:a.port≠b.port)=>h.symm)).2 (endsTo_ports R lv i L (Nat.le_refl _));exact sorted_unique (hp.trans (ends_perm ls lv L i).symm) ((h.and h2).imp (fun {a b} ⟨q1,q2⟩=>by omega)) (ends_sorted R lv i)
theorem good {K L:Nat}{ls:Nat→Lk}(R:RightL K L ls) (hK:K≤12) (ids:Nat→Int) (lv:Nat→Bool):Good ids (fun i=>ends ls lv L i) K:=by
 refine⟨hK,fun i hi e he _ => ?_⟩;obtain⟨k,hk,h⟩:=ends_mem.1 he;obtain⟨o1,o2,o3,o4,o5,o6⟩:=R.ok k hk;rcases h with⟨_,rfl⟩ | ⟨_,rfl⟩<;>simp only<;>omega
theorem ends_one {K L:Nat}{ls:Nat→Lk}(R:RightL K L ls) (lv:Nat→Bool) {i:Nat}{x y:En}(hx:x∈ends ls lv L i) (hy:y∈ends ls lv L i) (h:x.port=y.port):x=y:=by
 have S:=ends_sorted R lv i;obtain⟨a,ha,ea⟩:=List.getElem_of_mem hx;obtain⟨b,hb,eb⟩:=List.getElem_of_mem hy;have key:=List.pairwise_iff_getElem.1 S;by_cases e:a=b
 ·subst e;rw[←ea,←eb]
 ·rcases Nat.lt_or_ge a b with q | q
  ·have:=key a b ha hb q;rw[ea,eb] at this;omega
  ·have:=key b a hb ha (by omega);rw[ea,eb] at this;omega
end Pl
end
section
open Go.RowKit
open Pl (Br Net Pc Lk En St)
theorem infoE:(Tryz.prog.info? 153).map (fun i=>(i.zero,i.size,i.bytes))=some (some (.agg #[.int .i64 0,.int .i64 0,.int .i64 0,.int .i64 0,.bool false]),5,40):=by kernel_rfl
theorem infoEs:(Tryz.prog.info? 106).map (fun i=>(i.zero,i.size,i.bytes))=some (some (.slice none 0 0),1,24):=by kernel_rfl
abbrev eCells (l:List En):List Value:=cellsL l.length 5 (fun j=>enC (EL l j))
theorem eCells_snoc (l:List En) (e:En):eCells l++encE e=eCells (l++[e]):=by
 have h1:encE e=cellsL 1 5 (fun _=>enC e):=by
  simp[encE,cellsL,enC,List.range_succ]
 unfold eCells;rw[h1,cellsL_cat _ _ _ (by omega),List.length_append];apply cellsL_congr
 intro i hi;simp only[catC];by_cases q:i<l.length
 ·rw[if_pos q];simp[EL,List.getD,List.getElem?_append_left q]
 ·rw[if_neg q];obtain rfl:i=l.length:=by omega
  simp[EL,List.getD]
structure EnAt (w:World) (G K:Nat) (v:Nat→Value) (L:Nat→List En):Prop where
 blk:w.heap[G]?=some (.cells (rowC K 1 (fun i _=>v i)) 106)
 own:∀i,i<K→w.ownsRow (G+1) 153 5 (v i) (L i).length (eCells (L i))
 apart:∀i j,i<K→j<K→i≠j→∀q,(v i).ownBlock=some q→(v j).ownBlock≠some q
theorem EnAt.below {w w':World}{G K:Nat}{v:Nat→Value}{L:Nat→List En}(h:EnAt w G K v L) (hb:Bl w w'):EnAt w' G K v L :=
 ⟨keep h.blk hb,fun i hi=>ownsC_below (h.own i hi) hb,h.apart⟩
theorem grown_owns {w w':World}{base n:Nat}{v:Value}{xs:List Value}{r:Option Nat}(h:w.ownsRow base 153 5 v n xs) (hg:w.grownBy w' r) (hne:∀q,v.ownBlock=some q→r≠some q):w'.ownsRow base 153 5 v n xs:=by
 refine h.kept hg ?_;cases hv:v.ownBlock with
 | none=>exact Or.inl rfl
 | some q=>exact Or.inr (fun e=>hne q hv e.symm)
theorem en_append {Z:World}{G K:Nat}{v:Nat→Value}{L:Nat→List En}(hE:EnAt Z G K v L) (i:Nat) (hi:i<K) (e:En) (hlen:(L i).length≤1000) :
  ∃v' w2,(Builtin.append_ #[106,106] 106 #[v i,.slice (some ⟨Z.heap.size,0,none⟩) 1 1]).run Tryz.prog (Z.drew.alloc (.cells #[.int .i64 e.port,.int .i64 e.cost,.int .i64 e.other,.int .i64 e.oport,.bool e.live] 153))=.ok v' w2 ∧
   w2.cell? ⟨G,i,none⟩=some (v i)∧w2.frozen? ⟨G,i,none⟩=false∧EnAt (w2.setCell ⟨G,i,none⟩ v') G K (fun j=>if j=i then v' else v j) (fun j=>if j=i then L i++[e] else L j) ∧
   Below G Z (w2.setCell ⟨G,i,none⟩ v')∧(v'.ownBlock=(v i).ownBlock∨v'.ownBlock=some (Z.heap.size+1))∧(∀q,q<Z.heap.size→(v i).ownBlock≠some q→w2.heap[q]?=Z.heap[q]?)∧Z.heap.size≤w2.heap.size:=by
 obtain⟨i0,hi0,hz0,hz1,hz2⟩:=info_parts infoE;have hGl:G<Z.heap.size:=(gSm.1 hE.blk).1;obtain⟨C,hC⟩:∃C,C=Z.drew.alloc (.cells #[.int .i64 e.port,.int .i64 e.cost,.int .i64 e.other,.int .i64 e.oport,.bool e.live] 153):=⟨_,rfl⟩
 have hCb:Bl Z C:=(by rw[hC];exact(Below.drew (Below.refl _ _)).alloc (Nat.le_refl _) _)
 have hCs:C.heap.size=Z.heap.size+1:=(by rw[hC];simp)
 have hCl:C.heap[Z.heap.size]?=some (.cells #[.int .i64 e.port,.int .i64 e.cost,.int .i64 e.other,.int .i64 e.oport,.bool e.live] 153):=(by rw[hC];exact heap_alloc_last Z.drew _)
 have hEC:=hE.below hCb;have hsrc:∀j u,(encE e)[j]?=some u→C.cell? ((⟨Z.heap.size,0,none⟩:Addr).add j)=some u:=by
  intro j u hj;have hl:j<5:=by
   have:=(List.getElem?_eq_some_iff.1 hj).1;simpa[encE] using this
  rw[add_row,Nat.zero_add];rcases(by omega:j=0∨j=1∨j=2∨j=3∨j=4) with q | q | q | q | q<;>subst q<;>(have:=cell_of_row C Z.heap.size 0 _ _ _ hCl;simp[encE] at hj;subst hj;exact cell_of_row C Z.heap.size _ _ _ _ hCl)
 obtain⟨v',w2,hrun,h1,h2,_,h3⟩:=run_append_own_at (P:=Tryz.prog) C (G+1) 106 106 153 i0 _ 5 40 Tryz.underlying106 hi0 hz0 hz1 hz2 rfl (by omega) (v i) (L i).length (eCells (L i)) (hEC.own i hi) ⟨Z.heap.size,0,none⟩ 1 1 (encE e) rfl hsrc (fun u hu=>by simp[encE] at hu;rcases hu with rfl | rfl | rfl | rfl | rfl<;>rfl) (by unfold maxLen;omega) (by omega) (by omega);rw[eCells_snoc] at h1;have hG1:(v i).ownBlock≠some G:=fun q=>by have:=(oCb (hEC.own i hi) G q).1;omega
 have hw2G:w2.heap[G]?=some (.cells (rowC K 1 (fun i _=>v i)) 106):=(h2.block G (by omega) (fun q=>hG1 q.symm)).trans hEC.blk;have hsame:∀q,q<C.heap.size→(v i).ownBlock≠some q→w2.heap[q]?=C.heap[q]?:=fun q hq hne=>h2.block q hq (fun p=>hne p.symm);have hv'G:v'.ownBlock≠some G:=fun q=>by rcases h3 with h3 | h3<;>rw[h3] at q;exact hG1 q;injection q with q;omega
 have eC:(⟨G,i,none⟩:Addr)=⟨G,i*1+0,none⟩:=(by simp)
 have oth:∀q,q≠G→(w2.setCell ⟨G,i,none⟩ v').heap[q]?=w2.heap[q]?:=fun q hq=>heap_setCell_other _ _ _ _ (by exact hq);have hgs:w2.grownBy (w2.setCell ⟨G,i,none⟩ v') (some G):=⟨by first | rfl | simp,by first | rfl | simp,by first | rfl | simp,by first | exact Nat.le_refl _ | simp,fun q _ hne=>oth q (fun p=>hne (by rw[p]))⟩
 refine⟨v',w2,by rw[←hC];exact hrun,?_,frozen_of_row _ _ _ _ _ hw2G,⟨?_,fun j hj => ?_,fun j k hj hk hjk q hq => ?_⟩,?_,?_,fun q hq hne => ?_,?_⟩
 ·rw[eC];exact rowC_cell hw2G hi (by omega)
 ·rw[eC,rowC_set hw2G hi (by omega),rC2 (d:=fun j _=>if j=i then v' else v j) (fun j _ m hm=>by
   unfold updC;by_cases q:j=i
   ·rw[if_pos ⟨q,by omega⟩,if_pos q]
   ·rw[if_neg (fun p=>q p.1),if_neg q])]
 ·by_cases q:j=i
  ·subst q;simp only[if_true];rw[List.length_append];exact grown_owns h1 hgs (fun q hq p=>hv'G (by rw[hq];exact p.symm))
  ·simp only[if_neg q];refine grown_owns (grown_owns (hEC.own j hj) h2 (fun p hp r=>hE.apart j i hj hi q p hp r)) hgs (fun p hp r => ?_);have:=(oCb (hEC.own j hj) p hp).1;injection r with r;omega
 ·by_cases c1:j=i<;>by_cases c2:k=i
  ·exact absurd (c1.trans c2.symm) hjk
  ·simp only[if_pos c1] at hq;simp only[if_neg c2];intro r;rcases h3 with h3 | h3
   ·exact hE.apart i k hi hk (fun p=>c2 p.symm) q (by rw[←h3];exact hq) r
   ·have:=(oCb (hE.own k hk) q r).2;rw[h3] at hq;injection hq with hq;omega
  ·simp only[if_neg c1] at hq;simp only[if_pos c2];intro r;rcases h3 with h3 | h3
   ·exact hE.apart j i hj hi c1 q hq (by rw[←h3];exact r)
   ·have:=(oCb (hE.own j hj) q hq).2;rw[h3] at r;injection r with r;omega
  ·simp only[if_neg c1] at hq;simp only[if_neg c2];exact hE.apart j k hj hk hjk q hq
 ·have b1:Below G Z C:=hCb.mono (Nat.le_of_lt hGl);have b2:Below G C w2:=(Below.refl _ _).grown h2 (by omega) (fun q hq=>by have:=(oCb (hEC.own i hi) q hq).1;omega);exact(b1.trans b2).setCell (Nat.le_refl _) _
 ·rcases h3 with h3 | h3
  ·exact Or.inl h3
  ·exact Or.inr (by rw[h3,hCs])
 ·rw[hsame q (by omega) hne];exact hCb.block q hq
 ·have:=h2.size;omega
structure EndsOk (w:World) (G K:Nat) (v:Nat→Value) (E:Nat→List En):Prop where
 blk:w.heap[G]?=some (.cells (rowC K 1 (fun i _=>v i)) 106)
 row:∀i,i<K→∃ao cap,v i=.slice ao (E i).length cap∧ERow w ao (E i).length cap (EL (E i))
 ty:∀i,i<K→∀q,(v i).ownBlock=some q→∃cur,w.heap[q]?=some (.cells cur 153)
theorem EndsOk.below {w w':World}{G K:Nat}{v:Nat→Value}{E:Nat→List En}(h:EndsOk w G K v E) (hb:Bl w w'):EndsOk w' G K v E :=
 ⟨keep h.blk hb,fun i hi=>by
  obtain⟨ao,cap,e,h1⟩:=h.row i hi;exact⟨ao,cap,e,CRow.below h1 hb⟩,fun i hi q hq=>by
  obtain⟨cur,hc⟩:=h.ty i hi q hq;exact⟨cur,keep hc hb⟩⟩
structure SrtAt (w:World) (G K:Nat) (v:Nat→Value) (L E:Nat→List En) (k:Nat):Prop where
 blk:w.heap[G]?=some (.cells (rowC K 1 (fun i _=>v i)) 106)
 own:∀i,i<K→k≤i→w.ownsRow (G+1) 153 5 (v i) (L i).length (eCells (L i))
 row:∀i,i<k→∃ao cap,v i=.slice ao (E i).length cap∧ERow w ao (E i).length cap (EL (E i))
 ty:∀i,i<k→∀q,(v i).ownBlock=some q→∃cur,w.heap[q]?=some (.cells cur 153)
 apart:∀i j,i<K→j<K→i≠j→∀q,(v i).ownBlock=some q→(v j).ownBlock≠some q
theorem srt_next {w w':World}{G K:Nat}{v:Nat→Value}{L E:Nat→List En}{k:Nat}(h:SrtAt w G K v L E k) (hk:k<K) (hg:w.grownBy w' (v k).ownBlock) (hr:∃ao cap,v k=.slice ao (E k).length cap∧ERow w' ao (E k).length cap (EL (E k))) (hty:∀q,(v k).ownBlock=some q→∃cur,w'.heap[q]?=some (.cells cur 153)):SrtAt w' G K v L E (k+1):=by
 have hGl:G<w.heap.size:=(gSm.1 h.blk).1;have hG1:(v k).ownBlock≠some G:=fun q=>by have:=(oCb (h.own k hk (Nat.le_refl _)) G q).1;omega
 refine⟨(hg.block G hGl (fun q=>hG1 q.symm)).trans h.blk,fun i hi hki=>grown_owns (h.own i hi (by omega)) hg (fun q hq p=>h.apart i k hi hk (by omega) q hq p),fun i hi => ?_,fun i hi q hq => ?_,h.apart⟩;rotate_left
 ·by_cases e:i=k
  ·subst e;exact hty q hq
  ·obtain⟨cur,hc⟩:=h.ty i (by omega) q hq;exact⟨cur,(hg.block q (gSm.1 hc).1 (fun p=>h.apart i k (by omega) hk e q hq p.symm)).trans hc⟩
 by_cases e:i=k
 ·subst e;exact hr
 ·obtain⟨ao,cap,e1,h1⟩:=h.row i (by omega);refine⟨ao,cap,e1,CRow.other h1 (fun b off hb hlt=>hg.block b hlt (fun q => ?_)) hg.size⟩;subst hb;exact h.apart i k (by omega) hk e b (by rw[e1];rfl) q.symm
end
section
namespace Pl
open Vc (V Of)
section
variable {ids:Nat→Int}{E:Nat→List En}{K:Nat}
theorem fin_edge (G:Good ids E K) {i:Nat}(hi:i<K) {e:En}(he:e∈E i) (hl:e.live=true):le2 (fin ids E K i).v (fin ids E K e.other.toNat).v.root ((fin ids E K e.other.toNat).v.cost+e.cost):=by
 obtain⟨vs,hw⟩:=fin_real G e.other.toNat (toNat_lt (G.lt i hi e he hl).1);exact fin_up G hi (Walk.over i e vs _ _ hi he hl hw)
theorem fin_bridge (i:Nat):(fin ids E K i).v.bridge=ids i∧(fin ids E K i).v.port=0:=rounds_bridge ids E K K i
theorem fin_cost (G:Good ids E K) {i:Nat}(hi:i<K):0≤(fin ids E K i).v.cost∧(fin ids E K i).v.cost≤28800000:=by
 have h:=(rounds_inv G K G.few).1 i hi;have:=G.few;have h2:(fin ids E K i).v.cost=(rounds ids E K K i).v.cost:=rfl;omega
theorem fin_port (G:Good ids E K) {i:Nat}(hi:i<K):((fin ids E K i).rp = -1∧(fin ids E K i).v.root=ids i∧(fin ids E K i).v.cost=0) ∨
  (0≤(fin ids E K i).rp∧(fin ids E K i).v.root<ids i∧∃e,e∈E i∧e.live=true∧e.port=(fin ids E K i).rp∧(fin ids E K i).v.root=(fin ids E K e.other.toNat).v.root∧(fin ids E K i).v.cost=(fin ids E K e.other.toNat).v.cost+e.cost ∧
   ∀q,q∈E i→q.live=true→¬Vc.ahead (offerOf (fin ids E K) q) (offerOf (fin ids E K) e)):=by
 have hf:=fin_fix G i hi;obtain⟨X,hX⟩:∃X,X=fin ids E K:=⟨_,rfl⟩
 rw[←hX] at hf ⊢;rcases chS_real (ids i) (offs (E i) X) with⟨h,_⟩ | ⟨o,ho,hm,h,hn⟩
 ·rw[h] at hf;rw[hf];exact Or.inl ⟨rfl,rfl,rfl⟩
 ·rw[h] at hf;obtain⟨e,h1,h2,rfl⟩:=offs_mem ho;refine Or.inr ?_;rw[hf];refine⟨hm.2.1,hm.2.2.2,e,h1,h2,rfl,rfl,rfl,fun q hq hql => ?_⟩;by_cases hmq:Vc.may (ids i) (offerOf X q)
  ·exact hn _ (mem_offs hq hql) hmq
  ·intro ha;apply hmq
   have hB:=(rounds_inv G K G.few).1;have hk:=G.few;have hfit:=fits G (x:=X) (by rw[hX];exact hB) (by omega) hi hq hql;refine⟨hfit,(G.lt i hi q hq hql).2.2,⟨Int.le_refl _,show(0:Int)<20 by decide⟩,?_⟩;have hr:(offerOf X e).vec.root<ids i:=hm.2.2.2;have:(offerOf X q).v.root≤(offerOf X e).v.root:=by
    rcases ha with ha | ⟨ha,_⟩
    ·unfold Vc.lt at ha;omega
    ·rw[ha];exact Int.le_refl _
   have e1:(offerOf X q).v.root=(offerOf X q).vec.root:=rfl;have e2:(offerOf X e).v.root=(offerOf X e).vec.root:=rfl;omega
theorem someTo_iff {p:Nat→Bool}:∀{n:Nat},Vc.someTo p n=true↔∃i,i<n∧p i=true
 | 0=>⟨fun h=>by simp[Vc.someTo] at h,fun⟨i,hi,_⟩=>by omega⟩
 | n+1=>by
  simp only[Vc.someTo,Bool.or_eq_true];rw[someTo_iff (n:=n)];constructor
  ·rintro(⟨i,hi,h⟩ | h)
   ·exact⟨i,by omega,h⟩
   ·exact⟨n,by omega,h⟩
  ·rintro⟨i,hi,h⟩;by_cases e:i=n
   ·subst e;exact Or.inr h
   ·exact Or.inl ⟨i,by omega,h⟩
end
section
variable {K L:Nat}{ls:Nat→Lk}
end
end Pl
namespace Tk
open Vc (V Of)
open Pl (Lk En St lf lf_mem lf_of_mem le2 Walk fin fin_real fin_up fin_fix fin_port fin_edge fin_bridge fin_cost offerOf offs toNat_lt)
structure Md where
 v:V
 age:Int
 rp:Int
def heardOf (x:Nat→Md) (e:En):Of:=⟨e.port,e.cost,(x e.other.toNat).age,⟨(x e.other.toNat).v.root,(x e.other.toNat).v.cost,(x e.other.toNat).v.bridge,e.oport⟩⟩
def heard (E:List En) (x:Nat→Md):List Of:=(E.filter (·.live)).map (heardOf x)
def chM (id:Int) (l:List Of):Md:=⟨Vc.chV id (lf l) l.length,Vc.chA id (lf l) l.length,Vc.chP id (lf l) l.length⟩
def tick (ids:Nat→Int) (E:Nat→List En) (x:Nat→Md):Nat→Md:=fun i=>chM (ids i) (heard (E i) x)
def ticks (ids:Nat→Int) (E:Nat→List En) (x:Nat→Md):Nat→(Nat→Md)
 | 0=>x
 | t+1=>tick ids E (ticks ids E x t)
theorem heard_mem {l:List En}{x:Nat→Md}{o:Of}(h:o∈heard l x):∃e,e∈l∧e.live=true∧o=heardOf x e:=by
 unfold heard at h;obtain⟨e,he,rfl⟩:=List.mem_map.1 h;obtain⟨h1,h2⟩:=List.mem_filter.1 he;exact⟨e,h1,h2,rfl⟩
theorem mem_heard {l:List En}{x:Nat→Md}{e:En}(h:e∈l) (hl:e.live=true):heardOf x e∈heard l x :=
 List.mem_map.2 ⟨e,List.mem_filter.2 ⟨h,hl⟩,rfl⟩
theorem chM_real (id:Int) (l:List Of):(chM id l=⟨⟨id,0,id,0⟩,0,-1⟩∧∀o∈l,¬Vc.may id o)∨∃o∈l,Vc.may id o∧chM id l=⟨⟨o.vec.root,o.vec.cost+o.cost,id,0⟩,o.age+1,o.port⟩∧∀q∈l,Vc.may id q→¬Vc.ahead q o:=by
 cases h:Vc.chTo id (lf l) l.length with
 | none =>
  refine Or.inl ⟨?_,fun o ho hm => ?_⟩
  ·unfold chM Vc.chV Vc.chA Vc.chP;rw[h]
  ·obtain⟨j,hj,e⟩:=lf_of_mem ho;exact Vc.chTo_none id (lf l) l.length h j hj (by rw[e];exact hm)
 | some i =>
  obtain⟨h1,h2,h3⟩:=Vc.chTo_some id (lf l) l.length i h;refine Or.inr ⟨lf l i,lf_mem h1,h2,?_,fun q hq hm => ?_⟩
  ·unfold chM Vc.chV Vc.chA Vc.chP;rw[h];rfl
  ·obtain⟨j,hj,e⟩:=lf_of_mem hq;rw[←e];exact h3 j hj (by rw[e];exact hm)
theorem chM_own (id:Int) (l:List Of):(chM id l).v.bridge=id∧(chM id l).v.port=0∧(0≤(chM id l).age∧(chM id l).age≤20)∧((chM id l).age=0↔(chM id l).rp<0)∧((chM id l).v.root=id↔(chM id l).rp<0)∧(0≤(chM id l).v.cost∧(chM id l).v.cost≤1000000000)∧(chM id l).v.root≤id:=by
 rcases chM_real id l with⟨h,_⟩ | ⟨o,_,hm,h,_⟩
 ·rw[h];simp
 ·rw[h];obtain⟨⟨f1,f2,f3⟩,hp,ha,hr⟩:=hm;simp only;refine⟨trivial,trivial,by omega,⟨fun q=>by omega,fun q=>by omega⟩,⟨fun q=>by omega,fun q=>by omega⟩,by omega,by omega⟩
section
variable {ids:Nat→Int}{E:Nat→List En}{K:Nat}
theorem ticks_own (x:Nat→Md) (t:Nat) (i:Nat):(ticks ids E x (t+1) i).v.bridge=ids i∧(ticks ids E x (t+1) i).v.port=0∧(0≤(ticks ids E x (t+1) i).age∧(ticks ids E x (t+1) i).age≤20):=by
 have h:=chM_own (ids i) (heard (E i) (ticks ids E x t));exact⟨h.1,h.2.1,h.2.2.1⟩
theorem real_of (G:Pl.Good ids E K) (x:Nat→Md):∀t i,i<K→(ticks ids E x t i).age<t→0≤(ticks ids E x t i).age→∃vs,Walk ids E K i vs (ticks ids E x t i).v.root (ticks ids E x t i).v.cost∧(vs.length:Int)=(ticks ids E x t i).age+1
 | 0,i,_,h,h0=>by omega
 | t+1,i,hi,h,_=>by
  simp only[ticks,tick] at h ⊢;rcases chM_real (ids i) (heard (E i) (ticks ids E x t)) with⟨e,_⟩ | ⟨o,ho,hm,e,_⟩
  ·rw[e];exact⟨_,Walk.here i hi,rfl⟩
  ·rw[e] at h ⊢;obtain⟨q,q1,q2,rfl⟩:=heard_mem ho;obtain⟨_,_,ha,_⟩:=hm;simp only[heardOf] at h ha ⊢;obtain⟨vs,h1,h2⟩:=real_of G x t q.other.toNat (toNat_lt (G.lt i hi q q1 q2).1) (by omega) ha.1;exact⟨_,Walk.over i q vs _ _ hi q1 q2 h1,by simp only[List.length_cons];omega⟩
theorem real_late (G:Pl.Good ids E K) (x:Nat→Md) {t:Nat}(ht:21≤t) {i:Nat}(hi:i<K):∃vs,Walk ids E K i vs (ticks ids E x t i).v.root (ticks ids E x t i).v.cost:=by
 obtain⟨s,rfl⟩:∃s,t=s+1:=⟨t-1,by omega⟩
 have h:=ticks_own (ids:=ids) (E:=E) x s i;obtain⟨vs,h1,_⟩:=real_of G x (s+1) i hi (by omega) h.2.2.1;exact⟨vs,h1⟩
inductive Dep (ids:Nat→Int) (E:Nat→List En) (K:Nat):Nat→List Nat→Prop
 | root (i:Nat):i<K→(fin ids E K i).rp = -1→Dep ids E K i [i]
 | step (i:Nat) (e:En) (vs:List Nat):i<K→e∈E i→e.live=true→e.port=(fin ids E K i).rp→(fin ids E K i).v.root<ids i→(fin ids E K i).v.root=(fin ids E K e.other.toNat).v.root→(fin ids E K i).v.cost=(fin ids E K e.other.toNat).v.cost+e.cost →
   (∀q,q∈E i→q.live=true→¬Vc.ahead (offerOf (fin ids E K) q) (offerOf (fin ids E K) e))→Dep ids E K e.other.toNat vs→Dep ids E K i (i :: vs)
theorem dep_there (G:Pl.Good ids E K):∀(c:Nat) (i:Nat),i<K→(fin ids E K i).v.cost.toNat≤c→∃vs,Dep ids E K i vs:=by
 intro c;induction c with
 | zero =>
  intro i hi hc;rcases fin_port G hi with⟨h,_⟩ | ⟨_,hr,e,h1,h2,h3,h4,h5,h6⟩
  ·exact⟨_,Dep.root i hi h⟩
  ·exfalso
   obtain⟨g1,g2,_⟩:=G.lt i hi e h1 h2;have:=fin_cost G (toNat_lt g1);omega
 | succ c ih =>
  intro i hi hc;rcases fin_port G hi with⟨h,_⟩ | ⟨_,hr,e,h1,h2,h3,h4,h5,h6⟩
  ·exact⟨_,Dep.root i hi h⟩
  ·obtain⟨g1,g2,_⟩:=G.lt i hi e h1 h2;have:=fin_cost G (toNat_lt g1);obtain⟨vs,hv⟩:=ih e.other.toNat (toNat_lt g1) (by omega);exact⟨_,Dep.step i e vs hi h1 h2 h3 hr h4 h5 h6 hv⟩
theorem Dep.near (G:Pl.Good ids E K) {i:Nat}{vs:List Nat}(h:Dep ids E K i vs):(∀v∈vs,v<K∧(fin ids E K v).v.cost≤(fin ids E K i).v.cost)∧vs.Nodup:=by
 induction h with
 | root i hi _=>exact⟨fun v hv=>by rw[List.mem_singleton] at hv;subst hv;exact⟨hi,Int.le_refl _⟩,by simp⟩
 | step i e vs hi h1 h2 _ _ _ h5 _ _ ih =>
  obtain⟨_,g2,_⟩:=G.lt i hi e h1 h2;refine⟨fun v hv => ?_,List.nodup_cons.2 ⟨fun hm => ?_,ih.2⟩⟩
  ·rcases List.mem_cons.1 hv with q | q
   ·subst q;exact⟨hi,Int.le_refl _⟩
   ·have:=ih.1 v q;exact⟨this.1,by omega⟩
  ·have:=(ih.1 i hm).2;omega
theorem Dep.len (G:Pl.Good ids E K) {i:Nat}{vs:List Nat}(h:Dep ids E K i vs):vs.length≤12 :=
 Nat.le_trans (Pl.nodup_few K vs (h.near G).2 (fun v hv=>((h.near G).1 v hv).1)) G.few
theorem Dep.pos {i:Nat}{vs:List Nat}(h:Dep ids E K i vs):1≤vs.length:=by cases h<;>simp
theorem agree (G:Pl.Good ids E K) (one:∀i,i<K→∀p q,p∈E i→q∈E i→p.port=q.port→p=q) (x:Nat→Md) {i:Nat}{vs:List Nat}(h:Dep ids E K i vs):∀t,20+vs.length≤t→ticks ids E x t i=⟨(fin ids E K i).v,(vs.length:Int)-1,(fin ids E K i).rp⟩:=by
 induction h with
 | root i hi hrp =>
  intro t ht;simp only[List.length_singleton] at ht;obtain⟨s,rfl⟩:∃s,t=s+1:=⟨t-1,by omega⟩
  have hf:(fin ids E K i).v=⟨ids i,0,ids i,0⟩:=by
   have hb:=fin_bridge (ids:=ids) (E:=E) (K:=K) i;rcases fin_port G hi with⟨_,h2,h3⟩ | ⟨h2,_⟩
   ·exact Vc.V.eq h2 h3 hb.1 hb.2
   ·omega
  obtain⟨ws,hw⟩:=real_late G x (t:=s+1) (by omega) hi;have hle:=fin_up G hi hw;simp only[ticks,tick] at hle ⊢;rcases chM_real (ids i) (heard (E i) (ticks ids E x s)) with⟨e,_⟩ | ⟨o,_,hm,e,_⟩
  ·rw[e,hf,hrp];simp
  ·exfalso
   rw[e,hf] at hle;have:=hm.2.2.2;unfold le2 at hle;simp only at hle;omega
 | step i e vs hi h1 h2 h3 hr h4 h5 h6 hd ih =>
  intro t ht;simp only[List.length_cons] at ht;have hlen:=hd.len G;have hpos:=hd.pos;obtain⟨s,rfl⟩:∃s,t=s+1:=⟨t-1,by omega⟩
  obtain⟨r,rfl⟩:∃r,s=r+1:=⟨s-1,by omega⟩
  obtain⟨g1,g2,g3⟩:=G.lt i hi e h1 h2;have hp:=ih (r+1) (by omega);have hc:=fin_cost G (toNat_lt g1);have hb:=fin_bridge (ids:=ids) (E:=E) (K:=K) i;have hbp:=fin_bridge (ids:=ids) (E:=E) (K:=K) e.other.toNat;have ho:heardOf (ticks ids E x (r+1)) e=⟨e.port,e.cost,(vs.length:Int)-1,(offerOf (fin ids E K) e).vec⟩:=(by unfold heardOf;rw[hp];rfl)
  have hmay:Vc.may (ids i) (heardOf (ticks ids E x (r+1)) e):=by
   rw[ho];refine⟨?_,g3,⟨?_,?_⟩,?_⟩
   ·unfold Vc.fitsOver offerOf;simp only;omega
   ·show(0:Int)≤(vs.length:Int)-1;omega
   ·show(vs.length:Int)-1<20;omega
   ·show(fin ids E K e.other.toNat).v.root<ids i;omega
  have hnot:∀q,q∈E i→q.live=true→¬Vc.ahead (heardOf (ticks ids E x (r+1)) q) (heardOf (ticks ids E x (r+1)) e):=by
   intro q q1 q2 ha;obtain⟨k1,_,_⟩:=G.lt i hi q q1 q2;obtain⟨ws,hw⟩:=real_late G x (t:=r+1) (by omega) (toNat_lt k1);have l1:=fin_up G (toNat_lt k1) hw;have l2:=fin_edge G hi q1 q2;have own:=ticks_own (ids:=ids) (E:=E) x r q.other.toNat;have hbq:=fin_bridge (ids:=ids) (E:=E) (K:=K) q.other.toNat;have hav:(heardOf (ticks ids E x (r+1)) e).v=(offerOf (fin ids E K) e).v:=(by rw[ho];rfl)
   have hap:(heardOf (ticks ids E x (r+1)) e).port=(offerOf (fin ids E K) e).port:=rfl;have e1:(offerOf (fin ids E K) e).v.root=(fin ids E K i).v.root:=(by rw[h4];rfl)
   have e2:(offerOf (fin ids E K) e).v.cost=(fin ids E K i).v.cost:=(by rw[h5];rfl)
   have hle:(heardOf (ticks ids E x (r+1)) q).v.root<(fin ids E K i).v.root∨((heardOf (ticks ids E x (r+1)) q).v.root=(fin ids E K i).v.root∧(heardOf (ticks ids E x (r+1)) q).v.cost≤(fin ids E K i).v.cost):=by
    rcases ha with ha | ⟨ha,_⟩
    ·rw[hav] at ha;unfold Vc.lt at ha;omega
    ·rw[ha,hav,e1,e2];exact Or.inr ⟨rfl,Int.le_refl _⟩
   unfold heardOf Vc.Of.v Vc.add at hle;unfold le2 at l1 l2;simp only at hle;have r1:(ticks ids E x (r+1) q.other.toNat).v.root=(fin ids E K q.other.toNat).v.root:=(by omega)
   have r2:(ticks ids E x (r+1) q.other.toNat).v.cost=(fin ids E K q.other.toNat).v.cost:=(by omega)
   have hqv:(heardOf (ticks ids E x (r+1)) q).v=(offerOf (fin ids E K) q).v:=by
    unfold heardOf offerOf Vc.Of.v Vc.add;simp only;rw[r1,r2,own.1,hbq.1]
   apply h6 q q1 q2
   unfold Vc.ahead at ha ⊢;rw[hqv,hav] at ha;exact ha
  simp only[ticks,tick];change chM (ids i) (heard (E i) (ticks ids E x (r+1)))=_
  rcases chM_real (ids i) (heard (E i) (ticks ids E x (r+1))) with⟨_,hn⟩ | ⟨o,hom,hm,e',hn⟩
  ·exact absurd hmay (hn _ (mem_heard h1 h2))
  ·obtain⟨q,q1,q2,rfl⟩:=heard_mem hom;obtain⟨_,z2⟩:=Vc.not_ahead (hnot q q1 q2) (hn _ (mem_heard h1 h2) hmay);have:q=e:=one i hi q e q1 h1 z2;subst this;rw[e',ho];have hv:(fin ids E K i).v=⟨(fin ids E K q.other.toNat).v.root,(fin ids E K q.other.toNat).v.cost+q.cost,ids i,0⟩:=Vc.V.eq h4 h5 hb.1 hb.2;rw[hv,←h3];simp only[offerOf,List.length_cons];congr 1
   omega
open Classical in
theorem settled (G:Pl.Good ids E K) (one:∀i,i<K→∀p q,p∈E i→q∈E i→p.port=q.port→p=q) (x:Nat→Md):∃dep:Nat→Int,(∀i,i<K→0≤dep i∧dep i≤11)∧∀t,32≤t→∀i,i<K→ticks ids E x t i=⟨(fin ids E K i).v,dep i,(fin ids E K i).rp⟩:=by
 refine⟨fun i=>if h:∃vs,Dep ids E K i vs then(h.choose.length:Int)-1 else 0,fun i hi => ?_,fun t ht i hi => ?_⟩
 ·have h:=dep_there G _ i hi (Nat.le_refl _);simp only[dif_pos h];have h1:=h.choose_spec.len G;have h2:=h.choose_spec.pos;omega
 ·have h:=dep_there G _ i hi (Nat.le_refl _);simp only[dif_pos h];exact agree G one x h.choose_spec t (by have:=h.choose_spec.len G;omega)
end
def roleM (m:Md) (l:List Of) (e:En):Int:=if e.live=true then Vc.role m.v m.rp e.port (lf l) l.length else 0
section
variable {ids:Nat→Int}{E:Nat→List En}{K:Nat}
theorem someTo_congr {p q:Nat→Bool}:∀n,(∀i,i<n→p i=q i)→Vc.someTo p n=Vc.someTo q n
 | 0,_=>rfl
 | n+1,h=>by simp only[Vc.someTo];rw[someTo_congr n (fun i hi=>h i (by omega)),h n (by omega)]
theorem role_same (m:Md) (s:St) (hv:m.v=s.v) (hr:m.rp=s.rp) (l:List En) (x:Nat→Md) (y:Nat→St) (h:∀e,e∈l→e.live=true→(x e.other.toNat).v=(y e.other.toNat).v∧0≤(x e.other.toNat).age∧(x e.other.toNat).age≤20) (e:En):roleM m (heard l x) e=Pl.roleAt s (offs l y) e:=by
 unfold roleM Pl.roleAt;by_cases hl:e.live=true
 ·rw[if_pos hl,if_pos hl,hv,hr];unfold Vc.role;have hlen:(heard l x).length=(offs l y).length:=(by unfold heard offs;rw[List.length_map,List.length_map])
  rw[hlen];have key:Vc.someTo (fun i=>decide (Vc.hears s.v e.port (lf (heard l x) i))) (offs l y).length=Vc.someTo (fun i=>decide (Vc.hears s.v e.port (lf (offs l y) i))) (offs l y).length:=by
   apply someTo_congr
   intro i hi;have hi':i<(l.filter (·.live)).length:=by unfold offs at hi;rw[List.length_map] at hi;exact hi
   have hm:=List.getElem_mem hi';obtain⟨m1,m2⟩:=List.mem_filter.1 hm;obtain⟨k1,k2,k3⟩:=h _ m1 m2;have a1:lf (heard l x) i=heardOf x ((l.filter (·.live))[i]):=by
    unfold lf heard;rw[List.getD_eq_getElem?_getD,List.getElem?_map,List.getElem?_eq_getElem hi'];rfl
   have a2:lf (offs l y) i=offerOf y ((l.filter (·.live))[i]):=by
    unfold lf offs;rw[List.getD_eq_getElem?_getD,List.getElem?_map,List.getElem?_eq_getElem hi'];rfl
   rw[a1,a2];apply decide_eq_decide.2
   unfold Vc.hears heardOf offerOf;simp only;rw[k1];constructor
   ·rintro⟨p1,p2,p3⟩;exact⟨p1,⟨by omega,by omega⟩,p3⟩
   ·rintro⟨p1,p2,p3⟩;exact⟨p1,⟨k2,k3⟩,p3⟩
  rw[key]
 ·rw[if_neg hl,if_neg hl]
end
end Tk
end
end Go.Proofs.YtflghpnpjmodaaaGreatDoor
