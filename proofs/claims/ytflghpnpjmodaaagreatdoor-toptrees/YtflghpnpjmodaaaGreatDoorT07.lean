/- Rows of cells in a block of the call's own: see RC -/
import Derived.Test.YtflghpnpjmodaaaGreatDoorT02
import Derived.Test.YtflghpnpjmodaaaGreatDoorT06
import Derived.Laws.EntriesVeiled
set_option maxRecDepth 100000
set_option maxHeartbeats 6000000
namespace Go.Proofs.YtflghpnpjmodaaaGreatDoor
section
namespace Pl
open Vc (V Of)
structure RightL (K L:Nat) (ls:Nat→Lk):Prop where
 ok:∀k,k<L→(0≤(ls k).a∧(ls k).a<K)∧(0≤(ls k).b∧(ls k).b<K)∧(ls k).a≠(ls k).b∧(1≤(ls k).pa∧(ls k).pa≤30)∧(1≤(ls k).pb∧(ls k).pb≤30)∧(1≤(ls k).cost∧(ls k).cost≤200000)
 one:∀j k,j<k→k<L→isEnd (ls j) (ls k).a (ls k).pa=false∧isEnd (ls j) (ls k).b (ls k).pb=false
theorem someTo_false {p:Nat→Bool}:∀{n:Nat},Vc.someTo p n=false→∀i,i<n→p i=false
 | 0,_,i,hi=>by omega
 | n+1,h,i,hi=>by
  simp only[Vc.someTo,Bool.or_eq_false_iff] at h;by_cases e:i=n
  ·subst e;exact h.2
  ·exact someTo_false h.1 i (by omega)
theorem lkErr_ok {K:Nat}{l:Lk}(h:lkErr K l=0):(0≤l.a∧l.a<K)∧(0≤l.b∧l.b<K)∧l.a≠l.b∧(1≤l.pa∧l.pa≤30)∧(1≤l.pb∧l.pb≤30)∧(1≤l.cost∧l.cost≤200000):=by
 unfold lkErr at h;split at h
 ·omega
 ·split at h
  ·omega
  ·split at h
   ·omega
   ·omega
theorem lErr_ok {K:Nat}{ls:Nat→Lk}{i:Nat}(h:lErr K ls i=0):lkErr K (ls i)=0∧∀j,j<i→isEnd (ls j) (ls i).a (ls i).pa=false∧isEnd (ls j) (ls i).b (ls i).pb=false:=by
 unfold lErr at h;split at h
 ·omega
 ·rename_i h1;split at h
  ·omega
  ·rename_i h2;refine⟨by omega,fun j hj => ?_⟩;have:=someTo_false (by simpa using h2) j hj;simpa using this
theorem rightL {K L:Nat}{ls:Nat→Lk}(h:∀i,i<L→lErr K ls i=0):RightL K L ls :=
 ⟨fun k hk=>lkErr_ok (lErr_ok (h k hk)).1,fun j k hj hk=>(lErr_ok (h k hk)).2 j hj⟩
theorem endsAt_mem {l:Lk}{lv:Bool}{i:Nat}{e:En}:e∈endsAt l lv i↔(l.a=(i:Int)∧e=⟨l.pa,l.cost,l.b,l.pb,lv⟩)∨(l.b=(i:Int)∧e=⟨l.pb,l.cost,l.a,l.pa,lv⟩):=by
 unfold endsAt;by_cases h1:l.a=(i:Int)<;>by_cases h2:l.b=(i:Int)<;>simp[h1,h2]
theorem endsTo_mem {ls:Nat→Lk}{lv:Nat→Bool}{i:Nat}{e:En}:∀{L:Nat},e∈endsTo ls lv i L↔∃k,k<L∧e∈endsAt (ls k) (lv k) i
 | 0=>⟨fun h=>by simp[endsTo] at h,fun⟨k,hk,_⟩=>by omega⟩
 | L+1=>by
  simp only[endsTo,List.mem_append];rw[endsTo_mem (L:=L)];constructor
  ·rintro(⟨k,hk,h⟩ | h)
   ·exact⟨k,by omega,h⟩
   ·exact⟨L,by omega,h⟩
  ·rintro⟨k,hk,h⟩;by_cases e:k=L
   ·subst e;exact Or.inr h
   ·exact Or.inl ⟨k,by omega,h⟩
theorem ends_perm (ls:Nat→Lk) (lv:Nat→Bool) (L i:Nat):(ends ls lv L i).Perm (endsTo ls lv i L):=List.mergeSort_perm _ _
theorem ends_mem {ls:Nat→Lk}{lv:Nat→Bool}{L i:Nat}{e:En}:e∈ends ls lv L i↔∃k,k<L∧(((ls k).a=(i:Int)∧e=⟨(ls k).pa,(ls k).cost,(ls k).b,(ls k).pb,lv k⟩)∨((ls k).b=(i:Int)∧e=⟨(ls k).pb,(ls k).cost,(ls k).a,(ls k).pa,lv k⟩)):=by
 rw[(ends_perm ls lv L i).mem_iff,endsTo_mem];constructor
 ·rintro⟨k,hk,h⟩;exact⟨k,hk,endsAt_mem.1 h⟩
 ·rintro⟨k,hk,h⟩;exact⟨k,hk,endsAt_mem.2 h⟩
theorem endsTo_ports {K L:Nat}{ls:Nat→Lk}(R:RightL K L ls) (lv:Nat→Bool) (i:Nat):∀n,n≤L→(endsTo ls lv i n).Pairwise (fun x y=>x.port≠y.port)
 | 0,_=>List.Pairwise.nil
 | n+1,hn=>by
  simp only[endsTo];rw[List.pairwise_append];refine⟨endsTo_ports R lv i n (by omega),?_,?_⟩
  ·have:=(R.ok n (by omega)).2.2.1;unfold endsAt;by_cases h1:(ls n).a=(i:Int)<;>by_cases h2:(ls n).b=(i:Int)<;>simp[h1,h2]
   omega
  ·intro x hx y hy;obtain⟨k,hk,hx⟩:=endsTo_mem.1 hx;obtain⟨o1,o2⟩:=R.one k n (by omega) (by omega);unfold isEnd at o1 o2;simp only[Bool.or_eq_false_iff,decide_eq_false_iff_not] at o1 o2;rcases endsAt_mem.1 hx with⟨a1,rfl⟩ | ⟨a1,rfl⟩<;>rcases endsAt_mem.1 hy with⟨b1,rfl⟩ | ⟨b1,rfl⟩<;>simp only<;>intro e
   ·exact o1.1 ⟨by omega,e⟩
   ·exact o2.1 ⟨by omega,e⟩
   ·exact o1.2 ⟨by omega,e⟩
   ·exact o2.2 ⟨by omega,e⟩
theorem ends_sorted {K L:Nat}{ls:Nat→Lk}(R:RightL K L ls) (lv:Nat→Bool) (i:Nat):(ends ls lv L i).Pairwise (fun x y=>x.port<y.port):=by
 have h1:(ends ls lv L i).Pairwise (fun x y=>leP x y=true):=List.pairwise_mergeSort (fun a b c h1 h2=>by simp[leP] at *;omega) (fun a b=>by simp[leP];omega) _;have h2:(ends ls lv L i).Pairwise (fun x y=>x.port≠y.port):=((ends_perm ls lv L i).pairwise_iff (fun {a b}(h:a.port≠b.port)=>h.symm)).2 (endsTo_ports R lv i L (Nat.le_refl _));have:=h1.and h2;exact this.imp (fun {a b} ⟨q1,q2⟩=>by simp[leP] at q1;omega)
theorem ends_unique {K L:Nat}{ls:Nat→Lk}(R:RightL K L ls) (lv:Nat→Bool) (i:Nat) {l:List En}(hp:l.Perm (endsTo ls lv i L)) (h:l.Pairwise (fun x y=>¬y.port<x.port)):l=ends ls lv L i:=by
 have h2:l.Pairwise (fun x y=>x.port≠y.port):=(hp.pairwise_iff (fun {a b}(h:a.port≠b.port)=>h.symm)).2 (endsTo_ports R lv i L (Nat.le_refl _));exact sorted_unique (hp.trans (ends_perm ls lv L i).symm) ((h.and h2).imp (fun {a b} ⟨q1,q2⟩=>by omega)) (ends_sorted R lv i)
theorem good {K L:Nat}{ls:Nat→Lk}(R:RightL K L ls) (hK:K≤12) (ids:Nat→Int) (lv:Nat→Bool):Good ids (fun i=>ends ls lv L i) K:=by
 refine⟨hK,fun i hi e he _ => ?_⟩;obtain⟨k,hk,h⟩:=ends_mem.1 he;obtain⟨o1,o2,o3,o4,o5,o6⟩:=R.ok k hk;rcases h with⟨_,rfl⟩ | ⟨_,rfl⟩<;>simp only<;>omega
theorem ends_one {K L:Nat}{ls:Nat→Lk}(R:RightL K L ls) (lv:Nat→Bool) {i:Nat}{x y:En}(hx:x∈ends ls lv L i) (hy:y∈ends ls lv L i) (h:x.port=y.port):x=y:=by
 have S:=ends_sorted R lv i;obtain⟨a,ha,ea⟩:=List.getElem_of_mem hx;obtain⟨b,hb,eb⟩:=List.getElem_of_mem hy;have key:=List.pairwise_iff_getElem.1 S;by_cases e:a=b
 ·subst e;rw[←ea,←eb]
 ·rcases Nat.lt_or_ge a b with q | q
  ·have:=key a b ha hb q;rw[ea,eb] at this;omega
  ·have:=key b a hb ha (by omega);rw[ea,eb] at this;omega
end Pl
namespace Pl
open Vc (V Of)
section
variable {ids:Nat→Int}{E:Nat→List En}{K:Nat}
theorem fin_edge (G:Good ids E K) {i:Nat}(hi:i<K) {e:En}(he:e∈E i) (hl:e.live=true):le2 (fin ids E K i).v (fin ids E K e.other.toNat).v.root ((fin ids E K e.other.toNat).v.cost+e.cost):=by
 obtain⟨vs,hw⟩:=fin_real G e.other.toNat (toNat_lt (G.lt i hi e he hl).1);exact fin_up G hi (Walk.over i e vs _ _ hi he hl hw)
theorem fin_bridge (i:Nat):(fin ids E K i).v.bridge=ids i∧(fin ids E K i).v.port=0:=rounds_bridge ids E K K i
theorem fin_cost (G:Good ids E K) {i:Nat}(hi:i<K):0≤(fin ids E K i).v.cost∧(fin ids E K i).v.cost≤28800000:=by
 have h:=(rounds_inv G K G.few).1 i hi;have:=G.few;have h2:(fin ids E K i).v.cost=(rounds ids E K K i).v.cost:=rfl;omega
theorem fin_port (G:Good ids E K) {i:Nat}(hi:i<K):((fin ids E K i).rp = -1∧(fin ids E K i).v.root=ids i∧(fin ids E K i).v.cost=0) ∨
  (0≤(fin ids E K i).rp∧(fin ids E K i).v.root<ids i∧∃e,e∈E i∧e.live=true∧e.port=(fin ids E K i).rp∧(fin ids E K i).v.root=(fin ids E K e.other.toNat).v.root∧(fin ids E K i).v.cost=(fin ids E K e.other.toNat).v.cost+e.cost ∧
   ∀q,q∈E i→q.live=true→¬Vc.ahead (offerOf (fin ids E K) q) (offerOf (fin ids E K) e)):=by
 have hf:=fin_fix G i hi;obtain⟨X,hX⟩:∃X,X=fin ids E K:=⟨_,rfl⟩
 rw[←hX] at hf ⊢;rcases chS_real (ids i) (offs (E i) X) with⟨h,_⟩ | ⟨o,ho,hm,h,hn⟩
 ·rw[h] at hf;rw[hf];exact Or.inl ⟨rfl,rfl,rfl⟩
 ·rw[h] at hf;obtain⟨e,h1,h2,rfl⟩:=offs_mem ho;refine Or.inr ?_;rw[hf];refine⟨hm.2.1,hm.2.2.2,e,h1,h2,rfl,rfl,rfl,fun q hq hql => ?_⟩;by_cases hmq:Vc.may (ids i) (offerOf X q)
  ·exact hn _ (mem_offs hq hql) hmq
  ·intro ha;apply hmq
   have hB:=(rounds_inv G K G.few).1;have hk:=G.few;have hfit:=fits G (x:=X) (by rw[hX];exact hB) (by omega) hi hq hql;refine⟨hfit,(G.lt i hi q hq hql).2.2,⟨Int.le_refl _,show(0:Int)<20 by decide⟩,?_⟩;have hr:(offerOf X e).vec.root<ids i:=hm.2.2.2;have:(offerOf X q).v.root≤(offerOf X e).v.root:=by
    rcases ha with ha | ⟨ha,_⟩
    ·unfold Vc.lt at ha;omega
    ·rw[ha];exact Int.le_refl _
   have e1:(offerOf X q).v.root=(offerOf X q).vec.root:=rfl;have e2:(offerOf X e).v.root=(offerOf X e).vec.root:=rfl;omega
theorem someTo_iff {p:Nat→Bool}:∀{n:Nat},Vc.someTo p n=true↔∃i,i<n∧p i=true
 | 0=>⟨fun h=>by simp[Vc.someTo] at h,fun⟨i,hi,_⟩=>by omega⟩
 | n+1=>by
  simp only[Vc.someTo,Bool.or_eq_true];rw[someTo_iff (n:=n)];constructor
  ·rintro(⟨i,hi,h⟩ | h)
   ·exact⟨i,by omega,h⟩
   ·exact⟨n,by omega,h⟩
  ·rintro⟨i,hi,h⟩;by_cases e:i=n
   ·subst e;exact Or.inr h
   ·exact Or.inl ⟨i,by omega,h⟩
end
section
variable {K L:Nat}{ls:Nat→Lk}
end
end Pl
end
section
open Go.RowKit Go.Maps
open Pl (Br Net Pc Lk En St)
theorem seq_isEnd (ls:Nat→Lk) (x p:Int) (k:Nat):Vc.someTo (fun j=>decide (endSeq ls j=(x,p))) (2*k)=true↔∃i,i<k∧Pl.isEnd (ls i) x p=true:=by
 rw[Pl.someTo_iff];constructor
 ·rintro⟨j,hj,h⟩;have h:=of_decide_eq_true h;refine⟨j/2,by omega,?_⟩;unfold endSeq at h;unfold Pl.isEnd;by_cases e:j%2=0
  ·rw[if_pos e] at h;injection h with h1 h2;simp[h1,h2]
  ·rw[if_neg e] at h;injection h with h1 h2;simp[h1,h2]
 ·rintro⟨i,hi,h⟩;unfold Pl.isEnd at h;simp only[Bool.or_eq_true,decide_eq_true_eq] at h;rcases h with⟨h1,h2⟩ | ⟨h1,h2⟩
  ·exact⟨2*i,by omega,decide_eq_true (by rw[endSeq_even,h1,h2])⟩
  ·exact⟨2*i+1,by omega,decide_eq_true (by rw[endSeq_odd,h1,h2])⟩
theorem lSay_err (K:Nat) (ls:Nat→Lk) (k:Nat):lSay K (ls k) (cntI (endSeq ls) ((ls k).a,(ls k).pa) (2*k)) (cntI (endSeq ls) ((ls k).b,(ls k).pb) (2*k+1))=Pl.lErr K ls k:=by
 unfold lSay Pl.lErr;by_cases h:Pl.lkErr K (ls k)=0
 ·have hn:¬Pl.lkErr K (ls k)≠0:=fun q=>q h;rw[if_neg hn,if_neg hn];have hab:=(Pl.lkErr_ok h).2.2.1;have c1:=(cntI_pos (endSeq ls) ((ls k).a,(ls k).pa) (2*k)).trans (seq_isEnd ls _ _ k);have c2:0<cntI (endSeq ls) ((ls k).b,(ls k).pb) (2*k+1)↔∃i,i<k∧Pl.isEnd (ls i) (ls k).b (ls k).pb=true:=by
   have e:cntI (endSeq ls) ((ls k).b,(ls k).pb) (2*k+1)=cntI (endSeq ls) ((ls k).b,(ls k).pb) (2*k):=by
    show _+(if endSeq ls (2*k)=_ then(1:Int) else 0)=_;rw[if_neg (by rw[endSeq_even];intro q;injection q with q1 _;exact hab q1),Int.add_zero]
   rw[e];exact(cntI_pos (endSeq ls) ((ls k).b,(ls k).pb) (2*k)).trans (seq_isEnd ls _ _ k)
  have c3:Vc.someTo (fun j=>Pl.isEnd (ls j) (ls k).a (ls k).pa||Pl.isEnd (ls j) (ls k).b (ls k).pb) k=true↔(0<cntI (endSeq ls) ((ls k).a,(ls k).pa) (2*k)∨0<cntI (endSeq ls) ((ls k).b,(ls k).pb) (2*k+1)):=by
   rw[Pl.someTo_iff,c1,c2];constructor
   ·rintro⟨i,hi,q⟩;simp only[Bool.or_eq_true] at q;rcases q with q | q
    ·exact Or.inl ⟨i,hi,q⟩
    ·exact Or.inr ⟨i,hi,q⟩
   ·rintro(⟨i,hi,q⟩ | ⟨i,hi,q⟩)
    ·exact⟨i,hi,by simp[q]⟩
    ·exact⟨i,hi,by simp[q]⟩
  by_cases q1:0<cntI (endSeq ls) ((ls k).a,(ls k).pa) (2*k)
  ·rw[if_pos q1,if_pos (c3.2 (Or.inl q1))]
  ·rw[if_neg q1];by_cases q2:0<cntI (endSeq ls) ((ls k).b,(ls k).pb) (2*k+1)
   ·rw[if_pos q2,if_pos (c3.2 (Or.inr q2))]
   ·rw[if_neg q2,if_neg (fun q=>by rcases c3.1 q with q | q;exact q1 q;exact q2 q)]
 ·rw[if_pos h,if_pos h]
theorem lErr_zero {K:Nat}{ls:Nat→Lk}{k:Nat}(h:Pl.lErr K ls k=0):Pl.lkErr K (ls k)=0:=(Pl.lErr_ok h).1
theorem plFirst_any (ao:Option Addr) (n cap:Nat) (ls:Nat→Lk) (K:Nat) (hK:K≤12) (N Q P B:Nat) (W0 w:World) (hn:n≤40) (hr:LRow W0 ao n cap ls) (hwf:∀i,i<n→(Lit.int .i64 (ls i).a).wf=true∧(Lit.int .i64 (ls i).pa).wf=true∧(Lit.int .i64 (ls i).b).wf=true∧(Lit.int .i64 (ls i).pb).wf=true)
  (hN:w.cell? ⟨N,0,none⟩=some (.int .i64 K)) (hNB:N≠B)
  (hQ:w.cell? ⟨Q,0,none⟩=some (.func (.func 160) #[] #[.pointer (some ⟨P,0,none⟩)])) (hP:w.cell? ⟨P,0,none⟩=some (.map (some B))) (hPB:P≠B) (hQB:Q≠B) (hc:PCnt w B (endSeq ls) 0)
  (hM:W0.heap.size≤B) (hW0:Bl W0 w) :
  Calls Tryz.prog 109 #[.slice ao n cap,.func (.func 110) #[] #[.pointer (some ⟨N,0,none⟩),.pointer (some ⟨Q,0,none⟩)]] w fun e w'=>e=.returned (.agg (ftA (Pl.firstTo (Pl.lErr K ls) n)))∧Bl W0 w':=by
 have HRW:Hid (∀W,Bl W0 W→LRow W ao n cap ls):=fun W hW=>CRow.other hr (fun q _ _ hq=>hW.block q hq) hW.size;have HWF:Hid (∀i,i<n→(Lit.int .i64 (ls i).a).wf=true∧(Lit.int .i64 (ls i).pa).wf=true∧(Lit.int .i64 (ls i).b).wf=true∧(Lit.int .i64 (ls i).pb).wf=true):=hwf;have hcap:=hr.1;have hBl:=hc.lt;obtain⟨G,HG⟩:∃G,Hid (G=w.heap.size):=⟨_,rfl⟩
 have hGB:G≠B:=(by rw[HG.out];omega)
 have hGM:W0.heap.size≤G:=(by rw[HG.out];exact hW0.size)
 have HI:Hid (∀W,W=w.alloc (.cells #[.int .i64 0,.int .i64 0] 26)→Bl W0 W∧PCnt W B (endSeq ls) 0∧W.heap[G]?=some (.cells #[.int .i64 0,.int .i64 0] 26)∧W.cell? ⟨Q,0,none⟩=some (.func (.func 160) #[] #[.pointer (some ⟨P,0,none⟩)])∧W.cell? ⟨P,0,none⟩=some (.map (some B))∧W.cell? ⟨N,0,none⟩=some (.int .i64 K)):=by
  intro W hW;have h1:Bl w W:=(by rw[hW];exact bA1 _ _)
  have hQl:=block_lt_of_cell hQ;have hPl:=block_lt_of_cell hP;have hNl:=block_lt_of_cell hN;exact⟨hW0.trans (h1.mono hW0.size),hc.same (h1.block B hBl),by rw[hW,HG.out];exact heap_alloc_last _ _,(h1.cell (by exact hQl)).trans hQ,(h1.cell (by exact hPl)).trans hP,(h1.cell (by exact hNl)).trans hN⟩
 clear hr hwf hQ hP hN hc hW0 hBl;go_enter Tryz.func109,Tryz.ntmps109;(go_wp2_with fail);rw[←HG.out];go_loopw [10] (fun i wr=>∃k:Nat,k≤n∧i=.int .i64 k∧Hid (∀j,j<k→Pl.lErr K ls j=0)∧Hid (Bl W0 wr∧PCnt wr B (endSeq ls) (2*k)∧wr.heap[G]?=some (.cells #[.int .i64 0,.int .i64 0] 26)∧wr.cell? ⟨Q,0,none⟩=some (.func (.func 160) #[] #[.pointer (some ⟨P,0,none⟩)])∧wr.cell? ⟨P,0,none⟩=some (.map (some B))∧wr.cell? ⟨N,0,none⟩=some (.int .i64 K))) (fun i _=>n-(intOf i).toNat)
 case atStart=>exact⟨0,by omega,rfl,(fun j hj=>absurd hj (by omega)),HI.out _ rfl⟩
 case round =>
  obtain⟨k,hk,rfl,hS,hX⟩:=hrel;clear HI;by_cases hlt:k<n
  ·obtain⟨b,off,rfl,_⟩:=CRow.some (HRW.out wr hX.out.1) (by omega);obtain⟨c0,c1,c2,c3,c4,c5⟩:=LRow.cells (HRW.out wr hX.out.1) hlt;obtain⟨X,HX⟩:∃X,Hid (X=wr.alloc (.cells (lkA (ls k)) 83)):=⟨_,rfl⟩
   have HXB:Hid (Bl wr X):=(by rw[HX.out];exact bA1 _ _)
   have HX5:Hid (X.heap[wr.heap.size]?=some (.cells (lkA (ls k)) 83)):=(by rw[HX.out];exact heap_alloc_last _ _)
   have HCL:Hid (Calls Tryz.prog 110 #[.agg (lkA (ls k)),.pointer (some ⟨N,0,none⟩),.pointer (some ⟨Q,0,none⟩)] X fun e w'=>e=.returned (.int .i64 (Pl.lErr K ls k))∧Hid (Bl W0 w'∧(Pl.lErr K ls k=0→PCnt w' B (endSeq ls) (2*(k+1)))∧w'.heap[G]?=some (.cells #[.int .i64 0,.int .i64 0] 26)∧w'.cell? ⟨Q,0,none⟩=some (.func (.func 160) #[] #[.pointer (some ⟨P,0,none⟩)])∧w'.cell? ⟨P,0,none⟩=some (.map (some B))∧w'.cell? ⟨N,0,none⟩=some (.int .i64 K))):=by
    obtain⟨x1,x2,x3,x4,x5,x6⟩:=hX.out;have l1:=block_lt_of_cell x4;have l2:=block_lt_of_cell x5;have l3:=block_lt_of_cell x6;have y6:=(HXB.out.cell (by exact l3)).trans x6;obtain⟨v1,v2,v3,v4⟩:=HWF.out k hlt;have y1:Bl W0 X:=x1.trans (HXB.out.mono x1.size);have y4:=(HXB.out.cell (by exact l1)).trans x4;have y5:=(HXB.out.cell (by exact l2)).trans x5;have y3:=keep x3 HXB.out;refine(plClosure_any K hK (ls k) N Q P B (2*k) (endSeq ls) X y6 y4 y5 hPB hQB (x2.same (HXB.out.block B x2.lt)) (by omega) (endSeq_even ls k) (endSeq_odd ls k) v1 v2 v3 v4).mono ?_;rintro e w' ⟨rfl,z1,z2⟩;rw[lSay_err];exact⟨rfl,y1.trans (below_of_grown z2 y1.size hM),fun h=>z1 (lErr_zero h),grown_block y3 z2 hGB,grown_cell y4 z2 hQB,grown_cell y5 z2 hPB,grown_cell y6 z2 hNB⟩
   have HF1:Hid (Pl.lErr K ls k≠0→ftA (Pl.firstTo (Pl.lErr K ls) n)=#[.int .i64 (Pl.lErr K ls k),.int .i64 (k:Int)]):=fun h=>by rw[Pl.firstTo_here (Pl.lErr K ls) k hS.out h n hlt];rfl
   have HS1:Hid (Pl.lErr K ls k=0→∀j,j<k+1→Pl.lErr K ls j=0):=fun h j hj=>by
    by_cases e:j=k
    ·subst e;exact h
    ·exact hS.out j (by omega)
   obtain⟨d0,d1,d2,d3,d4,d5⟩:=lk_cells HX5.out;clear hX hS HX5 HXB HWF HRW;generalize Pl.lErr K ls k=E at *;by_cases e0:E=0
   ·subst e0;have HS2:Hid (∀j,j<k+1→Pl.lErr K ls j=0):=HS1.out rfl;clear HS1 HF1;simp only[lkA] at *;(go_wp2_with fail);rw[←HX.out];refine HCL.out.mono ?_;rintro e w1 ⟨rfl,hY⟩;clear d0 d1 d2 d3 d4 d5 c0 c1 c2 c3 c4 c5;(go_wp2_with fail);exact⟨⟨k+1,by omega,by go_num,HS2,⟨hY.out.1,hY.out.2.1 (by first | exact rfl | trivial),hY.out.2.2⟩⟩,by simp[intOf];omega⟩
   ·have e1:(E == 0)=false:=(by simp[e0])
    have HF2:Hid _:=HF1.out e0;clear HS1 HF1;simp only[lkA] at *;(go_wp2_with fail);rw[←HX.out];refine HCL.out.mono ?_;rintro e w1 ⟨rfl,hY⟩;clear d0 d1 d2 d3 d4 d5 c0 c1 c2 c3 c4 c5;obtain⟨f0,f1⟩:=tC2 hY.out.2.2.1;obtain⟨g0,g1,_,_⟩:=vc_free hY.out.2.2.1;(go_wp2_with fail);exact bodyPost_ret (v:=.agg #[.int .i64 E,.int .i64 (k:Int)]) (results_row (p:=4) (ty:=26) Tryz.results109 _ _ G 26 #[.int .i64 E,.int .i64 (k:Int)] (0,0) _ rfl (set2_same hY.out.2.2.1) Tryz.underlying26 rfl (by rw[sizeFt];rfl)) rfl ⟨by rw[HF2.out],(hY.out.1.setCell hGM _).setCell hGM _⟩
  ·obtain rfl:k=n:=by omega
   have HF2:Hid (ftA (Pl.firstTo (Pl.lErr K ls) k)=#[.int .i64 0,.int .i64 0]):=(by rw[Pl.firstTo_all _ _ hS.out];rfl)
   obtain⟨f0,f1⟩:=tC2 hX.out.2.2.1;obtain⟨g0,g1,_,_⟩:=vc_free hX.out.2.2.1;(go_wp2_with fail);exact bodyPost_ret (v:=.agg #[.int .i64 0,.int .i64 0]) (results_row (p:=4) (ty:=26) Tryz.results109 _ _ G 26 #[.int .i64 0,.int .i64 0] (0,0) _ rfl (set2_same hX.out.2.2.1) Tryz.underlying26 rfl (by rw[sizeFt];rfl)) rfl ⟨by rw[HF2.out],(hX.out.1.setCell hGM _).setCell hGM _⟩
theorem pwrongBridges_any (ao:Option Addr) (n cap:Nat) (bs:Nat→Br) (w:World) (hn:n≤12) (hr:BRow w ao n cap bs) (hb:∀i,i<n→(bs i).at' w) (hwf:∀i,i<n→(Lit.int .u64 (bs i).addr).wf=true) :
  Calls Tryz.prog 65 #[.slice ao n cap] w fun e w'=>e=.returned (.agg (ftA (Pl.firstTo (Pl.bErr bs) n)))∧Bl w w':=by
 obtain⟨X,HX⟩:∃X,Hid (X=w.alloc (.cells #[.int .i64 0,.int .i64 0] 26)):=⟨_,rfl⟩
 have hXB:Bl w X:=(by rw[HX.out];exact bA1 _ _)
 have hXb:X.heap[w.heap.size]?=some (.cells #[.int .i64 0,.int .i64 0] 26):=(by rw[HX.out];exact heap_alloc_last _ _)
 have hXs:X.heap.size=w.heap.size+1:=(by rw[HX.out];simp)
 have HT:Hid (Calls Tryz.prog 104 #[] X fun e w'=>e=.returned (.func (.func 157) #[] #[.pointer (some ⟨X.heap.size+1,0,none⟩)])∧Hid (w'.cell? ⟨X.heap.size+1,0,none⟩=some (.map (some X.heap.size))∧UCnt w' X.heap.size (fun j=>(bs j).addr) 0∧Bl X w')):=utaker_any _ X;have HF:Hid (∀w1,Hid (w1.cell? ⟨X.heap.size+1,0,none⟩=some (.map (some X.heap.size))∧UCnt w1 X.heap.size (fun j=>(bs j).addr) 0∧Bl X w1)→∀Y,Y=w1.alloc (.cells #[.func (.func 157) #[] #[.pointer (some ⟨X.heap.size+1,0,none⟩)]] 199) →
   Calls Tryz.prog 105 #[.slice ao n cap,.func (.func 106) #[] #[.pointer (some ⟨w1.heap.size,0,none⟩)]] Y fun e w'=>e=.returned (.agg (ftA (Pl.firstTo (Pl.bErr bs) n)))∧Bl X w'):=by
  intro w1 h Y hY;obtain⟨h1,h2,h3⟩:=h.out;have hYB:Bl w1 Y:=(by rw[hY];exact bA1 _ _)
  have l1:=block_lt_of_cell h1;have h2':=h2.lt;have hYX:Bl X Y:=h3.trans (hYB.mono h3.size);have hYQ:Y.heap[w1.heap.size]?=some (.cells #[.func (.func 157) #[] #[.pointer (some ⟨X.heap.size+1,0,none⟩)]] 199):=(by rw[hY];exact heap_alloc_last _ _)
  refine(pbFirst_any ao n cap bs w1.heap.size (X.heap.size+1) X.heap.size X Y hn (CRow.below hr hXB) (fun i hi=>(hb i hi).below hXB) hwf (cell_of_row _ _ 0 _ _ _ hYQ) ((hYB.cell (by exact l1)).trans h1) (by omega) (by omega) (h2.same (hYB.block _ h2')) (Nat.le_refl _) hYX).mono ?_;rintro e w' ⟨rfl,z⟩;exact⟨rfl,z⟩
 have HEND:Hid (∀W,Bl X W→W.heap[w.heap.size]?=some (.cells #[.int .i64 0,.int .i64 0] 26)∧Bl w W):=fun W hW=>⟨keep hXb hW,hXB.trans (hW.mono hXB.size)⟩
 clear hr hb hwf hXb hXB hXs;generalize Pl.firstTo (Pl.bErr bs) n=R at *;obtain⟨r1,r2⟩:=R;simp only[ftA] at *;go_enter Tryz.func65,Tryz.ntmps65;(go_wp2_with fail);rw[←HX.out];refine HT.out.mono ?_;rintro e w1 ⟨rfl,h1⟩;have hf:=HF.out w1 h1 _ rfl;clear HT HF h1;(go_wp2_with fail);refine hf.mono ?_;rintro e w2 ⟨rfl,h2⟩;obtain⟨k1,k2⟩:=HEND.out w2 h2;obtain⟨f0,f1⟩:=tC2 k1;obtain⟨g0,g1,_,_⟩:=vc_free k1;have HK1:Hid (w2.heap[w.heap.size]?=some (.cells #[.int .i64 0,.int .i64 0] 26)):=k1;have HK2:Hid (Bl w w2):=k2;clear hf k1 k2 h2 HEND;(go_wp2_with fail);exact bodyPost_ret (v:=.agg #[.int .i64 r1,.int .i64 r2]) (results_row (p:=2) (ty:=26) Tryz.results65 _ _ w.heap.size 26 #[.int .i64 r1,.int .i64 r2] (0,0) _ rfl (set2_same HK1.out) Tryz.underlying26 rfl (by rw[sizeFt];rfl)) rfl ⟨rfl,(HK2.out.setCell (Nat.le_refl _) _).setCell (Nat.le_refl _) _⟩
theorem pwrongLinks_any (ao:Option Addr) (n cap:Nat) (ls:Nat→Lk) (K:Nat) (hK:K≤12) (w:World) (hn:n≤40) (hr:LRow w ao n cap ls) (hwf:∀i,i<n→(Lit.int .i64 (ls i).a).wf=true∧(Lit.int .i64 (ls i).pa).wf=true∧(Lit.int .i64 (ls i).b).wf=true∧(Lit.int .i64 (ls i).pb).wf=true) :
  Calls Tryz.prog 66 #[.slice ao n cap,.int .i64 K] w fun e w'=>e=.returned (.agg (ftA (Pl.firstTo (Pl.lErr K ls) n)))∧Bl w w':=by
 obtain⟨X,HX⟩:∃X,Hid (X=(w.alloc (.cells #[.int .i64 K] 3)).alloc (.cells #[.int .i64 0,.int .i64 0] 26)):=⟨_,rfl⟩
 have hXB:Bl w X:=(by rw[HX.out];exact bA2 _ _ _)
 have hXn:X.heap[w.heap.size]?=some (.cells #[.int .i64 K] 3):=(by rw[HX.out];exact heap_alloc2_old w _ _)
 have hXb:X.heap[w.heap.size+1]?=some (.cells #[.int .i64 0,.int .i64 0] 26):=(by rw[HX.out];exact heap_alloc2_new w _ _)
 have hXs:X.heap.size=w.heap.size+2:=(by rw[HX.out];simp)
 have HT:Hid (Calls Tryz.prog 108 #[] X fun e w'=>e=.returned (.func (.func 160) #[] #[.pointer (some ⟨X.heap.size+1,0,none⟩)])∧Hid (w'.cell? ⟨X.heap.size+1,0,none⟩=some (.map (some X.heap.size))∧PCnt w' X.heap.size (endSeq ls) 0∧Bl X w')):=ptaker_any _ X;have HF:Hid (∀w1,Hid (w1.cell? ⟨X.heap.size+1,0,none⟩=some (.map (some X.heap.size))∧PCnt w1 X.heap.size (endSeq ls) 0∧Bl X w1)→∀Y,Y=w1.alloc (.cells #[.func (.func 160) #[] #[.pointer (some ⟨X.heap.size+1,0,none⟩)]] 203) →
   Calls Tryz.prog 109 #[.slice ao n cap,.func (.func 110) #[] #[.pointer (some ⟨w.heap.size,0,none⟩),.pointer (some ⟨w1.heap.size,0,none⟩)]] Y fun e w'=>e=.returned (.agg (ftA (Pl.firstTo (Pl.lErr K ls) n)))∧Bl X w'):=by
  intro w1 h Y hY;obtain⟨h1,h2,h3⟩:=h.out;have hYB:Bl w1 Y:=(by rw[hY];exact bA1 _ _)
  have l1:=block_lt_of_cell h1;have h2':=h2.lt;have hYX:Bl X Y:=h3.trans (hYB.mono h3.size);have hYQ:Y.heap[w1.heap.size]?=some (.cells #[.func (.func 160) #[] #[.pointer (some ⟨X.heap.size+1,0,none⟩)]] 203):=(by rw[hY];exact heap_alloc_last _ _)
  refine(plFirst_any ao n cap ls K hK w.heap.size w1.heap.size (X.heap.size+1) X.heap.size X Y hn (CRow.below hr hXB) hwf (cell_of_row _ _ 0 _ _ _ (keep hXn hYX)) (by omega) (cell_of_row _ _ 0 _ _ _ hYQ) ((hYB.cell (by exact l1)).trans h1) (by omega) (by omega) (h2.same (hYB.block _ h2')) (Nat.le_refl _) hYX).mono ?_;rintro e w' ⟨rfl,z⟩;exact⟨rfl,z⟩
 have HEND:Hid (∀W,Bl X W→W.heap[w.heap.size+1]?=some (.cells #[.int .i64 0,.int .i64 0] 26)∧Bl w W):=fun W hW=>⟨keep hXb hW,hXB.trans (hW.mono hXB.size)⟩
 clear hr hwf hXb hXn hXB hXs;generalize Pl.firstTo (Pl.lErr K ls) n=R at *;obtain⟨r1,r2⟩:=R;simp only[ftA] at *;go_enter Tryz.func66,Tryz.ntmps66;(go_wp2_with fail);rw[←HX.out];refine HT.out.mono ?_;rintro e w1 ⟨rfl,h1⟩;have hf:=HF.out w1 h1 _ rfl;clear HT HF h1;(go_wp2_with fail);refine hf.mono ?_;rintro e w2 ⟨rfl,h2⟩;obtain⟨k1,k2⟩:=HEND.out w2 h2;obtain⟨f0,f1⟩:=tC2 k1;obtain⟨g0,g1,_,_⟩:=vc_free k1;have HK1:Hid (w2.heap[w.heap.size+1]?=some (.cells #[.int .i64 0,.int .i64 0] 26)):=k1;have HK2:Hid (Bl w w2):=k2;clear hf k1 k2 h2 HEND;(go_wp2_with fail);exact bodyPost_ret (v:=.agg #[.int .i64 r1,.int .i64 r2]) (results_row (p:=4) (ty:=26) Tryz.results66 _ _ (w.heap.size+1) 26 #[.int .i64 r1,.int .i64 r2] (0,0) _ rfl (set2_same HK1.out) Tryz.underlying26 rfl (by rw[sizeFt];rfl)) rfl ⟨rfl,(HK2.out.setCell (Nat.le_add_right _ _) _).setCell (Nat.le_add_right _ _) _⟩
theorem ft_neq (a b c d:Int) (W:World):(binOp .neq 26 (.agg #[.int .i64 a,.int .i64 b]) (.agg #[.int .i64 c,.int .i64 d])).run Tryz.prog W=.ok (.bool (!decide (a=c∧b=d))) W:=by
 by_cases h:a=c∧b=d
 ·rw[decide_eq_true h];obtain⟨rfl,rfl⟩:=h;go_simp
 ·rw[decide_eq_false h];go_simp;exact fun p q=>h ⟨p,q⟩
theorem ft4_cells {w:World}{g:Nat}{a0 a1 a2 a3:Value}{ty:TypeId}(h:w.heap[g]?=some (.cells #[a0,a1,a2,a3] ty (0,0))):w.cell? ⟨g,0,none⟩=some a0∧w.cell? ⟨g,1,none⟩=some a1∧w.cell? ⟨g,2,none⟩=some a2∧w.cell? ⟨g,3,none⟩=some a3:=vc_cells h
theorem corf2 (x1 x2 y1 y2:Int) (g:Nat) (ty:TypeId) (w:World) (h:w.heap[g]?=some (.cells #[.int .i64 x1,.int .i64 x2,.int .i64 y1,.int .i64 y2] ty (0,0))) (R1 R2:Int) (hR:(R1,R2)=if x1=0∧x2=0 then(y1,y2) else(x1,x2)) :
  Calls Tryz.prog 64 #[.slice (some ⟨g,0,none⟩) 2 2] w fun e w'=>e=.returned (.agg #[.int .i64 R1,.int .i64 R2])∧Bl w w':=by
 have hgl:=(gSm.1 h).1;obtain⟨W0,HW0⟩:∃W0,Hid (W0=(w.alloc (.cells #[.int .i64 0,.int .i64 0] 26)).alloc (.cells #[.int .i64 0,.int .i64 0] 26)):=⟨_,rfl⟩
 have hB0:Bl w W0:=(by rw[HW0.out];exact bA2 _ _ _)
 have h20:W0.heap[w.heap.size]?=some (.cells #[.int .i64 0,.int .i64 0] 26):=(by rw[HW0.out];exact heap_alloc2_old w _ _)
 have h30:W0.heap[w.heap.size+1]?=some (.cells #[.int .i64 0,.int .i64 0] 26):=(by rw[HW0.out];exact heap_alloc2_new w _ _)
 have HC:Hid (∀W,Bl W0 W→W.heap[g]?=some (.cells #[.int .i64 x1,.int .i64 x2,.int .i64 y1,.int .i64 y2] ty (0,0))∧W.heap[w.heap.size]?=some (.cells #[.int .i64 0,.int .i64 0] 26)∧W.heap[w.heap.size+1]?=some (.cells #[.int .i64 0,.int .i64 0] 26)∧Bl w W):=fun W hW =>
  ⟨keep (keep h hB0) hW,keep h20 hW,keep h30 hW,hB0.trans (hW.mono hB0.size)⟩
 have HNE:Hid (∀a b W,(binOp .neq 26 (.agg #[.int .i64 a,.int .i64 b]) (.agg #[.int .i64 0,.int .i64 0])).run Tryz.prog W=.ok (.bool (!decide (a=0∧b=0))) W):=fun a b W=>ft_neq a b 0 0 W;have HR:Hid ((R1,R2)=if x1=0∧x2=0 then(y1,y2) else(x1,x2)):=hR;clear h hB0 h20 h30 hR;go_enter Tryz.func64,Tryz.ntmps64;(go_wp2_with fail);rw[←HW0.out];go_loopw [8] (fun i wr=>∃k:Nat,k≤2∧i=.int .i64 k∧Hid ((0<k→x1=0∧x2=0)∧(1<k→y1=0∧y2=0))∧Hid (Bl W0 wr)) (fun i _=>2-(intOf i).toNat)
 case atStart=>exact⟨0,by omega,rfl,⟨fun h=>absurd h (by omega),fun h=>absurd h (by omega)⟩,Below.refl _ _⟩
 case round =>
  obtain⟨k,hk,rfl,hS,hX⟩:=hrel;obtain⟨j1,j2,j3,j4⟩:=HC.out wr hX.out;by_cases hlt:k<2
  ·have pick:∃a b:Int,wr.cell? ⟨g,k*2,none⟩=some (.int .i64 a)∧wr.cell? ⟨g,k*2+1,none⟩=some (.int .i64 b)∧Hid ((a=0∧b=0)→(0<k+1→x1=0∧x2=0)∧(1<k+1→y1=0∧y2=0))∧Hid (¬(a=0∧b=0)→(R1,R2)=(a,b)):=by
    obtain⟨c0,c1,c2,c3⟩:=ft4_cells j1;rcases(by omega:k=0∨k=1) with e | e<;>subst e
    ·exact⟨x1,x2,c0,c1,fun q=>⟨fun _=>q,fun h=>absurd h (by omega)⟩,fun q=>by rw[HR.out,if_neg q]⟩
    ·exact⟨y1,y2,c2,c3,fun q=>⟨fun _=>hS.out.1 (by omega),fun _=>q⟩,fun q=>by rw[HR.out,if_pos (hS.out.1 (by omega))]⟩
   obtain⟨a,b,c0,c1,HZ,HNZ⟩:=pick;obtain⟨X,HX⟩:∃X,Hid (X=wr.alloc (.cells #[.int .i64 a,.int .i64 b] 26)):=⟨_,rfl⟩
   have HXB:Hid (Bl W0 X):=(by rw[HX.out];exact hX.out.alloc hX.out.size _)
   obtain⟨i1,i2,i3,i4⟩:=HC.out X HXB.out;obtain⟨z0,z1⟩:=tC2 i3;obtain⟨r0,r1⟩:=tC2 i2;obtain⟨f0,f1,_,_⟩:=vc_free i2;have HI2:Hid (X.heap[w.heap.size]?=some (.cells #[.int .i64 0,.int .i64 0] 26)):=i2;have HI4:Hid (Bl w X):=i4;have b5:X.heap[wr.heap.size]?=some (.cells #[.int .i64 a,.int .i64 b] 26):=(by rw[HX.out];exact heap_alloc_last _ _)
   obtain⟨u0,u1⟩:=tC2 b5;have hq:=HNE.out a b X;clear j1 j2 j3 j4 i1 i2 i3 i4 b5 hS hX HC HR;by_cases h0:a=0∧b=0
   ·have HZ1:Hid _:=HZ.out h0;obtain⟨rfl,rfl⟩:=h0;clear HZ HNZ hq;rw[HX.out] at z0 z1 u0 u1;(go_wp2_with fail);rw[←HX.out];exact⟨⟨k+1,by omega,by go_num,HZ1,HXB⟩,by simp[intOf];omega⟩
   ·have HZ1:Hid ((R1,R2)=(a,b)):=HNZ.out h0;clear HZ HNZ hq;rw[HX.out] at z0 z1 u0 u1 r0 r1 f0 f1;by_cases ha:a=0
    ·subst ha;have hb:¬b=0:=fun q=>h0 ⟨rfl,q⟩;clear h0;(go_wp2_with fail);rw[←HX.out];exact bodyPost_ret (v:=.agg #[.int .i64 0,.int .i64 b]) (results_row (p:=2) (ty:=26) Tryz.results64 _ _ w.heap.size 26 #[.int .i64 0,.int .i64 b] (0,0) _ rfl (set2_same HI2.out) Tryz.underlying26 rfl (by rw[sizeFt];rfl)) rfl ⟨by have:=HZ1.out;injection this with t1 t2;rw[t1,t2],(HI4.out.setCell (Nat.le_refl _) _).setCell (Nat.le_refl _) _⟩
    ·clear h0;(go_wp2_with fail);rw[←HX.out];exact bodyPost_ret (v:=.agg #[.int .i64 a,.int .i64 b]) (results_row (p:=2) (ty:=26) Tryz.results64 _ _ w.heap.size 26 #[.int .i64 a,.int .i64 b] (0,0) _ rfl (set2_same HI2.out) Tryz.underlying26 rfl (by rw[sizeFt];rfl)) rfl ⟨by have:=HZ1.out;injection this with t1 t2;rw[t1,t2],(HI4.out.setCell (Nat.le_refl _) _).setCell (Nat.le_refl _) _⟩
  ·obtain rfl:k=2:=by omega
   have HZ1:Hid ((R1,R2)=((0:Int),(0:Int))):=by
    rw[HR.out,if_pos (hS.out.1 (by omega))];obtain⟨e1,e2⟩:=hS.out.2 (by omega);rw[e1,e2];rfl
   obtain⟨r0,r1⟩:=tC2 j2;obtain⟨z0,z1⟩:=tC2 j3;obtain⟨f0,f1,_,_⟩:=vc_free j2;have HI2:Hid (wr.heap[w.heap.size]?=some (.cells #[.int .i64 0,.int .i64 0] 26)):=j2;have HI4:Hid (Bl w wr):=j4;clear j1 j2 j3 j4 hS hX HC HR;(go_wp2_with fail);exact bodyPost_ret (v:=.agg #[.int .i64 0,.int .i64 0]) (results_row (p:=2) (ty:=26) Tryz.results64 _ _ w.heap.size 26 #[.int .i64 0,.int .i64 0] (0,0) _ rfl (set2_same HI2.out) Tryz.underlying26 rfl (by rw[sizeFt];rfl)) rfl ⟨by have:=HZ1.out;injection this with t1 t2;rw[t1,t2],(HI4.out.setCell (Nat.le_refl _) _).setCell (Nat.le_refl _) _⟩
namespace Pl
structure Net.Wf (n:Net):Prop where
 addr:∀i,i<n.K→(Lit.int .u64 (n.bs i).addr).wf=true
 link:∀i,i<n.L→(Lit.int .i64 (n.ls i).a).wf=true∧(Lit.int .i64 (n.ls i).pa).wf=true∧(Lit.int .i64 (n.ls i).b).wf=true∧(Lit.int .i64 (n.ls i).pb).wf=true
end Pl
theorem pwrong_any (n:Net) (w:World) (hat:n.at' w) (hwf:n.Wf) :
  Calls Tryz.prog 31 #[n.val] w fun e w'=>e=.returned (.agg (ftA n.wrong))∧Bl w w':=by
 obtain⟨bao,K,bcap,bs,lao,L,lcap,ls⟩:=n;obtain⟨hbr,heach,hlk,hmB,hmL⟩:=hat;obtain⟨hwa,hwl⟩:=hwf;simp only at hbr heach hlk hmB hmL hwa hwl;simp only[Pl.Net.val];have HE:Hid (Pl.Net.wrong ⟨bao,K,bcap,bs,lao,L,lcap,ls⟩=if 12<K∨40<L then(5,0) else if (Pl.firstTo (Pl.bErr bs) K).1≠0 then Pl.firstTo (Pl.bErr bs) K else Pl.firstTo (Pl.lErr K ls) L):=rfl;rw[HE.out];clear HE;obtain⟨X,HX⟩:∃X,Hid (X=(w.alloc (.cells #[.slice bao K bcap,.slice lao L lcap] 32)).alloc (.cells #[.int .i64 0,.int .i64 0] 26)):=⟨_,rfl⟩
 have hXB:Bl w X:=(by rw[HX.out];exact bA2 _ _ _)
 have hXn:X.heap[w.heap.size]?=some (.cells #[.slice bao K bcap,.slice lao L lcap] 32):=(by rw[HX.out];exact heap_alloc2_old w _ _)
 have hXf:X.heap[w.heap.size+1]?=some (.cells #[.int .i64 0,.int .i64 0] 26):=(by rw[HX.out];exact heap_alloc2_new w _ _)
 have HC:Hid (∀W,Bl X W→(W.cell? ⟨w.heap.size,0,none⟩=some (.slice bao K bcap)∧W.cell? ⟨w.heap.size,1,none⟩=some (.slice lao L lcap))∧(W.cell? ⟨w.heap.size+1,0,none⟩=some (.int .i64 0)∧W.cell? ⟨w.heap.size+1,1,none⟩=some (.int .i64 0))∧W.frozen? ⟨w.heap.size+1,0,none⟩=false∧W.frozen? ⟨w.heap.size+1,1,none⟩=false):=fun W hW =>
  ⟨tC2 (keep hXn hW),tC2 (keep hXf hW),(vc_free (keep hXf hW)).1,(vc_free (keep hXf hW)).2.1⟩
 have HF:Hid (∀W,Bl X W→W.heap[w.heap.size+1]?=some (.cells #[.int .i64 0,.int .i64 0] 26)∧Bl w W):=fun W hW=>⟨keep hXf hW,hXB.trans (hW.mono hXB.size)⟩
 obtain⟨⟨c0,c1⟩,⟨d0,d1⟩,e0,e1⟩:=HC.out X (Below.refl _ _);by_cases h12:12<K
 ·rw[if_pos (Or.inl h12)];have h12z:(12:Int)<(K:Int):=(by omega)
  clear hbr heach hlk hwa hwl hXn hXf HC HF hXB;rw[HX.out] at c0 c1 d0 d1 e0 e1;go_enter Tryz.func31,Tryz.ntmps31;(go_wp2_with fail);exact bodyPost_ret (v:=.agg #[.int .i64 5,.int .i64 0]) (results_row (p:=2) (ty:=26) Tryz.results31 _ _ (w.heap.size+1) 26 #[.int .i64 5,.int .i64 0] (0,0) _ rfl (heap_alloc2_new w _ _) Tryz.underlying26 rfl (by rw[sizeFt];rfl)) rfl ⟨rfl,bA2 _ _ _⟩
 ·have h12z:¬(12:Int)<(K:Int):=(by omega)
  by_cases h40:40<L
  ·rw[if_pos (Or.inr h40)];have h40z:(40:Int)<(L:Int):=(by omega)
   clear hbr heach hlk hwa hwl hXn hXf HC HF hXB;rw[HX.out] at c0 c1 d0 d1 e0 e1;go_enter Tryz.func31,Tryz.ntmps31;(go_wp2_with fail);exact bodyPost_ret (v:=.agg #[.int .i64 5,.int .i64 0]) (results_row (p:=2) (ty:=26) Tryz.results31 _ _ (w.heap.size+1) 26 #[.int .i64 5,.int .i64 0] (0,0) _ rfl (heap_alloc2_new w _ _) Tryz.underlying26 rfl (by rw[sizeFt];rfl)) rfl ⟨rfl,bA2 _ _ _⟩
  ·rw[if_neg (fun q=>by rcases q with q | q;exact h12 q;exact h40 q)];have h40z:¬(40:Int)<(L:Int):=(by omega)
   have HWB:Hid (∀W,Bl X W→Calls Tryz.prog 65 #[.slice bao K bcap] W fun e w'=>e=.returned (.agg (ftA (Pl.firstTo (Pl.bErr bs) K)))∧Hid (Bl X w')):=fun W hW=>by
    have hW2:Bl w W:=hXB.trans (hW.mono hXB.size);refine(pwrongBridges_any bao K bcap bs W (by omega) (CRow.below hbr hW2) (fun i hi=>(heach i hi).below hW2) hwa).mono ?_;rintro e w' ⟨rfl,z⟩;exact⟨rfl,hW.trans (z.mono hW.size)⟩
   have HWL:Hid (∀W,Bl X W→Calls Tryz.prog 66 #[.slice lao L lcap,.int .i64 K] W fun e w'=>e=.returned (.agg (ftA (Pl.firstTo (Pl.lErr K ls) L)))∧Hid (Bl X w')):=fun W hW=>by
    have hW2:Bl w W:=hXB.trans (hW.mono hXB.size);refine(pwrongLinks_any lao L lcap ls K (by omega) W (by omega) (CRow.below hlk hW2) hwl).mono ?_;rintro e w' ⟨rfl,z⟩;exact⟨rfl,hW.trans (z.mono hW.size)⟩
   have HEQ:Hid ((if (Pl.firstTo (Pl.bErr bs) K).1≠0 then Pl.firstTo (Pl.bErr bs) K else Pl.firstTo (Pl.lErr K ls) L)=if (Pl.firstTo (Pl.bErr bs) K).1=0∧(Pl.firstTo (Pl.bErr bs) K).2=0 then((Pl.firstTo (Pl.lErr K ls) L).1,(Pl.firstTo (Pl.lErr K ls) L).2) else((Pl.firstTo (Pl.bErr bs) K).1,(Pl.firstTo (Pl.bErr bs) K).2)):=by
    show(if _ then _ else _)=_;by_cases q:(Pl.firstTo (Pl.bErr bs) K).1=0
    ·rw[if_neg (fun p=>p q),if_pos ⟨q,by rw[(Pl.firstTo_zero _ _ q).1]⟩]
    ·rw[if_pos q,if_neg (fun p=>q p.1)]
   clear hbr heach hlk hwa hwl hXn hXf hXB;generalize Pl.firstTo (Pl.bErr bs) K=x at *;generalize Pl.firstTo (Pl.lErr K ls) L=y at *;obtain⟨x1,x2⟩:=x;obtain⟨y1,y2⟩:=y;generalize (if (x1,x2).1≠0 then(x1,x2) else(y1,y2))=R at *;obtain⟨R1,R2⟩:=R;simp only[ftA] at *;have HOR:Hid (∀(g:Nat) (ty:TypeId) (W:World),Bl X W→W.heap[g]?=some (.cells #[.int .i64 x1,.int .i64 x2,.int .i64 y1,.int .i64 y2] ty (0,0))→Calls Tryz.prog 64 #[.slice (some ⟨g,0,none⟩) 2 2] W fun e w'=>e=.returned (.agg #[.int .i64 R1,.int .i64 R2])∧Hid (Bl X w')):=fun g ty W hW h=>by
    refine(corf2 x1 x2 y1 y2 g ty W h R1 R2 HEQ.out).mono ?_;rintro e w' ⟨rfl,z⟩;exact⟨rfl,hW.trans (z.mono hW.size)⟩
   have HXX:Hid (Bl X X.drew):=Below.drew (Below.refl _ _);clear HEQ;rw[HX.out] at c0 c1;go_enter Tryz.func31,Tryz.ntmps31;(go_wp2_with fail);rw[←HX.out] at c0 c1 ⊢;go_region_with (first | (go_at_call 65;(with_reducible refine(HWB.out _ (by first | exact(Below.refl _ _).drew | exact below_drewN (Below.refl _ _) _ | exact Below.refl _ _)).mono ?_);rintro e w1 ⟨rfl,Hw1⟩;obtain⟨⟨k0,k1⟩,⟨m0,m1⟩,n0,n1⟩:=HC.out w1 Hw1.out) | (go_at_call 66;(with_reducible refine(HWL.out _ (by first | exact Hw1.out | exact Hw1.out.drew | exact below_drewN Hw1.out _)).mono ?_);rintro e w2 ⟨rfl,Hw2⟩;obtain⟨⟨k0,k1⟩,⟨m0,m1⟩,n0,n1⟩:=HC.out w2 Hw2.out) | (go_at_call 64;refine(HOR.out _ _ _ (Hw2.out.alloc Hw2.out.size _) (heap_alloc_last _ _)).mono ?_;rintro e w3 ⟨rfl,Hw3⟩;obtain⟨⟨k0,k1⟩,⟨m0,m1⟩,n0,n1⟩:=HC.out w3 Hw3.out))
   (all_goals go_wp2_with fail);all_goals exact bodyPost_ret (v:=.agg #[.int .i64 R1,.int .i64 R2]) (results_row (p:=2) (ty:=26) Tryz.results31 _ _ (w.heap.size+1) 26 #[.int .i64 R1,.int .i64 R2] (0,0) _ rfl (set2_same (HF.out _ Hw3.out).1) Tryz.underlying26 rfl (by rw[sizeFt];rfl)) rfl ⟨rfl,((HF.out _ Hw3.out).2.setCell (Nat.le_add_right _ _) _).setCell (Nat.le_add_right _ _) _⟩
end
section
open Go.RowKit
def rowC (n k:Nat) (c:Nat→Nat→Value):Array Value:=(cellsL n k c).toArray
theorem rowC_size (n k:Nat) (c:Nat→Nat→Value):(rowC n k c).size=n*k:=by simp[rowC,cellsL]
theorem mul_add_lt {n k i j:Nat}(hi:i<n) (hj:j<k):i*k+j<n*k:=by
 have:(i+1)*k≤n*k:=Nat.mul_le_mul_right k (by omega);rw[Nat.add_mul] at this;omega
theorem div_of {k i j:Nat}(hj:j<k):(i*k+j)/k=i∧(i*k+j)%k=j:=by
 have hk:0<k:=(by omega)
 refine⟨?_,?_⟩
 ·rw[Nat.add_comm,Nat.add_mul_div_right _ _ hk,Nat.div_eq_of_lt hj,Nat.zero_add]
 ·rw[Nat.add_comm,Nat.add_mul_mod_self_right,Nat.mod_eq_of_lt hj]
theorem rowC_get {n k i j:Nat}(c:Nat→Nat→Value) (hi:i<n) (hj:j<k):(rowC n k c)[i*k+j]?=some (c i j):=by
 have h:=mul_add_lt hi hj;simp[rowC,cellsL,h];obtain⟨e1,e2⟩:=div_of (i:=i) hj;first | rw[e1,e2] | rw[e1,Nat.mod_eq_of_lt hj]
def updC (c:Nat→Nat→Value) (i j:Nat) (v:Value):Nat→Nat→Value:=fun i' j'=>if i'=i∧j'=j then v else c i' j'
theorem rowC_put {n k i j:Nat}(c:Nat→Nat→Value) (hi:i<n) (hj:j<k) (v:Value):(rowC n k c).setIfInBounds (i*k+j) v=rowC n k (updC c i j v):=by
 have hk:0<k:=(by omega)
 apply Array.ext_getElem?
 intro x;rw[Array.getElem?_setIfInBounds];by_cases hx:x<n*k
 ·have ex:x=(x/k)*k+x%k:=(by rw[Nat.mul_comm];exact(Nat.div_add_mod x k).symm)
  have h4:x%k<k:=Nat.mod_lt _ hk;have hq:x/k<n:=div_lt_of hk hx;have e1:=rowC_get (updC c i j v) hq h4;have e2:=rowC_get c hq h4;rw[←ex] at e1 e2;rw[e1,e2];by_cases q:i*k+j=x
  ·obtain⟨d1,d2⟩:=div_of (i:=i) hj;rw[if_pos q,if_pos (by rw[rowC_size];omega)];unfold updC;rw[if_pos ⟨by rw[←q];exact d1,by rw[←q];exact d2⟩]
  ·rw[if_neg q];unfold updC;rw[if_neg (fun p=>q (by rw[←p.1,←p.2];exact ex.symm))]
 ·have hs:=rowC_size n k c;have hs2:=rowC_size n k (updC c i j v);have hl:=mul_add_lt hi hj;rw[if_neg (by omega),Array.getElem?_eq_none (by omega),Array.getElem?_eq_none (by omega)]
theorem rowC_congr {n k:Nat}{c d:Nat→Nat→Value}(h:∀i,i<n→c i=d i):rowC n k c=rowC n k d:=by
 unfold rowC;rw[cellsL_congr n k c d h]
theorem rC2 {n k:Nat}{c d:Nat→Nat→Value}(h:∀i,i<n→∀j,j<k→c i j=d i j):rowC n k c=rowC n k d:=by
 unfold rowC cellsL;congr 1
 apply List.map_congr_left
 intro x hx;have hx:x<n*k:=(by simpa using hx)
 have hk:0<k:=by
  rcases Nat.eq_zero_or_pos k with e | e
  ·subst e;omega
  ·exact e
 exact h _ (div_lt_of hk hx) _ (Nat.mod_lt _ hk)
section
variable {w:World}{g n k:Nat}{c:Nat→Nat→Value}{ty:TypeId}
theorem rowC_cell (h:w.heap[g]?=some (.cells (rowC n k c) ty (0,0))) {i j:Nat}(hi:i<n) (hj:j<k):w.cell? ⟨g,i*k+j,none⟩=some (c i j):=by
 have:=rowC_get c hi hj;simp only[World.cell?,h];simpa using this
theorem rowC_crow (h:w.heap[g]?=some (.cells (rowC n k c) ty (0,0))):CRow w (some ⟨g,0,none⟩) n n k c :=
 ⟨Nat.le_refl _,fun _=>⟨g,0,rfl,(gSm.1 h).1,fun i hi j hj=>by rw[Nat.zero_add];exact rowC_cell h hi hj⟩⟩
theorem rowC_set (h:w.heap[g]?=some (.cells (rowC n k c) ty (0,0))) {i j:Nat}(hi:i<n) (hj:j<k) (v:Value):(w.setCell ⟨g,i*k+j,none⟩ v).heap[g]?=some (.cells (rowC n k (updC c i j v)) ty (0,0)):=by
 rw[heap_setCell_same _ _ _ _ _ _ h,rowC_put c hi hj]
end
theorem made_rowC (z:Array Value) (k n:Nat) (hk:0<k) (hz:z.size=k):madeCells z (n*k)=rowC n k (fun _ j=>z.getD j undef):=by
 apply Array.ext_getElem?
 intro i;by_cases h:i<n*k
 ·have ei:i=(i/k)*k+i%k:=(by rw[Nat.mul_comm];exact(Nat.div_add_mod i k).symm)
  have h4:i%k<k:=Nat.mod_lt _ hk;have e:=rowC_get (fun _ j=>z.getD j undef) (div_lt_of hk h) h4;rw[←ei] at e;rw[e];have hlt:i%k<z.size:=(by omega)
  simp[madeCells,h,hz];rw[getElem!_pos z (i%k) hlt];simp[hlt]
 ·rw[Array.getElem?_eq_none (by simp[madeCells];omega),Array.getElem?_eq_none (by rw[rowC_size];omega)]
theorem make_rowC (w:World) (t e:TypeId) (z:Value) (k bytes n:Nat) (ht:Tryz.prog.underlying t=some (.slice e)) (hinfo:(Tryz.prog.info? e).map (fun i=>(i.zero,i.size,i.bytes))=some (some z,k,bytes)) (hk:0<k) (hz:z.cells.size=k) (hn:n≤1000) (hb:bytes≤1000) :
  (Instr.makeSlice t (.int .i64 (n:Int)) (.int .i64 (n:Int))).run Tryz.prog w=.ok (.slice (some ⟨w.heap.size,0,none⟩) n n) (w.alloc (.cells (rowC n k (fun _ j=>z.cells.getD j undef)) e)):=by
 obtain⟨i0,hi,hz0,hz1,hz2⟩:=info_parts hinfo;have hm:(bytes:Int)*(n:Int)≤281474976710656:=by
  have h1:bytes*n≤1000*1000:=Nat.mul_le_mul hb hn;have h2:((bytes*n:Nat):Int)≤1000000:=(by omega)
  rw[Int.natCast_mul] at h2;omega
 have h:=run_make (P:=Tryz.prog) w t e i0 z ht hi hz0 .i64 .i64 (n:Int) (n:Int) (by omega) (Int.le_refl _) (by rw[hz2];exact hm) (by omega);rw[hz1,Int.toNat_natCast,made_rowC _ k n hk hz] at h;exact h
theorem make_rowD (w:World) (t e:TypeId) (z:Value) (k bytes n:Nat) (ht:Tryz.prog.underlying t=some (.slice e)) (hinfo:(Tryz.prog.info? e).map (fun i=>(i.zero,i.size,i.bytes))=some (some z,k,bytes)) (hk:0<k) (hz:z.cells.size=k) (hn:n≤1000) (hb:bytes≤1000) (d:Nat→Nat→Value) (hd:∀i j,j<k→z.cells.getD j undef=d i j) :
  (Instr.makeSlice t (.int .i64 (n:Int)) (.int .i64 (n:Int))).run Tryz.prog w=.ok (.slice (some ⟨w.heap.size,0,none⟩) n n) (w.alloc (.cells (rowC n k d) e)):=by
 have:=make_rowC w t e z k bytes n ht hinfo hk hz hn hb;rw[rC2 (d:=d) (fun i _ j hj=>hd i j hj)] at this;exact this
end
end Go.Proofs.YtflghpnpjmodaaaGreatDoor
