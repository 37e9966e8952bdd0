/- The scene's memory: what is read of it; a tick's middle -/
import Derived.Test.YtaneiffnhphkhaaGreatDoorD14
import Derived.Test.YtaneiffnhphkhaaGreatDoorD09
import Derived.Test.YtaneiffnhphkhaaGreatDoorD12
import Derived.Test.YtaneiffnhphkhaaGreatDoorD07
import Derived.Test.YtaneiffnhphkhaaGreatDoorD10
import Derived.Test.YtaneiffnhphkhaaGreatDoorD13
set_option maxRecDepth 100000
set_option maxHeartbeats 40000000
namespace Go.Proofs.YtaneiffnhphkhaaGreatDoor
section
open Go.RowKit Go.Maps
open Pl (Br Net Pc Lk En)
theorem ft_neq (a b c d:Int) (W:World):(binOp .neq 32 (.agg #[.int .i64 a,.int .i64 b]) (.agg #[.int .i64 c,.int .i64 d])).run Tryz.prog W=.ok (.bool (!decide (a=c∧b=d))) W:=by
 by_cases h:a=c∧b=d
 ·rw[decide_eq_true h];obtain⟨rfl,rfl⟩:=h;go_simp
 ·rw[decide_eq_false h];go_simp;exact fun p q=>h ⟨p,q⟩
theorem ft4_cells {w:World}{g:Nat}{a0 a1 a2 a3:Value}{ty:TypeId}(h:w.heap[g]?=some (.cells #[a0,a1,a2,a3] ty (0,0))):w.cell? ⟨g,0,none⟩=some a0∧w.cell? ⟨g,1,none⟩=some a1∧w.cell? ⟨g,2,none⟩=some a2∧w.cell? ⟨g,3,none⟩=some a3:=vc_cells h
theorem corf2 (x1 x2 y1 y2:Int) (g:Nat) (ty:TypeId) (w:World) (h:w.heap[g]?=some (.cells #[.int .i64 x1,.int .i64 x2,.int .i64 y1,.int .i64 y2] ty (0,0))) (R1 R2:Int) (hR:(R1,R2)=if x1=0∧x2=0 then(y1,y2) else(x1,x2)) :
  Calls Tryz.prog 52 #[.slice (some ⟨g,0,none⟩) 2 2] w fun e w'=>e=.returned (.agg #[.int .i64 R1,.int .i64 R2])∧Bl w w':=by
 have hgl:=(gSm.1 h).1;obtain⟨W0,HW0⟩:∃W0,Hid (W0=(w.alloc (.cells #[.int .i64 0,.int .i64 0] 32)).alloc (.cells #[.int .i64 0,.int .i64 0] 32)):=⟨_,rfl⟩
 have hB0:Bl w W0:=(by rw[HW0.out];exact bA2 _ _ _)
 have h20:W0.heap[w.heap.size]?=some (.cells #[.int .i64 0,.int .i64 0] 32):=(by rw[HW0.out];exact heap_alloc2_old w _ _)
 have h30:W0.heap[w.heap.size+1]?=some (.cells #[.int .i64 0,.int .i64 0] 32):=(by rw[HW0.out];exact heap_alloc2_new w _ _)
 have HC:Hid (∀W,Bl W0 W→W.heap[g]?=some (.cells #[.int .i64 x1,.int .i64 x2,.int .i64 y1,.int .i64 y2] ty (0,0))∧W.heap[w.heap.size]?=some (.cells #[.int .i64 0,.int .i64 0] 32)∧W.heap[w.heap.size+1]?=some (.cells #[.int .i64 0,.int .i64 0] 32)∧Bl w W):=fun W hW =>
  ⟨keep (keep h hB0) hW,keep h20 hW,keep h30 hW,hB0.trans (hW.mono hB0.size)⟩
 have HNE:Hid (∀a b W,(binOp .neq 32 (.agg #[.int .i64 a,.int .i64 b]) (.agg #[.int .i64 0,.int .i64 0])).run Tryz.prog W=.ok (.bool (!decide (a=0∧b=0))) W):=fun a b W=>ft_neq a b 0 0 W;have HR:Hid ((R1,R2)=if x1=0∧x2=0 then(y1,y2) else(x1,x2)):=hR;clear h hB0 h20 h30 hR;go_enter Tryz.func52,Tryz.ntmps52;(go_wp2_with fail);rw[←HW0.out];go_loopw [8] (fun i wr=>∃k:Nat,k≤2∧i=.int .i64 k∧Hid ((0<k→x1=0∧x2=0)∧(1<k→y1=0∧y2=0))∧Hid (Bl W0 wr)) (fun i _=>2-(intOf i).toNat)
 case atStart=>exact⟨0,by omega,rfl,⟨fun h=>absurd h (by omega),fun h=>absurd h (by omega)⟩,Below.refl _ _⟩
 case round =>
  obtain⟨k,hk,rfl,hS,hX⟩:=hrel;obtain⟨j1,j2,j3,j4⟩:=HC.out wr hX.out;by_cases hlt:k<2
  ·have pick:∃a b:Int,wr.cell? ⟨g,k*2,none⟩=some (.int .i64 a)∧wr.cell? ⟨g,k*2+1,none⟩=some (.int .i64 b)∧Hid ((a=0∧b=0)→(0<k+1→x1=0∧x2=0)∧(1<k+1→y1=0∧y2=0))∧Hid (¬(a=0∧b=0)→(R1,R2)=(a,b)):=by
    obtain⟨c0,c1,c2,c3⟩:=ft4_cells j1;rcases(by omega:k=0∨k=1) with e | e<;>subst e
    ·exact⟨x1,x2,c0,c1,fun q=>⟨fun _=>q,fun h=>absurd h (by omega)⟩,fun q=>by rw[HR.out,if_neg q]⟩
    ·exact⟨y1,y2,c2,c3,fun q=>⟨fun _=>hS.out.1 (by omega),fun _=>q⟩,fun q=>by rw[HR.out,if_pos (hS.out.1 (by omega))]⟩
   obtain⟨a,b,c0,c1,HZ,HNZ⟩:=pick;obtain⟨X,HX⟩:∃X,Hid (X=wr.alloc (.cells #[.int .i64 a,.int .i64 b] 32)):=⟨_,rfl⟩
   have HXB:Hid (Bl W0 X):=(by rw[HX.out];exact hX.out.alloc hX.out.size _)
   obtain⟨i1,i2,i3,i4⟩:=HC.out X HXB.out;obtain⟨z0,z1⟩:=tC2 i3;obtain⟨r0,r1⟩:=tC2 i2;obtain⟨f0,f1,_,_⟩:=vc_free i2;have HI2:Hid (X.heap[w.heap.size]?=some (.cells #[.int .i64 0,.int .i64 0] 32)):=i2;have HI4:Hid (Bl w X):=i4;have b5:X.heap[wr.heap.size]?=some (.cells #[.int .i64 a,.int .i64 b] 32):=(by rw[HX.out];exact heap_alloc_last _ _)
   obtain⟨u0,u1⟩:=tC2 b5;have hq:=HNE.out a b X;clear j1 j2 j3 j4 i1 i2 i3 i4 b5 hS hX HC HR;by_cases h0:a=0∧b=0
   ·have HZ1:Hid _:=HZ.out h0;obtain⟨rfl,rfl⟩:=h0;clear HZ HNZ hq;rw[HX.out] at z0 z1 u0 u1;(go_wp2_with fail);rw[←HX.out];exact⟨⟨k+1,by omega,by go_num,HZ1,HXB⟩,by simp[intOf];omega⟩
   ·have HZ1:Hid ((R1,R2)=(a,b)):=HNZ.out h0;clear HZ HNZ hq;rw[HX.out] at z0 z1 u0 u1 r0 r1 f0 f1;by_cases ha:a=0
    ·subst ha;have hb:¬b=0:=fun q=>h0 ⟨rfl,q⟩;clear h0;(go_wp2_with fail);rw[←HX.out];exact bodyPost_ret (v:=.agg #[.int .i64 0,.int .i64 b]) (results_row (p:=2) (ty:=32) Tryz.results52 _ _ w.heap.size 32 #[.int .i64 0,.int .i64 b] (0,0) _ rfl (set2_same HI2.out) Tryz.underlying32 rfl (by rw[sizeFt];rfl)) rfl ⟨by have:=HZ1.out;injection this with t1 t2;rw[t1,t2],(HI4.out.setCell (Nat.le_refl _) _).setCell (Nat.le_refl _) _⟩
    ·clear h0;(go_wp2_with fail);rw[←HX.out];exact bodyPost_ret (v:=.agg #[.int .i64 a,.int .i64 b]) (results_row (p:=2) (ty:=32) Tryz.results52 _ _ w.heap.size 32 #[.int .i64 a,.int .i64 b] (0,0) _ rfl (set2_same HI2.out) Tryz.underlying32 rfl (by rw[sizeFt];rfl)) rfl ⟨by have:=HZ1.out;injection this with t1 t2;rw[t1,t2],(HI4.out.setCell (Nat.le_refl _) _).setCell (Nat.le_refl _) _⟩
  ·obtain rfl:k=2:=by omega
   have HZ1:Hid ((R1,R2)=((0:Int),(0:Int))):=by
    rw[HR.out,if_pos (hS.out.1 (by omega))];obtain⟨e1,e2⟩:=hS.out.2 (by omega);rw[e1,e2];rfl
   obtain⟨r0,r1⟩:=tC2 j2;obtain⟨z0,z1⟩:=tC2 j3;obtain⟨f0,f1,_,_⟩:=vc_free j2;have HI2:Hid (wr.heap[w.heap.size]?=some (.cells #[.int .i64 0,.int .i64 0] 32)):=j2;have HI4:Hid (Bl w wr):=j4;clear j1 j2 j3 j4 hS hX HC HR;(go_wp2_with fail);exact bodyPost_ret (v:=.agg #[.int .i64 0,.int .i64 0]) (results_row (p:=2) (ty:=32) Tryz.results52 _ _ w.heap.size 32 #[.int .i64 0,.int .i64 0] (0,0) _ rfl (set2_same HI2.out) Tryz.underlying32 rfl (by rw[sizeFt];rfl)) rfl ⟨by have:=HZ1.out;injection this with t1 t2;rw[t1,t2],(HI4.out.setCell (Nat.le_refl _) _).setCell (Nat.le_refl _) _⟩
namespace Pl
structure Net.Wf (n:Net):Prop where
 addr:∀i,i<n.K→(Lit.int .u64 (n.bs i).addr).wf=true
 link:∀i,i<n.L→(Lit.int .i64 (n.ls i).a).wf=true∧(Lit.int .i64 (n.ls i).pa).wf=true∧(Lit.int .i64 (n.ls i).b).wf=true∧(Lit.int .i64 (n.ls i).pb).wf=true
end Pl
theorem pwrong_any (n:Net) (w:World) (hat:n.at' w) (hwf:n.Wf) :
  Calls Tryz.prog 29 #[n.val] w fun e w'=>e=.returned (.agg (ftA n.wrong))∧Bl w w':=by
 obtain⟨bao,K,bcap,bs,lao,L,lcap,ls⟩:=n;obtain⟨hbr,heach,hlk,hmB,hmL⟩:=hat;obtain⟨hwa,hwl⟩:=hwf;simp only at hbr heach hlk hmB hmL hwa hwl;simp only[Pl.Net.val];have HE:Hid (Pl.Net.wrong ⟨bao,K,bcap,bs,lao,L,lcap,ls⟩=if 12<K∨40<L then(5,0) else if (Pl.firstTo (Pl.bErr bs) K).1≠0 then Pl.firstTo (Pl.bErr bs) K else Pl.firstTo (Pl.lErr K ls) L):=rfl;rw[HE.out];clear HE;obtain⟨X,HX⟩:∃X,Hid (X=(w.alloc (.cells #[.slice bao K bcap,.slice lao L lcap] 25)).alloc (.cells #[.int .i64 0,.int .i64 0] 32)):=⟨_,rfl⟩
 have hXB:Bl w X:=(by rw[HX.out];exact bA2 _ _ _)
 have hXn:X.heap[w.heap.size]?=some (.cells #[.slice bao K bcap,.slice lao L lcap] 25):=(by rw[HX.out];exact heap_alloc2_old w _ _)
 have hXf:X.heap[w.heap.size+1]?=some (.cells #[.int .i64 0,.int .i64 0] 32):=(by rw[HX.out];exact heap_alloc2_new w _ _)
 have HC:Hid (∀W,Bl X W→(W.cell? ⟨w.heap.size,0,none⟩=some (.slice bao K bcap)∧W.cell? ⟨w.heap.size,1,none⟩=some (.slice lao L lcap))∧(W.cell? ⟨w.heap.size+1,0,none⟩=some (.int .i64 0)∧W.cell? ⟨w.heap.size+1,1,none⟩=some (.int .i64 0))∧W.frozen? ⟨w.heap.size+1,0,none⟩=false∧W.frozen? ⟨w.heap.size+1,1,none⟩=false):=fun W hW =>
  ⟨tC2 (keep hXn hW),tC2 (keep hXf hW),(vc_free (keep hXf hW)).1,(vc_free (keep hXf hW)).2.1⟩
 have HF:Hid (∀W,Bl X W→W.heap[w.heap.size+1]?=some (.cells #[.int .i64 0,.int .i64 0] 32)∧Bl w W):=fun W hW=>⟨keep hXf hW,hXB.trans (hW.mono hXB.size)⟩
 obtain⟨⟨c0,c1⟩,⟨d0,d1⟩,e0,e1⟩:=HC.out X (Below.refl _ _);by_cases h12:12<K
 ·rw[if_pos (Or.inl h12)];have h12z:(12:Int)<(K:Int):=(by omega)
  clear hbr heach hlk hwa hwl hXn hXf HC HF hXB;rw[HX.out] at c0 c1 d0 d1 e0 e1;go_enter Tryz.func29,Tryz.ntmps29;(go_wp2_with fail);exact bodyPost_ret (v:=.agg #[.int .i64 5,.int .i64 0]) (results_row (p:=2) (ty:=32) Tryz.results29 _ _ (w.heap.size+1) 32 #[.int .i64 5,.int .i64 0] (0,0) _ rfl (heap_alloc2_new w _ _) Tryz.underlying32 rfl (by rw[sizeFt];rfl)) rfl ⟨rfl,bA2 _ _ _⟩
 ·have h12z:¬(12:Int)<(K:Int):=(by omega)
  by_cases h40:40<L
  ·rw[if_pos (Or.inr h40)];have h40z:(40:Int)<(L:Int):=(by omega)
   clear hbr heach hlk hwa hwl hXn hXf HC HF hXB;rw[HX.out] at c0 c1 d0 d1 e0 e1;go_enter Tryz.func29,Tryz.ntmps29;(go_wp2_with fail);exact bodyPost_ret (v:=.agg #[.int .i64 5,.int .i64 0]) (results_row (p:=2) (ty:=32) Tryz.results29 _ _ (w.heap.size+1) 32 #[.int .i64 5,.int .i64 0] (0,0) _ rfl (heap_alloc2_new w _ _) Tryz.underlying32 rfl (by rw[sizeFt];rfl)) rfl ⟨rfl,bA2 _ _ _⟩
  ·rw[if_neg (fun q=>by rcases q with q | q;exact h12 q;exact h40 q)];have h40z:¬(40:Int)<(L:Int):=(by omega)
   have HWB:Hid (∀W,Bl X W→Calls Tryz.prog 53 #[.slice bao K bcap] W fun e w'=>e=.returned (.agg (ftA (Pl.firstTo (Pl.bErr bs) K)))∧Hid (Bl X w')):=fun W hW=>by
    have hW2:Bl w W:=hXB.trans (hW.mono hXB.size);refine(pwrongBridges_any bao K bcap bs W (by omega) (CRow.below hbr hW2) (fun i hi=>(heach i hi).below hW2) hwa).mono ?_;rintro e w' ⟨rfl,z⟩;exact⟨rfl,hW.trans (z.mono hW.size)⟩
   have HWL:Hid (∀W,Bl X W→Calls Tryz.prog 54 #[.slice lao L lcap,.int .i64 K] W fun e w'=>e=.returned (.agg (ftA (Pl.firstTo (Pl.lErr K ls) L)))∧Hid (Bl X w')):=fun W hW=>by
    have hW2:Bl w W:=hXB.trans (hW.mono hXB.size);refine(pwrongLinks_any lao L lcap ls K (by omega) W (by omega) (CRow.below hlk hW2) hwl).mono ?_;rintro e w' ⟨rfl,z⟩;exact⟨rfl,hW.trans (z.mono hW.size)⟩
   have HEQ:Hid ((if (Pl.firstTo (Pl.bErr bs) K).1≠0 then Pl.firstTo (Pl.bErr bs) K else Pl.firstTo (Pl.lErr K ls) L)=if (Pl.firstTo (Pl.bErr bs) K).1=0∧(Pl.firstTo (Pl.bErr bs) K).2=0 then((Pl.firstTo (Pl.lErr K ls) L).1,(Pl.firstTo (Pl.lErr K ls) L).2) else((Pl.firstTo (Pl.bErr bs) K).1,(Pl.firstTo (Pl.bErr bs) K).2)):=by
    show(if _ then _ else _)=_;by_cases q:(Pl.firstTo (Pl.bErr bs) K).1=0
    ·rw[if_neg (fun p=>p q),if_pos ⟨q,by rw[(Pl.firstTo_zero _ _ q).1]⟩]
    ·rw[if_pos q,if_neg (fun p=>q p.1)]
   clear hbr heach hlk hwa hwl hXn hXf hXB;generalize Pl.firstTo (Pl.bErr bs) K=x at *;generalize Pl.firstTo (Pl.lErr K ls) L=y at *;obtain⟨x1,x2⟩:=x;obtain⟨y1,y2⟩:=y;generalize (if (x1,x2).1≠0 then(x1,x2) else(y1,y2))=R at *;obtain⟨R1,R2⟩:=R;simp only[ftA] at *;have HOR:Hid (∀(g:Nat) (ty:TypeId) (W:World),Bl X W→W.heap[g]?=some (.cells #[.int .i64 x1,.int .i64 x2,.int .i64 y1,.int .i64 y2] ty (0,0))→Calls Tryz.prog 52 #[.slice (some ⟨g,0,none⟩) 2 2] W fun e w'=>e=.returned (.agg #[.int .i64 R1,.int .i64 R2])∧Hid (Bl X w')):=fun g ty W hW h=>by
    refine(corf2 x1 x2 y1 y2 g ty W h R1 R2 HEQ.out).mono ?_;rintro e w' ⟨rfl,z⟩;exact⟨rfl,hW.trans (z.mono hW.size)⟩
   have HXX:Hid (Bl X X.drew):=Below.drew (Below.refl _ _);clear HEQ;rw[HX.out] at c0 c1;go_enter Tryz.func29,Tryz.ntmps29;(go_wp2_with fail);rw[←HX.out] at c0 c1 ⊢;go_region_with (first | (go_at_call 53;(with_reducible refine(HWB.out _ (by first | exact(Below.refl _ _).drew | exact below_drewN (Below.refl _ _) _ | exact Below.refl _ _)).mono ?_);rintro e w1 ⟨rfl,Hw1⟩;obtain⟨⟨k0,k1⟩,⟨m0,m1⟩,n0,n1⟩:=HC.out w1 Hw1.out) | (go_at_call 54;(with_reducible refine(HWL.out _ (by first | exact Hw1.out | exact Hw1.out.drew | exact below_drewN Hw1.out _)).mono ?_);rintro e w2 ⟨rfl,Hw2⟩;obtain⟨⟨k0,k1⟩,⟨m0,m1⟩,n0,n1⟩:=HC.out w2 Hw2.out) | (go_at_call 52;refine(HOR.out _ _ _ (Hw2.out.alloc Hw2.out.size _) (heap_alloc_last _ _)).mono ?_;rintro e w3 ⟨rfl,Hw3⟩;obtain⟨⟨k0,k1⟩,⟨m0,m1⟩,n0,n1⟩:=HC.out w3 Hw3.out))
   (all_goals go_wp2_with fail);all_goals exact bodyPost_ret (v:=.agg #[.int .i64 R1,.int .i64 R2]) (results_row (p:=2) (ty:=32) Tryz.results29 _ _ (w.heap.size+1) 32 #[.int .i64 R1,.int .i64 R2] (0,0) _ rfl (set2_same (HF.out _ Hw3.out).1) Tryz.underlying32 rfl (by rw[sizeFt];rfl)) rfl ⟨rfl,((HF.out _ Hw3.out).2.setCell (Nat.le_add_right _ _) _).setCell (Nat.le_add_right _ _) _⟩
end
section
open Go.RowKit
open Vc (V Of)
open Pl (Br Net Pc Lk En)
def ptsRaw (ls:Nat→Lk) (i:Nat):Nat→List Int
 | 0=>[]
 | k+1=>ptsRaw ls i k++((if (ls k).a=(i:Int) then [(ls k).pa] else [])++if (ls k).b=(i:Int) then [(ls k).pb] else [])
theorem ptsRaw_ends (ls:Nat→Lk) (lv:Nat→Bool) (i:Nat):∀k,ptsRaw ls i k=(Pl.endsTo ls lv i k).map (·.port)
 | 0=>rfl
 | k+1=>by
  simp only[ptsRaw,Pl.endsTo,List.map_append];rw[ptsRaw_ends ls lv i k];congr 1
  unfold Pl.endsAt;rw[List.map_append];congr 1
  ·split<;>rfl
  ·split<;>rfl
theorem ptsRaw_few (ls:Nat→Lk) (i:Nat):∀k,(ptsRaw ls i k).length≤2*k
 | 0=>by simp[ptsRaw]
 | k+1=>by
  have:=ptsRaw_few ls i k;simp only[ptsRaw,List.length_append];split<;>split<;>simp<;>omega
theorem ports_sorted {K L:Nat}{ls:Nat→Lk}(R:Pl.RightL K L ls) (lv:Nat→Bool) (i:Nat):(ptsRaw ls i L).mergeSort (fun x y=>decide (x≤y))=(Pl.ends ls lv L i).map (·.port):=by
 have p1:((ptsRaw ls i L).mergeSort (fun x y=>decide (x≤y))).Perm (ptsRaw ls i L):=List.mergeSort_perm _ _;have p2:=(Pl.ends_perm ls lv L i).map (fun e:En=>e.port);rw[←ptsRaw_ends ls lv i L] at p2;refine(p1.trans p2.symm).eq_of_pairwise (le:=fun a b:Int=>a≤b) (fun a b _ _ h1 h2=>by omega) ?_ ?_
 ·have:=List.pairwise_mergeSort (le:=fun x y:Int=>decide (x≤y)) (fun a b c h1 h2=>by simp at *;omega) (fun a b=>by simp;omega) (ptsRaw ls i L);exact this.imp (fun {a b} h=>by simpa using h)
 ·exact(List.pairwise_map.2 (Pl.ends_sorted R lv i)).imp (fun {a b} h=>by omega)
theorem pports_own (lao:Option Addr) (K L lcap:Nat) (ls:Nat→Lk) (lv:Nat→Bool) (i:Nat) (w:World) (hL:L≤40) (hlk:LRow w lao L lcap ls) (R:Pl.RightL K L ls) :
  Calls Tryz.prog 33 #[.slice lao L lcap,.int .i64 i] w fun e w'=>∃ao cap,e=.returned (.slice ao ((Pl.ends ls lv L i).map (·.port)).length cap)∧IRow w' ao ((Pl.ends ls lv L i).map (·.port)).length cap (IL ((Pl.ends ls lv L i).map (·.port)))∧Bl w w'∧(∀ad,ao=some ad→w.heap.size≤ad.block)∧w'.ownsRow w.heap.size 3 1 (.slice ao ((Pl.ends ls lv L i).map (·.port)).length cap) ((Pl.ends ls lv L i).map (·.port)).length (intCells ((Pl.ends ls lv L i).map (·.port))):=by
 rw[←ports_sorted R lv i];have HRW:Hid (∀W,Bl w W→LRow W lao L lcap ls):=fun W hW=>CRow.below hlk hW;have hcap:=hlk.1;have HNE:Hid (∀k,k<L→¬((ls k).a=(i:Int)∧(ls k).b=(i:Int))):=fun k hk h=>(R.ok k hk).2.2.1 (h.1.trans h.2.symm);clear hlk R;have H0:Hid (w.ownsRow w.heap.size 3 1 (.slice none (ptsRaw ls i 0).length 0) (ptsRaw ls i 0).length (intCells (ptsRaw ls i 0))∧Bl w w):=⟨ownsC_nil _ _ _ _ _,Below.refl _ _⟩
 go_enter Tryz.func33,Tryz.ntmps33;(go_wp2_with fail);go_loopw [5,10] (fun s5 q wr=>∃(k:Nat) (ao:Option Addr) (cap:Nat),k≤L∧q=.int .i64 k∧s5=.slice ao (ptsRaw ls i k).length cap∧Hid (wr.ownsRow w.heap.size 3 1 (.slice ao (ptsRaw ls i k).length cap) (ptsRaw ls i k).length (intCells (ptsRaw ls i k))∧Bl w wr)) (fun _ q _=>L-(intOf q).toNat)
 case atStart=>exact⟨0,none,0,by omega,rfl,rfl,H0⟩
 case round =>
  obtain⟨k,ao,cap,hk,rfl,rfl,hX⟩:=hrel;clear H0;by_cases hlt:k<L
  ·obtain⟨hO,hB⟩:=hX.out;have f1:=HRW.out wr hB;obtain⟨lb,loff,rfl,_⟩:=CRow.some f1 (by omega);obtain⟨c0,c1,c2,c3,c4,c5⟩:=LRow.cells f1 hlt;have hfew:=ptsRaw_few ls i k;have hnext:ptsRaw ls i (k+1)=ptsRaw ls i k++((if (ls k).a=(i:Int) then [(ls k).pa] else [])++if (ls k).b=(i:Int) then [(ls k).pb] else []):=rfl;have hne:=HNE.out k hlt;have i0:(0:Int)≤(k:Int):=(by omega)
   have i1:(k:Int)<(L:Int):=(by omega)
   generalize ls k=l at *;obtain⟨a,pa,b,pb,c,up⟩:=l;simp only at c0 c1 c2 c3 c4 c5 hnext hne;obtain⟨X,HX⟩:∃X,Hid (X=wr.alloc (.cells #[.int .i64 a,.int .i64 pa,.int .i64 b,.int .i64 pb,.int .i64 c,.bool up] 83)):=⟨_,rfl⟩
   have hXB:Bl wr X:=(by rw[HX.out];exact bA1 _ _)
   have hXs2:X.heap.size=wr.heap.size+1:=(by rw[HX.out];simp)
   have hXs:w.heap.size≤X.heap.size:=Nat.le_trans hB.size hXB.size;have HOX:Hid (X.ownsRow w.heap.size 3 1 (.slice ao (ptsRaw ls i k).length cap) (ptsRaw ls i k).length (intCells (ptsRaw ls i k))):=ownsC_below hO hXB;have HBX:Hid (Bl w X):=hB.trans (hXB.mono hB.size);have hXe:X.heap[wr.heap.size]?=some (.cells #[.int .i64 a,.int .i64 pa,.int .i64 b,.int .i64 pb,.int .i64 c,.bool up] 83):=(by rw[HX.out];exact heap_alloc_last _ _)
   obtain⟨q0,q1,q2,q3,_,_⟩:=lk_cells hXe;by_cases ha:a=(i:Int)
   ·have hb:¬b=(i:Int):=fun h=>hne ⟨ha,h⟩;rw[if_pos ha,if_neg hb,List.append_nil] at hnext;obtain⟨a1,c1',w2,r,ho2,hk2,_,hb2,_⟩:=int_more2 HOX.out hXs (by omega) pa (Below.refl _ _) rfl;have hw2:w2.heap[wr.heap.size]?=some (.cells #[.int .i64 a,.int .i64 pa,.int .i64 b,.int .i64 pb,.int .i64 c,.bool up] 83):=(hk2 _ (by rw[hXs2];omega) (fun p=>by have:=(oCb hO _ p).2;omega)).trans hXe;obtain⟨_,_,p2,_,_,_⟩:=lk_cells hw2;have HN:Hid (w2.ownsRow w.heap.size 3 1 (.slice a1 (ptsRaw ls i (k+1)).length c1') (ptsRaw ls i (k+1)).length (intCells (ptsRaw ls i (k+1)))∧Bl w w2):=by
     rw[hnext];exact⟨ho2,HBX.out.trans hb2⟩
    have HR2:Hid _:=r;have HLE:Hid ((ptsRaw ls i (k+1)).length=(ptsRaw ls i k++[pa]).length):=by show _=_;rw[hnext]
    rw[hXs2] at HR2;have e2:(b == (i:Int))=false:=(by simp[hb])
    clear hne;subst ha;clear r ho2 hk2 hb2 hw2 hO hB hX f1 hnext HRW HNE HOX HBX hXe hXB hXs q0 q1 q2 q3 hXs2;go_wp2_with (at_builtin;(try rw[←HX.out]);refine wpList_append_run rfl (.tmp 18) (.tmp 21) 59 rfl _ _ _ rfl rfl HR2.out ?_)
    exact⟨⟨k+1,a1,c1',by omega,by go_num,by rw[HLE.out,List.length_append];rfl,HN⟩,by simp[intOf];omega⟩
   ·rw[if_neg ha,List.nil_append] at hnext;have e1:(a == (i:Int))=false:=(by simp[ha])
    by_cases hb:b=(i:Int)
    ·rw[if_pos hb] at hnext;obtain⟨a1,c1',w2,r,ho2,hk2,_,hb2,_⟩:=int_more2 HOX.out hXs (by omega) pb (Below.refl _ _) rfl;have HN:Hid (w2.ownsRow w.heap.size 3 1 (.slice a1 (ptsRaw ls i (k+1)).length c1') (ptsRaw ls i (k+1)).length (intCells (ptsRaw ls i (k+1)))∧Bl w w2):=by
      rw[hnext];exact⟨ho2,HBX.out.trans hb2⟩
     have HR2:Hid _:=r;have HLE:Hid ((ptsRaw ls i (k+1)).length=(ptsRaw ls i k++[pb]).length):=by show _=_;rw[hnext]
     rw[hXs2] at HR2;clear hne;subst hb;clear r ho2 hk2 hb2 hO hB hX f1 hnext HRW HNE HOX HBX hXe hXB hXs q0 q1 q2 q3 hXs2;go_wp2_with (at_builtin;(try rw[←HX.out]);refine wpList_append_run rfl (.tmp 27) (.tmp 30) 59 rfl _ _ _ rfl rfl HR2.out ?_)
     exact⟨⟨k+1,a1,c1',by omega,by go_num,by rw[HLE.out,List.length_append];rfl,HN⟩,by simp[intOf];omega⟩
    ·rw[if_neg hb,List.append_nil] at hnext;have e2:(b == (i:Int))=false:=(by simp[hb])
     have HN:Hid (X.ownsRow w.heap.size 3 1 (.slice ao (ptsRaw ls i (k+1)).length cap) (ptsRaw ls i (k+1)).length (intCells (ptsRaw ls i (k+1)))∧Bl w X):=by
      rw[hnext];exact⟨HOX.out,HBX.out⟩
     have HLE:Hid ((ptsRaw ls i (k+1)).length=(ptsRaw ls i k).length):=by show _=_;rw[hnext]
     rw[HX.out] at HN;clear hO hB hX f1 hnext hne HRW HNE HOX HBX hXe hXB hXs q0 q1 q2 q3 hXs2;(go_wp2_with fail);exact⟨⟨k+1,ao,cap,by omega,by go_num,by rw[HLE.out],HN⟩,by simp[intOf];omega⟩
  ·obtain rfl:k=L:=by omega
   obtain⟨hO,hB⟩:=hX.out;have hfew:=ptsRaw_few ls i k;have HSO:Hid (Calls Tryz.prog 56 #[.slice ao (ptsRaw ls i k).length cap] wr fun e w'=>e=.returned (.tuple #[])∧Hid (w'.ownsRow w.heap.size 3 1 (.slice ao (ptsRaw ls i k).length cap) ((ptsRaw ls i k).mergeSort fun x y=>decide (x≤y)).length (intCells ((ptsRaw ls i k).mergeSort fun x y=>decide (x≤y)))∧Bl w w')):=by
    refine(isort_any w.heap.size _ (ptsRaw ls i k) wr (by omega) hO).mono ?_;rintro e w' ⟨rfl,z1,z2⟩;exact⟨rfl,z1,hB.grown z2 hB.size (fun q hq=>(oCb hO q hq).1)⟩
   clear hX hO hB HRW HNE;(go_wp2_with fail);refine HSO.out.mono ?_;rintro e w2 ⟨rfl,HN⟩;clear HSO;obtain⟨ao',cap',ev,z1,z3⟩:=IL_row HN.out.1;injection ev with ev1 ev2 ev3;subst ev1;subst ev3;have HZ1:Hid (IRow w2 ao ((ptsRaw ls i k).mergeSort fun x y=>decide (x≤y)).length cap (IL ((ptsRaw ls i k).mergeSort fun x y=>decide (x≤y)))):=z1;have HZ3:Hid (∀ad,ao=some ad→w.heap.size≤ad.block):=z3;have HOW:Hid (w2.ownsRow w.heap.size 3 1 (.slice ao ((ptsRaw ls i k).mergeSort fun x y=>decide (x≤y)).length cap) ((ptsRaw ls i k).mergeSort fun x y=>decide (x≤y)).length (intCells ((ptsRaw ls i k).mergeSort fun x y=>decide (x≤y)))):=by
    have:=HN.out.1;rw[ev2] at this;exact this
   have HEV:Hid ((ptsRaw ls i k).length=((ptsRaw ls i k).mergeSort fun x y=>decide (x≤y)).length):=ev2;clear z1 z3 ev2;(go_wp2_with fail);go_ret;exact⟨ao,cap,congrArg (fun n=>Ending.returned (Value.slice ao n cap)) HEV.out,HZ1.out,HN.out.2,HZ3.out,HOW.out⟩
theorem pports_any (lao:Option Addr) (K L lcap:Nat) (ls:Nat→Lk) (lv:Nat→Bool) (i:Nat) (w:World) (hL:L≤40) (hlk:LRow w lao L lcap ls) (R:Pl.RightL K L ls) :
  Calls Tryz.prog 33 #[.slice lao L lcap,.int .i64 i] w fun e w'=>∃ao cap,e=.returned (.slice ao ((Pl.ends ls lv L i).map (·.port)).length cap)∧IRow w' ao ((Pl.ends ls lv L i).map (·.port)).length cap (IL ((Pl.ends ls lv L i).map (·.port)))∧Bl w w'∧∀ad,ao=some ad→w.heap.size≤ad.block:=by
 exact(pports_own lao K L lcap ls lv i w hL hlk R).mono (fun e w' ⟨ao,cap,h1,h2,h3,h4,_⟩=>⟨ao,cap,h1,h2,h3,h4⟩)
theorem ends_few (n:Net) (i:Nat) (h:n.L≤40):(n.ends i).length≤1000:=by
 have h1:=(Pl.ends_perm n.ls n.live n.L i).length_eq;have h2:=endsTo_few n.ls n.live i n.L;show(Pl.ends n.ls n.live n.L i).length≤1000;omega
structure Pl.Net.Right (n:Net):Prop where
 few:n.K≤12
 fewL:n.L≤40
 fine:∀i,i<n.K→(n.bs i).Fine
 links:Pl.RightL n.K n.L n.ls
 apart:∀i j,i<n.K→j<n.K→(n.bs i).addr=(n.bs j).addr→i=j
theorem right_of {n:Net}(hw:n.Wf) (h:n.wrong.1=0):n.Right:=by
 unfold Pl.Net.wrong at h;by_cases c1:12<n.K∨40<n.L
 ·rw[if_pos c1] at h;cases h
 ·rw[if_neg c1] at h;by_cases c2:(Pl.firstTo (Pl.bErr n.bs) n.K).1=0
  ·rw[if_neg (fun q=>q c2)] at h;have hb:=(Pl.firstTo_zero _ _ c2).2;have hl:=(Pl.firstTo_zero _ _ h).2;refine⟨by omega,by omega,fun i hi => ?_,Pl.rightL hl,fun i j hi hj e => ?_⟩
   ·have h0:=bErr_zero (hb i hi);have ha:=wf_u64 (hw.addr i hi);unfold Pl.brErr at h0;split at h0
    ·omega
    ·split at h0
     ·omega
     ·split at h0
      ·omega
      ·rename_i q1 q2 q3;refine⟨by omega,by omega,fun t ht => ?_,Rg.wrong_zero h0⟩;have:=Pl.someTo_false (by simpa using q3) t ht;unfold Pl.oddP at this;simp only[Bool.or_eq_false_iff,Bool.not_eq_false',decide_eq_true_eq] at this;exact this.1
   ·have key:∀a b,a<b→b<n.K→(n.bs a).addr≠(n.bs b).addr:=fun a b hab hb' e2=>by
     have h7:=hb b hb';unfold Pl.bErr at h7;rw[if_neg (fun q=>q (bErr_zero (hb b hb'))),if_pos (Pl.someTo_iff.2 ⟨a,hab,decide_eq_true e2⟩)] at h7;cases h7
    rcases Nat.lt_trichotomy i j with q | q | q
    ·exact absurd e (key i j q hj)
    ·exact q
    ·exact absurd e.symm (key j i q hi)
  ·rw[if_pos c2] at h;exact absurd h c2
end
section
open Go.RowKit
open Vc (V Of)
open Pl (En Lk Br)
open Tk (Md Mnd Cn Sc ixM ilist)
namespace Tk
def Sc.mid (s:Sc) (c:Cn) (k i:Nat):Sc:=⟨s.pr,s.ls,fun k' i'=>if (k'<k∧i'<c.K)∨(k'=k∧i'<i) then tickF (s.ids c k') (s.E c) (s.ms k') i' else s.ms k' i'⟩
theorem Sc.mid_zero (s:Sc) (c:Cn):s.mid c 0 0=s:=by
 unfold Sc.mid;congr 1
 funext k i
 rw[if_neg (by omega)]
theorem Sc.mid_next (s:Sc) (c:Cn) (k:Nat):s.mid c k c.K=s.mid c (k+1) 0:=by
 unfold Sc.mid;congr 1
 funext k' i'
 by_cases h:(k'<k∧i'<c.K)∨(k'=k∧i'<c.K)
 ·rw[if_pos h,if_pos (by omega)]
 ·rw[if_neg h,if_neg (by omega)]
theorem Sc.mid_step (s:Sc) (c:Cn) (k i:Nat):(s.mid c k i).setM k i (tickF (s.ids c k) (s.E c) (s.ms k) i)=s.mid c k (i+1):=by
 unfold Sc.mid Sc.setM;congr 1
 funext k' i'
 by_cases h:k'=k∧i'=i
 ·rw[if_pos h,if_pos (by omega),h.1,h.2]
 ·rw[if_neg h];by_cases h2:(k'<k∧i'<c.K)∨(k'=k∧i'<i)
  ·simp only[if_pos h2];rw[if_pos (by omega)]
  ·simp only[if_neg h2];rw[if_neg (by omega)]
theorem Sc.mid_ms (s:Sc) (c:Cn) (k i j:Nat) (h:i≤j):(s.mid c k i).ms k j=s.ms k j:=by
 unfold Sc.mid;simp only;rw[if_neg (by omega)]
theorem Sc.mid_all (s:Sc) (c:Cn) {T k i:Nat}(hk:k<T) (hi:i<c.K):(s.mid c T 0).ms k i=(s.ticks c 1).ms k i:=by
 unfold Sc.mid Sc.ticks;simp only;rw[if_pos (by omega)];rfl
end Tk
section
variable {W W':World}{S:Nat}{F:Tf}{s:Sc}{M:Tm}{G:Nat}{ve:Nat→Value}
theorem ScAt.below (h:ScAt W S F s M G ve) (hb:Bl W W'):ScAt W' S F s M G ve :=
 ⟨keep h.blk hb,ownsC_below h.brs hb,ownsC_below h.lks hb,ownsC_below h.out hb,h.mds.below hb,h.ints.below hb,h.ways.below hb,h.low.trans (hb.mono h.low.size),h.ends.below hb,h.few,h.fewT⟩
theorem ScAt.congr {s':Sc}(h:ScAt W S F s M G ve) (h1:s'.pr=s.pr) (h2:s'.ls=s.ls) (h3:∀k i,k<F.T→i<F.c.K→s'.ms k i=s.ms k i):ScAt W S F s' M G ve:=by
 have hE:s'.E F.c=s.E F.c:=by
  unfold Sc.E Sc.lv;rw[h2]
 have hl:∀a,F.il s a=F.il s' a:=fun a=>by
  unfold Tf.il ilist;rw[h1];by_cases q:(a-12)/36<F.T∧(a-12)%36/3<F.c.K
  ·rw[h3 _ _ q.1 q.2]
  ·simp only[q,if_false]
 refine⟨h.blk,h.brs,by rw[h2];exact h.lks,h.out,h.mds.congr (fun _ _=>rfl) (fun a ha i hi x _ => ?_),h.ints.congr (fun a _=>by rw[hl]) (fun a _ i _ x _=>by rw[hl]),h.ways,h.low,by rw[hE];exact h.ends,h.few,h.fewT⟩;unfold Tm.mc;rw[h3 a i ha hi]
theorem ScAt.cells (h:ScAt W S F s M G ve):W.cell? ⟨S,0,none⟩=some M.vb∧W.cell? ⟨S,1,none⟩=some M.vl∧W.cell? ⟨S,2,none⟩=some M.vo∧W.cell? ⟨S,3,none⟩=some (.func (.func 74) #[] #[.pointer (some ⟨F.B1,0,none⟩),.pointer (some ⟨F.B2,0,none⟩)])∧W.cell? ⟨S,4,none⟩=some (.slice (some ⟨G,0,none⟩) F.c.K F.c.K) :=
 ⟨cell_of_row W S 0 _ _ _ h.blk,cell_of_row W S 1 _ _ _ h.blk,cell_of_row W S 2 _ _ _ h.blk,cell_of_row W S 3 _ _ _ h.blk,cell_of_row W S 4 _ _ _ h.blk⟩
theorem ScAt.bridge (h:ScAt W S F s M G ve) {i:Nat}(hi:i<F.c.K):∃pao pcap wao wcap,M.iv i=.slice pao (s.pr i).length pcap∧IRow W pao (s.pr i).length pcap (IL (s.pr i))∧M.we i=.slice wao (F.rg i).n wcap∧WayRow W wao (F.rg i).n wcap (F.rg i).vs (F.rg i).ts∧(F.rg i).n≤9223372036854775807:=by
 have hK:=h.few;have h1:=h.ints.own i (by omega);have e1:F.il s i=s.pr i:=Tk.ilist_prio hK F.pts s hi;rw[e1] at h1;obtain⟨pao,pcap,ep,hp,_,_⟩:=owns_c (by omega) h1;have h2:=h.ways.own i (by omega);rw[if_pos hi] at h2;have hmx:(F.rg i).n≤maxLen:=by
  obtain⟨_,q⟩:=h2;rcases q with⟨_,e⟩ | ⟨g,cap,cur,_,_,_,hn,hm,_,_⟩
  ·rw[e];exact Nat.zero_le _
  ·omega
 obtain⟨wao,wcap,ew,hw,_,_⟩:=owns_c (by omega) h2;refine⟨pao,pcap,wao,wcap,ep,hp,ew,⟨hw.1,fun hpz => ?_⟩,by unfold maxLen at hmx;omega⟩;obtain⟨b,off,e,hb,hc⟩:=hw.2 hpz;exact⟨b,off,e,hb,fun j hj=>⟨hc j hj 0 (by omega),hc j hj 1 (by omega)⟩⟩
theorem ScAt.ident (h:ScAt W S F s M G ve) {i:Nat}(hi:i<F.c.K) (hf:Tk.Fine F.c s) (hreg:(F.rg i).ok) (tree:Int) :
  Calls Tryz.prog 32 #[.agg #[.int .u64 (F.c.addr i),M.iv i,.string (F.rg i).s,.int .i64 (F.rg i).rev,M.we i],.int .i64 tree] W fun e w'=>e=.returned (.int .u64 (s.ids F.c tree i))∧Bl W w':=by
 obtain⟨pao,pcap,wao,wcap,ep,hp,ew,hw,hn⟩:=h.bridge hi;have hpr:=hf.prios i hi;have:=pident_any ⟨F.c.addr i,pao,(s.pr i).length,pcap,IL (s.pr i),⟨(F.rg i).s,(F.rg i).rev,wao,(F.rg i).n,wcap,(F.rg i).vs,(F.rg i).ts⟩⟩ tree W ⟨hp,hw,by have:=hpr.1;show(s.pr i).length≤_;omega,hn⟩ ⟨hf.addr i hi,hpr.1,fun j hj=>by
  have hj':j<(s.pr i).length:=hj;have:=hpr.2 (IL (s.pr i) j) (by unfold IL;rw[List.getD_eq_getElem?_getD,List.getElem?_eq_getElem hj'];exact List.getElem_mem hj');exact⟨this.1,this.2.1⟩,hreg⟩
 rw[ep,ew];exact this
end
end
end Go.Proofs.YtaneiffnhphkhaaGreatDoor
