/- PW6 -/
import Derived.Test.YtelebnancdjjiaaGreatDoorE07
set_option maxRecDepth 100000
set_option maxHeartbeats 40000000
namespace Go.Proofs.YtelebnancdjjiaaGreatDoor
section
open Go.Proofs.Tryz
open Go.RowKit Go.Maps
open Pl (Br Net Pc Lk En)
theorem ft_neq (a b c d:Int) (W:World):(binOp .neq 37 (.agg #[.int .i64 a,.int .i64 b]) (.agg #[.int .i64 c,.int .i64 d])).run prog W=.ok (.bool (!decide (a=c/\b=d))) W:=by
 by_cases h:a=c/\b=d
 ·rw[b0k h];obtain⟨rfl,rfl⟩:=h;go_simp
 ·rw[b0j h];go_simp;exact λp q=>h ⟨p,q⟩
theorem a8L {w:World}{g:Nat}{a0 a1 a2 a3:Value}{ty:TypeId}(h:w.heap[g]?=some (.cells #[a0,a1,a2,a3] ty (0,0))):w.cell? (Pv g 0)=some a0/\w.cell? (Pv g 1)=some a1/\w.cell? (Pv g 2)=some a2/\w.cell? (Pv g 3)=some a3:=a1p h
theorem corf2 (x1 x2 y1 y2:Int) (g:Nat) (ty:TypeId) (w:World) (h:w.heap[g]?=some (.cells #[.int .i64 x1,.int .i64 x2,.int .i64 y1,.int .i64 y2] ty (0,0))) (R1 R2:Int) (hR:(R1,R2)=if x1=0/\x2=0 then(y1,y2) else(x1,x2)) :
  Calls prog 97 #[.slice (some (Pv g 0)) 2 2] w λe w'=>e=.returned (.agg #[.int .i64 R1,.int .i64 R2])/\Bl w w':=by
 have al:=(gSm.1 h).1;obtain⟨W0,ae⟩:=nm ((w.alloc (.cells #[.int .i64 0,.int .i64 0] 37)).alloc (.cells #[.int .i64 0,.int .i64 0] 37))
 have ac:Bl w W0:=(by rw[ae.o];exact bA2 _ _ _)
 have aj:W0.heap[w.heap.size]?=some (.cells #[.int .i64 0,.int .i64 0] 37):=(by rw[ae.o];exact b0d w _ _)
 have ah:W0.heap[w.heap.size+1]?=some (.cells #[.int .i64 0,.int .i64 0] 37):=(by rw[ae.o];exact b0c w _ _)
 have HC:Hid (∀W,Bl W0 W->W.heap[g]?=some (.cells #[.int .i64 x1,.int .i64 x2,.int .i64 y1,.int .i64 y2] ty (0,0))/\W.heap[w.heap.size]?=some (.cells #[.int .i64 0,.int .i64 0] 37)/\W.heap[w.heap.size+1]?=some (.cells #[.int .i64 0,.int .i64 0] 37)/\Bl w W):=λW hW =>
  ⟨keep (keep h ac) hW,keep aj hW,keep ah hW,ac.trans (hW.mono ac.size)⟩
 have ak:Hid (∀a b W,(binOp .neq 37 (.agg #[.int .i64 a,.int .i64 b]) (.agg #[.int .i64 0,.int .i64 0])).run prog W=.ok (.bool (!decide (a=0/\b=0))) W):=λa b W=>ft_neq a b 0 0 W;have HR:Hid ((R1,R2)=if x1=0/\x2=0 then(y1,y2) else(x1,x2)):=hR;clear h ac aj ah hR;go_enter func97,ntmps97;(go_wp2_with fail);rw[<-ae.o];go_loopw [8] (λi wr=>∃k:Nat,k<=2/\i=.int .i64 k/\Hid ((0<k->x1=0/\x2=0)/\(1<k->y1=0/\y2=0))/\Hid (Bl W0 wr)) (λi _=>2-(intOf i).toNat)
 case atStart=>exact⟨0,om,rfl,⟨λh=>absurd h om,λh=>absurd h om⟩,b0h _ _⟩
 case round =>
  obtain⟨k,hk,rfl,hS,hX⟩:=hrel;obtain⟨j1,j2,j3,j4⟩:=HC.o wr hX.o;by_cases hlt:k<2
  ·have ag:∃a b:Int,wr.cell? (Pv g (k*2))=some (.int .i64 a)/\wr.cell? (Pv g (k*2+1))=some (.int .i64 b)/\Hid ((a=0/\b=0)->(0<k+1->x1=0/\x2=0)/\(1<k+1->y1=0/\y2=0))/\Hid (¬(a=0/\b=0)->(R1,R2)=(a,b)):=by
    obtain⟨c0,c1,c2,c3⟩:=a8L j1;rcases(by omega:k=0\/k=1) with e | e<;>subst e
    ·exact⟨x1,x2,c0,c1,λq=>⟨λ_=>q,λh=>absurd h om⟩,λq=>by rw[HR.o,iN q]⟩
    ·exact⟨y1,y2,c2,c3,λq=>⟨λ_=>hS.o.1 om,λ_=>q⟩,λq=>by rw[HR.o,iP (hS.o.1 om)]⟩
   obtain⟨a,b,c0,c1,HZ,af⟩:=ag;obtain⟨X,HX⟩:=nm (wr.alloc (.cells #[.int .i64 a,.int .i64 b] 37))
   have ai:Hid (Bl W0 X):=(by rw[HX.o];exact hX.o.alloc hX.o.size _)
   obtain⟨i1,i2,i3,i4⟩:=HC.o X ai.o;obtain⟨z0,z1⟩:=tC2 i3;obtain⟨r0,r1⟩:=tC2 i2;obtain⟨f0,f1,_,_⟩:=a1K i2;have ad:Hid (X.heap[w.heap.size]?=some (.cells #[.int .i64 0,.int .i64 0] 37)):=i2;have ab:Hid (Bl w X):=i4;have b5:X.heap[wr.heap.size]?=some (.cells #[.int .i64 a,.int .i64 b] 37):=(by rw[HX.o];exact a9Z _ _)
   obtain⟨u0,u1⟩:=tC2 b5;have hq:=ak.o a b X;clear j1 j2 j3 j4 i1 i2 i3 i4 b5 hS hX HC HR;by_cases h0:a=0/\b=0
   ·have aa:Hid _:=HZ.o h0;obtain⟨rfl,rfl⟩:=h0;clear HZ af hq;rw[HX.o] at z0 z1 u0 u1;(go_wp2_with fail);rw[<-HX.o];exact⟨⟨k+1,om,gn,aa,ai⟩,io⟩
   ·have aa:Hid ((R1,R2)=(a,b)):=af.o h0;clear HZ af hq;rw[HX.o] at z0 z1 u0 u1 r0 r1 f0 f1;by_cases ha:a=0
    ·subst ha;have hb:¬b=0:=λq=>h0 ⟨rfl,q⟩;clear h0;(go_wp2_with fail);rw[<-HX.o];exact b0b (v:=.agg #[.int .i64 0,.int .i64 b]) (a0b (p:=2) (ty:=37) results97 _ _ w.heap.size 37 #[.int .i64 0,.int .i64 b] (0,0) _ rfl (a0i ad.o) underlying37 rfl (by rw[a0q];rfl)) rfl ⟨by have:=aa.o;injection this with t1 t2;rw[t1,t2],(ab.o.setCell (b0g _) _).setCell (b0g _) _⟩
    ·clear h0;(go_wp2_with fail);rw[<-HX.o];exact b0b (v:=.agg #[.int .i64 a,.int .i64 b]) (a0b (p:=2) (ty:=37) results97 _ _ w.heap.size 37 #[.int .i64 a,.int .i64 b] (0,0) _ rfl (a0i ad.o) underlying37 rfl (by rw[a0q];rfl)) rfl ⟨by have:=aa.o;injection this with t1 t2;rw[t1,t2],(ab.o.setCell (b0g _) _).setCell (b0g _) _⟩
  ·obtain rfl:k=2:=om
   have aa:Hid ((R1,R2)=((0:Int),(0:Int))):=by
    rw[HR.o,iP (hS.o.1 om)];obtain⟨e1,e2⟩:=hS.o.2 om;rw[e1,e2];rfl
   obtain⟨r0,r1⟩:=tC2 j2;obtain⟨z0,z1⟩:=tC2 j3;obtain⟨f0,f1,_,_⟩:=a1K j2;have ad:Hid (wr.heap[w.heap.size]?=some (.cells #[.int .i64 0,.int .i64 0] 37)):=j2;have ab:Hid (Bl w wr):=j4;clear j1 j2 j3 j4 hS hX HC HR;(go_wp2_with fail);exact b0b (v:=.agg #[.int .i64 0,.int .i64 0]) (a0b (p:=2) (ty:=37) results97 _ _ w.heap.size 37 #[.int .i64 0,.int .i64 0] (0,0) _ rfl (a0i ad.o) underlying37 rfl (by rw[a0q];rfl)) rfl ⟨by have:=aa.o;injection this with t1 t2;rw[t1,t2],(ab.o.setCell (b0g _) _).setCell (b0g _) _⟩
namespace Pl
structure Net.Wf (n:Net):Prop where
 addr:∀i,i<n.K->(Lit.int .u64 (n.bs i).addr).wf=true
 link:∀i,i<n.L->(Lit.int .i64 (n.ls i).a).wf=true/\(Lit.int .i64 (n.ls i).pa).wf=true/\(Lit.int .i64 (n.ls i).b).wf=true/\(Lit.int .i64 (n.ls i).pb).wf=true
end Pl
theorem a7w (n:Net) (w:World) (ax:n.at' w) (ap:n.Wf) :
  Calls prog 62 #[n.val] w λe w'=>e=.returned (.agg (ftA n.wrong))/\Bl w w':=by
 obtain⟨bao,K,bcap,bs,lao,L,lcap,ls⟩:=n;obtain⟨ae,aa,ag,av,au⟩:=ax;obtain⟨ad,af⟩:=ap;simp only at ae aa ag av au ad af;simp only[Pl.Net.val];have HE:Hid (Pl.Net.wrong ⟨bao,K,bcap,bs,lao,L,lcap,ls⟩=if 12<K\/40<L then(5,0) else if (Pl.firstTo (Pl.bErr bs) K).1≠0 then Pl.firstTo (Pl.bErr bs) K else Pl.firstTo (Pl.lErr K ls) L):=rfl;rw[HE.o];clear HE;obtain⟨X,HX⟩:=nm ((w.alloc (.cells #[.slice bao K bcap,.slice lao L lcap] 25)).alloc (.cells #[.int .i64 0,.int .i64 0] 37))
 have ab:Bl w X:=(by rw[HX.o];exact bA2 _ _ _)
 have ah:X.heap[w.heap.size]?=some (.cells #[.slice bao K bcap,.slice lao L lcap] 25):=(by rw[HX.o];exact b0d w _ _)
 have ac:X.heap[w.heap.size+1]?=some (.cells #[.int .i64 0,.int .i64 0] 37):=(by rw[HX.o];exact b0c w _ _)
 have HC:Hid (∀W,Bl X W->(W.cell? (Pv w.heap.size 0)=some (.slice bao K bcap)/\W.cell? (Pv w.heap.size 1)=some (.slice lao L lcap))/\(W.cell? (Pv (w.heap.size+1) 0)=some (.int .i64 0)/\W.cell? (Pv (w.heap.size+1) 1)=some (.int .i64 0))/\W.frozen? (Pv (w.heap.size+1) 0)=false/\W.frozen? (Pv (w.heap.size+1) 1)=false):=λW hW =>
  ⟨tC2 (keep ah hW),tC2 (keep ac hW),(a1K (keep ac hW)).1,(a1K (keep ac hW)).2.1⟩
 have HF:Hid (∀W,Bl X W->W.heap[w.heap.size+1]?=some (.cells #[.int .i64 0,.int .i64 0] 37)/\Bl w W):=λW hW=>⟨keep ac hW,ab.trans (hW.mono ab.size)⟩
 obtain⟨⟨c0,c1⟩,⟨d0,d1⟩,e0,e1⟩:=HC.o X (b0h _ _);by_cases h12:12<K
 ·rw[iP (Or.inl h12)];have ak:(12:Int)<(K:Int):=om
  clear ae aa ag ad af ah ac HC HF ab;rw[HX.o] at c0 c1 d0 d1 e0 e1;go_enter func62,ntmps62;(go_wp2_with fail);exact b0b (v:=.agg #[.int .i64 5,.int .i64 0]) (a0b (p:=2) (ty:=37) results62 _ _ (w.heap.size+1) 37 #[.int .i64 5,.int .i64 0] (0,0) _ rfl (b0c w _ _) underlying37 rfl (by rw[a0q];rfl)) rfl ⟨rfl,bA2 _ _ _⟩
 ·have ak:¬(12:Int)<(K:Int):=om
  by_cases h40:40<L
  ·rw[iP (Or.inr h40)];have an:(40:Int)<(L:Int):=om
   clear ae aa ag ad af ah ac HC HF ab;rw[HX.o] at c0 c1 d0 d1 e0 e1;go_enter func62,ntmps62;(go_wp2_with fail);exact b0b (v:=.agg #[.int .i64 5,.int .i64 0]) (a0b (p:=2) (ty:=37) results62 _ _ (w.heap.size+1) 37 #[.int .i64 5,.int .i64 0] (0,0) _ rfl (b0c w _ _) underlying37 rfl (by rw[a0q];rfl)) rfl ⟨rfl,bA2 _ _ _⟩
  ·rw[iN (λq=>by rcases q with q | q;exact h12 q;exact h40 q)];have an:¬(40:Int)<(L:Int):=om
   have ar:Hid (∀W,Bl X W->Calls prog 98 #[.slice bao K bcap] W λe w'=>e=.returned (.agg (ftA (Pl.firstTo (Pl.bErr bs) K)))/\Hid (Bl X w')):=λW hW=>by
    have aj:Bl w W:=ab.trans (hW.mono ab.size);refine(a3o bao K bcap bs W om (CRow.below ae aj) (λi hi=>(aa i hi).below aj) ad).mono ?_;rintro e w' ⟨rfl,z⟩;exact⟨rfl,hW.trans (z.mono hW.size)⟩
   have aq:Hid (∀W,Bl X W->Calls prog 99 #[.slice lao L lcap,.int .i64 K] W λe w'=>e=.returned (.agg (ftA (Pl.firstTo (Pl.lErr K ls) L)))/\Hid (Bl X w')):=λW hW=>by
    have aj:Bl w W:=ab.trans (hW.mono ab.size);refine(a3M lao L lcap ls K om W om (CRow.below ag aj) af).mono ?_;rintro e w' ⟨rfl,z⟩;exact⟨rfl,hW.trans (z.mono hW.size)⟩
   have ao:Hid ((if (Pl.firstTo (Pl.bErr bs) K).1≠0 then Pl.firstTo (Pl.bErr bs) K else Pl.firstTo (Pl.lErr K ls) L)=if (Pl.firstTo (Pl.bErr bs) K).1=0/\(Pl.firstTo (Pl.bErr bs) K).2=0 then((Pl.firstTo (Pl.lErr K ls) L).1,(Pl.firstTo (Pl.lErr K ls) L).2) else((Pl.firstTo (Pl.bErr bs) K).1,(Pl.firstTo (Pl.bErr bs) K).2)):=by
    show(if _ then _ else _)=_;by_cases q:(Pl.firstTo (Pl.bErr bs) K).1=0
    ·rw[iN (λp=>p q),iP ⟨q,by rw[(Pl.firstTo_zero _ _ q).1]⟩]
    ·rw[iP q,iN (λp=>q p.1)]
   clear ae aa ag ad af ah ac ab;generalize Pl.firstTo (Pl.bErr bs) K=x at *;generalize Pl.firstTo (Pl.lErr K ls) L=y at *;obtain⟨x1,x2⟩:=x;obtain⟨y1,y2⟩:=y;generalize (if (x1,x2).1≠0 then(x1,x2) else(y1,y2))=R at *;obtain⟨R1,R2⟩:=R;simp only[ftA] at *;have aw:Hid (∀(g:Nat) (ty:TypeId) (W:World),Bl X W->W.heap[g]?=some (.cells #[.int .i64 x1,.int .i64 x2,.int .i64 y1,.int .i64 y2] ty (0,0))->Calls prog 97 #[.slice (some (Pv g 0)) 2 2] W λe w'=>e=.returned (.agg #[.int .i64 R1,.int .i64 R2])/\Hid (Bl X w')):=λg ty W hW h=>by
    refine(corf2 x1 x2 y1 y2 g ty W h R1 R2 ao.o).mono ?_;rintro e w' ⟨rfl,z⟩;exact⟨rfl,hW.trans (z.mono hW.size)⟩
   have ay:Hid (Bl X X.drew):=b0i (b0h _ _);clear ao;rw[HX.o] at c0 c1;go_enter func62,ntmps62;(go_wp2_with fail);rw[<-HX.o] at c0 c1 ⊢;go_region_with (first | (go_at_call 98;(with_reducible refine(ar.o _ (by first | exact(b0h _ _).drew | exact a0d (b0h _ _) _ | exact b0h _ _)).mono ?_);rintro e w1 ⟨rfl,ai⟩;obtain⟨⟨k0,k1⟩,⟨m0,m1⟩,n0,n1⟩:=HC.o w1 ai.o) | (go_at_call 99;(with_reducible refine(aq.o _ (by first | exact ai.o | exact ai.o.drew | exact a0d ai.o _)).mono ?_);rintro e w2 ⟨rfl,am⟩;obtain⟨⟨k0,k1⟩,⟨m0,m1⟩,n0,n1⟩:=HC.o w2 am.o) | (go_at_call 97;refine(aw.o _ _ _ (am.o.alloc am.o.size _) (a9Z _ _)).mono ?_;rintro e w3 ⟨rfl,al⟩;obtain⟨⟨k0,k1⟩,⟨m0,m1⟩,n0,n1⟩:=HC.o w3 al.o))
   (all_goals go_wp2_with fail);all_goals exact b0b (v:=.agg #[.int .i64 R1,.int .i64 R2]) (a0b (p:=2) (ty:=37) results62 _ _ (w.heap.size+1) 37 #[.int .i64 R1,.int .i64 R2] (0,0) _ rfl (a0i (HF.o _ al.o).1) underlying37 rfl (by rw[a0q];rfl)) rfl ⟨rfl,((HF.o _ al.o).2.setCell (Nat.le_add_right _ _) _).setCell (Nat.le_add_right _ _) _⟩
end
section
open Go.Proofs.Tryz
open Go.RowKit
open Vc (V Of)
open Pl (Br Net Pc Lk En)
def a0B (ls:Nat->Lk) (i:Nat):Nat->List Int
 | 0=>[]
 | k+1=>a0B ls i k++((if (ls k).a=(i:Int) then [(ls k).pa] else [])++if (ls k).b=(i:Int) then [(ls k).pb] else [])
theorem a3N (ls:Nat->Lk) (lv:Nat->Bool) (i:Nat):∀k,a0B ls i k=(Pl.endsTo ls lv i k).map (·.port)
 | 0=>rfl
 | k+1=>by
  simp only[a0B,Pl.endsTo,List.map_append];rw[a3N ls lv i k];congr 1
  unfold Pl.endsAt;rw[List.map_append];congr 1
  ·split<;>rfl
  ·split<;>rfl
theorem a3p (ls:Nat->Lk) (i:Nat):∀k,(a0B ls i k).length<=2*k
 | 0=>by simp[a0B]
 | k+1=>by
  have:=a3p ls i k;simp only[a0B,List.length_append];split<;>split<;>simp<;>omega
theorem a5n {K L:Nat}{ls:Nat->Lk}(R:Pl.RightL K L ls) (lv:Nat->Bool) (i:Nat):(a0B ls i L).mergeSort (λx y=>decide (x<=y))=(Pl.ends ls lv L i).map (·.port):=by
 have p1:((a0B ls i L).mergeSort (λx y=>decide (x<=y))).Perm (a0B ls i L):=List.mergeSort_perm _ _;have p2:=(Pl.ends_perm ls lv L i).map (λe:En=>e.port);rw[<-a3N ls lv i L] at p2;refine(p1.trans p2.symm).eq_of_pairwise (le:=λa b:Int=>a<=b) (λa b _ _ h1 h2=>by omega) ?_ ?_
 ·have:=List.pairwise_mergeSort (le:=λx y:Int=>decide (x<=y)) (λa b c h1 h2=>by simp at *;omega) (λa b=>by simp;omega) (a0B ls i L);exact this.imp (λ{a b} h=>by simpa using h)
 ·exact(List.pairwise_map.2 (Pl.ends_sorted R lv i)).imp (λ{a b} h=>by omega)
theorem a7x (lao:OA) (K L lcap:Nat) (ls:Nat->Lk) (lv:Nat->Bool) (i:Nat) (w:World) (hL:L<=40) (au:LRow w lao L lcap ls) (R:Pl.RightL K L ls) :
  Calls prog 51 #[.slice lao L lcap,Iv i] w λe w'=>∃ao cap,e=.returned (.slice ao ((Pl.ends ls lv L i).map (·.port)).length cap)/\IRow w' ao ((Pl.ends ls lv L i).map (·.port)).length cap (IL ((Pl.ends ls lv L i).map (·.port)))/\Bl w w'/\(∀ad,ao=some ad->w.heap.size<=ad.block)/\w'.ownsRow w.heap.size 3 1 (.slice ao ((Pl.ends ls lv L i).map (·.port)).length cap) ((Pl.ends ls lv L i).map (·.port)).length (a0j ((Pl.ends ls lv L i).map (·.port))):=by
 rw[<-a5n R lv i];have ak:Hid (∀W,Bl w W->LRow W lao L lcap ls):=λW hW=>CRow.below au hW;have ay:=au.1;have al:Hid (∀k,k<L->¬((ls k).a=(i:Int)/\(ls k).b=(i:Int))):=λk hk h=>(R.ok k hk).2.2.1 (h.1.trans h.2.symm);clear au R;have H0:Hid (w.ownsRow w.heap.size 3 1 (.slice none (a0B ls i 0).length 0) (a0B ls i 0).length (a0j (a0B ls i 0))/\Bl w w):=⟨a0y _ _ _ _ _,b0h _ _⟩
 go_enter func51,ntmps51;(go_wp2_with fail);go_loopw [5,10] (λs5 q wr=>∃(k:Nat) (ao:OA) (cap:Nat),k<=L/\q=Iv k/\s5=.slice ao (a0B ls i k).length cap/\Hid (wr.ownsRow w.heap.size 3 1 (.slice ao (a0B ls i k).length cap) (a0B ls i k).length (a0j (a0B ls i k))/\Bl w wr)) (λ_ q _=>L-(intOf q).toNat)
 case atStart=>exact⟨0,none,0,om,rfl,rfl,H0⟩
 case round =>
  obtain⟨k,ao,cap,hk,rfl,rfl,hX⟩:=hrel;clear H0;by_cases hlt:k<L
  ·obtain⟨hO,hB⟩:=hX.o;have f1:=ak.o wr hB;obtain⟨lb,aF,rfl,_⟩:=CRow.some f1 om;obtain⟨c0,c1,c2,c3,c4,c5⟩:=LRow.cells f1 hlt;have av:=a3p ls i k;have aa:a0B ls i (k+1)=a0B ls i k++((if (ls k).a=(i:Int) then [(ls k).pa] else [])++if (ls k).b=(i:Int) then [(ls k).pb] else []):=rfl;have ag:=al.o k hlt;have i0:(0:Int)<=(k:Int):=om
   have i1:(k:Int)<(L:Int):=om
   generalize ls k=l at *;obtain⟨a,pa,b,pb,c,up⟩:=l;simp only at c0 c1 c2 c3 c4 c5 aa ag;obtain⟨X,HX⟩:=nm (wr.alloc (.cells #[Iv a,Iv pa,Iv b,Iv pb,Iv c,.bool up] 103))
   have ac:Bl wr X:=(by rw[HX.o];exact bA1 _ _)
   have ab:X.heap.size=wr.heap.size+1:=(by rw[HX.o];simp)
   have an:w.heap.size<=X.heap.size:=b0p hB.size ac.size;have ae:Hid (X.ownsRow w.heap.size 3 1 (.slice ao (a0B ls i k).length cap) (a0B ls i k).length (a0j (a0B ls i k))):=a0h hO ac;have af:Hid (Bl w X):=hB.trans (ac.mono hB.size);have aq:X.heap[wr.heap.size]?=some (.cells #[Iv a,Iv pa,Iv b,Iv pb,Iv c,.bool up] 103):=(by rw[HX.o];exact a9Z _ _)
   obtain⟨q0,q1,q2,q3,_,_⟩:=a1s aq;by_cases ha:a=(i:Int)
   ·have hb:¬b=(i:Int):=λh=>ag ⟨ha,h⟩;rw[iP ha,iN hb,List.append_nil] at aa;obtain⟨a1,aj,w2,r,am,ar,_,ah,_⟩:=a5k ae.o an om pa (b0h _ _) rfl;have aw:w2.heap[wr.heap.size]?=some (.cells #[Iv a,Iv pa,Iv b,Iv pb,Iv c,.bool up] 103):=(ar _ (by rw[ab];omega) (λp=>by have:=(oCb hO _ p).2;omega)).trans aq;obtain⟨_,_,p2,_,_,_⟩:=a1s aw;have HN:Hid (w2.ownsRow w.heap.size 3 1 (.slice a1 (a0B ls i (k+1)).length aj) (a0B ls i (k+1)).length (a0j (a0B ls i (k+1)))/\Bl w w2):=by
     rw[aa];exact⟨am,af.o.trans ah⟩
    have ap:Hid _:=r;have ai:Hid ((a0B ls i (k+1)).length=(a0B ls i k++[pa]).length):=by show _=_;rw[aa]
    rw[ab] at ap;have e2:(b == (i:Int))=false:=(by simp[hb])
    clear ag;subst ha;clear r am ar ah aw hO hB hX f1 aa ak al ae af aq ac an q0 q1 q2 q3 ab;go_wp2_with (at_builtin;(try rw[<-HX.o]);refine a0a rfl (.tmp 18) (.tmp 21) 52 rfl _ _ _ rfl rfl ap.o ?_)
    exact⟨⟨k+1,a1,aj,om,gn,by rw[ai.o,List.length_append];rfl,HN⟩,io⟩
   ·rw[iN ha,List.nil_append] at aa;have e1:(a == (i:Int))=false:=(by simp[ha])
    by_cases hb:b=(i:Int)
    ·rw[iP hb] at aa;obtain⟨a1,aj,w2,r,am,ar,_,ah,_⟩:=a5k ae.o an om pb (b0h _ _) rfl;have HN:Hid (w2.ownsRow w.heap.size 3 1 (.slice a1 (a0B ls i (k+1)).length aj) (a0B ls i (k+1)).length (a0j (a0B ls i (k+1)))/\Bl w w2):=by
      rw[aa];exact⟨am,af.o.trans ah⟩
     have ap:Hid _:=r;have ai:Hid ((a0B ls i (k+1)).length=(a0B ls i k++[pb]).length):=by show _=_;rw[aa]
     rw[ab] at ap;clear ag;subst hb;clear r am ar ah hO hB hX f1 aa ak al ae af aq ac an q0 q1 q2 q3 ab;go_wp2_with (at_builtin;(try rw[<-HX.o]);refine a0a rfl (.tmp 27) (.tmp 30) 52 rfl _ _ _ rfl rfl ap.o ?_)
     exact⟨⟨k+1,a1,aj,om,gn,by rw[ai.o,List.length_append];rfl,HN⟩,io⟩
    ·rw[iN hb,List.append_nil] at aa;have e2:(b == (i:Int))=false:=(by simp[hb])
     have HN:Hid (X.ownsRow w.heap.size 3 1 (.slice ao (a0B ls i (k+1)).length cap) (a0B ls i (k+1)).length (a0j (a0B ls i (k+1)))/\Bl w X):=by
      rw[aa];exact⟨ae.o,af.o⟩
     have ai:Hid ((a0B ls i (k+1)).length=(a0B ls i k).length):=by show _=_;rw[aa]
     rw[HX.o] at HN;clear hO hB hX f1 aa ag ak al ae af aq ac an q0 q1 q2 q3 ab;(go_wp2_with fail);exact⟨⟨k+1,ao,cap,om,gn,by rw[ai.o],HN⟩,io⟩
  ·obtain rfl:k=L:=om
   obtain⟨hO,hB⟩:=hX.o;have av:=a3p ls i k;have ax:Hid (Calls prog 80 #[.slice ao (a0B ls i k).length cap] wr λe w'=>e=.returned (.tuple #[])/\Hid (w'.ownsRow w.heap.size 3 1 (.slice ao (a0B ls i k).length cap) ((a0B ls i k).mergeSort λx y=>decide (x<=y)).length (a0j ((a0B ls i k).mergeSort λx y=>decide (x<=y)))/\Bl w w')):=by
    refine(a8E w.heap.size _ (a0B ls i k) wr om hO).mono ?_;rintro e w' ⟨rfl,z1,z2⟩;exact⟨rfl,z1,hB.grown z2 hB.size (λq hq=>(oCb hO q hq).1)⟩
   clear hX hO hB ak al;(go_wp2_with fail);refine ax.o.mono ?_;rintro e w2 ⟨rfl,HN⟩;clear ax;obtain⟨aG,aB,ev,z1,z3⟩:=IL_row HN.o.1;injection ev with ev1 ev2 ev3;subst ev1;subst ev3;have az:Hid (IRow w2 ao ((a0B ls i k).mergeSort λx y=>decide (x<=y)).length cap (IL ((a0B ls i k).mergeSort λx y=>decide (x<=y)))):=z1;have aE:Hid (∀ad,ao=some ad->w.heap.size<=ad.block):=z3;have aD:Hid (w2.ownsRow w.heap.size 3 1 (.slice ao ((a0B ls i k).mergeSort λx y=>decide (x<=y)).length cap) ((a0B ls i k).mergeSort λx y=>decide (x<=y)).length (a0j ((a0B ls i k).mergeSort λx y=>decide (x<=y)))):=by
    have:=HN.o.1;rw[ev2] at this;exact this
   have aC:Hid ((a0B ls i k).length=((a0B ls i k).mergeSort λx y=>decide (x<=y)).length):=ev2;clear z1 z3 ev2;(go_wp2_with fail);go_ret;exact⟨ao,cap,congrArg (λn=>Ending.returned (Value.slice ao n cap)) aC.o,az.o,HN.o.2,aE.o,aD.o⟩
theorem a4p (lao:OA) (K L lcap:Nat) (ls:Nat->Lk) (lv:Nat->Bool) (i:Nat) (w:World) (hL:L<=40) (aa:LRow w lao L lcap ls) (R:Pl.RightL K L ls) :
  Calls prog 51 #[.slice lao L lcap,Iv i] w λe w'=>∃ao cap,e=.returned (.slice ao ((Pl.ends ls lv L i).map (·.port)).length cap)/\IRow w' ao ((Pl.ends ls lv L i).map (·.port)).length cap (IL ((Pl.ends ls lv L i).map (·.port)))/\Bl w w'/\∀ad,ao=some ad->w.heap.size<=ad.block:=by
 exact(a7x lao K L lcap ls lv i w hL aa R).mono (λe w' ⟨ao,cap,h1,h2,h3,h4,_⟩=>⟨ao,cap,h1,h2,h3,h4⟩)
theorem a6G (n:Net) (i:Nat) (h:n.L<=40):(n.ends i).length<=1000:=by
 have h1:=(Pl.ends_perm n.ls n.live n.L i).length_eq;have h2:=a4n n.ls n.live i n.L;show(Pl.ends n.ls n.live n.L i).length<=1000;omega
structure Pl.Net.Right (n:Net):Prop where
 few:n.K<=12
 fewL:n.L<=40
 fine:∀i,i<n.K->(n.bs i).Fine
 links:Pl.RightL n.K n.L n.ls
 apart:∀i j,i<n.K->j<n.K->(n.bs i).addr=(n.bs j).addr->i=j
theorem right_of {n:Net}(hw:n.Wf) (h:n.wrong.1=0):n.Right:=by
 unfold Pl.Net.wrong at h;by_cases c1:12<n.K\/40<n.L
 ·rw[iP c1] at h;cases h
 ·rw[iN c1] at h;by_cases c2:(Pl.firstTo (Pl.bErr n.bs) n.K).1=0
  ·rw[iN (λq=>q c2)] at h;have hb:=(Pl.firstTo_zero _ _ c2).2;have hl:=(Pl.firstTo_zero _ _ h).2;refine⟨om,om,λi hi => ?_,Pl.rightL hl,λi j hi hj e => ?_⟩
   ·have h0:=a2i (hb i hi);have ha:=a8F (hw.addr i hi);unfold Pl.brErr at h0;split at h0
    ·omega
    ·split at h0
     ·omega
     ·split at h0
      ·omega
      ·rename_i q1 q2 q3;refine⟨om,om,λt ht => ?_,Rg.wrong_zero h0⟩;have:=Pl.someTo_false (by simpa using q3) t ht;unfold Pl.oddP at this;simp only[Bool.or_eq_false_iff,Bool.not_eq_false',decide_eq_true_eq] at this;exact this.1
   ·have key:∀a b,a<b->b<n.K->(n.bs a).addr≠(n.bs b).addr:=λa b ab aa e2=>by
     have h7:=hb b aa;unfold Pl.bErr at h7;rw[iN (λq=>q (a2i (hb b aa))),iP (Pl.someTo_iff.2 ⟨a,ab,b0k e2⟩)] at h7;cases h7
    rcases Nat.lt_trichotomy i j with q | q | q
    ·exact absurd e (key i j q hj)
    ·exact q
    ·exact absurd e.symm (key j i q hi)
  ·rw[iP c2] at h;exact absurd h c2
end
section
open Go.Proofs.Tryz
open Go.RowKit
open Vc (V Of)
open Pl (En Lk Br)
open Tk (Md Mnd Cn Sc)
namespace Tk
end Tk
section
variable {W W':World}{S:Nat}{s:Sc}{G:Nat}{ve:Nat->Value}
end
section
variable {W W':World}{S:Nat}{s:Sc}{G:Nat}{ve:Nat->Value}{vE:Value}
end
end
section
open Go.Proofs.Tryz
open Go.RowKit
open Vc (V Of)
open Pl (En Lk Br)
open Tk (Md Mnd Cn Sc Dn)
namespace Tk
end Tk
section
variable {W W':World}{S:Nat}{s:Sc}{vE:Value}
end
end
section
open Go.Proofs.Tryz
open Go.RowKit
theorem a1B (w:World) (e k:Nat) (c:Nat->Nat->Value):(w.alloc (.cells #[] e)).ownsRow w.heap.size e k (.slice (some (Pv w.heap.size 0)) 0 0) 0 (a0f 0 k c) :=
 ⟨by rw[a0p],Or.inr ⟨w.heap.size,0,#[],rfl,b0g _,a9Z _ _,b0g _,Nat.zero_le _,by simp,by simp[a0f]⟩⟩
theorem a6H:(prog.info? 65).map (λi=>(i.zero,i.size,i.bytes))=some (some (.agg #[Uv 0,sN,.string ⟨#[]⟩,Iv 0,sN]),5,80):=by kernel_rfl
theorem clone_br (ao:OA) (n cap:Nat) (c:Nat->Nat->Value) (w:World) (hn:n<=100000) (hc:∀i j,(c i j).oneCell'=true) (hr:CRow w ao n cap 5 c) :
  Calls prog 155 #[.slice ao n cap] w λe w'=>∃v,e=.returned v/\w'.ownsRow w.heap.size 65 5 v n (a0f n 5 c)/\Bl w w':=by
 cases ao with
 | none =>
  obtain rfl:n=0:=by
   rcases Nat.eq_zero_or_pos n with q | q
   ·exact q
   ·obtain⟨_,_,e,_⟩:=hr.2 q;cases e
  clear hn hc hr;have he:∀w:World,(binOp .eql 22 (.slice none 0 cap) sN).run prog w=.ok (.bool true) w:=λ_=>rfl;go_enter func155,ntmps155;(go_wp2_with fail);go_ret;exact⟨_,rfl,a0y _ _ _ _ _,b0h _ _⟩
 | some ad =>
  obtain⟨X,HX⟩:=nm (w.alloc (.cells #[] 65))
  have aa:Bl w X:=(by rw[HX.o];exact bA1 _ _)
  obtain⟨a1,c1,w2,r,ho,hb,_⟩:=a0E X 22 65 _ 5 80 underlying22 a6H rfl om w.heap.size (.slice (some (Pv w.heap.size 0)) 0 0) 0 c (by rw[HX.o];exact a1B w _ _ _) (some ad) n cap c hc (CRow.below hr aa) (λh=>by cases h) (by unfold maxLen;omega) om aa.size;have e:a0f (0+n) 5 (catC 0 c c)=a0f n 5 c:=by
   rw[Nat.zero_add];apply a0k
   intro i _;simp[catC]
  rw[e,Nat.zero_add] at ho;rw[Nat.zero_add] at r;have HR:Hid _:=r;have HF:Hid (w2.ownsRow w.heap.size 65 5 (.slice a1 n c1) n (a0f n 5 c)/\Bl w w2):=⟨ho,aa.trans hb⟩
  clear r ho hb aa hr e hn hc;have he:∀w:World,(binOp .eql 22 (.slice (some ad) n cap) sN).run prog w=.ok (.bool false) w:=λ_=>rfl;go_enter func155,ntmps155;go_wp2_with (at_builtin;(try rw[<-HX.o]);refine a0a rfl (.tmp 5) (.tmp 6) 22 rfl _ _ _ rfl rfl HR.o ?_)
  go_ret;exact⟨_,rfl,HF.o⟩
theorem a6I:(prog.info? 103).map (λi=>(i.zero,i.size,i.bytes))=some (some (.agg #[Iv 0,Iv 0,Iv 0,Iv 0,Iv 0,.bool false]),6,48):=by kernel_rfl
theorem clone_lk (ao:OA) (n cap:Nat) (c:Nat->Nat->Value) (w:World) (hn:n<=100000) (hc:∀i j,(c i j).oneCell'=true) (hr:CRow w ao n cap 6 c) :
  Calls prog 156 #[.slice ao n cap] w λe w'=>∃v,e=.returned v/\w'.ownsRow w.heap.size 103 6 v n (a0f n 6 c)/\Bl w w':=by
 cases ao with
 | none =>
  obtain rfl:n=0:=by
   rcases Nat.eq_zero_or_pos n with q | q
   ·exact q
   ·obtain⟨_,_,e,_⟩:=hr.2 q;cases e
  clear hn hc hr;have he:∀w:World,(binOp .eql 23 (.slice none 0 cap) sN).run prog w=.ok (.bool true) w:=λ_=>rfl;go_enter func156,ntmps156;(go_wp2_with fail);go_ret;exact⟨_,rfl,a0y _ _ _ _ _,b0h _ _⟩
 | some ad =>
  obtain⟨X,HX⟩:=nm (w.alloc (.cells #[] 103))
  have aa:Bl w X:=(by rw[HX.o];exact bA1 _ _)
  obtain⟨a1,c1,w2,r,ho,hb,_⟩:=a0E X 23 103 _ 6 48 underlying23 a6I rfl om w.heap.size (.slice (some (Pv w.heap.size 0)) 0 0) 0 c (by rw[HX.o];exact a1B w _ _ _) (some ad) n cap c hc (CRow.below hr aa) (λh=>by cases h) (by unfold maxLen;omega) om aa.size;have e:a0f (0+n) 6 (catC 0 c c)=a0f n 6 c:=by
   rw[Nat.zero_add];apply a0k
   intro i _;simp[catC]
  rw[e,Nat.zero_add] at ho;rw[Nat.zero_add] at r;have HR:Hid _:=r;have HF:Hid (w2.ownsRow w.heap.size 103 6 (.slice a1 n c1) n (a0f n 6 c)/\Bl w w2):=⟨ho,aa.trans hb⟩
  clear r ho hb aa hr e hn hc;have he:∀w:World,(binOp .eql 23 (.slice (some ad) n cap) sN).run prog w=.ok (.bool false) w:=λ_=>rfl;go_enter func156,ntmps156;go_wp2_with (at_builtin;(try rw[<-HX.o]);refine a0a rfl (.tmp 5) (.tmp 6) 23 rfl _ _ _ rfl rfl HR.o ?_)
  go_ret;exact⟨_,rfl,HF.o⟩
theorem a8M:(prog.info? 3).map (λi=>(i.zero,i.size,i.bytes))=some (some (Iv 0),1,8):=by kernel_rfl
theorem a5o (ao:OA) (n cap:Nat) (c:Nat->Nat->Value) (w:World) (hn:n<=100000) (hc:∀i j,(c i j).oneCell'=true) (hr:CRow w ao n cap 1 c) :
  Calls prog 157 #[.slice ao n cap] w λe w'=>∃v,e=.returned v/\w'.ownsRow w.heap.size 3 1 v n (a0f n 1 c)/\Bl w w':=by
 cases ao with
 | none =>
  obtain rfl:n=0:=by
   rcases Nat.eq_zero_or_pos n with q | q
   ·exact q
   ·obtain⟨_,_,e,_⟩:=hr.2 q;cases e
  clear hn hc hr;have he:∀w:World,(binOp .eql 52 (.slice none 0 cap) sN).run prog w=.ok (.bool true) w:=λ_=>rfl;go_enter func157,ntmps157;(go_wp2_with fail);go_ret;exact⟨_,rfl,a0y _ _ _ _ _,b0h _ _⟩
 | some ad =>
  obtain⟨X,HX⟩:=nm (w.alloc (.cells #[] 3))
  have aa:Bl w X:=(by rw[HX.o];exact bA1 _ _)
  obtain⟨a1,c1,w2,r,ho,hb,_⟩:=a0E X 52 3 _ 1 8 underlying52 a8M rfl om w.heap.size (.slice (some (Pv w.heap.size 0)) 0 0) 0 c (by rw[HX.o];exact a1B w _ _ _) (some ad) n cap c hc (CRow.below hr aa) (λh=>by cases h) (by unfold maxLen;omega) om aa.size;have e:a0f (0+n) 1 (catC 0 c c)=a0f n 1 c:=by
   rw[Nat.zero_add];apply a0k
   intro i _;simp[catC]
  rw[e,Nat.zero_add] at ho;rw[Nat.zero_add] at r;have HR:Hid _:=r;have HF:Hid (w2.ownsRow w.heap.size 3 1 (.slice a1 n c1) n (a0f n 1 c)/\Bl w w2):=⟨ho,aa.trans hb⟩
  clear r ho hb aa hr e hn hc;have he:∀w:World,(binOp .eql 52 (.slice (some ad) n cap) sN).run prog w=.ok (.bool false) w:=λ_=>rfl;go_enter func157,ntmps157;go_wp2_with (at_builtin;(try rw[<-HX.o]);refine a0a rfl (.tmp 5) (.tmp 6) 52 rfl _ _ _ rfl rfl HR.o ?_)
  go_ret;exact⟨_,rfl,HF.o⟩
theorem a8N:(prog.info? 131).map (λi=>(i.zero,i.size,i.bytes))=some (some (.agg #[Iv 0,Iv 0]),2,16):=by kernel_rfl
theorem a8O (ao:OA) (n cap:Nat) (c:Nat->Nat->Value) (w:World) (hn:n<=100000) (hc:∀i j,(c i j).oneCell'=true) (hr:CRow w ao n cap 2 c) :
  Calls prog 158 #[.slice ao n cap] w λe w'=>∃v,e=.returned v/\w'.ownsRow w.heap.size 131 2 v n (a0f n 2 c)/\Bl w w':=by
 cases ao with
 | none =>
  obtain rfl:n=0:=by
   rcases Nat.eq_zero_or_pos n with q | q
   ·exact q
   ·obtain⟨_,_,e,_⟩:=hr.2 q;cases e
  clear hn hc hr;have he:∀w:World,(binOp .eql 61 (.slice none 0 cap) sN).run prog w=.ok (.bool true) w:=λ_=>rfl;go_enter func158,ntmps158;(go_wp2_with fail);go_ret;exact⟨_,rfl,a0y _ _ _ _ _,b0h _ _⟩
 | some ad =>
  obtain⟨X,HX⟩:=nm (w.alloc (.cells #[] 131))
  have aa:Bl w X:=(by rw[HX.o];exact bA1 _ _)
  obtain⟨a1,c1,w2,r,ho,hb,_⟩:=a0E X 61 131 _ 2 16 underlying61 a8N rfl om w.heap.size (.slice (some (Pv w.heap.size 0)) 0 0) 0 c (by rw[HX.o];exact a1B w _ _ _) (some ad) n cap c hc (CRow.below hr aa) (λh=>by cases h) (by unfold maxLen;omega) om aa.size;have e:a0f (0+n) 2 (catC 0 c c)=a0f n 2 c:=by
   rw[Nat.zero_add];apply a0k
   intro i _;simp[catC]
  rw[e,Nat.zero_add] at ho;rw[Nat.zero_add] at r;have HR:Hid _:=r;have HF:Hid (w2.ownsRow w.heap.size 131 2 (.slice a1 n c1) n (a0f n 2 c)/\Bl w w2):=⟨ho,aa.trans hb⟩
  clear r ho hb aa hr e hn hc;have he:∀w:World,(binOp .eql 61 (.slice (some ad) n cap) sN).run prog w=.ok (.bool false) w:=λ_=>rfl;go_enter func158,ntmps158;go_wp2_with (at_builtin;(try rw[<-HX.o]);refine a0a rfl (.tmp 5) (.tmp 6) 61 rfl _ _ _ rfl rfl HR.o ?_)
  go_ret;exact⟨_,rfl,HF.o⟩
theorem infoC_ms:(prog.info? 112).map (λi=>(i.zero,i.size,i.bytes))=some (some sN,1,24):=by kernel_rfl
theorem clone_ms (ao:OA) (n cap:Nat) (c:Nat->Nat->Value) (w:World) (hn:n<=100000) (hc:∀i j,(c i j).oneCell'=true) (hr:CRow w ao n cap 1 c) :
  Calls prog 159 #[.slice ao n cap] w λe w'=>∃v,e=.returned v/\w'.ownsRow w.heap.size 112 1 v n (a0f n 1 c)/\Bl w w':=by
 cases ao with
 | none =>
  obtain rfl:n=0:=by
   rcases Nat.eq_zero_or_pos n with q | q
   ·exact q
   ·obtain⟨_,_,e,_⟩:=hr.2 q;cases e
  clear hn hc hr;have he:∀w:World,(binOp .eql 32 (.slice none 0 cap) sN).run prog w=.ok (.bool true) w:=λ_=>rfl;go_enter func159,ntmps159;(go_wp2_with fail);go_ret;exact⟨_,rfl,a0y _ _ _ _ _,b0h _ _⟩
 | some ad =>
  obtain⟨X,HX⟩:=nm (w.alloc (.cells #[] 112))
  have aa:Bl w X:=(by rw[HX.o];exact bA1 _ _)
  obtain⟨a1,c1,w2,r,ho,hb,_⟩:=a0E X 32 112 _ 1 24 underlying32 infoC_ms rfl om w.heap.size (.slice (some (Pv w.heap.size 0)) 0 0) 0 c (by rw[HX.o];exact a1B w _ _ _) (some ad) n cap c hc (CRow.below hr aa) (λh=>by cases h) (by unfold maxLen;omega) om aa.size;have e:a0f (0+n) 1 (catC 0 c c)=a0f n 1 c:=by
   rw[Nat.zero_add];apply a0k
   intro i _;simp[catC]
  rw[e,Nat.zero_add] at ho;rw[Nat.zero_add] at r;have HR:Hid _:=r;have HF:Hid (w2.ownsRow w.heap.size 112 1 (.slice a1 n c1) n (a0f n 1 c)/\Bl w w2):=⟨ho,aa.trans hb⟩
  clear r ho hb aa hr e hn hc;have he:∀w:World,(binOp .eql 32 (.slice (some ad) n cap) sN).run prog w=.ok (.bool false) w:=λ_=>rfl;go_enter func159,ntmps159;go_wp2_with (at_builtin;(try rw[<-HX.o]);refine a0a rfl (.tmp 5) (.tmp 6) 32 rfl _ _ _ rfl rfl HR.o ?_)
  go_ret;exact⟨_,rfl,HF.o⟩
theorem infoC_mn:(prog.info? 117).map (λi=>(i.zero,i.size,i.bytes))=some (some (.agg #[Uv 0,Iv 0,Uv 0,Iv 0,Iv 0,Iv 0,sN,sN,sN]),9,120):=by kernel_rfl
theorem clone_mn (ao:OA) (n cap:Nat) (c:Nat->Nat->Value) (w:World) (hn:n<=100000) (hc:∀i j,(c i j).oneCell'=true) (hr:CRow w ao n cap 9 c) :
  Calls prog 160 #[.slice ao n cap] w λe w'=>∃v,e=.returned v/\w'.ownsRow w.heap.size 117 9 v n (a0f n 9 c)/\Bl w w':=by
 cases ao with
 | none =>
  obtain rfl:n=0:=by
   rcases Nat.eq_zero_or_pos n with q | q
   ·exact q
   ·obtain⟨_,_,e,_⟩:=hr.2 q;cases e
  clear hn hc hr;have he:∀w:World,(binOp .eql 112 (.slice none 0 cap) sN).run prog w=.ok (.bool true) w:=λ_=>rfl;go_enter func160,ntmps160;(go_wp2_with fail);go_ret;exact⟨_,rfl,a0y _ _ _ _ _,b0h _ _⟩
 | some ad =>
  obtain⟨X,HX⟩:=nm (w.alloc (.cells #[] 117))
  have aa:Bl w X:=(by rw[HX.o];exact bA1 _ _)
  obtain⟨a1,c1,w2,r,ho,hb,_⟩:=a0E X 112 117 _ 9 120 underlying112 infoC_mn rfl om w.heap.size (.slice (some (Pv w.heap.size 0)) 0 0) 0 c (by rw[HX.o];exact a1B w _ _ _) (some ad) n cap c hc (CRow.below hr aa) (λh=>by cases h) (by unfold maxLen;omega) om aa.size;have e:a0f (0+n) 9 (catC 0 c c)=a0f n 9 c:=by
   rw[Nat.zero_add];apply a0k
   intro i _;simp[catC]
  rw[e,Nat.zero_add] at ho;rw[Nat.zero_add] at r;have HR:Hid _:=r;have HF:Hid (w2.ownsRow w.heap.size 117 9 (.slice a1 n c1) n (a0f n 9 c)/\Bl w w2):=⟨ho,aa.trans hb⟩
  clear r ho hb aa hr e hn hc;have he:∀w:World,(binOp .eql 112 (.slice (some ad) n cap) sN).run prog w=.ok (.bool false) w:=λ_=>rfl;go_enter func160,ntmps160;go_wp2_with (at_builtin;(try rw[<-HX.o]);refine a0a rfl (.tmp 5) (.tmp 6) 112 rfl _ _ _ rfl rfl HR.o ?_)
  go_ret;exact⟨_,rfl,HF.o⟩
end
section
open Go.Proofs.Tryz
open Go.RowKit
open Vc (V Of)
open Pl (En Lk Br Net)
open Tk (Md Mnd Cn Sc Dn)
namespace Tk
end Tk
section
variable {W W':World}{base K T:Nat}{pts:Nat->List Int}{ms:Nat->Nat->Mnd}{t x:Nat}{vo:Value}{vt iv vt0 iv0:Nat->Value}
end
