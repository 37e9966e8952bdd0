/- YW4 -/
import Derived.Test.YtelebnancdjjiaaGreatDoorE13
set_option maxRecDepth 100000
set_option maxHeartbeats 40000000
namespace Go.Proofs.YtelebnancdjjiaaGreatDoor
section
open Go.Proofs.Tryz Go.RowKit
open Bk(E at')
open Rl(G gat F O)
structure Snd (W:World) (f:F) (way:Int) (Bt Bw Bp Bf:Nat):Prop where
 t:W.heap[Bt]?=some (.cells #[Uv f.dst,Uv f.src,.bool true,Iv (if f.tagged=true then f.prio else 0),.bool (f.tagged&&f.drop),Iv way,Iv f.type,sN] 31)
 w:W.heap[Bw]?=some (.cells #[Iv way] 3)
 p:W.heap[Bp]?=some (.cells #[Uv f.dst,Uv f.src,.bool false,Iv 0,.bool false,Iv 0,Iv f.type,sN] 31)
 f:W.heap[Bf]?=some (.cells #[Uv f.dst,Uv f.src,.bool f.tagged,Iv f.prio,.bool f.drop,Iv f.vid,Iv f.type,.slice f.ao f.n f.cap] 31)
theorem Snd.below {W W':World}{f:F}{aa:Int}{Bt Bw Bp Bf:Nat}(h:Snd W f aa Bt Bw Bp Bf) (hb:Bl W W'):Snd W' f aa Bt Bw Bp Bf:=⟨keep h.t hb,keep h.w hb,keep h.p hb,keep h.f hb⟩
theorem alloc4y (w:World) (A B C D:Obj):((((w.alloc A).alloc B).alloc C).alloc D).heap[w.heap.size]?=some A/\((((w.alloc A).alloc B).alloc C).alloc D).heap[w.heap.size+1]?=some B/\((((w.alloc A).alloc B).alloc C).alloc D).heap[w.heap.size+1+1]?=some C/\((((w.alloc A).alloc B).alloc C).alloc D).heap[w.heap.size+1+1+1]?=some D/\Bl w ((((w.alloc A).alloc B).alloc C).alloc D):=by
 obtain⟨h1,h2,h3,h4⟩:=a1x w A B C;have hb:=bA1 (((w.alloc A).alloc B).alloc C) D;refine⟨keep h1 hb,keep h2 hb,keep h3 hb,?_,h4.trans (hb.mono h4.size)⟩;have:=a9Z (((w.alloc A).alloc B).alloc C) D;simpa using this
theorem a7I (f:F) (aa:Int) (w:World) :
  Calls prog 94 #[.agg #[Uv f.dst,Uv f.src,.bool f.tagged,Iv f.prio,.bool f.drop,Iv f.vid,Iv f.type,.slice f.ao f.n f.cap],Iv aa] w λe w'=>e=.returned (.func (.func 133) #[] #[.pointer (some (Pv (w.heap.size+1+1+1) 0)),.pointer (some (Pv (w.heap.size+1) 0)),.pointer (some (Pv (w.heap.size+1+1) 0)),.pointer (some (Pv w.heap.size 0))])/\Snd w' f aa (w.heap.size+1+1+1) (w.heap.size+1) (w.heap.size+1+1) w.heap.size/\Bl w w':=by
 have H4:Hid (∀A B C D:Obj,_):=alloc4y w;by_cases ht:f.tagged=true
 ·have HS:Hid (∀W:World,W.heap[w.heap.size+1+1+1]?=some (.cells #[Uv f.dst,Uv f.src,.bool true,Iv f.prio,.bool f.drop,Iv aa,Iv f.type,sN] 31)->W.heap[w.heap.size+1]?=some (.cells #[Iv aa] 3)->W.heap[w.heap.size+1+1]?=some (.cells #[Uv f.dst,Uv f.src,.bool false,Iv 0,.bool false,Iv 0,Iv f.type,sN] 31)->W.heap[w.heap.size]?=some (.cells #[Uv f.dst,Uv f.src,.bool f.tagged,Iv f.prio,.bool f.drop,Iv f.vid,Iv f.type,.slice f.ao f.n f.cap] 31)->Snd W f aa (w.heap.size+1+1+1) (w.heap.size+1) (w.heap.size+1+1) w.heap.size):=λW h1 h2 h3 h4=>⟨by rw[iP ht,ht,Bool.true_and];exact h1,h2,h3,h4⟩
  go_enter func94,ntmps94;(go_wp2_with fail);go_region
  (all_goals go_wp2_with fail);all_goals go_region
  (all_goals go_wp2_with fail);(all_goals go_ret);all_goals obtain⟨h1,h2,h3,h4,h5⟩:=H4.o _ _ _ _
  all_goals exact⟨rfl,HS.o _ (by first | exact h4 | (rw[ht] at h4;exact h4)) h2 h3 (by first | exact h1 | (rw[ht];exact h1)),by first | exact h5.drew.drew | exact a0d h5 _⟩
 ·have hf:f.tagged=false:=(by simpa using ht)
  have HS:Hid (∀W:World,W.heap[w.heap.size+1+1+1]?=some (.cells #[Uv f.dst,Uv f.src,.bool true,Iv 0,.bool false,Iv aa,Iv f.type,sN] 31)->W.heap[w.heap.size+1]?=some (.cells #[Iv aa] 3)->W.heap[w.heap.size+1+1]?=some (.cells #[Uv f.dst,Uv f.src,.bool false,Iv 0,.bool false,Iv 0,Iv f.type,sN] 31)->W.heap[w.heap.size]?=some (.cells #[Uv f.dst,Uv f.src,.bool f.tagged,Iv f.prio,.bool f.drop,Iv f.vid,Iv f.type,.slice f.ao f.n f.cap] 31)->Snd W f aa (w.heap.size+1+1+1) (w.heap.size+1) (w.heap.size+1+1) w.heap.size):=λW h1 h2 h3 h4=>⟨by rw[iN ht,hf,Bool.false_and];exact h1,h2,h3,h4⟩
  clear ht;go_enter func94,ntmps94;(go_wp2_with fail);go_region
  (all_goals go_wp2_with fail);(all_goals go_ret);all_goals obtain⟨h1,h2,h3,h4,h5⟩:=H4.o _ _ _ _
  all_goals exact⟨rfl,HS.o _ h4 h2 h3 (by first | exact h1 | (rw[hf];exact h1)),by first | exact h5.drew | exact a0d h5 _⟩
theorem a4f (w:World) (base:Nat) (bs:Nat->Int):w.ownsRow base 5 1 sN 0 (a0e 0 bs):=⟨by simp[a0e],Or.inl ⟨rfl,rfl⟩⟩
theorem a7J (ao:OA) (n c:Nat) (bs:Nat->Int) (w:World) (hr:ByteRow w ao n c bs) (aa:ao=none->n=0/\c=0) (hn:n<=140737488355328) :
  Calls prog 134 #[.slice ao n c] w λe w'=>∃v,e=.returned v/\w'.ownsRow w.heap.size 5 1 v n (a0e n bs)/\Bl w w':=by
 have HR:Hid (ByteRow w ao n c bs):=hr;clear hr;cases ao with
 | none =>
  obtain⟨rfl,rfl⟩:=aa rfl;have he:∀w:World,(binOp .eql 29 sN sN).run prog w=.ok (.bool true) w:=λ_=>by kernel_rfl
  go_enter func134,ntmps134;(go_wp2_with fail);go_ret;exact⟨_,rfl,a4f _ _ _,b0h _ _⟩
 | some ad =>
  clear aa;have ab:Hid (ByteRow (w.alloc (.cells #[] 5)) (some ad) n c bs):=HR.o.below (bA1 w _);have HO:Hid ((w.alloc (.cells #[] 5)).ownsRow w.heap.size 5 1 (.slice (some (Pv w.heap.size 0)) 0 0) 0 []):=a4k w;have he:∀w:World,(binOp .eql 29 (.slice (some ad) n c) sN).run prog w=.ok (.bool false) w:=λ_=>by kernel_rfl
  go_enter func134,ntmps134;go_wp2_with (at_builtin;refine a0N rfl (.tmp 5) (.tmp 6) rfl w.heap.size _ 0 [] rfl HO.o (some ad) n c bs rfl ab.o (λe=>by cases e) om (by simp) ?_;intro v1 w1 h1 h2;have HG:Hid (Bl w w1):=a3F (bA1 w _) HO.o (by simp) h2;clear h2;rw[Nat.zero_add,List.nil_append] at h1;have H1:Hid (w1.ownsRow w.heap.size 5 1 v1 n (a0e n bs)):=h1;clear h1)
  go_ret;exact⟨v1,rfl,H1.o,HG.o⟩
theorem a9c {w:World}{g:Nat}{a0 a1 a2 a3 a4 a5 a6 a7 v0 v1 v2 v3 v4 v5 v6 v7:Value}{ty:TypeId}(h:w.heap[g]?=some (.cells #[a0,a1,a2,a3,a4,a5,a6,a7] ty (0,0))) :
  ((((((((w.setCell (Pv g 0) v0).setCell (Pv g 1) v1).setCell (Pv g 2) v2).setCell (Pv g 3) v3).setCell (Pv g 4) v4).setCell (Pv g 5) v5).setCell (Pv g 6) v6).setCell (Pv g 7) v7).heap[g]?=some (.cells #[v0,v1,v2,v3,v4,v5,v6,v7] ty (0,0)):=by
 have h0:(w.setCell (Pv g 0) v0).heap[g]?=some (.cells #[v0,a1,a2,a3,a4,a5,a6,a7] ty (0,0)):=(by rw[b0e _ _ _ _ _ _ h];rfl)
 have h1:((w.setCell (Pv g 0) v0).setCell (Pv g 1) v1).heap[g]?=some (.cells #[v0,v1,a2,a3,a4,a5,a6,a7] ty (0,0)):=(by rw[b0e _ _ _ _ _ _ h0];rfl)
 have h2:(((w.setCell (Pv g 0) v0).setCell (Pv g 1) v1).setCell (Pv g 2) v2).heap[g]?=some (.cells #[v0,v1,v2,a3,a4,a5,a6,a7] ty (0,0)):=(by rw[b0e _ _ _ _ _ _ h1];rfl)
 have h3:((((w.setCell (Pv g 0) v0).setCell (Pv g 1) v1).setCell (Pv g 2) v2).setCell (Pv g 3) v3).heap[g]?=some (.cells #[v0,v1,v2,v3,a4,a5,a6,a7] ty (0,0)):=(by rw[b0e _ _ _ _ _ _ h2];rfl)
 have h4:(((((w.setCell (Pv g 0) v0).setCell (Pv g 1) v1).setCell (Pv g 2) v2).setCell (Pv g 3) v3).setCell (Pv g 4) v4).heap[g]?=some (.cells #[v0,v1,v2,v3,v4,a5,a6,a7] ty (0,0)):=(by rw[b0e _ _ _ _ _ _ h3];rfl)
 have h5:((((((w.setCell (Pv g 0) v0).setCell (Pv g 1) v1).setCell (Pv g 2) v2).setCell (Pv g 3) v3).setCell (Pv g 4) v4).setCell (Pv g 5) v5).heap[g]?=some (.cells #[v0,v1,v2,v3,v4,v5,a6,a7] ty (0,0)):=(by rw[b0e _ _ _ _ _ _ h4];rfl)
 have h6:(((((((w.setCell (Pv g 0) v0).setCell (Pv g 1) v1).setCell (Pv g 2) v2).setCell (Pv g 3) v3).setCell (Pv g 4) v4).setCell (Pv g 5) v5).setCell (Pv g 6) v6).heap[g]?=some (.cells #[v0,v1,v2,v3,v4,v5,v6,a7] ty (0,0)):=(by rw[b0e _ _ _ _ _ _ h5];rfl)
 rw[b0e _ _ _ _ _ _ h6];rfl
theorem sizeFr:(prog.info? 31).map (·.size)=some 8:=by kernel_rfl
theorem sent_end (w w1:World) {ao:OA}{n c:Nat}{bs:Nat->Int}(ho:w1.ownsRow w.heap.size 5 1 (.slice ao n c) n (a0e n bs)) (g1 g2:Nat) {c1 c2:Array Value}(k1:w1.heap[g1]?=some (.cells c1 31)) (k2:w1.heap[g2]?=some (.cells c2 31)) (W:World) (hW:∀q,q≠g1->q≠g2->W.heap[q]?=w1.heap[q]?) :
  W.ownsRow w.heap.size 5 1 (.slice ao n c) n (a0e n bs):=by
 refine a0A ho (λq hq=>hW q ?_ ?_)
 ·rintro rfl;obtain⟨aa,h⟩:=a0z ho hq;rw[h] at k1;injection k1 with k1;injection k1 with _ k1;exact absurd k1 dd
 ·rintro rfl;obtain⟨aa,h⟩:=a0z ho hq;rw[h] at k2;injection k2 with k2;injection k2 with _ k2;exact absurd k2 dd
theorem a6f (f:F) (aa:Int) (g:G) (Bt Bw Bp Bf:Nat) (w:World) (hs:Snd w f aa Bt Bw Bp Bf) (hd:ByteRow w f.ao f.n f.cap f.bs) (ae:a0s f.ao f.n f.cap) (hn:f.n<=1500) :
  Calls prog 133 #[.agg #[Iv g.port,.slice g.wo g.ways.length g.wcap,Iv g.plain,.slice g.oo g.opens.length g.ocap],.pointer (some (Pv Bt 0)),.pointer (some (Pv Bw 0)),.pointer (some (Pv Bp 0)),.pointer (some (Pv Bf 0))] w λe w'=>∃a c,e=.returned (.agg #[Uv f.dst,Uv f.src,.bool (Rl.leave f aa g).tagged,Iv (Rl.leave f aa g).prio,.bool (Rl.leave f aa g).drop,Iv (Rl.leave f aa g).vid,Iv f.type,.slice a f.n c])/\w'.ownsRow w.heap.size 5 1 (.slice a f.n c) f.n (a0e f.n f.bs)/\Bl w w':=by
 obtain⟨s0,s1,s2,s3,s4,s5,s6,s7⟩:=a0U hs.t;obtain⟨p0,p1,p2,p3,p4,p5,p6,p7⟩:=a0U hs.p;obtain⟨_,_,_,_,_,_,_,q7⟩:=a0U hs.f;have cw:w.cell? (Pv Bw 0)=some (Iv aa):=a9Y w Bw 0 _ _ _ hs.w;have l1:Bt<w.heap.size:=b0r s0;have l2:Bp<w.heap.size:=b0r p0;have l3:Bf<w.heap.size:=b0r q7;have l4:Bw<w.heap.size:=b0r cw;have af:Hid (∀A B C:Obj,Calls prog 134 #[.slice f.ao f.n f.cap] (((w.alloc A).alloc B).alloc C) λe w'=>∃a c,e=.returned (.slice a f.n c)/\Hid (w'.ownsRow w.heap.size 5 1 (.slice a f.n c) f.n (a0e f.n f.bs)/\Bl w w')/\Hid (w'.heap[w.heap.size+1]?=some B/\w'.heap[w.heap.size+1+1]?=some C)):=λA B C=>by
  obtain⟨h1,h2,h3,h4⟩:=a1x w A B C;refine(a7J f.ao f.n f.cap f.bs _ (hd.below h4) ae om).mono ?_;rintro e w' ⟨v,rfl,ho,hb⟩;obtain⟨a,c,rfl,_⟩:=a2n ho;exact⟨a,c,rfl,⟨a0v ho h4.size,h4.trans (hb.mono h4.size)⟩,keep h2 hb,keep h3 hb⟩
 have ad:Hid (∀(w1:World) (a:OA) (c:Nat) (B1 C1:Array Value),(w1.ownsRow w.heap.size 5 1 (.slice a f.n c) f.n (a0e f.n f.bs)/\Bl w w1)->w1.heap[w.heap.size+1]?=some (.cells B1 31)->w1.heap[w.heap.size+1+1]?=some (.cells C1 31)->∀W:World,(∀q,q≠w.heap.size+1->q≠w.heap.size+1+1->W.heap[q]?=w1.heap[q]?)->W.ownsRow w.heap.size 5 1 (.slice a f.n c) f.n (a0e f.n f.bs)):=λw1 a c B1 C1 h1 k1 k2 W hW=>sent_end w w1 h1.1 _ _ k1 k2 W hW;have ah:Hid (g.plain=aa->Rl.leave f aa g=⟨g.port,false,0,false,0⟩):=λh=>iP h;have ai:Hid (g.plain≠aa->Rl.leave f aa g=⟨g.port,true,if f.tagged=true then f.prio else 0,f.tagged&&f.drop,aa⟩):=λh=>iN h;clear hs hd ae;have m4:Bw<w.heap.size+1+1:=om
 have m3:Bf<w.heap.size+1+1:=om
 have m2:Bp<w.heap.size+1+1:=om
 have n4:Bw≠w.heap.size+1+1:=om
 have n3:Bf≠w.heap.size+1+1:=om
 have n2:Bp≠w.heap.size+1+1:=om
 generalize (if f.tagged=true then f.prio else 0)=pr at *;generalize (f.tagged&&f.drop)=dr at *;by_cases hp:g.plain=aa
 ·have e1:(g.plain == aa)=true:=(by simp[hp])
  rw[ah.o hp];clear ah ai hp;go_enter func133,ntmps133;(go_wp2_with fail);refine(af.o _ _ _).mono ?_;rintro e w1 ⟨a,c,rfl,H1,H2⟩;obtain⟨B1,ac⟩:=nm (w.heap.size+1)
  obtain⟨B2,ab⟩:=nm (w.heap.size+1+1)
  have ag:B1≠B2:=(by have:=ac.o;have:=ab.o;omega)
  have h2:=H2.o;have hf:=ad.o w1 a c _ _ H1.o h2.1 h2.2;rw[<-ab.o,<-ac.o] at h2 hf;have HF:Hid (∀W:World,(∀q,q≠B1->q≠B2->W.heap[q]?=w1.heap[q]?)->W.ownsRow w.heap.size 5 1 (.slice a f.n c) f.n (a0e f.n f.bs)):=hf;have HK:Hid (w.heap.size<=B1/\w.heap.size<=B2):=(by have:=ac.o;have:=ab.o;exact⟨om,om⟩)
  obtain⟨o0,o1,o2,o3,o4,o5,o6,o7⟩:=a0U h2.2;obtain⟨z0,z1,z2,z3,z4,z5,z6,z7⟩:=a4R h2.2;obtain⟨r0,r1,r2,r3,r4,r5,r6,r7⟩:=a0U h2.1;obtain⟨y0,y1,y2,y3,y4,y5,y6,y7⟩:=a4R h2.1;have H3:Hid (w1.heap[B1]?=some (.cells #[Uv 0,Uv 0,.bool false,Iv 0,.bool false,Iv 0,Iv 0,sN] 31)):=h2.1;clear s0 s1 s2 s3 s4 s5 s6 s7 p0 p1 p2 p3 p4 p5 p6 p7 q7 cw l1 l2 l3 l4 af m2 m3 m4 n2 n3 n4 H2 h2 hf ad;rw[<-ab.o,<-ac.o];clear ac ab;(go_wp2_with fail);refine b0b (v:=.agg #[Uv f.dst,Uv f.src,.bool false,Iv 0,.bool false,Iv 0,Iv f.type,.slice a f.n c]) (a0b (p:=6) (ty:=31) results133 _ _ B1 31 #[Uv f.dst,Uv f.src,.bool false,Iv 0,.bool false,Iv 0,Iv f.type,.slice a f.n c] (0,0) _ rfl (a9c (by rw[b0f _ _ _ _ (by exact ag)];exact H3.o)) underlying31 rfl (by rw[sizeFr];rfl)) rfl ⟨a,c,rfl,HF.o _ (λq n1 n2 => ?_),?_⟩
  ·rw[b0f _ _ _ _ (by exact n1),b0f _ _ _ _ (by exact n1),b0f _ _ _ _ (by exact n1),b0f _ _ _ _ (by exact n1),b0f _ _ _ _ (by exact n1),b0f _ _ _ _ (by exact n1),b0f _ _ _ _ (by exact n1),b0f _ _ _ _ (by exact n1),b0f _ _ _ _ (by exact n2)]
  ·exact((((((((H1.o.2.setCell HK.o.2 _).setCell HK.o.1 _).setCell HK.o.1 _).setCell HK.o.1 _).setCell HK.o.1 _).setCell HK.o.1 _).setCell HK.o.1 _).setCell HK.o.1 _).setCell HK.o.1 _
 ·have e1:(g.plain == aa)=false:=(by simpa using hp)
  rw[ai.o hp];clear ah ai hp;go_enter func133,ntmps133;(go_wp2_with fail);refine(af.o _ _ _).mono ?_;rintro e w1 ⟨a,c,rfl,H1,H2⟩;obtain⟨B1,ac⟩:=nm (w.heap.size+1)
  obtain⟨B2,ab⟩:=nm (w.heap.size+1+1)
  have ag:B1≠B2:=(by have:=ac.o;have:=ab.o;omega)
  have h2:=H2.o;have hf:=ad.o w1 a c _ _ H1.o h2.1 h2.2;rw[<-ab.o,<-ac.o] at h2 hf;have HF:Hid (∀W:World,(∀q,q≠B1->q≠B2->W.heap[q]?=w1.heap[q]?)->W.ownsRow w.heap.size 5 1 (.slice a f.n c) f.n (a0e f.n f.bs)):=hf;have HK:Hid (w.heap.size<=B1/\w.heap.size<=B2):=(by have:=ac.o;have:=ab.o;exact⟨om,om⟩)
  obtain⟨o0,o1,o2,o3,o4,o5,o6,o7⟩:=a0U h2.2;obtain⟨z0,z1,z2,z3,z4,z5,z6,z7⟩:=a4R h2.2;obtain⟨r0,r1,r2,r3,r4,r5,r6,r7⟩:=a0U h2.1;obtain⟨y0,y1,y2,y3,y4,y5,y6,y7⟩:=a4R h2.1;have H3:Hid (w1.heap[B1]?=some (.cells #[Uv 0,Uv 0,.bool false,Iv 0,.bool false,Iv 0,Iv 0,sN] 31)):=h2.1;clear s0 s1 s2 s3 s4 s5 s6 s7 p0 p1 p2 p3 p4 p5 p6 p7 q7 cw l1 l2 l3 l4 af m2 m3 m4 n2 n3 n4 H2 h2 hf ad;rw[<-ab.o,<-ac.o];clear ac ab;(go_wp2_with fail);refine b0b (v:=.agg #[Uv f.dst,Uv f.src,.bool true,Iv pr,.bool dr,Iv aa,Iv f.type,.slice a f.n c]) (a0b (p:=6) (ty:=31) results133 _ _ B1 31 #[Uv f.dst,Uv f.src,.bool true,Iv pr,.bool dr,Iv aa,Iv f.type,.slice a f.n c] (0,0) _ rfl (a9c (by rw[b0f _ _ _ _ (by exact ag)];exact H3.o)) underlying31 rfl (by rw[sizeFr];rfl)) rfl ⟨a,c,rfl,HF.o _ (λq n1 n2 => ?_),?_⟩
  ·rw[b0f _ _ _ _ (by exact n1),b0f _ _ _ _ (by exact n1),b0f _ _ _ _ (by exact n1),b0f _ _ _ _ (by exact n1),b0f _ _ _ _ (by exact n1),b0f _ _ _ _ (by exact n1),b0f _ _ _ _ (by exact n1),b0f _ _ _ _ (by exact n1),b0f _ _ _ _ (by exact n2)]
  ·exact((((((((H1.o.2.setCell HK.o.2 _).setCell HK.o.1 _).setCell HK.o.1 _).setCell HK.o.1 _).setCell HK.o.1 _).setCell HK.o.1 _).setCell HK.o.1 _).setCell HK.o.1 _).setCell HK.o.1 _
structure OV where
 o:O
 da:OA
 dc:Nat
def ov0:OV:=⟨⟨0,false,0,false,0⟩,none,0⟩
def oat (l:List OV) (i:Nat):OV:=l.getD i ov0
theorem a4S (l:List OV) (i:Nat) (h:i<l.length):oat l i=l[i]:=by simp[oat,h]
theorem a4T (l:List OV) (i:Nat) (h:i<l.length):oat l i∈l:=by rw[a4S l i h];exact List.getElem_mem h
theorem oat_left (l m:List OV) (i:Nat) (h:i<l.length):oat (l++m) i=oat l i:=by
 simp[oat,h,List.getElem?_append_left]
theorem a9d (l m:List OV) (i:Nat) (h:l.length<=i):oat (l++m) i=oat m (i-l.length):=by
 simp[oat,h,List.getElem?_append_right]
def oA (f:F) (x:OV):Array Value:=#[Iv x.o.port,Uv f.dst,Uv f.src,.bool x.o.tagged,Iv x.o.prio,.bool x.o.drop,Iv x.o.vid,Iv f.type,.slice x.da f.n x.dc]
def oC (f:F) (x:OV) (j:Nat):Value:=(oA f x).getD j (Iv 0)
theorem oC_one (f:F) (x:OV) (j:Nat):(oC f x j).oneCell'=true:=by
 unfold oC oA;by_cases h:j<9
 ·rcases(by omega:j=0\/j=1\/j=2\/j=3\/j=4\/j=5\/j=6\/j=7\/j=8) with e | e | e | e | e | e | e | e | e<;>subst e<;>rfl
 ·simp[h];rfl
theorem infoO:(prog.info? 101).map (λi=>(i.zero,i.size,i.bytes))=some (some (.agg #[Iv 0,Uv 0,Uv 0,.bool false,Iv 0,.bool false,Iv 0,Iv 0,sN]),9,88):=by kernel_rfl
structure OwnO (w:World) (base:Nat) (v:Value) (f:F) (l:List OV):Prop where
 row:w.ownsRow base 101 9 v l.length (a0f l.length 9 (λi=>oC f (oat l i)))
 data:∀x∈l,w.ownsRow base 5 1 (.slice x.da f.n x.dc) f.n (a0e f.n f.bs)
theorem OwnO.below {w w':World}{base:Nat}{v:Value}{f:F}{l:List OV}(h:OwnO w base v f l) (hb:Bl w w'):OwnO w' base v f l:=⟨a0h h.row hb,λx hx=>a0h (h.data x hx) hb⟩
theorem OwnO.mono {w:World}{base aa:Nat}{v:Value}{f:F}{l:List OV}(h:OwnO w base v f l) (hb:aa<=base):OwnO w aa v f l:=⟨a0v h.row hb,λx hx=>a0v (h.data x hx) hb⟩
theorem OwnO.nil (w:World) (base:Nat) (f:F):OwnO w base sN f []:=⟨a0y w base _ _ _,λx h=>by simp at h⟩
structure ORw (w:World) (ao:OA) (cap:Nat) (f:F) (l:List OV):Prop where
 row:CRow w ao l.length cap 9 (λi=>oC f (oat l i))
 data:∀x∈l,ByteRow w x.da f.n x.dc f.bs/\a0s x.da f.n x.dc
theorem ORw.below {w w':World}{ao:OA}{cap:Nat}{f:F}{l:List OV}(h:ORw w ao cap f l) (hb:Bl w w'):ORw w' ao cap f l:=⟨h.row.below hb,λx hx=>⟨(h.data x hx).1.below hb,(h.data x hx).2⟩⟩
theorem OwnO.el {w:World}{base:Nat}{v:Value}{f:F}{l:List OV}(h:OwnO w base v f l):∃ao cap,v=.slice ao l.length cap/\ORw w ao cap f l/\a0s ao l.length cap:=by
 obtain⟨ao,cap,rfl,h1,h2,_⟩:=a0W om h.row;refine⟨ao,cap,rfl,⟨h1,λx hx => ?_⟩,h2⟩;obtain⟨ab,aa,e,h3,_,h4,_⟩:=a2n (h.data x hx);injection e with e1 _ e2;subst e1 e2;exact⟨h3,h4⟩
theorem ORw.place {w:World}{ao:OA}{cap:Nat}{f:F}{l:List OV}(h:ORw w ao cap f l) (hn:0<l.length):∃b off,ao=.some ⟨b,off,.none⟩/\b<w.heap.size:=by
 obtain⟨b,off,e,hb,_⟩:=h.row.2 hn;exact⟨b,off,e,hb⟩
theorem ORw.cells {w:World}{b off cap:Nat}{f:F}{l:List OV}(h:ORw w (some (Pv b off)) cap f l) {i:Nat}(hi:i<l.length) :
  w.cell? (Pv b (off+i*9))=some (Iv (oat l i).o.port)/\w.cell? (Pv b (off+i*9+1))=some (Uv f.dst)/\w.cell? (Pv b (off+i*9+2))=some (Uv f.src)/\w.cell? (Pv b (off+i*9+3))=some (.bool (oat l i).o.tagged)/\w.cell? (Pv b (off+i*9+4))=some (Iv (oat l i).o.prio)/\w.cell? (Pv b (off+i*9+5))=some (.bool (oat l i).o.drop)/\w.cell? (Pv b (off+i*9+6))=some (Iv (oat l i).o.vid)/\w.cell? (Pv b (off+i*9+7))=some (Iv f.type)/\w.cell? (Pv b (off+i*9+8))=some (.slice (oat l i).da f.n (oat l i).dc):=by
 obtain⟨b',aa,e,_,hc⟩:=h.row.2 om;cases e
 exact⟨hc i hi 0 om,hc i hi 1 om,hc i hi 2 om,hc i hi 3 om,hc i hi 4 om,hc i hi 5 om,hc i hi 6 om,hc i hi 7 om,hc i hi 8 om⟩
theorem a9e {w:World}{g:Nat}{f:F}{x:OV}{ty:TypeId}(h:w.heap[g]?=some (.cells (oA f x) ty (0,0))):CRow w (some (Pv g 0)) 1 1 9 (λ_=>oC f x):=by
 refine⟨b0g _,λ_=>⟨g,0,rfl,(gSm.1 h).1,λi hi j hj => ?_⟩⟩;obtain rfl:i=0:=om
 rcases(by omega:j=0\/j=1\/j=2\/j=3\/j=4\/j=5\/j=6\/j=7\/j=8) with e | e | e | e | e | e | e | e | e<;>subst e
 ·exact a9Y w g 0 _ _ _ h
 ·exact a9Y w g 1 _ _ _ h
 ·exact a9Y w g 2 _ _ _ h
 ·exact a9Y w g 3 _ _ _ h
 ·exact a9Y w g 4 _ _ _ h
 ·exact a9Y w g 5 _ _ _ h
 ·exact a9Y w g 6 _ _ _ h
 ·exact a9Y w g 7 _ _ _ h
 ·exact a9Y w g 8 _ _ _ h
abbrev a2s (v x:Value) (w:World) (v':Value) (w':World):Prop:=(Builtin.append_ #[97,97] 97 #[v,x]).run prog w=.ok v' w'
theorem more_o (base:Nat) (W:World) (v:Value) (f:F) (l:List OV) (x:OV) (ho:OwnO W base v f l) (hx:W.ownsRow base 5 1 (.slice x.da f.n x.dc) f.n (a0e f.n f.bs)) (hl:l.length<=1000) (aa:base<=W.heap.size) :
  ∃a m c W2,a2s v (.slice (some (Pv W.heap.size 0)) 1 1) (W.alloc (.cells (oA f x) 101)) (.slice a m c) W2/\m=(l++[x]).length/\OwnO W2 base (.slice a m c) f (l++[x])/\Below base W W2/\(∀(q:Nat) (ad:Array Value) (ty:TypeId),W.heap[q]?=some (Obj.cells ad ty (0,0))->ty≠101->W2.heap[q]?=some (Obj.cells ad ty (0,0))):=by
 have ab:=bA1 W (.cells (oA f x) 101);have ac:=ho.below ab;have ah:=a0h hx ab;obtain⟨a1,c1,w',r,o,b,q⟩:=a0E (W.alloc (.cells (oA f x) 101)) 97 101 _ 9 88 underlying97 infoO rfl om base v l.length _ ac.row (some (Pv W.heap.size 0)) 1 1 (λ_=>oC f x) (λ_ _=>oC_one _ _ _) (a9e (a9Z W _)) (λh=>by cases h) (by unfold maxLen;omega) om (by have:=ab.size;omega);have e:l.length+1=(l++[x]).length:=(by simp)
 refine⟨a1,_,c1,w',r,e,⟨?_,?_⟩,(ab.mono aa).trans b,λg ad ty hg ag => ?_⟩;rotate_left 2
 ·have ae:=keep hg ab;refine(q g (gSm.1 ae).1 (λhv => ?_)).trans ae;obtain⟨c2,h2⟩:=a0z ac.row hv.symm;rw[ae] at h2;injection h2 with h2;injection h2 with _ h2;exact ag h2
 ·rw[e] at o ⊢;rw[a0k _ 9 _ (λi=>oC f (oat (l++[x]) i))] at o
  ·exact o
  ·intro i hi;unfold catC;by_cases h:i<l.length
   ·rw[iP h,oat_left l _ i h]
   ·have af:i=l.length:=(by simp at hi;omega)
    subst af;rw[iN om,a9d l _ _ (b0g _),Nat.sub_self];rfl
 ·have hk:∀y:OV,(W.alloc (.cells (oA f x) 101)).ownsRow base 5 1 (.slice y.da f.n y.dc) f.n (a0e f.n f.bs)->w'.ownsRow base 5 1 (.slice y.da f.n y.dc) f.n (a0e f.n f.bs):=λy hy=>by
   refine a0A hy (λp hp=>q p (oCb hy p hp).2 ?_);have:=a7q hy ac.row dd hp;exact λh=>this h.symm
  intro y hy;rcases List.mem_append.1 hy with h | h
  ·exact hk y (ac.data y h)
  ·have:y=x:=by simpa using h
   subst this;exact hk y ah
theorem sent_any (ao:OA) (cap:Nat) (l:List G) (P1 P2 P3 P4 Bt Bw Bp Bf:Nat) (p:G->Bool) (f:F) (aa:Int) (w:World) (hn:l.length<=31) (hr:GRow w ao cap l)
  (hl:∀W,Bl w W->∀g∈l,Calls prog 92 #[.agg #[Iv g.port,.slice g.wo g.ways.length g.wcap,Iv g.plain,.slice g.oo g.opens.length g.ocap],.pointer (some (Pv P1 0)),.pointer (some (Pv P2 0)),.pointer (some (Pv P3 0)),.pointer (some (Pv P4 0))] W λe w'=>e=.returned (.bool (p g))/\Bl W w')
  (hs:∀W,Bl w W->∀g:G,Calls prog 133 #[.agg #[Iv g.port,.slice g.wo g.ways.length g.wcap,Iv g.plain,.slice g.oo g.opens.length g.ocap],.pointer (some (Pv Bt 0)),.pointer (some (Pv Bw 0)),.pointer (some (Pv Bp 0)),.pointer (some (Pv Bf 0))] W λe w'=>∃a c,e=.returned (.agg #[Uv f.dst,Uv f.src,.bool (Rl.leave f aa g).tagged,Iv (Rl.leave f aa g).prio,.bool (Rl.leave f aa g).drop,Iv (Rl.leave f aa g).vid,Iv f.type,.slice a f.n c])/\w'.ownsRow W.heap.size 5 1 (.slice a f.n c) f.n (a0e f.n f.bs)/\Bl W w') :
  Calls prog 93 #[.slice ao l.length cap,.func (.func 92) #[] #[.pointer (some (Pv P1 0)),.pointer (some (Pv P2 0)),.pointer (some (Pv P3 0)),.pointer (some (Pv P4 0))],.func (.func 133) #[] #[.pointer (some (Pv Bt 0)),.pointer (some (Pv Bw 0)),.pointer (some (Pv Bp 0)),.pointer (some (Pv Bf 0))]] w λe w'=>∃v os,e=.returned v/\os.map OV.o=(l.filter p).map (Rl.leave f aa)/\OwnO w' w.heap.size v f os/\Bl w w':=by
 have aw:l.length<=cap:=hr.row.1;have HR:Hid (∀W,Bl w W->GRow W ao cap l):=λW hW=>hr.below hW;have HL:Hid (∀W,Bl w W->∀g∈l,Calls prog 92 #[.agg #[Iv g.port,.slice g.wo g.ways.length g.wcap,Iv g.plain,.slice g.oo g.opens.length g.ocap],.pointer (some (Pv P1 0)),.pointer (some (Pv P2 0)),.pointer (some (Pv P3 0)),.pointer (some (Pv P4 0))] W λe w'=>e=.returned (.bool (p g))/\Bl W w'):=hl;have HS:Hid (∀W,Bl w W->∀g:G,Calls prog 133 #[.agg #[Iv g.port,.slice g.wo g.ways.length g.wcap,Iv g.plain,.slice g.oo g.opens.length g.ocap],.pointer (some (Pv Bt 0)),.pointer (some (Pv Bw 0)),.pointer (some (Pv Bp 0)),.pointer (some (Pv Bf 0))] W λe w'=>∃a c,e=.returned (.agg #[Uv f.dst,Uv f.src,.bool (Rl.leave f aa g).tagged,Iv (Rl.leave f aa g).prio,.bool (Rl.leave f aa g).drop,Iv (Rl.leave f aa g).vid,Iv f.type,.slice a f.n c])/\w'.ownsRow W.heap.size 5 1 (.slice a f.n c) f.n (a0e f.n f.bs)/\Bl W w'):=hs;clear hr hl hs;go_enter func93,ntmps93;(go_wp2_with fail);go_loopw [7,12] (λo i wr=>∃(k:Nat) (a:OA) (m c:Nat),k<=l.length/\i=Iv k/\o=.slice a m c/\Hid (∃os:List OV,os.map OV.o=((l.take k).filter p).map (Rl.leave f aa)/\m=os.length/\OwnO wr w.heap.size (.slice a m c) f os/\Bl w wr)) (λ_ i _=>l.length-(intOf i).toNat)
 case atStart=>exact⟨0,none,0,0,om,rfl,rfl,⟨[],rfl,rfl,OwnO.nil _ _ _,b0h _ _⟩⟩
 case round =>
  obtain⟨k,a,m,c,hk,rfl,rfl,hX⟩:=hrel;obtain⟨os,ac,hm,ad,ab⟩:=hX.o;by_cases hlt:k<l.length
  ·obtain⟨b,off,rfl,_⟩:=(HR.o wr ab).place om;obtain⟨c0,c1,c2,c3⟩:=(HR.o wr ab).cells hlt;obtain⟨X,HX⟩:=nm (wr.alloc (.cells #[Iv (gat l k).port,.slice (gat l k).wo (gat l k).ways.length (gat l k).wcap,Iv (gat l k).plain,.slice (gat l k).oo (gat l k).opens.length (gat l k).ocap] 95))
   have ah:Bl wr X:=(by rw[HX.o];exact bA1 _ _)
   have ap:X.heap[wr.heap.size]?=some (.cells #[Iv (gat l k).port,.slice (gat l k).wo (gat l k).ways.length (gat l k).wcap,Iv (gat l k).plain,.slice (gat l k).oo (gat l k).opens.length (gat l k).ocap] 95):=(by rw[HX.o];exact a9Z _ _)
   have af:Bl w X:=ab.trans (ah.mono ab.size);have am:((l.take (k+1)).filter p).map (Rl.leave f aa)=os.map OV.o++(if p (gat l k)=true then [Rl.leave f aa (gat l k)] else []):=by
    rw[Rl.take_succ l k hlt,List.filter_append,List.map_append,ac];congr 1
    by_cases q:p (gat l k)=true
    ·simp[q]
    ·simp[q]
   have ag:Hid (Calls prog 92 #[.agg #[Iv (gat l k).port,.slice (gat l k).wo (gat l k).ways.length (gat l k).wcap,Iv (gat l k).plain,.slice (gat l k).oo (gat l k).opens.length (gat l k).ocap],.pointer (some (Pv P1 0)),.pointer (some (Pv P2 0)),.pointer (some (Pv P3 0)),.pointer (some (Pv P4 0))] X λe w'=>e=.returned (.bool (p (gat l k)))/\Hid (Bl X w')):=(HL.o X af (gat l k) (Rl.gat_mem l k hlt)).mono (λe w' h=>⟨h.1,h.2⟩);have ae:Hid (∀W,Bl X W->W.cell? (Pv wr.heap.size 0)=some (Iv (gat l k).port)/\W.cell? (Pv wr.heap.size 1)=some (.slice (gat l k).wo (gat l k).ways.length (gat l k).wcap)/\W.cell? (Pv wr.heap.size 2)=some (Iv (gat l k).plain)/\W.cell? (Pv wr.heap.size 3)=some (.slice (gat l k).oo (gat l k).opens.length (gat l k).ocap)):=λW hW=>a1O (keep ap hW);have ak:Hid (p (gat l k)=false->∀W,Bl X W->∃os:List OV,os.map OV.o=((l.take (k+1)).filter p).map (Rl.leave f aa)/\m=os.length/\OwnO W w.heap.size (.slice a m c) f os/\Bl w W):=λhp W hW=>⟨os,by rw[am,iN (by simp[hp]),List.append_nil],hm,(ad.below ah).below hW,af.trans (hW.mono af.size)⟩
   have aj:os.length<=l.length:=by
    have h1:os.length=(((l.take k).filter p).map (Rl.leave f aa)).length:=(by rw[<-ac,List.length_map])
    rw[h1,List.length_map];exact b0p (List.length_filter_le _ _) (by simp;omega)
   have an:Hid (∀W,Bl X W->Calls prog 133 #[.agg #[Iv (gat l k).port,.slice (gat l k).wo (gat l k).ways.length (gat l k).wcap,Iv (gat l k).plain,.slice (gat l k).oo (gat l k).opens.length (gat l k).ocap],.pointer (some (Pv Bt 0)),.pointer (some (Pv Bw 0)),.pointer (some (Pv Bp 0)),.pointer (some (Pv Bf 0))] W λe w'=>∃da dc,e=.returned (.agg #[Uv f.dst,Uv f.src,.bool (Rl.leave f aa (gat l k)).tagged,Iv (Rl.leave f aa (gat l k)).prio,.bool (Rl.leave f aa (gat l k)).drop,Iv (Rl.leave f aa (gat l k)).vid,Iv f.type,.slice da f.n dc])/\Hid (Bl X w')/\(p (gat l k)=true->∃a1 m1 c1 w2,a2s (.slice a m c) (.slice (some (Pv w'.heap.size 0)) 1 1) (w'.alloc (.cells #[Iv (gat l k).port,Uv f.dst,Uv f.src,.bool (Rl.leave f aa (gat l k)).tagged,Iv (Rl.leave f aa (gat l k)).prio,.bool (Rl.leave f aa (gat l k)).drop,Iv (Rl.leave f aa (gat l k)).vid,Iv f.type,.slice da f.n dc] 101)) (.slice a1 m1 c1) w2/\Hid (∃os:List OV,os.map OV.o=((l.take (k+1)).filter p).map (Rl.leave f aa)/\m1=os.length/\OwnO w2 w.heap.size (.slice a1 m1 c1) f os/\Bl w w2)/\Hid (w2.heap[wr.heap.size]?=some (.cells #[Iv (gat l k).port,.slice (gat l k).wo (gat l k).ways.length (gat l k).wcap,Iv (gat l k).plain,.slice (gat l k).oo (gat l k).opens.length (gat l k).ocap] 95))) ):=λW hW=>by
    have ai:Bl w W:=af.trans (hW.mono af.size);refine(HS.o W ai (gat l k)).mono ?_;rintro e w' ⟨da,dc,rfl,hd,hb⟩;have ar:Bl w w':=ai.trans (hb.mono ai.size);have al:Bl X w':=hW.trans (hb.mono hW.size);refine⟨da,dc,rfl,al,λhp => ?_⟩;obtain⟨a1,m1,c1,w2,r,e1,o2,b2,hq⟩:=more_o w.heap.size w' (.slice a m c) f os ⟨Rl.leave f aa (gat l k),da,dc⟩ ((ad.below ah).below al) (a0v hd ai.size) om ar.size;have ax:(Rl.leave f aa (gat l k)).port=(gat l k).port:=Rl.leave_port _ _ _;refine⟨a1,m1,c1,w2,?_,⟨os++[⟨Rl.leave f aa (gat l k),da,dc⟩],by rw[am,iP hp,List.map_append];rfl,e1,o2,ar.trans b2⟩,?_⟩
    ·unfold oA at r;rw[ax] at r;exact r
    ·exact hq _ _ _ (keep ap al) dd
   obtain⟨d0,d1,d2,d3⟩:=ae.o X (b0h _ _);clear hX ac hm ad ab ah ap af am aj HR HL HS;(go_wp2_with fail);rw[<-HX.o];clear c0 c1 c2 c3;cases hp:p (gat l k) with
   | false =>
    rw[hp] at ag;have av:Hid (∀W,Bl X W->∃os:List OV,os.map OV.o=((l.take (k+1)).filter p).map (Rl.leave f aa)/\m=os.length/\OwnO W w.heap.size (.slice a m c) f os/\Bl w W):=ak.o hp;clear ak an ae hp;generalize gat l k=x at *;go_wp2_with (go_at_call 92;refine ag.o.mono ?_;rintro e w1 ⟨rfl,aq⟩;clear d0 d1 d2 d3)
    exact⟨⟨k+1,a,m,c,om,gn,rfl,av.o _ aq.o⟩,io⟩
   | true =>
    rw[hp] at ag;have au:Hid (∀W,Bl X W->Calls prog 133 #[.agg #[Iv (gat l k).port,.slice (gat l k).wo (gat l k).ways.length (gat l k).wcap,Iv (gat l k).plain,.slice (gat l k).oo (gat l k).opens.length (gat l k).ocap],.pointer (some (Pv Bt 0)),.pointer (some (Pv Bw 0)),.pointer (some (Pv Bp 0)),.pointer (some (Pv Bf 0))] W λe w'=>∃da dc a1 m1 c1 w2,e=.returned (.agg #[Uv f.dst,Uv f.src,.bool (Rl.leave f aa (gat l k)).tagged,Iv (Rl.leave f aa (gat l k)).prio,.bool (Rl.leave f aa (gat l k)).drop,Iv (Rl.leave f aa (gat l k)).vid,Iv f.type,.slice da f.n dc])/\Hid (Bl X w')/\Hid (a2s (.slice a m c) (.slice (some (Pv w'.heap.size 0)) 1 1) (w'.alloc (.cells #[Iv (gat l k).port,Uv f.dst,Uv f.src,.bool (Rl.leave f aa (gat l k)).tagged,Iv (Rl.leave f aa (gat l k)).prio,.bool (Rl.leave f aa (gat l k)).drop,Iv (Rl.leave f aa (gat l k)).vid,Iv f.type,.slice da f.n dc] 101)) (.slice a1 m1 c1) w2)/\Hid (∃os:List OV,os.map OV.o=((l.take (k+1)).filter p).map (Rl.leave f aa)/\m1=os.length/\OwnO w2 w.heap.size (.slice a1 m1 c1) f os/\Bl w w2)/\Hid (w2.cell? (Pv wr.heap.size 0)=some (Iv (gat l k).port)/\w2.cell? (Pv wr.heap.size 1)=some (.slice (gat l k).wo (gat l k).ways.length (gat l k).wcap)/\w2.cell? (Pv wr.heap.size 2)=some (Iv (gat l k).plain)/\w2.cell? (Pv wr.heap.size 3)=some (.slice (gat l k).oo (gat l k).opens.length (gat l k).ocap))):=λW hW=>by
     refine(an.o W hW).mono ?_;rintro e w' ⟨da,dc,rfl,h1,h2⟩;obtain⟨a1,m1,c1,w2,r,h3,h4⟩:=h2 hp;exact⟨da,dc,a1,m1,c1,w2,rfl,h1,r,h3,a1O h4.o⟩
    clear ak an hp;generalize Rl.leave f aa (gat l k)=lv at *;generalize gat l k=x at *;(go_wp2_with fail);refine ag.o.mono ?_;rintro e w1 ⟨rfl,aq⟩;obtain⟨u0,u1,u2,u3⟩:=ae.o w1 aq.o;clear d0 d1 d2 d3 ag;(go_wp2_with fail);go_region_held3 (λW=>W.cell? (Pv wr.heap.size 0)=some (Iv x.port)/\W.cell? (Pv wr.heap.size 1)=some (.slice x.wo x.ways.length x.wcap)/\W.cell? (Pv wr.heap.size 2)=some (Iv x.plain)/\W.cell? (Pv wr.heap.size 3)=some (.slice x.oo x.opens.length x.ocap))
     (first | (exact ae.o _ (Hid.o aS)) | (exact ae.o _ (b0i (Hid.o aS))) | (exact ae.o _ (a1u (Hid.o aS) _)) | (exact HE.o))
     (first | (go_at_call 133;refine(au.o _ (by first | exact(Hid.o aS) | exact b0i (Hid.o aS))).mono ?_;rintro e w2 ⟨da,dc,a1,m1,c1,w3,rfl,az,ay,HZ,HE⟩) | ((with_reducible refine a2l ?_ (.tmp 19) (.tmp 26) 97 ?_ _ _ _ ?_ ?_ ay.o ?_);rfl;rfl;rfl;rfl))
    all_goals clear u0 u1 u2 u3 ae au
    (all_goals go_wp2_with fail);all_goals exact⟨⟨k+1,a1,m1,c1,om,gn,rfl,HZ⟩,io⟩
  ·obtain rfl:k=l.length:=om
   have HF:Hid (os.map OV.o=(l.filter p).map (Rl.leave f aa)/\OwnO wr w.heap.size (.slice a m c) f os/\Bl w wr):=by
    rw[List.take_length] at ac;exact⟨ac,ad,ab⟩
   clear hX HR HL HS ac ad ab;(go_wp2_with fail);go_ret;exact⟨_,os,rfl,HF.o.1,HF.o.2.1,HF.o.2.2⟩
abbrev a2t (s x:Value) (w:World) (r:Value) (w':World):Prop:=(Builtin.append_ #[67,67] 67 #[s,x]).run prog w=.ok r w'
theorem a4t (w:World) (c:Nat) (hc:c<=100000):∃cs:Array Value,cs.size=c*4/\(Instr.makeSlice 67 (Iv 0) (Iv c)).run prog w=.ok (.slice (some (Pv w.heap.size 0)) 0 c) (w.alloc (.cells cs 110)):=by
 obtain⟨i0,hi,ac,ab,aa⟩:=info_parts a6M;have h:=run_make (P:=prog) w 67 110 i0 (.agg (eA Bk.e0)) underlying67 hi ac .i64 .i64 0 (c:Int) om om (by rw[aa];omega) om;rw[ab,Int.toNat_natCast] at h;exact⟨_,by simp[madeCells],h⟩
theorem a6O {w:World}{g c base:Nat}{cs:Array Value}(h:w.heap[g]?=some (.cells cs 110)) (hs:cs.size=c*4) (hb:base<=g) (hc:c<=100000):OwnE w base (.slice (some (Pv g 0)) 0 c) [] :=
 ⟨by simp[a0f],Or.inr ⟨g,c,cs,rfl,hb,h,Nat.zero_le _,by unfold maxLen;omega,hs,by simp[a0f]⟩⟩
theorem a3c (w W:World) (hW:Bl w W) (sV:Array Value) (x0:E) (ai:sV=eA x0) (hs:W.heap[w.heap.size]?=some (.cells sV 110)) (ac:OA) (ab:Nat) (l1:List E) (n1:Nat) (e1:n1=l1.length) (h1:BEL w ac ab l1) (k1:a0s ac n1 ab) (ad:OA) (aa:Nat) (l2:List E) (n2:Nat) (e2:n2=l2.length) (h2:BEL w ad aa l2) (k2:a0s ad n2 aa) (hb:n1+n2<=100) (c:Nat) (hc:c<=1000) :
  ∃cs a1 c1 X a2 c2 Y a3 c3 Z,(Instr.makeSlice 67 (Iv 0) (Iv c)).run prog W=.ok (.slice (some (Pv W.heap.size 0)) 0 c) (W.alloc (.cells cs 110)) /\
   a2t (.slice (some (Pv W.heap.size 0)) 0 c) (.slice ac n1 ab) (W.alloc (.cells cs 110)) (.slice a1 n1 c1) X /\
   a2t (.slice a1 n1 c1) (.slice (some (Pv X.heap.size 0)) 1 1) (X.alloc (.cells sV 110)) (.slice a2 (n1+1) c2) Y /\
   a2t (.slice a2 (n1+1) c2) (.slice ad n2 aa) Y (.slice a3 (n1+1+n2) c3) Z /\
   X.heap[w.heap.size]?=some (.cells sV 110)/\OwnE Z w.heap.size (.slice a3 (n1+1+n2) c3) (l1++x0 :: l2)/\Bl w Z:=by
 obtain⟨cs,af,ag⟩:=a4t W c om;have ae:Bl w (W.alloc (.cells cs 110)):=hW.alloc hW.size _;have aj:w.heap.size<W.heap.size:=(gSm.1 hs).1;obtain⟨a1,c1,X,r1,o1,b1,q1⟩:=a2q (W.alloc (.cells cs 110)) w.heap.size _ [] (a6O (a9Z W _) af (Nat.le_of_lt aj) om) ac ab l1 n1 e1 (BEL.below h1 ae) k1 (by simp;omega) ae.size;rw[List.nil_append,<-e1] at r1 o1;have hX:Bl w X:=ae.trans b1;have ah:X.heap[w.heap.size]?=some (.cells sV 110):=(q1 _ (by simp;omega) (by simp[Value.ownBlock];omega)).trans (keep hs (bA1 W _));obtain⟨a2,c2,Y,r2,o2,b2,_⟩:=a2q (X.alloc (.cells sV 110)) w.heap.size _ l1 (OwnE.below o1 (bA1 X _)) (some (Pv X.heap.size 0)) 1 [x0] 1 rfl (a3Q (by rw[ai];exact a9Z X _)) (λh=>by cases h) om (by have:=hX.size;simp;omega);have hY:Bl w Y:=(hX.alloc hX.size _).trans b2;have e3:(l1++[x0]).length=n1+1:=(by simp[e1])
 rw[e3] at r2 o2;obtain⟨a3,c3,Z,r3,o3,b3,_⟩:=a2q Y w.heap.size _ (l1++[x0]) (by unfold OwnE;rw[e3];unfold OwnE at o2;rw[e3] at o2;exact o2) ad aa l2 n2 e2 (BEL.below h2 hY) k2 (by rw[e3];omega) hY.size;have e4:(l1++[x0]++l2).length=n1+1+n2:=(by simp[e1,e2];omega)
 rw[e4] at r3 o3;rw[List.append_assoc,List.singleton_append] at o3;exact⟨cs,a1,c1,X,a2,c2,Y,a3,c3,Z,ag,r1,r2,r3,ah,o3,hY.trans b3⟩
theorem a7K (w W:World) (hW:Bl w W) (sV:Array Value) (x0:E) (ac:sV=eA x0) (hs:W.heap[w.heap.size]?=some (.cells sV 110)) :
  ∃cs a2 c2 Y,(Instr.makeSlice 67 (Iv 0) (Iv 1)).run prog W=.ok (.slice (some (Pv W.heap.size 0)) 0 1) (W.alloc (.cells cs 110)) /\
   a2t (.slice (some (Pv W.heap.size 0)) 0 1) (.slice (some (Pv (W.heap.size+1) 0)) 1 1) ((W.alloc (.cells cs 110)).alloc (.cells sV 110)) (.slice a2 1 c2) Y/\a2t (.slice a2 1 c2) sN Y (.slice a2 1 c2) Y /\
   (W.alloc (.cells cs 110)).heap[w.heap.size]?=some (.cells sV 110)/\OwnE Y w.heap.size (.slice a2 1 c2) [x0]/\Bl w Y:=by
 obtain⟨cs,ad,ae⟩:=a4t W 1 om;have ab:Bl w (W.alloc (.cells cs 110)):=hW.alloc hW.size _;have af:w.heap.size<W.heap.size:=(gSm.1 hs).1;have ag:(W.alloc (.cells cs 110)).heap[w.heap.size]?=some (.cells sV 110):=keep hs (bA1 W _);have hy:((W.alloc (.cells cs 110)).alloc (.cells sV 110)).heap[W.heap.size+1]?=some (.cells sV 110):=b0c W _ _;have aa:Bl w ((W.alloc (.cells cs 110)).alloc (.cells sV 110)):=ab.alloc ab.size _;obtain⟨a2,c2,Y,r2,o2,b2,_⟩:=a2q ((W.alloc (.cells cs 110)).alloc (.cells sV 110)) w.heap.size _ [] (a6O (b0d W _ _) ad (Nat.le_of_lt af) om) (some (Pv (W.heap.size+1) 0)) 1 [x0] 1 rfl (a3Q (by rw[<-ac];exact hy)) (λh=>by cases h) (by simp) aa.size;obtain⟨i0,hi,_,_,_⟩:=info_parts a6M;exact⟨cs,a2,c2,Y,ae,r2,run_append_owned_none (P:=prog) (w:=Y) w.heap.size 67 67 110 i0 4 underlying67 hi _ _ _ o2,ag,o2,aa.trans b2⟩
theorem BEL.dropZ {w:World}{ao:OA}{cap:Nat}{l:List E}{k:Nat}(h:l.length<=k):BEL w ao cap (l.drop k):=by
 rw[List.drop_eq_nil_of_le h];exact CRow.none _ _ _ _ _
theorem BEL.dropA {w:World}{ad:Addr}{cap:Nat}{l:List E}(h:BEL w (.some ad) cap l) (k:Nat) (hk:k<=l.length):BEL w (.some (ad.add (k*4))) (cap-k) (l.drop k):=by
 by_cases e:l.length<=k
 ·exact BEL.dropZ e
 ·obtain⟨b,off,ea,_⟩:=h.place om;cases ea
  rw[a1J];exact h.drop k hk
