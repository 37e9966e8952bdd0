/- DW4 -/
import Derived.Test.YtelebnancdjjiaaGreatDoorE02
set_option maxRecDepth 100000
set_option maxHeartbeats 40000000
namespace Go.Proofs.YtelebnancdjjiaaGreatDoor
section
open Go.Proofs.Tryz Go.RowKit
theorem a8u (s:Md.St) (b off cap:Nat) (bs:Nat->Int) (w:World) (ht:Tabs w) (hb:b<w.heap.size) (aa:64<=cap) (hc:∀i,i<64->w.cell? (Pv b (off+i))=some (.int .u8 (bs i))) :
  Calls prog 225 #[.agg #[Tv s.a,Tv s.b,Tv s.c,Tv s.d],.slice (some (Pv b off)) 64 cap] w λe w'=>e=.returned (.agg #[Tv (Md.mixS s bs).a,Tv (Md.mixS s bs).b,Tv (Md.mixS s bs).c,Tv (Md.mixS s bs).d])/\Bl w w' :=
 mix_any s b off cap bs w ht hb aa hc
theorem set4 {w:World}{g:Nat}{q s':Md.St}(hA:w.heap[g]?=some (.cells (Md.stA q) 288)) :
  ((((w.setCell (Pv g 0) (Tv s'.a)).setCell (Pv g 1) (Tv s'.b)).setCell (Pv g 2) (Tv s'.c)).setCell (Pv g 3) (Tv s'.d)).heap[g]?=some (.cells (Md.stA s') 288) /\
  (∀k,k≠g->((((w.setCell (Pv g 0) (Tv s'.a)).setCell (Pv g 1) (Tv s'.b)).setCell (Pv g 2) (Tv s'.c)).setCell (Pv g 3) (Tv s'.d)).heap[k]?=w.heap[k]?) /\
  (∀B a,B<=g->Below B a w->Below B a ((((w.setCell (Pv g 0) (Tv s'.a)).setCell (Pv g 1) (Tv s'.b)).setCell (Pv g 2) (Tv s'.c)).setCell (Pv g 3) (Tv s'.d))):=by
 refine⟨?_,λk hk => ?_,λB a hB hb=>(((hb.setCell hB _).setCell hB _).setCell hB _).setCell hB _⟩
 ·rw[b0e _ _ _ _ _ _ (b0e _ _ _ _ _ _ (b0e _ _ _ _ _ _ (b0e _ _ _ _ _ _ hA)))];rfl
 ·rw[b0f _ _ _ _ hk,b0f _ _ _ _ hk,b0f _ _ _ _ hk,b0f _ _ _ _ hk]
theorem four {wr w2:World}{g:Nat}{q:Md.St}(hb:Below wr.drew.heap.size wr.drew w2) (hA:wr.heap[g]?=some (.cells (Md.stA q) 288)) :
  w2.cell? (Pv g 0)=some (Tv q.a)/\w2.cell? (Pv g 1)=some (Tv q.b)/\w2.cell? (Pv g 2)=some (Tv q.c)/\w2.cell? (Pv g 3)=some (Tv q.d) /\
  w2.frozen? (Pv g 0)=false/\w2.frozen? (Pv g 1)=false/\w2.frozen? (Pv g 2)=false/\w2.frozen? (Pv g 3)=false:=by
 have aa:g<wr.heap.size:=b0r (a9Y wr g 0 _ _ _ hA);have h2:w2.heap[g]?=some (.cells (Md.stA q) 288):=(hb.block g aa).trans hA;exact⟨a9Y w2 g 0 _ _ _ h2,a9Y w2 g 1 _ _ _ h2,a9Y w2 g 2 _ _ _ h2,a9Y w2 g 3 _ _ _ h2,b0a _ _ _ _ _ h2,b0a _ _ _ _ _ h2,b0a _ _ _ _ _ h2,b0a _ _ _ _ _ h2⟩
theorem a7i (s:Md.St) (ao:OA) (m cap:Nat) (bs:Nat->Int) (w:World) (ht:Tabs w) (hr:ByteRow w ao (64*m) cap bs) (hm:64*m<=140737488355328) :
  Calls prog 222 #[.agg (Md.stA s),.slice ao (64*m) cap] w λe w'=>e=.returned (.agg (Md.stA (Md.mixN s bs m)))/\Bl w w':=by
 have HT:Hid (Tabs w):=ht;have HR:Hid _:=hr;have al:=ht.lt;clear ht hr;unfold Md.stA;go_enter func222,ntmps222;go_wp2
 go_loopw [5] (λi wr=>∃k:Nat,k<=m/\i=Iv (64*k)/\wr.heap[w.heap.size]?=some (.cells (Md.stA (Md.mixN s bs k)) 288)/\wr.heap[w.heap.size+1]?=some (.cells (Md.stA ⟨0,0,0,0⟩) 288)/\Bl w wr) (λi _=>64*m-(intOf i).toNat)
 case atStart=>exact⟨0,om,rfl,b0d w _ _,b0c w _ _,((b0h _ _).alloc (b0g _) _).alloc (by simp) _⟩
 case round =>
  obtain⟨k,hk,rfl,hA,hB,aa⟩:=hrel;by_cases hlt:k<m
  ·obtain⟨ag,ac⟩:=HR.o;obtain⟨b,off,rfl,hb,hc⟩:=ac om;have HA:Hid _:=hA;have HB:Hid _:=hB;have ah:Hid _:=aa;have HC:Hid _:=hc;have hs:=aa.size;have aw:=b0r (a9Y wr _ 0 _ _ _ hB);have a0:wr.cell? (Pv w.heap.size 0)=some (Tv (Md.mixN s bs k).a):=a9Y wr _ 0 _ _ _ hA;have a1:wr.cell? (Pv w.heap.size 1)=some (Tv (Md.mixN s bs k).b):=a9Y wr _ 1 _ _ _ hA;have a2:wr.cell? (Pv w.heap.size 2)=some (Tv (Md.mixN s bs k).c):=a9Y wr _ 2 _ _ _ hA;have a3:wr.cell? (Pv w.heap.size 3)=some (Tv (Md.mixN s bs k).d):=a9Y wr _ 3 _ _ _ hA;have hw:IntKind.i64.wrap (64*(k:Int)+64)=((64*k+64:Nat):Int):=(by simp[IntKind.wrap,IntKind.bits,IntKind.signed];omega)
   have ar:(64*k+64:Nat)<=cap:=om
   have ay:((64*k+64:Nat):Int)<=(cap:Int):=om
   have ai:Hid (Tabs wr.drew):=HT.o.below aa.drew om;have aj:Hid (b<wr.drew.heap.size):=(show b<wr.heap.size from by omega)
   have af:Hid (∀i,i<64->wr.drew.cell? (Pv b (off+64*k+i))=some (.int .u8 (bs (64*k+i)))):=λi hi=>((aa.drew.cell (by exact hb)).trans (by rw[Nat.add_assoc];exact hc (64*k+i) om))
   clear hA hB aa hc ac HR HC HT;have HQ:Hid (Md.mixN s bs (k+1)=Md.mixS (Md.mixN s bs k) λi=>bs (64*k+i)):=rfl;generalize Md.mixN s bs k=q at *;(go_wp2_with fail);go_region_with (go_at_call 225;refine(a8u q b (off+64*k) (cap-64*k) (λi=>bs (64*k+i)) _ ai.o aj.o om af.o).mono ?_;rintro e w2 ⟨rfl,ad⟩;have c2:=four ad HA.o;obtain⟨am,ak,ap,au,an,aq,ax,av⟩:=c2;have ae:Hid _:=ad;clear ad)
   all_goals go_wp2
   all_goals
    have ab:=set4 (s':=Md.mixS q λi=>bs (64*k+i)) ((ae.o.block w.heap.size (show _<wr.heap.size from by omega)).trans HA.o);exact⟨⟨k+1,om,gn,by rw[HQ.o];exact ab.1,(ab.2.1 _ om).trans ((ae.o.block (w.heap.size+1) (show _<wr.heap.size from by omega)).trans HB.o),ab.2.2 _ _ (b0g _) (ah.o.drew.trans (ae.o.mono (show _<=wr.heap.size from by omega)))⟩,io⟩
  ·obtain rfl:k=m:=om
   clear HR HT;go_wp2_with (first | refine wpList_load_row rfl 288 _ rfl (w.heap.size) rfl 288 _ (0,0) _ hA underlying288 rfl (by rw[a3v,Md.stA_size]) ?_ | refine wpList_store_row rfl 288 _ _ rfl (w.heap.size+1) (Md.stA (Md.mixN s bs k)) rfl rfl 288 _ hB (by rw[a3v,Md.stA_size]) (by rfl) (Md.stA_all _) ?_)
   exact b0b (v:=.agg (Md.stA (Md.mixN s bs k))) (results_cell_row (p:=4) (ty:=288) rfl _ _ (w.heap.size+1) 288 _ (0,0) _ rfl (setRow_heap _ _ _ _ _ _ hB) underlying288 rfl (by rw[a3v,Md.stA_size])) rfl ⟨rfl,below_setRow aa om _⟩
theorem make16 (w:World):(Instr.makeSlice 29 (Iv 16) (Iv 16)).run prog w=.ok (.slice (some (Pv w.heap.size 0)) 16 16) (w.alloc (.cells #[.int .u8 0,.int .u8 0,.int .u8 0,.int .u8 0,.int .u8 0,.int .u8 0,.int .u8 0,.int .u8 0,.int .u8 0,.int .u8 0,.int .u8 0,.int .u8 0,.int .u8 0,.int .u8 0,.int .u8 0,.int .u8 0] 5)):=by kernel_rfl
theorem a2H (s:Md.St) (w:World) :
  Calls prog 223 #[.agg (Md.stA s)] w λe w'=>e=.returned (.slice (some (Pv (w.heap.size+1) 0)) 16 16)/\w'.heap[w.heap.size+1]?=some (.cells (Md.rowB 16 (Md.dg s) 16) 5)/\Bl w w':=by
 have ab:=make16;unfold Md.stA;go_enter func223,ntmps223;go_wp2
 go_loopw [8] (λi wr=>∃k:Nat,k<=16/\i=Iv k/\wr.heap[w.heap.size]?=some (.cells (Md.stA s) 288)/\wr.heap[w.heap.size+1]?=some (.cells (Md.rowB 16 (Md.dg s) k) 5)/\Bl w wr) (λi _=>16-(intOf i).toNat)
 case atStart=>exact⟨0,om,rfl,b0d w _ _,b0c w _ _,((b0h _ _).alloc (b0g _) _).alloc (by simp) _⟩
 case round =>
  obtain⟨k,hk,rfl,hA,hB,aa⟩:=hrel;by_cases hlt:k<16
  ·have ca:∀j,j<4->wr.cell? (Pv w.heap.size j)=some (Tv (Md.wordOf s j)):=by
    intro j hj;rw[a9Y wr _ j _ _ _ hA];rcases(show j=0\/j=1\/j=2\/j=3 by omega) with rfl | rfl | rfl | rfl<;>rfl
   have c1:=ca (k/4) om;have c4:wr.cell? (Pv (w.heap.size+1) k)=some (.int .u8 0):=(a9Y wr _ k _ _ _ hB).trans (by rw[Md.rowB_get _ _ _ _ hlt];simp);have f4:wr.frozen? (Pv (w.heap.size+1) k)=false:=b0a _ _ _ _ _ hB;have HR:Hid ((wr.setCell (Pv (w.heap.size+1) k) (.int .u8 (Md.dg s k))).heap[w.heap.size]?=some (.cells (Md.stA s) 288)/\(wr.setCell (Pv (w.heap.size+1) k) (.int .u8 (Md.dg s k))).heap[w.heap.size+1]?=some (.cells (Md.rowB 16 (Md.dg s) (k+1)) 5)/\Bl w (wr.setCell (Pv (w.heap.size+1) k) (.int .u8 (Md.dg s k)))) :=
    ⟨by rw[b0f _ _ _ _ (by simp)];exact hA,by rw[b0e _ _ _ _ _ _ hB,Md.rowB_set _ _ _ hlt],aa.setCell (by simp) _⟩
   clear ca hA hB aa;go_wp2
   exact⟨⟨k+1,om,gn,HR.o.1,HR.o.2.1,HR.o.2.2⟩,io⟩
  ·obtain rfl:k=16:=om
   go_wp2
   go_ret;exact⟨rfl,hB,aa⟩
namespace Md
def lastN (n:Nat):Nat:=if n+9<=64 then 1 else 2
def lastTo (n sz:Nat) (bs:Nat->Int) (bits:Int) (k i:Nat):Int :=
 if i<n then bs i else if i=n then 128 else if sz-8<=i/\i<sz-8+k then bits/2 ^ (8*(i+8-sz))%256 else 0
def lastB (n:Nat) (bs:Nat->Int) (bits:Int) (i:Nat):Int:=lastTo n (64*lastN n) bs bits 8 i
theorem lastTo_step (n sz:Nat) (bs:Nat->Int) (aa:Int) (k:Nat) (ab:n+9<=sz) (i:Nat):(if i=sz-8+k then aa/2 ^ (8*k)%256 else lastTo n sz bs aa k i)=lastTo n sz bs aa (k+1) i:=by
 unfold lastTo;by_cases h:i=sz-8+k
 ·rw[iP h,iN om,iN om,iP om,show i+8-sz=k by omega]
 ·rw[iN h];by_cases h1:i<n
  ·simp[h1]
  ·by_cases h2:i=n
   ·simp[h2]
   ·simp only[h1,h2,if_false];have:(sz-8<=i/\i<sz-8+k)↔(sz-8<=i/\i<sz-8+(k+1)):=om
    simp only[this]
theorem lastTo_zero (n sz:Nat) (bs:Nat->Int) (aa:Int) (i:Nat):(if i=n then(128:Int) else if i<n then bs i else 0)=lastTo n sz bs aa 0 i:=by
 unfold lastTo;by_cases h1:i<n
 ·rw[iN om,iP h1,iP h1]
 ·by_cases h2:i=n
  ·rw[iP h2,iN h1,iP h2]
  ·rw[iN h2,iN h1,iN h1,iN h2,iN om]
end Md
theorem info49:(prog.info? 294).map (λi=>(i.zero,i.size))=some (some (.agg (a0e 128 (λ_=>0)).toArray),128):=by kernel_rfl
theorem a2I (s:Md.St) (ao:OA) (m N cap:Nat) (bs:Nat->Int) (w:World) (hN:N=64*m) (ht:Tabs w) (hr:ByteRow w ao (64*m) cap bs) (hm:64*m<=140737488355328) :
  Calls prog 222 #[.agg #[Tv s.a,Tv s.b,Tv s.c,Tv s.d],.slice ao N cap] w λe w'=>e=.returned (.agg #[Tv (Md.mixN s bs m).a,Tv (Md.mixN s bs m).b,Tv (Md.mixN s bs m).c,Tv (Md.mixN s bs m).d])/\Bl w w':=by
 subst hN;exact a7i s ao m cap bs w ht hr hm
theorem at80 {w1:World}{g n:Nat}{bs:Nat->Int}{Z:List Value}(h:Hid (w1.heap[g]?=some (.cells (splice Z 0 (a0e n bs)).toArray 294))) (hZ:a0e 128 (λ_=>0)=Z) (hn:n<128) :
  Hid (w1.heap[g]?=some (.cells (rowF 128 (λi=>if i<n then bs i else 0)) 294))/\w1.cell? (Pv g n)=some (.int .u8 0)/\w1.frozen? (Pv g n)=false:=by
 have h':=h.o;rw[<-hZ,a4i 128 n bs om] at h';exact⟨h',(a9Y w1 _ n _ _ _ h').trans (by rw[a0Q _ _ _ hn];simp),b0a _ _ _ _ _ h'⟩
theorem a3w (s:Md.St) (ao:OA) (n cap sz:Nat) (aa:Int) (bs:Nat->Int) (w:World) (ht:Tabs w) (hr:ByteRow w ao n cap bs) (hn:n<64)
  (aF:(sz=64/\n+9<=64)\/(sz=128/\64<n+9)) :
  Calls prog 224 #[.agg (Md.stA s),.slice ao n cap,Uv aa] w λe w'=>e=.returned (.agg (Md.stA (Md.mixN s (Md.lastTo n sz bs aa 8) (sz/64))))/\Bl w w':=by
 have hz:=(zero_of_info info49).1;have HT:Hid (Tabs w):=ht;have HR:Hid _:=hr;have aH:=ht.lt;clear ht hr;generalize hZ:a0e 128 (λ_=>0)=Z at hz;have HZ:Hid (a0e 128 (λ_=>0)=Z):=hZ;clear hZ;have ac:Hid (0<(a0e n bs).length->(some (Pv (w.heap.size+1+1) 0):OA)=some (Pv (w.heap.size+1+1) 0)/\∃ad,ao=some ad/\∀W:World,Bl w W->∀j v,(a0e n bs)[j]?=some v->W.cell? (ad.add j)=some v):=by
  intro hp;rw[a0g] at hp;obtain⟨b,off,rfl,hb,hc⟩:=HR.o.2 hp;refine⟨rfl,_,rfl,λW hW j v hj => ?_⟩;obtain⟨aw,rfl⟩:=a2G _ _ _ _ hj;have aq:(⟨b,off,none⟩:Addr).add j=⟨b,off+j,none⟩:=(by unfold Addr.add;split<;>simp_all)
  rw[aq,hW.cell (by exact hb)];exact hc j aw
 unfold Md.stA;rcases aF with⟨rfl,ax⟩ | ⟨rfl,ax⟩
 ·go_enter func224,ntmps224;go_wp2_with (refine wpList_copy_splice rfl (.tmp 11) (.tmp 12) 29 29 rfl 5 underlying29 a8p _ _ _ _ _ _ rfl rfl (w.heap.size+1+1) 0 Z 294 (a1x w _ _ _).2.2.1 (a0e n bs) (by rw[a0g];exact(Nat.min_eq_left om).symm) (λhp=>⟨rfl,by obtain⟨_,ad,h1,h2⟩:=ac.o hp;exact⟨ad,h1,h2 _ (a1x w _ _ _).2.2.2⟩⟩) (by rw[<-HZ.o];simp only[a0g];omega) (a1P n bs) (w.heap.size+2) _ (b0h _ _) (b0g _) ?_;intro w1 al am;rw[a0g];obtain⟨ah,au,ar⟩:=at80 al HZ.o (show n<128 by omega);have ai:Hid _:=am;clear al am hz)
  have ab:Hid ((w1.setCell (Pv (w.heap.size+1+1) n) (.int .u8 128)).heap[w.heap.size+1+1]?=some (.cells (rowF 128 (Md.lastTo n 64 bs aa 0)) 294)):=by
   show _=_;rw[b0e _ _ _ _ _ _ ah.o,a2F _ _ _ _ om,a1y _ _ _ (λi _=>Md.lastTo_zero n 64 bs aa i)]
  go_loopw [20] (λi wr=>∃k:Nat,k<=8/\i=Iv k/\Hid (wr.heap[w.heap.size+1+1]?=some (.cells (rowF 128 (Md.lastTo n 64 bs aa k)) 294)/\Below (w.heap.size+2) (((w.alloc (.cells #[Tv s.a,Tv s.b,Tv s.c,Tv s.d] 288)).alloc (.cells #[Tv 0,Tv 0,Tv 0,Tv 0] 288)).alloc (.cells Z.toArray 294)) wr)) (λi _=>8-(intOf i).toNat)
  case atStart=>exact⟨0,om,rfl,ab.o,ai.o.setCell (b0g _) _⟩
  case round =>
   obtain⟨k,hk,rfl,hX⟩:=hrel;by_cases hlt:k<8
   ·have c4:wr.cell? (Pv (w.heap.size+1+1) (56+k))=some (.int .u8 (Md.lastTo n 64 bs aa k (56+k))):=(a9Y wr _ _ _ _ _ hX.o.1).trans (a0Q _ _ _ om);have f4:wr.frozen? (Pv (w.heap.size+1+1) (56+k))=false:=b0a _ _ _ _ _ hX.o.1;have HX:Hid ((wr.setCell (Pv (w.heap.size+1+1) (56+k)) (.int .u8 (aa/2 ^ (8*k)%256))).heap[w.heap.size+1+1]?=some (.cells (rowF 128 (Md.lastTo n 64 bs aa (k+1))) 294)/\Below (w.heap.size+2) (((w.alloc (.cells #[Tv s.a,Tv s.b,Tv s.c,Tv s.d] 288)).alloc (.cells #[Tv 0,Tv 0,Tv 0,Tv 0] 288)).alloc (.cells Z.toArray 294)) (wr.setCell (Pv (w.heap.size+1+1) (56+k)) (.int .u8 (aa/2 ^ (8*k)%256)))):=by
     refine⟨?_,hX.o.2.setCell (b0g _) _⟩;rw[b0e _ _ _ _ _ _ hX.o.1,a2F _ _ _ _ om,a1y _ _ _ (λi _=>Md.lastTo_step n 64 bs aa k om i)]
    clear hX ah ai ab ac HR;go_wp2
    exact⟨⟨k+1,om,gn,HX⟩,io⟩
   ·obtain rfl:k=8:=om
    have HA:Hid (wr.heap[w.heap.size]?=some (.cells (Md.stA s) 288)):=(hX.o.2.block _ om).trans (a1x w _ _ _).1;have HB:Hid (wr.heap[w.heap.size+1]?=some (.cells (Md.stA ⟨0,0,0,0⟩) 288)):=(hX.o.2.block _ om).trans (a1x w _ _ _).2.1;have aj:Hid (Bl w wr):=(a1x w _ _ _).2.2.2.trans (hX.o.2.mono om);have ag:w.heap.size+1+1<wr.heap.size:=b0r ((a9Y wr _ 0 _ _ _ hX.o.1).trans (a0Q _ _ _ om));have an:Hid (Tabs wr.drew):=HT.o.below aj.o.drew om;have ap:Hid (ByteRow wr.drew (some (Pv (w.heap.size+1+1) 0)) (64*1) 128 (Md.lastTo n 64 bs aa 8)):=by
     refine⟨om,λ_=>⟨_,_,rfl,ag,λi hi => ?_⟩⟩;rw[Nat.zero_add];exact(a9Y wr _ _ _ _ _ hX.o.1).trans (a0Q _ _ _ om)
    have a0:wr.cell? (Pv w.heap.size 0)=some (Tv s.a):=a9Y wr _ 0 _ _ _ HA.o;have a1:wr.cell? (Pv w.heap.size 1)=some (Tv s.b):=a9Y wr _ 1 _ _ _ HA.o;have a2:wr.cell? (Pv w.heap.size 2)=some (Tv s.c):=a9Y wr _ 2 _ _ _ HA.o;have a3:wr.cell? (Pv w.heap.size 3)=some (Tv s.d):=a9Y wr _ 3 _ _ _ HA.o;clear ah ai ab ac HR au ar hX HT;(go_wp2_with fail);go_region_with (go_at_call 222;refine(a2I s (some (Pv (w.heap.size+1+1) 0)) 1 64 128 (Md.lastTo n 64 bs aa 8) _ rfl an.o ap.o om).mono ?_;rintro e w2 ⟨rfl,af⟩;have c2:=four af HB.o;obtain⟨ay,av,aB,aD,az,aC,aG,aE⟩:=c2;have ak:Hid _:=af;clear af)
    all_goals go_wp2
    all_goals
     have ae:=set4 (s':=Md.mixN s (Md.lastTo n 64 bs aa 8) 1) ((ak.o.block (w.heap.size+1) (show _<wr.heap.size from by omega)).trans HB.o);exact b0b (v:=.agg (Md.stA (Md.mixN s (Md.lastTo n 64 bs aa 8) 1))) (results_cell_row (p:=6) (ty:=288) rfl _ _ (w.heap.size+1) 288 _ (0,0) _ rfl ae.1 underlying288 rfl (by rw[a3v,Md.stA_size])) rfl ⟨rfl,ae.2.2 _ _ om (aj.o.drew.trans (ak.o.mono (show _<=wr.heap.size from by omega)))⟩
 ·go_enter func224,ntmps224;go_wp2_with (refine wpList_copy_splice rfl (.tmp 11) (.tmp 12) 29 29 rfl 5 underlying29 a8p _ _ _ _ _ _ rfl rfl (w.heap.size+1+1) 0 Z 294 (a1x w _ _ _).2.2.1 (a0e n bs) (by rw[a0g];exact(Nat.min_eq_left om).symm) (λhp=>⟨rfl,by obtain⟨_,ad,h1,h2⟩:=ac.o hp;exact⟨ad,h1,h2 _ (a1x w _ _ _).2.2.2⟩⟩) (by rw[<-HZ.o];simp only[a0g];omega) (a1P n bs) (w.heap.size+2) _ (b0h _ _) (b0g _) ?_;intro w1 al am;rw[a0g];obtain⟨ah,au,ar⟩:=at80 al HZ.o (show n<128 by omega);have ai:Hid _:=am;clear al am hz)
  have ab:Hid ((w1.setCell (Pv (w.heap.size+1+1) n) (.int .u8 128)).heap[w.heap.size+1+1]?=some (.cells (rowF 128 (Md.lastTo n 128 bs aa 0)) 294)):=by
   show _=_;rw[b0e _ _ _ _ _ _ ah.o,a2F _ _ _ _ om,a1y _ _ _ (λi _=>Md.lastTo_zero n 128 bs aa i)]
  go_loopw [20] (λi wr=>∃k:Nat,k<=8/\i=Iv k/\Hid (wr.heap[w.heap.size+1+1]?=some (.cells (rowF 128 (Md.lastTo n 128 bs aa k)) 294)/\Below (w.heap.size+2) (((w.alloc (.cells #[Tv s.a,Tv s.b,Tv s.c,Tv s.d] 288)).alloc (.cells #[Tv 0,Tv 0,Tv 0,Tv 0] 288)).alloc (.cells Z.toArray 294)) wr)) (λi _=>8-(intOf i).toNat)
  case atStart=>exact⟨0,om,rfl,ab.o,ai.o.setCell (b0g _) _⟩
  case round =>
   obtain⟨k,hk,rfl,hX⟩:=hrel;by_cases hlt:k<8
   ·have c4:wr.cell? (Pv (w.heap.size+1+1) (120+k))=some (.int .u8 (Md.lastTo n 128 bs aa k (120+k))):=(a9Y wr _ _ _ _ _ hX.o.1).trans (a0Q _ _ _ om);have f4:wr.frozen? (Pv (w.heap.size+1+1) (120+k))=false:=b0a _ _ _ _ _ hX.o.1;have HX:Hid ((wr.setCell (Pv (w.heap.size+1+1) (120+k)) (.int .u8 (aa/2 ^ (8*k)%256))).heap[w.heap.size+1+1]?=some (.cells (rowF 128 (Md.lastTo n 128 bs aa (k+1))) 294)/\Below (w.heap.size+2) (((w.alloc (.cells #[Tv s.a,Tv s.b,Tv s.c,Tv s.d] 288)).alloc (.cells #[Tv 0,Tv 0,Tv 0,Tv 0] 288)).alloc (.cells Z.toArray 294)) (wr.setCell (Pv (w.heap.size+1+1) (120+k)) (.int .u8 (aa/2 ^ (8*k)%256)))):=by
     refine⟨?_,hX.o.2.setCell (b0g _) _⟩;rw[b0e _ _ _ _ _ _ hX.o.1,a2F _ _ _ _ om,a1y _ _ _ (λi _=>Md.lastTo_step n 128 bs aa k om i)]
    clear hX ah ai ab ac HR;go_wp2
    exact⟨⟨k+1,om,gn,HX⟩,io⟩
   ·obtain rfl:k=8:=om
    have HA:Hid (wr.heap[w.heap.size]?=some (.cells (Md.stA s) 288)):=(hX.o.2.block _ om).trans (a1x w _ _ _).1;have HB:Hid (wr.heap[w.heap.size+1]?=some (.cells (Md.stA ⟨0,0,0,0⟩) 288)):=(hX.o.2.block _ om).trans (a1x w _ _ _).2.1;have aj:Hid (Bl w wr):=(a1x w _ _ _).2.2.2.trans (hX.o.2.mono om);have ag:w.heap.size+1+1<wr.heap.size:=b0r ((a9Y wr _ 0 _ _ _ hX.o.1).trans (a0Q _ _ _ om));have an:Hid (Tabs wr.drew):=HT.o.below aj.o.drew om;have ap:Hid (ByteRow wr.drew (some (Pv (w.heap.size+1+1) 0)) (64*2) 128 (Md.lastTo n 128 bs aa 8)):=by
     refine⟨om,λ_=>⟨_,_,rfl,ag,λi hi => ?_⟩⟩;rw[Nat.zero_add];exact(a9Y wr _ _ _ _ _ hX.o.1).trans (a0Q _ _ _ om)
    have a0:wr.cell? (Pv w.heap.size 0)=some (Tv s.a):=a9Y wr _ 0 _ _ _ HA.o;have a1:wr.cell? (Pv w.heap.size 1)=some (Tv s.b):=a9Y wr _ 1 _ _ _ HA.o;have a2:wr.cell? (Pv w.heap.size 2)=some (Tv s.c):=a9Y wr _ 2 _ _ _ HA.o;have a3:wr.cell? (Pv w.heap.size 3)=some (Tv s.d):=a9Y wr _ 3 _ _ _ HA.o;clear ah ai ab ac HR au ar hX HT;(go_wp2_with fail);go_region_with (go_at_call 222;refine(a2I s (some (Pv (w.heap.size+1+1) 0)) 2 128 128 (Md.lastTo n 128 bs aa 8) _ rfl an.o ap.o om).mono ?_;rintro e w2 ⟨rfl,af⟩;have c2:=four af HB.o;obtain⟨ay,av,aB,aD,az,aC,aG,aE⟩:=c2;have ak:Hid _:=af;clear af)
    all_goals go_wp2
    all_goals
     have ae:=set4 (s':=Md.mixN s (Md.lastTo n 128 bs aa 8) 2) ((ak.o.block (w.heap.size+1) (show _<wr.heap.size from by omega)).trans HB.o);exact b0b (v:=.agg (Md.stA (Md.mixN s (Md.lastTo n 128 bs aa 8) 2))) (results_cell_row (p:=6) (ty:=288) rfl _ _ (w.heap.size+1) 288 _ (0,0) _ rfl ae.1 underlying288 rfl (by rw[a3v,Md.stA_size])) rfl ⟨rfl,ae.2.2 _ _ om (aj.o.drew.trans (ak.o.mono (show _<=wr.heap.size from by omega)))⟩
theorem a5P (s:Md.St) (ao:OA) (n cap:Nat) (aa:Int) (bs:Nat->Int) (w:World) (ht:Tabs w) (hr:ByteRow w ao n cap bs) (hn:n<64) :
  Calls prog 224 #[.agg #[Tv s.a,Tv s.b,Tv s.c,Tv s.d],.slice ao n cap,Uv aa] w λe w'=>e=.returned (.agg (Md.stA (Md.mixN s (Md.lastB n bs aa) (Md.lastN n))))/\Bl w w':=by
 by_cases h:n+9<=64
 ·have e1:Md.lastN n=1:=(by simp[Md.lastN,h])
  have e2:Md.lastB n bs aa=Md.lastTo n 64 bs aa 8:=by funext i;simp[Md.lastB,e1]
  rw[e1,e2];exact a3w s ao n cap 64 aa bs w ht hr hn (Or.inl ⟨rfl,h⟩)
 ·have e1:Md.lastN n=2:=(by simp[Md.lastN,h])
  have e2:Md.lastB n bs aa=Md.lastTo n 128 bs aa 8:=by funext i;simp[Md.lastB,e1]
  rw[e1,e2];exact a3w s ao n cap 128 aa bs w ht hr hn (Or.inr ⟨rfl,om⟩)
def Md.fin (s:Md.St) (done n:Nat) (bs:Nat->Int):Md.St :=
 Md.mixN (Md.mixN s bs (n/64)) (Md.lastB (n%64) (λi=>bs (64*(n/64)+i)) (((done:Int)+n)*8)) (Md.lastN (n%64))
def Sumd (w:World) (s:Md.St) (e:Ending) (w':World):Prop :=
 ∃g,e=.returned (.slice (some (Pv g 0)) 16 16)/\w.heap.size<=g/\w'.heap[g]?=some (.cells (Md.rowB 16 (Md.dg s) 16) 5)/\Bl w w'
theorem a2J (s:Md.St) (ao:OA) (n N cap:Nat) (aa:Int) (bs:Nat->Int) (w:World) (hN:N=n) (ht:Tabs w) (hr:ByteRow w ao n cap bs) (hn:n<64) :
  Calls prog 224 #[.agg #[Tv s.a,Tv s.b,Tv s.c,Tv s.d],.slice ao N cap,Uv aa] w λe w'=>e=.returned (.agg (Md.stA (Md.mixN s (Md.lastB n bs aa) (Md.lastN n))))/\Bl w w':=by
 subst hN;exact a5P s ao N cap aa bs w ht hr hn
theorem a7j (s:Md.St) (b off n cap:Nat) (done:Nat) (bs:Nat->Int) (w:World) (ht:Tabs w) (hd:done<=64) (hn:n<=cap) (hc:n<=140737488351232) (hb:b<w.heap.size)
  (aa:∀i,i<n->w.cell? (Pv b (off+i))=some (.int .u8 (bs i))) :
  Calls prog 217 #[.agg (Md.stA s),Iv done,.slice (some (Pv b off)) n cap] w (Sumd w (Md.fin s done n bs)):=by
 unfold Md.stA;have HC:Hid _:=aa;have HT:Hid _:=ht;have aD:=ht.lt;clear aa ht;obtain⟨W0,af⟩:=nm (w.alloc (.cells #[Tv s.a,Tv s.b,Tv s.c,Tv s.d] 288))
 have ah:Hid (Bl w W0):=(by rw[af.o];exact(b0h _ w).alloc (b0g _) _)
 have HA:Hid (W0.heap[w.heap.size]?=some (.cells (Md.stA s) 288)):=(by rw[af.o];exact a9Z _ _)
 have ai:Hid (w.heap.size+1=W0.heap.size):=(by rw[af.o];simp[Hid])
 have ao:Hid (Tabs W0.drew):=HT.o.below ah.o.drew om;have aq:Hid (ByteRow W0.drew (some (Pv b off)) (64*(n/64)) cap bs):=⟨om,λ_=>⟨b,off,rfl,by show b<W0.heap.size;have:=ai.o;omega,λi hi=>(ah.o.drew.cell (by exact hb)).trans (HC.o i om)⟩⟩
 have av:∀w3:World,Bl w w3->Hid (ByteRow w3.drew (some (Pv b (off+(n-n%64)))) (n%64) (cap-(n-n%64)) (λi=>bs (64*(n/64)+i))):=by
  intro w3 h3;refine⟨om,λ_=>⟨b,off+(n-n%64),rfl,by have:=h3.size;show b<w3.heap.size;omega,λi hi=>(h3.drew.cell (by exact hb)).trans ?_⟩⟩;rw[show off+(n-n%64)+i=off+(64*(n/64)+i) by omega];exact HC.o _ om
 go_enter func217,ntmps217;(go_wp2_with fail);go_region_with (go_at_call 222;rw[<-af.o];refine(a2I s (some (Pv b off)) (n/64) _ cap bs _ om ao.o aq.o om).mono ?_;rintro e w2 ⟨rfl,aj⟩;have c2:=four aj HA.o;obtain⟨au,ar,ax,az,aw,ay,aC,aB⟩:=c2;have am:Hid _:=aj;clear aj)
 all_goals
  have ab:=set4 (s':=Md.mixN s bs (n/64)) ((am.o.block w.heap.size (by have:=ai.o;show _<W0.heap.size;omega)).trans HA.o);have ag:Hid _:=ab.1;have ae:Hid (Bl w _):=ab.2.2 _ _ (b0g _) (ah.o.drew.trans (am.o.mono (by have:=ai.o;show _<=W0.heap.size;omega)));clear ab au ar ax az aw ay aC aB am;generalize ((((w2.setCell (Pv w.heap.size 0) (Tv (Md.mixN s bs (n/64)).a)).setCell (Pv w.heap.size 1) (Tv (Md.mixN s bs (n/64)).b)).setCell (Pv w.heap.size 2) (Tv (Md.mixN s bs (n/64)).c)).setCell (Pv w.heap.size 3) (Tv (Md.mixN s bs (n/64)).d))=w3 at ag ae ⊢;have b0:w3.cell? (Pv w.heap.size 0)=some (Tv (Md.mixN s bs (n/64)).a):=a9Y w3 _ 0 _ _ _ ag.o;have b1:w3.cell? (Pv w.heap.size 1)=some (Tv (Md.mixN s bs (n/64)).b):=a9Y w3 _ 1 _ _ _ ag.o;have b2:w3.cell? (Pv w.heap.size 2)=some (Tv (Md.mixN s bs (n/64)).c):=a9Y w3 _ 2 _ _ _ ag.o;have b3:w3.cell? (Pv w.heap.size 3)=some (Tv (Md.mixN s bs (n/64)).d):=a9Y w3 _ 3 _ _ _ ag.o;have ad:Hid (w.heap.size<=w3.heap.size):=ae.o.size;have ap:Hid (Tabs w3.drew):=HT.o.below ae.o.drew om;clear HC af ah HA ai ao aq HT;by_cases hcw:cap=n-n%64
  ·have ak:Hid (ByteRow w3.drew (some (Pv b off)) (n%64) 0 (λi=>bs (64*(n/64)+i))):=⟨om,λh=>by omega⟩
   (go_wp2_with fail);go_region_with (first | (go_at_call 224;refine(a2J (Md.mixN s bs (n/64)) _ (n%64) _ _ _ _ _ om ap.o ak.o om).mono ?_;rintro e w4 ⟨rfl,ac⟩) | (go_at_call 223;refine(a2H _ _).mono ?_;rintro e w5 ⟨rfl,an,al⟩))
   all_goals go_wp2
   (all_goals go_ret);all_goals exact⟨_,rfl,by have h1:=ad.o;have h2:w3.heap.size<=w4.heap.size:=ac.size;omega,an,(ae.o.drew.trans (ac.mono (by exact ad.o))).trans (al.mono (by have h1:=ad.o;have h2:w3.heap.size<=w4.heap.size:=ac.size;omega))⟩
  ·have ak:Hid (ByteRow w3.drew (some (Pv b (off+(n-n%64)))) (n%64) (cap-(n-n%64)) (λi=>bs (64*(n/64)+i))):=av w3 ae.o;(go_wp2_with fail);go_region_with (first | (go_at_call 224;refine(a2J (Md.mixN s bs (n/64)) _ (n%64) _ _ _ _ _ om ap.o ak.o om).mono ?_;rintro e w4 ⟨rfl,ac⟩) | (go_at_call 223;refine(a2H _ _).mono ?_;rintro e w5 ⟨rfl,an,al⟩))
   all_goals go_wp2
   (all_goals go_ret);all_goals exact⟨_,rfl,by have h1:=ad.o;have h2:w3.heap.size<=w4.heap.size:=ac.size;omega,an,(ae.o.drew.trans (ac.mono (by exact ad.o))).trans (al.mono (by have h1:=ad.o;have h2:w3.heap.size<=w4.heap.size:=ac.size;omega))⟩
theorem fin_zero (s:Md.St) (done:Nat) (bs:Nat->Int):Md.fin s done 0 bs=Md.mixN (Md.mixN s bs 0) (Md.lastB 0 (λi=>bs (64*(0/64)+i)) ((done:Int)*8)) (Md.lastN 0):=by
 simp[Md.fin]
theorem a7k (s:Md.St) (ao:OA) (cap:Nat) (done:Nat) (bs:Nat->Int) (w:World) (ht:Tabs w) (hd:done<=64) :
  Calls prog 217 #[.agg (Md.stA s),Iv done,.slice ao 0 cap] w (Sumd w (Md.fin s done 0 bs)):=by
 rw[fin_zero];have aF:IntKind.u64.wrap ((done:Int)*8)=(done:Int)*8:=(by simp[IntKind.wrap,IntKind.bits,IntKind.signed];omega)
 unfold Md.stA;have HT:Hid _:=ht;have aE:=ht.lt;clear ht;obtain⟨W0,ae⟩:=nm (w.alloc (.cells #[Tv s.a,Tv s.b,Tv s.c,Tv s.d] 288))
 have ai:Hid (Bl w W0):=(by rw[ae.o];exact(b0h _ w).alloc (b0g _) _)
 have HA:Hid (W0.heap[w.heap.size]?=some (.cells (Md.stA s) 288)):=(by rw[ae.o];exact a9Z _ _)
 have an:Hid (w.heap.size+1=W0.heap.size):=(by rw[ae.o];simp[Hid])
 have aq:Hid (Tabs W0.drew):=HT.o.below ai.o.drew om;have au:Hid (ByteRow W0.drew ao (64*0) cap bs):=⟨om,λh=>by omega⟩
 go_enter func217,ntmps217;(go_wp2_with fail);go_region_with (go_at_call 222;rw[<-ae.o];refine(a2I s ao 0 _ cap bs _ om aq.o au.o om).mono ?_;rintro e w2 ⟨rfl,ah⟩;have c2:=four ah HA.o;obtain⟨aw,av,ay,aB,ax,az,aD,aC⟩:=c2;have al:Hid _:=ah;clear ah)
 all_goals
  have ab:=set4 (s':=Md.mixN s bs 0) ((al.o.block w.heap.size (by have:=an.o;show _<W0.heap.size;omega)).trans HA.o);have af:Hid _:=ab.1;have ag:Hid (Bl w _):=ab.2.2 _ _ (b0g _) (ai.o.drew.trans (al.o.mono (by have:=an.o;show _<=W0.heap.size;omega)));clear ab aw av ay aB ax az aD aC al;generalize ((((w2.setCell (Pv w.heap.size 0) (Tv (Md.mixN s bs 0).a)).setCell (Pv w.heap.size 1) (Tv (Md.mixN s bs 0).b)).setCell (Pv w.heap.size 2) (Tv (Md.mixN s bs 0).c)).setCell (Pv w.heap.size 3) (Tv (Md.mixN s bs 0).d))=w3 at af ag ⊢;have b0:w3.cell? (Pv w.heap.size 0)=some (Tv (Md.mixN s bs 0).a):=a9Y w3 _ 0 _ _ _ af.o;have b1:w3.cell? (Pv w.heap.size 1)=some (Tv (Md.mixN s bs 0).b):=a9Y w3 _ 1 _ _ _ af.o;have b2:w3.cell? (Pv w.heap.size 2)=some (Tv (Md.mixN s bs 0).c):=a9Y w3 _ 2 _ _ _ af.o;have b3:w3.cell? (Pv w.heap.size 3)=some (Tv (Md.mixN s bs 0).d):=a9Y w3 _ 3 _ _ _ af.o;have ad:Hid (w.heap.size<=w3.heap.size):=ag.o.size;have ar:Hid (Tabs w3.drew):=HT.o.below ag.o.drew om;clear ae ai HA an aq au HT;by_cases hcw:cap=0
  ·have aj:∀am aa,Hid (ByteRow w3.drew am 0 aa (λi=>bs (64*(0/64)+i))):=λ_ _=>⟨om,λh=>by omega⟩
   (go_wp2_with fail);go_region_with (first | (go_at_call 224;refine(a2J (Md.mixN s bs 0) _ 0 _ _ _ (λi=>bs (64*(0/64)+i)) _ rfl ar.o (aj _ _).out om).mono ?_;rintro e w4 ⟨rfl,ac⟩) | (go_at_call 223;refine(a2H _ _).mono ?_;rintro e w5 ⟨rfl,ap,ak⟩))
   all_goals go_wp2
   (all_goals go_ret);all_goals exact⟨_,rfl,by have h1:=ad.o;have h2:w3.heap.size<=w4.heap.size:=ac.size;omega,ap,(ag.o.drew.trans (ac.mono (by exact ad.o))).trans (ak.mono (by have h1:=ad.o;have h2:w3.heap.size<=w4.heap.size:=ac.size;omega))⟩
  ·have aj:∀am aa,Hid (ByteRow w3.drew am 0 aa (λi=>bs (64*(0/64)+i))):=λ_ _=>⟨om,λh=>by omega⟩
   (go_wp2_with fail);go_region_with (first | (go_at_call 224;refine(a2J (Md.mixN s bs 0) _ 0 _ _ _ (λi=>bs (64*(0/64)+i)) _ rfl ar.o (aj _ _).out om).mono ?_;rintro e w4 ⟨rfl,ac⟩) | (go_at_call 223;refine(a2H _ _).mono ?_;rintro e w5 ⟨rfl,ap,ak⟩))
   all_goals go_wp2
   (all_goals go_ret);all_goals exact⟨_,rfl,by have h1:=ad.o;have h2:w3.heap.size<=w4.heap.size:=ac.size;omega,ap,(ag.o.drew.trans (ac.mono (by exact ad.o))).trans (ak.mono (by have h1:=ad.o;have h2:w3.heap.size<=w4.heap.size:=ac.size;omega))⟩
theorem a3m (s:Md.St) (ao:OA) (n cap:Nat) (done:Nat) (bs:Nat->Int) (w:World) (ht:Tabs w) (hd:done<=64) (hc:n<=140737488351232) (hr:ByteRow w ao n cap bs) :
  Calls prog 217 #[.agg (Md.stA s),Iv done,.slice ao n cap] w (Sumd w (Md.fin s done n bs)):=by
 by_cases h:n=0
 ·subst h;exact a7k s ao cap done bs w ht hd
 ·obtain⟨b,off,rfl,hb,aa⟩:=hr.2 om;exact a7j s b off n cap done bs w ht hd hr.1 hc hb aa
theorem sum_any (ao:OA) (n cap:Nat) (bs:Nat->Int) (w:World) (ht:Tabs w) (hc:n<=140737488351232) (hr:ByteRow w ao n cap bs) :
  Calls prog 221 #[.slice ao n cap] w (Sumd w (Md.fin Md.st0 0 n bs)):=by
 have HT:Hid _:=ht;have HR:Hid _:=hr;have ag:=ht.lt;clear ht hr;go_enter func221,ntmps221;(go_wp2_with fail);refine(a5e _).mono ?_;rintro e w1 ⟨rfl,ab⟩;have ae:Hid (Tabs w1):=HT.o.below ab om;have af:Hid (ByteRow w1 ao n cap bs):=ByteRow.below HR.o ab;have ac:Hid _:=ab;clear ab;(go_wp2_with fail);refine(a3m Md.st0 ao n cap 0 bs _ ae.o om hc af.o).mono ?_;rintro e w2 ⟨g,rfl,hg,aa,ad⟩;have HH:Hid _:=And.intro hg (And.intro aa ad);clear hg aa ad;go_wp2
 go_ret;exact⟨g,rfl,b0p ac.o.size HH.o.1,HH.o.2.1,ac.o.trans (HH.o.2.2.mono ac.o.size)⟩
def Md.kb (n:Nat) (bs:Nat->Int) (i:Nat):Int :=
 if n<=64 then(if i<n then bs i else 0) else(if i<16 then Md.dg (Md.fin Md.st0 0 n bs) i else 0)
theorem a2W:(prog.info? 284).map (·.size)=some 64:=by kernel_rfl
theorem zeros64:(#[.int .u8 0,.int .u8 0,.int .u8 0,.int .u8 0,.int .u8 0,.int .u8 0,.int .u8 0,.int .u8 0,.int .u8 0,.int .u8 0,.int .u8 0,.int .u8 0,.int .u8 0,.int .u8 0,.int .u8 0,.int .u8 0,.int .u8 0,.int .u8 0,.int .u8 0,.int .u8 0,.int .u8 0,.int .u8 0,.int .u8 0,.int .u8 0,.int .u8 0,.int .u8 0,.int .u8 0,.int .u8 0,.int .u8 0,.int .u8 0,.int .u8 0,.int .u8 0,.int .u8 0,.int .u8 0,.int .u8 0,.int .u8 0,.int .u8 0,.int .u8 0,.int .u8 0,.int .u8 0,.int .u8 0,.int .u8 0,.int .u8 0,.int .u8 0,.int .u8 0,.int .u8 0,.int .u8 0,.int .u8 0,.int .u8 0,.int .u8 0,.int .u8 0,.int .u8 0,.int .u8 0,.int .u8 0,.int .u8 0,.int .u8 0,.int .u8 0,.int .u8 0,.int .u8 0,.int .u8 0,.int .u8 0,.int .u8 0,.int .u8 0,.int .u8 0]:Array Value)=(a0e 64 (λ_=>0)).toArray:=rfl
theorem a8v {w':World}{g:Nat}{s:Md.St}(h:w'.heap[g]?=some (.cells (Md.rowB 16 (Md.dg s) 16) 5)):ByteRow w' (some (Pv g 0)) 16 16 (Md.dg s):=by
 refine⟨b0g _,λ_=>⟨g,0,rfl,b0r ((a9Y w' g 0 _ _ _ h).trans (Md.rowB_get _ _ _ _ om)),λi hi => ?_⟩⟩;rw[Nat.zero_add];refine(a9Y w' g i _ _ _ h).trans ?_;rw[Md.rowB_get _ _ _ _ hi,iP hi]
theorem a6D {w1:World}{g n:Nat}{bs:Nat->Int}(h:Hid (w1.heap[g]?=some (.cells (splice (a0e 64 (λ_=>0)) 0 (a0e n bs)).toArray 284))) (hn:n<=64) :
  Hid (w1.heap[g]?=some (.cells (rowF 64 (λi=>if i<n then bs i else 0)) 284)):=by
 have h':=h.o;rw[a4i 64 n bs hn] at h';exact h'
theorem a5f (ao:OA) (n cap:Nat) (bs:Nat->Int) (w:World) (ht:Tabs w) (hc:n<=140737488351232) (hr:ByteRow w ao n cap bs) :
  Calls prog 216 #[.slice ao n cap] w λe w'=>e=.returned (.agg (rowF 64 (Md.kb n bs)))/\Bl w w':=by
 have HT:Hid _:=ht;have HR:Hid (ByteRow w ao n cap bs):=hr;have ar:=ht.lt;clear ht hr;obtain⟨W0,ad⟩:=nm ((w.alloc (.cells (a0e 64 (λ_=>0)).toArray 284)).alloc (.cells (a0e 64 (λ_=>0)).toArray 284))
 have aa:Hid (Bl w W0):=(by rw[ad.o];exact((b0h _ w).alloc (b0g _) _).alloc (by simp) _)
 have HA:Hid (W0.heap[w.heap.size]?=some (.cells (a0e 64 (λ_=>0)).toArray 284)):=(by rw[ad.o];exact b0d _ _ _)
 have HB:Hid (W0.heap[w.heap.size+1]?=some (.cells (a0e 64 (λ_=>0)).toArray 284)):=(by rw[ad.o];exact b0c _ _ _)
 have ai:Hid (w.heap.size+2=W0.heap.size):=(by rw[ad.o];simp[Hid])
 have HW:Hid _:=ad.o;rw[<-zeros64] at HW;by_cases hn:64<n
 ·have HF:Hid (rowF 64 (Md.kb n bs)=rowF 64 (λi=>if i<16 then Md.dg (Md.fin Md.st0 0 n bs) i else 0)):=a1y _ _ _ (λi _=>by unfold Md.kb;rw[iN om]);have am:Hid (Tabs W0):=HT.o.below aa.o om;have ae:Hid (ByteRow W0 ao n cap bs):=HR.o.below aa.o;rw[HF.o];go_enter func216,ntmps216;(go_wp2_with fail);rw[<-HW.o];refine(sum_any ao n cap bs _ am.o hc ae.o).mono ?_;rintro e w1 ⟨g,rfl,hg,af,ak⟩;have an:Hid (w1.heap[w.heap.size]?=some (.cells (a0e 64 (λ_=>0)).toArray 284)):=(ak.block _ (by have:=ai.o;omega)).trans HA.o;have aq:Hid (w1.heap[w.heap.size+1]?=some (.cells (a0e 64 (λ_=>0)).toArray 284)):=(ak.block _ (by have:=ai.o;omega)).trans HB.o;have aj:Hid (Bl w w1):=aa.o.trans (ak.mono (by have:=ai.o;omega));have ap:Hid (ByteRow w1 (some (Pv g 0)) 16 16 (Md.dg (Md.fin Md.st0 0 n bs))):=a8v af;clear hg af ak HA HB aa am ae HT HR ai HF HW ad;go_wp2_with (first | (refine wpList_copy_splice rfl (.tmp 9) (.tmp 10) 29 29 rfl 5 underlying29 a8p _ _ _ _ _ _ rfl rfl (w.heap.size+1) 0 (a0e 64 (λ_=>0)) 284 aq.o (a0e 16 (Md.dg (Md.fin Md.st0 0 n bs))) (by rw[a0g];rfl) (λhp=>⟨rfl,a6A ap.o (b0g _) hp⟩) (by simp only[a0g];omega) (a1P _ _) (w.heap.size+1) _ (b0h _ _) (b0g _) ?_;intro w2 ag ab;rw[a0g];have al:=a6D ag om;have ah:Hid _:=(ab.block w.heap.size om).trans an.o;have ac:Hid _:=aj.o.trans (ab.mono om);clear ag ab an aq aj ap) | refine wpList_load_row rfl 284 _ rfl (w.heap.size+1) rfl 284 _ (0,0) _ al.o underlying284 rfl (by rw[a2W,a0H]) ?_ | refine wpList_store_row rfl 284 _ _ rfl w.heap.size (rowF 64 (λi=>if i<16 then Md.dg (Md.fin Md.st0 0 n bs) i else 0)) rfl rfl 284 _ ah.o (by rw[a2W,a0H]) (by rw[a0H];rfl) (a4E _ _) ?_)
  exact b0b (v:=.agg (rowF 64 (λi=>if i<16 then Md.dg (Md.fin Md.st0 0 n bs) i else 0))) (results_cell_row (p:=2) (ty:=284) rfl _ _ w.heap.size 284 _ (0,0) _ rfl (setRow_heap _ _ _ _ _ _ ah.o) underlying284 rfl (by rw[a2W,a0H])) rfl ⟨rfl,below_setRow ac.o (b0g _) _⟩
 ·have HF:Hid (rowF 64 (Md.kb n bs)=rowF 64 (λi=>if i<n then bs i else 0)):=a1y _ _ _ (λi _=>by unfold Md.kb;rw[iP om]);have ae:Hid (ByteRow W0 ao n cap bs):=HR.o.below aa.o;rw[HF.o];rw[HW.o] at HA HB aa ae;clear HT HR ai HF HW ad;go_enter func216,ntmps216;go_wp2_with (first | (refine wpList_copy_splice rfl (.tmp 9) (.tmp 10) 29 29 rfl 5 underlying29 a8p _ _ _ _ _ _ rfl rfl (w.heap.size+1) 0 (a0e 64 (λ_=>0)) 284 HB.o (a0e n bs) (by rw[a0g];exact(Nat.min_eq_left om).symm) (λhp=>⟨rfl,a6A ae.o (b0g _) hp⟩) (by simp only[a0g];omega) (a1P _ _) (w.heap.size+1) _ (b0h _ _) (b0g _) ?_;intro w2 ag ab;rw[a0g];have al:=a6D ag om;have ah:Hid _:=(ab.block w.heap.size om).trans HA.o;have ac:Hid _:=aa.o.trans (ab.mono om);clear ag ab HA HB aa ae) | refine wpList_load_row rfl 284 _ rfl (w.heap.size+1) rfl 284 _ (0,0) _ al.o underlying284 rfl (by rw[a2W,a0H]) ?_ | refine wpList_store_row rfl 284 _ _ rfl w.heap.size (rowF 64 (λi=>if i<n then bs i else 0)) rfl rfl 284 _ ah.o (by rw[a2W,a0H]) (by rw[a0H];rfl) (a4E _ _) ?_)
  exact b0b (v:=.agg (rowF 64 (λi=>if i<n then bs i else 0))) (results_cell_row (p:=2) (ty:=284) rfl _ _ w.heap.size 284 _ (0,0) _ rfl (setRow_heap _ _ _ _ _ _ ah.o) underlying284 rfl (by rw[a2W,a0H])) rfl ⟨rfl,below_setRow ac.o (b0g _) _⟩
def Md.xk (K:Nat->Int) (mask:Int) (i:Nat):Int:=bits BinOp.xor IntKind.u8 (K i) mask
def Md.xkTo (K:Nat->Int) (mask:Int) (k i:Nat):Int:=if i<k then Md.xk K mask i else K i
theorem a8w (K:Nat->Int) (aa:Int) (k i:Nat):(if i=k then Md.xk K aa k else Md.xkTo K aa k i)=Md.xkTo K aa (k+1) i:=by
 unfold Md.xkTo;by_cases h:i=k
 ·subst h;simp
 ·rw[iN h];have:(i<k)↔(i<k+1):=om
  simp only[this]
theorem a8x (w:World) :
  Calls prog 226 #[] w λe w'=>e=.returned (.agg #[Tv Md.st0.a,Tv Md.st0.b,Tv Md.st0.c,Tv Md.st0.d])/\Bl w w':=a5e w
theorem four' {w1 w2:World}{g:Nat}{q:Md.St}(hb:w2.heap[g]?=w1.heap[g]?) (hA:w1.heap[g]?=some (.cells (Md.stA q) 288)) :
  w2.heap[g]?=some (.cells (Md.stA q) 288)/\w2.cell? (Pv g 0)=some (Tv q.a)/\w2.cell? (Pv g 1)=some (Tv q.b)/\w2.cell? (Pv g 2)=some (Tv q.c)/\w2.cell? (Pv g 3)=some (Tv q.d) /\
  w2.frozen? (Pv g 0)=false/\w2.frozen? (Pv g 1)=false/\w2.frozen? (Pv g 2)=false/\w2.frozen? (Pv g 3)=false:=by
 have h2:w2.heap[g]?=some (.cells (Md.stA q) 288):=hb.trans hA;exact⟨h2,a9Y w2 g 0 _ _ _ h2,a9Y w2 g 1 _ _ _ h2,a9Y w2 g 2 _ _ _ h2,a9Y w2 g 3 _ _ _ h2,b0a _ _ _ _ _ h2,b0a _ _ _ _ _ h2,b0a _ _ _ _ _ h2,b0a _ _ _ _ _ h2⟩
theorem a4m (K:Nat->Int) (aa:Int) (w:World) (ht:Tabs w) :
  Calls prog 218 #[.agg (rowF 64 K),.int .u8 aa] w λe w'=>e=.returned (.agg (Md.stA (Md.mixS Md.st0 (Md.xk K aa))))/\Bl w w':=by
 have HT:Hid _:=ht;have ao:=ht.lt;clear ht;go_enter func218,ntmps218;(go_wp2_with fail);go_loopw [6] (λi wr=>∃k:Nat,k<=64/\i=Iv k/\Hid (wr.heap[w.heap.size]?=some (.cells (rowF 64 (Md.xkTo K aa k)) 284)/\wr.heap[w.heap.size+1]?=some (.cells (Md.stA ⟨0,0,0,0⟩) 288)/\Bl w wr)) (λi _=>64-(intOf i).toNat)
 case atStart=>exact⟨0,om,rfl,b0d w _ _,b0c w _ _,((b0h _ _).alloc (b0g _) _).alloc (by simp) _⟩
 case round =>
  obtain⟨k,hk,rfl,hX⟩:=hrel;by_cases hlt:k<64
  ·have c4:wr.cell? (Pv w.heap.size k)=some (.int .u8 (K k)):=(a9Y wr _ _ _ _ _ hX.o.1).trans ((a0Q _ _ _ hlt).trans (by simp[Md.xkTo]));have f4:wr.frozen? (Pv w.heap.size k)=false:=b0a _ _ _ _ _ hX.o.1;have HX:Hid ((wr.setCell (Pv w.heap.size k) (.int .u8 (Md.xk K aa k))).heap[w.heap.size]?=some (.cells (rowF 64 (Md.xkTo K aa (k+1))) 284)/\(wr.setCell (Pv w.heap.size k) (.int .u8 (Md.xk K aa k))).heap[w.heap.size+1]?=some (.cells (Md.stA ⟨0,0,0,0⟩) 288)/\Bl w (wr.setCell (Pv w.heap.size k) (.int .u8 (Md.xk K aa k)))):=by
    refine⟨?_,?_,hX.o.2.2.setCell (b0g _) _⟩
    ·rw[b0e _ _ _ _ _ _ hX.o.1,a2F _ _ _ _ hlt,a1y _ _ _ (λi _=>a8w K aa k i)]
    ·rw[b0f _ _ _ _ (by simp)];exact hX.o.2.1
   clear hX;go_wp2
   exact⟨⟨k+1,om,gn,HX⟩,io⟩
  ·obtain rfl:k=64:=om
   have HB:Hid (wr.heap[w.heap.size+1]?=some (.cells (Md.stA ⟨0,0,0,0⟩) 288)):=hX.o.2.1;have ae:Hid (Bl w wr):=hX.o.2.2;have ak:w.heap.size+1<wr.heap.size:=b0r (a9Y wr _ 0 _ _ _ HB.o);have ai:Hid (∀w1,Bl wr w1->Tabs w1):=λw1 h1=>HT.o.below (ae.o.trans (h1.mono om)) om;have HC:Hid (∀w1,Bl wr w1->∀i,i<64->w1.cell? (Pv w.heap.size (0+i))=some (.int .u8 (Md.xk K aa i))):=by
    intro w1 h1 i hi;rw[Nat.zero_add,h1.cell (by show w.heap.size<wr.heap.size;omega)];exact(a9Y wr _ _ _ _ _ hX.o.1).trans ((a0Q _ _ _ hi).trans (by simp[Md.xkTo,hi]))
   clear hX HT;(go_wp2_with fail);go_region_with (first | (go_at_call 226;refine(a8x _).mono ?_;rintro e w1 ⟨rfl,ag⟩;have ab:Hid (Bl wr w1):=(b0h _ wr).drew.trans ag;clear ag) | (go_at_call 225;refine(a8u Md.st0 w.heap.size 0 64 (Md.xk K aa) _ (ai.o _ ab.o) (by have:=ab.o.size;omega) (b0g _) (HC.o _ ab.o)).mono ?_;rintro e w2 ⟨rfl,ad⟩;have c2:=four' (ad.block (w.heap.size+1) (by have:=ab.o.size;omega)) ((ab.o.block (w.heap.size+1) om).trans HB.o);obtain⟨af,an,al,ar,ap,aq,am,av,au⟩:=c2;have ah:Hid _:=af;have aj:Hid _:=ad;clear ad af))
   all_goals go_wp2
   all_goals
    have ac:=set4 (s':=Md.mixS Md.st0 (Md.xk K aa)) ah.o;exact b0b (v:=.agg (Md.stA (Md.mixS Md.st0 (Md.xk K aa)))) (results_cell_row (p:=4) (ty:=288) rfl _ _ (w.heap.size+1) 288 _ (0,0) _ rfl ac.1 underlying288 rfl (by rw[a3v,Md.stA_size])) rfl ⟨rfl,ac.2.2 _ _ om ((ae.o.trans (ab.o.mono om)).trans (aj.o.mono (by have:=ab.o.size;omega)))⟩
def Md.mac (kn:Nat) (kbs:Nat->Int) (n:Nat) (bs:Nat->Int):Md.St :=
 Md.fin (Md.mixS Md.st0 (Md.xk (Md.kb kn kbs) 92)) 64 16 (Md.dg (Md.fin (Md.mixS Md.st0 (Md.xk (Md.kb kn kbs) 54)) 64 n bs))
theorem mac_any (ko ao:OA) (kn aa n cap:Nat) (ad bs:Nat->Int) (w:World) (ht:Tabs w) (aD:kn<=140737488351232) (hc:n<=140737488351232) (hk:ByteRow w ko kn aa ad) (hr:ByteRow w ao n cap bs) :
  Calls prog 212 #[.slice ko kn aa,.slice ao n cap] w (Sumd w (Md.mac kn ad n bs)):=by
 have HT:Hid _:=ht;have HR:Hid (ByteRow w ao n cap bs):=hr;have HK:Hid (ByteRow w ko kn aa ad):=hk;have aE:=ht.lt;clear ht hr hk;unfold Md.mac;generalize hKb:Md.kb kn ad=K;have ay:Hid (Md.kb kn ad=K):=hKb;clear hKb;go_enter func212,ntmps212;(go_wp2_with fail);refine(a5f ko kn aa ad _ HT.o aD HK.o).mono ?_;rintro e w1 ⟨rfl,au⟩;have aj:Hid (Bl w w1):=au;clear au HK;rw[ay.o];have HL:Hid ((w1.alloc (.cells (rowF 64 K) 284)).heap[w1.heap.size]?=some (.cells (rowF 64 K) 284)):=a9Z _ _;have ae:Hid (Bl w (w1.alloc (.cells (rowF 64 K) 284))):=aj.o.alloc aj.o.size _;have HZ:Hid (w1.heap.size<(w1.alloc (.cells (rowF 64 K) 284)).heap.size):=(by simp[Hid])
 go_wp2_with (first | (refine wpList_store_row rfl 284 _ _ rfl (w1.heap.size) _ rfl rfl 284 _ (a9Z _ _) (by rw[a2W,a0H]) (by rw[a0H];rfl) (a4E _ _) ?_;rw[World.setRow_alloc_new]) | refine wpList_load_row rfl 284 _ rfl w1.heap.size rfl 284 _ (0,0) _ HL.o underlying284 rfl (by rw[a2W,a0H]) ?_)
 generalize w1.alloc (.cells (rowF 64 K) 284)=W2 at HL ae HZ ⊢;have aF:Hid (w.heap.size<=w1.heap.size):=aj.o.size;refine(a4m K 54 _ (HT.o.below ae.o om)).mono ?_;rintro e w3 ⟨rfl,ag⟩;have af:Hid (Bl w w3):=ae.o.trans (ag.mono ae.o.size);have ax:Hid (w3.heap[w1.heap.size]?=_):=(ag.block _ HZ.o).trans HL.o;have av:Hid (w1.heap.size<w3.heap.size):=(by have:=HZ.o;have:=ag.size;show _<_;omega)
 have an:Hid (ByteRow w3 ao n cap bs):=HR.o.below af.o;have aq:Hid (Tabs w3):=HT.o.below af.o om;clear ag HL ae HZ HR;(go_wp2_with fail);refine(a3m (Md.mixS Md.st0 (Md.xk K 54)) ao n cap 64 bs _ aq.o om hc an.o).mono ?_;rintro e w4 ⟨g,rfl,hg,ac,al⟩;have ai:Hid (Bl w w4):=af.o.trans (al.mono af.o.size);have ar:Hid (w4.heap[w1.heap.size]?=some (.cells (rowF 64 K) 284)):=(al.block _ av.o).trans ax.o;have ap:Hid (ByteRow w4 (some (Pv g 0)) 16 16 (Md.dg (Md.fin (Md.mixS Md.st0 (Md.xk K 54)) 64 n bs))):=a8v ac;have aC:Hid (g<w4.heap.size):=b0r ((a9Y w4 g 0 _ _ _ ac).trans (Md.rowB_get _ _ _ _ om));clear hg ac al af ax av an aq;go_wp2_with (refine wpList_load_row rfl 284 _ rfl w1.heap.size rfl 284 _ (0,0) _ ar.o underlying284 rfl (by rw[a2W,a0H]) ?_)
 refine(a4m K 92 _ (HT.o.below ai.o om)).mono ?_;rintro e w5 ⟨rfl,ak⟩;have ah:Hid (Bl w w5):=ai.o.trans (ak.mono ai.o.size);have aB:Hid (ByteRow w5 (some (Pv g 0)) 16 16 (Md.dg (Md.fin (Md.mixS Md.st0 (Md.xk K 54)) 64 n bs))):=ByteRow.below ap.o ak;have az:Hid (Tabs w5):=HT.o.below ah.o om;clear ak ai ar ap aC HT aj;(go_wp2_with fail);refine(a3m (Md.mixS Md.st0 (Md.xk K 92)) _ 16 16 64 _ _ az.o om om aB.o).mono ?_;rintro e w6 ⟨g6,rfl,am,ab,aw⟩;have HH:Hid _:=And.intro am (And.intro ab aw);clear am ab aw;go_wp2
 go_ret;exact⟨g6,rfl,b0p ah.o.size HH.o.1,HH.o.2.1,ah.o.trans (HH.o.2.2.mono ah.o.size)⟩
