/- walks: sumBehind of nothing; of whatever bytes; Sum -/
import Derived.Test.YtaneiffnhphkhaaGreatDoorD02
import Derived.Deep.QuietTactic
import Derived.BigQuiet
import Derived.Deep.RegionWith
import Derived.Laws.CopyOwn
set_option maxRecDepth 100000
set_option maxHeartbeats 40000000
namespace Go.Proofs.YtaneiffnhphkhaaGreatDoor
section
open Go.RowKit
structure Tabs (w:World):Prop where
 adds:∀i,i<64→w.cell? ⟨0,i,none⟩=some (.int .u32 (Md.tabAt i))
 turn:∀i,i<16→w.cell? ⟨1,i,none⟩=some (.int .i64 (Md.trnAt i))
theorem Tabs.lt {w:World}(h:Tabs w):1<w.heap.size:=block_lt_of_cell (h.turn 0 (by decide))
theorem Tabs.below {w w':World}{B:Nat}(h:Tabs w) (hb:Below B w w') (hB:2≤B):Tabs w' :=
 ⟨fun i hi=>(hb.cell (by show 0<B;omega)).trans (h.adds i hi),fun i hi=>(hb.cell (by show 1<B;omega)).trans (h.turn i hi)⟩
theorem w64id (n:Int) (h0:0≤n) (h1:n<100):IntKind.i64.wrap n=n:=by
 simp[IntKind.wrap,IntKind.bits,IntKind.signed];omega
theorem size34:(Tryz.prog.info? 231).map (·.size)=some 4:=by kernel_rfl
theorem mix_any (s:Md.St) (b off cap:Nat) (bs:Nat→Int) (w:World) (ht:Tabs w) (hb:b<w.heap.size) (hcap:64≤cap) (hc:∀i,i<64→w.cell? ⟨b,off+i,none⟩=some (.int .u8 (bs i))) :
  Calls Tryz.prog 176 #[Md.stV s,.slice (some ⟨b,off,none⟩) 64 cap] w fun e w'=>e=.returned (Md.stV (Md.mixS s bs))∧Bl w w':=by
 have HT:Hid (Tabs w):=ht;have hbt:=ht.lt;clear ht;unfold Md.stV;go_enter Tryz.func176,Tryz.ntmps176;(go_wp2_with fail);refine(words_any b off cap bs _ (by simp;omega) hcap (fun i hi => ?_)).mono ?_
 ·rw[World.cell?_alloc_past _ _ _ (by simp;omega),World.cell?_alloc_past _ _ _ hb];exact hc i hi
 rintro e w1 ⟨rfl,hb1⟩;have hA:w1.heap[w.heap.size]?=some (.cells #[.int .u32 s.a,.int .u32 s.b,.int .u32 s.c,.int .u32 s.d] 231):=(hb1.block w.heap.size (by simp;omega)).trans (heap_alloc2_old w _ _);have hB:w1.heap[w.heap.size+1]?=some (.cells #[.int .u32 0,.int .u32 0,.int .u32 0,.int .u32 0] 231):=(hb1.block _ (by simp)).trans (heap_alloc2_new w _ _);have hz:w.heap.size+2≤w1.heap.size:=(by have:=hb1.size;simpa using this)
 have hbel:Bl w w1:=(((Below.refl _ w).alloc (Nat.le_refl _) _).alloc (by simp) _).trans (hb1.mono (by simp;omega));clear hb1;have cA:=fun j=>cell_of_row w1 _ j _ _ _ hA;have hs0:w1.cell? ⟨w.heap.size,0,none⟩=some (.int .u32 s.a):=cA 0;have hs1:w1.cell? ⟨w.heap.size,1,none⟩=some (.int .u32 s.b):=cA 1;have hs2:w1.cell? ⟨w.heap.size,2,none⟩=some (.int .u32 s.c):=cA 2;have hs3:w1.cell? ⟨w.heap.size,3,none⟩=some (.int .u32 s.d):=cA 3;have HA:=Hid.out (p:=Hid _) (show Hid (Hid _) from hA);have HB:Hid _:=hB;clear cA hA hB hc;go_wp2_with (refine wpList_store_row rfl 239 _ _ rfl (w1.heap.size) _ rfl rfl 239 _ (heap_alloc_last _ _) (by rw[size50,Md.rowU_size]) (by simp[Md.rowU_size]) (Md.rowU_all _ _ _) ?_;rw[World.setRow_alloc_new])
 have i0:w.heap.size<w1.heap.size:=(by omega)
 (go_quiet (fail));go_wp2
 go_loopw [6,7,8,9,24] (fun ra rb rc rd i wr=>∃k:Nat,k≤64∧i=.int .i64 k∧ra=.int .u32 (Md.runTo bs k s).a∧rb=.int .u32 (Md.runTo bs k s).b∧rc=.int .u32 (Md.runTo bs k s).c∧rd=.int .u32 (Md.runTo bs k s).d∧wr.heap[w1.heap.size]?=some (.cells (Md.rowU 16 (Md.wd bs) 16) 239)∧Bl w1 wr) (fun _ _ _ _ i _=>64-(intOf i).toNat)
 case atStart=>exact⟨0,by omega,rfl,rfl,rfl,rfl,rfl,heap_alloc_last _ _,below_drewN ((Below.refl _ w1).alloc (Nat.le_refl _) _) _⟩
 case round =>
  obtain⟨k,hk,rfl,rfl,rfl,rfl,rfl,hW,hbw⟩:=hrel;by_cases hlt:k<64
  ·have hT:Tabs wr:=HT.out.below (B:=w.heap.size) (hbel.trans (hbw.mono (by omega))) (by omega);have t0:wr.cell? ⟨0,k,none⟩=some (.int .u32 (Md.tabAt k)):=hT.adds k hlt;have t1:wr.cell? ⟨1,k/16*4+k%4,none⟩=some (.int .i64 (Md.trnAt (k/16*4+k%4))):=hT.turn _ (by omega);have t2:wr.cell? ⟨w1.heap.size,Md.ksel k,none⟩=some (.int .u32 (Md.wd bs (Md.ksel k))):=(cell_of_row wr _ _ _ _ _ hW).trans (by rw[Md.rowU_get _ _ _ _ (Md.ksel_lt k)];simp[Md.ksel_lt k]);have hr:=Md.trnAt_range (k/16*4+k%4) (by omega);have hr0:=hr.1;have hr1:=hr.2;have hks:((Md.ksel k:Nat):Int)<16:=(by have:=Md.ksel_lt k;omega)
   have HX:Hid (Md.runTo bs (k+1) s=⟨(Md.runTo bs k s).d,((Md.runTo bs k s).b+Md.rotl (((Md.runTo bs k s).a+Md.fsel k (Md.runTo bs k s).b (Md.runTo bs k s).c (Md.runTo bs k s).d+Md.tabAt k+Md.wd bs (Md.ksel k))%4294967296) (Md.trnAt (k/16*4+k%4)))%4294967296,(Md.runTo bs k s).b,(Md.runTo bs k s).c⟩):=rfl;have HW:Hid _:=hW;have HBW:Hid _:=hbw;have HBL:Hid _:=hbel;clear hr hT hW hbw hbel hs0 hs1 hs2 hs3;generalize Md.runTo bs k s=q at *;(go_wp2_with fail);refine(choose_any k _ _ _ _ hlt).mono ?_;rintro e w2 ⟨rfl,rfl⟩;obtain⟨r,hr⟩:∃r,r=k/16:=⟨_,rfl⟩
   obtain⟨j,hj⟩:∃j,j=k%4:=⟨_,rfl⟩
   have k1:IntKind.i64.wrap ((k:Int)/16)=(r:Int):=(by rw[w64id _ (by omega) (by omega)];omega)
   have k2:Int.tmod (k:Int) 4=(j:Int):=(by rw[Int.tmod_eq_emod_of_nonneg (by omega)];omega)
   have k3:r<4:=(by omega)
   have k4:j<4:=(by omega)
   have k5:(r:Int)<4:=(by omega)
   have k6:(j:Int)<4:=(by omega)
   rw[←hr,←hj] at t1 hr0 hr1 HX;have HR:Hid (r=k/16):=hr;have HJ:Hid (j=k%4):=hj;clear hr hj;(go_wp2_with fail);go_quiet ((go_at_call 180;refine Calls.quiet_of_same (rot_any _ _ _ (by assumption) (by assumption))))
   go_wp2
   refine⟨⟨k+1,by omega,by go_num,?_⟩,by simp[intOf];omega⟩;rw[HX.out];exact⟨rfl,rfl,rfl,rfl,HW.out,below_drewN HBW.out _⟩
  ·obtain rfl:k=64:=by omega
   have hbl:w.heap.size<w1.heap.size:=(by omega)
   have gA:wr.heap[w.heap.size]?=_:=(hbw.block _ hbl).trans HA.out;have gB:wr.heap[w.heap.size+1]?=_:=(hbw.block _ (by omega)).trans HB.out;have cA:=fun j=>cell_of_row wr _ j _ _ _ gA;have ws0:wr.cell? ⟨w.heap.size,0,none⟩=some (.int .u32 s.a):=cA 0;have ws1:wr.cell? ⟨w.heap.size,1,none⟩=some (.int .u32 s.b):=cA 1;have ws2:wr.cell? ⟨w.heap.size,2,none⟩=some (.int .u32 s.c):=cA 2;have ws3:wr.cell? ⟨w.heap.size,3,none⟩=some (.int .u32 s.d):=cA 3;have HX:Hid (Md.mixS s bs=⟨(s.a+(Md.runTo bs 64 s).a)%4294967296,(s.b+(Md.runTo bs 64 s).b)%4294967296,(s.c+(Md.runTo bs 64 s).c)%4294967296,(s.d+(Md.runTo bs 64 s).d)%4294967296⟩):=rfl;have HBW:Hid _:=hbw;have HBL:Hid _:=hbel;have HGB:Hid _:=gB;clear cA gA hW hbw hbel hs0 hs1 hs2 hs3 gB;generalize Md.runTo bs 64 s=q at *;go_wp2_with (refine wpList_store_row rfl 231 _ _ rfl (w.heap.size+1) #[.int .u32 ((s.a+q.a)%4294967296),.int .u32 ((s.b+q.b)%4294967296),.int .u32 ((s.c+q.c)%4294967296),.int .u32 ((s.d+q.d)%4294967296)] rfl rfl 231 _ HGB.out (by rw[size34];rfl) (by rfl) (Md.all4 _ _ _ _) ?_)
   rw[HX.out];exact bodyPost_ret (v:=.agg #[.int .u32 ((s.a+q.a)%4294967296),.int .u32 ((s.b+q.b)%4294967296),.int .u32 ((s.c+q.c)%4294967296),.int .u32 ((s.d+q.d)%4294967296)]) (results_cell_row (p:=4) (ty:=231) rfl _ _ (w.heap.size+1) 231 _ (0,0) _ rfl (setRow_heap _ _ _ _ _ _ HGB.out) Tryz.underlying231 rfl (by rw[size34];rfl)) rfl ⟨rfl,below_setRow (HBL.out.trans (HBW.out.mono (by omega))) (by omega) _⟩
theorem mix_out (s:Md.St) (b off cap:Nat) (bs:Nat→Int) (w:World) (ht:Tabs w) (hb:b<w.heap.size) (hcap:64≤cap) (hc:∀i,i<64→w.cell? ⟨b,off+i,none⟩=some (.int .u8 (bs i))) :
  Calls Tryz.prog 176 #[.agg #[.int .u32 s.a,.int .u32 s.b,.int .u32 s.c,.int .u32 s.d],.slice (some ⟨b,off,none⟩) 64 cap] w fun e w'=>e=.returned (.agg #[.int .u32 (Md.mixS s bs).a,.int .u32 (Md.mixS s bs).b,.int .u32 (Md.mixS s bs).c,.int .u32 (Md.mixS s bs).d])∧Bl w w' :=
 mix_any s b off cap bs w ht hb hcap hc
theorem set4 {w:World}{g:Nat}{q s':Md.St}(hA:w.heap[g]?=some (.cells (Md.stA q) 231)) :
  ((((w.setCell ⟨g,0,none⟩ (.int .u32 s'.a)).setCell ⟨g,1,none⟩ (.int .u32 s'.b)).setCell ⟨g,2,none⟩ (.int .u32 s'.c)).setCell ⟨g,3,none⟩ (.int .u32 s'.d)).heap[g]?=some (.cells (Md.stA s') 231) ∧
  (∀k,k≠g→((((w.setCell ⟨g,0,none⟩ (.int .u32 s'.a)).setCell ⟨g,1,none⟩ (.int .u32 s'.b)).setCell ⟨g,2,none⟩ (.int .u32 s'.c)).setCell ⟨g,3,none⟩ (.int .u32 s'.d)).heap[k]?=w.heap[k]?) ∧
  (∀B a,B≤g→Below B a w→Below B a ((((w.setCell ⟨g,0,none⟩ (.int .u32 s'.a)).setCell ⟨g,1,none⟩ (.int .u32 s'.b)).setCell ⟨g,2,none⟩ (.int .u32 s'.c)).setCell ⟨g,3,none⟩ (.int .u32 s'.d))):=by
 refine⟨?_,fun k hk => ?_,fun B a hB hb=>(((hb.setCell hB _).setCell hB _).setCell hB _).setCell hB _⟩
 ·rw[heap_setCell_same _ _ _ _ _ _ (heap_setCell_same _ _ _ _ _ _ (heap_setCell_same _ _ _ _ _ _ (heap_setCell_same _ _ _ _ _ _ hA)))];rfl
 ·rw[heap_setCell_other _ _ _ _ hk,heap_setCell_other _ _ _ _ hk,heap_setCell_other _ _ _ _ hk,heap_setCell_other _ _ _ _ hk]
theorem four {wr w2:World}{g:Nat}{q:Md.St}(hb:Below wr.drew.heap.size wr.drew w2) (hA:wr.heap[g]?=some (.cells (Md.stA q) 231)) :
  w2.cell? ⟨g,0,none⟩=some (.int .u32 q.a)∧w2.cell? ⟨g,1,none⟩=some (.int .u32 q.b)∧w2.cell? ⟨g,2,none⟩=some (.int .u32 q.c)∧w2.cell? ⟨g,3,none⟩=some (.int .u32 q.d) ∧
  w2.frozen? ⟨g,0,none⟩=false∧w2.frozen? ⟨g,1,none⟩=false∧w2.frozen? ⟨g,2,none⟩=false∧w2.frozen? ⟨g,3,none⟩=false:=by
 have hlt:g<wr.heap.size:=block_lt_of_cell (cell_of_row wr g 0 _ _ _ hA);have h2:w2.heap[g]?=some (.cells (Md.stA q) 231):=(hb.block g hlt).trans hA;exact⟨cell_of_row w2 g 0 _ _ _ h2,cell_of_row w2 g 1 _ _ _ h2,cell_of_row w2 g 2 _ _ _ h2,cell_of_row w2 g 3 _ _ _ h2,frozen_of_row _ _ _ _ _ h2,frozen_of_row _ _ _ _ _ h2,frozen_of_row _ _ _ _ _ h2,frozen_of_row _ _ _ _ _ h2⟩
theorem mixAll_any (s:Md.St) (ao:Option Addr) (m cap:Nat) (bs:Nat→Int) (w:World) (ht:Tabs w) (hr:ByteRow w ao (64*m) cap bs) (hm:64*m≤140737488355328) :
  Calls Tryz.prog 173 #[.agg (Md.stA s),.slice ao (64*m) cap] w fun e w'=>e=.returned (.agg (Md.stA (Md.mixN s bs m)))∧Bl w w':=by
 have HT:Hid (Tabs w):=ht;have HR:Hid _:=hr;have hbt:=ht.lt;clear ht hr;unfold Md.stA;go_enter Tryz.func173,Tryz.ntmps173;go_wp2
 go_loopw [5] (fun i wr=>∃k:Nat,k≤m∧i=.int .i64 (64*k)∧wr.heap[w.heap.size]?=some (.cells (Md.stA (Md.mixN s bs k)) 231)∧wr.heap[w.heap.size+1]?=some (.cells (Md.stA ⟨0,0,0,0⟩) 231)∧Bl w wr) (fun i _=>64*m-(intOf i).toNat)
 case atStart=>exact⟨0,by omega,rfl,heap_alloc2_old w _ _,heap_alloc2_new w _ _,((Below.refl _ _).alloc (Nat.le_refl _) _).alloc (by simp) _⟩
 case round =>
  obtain⟨k,hk,rfl,hA,hB,hbel⟩:=hrel;by_cases hlt:k<m
  ·obtain⟨hcap,hrow⟩:=HR.out;obtain⟨b,off,rfl,hb,hc⟩:=hrow (by omega);have HA:Hid _:=hA;have HB:Hid _:=hB;have HBL:Hid _:=hbel;have HC:Hid _:=hc;have hs:=hbel.size;have hsz:=block_lt_of_cell (cell_of_row wr _ 0 _ _ _ hB);have a0:wr.cell? ⟨w.heap.size,0,none⟩=some (.int .u32 (Md.mixN s bs k).a):=cell_of_row wr _ 0 _ _ _ hA;have a1:wr.cell? ⟨w.heap.size,1,none⟩=some (.int .u32 (Md.mixN s bs k).b):=cell_of_row wr _ 1 _ _ _ hA;have a2:wr.cell? ⟨w.heap.size,2,none⟩=some (.int .u32 (Md.mixN s bs k).c):=cell_of_row wr _ 2 _ _ _ hA;have a3:wr.cell? ⟨w.heap.size,3,none⟩=some (.int .u32 (Md.mixN s bs k).d):=cell_of_row wr _ 3 _ _ _ hA;have hw:IntKind.i64.wrap (64*(k:Int)+64)=((64*k+64:Nat):Int):=(by simp[IntKind.wrap,IntKind.bits,IntKind.signed];omega)
   have h64:(64*k+64:Nat)≤cap:=(by omega)
   have h65:((64*k+64:Nat):Int)≤(cap:Int):=(by omega)
   have HT':Hid (Tabs wr.drew):=HT.out.below hbel.drew (by omega);have HB':Hid (b<wr.drew.heap.size):=(show b<wr.heap.size from by omega)
   have HC':Hid (∀i,i<64→wr.drew.cell? ⟨b,off+64*k+i,none⟩=some (.int .u8 (bs (64*k+i)))):=fun i hi=>((hbel.drew.cell (by exact hb)).trans (by rw[Nat.add_assoc];exact hc (64*k+i) (by omega)))
   clear hA hB hbel hc hrow HR HC HT;have HQ:Hid (Md.mixN s bs (k+1)=Md.mixS (Md.mixN s bs k) fun i=>bs (64*k+i)):=rfl;generalize Md.mixN s bs k=q at *;(go_wp2_with fail);go_region_with (go_at_call 176;refine(mix_out q b (off+64*k) (cap-64*k) (fun i=>bs (64*k+i)) _ HT'.out HB'.out (by omega) HC'.out).mono ?_;rintro e w2 ⟨rfl,hb2⟩;have c2:=four hb2 HA.out;obtain⟨c20,c21,c22,c23,f20,f21,f22,f23⟩:=c2;have HB2:Hid _:=hb2;clear hb2)
   all_goals go_wp2
   all_goals
    have hset:=set4 (s':=Md.mixS q fun i=>bs (64*k+i)) ((HB2.out.block w.heap.size (show _<wr.heap.size from by omega)).trans HA.out);exact⟨⟨k+1,by omega,by go_num,by rw[HQ.out];exact hset.1,(hset.2.1 _ (by omega)).trans ((HB2.out.block (w.heap.size+1) (show _<wr.heap.size from by omega)).trans HB.out),hset.2.2 _ _ (Nat.le_refl _) (HBL.out.drew.trans (HB2.out.mono (show _≤wr.heap.size from by omega)))⟩,by simp[intOf];omega⟩
  ·obtain rfl:k=m:=by omega
   clear HR HT;go_wp2_with (first | refine wpList_load_row rfl 231 _ rfl (w.heap.size) rfl 231 _ (0,0) _ hA Tryz.underlying231 rfl (by rw[size34,Md.stA_size]) ?_ | refine wpList_store_row rfl 231 _ _ rfl (w.heap.size+1) (Md.stA (Md.mixN s bs k)) rfl rfl 231 _ hB (by rw[size34,Md.stA_size]) (by rfl) (Md.stA_all _) ?_)
   exact bodyPost_ret (v:=.agg (Md.stA (Md.mixN s bs k))) (results_cell_row (p:=4) (ty:=231) rfl _ _ (w.heap.size+1) 231 _ (0,0) _ rfl (setRow_heap _ _ _ _ _ _ hB) Tryz.underlying231 rfl (by rw[size34,Md.stA_size])) rfl ⟨rfl,below_setRow hbel (by omega) _⟩
theorem make16 (w:World):(Instr.makeSlice 126 (.int .i64 16) (.int .i64 16)).run Tryz.prog w=.ok (.slice (some ⟨w.heap.size,0,none⟩) 16 16) (w.alloc (.cells #[.int .u8 0,.int .u8 0,.int .u8 0,.int .u8 0,.int .u8 0,.int .u8 0,.int .u8 0,.int .u8 0,.int .u8 0,.int .u8 0,.int .u8 0,.int .u8 0,.int .u8 0,.int .u8 0,.int .u8 0,.int .u8 0] 5)):=by kernel_rfl
theorem digest_any (s:Md.St) (w:World) :
  Calls Tryz.prog 174 #[.agg (Md.stA s)] w fun e w'=>e=.returned (.slice (some ⟨w.heap.size+1,0,none⟩) 16 16)∧w'.heap[w.heap.size+1]?=some (.cells (Md.rowB 16 (Md.dg s) 16) 5)∧Bl w w':=by
 have hmk:=make16;unfold Md.stA;go_enter Tryz.func174,Tryz.ntmps174;go_wp2
 go_loopw [8] (fun i wr=>∃k:Nat,k≤16∧i=.int .i64 k∧wr.heap[w.heap.size]?=some (.cells (Md.stA s) 231)∧wr.heap[w.heap.size+1]?=some (.cells (Md.rowB 16 (Md.dg s) k) 5)∧Bl w wr) (fun i _=>16-(intOf i).toNat)
 case atStart=>exact⟨0,by omega,rfl,heap_alloc2_old w _ _,heap_alloc2_new w _ _,((Below.refl _ _).alloc (Nat.le_refl _) _).alloc (by simp) _⟩
 case round =>
  obtain⟨k,hk,rfl,hA,hB,hbel⟩:=hrel;by_cases hlt:k<16
  ·have ca:∀j,j<4→wr.cell? ⟨w.heap.size,j,none⟩=some (.int .u32 (Md.wordOf s j)):=by
    intro j hj;rw[cell_of_row wr _ j _ _ _ hA];rcases(show j=0∨j=1∨j=2∨j=3 by omega) with rfl | rfl | rfl | rfl<;>rfl
   have c1:=ca (k/4) (by omega);have c4:wr.cell? ⟨w.heap.size+1,k,none⟩=some (.int .u8 0):=(cell_of_row wr _ k _ _ _ hB).trans (by rw[Md.rowB_get _ _ _ _ hlt];simp);have f4:wr.frozen? ⟨w.heap.size+1,k,none⟩=false:=frozen_of_row _ _ _ _ _ hB;have HR:Hid ((wr.setCell ⟨w.heap.size+1,k,none⟩ (.int .u8 (Md.dg s k))).heap[w.heap.size]?=some (.cells (Md.stA s) 231)∧(wr.setCell ⟨w.heap.size+1,k,none⟩ (.int .u8 (Md.dg s k))).heap[w.heap.size+1]?=some (.cells (Md.rowB 16 (Md.dg s) (k+1)) 5)∧Bl w (wr.setCell ⟨w.heap.size+1,k,none⟩ (.int .u8 (Md.dg s k)))) :=
    ⟨by rw[heap_setCell_other _ _ _ _ (by simp)];exact hA,by rw[heap_setCell_same _ _ _ _ _ _ hB,Md.rowB_set _ _ _ hlt],hbel.setCell (by simp) _⟩
   clear ca hA hB hbel;go_wp2
   exact⟨⟨k+1,by omega,by go_num,HR.out.1,HR.out.2.1,HR.out.2.2⟩,by simp[intOf];omega⟩
  ·obtain rfl:k=16:=by omega
   go_wp2
   go_ret;exact⟨rfl,hB,hbel⟩
end
section
namespace Md
def lastN (n:Nat):Nat:=if n+9≤64 then 1 else 2
def lastTo (n sz:Nat) (bs:Nat→Int) (bits:Int) (k i:Nat):Int :=
 if i<n then bs i else if i=n then 128 else if sz-8≤i∧i<sz-8+k then bits/2 ^ (8*(i+8-sz))%256 else 0
def lastB (n:Nat) (bs:Nat→Int) (bits:Int) (i:Nat):Int:=lastTo n (64*lastN n) bs bits 8 i
theorem lastTo_step (n sz:Nat) (bs:Nat→Int) (bits:Int) (k:Nat) (hsz:n+9≤sz) (i:Nat):(if i=sz-8+k then bits/2 ^ (8*k)%256 else lastTo n sz bs bits k i)=lastTo n sz bs bits (k+1) i:=by
 unfold lastTo;by_cases h:i=sz-8+k
 ·rw[if_pos h,if_neg (by omega),if_neg (by omega),if_pos (by omega),show i+8-sz=k by omega]
 ·rw[if_neg h];by_cases h1:i<n
  ·simp[h1]
  ·by_cases h2:i=n
   ·simp[h2]
   ·simp only[h1,h2,if_false];have:(sz-8≤i∧i<sz-8+k)↔(sz-8≤i∧i<sz-8+(k+1)):=by omega
    simp only[this]
theorem lastTo_zero (n sz:Nat) (bs:Nat→Int) (bits:Int) (i:Nat):(if i=n then(128:Int) else if i<n then bs i else 0)=lastTo n sz bs bits 0 i:=by
 unfold lastTo;by_cases h1:i<n
 ·rw[if_neg (by omega),if_pos h1,if_pos h1]
 ·by_cases h2:i=n
  ·rw[if_pos h2,if_neg h1,if_pos h2]
  ·rw[if_neg h2,if_neg h1,if_neg h1,if_neg h2,if_neg (by omega)]
end Md
end
section
open Go.RowKit
theorem info49:(Tryz.prog.info? 238).map (fun i=>(i.zero,i.size))=some (some (.agg (bytesL 128 (fun _=>0)).toArray),128):=by kernel_rfl
theorem mixAll_out (s:Md.St) (ao:Option Addr) (m N cap:Nat) (bs:Nat→Int) (w:World) (hN:N=64*m) (ht:Tabs w) (hr:ByteRow w ao (64*m) cap bs) (hm:64*m≤140737488355328) :
  Calls Tryz.prog 173 #[.agg #[.int .u32 s.a,.int .u32 s.b,.int .u32 s.c,.int .u32 s.d],.slice ao N cap] w fun e w'=>e=.returned (.agg #[.int .u32 (Md.mixN s bs m).a,.int .u32 (Md.mixN s bs m).b,.int .u32 (Md.mixN s bs m).c,.int .u32 (Md.mixN s bs m).d])∧Bl w w':=by
 subst hN;exact mixAll_any s ao m cap bs w ht hr hm
theorem at80 {w1:World}{g n:Nat}{bs:Nat→Int}{Z:List Value}(h:Hid (w1.heap[g]?=some (.cells (splice Z 0 (bytesL n bs)).toArray 238))) (hZ:bytesL 128 (fun _=>0)=Z) (hn:n<128) :
  Hid (w1.heap[g]?=some (.cells (rowF 128 (fun i=>if i<n then bs i else 0)) 238))∧w1.cell? ⟨g,n,none⟩=some (.int .u8 0)∧w1.frozen? ⟨g,n,none⟩=false:=by
 have h':=h.out;rw[←hZ,splice_row 128 n bs (by omega)] at h';exact⟨h',(cell_of_row w1 _ n _ _ _ h').trans (by rw[rowF_get _ _ _ hn];simp),frozen_of_row _ _ _ _ _ h'⟩
theorem mixLast_core (s:Md.St) (ao:Option Addr) (n cap sz:Nat) (bits:Int) (bs:Nat→Int) (w:World) (ht:Tabs w) (hr:ByteRow w ao n cap bs) (hn:n<64)
  (hsz:(sz=64∧n+9≤64)∨(sz=128∧64<n+9)) :
  Calls Tryz.prog 175 #[.agg (Md.stA s),.slice ao n cap,.int .u64 bits] w fun e w'=>e=.returned (.agg (Md.stA (Md.mixN s (Md.lastTo n sz bs bits 8) (sz/64))))∧Bl w w':=by
 have hz:=(zero_of_info info49).1;have HT:Hid (Tabs w):=ht;have HR:Hid _:=hr;have hbt:=ht.lt;clear ht hr;generalize hZ:bytesL 128 (fun _=>0)=Z at hz;have HZ:Hid (bytesL 128 (fun _=>0)=Z):=hZ;clear hZ;have hrow:Hid (0<(bytesL n bs).length→(some ⟨w.heap.size+1+1,0,none⟩:Option Addr)=some ⟨w.heap.size+1+1,0,none⟩∧∃ad,ao=some ad∧∀W:World,Bl w W→∀j v,(bytesL n bs)[j]?=some v→W.cell? (ad.add j)=some v):=by
  intro hp;rw[bytesL_length] at hp;obtain⟨b,off,rfl,hb,hc⟩:=HR.out.2 hp;refine⟨rfl,_,rfl,fun W hW j v hj => ?_⟩;obtain⟨hj1,rfl⟩:=bytesL_get _ _ _ _ hj;have hadd:(⟨b,off,none⟩:Addr).add j=⟨b,off+j,none⟩:=(by unfold Addr.add;split<;>simp_all)
  rw[hadd,hW.cell (by exact hb)];exact hc j hj1
 unfold Md.stA;rcases hsz with⟨rfl,hs2⟩ | ⟨rfl,hs2⟩
 ·go_enter Tryz.func175,Tryz.ntmps175;go_wp2_with (refine wpList_copy_splice rfl (.tmp 11) (.tmp 12) 126 126 rfl 5 Tryz.underlying126 size5 _ _ _ _ _ _ rfl rfl (w.heap.size+1+1) 0 Z 238 (alloc3 w _ _ _).2.2.1 (bytesL n bs) (by rw[bytesL_length];exact(Nat.min_eq_left (by omega)).symm) (fun hp=>⟨rfl,by obtain⟨_,ad,h1,h2⟩:=hrow.out hp;exact⟨ad,h1,h2 _ (alloc3 w _ _ _).2.2.2⟩⟩) (by rw[←HZ.out];simp only[bytesL_length];omega) (bytesL_one n bs) (w.heap.size+2) _ (Below.refl _ _) (Nat.le_refl _) ?_;intro w1 hw1 hb1;rw[bytesL_length];obtain⟨HW1,c80,f80⟩:=at80 hw1 HZ.out (show n<128 by omega);have HB1:Hid _:=hb1;clear hw1 hb1 hz)
  have hset0:Hid ((w1.setCell ⟨w.heap.size+1+1,n,none⟩ (.int .u8 128)).heap[w.heap.size+1+1]?=some (.cells (rowF 128 (Md.lastTo n 64 bs bits 0)) 238)):=by
   show _=_;rw[heap_setCell_same _ _ _ _ _ _ HW1.out,rowF_set _ _ _ _ (by omega),rowF_congr _ _ _ (fun i _=>Md.lastTo_zero n 64 bs bits i)]
  go_loopw [20] (fun i wr=>∃k:Nat,k≤8∧i=.int .i64 k∧Hid (wr.heap[w.heap.size+1+1]?=some (.cells (rowF 128 (Md.lastTo n 64 bs bits k)) 238)∧Below (w.heap.size+2) (((w.alloc (.cells #[.int .u32 s.a,.int .u32 s.b,.int .u32 s.c,.int .u32 s.d] 231)).alloc (.cells #[.int .u32 0,.int .u32 0,.int .u32 0,.int .u32 0] 231)).alloc (.cells Z.toArray 238)) wr)) (fun i _=>8-(intOf i).toNat)
  case atStart=>exact⟨0,by omega,rfl,hset0.out,HB1.out.setCell (Nat.le_refl _) _⟩
  case round =>
   obtain⟨k,hk,rfl,hX⟩:=hrel;by_cases hlt:k<8
   ·have c4:wr.cell? ⟨w.heap.size+1+1,56+k,none⟩=some (.int .u8 (Md.lastTo n 64 bs bits k (56+k))):=(cell_of_row wr _ _ _ _ _ hX.out.1).trans (rowF_get _ _ _ (by omega));have f4:wr.frozen? ⟨w.heap.size+1+1,56+k,none⟩=false:=frozen_of_row _ _ _ _ _ hX.out.1;have HX:Hid ((wr.setCell ⟨w.heap.size+1+1,56+k,none⟩ (.int .u8 (bits/2 ^ (8*k)%256))).heap[w.heap.size+1+1]?=some (.cells (rowF 128 (Md.lastTo n 64 bs bits (k+1))) 238)∧Below (w.heap.size+2) (((w.alloc (.cells #[.int .u32 s.a,.int .u32 s.b,.int .u32 s.c,.int .u32 s.d] 231)).alloc (.cells #[.int .u32 0,.int .u32 0,.int .u32 0,.int .u32 0] 231)).alloc (.cells Z.toArray 238)) (wr.setCell ⟨w.heap.size+1+1,56+k,none⟩ (.int .u8 (bits/2 ^ (8*k)%256)))):=by
     refine⟨?_,hX.out.2.setCell (Nat.le_refl _) _⟩;rw[heap_setCell_same _ _ _ _ _ _ hX.out.1,rowF_set _ _ _ _ (by omega),rowF_congr _ _ _ (fun i _=>Md.lastTo_step n 64 bs bits k (by omega) i)]
    clear hX HW1 HB1 hset0 hrow HR;go_wp2
    exact⟨⟨k+1,by omega,by go_num,HX⟩,by simp[intOf];omega⟩
   ·obtain rfl:k=8:=by omega
    have HA:Hid (wr.heap[w.heap.size]?=some (.cells (Md.stA s) 231)):=(hX.out.2.block _ (by omega)).trans (alloc3 w _ _ _).1;have HB:Hid (wr.heap[w.heap.size+1]?=some (.cells (Md.stA ⟨0,0,0,0⟩) 231)):=(hX.out.2.block _ (by omega)).trans (alloc3 w _ _ _).2.1;have HBL:Hid (Bl w wr):=(alloc3 w _ _ _).2.2.2.trans (hX.out.2.mono (by omega));have hlt2:w.heap.size+1+1<wr.heap.size:=block_lt_of_cell ((cell_of_row wr _ 0 _ _ _ hX.out.1).trans (rowF_get _ _ _ (by omega)));have HT':Hid (Tabs wr.drew):=HT.out.below HBL.out.drew (by omega);have HRW:Hid (ByteRow wr.drew (some ⟨w.heap.size+1+1,0,none⟩) (64*1) 128 (Md.lastTo n 64 bs bits 8)):=by
     refine⟨by omega,fun _=>⟨_,_,rfl,hlt2,fun i hi => ?_⟩⟩;rw[Nat.zero_add];exact(cell_of_row wr _ _ _ _ _ hX.out.1).trans (rowF_get _ _ _ (by omega))
    have a0:wr.cell? ⟨w.heap.size,0,none⟩=some (.int .u32 s.a):=cell_of_row wr _ 0 _ _ _ HA.out;have a1:wr.cell? ⟨w.heap.size,1,none⟩=some (.int .u32 s.b):=cell_of_row wr _ 1 _ _ _ HA.out;have a2:wr.cell? ⟨w.heap.size,2,none⟩=some (.int .u32 s.c):=cell_of_row wr _ 2 _ _ _ HA.out;have a3:wr.cell? ⟨w.heap.size,3,none⟩=some (.int .u32 s.d):=cell_of_row wr _ 3 _ _ _ HA.out;clear HW1 HB1 hset0 hrow HR c80 f80 hX HT;(go_wp2_with fail);go_region_with (go_at_call 173;refine(mixAll_out s (some ⟨w.heap.size+1+1,0,none⟩) 1 64 128 (Md.lastTo n 64 bs bits 8) _ rfl HT'.out HRW.out (by omega)).mono ?_;rintro e w2 ⟨rfl,hb2⟩;have c2:=four hb2 HB.out;obtain⟨c20,c21,c22,c23,f20,f21,f22,f23⟩:=c2;have HB2:Hid _:=hb2;clear hb2)
    all_goals go_wp2
    all_goals
     have hset:=set4 (s':=Md.mixN s (Md.lastTo n 64 bs bits 8) 1) ((HB2.out.block (w.heap.size+1) (show _<wr.heap.size from by omega)).trans HB.out);exact bodyPost_ret (v:=.agg (Md.stA (Md.mixN s (Md.lastTo n 64 bs bits 8) 1))) (results_cell_row (p:=6) (ty:=231) rfl _ _ (w.heap.size+1) 231 _ (0,0) _ rfl hset.1 Tryz.underlying231 rfl (by rw[size34,Md.stA_size])) rfl ⟨rfl,hset.2.2 _ _ (by omega) (HBL.out.drew.trans (HB2.out.mono (show _≤wr.heap.size from by omega)))⟩
 ·go_enter Tryz.func175,Tryz.ntmps175;go_wp2_with (refine wpList_copy_splice rfl (.tmp 11) (.tmp 12) 126 126 rfl 5 Tryz.underlying126 size5 _ _ _ _ _ _ rfl rfl (w.heap.size+1+1) 0 Z 238 (alloc3 w _ _ _).2.2.1 (bytesL n bs) (by rw[bytesL_length];exact(Nat.min_eq_left (by omega)).symm) (fun hp=>⟨rfl,by obtain⟨_,ad,h1,h2⟩:=hrow.out hp;exact⟨ad,h1,h2 _ (alloc3 w _ _ _).2.2.2⟩⟩) (by rw[←HZ.out];simp only[bytesL_length];omega) (bytesL_one n bs) (w.heap.size+2) _ (Below.refl _ _) (Nat.le_refl _) ?_;intro w1 hw1 hb1;rw[bytesL_length];obtain⟨HW1,c80,f80⟩:=at80 hw1 HZ.out (show n<128 by omega);have HB1:Hid _:=hb1;clear hw1 hb1 hz)
  have hset0:Hid ((w1.setCell ⟨w.heap.size+1+1,n,none⟩ (.int .u8 128)).heap[w.heap.size+1+1]?=some (.cells (rowF 128 (Md.lastTo n 128 bs bits 0)) 238)):=by
   show _=_;rw[heap_setCell_same _ _ _ _ _ _ HW1.out,rowF_set _ _ _ _ (by omega),rowF_congr _ _ _ (fun i _=>Md.lastTo_zero n 128 bs bits i)]
  go_loopw [20] (fun i wr=>∃k:Nat,k≤8∧i=.int .i64 k∧Hid (wr.heap[w.heap.size+1+1]?=some (.cells (rowF 128 (Md.lastTo n 128 bs bits k)) 238)∧Below (w.heap.size+2) (((w.alloc (.cells #[.int .u32 s.a,.int .u32 s.b,.int .u32 s.c,.int .u32 s.d] 231)).alloc (.cells #[.int .u32 0,.int .u32 0,.int .u32 0,.int .u32 0] 231)).alloc (.cells Z.toArray 238)) wr)) (fun i _=>8-(intOf i).toNat)
  case atStart=>exact⟨0,by omega,rfl,hset0.out,HB1.out.setCell (Nat.le_refl _) _⟩
  case round =>
   obtain⟨k,hk,rfl,hX⟩:=hrel;by_cases hlt:k<8
   ·have c4:wr.cell? ⟨w.heap.size+1+1,120+k,none⟩=some (.int .u8 (Md.lastTo n 128 bs bits k (120+k))):=(cell_of_row wr _ _ _ _ _ hX.out.1).trans (rowF_get _ _ _ (by omega));have f4:wr.frozen? ⟨w.heap.size+1+1,120+k,none⟩=false:=frozen_of_row _ _ _ _ _ hX.out.1;have HX:Hid ((wr.setCell ⟨w.heap.size+1+1,120+k,none⟩ (.int .u8 (bits/2 ^ (8*k)%256))).heap[w.heap.size+1+1]?=some (.cells (rowF 128 (Md.lastTo n 128 bs bits (k+1))) 238)∧Below (w.heap.size+2) (((w.alloc (.cells #[.int .u32 s.a,.int .u32 s.b,.int .u32 s.c,.int .u32 s.d] 231)).alloc (.cells #[.int .u32 0,.int .u32 0,.int .u32 0,.int .u32 0] 231)).alloc (.cells Z.toArray 238)) (wr.setCell ⟨w.heap.size+1+1,120+k,none⟩ (.int .u8 (bits/2 ^ (8*k)%256)))):=by
     refine⟨?_,hX.out.2.setCell (Nat.le_refl _) _⟩;rw[heap_setCell_same _ _ _ _ _ _ hX.out.1,rowF_set _ _ _ _ (by omega),rowF_congr _ _ _ (fun i _=>Md.lastTo_step n 128 bs bits k (by omega) i)]
    clear hX HW1 HB1 hset0 hrow HR;go_wp2
    exact⟨⟨k+1,by omega,by go_num,HX⟩,by simp[intOf];omega⟩
   ·obtain rfl:k=8:=by omega
    have HA:Hid (wr.heap[w.heap.size]?=some (.cells (Md.stA s) 231)):=(hX.out.2.block _ (by omega)).trans (alloc3 w _ _ _).1;have HB:Hid (wr.heap[w.heap.size+1]?=some (.cells (Md.stA ⟨0,0,0,0⟩) 231)):=(hX.out.2.block _ (by omega)).trans (alloc3 w _ _ _).2.1;have HBL:Hid (Bl w wr):=(alloc3 w _ _ _).2.2.2.trans (hX.out.2.mono (by omega));have hlt2:w.heap.size+1+1<wr.heap.size:=block_lt_of_cell ((cell_of_row wr _ 0 _ _ _ hX.out.1).trans (rowF_get _ _ _ (by omega)));have HT':Hid (Tabs wr.drew):=HT.out.below HBL.out.drew (by omega);have HRW:Hid (ByteRow wr.drew (some ⟨w.heap.size+1+1,0,none⟩) (64*2) 128 (Md.lastTo n 128 bs bits 8)):=by
     refine⟨by omega,fun _=>⟨_,_,rfl,hlt2,fun i hi => ?_⟩⟩;rw[Nat.zero_add];exact(cell_of_row wr _ _ _ _ _ hX.out.1).trans (rowF_get _ _ _ (by omega))
    have a0:wr.cell? ⟨w.heap.size,0,none⟩=some (.int .u32 s.a):=cell_of_row wr _ 0 _ _ _ HA.out;have a1:wr.cell? ⟨w.heap.size,1,none⟩=some (.int .u32 s.b):=cell_of_row wr _ 1 _ _ _ HA.out;have a2:wr.cell? ⟨w.heap.size,2,none⟩=some (.int .u32 s.c):=cell_of_row wr _ 2 _ _ _ HA.out;have a3:wr.cell? ⟨w.heap.size,3,none⟩=some (.int .u32 s.d):=cell_of_row wr _ 3 _ _ _ HA.out;clear HW1 HB1 hset0 hrow HR c80 f80 hX HT;(go_wp2_with fail);go_region_with (go_at_call 173;refine(mixAll_out s (some ⟨w.heap.size+1+1,0,none⟩) 2 128 128 (Md.lastTo n 128 bs bits 8) _ rfl HT'.out HRW.out (by omega)).mono ?_;rintro e w2 ⟨rfl,hb2⟩;have c2:=four hb2 HB.out;obtain⟨c20,c21,c22,c23,f20,f21,f22,f23⟩:=c2;have HB2:Hid _:=hb2;clear hb2)
    all_goals go_wp2
    all_goals
     have hset:=set4 (s':=Md.mixN s (Md.lastTo n 128 bs bits 8) 2) ((HB2.out.block (w.heap.size+1) (show _<wr.heap.size from by omega)).trans HB.out);exact bodyPost_ret (v:=.agg (Md.stA (Md.mixN s (Md.lastTo n 128 bs bits 8) 2))) (results_cell_row (p:=6) (ty:=231) rfl _ _ (w.heap.size+1) 231 _ (0,0) _ rfl hset.1 Tryz.underlying231 rfl (by rw[size34,Md.stA_size])) rfl ⟨rfl,hset.2.2 _ _ (by omega) (HBL.out.drew.trans (HB2.out.mono (show _≤wr.heap.size from by omega)))⟩
theorem mixLast_out (s:Md.St) (ao:Option Addr) (n cap:Nat) (bits:Int) (bs:Nat→Int) (w:World) (ht:Tabs w) (hr:ByteRow w ao n cap bs) (hn:n<64) :
  Calls Tryz.prog 175 #[.agg #[.int .u32 s.a,.int .u32 s.b,.int .u32 s.c,.int .u32 s.d],.slice ao n cap,.int .u64 bits] w fun e w'=>e=.returned (.agg (Md.stA (Md.mixN s (Md.lastB n bs bits) (Md.lastN n))))∧Bl w w':=by
 by_cases h:n+9≤64
 ·have e1:Md.lastN n=1:=(by simp[Md.lastN,h])
  have e2:Md.lastB n bs bits=Md.lastTo n 64 bs bits 8:=by funext i;simp[Md.lastB,e1]
  rw[e1,e2];exact mixLast_core s ao n cap 64 bits bs w ht hr hn (Or.inl ⟨rfl,h⟩)
 ·have e1:Md.lastN n=2:=(by simp[Md.lastN,h])
  have e2:Md.lastB n bs bits=Md.lastTo n 128 bs bits 8:=by funext i;simp[Md.lastB,e1]
  rw[e1,e2];exact mixLast_core s ao n cap 128 bits bs w ht hr hn (Or.inr ⟨rfl,by omega⟩)
def Md.fin (s:Md.St) (done n:Nat) (bs:Nat→Int):Md.St :=
 Md.mixN (Md.mixN s bs (n/64)) (Md.lastB (n%64) (fun i=>bs (64*(n/64)+i)) (((done:Int)+n)*8)) (Md.lastN (n%64))
def Sumd (w:World) (s:Md.St) (e:Ending) (w':World):Prop :=
 ∃g,e=.returned (.slice (some ⟨g,0,none⟩) 16 16)∧w.heap.size≤g∧w'.heap[g]?=some (.cells (Md.rowB 16 (Md.dg s) 16) 5)∧Bl w w'
theorem mixLast_at (s:Md.St) (ao:Option Addr) (n N cap:Nat) (bits:Int) (bs:Nat→Int) (w:World) (hN:N=n) (ht:Tabs w) (hr:ByteRow w ao n cap bs) (hn:n<64) :
  Calls Tryz.prog 175 #[.agg #[.int .u32 s.a,.int .u32 s.b,.int .u32 s.c,.int .u32 s.d],.slice ao N cap,.int .u64 bits] w fun e w'=>e=.returned (.agg (Md.stA (Md.mixN s (Md.lastB n bs bits) (Md.lastN n))))∧Bl w w':=by
 subst hN;exact mixLast_out s ao N cap bits bs w ht hr hn
theorem behind_pos (s:Md.St) (b off n cap:Nat) (done:Nat) (bs:Nat→Int) (w:World) (ht:Tabs w) (hd:done≤64) (hn:n≤cap) (hc:n≤140737488351232) (hb:b<w.heap.size)
  (hcell:∀i,i<n→w.cell? ⟨b,off+i,none⟩=some (.int .u8 (bs i))) :
  Calls Tryz.prog 168 #[.agg (Md.stA s),.int .i64 done,.slice (some ⟨b,off,none⟩) n cap] w (Sumd w (Md.fin s done n bs)):=by
 unfold Md.stA;have HC:Hid _:=hcell;have HT:Hid _:=ht;have hbt:=ht.lt;clear hcell ht;obtain⟨W0,HW0⟩:∃W0,Hid (W0=w.alloc (.cells #[.int .u32 s.a,.int .u32 s.b,.int .u32 s.c,.int .u32 s.d] 231)):=⟨_,rfl⟩
 have HBL:Hid (Bl w W0):=(by rw[HW0.out];exact(Below.refl _ w).alloc (Nat.le_refl _) _)
 have HA:Hid (W0.heap[w.heap.size]?=some (.cells (Md.stA s) 231)):=(by rw[HW0.out];exact heap_alloc_last _ _)
 have hsz:Hid (w.heap.size+1=W0.heap.size):=(by rw[HW0.out];simp[Hid])
 have HT0:Hid (Tabs W0.drew):=HT.out.below HBL.out.drew (by omega);have HR0:Hid (ByteRow W0.drew (some ⟨b,off,none⟩) (64*(n/64)) cap bs):=⟨by omega,fun _=>⟨b,off,rfl,by show b<W0.heap.size;have:=hsz.out;omega,fun i hi=>(HBL.out.drew.cell (by exact hb)).trans (HC.out i (by omega))⟩⟩
 have HRX:∀w3:World,Bl w w3→Hid (ByteRow w3.drew (some ⟨b,off+(n-n%64),none⟩) (n%64) (cap-(n-n%64)) (fun i=>bs (64*(n/64)+i))):=by
  intro w3 h3;refine⟨by omega,fun _=>⟨b,off+(n-n%64),rfl,by have:=h3.size;show b<w3.heap.size;omega,fun i hi=>(h3.drew.cell (by exact hb)).trans ?_⟩⟩;rw[show off+(n-n%64)+i=off+(64*(n/64)+i) by omega];exact HC.out _ (by omega)
 go_enter Tryz.func168,Tryz.ntmps168;(go_wp2_with fail);go_region_with (go_at_call 173;rw[←HW0.out];refine(mixAll_out s (some ⟨b,off,none⟩) (n/64) _ cap bs _ (by omega) HT0.out HR0.out (by omega)).mono ?_;rintro e w2 ⟨rfl,hb2⟩;have c2:=four hb2 HA.out;obtain⟨c20,c21,c22,c23,f20,f21,f22,f23⟩:=c2;have HB2:Hid _:=hb2;clear hb2)
 all_goals
  have hset:=set4 (s':=Md.mixN s bs (n/64)) ((HB2.out.block w.heap.size (by have:=hsz.out;show _<W0.heap.size;omega)).trans HA.out);have HS1:Hid _:=hset.1;have HS2:Hid (Bl w _):=hset.2.2 _ _ (Nat.le_refl _) (HBL.out.drew.trans (HB2.out.mono (by have:=hsz.out;show _≤W0.heap.size;omega)));clear hset c20 c21 c22 c23 f20 f21 f22 f23 HB2;generalize ((((w2.setCell ⟨w.heap.size,0,none⟩ (.int .u32 (Md.mixN s bs (n/64)).a)).setCell ⟨w.heap.size,1,none⟩ (.int .u32 (Md.mixN s bs (n/64)).b)).setCell ⟨w.heap.size,2,none⟩ (.int .u32 (Md.mixN s bs (n/64)).c)).setCell ⟨w.heap.size,3,none⟩ (.int .u32 (Md.mixN s bs (n/64)).d))=w3 at HS1 HS2 ⊢;have b0:w3.cell? ⟨w.heap.size,0,none⟩=some (.int .u32 (Md.mixN s bs (n/64)).a):=cell_of_row w3 _ 0 _ _ _ HS1.out;have b1:w3.cell? ⟨w.heap.size,1,none⟩=some (.int .u32 (Md.mixN s bs (n/64)).b):=cell_of_row w3 _ 1 _ _ _ HS1.out;have b2:w3.cell? ⟨w.heap.size,2,none⟩=some (.int .u32 (Md.mixN s bs (n/64)).c):=cell_of_row w3 _ 2 _ _ _ HS1.out;have b3:w3.cell? ⟨w.heap.size,3,none⟩=some (.int .u32 (Md.mixN s bs (n/64)).d):=cell_of_row w3 _ 3 _ _ _ HS1.out;have hs3:Hid (w.heap.size≤w3.heap.size):=HS2.out.size;have HT3:Hid (Tabs w3.drew):=HT.out.below HS2.out.drew (by omega);clear HC HW0 HBL HA hsz HT0 HR0 HT;by_cases hcw:cap=n-n%64
  ·have HR3:Hid (ByteRow w3.drew (some ⟨b,off,none⟩) (n%64) 0 (fun i=>bs (64*(n/64)+i))):=⟨by omega,fun h=>by omega⟩
   (go_wp2_with fail);go_region_with (first | (go_at_call 175;refine(mixLast_at (Md.mixN s bs (n/64)) _ (n%64) _ _ _ _ _ (by omega) HT3.out HR3.out (by omega)).mono ?_;rintro e w4 ⟨rfl,hb4⟩) | (go_at_call 174;refine(digest_any _ _).mono ?_;rintro e w5 ⟨rfl,hw5,hb5⟩))
   all_goals go_wp2
   (all_goals go_ret);all_goals exact⟨_,rfl,by have h1:=hs3.out;have h2:w3.heap.size≤w4.heap.size:=hb4.size;omega,hw5,(HS2.out.drew.trans (hb4.mono (by exact hs3.out))).trans (hb5.mono (by have h1:=hs3.out;have h2:w3.heap.size≤w4.heap.size:=hb4.size;omega))⟩
  ·have HR3:Hid (ByteRow w3.drew (some ⟨b,off+(n-n%64),none⟩) (n%64) (cap-(n-n%64)) (fun i=>bs (64*(n/64)+i))):=HRX w3 HS2.out;(go_wp2_with fail);go_region_with (first | (go_at_call 175;refine(mixLast_at (Md.mixN s bs (n/64)) _ (n%64) _ _ _ _ _ (by omega) HT3.out HR3.out (by omega)).mono ?_;rintro e w4 ⟨rfl,hb4⟩) | (go_at_call 174;refine(digest_any _ _).mono ?_;rintro e w5 ⟨rfl,hw5,hb5⟩))
   all_goals go_wp2
   (all_goals go_ret);all_goals exact⟨_,rfl,by have h1:=hs3.out;have h2:w3.heap.size≤w4.heap.size:=hb4.size;omega,hw5,(HS2.out.drew.trans (hb4.mono (by exact hs3.out))).trans (hb5.mono (by have h1:=hs3.out;have h2:w3.heap.size≤w4.heap.size:=hb4.size;omega))⟩
theorem fin_zero (s:Md.St) (done:Nat) (bs:Nat→Int):Md.fin s done 0 bs=Md.mixN (Md.mixN s bs 0) (Md.lastB 0 (fun i=>bs (64*(0/64)+i)) ((done:Int)*8)) (Md.lastN 0):=by
 simp[Md.fin]
theorem behind_nil (s:Md.St) (ao:Option Addr) (cap:Nat) (done:Nat) (bs:Nat→Int) (w:World) (ht:Tabs w) (hd:done≤64) :
  Calls Tryz.prog 168 #[.agg (Md.stA s),.int .i64 done,.slice ao 0 cap] w (Sumd w (Md.fin s done 0 bs)):=by
 rw[fin_zero];have hwd:IntKind.u64.wrap ((done:Int)*8)=(done:Int)*8:=(by simp[IntKind.wrap,IntKind.bits,IntKind.signed];omega)
 unfold Md.stA;have HT:Hid _:=ht;have hbt:=ht.lt;clear ht;obtain⟨W0,HW0⟩:∃W0,Hid (W0=w.alloc (.cells #[.int .u32 s.a,.int .u32 s.b,.int .u32 s.c,.int .u32 s.d] 231)):=⟨_,rfl⟩
 have HBL:Hid (Bl w W0):=(by rw[HW0.out];exact(Below.refl _ w).alloc (Nat.le_refl _) _)
 have HA:Hid (W0.heap[w.heap.size]?=some (.cells (Md.stA s) 231)):=(by rw[HW0.out];exact heap_alloc_last _ _)
 have hsz:Hid (w.heap.size+1=W0.heap.size):=(by rw[HW0.out];simp[Hid])
 have HT0:Hid (Tabs W0.drew):=HT.out.below HBL.out.drew (by omega);have HR0:Hid (ByteRow W0.drew ao (64*0) cap bs):=⟨by omega,fun h=>by omega⟩
 go_enter Tryz.func168,Tryz.ntmps168;(go_wp2_with fail);go_region_with (go_at_call 173;rw[←HW0.out];refine(mixAll_out s ao 0 _ cap bs _ (by omega) HT0.out HR0.out (by omega)).mono ?_;rintro e w2 ⟨rfl,hb2⟩;have c2:=four hb2 HA.out;obtain⟨c20,c21,c22,c23,f20,f21,f22,f23⟩:=c2;have HB2:Hid _:=hb2;clear hb2)
 all_goals
  have hset:=set4 (s':=Md.mixN s bs 0) ((HB2.out.block w.heap.size (by have:=hsz.out;show _<W0.heap.size;omega)).trans HA.out);have HS1:Hid _:=hset.1;have HS2:Hid (Bl w _):=hset.2.2 _ _ (Nat.le_refl _) (HBL.out.drew.trans (HB2.out.mono (by have:=hsz.out;show _≤W0.heap.size;omega)));clear hset c20 c21 c22 c23 f20 f21 f22 f23 HB2;generalize ((((w2.setCell ⟨w.heap.size,0,none⟩ (.int .u32 (Md.mixN s bs 0).a)).setCell ⟨w.heap.size,1,none⟩ (.int .u32 (Md.mixN s bs 0).b)).setCell ⟨w.heap.size,2,none⟩ (.int .u32 (Md.mixN s bs 0).c)).setCell ⟨w.heap.size,3,none⟩ (.int .u32 (Md.mixN s bs 0).d))=w3 at HS1 HS2 ⊢;have b0:w3.cell? ⟨w.heap.size,0,none⟩=some (.int .u32 (Md.mixN s bs 0).a):=cell_of_row w3 _ 0 _ _ _ HS1.out;have b1:w3.cell? ⟨w.heap.size,1,none⟩=some (.int .u32 (Md.mixN s bs 0).b):=cell_of_row w3 _ 1 _ _ _ HS1.out;have b2:w3.cell? ⟨w.heap.size,2,none⟩=some (.int .u32 (Md.mixN s bs 0).c):=cell_of_row w3 _ 2 _ _ _ HS1.out;have b3:w3.cell? ⟨w.heap.size,3,none⟩=some (.int .u32 (Md.mixN s bs 0).d):=cell_of_row w3 _ 3 _ _ _ HS1.out;have hs3:Hid (w.heap.size≤w3.heap.size):=HS2.out.size;have HT3:Hid (Tabs w3.drew):=HT.out.below HS2.out.drew (by omega);clear HW0 HBL HA hsz HT0 HR0 HT;by_cases hcw:cap=0
  ·have HR3:∀ao' cap',Hid (ByteRow w3.drew ao' 0 cap' (fun i=>bs (64*(0/64)+i))):=fun _ _=>⟨by omega,fun h=>by omega⟩
   (go_wp2_with fail);go_region_with (first | (go_at_call 175;refine(mixLast_at (Md.mixN s bs 0) _ 0 _ _ _ (fun i=>bs (64*(0/64)+i)) _ rfl HT3.out (HR3 _ _).out (by omega)).mono ?_;rintro e w4 ⟨rfl,hb4⟩) | (go_at_call 174;refine(digest_any _ _).mono ?_;rintro e w5 ⟨rfl,hw5,hb5⟩))
   all_goals go_wp2
   (all_goals go_ret);all_goals exact⟨_,rfl,by have h1:=hs3.out;have h2:w3.heap.size≤w4.heap.size:=hb4.size;omega,hw5,(HS2.out.drew.trans (hb4.mono (by exact hs3.out))).trans (hb5.mono (by have h1:=hs3.out;have h2:w3.heap.size≤w4.heap.size:=hb4.size;omega))⟩
  ·have HR3:∀ao' cap',Hid (ByteRow w3.drew ao' 0 cap' (fun i=>bs (64*(0/64)+i))):=fun _ _=>⟨by omega,fun h=>by omega⟩
   (go_wp2_with fail);go_region_with (first | (go_at_call 175;refine(mixLast_at (Md.mixN s bs 0) _ 0 _ _ _ (fun i=>bs (64*(0/64)+i)) _ rfl HT3.out (HR3 _ _).out (by omega)).mono ?_;rintro e w4 ⟨rfl,hb4⟩) | (go_at_call 174;refine(digest_any _ _).mono ?_;rintro e w5 ⟨rfl,hw5,hb5⟩))
   all_goals go_wp2
   (all_goals go_ret);all_goals exact⟨_,rfl,by have h1:=hs3.out;have h2:w3.heap.size≤w4.heap.size:=hb4.size;omega,hw5,(HS2.out.drew.trans (hb4.mono (by exact hs3.out))).trans (hb5.mono (by have h1:=hs3.out;have h2:w3.heap.size≤w4.heap.size:=hb4.size;omega))⟩
theorem behind_any (s:Md.St) (ao:Option Addr) (n cap:Nat) (done:Nat) (bs:Nat→Int) (w:World) (ht:Tabs w) (hd:done≤64) (hc:n≤140737488351232) (hr:ByteRow w ao n cap bs) :
  Calls Tryz.prog 168 #[.agg (Md.stA s),.int .i64 done,.slice ao n cap] w (Sumd w (Md.fin s done n bs)):=by
 by_cases h:n=0
 ·subst h;exact behind_nil s ao cap done bs w ht hd
 ·obtain⟨b,off,rfl,hb,hcell⟩:=hr.2 (by omega);exact behind_pos s b off n cap done bs w ht hd hr.1 hc hb hcell
theorem sum_any (ao:Option Addr) (n cap:Nat) (bs:Nat→Int) (w:World) (ht:Tabs w) (hc:n≤140737488351232) (hr:ByteRow w ao n cap bs) :
  Calls Tryz.prog 172 #[.slice ao n cap] w (Sumd w (Md.fin Md.st0 0 n bs)):=by
 have HT:Hid _:=ht;have HR:Hid _:=hr;have hbt:=ht.lt;clear ht hr;go_enter Tryz.func172,Tryz.ntmps172;(go_wp2_with fail);refine(start_any _).mono ?_;rintro e w1 ⟨rfl,hb1⟩;have HT1:Hid (Tabs w1):=HT.out.below hb1 (by omega);have HR1:Hid (ByteRow w1 ao n cap bs):=ByteRow.below HR.out hb1;have HB1:Hid _:=hb1;clear hb1;(go_wp2_with fail);refine(behind_any Md.st0 ao n cap 0 bs _ HT1.out (by omega) hc HR1.out).mono ?_;rintro e w2 ⟨g,rfl,hg,hrow,hb2⟩;have HH:Hid _:=And.intro hg (And.intro hrow hb2);clear hg hrow hb2;go_wp2
 go_ret;exact⟨g,rfl,Nat.le_trans HB1.out.size HH.out.1,HH.out.2.1,HB1.out.trans (HH.out.2.2.mono HB1.out.size)⟩
end
end Go.Proofs.YtaneiffnhphkhaaGreatDoor
