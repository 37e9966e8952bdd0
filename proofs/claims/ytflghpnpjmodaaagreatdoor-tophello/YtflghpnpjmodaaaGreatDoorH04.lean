/- A region as one structure; its identity -/
import Derived.Test.YtflghpnpjmodaaaGreatDoorH03
import Derived.Test.YtflghpnpjmodaaaGreatDoorH02
import Derived.Lib.BufferWrite
set_option maxRecDepth 100000
set_option maxHeartbeats 40000000
namespace Go.Proofs.YtflghpnpjmodaaaGreatDoor
section
open Go.RowKit
theorem fin_zero (s:Md.St) (done:Nat) (bs:Nat→Int):Md.fin s done 0 bs=Md.mixN (Md.mixN s bs 0) (Md.lastB 0 (fun i=>bs (64*(0/64)+i)) ((done:Int)*8)) (Md.lastN 0):=by
 simp[Md.fin]
theorem behind_nil (s:Md.St) (ao:Option Addr) (cap:Nat) (done:Nat) (bs:Nat→Int) (w:World) (ht:Tabs w) (hd:done≤64) :
  Calls Tryz.prog 81 #[.agg (Md.stA s),.int .i64 done,.slice ao 0 cap] w (Sumd w (Md.fin s done 0 bs)):=by
 rw[fin_zero];have hwd:IntKind.u64.wrap ((done:Int)*8)=(done:Int)*8:=(by simp[IntKind.wrap,IntKind.bits,IntKind.signed];omega)
 unfold Md.stA;have HT:Hid _:=ht;have hbt:=ht.lt;clear ht;obtain⟨W0,HW0⟩:∃W0,Hid (W0=w.alloc (.cells #[.int .u32 s.a,.int .u32 s.b,.int .u32 s.c,.int .u32 s.d] 170)):=⟨_,rfl⟩
 have HBL:Hid (Bl w W0):=(by rw[HW0.out];exact(Below.refl _ w).alloc (Nat.le_refl _) _)
 have HA:Hid (W0.heap[w.heap.size]?=some (.cells (Md.stA s) 170)):=(by rw[HW0.out];exact heap_alloc_last _ _)
 have hsz:Hid (w.heap.size+1=W0.heap.size):=(by rw[HW0.out];simp[Hid])
 have HT0:Hid (Tabs W0.drew):=HT.out.below HBL.out.drew (by omega);have HR0:Hid (ByteRow W0.drew ao (64*0) cap bs):=⟨by omega,fun h=>by omega⟩
 go_enter Tryz.func81,Tryz.ntmps81;(go_wp2_with fail);go_region_with (go_at_call 121;rw[←HW0.out];refine(mixAll_out s ao 0 _ cap bs _ (by omega) HT0.out HR0.out (by omega)).mono ?_;rintro e w2 ⟨rfl,hb2⟩;have c2:=four hb2 HA.out;obtain⟨c20,c21,c22,c23,f20,f21,f22,f23⟩:=c2;have HB2:Hid _:=hb2;clear hb2)
 all_goals
  have hset:=set4 (s':=Md.mixN s bs 0) ((HB2.out.block w.heap.size (by have:=hsz.out;show _<W0.heap.size;omega)).trans HA.out);have HS1:Hid _:=hset.1;have HS2:Hid (Bl w _):=hset.2.2 _ _ (Nat.le_refl _) (HBL.out.drew.trans (HB2.out.mono (by have:=hsz.out;show _≤W0.heap.size;omega)));clear hset c20 c21 c22 c23 f20 f21 f22 f23 HB2;generalize ((((w2.setCell ⟨w.heap.size,0,none⟩ (.int .u32 (Md.mixN s bs 0).a)).setCell ⟨w.heap.size,1,none⟩ (.int .u32 (Md.mixN s bs 0).b)).setCell ⟨w.heap.size,2,none⟩ (.int .u32 (Md.mixN s bs 0).c)).setCell ⟨w.heap.size,3,none⟩ (.int .u32 (Md.mixN s bs 0).d))=w3 at HS1 HS2 ⊢;have b0:w3.cell? ⟨w.heap.size,0,none⟩=some (.int .u32 (Md.mixN s bs 0).a):=cell_of_row w3 _ 0 _ _ _ HS1.out;have b1:w3.cell? ⟨w.heap.size,1,none⟩=some (.int .u32 (Md.mixN s bs 0).b):=cell_of_row w3 _ 1 _ _ _ HS1.out;have b2:w3.cell? ⟨w.heap.size,2,none⟩=some (.int .u32 (Md.mixN s bs 0).c):=cell_of_row w3 _ 2 _ _ _ HS1.out;have b3:w3.cell? ⟨w.heap.size,3,none⟩=some (.int .u32 (Md.mixN s bs 0).d):=cell_of_row w3 _ 3 _ _ _ HS1.out;have hs3:Hid (w.heap.size≤w3.heap.size):=HS2.out.size;have HT3:Hid (Tabs w3.drew):=HT.out.below HS2.out.drew (by omega);clear HW0 HBL HA hsz HT0 HR0 HT;by_cases hcw:cap=0
  ·have HR3:∀ao' cap',Hid (ByteRow w3.drew ao' 0 cap' (fun i=>bs (64*(0/64)+i))):=fun _ _=>⟨by omega,fun h=>by omega⟩
   (go_wp2_with fail);go_region_with (first | (go_at_call 123;refine(mixLast_at (Md.mixN s bs 0) _ 0 _ _ _ (fun i=>bs (64*(0/64)+i)) _ rfl HT3.out (HR3 _ _).out (by omega)).mono ?_;rintro e w4 ⟨rfl,hb4⟩) | (go_at_call 122;refine(digest_any _ _).mono ?_;rintro e w5 ⟨rfl,hw5,hb5⟩))
   all_goals go_wp2
   (all_goals go_ret);all_goals exact⟨_,rfl,by have h1:=hs3.out;have h2:w3.heap.size≤w4.heap.size:=hb4.size;omega,hw5,(HS2.out.drew.trans (hb4.mono (by exact hs3.out))).trans (hb5.mono (by have h1:=hs3.out;have h2:w3.heap.size≤w4.heap.size:=hb4.size;omega))⟩
  ·have HR3:∀ao' cap',Hid (ByteRow w3.drew ao' 0 cap' (fun i=>bs (64*(0/64)+i))):=fun _ _=>⟨by omega,fun h=>by omega⟩
   (go_wp2_with fail);go_region_with (first | (go_at_call 123;refine(mixLast_at (Md.mixN s bs 0) _ 0 _ _ _ (fun i=>bs (64*(0/64)+i)) _ rfl HT3.out (HR3 _ _).out (by omega)).mono ?_;rintro e w4 ⟨rfl,hb4⟩) | (go_at_call 122;refine(digest_any _ _).mono ?_;rintro e w5 ⟨rfl,hw5,hb5⟩))
   all_goals go_wp2
   (all_goals go_ret);all_goals exact⟨_,rfl,by have h1:=hs3.out;have h2:w3.heap.size≤w4.heap.size:=hb4.size;omega,hw5,(HS2.out.drew.trans (hb4.mono (by exact hs3.out))).trans (hb5.mono (by have h1:=hs3.out;have h2:w3.heap.size≤w4.heap.size:=hb4.size;omega))⟩
theorem behind_any (s:Md.St) (ao:Option Addr) (n cap:Nat) (done:Nat) (bs:Nat→Int) (w:World) (ht:Tabs w) (hd:done≤64) (hc:n≤140737488351232) (hr:ByteRow w ao n cap bs) :
  Calls Tryz.prog 81 #[.agg (Md.stA s),.int .i64 done,.slice ao n cap] w (Sumd w (Md.fin s done n bs)):=by
 by_cases h:n=0
 ·subst h;exact behind_nil s ao cap done bs w ht hd
 ·obtain⟨b,off,rfl,hb,hcell⟩:=hr.2 (by omega);exact behind_pos s b off n cap done bs w ht hd hr.1 hc hb hcell
theorem sum_any (ao:Option Addr) (n cap:Nat) (bs:Nat→Int) (w:World) (ht:Tabs w) (hc:n≤140737488351232) (hr:ByteRow w ao n cap bs) :
  Calls Tryz.prog 120 #[.slice ao n cap] w (Sumd w (Md.fin Md.st0 0 n bs)):=by
 have HT:Hid _:=ht;have HR:Hid _:=hr;have hbt:=ht.lt;clear ht hr;go_enter Tryz.func120,Tryz.ntmps120;(go_wp2_with fail);refine(start_any _).mono ?_;rintro e w1 ⟨rfl,hb1⟩;have HT1:Hid (Tabs w1):=HT.out.below hb1 (by omega);have HR1:Hid (ByteRow w1 ao n cap bs):=ByteRow.below HR.out hb1;have HB1:Hid _:=hb1;clear hb1;(go_wp2_with fail);refine(behind_any Md.st0 ao n cap 0 bs _ HT1.out (by omega) hc HR1.out).mono ?_;rintro e w2 ⟨g,rfl,hg,hrow,hb2⟩;have HH:Hid _:=And.intro hg (And.intro hrow hb2);clear hg hrow hb2;go_wp2
 go_ret;exact⟨g,rfl,Nat.le_trans HB1.out.size HH.out.1,HH.out.2.1,HB1.out.trans (HH.out.2.2.mono HB1.out.size)⟩
def Md.kb (n:Nat) (bs:Nat→Int) (i:Nat):Int :=
 if n≤64 then(if i<n then bs i else 0) else(if i<16 then Md.dg (Md.fin Md.st0 0 n bs) i else 0)
theorem size42:(Tryz.prog.info? 165).map (·.size)=some 64:=by kernel_rfl
theorem zeros64:(#[.int .u8 0,.int .u8 0,.int .u8 0,.int .u8 0,.int .u8 0,.int .u8 0,.int .u8 0,.int .u8 0,.int .u8 0,.int .u8 0,.int .u8 0,.int .u8 0,.int .u8 0,.int .u8 0,.int .u8 0,.int .u8 0,.int .u8 0,.int .u8 0,.int .u8 0,.int .u8 0,.int .u8 0,.int .u8 0,.int .u8 0,.int .u8 0,.int .u8 0,.int .u8 0,.int .u8 0,.int .u8 0,.int .u8 0,.int .u8 0,.int .u8 0,.int .u8 0,.int .u8 0,.int .u8 0,.int .u8 0,.int .u8 0,.int .u8 0,.int .u8 0,.int .u8 0,.int .u8 0,.int .u8 0,.int .u8 0,.int .u8 0,.int .u8 0,.int .u8 0,.int .u8 0,.int .u8 0,.int .u8 0,.int .u8 0,.int .u8 0,.int .u8 0,.int .u8 0,.int .u8 0,.int .u8 0,.int .u8 0,.int .u8 0,.int .u8 0,.int .u8 0,.int .u8 0,.int .u8 0,.int .u8 0,.int .u8 0,.int .u8 0,.int .u8 0]:Array Value)=(bytesL 64 (fun _=>0)).toArray:=rfl
theorem sumRow {w':World}{g:Nat}{s:Md.St}(h:w'.heap[g]?=some (.cells (Md.rowB 16 (Md.dg s) 16) 5)):ByteRow w' (some ⟨g,0,none⟩) 16 16 (Md.dg s):=by
 refine⟨Nat.le_refl _,fun _=>⟨g,0,rfl,block_lt_of_cell ((cell_of_row w' g 0 _ _ _ h).trans (Md.rowB_get _ _ _ _ (by omega))),fun i hi => ?_⟩⟩;rw[Nat.zero_add];refine(cell_of_row w' g i _ _ _ h).trans ?_;rw[Md.rowB_get _ _ _ _ hi,if_pos hi]
theorem splice64 {w1:World}{g n:Nat}{bs:Nat→Int}(h:Hid (w1.heap[g]?=some (.cells (splice (bytesL 64 (fun _=>0)) 0 (bytesL n bs)).toArray 165))) (hn:n≤64) :
  Hid (w1.heap[g]?=some (.cells (rowF 64 (fun i=>if i<n then bs i else 0)) 165)):=by
 have h':=h.out;rw[splice_row 64 n bs hn] at h';exact h'
theorem keyBlock_any (ao:Option Addr) (n cap:Nat) (bs:Nat→Int) (w:World) (ht:Tabs w) (hc:n≤140737488351232) (hr:ByteRow w ao n cap bs) :
  Calls Tryz.prog 80 #[.slice ao n cap] w fun e w'=>e=.returned (.agg (rowF 64 (Md.kb n bs)))∧Bl w w':=by
 have HT:Hid _:=ht;have HR:Hid (ByteRow w ao n cap bs):=hr;have hbt:=ht.lt;clear ht hr;obtain⟨W0,HW0⟩:∃W0,Hid (W0=(w.alloc (.cells (bytesL 64 (fun _=>0)).toArray 165)).alloc (.cells (bytesL 64 (fun _=>0)).toArray 165)):=⟨_,rfl⟩
 have HBL:Hid (Bl w W0):=(by rw[HW0.out];exact((Below.refl _ w).alloc (Nat.le_refl _) _).alloc (by simp) _)
 have HA:Hid (W0.heap[w.heap.size]?=some (.cells (bytesL 64 (fun _=>0)).toArray 165)):=(by rw[HW0.out];exact heap_alloc2_old _ _ _)
 have HB:Hid (W0.heap[w.heap.size+1]?=some (.cells (bytesL 64 (fun _=>0)).toArray 165)):=(by rw[HW0.out];exact heap_alloc2_new _ _ _)
 have hsz:Hid (w.heap.size+2=W0.heap.size):=(by rw[HW0.out];simp[Hid])
 have HW:Hid _:=HW0.out;rw[←zeros64] at HW;by_cases hn:64<n
 ·have HF:Hid (rowF 64 (Md.kb n bs)=rowF 64 (fun i=>if i<16 then Md.dg (Md.fin Md.st0 0 n bs) i else 0)):=rowF_congr _ _ _ (fun i _=>by unfold Md.kb;rw[if_neg (by omega)]);have HT0:Hid (Tabs W0):=HT.out.below HBL.out (by omega);have HR0:Hid (ByteRow W0 ao n cap bs):=HR.out.below HBL.out;rw[HF.out];go_enter Tryz.func80,Tryz.ntmps80;(go_wp2_with fail);rw[←HW.out];refine(sum_any ao n cap bs _ HT0.out hc HR0.out).mono ?_;rintro e w1 ⟨g,rfl,hg,hrow,hb1⟩;have HA1:Hid (w1.heap[w.heap.size]?=some (.cells (bytesL 64 (fun _=>0)).toArray 165)):=(hb1.block _ (by have:=hsz.out;omega)).trans HA.out;have HB1:Hid (w1.heap[w.heap.size+1]?=some (.cells (bytesL 64 (fun _=>0)).toArray 165)):=(hb1.block _ (by have:=hsz.out;omega)).trans HB.out;have HBL1:Hid (Bl w w1):=HBL.out.trans (hb1.mono (by have:=hsz.out;omega));have HRR:Hid (ByteRow w1 (some ⟨g,0,none⟩) 16 16 (Md.dg (Md.fin Md.st0 0 n bs))):=sumRow hrow;clear hg hrow hb1 HA HB HBL HT0 HR0 HT HR hsz HF HW HW0;go_wp2_with (first | (refine wpList_copy_splice rfl (.tmp 9) (.tmp 10) 60 60 rfl 5 Tryz.underlying60 size5 _ _ _ _ _ _ rfl rfl (w.heap.size+1) 0 (bytesL 64 (fun _=>0)) 165 HB1.out (bytesL 16 (Md.dg (Md.fin Md.st0 0 n bs))) (by rw[bytesL_length];rfl) (fun hp=>⟨rfl,copy_src HRR.out (Nat.le_refl _) hp⟩) (by simp only[bytesL_length];omega) (bytesL_one _ _) (w.heap.size+1) _ (Below.refl _ _) (Nat.le_refl _) ?_;intro w2 hw2 hb2;rw[bytesL_length];have HW2:=splice64 hw2 (by omega);have HA2:Hid _:=(hb2.block w.heap.size (by omega)).trans HA1.out;have HBL2:Hid _:=HBL1.out.trans (hb2.mono (by omega));clear hw2 hb2 HA1 HB1 HBL1 HRR) | refine wpList_load_row rfl 165 _ rfl (w.heap.size+1) rfl 165 _ (0,0) _ HW2.out Tryz.underlying165 rfl (by rw[size42,rowF_size]) ?_ | refine wpList_store_row rfl 165 _ _ rfl w.heap.size (rowF 64 (fun i=>if i<16 then Md.dg (Md.fin Md.st0 0 n bs) i else 0)) rfl rfl 165 _ HA2.out (by rw[size42,rowF_size]) (by rw[rowF_size];rfl) (rowF_all _ _) ?_)
  exact bodyPost_ret (v:=.agg (rowF 64 (fun i=>if i<16 then Md.dg (Md.fin Md.st0 0 n bs) i else 0))) (results_cell_row (p:=2) (ty:=165) rfl _ _ w.heap.size 165 _ (0,0) _ rfl (setRow_heap _ _ _ _ _ _ HA2.out) Tryz.underlying165 rfl (by rw[size42,rowF_size])) rfl ⟨rfl,below_setRow HBL2.out (Nat.le_refl _) _⟩
 ·have HF:Hid (rowF 64 (Md.kb n bs)=rowF 64 (fun i=>if i<n then bs i else 0)):=rowF_congr _ _ _ (fun i _=>by unfold Md.kb;rw[if_pos (by omega)]);have HR0:Hid (ByteRow W0 ao n cap bs):=HR.out.below HBL.out;rw[HF.out];rw[HW.out] at HA HB HBL HR0;clear HT HR hsz HF HW HW0;go_enter Tryz.func80,Tryz.ntmps80;go_wp2_with (first | (refine wpList_copy_splice rfl (.tmp 9) (.tmp 10) 60 60 rfl 5 Tryz.underlying60 size5 _ _ _ _ _ _ rfl rfl (w.heap.size+1) 0 (bytesL 64 (fun _=>0)) 165 HB.out (bytesL n bs) (by rw[bytesL_length];exact(Nat.min_eq_left (by omega)).symm) (fun hp=>⟨rfl,copy_src HR0.out (Nat.le_refl _) hp⟩) (by simp only[bytesL_length];omega) (bytesL_one _ _) (w.heap.size+1) _ (Below.refl _ _) (Nat.le_refl _) ?_;intro w2 hw2 hb2;rw[bytesL_length];have HW2:=splice64 hw2 (by omega);have HA2:Hid _:=(hb2.block w.heap.size (by omega)).trans HA.out;have HBL2:Hid _:=HBL.out.trans (hb2.mono (by omega));clear hw2 hb2 HA HB HBL HR0) | refine wpList_load_row rfl 165 _ rfl (w.heap.size+1) rfl 165 _ (0,0) _ HW2.out Tryz.underlying165 rfl (by rw[size42,rowF_size]) ?_ | refine wpList_store_row rfl 165 _ _ rfl w.heap.size (rowF 64 (fun i=>if i<n then bs i else 0)) rfl rfl 165 _ HA2.out (by rw[size42,rowF_size]) (by rw[rowF_size];rfl) (rowF_all _ _) ?_)
  exact bodyPost_ret (v:=.agg (rowF 64 (fun i=>if i<n then bs i else 0))) (results_cell_row (p:=2) (ty:=165) rfl _ _ w.heap.size 165 _ (0,0) _ rfl (setRow_heap _ _ _ _ _ _ HA2.out) Tryz.underlying165 rfl (by rw[size42,rowF_size])) rfl ⟨rfl,below_setRow HBL2.out (Nat.le_refl _) _⟩
def Md.xk (K:Nat→Int) (mask:Int) (i:Nat):Int:=bits BinOp.xor IntKind.u8 (K i) mask
def Md.xkTo (K:Nat→Int) (mask:Int) (k i:Nat):Int:=if i<k then Md.xk K mask i else K i
theorem xkTo_step (K:Nat→Int) (mask:Int) (k i:Nat):(if i=k then Md.xk K mask k else Md.xkTo K mask k i)=Md.xkTo K mask (k+1) i:=by
 unfold Md.xkTo;by_cases h:i=k
 ·subst h;simp
 ·rw[if_neg h];have:(i<k)↔(i<k+1):=by omega
  simp only[this]
theorem start_out (w:World) :
  Calls Tryz.prog 125 #[] w fun e w'=>e=.returned (.agg #[.int .u32 Md.st0.a,.int .u32 Md.st0.b,.int .u32 Md.st0.c,.int .u32 Md.st0.d])∧Bl w w':=start_any w
theorem four' {w1 w2:World}{g:Nat}{q:Md.St}(hb:w2.heap[g]?=w1.heap[g]?) (hA:w1.heap[g]?=some (.cells (Md.stA q) 170)) :
  w2.heap[g]?=some (.cells (Md.stA q) 170)∧w2.cell? ⟨g,0,none⟩=some (.int .u32 q.a)∧w2.cell? ⟨g,1,none⟩=some (.int .u32 q.b)∧w2.cell? ⟨g,2,none⟩=some (.int .u32 q.c)∧w2.cell? ⟨g,3,none⟩=some (.int .u32 q.d) ∧
  w2.frozen? ⟨g,0,none⟩=false∧w2.frozen? ⟨g,1,none⟩=false∧w2.frozen? ⟨g,2,none⟩=false∧w2.frozen? ⟨g,3,none⟩=false:=by
 have h2:w2.heap[g]?=some (.cells (Md.stA q) 170):=hb.trans hA;exact⟨h2,cell_of_row w2 g 0 _ _ _ h2,cell_of_row w2 g 1 _ _ _ h2,cell_of_row w2 g 2 _ _ _ h2,cell_of_row w2 g 3 _ _ _ h2,frozen_of_row _ _ _ _ _ h2,frozen_of_row _ _ _ _ _ h2,frozen_of_row _ _ _ _ _ h2,frozen_of_row _ _ _ _ _ h2⟩
theorem mixKey_any (K:Nat→Int) (mask:Int) (w:World) (ht:Tabs w) :
  Calls Tryz.prog 82 #[.agg (rowF 64 K),.int .u8 mask] w fun e w'=>e=.returned (.agg (Md.stA (Md.mixS Md.st0 (Md.xk K mask))))∧Bl w w':=by
 have HT:Hid _:=ht;have hbt:=ht.lt;clear ht;go_enter Tryz.func82,Tryz.ntmps82;(go_wp2_with fail);go_loopw [6] (fun i wr=>∃k:Nat,k≤64∧i=.int .i64 k∧Hid (wr.heap[w.heap.size]?=some (.cells (rowF 64 (Md.xkTo K mask k)) 165)∧wr.heap[w.heap.size+1]?=some (.cells (Md.stA ⟨0,0,0,0⟩) 170)∧Bl w wr)) (fun i _=>64-(intOf i).toNat)
 case atStart=>exact⟨0,by omega,rfl,heap_alloc2_old w _ _,heap_alloc2_new w _ _,((Below.refl _ _).alloc (Nat.le_refl _) _).alloc (by simp) _⟩
 case round =>
  obtain⟨k,hk,rfl,hX⟩:=hrel;by_cases hlt:k<64
  ·have c4:wr.cell? ⟨w.heap.size,k,none⟩=some (.int .u8 (K k)):=(cell_of_row wr _ _ _ _ _ hX.out.1).trans ((rowF_get _ _ _ hlt).trans (by simp[Md.xkTo]));have f4:wr.frozen? ⟨w.heap.size,k,none⟩=false:=frozen_of_row _ _ _ _ _ hX.out.1;have HX:Hid ((wr.setCell ⟨w.heap.size,k,none⟩ (.int .u8 (Md.xk K mask k))).heap[w.heap.size]?=some (.cells (rowF 64 (Md.xkTo K mask (k+1))) 165)∧(wr.setCell ⟨w.heap.size,k,none⟩ (.int .u8 (Md.xk K mask k))).heap[w.heap.size+1]?=some (.cells (Md.stA ⟨0,0,0,0⟩) 170)∧Bl w (wr.setCell ⟨w.heap.size,k,none⟩ (.int .u8 (Md.xk K mask k)))):=by
    refine⟨?_,?_,hX.out.2.2.setCell (Nat.le_refl _) _⟩
    ·rw[heap_setCell_same _ _ _ _ _ _ hX.out.1,rowF_set _ _ _ _ hlt,rowF_congr _ _ _ (fun i _=>xkTo_step K mask k i)]
    ·rw[heap_setCell_other _ _ _ _ (by simp)];exact hX.out.2.1
   clear hX;go_wp2
   exact⟨⟨k+1,by omega,by go_num,HX⟩,by simp[intOf];omega⟩
  ·obtain rfl:k=64:=by omega
   have HB:Hid (wr.heap[w.heap.size+1]?=some (.cells (Md.stA ⟨0,0,0,0⟩) 170)):=hX.out.2.1;have HBL:Hid (Bl w wr):=hX.out.2.2;have hlt2:w.heap.size+1<wr.heap.size:=block_lt_of_cell (cell_of_row wr _ 0 _ _ _ HB.out);have HT':Hid (∀w1,Bl wr w1→Tabs w1):=fun w1 h1=>HT.out.below (HBL.out.trans (h1.mono (by omega))) (by omega);have HC:Hid (∀w1,Bl wr w1→∀i,i<64→w1.cell? ⟨w.heap.size,0+i,none⟩=some (.int .u8 (Md.xk K mask i))):=by
    intro w1 h1 i hi;rw[Nat.zero_add,h1.cell (by show w.heap.size<wr.heap.size;omega)];exact(cell_of_row wr _ _ _ _ _ hX.out.1).trans ((rowF_get _ _ _ hi).trans (by simp[Md.xkTo,hi]))
   clear hX HT;(go_wp2_with fail);go_region_with (first | (go_at_call 125;refine(start_out _).mono ?_;rintro e w1 ⟨rfl,hb1⟩;have HB1:Hid (Bl wr w1):=(Below.refl _ wr).drew.trans hb1;clear hb1) | (go_at_call 124;refine(mix_out Md.st0 w.heap.size 0 64 (Md.xk K mask) _ (HT'.out _ HB1.out) (by have:=HB1.out.size;omega) (Nat.le_refl _) (HC.out _ HB1.out)).mono ?_;rintro e w2 ⟨rfl,hb2⟩;have c2:=four' (hb2.block (w.heap.size+1) (by have:=HB1.out.size;omega)) ((HB1.out.block (w.heap.size+1) (by omega)).trans HB.out);obtain⟨hr2,c20,c21,c22,c23,f20,f21,f22,f23⟩:=c2;have HR2:Hid _:=hr2;have HB2:Hid _:=hb2;clear hb2 hr2))
   all_goals go_wp2
   all_goals
    have hset:=set4 (s':=Md.mixS Md.st0 (Md.xk K mask)) HR2.out;exact bodyPost_ret (v:=.agg (Md.stA (Md.mixS Md.st0 (Md.xk K mask)))) (results_cell_row (p:=4) (ty:=170) rfl _ _ (w.heap.size+1) 170 _ (0,0) _ rfl hset.1 Tryz.underlying170 rfl (by rw[size34,Md.stA_size])) rfl ⟨rfl,hset.2.2 _ _ (by omega) ((HBL.out.trans (HB1.out.mono (by omega))).trans (HB2.out.mono (by have:=HB1.out.size;omega)))⟩
def Md.mac (kn:Nat) (kbs:Nat→Int) (n:Nat) (bs:Nat→Int):Md.St :=
 Md.fin (Md.mixS Md.st0 (Md.xk (Md.kb kn kbs) 92)) 64 16 (Md.dg (Md.fin (Md.mixS Md.st0 (Md.xk (Md.kb kn kbs) 54)) 64 n bs))
theorem mac_any (ko ao:Option Addr) (kn kcap n cap:Nat) (kbs bs:Nat→Int) (w:World) (ht:Tabs w) (hkc:kn≤140737488351232) (hc:n≤140737488351232) (hk:ByteRow w ko kn kcap kbs) (hr:ByteRow w ao n cap bs) :
  Calls Tryz.prog 41 #[.slice ko kn kcap,.slice ao n cap] w (Sumd w (Md.mac kn kbs n bs)):=by
 have HT:Hid _:=ht;have HR:Hid (ByteRow w ao n cap bs):=hr;have HK:Hid (ByteRow w ko kn kcap kbs):=hk;have hbt:=ht.lt;clear ht hr hk;unfold Md.mac;generalize hKb:Md.kb kn kbs=K;have HKb:Hid (Md.kb kn kbs=K):=hKb;clear hKb;go_enter Tryz.func41,Tryz.ntmps41;(go_wp2_with fail);refine(keyBlock_any ko kn kcap kbs _ HT.out hkc HK.out).mono ?_;rintro e w1 ⟨rfl,hb1⟩;have HB1:Hid (Bl w w1):=hb1;clear hb1 HK;rw[HKb.out];have HL:Hid ((w1.alloc (.cells (rowF 64 K) 165)).heap[w1.heap.size]?=some (.cells (rowF 64 K) 165)):=heap_alloc_last _ _;have HB2:Hid (Bl w (w1.alloc (.cells (rowF 64 K) 165))):=HB1.out.alloc HB1.out.size _;have HZ:Hid (w1.heap.size<(w1.alloc (.cells (rowF 64 K) 165)).heap.size):=(by simp[Hid])
 go_wp2_with (first | (refine wpList_store_row rfl 165 _ _ rfl (w1.heap.size) _ rfl rfl 165 _ (heap_alloc_last _ _) (by rw[size42,rowF_size]) (by rw[rowF_size];rfl) (rowF_all _ _) ?_;rw[World.setRow_alloc_new]) | refine wpList_load_row rfl 165 _ rfl w1.heap.size rfl 165 _ (0,0) _ HL.out Tryz.underlying165 rfl (by rw[size42,rowF_size]) ?_)
 generalize w1.alloc (.cells (rowF 64 K) 165)=W2 at HL HB2 HZ ⊢;have hz1:Hid (w.heap.size≤w1.heap.size):=HB1.out.size;refine(mixKey_any K 54 _ (HT.out.below HB2.out (by omega))).mono ?_;rintro e w3 ⟨rfl,hb3⟩;have HB3:Hid (Bl w w3):=HB2.out.trans (hb3.mono HB2.out.size);have HL3:Hid (w3.heap[w1.heap.size]?=_):=(hb3.block _ HZ.out).trans HL.out;have HZ3:Hid (w1.heap.size<w3.heap.size):=(by have:=HZ.out;have:=hb3.size;show _<_;omega)
 have HR3:Hid (ByteRow w3 ao n cap bs):=HR.out.below HB3.out;have HT3:Hid (Tabs w3):=HT.out.below HB3.out (by omega);clear hb3 HL HB2 HZ HR;(go_wp2_with fail);refine(behind_any (Md.mixS Md.st0 (Md.xk K 54)) ao n cap 64 bs _ HT3.out (by omega) hc HR3.out).mono ?_;rintro e w4 ⟨g,rfl,hg,hrow,hb4⟩;have HB4:Hid (Bl w w4):=HB3.out.trans (hb4.mono HB3.out.size);have HL4:Hid (w4.heap[w1.heap.size]?=some (.cells (rowF 64 K) 165)):=(hb4.block _ HZ3.out).trans HL3.out;have HR4:Hid (ByteRow w4 (some ⟨g,0,none⟩) 16 16 (Md.dg (Md.fin (Md.mixS Md.st0 (Md.xk K 54)) 64 n bs))):=sumRow hrow;have HG4:Hid (g<w4.heap.size):=block_lt_of_cell ((cell_of_row w4 g 0 _ _ _ hrow).trans (Md.rowB_get _ _ _ _ (by omega)));clear hg hrow hb4 HB3 HL3 HZ3 HR3 HT3;go_wp2_with (refine wpList_load_row rfl 165 _ rfl w1.heap.size rfl 165 _ (0,0) _ HL4.out Tryz.underlying165 rfl (by rw[size42,rowF_size]) ?_)
 refine(mixKey_any K 92 _ (HT.out.below HB4.out (by omega))).mono ?_;rintro e w5 ⟨rfl,hb5⟩;have HB5:Hid (Bl w w5):=HB4.out.trans (hb5.mono HB4.out.size);have HR5:Hid (ByteRow w5 (some ⟨g,0,none⟩) 16 16 (Md.dg (Md.fin (Md.mixS Md.st0 (Md.xk K 54)) 64 n bs))):=ByteRow.below HR4.out hb5;have HT5:Hid (Tabs w5):=HT.out.below HB5.out (by omega);clear hb5 HB4 HL4 HR4 HG4 HT HB1;(go_wp2_with fail);refine(behind_any (Md.mixS Md.st0 (Md.xk K 92)) _ 16 16 64 _ _ HT5.out (by omega) (by omega) HR5.out).mono ?_;rintro e w6 ⟨g6,rfl,hg6,hrow6,hb6⟩;have HH:Hid _:=And.intro hg6 (And.intro hrow6 hb6);clear hg6 hrow6 hb6;go_wp2
 go_ret;exact⟨g6,rfl,Nat.le_trans HB5.out.size HH.out.1,HH.out.2.1,HB5.out.trans (HH.out.2.2.mono HB5.out.size)⟩
theorem make_room (w:World) (m c:Nat) (hm:m≤c) (hc:c≤100000):(Instr.makeSlice 60 (.int .i64 (m:Int)) (.int .i64 (c:Int))).run Tryz.prog w=.ok (.slice (some ⟨w.heap.size,0,none⟩) m c) (w.alloc (.cells (rowF c (fun _=>0)) 5)):=by
 obtain⟨i0,hi,hz0,hz1,hz2⟩:=info_parts info5;have h:=run_make (P:=Tryz.prog) w 60 5 i0 (.int .u8 0) Tryz.underlying60 hi hz0 .i64 .i64 (m:Int) (c:Int) (by omega) (by omega) (by rw[hz2];omega) (by omega);rw[hz1,Nat.mul_one,Int.toNat_natCast,Int.toNat_natCast,made_zeros] at h;exact h
theorem owns_room {w:World}{g n c base:Nat}{f:Nat→Int}(h:w.heap[g]?=some (.cells (rowF c f) 5)) (hb:base≤g) (hn:n≤c) (hc:c≤100000):w.ownsRow base 5 1 (.slice (some ⟨g,0,none⟩) n c) n (bytesL n f):=by
 refine⟨by rw[bytesL_length,Nat.mul_one],Or.inr ⟨g,c,rowF c f,rfl,hb,h,hn,by unfold maxLen;omega,by rw[rowF_size,Nat.mul_one],?_⟩⟩;rw[Nat.mul_one];apply List.ext_getElem?
 intro i;show((bytesL c f).take n)[i]?=_;by_cases hi:i<n
 ·rw[List.getElem?_take_of_lt hi];simp[bytesL,hi,show i<c by omega]
 ·rw[List.getElem?_eq_none (by simp[bytesL_length];omega),List.getElem?_eq_none (by rw[bytesL_length];omega)]
theorem wpList_append_pair {w:World}{ops:Array Oper}{rest:List Oper}{o:Oper}{a:Act}{Q:Exit→Act→World→Prop}(hgd:o.guard=none) (s x:Operand)
  (ho:o.op=.call { callee:=.builtin .append,args:=#[s,x],argTypes:=#[60,60] }) (base:Nat)
  (v:Value) (n:Nat) (P:Nat→Int) (hs:a.eval s=v) (y z:Int) (hown:w.ownsRow base 5 1 v n (bytesL n P)) (hbase:base≤w.heap.size)
  (hx:a.eval x=.slice (some ⟨w.heap.size,0,none⟩) 2 2) (hy:y=P n) (hz:z=P (n+1)) (hb:n+2≤1000000)
  (h:∀v' w',w'.ownsRow base 5 1 v' (n+2) (bytesL (n+2) P)→Below base w w'→wpList Tryz.prog ops Q rest (a.put o.dst v') w'):wpList Tryz.prog ops Q (o :: rest) a (w.alloc (.cells #[.int .u8 y,.int .u8 z] 5)):=by
 have hl:(w.alloc (.cells #[.int .u8 y,.int .u8 z] 5)).heap[w.heap.size]?=some (.cells (rowF 2 (fun i=>if i=0 then y else z)) 5):=heap_alloc_last _ _;have hr:ByteRow (w.alloc (.cells #[.int .u8 y,.int .u8 z] 5)) (some ⟨w.heap.size,0,none⟩) 2 2 (fun i=>if i=0 then y else z) :=
  (ByteRow.of_row (off:=0) (n:=2) (cap:=2) hl (by omega) (Nat.le_refl _)).congr (fun i _=>by rw[Nat.zero_add])
 have ho2:=hown.alloc (.cells #[.int .u8 y,.int .u8 z] 5);refine wpList_append_bytes hgd s x ho base v n _ hs ho2 _ 2 2 _ hx hr (fun h=>by cases h) (by omega) (by simp;omega) ?_;intro v' w' h1 h2;refine h v' w' ?_ (grown_own ((Below.refl _ _).alloc hbase _) ho2 (by simp;omega) h2);rw[bytesL_append] at h1;rw[bytesL_congr (n+2) P (fun i=>if i<n then P i else if i-n=0 then y else z)]
 ·exact h1
 ·intro i hi;by_cases e:i<n
  ·rw[if_pos e]
  ·rw[if_neg e];by_cases e2:i-n=0
   ·rw[if_pos e2,hy,show i=n by omega]
   ·rw[if_neg e2,hz,show i=n+1 by omega]
theorem gpair_any (base n:Nat) (v:Value) (P:Nat→Int) (N:Int) (w:World) (hown:w.ownsRow base 5 1 v n (bytesL n P)) (hbase:base≤w.heap.size) (h0:0≤N∧N≤65535) (hy:N/256=P n) (hz:N%256=P (n+1)) (hn:n+2≤1000000) :
  Calls Tryz.prog 39 #[v,.int .i64 N] w fun e w'=>∃v',e=.returned v'∧w'.ownsRow base 5 1 v' (n+2) (bytesL (n+2) P)∧Below base w w':=by
 have HO:Hid (w.ownsRow base 5 1 v n (bytesL n P)):=hown;have HY:Hid (N/256=P n):=hy;have HZ:Hid (N%256=P (n+1)):=hz;clear hown hy hz;obtain⟨h1,h2⟩:=h0;go_enter Tryz.func39,Tryz.ntmps39;go_wp2_with (at_builtin;refine wpList_append_pair rfl (.tmp 5) (.tmp 11) rfl base _ n P rfl _ _ HO.out hbase rfl HY.out HZ.out hn ?_;intro v' w' ho hb;have HO2:Hid (w'.ownsRow base 5 1 v' (n+2) (bytesL (n+2) P)):=ho;have HB:Hid (Below base w w'):=hb;clear ho hb)
 go_ret;exact⟨_,rfl,HO2.out,HB.out⟩
namespace Rg
def keyL:List Int:=[19,172,6,166,46,71,253,81,249,93,43,162,67,205,3,70]
def key (i:Nat):Int:=keyL.getD i 0
def dig (vs ts:Nat→Int) (n:Nat):Md.St:=Md.mac 16 key 8192 (pairs vs ts n)
end Rg
theorem gkey_any (w:World) :
  Calls Tryz.prog 42 #[] w fun e w'=>e=.returned (.slice (some ⟨w.heap.size,0,none⟩) 16 16)∧w'.heap[w.heap.size]?=some (.cells (rowF 16 Rg.key) 5)∧Bl w w':=by
 go_enter Tryz.func42,Tryz.ntmps42;go_wp2
 go_ret;exact⟨rfl,heap_alloc_last _ _,bA1 _ _⟩
theorem gdigest_any (s:ByteArray) (rev:Int) (ao:Option Addr) (n cap:Nat) (vs ts:Nat→Int) (w:World) (hR:Rg.Right vs ts n) (hr:WayRow w ao n cap vs ts) (ht:Tabs w) :
  Calls Tryz.prog 18 #[.agg #[.string s,.int .i64 rev,.slice ao n cap]] w (Sumd w (Rg.dig vs ts n)):=by
 have HT:Hid (Tabs w):=ht;have hbt:=ht.lt;have HRt:Hid (Rg.Right vs ts n):=hR;have HR:Hid (WayRow w ao n cap vs ts):=hr;clear ht hr hR;have hmk:∀W:World,(Instr.makeSlice 60 (.int .i64 0) (.int .i64 8192)).run Tryz.prog W=.ok (.slice (some ⟨W.heap.size,0,none⟩) 0 8192) (W.alloc (.cells (rowF 8192 (fun _=>0)) 5)):=fun W=>make_room W 0 8192 (by omega) (by omega);go_enter Tryz.func18,Tryz.ntmps18;(go_wp2_with fail);go_loopw [3,6] (fun v i wr=>∃k:Nat,(k:Int)≤4096∧i=.int .i64 k∧Hid (wr.ownsRow (w.heap.size+1) 5 1 v (2*k) (bytesL (2*k) (Rg.pairs vs ts n)))∧Hid (Below (w.heap.size+1) (w.alloc (.cells #[.string s,.int .i64 rev,.slice ao n cap] 56)) wr)) (fun _ i _=>4096-(intOf i).toNat)
 case atStart =>
  refine⟨0,by omega,rfl,?_,(Below.refl _ _).alloc (by simp) _⟩;rw[show bytesL (2*0) (Rg.pairs vs ts n)=bytesL 0 (fun _=>0) from rfl];exact owns_room (g:=w.heap.size+1) (heap_alloc2_new w _ _) (Nat.le_refl _) (by omega) (by omega)
 case round =>
  clear hmk;obtain⟨k,hk,rfl,hX,hB⟩:=hrel;have hb0:Bl w wr:=(bA1 w _).trans (hB.out.mono (by omega));have hz0:w.heap.size+1≤wr.heap.size:=(by have:=hB.out.size;simp at this;omega)
  obtain⟨c0,c1,c2⟩:=rg_cells ((hB.out.block w.heap.size (by omega)).trans (heap_alloc_last w _));have HR1:Hid (WayRow wr ao n cap vs ts):=HR.out.below hb0;have HB0:Hid (Bl w wr):=hb0;clear hb0;by_cases hlt:(k:Int)<4096
  ·have hT:=Rg.tree_range HRt.out (k:Int) n (Nat.le_refl _);have HY:Hid (Rg.tree vs ts (k:Int) n/256=Rg.pairs vs ts n (2*k)):=(by rw[Rg.pairs_even];show _/256=(0:Int);omega)
   have HZ:Hid (Rg.tree vs ts (k:Int) n%256=Rg.pairs vs ts n (2*k+1)):=(by rw[Rg.pairs_odd];show _%256=_;omega)
   have HC:Hid (∀W,Bl wr W→∀v,wr.ownsRow (w.heap.size+1) 5 1 v (2*k) (bytesL (2*k) (Rg.pairs vs ts n))→Calls Tryz.prog 39 #[v,.int .i64 (Rg.tree vs ts (k:Int) n)] W fun e w'=>∃v',e=.returned v'∧Hid (w'.ownsRow (w.heap.size+1) 5 1 v' (2*(k+1)) (bytesL (2*(k+1)) (Rg.pairs vs ts n)))∧Hid (Below (w.heap.size+1) (w.alloc (.cells #[.string s,.int .i64 rev,.slice ao n cap] 56)) w')):=by
    intro W hW v hv;refine(gpair_any (w.heap.size+1) (2*k) v _ _ W (owns_below hv hW) (Nat.le_trans hz0 hW.size) (by omega) HY.out HZ.out (by omega)).mono ?_;rintro e w' ⟨v',rfl,h1,h2⟩;exact⟨v',rfl,h1,(hB.out.trans (hW.mono hz0)).trans h2⟩
   clear HY HZ hT hB;go_wp2_with (first | (go_at_call 40;refine(gtree_any s rev ao n cap vs ts _ _ HRt.out HR1.out).mono ?_;rintro e w2 ⟨rfl,hb2⟩;have HB2:Hid (Bl wr w2):=hb2;clear hb2) | (go_at_call 39;refine(HC.out _ HB2.out _ hX.out).mono ?_;rintro e w3 ⟨v3,rfl,HO3,HB3⟩))
   exact⟨⟨k+1,by omega,by go_num,HO3,HB3⟩,by simp[intOf];omega⟩
  ·obtain rfl:k=4096:=by omega
   obtain⟨bo,bc,rfl,hbr,_,_,_⟩:=owns_row (n:=8192) (f:=Rg.pairs vs ts n) (by exact hX.out);have HBR:Hid (ByteRow wr bo 8192 bc (Rg.pairs vs ts n)):=hbr;have HT1:Hid (Tabs wr):=HT.out.below HB0.out (by omega);have hl1:=HT1.out.lt;have HM:Hid (∀W,Bl wr W→W.heap[wr.heap.size]?=some (.cells (rowF 16 Rg.key) 5)→Calls Tryz.prog 41 #[.slice (some ⟨wr.heap.size,0,none⟩) 16 16,.slice bo 8192 bc] W (Sumd w (Rg.dig vs ts n))):=by
    intro W hW hrow;refine(mac_any _ _ 16 16 8192 bc Rg.key (Rg.pairs vs ts n) W (HT1.out.below hW (by omega)) (by omega) (by omega) ((ByteRow.of_row (off:=0) (n:=16) (cap:=16) hrow (by omega) (Nat.le_refl _)).congr (fun i _=>by rw[Nat.zero_add])) (HBR.out.below hW)).mono ?_;rintro e w' ⟨g,rfl,hg,h1,h2⟩;have hs:=HB0.out.size;have hs2:=hW.size;exact⟨g,rfl,by omega,h1,(HB0.out.trans (hW.mono hs)).trans (h2.mono (by omega))⟩
   clear hX hB hbr;go_wp2_with (first | (go_at_call 42;refine(gkey_any _).mono ?_;rintro e w2 ⟨rfl,hrow2,hb2⟩;have HB2:Hid (Bl wr w2):=hb2;have HW2:Hid (w2.heap[wr.heap.size]?=some (.cells (rowF 16 Rg.key) 5)):=hrow2;clear hb2 hrow2) | (go_at_call 41;refine(HM.out _ HB2.out HW2.out).mono ?_;rintro e w3 ⟨g,rfl,hh⟩;have HH:Hid _:=hh;clear hh))
   go_ret;exact⟨g,rfl,HH.out⟩
theorem splice_name (N:Nat) (f:Nat→Int) (s:ByteArray) (h:s.size≤N):((rowF N f).toList.take 0++Lib.byteCells s.data.toList++(rowF N f).toList.drop (0+s.size)).toArray=rowF N (fun i=>if i<s.size then Rg.nb s i else f i):=by
 apply Array.ext_getElem?
 intro i;have hl:(Lib.byteCells s.data.toList).length=s.size:=(by simp[Lib.byteCells])
 rw[List.getElem?_toArray,List.take_zero,List.nil_append,Nat.zero_add];by_cases hi:i<s.size
 ·have hi':i<s.data.size:=hi;rw[List.getElem?_append_left (by rw[hl];exact hi),rowF_get _ _ _ (by omega),if_pos hi];simp[Lib.byteCells,Rg.nb,List.getD,Array.getElem?_eq_getElem hi']
 ·rw[List.getElem?_append_right (by rw[hl];omega),hl,List.getElem?_drop,show s.size+(i-s.size)=i by omega,Array.getElem?_toList];by_cases hN:i<N
  ·rw[rowF_get _ _ _ hN,rowF_get _ _ _ hN,if_neg hi]
  ·rw[Array.getElem?_eq_none (by rw[rowF_size];omega),Array.getElem?_eq_none (by rw[rowF_size];omega)]
theorem wpList_copy_str {w:World}{ops:Array Oper}{rest:List Oper}{o:Oper}{a:Act}{Q:Exit→Act→World→Prop}(hgd:o.guard=none) (d x:Operand)
  (ho:o.op=.call { callee:=.builtin .copy,args:=#[d,x],argTypes:=#[60,9] }) (g N dLen dCap:Nat) (f:Nat→Int) (s:ByteArray)
  (hd:a.eval d=.slice (some ⟨g,0,none⟩) dLen dCap) (hx:a.eval x=.string s) (hle:s.size≤dLen) (hN:s.size≤N) (hrow:w.heap[g]?=some (.cells (rowF N f) 5))
  (h:∀w',w'.heap[g]?=some (.cells (rowF N (fun i=>if i<s.size then Rg.nb s i else f i)) 5)→w'.heap.size=w.heap.size→Below g w w'→wpList Tryz.prog ops Q rest (a.put o.dst (goInt s.size)) w'):wpList Tryz.prog ops Q (o :: rest) a w:=by
 refine wpList_plain hgd fun K hK => ?_;have hrun:=Lib.run_copy_row_string (P:=Tryz.prog) w 60 9 o.type 5 g 0 dLen dCap s _ _ Tryz.underlying60 size5 hrow hle (by rw[rowF_size];omega);rw[splice_name N f s hN] at hrun;unfold Oper.wp;simp[execOp,ho,resolve,invoke,builtin,hd,hx,hrun,Result.andThen];exact hK _ _ (h _ (setRow_heap w g _ _ _ _ hrow) (by simp) (below_setRow (Below.refl _ _) (Nat.le_refl _) _))
theorem gequal_any (a1 a2:Option Addr) (n1 c1 n2 c2:Nat) (b1 b2:Nat→Int) (w:World) (h1:ByteRow w a1 n1 c1 b1) (k1:NilOk a1 n1 c1) (h2:ByteRow w a2 n2 c2 b2) (k2:NilOk a2 n2 c2) :
  Calls Tryz.prog 70 #[.slice a1 n1 c1,.slice a2 n2 c2] w fun e w'=>e=.returned (.bool (decide (strOf n1 b1=strOf n2 b2)))∧w'=w:=by
 have q1:=run_str w a1 n1 c1 b1 h1 k1;have q2:=run_str w a2 n2 c2 b2 h2 k2;clear h1 k1 h2 k2;generalize strOf n1 b1=S at *;generalize strOf n2 b2=T at *;go_enter Tryz.func70,Tryz.ntmps70;go_wp2
 go_ret;refine⟨?_,rfl⟩;by_cases e:S=T
 ·subst e;simp
 ·have hne:¬S.toList=T.toList:=fun h=>e (ByteArray.ext (Array.toList_inj.mp (by rw[←ByteArray.toList_eq,←ByteArray.toList_eq];exact h)));simp[e,hne]
theorem gident_new (s:ByteArray) (rev:Int) (ao:Option Addr) (n cap:Nat) (vs ts:Nat→Int) (w:World) (hs:s.size≤32) (hv:0≤rev∧rev≤65535) (hR:Rg.Right vs ts n) (hr:WayRow w ao n cap vs ts) (ht:Tabs w) :
  Calls Tryz.prog 113 #[.agg #[.string s,.int .i64 rev,.slice ao n cap]] w fun e w'=>∃ro rc,e=.returned (.slice ro 50 rc)∧ByteRow w' ro 50 rc (Rg.ident s rev (Md.dg (Rg.dig vs ts n)))∧Bl w w'∧∀ad,ro=some ad→w.heap.size<ad.block:=by
 have HT:Hid (Tabs w):=ht;have hbt:=ht.lt;have HRt:Hid (Rg.Right vs ts n):=hR;have HR:Hid (WayRow w ao n cap vs ts):=hr;clear ht hr hR;obtain⟨P,HP⟩:∃P,Hid (P=Rg.ident s rev (Md.dg (Rg.dig vs ts n))):=⟨_,rfl⟩
 have HY:Hid (rev/256=P 32):=(by rw[HP.out];show _=_;simp[Rg.ident])
 have HZ:Hid (rev%256=P (32+1)):=(by rw[HP.out];show _=_;simp[Rg.ident])
 have HH:Hid (∀i,i<32→(if i<s.size then Rg.nb s i else 0)=P i):=by
  intro i hi;rw[HP.out];unfold Rg.ident;rw[if_pos hi]
 have HD:Hid (bytesL 34 P++bytesL 16 (Md.dg (Rg.dig vs ts n))=bytesL (34+16) P):=by
  show _=_;rw[bytesL_append];apply bytesL_congr
  intro i hi;by_cases e:i<34
  ·rw[if_pos e]
  ·rw[if_neg e,HP.out];unfold Rg.ident;rw[if_neg (by omega),if_neg (by omega),if_neg (by omega)]
 have hmk:∀W:World,(Instr.makeSlice 60 (.int .i64 32) (.int .i64 50)).run Tryz.prog W=.ok (.slice (some ⟨W.heap.size,0,none⟩) 32 50) (W.alloc (.cells (rowF 50 (fun _=>0)) 5)):=fun W=>make_room W 32 50 (by omega) (by omega);have HW:Hid (∀w2:World,Below (w.heap.size+1) ((w.alloc (.cells #[.string s,.int .i64 rev,.slice ao n cap] 56)).alloc (.cells (rowF 50 (fun _=>0)) 5)) w2→w2.cell? ⟨w.heap.size,0,none⟩=some (.string s)∧w2.cell? ⟨w.heap.size,1,none⟩=some (.int .i64 rev)∧w2.cell? ⟨w.heap.size,2,none⟩=some (.slice ao n cap)∧Hid (Bl w w2)∧w.heap.size+1<w2.heap.size):=by
  intro w2 hb;have h:=rg_cells ((hb.block w.heap.size (by omega)).trans (heap_alloc2_old w (.cells #[.string s,.int .i64 rev,.slice ao n cap] 56) _));have h2:=hb.size;simp at h2;exact⟨h.1,h.2.1,h.2.2,(bA2 w _ _).trans (hb.mono (by omega)),by omega⟩
 have HO:Hid (∀w2:World,w2.heap[w.heap.size+1]?=some (.cells (rowF 50 (fun i=>if i<s.size then Rg.nb s i else 0)) 5)→w2.ownsRow (w.heap.size+1) 5 1 (.slice (some ⟨w.heap.size+1,0,none⟩) 32 50) 32 (bytesL 32 P)):=by
  intro w2 h;have:=owns_room (base:=w.heap.size+1) (n:=32) h (Nat.le_refl _) (by omega) (by omega);rw[bytesL_congr 32 _ P HH.out] at this;exact this
 go_enter Tryz.func113,Tryz.ntmps113;go_wp2_with (refine wpList_copy_str rfl (.tmp 5) (.tmp 7) rfl (w.heap.size+1) 50 32 50 (fun _=>0) s rfl rfl hs (by omega) (heap_alloc2_new w _ _) ?_;intro w2 hrow2 _ hb2;obtain⟨q0,q1,q2,HB2,z2⟩:=HW.out w2 hb2;have HO2:Hid _:=HO.out w2 hrow2;have HX2:Hid _:=hb2;clear hrow2 hb2)
 refine(gpair_any (w.heap.size+1) 32 _ P rev w2 HO2.out (by omega) hv HY.out HZ.out (by omega)).mono ?_;rintro e w3 ⟨v3,rfl,ho3,hb3⟩;obtain⟨r0,r1,r2,HB3,z3⟩:=HW.out w3 (HX2.out.trans hb3);have HO3:Hid (w3.ownsRow (w.heap.size+1) 5 1 v3 34 (bytesL 34 P)):=ho3;clear ho3 hb3 q0 q1 q2 HO2 HX2 HB2 z2 HW HO HY HZ HH;(go_wp2_with fail);refine(gdigest_any s rev ao n cap vs ts _ HRt.out (HR.out.below HB3.out) (HT.out.below HB3.out (by omega))).mono ?_;rintro e w4 ⟨g4,rfl,hg4,hrow4,hb4⟩;have HO4:Hid (w4.ownsRow (w.heap.size+1) 5 1 v3 34 (bytesL 34 P)):=owns_below HO3.out hb4;have HR4:Hid (ByteRow w4 (some ⟨g4,0,none⟩) 16 16 (Md.dg (Rg.dig vs ts n))):=sumRow hrow4;have HB4:Hid (Bl w w4):=HB3.out.trans (hb4.mono HB3.out.size);have z4:w.heap.size+1≤w4.heap.size:=(by have:=hb4.size;omega)
 clear hg4 hrow4 hb4;have HA:Hid (∀v5 w5,w5.ownsRow (w.heap.size+1) 5 1 v5 (34+16) (bytesL 34 P++bytesL 16 (Md.dg (Rg.dig vs ts n)))→w4.grownBy w5 v3.ownBlock→∃ro rc,v5=.slice ro 50 rc∧Hid (ByteRow w5 ro 50 rc P)∧Hid (Bl w w5)∧Hid (∀ad,ro=some ad→w.heap.size<ad.block)):=by
  intro v5 w5 ho5 hg5;rw[HD.out] at ho5;have hb5:Bl w w5:=HB4.out.trans ((grown_own (Below.refl _ _) HO4.out z4 hg5).mono (by omega));obtain⟨ro,rc,rfl,hr5,_,_,hq5⟩:=owns_row ho5;exact⟨ro,rc,rfl,hr5,hb5,fun ad e=>by have:=hq5 ad e;omega⟩
 go_wp2_with (at_builtin;refine wpList_append_bytes rfl (.tmp 13) (.tmp 15) rfl (w.heap.size+1) _ 34 _ rfl HO4.out _ 16 16 _ rfl HR4.out (fun h=>by cases h) (by omega) z4 ?_;intro v5 w5 ho5 hg5;obtain⟨ro,rc,rfl,HR5,HB5,HQ5⟩:=HA.out v5 w5 ho5 hg5;clear ho5 hg5)
 go_ret;exact⟨ro,rc,rfl,by rw[←HP.out];exact HR5.out,HB5.out,HQ5.out⟩
namespace Rg
structure Reg where
 s:ByteArray
 rev:Int
 ao:Option Addr
 n:Nat
 cap:Nat
 vs:Nat→Int
 ts:Nat→Int
def Reg.id (r:Reg):Nat→Int:=ident r.s r.rev (Md.dg (dig r.vs r.ts r.n))
def Reg.ok (r:Reg):Prop:=isName r.s=true∧(0≤r.rev∧r.rev≤65535)∧Right r.vs r.ts r.n
def Reg.at' (r:Reg) (w:World):Prop:=WayRow w r.ao r.n r.cap r.vs r.ts
theorem Reg.at'.below {r:Reg}{w w':World}(h:r.at' w) (hb:Bl w w'):r.at' w':=WayRow.below h hb
end Rg
theorem gident_reg_new (r:Rg.Reg) (w:World) (hk:r.ok) (ha:r.at' w) (ht:Tabs w) :
  Calls Tryz.prog 113 #[.agg #[.string r.s,.int .i64 r.rev,.slice r.ao r.n r.cap]] w fun e w'=>∃ro rc,e=.returned (.slice ro 50 rc)∧ByteRow w' ro 50 rc r.id∧Bl w w'∧∀ad,ro=some ad→w.heap.size<ad.block :=
 gident_new r.s r.rev r.ao r.n r.cap r.vs r.ts w (Rg.isName_parts hk.1).2.1 hk.2.1 hk.2.2 ha ht
end
end Go.Proofs.YtflghpnpjmodaaaGreatDoor
