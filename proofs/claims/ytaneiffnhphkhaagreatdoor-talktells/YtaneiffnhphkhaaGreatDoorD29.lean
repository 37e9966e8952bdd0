/- walks: the document's Table of regions -/
import Derived.Test.YtaneiffnhphkhaaGreatDoorD26
import Derived.Test.YtaneiffnhphkhaaGreatDoorD04
set_option maxRecDepth 100000
set_option maxHeartbeats 40000000
namespace Go.Proofs.YtaneiffnhphkhaaGreatDoor
section
open Go.RowKit
open Vc (V Of)
open Pl (Br Net Pc Lk En)
theorem rwrong6_any (n:Net) (w:World) (hat:n.at' w) :
  Calls Tryz.prog 34 #[n.val] w fun e w'=>e=.returned (.agg (ftA n.wrong))∧Bl w w':=by
 obtain⟨X0,HX0⟩:∃X,Hid (X=(w.alloc (.cells #[.slice n.bao n.K n.bcap,.slice n.lao n.L n.lcap] 25)).alloc (.cells #[.int .i64 0,.int .i64 0] 32)):=⟨_,rfl⟩
 have hXB:Bl w X0:=(by rw[HX0.out];exact bA2 _ _ _)
 have hXs:X0.heap.size=w.heap.size+1+1:=(by rw[HX0.out];simp)
 have hXn:X0.heap[w.heap.size]?=some (.cells #[.slice n.bao n.K n.bcap,.slice n.lao n.L n.lcap] 25):=(by rw[HX0.out];exact heap_alloc2_old _ _ _)
 have hXf:X0.heap[w.heap.size+1]?=some (.cells #[.int .i64 0,.int .i64 0] 32):=(by rw[HX0.out];exact heap_alloc2_new _ _ _)
 obtain⟨BN,HBN⟩:∃BN,Hid (BN=w.heap.size):=⟨_,rfl⟩
 obtain⟨G,HG⟩:∃G,Hid (G=w.heap.size+1):=⟨_,rfl⟩
 have HC:Hid (∀W,Bl X0 W→((W.cell? ⟨BN,0,none⟩=some (.slice n.bao n.K n.bcap)∧W.cell? ⟨BN,1,none⟩=some (.slice n.lao n.L n.lcap))∧n.at' W)∧(Bl w W∧W.heap[G]?=some (.cells #[.int .i64 0,.int .i64 0] 32))):=fun W hW=>by
  have h1:Bl w W:=hXB.trans (hW.mono hXB.size);rw[HBN.out,HG.out];exact⟨⟨tC2 (keep hXn hW),hat.below h1⟩,h1,keep hXf hW⟩
 have hGM:w.heap.size≤G:=(by rw[HG.out];omega)
 have hcap:=hat.brs.1;have hcapL:=hat.lks.1;have hmB:=hat.manyB;have hmL:=hat.manyL;obtain⟨⟨⟨n0,n1⟩,_⟩,_⟩:=HC.out X0 (Below.refl _ _);rw[HBN.out,HX0.out] at n0 n1;have HX2:Hid (X0.heap[G]?=some (.cells #[.int .i64 0,.int .i64 0] 32)∧Bl w X0):=(by rw[HG.out];exact⟨hXf,hXB⟩)
 clear hat hXn hXf hXB hXs;simp only[Pl.Net.val];go_enter Tryz.func34,Tryz.ntmps34;by_cases m1:12<n.K
 ·have HF2:Hid (n.wrong=(5,0)):=by show n.wrong=(5,0);unfold Pl.Net.wrong;rw[if_pos (Or.inl m1)]
  have mi:(12:Int)<(n.K:Int):=(by omega)
  (go_wp2_with fail);exact bodyPost_ret (v:=.agg #[.int .i64 5,.int .i64 0]) (results_row (p:=2) (ty:=32) Tryz.results34 _ _ (w.heap.size+1) 32 #[.int .i64 5,.int .i64 0] (0,0) _ rfl (heap_alloc2_new _ _ _) Tryz.underlying32 rfl (by rw[psizeFa];rfl)) rfl ⟨by rw[HF2.out];rfl,bA2 _ _ _⟩
 by_cases m2:40<n.L
 ·have HF2:Hid (n.wrong=(5,0)):=by show n.wrong=(5,0);unfold Pl.Net.wrong;rw[if_pos (Or.inr m2)]
  have mi:(40:Int)<(n.L:Int):=(by omega)
  have mj:¬(12:Int)<(n.K:Int):=(by omega)
  (go_wp2_with fail);exact bodyPost_ret (v:=.agg #[.int .i64 5,.int .i64 0]) (results_row (p:=2) (ty:=32) Tryz.results34 _ _ (w.heap.size+1) 32 #[.int .i64 5,.int .i64 0] (0,0) _ rfl (heap_alloc2_new _ _ _) Tryz.underlying32 rfl (by rw[psizeFa];rfl)) rfl ⟨by rw[HF2.out];rfl,bA2 _ _ _⟩
 have HFW:Hid (¬(12<n.K∨40<n.L)):=by show ¬(12<n.K∨40<n.L);omega
 have mi:¬(12:Int)<(n.K:Int):=(by omega)
 have mj:¬(40:Int)<(n.L:Int):=(by omega)
 (go_wp2_with fail);rw[←HX0.out];rw[←HG.out];rw[←HBN.out];clear n0 n1 HX2;go_loopw [34] (fun i wr=>∃k:Nat,k≤n.K∧i=.int .i64 k∧Hid (∀j,j<k→Pl.bErr n.bs j=0)∧Hid (Bl X0 wr)) (fun i _=>n.K-(intOf i).toNat)
 case atStart=>exact⟨0,by omega,rfl,(fun j hj=>absurd hj (by omega)),Below.refl _ _⟩
 case round =>
  obtain⟨k,hk,rfl,hS,hB⟩:=hrel;by_cases hlt:k<n.K
  ·obtain⟨⟨⟨m0,m1'⟩,hatW⟩,_⟩:=HC.out wr hB.out;obtain⟨b,off,eb,_⟩:=CRow.some hatW.brs (by omega);have hbr:=hatW.brs;rw[eb] at hbr m0 ⊢;have HEB:Hid (n.bao=some ⟨b,off,none⟩):=eb;obtain⟨c0,c1,c2,c3,c4⟩:=BRow.cells hbr hlt;obtain⟨x,hx⟩:∃x,x=n.bs k:=⟨_,rfl⟩
   rw[←hx] at c0 c1 c2 c3 c4;obtain⟨X,HX⟩:∃X,Hid (X=(wr.alloc (.cells #[.int .i64 (k:Int)] 3)).alloc (.cells #[.int .u64 x.addr,.slice x.pao x.pn x.pcap,.string x.reg.s,.int .i64 x.reg.rev,.slice x.reg.ao x.reg.n x.reg.cap] 74)):=⟨_,rfl⟩
   have hXB:Bl wr X:=(by rw[HX.out];exact bA2 _ _ _)
   have hXi:X.heap[wr.heap.size]?=some (.cells #[.int .i64 (k:Int)] 3):=(by rw[HX.out];exact heap_alloc2_old _ _ _)
   have hXg:X.heap[wr.heap.size+1]?=some (.cells #[.int .u64 x.addr,.slice x.pao x.pn x.pcap,.string x.reg.s,.int .i64 x.reg.rev,.slice x.reg.ao x.reg.n x.reg.cap] 74):=(by rw[HX.out];exact heap_alloc2_new _ _ _)
   have HXX:Hid (Bl X X):=Below.refl _ _;have h0X:Bl X0 X:=pup hB.out hXB hB.out.size;have HUP:Hid (∀W,Bl X W→Bl X0 W):=fun W hW=>pup h0X hW h0X.size;have HBAD:Hid (∀(e:Int) (W:World),Bl X W→Calls Tryz.prog 57 #[.int .i64 e,.pointer (some ⟨wr.heap.size,0,none⟩)] W fun r w'=>r=.returned (.agg #[.int .i64 e,.int .i64 (k:Int)])∧Hid (Bl w w'∧w'.heap[G]?=some (.cells #[.int .i64 0,.int .i64 0] 32))):=fun e W hW=>(rbad1_any e wr.heap.size k W (cell_of_row W _ 0 _ _ _ (keep hXi hW))).mono (fun _ w' h=>⟨h.1,(HC.out w' (HUP.out w' (hW.trans (h.2.mono hW.size)))).2⟩);have HCC:Hid (∀W,Bl X W→W.cell? ⟨wr.heap.size,0,none⟩=some (.int .i64 (k:Int))∧W.cell? ⟨wr.heap.size+1,0,none⟩=some (.int .u64 x.addr)∧W.cell? ⟨wr.heap.size+1,1,none⟩=some (.slice x.pao x.pn x.pcap)∧W.cell? ⟨wr.heap.size+1,2,none⟩=some (.string x.reg.s)∧W.cell? ⟨wr.heap.size+1,3,none⟩=some (.int .i64 x.reg.rev)∧W.cell? ⟨wr.heap.size+1,4,none⟩=some (.slice x.reg.ao x.reg.n x.reg.cap)):=fun W hW=>⟨cell_of_row W _ 0 _ _ _ (keep hXi hW),br_cells (keep hXg hW)⟩
   have HF1:Hid (∀e,e≠0→Pl.bErr n.bs k=e→n.wrong=(e,(k:Int))):=fun e he h=>pwrong_b HFW.out hlt hS.out he h;have HS1:Hid (Pl.bErr n.bs k=0→∀j,j<k+1→Pl.bErr n.bs j=0):=fun h=>upto hS.out h;have HBE:Hid (∀e,e≠0→Pl.brErr x=e→Pl.bErr n.bs k=e):=fun e he h=>by
    unfold Pl.bErr;rw[←hx,if_pos (by rw[h];exact he),h]
   have HB0:Hid (Pl.brErr x=0→Pl.bErr n.bs k=if Vc.someTo (fun j=>decide ((n.bs j).addr=x.addr)) k=true then 7 else 0):=fun h=>by
    unfold Pl.bErr;rw[←hx,if_neg (fun z=>z h)]
   have HXR:Hid (∀W,Bl X W→x.at' W):=fun W hW=>by rw[hx];exact(HC.out W (HUP.out W hW)).1.2.each k hlt
   obtain⟨i0,d0,d1,d2,d3,d4⟩:=HCC.out X HXX.out;have hpn:=(HXR.out X HXX.out).2.2.1;have hpc:=(HXR.out X HXX.out).1.1;have ik:(0:Int)≤(k:Int):=(by omega)
   have nk:(k:Int)<(n.K:Int):=(by omega)
   clear hS hB hXB hXi hXg hatW hbr hx h0X;(go_upto_region 7 with fail);rw[←HX.out];clear c0 c1 c2 c3 c4;by_cases p1:281474976710656≤x.addr
   ·have hge:Pl.brErr x=3:=(by unfold Pl.brErr;rw[if_pos (by omega)])
    have HF2:Hid (n.wrong=(3,(k:Int))):=HF1.out 3 (by omega) (HBE.out 3 (by omega) hge);(go_wp2_with fail);refine(HBAD.out 3 X HXX.out).mono ?_;rintro rr w9 ⟨rfl,HZ⟩;obtain⟨f0,f1,f2,f3⟩:=pfa_cells HZ.out.2;(go_wp2_with fail);exact bodyPost_ret (v:=.agg #[.int .i64 3,.int .i64 (k:Int)]) (results_row (p:=2) (ty:=32) Tryz.results34 _ _ G 32 #[.int .i64 3,.int .i64 (k:Int)] (0,0) _ rfl (pfa_set HZ.out.2) Tryz.underlying32 rfl (by rw[psizeFa];rfl)) rfl ⟨by rw[HF2.out];rfl,(HZ.out.1.setCell hGM _).setCell hGM _⟩
   ·by_cases p2:(16:Int)<x.pn
    ·have hge:Pl.brErr x=5:=(by unfold Pl.brErr;rw[if_neg (by omega),if_pos (by omega)])
     have HF2:Hid (n.wrong=(5,(k:Int))):=HF1.out 5 (by omega) (HBE.out 5 (by omega) hge);(go_wp2_with fail);refine(HBAD.out 5 X HXX.out).mono ?_;rintro rr w9 ⟨rfl,HZ⟩;obtain⟨f0,f1,f2,f3⟩:=pfa_cells HZ.out.2;(go_wp2_with fail);exact bodyPost_ret (v:=.agg #[.int .i64 5,.int .i64 (k:Int)]) (results_row (p:=2) (ty:=32) Tryz.results34 _ _ G 32 #[.int .i64 5,.int .i64 (k:Int)] (0,0) _ rfl (pfa_set HZ.out.2) Tryz.underlying32 rfl (by rw[psizeFa];rfl)) rfl ⟨by rw[HF2.out];rfl,(HZ.out.1.setCell hGM _).setCell hGM _⟩
    ·have HBR:Hid (Pl.brErr x=if Vc.someTo (fun i=>Pl.oddP (x.pv i)) x.pn=true then 3 else Rg.wrong x.reg.s x.reg.rev x.reg.vs x.reg.ts x.reg.n):=by
      show Pl.brErr x=_;unfold Pl.brErr;rw[if_neg (by omega),if_neg (by omega)]
     (go_wp2_with fail);go_loopw [54] (fun i ws=>∃j:Nat,j≤x.pn∧i=.int .i64 j∧Hid (Vc.someTo (fun i=>Pl.oddP (x.pv i)) j=false)∧Hid (Bl X ws)) (fun i _=>x.pn-(intOf i).toNat)
     case atStart=>exact⟨0,by omega,rfl,rfl,HXX⟩
     case round =>
      obtain⟨j,hj,rfl,hN,hB⟩:=hrel;rename World=>ws
      by_cases hjl:j<x.pn
      ·have hpr:=(HXR.out ws hB.out).1;obtain⟨pb,poff,epo,_⟩:=CRow.some hpr (by omega);rw[epo] at hpr ⊢;have e0:=IRow.cells hpr hjl;have ij:(0:Int)≤(j:Int):=(by omega)
       have nj:(j:Int)<(x.pn:Int):=(by omega)
       have HOD:Hid (Pl.oddP (x.pv j)=true→n.wrong=(3,(k:Int))):=fun h=>HF1.out 3 (by omega) (HBE.out 3 (by omega) (by
        rw[HBR.out,if_pos (Pl.someTo_iff.2 ⟨j,hjl,h⟩)]))
       have HNX:Hid (Pl.oddP (x.pv j)=false→Vc.someTo (fun i=>Pl.oddP (x.pv i)) (j+1)=false):=fun h=>by
        show(Vc.someTo (fun i=>Pl.oddP (x.pv i)) j||Pl.oddP (x.pv j))=false;rw[hN.out,h];rfl
       have wj:IntKind.i64.wrap ((j:Int)+1)=((j+1:Nat):Int):=(by rw[IntKind.wrap_i64];omega)
       clear hN hpr d0 d1 d2 d3 d4;generalize x.pv j=p at *;by_cases g1:p<0
       ·have hod:Pl.oddP p=true:=(by unfold Pl.oddP;simp;omega)
        have HF2:Hid (n.wrong=(3,(k:Int))):=HOD.out hod;(go_wp2_with fail);refine(HBAD.out 3 ws hB.out).mono ?_;rintro rr w9 ⟨rfl,HZ⟩;obtain⟨f0,f1,f2,f3⟩:=pfa_cells HZ.out.2;(go_wp2_with fail);exact bodyPost_ret (v:=.agg #[.int .i64 3,.int .i64 (k:Int)]) (results_row (p:=2) (ty:=32) Tryz.results34 _ _ G 32 #[.int .i64 3,.int .i64 (k:Int)] (0,0) _ rfl (pfa_set HZ.out.2) Tryz.underlying32 rfl (by rw[psizeFa];rfl)) rfl ⟨by rw[HF2.out];rfl,(HZ.out.1.setCell hGM _).setCell hGM _⟩
       ·by_cases g2:61440<p
        ·have hod:Pl.oddP p=true:=(by unfold Pl.oddP;simp;omega)
         have HF2:Hid (n.wrong=(3,(k:Int))):=HOD.out hod;(go_wp2_with fail);refine(HBAD.out 3 ws hB.out).mono ?_;rintro rr w9 ⟨rfl,HZ⟩;obtain⟨f0,f1,f2,f3⟩:=pfa_cells HZ.out.2;(go_wp2_with fail);exact bodyPost_ret (v:=.agg #[.int .i64 3,.int .i64 (k:Int)]) (results_row (p:=2) (ty:=32) Tryz.results34 _ _ G 32 #[.int .i64 3,.int .i64 (k:Int)] (0,0) _ rfl (pfa_set HZ.out.2) Tryz.underlying32 rfl (by rw[psizeFa];rfl)) rfl ⟨by rw[HF2.out];rfl,(HZ.out.1.setCell hGM _).setCell hGM _⟩
        ·obtain⟨q,hq⟩:∃q,p.tdiv 4096=q:=⟨_,rfl⟩
         have hq2:q=p/4096:=(by rw[←hq];exact Int.tdiv_eq_ediv_of_nonneg (by omega))
         have u1:IntKind.i64.wrap q=q:=(by rw[IntKind.wrap_i64];omega)
         have u2:IntKind.i64.wrap (q*4096)=q*4096:=(by rw[IntKind.wrap_i64];omega)
         by_cases g3:q*4096=p
         ·have HN2:Hid _:=HNX.out (by unfold Pl.oddP;simp;omega);(go_wp2_with fail);exact⟨⟨j+1,by omega,by go_num,HN2,hB⟩,by simp[intOf];omega⟩
         ·have hod:Pl.oddP p=true:=(by unfold Pl.oddP;simp;omega)
          have HF2:Hid (n.wrong=(3,(k:Int))):=HOD.out hod;(go_wp2_with fail);refine(HBAD.out 3 ws hB.out).mono ?_;rintro rr w9 ⟨rfl,HZ⟩;obtain⟨f0,f1,f2,f3⟩:=pfa_cells HZ.out.2;(go_wp2_with fail);exact bodyPost_ret (v:=.agg #[.int .i64 3,.int .i64 (k:Int)]) (results_row (p:=2) (ty:=32) Tryz.results34 _ _ G 32 #[.int .i64 3,.int .i64 (k:Int)] (0,0) _ rfl (pfa_set HZ.out.2) Tryz.underlying32 rfl (by rw[psizeFa];rfl)) rfl ⟨by rw[HF2.out];rfl,(HZ.out.1.setCell hGM _).setCell hGM _⟩
      ·obtain rfl:j=x.pn:=by omega
       obtain⟨i1,t0,t1,t2,t3,t4⟩:=HCC.out ws hB.out;have HRW:Hid (Calls Tryz.prog 58 #[.agg #[.string x.reg.s,.int .i64 x.reg.rev,.slice x.reg.ao x.reg.n x.reg.cap]] ws fun e w'=>e=.returned (.int .i64 (Rg.wrong x.reg.s x.reg.rev x.reg.vs x.reg.ts x.reg.n))∧Hid (Bl X w')):=by
        have h:=(HXR.out ws hB.out)
        refine(rwrong_any x.reg.s x.reg.rev x.reg.ao x.reg.n x.reg.cap x.reg.vs x.reg.ts ws h.2.2.2 h.2.1).mono ?_;rintro e w' ⟨rfl,hb⟩;exact⟨rfl,hB.out.trans (hb.mono hB.out.size)⟩
       have HBR2:Hid (Pl.brErr x=Rg.wrong x.reg.s x.reg.rev x.reg.vs x.reg.ts x.reg.n):=by
        show Pl.brErr x=_;rw[HBR.out,if_neg (by rw[hN.out];decide)]
       clear hN HBR d0 d1 d2 d3 d4 i0;generalize Rg.wrong x.reg.s x.reg.rev x.reg.vs x.reg.ts x.reg.n=re at *;(go_wp2_with fail);refine HRW.out.mono ?_;rintro e w5 ⟨rfl,HB5⟩;obtain⟨i5,t0',t1',t2',t3',t4'⟩:=HCC.out w5 HB5.out;clear HRW t0 t1 t2 t3 t4 i1;by_cases g4:re=0
       ·have HB7:Hid (Pl.bErr n.bs k=if Vc.someTo (fun j=>decide ((n.bs j).addr=x.addr)) k=true then 7 else 0):=HB0.out (by rw[HBR2.out,g4]);obtain⟨⟨⟨q0,q1⟩,_⟩,_⟩:=HC.out w5 (HUP.out w5 HB5.out);rw[HEB.out] at q0;have ck:k≤n.bcap:=(by omega)
        subst g4;(go_wp2_with fail);go_loopw [87] (fun i ws=>∃j:Nat,j≤k∧i=.int .i64 j∧Hid (Vc.someTo (fun j=>decide ((n.bs j).addr=x.addr)) j=false)∧Hid (Bl X ws)) (fun i _=>k-(intOf i).toNat)
        case atStart=>exact⟨0,by omega,rfl,rfl,HB5⟩
        case round =>
         obtain⟨j,hj,rfl,hN,hB⟩:=hrel;rename World=>wt
         by_cases hjl:j<k
         ·obtain⟨⟨_,hatT⟩,_⟩:=HC.out wt (HUP.out wt hB.out);have hbr:=hatT.brs;rw[HEB.out] at hbr;obtain⟨c0,c1,c2,c3,c4⟩:=BRow.cells hbr (show j<n.K by omega);obtain⟨_,v0,_⟩:=HCC.out (wt.alloc (.cells #[.int .u64 (n.bs j).addr,.slice (n.bs j).pao (n.bs j).pn (n.bs j).pcap,.string (n.bs j).reg.s,.int .i64 (n.bs j).reg.rev,.slice (n.bs j).reg.ao (n.bs j).reg.n (n.bs j).reg.cap] 74)) (hB.out.trans ((bA1 _ _).mono hB.out.size));have HA:Hid (∀o,Bl X (wt.alloc o)):=fun o=>hB.out.trans ((bA1 _ _).mono hB.out.size);have ij:(0:Int)≤(j:Int):=(by omega)
          have nj:(j:Int)<(k:Int):=(by omega)
          have wj:IntKind.i64.wrap ((j:Int)+1)=((j+1:Nat):Int):=(by rw[IntKind.wrap_i64];omega)
          by_cases g5:(n.bs j).addr=x.addr
          ·have HSM:Hid (Vc.someTo (fun j=>decide ((n.bs j).addr=x.addr)) k=true):=Pl.someTo_iff.2 ⟨j,hjl,decide_eq_true g5⟩;have HF2:Hid (n.wrong=(7,(k:Int))):=HF1.out 7 (by omega) (by rw[HB7.out,if_pos HSM.out]);clear hN hbr hatT HSM;rw[g5] at c0 v0;(go_wp2_with fail);refine(HBAD.out 7 _ (HA.out _)).mono ?_;rintro rr w9 ⟨rfl,HZ⟩;obtain⟨f0,f1,f2,f3⟩:=pfa_cells HZ.out.2;(go_wp2_with fail);exact bodyPost_ret (v:=.agg #[.int .i64 7,.int .i64 (k:Int)]) (results_row (p:=2) (ty:=32) Tryz.results34 _ _ G 32 #[.int .i64 7,.int .i64 (k:Int)] (0,0) _ rfl (pfa_set HZ.out.2) Tryz.underlying32 rfl (by rw[psizeFa];rfl)) rfl ⟨by rw[HF2.out];rfl,(HZ.out.1.setCell hGM _).setCell hGM _⟩
          ·have HN2:Hid (Vc.someTo (fun j=>decide ((n.bs j).addr=x.addr)) (j+1)=false):=by
            show(Vc.someTo (fun j=>decide ((n.bs j).addr=x.addr)) j||decide ((n.bs j).addr=x.addr))=false;rw[hN.out,decide_eq_false g5];rfl
           clear hN hbr hatT;(go_wp2_with fail);exact⟨⟨j+1,by omega,by go_num,HN2,HA.out _⟩,by simp[intOf];omega⟩
         ·obtain rfl:j=k:=by omega
          have HS2:Hid _:=HS1.out (by rw[HB7.out,if_neg (by rw[hN.out];decide)]);have HB9:Hid _:=HUP.out wt hB.out;have wk:IntKind.i64.wrap ((j:Int)+1)=((j+1:Nat):Int):=(by rw[IntKind.wrap_i64];omega)
          clear hN;(go_wp2_with fail);exact⟨⟨j+1,by omega,by go_num,HS2,HB9⟩,by simp[intOf];omega⟩
       ·have HF2:Hid (n.wrong=(re,(k:Int))):=HF1.out re g4 (HBE.out re g4 HBR2.out);(go_wp2_with fail);refine(HBAD.out re w5 HB5.out).mono ?_;rintro rr w9 ⟨rfl,HZ⟩;obtain⟨f0,f1,f2,f3⟩:=pfa_cells HZ.out.2;(go_wp2_with fail);exact bodyPost_ret (v:=.agg #[.int .i64 re,.int .i64 (k:Int)]) (results_row (p:=2) (ty:=32) Tryz.results34 _ _ G 32 #[.int .i64 re,.int .i64 (k:Int)] (0,0) _ rfl (pfa_set HZ.out.2) Tryz.underlying32 rfl (by rw[psizeFa];rfl)) rfl ⟨by rw[HF2.out];rfl,(HZ.out.1.setCell hGM _).setCell hGM _⟩
  ·obtain rfl:k=n.K:=by omega
   have HBZ:Hid (∀j,j<n.K→Pl.bErr n.bs j=0):=hS;have HB0:Hid (Bl X0 wr):=hB;obtain⟨⟨⟨m0,m1'⟩,_⟩,_⟩:=HC.out wr hB.out;have hik:¬(n.K:Int)<(n.K:Int):=(by omega)
   clear hS hB;(go_wp2_with fail);clear m0 m1';go_loopw [11,103] (fun a i ws=>∃(hv:Value) (k:Nat),hv=a∧k≤n.L∧i=.int .i64 k∧Hid (∀j,j<k→Pl.lErr n.K n.ls j=0)∧Hid (Bl X0 ws∧ws.ownsRow X0.heap.size 120 2 hv (2*k) (cellsL (2*k) 2 (ptC n.ls)))) (fun _ i _=>n.L-(intOf i).toNat)
   case atStart=>exact⟨_,0,rfl,by omega,rfl,(fun j hj=>absurd hj (by omega)),HB0.out,ownsC_nil _ _ _ _ _⟩
   case round =>
    rename World=>ws
    obtain⟨hv,k,rfl,hk,rfl,hS,hB⟩:=hrel;by_cases hlt:k<n.L
    ·obtain⟨⟨⟨m0,m1'⟩,hatW⟩,_⟩:=HC.out ws hB.out.1;obtain⟨b,off,eb,_⟩:=CRow.some hatW.lks (by omega);have hlk:=hatW.lks;rw[eb] at hlk m1' ⊢;obtain⟨c0,c1,c2,c3,c4,c5⟩:=LRow.cells hlk hlt;obtain⟨x,hx⟩:∃x,x=n.ls k:=⟨_,rfl⟩
     rw[←hx] at c0 c1 c2 c3 c4 c5;obtain⟨X,HX⟩:∃X,Hid (X=(ws.alloc (.cells #[.int .i64 (k:Int)] 3)).alloc (.cells #[.int .i64 x.a,.int .i64 x.pa,.int .i64 x.b,.int .i64 x.pb,.int .i64 x.cost,.bool x.up] 83)):=⟨_,rfl⟩
     have hXB:Bl ws X:=(by rw[HX.out];exact bA2 _ _ _)
     have hXi:X.heap[ws.heap.size]?=some (.cells #[.int .i64 (k:Int)] 3):=(by rw[HX.out];exact heap_alloc2_old _ _ _)
     have hXg:X.heap[ws.heap.size+1]?=some (.cells #[.int .i64 x.a,.int .i64 x.pa,.int .i64 x.b,.int .i64 x.pb,.int .i64 x.cost,.bool x.up] 83):=(by rw[HX.out];exact heap_alloc2_new _ _ _)
     have hXs:X.heap.size=ws.heap.size+1+1:=(by rw[HX.out];simp)
     have h0X:Bl X0 X:=pup hB.out.1 hXB hB.out.1.size;have HBXI:Hid (∀(e:Int) (W:World),Bl X0 W→W.heap[ws.heap.size]?=some (.cells #[.int .i64 (k:Int)] 3)→Calls Tryz.prog 59 #[.int .i64 e,.pointer (some ⟨ws.heap.size,0,none⟩)] W fun r w'=>r=.returned (.agg #[.int .i64 e,.int .i64 (k:Int)])∧Hid (Bl w w'∧w'.heap[G]?=some (.cells #[.int .i64 0,.int .i64 0] 32))):=fun e W hW hi=>(rbad2_any e ws.heap.size k W (cell_of_row W _ 0 _ _ _ hi)).mono (fun _ w' h=>⟨h.1,(HC.out w' (hW.trans (h.2.mono hW.size))).2⟩);have HBAD:Hid (∀(e:Int) (W:World),W=X→Calls Tryz.prog 59 #[.int .i64 e,.pointer (some ⟨ws.heap.size,0,none⟩)] W fun r w'=>r=.returned (.agg #[.int .i64 e,.int .i64 (k:Int)])∧Hid (Bl w w'∧w'.heap[G]?=some (.cells #[.int .i64 0,.int .i64 0] 32))):=fun e W hW=>by
      subst hW;exact HBXI.out e _ h0X hXi
     have HF1:Hid (∀e,e≠0→Pl.lErr n.K n.ls k=e→n.wrong=(e,(k:Int))):=fun e he h=>pwrong_l HFW.out HBZ.out hlt hS.out he h;have HS1:Hid (Pl.lErr n.K n.ls k=0→∀j,j<k+1→Pl.lErr n.K n.ls j=0):=fun h=>upto hS.out h;have HLE:Hid (∀e,e≠0→Pl.lkErr n.K x=e→Pl.lErr n.K n.ls k=e):=fun e he h=>by
      unfold Pl.lErr;rw[←hx,if_pos (by rw[h];exact he),h]
     have HHX:Hid (Bl X0 X∧X.ownsRow X0.heap.size 120 2 hv (2*k) (cellsL (2*k) 2 (ptC n.ls))∧X.heap[ws.heap.size]?=some (.cells #[.int .i64 (k:Int)] 3)∧X.heap[ws.heap.size+1]?=some (.cells #[.int .i64 x.a,.int .i64 x.pa,.int .i64 x.b,.int .i64 x.pb,.int .i64 x.cost,.bool x.up] 83)∧(∀q,hv.ownBlock=some q→q<ws.heap.size)):=⟨h0X,ownsC_below hB.out.2 hXB,hXi,hXg,fun q hq=>(oCb hB.out.2 q hq).2⟩
     have HE0:Hid (endSeq n.ls (2*k)=(x.a,x.pa)∧endSeq n.ls (2*k+1)=(x.b,x.pb)):=(by rw[hx];exact⟨endSeq_even _ _,endSeq_odd _ _⟩)
     have HLK:Hid (∀h:Pl.lkErr n.K x=0,Pl.lkErr n.K (n.ls k)=0):=fun h=>by rw[←hx];exact h
     obtain⟨d0,d1,d2,d3,d4,d5⟩:=lk_cells hXg;obtain⟨⟨⟨r0,r1⟩,_⟩,_⟩:=HC.out X h0X;have ik:(0:Int)≤(k:Int):=(by omega)
     have nk:(k:Int)<(n.L:Int):=(by omega)
     clear hS hB hXB hXi hXg hatW hlk hx h0X m0 m1';rw[HX.out] at r0 r1;(go_upto_region 33 with fail);rw[←HX.out] at r0 r1 ⊢;clear c0 c1 c2 c3 c4 c5;by_cases p1:x.a<0
     ·have hge:Pl.lkErr n.K x=6:=(by unfold Pl.lkErr;rw[if_pos (by omega)])
      have HF2:Hid (n.wrong=(6,(k:Int))):=HF1.out 6 (by omega) (HLE.out 6 (by omega) hge);(go_wp2_with fail);refine(HBAD.out 6 X rfl).mono ?_;rintro rr w9 ⟨rfl,HZ⟩;obtain⟨f0,f1,f2,f3⟩:=pfa_cells HZ.out.2;(go_wp2_with fail);exact bodyPost_ret (v:=.agg #[.int .i64 6,.int .i64 (k:Int)]) (results_row (p:=2) (ty:=32) Tryz.results34 _ _ G 32 #[.int .i64 6,.int .i64 (k:Int)] (0,0) _ rfl (pfa_set HZ.out.2) Tryz.underlying32 rfl (by rw[psizeFa];rfl)) rfl ⟨by rw[HF2.out];rfl,(HZ.out.1.setCell hGM _).setCell hGM _⟩
     ·by_cases p2:(n.K:Int)≤x.a
      ·have hge:Pl.lkErr n.K x=6:=(by unfold Pl.lkErr;rw[if_pos (by omega)])
       have HF2:Hid (n.wrong=(6,(k:Int))):=HF1.out 6 (by omega) (HLE.out 6 (by omega) hge);(go_wp2_with fail);refine(HBAD.out 6 X rfl).mono ?_;rintro rr w9 ⟨rfl,HZ⟩;obtain⟨f0,f1,f2,f3⟩:=pfa_cells HZ.out.2;(go_wp2_with fail);exact bodyPost_ret (v:=.agg #[.int .i64 6,.int .i64 (k:Int)]) (results_row (p:=2) (ty:=32) Tryz.results34 _ _ G 32 #[.int .i64 6,.int .i64 (k:Int)] (0,0) _ rfl (pfa_set HZ.out.2) Tryz.underlying32 rfl (by rw[psizeFa];rfl)) rfl ⟨by rw[HF2.out];rfl,(HZ.out.1.setCell hGM _).setCell hGM _⟩
      ·by_cases p3:x.b<0
       ·have hge:Pl.lkErr n.K x=6:=(by unfold Pl.lkErr;rw[if_pos (by omega)])
        have HF2:Hid (n.wrong=(6,(k:Int))):=HF1.out 6 (by omega) (HLE.out 6 (by omega) hge);(go_wp2_with fail);refine(HBAD.out 6 X rfl).mono ?_;rintro rr w9 ⟨rfl,HZ⟩;obtain⟨f0,f1,f2,f3⟩:=pfa_cells HZ.out.2;(go_wp2_with fail);exact bodyPost_ret (v:=.agg #[.int .i64 6,.int .i64 (k:Int)]) (results_row (p:=2) (ty:=32) Tryz.results34 _ _ G 32 #[.int .i64 6,.int .i64 (k:Int)] (0,0) _ rfl (pfa_set HZ.out.2) Tryz.underlying32 rfl (by rw[psizeFa];rfl)) rfl ⟨by rw[HF2.out];rfl,(HZ.out.1.setCell hGM _).setCell hGM _⟩
       ·by_cases p4:(n.K:Int)≤x.b
        ·have hge:Pl.lkErr n.K x=6:=(by unfold Pl.lkErr;rw[if_pos (by omega)])
         have HF2:Hid (n.wrong=(6,(k:Int))):=HF1.out 6 (by omega) (HLE.out 6 (by omega) hge);(go_wp2_with fail);refine(HBAD.out 6 X rfl).mono ?_;rintro rr w9 ⟨rfl,HZ⟩;obtain⟨f0,f1,f2,f3⟩:=pfa_cells HZ.out.2;(go_wp2_with fail);exact bodyPost_ret (v:=.agg #[.int .i64 6,.int .i64 (k:Int)]) (results_row (p:=2) (ty:=32) Tryz.results34 _ _ G 32 #[.int .i64 6,.int .i64 (k:Int)] (0,0) _ rfl (pfa_set HZ.out.2) Tryz.underlying32 rfl (by rw[psizeFa];rfl)) rfl ⟨by rw[HF2.out];rfl,(HZ.out.1.setCell hGM _).setCell hGM _⟩
        ·by_cases p5:x.a=x.b
         ·have hge:Pl.lkErr n.K x=8:=(by unfold Pl.lkErr;rw[if_neg (by omega),if_pos p5])
          have HF2:Hid (n.wrong=(8,(k:Int))):=HF1.out 8 (by omega) (HLE.out 8 (by omega) hge);(go_wp2_with fail);refine(HBAD.out 8 X rfl).mono ?_;rintro rr w9 ⟨rfl,HZ⟩;obtain⟨f0,f1,f2,f3⟩:=pfa_cells HZ.out.2;(go_wp2_with fail);exact bodyPost_ret (v:=.agg #[.int .i64 8,.int .i64 (k:Int)]) (results_row (p:=2) (ty:=32) Tryz.results34 _ _ G 32 #[.int .i64 8,.int .i64 (k:Int)] (0,0) _ rfl (pfa_set HZ.out.2) Tryz.underlying32 rfl (by rw[psizeFa];rfl)) rfl ⟨by rw[HF2.out];rfl,(HZ.out.1.setCell hGM _).setCell hGM _⟩
         ·by_cases p6:x.pa<1
          ·have hge:Pl.lkErr n.K x=3:=(by unfold Pl.lkErr;rw[if_neg (by omega),if_neg p5,if_pos (by omega)])
           have HF2:Hid (n.wrong=(3,(k:Int))):=HF1.out 3 (by omega) (HLE.out 3 (by omega) hge);(go_wp2_with fail);refine(HBAD.out 3 X rfl).mono ?_;rintro rr w9 ⟨rfl,HZ⟩;obtain⟨f0,f1,f2,f3⟩:=pfa_cells HZ.out.2;(go_wp2_with fail);exact bodyPost_ret (v:=.agg #[.int .i64 3,.int .i64 (k:Int)]) (results_row (p:=2) (ty:=32) Tryz.results34 _ _ G 32 #[.int .i64 3,.int .i64 (k:Int)] (0,0) _ rfl (pfa_set HZ.out.2) Tryz.underlying32 rfl (by rw[psizeFa];rfl)) rfl ⟨by rw[HF2.out];rfl,(HZ.out.1.setCell hGM _).setCell hGM _⟩
          ·by_cases p7:30<x.pa
           ·have hge:Pl.lkErr n.K x=3:=(by unfold Pl.lkErr;rw[if_neg (by omega),if_neg p5,if_pos (by omega)])
            have HF2:Hid (n.wrong=(3,(k:Int))):=HF1.out 3 (by omega) (HLE.out 3 (by omega) hge);(go_wp2_with fail);refine(HBAD.out 3 X rfl).mono ?_;rintro rr w9 ⟨rfl,HZ⟩;obtain⟨f0,f1,f2,f3⟩:=pfa_cells HZ.out.2;(go_wp2_with fail);exact bodyPost_ret (v:=.agg #[.int .i64 3,.int .i64 (k:Int)]) (results_row (p:=2) (ty:=32) Tryz.results34 _ _ G 32 #[.int .i64 3,.int .i64 (k:Int)] (0,0) _ rfl (pfa_set HZ.out.2) Tryz.underlying32 rfl (by rw[psizeFa];rfl)) rfl ⟨by rw[HF2.out];rfl,(HZ.out.1.setCell hGM _).setCell hGM _⟩
           ·by_cases p8:x.pb<1
            ·have hge:Pl.lkErr n.K x=3:=(by unfold Pl.lkErr;rw[if_neg (by omega),if_neg p5,if_pos (by omega)])
             have HF2:Hid (n.wrong=(3,(k:Int))):=HF1.out 3 (by omega) (HLE.out 3 (by omega) hge);(go_wp2_with fail);refine(HBAD.out 3 X rfl).mono ?_;rintro rr w9 ⟨rfl,HZ⟩;obtain⟨f0,f1,f2,f3⟩:=pfa_cells HZ.out.2;(go_wp2_with fail);exact bodyPost_ret (v:=.agg #[.int .i64 3,.int .i64 (k:Int)]) (results_row (p:=2) (ty:=32) Tryz.results34 _ _ G 32 #[.int .i64 3,.int .i64 (k:Int)] (0,0) _ rfl (pfa_set HZ.out.2) Tryz.underlying32 rfl (by rw[psizeFa];rfl)) rfl ⟨by rw[HF2.out];rfl,(HZ.out.1.setCell hGM _).setCell hGM _⟩
            ·by_cases p9:30<x.pb
             ·have hge:Pl.lkErr n.K x=3:=(by unfold Pl.lkErr;rw[if_neg (by omega),if_neg p5,if_pos (by omega)])
              have HF2:Hid (n.wrong=(3,(k:Int))):=HF1.out 3 (by omega) (HLE.out 3 (by omega) hge);(go_wp2_with fail);refine(HBAD.out 3 X rfl).mono ?_;rintro rr w9 ⟨rfl,HZ⟩;obtain⟨f0,f1,f2,f3⟩:=pfa_cells HZ.out.2;(go_wp2_with fail);exact bodyPost_ret (v:=.agg #[.int .i64 3,.int .i64 (k:Int)]) (results_row (p:=2) (ty:=32) Tryz.results34 _ _ G 32 #[.int .i64 3,.int .i64 (k:Int)] (0,0) _ rfl (pfa_set HZ.out.2) Tryz.underlying32 rfl (by rw[psizeFa];rfl)) rfl ⟨by rw[HF2.out];rfl,(HZ.out.1.setCell hGM _).setCell hGM _⟩
             ·by_cases p10:x.cost<1
              ·have hge:Pl.lkErr n.K x=3:=(by unfold Pl.lkErr;rw[if_neg (by omega),if_neg p5,if_pos (by omega)])
               have HF2:Hid (n.wrong=(3,(k:Int))):=HF1.out 3 (by omega) (HLE.out 3 (by omega) hge);(go_wp2_with fail);refine(HBAD.out 3 X rfl).mono ?_;rintro rr w9 ⟨rfl,HZ⟩;obtain⟨f0,f1,f2,f3⟩:=pfa_cells HZ.out.2;(go_wp2_with fail);exact bodyPost_ret (v:=.agg #[.int .i64 3,.int .i64 (k:Int)]) (results_row (p:=2) (ty:=32) Tryz.results34 _ _ G 32 #[.int .i64 3,.int .i64 (k:Int)] (0,0) _ rfl (pfa_set HZ.out.2) Tryz.underlying32 rfl (by rw[psizeFa];rfl)) rfl ⟨by rw[HF2.out];rfl,(HZ.out.1.setCell hGM _).setCell hGM _⟩
              ·by_cases p11:200000<x.cost
               ·have hge:Pl.lkErr n.K x=3:=(by unfold Pl.lkErr;rw[if_neg (by omega),if_neg p5,if_pos (by omega)])
                have HF2:Hid (n.wrong=(3,(k:Int))):=HF1.out 3 (by omega) (HLE.out 3 (by omega) hge);(go_wp2_with fail);refine(HBAD.out 3 X rfl).mono ?_;rintro rr w9 ⟨rfl,HZ⟩;obtain⟨f0,f1,f2,f3⟩:=pfa_cells HZ.out.2;(go_wp2_with fail);exact bodyPost_ret (v:=.agg #[.int .i64 3,.int .i64 (k:Int)]) (results_row (p:=2) (ty:=32) Tryz.results34 _ _ G 32 #[.int .i64 3,.int .i64 (k:Int)] (0,0) _ rfl (pfa_set HZ.out.2) Tryz.underlying32 rfl (by rw[psizeFa];rfl)) rfl ⟨by rw[HF2.out];rfl,(HZ.out.1.setCell hGM _).setCell hGM _⟩
               ·have hlk0:Pl.lkErr n.K x=0:=(by unfold Pl.lkErr;rw[if_neg (by omega),if_neg p5,if_neg (by omega)])
                have HL0:Hid (Pl.lkErr n.K (n.ls k)=0):=HLK.out hlk0;obtain⟨Bi,HBi⟩:∃Bi,Hid (Bi=ws.heap.size):=⟨_,rfl⟩
                obtain⟨Ba,HBa⟩:∃Ba,Hid (Ba=X.heap.size):=⟨_,rfl⟩
                obtain⟨Y,HY⟩:∃Y,Hid (Y=X.alloc (.cells #[.int .i64 x.a,.int .i64 x.pa,.int .i64 x.b,.int .i64 x.pb] 120)):=⟨_,rfl⟩
                have hYB:Bl X Y:=(by rw[HY.out];exact bA1 _ _)
                have HBaB:Hid (Ba=Bi+1+1):=by show Ba=Bi+1+1;rw[HBa.out,HBi.out];exact hXs
                have H50:Hid (Bl X0 Y∧Y.ownsRow X0.heap.size 120 2 hv (2*k+0) (cellsL (2*k+0) 2 (ptC n.ls))∧Y.heap[Bi]?=some (.cells #[.int .i64 (k:Int)] 3)∧Y.heap[Ba]?=some (.cells #[.int .i64 x.a,.int .i64 x.pa,.int .i64 x.b,.int .i64 x.pb] 120)∧(∀q,hv.ownBlock=some q→q<Bi∨Ba<q)):=by
                 refine⟨pup HHX.out.1 hYB HHX.out.1.size,ownsC_below HHX.out.2.1 hYB,?_,?_,fun q hq=>Or.inl (by rw[HBi.out];exact HHX.out.2.2.2.2 q hq)⟩
                 ·rw[HBi.out];exact keep HHX.out.2.2.1 hYB
                 ·rw[HBa.out,HY.out];exact heap_alloc_last _ _
                have hkL:k≤40:=(by omega)
                clear hYB HHX r0 r1 HLE HLK hlk0 hXs;(go_wp2_with fail);rw[←HY.out];rw[←HBa.out];rw[←HBi.out] at HBXI ⊢;clear d0 d1 d2 d3 d4 d5;go_loopw [11,183] (fun a i wu=>∃(hu:Value) (m:Nat),hu=a∧m≤2∧i=.int .i64 m∧Hid (∀r,r<m→∀q,q<2*k+r→endSeq n.ls q≠endSeq n.ls (2*k+r))∧Hid (Bl X0 wu∧wu.ownsRow X0.heap.size 120 2 hu (2*k+m) (cellsL (2*k+m) 2 (ptC n.ls))∧wu.heap[Bi]?=some (.cells #[.int .i64 (k:Int)] 3)∧wu.heap[Ba]?=some (.cells #[.int .i64 x.a,.int .i64 x.pa,.int .i64 x.b,.int .i64 x.pb] 120)∧(∀q,hu.ownBlock=some q→q<Bi∨Ba<q))) (fun _ i _=>2-(intOf i).toNat)
                case atStart=>exact⟨_,0,rfl,by omega,rfl,(fun r hr=>absurd hr (by omega)),H50⟩
                case round =>
                 rename World=>wu
                 obtain⟨hu,m,rfl,hm,rfl,hN,hB⟩:=hrel;clear H50;by_cases hm2:m<2
                 ·obtain⟨ey,hey⟩:∃ey:Int×Int,ey=endSeq n.ls (2*k+m):=⟨_,rfl⟩
                  have hcl:wu.cell? ⟨Ba,m*2,none⟩=some (.int .i64 ey.1)∧wu.cell? ⟨Ba,m*2+1,none⟩=some (.int .i64 ey.2):=by
                   have h:=hB.out.2.2.2.1;rcases(by omega:m=0∨m=1) with e | e<;>subst e
                   ·rw[hey,show 2*k+0=2*k from rfl,HE0.out.1];exact⟨cell_of_row wu Ba 0 _ _ _ h,cell_of_row wu Ba 1 _ _ _ h⟩
                   ·rw[hey,HE0.out.2];exact⟨cell_of_row wu Ba 2 _ _ _ h,cell_of_row wu Ba 3 _ _ _ h⟩
                  obtain⟨e0,e1⟩:=hcl;have HEY:Hid (ey=endSeq n.ls (2*k+m)):=hey;clear hey;obtain⟨D,HD⟩:∃D,Hid (D=wu.alloc (.cells #[.int .i64 ey.1,.int .i64 ey.2] 120)):=⟨_,rfl⟩
                  have hDB:Bl wu D:=(by rw[HD.out];exact bA1 _ _)
                  have hD0:D.heap[wu.heap.size]?=some (.cells #[.int .i64 ey.1,.int .i64 ey.2] 120):=(by rw[HD.out];exact heap_alloc_last _ _)
                  have HDW:Hid (∀W,Bl D W→(Bl X0 W∧W.ownsRow X0.heap.size 120 2 hu (2*k+m) (cellsL (2*k+m) 2 (ptC n.ls))∧W.heap[Bi]?=some (.cells #[.int .i64 (k:Int)] 3)∧W.heap[Ba]?=some (.cells #[.int .i64 x.a,.int .i64 x.pa,.int .i64 x.b,.int .i64 x.pb] 120))∧(W.cell? ⟨wu.heap.size,0,none⟩=some (.int .i64 ey.1)∧W.cell? ⟨wu.heap.size,1,none⟩=some (.int .i64 ey.2))):=fun W hW=>by
                   have h:Bl wu W:=hDB.trans (hW.mono hDB.size);exact⟨⟨pup hB.out.1 h hB.out.1.size,ownsC_below hB.out.2.1 h,keep hB.out.2.2.1 h,keep hB.out.2.2.2.1 h⟩,tC2 (keep hD0 hW)⟩
                  have HAP:Hid (∀q,hu.ownBlock=some q→q<Bi∨Ba<q):=hB.out.2.2.2.2;have HNM:Hid (∀r,r<m→∀q,q<2*k+r→endSeq n.ls q≠endSeq n.ls (2*k+r)):=hN;obtain⟨ha,hc,ehu,hrow,_⟩:=owns_c (by omega) hB.out.2.1;subst ehu;have hcp:=hrow.1;have im:(0:Int)≤(m:Int):=(by omega)
                  have nm:(m:Int)<2:=(by omega)
                  have wm:IntKind.i64.wrap ((m:Int)+1)=((m+1:Nat):Int):=(by rw[IntKind.wrap_i64];omega)
                  clear hB hN hDB hD0 hrow;(go_wp2_with fail);rw[←HD.out];clear e0 e1;go_loopw [189] (fun i wt=>∃q:Nat,q≤2*k+m∧i=.int .i64 q∧Hid (∀r,r<q→endSeq n.ls r≠ey)∧Hid (Bl D wt)) (fun i _=>2*k+m-(intOf i).toNat)
                  case atStart=>exact⟨0,by omega,rfl,(fun r hr=>absurd hr (by omega)),Below.refl _ _⟩
                  case round =>
                   rename World=>wt
                   obtain⟨q,hq,rfl,hN,hB⟩:=hrel;by_cases hql:q<2*k+m
                   ·obtain⟨⟨hT1,hT2,hT3,hT4⟩,y0,y1⟩:=HDW.out wt hB.out;obtain⟨a',c',e',hrow,_⟩:=owns_c (by omega) hT2;injection e' with e1' _ e3';subst e1' e3';obtain⟨hb,hoff,eha,_,hcells⟩:=hrow.2 (by omega);subst eha;have z0:wt.cell? ⟨hb,hoff+q*2,none⟩=some (.int .i64 (endSeq n.ls q).1):=hcells q hql 0 (by omega);have z1:wt.cell? ⟨hb,hoff+q*2+1,none⟩=some (.int .i64 (endSeq n.ls q).2):=hcells q hql 1 (by omega);have HA:Hid (∀o,Bl D (wt.alloc o)∧(Bl X0 (wt.alloc o)∧(wt.alloc o).heap[Bi]?=some (.cells #[.int .i64 (k:Int)] 3))):=fun o=>by
                     have h:Bl D (wt.alloc o):=hB.out.trans ((bA1 _ _).mono hB.out.size);exact⟨h,(HDW.out _ h).1.1,(HDW.out _ h).1.2.2.1⟩
                    have hy':∀o,(wt.alloc o).cell? ⟨wu.heap.size,0,none⟩=some (.int .i64 ey.1)∧(wt.alloc o).cell? ⟨wu.heap.size,1,none⟩=some (.int .i64 ey.2):=fun o=>(HDW.out _ (HA.out o).1).2;obtain⟨y0',y1'⟩:=hy' (.cells #[.int .i64 (endSeq n.ls q).1,.int .i64 (endSeq n.ls q).2] 120);have iq:(0:Int)≤(q:Int):=(by omega)
                    have nq:(q:Int)<((2*k+m:Nat):Int):=(by omega)
                    have wq:IntKind.i64.wrap ((q:Int)+1)=((q+1:Nat):Int):=(by rw[IntKind.wrap_i64];omega)
                    have HE7:Hid (endSeq n.ls q=ey→n.wrong=(7,(k:Int))):=fun h=>HF1.out 7 (by omega) (had_7 HL0.out hm2 hql (h.trans HEY.out));have HNX:Hid (endSeq n.ls q≠ey→∀r,r<q+1→endSeq n.ls r≠ey):=fun h r hr=>by
                     by_cases e:r=q
                     ·rw[e];exact h
                     ·exact hN.out r (by omega)
                    clear hT1 hT2 hT3 hT4 hrow hcells hN hy';by_cases s1:(endSeq n.ls q).1=ey.1
                    ·by_cases s2:(endSeq n.ls q).2=ey.2
                     ·have HF2:Hid _:=HE7.out (Prod.ext s1 s2);clear HE7 HNX HDW;rw[s1] at z0 y0' y1';rw[s2] at z1 y0' y1';(go_wp2_with fail);refine(HBXI.out 7 _ (HA.out _).2.1 (HA.out _).2.2).mono ?_;rintro rr w9 ⟨rfl,HZ⟩;obtain⟨f0,f1,f2,f3⟩:=pfa_cells HZ.out.2;(go_wp2_with fail);exact bodyPost_ret (v:=.agg #[.int .i64 7,.int .i64 (k:Int)]) (results_row (p:=2) (ty:=32) Tryz.results34 _ _ G 32 #[.int .i64 7,.int .i64 (k:Int)] (0,0) _ rfl (pfa_set HZ.out.2) Tryz.underlying32 rfl (by rw[psizeFa];rfl)) rfl ⟨by rw[HF2.out];rfl,(HZ.out.1.setCell hGM _).setCell hGM _⟩
                     ·have HN2:Hid _:=HNX.out (fun e=>s2 (congrArg Prod.snd e));clear HE7 HNX HDW;rw[s1] at z0 y0' y1';(go_wp2_with fail);exact⟨⟨q+1,by omega,by go_num,HN2,(HA.out _).1⟩,by simp[intOf];omega⟩
                    ·have HN2:Hid _:=HNX.out (fun e=>s1 (congrArg Prod.fst e));clear HE7 HNX HDW;(go_wp2_with fail);exact⟨⟨q+1,by omega,by go_num,HN2,(HA.out _).1⟩,by simp[intOf];omega⟩
                   ·obtain rfl:q=2*k+m:=by omega
                    obtain⟨⟨hT1,hT2,hT3,hT4⟩,y0,y1⟩:=HDW.out wt hB.out;have hey1:ey.1=(endSeq n.ls (2*k+m)).1:=(by rw[HEY.out])
                    have hey2:ey.2=(endSeq n.ls (2*k+m)).2:=(by rw[HEY.out])
                    obtain⟨a1,c1,w2,hap,ho,hlo,hbl,hnw,hsz⟩:=had_more hT2 hT1.size (by omega);rw[←hey1,←hey2] at hap;have HAPP:Hid ((Builtin.append_ #[118,118] 118 #[.slice ha (2*k+m) hc,.slice (some ⟨wt.heap.size,0,none⟩) 1 1]).run Tryz.prog (wt.alloc (.cells #[.int .i64 ey.1,.int .i64 ey.2] 120))=.ok (.slice a1 (2*k+m+1) c1) w2):=hap;have hBl:Bi<wt.heap.size:=plt_some hT3;have hBl2:Ba<wt.heap.size:=plt_some hT4;have HN3:Hid (∀r,r<m+1→∀q,q<2*k+r→endSeq n.ls q≠endSeq n.ls (2*k+r)):=fun r hr q' hq'=>by
                     by_cases e:r=m
                     ·subst e;rw[←HEY.out];exact hN.out q' hq'
                     ·exact HNM.out r (by omega) q' hq'
                    have HB3:Hid (Bl X0 w2∧w2.ownsRow X0.heap.size 120 2 (.slice a1 (2*k+(m+1)) c1) (2*k+(m+1)) (cellsL (2*k+(m+1)) 2 (ptC n.ls))∧w2.heap[Bi]?=some (.cells #[.int .i64 (k:Int)] 3)∧w2.heap[Ba]?=some (.cells #[.int .i64 x.a,.int .i64 x.pa,.int .i64 x.b,.int .i64 x.pb] 120)∧(∀q,(Value.slice a1 (2*k+(m+1)) c1).ownBlock=some q→q<Bi∨Ba<q)):=by
                     refine⟨hT1.trans hlo,ho,(hbl Bi hBl (fun e => ?_)).trans hT3,(hbl Ba hBl2 (fun e => ?_)).trans hT4,fun q hq => ?_⟩
                     ·have:=HAP.out Bi e;have:=HBaB.out;omega
                     ·have:=HAP.out Ba e;have:=HBaB.out;omega
                     ·rcases hnw q hq with h | h
                      ·exact HAP.out q h
                      ·exact Or.inr (by omega)
                    clear hN hT1 hT2 hT3 hT4 hap ho hlo hbl hnw hsz HDW hey1 hey2;go_wp2_with (at_builtin;refine wpList_append_run rfl (.tmp 199) (.tmp 201) 118 rfl _ _ _ rfl rfl HAPP.out ?_;clear HAPP)
                    exact⟨⟨_,m+1,rfl,by omega,by go_num,HN3,HB3⟩,by simp[intOf];omega⟩
                 ·obtain rfl:m=2:=by omega
                  have HS2:Hid _:=HS1.out (had_0 HL0.out (hN.out 0 (by omega)) (hN.out 1 (by omega)));have HB4:Hid (Bl X0 wu∧wu.ownsRow X0.heap.size 120 2 hu (2*(k+1)) (cellsL (2*(k+1)) 2 (ptC n.ls))):=⟨hB.out.1,hB.out.2.1⟩
                  have wk:IntKind.i64.wrap ((k:Int)+1)=((k+1:Nat):Int):=(by rw[IntKind.wrap_i64];omega)
                  have nm:¬(2:Int)<2:=(by omega)
                  clear hN hB;(go_wp2_with fail);exact⟨⟨_,k+1,rfl,by omega,by go_num,HS2,HB4⟩,by simp[intOf];omega⟩
    ·obtain rfl:k=n.L:=by omega
     have HF2:Hid (n.wrong=(0,0)):=pwrong_0 HFW.out HBZ.out hS.out;have HZ:Hid _:=(HC.out ws hB.out.1).2;obtain⟨f0,f1,f2,f3⟩:=pfa_cells HZ.out.2;have nk:¬(n.L:Int)<(n.L:Int):=(by omega)
     clear hS hB;(go_wp2_with fail);exact bodyPost_ret (v:=.agg #[.int .i64 0,.int .i64 0]) (results_row (p:=2) (ty:=32) Tryz.results34 _ _ G 32 #[.int .i64 0,.int .i64 0] (0,0) _ rfl (pfa_set HZ.out.2) Tryz.underlying32 rfl (by rw[psizeFa];rfl)) rfl ⟨by rw[HF2.out];rfl,(HZ.out.1.setCell hGM _).setCell hGM _⟩
end
section
open Go.RowKit
theorem rtable_any (s:ByteArray) (rev:Int) (ao:Option Addr) (n cap:Nat) (vs ts:Nat→Int) (w:World) (hR:Rg.Right vs ts n) (hr:WayRow w ao n cap vs ts) :
  Calls Tryz.prog 136 #[.agg #[.string s,.int .i64 rev,.slice ao n cap]] w fun e w'=>∃g,e=.returned (.slice (some ⟨g,0,none⟩) 4096 4096)∧w'.heap[g]?=some (.cells (rowF 4096 (fun i=>Rg.tree vs ts (i:Int) n)) 5)∧Bl w w':=by
 have hn:=hR.many;have HRt:Hid (Rg.Right vs ts n):=hR;have HW:Hid (∀W,Bl w W→WayRow W ao n cap vs ts):=fun W hW=>hr.below hW;clear hr hR;have hmk:∀W:World,(Instr.makeSlice 126 (.int .i64 4096) (.int .i64 4096)).run Tryz.prog W=.ok (.slice (some ⟨W.heap.size,0,none⟩) 4096 4096) (W.alloc (.cells (rowF 4096 (fun _=>0)) 5)):=fun W=>make_room W 4096 4096 (by omega) (by omega);go_enter Tryz.func136,Tryz.ntmps136;(go_wp2_with fail);go_loopw [10] (fun i wr=>∃k:Nat,k≤n∧i=.int .i64 k∧Hid (wr.heap[w.heap.size+1]?=some (.cells (rowF 4096 (fun i=>Rg.tree vs ts (i:Int) k)) 5))∧Hid (Bl w wr)) (fun i _=>n-(intOf i).toNat)
 case atStart=>exact⟨0,by omega,rfl,heap_alloc2_new w _ _,bA2 _ _ _⟩
 case round =>
  clear hmk;obtain⟨k,hk,rfl,hX,hB⟩:=hrel;by_cases hlt:k<n
  ·obtain⟨b,off,rfl,hb,hc⟩:=(HW.out _ hB.out).2 (by omega);have hcap:=(HW.out _ hB.out).1;have c0:wr.cell? ⟨b,off+k*2,none⟩=some (.int .i64 (vs k)):=(hc k hlt).1;have c1:wr.cell? ⟨b,off+k*2+1,none⟩=some (.int .i64 (ts k)):=(hc k hlt).2;have hv:=HRt.out.vid k hlt;have ht:=HRt.out.tree k hlt;obtain⟨m,hm⟩:=Int.eq_ofNat_of_zero_le (show 0≤vs k by omega);have hz:w.heap.size+1<wr.heap.size:=block_lt_of_cell ((cell_of_row wr _ 0 _ _ _ hX.out).trans (rowF_get _ _ _ (by omega)));have c4:wr.cell? ⟨w.heap.size+1,m,none⟩=some (.int .u8 (Rg.tree vs ts (m:Int) k)):=(cell_of_row _ _ _ _ _ _ hX.out).trans (rowF_get _ _ _ (by omega));have f4:wr.frozen? ⟨w.heap.size+1,m,none⟩=false:=frozen_of_row _ _ _ _ _ hX.out;have HX:Hid (∀o,((wr.setCell ⟨w.heap.size+1,m,none⟩ (.int .u8 (ts k))).alloc o).heap[w.heap.size+1]?=some (.cells (rowF 4096 (fun i=>Rg.tree vs ts (i:Int) (k+1))) 5)):=by
    intro o;rw[Below.heap_alloc _ _ _ (by simpa[World.setCell] using hz),heap_setCell_same _ _ _ _ _ _ hX.out,rowF_set _ _ _ _ (by omega)];congr 2
    apply rowF_congr
    intro i _;simp only[Rg.tree,hm];by_cases e:i=m
    ·rw[if_pos e,if_pos (by omega)]
    ·rw[if_neg e,if_neg (by omega)]
   have HB:Hid (∀o,Bl w ((wr.setCell ⟨w.heap.size+1,m,none⟩ (.int .u8 (ts k))).alloc o)):=fun o=>(hB.out.setCell (Nat.le_succ _) _).alloc (by have:=hB.out.size;simpa[World.setCell] using this) _;have hm1:(m:Int)<4096:=(by omega)
   have HM:Hid (vs k=(m:Int)):=hm;rw[hm] at c0 hv;clear hm hc HW HRt hX hB;generalize ts k=t at *;go_wp2
   exact⟨⟨k+1,by omega,by go_num,HX.out _,HB.out _⟩,by simp[intOf];omega⟩
  ·obtain rfl:k=n:=by omega
   go_wp2
   go_ret;exact⟨_,rfl,hX.out,hB.out⟩
end
end Go.Proofs.YtaneiffnhphkhaaGreatDoor
