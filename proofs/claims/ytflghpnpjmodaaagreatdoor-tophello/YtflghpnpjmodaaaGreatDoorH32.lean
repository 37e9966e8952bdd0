/- A net that is built bridge by bridge and link by link, as it lies -/
import Derived.Test.YtflghpnpjmodaaaGreatDoorH31
import Derived.Test.YtflghpnpjmodaaaGreatDoorH25
import Derived.Test.YtflghpnpjmodaaaGreatDoorH04
import Derived.Test.YtflghpnpjmodaaaGreatDoorH16
import Derived.Test.YtflghpnpjmodaaaGreatDoorH20
import Derived.Test.YtflghpnpjmodaaaGreatDoorH09
import Derived.Test.YtflghpnpjmodaaaGreatDoorH01
import Derived.Maps.AppendAt
set_option maxRecDepth 100000
set_option maxHeartbeats 40000000
namespace Go.Proofs.YtflghpnpjmodaaaGreatDoor
section
open Go.RowKit
open Vc (V Of)
open Pl (Br Net Pc Lk En St)
open Tk (Md Mnd Cn Sc Dn)
open Hl (Tl)
theorem utophello_walk (n:Net) (trees:Int) (dao:Option Addr) (dn dcap:Nat) (bz:Int) (w:World) (htb:∀V,Bl w V→Tabs V)
  (hal:∀W,Bl w W→Calls Tryz.prog 12 #[] W fun e w'=>e=.returned (.bool true)∧Bl W w')
  (hpl:∀W,Bl w W→Calls Tryz.prog 15 #[.agg #[.slice n.bao n.K n.bcap,.slice n.lao n.L n.lcap],.int .i64 trees,.slice dao dn dcap] W fun e w'=>∃na nk nc la lk lc oa ol oc f1 f2,e=.returned (.tuple #[.agg #[.slice na nk nc,.slice la lk lc],.agg #[.slice oa ol oc],.agg #[.int .i64 f1,.int .i64 f2]])∧Hid (Bl w w'∧(f1=0→∃(n':Net) (t':List Tr),(na=n'.bao∧nk=n'.K∧nc=n'.bcap∧la=n'.lao∧lk=n'.L∧lc=n'.lcap∧ol=t'.length)∧n'.at' w'∧n'.Right∧TrRow w' oa oc t'∧∀i,i<n'.K→t'.length≤4∧(∀k,k<t'.length→i<(tat t' k).l.length)∧Hl.wrongTo (talesM t' i) t'.length=0∧∀k,k<t'.length→(talesM t' i k).wide))) :
  Calls Tryz.prog 6 #[n.val,.int .i64 trees,.slice dao dn dcap,.int .i64 bz] w fun e w'=>e=.returned (.bool true)∧Bl w w':=by
 obtain⟨X,HX⟩:∃X,Hid (X=w.alloc (.cells #[.slice n.bao n.K n.bcap,.slice n.lao n.L n.lcap] 32)):=⟨_,rfl⟩
 have hXB:Bl w X:=(by rw[HX.out];exact bA1 _ _)
 have hX0:X.heap[w.heap.size]?=some (.cells #[.slice n.bao n.K n.bcap,.slice n.lao n.L n.lcap] 32):=(by rw[HX.out];exact heap_alloc_last _ _)
 have HTB:Hid (∀V,Bl w V→Tabs V):=htb;have HAL:Hid (Calls Tryz.prog 12 #[] X fun e w'=>e=.returned (.bool true)∧Bl X w'):=hal X hXB;have HPL0:Hid (∀W,Bl w W→Calls Tryz.prog 15 #[.agg #[.slice n.bao n.K n.bcap,.slice n.lao n.L n.lcap],.int .i64 trees,.slice dao dn dcap] W fun e w'=>∃na nk nc la lk lc oa ol oc f1 f2,e=.returned (.tuple #[.agg #[.slice na nk nc,.slice la lk lc],.agg #[.slice oa ol oc],.agg #[.int .i64 f1,.int .i64 f2]])∧Hid (Bl w w'∧(f1=0→∃(n':Net) (t':List Tr),(na=n'.bao∧nk=n'.K∧nc=n'.bcap∧la=n'.lao∧lk=n'.L∧lc=n'.lcap∧ol=t'.length)∧n'.at' w'∧n'.Right∧TrRow w' oa oc t'∧∀i,i<n'.K→t'.length≤4∧(∀k,k<t'.length→i<(tat t' k).l.length)∧Hl.wrongTo (talesM t' i) t'.length=0∧∀k,k<t'.length→(talesM t' i k).wide))):=hpl;have HBX:Hid (X.heap[w.heap.size]?=some (.cells #[.slice n.bao n.K n.bcap,.slice n.lao n.L n.lcap] 32)∧Bl w X):=⟨hX0,hXB⟩
 clear htb hal hpl hXB hX0;simp only[Pl.Net.val];go_enter Tryz.func6,Tryz.ntmps6;(go_wp2_with fail);rw[←HX.out];refine HAL.out.mono ?_;rintro e w1 ⟨rfl,hb1⟩;have hw1:Bl w w1:=HBX.out.2.trans (hb1.mono HBX.out.2.size);obtain⟨x0,x1⟩:=tC2 (keep HBX.out.1 hb1);have HPL:=HPL0.out w1 hw1;clear HPL0;clear HAL hb1 hw1;(go_wp2_with fail);refine HPL.mono ?_;rintro e w2 ⟨na,nk,nc,la,lk,lc,oa,ol,oc,f1,f2,rfl,H2⟩;clear HPL x0 x1;obtain⟨V1,HV1⟩:∃V,Hid (V=(w2.alloc (.cells #[.slice na nk nc,.slice la lk lc] 32)).alloc (.cells #[.slice oa ol oc] 43)):=⟨_,rfl⟩
 obtain⟨V2,HV2⟩:∃V,Hid (V=V1.alloc (.cells #[.int .i64 f1,.int .i64 f2] 26)):=⟨_,rfl⟩
 have b21:Bl w2 V1:=(by rw[HV1.out];exact bA2 _ _ _)
 have b12:Bl V1 V2:=(by rw[HV2.out];exact bA1 _ _)
 have b22:Bl w2 V2:=b21.trans (b12.mono b21.size);have hv1:V1.heap.size=w2.heap.size+1+1:=(by rw[HV1.out];simp)
 have hm2:V2.heap[w2.heap.size]?=some (.cells #[.slice na nk nc,.slice la lk lc] 32):=keep (by rw[HV1.out];exact heap_alloc2_old _ _ _) b12;have ht2:V2.heap[w2.heap.size+1]?=some (.cells #[.slice oa ol oc] 43):=keep (by rw[HV1.out];exact heap_alloc2_new _ _ _) b12;have hf2:V2.heap[w2.heap.size+1+1]?=some (.cells #[.int .i64 f1,.int .i64 f2] 26):=by
  rw[HV2.out,←hv1];exact heap_alloc_last _ _
 have hwV:Bl w V2:=H2.out.1.trans (b22.mono H2.out.1.size);obtain⟨f0,_⟩:=tC2 hf2;obtain⟨g0,g1⟩:=tC2 hm2;have g2:=one_cellU ht2;rw[HV2.out,HV1.out] at f0 g0 g1 g2;have HWV:Hid (Bl w V2):=hwV;by_cases q:f1=0
 ·subst q;obtain⟨n',t',⟨rfl,rfl,rfl,rfl,rfl,rfl,rfl⟩,hS1,hS2,hS3,hS4⟩:=H2.out.2 rfl;by_cases qn:bz<0
  ·(go_wp2_with fail);rw[←HV1.out,←HV2.out];go_ret;exact⟨rfl,HWV.out⟩
  by_cases qg:(n'.K:Int)≤bz
  ·(go_wp2_with fail);rw[←HV1.out,←HV2.out];go_ret;exact⟨rfl,HWV.out⟩
  obtain⟨i,rfl⟩:=Int.eq_ofNat_of_zero_le (show 0≤bz by omega);have hi:i<n'.K:=(by omega)
  have HR:Hid n'.Right:=hS2;have atV:n'.at' V2:=hS1.below b22;have rowV:TrRow V2 oa oc t':=hS3.below b22;have htV:Tabs V2:=HTB.out V2 hwV;obtain⟨bb,boff,ebb,_⟩:=CRow.some atV.brs (by omega);have hbr:=atV.brs;rw[ebb] at hbr;obtain⟨c0,c1,c2,c3,c4⟩:=BRow.cells hbr hi;have hreg:=(atV.each i hi).2.1;have hfin:=HR.out.fine i hi;obtain⟨b,hb⟩:∃b,b=n'.bs i:=⟨_,rfl⟩
  rw[←hb] at c0 c1 c2 c3 c4 hreg hfin;have c3':V2.cell? ⟨bb,boff+i*5+2+1,none⟩=some (.int .i64 b.reg.rev):=c3;have c4':V2.cell? ⟨bb,boff+i*5+2+2,none⟩=some (.slice b.reg.ao b.reg.n b.reg.cap):=c4;have i0:(0:Int)≤(i:Int):=(by omega)
  have i1:(i:Int)<(n'.K:Int):=(by omega)
  have HDG:Hid (Calls Tryz.prog 18 #[.agg #[.string b.reg.s,.int .i64 b.reg.rev,.slice b.reg.ao b.reg.n b.reg.cap]] V2 fun e w'=>∃g,e=.returned (.slice (some ⟨g,0,none⟩) 16 16)∧Hid (w'.heap[g]?=some (.cells (Md.rowB 16 (Md.dg (Rg.dig b.reg.vs b.reg.ts b.reg.n)) 16) 5)∧Bl V2 w')):=by
   refine(gdigest_any b.reg.s b.reg.rev b.reg.ao b.reg.n b.reg.cap b.reg.vs b.reg.ts V2 hfin.reg.2.2 hreg htV).mono ?_;rintro e w' ⟨g,h1,_,h2,h3⟩;exact⟨g,h1,h2,h3⟩
  have HV:Hid (∀U,Bl V2 U→n'.at' U∧TrRow U oa oc t'∧U.heap[w2.heap.size]?=some (.cells #[.slice n'.bao n'.K n'.bcap,.slice n'.lao n'.L n'.lcap] 32)∧U.heap[w2.heap.size+1]?=some (.cells #[.slice oa t'.length oc] 43)∧Bl w U):=fun U hU=>⟨atV.below hU,rowV.below hU,keep hm2 hU,keep ht2 hU,hwV.trans (hU.mono hwV.size)⟩
  have HAD:Hid (0≤b.addr∧b.addr<281474976710656):=⟨hfin.addr.1,by have:=hfin.addr.2;omega⟩
  have HBR:Hid (∀U,n'.at' U→U.cell? ⟨bb,boff+i*5,none⟩=some (.int .u64 b.addr)):=fun U hU=>by
   have h1:=hU.brs;rw[ebb] at h1;have h2:=(BRow.cells h1 hi).1;rw[←hb] at h2;exact h2
  have HTL:Hid (t'.length≤4∧(∀k,k<t'.length→i<(tat t' k).l.length)∧Hl.wrongTo (talesM t' i) t'.length=0∧∀k,k<t'.length→(talesM t' i k).wide):=hS4 i hi;rw[HV2.out,HV1.out] at c2 c3' c4';clear hS1 hS2 hS3 hS4 atV rowV htV hbr hreg hfin hb c0 c1 c3 c4 b21 b12 b22 hv1 hm2 ht2 hf2 hwV;have HEB:Hid (n'.bao=some ⟨bb,boff,none⟩):=ebb;rw[ebb] at HV1 c2 c3' c4' g0 g1 g2 f0;rw[ebb];(go_wp2_with fail);rw[←HV1.out,←HV2.out];refine HDG.out.mono ?_;rintro e w3 ⟨g,rfl,H3⟩;clear HDG c2 c3' c4' f0 g0 g1 g2;obtain⟨D,HD⟩:∃D,Hid (D=Md.dg (Rg.dig b.reg.vs b.reg.ts b.reg.n)):=⟨_,rfl⟩
  have HDR:Hid (∀j,j<16→0≤D j∧D j≤255):=fun j _=>by rw[HD.out];exact dg_rangeU _ _
  have HF:Hid (∀U,Bl w3 U→n'.at' U∧TrRow U oa oc t'∧ByteRow U (some ⟨g,0,none⟩) 16 16 D∧U.heap[w2.heap.size]?=some (.cells #[.slice n'.bao n'.K n'.bcap,.slice n'.lao n'.L n'.lcap] 32)∧U.heap[w2.heap.size+1]?=some (.cells #[.slice oa t'.length oc] 43)∧Bl w U):=fun U hU=>by
   have hV:Bl V2 U:=H3.out.2.trans (hU.mono H3.out.2.size);obtain⟨z1,z2,z3,z4,z5⟩:=HV.out U hV;refine⟨z1,z2,?_,z3,z4,z5⟩;rw[HD.out];exact sumRow (keep H3.out.1 hU)
  have HI0:Hid (HeS w3 (w3.alloc (.cells #[.slice (some ⟨g,0,none⟩) 16 16,.slice none 0 0] 64)) g 0 none 0 (talesM t' i)):=HeS.first w3 g _;have t0:∀o,(w3.alloc o).cell? ⟨w2.heap.size+1,0,none⟩=some (.slice oa t'.length oc):=fun o=>one_cellU (HF.out _ (bA1 w3 o)).2.2.2.2.1;clear HV H3;(go_wp2_with fail);go_loopw [56] (fun q wr=>∃(k:Nat) (ta:Option Addr) (tc:Nat),k≤t'.length∧q=.int .i64 k∧Hid (HeS w3 wr g k ta tc (talesM t' i))) (fun q _=>t'.length-(intOf q).toNat)
  case atStart=>exact⟨0,none,0,by omega,rfl,HI0⟩
  case round =>
   clear HI0 t0;obtain⟨k,ta,tc,hk,rfl,hS⟩:=hrel;obtain⟨U,HU⟩:∃U,Hid (U=wr):=⟨_,rfl⟩
   rw[←HU.out] at hS ⊢;clear HU;by_cases hlt:k<t'.length
   ·obtain⟨fat,ftr,_⟩:=HF.out U hS.out.low;obtain⟨tb,toff,etb,_⟩:=ftr.place (by omega);have ct:=ftr;rw[etb] at ct;have ct:=ct.cell hlt;have hil:=HTL.out.2.1 k hlt;obtain⟨mb,moff,emb,_⟩:=(ftr.each k hlt).place (by omega);obtain⟨x,hx⟩:∃x,x=(mat (tat t' k).l i).md:=⟨_,rfl⟩
    have HMC:Hid (∀V,Bl w3 V→(V.cell? ⟨mb,moff+i*9,none⟩=some (.int .u64 x.v.root)∧V.cell? ⟨mb,moff+i*9+1,none⟩=some (.int .i64 x.v.cost)∧V.cell? ⟨mb,moff+i*9+2,none⟩=some (.int .u64 x.v.bridge)∧V.cell? ⟨mb,moff+i*9+3,none⟩=some (.int .i64 x.v.port))∧V.cell? ⟨mb,moff+i*9+4,none⟩=some (.int .i64 x.age)):=fun V hV=>by
     have h1:=(HF.out V hV).2.1.each k hlt;rw[emb] at h1;obtain⟨m0,m1,m2,m3,m4,_⟩:=h1.cells hil;rw[←hx] at m0 m1 m2 m3 m4;exact⟨⟨m0,m1,m2,m3⟩,m4⟩
    obtain⟨a1,c1,W1,hrun,⟨hbX,hcX⟩,⟨hbW,hcW,hfW⟩,hN⟩:=hS.out.next hx (by have:=HTL.out.1;omega);have HC0:Hid (U.drew.cell? ⟨w3.heap.size,1,none⟩=some (.slice ta k tc)∧(U.drew.cell? ⟨mb,moff+i*9,none⟩=some (.int .u64 x.v.root)∧U.drew.cell? ⟨mb,moff+i*9+1,none⟩=some (.int .i64 x.v.cost)∧U.drew.cell? ⟨mb,moff+i*9+2,none⟩=some (.int .u64 x.v.bridge)∧U.drew.cell? ⟨mb,moff+i*9+3,none⟩=some (.int .i64 x.v.port))∧U.drew.cell? ⟨mb,moff+i*9+4,none⟩=some (.int .i64 x.age)):=⟨(tC2 hS.out.box).2,HMC.out U.drew (Below.drew hS.out.low)⟩
    have HC1:Hid ((U.drew.alloc (.cells #[.int .i64 (k:Int),.int .u64 x.v.root,.int .i64 x.v.cost,.int .u64 x.v.bridge,.int .i64 x.v.port,.int .i64 x.age] 66)).cell? ⟨w3.heap.size,1,none⟩=some (.slice ta k tc)∧((U.drew.alloc (.cells #[.int .i64 (k:Int),.int .u64 x.v.root,.int .i64 x.v.cost,.int .u64 x.v.bridge,.int .i64 x.v.port,.int .i64 x.age] 66)).cell? ⟨mb,moff+i*9,none⟩=some (.int .u64 x.v.root)∧(U.drew.alloc (.cells #[.int .i64 (k:Int),.int .u64 x.v.root,.int .i64 x.v.cost,.int .u64 x.v.bridge,.int .i64 x.v.port,.int .i64 x.age] 66)).cell? ⟨mb,moff+i*9+1,none⟩=some (.int .i64 x.v.cost)∧(U.drew.alloc (.cells #[.int .i64 (k:Int),.int .u64 x.v.root,.int .i64 x.v.cost,.int .u64 x.v.bridge,.int .i64 x.v.port,.int .i64 x.age] 66)).cell? ⟨mb,moff+i*9+2,none⟩=some (.int .u64 x.v.bridge)∧(U.drew.alloc (.cells #[.int .i64 (k:Int),.int .u64 x.v.root,.int .i64 x.v.cost,.int .u64 x.v.bridge,.int .i64 x.v.port,.int .i64 x.age] 66)).cell? ⟨mb,moff+i*9+3,none⟩=some (.int .i64 x.v.port))∧(U.drew.alloc (.cells #[.int .i64 (k:Int),.int .u64 x.v.root,.int .i64 x.v.cost,.int .u64 x.v.bridge,.int .i64 x.v.port,.int .i64 x.age] 66)).cell? ⟨mb,moff+i*9+4,none⟩=some (.int .i64 x.age)):=⟨hcX,HMC.out _ hbX⟩
    have HC7:Hid (W1.cell? ⟨w3.heap.size,1,none⟩=some (.slice ta k tc)∧(W1.cell? ⟨mb,moff+i*9,none⟩=some (.int .u64 x.v.root)∧W1.cell? ⟨mb,moff+i*9+1,none⟩=some (.int .i64 x.v.cost)∧W1.cell? ⟨mb,moff+i*9+2,none⟩=some (.int .u64 x.v.bridge)∧W1.cell? ⟨mb,moff+i*9+3,none⟩=some (.int .i64 x.v.port))∧W1.cell? ⟨mb,moff+i*9+4,none⟩=some (.int .i64 x.age)):=⟨hcW,HMC.out _ hbW⟩
    have HRN:Hid _:=hrun;have HZ:Hid (HeS w3 (W1.setCell ⟨w3.heap.size,1,none⟩ (.slice a1 (k+1) c1)) g (k+1) a1 c1 (talesM t' i)):=hN;have HLT:Hid (k<t'.length):=hlt;have hk4:k<4:=(by have:=HTL.out.1;omega)
    have k0:(0:Int)≤(k:Int):=(by omega)
    have k1:(k:Int)<(t'.length:Int):=(by omega)
    rw[emb] at ct;obtain⟨ml,hml⟩:∃ml,ml=(tat t' k).l.length:=⟨_,rfl⟩
    rw[←hml] at ct hil;have i2:(i:Int)<(ml:Int):=(by omega)
    generalize (tat t' k).cap=mc at ct;clear fat ftr hrun hbX hcX hbW hN hS HMC hx emb hml hil;rw[etb];(go_wp2_with fail);refine wp_region_z (z:=17) (C:=fun W=>W.cell? ⟨w3.heap.size,1,none⟩=some (.slice ta k tc)∧(W.cell? ⟨mb,moff+i*9,none⟩=some (.int .u64 x.v.root)∧W.cell? ⟨mb,moff+i*9+1,none⟩=some (.int .i64 x.v.cost)∧W.cell? ⟨mb,moff+i*9+2,none⟩=some (.int .u64 x.v.bridge)∧W.cell? ⟨mb,moff+i*9+3,none⟩=some (.int .i64 x.v.port))∧W.cell? ⟨mb,moff+i*9+4,none⟩=some (.int .i64 x.age)) (by kernel_rfl) HC0.out (fun hHeld => ?_);refine z_take (i:=0) (v := ?_) (some 61) rfl rfl (by kernel_rfl) (by kernel_rfl) (by kernel_rfl) (by decide) (fun _ _ _ h=>h) (by rfl) ?_ hHeld ?_;rotate_left 1
    ·(intro wq;go_simp;try with_reducible rfl)
    (try simp only[Act.put,lsA,lsZ,lsS])
    refine z_load (i:=1) (v := ?_) (some 62) rfl rfl (by kernel_rfl) (by kernel_rfl) (by kernel_rfl) (by kernel_rfl) (fun _ _ _ h=>h) (by rfl) ?_ hHeld ?_;rotate_left 1
    ·(intro wq hSw;go_simp;try with_reducible rfl)
    (try simp only[Act.put,lsA,lsZ,lsS])
    refine z_take (i:=2) (v := ?_) (some 63) rfl rfl (by kernel_rfl) (by kernel_rfl) (by kernel_rfl) (by decide) (fun _ _ _ h=>h) (by rfl) ?_ hHeld ?_;rotate_left 1
    ·(intro wq;go_simp;try with_reducible rfl)
    (try simp only[Act.put,lsA,lsZ,lsS])
    refine z_take (i:=3) (v := ?_) (some 64) rfl rfl (by kernel_rfl) (by kernel_rfl) (by kernel_rfl) (by decide) (fun _ _ _ h=>h) (by rfl) ?_ hHeld ?_;rotate_left 1
    ·(intro wq;go_simp;try with_reducible rfl)
    (try simp only[Act.put,lsA,lsZ,lsS])
    refine z_take (i:=4) (v := ?_) (some 65) rfl rfl (by kernel_rfl) (by kernel_rfl) (by kernel_rfl) (by decide) (fun _ _ _ h=>h) (by rfl) ?_ hHeld ?_;rotate_left 1
    ·(intro wq;go_simp;try with_reducible rfl)
    (try simp only[Act.put,lsA,lsZ,lsS])
    refine z_take (i:=5) (v := ?_) (some 66) rfl rfl (by kernel_rfl) (by kernel_rfl) (by kernel_rfl) (by decide) (fun _ _ _ h=>h) (by rfl) ?_ hHeld ?_;rotate_left 1
    ·(intro wq;go_simp;try with_reducible rfl)
    (try simp only[Act.put,lsA,lsZ,lsS])
    refine z_take (i:=6) (v := ?_) (some 67) rfl rfl (by kernel_rfl) (by kernel_rfl) (by kernel_rfl) (by decide) (fun _ _ _ h=>h) (by rfl) ?_ hHeld ?_;rotate_left 1
    ·(intro wq;go_simp;try with_reducible rfl)
    (try simp only[Act.put,lsA,lsZ,lsS])
    refine z_load (i:=7) (v := ?_) (some 68) rfl rfl (by kernel_rfl) (by kernel_rfl) (by kernel_rfl) (by kernel_rfl) (fun _ _ _ h=>h) (by rfl) ?_ hHeld ?_;rotate_left 1
    ·(intro wq hSw;go_simp;try with_reducible rfl)
    (try simp only[Act.put,lsA,lsZ,lsS])
    refine z_take (i:=8) (v := ?_) (some 69) rfl rfl (by kernel_rfl) (by kernel_rfl) (by kernel_rfl) (by decide) (fun _ _ _ h=>h) (by rfl) ?_ hHeld ?_;rotate_left 1
    ·(intro wq;go_simp;try with_reducible rfl)
    (try simp only[Act.put,lsA,lsZ,lsS])
    refine z_take (i:=9) (v := ?_) (some 70) rfl rfl (by kernel_rfl) (by kernel_rfl) (by kernel_rfl) (by decide) (fun _ _ _ h=>h) (by rfl) ?_ hHeld ?_;rotate_left 1
    ·(intro wq;go_simp;try with_reducible rfl)
    (try simp only[Act.put,lsA,lsZ,lsS])
    refine z_take (i:=10) (v := ?_) (some 71) rfl rfl (by kernel_rfl) (by kernel_rfl) (by kernel_rfl) (by decide) (fun _ _ _ h=>h) (by rfl) ?_ hHeld ?_;rotate_left 1
    ·(intro wq;go_simp;try with_reducible rfl)
    (try simp only[Act.put,lsA,lsZ,lsS])
    refine z_take (i:=11) (v := ?_) (some 72) rfl rfl (by kernel_rfl) (by kernel_rfl) (by kernel_rfl) (by decide) (fun _ _ _ h=>h) (by rfl) ?_ hHeld ?_;rotate_left 1
    ·(intro wq;go_simp;try with_reducible rfl)
    (try simp only[Act.put,lsA,lsZ,lsS])
    refine z_load (i:=12) (v := ?_) (some 73) rfl rfl (by kernel_rfl) (by kernel_rfl) (by kernel_rfl) (by kernel_rfl) (fun _ _ _ h=>h) (by rfl) ?_ hHeld ?_;rotate_left 1
    ·(intro wq hSw;go_simp;try with_reducible rfl)
    (try simp only[Act.put,lsA,lsZ,lsS])
    refine z_take (i:=13) (v := ?_) (some 74) rfl rfl (by kernel_rfl) (by kernel_rfl) (by kernel_rfl) (by decide) (fun _ _ _ h=>h) (by rfl) ?_ hHeld ?_;rotate_left 1
    ·(intro wq;go_simp;try with_reducible rfl)
    (try simp only[Act.put,lsA,lsZ,lsS])
    refine z_one (i:=14) (by kernel_rfl) rfl (fun K hK => ?_);go_simp;refine hK.out _ _ (Or.inr HC1.out) (fun hHeld => ?_);clear hK K;(try simp only[Act.put,lsA,lsZ,lsS])
    refine z_one (i:=15) (by kernel_rfl) rfl (fun K hK => ?_);refine step_append_d (some 76) rfl rfl (.tmp 62) (.tmp 75) 62 rfl _ _ _ rfl rfl HRN.out ?_;refine hK.out _ _ (Or.inr HC7.out) (fun hHeld => ?_);clear hK K;(try simp only[Act.put,lsA,lsZ,lsS])
    refine z_take (i:=16) (v := ?_) (some 77) rfl rfl (by kernel_rfl) (by kernel_rfl) (by kernel_rfl) (by decide) (fun _ _ _ h=>h) (by rfl) ?_ hHeld ?_;rotate_left 1
    ·(intro wq;go_simp;try with_reducible rfl)
    (try simp only[Act.put,lsA,lsZ,lsS])
    refine z_one (i:=17) (by kernel_rfl) rfl (fun K hK => ?_);go_simp;refine hK.out _ _ (Or.inl (by kernel_rfl)) (fun hHeld => ?_);clear hK K;refine z_done (by kernel_rfl) ?_ _;(go_wp2_with fail);exact⟨⟨k+1,a1,c1,HLT.out,by go_num,HZ⟩,by have:=HLT.out;simp[intOf];omega⟩
   ·obtain rfl:k=t'.length:=by omega
    have nk:¬(t'.length:Int)<(t'.length:Int):=(by omega)
    obtain⟨hlow,hbox,hown⟩:=hS.out;obtain⟨ta',tc',he,hta,hnt,_⟩:=owns_tales hown;cases he
    obtain⟨hT4,_,hw0,hwd⟩:=HTL.out;have hRt:=Hl.right_of hw0;obtain⟨N,HN⟩:∃N,Hid (N=17+t'.length*23):=⟨_,rfl⟩
    obtain⟨F,HFn⟩:∃F,Hid (F=Hl.byt D t'.length (talesM t' i)):=⟨_,rfl⟩
    have HFR:Hid (∀j,j<N→0≤F j∧F j≤255):=fun j hj=>by
     rw[HFn.out];exact Hl.byt_range D t'.length (talesM t' i) HDR.out hRt j (by rw[←HN.out];exact hj)
    have HUX:Hid (TaleRow U ta t'.length tc (talesM t' i)∧ByteRow U (some ⟨g,0,none⟩) 16 16 D∧U.heap[w3.heap.size]?=some (.cells #[.slice (some ⟨g,0,none⟩) 16 16,.slice ta t'.length tc] 64)∧Bl w3 U):=⟨hta,(HF.out U hlow).2.2.1,hbox,hlow⟩
    have HBY:Hid (Calls Tryz.prog 19 #[.agg #[.slice (some ⟨g,0,none⟩) 16 16,.slice ta t'.length tc]] U fun e w'=>∃g2,e=.returned (.tuple #[.slice (some ⟨g2,0,none⟩) N N,.int .i64 0])∧Hid (ByteRow w' (some ⟨g2,0,none⟩) N N F∧Bl U w')):=by
     refine(lbytes_right (some ⟨g,0,none⟩) 16 16 D ta t'.length tc (talesM t' i) U HUX.out.2.1 HUX.out.1 (by unfold Hl.wrong;rw[if_pos rfl];exact hw0)).mono ?_;rintro e w' ⟨g2,h1,h2,_,h3⟩;rw[HN.out,HFn.out];exact⟨g2,h1,((ByteRow.of_row (off:=0) h2 (by omega) (Nat.le_refl _)).congr (fun j _=>by rw[Nat.zero_add])),h3⟩
    have HPT:Hid (∀W g2,ByteRow W (some ⟨g2,0,none⟩) N N F→Calls Tryz.prog 20 #[.slice (some ⟨g2,0,none⟩) N N] W fun e w'=>∃da dc ta2 tc2,e=.returned (.tuple #[.agg #[.slice da 16 dc,.slice ta2 t'.length tc2],.int .i64 0])∧Hid (ByteRow w' da 16 dc D∧TaleRow w' ta2 t'.length tc2 (talesM t' i)∧NilOk da 16 dc∧Bl W w')):=fun W g2 hg=>by
     refine(lparse_any (some ⟨g2,0,none⟩) N N F W hg HFR.out).mono ?_;rintro e w' ⟨h,hb⟩;rw[HN.out,HFn.out] at h;obtain⟨da,dc,ta2,tc2,he,h1,h2,h3,_⟩:=hparse_there h hw0 hwd;exact⟨da,dc,ta2,tc2,he,h1,h2,h3,hb⟩
    have HSM:Hid (∀W da2 dc2 ta2 tc2,ByteRow W da2 16 dc2 D→TaleRow W ta2 t'.length tc2 (talesM t' i)→NilOk da2 16 dc2→ByteRow W (some ⟨g,0,none⟩) 16 16 D→TaleRow W ta t'.length tc (talesM t' i)→Calls Tryz.prog 21 #[.agg #[.slice da2 16 dc2,.slice ta2 t'.length tc2],.agg #[.slice (some ⟨g,0,none⟩) 16 16,.slice ta t'.length tc]] W fun e w'=>e=.returned (.bool true)∧Bl W w'):=fun W da2 dc2 ta2 tc2 h1 h2 h3 h4 h5 =>
     lsame_true da2 (some ⟨g,0,none⟩) 16 dc2 16 D D ta2 ta t'.length tc2 tc (talesM t' i) W (by omega) h1 h4 (fun _ _=>rfl) h3 (fun e=>by cases e) h2 h5
    have HN9:Hid (N≤109):=(by have:=HN.out;show N≤109;omega)
    obtain⟨k0,k1⟩:=hl_cells hbox;clear hS hlow hbox hown hta hnt hw0 hwd hRt hT4 HTL;(go_wp2_with fail);refine HBY.out.mono ?_;rintro e w4 ⟨g2,rfl,H4⟩;clear HBY k0 k1;(go_wp2_with fail);refine(HPT.out _ g2 H4.out.1).mono ?_;rintro e w5 ⟨da,dc,ta2,tc2,rfl,H5⟩;have hU5:Bl U w5:=H4.out.2.trans (H5.out.2.2.2.mono H4.out.2.size);have HU5:Hid (∀o,Bl U (w5.alloc o)):=fun o=>hU5.trans ((bA1 w5 o).mono hU5.size);have HS5:Hid (∀o,Calls Tryz.prog 21 #[.agg #[.slice da 16 dc,.slice ta2 t'.length tc2],.agg #[.slice (some ⟨g,0,none⟩) 16 16,.slice ta t'.length tc]] (w5.alloc o) fun e w'=>e=.returned (.bool true)∧Hid (Bl w4 w')):=fun o=>by
     refine(HSM.out _ da dc ta2 tc2 (H5.out.1.below (bA1 _ _)) (H5.out.2.1.below (bA1 _ _)) H5.out.2.2.1 (HUX.out.2.1.below (HU5.out o)) (HUX.out.1.below (HU5.out o))).mono ?_;rintro e w' ⟨h1,h2⟩;have h3:Bl w4 (w5.alloc o):=H5.out.2.2.2.trans ((bA1 w5 o).mono H5.out.2.2.2.size);exact⟨h1,h3.trans (h2.mono h3.size)⟩
    have k0:∀o,(w5.alloc o).cell? ⟨w3.heap.size,0,none⟩=some (.slice (some ⟨g,0,none⟩) 16 16):=fun o=>(hl_cells (keep HUX.out.2.2.1 (HU5.out o))).1;have k1:∀o,(w5.alloc o).cell? ⟨w3.heap.size,1,none⟩=some (.slice ta t'.length tc):=fun o=>(hl_cells (keep HUX.out.2.2.1 (HU5.out o))).2;clear hU5 HPT HSM;(go_wp2_with fail);refine(HS5.out _).mono ?_;rintro e w6 ⟨rfl,H6⟩;clear HS5 k0 k1 HU5 H5;have hU6:Bl U w6:=H4.out.2.trans (H6.out.mono H4.out.2.size);have h36:Bl w3 w6:=HUX.out.2.2.2.trans (hU6.mono HUX.out.2.2.2.size);have H36:Hid (Bl w3 w6):=h36;have H26:Hid (ByteRow w6 (some ⟨g2,0,none⟩) N N F):=H4.out.1.below H6.out;obtain⟨fat,_,_,fm,_⟩:=HF.out w6 h36;obtain⟨n0,n1⟩:=tC2 fm;have b0:=HBR.out w6 fat;rw[HEB.out] at n0;obtain⟨A,HA⟩:∃A,Hid (A=b.addr-b.addr/1099511627776%2*1099511627776):=⟨_,rfl⟩
    have n40:bits BinOp.andNot IntKind.u64 b.addr 1099511627776=A:=(by rw[HA.out];exact not40 _ HAD.out.1 HAD.out.2)
    have HA0:Hid ((0≤A∧A≤281474976710655)∧∀p v,wrong 1652522221568 A false p v 34952 N=0):=by
     rw[HA.out];exact⟨(one40 HAD.out.1 HAD.out.2).1,fun p v=>wrong_hello HAD.out.1 HAD.out.2 HN9.out p v⟩
    obtain⟨M,HM⟩:∃M,Hid (M=headN false+N):=⟨_,rfl⟩
    have HFB:Hid (Calls Tryz.prog 22 #[.agg #[.int .u64 1652522221568,.int .u64 A,.bool false,.int .i64 0,.bool false,.int .i64 0,.int .i64 34952,.slice (some ⟨g2,0,none⟩) N N]] w6 fun e w'=>∃a6 c6,e=.returned (.tuple #[.slice a6 M c6,.int .i64 0])∧Hid (ByteRow w' a6 M c6 (bytF 1652522221568 A false 0 false 0 34952 F)∧NilOk a6 M c6∧Bl w6 w')):=by
     rw[HM.out];refine(bytes_right 1652522221568 A false 0 false 0 34952 (some ⟨g2,0,none⟩) N N F w6 HA0.out.1.1 (by have:=HA0.out.1.2;omega) (HA0.out.2 0 0) H26.out (fun e=>by cases e)).mono ?_;rintro e w' ⟨a6,c6,h1,h2,h3,h4⟩;exact⟨a6,c6,h1,h2,h3,h4⟩
    clear fat fm hU6 h36 H6 HUX H4;(go_wp2_with fail);refine HFB.out.mono ?_;rintro e w7 ⟨a6,c6,rfl,H7⟩;clear HFB n0 n1 b0 n40;have HFP:Hid (Calls Tryz.prog 23 #[.slice a6 M c6] w7 fun e w'=>∃p3 x3 v3 a3 c3,e=.returned (.tuple #[.agg #[.int .u64 1652522221568,.int .u64 A,.bool false,.int .i64 p3,.bool x3,.int .i64 v3,.int .i64 34952,.slice a3 N c3],.int .i64 0])∧Hid (ByteRow w' a3 N c3 F∧NilOk a3 N c3∧Bl w7 w')):=by
     have h1:=H7.out.1;have h2:=H7.out.2.1;rw[HM.out] at h1 h2 ⊢;refine(fparse_there 1652522221568 A false 0 false 0 34952 N F a6 c6 w7 (by omega) HA0.out.1.1 (HA0.out.2 0 0) HFR.out h1 h2).mono ?_;rintro e w' ⟨⟨p3,x3,v3,a3,c3,h3,_,h4,h5⟩,h6⟩;exact⟨p3,x3,v3,a3,c3,h3,h4,h5,h6⟩
    (go_wp2_with fail);refine HFP.out.mono ?_;rintro e w8 ⟨p3,x3,v3,a3,c3,rfl,H8⟩;clear HFP;have h68:Bl w6 w8:=H7.out.2.2.trans (H8.out.2.2.mono H7.out.2.2.size);have H68:Hid (∀o,Bl w6 (w8.alloc o)):=fun o=>h68.trans ((bA1 w8 o).mono h68.size);obtain⟨S,HS⟩:∃S,Hid (S=strOf N F):=⟨_,rfl⟩
    have s1:∀o,(convert 60 9 (.slice a3 N c3)).run Tryz.prog (w8.alloc o)=.ok (.string S) (w8.alloc o):=fun o=>by rw[HS.out];exact run_str _ a3 N c3 F (H8.out.1.below (bA1 w8 o)) H8.out.2.1
    have s2:∀o,(convert 60 9 (.slice (some ⟨g2,0,none⟩) N N)).run Tryz.prog (w8.alloc o)=.ok (.string S) (w8.alloc o):=fun o=>by rw[HS.out];exact run_str _ _ N N F (H26.out.below (H68.out o)) (fun e=>by cases e)
    have HWR:Hid (∀W,Calls Tryz.prog 24 #[.agg #[.int .u64 1652522221568,.int .u64 A,.bool false,.int .i64 p3,.bool x3,.int .i64 v3,.int .i64 34952,.slice a3 N c3]] W fun e w'=>e=.returned (.int .i64 0)∧Hid (Bl W w')):=fun W=>by
     have h:=rwrong2_any 1652522221568 A false p3 x3 v3 34952 a3 N c3 W HA0.out.1.1;rw[HA0.out.2 p3 v3] at h;exact h
    clear h68 H7;(go_wp2_with fail);refine(HWR.out _).mono ?_;rintro e w9 ⟨rfl,H9⟩;have h69:Bl w6 w9:=(H68.out _).trans (H9.out.mono (H68.out _).size);have h39:Bl w3 w9:=H36.out.trans (h69.mono H36.out.size);clear s1 s2 HWR H9;obtain⟨fat,_,_,fm,_,fb⟩:=HF.out w9 h39;obtain⟨n0,n1⟩:=tC2 fm;obtain⟨L,HL⟩:∃L,Hid (L=(Pl.ptsAll n'.ls n'.L i 30).length):=⟨_,rfl⟩
    have l30:(L:Int)≤30:=(by have:=pts_fewU HR.out.links i;rw[HL.out];omega)
    have HPO:Hid (Calls Tryz.prog 25 #[.agg #[.slice n'.bao n'.K n'.bcap,.slice n'.lao n'.L n'.lcap],.int .i64 i] w9 fun e w'=>∃ao cap,e=.returned (.slice ao L cap)∧Hid (Bl w w')):=by
     rw[HL.out];refine(rports_any n' i w9 fat HR.out.fewL HR.out.links).mono ?_;rintro e w' ⟨ao,cap,h1,_,_,_,h5⟩;exact⟨ao,cap,h1,fb.trans (h5.mono fb.size)⟩
    rw[HEB.out] at n0 HPO;clear h69 h39 fat fm fb;(go_wp2_with fail);refine HPO.out.mono ?_;rintro e w10 ⟨ao,cap,rfl,H10⟩;(go_wp2_with fail);go_ret;exact⟨rfl,H10.out⟩
 ·have q1:(f1 != 0)=true:=(by simpa using q)
  (go_wp2_with fail);rw[←HV1.out,←HV2.out];go_ret;exact⟨rfl,HWV.out⟩
end
section
open Go.RowKit
open Vc (V Of)
open Pl (Br Net Pc Lk En St)
def regR:Rg.Reg:=⟨⟨#[114]⟩,0,none,0,0,fun _=>0,fun _=>0⟩
theorem sizeNet:(Tryz.prog.info? 32).map (·.size)=some 2:=by kernel_rfl
theorem infoLk:(Tryz.prog.info? 83).map (fun i=>(i.zero,i.size,i.bytes))=some (some (.agg #[.int .i64 0,.int .i64 0,.int .i64 0,.int .i64 0,.int .i64 0,.bool false]),6,48):=by kernel_rfl
end
section
open Go.RowKit
theorem append_at (w:World) (t e:TypeId) (z:Value) (k bytes:Nat) (ht:Tryz.prog.underlying t=some (.slice e)) (hinfo:(Tryz.prog.info? e).map (fun i=>(i.zero,i.size,i.bytes))=some (some z,k,bytes)) (hzk:z.cells.size=k) (hk:0<k)
  (base:Nat) (v:Value) (n:Nat) (c:Nat→Nat→Value) (hown:w.ownsRow base e k v n (cellsL n k c)) (ad:Addr) (m cp:Nat) (d:Nat→Nat→Value) (hd:∀i j,(d i j).oneCell'=true) (hr:CRow w (some ad) m cp k d) (h63:n+m≤maxLen) (hb:(n+m)*bytes≤140737488355328) (hbase:base≤w.heap.size) :
  ∃a1 c1 w',(Builtin.append_ #[t,t] t #[v,.slice (some ad) m cp]).run Tryz.prog w=.ok (.slice a1 (n+m) c1) w'∧w'.ownsRow base e k (.slice a1 (n+m) c1) (n+m) (cellsL (n+m) k (catC n c d))∧w.grownBy w' v.ownBlock∧Below base w w'∧((Value.slice a1 (n+m) c1).ownBlock=v.ownBlock∨(Value.slice a1 (n+m) c1).ownBlock=some w.heap.size):=by
 obtain⟨i0,hi,hz0,hz1,hz2⟩:=info_parts hinfo;obtain⟨v',w',hrun,h1,h2,_,h3⟩:=run_append_own_at (P:=Tryz.prog) w base t t e i0 z k bytes ht hi hz0 hz1 hz2 hzk hk v n _ hown ad m cp (cellsL m k d) (cellsL_length _ _ _) (src_cells hk hr rfl) (cellsL_one _ _ _ hd) h63 hb hbase;rw[cellsL_cat n m k hk] at h1;obtain⟨a1,c1,rfl,_⟩:=owns_c hk h1;exact⟨a1,c1,w',hrun,h1,h2,(Below.refl _ _).grown h2 hbase (fun q hq=>(oCb hown q hq).1),h3⟩
end
section
open Go.RowKit
open Vc (V Of)
open Pl (Br Net Pc Lk En St)
theorem infoBgU:(Tryz.prog.info? 58).map (fun i=>(i.zero,i.size,i.bytes))=some (some (.agg #[.int .u64 0,.slice none 0 0,.string ⟨#[]⟩,.int .i64 0,.slice none 0 0]),5,80):=by kernel_rfl
theorem one_br_u {w:World}{g:Nat}{b:Br}{ty:TypeId}(h:w.heap[g]?=some (.cells (brA b) ty (0,0))):BRow w (some ⟨g,0,none⟩) 1 1 (fun _=>b):=by
 refine⟨Nat.le_refl _,fun _=>⟨g,0,rfl,(gSm.1 h).1,fun i hi j hj => ?_⟩⟩;obtain rfl:i=0:=by omega
 rcases(by omega:j=0∨j=1∨j=2∨j=3∨j=4) with e | e | e | e | e<;>subst e<;>exact cell_of_row w g _ _ _ _ h
theorem one_lk_u {w:World}{g:Nat}{l:Lk}{ty:TypeId}(h:w.heap[g]?=some (.cells (lkA l) ty (0,0))):LRow w (some ⟨g,0,none⟩) 1 1 (fun _=>l):=by
 refine⟨Nat.le_refl _,fun _=>⟨g,0,rfl,(gSm.1 h).1,fun i hi j hj => ?_⟩⟩;obtain rfl:i=0:=by omega
 rcases(by omega:j=0∨j=1∨j=2∨j=3∨j=4∨j=5) with e | e | e | e | e | e<;>subst e<;>exact cell_of_row w g _ _ _ _ h
structure NetW (w1 W:World) (bs:Nat→Br) (ls:Nat→Lk) (M t s:Nat) (v5 v6:Value):Prop where
 low:Below M w1 W
 box:W.heap[M]?=some (.cells #[v5,v6] 32)
 brs:W.ownsRow (M+1) 58 5 v5 t (cellsL t 5 (fun i=>brC (bs i)))
 lks:W.ownsRow (M+1) 83 6 v6 s (cellsL s 6 (fun j=>lkC (ls j)))
 apart:∀q,v5.ownBlock=some q→v6.ownBlock≠some q
theorem NetW.below {w1 W W':World}{bs:Nat→Br}{ls:Nat→Lk}{M t s:Nat}{v5 v6:Value}(h:NetW w1 W bs ls M t s v5 v6) (hb:Bl W W'):NetW w1 W' bs ls M t s v5 v6 :=
 ⟨h.low.trans (hb.mono (Nat.le_of_lt (gSm.1 h.box).1)),keep h.box hb,ownsC_below h.brs hb,ownsC_below h.lks hb,h.apart⟩
theorem kept_u {W W':World}{base e k n:Nat}{v u:Value}{xs:List Value}(h:W.ownsRow base e k v n xs) (hg:W.grownBy W' u.ownBlock) (hne:∀q,v.ownBlock=some q→u.ownBlock≠some q):W'.ownsRow base e k v n xs:=by
 refine h.kept hg ?_;cases hv:v.ownBlock with
 | none=>exact Or.inl rfl
 | some q=>exact Or.inr (fun e=>hne q hv e.symm)
theorem net_br {w1 W:World}{bs:Nat→Br}{ls:Nat→Lk}{M i s:Nat}{v5 v6:Value}(h:NetW w1 W bs ls M i s v5 v6) (hi:i≤1000000) :
  ∃a1 c1 w2,(Builtin.append_ #[29,29] 29 #[v5,.slice (some ⟨W.heap.size,0,none⟩) 1 1]).run Tryz.prog (W.alloc (.cells (brA (bs i)) 58))=.ok (.slice a1 (i+1) c1) w2∧Below M w1 w2∧w2.cell? ⟨M,0,none⟩=some v5∧w2.frozen? ⟨M,0,none⟩=false ∧
   NetW w1 (w2.setCell ⟨M,0,none⟩ (.slice a1 (i+1) c1)) bs ls M (i+1) s (.slice a1 (i+1) c1) v6:=by
 obtain⟨C,hC⟩:∃C,C=W.alloc (.cells (brA (bs i)) 58):=⟨_,rfl⟩
 have hCB:Bl W C:=(by rw[hC];exact bA1 _ _)
 have hCs:C.heap.size=W.heap.size+1:=(by rw[hC];simp)
 have hCl:C.heap[W.heap.size]?=some (.cells (brA (bs i)) 58):=(by rw[hC];exact heap_alloc_last _ _)
 have hMl:M<W.heap.size:=(gSm.1 h.box).1;have hN:=h.below hCB;obtain⟨a1,c1,w2,r,ho,hg,hb,hw⟩:=append_at C 29 58 _ 5 80 Tryz.underlying29 infoBgU rfl (by omega) (M+1) v5 i (fun q=>brC (bs q)) hN.brs ⟨W.heap.size,0,none⟩ 1 1 (fun _=>brC (bs i)) (fun _ j=>brC_one _ j) (one_br_u hCl) (by unfold maxLen;omega) (by omega) (by omega);rw[cellsL_congr (i+1) 5 _ (fun q=>brC (bs q)) (fun q hq=>by
  unfold catC;by_cases c:q<i
  ·rw[if_pos c]
  ·rw[if_neg c,show q=i by omega])] at ho
 have hMne:v5.ownBlock≠some M:=fun e=>by have:=(oCb hN.brs M e).1;omega
 have hM6:v6.ownBlock≠some M:=fun e=>by have:=(oCb hN.lks M e).1;omega
 have hbox2:w2.heap[M]?=some (.cells #[v5,v6] 32):=(hg.block M (by omega) (fun e=>hMne e.symm)).trans hN.box;have hvM:(Value.slice a1 (i+1) c1).ownBlock≠some M:=fun e=>by
  rcases hw with hw | hw
  ·rw[hw] at e;exact hMne e
  ·rw[hw] at e;injection e with e;omega
 have hlow2:Below M w1 w2:=hN.low.trans (hb.mono (by omega));have hgs:w2.grownBy (w2.setCell ⟨M,0,none⟩ (.slice a1 (i+1) c1)) (some M):=by
  have bz:Below 0 w2 (w2.setCell ⟨M,0,none⟩ (.slice a1 (i+1) c1)):=(Below.refl 0 w2).setCell (Nat.zero_le _) _;exact⟨bz.os,bz.tape,bz.output,bz.size,fun q hq hne=>heap_setCell_other _ _ _ _ (by exact fun e=>hne (by rw[e]))⟩
 have hap:∀q,(Value.slice a1 (i+1) c1).ownBlock=some q→v6.ownBlock≠some q:=fun q hq e=>by
  rcases hw with hw | hw
  ·rw[hw] at hq;exact h.apart q hq e
  ·have:=(oCb h.lks q e).2;rw[hw] at hq;injection hq with hq;omega
 refine⟨a1,c1,w2,by rw[←hC];exact r,hlow2,(tC2 hbox2).1,lF0 hbox2 _,⟨hlow2.setCell (Nat.le_refl _) _,?_,?_,?_,hap⟩⟩
 ·rw[heap_setCell_same _ _ _ _ _ _ hbox2];rfl
 ·refine ho.kept hgs ?_;cases hv:(Value.slice a1 (i+1) c1).ownBlock with
  | none=>exact Or.inl rfl
  | some q=>exact Or.inr (fun e=>hvM (by rw[hv];exact e))
 ·have h6:=kept_u hN.lks hg (fun q hq e=>hN.apart q e hq);refine h6.kept hgs ?_;cases hv:v6.ownBlock with
  | none=>exact Or.inl rfl
  | some q=>exact Or.inr (fun e=>hM6 (by rw[hv];exact e))
theorem net_lk {w1 W:World}{bs:Nat→Br}{ls:Nat→Lk}{M t i:Nat}{v5 v6:Value}(h:NetW w1 W bs ls M t i v5 v6) (hi:i≤1000000) :
  ∃a1 c1 w2,(Builtin.append_ #[30,30] 30 #[v6,.slice (some ⟨W.heap.size,0,none⟩) 1 1]).run Tryz.prog (W.alloc (.cells (lkA (ls i)) 83))=.ok (.slice a1 (i+1) c1) w2∧Below M w1 w2∧w2.cell? ⟨M,1,none⟩=some v6∧w2.frozen? ⟨M,1,none⟩=false ∧
   NetW w1 (w2.setCell ⟨M,1,none⟩ (.slice a1 (i+1) c1)) bs ls M t (i+1) v5 (.slice a1 (i+1) c1):=by
 obtain⟨C,hC⟩:∃C,C=W.alloc (.cells (lkA (ls i)) 83):=⟨_,rfl⟩
 have hCB:Bl W C:=(by rw[hC];exact bA1 _ _)
 have hCs:C.heap.size=W.heap.size+1:=(by rw[hC];simp)
 have hCl:C.heap[W.heap.size]?=some (.cells (lkA (ls i)) 83):=(by rw[hC];exact heap_alloc_last _ _)
 have hMl:M<W.heap.size:=(gSm.1 h.box).1;have hN:=h.below hCB;obtain⟨a1,c1,w2,r,ho,hg,hb,hw⟩:=append_at C 30 83 _ 6 48 Tryz.underlying30 infoLk rfl (by omega) (M+1) v6 i (fun q=>lkC (ls q)) hN.lks ⟨W.heap.size,0,none⟩ 1 1 (fun _=>lkC (ls i)) (fun _ j=>lkC_one _ j) (one_lk_u hCl) (by unfold maxLen;omega) (by omega) (by omega);rw[cellsL_congr (i+1) 6 _ (fun q=>lkC (ls q)) (fun q hq=>by
  unfold catC;by_cases c:q<i
  ·rw[if_pos c]
  ·rw[if_neg c,show q=i by omega])] at ho
 have hMne:v6.ownBlock≠some M:=fun e=>by have:=(oCb hN.lks M e).1;omega
 have hM5:v5.ownBlock≠some M:=fun e=>by have:=(oCb hN.brs M e).1;omega
 have hbox2:w2.heap[M]?=some (.cells #[v5,v6] 32):=(hg.block M (by omega) (fun e=>hMne e.symm)).trans hN.box;have hvM:(Value.slice a1 (i+1) c1).ownBlock≠some M:=fun e=>by
  rcases hw with hw | hw
  ·rw[hw] at e;exact hMne e
  ·rw[hw] at e;injection e with e;omega
 have hlow2:Below M w1 w2:=hN.low.trans (hb.mono (by omega));have hgs:w2.grownBy (w2.setCell ⟨M,1,none⟩ (.slice a1 (i+1) c1)) (some M):=by
  have bz:Below 0 w2 (w2.setCell ⟨M,1,none⟩ (.slice a1 (i+1) c1)):=(Below.refl 0 w2).setCell (Nat.zero_le _) _;exact⟨bz.os,bz.tape,bz.output,bz.size,fun q hq hne=>heap_setCell_other _ _ _ _ (by exact fun e=>hne (by rw[e]))⟩
 have hap:∀q,v5.ownBlock=some q→(Value.slice a1 (i+1) c1).ownBlock≠some q:=fun q hq e=>by
  rcases hw with hw | hw
  ·rw[hw] at e;exact h.apart q hq e
  ·have:=(oCb h.brs q hq).2;rw[hw] at e;injection e with e;omega
 refine⟨a1,c1,w2,by rw[←hC];exact r,hlow2,(tC2 hbox2).2,lF0 hbox2 _,⟨hlow2.setCell (Nat.le_refl _) _,?_,?_,?_,hap⟩⟩
 ·rw[heap_setCell_same _ _ _ _ _ _ hbox2];rfl
 ·have h5:=kept_u hN.brs hg (fun q hq e=>hN.apart q hq e);refine h5.kept hgs ?_;cases hv:v5.ownBlock with
  | none=>exact Or.inl rfl
  | some q=>exact Or.inr (fun e=>hM5 (by rw[hv];exact e))
 ·refine ho.kept hgs ?_;cases hv:(Value.slice a1 (i+1) c1).ownBlock with
  | none=>exact Or.inl rfl
  | some q=>exact Or.inr (fun e=>hvM (by rw[hv];exact e))
end
end Go.Proofs.YtflghpnpjmodaaaGreatDoor
