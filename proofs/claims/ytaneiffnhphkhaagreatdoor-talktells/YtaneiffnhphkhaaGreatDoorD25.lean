/- walks: the document's Fits -/
import Derived.Test.YtaneiffnhphkhaaGreatDoorD24
import Derived.Test.YtaneiffnhphkhaaGreatDoorD15
import Derived.Test.YtaneiffnhphkhaaGreatDoorD08
import Derived.Test.YtaneiffnhphkhaaGreatDoorD10
import Derived.Test.YtaneiffnhphkhaaGreatDoorD22
set_option maxRecDepth 100000
set_option maxHeartbeats 40000000
namespace Go.Proofs.YtaneiffnhphkhaaGreatDoor
section
open Go.RowKit
open Vc (V Of)
theorem rrole_any (s:V) (root port:Int) (ao:Option Addr) (n cap:Nat) (os:Nat→Of) (w:World) (hn:n≤9223372036854775807) (hr:ORow w ao n cap os) :
  Calls Tryz.prog 108 #[.agg #[.int .u64 s.root,.int .i64 s.cost,.int .u64 s.bridge,.int .i64 s.port],.int .i64 root,.int .i64 port,.slice ao n cap] w fun e w'=>e=.returned (.int .i64 (Vc.role s root port os n))∧Bl w w':=by
 have HR:Hid (ORow w ao n cap os):=hr;clear hr;unfold Vc.role;by_cases h0:port=root
 ·rw[if_pos h0];subst h0;go_enter Tryz.func108,Tryz.ntmps108;(go_wp2_with fail);go_ret;exact⟨rfl,bA1 _ _⟩
 ·rw[if_neg h0];obtain⟨R,hR⟩:∃R:Int,(if Vc.someTo (fun i=>decide (Vc.hears s port (os i))) n=true then(3:Int) else 2)=R:=⟨_,rfl⟩
  rw[hR];have HR3:Hid (Vc.someTo (fun i=>decide (Vc.hears s port (os i))) n=true→R=3):=fun h=>by rw[←hR,if_pos h]
  have HR2:Hid (Vc.someTo (fun i=>decide (Vc.hears s port (os i))) n=false→R=2):=fun h=>by rw[←hR,h];rfl
  clear hR;have d0:(port == root)=false:=(by simp[h0])
  have HBT:Hid (∀(a b:V) (W:World),Calls Tryz.prog 107 #[.agg #[.int .u64 a.root,.int .i64 a.cost,.int .u64 a.bridge,.int .i64 a.port],.agg #[.int .u64 b.root,.int .i64 b.cost,.int .u64 b.bridge,.int .i64 b.port]] W fun e w'=>e=.returned (.bool (decide (Vc.lt a b)))∧Bl W w'):=fun a b W=>rbetter_any a b W;have HH:Hid (∀o,decide (Vc.hears s port o)=decide (o.port=port∧(0≤o.age∧o.age≤20)∧Vc.lt o.vec ⟨s.root,s.cost,s.bridge,port⟩)):=fun o=>rfl;have H0:Hid (((w.alloc (.cells #[.int .u64 s.root,.int .i64 s.cost,.int .u64 s.bridge,.int .i64 s.port] 58)).alloc (.cells #[.int .u64 s.root,.int .i64 s.cost,.int .u64 s.bridge,.int .i64 port] 58)).heap[w.heap.size+1]?=some (.cells #[.int .u64 s.root,.int .i64 s.cost,.int .u64 s.bridge,.int .i64 port] 58)):=heap_alloc2_new w _ _;go_enter Tryz.func108,Tryz.ntmps108;(go_wp2_with fail);go_loopw [25] (fun i wr=>∃k:Nat,k≤n∧i=.int .i64 k∧Hid (Vc.someTo (fun i=>decide (Vc.hears s port (os i))) k=false)∧Hid (wr.heap[w.heap.size+1]?=some (.cells #[.int .u64 s.root,.int .i64 s.cost,.int .u64 s.bridge,.int .i64 port] 58)∧Bl w wr)) (fun i _=>n-(intOf i).toNat)
  case atStart=>exact⟨0,by omega,rfl,rfl,H0.out,bA2 _ _ _⟩
  case round =>
   obtain⟨k,hk,rfl,hS,hX⟩:=hrel;by_cases hlt:k<n
   ·obtain⟨b,off,rfl,hb⟩:=CRow.some HR.out (by omega);have hcap:=HR.out.1;obtain⟨c0,c1,c2,c3,c4,c5,c6⟩:=ORow.cells (CRow.other HR.out (w':=wr) (fun q _ _ hq=>hX.out.2.block q hq) hX.out.2.size) hlt;obtain⟨v0,v1,v2,v3⟩:=vc_cells hX.out.1;have HNO:Hid (decide (Vc.hears s port (os k))=false→Vc.someTo (fun i=>decide (Vc.hears s port (os i))) (k+1)=false):=fun h=>by
     show(Vc.someTo _ k||decide (Vc.hears s port (os k)))=false;rw[h,hS.out];rfl
    have HYES:Hid (decide (Vc.hears s port (os k))=true→Vc.someTo (fun i=>decide (Vc.hears s port (os i))) n=true):=fun h=>someTo_stay _ k h n hlt;rw[HH.out] at HNO HYES;have HX2:Hid (∀o,(wr.alloc o).heap[w.heap.size+1]?=some (.cells #[.int .u64 s.root,.int .i64 s.cost,.int .u64 s.bridge,.int .i64 port] 58)∧Bl w (wr.alloc o)):=fun o=>⟨keep hX.out.1 (bA1 _ _),hX.out.2.alloc hX.out.2.size _⟩
    have u0:∀o,(wr.alloc o).cell? ⟨w.heap.size+1,0,none⟩=some (.int .u64 s.root):=fun o=>(vc_cells (HX2.out o).1).1;have u1:∀o,(wr.alloc o).cell? ⟨w.heap.size+1,1,none⟩=some (.int .i64 s.cost):=fun o=>(vc_cells (HX2.out o).1).2.1;have u2:∀o,(wr.alloc o).cell? ⟨w.heap.size+1,2,none⟩=some (.int .u64 s.bridge):=fun o=>(vc_cells (HX2.out o).1).2.2.1;have u3:∀o,(wr.alloc o).cell? ⟨w.heap.size+1,3,none⟩=some (.int .i64 port):=fun o=>(vc_cells (HX2.out o).1).2.2.2;clear hX hS hb HH HR H0;generalize os k=o at *;obtain⟨op,oc,oa,⟨vr,vc,vb,vp⟩⟩:=o;simp only at c0 c1 c2 c3 c4 c5 c6 HNO HYES;by_cases p1:op=port
    ·have e1:(op == port)=true:=(by simp[p1])
     by_cases p2:0≤oa
     ·by_cases p3:oa≤20
      ·have HB1:Hid (∀W,Calls Tryz.prog 107 #[.agg #[.int .u64 vr,.int .i64 vc,.int .u64 vb,.int .i64 vp],.agg #[.int .u64 s.root,.int .i64 s.cost,.int .u64 s.bridge,.int .i64 port]] W fun e w'=>e=.returned (.bool (decide (Vc.lt ⟨vr,vc,vb,vp⟩ ⟨s.root,s.cost,s.bridge,port⟩)))∧Bl W w'):=fun W=>HBT.out ⟨vr,vc,vb,vp⟩ ⟨s.root,s.cost,s.bridge,port⟩ W;by_cases p4:Vc.lt ⟨vr,vc,vb,vp⟩ ⟨s.root,s.cost,s.bridge,port⟩
       ·have HF:Hid (Vc.someTo (fun i=>decide (Vc.hears s port (os i))) n=true):=HYES.out (decide_eq_true ⟨p1,⟨p2,p3⟩,p4⟩);rw[decide_eq_true p4] at HB1;clear p4 HNO HYES p1;(go_wp2_with fail);refine(HB1.out _).mono ?_;rintro e w2 ⟨rfl,hb2⟩;have HB2:Hid (Bl w w2):=(HX2.out _).2.trans (hb2.mono (HX2.out _).2.size);clear hb2;(go_wp2_with fail);go_ret;exact⟨by rw[HR3.out HF.out];rfl,HB2.out⟩
       ·have HF:Hid (Vc.someTo (fun i=>decide (Vc.hears s port (os i))) (k+1)=false):=HNO.out (decide_eq_false (fun q=>p4 q.2.2));rw[decide_eq_false p4] at HB1;clear p4 HNO HYES p1;(go_wp2_with fail);refine(HB1.out _).mono ?_;rintro e w2 ⟨rfl,hb2⟩;have HB2:Hid (w2.heap[w.heap.size+1]?=some (.cells #[.int .u64 s.root,.int .i64 s.cost,.int .u64 s.bridge,.int .i64 port] 58)∧Bl w w2):=⟨keep (HX2.out _).1 hb2,(HX2.out _).2.trans (hb2.mono (HX2.out _).2.size)⟩
        clear hb2;(go_wp2_with fail);exact⟨⟨k+1,by omega,by go_num,HF,HB2⟩,by simp[intOf];omega⟩
      ·have HF:Hid (Vc.someTo (fun i=>decide (Vc.hears s port (os i))) (k+1)=false):=HNO.out (decide_eq_false (fun q=>p3 q.2.1.2));clear HNO HYES p1;(go_wp2_with fail);exact⟨⟨k+1,by omega,by go_num,HF,HX2.out _⟩,by simp[intOf];omega⟩
     ·have HF:Hid (Vc.someTo (fun i=>decide (Vc.hears s port (os i))) (k+1)=false):=HNO.out (decide_eq_false (fun q=>p2 q.2.1.1));clear HNO HYES p1;(go_wp2_with fail);exact⟨⟨k+1,by omega,by go_num,HF,HX2.out _⟩,by simp[intOf];omega⟩
    ·have e1:(op == port)=false:=(by simp[p1])
     have HF:Hid (Vc.someTo (fun i=>decide (Vc.hears s port (os i))) (k+1)=false):=HNO.out (decide_eq_false (fun q=>p1 q.1));clear HNO HYES p1;(go_wp2_with fail);exact⟨⟨k+1,by omega,by go_num,HF,HX2.out _⟩,by simp[intOf];omega⟩
   ·obtain rfl:k=n:=by omega
    (go_wp2_with fail);go_ret;exact⟨by rw[HR2.out hS.out];rfl,hX.out.2⟩
end
section
open Go.RowKit
open Vc (V Of)
open Pl (Br Net Pc Lk En)
def rrole (es:Nat→Lk) (m i:Nat) (R:Int→Int) (p:Int):Int:=if Vc.someTo (fun j=>Pl.isEnd (es j) (i:Int) p) m=true then R p else 0
def rlTo (pts:List Int) (f:Int→Int):Nat→List Int
 | 0=>[]
 | k+1=>rlTo pts f k++[f (IL pts k)]
theorem rlTo_len (pts:List Int) (f:Int→Int):∀k,(rlTo pts f k).length=k
 | 0=>rfl
 | k+1=>by simp[rlTo,rlTo_len pts f k]
theorem rlTo_take (pts:List Int) (f:Int→Int):∀k,k≤pts.length→rlTo pts f k=(pts.take k).map f
 | 0,_=>by simp[rlTo]
 | k+1,h=>by
  have hk:k<pts.length:=(by omega)
  simp only[rlTo];rw[rlTo_take pts f k (by omega),List.take_add_one,List.getElem?_eq_getElem hk,List.map_append];simp[IL,List.getD,List.getElem?_eq_getElem hk]
theorem rlTo_all (pts:List Int) (f:Int→Int):rlTo pts f pts.length=pts.map f:=by
 rw[rlTo_take pts f _ (Nat.le_refl _),List.take_length]
def rkTo (es:Nat→Lk) (i:Nat) (p ρ:Int) (j:Nat):Int:=if Vc.someTo (fun j=>Pl.isEnd (es j) (i:Int) p) j=true then ρ else 0
theorem rkTo_yes {es:Nat→Lk}{i:Nat}{p ρ:Int}{j:Nat}(h:Pl.isEnd (es j) (i:Int) p=true):rkTo es i p ρ (j+1)=ρ:=by
 unfold rkTo;rw[if_pos (by simp only[Vc.someTo];rw[h,Bool.or_true])]
theorem rkTo_no {es:Nat→Lk}{i:Nat}{p ρ:Int}{j:Nat}(h:Pl.isEnd (es j) (i:Int) p=false):rkTo es i p ρ (j+1)=rkTo es i p ρ j:=by
 unfold rkTo;have:Vc.someTo (fun j=>Pl.isEnd (es j) (i:Int) p) (j+1)=Vc.someTo (fun j=>Pl.isEnd (es j) (i:Int) p) j:=by
  simp only[Vc.someTo];rw[h,Bool.or_false]
 rw[this]
theorem rroles_own (n:Net) (lao:Option Addr) (m lcap:Nat) (es:Nat→Lk) (i:Nat) (s:V) (rp:Int) (os:List Of) (oao:Option Addr) (ocap:Nat) (w:World) (hat:n.at' w) (hL:n.L≤40) (R:Pl.RightL n.K n.L n.ls) (hm:m≤400) (hlk:LRow w lao m lcap es) (hol:os.length≤1000) (ho:ORow w oao os.length ocap (Pl.lf os)) (hne:∀k,k<m→(es k).a≠(es k).b) :
  Calls Tryz.prog 70 #[n.val,.slice lao m lcap,.int .i64 i,.agg #[.int .u64 s.root,.int .i64 s.cost,.int .u64 s.bridge,.int .i64 s.port],.int .i64 rp,.slice oao os.length ocap] w fun e w'=>∃ao cap,e=.returned (.slice ao (Pl.ptsAll n.ls n.L i 30).length cap)∧IRow w' ao (Pl.ptsAll n.ls n.L i 30).length cap (IL ((Pl.ptsAll n.ls n.L i 30).map (rrole es m i (fun p=>Vc.role s rp p (Pl.lf os) os.length))))∧(∀ad,ao=some ad→w.heap.size≤ad.block)∧Bl w w'∧w'.ownsRow w.heap.size 3 1 (.slice ao (Pl.ptsAll n.ls n.L i 30).length cap) (Pl.ptsAll n.ls n.L i 30).length (intCells ((Pl.ptsAll n.ls n.L i 30).map (rrole es m i (fun p=>Vc.role s rp p (Pl.lf os) os.length)))):=by
 obtain⟨X,HX⟩:∃X,Hid (X=(w.alloc (.cells #[.slice n.bao n.K n.bcap,.slice n.lao n.L n.lcap] 25)).alloc (.cells #[.int .u64 s.root,.int .i64 s.cost,.int .u64 s.bridge,.int .i64 s.port] 58)):=⟨_,rfl⟩
 have hXB:Bl w X:=(by rw[HX.out];exact bA2 _ _ _)
 have hXn:X.heap[w.heap.size]?=some (.cells #[.slice n.bao n.K n.bcap,.slice n.lao n.L n.lcap] 25):=(by rw[HX.out];exact heap_alloc2_old w _ _)
 have hXv:X.heap[w.heap.size+1]?=some (.cells #[.int .u64 s.root,.int .i64 s.cost,.int .u64 s.bridge,.int .i64 s.port] 58):=(by rw[HX.out];exact heap_alloc2_new w _ _)
 have HFR:Hid (∀W,Bl X W→W.heap[w.heap.size+1]?=some (.cells #[.int .u64 s.root,.int .i64 s.cost,.int .u64 s.bridge,.int .i64 s.port] 58)∧LRow W lao m lcap es∧ORow W oao os.length ocap (Pl.lf os)∧Bl w W):=fun W hW=>by
  have h1:=hXB.trans (hW.mono hXB.size);exact⟨keep hXv hW,CRow.below hlk h1,CRow.below ho h1,h1⟩
 obtain⟨n0,n1⟩:=tC2 hXn;rw[HX.out] at n0 n1;have hfewP:(Pl.ptsAll n.ls n.L i 30).length≤1200:=by
  have h1:=ptsAll_few n.ls n.L i 30;have h3:30*n.L≤30*40:=Nat.mul_le_mul (Nat.le_refl _) hL;omega
 obtain⟨pts,HPT⟩:∃pts,Hid (pts=Pl.ptsAll n.ls n.L i 30):=⟨_,rfl⟩
 have HPO:Hid (Calls Tryz.prog 36 #[n.val,.int .i64 i] X fun e w'=>∃ao cap,e=.returned (.slice ao pts.length cap)∧IRow w' ao pts.length cap (IL pts)∧Bl X w'):=by
  refine(rports_any n i X (hat.below hXB) hL R).mono ?_;rintro e w' ⟨ao,cap,rfl,z1,_,_,z4⟩;rw[←HPT.out] at z1 ⊢;exact⟨ao,cap,rfl,z1,z4⟩
 rw[←HPT.out] at hfewP ⊢;obtain⟨f,HF⟩:∃f,Hid (f=rrole es m i (fun p=>Vc.role s rp p (Pl.lf os) os.length)):=⟨_,rfl⟩
 rw[←HF.out];have hcap:=hlk.1;have HNE:Hid (∀k,k<m→(es k).a≠(es k).b):=hne;have hXl:=hXB.size;clear hat R hlk ho hne hXn hXv hXB;simp only[Pl.Net.val] at *;go_enter Tryz.func70,Tryz.ntmps70;(go_wp2_with fail);rw[←HX.out];refine HPO.out.mono ?_;rintro e w1 ⟨pao,pcap,rfl,hP,hb1⟩;have HP:Hid (∀W,Bl w1 W→IRow W pao pts.length pcap (IL pts)∧Bl X W):=fun W hW=>⟨CRow.below hP hW,hb1.trans (hW.mono hb1.size)⟩
 have hpc:=hP.1;have H0:Hid (w1.ownsRow w1.heap.size 3 1 (.slice none (rlTo pts f 0).length 0) (rlTo pts f 0).length (intCells (rlTo pts f 0))∧Bl w1 w1):=⟨ownsC_nil _ _ _ _ _,Below.refl _ _⟩
 have hw1:=hb1.size;clear HPO hP hb1 n0 n1;(go_wp2_with fail);go_loopw [13,23] (fun s13 s23 wr=>∃(k:Nat) (ao:Option Addr) (cap:Nat),k≤pts.length∧s23=.int .i64 k∧s13=.slice ao (rlTo pts f k).length cap∧Hid (wr.ownsRow w1.heap.size 3 1 (.slice ao (rlTo pts f k).length cap) (rlTo pts f k).length (intCells (rlTo pts f k))∧Bl w1 wr)) (fun _ s23 _=>pts.length-(intOf s23).toNat)
 case atStart=>exact⟨0,none,0,by omega,rfl,rfl,H0⟩
 case round =>
  obtain⟨k,ao,cap,hk,rfl,rfl,hW⟩:=hrel;clear H0;by_cases hlt:k<pts.length
  ·obtain⟨f1,f2⟩:=HP.out wr hW.out.2;obtain⟨pb,poff,rfl,_⟩:=CRow.some f1 (by omega);have c0:=IRow.cells f1 hlt;have i0:(0:Int)≤(k:Int):=(by omega)
   have i1:(k:Int)<(pts.length:Int):=(by omega)
   obtain⟨p,HPP⟩:∃p,Hid (p=IL pts k):=⟨_,rfl⟩
   rw[←HPP.out] at c0;obtain⟨ρ,HRHO⟩:∃ρ,Hid (ρ=Vc.role s rp p (Pl.lf os) os.length):=⟨_,rfl⟩
   have HX2:Hid (Bl X wr):=f2;have HW:Hid (wr.ownsRow w1.heap.size 3 1 (.slice ao (rlTo pts f k).length cap) (rlTo pts f k).length (intCells (rlTo pts f k))∧Bl w1 wr):=hW;have HFP:Hid (f p=rkTo es i p ρ m):=(by rw[HF.out,HRHO.out];rfl)
   have HLE:Hid ((rlTo pts f k).length=k):=rlTo_len pts f k;have HRO:Hid (∀W,Bl wr W→Calls Tryz.prog 108 #[.agg #[.int .u64 s.root,.int .i64 s.cost,.int .u64 s.bridge,.int .i64 s.port],.int .i64 rp,.int .i64 p,.slice oao os.length ocap] W fun e w'=>e=.returned (.int .i64 ρ)∧Hid (Bl wr w')):=fun W hW2=>by
    refine(rrole_any s rp p oao os.length ocap (Pl.lf os) W (by omega) (HFR.out W (HX2.out.trans (hW2.mono HX2.out.size))).2.2.1).mono ?_;rintro e w' ⟨rfl,z⟩;exact⟨by rw[HRHO.out],hW2.trans (z.mono hW2.size)⟩
   have HB0:Hid (Bl wr wr):=Below.refl _ _;clear hW f1 f2;obtain⟨V,hV⟩:∃V,V=wr:=⟨_,rfl⟩
   subst hV;(go_wp2_with fail);go_loopw [16,29] (fun s16 s29 wi=>∃j:Nat,j≤m∧s29=.int .i64 j∧s16=.int .i64 (rkTo es i p ρ j)∧Hid (Bl V wi)) (fun _ s29 _=>m-(intOf s29).toNat)
   case atStart=>exact⟨0,by omega,rfl,rfl,HB0⟩
   case round =>
    obtain⟨j,hj,rfl,rfl,hY⟩:=hrel;clear HB0;by_cases hjm:j<m
    ·have hXw:Bl X wr:=HX2.out.trans (hY.out.mono HX2.out.size);obtain⟨g1,g2,_,_⟩:=HFR.out wr hXw;obtain⟨lb,loff,el,_⟩:=CRow.some g2 (by omega);rw[el] at g2 ⊢;obtain⟨d0,d1,d2,d3,d4,d5⟩:=LRow.cells g2 hjm;have o3:=HNE.out j hjm;have hend:Pl.isEnd (es j) (i:Int) p=(decide ((es j).a=(i:Int)∧(es j).pa=p)||decide ((es j).b=(i:Int)∧(es j).pb=p)):=rfl;obtain⟨Z,HZ⟩:∃Z,Hid (Z=wr.alloc (.cells (lkA (es j)) 83)):=⟨_,rfl⟩
     have hZB:Bl wr Z:=(by rw[HZ.out];exact bA1 _ _)
     have hZV:Bl V Z:=hY.out.trans (hZB.mono hY.out.size);obtain⟨v0,v1,v2,v3⟩:=vc_cells (keep g1 hZB);have HRO2:Hid (Calls Tryz.prog 108 #[.agg #[.int .u64 s.root,.int .i64 s.cost,.int .u64 s.bridge,.int .i64 s.port],.int .i64 rp,.int .i64 p,.slice oao os.length ocap] Z fun e w'=>e=.returned (.int .i64 ρ)∧Hid (Bl V w')):=HRO.out Z hZV;have HZV:Hid (Bl V Z):=hZV;have j0:(0:Int)≤(j:Int):=(by omega)
     have j1:(j:Int)<(m:Int):=(by omega)
     have HYS:Hid (Pl.isEnd (es j) (i:Int) p=true→rkTo es i p ρ (j+1)=ρ):=rkTo_yes;have HNS:Hid (Pl.isEnd (es j) (i:Int) p=false→rkTo es i p ρ (j+1)=rkTo es i p ρ j):=rkTo_no;clear hY hXw g1 g2 el hZB hZV HFR HNE HRO HFP HRHO HPP HF HPT;generalize Pl.isEnd (es j) (i:Int) p=D at *;generalize es j=l at *;obtain⟨la,pa,lb',pb',co,up⟩:=l;simp only at d0 d1 d2 d3 d4 d5 o3 hend;simp only[lkA] at *;rw[HZ.out] at v0 v1 v2 v3;by_cases ea:la=(i:Int)
     ·have fb:¬lb'=(i:Int):=(by omega)
      by_cases ep:pa=p
      ·have hD:D=true:=(by rw[hend,decide_eq_true ⟨ea,ep⟩,Bool.true_or])
       have HS1:Hid (rkTo es i p ρ (j+1)=ρ):=HYS.out hD;clear HYS HNS hend hD;subst ea;subst ep;(go_wp2_with fail);rw[←HZ.out];refine HRO2.out.mono ?_;rintro e w2 ⟨rfl,HB2⟩;clear HRO2 HZV v0 v1 v2 v3;(go_wp2_with fail);exact⟨⟨j+1,by omega,by go_num,by rw[HS1.out],HB2⟩,by simp[intOf];omega⟩
      ·have hD:D=false:=(by rw[hend,decide_eq_false (fun h=>ep h.2),decide_eq_false (fun h=>fb h.1)];rfl)
       have HS1:Hid (rkTo es i p ρ (j+1)=rkTo es i p ρ j):=HNS.out hD;have g1:(pa == p)=false:=(by simp[ep])
       have g2:(lb' == (i:Int))=false:=(by simp[fb])
       rw[HZ.out] at HZV;clear HYS HNS hend hD HRO2;subst ea;(go_wp2_with fail);exact⟨⟨j+1,by omega,by go_num,by rw[HS1.out],HZV⟩,by simp[intOf];omega⟩
     ·have g0:(la == (i:Int))=false:=(by simp[ea])
      by_cases eb:lb'=(i:Int)
      ·by_cases ep:pb'=p
       ·have hD:D=true:=(by rw[hend,decide_eq_true (⟨eb,ep⟩:lb'=(i:Int)∧pb'=p),Bool.or_true])
        have HS1:Hid (rkTo es i p ρ (j+1)=ρ):=HYS.out hD;clear HYS HNS hend hD;subst eb;subst ep;(go_wp2_with fail);rw[←HZ.out];refine HRO2.out.mono ?_;rintro e w2 ⟨rfl,HB2⟩;clear HRO2 HZV v0 v1 v2 v3;(go_wp2_with fail);exact⟨⟨j+1,by omega,by go_num,by rw[HS1.out],HB2⟩,by simp[intOf];omega⟩
       ·have hD:D=false:=(by rw[hend,decide_eq_false (fun h=>ea h.1),decide_eq_false (fun h=>ep h.2)];rfl)
        have HS1:Hid (rkTo es i p ρ (j+1)=rkTo es i p ρ j):=HNS.out hD;have g1:(pb' == p)=false:=(by simp[ep])
        rw[HZ.out] at HZV;clear HYS HNS hend hD HRO2;subst eb;(go_wp2_with fail);exact⟨⟨j+1,by omega,by go_num,by rw[HS1.out],HZV⟩,by simp[intOf];omega⟩
      ·have hD:D=false:=(by rw[hend,decide_eq_false (fun h=>ea h.1),decide_eq_false (fun h=>eb h.1)];rfl)
       have HS1:Hid (rkTo es i p ρ (j+1)=rkTo es i p ρ j):=HNS.out hD;have g1:(lb' == (i:Int))=false:=(by simp[eb])
       rw[HZ.out] at HZV;clear HYS HNS hend hD HRO2;(go_wp2_with fail);exact⟨⟨j+1,by omega,by go_num,by rw[HS1.out],HZV⟩,by simp[intOf];omega⟩
    ·obtain rfl:j=m:=by omega
     have hB:Bl w1 wr:=HW.out.2.trans (hY.out.mono HW.out.2.size);have hb0:w1.heap.size≤wr.heap.size:=hB.size;obtain⟨a1,c1',w2,r,ho2,hb2⟩:=int_more (ownsC_below HW.out.1 hY.out) hb0 (by have:=HLE.out;omega) (f p);have hnx:rlTo pts f (k+1)=rlTo pts f k++[f p]:=(by rw[HPP.out];rfl)
     have HN:Hid (w2.ownsRow w1.heap.size 3 1 (.slice a1 (rlTo pts f (k+1)).length c1') (rlTo pts f (k+1)).length (intCells (rlTo pts f (k+1)))∧Bl w1 w2):=by
      rw[hnx];exact⟨ho2,hB.trans hb2⟩
     have HLN:Hid ((rlTo pts f (k+1)).length=(rlTo pts f k++[f p]).length):=by show _=_;rw[hnx]
     have HRR:Hid _:=r;rw[HFP.out] at HRR;clear r ho2 hb2 hnx hB hY HRO HFP HRHO HPP HF HPT HFR HNE HX2 HW;go_wp2_with (at_builtin;refine wpList_append_run rfl (.tmp 61) (.tmp 63) 59 rfl _ _ _ rfl rfl HRR.out ?_)
     exact⟨⟨k+1,a1,c1',by omega,by go_num,by rw[HLN.out,List.length_append];rfl,HN⟩,by simp[intOf];omega⟩
  ·obtain rfl:k=pts.length:=by omega
   obtain⟨hO,hB⟩:=hW.out;obtain⟨ao',cap',ev,z1,z3⟩:=IL_row hO;injection ev with ev1 ev2 ev3;subst ev1;subst ev3;have hl:=rlTo_len pts f pts.length;rw[rlTo_all] at z1;have hw:=(HFR.out wr (HP.out wr hB).2).2.2.2;have el:(pts.map f).length=pts.length:=List.length_map _;rw[el] at z1;have hO2:=owns_mono hO (show w.heap.size≤w1.heap.size by omega);rw[hl,rlTo_all] at hO2;have HFN:Hid (IRow wr ao pts.length cap (IL (pts.map f))∧(∀ad,ao=some ad→w.heap.size≤ad.block)∧Bl w wr∧wr.ownsRow w.heap.size 3 1 (.slice ao pts.length cap) pts.length (intCells (pts.map f))):=⟨z1,fun ad e=>by have:=z3 ad e;omega,hw,hO2⟩
   have HLN:Hid ((rlTo pts f pts.length).length=pts.length):=hl;clear hW hO hO2 hB z1 z3 hw el hl ev2 HFR HP HNE HF HPT;(go_wp2_with fail);go_ret;exact⟨ao,cap,congrArg (fun n=>Ending.returned (Value.slice ao n cap)) HLN.out,HFN.out⟩
theorem infoLk:(Tryz.prog.info? 83).map (fun i=>(i.zero,i.size,i.bytes))=some (some (.agg #[.int .i64 0,.int .i64 0,.int .i64 0,.int .i64 0,.int .i64 0,.bool false]),6,48):=by kernel_rfl
end
section
namespace Pl
open Vc (V Of)
section
variable {K L:Nat}{ls:Nat→Lk}{ids:Nat→Int}{lv:Nat→Bool}
end
end Pl
end
section
open Go.RowKit
open Vc (V Of)
open Pl (Br Net Pc Lk En)
namespace Pl
def LN (l:List Nat) (j:Nat):Nat:=l.getD j 0
def Net.lvsTo (n:Net) (k:Nat):List Nat:=(List.range k).filter n.live
def Net.lvs (n:Net):List Nat:=n.lvsTo n.L
theorem Net.lvsTo_next (n:Net) (k:Nat):n.lvsTo (k+1)=n.lvsTo k++if n.live k=true then [k] else []:=by
 unfold Net.lvsTo;rw[List.range_succ,List.filter_append];congr 1
 cases h:n.live k<;>simp[h]
theorem Net.lvsTo_few (n:Net) (k:Nat):(n.lvsTo k).length≤k:=by
 have:=List.length_filter_le n.live (List.range k);rw[List.length_range] at this;exact this
theorem LN_get {l:List Nat}{j:Nat}(h:j<l.length):LN l j=l[j]:=by
 unfold LN;rw[List.getD_eq_getElem?_getD,List.getElem?_eq_getElem h];rfl
theorem Net.lvs_mem {n:Net}{j:Nat}(h:j<n.lvs.length):LN n.lvs j<n.L∧n.live (LN n.lvs j)=true:=by
 have hm:LN n.lvs j∈n.lvs:=(by rw[LN_get h];exact List.getElem_mem h)
 unfold Net.lvs Net.lvsTo at hm;obtain⟨h1,h2⟩:=List.mem_filter.1 hm;exact⟨List.mem_range.1 h1,h2⟩
theorem Net.lvs_all {n:Net}{k:Nat}(hk:k<n.L) (h:n.live k=true):∃j,j<n.lvs.length∧LN n.lvs j=k:=by
 have hm:k∈n.lvs:=List.mem_filter.2 ⟨List.mem_range.2 hk,h⟩;obtain⟨j,hj,e⟩:=List.getElem_of_mem hm;exact⟨j,hj,by rw[LN_get hj];exact e⟩
end Pl
open Pl (LN)
abbrev lkCells (ls:Nat→Lk) (l:List Nat):List Value:=cellsL l.length 6 (fun j=>lkC (ls (LN l j)))
theorem ln_snoc (ls:Nat→Lk) (l:List Nat) (k:Nat):cellsL (l.length+1) 6 (catC l.length (fun j=>lkC (ls (LN l j))) (fun _=>lkC (ls k)))=lkCells ls (l++[k]):=by
 unfold lkCells;rw[List.length_append];apply cellsL_congr
 intro i hi;simp only[catC];by_cases q:i<l.length
 ·rw[if_pos q];simp[LN,List.getD,List.getElem?_append_left q]
 ·rw[if_neg q];obtain rfl:i=l.length:=by omega
  simp[LN,List.getD]
theorem one_lk_row {w:World}{g:Nat}{l:Lk}{ty:TypeId}(h:w.heap[g]?=some (.cells (lkA l) ty (0,0))):LRow w (some ⟨g,0,none⟩) 1 1 (fun _=>l):=by
 refine⟨Nat.le_refl _,fun _=>⟨g,0,rfl,(gSm.1 h).1,fun i hi j hj => ?_⟩⟩;obtain rfl:i=0:=by omega
 rcases(by omega:j=0∨j=1∨j=2∨j=3∨j=4∨j=5) with e | e | e | e | e | e<;>subst e<;>exact cell_of_row w g _ _ _ _ h
end
section
open Vc (V Of)
open Pl (Br Net Lk En LN lf lf_mem lf_of_mem ends ends_mem endsTo_mem endsAt_mem ends_one Lives RightL)
open Tk (Md Mnd heardOf heard chM chM_real)
theorem lives_of (n:Net):Lives n.ls n.live n.L n.lvs.length (LN n.lvs):=⟨fun _ hj=>Pl.Net.lvs_mem hj,fun _ hk h=>Pl.Net.lvs_all hk h⟩
section
variable {ls:Nat→Lk}{lv:Nat→Bool}{K L m:Nat}{on:Nat→Nat}
theorem roffs_mem (V:Lives ls lv L m on) (i:Nat) (x:Nat→Md) (o:Of):o∈roffs (fun j=>ls (on j)) i x m↔o∈heard (ends ls lv L i) x:=by
 constructor
 ·intro h;obtain⟨e,he,rfl⟩:=List.mem_map.1 h;obtain⟨j,hj,hh⟩:=endsTo_mem.1 he;obtain⟨h1,h2⟩:=V.mem j hj;rcases endsAt_mem.1 hh with⟨q,rfl⟩ | ⟨q,rfl⟩
  ·have hm:(⟨(ls (on j)).pa,(ls (on j)).cost,(ls (on j)).b,(ls (on j)).pb,lv (on j)⟩:En)∈ends ls lv L i:=ends_mem.2 ⟨on j,h1,Or.inl ⟨q,rfl⟩⟩;rw[h2] at hm;exact Tk.mem_heard (x:=x) hm rfl
  ·have hm:(⟨(ls (on j)).pb,(ls (on j)).cost,(ls (on j)).a,(ls (on j)).pa,lv (on j)⟩:En)∈ends ls lv L i:=ends_mem.2 ⟨on j,h1,Or.inr ⟨q,rfl⟩⟩;rw[h2] at hm;exact Tk.mem_heard (x:=x) hm rfl
 ·intro h;obtain⟨e,he,hl,rfl⟩:=Tk.heard_mem h;obtain⟨k,hk,hh⟩:=ends_mem.1 he;have hlk:lv k=true:=by rcases hh with⟨_,rfl⟩ | ⟨_,rfl⟩<;>exact hl
  obtain⟨j,hj,ej⟩:=V.all k hk hlk;rcases hh with⟨q,rfl⟩ | ⟨q,rfl⟩
  ·exact List.mem_map.2 ⟨⟨(ls k).pa,(ls k).cost,(ls k).b,(ls k).pb,true⟩,endsTo_mem.2 ⟨j,hj,endsAt_mem.2 (Or.inl ⟨by rw[ej];exact q,by rw[ej]⟩)⟩,rfl⟩
  ·exact List.mem_map.2 ⟨⟨(ls k).pb,(ls k).cost,(ls k).a,(ls k).pa,true⟩,endsTo_mem.2 ⟨j,hj,endsAt_mem.2 (Or.inr ⟨by rw[ej];exact q,by rw[ej]⟩)⟩,rfl⟩
theorem chM_mem {id:Int}{l l':List Of}(h:∀o,o∈l↔o∈l') (one:∀o o',o∈l'→o'∈l'→o.port=o'.port→o=o'):chM id l=chM id l':=by
 rcases chM_real id l with⟨h1,h2⟩ | ⟨o,h1,h2,h3,h4⟩
 ·rcases chM_real id l' with⟨g1,g2⟩ | ⟨q,g1,g2,g3,g4⟩
  ·rw[h1,g1]
  ·exact absurd g2 (h2 q ((h q).2 g1))
 ·rcases chM_real id l' with⟨g1,g2⟩ | ⟨q,g1,g2,g3,g4⟩
  ·exact absurd h2 (g2 o ((h o).1 h1))
  ·have hp:=(Vc.not_ahead (h4 q ((h q).2 g1) g2) (g4 o ((h o).1 h1) h2)).2;have:=one q o g1 ((h o).1 h1) hp;rw[h3,g3,this]
theorem role_mem {l l':List Of}(h:∀o,o∈l↔o∈l') (s:V) (rp p:Int):Vc.role s rp p (lf l) l.length=Vc.role s rp p (lf l') l'.length:=by
 unfold Vc.role;have key:(Vc.someTo (fun j=>decide (Vc.hears s p (lf l j))) l.length=true)↔(Vc.someTo (fun j=>decide (Vc.hears s p (lf l' j))) l'.length=true):=by
  rw[Pl.someTo_iff,Pl.someTo_iff];constructor
  ·rintro⟨j,hj,h1⟩;obtain⟨q,hq,eq⟩:=lf_of_mem ((h _).1 (lf_mem hj));exact⟨q,hq,by rw[eq];exact h1⟩
  ·rintro⟨j,hj,h1⟩;obtain⟨q,hq,eq⟩:=lf_of_mem ((h _).2 (lf_mem hj));exact⟨q,hq,by rw[eq];exact h1⟩
 by_cases c:p=rp
 ·rw[if_pos c,if_pos c]
 ·rw[if_neg c,if_neg c];by_cases d:Vc.someTo (fun j=>decide (Vc.hears s p (lf l j))) l.length=true
  ·rw[if_pos d,if_pos (key.1 d)]
  ·rw[if_neg d,if_neg (fun q=>d (key.2 q))]
theorem live_mem (R:RightL K L ls) (V:Lives ls lv L m on) {i:Nat}{e:En}(he:e∈ends ls lv L i):Vc.someTo (fun j=>Pl.isEnd (ls (on j)) (i:Int) e.port) m=true↔e.live=true:=by
 rw[Pl.someTo_iff];obtain⟨k,hk,hh⟩:=ends_mem.1 he;constructor
 ·rintro⟨j,hj,h⟩;obtain⟨h1,h2⟩:=V.mem j hj;unfold Pl.isEnd at h;simp only[Bool.or_eq_true,decide_eq_true_eq] at h;rcases h with⟨a1,a2⟩ | ⟨a1,a2⟩
  ·have hm:(⟨(ls (on j)).pa,(ls (on j)).cost,(ls (on j)).b,(ls (on j)).pb,lv (on j)⟩:En)∈ends ls lv L i:=ends_mem.2 ⟨on j,h1,Or.inl ⟨a1,rfl⟩⟩;have:=ends_one R lv hm he a2;rw[←this];exact h2
  ·have hm:(⟨(ls (on j)).pb,(ls (on j)).cost,(ls (on j)).a,(ls (on j)).pa,lv (on j)⟩:En)∈ends ls lv L i:=ends_mem.2 ⟨on j,h1,Or.inr ⟨a1,rfl⟩⟩;have:=ends_one R lv hm he a2;rw[←this];exact h2
 ·intro hl;have hlk:lv k=true:=by rcases hh with⟨_,rfl⟩ | ⟨_,rfl⟩<;>exact hl
  obtain⟨j,hj,ej⟩:=V.all k hk hlk;refine⟨j,hj,?_⟩;rw[ej];unfold Pl.isEnd;rcases hh with⟨q,rfl⟩ | ⟨q,rfl⟩<;>simp[q]
end
def rtickMd (n:Net) (id:Int) (x:Nat→Mnd) (i:Nat):Md:=chM id (roffs (fun j=>n.ls (LN n.lvs j)) i (fun j=>(x j).md) n.lvs.length)
def rtickRl (n:Net) (m:Md) (x:Nat→Mnd) (i:Nat):List Int:=(Pl.ptsAll n.ls n.L i 30).map (rrole (fun j=>n.ls (LN n.lvs j)) n.lvs.length i (fun p=>Vc.role m.v m.rp p (lf (roffs (fun j=>n.ls (LN n.lvs j)) i (fun j=>(x j).md) n.lvs.length)) (roffs (fun j=>n.ls (LN n.lvs j)) i (fun j=>(x j).md) n.lvs.length).length))
def rcalm (rs cs:List Int):Nat→List Int
 | 0=>[]
 | k+1=>rcalm rs cs k++[Tk.calmOf (rs.getD k 0) (cs.getD k 0)]
theorem rcalm_len (rs cs:List Int):∀k,(rcalm rs cs k).length=k
 | 0=>rfl
 | k+1=>by simp[rcalm,rcalm_len rs cs k]
theorem rcalm_get (rs cs:List Int):∀k j,j<k→(rcalm rs cs k).getD j 0=Tk.calmOf (rs.getD j 0) (cs.getD j 0)
 | 0,j,h=>by omega
 | k+1,j,h=>by
  simp only[rcalm];rw[List.getD_eq_getElem?_getD];by_cases e:j=k
  ·subst e;rw[List.getElem?_append_right (by rw[rcalm_len];exact Nat.le_refl _),rcalm_len];simp
  ·rw[List.getElem?_append_left (by rw[rcalm_len];omega),←List.getD_eq_getElem?_getD];exact rcalm_get rs cs k j (by omega)
theorem rcalm_all (rs cs:List Int) (h:rs.length=cs.length):rcalm rs cs rs.length=List.zipWith Tk.calmOf rs cs:=by
 apply List.ext_getElem
 ·rw[rcalm_len];simp[h]
 ·intro j h1 h2;rw[rcalm_len] at h1;have a:=rcalm_get rs cs rs.length j h1;have b:=Tk.getD_zip rs cs h j h1;rw[←b] at a;rw[List.getD_eq_getElem?_getD,List.getD_eq_getElem?_getD,List.getElem?_eq_getElem (by rw[rcalm_len];exact h1),List.getElem?_eq_getElem h2] at a;exact a
theorem rtick_same {n:Net}(R:RightL n.K n.L n.ls) (ids:Nat→Int) (x:Nat→Mnd) (i:Nat) (hc:(x i).calm.length=(n.ends i).length) :
  (⟨rtickMd n (ids i) x i,rtickRl n (rtickMd n (ids i) x i) x i,rcalm (rtickRl n (rtickMd n (ids i) x i) x i) (x i).calm (rtickRl n (rtickMd n (ids i) x i) x i).length⟩:Mnd)=Tk.tickF ids n.ends x i:=by
 have V:=lives_of n;have hmem:=roffs_mem V i (fun j=>(x j).md);have e1:rtickMd n (ids i) x i=chM (ids i) (heard (n.ends i) (fun j=>(x j).md)):=by
  refine chM_mem hmem (fun o o' h1 h2 hp => ?_);obtain⟨a,a1,a2,rfl⟩:=Tk.heard_mem h1;obtain⟨b,b1,b2,rfl⟩:=Tk.heard_mem h2;rw[ends_one R n.live a1 b1 hp]
 have e2:rtickRl n (rtickMd n (ids i) x i) x i=(n.ends i).map (Tk.roleM (chM (ids i) (heard (n.ends i) (fun j=>(x j).md))) (heard (n.ends i) (fun j=>(x j).md))):=by
  unfold rtickRl;rw[Pl.ports_same R n.live i,List.map_map,e1];apply List.map_congr_left
  intro e he;have hl:=live_mem R V he;show rrole _ _ _ _ e.port=Tk.roleM _ _ e;unfold rrole Tk.roleM;by_cases q:e.live=true
  ·rw[if_pos (hl.2 q),if_pos q];exact role_mem hmem _ _ _
  ·rw[if_neg (fun z=>q (hl.1 z)),if_neg q]
 have e3:rcalm (rtickRl n (rtickMd n (ids i) x i) x i) (x i).calm (rtickRl n (rtickMd n (ids i) x i) x i).length=List.zipWith Tk.calmOf (rtickRl n (rtickMd n (ids i) x i) x i) (x i).calm:=rcalm_all _ _ (by rw[e2,List.length_map,hc]);rw[e3,e2,e1];rfl
end
section
open Go.RowKit
open Vc (V Of)
open Pl (En Lk Br Net)
open Tk (Md)
def MdFit (n:Net) (i:Nat) (m:Mi):Prop:=m.ports=n.pts i∧m.roles.length=(n.pts i).length∧m.calm.length=(n.pts i).length
def TrFit (n:Net) (l:List Mi):Prop:=l.length=n.K∧∀i,i<n.K→MdFit n i (mat l i)
theorem fit_of {n:Net}{t:List Tr}:fitT n t=true↔(1≤t.length∧t.length≤4)∧∀k,k<t.length→TrFit n (tat t k).l:=fit_iff
theorem fit_no {n:Net}{t:List Tr}(h:¬((1≤t.length∧t.length≤4)∧∀k,k<t.length→TrFit n (tat t k).l)):fitT n t=false:=by
 cases q:fitT n t with
 | false=>rfl
 | true=>exact absurd (fit_of.1 q) h
theorem rpts_any (n:Net) (i:Nat) (w:World) (hat:n.at' w) (hL:n.L≤40) (R:Pl.RightL n.K n.L n.ls) :
  Calls Tryz.prog 36 #[n.val,.int .i64 i] w fun e w'=>∃ao cap,e=.returned (.slice ao (n.pts i).length cap)∧ILs w' ao cap (n.pts i)∧NilOk ao (n.pts i).length cap∧(∀ad,ao=some ad→w.heap.size≤ad.block)∧Bl w w'∧w'.ownsRow w.heap.size 3 1 (.slice ao (n.pts i).length cap) (n.pts i).length (intCells (n.pts i)):=by
 have e:Pl.ptsAll n.ls n.L i 30=n.pts i:=Pl.ports_same R n.live i;have h:=rports_own n i w hat hL R;rw[e] at h;exact h
theorem rfits_any (n:Net) (oao:Option Addr) (ocap:Nat) (t:List Tr) (w:World) (hat:n.at' w) (hL:n.L≤40) (R:Pl.RightL n.K n.L n.ls) (htr:TrRow w oao ocap t) :
  Calls Tryz.prog 43 #[n.val,.agg #[.slice oao t.length ocap]] w fun e w'=>e=.returned (.bool (fitT n t))∧Bl w w':=by
 obtain⟨Z,HZ⟩:∃Z,Hid (Z=(w.alloc (.cells #[.slice n.bao n.K n.bcap,.slice n.lao n.L n.lcap] 25)).alloc (.cells #[.slice oao t.length ocap] 29)):=⟨_,rfl⟩
 have hZB:Bl w Z:=(by rw[HZ.out];exact bA2 _ _ _)
 have y7:Z.heap[w.heap.size]?=some (.cells #[.slice n.bao n.K n.bcap,.slice n.lao n.L n.lcap] 25):=(by rw[HZ.out];exact heap_alloc2_old _ _ _)
 have y8:Z.heap[w.heap.size+1]?=some (.cells #[.slice oao t.length ocap] 29):=(by rw[HZ.out];exact heap_alloc2_new _ _ _)
 obtain⟨BN,HBN⟩:∃BN,Hid (BN=w.heap.size):=⟨_,rfl⟩
 have HG:Hid (∀V,Bl Z V→((V.cell? ⟨w.heap.size,0,none⟩=some (.slice n.bao n.K n.bcap)∧V.cell? ⟨w.heap.size,1,none⟩=some (.slice n.lao n.L n.lcap))∧V.cell? ⟨w.heap.size+1,0,none⟩=some (.slice oao t.length ocap))∧TrRow V oao ocap t∧Bl w V):=fun V hV=>by
  have h:=hZB.trans (hV.mono hZB.size);exact⟨⟨tC2 (keep y7 hV),one_cell (keep y8 hV)⟩,htr.below h,h⟩
 have HP:Hid (∀W,Bl Z W→∀i:Nat,Calls Tryz.prog 36 #[.agg #[.slice n.bao n.K n.bcap,.slice n.lao n.L n.lcap],.int .i64 i] W fun e w'=>∃ao cap,e=.returned (.slice ao (n.pts i).length cap)∧Hid (ILs w' ao cap (n.pts i)∧Bl W w')):=fun W hW i=>by
  have h:=hZB.trans (hW.mono hZB.size);refine(rpts_any n i W (hat.below h) hL R).mono ?_;rintro e w' ⟨ao,cap,e1,h1,_,_,h2,_⟩;exact⟨ao,cap,e1,h1,h2⟩
 have HNO:Hid (¬((1≤t.length∧t.length≤4)∧∀k,k<t.length→TrFit n (tat t k).l)→fitT n t=false):=fit_no;have HYES:Hid (((1≤t.length∧t.length≤4)∧∀k,k<t.length→TrFit n (tat t k).l)→fitT n t=true):=fit_of.2;have hcp:t.length≤ocap:=htr.row.1;have hmany:=htr.many;have HSZ:Hid (Z.heap.size=w.heap.size+1+1):=by
  have h:Z.heap.size=w.heap.size+1+1:=(by rw[HZ.out];simp)
  exact h
 obtain⟨⟨⟨c0,c1⟩,c2⟩,_⟩:=HG.out Z (Below.refl _ _);rw[HZ.out] at c0 c1 c2;have HZB:Hid (Bl w Z):=hZB;clear hat hL R htr hZB y7 y8;simp only[Pl.Net.val];by_cases q0:(t.length:Int)<1
 ·have HF:Hid (fitT n t=false):=HNO.out (fun h=>by have:=h.1.1;omega);go_enter Tryz.func43,Tryz.ntmps43;(go_wp2_with fail);go_ret;exact⟨by rw[HF.out];rfl,by rw[←HZ.out];exact HZB.out⟩
 ·by_cases q1:(t.length:Int) > 4
  ·have HF:Hid (fitT n t=false):=HNO.out (fun h=>by have:=h.1.2;omega);go_enter Tryz.func43,Tryz.ntmps43;(go_wp2_with fail);go_ret;exact⟨by rw[HF.out];rfl,by rw[←HZ.out];exact HZB.out⟩
  ·go_enter Tryz.func43,Tryz.ntmps43;(go_wp2_with fail);rw[←HZ.out];clear c0 c1 c2;go_loopw [24] (fun i wr=>∃k:Nat,k≤t.length∧i=.int .i64 k∧Hid (∀j,j<k→TrFit n (tat t j).l)∧Hid (Bl Z wr)) (fun i _=>t.length-(intOf i).toNat)
   case atStart=>exact⟨0,by omega,rfl,(fun j hj=>absurd hj (by omega)),Below.refl _ _⟩
   case round =>
    obtain⟨k,hk,rfl,hS,hB⟩:=hrel;by_cases hlt:k<t.length
    ·obtain⟨⟨⟨c0,c1⟩,c2⟩,r1,_⟩:=HG.out wr hB.out;obtain⟨b1,o1,hao,lb1⟩:=r1.place (by omega);subst hao;have x1:=r1.cell hlt;have HM:Hid (∀V,Bl Z V→MiRow V (tat t k).ao (tat t k).cap (tat t k).l):=fun V hV=>(HG.out V hV).2.1.each k hlt;have hm1:(tat t k).l.length≤(tat t k).cap:=(r1.each k hlt).row.1;have hm2:=(r1.each k hlt).many;have ik:(0:Int)≤(k:Int):=(by omega)
     have nk:(k:Int)<(t.length:Int):=(by omega)
     have HKK:Hid (k+1≤t.length):=hlt;have HN2:Hid (¬TrFit n (tat t k).l→fitT n t=false):=fun h=>HNO.out (fun z=>h (z.2 k hlt));have HS2:Hid (TrFit n (tat t k).l→∀j,j<k+1→TrFit n (tat t j).l):=fun h j hj=>by
      by_cases e:j=k
      ·subst e;exact h
      ·exact hS.out j (by omega)
     clear r1 hS lb1;generalize tat t k=tk at *;obtain⟨ta,tc,tl⟩:=tk;simp only at *;by_cases q2:tl.length=n.K
     ·have e1:((tl.length:Int) != (n.K:Int))=false:=(by simp[q2])
      have HQ2:Hid (tl.length=n.K):=q2;clear q2;(go_wp2_with fail);clear x1 e1 c0 c1 c2;go_loopw [36] (fun i wq=>∃j:Nat,j≤tl.length∧i=.int .i64 j∧Hid (∀i,i<j→MdFit n i (mat tl i))∧Hid (Bl Z wq)) (fun i _=>tl.length-(intOf i).toNat)
      case atStart=>exact⟨0,by omega,rfl,(fun j hj=>absurd hj (by omega)),hB⟩
      case round =>
       clear hB;obtain⟨j,hj,rfl,hS3,hB⟩:=hrel;by_cases hlt2:j<tl.length
       ·have r2:=HM.out wr hB.out;obtain⟨⟨⟨c0,c1⟩,c2⟩,_⟩:=HG.out wr hB.out;obtain⟨d1,p1,rfl,ld1⟩:=r2.place (by omega);obtain⟨a0,a1,a2,a3,a4,a5,a6,a7,a8⟩:=r2.cells hlt2;have i1:=r2.each j hlt2;have ij:(0:Int)≤(j:Int):=(by omega)
        have nj:(j:Int)<(tl.length:Int):=(by omega)
        have HJJ:Hid (j+1≤tl.length):=hlt2;have HN3:Hid (¬MdFit n j (mat tl j)→fitT n t=false):=fun h=>HN2.out (fun z=>h (z.2 j (by rw[←HQ2.out];exact hlt2)));have HS4:Hid (MdFit n j (mat tl j)→∀i,i<j+1→MdFit n i (mat tl i)):=fun h i hi=>by
         by_cases e:i=j
         ·subst e;exact h
         ·exact hS3.out i (by omega)
        generalize mat tl j=x at *;obtain⟨Y,HY⟩:∃Y,Hid (Y=wr.alloc (.cells #[.int .u64 x.md.v.root,.int .i64 x.md.v.cost,.int .u64 x.md.v.bridge,.int .i64 x.md.v.port,.int .i64 x.md.age,.int .i64 x.md.rp,.slice x.po x.ports.length x.pc,.slice x.ro x.roles.length x.rc,.slice x.co x.calm.length x.cc] 66)):=⟨_,rfl⟩
        have hYB:Bl wr Y:=(by rw[HY.out];exact bA1 _ _)
        have hYn:Y.heap[wr.heap.size]?=some (.cells #[.int .u64 x.md.v.root,.int .i64 x.md.v.cost,.int .u64 x.md.v.bridge,.int .i64 x.md.v.port,.int .i64 x.md.age,.int .i64 x.md.rp,.slice x.po x.ports.length x.pc,.slice x.ro x.roles.length x.rc,.slice x.co x.calm.length x.cc] 66):=(by rw[HY.out];exact heap_alloc_last _ _)
        have hYZ:Bl Z Y:=hB.out.trans (hYB.mono hB.out.size);have HC:Hid (Calls Tryz.prog 36 #[.agg #[.slice n.bao n.K n.bcap,.slice n.lao n.L n.lcap],.int .i64 j] Y fun e w'=>∃ao cap,e=.returned (.slice ao (n.pts j).length cap)∧(w'.cell? ⟨wr.heap.size,6,none⟩=some (.slice x.po x.ports.length x.pc)∧w'.cell? ⟨wr.heap.size,7,none⟩=some (.slice x.ro x.roles.length x.rc)∧w'.cell? ⟨wr.heap.size,8,none⟩=some (.slice x.co x.calm.length x.cc))∧Hid (Bl Z w'∧∀V,Bl w' V→ILs V ao cap (n.pts j)∧ILs V x.po x.pc x.ports∧V.cell? ⟨wr.heap.size,6,none⟩=some (.slice x.po x.ports.length x.pc)∧Bl Z V)):=by
         refine(HP.out Y hYZ j).mono ?_;rintro e w' ⟨ao,cap,e1,h⟩;have h2:=h.out.2;have hz:=hYZ.trans (h2.mono hYZ.size);refine⟨ao,cap,e1,⟨cell_of_row w' _ 6 _ _ _ (keep hYn h2),cell_of_row w' _ 7 _ _ _ (keep hYn h2),cell_of_row w' _ 8 _ _ _ (keep hYn h2)⟩,hz,fun V hV => ?_⟩;have hV2:=h2.trans (hV.mono h2.size);exact⟨h.out.1.below hV,i1.ports.below (hYB.trans (hV2.mono hYB.size)),cell_of_row V _ 6 _ _ _ (keep hYn hV2),hz.trans (hV.mono hz.size)⟩
        have lz:w.heap.size<wr.heap.size:=by have h1:=HSZ.out;have h2:=hB.out.size;omega
        have HPN:Hid (x.ports.length≤9223372036854775807):=i1.pn;clear i1 r2 hS3 HP HG HM hB hYB hYn hYZ;(go_wp2_with fail);rw[←HY.out];refine HC.out.mono ?_;rintro e w2 ⟨ao,cap,rfl,⟨f6,f7,f8⟩,H2⟩;clear HC a0 a1 a2 a3 a4 a5 a6 a7 a8 c0 c1 c2;by_cases z1:x.ports.length=(n.pts j).length
        ·have e1:((x.ports.length:Int) != ((n.pts j).length:Int))=false:=(by simp[z1])
         by_cases z2:x.roles.length=(n.pts j).length
         ·have e2:((x.roles.length:Int) != ((n.pts j).length:Int))=false:=(by simp[z2])
          by_cases z3:x.calm.length=(n.pts j).length
          ·have e3:((x.calm.length:Int) != ((n.pts j).length:Int))=false:=(by simp[z3])
           have HZ1:Hid (x.ports.length=(n.pts j).length∧x.roles.length=(n.pts j).length∧x.calm.length=(n.pts j).length):=⟨z1,z2,z3⟩
           clear z1 z2 z3;(go_wp2_with fail);clear e1 e2 e3 f6 f7 f8;have HD2:Hid (Bl Z w2):=H2.out.1;go_loopw [68] (fun i wq=>∃m:Nat,m≤(n.pts j).length∧i=.int .i64 m∧Hid (∀i,i<m→x.ports.getD i 0=(n.pts j).getD i 0)∧Hid (Bl w2 wq)) (fun i _=>(n.pts j).length-(intOf i).toNat)
           case atStart=>exact⟨0,by omega,rfl,(fun j hj=>absurd hj (by omega)),Below.refl _ _⟩
           case round =>
            obtain⟨m,hm,rfl,hS5,hB5⟩:=hrel;by_cases hlt3:m<(n.pts j).length
            ·obtain⟨s1,s2,f6,_⟩:=H2.out.2 wr hB5.out;obtain⟨b3,o3,rfl,_⟩:=s1.place (by omega);obtain⟨b4,o4,hpo,_⟩:=s2.place (by have:=HZ1.out.1;omega);have g1:=s1.cell hlt3;rw[hpo] at s2 f6;have g2:=s2.cell (i:=m) (by have:=HZ1.out.1;omega);have l1:(m:Int)<(x.ports.length:Int):=(by have:=HZ1.out.1;omega)
             have l2:(m:Int)<((n.pts j).length:Int):=(by omega)
             have l3:(0:Int)≤(m:Int):=(by omega)
             have cp1:x.ports.length≤x.pc:=s2.1;have cp2:(n.pts j).length≤cap:=s1.1;have bnd:((n.pts j).length:Int)≤9223372036854775807:=(by have:=HPN.out;have:=HZ1.out.1;omega)
             have HBN5:Hid (∀r,Bl w2 (wr.drewN r)):=fun r=>below_drewN hB5.out r;have HBZ5:Hid (∀r,Bl Z (wr.drewN r)):=fun r=>HD2.out.trans ((HBN5.out r).mono HD2.out.size);have HS6:Hid (x.ports.getD m 0=(n.pts j).getD m 0→∀i,i<m+1→x.ports.getD i 0=(n.pts j).getD i 0):=fun h i hi=>by
              by_cases e:i=m
              ·subst e;exact h
              ·exact hS5.out i (by omega)
             have HN4:Hid (x.ports.getD m 0≠(n.pts j).getD m 0→fitT n t=false):=fun h=>HN3.out (fun z=>h (by rw[z.1]));clear s1 s2 hS5 hpo;generalize x.ports.getD m 0=u1 at *;generalize (n.pts j).getD m 0=u2 at *;by_cases q5:u1=u2
             ·have e5:(u1 != u2)=false:=(by simp[q5])
              have HS7:Hid (∀i,i<m+1→x.ports.getD i 0=(n.pts j).getD i 0):=HS6.out q5;clear HS6 HN4 q5;(go_wp2_with fail);(go_quiet (fail));(go_wp2_with fail);exact⟨⟨m+1,by omega,by go_num,HS7,HBN5.out _⟩,by simp[intOf];omega⟩
             ·have e5:(u1 != u2)=true:=(by simp[q5])
              have HF:Hid (fitT n t=false):=HN4.out q5;clear HS6 HN4 q5;(go_wp2_with fail);(go_quiet (fail));(go_wp2_with fail);go_ret;exact⟨by rw[HF.out];rfl,HZB.out.trans ((HBZ5.out _).mono HZB.out.size)⟩
            ·obtain rfl:m=(n.pts j).length:=by omega
             have HS7:Hid (∀i,i<j+1→MdFit n i (mat tl i)):=HS4.out ⟨(list_eq_iff _ _).2 ⟨HZ1.out.1,fun i hi=>hS5.out i (by rw[←HZ1.out.1];exact hi)⟩,HZ1.out.2⟩;have HB6:Hid (Bl Z wr):=HD2.out.trans (hB5.out.mono HD2.out.size);clear hS5 hB5;(go_wp2_with fail);exact⟨⟨j+1,HJJ.out,by go_num,HS7,HB6⟩,by have:=HJJ.out;simp[intOf];omega⟩
          ·have e3:((x.calm.length:Int) != ((n.pts j).length:Int))=true:=bne_iff_ne.2 (by omega);have HF:Hid (fitT n t=false):=HN3.out (fun z=>z3 z.2.2);clear z1 z2 z3;(go_wp2_with fail);go_ret;exact⟨by rw[HF.out];rfl,HZB.out.trans (H2.out.1.mono HZB.out.size)⟩
         ·have e2:((x.roles.length:Int) != ((n.pts j).length:Int))=true:=bne_iff_ne.2 (by omega);have HF:Hid (fitT n t=false):=HN3.out (fun z=>z2 z.2.1);clear z1 z2;(go_wp2_with fail);go_ret;exact⟨by rw[HF.out];rfl,HZB.out.trans (H2.out.1.mono HZB.out.size)⟩
        ·have e1:((x.ports.length:Int) != ((n.pts j).length:Int))=true:=bne_iff_ne.2 (by omega);have HF:Hid (fitT n t=false):=HN3.out (fun z=>z1 (by rw[z.1]));clear z1;(go_wp2_with fail);go_ret;exact⟨by rw[HF.out];rfl,HZB.out.trans (H2.out.1.mono HZB.out.size)⟩
       ·obtain rfl:j=tl.length:=by omega
        have HS5:Hid (∀i,i<k+1→TrFit n (tat t i).l):=HS2.out ⟨HQ2.out,fun i hi=>hS3.out i (by rw[HQ2.out];exact hi)⟩;clear hS3;(go_wp2_with fail);exact⟨⟨k+1,HKK.out,by go_num,HS5,hB⟩,by have:=HKK.out;simp[intOf];omega⟩
     ·have e1:((tl.length:Int) != (n.K:Int))=true:=bne_iff_ne.2 (by omega);have HF:Hid (fitT n t=false):=HN2.out (fun z=>q2 z.1);clear q2;(go_wp2_with fail);go_ret;exact⟨by rw[HF.out];rfl,HZB.out.trans (hB.out.mono HZB.out.size)⟩
    ·obtain rfl:k=t.length:=by omega
     have HF:Hid (fitT n t=true):=HYES.out ⟨⟨by omega,by omega⟩,hS.out⟩;clear hS;(go_wp2_with fail);go_ret;exact⟨by rw[HF.out];rfl,HZB.out.trans (hB.out.mono HZB.out.size)⟩
end
end Go.Proofs.YtaneiffnhphkhaaGreatDoor
