/- Plain: the lists of ints that a scene has, by their places; a mind's cells -/
import Derived.Test.YtaneiffnhphkhaaGreatDoorD08
import Derived.Test.YtaneiffnhphkhaaGreatDoorD09
import Derived.Test.YtaneiffnhphkhaaGreatDoorD05
import Derived.Test.YtaneiffnhphkhaaGreatDoorD01
import Derived.Deep.RegionHeld3
set_option maxRecDepth 100000
set_option maxHeartbeats 40000000
namespace Go.Proofs.YtaneiffnhphkhaaGreatDoor
section
open Go.RowKit
open Vc (V Of)
theorem vrole_any (s:V) (root port:Int) (ao:Option Addr) (n cap:Nat) (os:Nat→Of) (w:World) (hn:n≤9223372036854775807) (hr:ORow w ao n cap os) :
  Calls Tryz.prog 79 #[.agg #[.int .u64 s.root,.int .i64 s.cost,.int .u64 s.bridge,.int .i64 s.port],.int .i64 root,.int .i64 port,.slice ao n cap] w fun e w'=>e=.returned (.int .i64 (Vc.role s root port os n))∧Bl w w':=by
 have HR:Hid (ORow w ao n cap os):=hr;clear hr;unfold Vc.role;by_cases h0:port=root
 ·rw[if_pos h0];subst h0;go_enter Tryz.func79,Tryz.ntmps79;(go_wp2_with fail);go_ret;exact⟨rfl,bA1 _ _⟩
 ·rw[if_neg h0];obtain⟨R,hR⟩:∃R:Int,(if Vc.someTo (fun i=>decide (Vc.hears s port (os i))) n=true then(3:Int) else 2)=R:=⟨_,rfl⟩
  rw[hR];have HR3:Hid (Vc.someTo (fun i=>decide (Vc.hears s port (os i))) n=true→R=3):=fun h=>by rw[←hR,if_pos h]
  have HR2:Hid (Vc.someTo (fun i=>decide (Vc.hears s port (os i))) n=false→R=2):=fun h=>by rw[←hR,h];rfl
  clear hR;have d0:(port == root)=false:=(by simp[h0])
  have HBT:Hid (∀(a b:V) (W:World),Calls Tryz.prog 112 #[.agg #[.int .u64 a.root,.int .i64 a.cost,.int .u64 a.bridge,.int .i64 a.port],.agg #[.int .u64 b.root,.int .i64 b.cost,.int .u64 b.bridge,.int .i64 b.port]] W fun e w'=>e=.returned (.bool (decide (Vc.lt a b)))∧Bl W w'):=fun a b W=>vbetter_any a b W;have HH:Hid (∀o,decide (Vc.hears s port o)=decide (o.port=port∧(0≤o.age∧o.age≤20)∧Vc.lt o.vec ⟨s.root,s.cost,s.bridge,port⟩)):=fun o=>rfl;go_enter Tryz.func79,Tryz.ntmps79;(go_wp2_with fail);go_loopw [18] (fun i wr=>∃k:Nat,k≤n∧i=.int .i64 k∧Hid (Vc.someTo (fun i=>decide (Vc.hears s port (os i))) k=false)∧Hid (wr.heap[w.heap.size]?=some (.cells #[.int .u64 s.root,.int .i64 s.cost,.int .u64 s.bridge,.int .i64 port] 58)∧Bl w wr)) (fun i _=>n-(intOf i).toNat)
  case atStart=>exact⟨0,by omega,rfl,rfl,heap_alloc_last w _,bA1 _ _⟩
  case round =>
   obtain⟨k,hk,rfl,hS,hX⟩:=hrel;by_cases hlt:k<n
   ·obtain⟨b,off,rfl,hb⟩:=CRow.some HR.out (by omega);have hcap:=HR.out.1;obtain⟨c0,c1,c2,c3,c4,c5,c6⟩:=ORow.cells (CRow.other HR.out (w':=wr) (fun q _ _ hq=>hX.out.2.block q hq) hX.out.2.size) hlt;obtain⟨v0,v1,v2,v3⟩:=vc_cells hX.out.1;have HNO:Hid (decide (Vc.hears s port (os k))=false→Vc.someTo (fun i=>decide (Vc.hears s port (os i))) (k+1)=false):=fun h=>by
     show(Vc.someTo _ k||decide (Vc.hears s port (os k)))=false;rw[h,hS.out];rfl
    have HYES:Hid (decide (Vc.hears s port (os k))=true→Vc.someTo (fun i=>decide (Vc.hears s port (os i))) n=true):=fun h=>someTo_stay _ k h n hlt;rw[HH.out] at HNO HYES;have HX2:Hid (∀o,(wr.alloc o).heap[w.heap.size]?=some (.cells #[.int .u64 s.root,.int .i64 s.cost,.int .u64 s.bridge,.int .i64 port] 58)∧Bl w (wr.alloc o)):=fun o=>⟨keep hX.out.1 (bA1 _ _),hX.out.2.alloc hX.out.2.size _⟩
    have u0:∀o,(wr.alloc o).cell? ⟨w.heap.size,0,none⟩=some (.int .u64 s.root):=fun o=>(vc_cells (HX2.out o).1).1;have u1:∀o,(wr.alloc o).cell? ⟨w.heap.size,1,none⟩=some (.int .i64 s.cost):=fun o=>(vc_cells (HX2.out o).1).2.1;have u2:∀o,(wr.alloc o).cell? ⟨w.heap.size,2,none⟩=some (.int .u64 s.bridge):=fun o=>(vc_cells (HX2.out o).1).2.2.1;have u3:∀o,(wr.alloc o).cell? ⟨w.heap.size,3,none⟩=some (.int .i64 port):=fun o=>(vc_cells (HX2.out o).1).2.2.2;clear hX hS hb HH HR;generalize os k=o at *;obtain⟨op,oc,oa,⟨vr,vc,vb,vp⟩⟩:=o;simp only at c0 c1 c2 c3 c4 c5 c6 HNO HYES;have HWI:Hid (∀W,Calls Tryz.prog 30 #[.int .i64 oa,.int .i64 0,.int .i64 20] W fun e w'=>e=.returned (.bool (decide (0≤oa∧oa≤20)))∧w'=W):=fun W=>vwithin_any oa 0 20 W;by_cases p1:op=port
    ·have e1:(op == port)=true:=(by simp[p1])
     by_cases p2:0≤oa∧oa≤20
     ·rw[decide_eq_true p2] at HWI;have HB1:Hid (∀W,Calls Tryz.prog 112 #[.agg #[.int .u64 vr,.int .i64 vc,.int .u64 vb,.int .i64 vp],.agg #[.int .u64 s.root,.int .i64 s.cost,.int .u64 s.bridge,.int .i64 port]] W fun e w'=>e=.returned (.bool (decide (Vc.lt ⟨vr,vc,vb,vp⟩ ⟨s.root,s.cost,s.bridge,port⟩)))∧Bl W w'):=fun W=>HBT.out ⟨vr,vc,vb,vp⟩ ⟨s.root,s.cost,s.bridge,port⟩ W;by_cases p4:Vc.lt ⟨vr,vc,vb,vp⟩ ⟨s.root,s.cost,s.bridge,port⟩
      ·have HF:Hid (Vc.someTo (fun i=>decide (Vc.hears s port (os i))) n=true):=HYES.out (decide_eq_true ⟨p1,p2,p4⟩);rw[decide_eq_true p4] at HB1;clear p4 HNO HYES p1 p2;(go_wp2_with fail);refine(HWI.out _).mono ?_;rintro e w2 ⟨rfl,rfl⟩;(go_wp2_with fail);refine(HB1.out _).mono ?_;rintro e w2 ⟨rfl,hb2⟩;have HB2:Hid (Bl w w2):=(HX2.out _).2.trans (hb2.mono (HX2.out _).2.size);clear hb2;(go_wp2_with fail);go_ret;exact⟨by rw[HR3.out HF.out];rfl,HB2.out⟩
      ·have HF:Hid (Vc.someTo (fun i=>decide (Vc.hears s port (os i))) (k+1)=false):=HNO.out (decide_eq_false (fun q=>p4 q.2.2));rw[decide_eq_false p4] at HB1;clear p4 HNO HYES p1 p2;(go_wp2_with fail);refine(HWI.out _).mono ?_;rintro e w2 ⟨rfl,rfl⟩;(go_wp2_with fail);refine(HB1.out _).mono ?_;rintro e w2 ⟨rfl,hb2⟩;have HB2:Hid (w2.heap[w.heap.size]?=some (.cells #[.int .u64 s.root,.int .i64 s.cost,.int .u64 s.bridge,.int .i64 port] 58)∧Bl w w2):=⟨keep (HX2.out _).1 hb2,(HX2.out _).2.trans (hb2.mono (HX2.out _).2.size)⟩
       clear hb2;(go_wp2_with fail);exact⟨⟨k+1,by omega,by go_num,HF,HB2⟩,by simp[intOf];omega⟩
     ·have HF:Hid (Vc.someTo (fun i=>decide (Vc.hears s port (os i))) (k+1)=false):=HNO.out (decide_eq_false (fun q=>p2 q.2.1));rw[decide_eq_false p2] at HWI;clear HNO HYES p1 p2;(go_wp2_with fail);refine(HWI.out _).mono ?_;rintro e w2 ⟨rfl,rfl⟩;(go_wp2_with fail);exact⟨⟨k+1,by omega,by go_num,HF,HX2.out _⟩,by simp[intOf];omega⟩
    ·have e1:(op == port)=false:=(by simp[p1])
     have HF:Hid (Vc.someTo (fun i=>decide (Vc.hears s port (os i))) (k+1)=false):=HNO.out (decide_eq_false (fun q=>p1 q.1));clear HNO HYES p1;(go_wp2_with fail);exact⟨⟨k+1,by omega,by go_num,HF,HX2.out _⟩,by simp[intOf];omega⟩
   ·obtain rfl:k=n:=by omega
    (go_wp2_with fail);go_ret;exact⟨by rw[HR2.out hS.out];rfl,hX.out.2⟩
end
section
open Go.RowKit
open Vc (V Of)
open Pl (Br Net Pc Lk En)
def enA (e:En):Array Value:=#[.int .i64 e.port,.int .i64 e.cost,.int .i64 e.other,.int .i64 e.oport,.bool e.live]
def rlF (m:Tk.Md) (os:List Of) (es:List En) (k j:Nat):Int:=if j<k then Tk.roleM m os (EL es j) else 0
def RlAt (W:World) (g n:Nat) (f:Nat→Int):Prop:=W.heap[g]?=some (.cells (rowC n 1 (fun j _=>.int .i64 (f j))) 3)
theorem RlAt.set {W:World}{g n:Nat}{f:Nat→Int}(h:RlAt W g n f) {i:Nat}(hi:i<n) (z:Int):RlAt (W.setCell ⟨g,i,none⟩ (.int .i64 z)) g n (fun j=>if j=i then z else f j):=by
 have h0:=rowC_set h hi (show 0<1 by omega) (.int .i64 z);rw[show i*1+0=i by omega] at h0;unfold RlAt;rw[h0,rC2 (d:=fun j _=>.int .i64 (if j=i then z else f j)) (fun j _ m hm => ?_)];unfold updC;by_cases q:j=i
 ·subst q;simp;omega
 ·simp[q]
theorem RlAt.congr {W:World}{g n:Nat}{f h:Nat→Int}(hr:RlAt W g n f) (e:∀i,i<n→f i=h i):RlAt W g n h:=by
 unfold RlAt at hr ⊢;rw[hr,rowC_congr (d:=fun j _=>.int .i64 (h j)) (fun i hi=>by rw[e i hi])]
theorem RlAt.cell {W:World}{g n:Nat}{f:Nat→Int}(h:RlAt W g n f) {i:Nat}(hi:i<n):W.cell? ⟨g,i,none⟩=some (.int .i64 (f i))∧W.frozen? ⟨g,i,none⟩=false:=by
 have e:(⟨g,i,none⟩:Addr)=⟨g,i*1+0,none⟩:=(by simp)
 refine⟨?_,frozen_of_row _ _ _ _ _ h⟩;rw[e];exact rowC_cell h hi (show 0<1 by omega)
theorem proles_any (m:Tk.Md) (es:List En) (eao:Option Addr) (ecap:Nat) (os:List Of) (oao:Option Addr) (ocap:Nat) (w:World) (hlen:es.length≤1000) (hol:os.length≤1000) (hr:ERow w eao es.length ecap (EL es)) (ho:ORow w oao os.length ocap (Pl.lf os)) :
  Calls Tryz.prog 50 #[.slice eao es.length ecap,.agg #[.int .u64 m.v.root,.int .i64 m.v.cost,.int .u64 m.v.bridge,.int .i64 m.v.port],.int .i64 m.rp,.slice oao os.length ocap] w fun e w'=>∃G,e=.returned (.slice (some ⟨G,0,none⟩) es.length es.length)∧RlAt w' G es.length (fun j=>Tk.roleM m os (EL es j))∧Bl w w'∧w.heap.size≤G:=by
 obtain⟨X,HX⟩:∃X,Hid (X=w.alloc (.cells #[.int .u64 m.v.root,.int .i64 m.v.cost,.int .u64 m.v.bridge,.int .i64 m.v.port] 58)):=⟨_,rfl⟩
 have hXB:Bl w X:=(by rw[HX.out];exact bA1 _ _)
 have hXv:X.heap[w.heap.size]?=some (.cells #[.int .u64 m.v.root,.int .i64 m.v.cost,.int .u64 m.v.bridge,.int .i64 m.v.port] 58):=(by rw[HX.out];exact heap_alloc_last _ _)
 have hXs:X.heap.size=w.heap.size+1:=(by rw[HX.out];simp)
 have hcap:=hr.1;have hmk:∀W:World,(Instr.makeSlice 59 (.int .i64 (es.length:Int)) (.int .i64 (es.length:Int))).run Tryz.prog W=.ok (.slice (some ⟨W.heap.size,0,none⟩) es.length es.length) (W.alloc (.cells (rowC es.length 1 (fun j _=>.int .i64 (rlF m os es 0 j))) 3)):=fun W=>make_rowD W 59 3 _ 1 8 es.length Tryz.underlying59 infoI (by omega) rfl (by omega) (by omega) _ (fun _ j hj=>by rw[show j=0 by omega];rfl);have HRW:Hid (∀W,Bl X W→ERow W eao es.length ecap (EL es)∧ORow W oao os.length ocap (Pl.lf os)∧W.heap[w.heap.size]?=some (.cells #[.int .u64 m.v.root,.int .i64 m.v.cost,.int .u64 m.v.bridge,.int .i64 m.v.port] 58)∧Bl w W):=fun W hW=>by
  have h1:=hXB.trans (hW.mono hXB.size);exact⟨CRow.below hr h1,CRow.below ho h1,keep hXv hW,h1⟩
 obtain⟨G,HG⟩:∃G,Hid (G=X.heap.size):=⟨_,rfl⟩
 have H0:Hid (RlAt (X.alloc (.cells (rowC es.length 1 (fun j _=>.int .i64 (rlF m os es 0 j))) 3)) G es.length (rlF m os es 0)∧Bl X (X.alloc (.cells (rowC es.length 1 (fun j _=>.int .i64 (rlF m os es 0 j))) 3))):=by
  rw[HG.out];exact⟨heap_alloc_last _ _,bA1 _ _⟩
 have HXS:Hid (w.heap.size+1=G):=(by rw[HG.out];exact hXs.symm)
 have HGX:Hid (X.heap.size≤G):=(by rw[HG.out];exact Nat.le_refl _)
 clear hr ho hXv hXB hXs;go_enter Tryz.func50,Tryz.ntmps50;(go_wp2_with fail);rw[←HX.out];rw[HXS.out];obtain⟨S,HS⟩:∃S,Hid (S=w.heap.size):=⟨_,rfl⟩
 rw[←HS.out];go_loopw [17] (fun q wr=>∃k:Nat,k≤es.length∧q=.int .i64 k∧Hid (RlAt wr G es.length (rlF m os es k)∧Bl X wr)) (fun q _=>es.length-(intOf q).toNat)
 case atStart=>exact⟨0,by omega,rfl,H0⟩
 case round =>
  obtain⟨k,hk,rfl,hX⟩:=hrel;clear H0;by_cases hlt:k<es.length
  ·obtain⟨hR,hB⟩:=hX.out;obtain⟨f1,f2,f3,_⟩:=HRW.out wr hB;obtain⟨eb,eoff,rfl,_⟩:=CRow.some f1 (by omega);obtain⟨c0,c1,c2,c3,c4⟩:=ERow.cells f1 hlt;obtain⟨Y,HY⟩:∃Y,Hid (Y=wr.alloc (.cells (enA (EL es k)) 135)):=⟨_,rfl⟩
   have hYB:Bl wr Y:=(by rw[HY.out];exact bA1 _ _)
   have hYe:Y.heap[wr.heap.size]?=some (.cells (enA (EL es k)) 135):=(by rw[HY.out];exact heap_alloc_last _ _)
   have hRY:RlAt Y G es.length (rlF m os es k):=keep hR hYB;have hBY:Bl X Y:=hB.trans (hYB.mono hB.size);have hGl:G<wr.heap.size:=(gSm.1 hR).1;have hSG:S≠G:=(by rw[HS.out,←HXS.out];omega)
   obtain⟨g0,g1⟩:=hRY.cell hlt;have hk0:rlF m os es k k=0:=(by unfold rlF;rw[if_neg (Nat.lt_irrefl _)])
   rw[hk0] at g0;have hR0:RlAt (Y.setCell ⟨G,k,none⟩ (.int .i64 0)) G es.length (rlF m os es k):=(hRY.set hlt 0).congr (fun j _=>by
    by_cases q:j=k
    ·rw[if_pos q,q,hk0]
    ·rw[if_neg q])
   have hBW:Bl Y (Y.setCell ⟨G,k,none⟩ (.int .i64 0))∨True:=Or.inr trivial;have hB0:Bl X (Y.setCell ⟨G,k,none⟩ (.int .i64 0)):=hBY.setCell HGX.out _;obtain⟨Z,HZ⟩:∃Z,Hid (Z=Y.setCell ⟨G,k,none⟩ (.int .i64 0)):=⟨_,rfl⟩
   have hZe:Z.heap[wr.heap.size]?=some (.cells (enA (EL es k)) 135):=by
    rw[HZ.out];exact(heap_setCell_other _ _ _ _ (by show wr.heap.size≠G;omega)).trans hYe
   rw[←HZ.out] at hR0 hB0;have HNX:Hid (∀(W:World) (z:Int),Bl Z W→z=Tk.roleM m os (EL es k)→RlAt (W.setCell ⟨G,k,none⟩ (.int .i64 z)) G es.length (rlF m os es (k+1))∧Bl X (W.setCell ⟨G,k,none⟩ (.int .i64 z))):=fun W z hW hz=>by
    have h1:RlAt W G es.length (rlF m os es k):=keep hR0 hW;refine⟨(h1.set hlt z).congr (fun j _ => ?_),(hB0.trans (hW.mono hB0.size)).setCell HGX.out _⟩;unfold rlF;by_cases q:j=k
    ·rw[if_pos q,if_pos (by omega),q,hz]
    ·rw[if_neg q];by_cases q2:j<k
     ·rw[if_pos q2,if_pos (by omega)]
     ·rw[if_neg q2,if_neg (by omega)]
   have HNS:Hid (Tk.roleM m os (EL es k)=0→RlAt Z G es.length (rlF m os es (k+1))∧Bl X Z):=fun hz=>by
    refine⟨hR0.congr (fun j _ => ?_),hB0⟩;unfold rlF;by_cases q:j<k
    ·rw[if_pos q,if_pos (by omega)]
    ·rw[if_neg q];by_cases q2:j=k
     ·rw[if_pos (by omega),q2,hz]
     ·rw[if_neg (by omega)]
   have i0:(0:Int)≤(k:Int):=(by omega)
   have i1:(k:Int)<(es.length:Int):=(by omega)
   have hRV:Tk.roleM m os (EL es k)=if (EL es k).live=true then Vc.role m.v m.rp (EL es k).port (Pl.lf os) os.length else 0:=rfl
   have HRO:Hid (∀W,Bl X W→Calls Tryz.prog 79 #[.agg #[.int .u64 m.v.root,.int .i64 m.v.cost,.int .u64 m.v.bridge,.int .i64 m.v.port],.int .i64 m.rp,.int .i64 (EL es k).port,.slice oao os.length ocap] W fun e w'=>e=.returned (.int .i64 (Vc.role m.v m.rp (EL es k).port (Pl.lf os) os.length))∧Bl W w'):=fun W hW=>vrole_any m.v m.rp (EL es k).port oao os.length ocap (Pl.lf os) W (by omega) (HRW.out W hW).2.1;have HZV:Hid (∀W,Bl Z W→W.heap[S]?=some (.cells #[.int .u64 m.v.root,.int .i64 m.v.cost,.int .u64 m.v.bridge,.int .i64 m.v.port] 58)):=fun W hW=>by rw[HS.out];exact(HRW.out W (hB0.trans (hW.mono hB0.size))).2.2.1
   obtain⟨v0,v1,v2,v3⟩:=vc_cells (HZV.out Z (Below.refl _ _));obtain⟨y0,y1,y2,y3,y4⟩:=br_cells hZe;have HBZ:Hid (Bl X Z):=hB0;have HRC:Hid (∀W,Bl Z W→W.cell? ⟨G,k,none⟩=some (.int .i64 0)∧W.frozen? ⟨G,k,none⟩=false):=fun W hW=>by
    have h1:RlAt W G es.length (rlF m os es k):=keep hR0 hW;obtain⟨z0,z1⟩:=h1.cell hlt;rw[hk0] at z0;exact⟨z0,z1⟩
   clear hX hR hB f1 f2 f3 hYB hYe hRY hBY hGl hR0 hB0 hBW hZe hk0 HRW;generalize EL es k=e at *;obtain⟨port,cost,other,oport,live⟩:=e;simp only[enA] at *;rw[HY.out] at g0 g1;cases live with
   | false =>
    rw[if_neg (by decide)] at hRV;have HN:=HNS.out hRV;have HN2:Hid (RlAt Z G es.length (rlF m os es (k+1))∧Bl X Z):=HN;clear HN HNS HNX HRO HRC HZV;rw[HZ.out,HY.out] at y4;(go_wp2_with fail);rw[←HY.out,←HZ.out];exact⟨⟨k+1,by omega,by go_num,HN2⟩,by simp[intOf];omega⟩
   | true =>
    rw[if_pos rfl] at hRV;have HRO2:Hid (Calls Tryz.prog 79 #[.agg #[.int .u64 m.v.root,.int .i64 m.v.cost,.int .u64 m.v.bridge,.int .i64 m.v.port],.int .i64 m.rp,.int .i64 port,.slice oao os.length ocap] Z fun e w'=>e=.returned (.int .i64 (Vc.role m.v m.rp port (Pl.lf os) os.length))∧Hid (Bl Z w')):=HRO.out Z HBZ.out;have HRV:Hid (Vc.role m.v m.rp port (Pl.lf os) os.length=Tk.roleM m os ⟨port,cost,other,oport,true⟩):=hRV.symm;clear hRV HNS HRO;rw[HZ.out,HY.out] at y0 y4 v0 v1 v2 v3;(go_wp2_with fail);rw[←HY.out,←HZ.out];refine HRO2.out.mono ?_;rintro e w2 ⟨rfl,HB2⟩;obtain⟨z0,z1⟩:=HRC.out w2 HB2.out;have HN2:Hid _:=HNX.out w2 _ HB2.out HRV.out;clear HRO2 HNX HRC HZV y0 y4 v0 v1 v2 v3;(go_wp2_with fail);exact⟨⟨k+1,by omega,by go_num,HN2⟩,by simp[intOf];omega⟩
  ·obtain rfl:k=es.length:=by omega
   obtain⟨hR,hB⟩:=hX.out;have HF:Hid (RlAt wr G es.length (fun j=>Tk.roleM m os (EL es j))∧Bl w wr∧w.heap.size≤G):=⟨hR.congr (fun j hj=>by unfold rlF;rw[if_pos hj]),(HRW.out wr hB).2.2.2,by rw[←HXS.out];omega⟩
   clear hX hR hB HRW;(go_wp2_with fail);go_ret;exact⟨G,rfl,HF.out.1,HF.out.2⟩
end
section
namespace Tk
open Vc (V Of)
open Pl (Lk En)
def calmOf (r c:Int):Int:=if r=1∨r=2 then(if c<49 then c else 49)+1 else 0
theorem calmOf_pos {r c:Int}(h:0<calmOf r c):r=1∨r=2:=by
 unfold calmOf at h;by_cases q:r=1∨r=2
 ·exact q
 ·rw[if_neg q] at h;omega
structure Mnd where
 md:Md
 roles:List Int
 calm:List Int
def tickF (ids:Nat→Int) (E:Nat→List En) (x:Nat→Mnd) (i:Nat):Mnd :=
 ⟨chM (ids i) (heard (E i) (fun j=>(x j).md)),(E i).map (roleM (chM (ids i) (heard (E i) (fun j=>(x j).md))) (heard (E i) (fun j=>(x j).md))),
  List.zipWith calmOf ((E i).map (roleM (chM (ids i) (heard (E i) (fun j=>(x j).md))) (heard (E i) (fun j=>(x j).md)))) (x i).calm⟩
def ticksF (ids:Nat→Int) (E:Nat→List En) (x:Nat→Mnd):Nat→(Nat→Mnd)
 | 0=>x
 | t+1=>tickF ids E (ticksF ids E x t)
section
variable {ids:Nat→Int}{E:Nat→List En}{K:Nat}
theorem ticksF_add (x:Nat→Mnd) (a:Nat):∀b,ticksF ids E (ticksF ids E x a) b=ticksF ids E x (a+b)
 | 0=>rfl
 | b+1=>by
  show tickF ids E (ticksF ids E (ticksF ids E x a) b)=tickF ids E (ticksF ids E x (a+b));rw[ticksF_add x a b]
def Fit (E:Nat→List En) (K:Nat) (x:Nat→Mnd):Prop:=∀i,i<K→(x i).roles.length=(E i).length∧(x i).calm.length=(E i).length
def Calm (x:Nat→Mnd) (K:Nat):Prop:=∀i,i<K→∀j,0≤(x i).calm.getD j 0∧(0<(x i).calm.getD j 0→(x i).roles.getD j 0=1∨(x i).roles.getD j 0=2)
theorem getD_zip (rs cs:List Int) (h:rs.length=cs.length) (j:Nat) (hj:j<rs.length):(List.zipWith calmOf rs cs).getD j 0=calmOf (rs.getD j 0) (cs.getD j 0):=by
 rw[List.getD_eq_getElem?_getD,List.getD_eq_getElem?_getD,List.getD_eq_getElem?_getD,List.getElem?_zipWith,List.getElem?_eq_getElem hj,List.getElem?_eq_getElem (by omega)];rfl
theorem getD_out (l:List Int) (j:Nat) (hj:l.length≤j):l.getD j 0=0:=by
 rw[List.getD_eq_getElem?_getD,List.getElem?_eq_none hj];rfl
theorem tickF_fit {x:Nat→Mnd}(h:Fit E K x):Fit E K (tickF ids E x):=fun i hi=>by
 have:=h i hi;simp only[tickF,List.length_map,List.length_zipWith];exact⟨trivial,by omega⟩
theorem ticksF_fit {x:Nat→Mnd}(h:Fit E K x):∀t,Fit E K (ticksF ids E x t)
 | 0=>h
 | t+1=>tickF_fit (ticksF_fit h t)
theorem tickF_calm {x:Nat→Mnd}(h:Fit E K x) {i:Nat}(hi:i<K) {j:Nat}(hj:j<(E i).length):(tickF ids E x i).calm.getD j 0=calmOf ((tickF ids E x i).roles.getD j 0) ((x i).calm.getD j 0):=by
 simp only[tickF];exact getD_zip _ _ (by rw[List.length_map];exact(h i hi).2.symm) j (by rw[List.length_map];exact hj)
theorem calmOf_nonneg {r c:Int}(h:0≤c):0≤calmOf r c:=by
 unfold calmOf;split
 ·split<;>omega
 ·omega
theorem tickF_Calm {x:Nat→Mnd}(h:Fit E K x) (hc:Calm x K):Calm (tickF ids E x) K:=fun i hi j=>by
 by_cases hj:j<(E i).length
 ·rw[tickF_calm h hi hj];exact⟨calmOf_nonneg (hc i hi j).1,fun q=>calmOf_pos q⟩
 ·rw[getD_out _ j (by rw[(tickF_fit (ids:=ids) h i hi).2];omega)];exact⟨Int.le_refl _,fun q=>by omega⟩
theorem ticksF_Calm {x:Nat→Mnd}(h:Fit E K x) (hc:Calm x K):∀t,Calm (ticksF ids E x t) K
 | 0=>hc
 | t+1=>tickF_Calm (ticksF_fit h t) (ticksF_Calm h hc t)
end
end Tk
namespace Tk
open Vc (V Of)
open Pl (Lk En RightL ends endsTo endsAt)
structure Dn where
 kind:Int
 n:Int
 tree:Int
 value:Int
structure Cn where
 K:Nat
 L:Nat
 addr:Nat→Int
 sm:Nat→Nat→Bool
structure Sc where
 pr:Nat→List Int
 ls:Nat→Lk
 ms:Nat→Nat→Mnd
def prioOf (p:List Int) (tree:Int):Int:=if 0≤tree∧tree≤(p.length:Int)-1 then p.getD tree.toNat 0 else 32768
def Sc.ids (s:Sc) (c:Cn) (tree:Int) (i:Nat):Int:=prioOf (s.pr i) tree*281474976710656+c.addr i
def Sc.lv (s:Sc) (c:Cn) (k:Nat):Bool:=(s.ls k).up&&c.sm (s.ls k).a.toNat (s.ls k).b.toNat
def Sc.E (s:Sc) (c:Cn) (i:Nat):List En:=ends s.ls (s.lv c) c.L i
def Sc.ticks (s:Sc) (c:Cn) (t:Nat):Sc:=⟨s.pr,s.ls,fun k=>ticksF (s.ids c k) (s.E c) (s.ms k) t⟩
theorem Sc.ticks_add (s:Sc) (c:Cn) (a b:Nat):(s.ticks c a).ticks c b=s.ticks c (a+b):=by
 unfold Sc.ticks;congr 1
 funext k
 exact ticksF_add (s.ms k) a b
def padTo (p:List Int) (t:Nat):List Int:=p++List.replicate (t+1-p.length) 32768
def setPr (p:List Int) (t:Nat) (v:Int):List Int:=(padTo p t).set t v
def Sc.setUp (s:Sc) (k:Nat) (up:Bool):Sc:=⟨s.pr,fun j=>if j=k then⟨(s.ls k).a,(s.ls k).pa,(s.ls k).b,(s.ls k).pb,(s.ls k).cost,up⟩ else s.ls j,s.ms⟩
def Sc.setCost (s:Sc) (k:Nat) (v:Int):Sc:=⟨s.pr,fun j=>if j=k then⟨(s.ls k).a,(s.ls k).pa,(s.ls k).b,(s.ls k).pb,v,(s.ls k).up⟩ else s.ls j,s.ms⟩
def Sc.setPrio (s:Sc) (i t:Nat) (v:Int):Sc:=⟨fun j=>if j=i then setPr (s.pr i) t v else s.pr j,s.ls,s.ms⟩
def errOf (c:Cn) (d:Dn):Int :=
 if d.kind=1 then(if 0≤d.n∧d.n≤200 then 0 else 3)
 else if d.kind=2∨d.kind=3∨d.kind=4 then(if 0≤d.n∧d.n≤(c.L:Int)-1 then(if d.kind=4∧¬(1≤d.value∧d.value≤200000) then 3 else 0) else 6)
 else if d.kind=5 then(if 0≤d.n∧d.n≤(c.K:Int)-1 then(if (0≤d.tree∧d.tree≤15)∧Pl.oddP d.value=false then 0 else 3) else 6)
 else 1
def Sc.one (s:Sc) (c:Cn) (d:Dn):Sc :=
 if d.kind=1 then s.ticks c d.n.toNat
 else if d.kind=2 then s.setUp d.n.toNat true
 else if d.kind=3 then s.setUp d.n.toNat false
 else if d.kind=4 then s.setCost d.n.toNat d.value
 else s.setPrio d.n.toNat d.tree.toNat d.value
def Sc.all (s:Sc) (c:Cn) (l:Nat→Dn):Nat→Sc
 | 0=>s
 | k+1=>(s.all c l k).one c (l k)
def errTo (c:Cn) (l:Nat→Dn):Nat→Int×Int:=Pl.firstTo (fun k=>errOf c (l k))
def SameEnds (c:Cn) (s t:Sc):Prop:=∀k,k<c.L→(t.ls k).a=(s.ls k).a∧(t.ls k).b=(s.ls k).b∧(t.ls k).pa=(s.ls k).pa∧(t.ls k).pb=(s.ls k).pb
structure Fine (c:Cn) (s:Sc):Prop where
 few:c.K≤12
 fewL:c.L≤40
 links:RightL c.K c.L s.ls
 addr:∀i,i<c.K→0≤c.addr i∧c.addr i≤281474976710655
 apart:∀i j,i<c.K→j<c.K→c.addr i=c.addr j→i=j
 prios:∀i,i<c.K→(s.pr i).length≤16∧∀p∈s.pr i,0≤p∧p≤61440∧p%4096=0
theorem rightL_of {K L:Nat}{ls ls':Nat→Lk}(R:RightL K L ls) (h:∀k,k<L→(ls' k).a=(ls k).a∧(ls' k).b=(ls k).b∧(ls' k).pa=(ls k).pa∧(ls' k).pb=(ls k).pb) (hc:∀k,k<L→1≤(ls' k).cost∧(ls' k).cost≤200000):RightL K L ls':=by
 refine⟨fun k hk => ?_,fun j k hj hk => ?_⟩
 ·obtain⟨a1,a2,a3,a4⟩:=h k hk;obtain⟨o1,o2,o3,o4,o5,_⟩:=R.ok k hk;rw[a1,a2,a3,a4];exact⟨o1,o2,o3,o4,o5,hc k hk⟩
 ·obtain⟨a1,a2,a3,a4⟩:=h k hk;obtain⟨b1,b2,b3,b4⟩:=h j (by omega);have:=R.one j k hj hk;unfold Pl.isEnd at this ⊢;rw[a1,a2,a3,a4,b1,b2,b3,b4];exact this
theorem Fine.one {c:Cn}{s:Sc}(h:Fine c s) (d:Dn) (hd:errOf c d=0):Fine c (s.one c d)∧SameEnds c s (s.one c d):=by
 unfold errOf at hd;unfold Sc.one;by_cases k1:d.kind=1
 ·rw[if_pos k1];exact⟨⟨h.few,h.fewL,h.links,h.addr,h.apart,h.prios⟩,fun k hk=>⟨rfl,rfl,rfl,rfl⟩⟩
 ·rw[if_neg k1] at hd ⊢;have hup:∀(k:Nat) (up:Bool),Fine c (s.setUp k up)∧SameEnds c s (s.setUp k up):=fun k up=>by
   have hs:SameEnds c s (s.setUp k up):=fun j hj=>by
    unfold Sc.setUp;by_cases e:j=k
    ·simp only[if_pos e];rw[e];exact⟨rfl,rfl,rfl,rfl⟩
    ·simp only[if_neg e];exact⟨trivial,trivial,trivial,trivial⟩
   refine⟨⟨h.few,h.fewL,rightL_of h.links hs (fun j hj => ?_),h.addr,h.apart,h.prios⟩,hs⟩;unfold Sc.setUp;by_cases e:j=k
   ·subst e;simp only[if_true];exact(h.links.ok j hj).2.2.2.2.2
   ·simp only[if_neg e];exact(h.links.ok j hj).2.2.2.2.2
  by_cases k2:d.kind=2
  ·rw[if_pos k2];exact hup _ _
  ·rw[if_neg k2];by_cases k3:d.kind=3
   ·rw[if_pos k3];exact hup _ _
   ·rw[if_neg k3];by_cases k4:d.kind=4
    ·rw[if_pos (Or.inr (Or.inr k4))] at hd;rw[if_pos k4];have hv:1≤d.value∧d.value≤200000:=by
      by_cases q:1≤d.value∧d.value≤200000
      ·exact q
      ·exfalso
       by_cases q2:0≤d.n∧d.n≤(c.L:Int)-1
       ·rw[if_pos q2,if_pos ⟨k4,q⟩] at hd;omega
       ·rw[if_neg q2] at hd;omega
     have hs:SameEnds c s (s.setCost d.n.toNat d.value):=fun j hj=>by
      unfold Sc.setCost;by_cases e:j=d.n.toNat
      ·simp only[if_pos e];rw[e];exact⟨rfl,rfl,rfl,rfl⟩
      ·simp only[if_neg e];exact⟨trivial,trivial,trivial,trivial⟩
     refine⟨⟨h.few,h.fewL,rightL_of h.links hs (fun j hj => ?_),h.addr,h.apart,h.prios⟩,hs⟩;unfold Sc.setCost;by_cases e:j=d.n.toNat
     ·simp only[if_pos e];exact hv
     ·simp only[if_neg e];exact(h.links.ok j hj).2.2.2.2.2
    ·rw[if_neg (by omega)] at hd;rw[if_neg k4];have k5:d.kind=5:=by
      by_cases q:d.kind=5
      ·exact q
      ·rw[if_neg q] at hd;omega
     rw[if_pos k5] at hd;have hn:0≤d.n∧d.n≤(c.K:Int)-1:=by
      by_cases q:0≤d.n∧d.n≤(c.K:Int)-1
      ·exact q
      ·rw[if_neg q] at hd;omega
     rw[if_pos hn] at hd;have hv:(0≤d.tree∧d.tree≤15)∧Pl.oddP d.value=false:=by
      by_cases q:(0≤d.tree∧d.tree≤15)∧Pl.oddP d.value=false
      ·exact q
      ·rw[if_neg q] at hd;omega
     have hp:0≤d.value∧d.value≤61440∧d.value%4096=0:=by
      have:=hv.2;unfold Pl.oddP at this;simp at this;omega
     refine⟨⟨h.few,h.fewL,h.links,h.addr,h.apart,fun i hi => ?_⟩,fun k hk=>⟨rfl,rfl,rfl,rfl⟩⟩;unfold Sc.setPrio;by_cases e:i=d.n.toNat
     ·simp only[if_pos e];rw[←e];obtain⟨p1,p2⟩:=h.prios i hi;unfold setPr padTo;refine⟨by simp;omega,fun p hpm => ?_⟩;rcases List.mem_or_eq_of_mem_set hpm with q | q
      ·rcases List.mem_append.1 q with q | q
       ·exact p2 p q
       ·rw[List.mem_replicate] at q;rw[q.2];decide
      ·rw[q];exact hp
     ·simp only[if_neg e];exact h.prios i hi
theorem Fine.all {c:Cn}{s:Sc}(h:Fine c s) (l:Nat→Dn):∀n,(∀k,k<n→errOf c (l k)=0)→Fine c (s.all c l n)∧SameEnds c s (s.all c l n)
 | 0,_=>⟨h,fun _ _=>⟨rfl,rfl,rfl,rfl⟩⟩
 | n+1,hl=>by
  obtain⟨h1,h2⟩:=Fine.all h l n (fun k hk=>hl k (by omega));obtain⟨h3,h4⟩:=h1.one (l n) (hl n (by omega));refine⟨h3,fun k hk => ?_⟩;obtain⟨a1,a2,a3,a4⟩:=h2 k hk;obtain⟨b1,b2,b3,b4⟩:=h4 k hk;exact⟨b1.trans a1,b2.trans a2,b3.trans a3,b4.trans a4⟩
theorem endsTo_ports_eq {ls ls':Nat→Lk}(lv lv':Nat→Bool) (i:Nat):∀L,(∀k,k<L→(ls' k).a=(ls k).a∧(ls' k).b=(ls k).b∧(ls' k).pa=(ls k).pa∧(ls' k).pb=(ls k).pb)→(endsTo ls' lv' i L).map (·.port)=(endsTo ls lv i L).map (·.port)
 | 0,_=>rfl
 | L+1,h=>by
  simp only[endsTo,List.map_append];rw[endsTo_ports_eq lv lv' i L (fun k hk=>h k (by omega))];obtain⟨a1,a2,a3,a4⟩:=h L (by omega);congr 1
  unfold endsAt;rw[a1,a2,a3,a4];split<;>split<;>rfl
theorem ports_eq {K L:Nat}{ls ls':Nat→Lk}(R:RightL K L ls) (R':RightL K L ls') (h:∀k,k<L→(ls' k).a=(ls k).a∧(ls' k).b=(ls k).b∧(ls' k).pa=(ls k).pa∧(ls' k).pb=(ls k).pb) (lv lv':Nat→Bool) (i:Nat):(ends ls' lv' L i).map (·.port)=(ends ls lv L i).map (·.port):=by
 have p1:=(Pl.ends_perm ls' lv' L i).map (fun e:En=>e.port);have p2:=(Pl.ends_perm ls lv L i).map (fun e:En=>e.port);rw[endsTo_ports_eq lv lv' i L h] at p1;refine(p1.trans p2.symm).eq_of_pairwise (le:=fun a b:Int=>a<b) (fun a b _ _ h1 h2=>by omega) ?_ ?_
 ·exact List.pairwise_map.2 (Pl.ends_sorted R' lv' i)
 ·exact List.pairwise_map.2 (Pl.ends_sorted R lv i)
theorem SameEnds.len {c:Cn}{s t:Sc}(h:SameEnds c s t) (hs:Fine c s) (ht:Fine c t) (i:Nat):(t.E c i).map (·.port)=(s.E c i).map (·.port)∧(t.E c i).length=(s.E c i).length:=by
 have:=ports_eq hs.links ht.links h (s.lv c) (t.lv c) i;refine⟨this,?_⟩;have e:=congrArg List.length this;simpa[Sc.E] using e
theorem Fine.good {c:Cn}{s:Sc}(h:Fine c s) (ids:Nat→Int):Pl.Good ids (s.E c) c.K:=Pl.good h.links h.few ids (s.lv c)
structure Ok (c:Cn) (s:Sc) (T:Nat):Prop where
 fine:Fine c s
 fit:∀k,k<T→Fit (s.E c) c.K (s.ms k)
 calm:∀k,k<T→Calm (s.ms k) c.K
theorem Ok.one {c:Cn}{s:Sc}{T:Nat}(h:Ok c s T) (d:Dn) (hd:errOf c d=0):Ok c (s.one c d) T:=by
 obtain⟨h1,h2⟩:=h.fine.one d hd;have hlen:=fun i=>(h2.len h.fine h1 i).2;by_cases k1:d.kind=1
 ·have e:s.one c d=s.ticks c d.n.toNat:=(by unfold Sc.one;rw[if_pos k1])
  rw[e] at h1 hlen ⊢;exact⟨h1,fun k hk=>ticksF_fit (h.fit k hk) _,fun k hk=>ticksF_Calm (h.fit k hk) (h.calm k hk) _⟩
 ·have e:(s.one c d).ms=s.ms:=by
   unfold Sc.one;rw[if_neg k1];split
   ·rfl
   ·split
    ·rfl
    ·split<;>rfl
  refine⟨h1,fun k hk i hi => ?_,fun k hk => ?_⟩
  ·rw[e,hlen i];exact h.fit k hk i hi
  ·rw[e];exact h.calm k hk
theorem Ok.all {c:Cn}{s:Sc}{T:Nat}(h:Ok c s T) (l:Nat→Dn):∀n,(∀k,k<n→errOf c (l k)=0)→Ok c (s.all c l n) T
 | 0,_=>h
 | n+1,hl=>(Ok.all h l n (fun k hk=>hl k (by omega))).one (l n) (hl n (by omega))
end Tk
end
section
open Go.RowKit
def rowS (sp:Array Value) (n k:Nat) (c:Nat→Nat→Value):Array Value:=rowC n k c++sp
theorem rowS_get (sp:Array Value) {n k i j:Nat}(c:Nat→Nat→Value) (hi:i<n) (hj:j<k):(rowS sp n k c)[i*k+j]?=some (c i j):=by
 have h:=mul_add_lt hi hj;unfold rowS;rw[Array.getElem?_append_left (by rw[rowC_size];exact h)];exact rowC_get c hi hj
theorem rowS_put (sp:Array Value) {n k i j:Nat}(c:Nat→Nat→Value) (hi:i<n) (hj:j<k) (v:Value):(rowS sp n k c).setIfInBounds (i*k+j) v=rowS sp n k (updC c i j v):=by
 have h:=mul_add_lt hi hj;unfold rowS;rw[←rowC_put c hi hj];apply Array.ext_getElem?
 intro x;have s1:=rowC_size n k c;rw[Array.getElem?_setIfInBounds];by_cases hx:x<n*k
 ·rw[Array.getElem?_append_left (by rw[s1];exact hx),Array.getElem?_append_left (by rw[Array.size_setIfInBounds,s1];exact hx),Array.getElem?_setIfInBounds];by_cases q:i*k+j=x
  ·rw[if_pos q,if_pos q,if_pos (by rw[Array.size_append,s1];omega),if_pos (by rw[s1];omega)]
  ·rw[if_neg q,if_neg q]
 ·rw[if_neg (by omega),Array.getElem?_append_right (by rw[s1];omega),Array.getElem?_append_right (by rw[Array.size_setIfInBounds,s1];omega),Array.size_setIfInBounds]
theorem rowS_congr2 (sp:Array Value) {n k:Nat}{c d:Nat→Nat→Value}(h:∀i,i<n→∀j,j<k→c i j=d i j):rowS sp n k c=rowS sp n k d:=by
 unfold rowS;rw[rC2 h]
section
variable {sp:Array Value}{w:World}{g n k:Nat}{c:Nat→Nat→Value}{ty:TypeId}
theorem rowS_cell (h:w.heap[g]?=some (.cells (rowS sp n k c) ty (0,0))) {i j:Nat}(hi:i<n) (hj:j<k):w.cell? ⟨g,i*k+j,none⟩=some (c i j) :=
 (cell_of_row w g _ _ _ _ h).trans (rowS_get sp c hi hj)
theorem rowS_set (h:w.heap[g]?=some (.cells (rowS sp n k c) ty (0,0))) {i j:Nat}(hi:i<n) (hj:j<k) (v:Value):(w.setCell ⟨g,i*k+j,none⟩ v).heap[g]?=some (.cells (rowS sp n k (updC c i j v)) ty (0,0)):=by
 rw[heap_setCell_same _ _ _ _ _ _ h,rowS_put sp c hi hj]
end
theorem owns_rowS {w:World}{base e k n:Nat}{v:Value}{c:Nat→Nat→Value}(h:w.ownsRow base e k v n (cellsL n k c)) :
  (v=.slice none 0 0∧n=0)∨∃g cap sp,v=.slice (some ⟨g,0,none⟩) n cap∧base≤g∧n≤cap∧cap≤maxLen∧sp.size+n*k=cap*k∧w.heap[g]?=some (.cells (rowS sp n k c) e (0,0)):=by
 obtain⟨_,h2⟩:=h;rcases h2 with h2 | ⟨g,cap,cur,rfl,hg,hh,hn,hm,hs,hx⟩
 ·exact Or.inl h2
 ·refine Or.inr ⟨g,cap,(cur.toList.drop (n*k)).toArray,rfl,hg,hn,hm,?_,?_⟩
  ·have h1:=congrArg List.length hx;rw[cellsL_length,List.length_take,Array.length_toList] at h1;rw[List.size_toArray,List.length_drop,Array.length_toList];omega
  ·rw[hh];congr 2
   apply Array.ext'
   unfold rowS rowC;rw[Array.toList_append];simp only;rw[←hx,List.take_append_drop]
theorem rowS_owns {w:World}{base e k n g cap:Nat}{sp:Array Value}{c:Nat→Nat→Value}(hg:base≤g) (hn:n≤cap) (hm:cap≤maxLen) (hs:sp.size+n*k=cap*k) (hh:w.heap[g]?=some (.cells (rowS sp n k c) e (0,0))):w.ownsRow base e k (.slice (some ⟨g,0,none⟩) n cap) n (cellsL n k c):=by
 refine⟨cellsL_length _ _ _,Or.inr ⟨g,cap,_,rfl,hg,hh,hn,hm,?_,?_⟩⟩
 ·unfold rowS;rw[Array.size_append,rowC_size];omega
 ·unfold rowS rowC;rw[Array.toList_append];simp only;have:=cellsL_length n k c;rw[List.take_append_of_le_length (by omega),List.take_of_length_le (by omega)]
structure Bt (P:Nat→Prop) (w w':World):Prop where
 os:w'.os=w.os
 tape:w'.tape=w.tape
 output:w'.output=w.output
 size:w.heap.size≤w'.heap.size
 block:∀q,q<w.heap.size→¬P q→w'.heap[q]?=w.heap[q]?
theorem Bt.refl (P:Nat→Prop) (w:World):Bt P w w:=⟨rfl,rfl,rfl,Nat.le_refl _,fun _ _ _=>rfl⟩
theorem Bt.trans {P:Nat→Prop}{a b c:World}(h:Bt P a b) (k:Bt P b c):Bt P a c :=
 ⟨k.os.trans h.os,k.tape.trans h.tape,k.output.trans h.output,Nat.le_trans h.size k.size,fun q hq hn=>(k.block q (Nat.lt_of_lt_of_le hq h.size) hn).trans (h.block q hq hn)⟩
theorem Bt.mono {P Q:Nat→Prop}{a b:World}(h:Bt P a b) (k:∀q,q<a.heap.size→P q→Q q):Bt Q a b :=
 ⟨h.os,h.tape,h.output,h.size,fun q hq hn=>h.block q hq (fun p=>hn (k q hq p))⟩
theorem Bt.of {P:Nat→Prop}{a b:World}(h:Bl a b):Bt P a b:=⟨h.os,h.tape,h.output,h.size,fun q hq _=>h.block q hq⟩
theorem Bt.low {P:Nat→Prop}{a b c:World}(h:Bt P a b) (k:Bl b c):Bt P a c:=h.trans (Bt.of k)
theorem Bt.below {P:Nat→Prop}{a b:World}(h:Bt P a b) {n:Nat}(hn:n≤a.heap.size) (hP:∀q,q<n→¬P q):Below n a b :=
 ⟨h.os,h.tape,h.output,h.size,fun q hq=>h.block q (Nat.lt_of_lt_of_le hq hn) (hP q hq)⟩
theorem Bt.setCell {P:Nat→Prop}{a b:World}(h:Bt P a b) {g:Nat}(hg:P g∨a.heap.size≤g) (o:Nat) (v:Value):Bt P a (b.setCell ⟨g,o,none⟩ v):=by
 have hb:Below 0 b (b.setCell ⟨g,o,none⟩ v):=(Below.refl 0 b).setCell (Nat.zero_le _) _;refine⟨hb.os.trans h.os,hb.tape.trans h.tape,hb.output.trans h.output,Nat.le_trans h.size hb.size,fun q hq hn => ?_⟩;have hne:q≠g:=fun e=>by
  subst e;rcases hg with r | r
  ·exact hn r
  ·omega
 rw[heap_setCell_other _ _ _ _ (by exact hne)];exact h.block q hq hn
theorem Bt.keep {P:Nat→Prop}{a b:World}(h:Bt P a b) {g:Nat}{o:Obj}(hg:a.heap[g]?=some o) (hn:¬P g):b.heap[g]?=some o :=
 (h.block g (gSm.1 hg).1 hn).trans hg
theorem owns_keep {w w':World}{base e k n:Nat}{v:Value}{xs:List Value}(h:w.ownsRow base e k v n xs) (hk:∀q,v.ownBlock=some q→w'.heap[q]?=w.heap[q]?):w'.ownsRow base e k v n xs:=by
 obtain⟨h1,h2⟩:=h;refine⟨h1,?_⟩;rcases h2 with h2 | ⟨g,cap,cur,hv,hg,hh,r⟩
 ·exact Or.inl h2
 ·refine Or.inr ⟨g,cap,cur,hv,hg,?_,r⟩;rw[hk g (by rw[hv];simp[Value.ownBlock])];exact hh
theorem owns_mono {w:World}{base base' e k n:Nat}{v:Value}{xs:List Value}(h:w.ownsRow base e k v n xs) (hb:base'≤base):w.ownsRow base' e k v n xs:=by
 obtain⟨h1,h2⟩:=h;refine⟨h1,?_⟩;rcases h2 with h2 | ⟨g,cap,cur,hv,hg,r⟩
 ·exact Or.inl h2
 ·exact Or.inr ⟨g,cap,cur,hv,Nat.le_trans hb hg,r⟩
theorem owns_type {w:World}{base e k n:Nat}{v:Value}{xs:List Value}(h:w.ownsRow base e k v n xs) {q:Nat}(hq:v.ownBlock=some q):∃cur,w.heap[q]?=some (.cells cur e (0,0)):=by
 obtain⟨_,h2⟩:=h;rcases h2 with⟨rfl,_⟩ | ⟨g,cap,cur,rfl,hg,hh,r⟩
 ·simp[Value.ownBlock] at hq
 ·simp[Value.ownBlock] at hq;subst hq;exact⟨cur,hh⟩
def upF {α:Type}(f:Nat→α) (j:Nat) (x:α):Nat→α:=fun a=>if a=j then x else f a
theorem upF_same {α:Type}(f:Nat→α) (j:Nat) (x:α):upF f j x j=x:=if_pos rfl
theorem upF_other {α:Type}(f:Nat→α) {j a:Nat}(x:α) (h:a≠j):upF f j x a=f a:=if_neg h
structure Fam (W:World) (base e kk T:Nat) (v:Nat→Value) (n:Nat→Nat) (c:Nat→Nat→Nat→Value):Prop where
 own:∀a,a<T→W.ownsRow base e kk (v a) (n a) (cellsL (n a) kk (c a))
 one:∀a b,a<T→b<T→∀q,(v a).ownBlock=some q→(v b).ownBlock=some q→a=b
section
variable {W W':World}{base e kk T:Nat}{v:Nat→Value}{n:Nat→Nat}{c:Nat→Nat→Nat→Value}
theorem Fam.keep (h:Fam W base e kk T v n c) (hk:∀a,a<T→∀q,(v a).ownBlock=some q→W'.heap[q]?=W.heap[q]?):Fam W' base e kk T v n c :=
 ⟨fun a ha=>owns_keep (h.own a ha) (hk a ha),h.one⟩
theorem Fam.below (h:Fam W base e kk T v n c) (hb:Bl W W'):Fam W' base e kk T v n c :=
 h.keep (fun a ha q hq=>hb.block q (oCb (h.own a ha) q hq).2)
theorem Fam.bt {P:Nat→Prop}(h:Fam W base e kk T v n c) (hb:Bt P W W') (hP:∀a,a<T→∀q,(v a).ownBlock=some q→¬P q):Fam W' base e kk T v n c :=
 h.keep (fun a ha q hq=>hb.block q (oCb (h.own a ha) q hq).2 (hP a ha q hq))
theorem Fam.congr {n':Nat→Nat}{c':Nat→Nat→Nat→Value}(h:Fam W base e kk T v n c) (hn:∀a,a<T→n a=n' a) (hc:∀a,a<T→∀i,i<n a→∀x,x<kk→c a i x=c' a i x):Fam W base e kk T v n' c':=by
 refine⟨fun a ha => ?_,h.one⟩;have:=h.own a ha;rw[←hn a ha];have e1:cellsL (n a) kk (c a)=cellsL (n a) kk (c' a):=by
  have:=rC2 (hc a ha);unfold rowC at this;simpa using congrArg Array.toList this
 rw[←e1];exact this
theorem Fam.write {P:Nat→Prop}(h:Fam W base e kk T v n c) {j g cap:Nat}{sp:Array Value}{c':Nat→Nat→Value}(hj:j<T) (hv:v j=.slice (some ⟨g,0,none⟩) (n j) cap) (hb:Bt P W W') (hP:∀a,a<T→a≠j→∀q,(v a).ownBlock=some q→¬P q)
  (hn:n j≤cap) (hm:cap≤maxLen) (hs:sp.size+n j*kk=cap*kk) (hh:W'.heap[g]?=some (.cells (rowS sp (n j) kk c') e (0,0))):Fam W' base e kk T v n (upF c j c'):=by
 refine⟨fun a ha => ?_,h.one⟩;by_cases q:a=j
 ·subst q;have hbg:base≤g:=(oCb (h.own a ha) g (by rw[hv];simp[Value.ownBlock])).1;rw[upF_same,hv];exact rowS_owns hbg hn hm hs hh
 ·rw[upF_other _ _ q];exact owns_keep (h.own a ha) (fun r hr=>hb.block r (oCb (h.own a ha) r hr).2 (hP a ha q r hr))
end
end
section
open Go.RowKit
open Vc (V Of)
open Tk (Cn Sc Mnd Md)
namespace Tk
def ixM (k i j:Nat):Nat:=12+(k*12+i)*3+j
def ilist (K T:Nat) (pts:Nat→List Int) (s:Sc) (a:Nat):List Int :=
 if a<12 then(if a<K then s.pr a else [])
 else if (a-12)/36<T∧(a-12)%36/3<K then
  (if (a-12)%3=0 then pts ((a-12)%36/3) else if (a-12)%3=1 then(s.ms ((a-12)/36) ((a-12)%36/3)).roles else(s.ms ((a-12)/36) ((a-12)%36/3)).calm)
 else []
theorem ix_parts {k i j:Nat}(hi:i<12) (hj:j<3):¬ixM k i j<12∧(ixM k i j-12)/36=k∧(ixM k i j-12)%36/3=i∧(ixM k i j-12)%3=j:=by
 unfold ixM;omega
theorem ix_lt {k i j:Nat}(hk:k<4) (hi:i<12) (hj:j<3):ixM k i j<156:=by
 unfold ixM;omega
theorem ix_one {k i j k' i' j':Nat}(hi:i<12) (hj:j<3) (hi':i'<12) (hj':j'<3) (h:ixM k i j=ixM k' i' j'):k=k'∧i=i'∧j=j':=by
 unfold ixM at h;omega
section
variable {K T:Nat}(hK:K≤12) (pts:Nat→List Int) (s:Sc)
include hK
theorem ilist_prio {i:Nat}(hi:i<K):ilist K T pts s i=s.pr i:=by
 unfold ilist;rw[if_pos (by omega),if_pos hi]
theorem ilist_m {k i:Nat}(hk:k<T) (hi:i<K):ilist K T pts s (ixM k i 0)=pts i∧ilist K T pts s (ixM k i 1)=(s.ms k i).roles∧ilist K T pts s (ixM k i 2)=(s.ms k i).calm:=by
 obtain⟨a1,a2,a3,a4⟩:=ix_parts (k:=k) (i:=i) (j:=0) (by omega) (by omega);obtain⟨b1,b2,b3,b4⟩:=ix_parts (k:=k) (i:=i) (j:=1) (by omega) (by omega);obtain⟨c1,c2,c3,c4⟩:=ix_parts (k:=k) (i:=i) (j:=2) (by omega) (by omega);unfold ilist;refine⟨?_,?_,?_⟩
 ·rw[if_neg a1,a2,a3,a4,if_pos ⟨hk,hi⟩,if_pos rfl]
 ·rw[if_neg b1,b2,b3,b4,if_pos ⟨hk,hi⟩,if_neg (by omega),if_pos rfl]
 ·rw[if_neg c1,c2,c3,c4,if_pos ⟨hk,hi⟩,if_neg (by omega),if_neg (by omega)]
end
def Sc.setM (s:Sc) (k i:Nat) (m:Mnd):Sc:=⟨s.pr,s.ls,fun k' i'=>if k'=k∧i'=i then m else s.ms k' i'⟩
theorem ilist_setM {K T:Nat}(hK:K≤12) (pts:Nat→List Int) (s:Sc) {k i:Nat}(hk:k<T) (hi:i<K) (m:Mnd) (a:Nat):ilist K T pts (s.setM k i m) a=upF (upF (ilist K T pts s) (ixM k i 1) m.roles) (ixM k i 2) m.calm a:=by
 obtain⟨b1,b2,b3,b4⟩:=ix_parts (k:=k) (i:=i) (j:=1) (by omega) (by omega);obtain⟨c1,c2,c3,c4⟩:=ix_parts (k:=k) (i:=i) (j:=2) (by omega) (by omega);by_cases q2:a=ixM k i 2
 ·subst q2;rw[upF_same];unfold ilist;rw[if_neg c1,c2,c3,c4,if_pos ⟨hk,hi⟩,if_neg (by omega),if_neg (by omega)];unfold Sc.setM;simp
 ·rw[upF_other _ _ q2];by_cases q1:a=ixM k i 1
  ·subst q1;rw[upF_same];unfold ilist;rw[if_neg b1,b2,b3,b4,if_pos ⟨hk,hi⟩,if_neg (by omega),if_pos rfl];unfold Sc.setM;simp
  ·rw[upF_other _ _ q1];unfold ilist;by_cases h12:a<12
   ·rw[if_pos h12,if_pos h12];rfl
   ·rw[if_neg h12,if_neg h12];by_cases hin:(a-12)/36<T∧(a-12)%36/3<K
    ·rw[if_pos hin,if_pos hin];by_cases j0:(a-12)%3=0
     ·rw[if_pos j0,if_pos j0]
     ·rw[if_neg j0,if_neg j0];have hne:¬((a-12)/36=k∧(a-12)%36/3=i):=by
       rintro⟨e1,e2⟩;unfold ixM at q1 q2;omega
      unfold Sc.setM;simp only[if_neg hne]
    ·rw[if_neg hin,if_neg hin]
end Tk
def mdC (m:Md) (p r c:Value) (x:Nat):Value:=if x<4 then vC m.v x else if x=4 then .int .i64 m.age else if x=5 then .int .i64 m.rp else if x=6 then p else if x=7 then r else c
end
end Go.Proofs.YtaneiffnhphkhaaGreatDoor
