/- walks: package vec's mayTake -/
import Derived.Test.YtflghpnpjmodaaaGreatDoorH01
import Derived.Test.YtflghpnpjmodaaaGreatDoorH08
import Derived.Test.YtflghpnpjmodaaaGreatDoorH05
import Derived.Deep.RegionHeld3
import Derived.Deep.DeepCutAuto
set_option maxRecDepth 100000
set_option maxHeartbeats 40000000
namespace Go.Proofs.YtflghpnpjmodaaaGreatDoor
section
open Go.RowKit
theorem step_append_d {w w':World}{ops:Array Oper}{o:Oper}{a:Act}{K:Act→World→Prop}{Q:Exit→Act→World→Prop}{E:Prop}(d:Option Tmp) (hd:o.dst=d) (hgd:o.guard=none) (s x:Operand) (t:TypeId)
  (ho:o.op=.call { callee:=.builtin .append,args:=#[s,x],argTypes:=#[t,t] }) (v vx v':Value) (hs:a.eval s=v) (hx:a.eval x=vx) (hr:(Builtin.append_ #[t,t] o.type #[v,vx]).run Tryz.prog w=.ok v' w')
  (h:K (a.put d v') w'):if Region.wanted o (yielded ops a.tmps)=true then Oper.wp Tryz.prog o a w K Q else E:=by
 subst hd;exact step_append_c hgd s x t ho v vx v' hs hx hr h
section
variable {P:Program}{ops:Array Oper}{Q:Exit→Act→World→Prop}{md:Region.Mode}{S:World→Prop}
theorem pheld_take {i:Nat}{oi:Oper}{v:Value}(d:Option Tmp) {fuel:Nat}{listed:Array Bool}{a:Act}{w:World}(hi:ops[i]?=some oi) (hd:oi.dst=d)
  (hs:Region.noSelect ops=true) (hf:Region.free md ops listed i=true) (hr:(Region.ready md ops listed).contains i=true)
  (hQ:∀c a w,Q (.panic c) (a.put d v) w→Q (.panic c) a w) (hw:Region.wanted oi (yielded ops a.tmps)=true) (hy:∀w,S w→(execOp a.eval oi).run P w=.ok (.value v) w) (hS:S w)
  (h:wpAnyH P md ops Q S fuel (listed.setIfInBounds i true) (a.put d v) w):wpAnyH P md ops Q S (fuel+1) listed a w:=by
 subst hd;exact wpAnyH_take hi hs hf hr hQ (Or.inl ⟨hw,hy⟩) hS h
end
end
section
open Go.RowKit
open Vc (V Of)
open Pl (Br Net Pc Lk En St)
theorem infoOf:(Tryz.prog.info? 162).map (fun i=>(i.zero,i.size,i.bytes))=some (some (.agg #[.int .i64 0,.int .i64 0,.int .i64 0,.int .u64 0,.int .i64 0,.int .u64 0,.int .i64 0]),7,56):=by kernel_rfl
def ofA (o:Of):Array Value:=#[.int .i64 o.port,.int .i64 o.cost,.int .i64 o.age,.int .u64 o.vec.root,.int .i64 o.vec.cost,.int .u64 o.vec.bridge,.int .i64 o.vec.port]
def ToldAt (w:World) (g K:Nat) (x:Nat→Tk.Md):Prop:=g<w.heap.size∧∀i,i<K→(∀j,j<4→w.cell? ⟨g,i*6+1+j,none⟩=some (vC (x i).v j))∧w.cell? ⟨g,i*6+5,none⟩=some (.int .i64 (x i).age)
theorem ToldAt.below {w w':World}{g K:Nat}{x:Nat→Tk.Md}(h:ToldAt w g K x) (hb:Bl w w'):ToldAt w' g K x :=
 ⟨Nat.lt_of_lt_of_le h.1 hb.size,fun i hi=>⟨fun j hj=>(hb.cell (by exact h.1)).trans ((h.2 i hi).1 j hj),(hb.cell (by exact h.1)).trans (h.2 i hi).2⟩⟩
theorem ToldAt.cells {w:World}{g K:Nat}{x:Nat→Tk.Md}(h:ToldAt w g K x) {i:Nat}(hi:i<K) :
  w.cell? ⟨g,i*6+1,none⟩=some (.int .u64 (x i).v.root)∧w.cell? ⟨g,i*6+2,none⟩=some (.int .i64 (x i).v.cost)∧w.cell? ⟨g,i*6+3,none⟩=some (.int .u64 (x i).v.bridge)∧w.cell? ⟨g,i*6+4,none⟩=some (.int .i64 (x i).v.port)∧w.cell? ⟨g,i*6+5,none⟩=some (.int .i64 (x i).age) :=
 ⟨(h.2 i hi).1 0 (by omega),(h.2 i hi).1 1 (by omega),(h.2 i hi).1 2 (by omega),(h.2 i hi).1 3 (by omega),(h.2 i hi).2⟩
abbrev ofCells (l:List Of):List Value:=cellsL l.length 7 (fun j=>ofC (Pl.lf l j))
theorem lf_snoc (l:List Of) (o:Of):cellsL (l.length+1) 7 (catC l.length (fun j=>ofC (Pl.lf l j)) (fun _=>ofC o))=ofCells (l++[o]):=by
 unfold ofCells;rw[List.length_append];apply cellsL_congr
 intro i hi;simp only[catC];by_cases q:i<l.length
 ·rw[if_pos q];simp[Pl.lf,List.getD,List.getElem?_append_left q]
 ·rw[if_neg q];obtain rfl:i=l.length:=by omega
  simp[Pl.lf,List.getD]
theorem off_more2 {Z Zd:World}{base:Nat}{v:Value}{l:List Of}(ho:Z.ownsRow base 162 7 v l.length (ofCells l)) (hbase:base≤Z.heap.size) (hl:l.length≤1000) (z:Of) (hZ:Bl Z Zd) (hs:Zd.heap.size=Z.heap.size) :
  ∃vo vc w2,(Builtin.append_ #[107,107] 107 #[v,.slice (some ⟨Z.heap.size,0,none⟩) 1 1]).run Tryz.prog (Zd.alloc (.cells (ofA z) 162))=.ok (.slice vo (l++[z]).length vc) w2∧w2.ownsRow base 162 7 (.slice vo (l++[z]).length vc) (l++[z]).length (ofCells (l++[z])) ∧
   (∀q,q<Z.heap.size→v.ownBlock≠some q→w2.heap[q]?=Z.heap[q]?)∧Below base Z w2:=by
 obtain⟨i0,hi0,hz0,hz1,hz2⟩:=info_parts infoOf;obtain⟨C,hC⟩:∃C,C=Zd.alloc (.cells (ofA z) 162):=⟨_,rfl⟩
 have hCb:Bl Z C:=(by rw[hC];exact hZ.alloc (by omega) _)
 have hCs:C.heap.size=Z.heap.size+1:=(by rw[hC];simp[hs])
 have hCl:C.heap[Z.heap.size]?=some (.cells (ofA z) 162):=(by rw[hC,←hs];exact heap_alloc_last Zd _)
 have hO:=ownsC_below ho hCb;obtain⟨v',w2,hrun,h1,h2,_,h3⟩:=run_append_own_at (P:=Tryz.prog) C base 107 107 162 i0 _ 7 56 Tryz.underlying107 hi0 hz0 hz1 hz2 rfl (by omega) v l.length (ofCells l) hO ⟨Z.heap.size,0,none⟩ 1 1 (ofA z).toList rfl (fun j u hj=>by
  have hl:j<7:=by
   have:=(List.getElem?_eq_some_iff.1 hj).1;simpa[ofA] using this
  rw[add_row,Nat.zero_add];have:=cell_of_row C Z.heap.size j _ _ _ hCl;rw[this];simpa using hj) (fun u hu=>by simp[ofA] at hu;rcases hu with rfl | rfl | rfl | rfl | rfl | rfl | rfl<;>rfl) (by unfold maxLen;omega) (by omega) (by omega)
 have e1:ofCells l++(ofA z).toList=ofCells (l++[z]):=by
  have:(ofA z).toList=cellsL 1 7 (fun _=>ofC z):=by simp[cellsL,ofA,ofC,vC,List.range_succ]
  rw[this,cellsL_cat _ _ _ (by omega),lf_snoc]
 have e2:(l++[z]).length=l.length+1:=(by simp)
 rw[e1,←e2] at h1;obtain⟨ao,cap,rfl,_⟩:=owns_c (by omega) h1;exact⟨ao,cap,w2,by rw[←hC];exact hrun,h1,fun q hq hne=>(h2.block q (by omega) (fun p=>hne p.symm)).trans (hCb.block q hq),(hCb.mono hbase).trans ((Below.refl _ _).grown h2 (by omega) (fun q hq=>(oCb hO q hq).1))⟩
theorem heard_next {es:List En}{x:Nat→Tk.Md}{k:Nat}(hk:k<es.length):Tk.heard (es.take (k+1)) x=Tk.heard (es.take k) x++if (EL es k).live=true then [Tk.heardOf x (EL es k)] else []:=by
 have e:es.take (k+1)=es.take k++[EL es k]:=by
  rw[List.take_add_one,List.getElem?_eq_getElem hk];simp[EL,List.getD,List.getElem?_eq_getElem hk]
 unfold Tk.heard;rw[e,List.filter_append,List.map_append];generalize EL es k=y;congr 1
 cases hl:y.live<;>simp[hl]
theorem heard_few (es:List En) (x:Nat→Tk.Md):(Tk.heard es x).length≤es.length:=by
 unfold Tk.heard;rw[List.length_map];exact List.length_filter_le _ _
theorem pheard_any (es:List En) (eao:Option Addr) (ecap:Nat) (Pb K:Nat) (x:Nat→Tk.Md) (w:World) (hK:K≤1000) (hlen:es.length≤1000) (hr:ERow w eao es.length ecap (EL es)) (hs:ToldAt w Pb K x) (hoth:∀e,e∈es→e.live=true→0≤e.other∧e.other<K) :
  Calls Tryz.prog 37 #[.slice eao es.length ecap,.slice (some ⟨Pb,0,none⟩) K K] w fun e w'=>∃ao cap,e=.returned (.slice ao (Tk.heard es x).length cap)∧ORow w' ao (Tk.heard es x).length cap (Pl.lf (Tk.heard es x))∧Bl w w'∧∀ad,ao=some ad→w.heap.size≤ad.block:=by
 have HRW:Hid (∀W,Bl w W→ERow W eao es.length ecap (EL es)∧ToldAt W Pb K x):=fun W hW=>⟨CRow.below hr hW,hs.below hW⟩
 have HOT:Hid (∀e,e∈es→e.live=true→0≤e.other∧e.other<K):=hoth;have hcap:=hr.1;have wk:IntKind.i64.wrap ((K:Int)-1)=(K:Int)-1:=(by rw[IntKind.wrap_i64];omega)
 have HPB:Hid (Pb<w.heap.size):=hs.1;clear hr hs hoth;have H0:Hid (w.ownsRow w.heap.size 162 7 (.slice none (Tk.heard (es.take 0) x).length 0) (Tk.heard (es.take 0) x).length (ofCells (Tk.heard (es.take 0) x))∧Bl w w):=⟨ownsC_nil _ _ _ _ _,Below.refl _ _⟩
 go_enter Tryz.func37,Tryz.ntmps37;(go_wp2_with fail);go_loopw [5,11] (fun s5 i wr=>∃(k:Nat) (ao:Option Addr) (cap:Nat),k≤es.length∧i=.int .i64 k∧s5=.slice ao (Tk.heard (es.take k) x).length cap∧Hid (wr.ownsRow w.heap.size 162 7 (.slice ao (Tk.heard (es.take k) x).length cap) (Tk.heard (es.take k) x).length (ofCells (Tk.heard (es.take k) x))∧Bl w wr)) (fun _ i _=>es.length-(intOf i).toNat)
 case atStart=>exact⟨0,none,0,by omega,rfl,rfl,H0⟩
 case round =>
  obtain⟨k,ao,cap,hk,rfl,rfl,hX⟩:=hrel;clear H0;by_cases hlt:k<es.length
  ·obtain⟨hO,hB⟩:=hX.out;obtain⟨f1,f2⟩:=HRW.out wr hB;obtain⟨eb,eoff,rfl,_⟩:=CRow.some f1 (by omega);obtain⟨c0,c1,c2,c3,c4⟩:=ERow.cells f1 hlt;have hmem:EL es k∈es:=by
    have:EL es k=es[k]:=by simp[EL,List.getD,List.getElem?_eq_getElem hlt]
    rw[this];exact List.getElem_mem hlt
   have hnext:=heard_next (x:=x) hlt;have hol:=HOT.out _ hmem;have hfew:(Tk.heard (es.take k) x).length≤1000:=by
    have h1:=heard_few (es.take k) x;rw[List.length_take] at h1;omega
   have i0:(0:Int)≤(k:Int):=(by omega)
   have i1:(k:Int)<(es.length:Int):=(by omega)
   generalize EL es k=e at *;obtain⟨port,cost,other,oport,live⟩:=e;simp only at c0 c1 c2 c3 c4 hol hnext;cases live with
   | false =>
    rw[if_neg (by decide),List.append_nil] at hnext;have HN:Hid (∀W,Bl wr W→W.ownsRow w.heap.size 162 7 (.slice ao (Tk.heard (es.take (k+1)) x).length cap) (Tk.heard (es.take (k+1)) x).length (ofCells (Tk.heard (es.take (k+1)) x))∧Bl w W):=fun W hW=>by rw[hnext];exact⟨ownsC_below hO hW,hB.trans (hW.mono hB.size)⟩
    have HLE:Hid ((Tk.heard (es.take (k+1)) x).length=(Tk.heard (es.take k) x).length):=by show _=_;rw[hnext]
    clear hO hB hX f1 f2 hol hnext hmem HRW HOT;(go_wp2_with fail);exact⟨⟨k+1,ao,cap,by omega,by go_num,by rw[HLE.out],HN.out _ (bA1 _ _)⟩,by simp[intOf];omega⟩
   | true =>
    obtain⟨j,rfl⟩:∃j:Nat,other=j:=⟨other.toNat,by have:=hol rfl;omega⟩
    have hj:j<K:=(by have:=hol rfl;omega)
    have j0:(0:Int)≤(j:Int):=(by omega)
    have j1:(j:Int)<(K:Int):=(by omega)
    have HW:Hid (∀W,Calls Tryz.prog 32 #[.int .i64 j,.int .i64 0,.int .i64 ((K:Int)-1)] W fun e w'=>e=.returned (.bool true)∧w'=W):=fun W=>by
     have:=gwithin_any (j:Int) 0 ((K:Int)-1) W;rw[decide_eq_true (by omega)] at this;exact this
    have hPb:=f2.1;obtain⟨X,HX⟩:∃X,Hid (X=wr.alloc (.cells #[.int .i64 port,.int .i64 cost,.int .i64 j,.int .i64 oport,.bool true] 153)):=⟨_,rfl⟩
    have hXB:Bl wr X:=(by rw[HX.out];exact bA1 _ _)
    have hXs:X.heap.size=wr.heap.size+1:=(by rw[HX.out];simp)
    have hXe:X.heap[wr.heap.size]?=some (.cells #[.int .i64 port,.int .i64 cost,.int .i64 j,.int .i64 oport,.bool true] 153):=(by rw[HX.out];exact heap_alloc_last _ _)
    obtain⟨Y,HY⟩:∃Y,Hid (Y=X.alloc (.cells #[.int .u64 (x j).v.root,.int .i64 (x j).v.cost,.int .u64 (x j).v.bridge,.int .i64 oport] 36)):=⟨_,rfl⟩
    have hYX:Bl X Y:=(by rw[HY.out];exact bA1 _ _)
    have hYB:Bl wr Y:=hXB.trans (hYX.mono hXB.size);have hYv:Y.heap[X.heap.size]?=some (.cells #[.int .u64 (x j).v.root,.int .i64 (x j).v.cost,.int .u64 (x j).v.bridge,.int .i64 oport] 36):=(by rw[HY.out];exact heap_alloc_last _ _)
    obtain⟨p0,p1,p2,p3,p4⟩:=(f2.below hXB).cells hj;obtain⟨_,_,_,_,u4⟩:=(f2.below hYB).cells hj;obtain⟨q0,q1,q2,q3,q4⟩:=br_cells hXe;obtain⟨r0,r1,r2,_,_⟩:=br_cells (keep hXe hYX);obtain⟨v0,v1,v2,v3⟩:=vc_cells hYv;rw[if_pos rfl] at hnext;have hYs:Y.heap.size=wr.heap.size+1+1:=(by rw[HY.out,←hXs];simp)
    obtain⟨a1,c1',w2,r,ho2,hk2,hb2⟩:=off_more2 (Zd:=Y.drew) (ownsC_below hO hYB) (Nat.le_trans hB.size hYB.size) hfew (Tk.heardOf x ⟨port,cost,j,oport,true⟩) (Below.drew (Below.refl _ _)) rfl;have HN:Hid (w2.ownsRow w.heap.size 162 7 (.slice a1 (Tk.heard (es.take (k+1)) x).length c1') (Tk.heard (es.take (k+1)) x).length (ofCells (Tk.heard (es.take (k+1)) x))∧Bl w w2):=by
     rw[hnext];exact⟨ho2,(hB.trans (hYB.mono hB.size)).trans hb2⟩
    have HLE:Hid ((Tk.heard (es.take (k+1)) x).length=(Tk.heard (es.take k) x++[Tk.heardOf x ⟨port,cost,j,oport,true⟩]).length):=by show _=_;rw[hnext]
    have HR2:Hid _:=r;simp only[ofA,Tk.heardOf,Int.toNat_natCast] at HR2;have hvl:∀q,wr.heap.size≤q→(Value.slice ao (Tk.heard (es.take k) x).length cap).ownBlock≠some q:=fun q hq p=>by have:=(oCb hO _ p).2;omega
    have hw2e:=(hk2 wr.heap.size (by omega) (hvl _ (Nat.le_refl _))).trans (keep hXe hYX);have hw2v:=(hk2 X.heap.size (by omega) (hvl _ (by omega))).trans hYv;have hw2a:w2.cell? ⟨Pb,j*6+5,none⟩=some (.int .i64 (x j).age):=by
     by_cases q:(Value.slice ao (Tk.heard (es.take k) x).length cap).ownBlock=some Pb
     ·exfalso
      have h1:=(oCb hO _ q).1;have h2:=HPB.out;omega
     ·exact(World.cell?_of_block (hk2 Pb (Nat.lt_of_lt_of_le hPb hYB.size) q)).trans u4
    generalize (x j).age=aj at *;generalize (x j).v=vj at *;obtain⟨vr,vco,vbr,vpt⟩:=vj;simp only at p0 p1 p2 p3 HR2 HY hYv hw2v;obtain⟨B,HB⟩:∃B,Hid (B=wr.heap.size):=⟨_,rfl⟩
    have HS:Hid (∀W,Bl Y W→((W.cell? ⟨B,0,none⟩=some (.int .i64 port)∧W.cell? ⟨B,1,none⟩=some (.int .i64 cost)∧W.cell? ⟨B,2,none⟩=some (.int .i64 j))∧(W.cell? ⟨B+1,0,none⟩=some (.int .u64 vr)∧W.cell? ⟨B+1,1,none⟩=some (.int .i64 vco)∧W.cell? ⟨B+1,2,none⟩=some (.int .u64 vbr)∧W.cell? ⟨B+1,3,none⟩=some (.int .i64 oport))∧W.cell? ⟨Pb,j*6+5,none⟩=some (.int .i64 aj))):=fun W hW=>by
     rw[HB.out];obtain⟨z0,z1,z2,_,_⟩:=br_cells (keep (keep hXe hYX) hW);have hv2:=keep hYv hW;rw[hXs] at hv2;obtain⟨y0,y1,y2,y3⟩:=vc_cells hv2;exact⟨⟨z0,z1,z2⟩,⟨y0,y1,y2,y3⟩,(hW.cell (by exact Nat.lt_of_lt_of_le hPb hYB.size)).trans u4⟩
    have HS2:Hid ((w2.cell? ⟨B,0,none⟩=some (.int .i64 port)∧w2.cell? ⟨B,1,none⟩=some (.int .i64 cost)∧w2.cell? ⟨B,2,none⟩=some (.int .i64 j))∧(w2.cell? ⟨B+1,0,none⟩=some (.int .u64 vr)∧w2.cell? ⟨B+1,1,none⟩=some (.int .i64 vco)∧w2.cell? ⟨B+1,2,none⟩=some (.int .u64 vbr)∧w2.cell? ⟨B+1,3,none⟩=some (.int .i64 oport))∧w2.cell? ⟨Pb,j*6+5,none⟩=some (.int .i64 aj)):=by
     rw[HB.out];obtain⟨z0,z1,z2,_,_⟩:=br_cells hw2e;rw[hXs] at hw2v;obtain⟨y0,y1,y2,y3⟩:=vc_cells hw2v;exact⟨⟨z0,z1,z2⟩,⟨y0,y1,y2,y3⟩,hw2a⟩
    rw[HX.out] at p0 p1 p2 p3 q2 q3 q4;clear hO hB hX f1 f2 hol hnext hmem HRW HOT r ho2 hb2 hk2 hvl hYB hXB hYX hXe hYv p4 q0 q1 r0 r1 r2 v0 v1 v2 v3 hYs hXs hw2e hw2v hw2a u4 hPb;go_wp2_with (go_at_call 32;refine(HW.out _).mono ?_;rintro e w1 ⟨rfl,rfl⟩)
    rw[←HX.out];rw[←HY.out];rw[←HB.out];refine wp_region_held_drew (S:=fun W=>(W.cell? ⟨B,0,none⟩=some (.int .i64 port)∧W.cell? ⟨B,1,none⟩=some (.int .i64 cost)∧W.cell? ⟨B,2,none⟩=some (.int .i64 j))∧(W.cell? ⟨B+1,0,none⟩=some (.int .u64 vr)∧W.cell? ⟨B+1,1,none⟩=some (.int .i64 vco)∧W.cell? ⟨B+1,2,none⟩=some (.int .u64 vbr)∧W.cell? ⟨B+1,3,none⟩=some (.int .i64 oport))∧W.cell? ⟨Pb,j*6+5,none⟩=some (.int .i64 aj)) (by kernel_rfl) (HS.out _ (Below.drew (Below.refl _ _))) (fun hHeld => ?_);refine pheld_take (i:=0) (v := ?_) (some 34) rfl rfl (by kernel_rfl) (by kernel_rfl) (by kernel_rfl) (fun _ _ _ h=>h) (by rfl) ?_ hHeld ?_;rotate_left 1
    ·(intro wq hSw;go_simp;try with_reducible rfl)
    (try simp only[Act.put,lsA,lsZ,lsS])
    refine pheld_take (i:=1) (v := ?_) (some 35) rfl rfl (by kernel_rfl) (by kernel_rfl) (by kernel_rfl) (fun _ _ _ h=>h) (by rfl) ?_ hHeld ?_;rotate_left 1
    ·(intro wq hSw;go_simp;try with_reducible rfl)
    (try simp only[Act.put,lsA,lsZ,lsS])
    refine pheld_take (i:=2) (v := ?_) (some 36) rfl rfl (by kernel_rfl) (by kernel_rfl) (by kernel_rfl) (fun _ _ _ h=>h) (by rfl) ?_ hHeld ?_;rotate_left 1
    ·(intro wq hSw;go_simp;try with_reducible rfl)
    (try simp only[Act.put,lsA,lsZ,lsS])
    refine pheld_take (i:=3) (v := ?_) (some 37) rfl rfl (by kernel_rfl) (by kernel_rfl) (by kernel_rfl) (fun _ _ _ h=>h) (by rfl) ?_ hHeld ?_;rotate_left 1
    ·(intro wq hSw;go_simp;try with_reducible rfl)
    (try simp only[Act.put,lsA,lsZ,lsS])
    refine pheld_take (i:=4) (v := ?_) (some 38) rfl rfl (by kernel_rfl) (by kernel_rfl) (by kernel_rfl) (fun _ _ _ h=>h) (by rfl) ?_ hHeld ?_;rotate_left 1
    ·(intro wq hSw;go_simp;try with_reducible rfl)
    (try simp only[Act.put,lsA,lsZ,lsS])
    refine pheld_take (i:=5) (v := ?_) (some 39) rfl rfl (by kernel_rfl) (by kernel_rfl) (by kernel_rfl) (fun _ _ _ h=>h) (by rfl) ?_ hHeld ?_;rotate_left 1
    ·(intro wq hSw;go_simp;try with_reducible rfl)
    (try simp only[Act.put,lsA,lsZ,lsS])
    refine pheld_take (i:=6) (v := ?_) (some 40) rfl rfl (by kernel_rfl) (by kernel_rfl) (by kernel_rfl) (fun _ _ _ h=>h) (by rfl) ?_ hHeld ?_;rotate_left 1
    ·(intro wq hSw;go_simp;try with_reducible rfl)
    (try simp only[Act.put,lsA,lsZ,lsS])
    refine pheld_take (i:=7) (v := ?_) (some 41) rfl rfl (by kernel_rfl) (by kernel_rfl) (by kernel_rfl) (fun _ _ _ h=>h) (by rfl) ?_ hHeld ?_;rotate_left 1
    ·(intro wq hSw;go_simp;try with_reducible rfl)
    (try simp only[Act.put,lsA,lsZ,lsS])
    refine pheld_take (i:=8) (v := ?_) (some 42) rfl rfl (by kernel_rfl) (by kernel_rfl) (by kernel_rfl) (fun _ _ _ h=>h) (by rfl) ?_ hHeld ?_;rotate_left 1
    ·(intro wq hSw;go_simp;try with_reducible rfl)
    (try simp only[Act.put,lsA,lsZ,lsS])
    refine pheld_take (i:=9) (v := ?_) (some 43) rfl rfl (by kernel_rfl) (by kernel_rfl) (by kernel_rfl) (fun _ _ _ h=>h) (by rfl) ?_ hHeld ?_;rotate_left 1
    ·(intro wq hSw;go_simp;try with_reducible rfl)
    (try simp only[Act.put,lsA,lsZ,lsS])
    refine pheld_take (i:=10) (v := ?_) (some 44) rfl rfl (by kernel_rfl) (by kernel_rfl) (by kernel_rfl) (fun _ _ _ h=>h) (by rfl) ?_ hHeld ?_;rotate_left 1
    ·(intro wq hSw;go_simp;try with_reducible rfl)
    (try simp only[Act.put,lsA,lsZ,lsS])
    refine pheld_take (i:=11) (v := ?_) (some 45) rfl rfl (by kernel_rfl) (by kernel_rfl) (by kernel_rfl) (fun _ _ _ h=>h) (by rfl) ?_ hHeld ?_;rotate_left 1
    ·(intro wq hSw;go_simp;try with_reducible rfl)
    (try simp only[Act.put,lsA,lsZ,lsS])
    refine pheld_take (i:=12) (v := ?_) (some 46) rfl rfl (by kernel_rfl) (by kernel_rfl) (by kernel_rfl) (fun _ _ _ h=>h) (by rfl) ?_ hHeld ?_;rotate_left 1
    ·(intro wq hSw;go_simp;try with_reducible rfl)
    (try simp only[Act.put,lsA,lsZ,lsS])
    refine wpAnyH_ready (rs:=[13]) (by kernel_rfl) (by simp) ?_;refine AllReadyH.cons rfl (fun K hK => ?_) AllReadyH.nil;go_simp;refine hK.out _ _ (HS.out _ ((Below.drew (Below.refl _ _)).alloc (Nat.le_refl _) _)) (fun hHeld => ?_);clear hK K;(try simp only[Act.put,lsA,lsZ,lsS])
    refine wpAnyH_ready (rs:=[14]) (by kernel_rfl) (by simp) ?_;refine AllReadyH.cons rfl (fun K hK => ?_) AllReadyH.nil;refine step_append_d (some 48) rfl rfl (.tmp 34) (.tmp 47) 107 rfl _ _ _ rfl rfl HR2.out ?_;refine hK.out _ _ HS2.out (fun hHeld => ?_);clear hK K;(try simp only[Act.put,lsA,lsZ,lsS])
    refine pheld_take (i:=15) (v := ?_) (some 5) rfl rfl (by kernel_rfl) (by kernel_rfl) (by kernel_rfl) (fun _ _ _ h=>h) (by rfl) ?_ hHeld ?_;rotate_left 1
    ·(intro wq hSw;go_simp;try with_reducible rfl)
    (try simp only[Act.put,lsA,lsZ,lsS])
    refine wpAnyH_done (by kernel_rfl) ?_ _;(go_wp2_with fail);exact⟨⟨k+1,a1,c1',by omega,by go_num,by rw[HLE.out,List.length_append];rfl,HN⟩,by simp[intOf];omega⟩
  ·obtain rfl:k=es.length:=by omega
   obtain⟨hO,hB⟩:=hX.out;rw[List.take_length] at hO;rw[List.take_length];obtain⟨a1,c1,e1,h1,_,h3⟩:=owns_c (by omega) hO;injection e1 with e1 _ e2;subst e1;subst e2;(go_wp2_with fail);go_ret;exact⟨ao,cap,rfl,h1,hB,h3⟩
end
section
open Go.RowKit
open Vc (V Of)
theorem cor4 (a b:V) (g:Nat) (ty:TypeId) (w:World) (h:w.heap[g]?=some (.cells #[.int .i64 (sg a.root b.root),.int .i64 (sg a.cost b.cost),.int .i64 (sg a.bridge b.bridge),.int .i64 (sg a.port b.port)] ty (0,0))) :
  Calls Tryz.prog 164 #[.slice (some ⟨g,0,none⟩) 4 4] w fun e w'=>e=.returned (.int .i64 (Vc.cmp a b))∧w'=w:=by
 rw[←orTo_sg4];obtain⟨c0,c1,c2,c3⟩:=vc_cells h;refine cor_any g 0 4 4 (sg4 a b) w (by omega) (by omega) (fun i hi => ?_);rcases(by omega:i=0∨i=1∨i=2∨i=3) with e | e | e | e<;>subst e
 ·exact c0
 ·exact c1
 ·exact c2
 ·exact c3
theorem below_drew_alloc {n:Nat}{w w':World}(h:Below n w w') (hn:n≤w'.heap.size) (o:Obj):Below n w (w'.drew.alloc o):=(Below.drew h).alloc hn o
theorem vcompare_any (a b:V) (w:World) :
  Calls Tryz.prog 165 #[.agg #[.int .u64 a.root,.int .i64 a.cost,.int .u64 a.bridge,.int .i64 a.port],.agg #[.int .u64 b.root,.int .i64 b.cost,.int .u64 b.bridge,.int .i64 b.port]] w fun e w'=>e=.returned (.int .i64 (Vc.cmp a b))∧Bl w w':=by
 obtain⟨W0,HW0⟩:∃W0,Hid (W0=(w.alloc (.cells #[.int .u64 a.root,.int .i64 a.cost,.int .u64 a.bridge,.int .i64 a.port] 36)).alloc (.cells #[.int .u64 b.root,.int .i64 b.cost,.int .u64 b.bridge,.int .i64 b.port] 36)):=⟨_,rfl⟩
 have HB0:Hid (Bl w W0):=(by rw[HW0.out];exact bA2 _ _ _)
 have HBB:Hid (Bl W0 W0):=Below.refl _ _;have HC:Hid (∀W,Bl W0 W→W.cell? ⟨w.heap.size,0,none⟩=some (.int .u64 a.root)∧W.cell? ⟨w.heap.size,1,none⟩=some (.int .i64 a.cost)∧W.cell? ⟨w.heap.size,2,none⟩=some (.int .u64 a.bridge)∧W.cell? ⟨w.heap.size,3,none⟩=some (.int .i64 a.port)∧W.cell? ⟨w.heap.size+1,0,none⟩=some (.int .u64 b.root)∧W.cell? ⟨w.heap.size+1,1,none⟩=some (.int .i64 b.cost)∧W.cell? ⟨w.heap.size+1,2,none⟩=some (.int .u64 b.bridge)∧W.cell? ⟨w.heap.size+1,3,none⟩=some (.int .i64 b.port)):=fun W hW=>by
  rw[HW0.out] at hW;have h1:=vc_cells (keep (heap_alloc2_old w _ _) hW);have h2:=vc_cells (keep (heap_alloc2_new w _ _) hW);exact⟨h1.1,h1.2.1,h1.2.2.1,h1.2.2.2,h2.1,h2.2.1,h2.2.2.1,h2.2.2.2⟩
 have HOR:Hid (∀(g:Nat) (ty:TypeId) (W:World),W.heap[g]?=some (.cells #[.int .i64 (sg a.root b.root),.int .i64 (sg a.cost b.cost),.int .i64 (sg a.bridge b.bridge),.int .i64 (sg a.port b.port)] ty (0,0))→Calls Tryz.prog 164 #[.slice (some ⟨g,0,none⟩) 4 4] W fun e w'=>e=.returned (.int .i64 (Vc.cmp a b))∧w'=W):=fun g ty W h=>cor4 a b g ty W h;have HL:Hid (∀W,Bl W0 W→Bl w W):=fun W hW=>HB0.out.trans (hW.mono HB0.out.size);obtain⟨c0,c1,c2,c3,d0,d1,d2,d3⟩:=HC.out W0 HBB.out;go_enter Tryz.func165,Tryz.ntmps165;(go_wp2_with fail);rw[←HW0.out];go_region_held3 (fun W=>W.cell? ⟨w.heap.size,0,none⟩=some (.int .u64 a.root)∧W.cell? ⟨w.heap.size,1,none⟩=some (.int .i64 a.cost)∧W.cell? ⟨w.heap.size,2,none⟩=some (.int .u64 a.bridge)∧W.cell? ⟨w.heap.size,3,none⟩=some (.int .i64 a.port)∧W.cell? ⟨w.heap.size+1,0,none⟩=some (.int .u64 b.root)∧W.cell? ⟨w.heap.size+1,1,none⟩=some (.int .i64 b.cost)∧W.cell? ⟨w.heap.size+1,2,none⟩=some (.int .u64 b.bridge)∧W.cell? ⟨w.heap.size+1,3,none⟩=some (.int .i64 b.port))
  (first | (exact HC.out _ (Below.drew HBB.out)) | (exact HC.out _ (below_drew_alloc HBB.out (Nat.le_refl _) _)))
  (first | (go_at_call 201;refine(ccmpu_any _ _ _).mono ?_;rintro e w1 ⟨rfl,rfl⟩) | (go_at_call 73;refine(ccmpi_any _ _ _).mono ?_;rintro e w1 ⟨rfl,rfl⟩) | (go_at_call 164;refine(HOR.out _ _ _ (heap_alloc_last W0.drew _)).mono ?_;rintro e w1 ⟨rfl,rfl⟩))
 (go_wp2_with fail);go_ret;exact⟨rfl,HL.out _ (below_drew_alloc HBB.out (Nat.le_refl _) _)⟩
theorem vbetter_any (a b:V) (w:World) :
  Calls Tryz.prog 119 #[.agg #[.int .u64 a.root,.int .i64 a.cost,.int .u64 a.bridge,.int .i64 a.port],.agg #[.int .u64 b.root,.int .i64 b.cost,.int .u64 b.bridge,.int .i64 b.port]] w fun e w'=>e=.returned (.bool (decide (Vc.lt a b)))∧Bl w w':=by
 obtain⟨W0,HW0⟩:∃W0,Hid (W0=(w.alloc (.cells #[.int .u64 a.root,.int .i64 a.cost,.int .u64 a.bridge,.int .i64 a.port] 36)).alloc (.cells #[.int .u64 b.root,.int .i64 b.cost,.int .u64 b.bridge,.int .i64 b.port] 36)):=⟨_,rfl⟩
 have HB0:Hid (Bl w W0):=(by rw[HW0.out];exact bA2 _ _ _)
 have HCM:Hid (∀W,Calls Tryz.prog 165 #[.agg #[.int .u64 a.root,.int .i64 a.cost,.int .u64 a.bridge,.int .i64 a.port],.agg #[.int .u64 b.root,.int .i64 b.cost,.int .u64 b.bridge,.int .i64 b.port]] W fun e w'=>e=.returned (.int .i64 (Vc.cmp a b))∧Bl W w'):=fun W=>vcompare_any a b W;have HD:Hid (decide (Vc.cmp a b<0)=decide (Vc.lt a b)):=by
  by_cases h:Vc.lt a b
  ·exact(decide_eq_true (Vc.cmp_lt.2 h)).trans (decide_eq_true h).symm
  ·exact(decide_eq_false (fun q=>h (Vc.cmp_lt.1 q))).trans (decide_eq_false h).symm
 go_enter Tryz.func119,Tryz.ntmps119;(go_wp2_with fail);rw[←HW0.out];refine(HCM.out _).mono ?_;rintro e w1 ⟨rfl,hb1⟩;have HB1:Hid (Bl w w1):=HB0.out.trans (hb1.mono HB0.out.size);clear hb1;(go_wp2_with fail);go_ret;exact⟨by rw[←HD.out];rfl,HB1.out⟩
theorem vover_any (v:V) (c:Int) (w:World) :
  Calls Tryz.prog 200 #[.agg #[.int .u64 v.root,.int .i64 v.cost,.int .u64 v.bridge,.int .i64 v.port],.int .i64 c] w fun e w'=>e=.returned (.tuple #[.agg (vA (Vc.overV v c)),.bool (decide (Vc.fitsOver v c))])∧Bl w w':=by
 unfold Vc.overV;obtain⟨vr,vc,vb,vp⟩:=v;have HW1:Hid (∀W,Calls Tryz.prog 32 #[.int .i64 c,.int .i64 0,.int .i64 1000000000] W fun e w'=>e=.returned (.bool (decide (0≤c∧c≤1000000000)))∧w'=W):=fun W=>vwithin_any c 0 1000000000 W;have HW2:Hid (∀W,Calls Tryz.prog 32 #[.int .i64 vc,.int .i64 0,.int .i64 (1000000000-c)] W fun e w'=>e=.returned (.bool (decide (0≤vc∧vc≤1000000000-c)))∧w'=W):=fun W=>vwithin_any vc 0 (1000000000-c) W;have HF:Hid (Vc.fitsOver ⟨vr,vc,vb,vp⟩ c↔(0≤c∧c≤1000000000)∧(0≤vc∧vc≤1000000000-c)):=by
  show((0≤vc∧vc≤1000000000)∧(0≤c∧c≤1000000000)∧vc+c≤1000000000)↔_;omega
 simp only;by_cases h1:0≤c∧c≤1000000000
 ·rw[decide_eq_true h1] at HW1;obtain⟨a1,a2⟩:=h1;by_cases h2:0≤vc∧vc≤1000000000-c
  ·rw[decide_eq_true h2] at HW2;have h:Vc.fitsOver ⟨vr,vc,vb,vp⟩ c:=HF.out.2 ⟨⟨a1,a2⟩,h2⟩;rw[if_pos h,decide_eq_true h];obtain⟨b1,b2⟩:=h2;have b3:vc+c≤1000000000:=(by omega)
   clear HF h;go_enter Tryz.func200,Tryz.ntmps200;(go_wp2_with fail);refine(HW1.out _).mono ?_;rintro e w1 ⟨rfl,rfl⟩;(go_wp2_with fail);refine(HW2.out _).mono ?_;rintro e w1 ⟨rfl,rfl⟩;(go_wp2_with fail);exact bodyPost_ret (v:=.tuple #[.agg (vA (Vc.add ⟨vr,vc,vb,vp⟩ c)),.bool true]) (rRt (p:=4) (u:=5) (ty:=36) Tryz.results200 _ _ (w.heap.size+1) 36 (vA (Vc.add ⟨vr,vc,vb,vp⟩ c)) (0,0) _ rfl (heap_alloc2_new w _ _) Tryz.underlying36 rfl (by rw[sizeVc];rfl)) rfl ⟨rfl,bA2 _ _ _⟩
  ·rw[decide_eq_false h2] at HW2;have h:¬Vc.fitsOver ⟨vr,vc,vb,vp⟩ c:=fun q=>h2 (HF.out.1 q).2;rw[if_neg h,decide_eq_false h];clear HF h h2;go_enter Tryz.func200,Tryz.ntmps200;(go_wp2_with fail);refine(HW1.out _).mono ?_;rintro e w1 ⟨rfl,rfl⟩;(go_wp2_with fail);refine(HW2.out _).mono ?_;rintro e w1 ⟨rfl,rfl⟩;(go_wp2_with fail);exact bodyPost_ret (v:=.tuple #[.agg (vA Vc.v0),.bool false]) (rRt (p:=4) (u:=5) (ty:=36) Tryz.results200 _ _ (w.heap.size+1) 36 (vA Vc.v0) (0,0) _ rfl (heap_alloc2_new w _ _) Tryz.underlying36 rfl (by rw[sizeVc];rfl)) rfl ⟨rfl,bA2 _ _ _⟩
 ·rw[decide_eq_false h1] at HW1;have h:¬Vc.fitsOver ⟨vr,vc,vb,vp⟩ c:=fun q=>h1 (HF.out.1 q).1;rw[if_neg h,decide_eq_false h];clear HF h h1 HW2;go_enter Tryz.func200,Tryz.ntmps200;(go_wp2_with fail);refine(HW1.out _).mono ?_;rintro e w1 ⟨rfl,rfl⟩;(go_wp2_with fail);exact bodyPost_ret (v:=.tuple #[.agg (vA Vc.v0),.bool false]) (rRt (p:=4) (u:=5) (ty:=36) Tryz.results200 _ _ (w.heap.size+1) 36 (vA Vc.v0) (0,0) _ rfl (heap_alloc2_new w _ _) Tryz.underlying36 rfl (by rw[sizeVc];rfl)) rfl ⟨rfl,bA2 _ _ _⟩
def mayV (id:Int) (o:Of):V:=if Vc.may id o then o.v else Vc.v0
theorem vmay_any (id:Int) (o:Of) (w:World) :
  Calls Tryz.prog 163 #[.int .u64 id,.agg #[.int .i64 o.port,.int .i64 o.cost,.int .i64 o.age,.int .u64 o.vec.root,.int .i64 o.vec.cost,.int .u64 o.vec.bridge,.int .i64 o.vec.port]] w fun e w'=>e=.returned (.tuple #[.agg (vA (mayV id o)),.bool (decide (Vc.may id o))])∧Bl w w':=by
 obtain⟨op,oc,oa,⟨vr,vc,vb,vp⟩⟩:=o;have HM:Hid (Vc.may id ⟨op,oc,oa,⟨vr,vc,vb,vp⟩⟩↔Vc.fitsOver ⟨vr,vc,vb,vp⟩ oc∧0≤op∧(0≤oa∧oa<20)∧vr<id):=Iff.rfl;have HNO:Hid (¬Vc.may id ⟨op,oc,oa,⟨vr,vc,vb,vp⟩⟩→(Ending.returned (.tuple #[.agg (vA (mayV id ⟨op,oc,oa,⟨vr,vc,vb,vp⟩⟩)),.bool (decide (Vc.may id ⟨op,oc,oa,⟨vr,vc,vb,vp⟩⟩))]):Ending)=.returned (.tuple #[.agg (vA Vc.v0),.bool false])):=fun h=>by
  unfold mayV;rw[if_neg h,decide_eq_false h]
 have HYES:Hid (0≤op∧(0≤oa∧oa<20)∧vr<id→(Ending.returned (.tuple #[.agg (vA (mayV id ⟨op,oc,oa,⟨vr,vc,vb,vp⟩⟩)),.bool (decide (Vc.may id ⟨op,oc,oa,⟨vr,vc,vb,vp⟩⟩))]):Ending)=.returned (.tuple #[.agg (vA (Vc.overV ⟨vr,vc,vb,vp⟩ oc)),.bool (decide (Vc.fitsOver ⟨vr,vc,vb,vp⟩ oc))])):=fun h=>by
  unfold mayV Vc.overV;by_cases hf:Vc.fitsOver ⟨vr,vc,vb,vp⟩ oc
  ·rw[if_pos (HM.out.2 ⟨hf,h⟩),if_pos hf,decide_eq_true (HM.out.2 ⟨hf,h⟩),decide_eq_true hf];rfl
  ·have hm:¬Vc.may id ⟨op,oc,oa,⟨vr,vc,vb,vp⟩⟩:=fun q=>hf (HM.out.1 q).1;rw[if_neg hm,if_neg hf,decide_eq_false hm,decide_eq_false hf]
 have HWI:Hid (∀W,Calls Tryz.prog 32 #[.int .i64 oa,.int .i64 0,.int .i64 19] W fun e w'=>e=.returned (.bool (decide (0≤oa∧oa≤19)))∧w'=W):=fun W=>vwithin_any oa 0 19 W;have HOV:Hid (∀W,Calls Tryz.prog 200 #[.agg #[.int .u64 vr,.int .i64 vc,.int .u64 vb,.int .i64 vp],.int .i64 oc] W fun e w'=>e=.returned (.tuple #[.agg (vA (Vc.overV ⟨vr,vc,vb,vp⟩ oc)),.bool (decide (Vc.fitsOver ⟨vr,vc,vb,vp⟩ oc))])∧Bl W w'):=fun W=>vover_any ⟨vr,vc,vb,vp⟩ oc W;simp only;obtain⟨R,hR⟩:∃R:Ending,(Ending.returned (.tuple #[.agg (vA (mayV id ⟨op,oc,oa,⟨vr,vc,vb,vp⟩⟩)),.bool (decide (Vc.may id ⟨op,oc,oa,⟨vr,vc,vb,vp⟩⟩))]):Ending)=R:=⟨_,rfl⟩
 rw[hR] at HNO HYES ⊢;clear hR;by_cases q1:op<0
 ·have HF:Hid _:=HNO.out (fun q=>by have:=(HM.out.1 q).2.1;omega);rw[HF.out];clear HNO HYES HM HF;go_enter Tryz.func163,Tryz.ntmps163;(go_wp2_with fail);exact bodyPost_ret (v:=.tuple #[.agg (vA Vc.v0),.bool false]) (rRt (p:=4) (u:=5) (ty:=36) Tryz.results163 _ _ (w.heap.size+1) 36 (vA Vc.v0) (0,0) _ rfl (heap_alloc2_new w _ _) Tryz.underlying36 rfl (by rw[sizeVc];rfl)) rfl ⟨rfl,bA2 _ _ _⟩
 ·by_cases q2:0≤oa∧oa≤19
  ·rw[decide_eq_true q2] at HWI;by_cases q3:id≤vr
   ·have HF:Hid _:=HNO.out (fun q=>by have:=(HM.out.1 q).2.2.2;omega);rw[HF.out];clear HNO HYES HM HF q2;go_enter Tryz.func163,Tryz.ntmps163;(go_wp2_with fail);refine(HWI.out _).mono ?_;rintro e w1 ⟨rfl,rfl⟩;(go_wp2_with fail);exact bodyPost_ret (v:=.tuple #[.agg (vA Vc.v0),.bool false]) (rRt (p:=4) (u:=5) (ty:=36) Tryz.results163 _ _ (w.heap.size+1) 36 (vA Vc.v0) (0,0) _ rfl (heap_alloc2_new w _ _) Tryz.underlying36 rfl (by rw[sizeVc];rfl)) rfl ⟨rfl,bA2 _ _ _⟩
   ·have HF:Hid _:=HYES.out ⟨by omega,⟨by omega,by omega⟩,by omega⟩;rw[HF.out];clear HNO HYES HM HF q2;generalize Vc.overV ⟨vr,vc,vb,vp⟩ oc=z at *;generalize decide (Vc.fitsOver ⟨vr,vc,vb,vp⟩ oc)=bz at *;obtain⟨z0,z1,z2,z3⟩:=z;obtain⟨W0,HW0⟩:∃W0,Hid (W0=(w.alloc (.cells #[.int .i64 op,.int .i64 oc,.int .i64 oa,.int .u64 vr,.int .i64 vc,.int .u64 vb,.int .i64 vp] 162)).alloc (.cells #[.int .u64 0,.int .i64 0,.int .u64 0,.int .i64 0] 36)):=⟨_,rfl⟩
    have HB0:Hid (Bl w W0):=(by rw[HW0.out];exact bA2 _ _ _)
    have HR0:Hid (W0.heap[w.heap.size+1]?=some (.cells #[.int .u64 0,.int .i64 0,.int .u64 0,.int .i64 0] 36)):=(by rw[HW0.out];exact heap_alloc2_new _ _ _)
    go_enter Tryz.func163,Tryz.ntmps163;(go_wp2_with fail);refine(HWI.out _).mono ?_;rintro e w1 ⟨rfl,rfl⟩;(go_wp2_with fail);rw[←HW0.out];refine(HOV.out _).mono ?_;rintro e w1 ⟨rfl,hb1⟩;have HX:Hid (w1.heap[w.heap.size+1]?=some (.cells #[.int .u64 0,.int .i64 0,.int .u64 0,.int .i64 0] 36)):=keep HR0.out hb1;obtain⟨c0,c1,c2,c3⟩:=vc_cells HX.out;obtain⟨f0,f1,f2,f3⟩:=vc_free HX.out;have HLB:Hid (Bl w w1):=HB0.out.trans (hb1.mono HB0.out.size);clear hb1;simp only[vA];(go_wp2_with fail);have hle:w.heap.size≤w.heap.size+1:=(by omega)
    exact bodyPost_ret (v:=.tuple #[.agg #[.int .u64 z0,.int .i64 z1,.int .u64 z2,.int .i64 z3],.bool bz]) (rRt (p:=4) (u:=5) (ty:=36) Tryz.results163 _ _ (w.heap.size+1) 36 #[.int .u64 z0,.int .i64 z1,.int .u64 z2,.int .i64 z3] (0,0) _ rfl (vc_set4 HX.out) Tryz.underlying36 rfl (by rw[sizeVc];rfl)) rfl ⟨rfl,(((HLB.out.setCell hle _).setCell hle _).setCell hle _).setCell hle _⟩
  ·rw[decide_eq_false q2] at HWI;have HF:Hid _:=HNO.out (fun q=>by have:=(HM.out.1 q).2.2.1;omega);rw[HF.out];clear HNO HYES HM HF q2;go_enter Tryz.func163,Tryz.ntmps163;(go_wp2_with fail);refine(HWI.out _).mono ?_;rintro e w1 ⟨rfl,rfl⟩;(go_wp2_with fail);exact bodyPost_ret (v:=.tuple #[.agg (vA Vc.v0),.bool false]) (rRt (p:=4) (u:=5) (ty:=36) Tryz.results163 _ _ (w.heap.size+1) 36 (vA Vc.v0) (0,0) _ rfl (heap_alloc2_new w _ _) Tryz.underlying36 rfl (by rw[sizeVc];rfl)) rfl ⟨rfl,bA2 _ _ _⟩
end
end Go.Proofs.YtflghpnpjmodaaaGreatDoor
