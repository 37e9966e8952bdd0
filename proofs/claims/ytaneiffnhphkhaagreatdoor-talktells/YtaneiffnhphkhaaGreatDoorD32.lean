/- walks: the document's Tick -/
import Derived.Test.YtaneiffnhphkhaaGreatDoorD28
import Derived.Test.YtaneiffnhphkhaaGreatDoorD29
import Derived.Test.YtaneiffnhphkhaaGreatDoorD31
import Derived.Test.YtaneiffnhphkhaaGreatDoorD22
set_option maxRecDepth 100000
set_option maxHeartbeats 40000000
namespace Go.Proofs.YtaneiffnhphkhaaGreatDoor
section
open Go.RowKit
open Vc (V Of)
open Pl (En Lk Br Net LN lf)
open Tk (Md Mnd Cn Sc Dn)
theorem five_set {W:World}{a b c:Nat}{x0 x1 x2 x3 x4 v0 v1 v2 v3 v4:Value}{t1 t2 t3:TypeId}(h1:W.heap[a]?=some (.cells #[x0,x1] t1)) (h2:W.heap[b]?=some (.cells #[x2] t2)) (h3:W.heap[c]?=some (.cells #[x3,x4] t3)) (ab:a≠b) (ac:a≠c) (bc:b≠c) :
  (((((W.setCell ⟨a,0,none⟩ v0).setCell ⟨a,1,none⟩ v1).setCell ⟨b,0,none⟩ v2).setCell ⟨c,0,none⟩ v3).setCell ⟨c,1,none⟩ v4).heap[a]?=some (.cells #[v0,v1] t1) ∧
  (((((W.setCell ⟨a,0,none⟩ v0).setCell ⟨a,1,none⟩ v1).setCell ⟨b,0,none⟩ v2).setCell ⟨c,0,none⟩ v3).setCell ⟨c,1,none⟩ v4).heap[b]?=some (.cells #[v2] t2) ∧
  (((((W.setCell ⟨a,0,none⟩ v0).setCell ⟨a,1,none⟩ v1).setCell ⟨b,0,none⟩ v2).setCell ⟨c,0,none⟩ v3).setCell ⟨c,1,none⟩ v4).heap[c]?=some (.cells #[v3,v4] t3) :=
 ⟨set_keep (set_keep (set_keep (set2_same h1) ab) ac) ac,set_keep (set_keep (set1_same (set_keep (set_keep h2 ab.symm) ab.symm)) bc) bc,set2_same (set_keep (set_keep (set_keep h3 ac.symm) ac.symm) bc.symm)⟩
theorem ron1_any (e a:Int) (w:World):Calls Tryz.prog 42 #[.int .i64 e,.int .i64 a] w fun r w'=>r=.returned (.tuple #[.agg #[.slice none 0 0,.slice none 0 0],.agg #[.slice none 0 0],.agg #[.int .i64 e,.int .i64 a]])∧Bl w w':=by
 obtain⟨X,HX⟩:∃X,Hid (X=((w.alloc (.cells #[.slice none 0 0,.slice none 0 0] 25)).alloc (.cells #[.slice none 0 0] 29)).alloc (.cells #[.int .i64 e,.int .i64 a] 32)):=⟨_,rfl⟩
 have hXB:Bl w X:=(by rw[HX.out];exact(bA2 _ _ _).alloc (by simp;omega) _)
 have g0:X.heap[w.heap.size]?=some (.cells #[.slice none 0 0,.slice none 0 0] 25):=(by rw[HX.out];exact keep (heap_alloc2_old _ _ _) (bA1 _ _))
 have g1:X.heap[w.heap.size+1]?=some (.cells #[.slice none 0 0] 29):=(by rw[HX.out];exact keep (heap_alloc2_new _ _ _) (bA1 _ _))
 have g2:X.heap[w.heap.size+1+1]?=some (.cells #[.int .i64 e,.int .i64 a] 32):=by
  have:w.heap.size+1+1=((w.alloc (.cells #[.slice none 0 0,.slice none 0 0] 25)).alloc (.cells #[.slice none 0 0] 29)).heap.size:=by simp
  rw[HX.out,this];exact heap_alloc_last _ _
 have HG:Hid (X.heap[w.heap.size]?=some (.cells #[.slice none 0 0,.slice none 0 0] 25)∧X.heap[w.heap.size+1]?=some (.cells #[.slice none 0 0] 29)∧X.heap[w.heap.size+1+1]?=some (.cells #[.int .i64 e,.int .i64 a] 32)∧Bl w X):=⟨g0,g1,g2,hXB⟩
 clear hXB g0 g1 g2;go_enter Tryz.func42,Tryz.ntmps42;(go_wp2_with fail);rw[←HX.out];exact bodyPost_ret (v:=.tuple #[.agg #[.slice none 0 0,.slice none 0 0],.agg #[.slice none 0 0],.agg #[.int .i64 e,.int .i64 a]]) (results_row3 Tryz.results42 _ _ w.heap.size (w.heap.size+1) (w.heap.size+1+1) 25 29 32 #[.slice none 0 0,.slice none 0 0] #[.slice none 0 0] #[.int .i64 e,.int .i64 a] (0,0) (0,0) (0,0) _ _ _ rfl rfl rfl HG.out.1 HG.out.2.1 HG.out.2.2.1 Tryz.underlying25 Tryz.underlying29 Tryz.underlying32 rfl rfl rfl (by rw[sizeNt];rfl) (by rw[sizeTk];rfl) (by rw[sizeFt];rfl)) rfl ⟨rfl,HG.out.2.2.2⟩
structure RB (w V:World) (RN RT RF:Nat):Prop where
 n:V.heap[RN]?=some (.cells #[.slice none 0 0,.slice none 0 0] 25)
 t:V.heap[RT]?=some (.cells #[.slice none 0 0] 29)
 f:V.heap[RF]?=some (.cells #[.int .i64 0,.int .i64 0] 32)
 low:Bl w V
theorem RB.below {w V V':World}{RN RT RF:Nat}(h:RB w V RN RT RF) (hb:Bl V V'):RB w V' RN RT RF:=⟨keep h.n hb,keep h.t hb,keep h.f hb,h.low.trans (hb.mono h.low.size)⟩
theorem RB.cells {w V:World}{RN RT RF:Nat}(h:RB w V RN RT RF):(V.cell? ⟨RN,0,none⟩=some (.slice none 0 0)∧V.cell? ⟨RN,1,none⟩=some (.slice none 0 0))∧V.cell? ⟨RT,0,none⟩=some (.slice none 0 0)∧(V.cell? ⟨RF,0,none⟩=some (.int .i64 0)∧V.cell? ⟨RF,1,none⟩=some (.int .i64 0))∧(V.frozen? ⟨RN,0,none⟩=false∧V.frozen? ⟨RN,1,none⟩=false)∧V.frozen? ⟨RT,0,none⟩=false∧V.frozen? ⟨RF,0,none⟩=false∧V.frozen? ⟨RF,1,none⟩=false :=
 ⟨tC2 h.n,one_cell h.t,tC2 h.f,⟨frozen_of_row _ _ _ _ _ h.n,frozen_of_row _ _ _ _ _ h.n⟩,frozen_of_row _ _ _ _ _ h.t,frozen_of_row _ _ _ _ _ h.f,frozen_of_row _ _ _ _ _ h.f⟩
theorem OnS.rb {w W:World}{BN BT RN RT RF:Nat}{n:Net}{M:Nat→Prop}{T:Nat}{s:Sc}{n':Net}{oao:Option Addr}{ocap:Nat}{t':List Tr}(h:OnS w W BN BT RN RT RF n M T s n' oao ocap t'):RB w W RN RT RF:=⟨h.rN,h.rT,h.rF,h.low⟩
theorem own_emp9 (W:World) (e k:Nat) {lo:Nat}(hl:lo≤W.heap.size):(W.alloc (.cells #[] e)).ownsRow lo e k (.slice (some ⟨W.heap.size,0,none⟩) 0 0) 0 (cellsL 0 k (fun _ _=>.int .i64 0)) :=
 ⟨cellsL_length _ _ _,Or.inr ⟨W.heap.size,0,#[],rfl,hl,heap_alloc_last _ _,Nat.le_refl _,by unfold maxLen;omega,by simp,by simp[cellsL]⟩⟩
theorem cp_br {W:World}{ao:Option Addr}{K cap:Nat}{bs:Nat→Br}(hr:BRow W ao K cap bs) (hnil:NilOk ao K cap) (hn:K≤1000) :
  ∃a1 c1 w',(Builtin.append_ #[22,22] 22 #[.slice (some ⟨W.heap.size,0,none⟩) 0 0,.slice ao K cap]).run Tryz.prog (W.alloc (.cells #[] 74))=.ok (.slice a1 K c1) w'∧w'.ownsRow W.heap.size 74 5 (.slice a1 K c1) K (cellsL K 5 (fun i=>brC (bs i)))∧Bl W w':=by
 have hb1:=bA1 W (.cells #[] 74);obtain⟨a1,c1,w',r,o,b,_⟩:=append_c (W.alloc (.cells #[] 74)) 22 74 _ 5 80 Tryz.underlying22 infoC_br rfl (by omega) W.heap.size _ 0 _ (own_emp9 W 74 5 (Nat.le_refl _)) ao K cap (fun i=>brC (bs i)) (fun _ j=>brC_one _ j) (CRow.below hr hb1) hnil (by unfold maxLen;omega) (by omega) hb1.size;rw[Nat.zero_add] at r o;rw[cellsL_congr K 5 _ (fun i=>brC (bs i)) (fun i hi=>by unfold catC;rw[if_neg (by omega),Nat.sub_zero])] at o;exact⟨a1,c1,w',r,o,hb1.trans b⟩
theorem cp_lk {W:World}{ao:Option Addr}{K cap:Nat}{ls:Nat→Lk}(hr:LRow W ao K cap ls) (hnil:NilOk ao K cap) (hn:K≤1000) :
  ∃a1 c1 w',(Builtin.append_ #[23,23] 23 #[.slice (some ⟨W.heap.size,0,none⟩) 0 0,.slice ao K cap]).run Tryz.prog (W.alloc (.cells #[] 83))=.ok (.slice a1 K c1) w'∧w'.ownsRow W.heap.size 83 6 (.slice a1 K c1) K (cellsL K 6 (fun i=>lkC (ls i)))∧Bl W w':=by
 have hb1:=bA1 W (.cells #[] 83);obtain⟨a1,c1,w',r,o,b,_⟩:=append_c (W.alloc (.cells #[] 83)) 23 83 _ 6 48 Tryz.underlying23 infoC_lk rfl (by omega) W.heap.size _ 0 _ (own_emp9 W 83 6 (Nat.le_refl _)) ao K cap (fun i=>lkC (ls i)) (fun _ j=>lkC_one _ j) (CRow.below hr hb1) hnil (by unfold maxLen;omega) (by omega) hb1.size;rw[Nat.zero_add] at r o;rw[cellsL_congr K 6 _ (fun i=>lkC (ls i)) (fun i hi=>by unfold catC;rw[if_neg (by omega),Nat.sub_zero])] at o;exact⟨a1,c1,w',r,o,hb1.trans b⟩
theorem cp_int {W:World}{ao:Option Addr}{cap:Nat}{l:List Int}(hr:IRow W ao l.length cap (IL l)) (hnil:NilOk ao l.length cap) (hn:l.length≤1000) :
  ∃a1 c1 w',(Builtin.append_ #[59,59] 59 #[.slice (some ⟨W.heap.size,0,none⟩) 0 0,.slice ao l.length cap]).run Tryz.prog (W.alloc (.cells #[] 3))=.ok (.slice a1 l.length c1) w'∧w'.ownsRow W.heap.size 3 1 (.slice a1 l.length c1) l.length (intCells l)∧Bl W w':=by
 have hb1:=bA1 W (.cells #[] 3);obtain⟨a1,c1,w',r,o,b,_⟩:=append_c (W.alloc (.cells #[] 3)) 59 3 _ 1 8 Tryz.underlying59 infoI rfl (by omega) W.heap.size _ 0 _ (own_emp9 W 3 1 (Nat.le_refl _)) ao l.length cap (fun i _=>.int .i64 (IL l i)) (fun _ _=>rfl) (CRow.below hr hb1) hnil (by unfold maxLen;omega) (by omega) hb1.size;rw[Nat.zero_add] at r o;rw[cellsL_congr l.length 1 _ (fun i _=>.int .i64 (IL l i)) (fun i hi=>by unfold catC;rw[if_neg (by omega),Nat.sub_zero])] at o;exact⟨a1,c1,w',r,o,hb1.trans b⟩
theorem int_put {W:World}{base cap x:Nat}{ao:Option Addr}{l:List Int}(h:W.ownsRow base 3 1 (.slice ao l.length cap) l.length (intCells l)) (hx:x<l.length) (z:Int) :
  ∃g,ao=some ⟨g,0,none⟩∧base≤g∧l.length≤cap∧W.frozen? ⟨g,x,none⟩=false∧W.cell? ⟨g,x,none⟩=some (.int .i64 (IL l x))∧(W.setCell ⟨g,x,none⟩ (.int .i64 z)).ownsRow base 3 1 (.slice ao (l.set x z).length cap) (l.set x z).length (intCells (l.set x z)):=by
 rcases owns_rowS h with⟨_,e⟩ | ⟨g,cap',sp,e1,e2,e3,e4,e5,e6⟩
 ·omega
 ·injection e1 with e1 _ e7;subst e1 e7;have hc:=rowS_cell e6 hx (show 0<1 by omega);rw[show x*1+0=x by omega] at hc;refine⟨g,rfl,e2,e3,frozen_of_row _ _ _ _ _ e6,hc,?_⟩;have h0:=rowS_set e6 hx (show 0<1 by omega) (.int .i64 z);rw[show x*1+0=x by omega] at h0;rw[List.length_set];have h1:=rowS_owns (base:=base) (c:=fun a _=>.int .i64 (IL (l.set x z) a)) e2 e3 e4 e5 (h0.trans (congrArg (fun a=>some (Obj.cells a 3)) (rowS_congr2 sp (fun a ha y hy=>by
   unfold updC IL;by_cases q:a=x
   ·subst q;rw[if_pos ⟨rfl,by omega⟩];simp[ha]
   ·rw[if_neg (fun p=>q p.1)];have:x≠a:=fun e=>q e.symm;simp[this]))))
  unfold intCells;rw[List.length_set];exact h1
def RonW (w:World) (N:Nat→Prop) (n:Net) (t:List Tr) (ms:Nat→Nat→Mnd) (ds:Nat→Dn) (dn:Nat) (e:Ending) (w':World):Prop :=
 Bl w w'∧(((onErr n t ds dn).1≠0∧e=.returned (.tuple #[.agg #[.slice none 0 0,.slice none 0 0],.agg #[.slice none 0 0],.agg #[.int .i64 (onErr n t ds dn).1,.int .i64 (onErr n t ds dn).2]])) ∨
  ((onErr n t ds dn).1=0∧∃(n':Net) (oao:Option Addr) (ocap:Nat) (t':List Tr),e=.returned (.tuple #[n'.val,.agg #[.slice oao t'.length ocap],.agg #[.int .i64 0,.int .i64 0]])∧Bz N w' (fun V=>SnOut V n t.length ((n.sc ms).all n.cn ds dn) n' oao ocap t')))
end
section
open Go.RowKit
open Vc (V Of)
open Pl (En Lk Br Net LN lf)
open Tk (Md Mnd)
theorem va_drew {W:World}{g K:Nat}{v:Nat→V}(h:VaAt W g K v):VaAt W.drew g K v:=h
theorem ia_drew {W:World}{g K:Nat}{f:Nat→Int}(h:IaAt W g K f):IaAt W.drew g K f:=h
def mnd0 (l:List Mi) (j:Nat):Mnd:=⟨(mat l j).md,(mat l j).roles,(mat l j).calm⟩
theorem rtick7_any (n:Net) (lao:Option Addr) (lcap:Nat) (oao:Option Addr) (ocap:Nat) (t:List Tr) (N:Nat→Prop) (w:World) (R:n.Right) (hat:n.at' w) (hlk:LRow w lao n.lvs.length lcap n.es) (hN:∀q,N q→q<w.heap.size) (ht:Bz N w (fun V=>TrRow V oao ocap t)) (hf:fitT n t=true) (hc:∀k i j,k<t.length→i<n.K→0≤(mat (tat t k).l i).calm.getD j 0) :
  Calls Tryz.prog 45 #[n.val,.slice lao n.lvs.length lcap,.agg #[.slice oao t.length ocap]] w fun e w'=>∃ao cap t',e=.returned (.agg #[.slice ao t'.length cap])∧(t'.length=t.length∧(∀k,k<t.length→TickT n (n.ids k) (tat t k).l (tat t' k).l)∧Bz N w' (fun V=>TrRow V ao cap t')∧Bl w w'):=by
 obtain⟨hT,hfit⟩:=fit_of.1 hf;have hK:=R.few;obtain⟨X,HX⟩:∃X,Hid (X=(((w.alloc (.cells #[.slice n.bao n.K n.bcap,.slice n.lao n.L n.lcap] 25)).alloc (.cells #[.slice oao t.length ocap] 29)).alloc (.cells #[.slice none 0 0] 29)).alloc (.cells #[.slice none 0 0] 29)):=⟨_,rfl⟩
 obtain⟨X2,HX2⟩:∃X2,Hid (X2=(w.alloc (.cells #[.slice n.bao n.K n.bcap,.slice n.lao n.L n.lcap] 25)).alloc (.cells #[.slice oao t.length ocap] 29)):=⟨_,rfl⟩
 have b1:Bl w X2:=(by rw[HX2.out];exact bA2 _ _ _)
 have s1:X2.heap.size=w.heap.size+1+1:=(by rw[HX2.out];simp)
 have b2:Bl X2 X:=(by rw[HX.out,←HX2.out];exact bA2 _ _ _)
 have s2:X.heap.size=w.heap.size+4:=(by rw[HX.out];simp)
 have hXB:Bl w X:=b1.trans (b2.mono b1.size);have g0:X.heap[w.heap.size]?=some (.cells #[.slice n.bao n.K n.bcap,.slice n.lao n.L n.lcap] 25):=keep (by rw[HX2.out];exact heap_alloc2_old _ _ _) b2;have g1:X.heap[w.heap.size+1]?=some (.cells #[.slice oao t.length ocap] 29):=keep (by rw[HX2.out];exact heap_alloc2_new _ _ _) b2;have g2:X.heap[w.heap.size+2]?=some (.cells #[.slice none 0 0] 29):=by
  rw[HX.out,←HX2.out,show w.heap.size+2=X2.heap.size by omega];exact heap_alloc2_old _ _ _
 have g3:X.heap[w.heap.size+3]?=some (.cells #[.slice none 0 0] 29):=by
  rw[HX.out,←HX2.out,show w.heap.size+3=X2.heap.size+1 by omega];exact heap_alloc2_new _ _ _
 obtain⟨BN,HBN⟩:∃BN,Hid (BN=w.heap.size):=⟨_,rfl⟩
 obtain⟨BT,HBT⟩:∃BT,Hid (BT=w.heap.size+1):=⟨_,rfl⟩
 obtain⟨RT,HRT⟩:∃RT,Hid (RT=w.heap.size+1+1):=⟨_,rfl⟩
 obtain⟨OT,HOT⟩:∃OT,Hid (OT=w.heap.size+1+1+1):=⟨_,rfl⟩
 have e1:=HBN.out;have e2:=HBT.out;have e3:=HRT.out;have e4:=HOT.out;rw[←e1] at g0;rw[←e2] at g1;rw[show w.heap.size+2=RT by omega] at g2;rw[show w.heap.size+3=OT by omega] at g3;have HORD:Hid (w.heap.size≤BN∧BN<RT∧RT<OT∧OT<X.heap.size):=⟨by omega,by omega,by omega,by omega⟩
 have HO0:Hid (∃ao cap t',TkO w X n BN RT OT t X.heap.size 0 ao cap t'):=⟨none,0,[],hXB,g0,g2,g3,RkT.nil _ _,rfl,fun j hj=>absurd hj (by omega),Nat.le_refl _,HORD.out⟩
 obtain⟨x2⟩:Nonempty (X.cell? ⟨BT,0,none⟩=some (.slice oao t.length ocap)):=⟨one_cell g1⟩
 rw[HX.out,HBT.out] at x2;have HW:Hid (∀V,Bl w V→n.at' V∧LRow V lao n.lvs.length lcap n.es∧TrRow V oao ocap t):=fun V hV=>⟨hat.below hV,CRow.below hlk hV,ht.at' hV⟩
 have HR:Hid n.Right:=R;have HFIT:Hid (∀k,k<t.length→TrFit n (tat t k).l):=hfit;have HCP:Hid (∀k i j,k<t.length→i<n.K→0≤(mat (tat t k).l i).calm.getD j 0):=hc;have HFIN:Hid (∀W ao cap t',TkO w W n BN RT OT t X.heap.size t.length ao cap t'→∀V,(∀q,q≠RT→V.heap[q]?=W.heap[q]?)→V.heap.size=W.heap.size→Bl w V→(t'.length=t.length∧(∀k,k<t.length→TickT n (n.ids k) (tat t k).l (tat t' k).l)∧Bz N V (fun V=>TrRow V ao cap t')∧Bl w V)):=fun W ao cap t' h V hV hs hb=>by
  refine⟨h.len,h.each,?_,hb⟩;have hrk:RkT V w.heap.size (.slice ao t'.length cap) t':=by
   have h1:RkT V X.heap.size (.slice ao t'.length cap) t':=h.rk.keep (fun q _ _ hq _ _=>hV q (by have:=HORD.out;omega));exact⟨owns_mono h1.row hXB.size,fun x hx=>(h1.each x hx).mono hXB.size⟩
  exact tick_row (n:=n) hN ht (fun k hk=>(hfit k hk).1) (by omega) hK hb hrk h.len h.each
 have hcp:t.length≤ocap:=ht.here.row.1;have hXs:Hid (X.heap.size=w.heap.size+4):=s2;clear hat hlk ht hc hf hfit R b1 b2 s1 s2 hXB g0 g1 g2 g3 e1 e2 e3 e4;simp only[Pl.Net.val];go_enter Tryz.func45,Tryz.ntmps45;(go_wp2_with fail);rw[←HX.out,←HOT.out,←HRT.out,←HBT.out,←HBN.out];clear x2;go_loopw [26] (fun i wr=>∃k:Nat,k≤t.length∧i=.int .i64 k∧Hid (∃ao cap t',TkO w wr n BN RT OT t X.heap.size k ao cap t')) (fun i _=>t.length-(intOf i).toNat)
 case atStart=>exact⟨0,by omega,rfl,HO0⟩
 case round =>
  clear HO0;obtain⟨k,hk,rfl,hS⟩:=hrel;obtain⟨Y,HY⟩:∃Y,Hid (Y=wr):=⟨_,rfl⟩
  rw[←HY.out] at hS ⊢;clear HY;obtain⟨tao,tcap,t',hO⟩:=hS.out;by_cases hlt:k<t.length
  ·obtain⟨hatY,hlkY,htY⟩:=HW.out Y hO.low;obtain⟨tb,toff,hto,_⟩:=htY.place (by omega);subst hto;have c0:=htY.cell hlt;have hfk:=HFIT.out k hlt;have hmr:=htY.each k hlt;have ik:(0:Int)≤(k:Int):=(by omega)
   have nk:(k:Int)<(t.length:Int):=(by omega)
   have HKK:Hid (k+1≤t.length):=hlt;have HK4:Hid (0≤(k:Int)∧(k:Int)≤15):=⟨by omega,by omega⟩
   have HO:Hid (TkO w Y n BN RT OT t X.heap.size k tao tcap t'):=hO;have HCK:Hid (∀i j,i<n.K→0≤(mat (tat t k).l i).calm.getD j 0):=fun i j hi=>HCP.out k i j hlt hi;have HMR:Hid (∀V,Bl Y V→n.at' V∧LRow V lao n.lvs.length lcap n.es∧MiRow V (tat t k).ao (tat t k).cap (tat t k).l∧TkO w V n BN RT OT t X.heap.size k tao tcap t'):=fun V hV=>by
    have h:=hO.below hV;obtain⟨z1,z2,z3⟩:=HW.out V h.low;exact⟨z1,z2,z3.each k hlt,h⟩
   obtain⟨tk,HTK⟩:∃tk,Hid (tk=tat t k):=⟨_,rfl⟩
   rw[←HTK.out] at c0 hfk HCK HMR;clear hS hatY hlkY htY hmr hO HFIT HCP HW;obtain⟨ta,tc,tl⟩:=tk;simp only at c0 hfk HCK HMR;obtain⟨hlen,hmf⟩:=hfk;have HMF:Hid (∀i,i<n.K→MdFit n i (mat tl i)):=hmf;have HTL:Hid (tl.length=n.K):=hlen;have hcl:n.K≤tc:=(by have:=(HMR.out Y (Below.refl _ _)).2.2.1.row.1;omega)
   rw[hlen] at c0;have hmv:=make_va Y (K:=n.K) (by omega);have hmi:=make_ia (Y.alloc (.cells (rowC n.K 4 (fun _=>vC Vc.v0)) 58)) (K:=n.K) (by omega);obtain⟨gv,HGV⟩:∃g,Hid (g=Y.heap.size):=⟨_,rfl⟩
   obtain⟨V0,HV0⟩:∃V,Hid (V=(Y.alloc (.cells (rowC n.K 4 (fun _=>vC Vc.v0)) 58)).alloc (.cells (rowC n.K 1 (fun _ _=>.int .i64 0)) 3)):=⟨_,rfl⟩
   have H3:Hid (Bl Y V0∧VaAt V0 gv n.K (fun i=>if i<0 then(mat tl i).md.v else Vc.v0)∧IaAt V0 (gv+1) n.K (fun i=>if i<0 then(mat tl i).md.age else 0)):=by
    rw[HV0.out,HGV.out];exact⟨bA2 _ _ _,VaAt.congr (v:=fun _=>Vc.v0) (heap_alloc2_old _ _ _) (fun i _=>by rw[if_neg (by omega)]),IaAt.congr (f:=fun _=>0) (heap_alloc2_new _ _ _) (fun i _=>by rw[if_neg (by omega)])⟩
   have HGL:Hid (Y.heap.size≤gv):=(by rw[HGV.out];exact Nat.le_refl _)
   have HGL2:Hid (Y.heap.size≤gv+1):=Nat.le_succ_of_le HGL.out;clear hlen hmf;(go_wp2_with fail);rw[←HV0.out,←HGV.out];clear c0 hmv hmi HV0 HGV;go_loopw [39] (fun i wr=>∃j:Nat,j≤n.K∧i=.int .i64 j∧Hid (Bl Y wr∧VaAt wr gv n.K (fun i=>if i<j then(mat tl i).md.v else Vc.v0)∧IaAt wr (gv+1) n.K (fun i=>if i<j then(mat tl i).md.age else 0))) (fun i _=>n.K-(intOf i).toNat)
   case atStart=>exact⟨0,by omega,rfl,H3⟩
   case round =>
    clear H3;obtain⟨j,hj,rfl,hB⟩:=hrel;obtain⟨Q,HQ⟩:∃Q,Hid (Q=wr):=⟨_,rfl⟩
    rw[←HQ.out] at hB ⊢;clear HQ;by_cases hlj:j<n.K
    ·have r2:=(HMR.out Q hB.out.1).2.2.1;obtain⟨d1,p1,rfl,ld1⟩:=r2.place (by rw[HTL.out];omega);obtain⟨a0,a1,a2,a3,a4,a5,a6,a7,a8⟩:=r2.cells (i:=j) (by rw[HTL.out];exact hlj);have ij:(0:Int)≤(j:Int):=(by omega)
     have nj:(j:Int)<(n.K:Int):=(by omega)
     obtain⟨x,HXX⟩:∃x,Hid (x=mat tl j):=⟨_,rfl⟩
     rw[←HXX.out] at a0 a1 a2 a3 a4 a5 a6 a7 a8;obtain⟨Z,HZ⟩:∃Z,Hid (Z=Q.alloc (.cells #[.int .u64 x.md.v.root,.int .i64 x.md.v.cost,.int .u64 x.md.v.bridge,.int .i64 x.md.v.port,.int .i64 x.md.age,.int .i64 x.md.rp,.slice x.po x.ports.length x.pc,.slice x.ro x.roles.length x.rc,.slice x.co x.calm.length x.cc] 66)):=⟨_,rfl⟩
     have hZB:Bl Q Z:=(by rw[HZ.out];exact bA1 _ _)
     have hZn:Z.heap[Q.heap.size]?=some (.cells #[.int .u64 x.md.v.root,.int .i64 x.md.v.cost,.int .u64 x.md.v.bridge,.int .i64 x.md.v.port,.int .i64 x.md.age,.int .i64 x.md.rp,.slice x.po x.ports.length x.pc,.slice x.ro x.roles.length x.rc,.slice x.co x.calm.length x.cc] 66):=(by rw[HZ.out];exact heap_alloc_last _ _)
     obtain⟨⟨m0,m1,m2,m3,m4,_⟩,_⟩:=mbox_cells hZn;have hVZ:VaAt Z gv n.K (fun i=>if i<j then(mat tl i).md.v else Vc.v0):=keep hB.out.2.1 hZB;have hIZ:IaAt Z (gv+1) n.K (fun i=>if i<j then(mat tl i).md.age else 0):=keep hB.out.2.2 hZB;have hYZ:Bl Y Z:=hB.out.1.trans (hZB.mono hB.out.1.size);obtain⟨_,vf⟩:=hVZ.cells hlj;have vf0:=vf (j*4);have vf1:=vf (j*4+1);have vf2:=vf (j*4+2);have vf3:=vf (j*4+3);have if0:=(hIZ.cell hlj).2;obtain⟨⟨e0,e1,e2,e3⟩,_⟩:=hVZ.cells hlj;have e4:=(hIZ.cell hlj).1;have lg1:gv<Q.heap.size:=plt_some hB.out.2.1;have lg2:gv+1<Q.heap.size:=plt_some hB.out.2.2;have n1:gv≠Q.heap.size:=(by omega)
     have n2:gv+1≠Q.heap.size:=(by omega)
     have n3:Q.heap.size≠gv:=(by omega)
     have n4:Q.heap.size≠gv+1:=(by omega)
     have n5:gv≠gv+1:=(by omega)
     have n6:gv+1≠gv:=(by omega)
     have HVF:Hid (∀W,VaAt W gv n.K (fun i=>if i=j then x.md.v else if i<j then(mat tl i).md.v else Vc.v0)→VaAt W gv n.K (fun i=>if i<j+1 then(mat tl i).md.v else Vc.v0)):=fun W h=>h.congr (fun i hi=>by
      by_cases e:i=j
      ·subst e;rw[if_pos rfl,if_pos (by omega),HXX.out]
      ·rw[if_neg e];by_cases e2:i<j
       ·rw[if_pos e2,if_pos (by omega)]
       ·rw[if_neg e2,if_neg (by omega)])
     have HIF:Hid (∀W,IaAt W (gv+1) n.K (fun i=>if i=j then x.md.age else if i<j then(mat tl i).md.age else 0)→IaAt W (gv+1) n.K (fun i=>if i<j+1 then(mat tl i).md.age else 0)):=fun W h=>h.congr (fun i hi=>by
      by_cases e:i=j
      ·subst e;rw[if_pos rfl,if_pos (by omega),HXX.out]
      ·rw[if_neg e];by_cases e2:i<j
       ·rw[if_pos e2,if_pos (by omega)]
       ·rw[if_neg e2,if_neg (by omega)])
     have HNX:Hid (Bl Y (((((Z.setCell ⟨gv,j*4,none⟩ (.int .u64 x.md.v.root)).setCell ⟨gv,j*4+1,none⟩ (.int .i64 x.md.v.cost)).setCell ⟨gv,j*4+2,none⟩ (.int .u64 x.md.v.bridge)).setCell ⟨gv,j*4+3,none⟩ (.int .i64 x.md.v.port)).setCell ⟨gv+1,j,none⟩ (.int .i64 x.md.age)).drew∧VaAt (((((Z.setCell ⟨gv,j*4,none⟩ (.int .u64 x.md.v.root)).setCell ⟨gv,j*4+1,none⟩ (.int .i64 x.md.v.cost)).setCell ⟨gv,j*4+2,none⟩ (.int .u64 x.md.v.bridge)).setCell ⟨gv,j*4+3,none⟩ (.int .i64 x.md.v.port)).setCell ⟨gv+1,j,none⟩ (.int .i64 x.md.age)).drew gv n.K (fun i=>if i<j+1 then(mat tl i).md.v else Vc.v0)∧IaAt (((((Z.setCell ⟨gv,j*4,none⟩ (.int .u64 x.md.v.root)).setCell ⟨gv,j*4+1,none⟩ (.int .i64 x.md.v.cost)).setCell ⟨gv,j*4+2,none⟩ (.int .u64 x.md.v.bridge)).setCell ⟨gv,j*4+3,none⟩ (.int .i64 x.md.v.port)).setCell ⟨gv+1,j,none⟩ (.int .i64 x.md.age)).drew (gv+1) n.K (fun i=>if i<j+1 then(mat tl i).md.age else 0)):=by
      have h1:=((((hYZ.setCell (p:=⟨gv,j*4,none⟩) HGL.out (.int .u64 x.md.v.root)).setCell (p:=⟨gv,j*4+1,none⟩) HGL.out (.int .i64 x.md.v.cost)).setCell (p:=⟨gv,j*4+2,none⟩) HGL.out (.int .u64 x.md.v.bridge)).setCell (p:=⟨gv,j*4+3,none⟩) HGL.out (.int .i64 x.md.v.port)).setCell (p:=⟨gv+1,j,none⟩) HGL2.out (.int .i64 x.md.age);exact⟨Below.drew h1,HVF.out _ (va_drew (VaAt.other (VaAt.all hVZ hlj x.md.v) n5)),HIF.out _ (ia_drew (IaAt.set ((((hIZ.other n6).other n6).other n6).other n6) hlj x.md.age))⟩
     have HJ:Hid (j<n.K):=hlj;clear r2 hB hZB hZn vf hVZ hIZ hYZ HXX HMR ld1;(go_wp2_with fail);rw[←HZ.out];go_region
     (all_goals go_wp2_with fail);all_goals exact⟨⟨j+1,by omega,by go_num,HNX⟩,by simp[intOf];omega⟩
    ·obtain rfl:j=n.K:=by omega
     have hV2:VaAt Q gv n.K (fun i=>(mnd0 tl i).md.v):=hB.out.2.1.congr (fun i hi=>by rw[if_pos hi];rfl);have hI2:IaAt Q (gv+1) n.K (fun i=>(mnd0 tl i).md.age):=hB.out.2.2.congr (fun i hi=>by rw[if_pos hi];rfl);have hOQ:=(HMR.out Q hB.out.1).2.2.2;obtain⟨n0,n1⟩:=tC2 hOQ.net;have HQ:Hid (∀V,Bl Q V→(VaAt V gv n.K (fun i=>(mnd0 tl i).md.v)∧IaAt V (gv+1) n.K (fun i=>(mnd0 tl i).md.age))∧n.at' V∧LRow V lao n.lvs.length lcap n.es∧MiRow V ta tc tl∧TkO w V n BN RT OT t X.heap.size k tao tcap t'):=fun V hV=>by
      obtain⟨z1,z2,z3,z4⟩:=HMR.out V (hB.out.1.trans (hV.mono hB.out.1.size));exact⟨⟨keep hV2 hV,keep hI2 hV⟩,z1,z2,z3,z4⟩
     have HM0:Hid (RkM Q Q.heap.size (.slice none ([]:List Mi).length 0) []∧([]:List Mi).length=0∧(∀j,j<0→TickM n (n.ids k) tl j (mat [] j))∧Bl Q Q):=⟨RkM.nil _ _,rfl,fun j hj=>absurd hj (by omega),Below.refl _ _⟩
     clear hB hV2 hI2 hOQ HMR HGL HGL2;(go_wp2_with fail);clear n0 n1;go_loopw [14,58] (fun s14 s58 wr=>∃(i:Nat) (ao:Option Addr) (cap:Nat) (l':List Mi),i≤n.K∧s58=.int .i64 i∧s14=.slice ao l'.length cap∧Hid (RkM wr Q.heap.size (.slice ao l'.length cap) l'∧l'.length=i∧(∀j,j<i→TickM n (n.ids k) tl j (mat l' j))∧Bl Q wr)) (fun _ s58 _=>n.K-(intOf s58).toNat)
     case atStart=>exact⟨0,none,0,[],by omega,rfl,rfl,HM0⟩
     case round =>
      clear HM0;obtain⟨i,lo2,lc2,l',hi,rfl,rfl,hS⟩:=hrel;obtain⟨U,HU⟩:∃U,Hid (U=wr):=⟨_,rfl⟩
      rw[←HU.out] at hS ⊢;clear HU;by_cases hlt2:i<n.K
      ·obtain⟨⟨vU,aU⟩,atU,lkU,miU,oU⟩:=HQ.out U hS.out.2.2.2;obtain⟨bb,boff,ebb,_⟩:=CRow.some atU.brs (by omega);have hbr:=atU.brs;rw[ebb] at hbr;obtain⟨c0,c1,c2,c3,c4⟩:=BRow.cells hbr hlt2;obtain⟨mb,moff,emb,_⟩:=miU.place (by rw[HTL.out];omega);subst emb;have HA:Hid (∀V,Bl Q V→V.cell? ⟨mb,moff+i*9+6,none⟩=some (.slice (mat tl i).po (mat tl i).ports.length (mat tl i).pc)∧V.cell? ⟨mb,moff+i*9+8,none⟩=some (.slice (mat tl i).co (mat tl i).calm.length (mat tl i).cc)∧MiIn V (mat tl i)):=fun V hV=>by
        have h:=(HQ.out V hV).2.2.2.1;obtain⟨_,_,_,_,_,_,a6,_,a8⟩:=h.cells (i:=i) (by rw[HTL.out];exact hlt2);exact⟨a6,a8,h.each i (by rw[HTL.out];exact hlt2)⟩
       have i0:(0:Int)≤(i:Int):=(by omega)
       have i1:(i:Int)<(n.K:Int):=(by omega)
       obtain⟨b,hb⟩:∃b,b=n.bs i:=⟨_,rfl⟩
       rw[←hb] at c0 c1 c2 c3 c4;obtain⟨U1,HU1⟩:∃U1,Hid (U1=U.alloc (.cells #[.int .u64 b.addr,.slice b.pao b.pn b.pcap,.string b.reg.s,.int .i64 b.reg.rev,.slice b.reg.ao b.reg.n b.reg.cap] 74)):=⟨_,rfl⟩
       have bU1:Bl U U1:=(by rw[HU1.out];exact bA1 _ _)
       have hU1b:U1.heap[U.heap.size]?=some (.cells #[.int .u64 b.addr,.slice b.pao b.pn b.pcap,.string b.reg.s,.int .i64 b.reg.rev,.slice b.reg.ao b.reg.n b.reg.cap] 74):=(by rw[HU1.out];exact heap_alloc_last _ _)
       have hQU:Bl Q U:=hS.out.2.2.2;have hQ1:Bl Q U1:=hQU.trans (bU1.mono hQU.size);obtain⟨os,HOS⟩:∃os,Hid (os=tickO n (mnd0 tl) i):=⟨_,rfl⟩
       have HOF:Hid (Calls Tryz.prog 68 #[.slice lao n.lvs.length lcap,.int .i64 i,.slice (some ⟨gv,0,none⟩) n.K n.K,.slice (some ⟨gv+1,0,none⟩) n.K n.K] U1 fun e w'=>∃ao cap,e=.returned (.slice ao os.length cap)∧Hid (ORow w' ao os.length cap (lf os)∧Bl U1 w')):=by
        obtain⟨⟨z1,z2⟩,_,z4,_⟩:=HQ.out U1 hQ1;rw[HOS.out];exact(rof_any n lao lcap i gv (gv+1) (mnd0 tl) U1 HR.out z4 z1 z2).mono (fun e w' h=>h)
       have HS:Hid (RkM U Q.heap.size (.slice lo2 l'.length lc2) l'∧l'.length=i∧(∀j,j<i→TickM n (n.ids k) tl j (mat l' j))∧Bl Q U):=hS;have HBU:Hid (Bl U U1∧U1.heap[U.heap.size]?=some (.cells #[.int .u64 b.addr,.slice b.pao b.pn b.pcap,.string b.reg.s,.int .i64 b.reg.rev,.slice b.reg.ao b.reg.n b.reg.cap] 74)∧Bl Q U1):=⟨bU1,hU1b,hQ1⟩
       have HB:Hid (b=n.bs i):=hb;clear vU aU atU lkU miU oU hbr hS hb bU1 hU1b hQU hQ1;rw[ebb];(go_wp2_with fail);rw[←HU1.out];refine HOF.out.mono ?_;rintro e w2 ⟨oo2,oc2,rfl,H2⟩;clear HOF c0 c1 c2 c3 c4;obtain⟨x,HXX⟩:∃x,Hid (x=mat tl i):=⟨_,rfl⟩
       have hb12:=H2.out.2;have hQ2:Bl Q w2:=HBU.out.2.2.trans (hb12.mono HBU.out.2.2.size);have a6:=(HA.out w2 hQ2).1;rw[←HXX.out] at a6;obtain⟨g,HG⟩:∃g,Hid (g=w2.heap.size):=⟨_,rfl⟩
       obtain⟨U3,HU3⟩:∃U3,Hid (U3=w2.alloc (.cells #[.int .u64 0,.int .i64 0,.int .u64 0,.int .i64 0,.int .i64 0,.int .i64 0,.slice x.po x.ports.length x.pc,.slice none 0 0,.slice none 0 0] 66)):=⟨_,rfl⟩
       have b23:Bl w2 U3:=(by rw[HU3.out];exact bA1 _ _)
       have hU3g:U3.heap[g]?=some (.cells #[.int .u64 0,.int .i64 0,.int .u64 0,.int .i64 0,.int .i64 0,.int .i64 0,.slice x.po x.ports.length x.pc,.slice none 0 0,.slice none 0 0] 66):=(by rw[HU3.out,HG.out];exact heap_alloc_last _ _)
       have hU3b:=keep (keep HBU.out.2.1 hb12) b23;obtain⟨d0,d1,d2,d3,d4⟩:=br_cells hU3b;rw[HU3.out] at d0 d1 d2 d3 d4;have hQ3:Bl Q U3:=hQ2.trans (b23.mono hQ2.size);have HID:Hid (Calls Tryz.prog 35 #[.agg #[.int .u64 b.addr,.slice b.pao b.pn b.pcap,.string b.reg.s,.int .i64 b.reg.rev,.slice b.reg.ao b.reg.n b.reg.cap],.int .i64 k] U3 fun e w'=>e=.returned (.int .u64 (n.ids k i))∧Hid (Bl U3 w')):=by
        have h:=rid6_any (n.bs i) k U3 ((HQ.out U3 hQ3).2.1.each i hlt2) (HR.out.fine i hlt2) HK4.out;rw[←HB.out] at h;refine h.mono (fun e w' h=>⟨h.1.trans ?_,h.2⟩);rw[HB.out];rfl
       have HLT:Hid (i<n.K):=hlt2;have HU3:Hid (U3=w2.alloc (.cells #[.int .u64 0,.int .i64 0,.int .u64 0,.int .i64 0,.int .i64 0,.int .i64 0,.slice x.po x.ports.length x.pc,.slice none 0 0,.slice none 0 0] 66)):=HU3;have HB3:Hid (Bl w2 U3∧U3.heap[g]?=some (.cells #[.int .u64 0,.int .i64 0,.int .u64 0,.int .i64 0,.int .i64 0,.int .i64 0,.slice x.po x.ports.length x.pc,.slice none 0 0,.slice none 0 0] 66)∧Bl Q w2∧U.heap.size≤g):=⟨b23,hU3g,hQ2,by have h1:=HBU.out.1.size;have h2:=hb12.size;rw[HG.out];omega⟩
       clear hb12 hQ2 b23 hU3g hU3b hQ3;(go_wp2_with fail);rw[←HU3.out,←HG.out];refine HID.out.mono ?_;rintro e w4 ⟨rfl,H4⟩;clear HID d0 d1 d2 d3 d4 a6;obtain⟨md,HMD⟩:∃md,Hid (md=rtickMd n (n.ids k i) (mnd0 tl) i):=⟨_,rfl⟩
       have b24:Bl w2 w4:=HB3.out.1.trans (H4.out.mono HB3.out.1.size);have HCH:Hid (Calls Tryz.prog 69 #[.int .u64 (n.ids k i),.slice oo2 os.length oc2] w4 fun e w'=>e=.returned (.tuple #[.agg #[.int .u64 md.v.root,.int .i64 md.v.cost,.int .u64 md.v.bridge,.int .i64 md.v.port],.int .i64 md.age,.int .i64 md.rp])∧Hid (Bl w4 w')):=by
        have ho:ORow w4 oo2 os.length oc2 (lf os):=CRow.below H2.out.1 b24;rw[HOS.out] at ho ⊢;rw[HMD.out];exact(rch_any n (n.ids k i) (mnd0 tl) i oo2 oc2 w4 HR.out ho).mono (fun e w' h=>⟨h.1,h.2⟩)
       have HB4:Hid (Bl w2 w4∧w4.heap[g]?=some (.cells #[.int .u64 0,.int .i64 0,.int .u64 0,.int .i64 0,.int .i64 0,.int .i64 0,.slice x.po x.ports.length x.pc,.slice none 0 0,.slice none 0 0] 66)):=⟨b24,keep HB3.out.2.1 H4.out⟩
       clear b24;(go_wp2_with fail);refine HCH.out.mono ?_;rintro e w5 ⟨rfl,H5⟩;clear HCH;have hg5:=keep HB4.out.2 H5.out;obtain⟨⟨m0,m1,m2,m3,m4,m5,m6,m7,m8⟩,f0,f1,f2,f3,f4,f5,f7,f8⟩:=mbox_cells hg5;have b25:Bl w2 w5:=HB4.out.1.trans (H5.out.mono HB4.out.1.size);have hQ5:Bl Q w5:=HB3.out.2.2.1.trans (b25.mono HB3.out.2.2.1.size);obtain⟨n0,n1⟩:=tC2 (HQ.out w5 hQ5).2.2.2.2.net;have lBN:BN≠g:=by
        have h1:=HORD.out;have h2:=(HQ.out Q (Below.refl _ _)).2.2.2.2.big;have h3:=HB3.out.2.2.1.size;have h4:=HG.out;omega
       have lNB:g≠BN:=lBN.symm;obtain⟨W6,HW6⟩:∃W6,Hid (W6=(((((w5.setCell ⟨g,0,none⟩ (.int .u64 md.v.root)).setCell ⟨g,1,none⟩ (.int .i64 md.v.cost)).setCell ⟨g,2,none⟩ (.int .u64 md.v.bridge)).setCell ⟨g,3,none⟩ (.int .i64 md.v.port)).setCell ⟨g,4,none⟩ (.int .i64 md.age)).setCell ⟨g,5,none⟩ (.int .i64 md.rp)):=⟨_,rfl⟩
       have hg6:W6.heap[g]?=some (.cells #[.int .u64 md.v.root,.int .i64 md.v.cost,.int .u64 md.v.bridge,.int .i64 md.v.port,.int .i64 md.age,.int .i64 md.rp,.slice x.po x.ports.length x.pc,.slice none 0 0,.slice none 0 0] 66):=(by rw[HW6.out];exact mind_six hg5)
       have hgw:w2.heap.size≤g:=(by rw[HG.out];exact Nat.le_refl _)
       have b26:Bl w2 W6:=(by rw[HW6.out];exact(((((b25.setCell hgw _).setCell hgw _).setCell hgw _).setCell hgw _).setCell hgw _).setCell hgw _)
       have hQ6:Bl Q W6:=HB3.out.2.2.1.trans (b26.mono HB3.out.2.2.1.size);obtain⟨rs,HRS⟩:∃rs,Hid (rs=rtickRl n md (mnd0 tl) i):=⟨_,rfl⟩
       have HRL:Hid (Calls Tryz.prog 70 #[.agg #[.slice n.bao n.K n.bcap,.slice n.lao n.L n.lcap],.slice lao n.lvs.length lcap,.int .i64 i,.agg #[.int .u64 md.v.root,.int .i64 md.v.cost,.int .u64 md.v.bridge,.int .i64 md.v.port],.int .i64 md.rp,.slice oo2 os.length oc2] W6 fun e w'=>∃ao cap,e=.returned (.slice ao rs.length cap)∧Hid (w'.ownsRow W6.heap.size 3 1 (.slice ao rs.length cap) rs.length (intCells rs)∧Bl W6 w')):=by
        obtain⟨_,z3,z4,_⟩:=HQ.out W6 hQ6;have ho:ORow W6 oo2 os.length oc2 (lf os):=CRow.below H2.out.1 b26;rw[HOS.out] at ho ⊢;rw[HRS.out];exact(rrl_any n lao lcap i md (mnd0 tl) oo2 oc2 W6 HR.out z3 z4 ho).mono (fun e w' h=>h)
       have HB6:Hid (Bl w2 W6∧W6.heap[g]?=some (.cells #[.int .u64 md.v.root,.int .i64 md.v.cost,.int .u64 md.v.bridge,.int .i64 md.v.port,.int .i64 md.age,.int .i64 md.rp,.slice x.po x.ports.length x.pc,.slice none 0 0,.slice none 0 0] 66)):=⟨b26,hg6⟩
       have HEBB:Hid (n.bao=some ⟨bb,boff,none⟩):=ebb;rw[ebb] at n0 HRL;clear hg5 hg6 b25 b26 hQ5 hQ6 hgw m8 f8 ebb;(go_wp2_with fail);rw[←HW6.out];refine HRL.out.mono ?_;rintro e w7 ⟨rao,rcap,rfl,H7⟩;clear HRL m0 m1 m2 m3 m4 m5 m6 m7 f0 f1 f2 f3 f4 f5 f7 n0 n1 lBN lNB;have hg7:=keep HB6.out.2 H7.out.2;obtain⟨⟨m0,m1,m2,m3,m4,m5,m6,m7,m8⟩,_,_,_,_,_,_,f7,_⟩:=mbox_cells hg7;obtain⟨W8,HW8⟩:∃W8,Hid (W8=w7.setCell ⟨g,7,none⟩ (.slice rao rs.length rcap)):=⟨_,rfl⟩
       have hg8:W8.heap[g]?=some (.cells #[.int .u64 md.v.root,.int .i64 md.v.cost,.int .u64 md.v.bridge,.int .i64 md.v.port,.int .i64 md.age,.int .i64 md.rp,.slice x.po x.ports.length x.pc,.slice rao rs.length rcap,.slice none 0 0] 66):=(by rw[HW8.out];exact mind_seven hg7)
       have hgl6:g<W6.heap.size:=lt_some HB6.out.2;have hr8:W8.ownsRow W6.heap.size 3 1 (.slice rao rs.length rcap) rs.length (intCells rs):=by
        rw[HW8.out];exact owns_keep H7.out.1 (fun q hq=>pset_keep2 (by have:=(oCb H7.out.1 q hq).1;omega))
       have b27:Bl w2 w7:=HB6.out.1.trans (H7.out.2.mono HB6.out.1.size);have b2U:Bl U w2:=HBU.out.1.trans (H2.out.2.mono HBU.out.1.size);have b28:Bl U W8:=by
        rw[HW8.out];exact(b2U.trans (b27.mono b2U.size)).setCell HB3.out.2.2.2 _
       have hgl8:g<W8.heap.size:=lt_some hg8;have HC0:Hid (TkC W8 W8 g md (.slice x.po x.ports.length x.pc) (.slice rao rs.length rcap) (rcalm rs x.calm 0) none 0 U):=⟨hg8,ownsC_nil _ _ _ _ _,fun _ _ _=>rfl,b28,Nat.le_refl _⟩
       have HW:Hid (g<W8.heap.size∧U.heap.size≤g∧W8.heap[g]?=some (.cells #[.int .u64 md.v.root,.int .i64 md.v.cost,.int .u64 md.v.bridge,.int .i64 md.v.port,.int .i64 md.age,.int .i64 md.rp,.slice x.po x.ports.length x.pc,.slice rao rs.length rcap,.slice none 0 0] 66)∧W8.ownsRow W6.heap.size 3 1 (.slice rao rs.length rcap) rs.length (intCells rs)∧U.heap.size≤W6.heap.size):=⟨hgl8,HB3.out.2.2.2,hg8,hr8,Nat.le_trans b2U.size HB6.out.1.size⟩
       have hrl:rs.length≤1200:=(by rw[HRS.out];exact(rtickRl_len HR.out md (mnd0 tl) i).2)
       have HRL2:Hid (x.calm.length=rs.length):=by
        have h1:=(HMF.out i hlt2).2.2;have h2:=(rtickRl_len HR.out md (mnd0 tl) i).1;rw[←HRS.out] at h2;rw[HXX.out];exact h1.trans h2.symm
       have hrc:rs.length≤rcap:=by
        obtain⟨ao',cap',e',h1,_⟩:=owns_c (by omega) hr8;injection e' with _ _ e2;have:=h1.1;omega
       clear hg7 hg8 hr8 b27 b2U b28 hgl6 hgl8;(go_wp2_with fail);rw[←HW8.out];clear m0 m1 m2 m3 m4 m5 m6 m7 m8 f7;go_loopw [99] (fun s wr=>∃(j:Nat) (co:Option Addr) (cc:Nat),j≤rs.length∧s=.int .i64 j∧Hid (TkC W8 wr g md (.slice x.po x.ports.length x.pc) (.slice rao rs.length rcap) (rcalm rs x.calm j) co cc U)) (fun s _=>rs.length-(intOf s).toNat)
       case atStart=>exact⟨0,none,0,by omega,rfl,HC0⟩
       case round =>
        clear HC0;obtain⟨j,co,cc,hj,rfl,hC⟩:=hrel;by_cases hlt3:j<rs.length
        ·have hQw:Bl Q wr:=HS.out.2.2.2.trans (hC.out.low.mono HS.out.2.2.2.size);obtain⟨_,a8,hin⟩:=HA.out wr hQw;rw[←HXX.out] at a8 hin;have hils:=(owns_ils (hC.out.roles HW.out.2.2.1 HW.out.2.2.2.1)).1;obtain⟨rb,roff,erao,_⟩:=hils.place (by omega);subst erao;have cr:=hils.cell hlt3;obtain⟨cb,coff,eco,_⟩:=hin.calm.place (by rw[HRL2.out];omega);have hcal:=hin.calm;rw[eco] at hcal a8;have cv:=hcal.cell (i:=j) (by rw[HRL2.out];exact hlt3);have hcc:=hcal.1;have j0:(0:Int)≤(j:Int):=(by omega)
         have j1:(j:Int)<(rs.length:Int):=(by omega)
         have j2:(j:Int)<(x.calm.length:Int):=(by rw[HRL2.out];exact j1)
         obtain⟨⟨_,_,_,_,_,_,_,_,m8⟩,_⟩:=mbox_cells hC.out.box;have hc0:0≤x.calm.getD j 0:=(by rw[HXX.out];exact HCK.out i j hlt2)
         have HNX:Hid (∀z,z=Tk.calmOf (rs.getD j 0) (x.calm.getD j 0)→∃a c W2,(Builtin.append_ #[59,59] 59 #[.slice co (rcalm rs x.calm j).length cc,.slice (some ⟨wr.heap.size,0,none⟩) 1 1]).run Tryz.prog (wr.alloc (.cells #[.int .i64 z] 3))=.ok (.slice a (j+1) c) W2∧W2.frozen? ⟨g,8,none⟩=false∧W2.cell? ⟨g,8,none⟩=some (.slice co (rcalm rs x.calm j).length cc)∧Hid (TkC W8 (W2.setCell ⟨g,8,none⟩ (.slice a (j+1) c)) g md (.slice x.po x.ports.length x.pc) (.slice (some ⟨rb,roff,none⟩) rs.length rcap) (rcalm rs x.calm (j+1)) a c U)):=fun z hz=>by
          have hlen:(rcalm rs x.calm j).length≤100000:=(by rw[rcalm_len];omega)
          obtain⟨a,c,W2,r,f8,c8,h⟩:=hC.out.next HW.out.2.1 HW.out.1 hlen z;have e:rcalm rs x.calm j++[z]=rcalm rs x.calm (j+1):=(by rw[hz];rfl)
          have e2:=rcalm_len rs x.calm (j+1);rw[e,e2] at r h;exact⟨a,c,W2,r,f8,c8,h⟩
         have HJ3:Hid (j+1≤rs.length):=hlt3;clear hC hin hils hcal eco hQw;generalize rs.getD j 0=r at *;generalize x.calm.getD j 0=c at *;by_cases r1:r=1∨r=2
         ·by_cases r2:c > 49
          ·obtain⟨a1,c1,W2,hrun,f8,c8,HN⟩:=HNX.out 50 (by unfold Tk.calmOf;rw[if_pos r1,if_neg (by omega)];rfl);have HRR:Hid _:=hrun;clear hrun HNX;rcases r1 with q | q
           ·subst q;go_wp2_with (at_builtin;refine wpList_append_run rfl (.tmp 123) (.tmp 125) 59 rfl _ _ _ rfl rfl HRR.out ?_)
            exact⟨⟨j+1,a1,c1,HJ3.out,by go_num,HN⟩,by have:=HJ3.out;simp[intOf];omega⟩
           ·subst q;go_wp2_with (at_builtin;refine wpList_append_run rfl (.tmp 123) (.tmp 125) 59 rfl _ _ _ rfl rfl HRR.out ?_)
            exact⟨⟨j+1,a1,c1,HJ3.out,by go_num,HN⟩,by have:=HJ3.out;simp[intOf];omega⟩
          ·obtain⟨a1,c1,W2,hrun,f8,c8,HN⟩:=HNX.out (c+1) (by unfold Tk.calmOf;rw[if_pos r1];by_cases q:c<49;rw[if_pos q];rw[if_neg q];omega);have wc:IntKind.i64.wrap (c+1)=c+1:=(by rw[IntKind.wrap_i64];omega)
           have HRR:Hid _:=hrun;clear hrun HNX;rcases r1 with q | q
           ·subst q;go_wp2_with (at_builtin;refine wpList_append_run rfl (.tmp 123) (.tmp 125) 59 rfl _ _ _ rfl rfl HRR.out ?_)
            exact⟨⟨j+1,a1,c1,HJ3.out,by go_num,HN⟩,by have:=HJ3.out;simp[intOf];omega⟩
           ·subst q;go_wp2_with (at_builtin;refine wpList_append_run rfl (.tmp 123) (.tmp 125) 59 rfl _ _ _ rfl rfl HRR.out ?_)
            exact⟨⟨j+1,a1,c1,HJ3.out,by go_num,HN⟩,by have:=HJ3.out;simp[intOf];omega⟩
         ·obtain⟨a1,c1,W2,hrun,f8,c8,HN⟩:=HNX.out 0 (by unfold Tk.calmOf;rw[if_neg r1]);have HRR:Hid _:=hrun;have q1:(r == 1)=false:=(by simp;omega)
          have q2:(r == 2)=false:=(by simp;omega)
          clear hrun HNX;go_wp2_with (at_builtin;refine wpList_append_run rfl (.tmp 123) (.tmp 125) 59 rfl _ _ _ rfl rfl HRR.out ?_)
          exact⟨⟨j+1,a1,c1,HJ3.out,by go_num,HN⟩,by have:=HJ3.out;simp[intOf];omega⟩
        ·obtain rfl:j=rs.length:=by omega
         obtain⟨⟨m0,m1,m2,m3,m4,m5,m6,m7,m8⟩,_⟩:=mbox_cells hC.out.box;obtain⟨hM,hl1,hl2,hbQ⟩:=HS.out;have hro:=hC.out.roles HW.out.2.2.1 HW.out.2.2.2.1;have hQs:Q.heap.size≤W6.heap.size:=by have h1:=hbQ.size;have h2:=HW.out.2.2.2.2;omega
         have hQ8:Q.heap.size≤W8.heap.size:=by have h1:=hbQ.size;have h2:=HW.out.1;have h3:=HW.out.2.1;omega
         obtain⟨a1,c1,W9,hrun,hR9,hB9⟩:=more_k Q.heap.size wr (.slice lo2 l'.length lc2) l' (Mi.mk md x.po x.pc x.ports rao rcap rs co cc (rcalm rs x.calm rs.length)) (hM.below hC.out.low) ⟨owns_mono hro hQs,owns_mono hC.out.own hQ8⟩ (by omega) (by have h1:=hC.out.big;omega);have hx:TickM n (n.ids k) tl i (Mi.mk md x.po x.pc x.ports rao rcap rs co cc (rcalm rs x.calm rs.length)):=by
          refine⟨by rw[HXX.out];exact⟨rfl,rfl,rfl⟩,?_⟩;have h:=rtick_same HR.out.links (n.ids k) (mnd0 tl) i (by
           have h1:=(HMF.out i hlt2).2.2;have h2:(n.pts i).length=(n.ends i).length:=(by unfold Pl.Net.pts;simp)
           exact h1.trans h2)
          rw[←HMD.out,←HRS.out] at h;have h3:(mnd0 tl i).calm=x.calm:=(by rw[HXX.out];rfl)
          rw[h3] at h;exact h
         have hbw:Bl Q W9:=(hbQ.trans (hC.out.low.mono hbQ.size)).trans hB9;obtain⟨hn1,hn2⟩:=tickM_next hl1 hl2 hx;have HN:Hid (RkM W9 Q.heap.size (.slice a1 (l'++[(Mi.mk md x.po x.pc x.ports rao rcap rs co cc (rcalm rs x.calm rs.length))]).length c1) (l'++[(Mi.mk md x.po x.pc x.ports rao rcap rs co cc (rcalm rs x.calm rs.length))])∧(l'++[(Mi.mk md x.po x.pc x.ports rao rcap rs co cc (rcalm rs x.calm rs.length))]).length=i+1∧(∀j,j<i+1→TickM n (n.ids k) tl j (mat (l'++[(Mi.mk md x.po x.pc x.ports rao rcap rs co cc (rcalm rs x.calm rs.length))]) j))∧Bl Q W9):=⟨hR9,hn1,hn2,hbw⟩
         unfold runAppM miA at hrun;have HRR:Hid _:=hrun;obtain⟨l2,HL2⟩:∃l2:List Mi,Hid (l2=l'++[(Mi.mk md x.po x.pc x.ports rao rcap rs co cc (rcalm rs x.calm rs.length))]):=⟨_,rfl⟩
         rw[←HL2.out] at HN HRR;clear hrun hR9 hB9 hx hbw hn1 hn2 hM hl1 hl2 hbQ hro hQs hQ8 hC HL2;go_wp2_with (at_builtin;refine wpList_append_run rfl (.tmp 129) (.tmp 131) 64 rfl _ _ _ rfl rfl HRR.out ?_)
         exact⟨⟨i+1,a1,c1,l2,HLT.out,by go_num,rfl,HN⟩,by have:=HLT.out;simp[intOf];omega⟩
      ·obtain rfl:i=n.K:=by omega
       obtain⟨hM,hl1,hl2,hbQ⟩:=hS.out;have hO:=(HQ.out U hbQ).2.2.2.2;have hbase:X.heap.size≤Q.heap.size:=(HQ.out Q (Below.refl _ _)).2.2.2.2.big;have htl:TickT n (n.ids k) (tat t k).l l':=by
        have h:=HTK.out;rw[←h];exact⟨hl1,hl2⟩
       obtain⟨a1,c1,W9,hrun,⟨o0,o1⟩,hN⟩:=hO.next (by rw[hO.len];omega) hM hbase htl;have ho0:=one_cell hO.out;have HN:Hid (∃ao cap t2,TkO w (W9.setCell ⟨OT,0,none⟩ (.slice a1 (t'++[Tr.mk lo2 lc2 l']).length c1)) n BN RT OT t X.heap.size (k+1) ao cap t2):=⟨a1,c1,_,hN⟩
       have HRR:Hid _:=hrun;clear hrun hN hO hS htl hM hl1 hl2 hbQ;generalize (t'++[Tr.mk lo2 lc2 l']).length=tl2 at *;go_wp2_with (at_builtin;refine wpList_append_run rfl (.tmp 135) (.tmp 137) 27 rfl _ _ _ rfl rfl HRR.out ?_)
       exact⟨⟨k+1,HKK.out,by go_num,HN⟩,by have:=HKK.out;simp[intOf];omega⟩
  ·obtain rfl:k=t.length:=by omega
   have ho0:=one_cell hO.out;have hr0:=one_cell hO.res;have hr1:=frozen_of_row _ _ 0 _ _ hO.res;have ne1:OT≠RT:=(by have:=hO.ord;omega)
   have ne2:RT≠OT:=ne1.symm;have HRT2:Hid (Y.heap[RT]?=some (.cells #[.slice none 0 0] 29)):=hO.res;have HFN:Hid (t'.length=t.length∧(∀k,k<t.length→TickT n (n.ids k) (tat t k).l (tat t' k).l)∧Bz N (Y.setCell ⟨RT,0,none⟩ (.slice tao t'.length tcap)) (fun V=>TrRow V tao tcap t')∧Bl w (Y.setCell ⟨RT,0,none⟩ (.slice tao t'.length tcap))):=HFIN.out Y tao tcap t' hO _ (fun q hq=>pset_keep2 hq) (by simp) (hO.low.setCell (show w.heap.size≤RT by have:=hO.ord;omega) _);clear hS hO;(go_wp2_with fail);exact bodyPost_ret (v:=.agg #[.slice tao t'.length tcap]) (results_row (p:=6) (ty:=29) Tryz.results45 _ _ RT 29 #[.slice tao t'.length tcap] (0,0) _ rfl (set1_same HRT2.out) Tryz.underlying29 rfl (by rw[sizeTk];rfl)) rfl ⟨tao,tcap,t',rfl,HFN.out⟩
end
end Go.Proofs.YtaneiffnhphkhaaGreatDoor
