/- ZA -/
import Derived.Test.YtelebnancdjjiaaGreatDoorE20
set_option maxRecDepth 100000
set_option maxHeartbeats 40000000
namespace Go.Proofs.YtelebnancdjjiaaGreatDoor
section
open Go.Proofs.Tryz Go.RowKit
open Pl(Net Lk)
open Bk(E at')
open Rl(G gat F R O)
namespace Ln
def face (g:G):Int×Int×List Int×List Bool:=(g.port,g.plain,g.ways,g.opens)
def gf (t:List Tr) (i vid p:Int):Int×Int×List Int×List Bool:=(p,if p=0 then vid else 0,[vid],(List.range t.length).map (a0Z t i p))
theorem alike_face {l l':List G}(h:l'.map face=l.map face) (tr v:Int):Rl.Alike l l' tr v:=by
 have hl:l'.length=l.length:=(by have:=congrArg List.length h;simpa using this)
 have hi:∀i,face (gat l' i)=face (gat l i):=λi=>by
  have h1:(l'.map face)[i]?=(l.map face)[i]?:=(by rw[h])
  rw[List.getElem?_map,List.getElem?_map] at h1;unfold Rl.gat;rw[List.getD_eq_getElem?_getD,List.getD_eq_getElem?_getD];cases e1:l'[i]? with
  | none =>
   cases e2:l[i]? with
   | none=>rfl
   | some y=>rw[e1,e2] at h1;cases h1
  | some x =>
   cases e2:l[i]? with
   | none=>rw[e1,e2] at h1;cases h1
   | some y=>rw[e1,e2] at h1;injection h1
 have hw:∀i,(gat l' i).ways=(gat l i).ways:=λi=>congrArg (λx=>x.2.2.1) (hi i);have ho:∀i,(gat l' i).opens=(gat l i).opens:=λi=>congrArg (λx=>x.2.2.2) (hi i);refine⟨hl,λi=>congrArg (λx=>x.1) (hi i),λi=>congrArg (λx=>x.2.1) (hi i),hw,λi=>by rw[ho i],λi => ?_⟩;unfold Rl.passes;rw[hw i,ho i]
theorem gList_face (t:List Tr) (i vid:Int) (l:List Int) (h0:∀p∈l,p≠0) (fa fb:Nat->Nat):∀j,j<=l.length->(a1c t i vid (IL l) fa fb j).map face=((0:Int) :: l.take j).map (gf t i vid)
 | 0,_=>rfl
 | j+1,h=>by
  have hj:j<l.length:=om
  have e0:IL l j=l[j]:=(by simp[IL,hj])
  have e1:l[j]≠0:=h0 _ (List.getElem_mem hj);show(a1c t i vid (IL l) fa fb j++[mkG t i vid (IL l j) 0 (fa (j+1)) (fb (j+1))]).map face=_;rw[List.map_append,gList_face t i vid l h0 fa fb j om,List.take_succ_eq_append_getElem hj,<-List.cons_append,List.map_append,e0];congr 1
  simp[mkG,face,gf,e1]
theorem pts_pos {n:Net}(R:n.Right) (i:Nat):∀p∈n.pts i,p≠0:=λp hp=>by
 rw[<-show Pl.ptsAll n.ls n.L i 30=n.pts i from Pl.ports_same R.links n.live i] at hp;have h2:=((Pl.ptsAll_rise R.links i 30).2 p).1 hp;omega
theorem rl_face {n:Net}(R:n.Right) (t:List Tr) (vid:Int) (f:F) (bks:Nat->List E) (i:Nat) (o:O) {gl:List G}(h:gl.map face=((0:Int) :: n.pts i).map (gf t (i:Int) vid)):Rl.relay (rgR (n.bs i)) gl (bks i) o.port (frO f o)=rl n t vid f bks i o:=by
 refine Rl.relay_same (alike_face ?_ _ _);rw[h];unfold gates;rw[gList_face t (i:Int) vid (n.pts i) (pts_pos R i) _ _ _ (b0g _),List.take_length]
def hit (l:Lk) (i:Nat) (o:O):List (Nat×O) :=
 (if l.up=true/\l.a=(i:Int)/\l.pa=o.port then [(l.b.toNat,{ o with port:=l.pb })] else [])++(if l.up=true/\l.b=(i:Int)/\l.pb=o.port then [(l.a.toNat,{ o with port:=l.pa })] else [])
def hits (ls:Nat->Lk) (i:Nat) (o:O):Nat->List (Nat×O)
 | 0=>[]
 | k+1=>hits ls i o k++hit (ls k) i o
theorem hits_none {K L:Nat}{ls:Nat->Lk}(R:Pl.RightL K L ls) (i:Nat) (o:O):∀k,k<=L->a0K ls k ((i:Int),o.port)=none->hits ls i o k=[]
 | 0,_,_=>rfl
 | k+1,hk,h=>by
  unfold a0K at h;unfold hits hit;by_cases hu:(ls k).up=true
  ·rw[iP hu] at h;split at h
   ·cases h
   ·rename_i c1;split at h
    ·cases h
    ·rename_i c2;rw[hits_none R i o k om h,iN (show ¬((ls k).up=true/\(ls k).a=(i:Int)/\(ls k).pa=o.port) from λz=>c1 (by rw[z.2.1,z.2.2])),iN (show ¬((ls k).up=true/\(ls k).b=(i:Int)/\(ls k).pb=o.port) from λz=>c2 (by rw[z.2.1,z.2.2]))];rfl
  ·rw[iN hu] at h;rw[hits_none R i o k om h,iN (λz=>hu z.1),iN (λz=>hu z.1)];rfl
theorem cross_end {ls:Nat->Lk}{p:Int×Int}:∀k,a0K ls k p≠none->∃j,j<k/\Pl.isEnd (ls j) p.1 p.2=true
 | 0,h=>absurd rfl h
 | k+1,h=>by
  unfold a0K at h;have go:a0K ls k p≠none->∃j,j<k+1/\Pl.isEnd (ls j) p.1 p.2=true:=λq=>by
   obtain⟨j,h1,h2⟩:=cross_end k q;exact⟨j,om,h2⟩
  split at h
  ·split at h
   ·rename_i c;exact⟨k,om,by unfold Pl.isEnd;rw[c];simp⟩
   ·split at h
    ·rename_i c;exact⟨k,om,by unfold Pl.isEnd;rw[c];simp⟩
    ·exact go h
  ·exact go h
theorem hits_eq {K L:Nat}{ls:Nat->Lk}(R:Pl.RightL K L ls) (i:Nat) (o:O):∀k,k<=L->hits ls i o k=((a0K ls k ((i:Int),o.port)).map λq=>(q.1.toNat,{ o with port:=q.2 })).toList
 | 0,_=>rfl
 | k+1,hk=>by
  have ih:=hits_eq R i o k om;obtain⟨o1,o2,o3,_⟩:=R.ok k om;have low:Pl.isEnd (ls k) (i:Int) o.port=true->hits ls i o k=[]:=λhz=>by
   refine hits_none R i o k om ?_;cases hc:a0K ls k ((i:Int),o.port) with
   | none=>rfl
   | some q =>
    exfalso
    obtain⟨j,hj,aa⟩:=cross_end k (p:=((i:Int),o.port)) (by rw[hc];simp);obtain⟨u1,u2⟩:=R.one j k hj om;unfold Pl.isEnd at hz aa u1 u2;simp only[Bool.or_eq_true,decide_eq_true_eq,Bool.or_eq_false_iff,decide_eq_false_iff_not] at hz aa u1 u2;rcases hz with⟨z1,z2⟩ | ⟨z1,z2⟩
    ·rw[z1,z2] at u1;rcases aa with e | e
     ·exact u1.1 e
     ·exact u1.2 e
    ·rw[z1,z2] at u2;rcases aa with e | e
     ·exact u2.1 e
     ·exact u2.2 e
  unfold hits hit;unfold a0K;by_cases hu:(ls k).up=true
  ·rw[iP hu];have nA:((i:Int),o.port)≠((ls k).a,(ls k).pa)->¬((ls k).up=true/\(ls k).a=(i:Int)/\(ls k).pa=o.port):=λc z=>c (by rw[z.2.1,z.2.2]);have nB:((i:Int),o.port)≠((ls k).b,(ls k).pb)->¬((ls k).up=true/\(ls k).b=(i:Int)/\(ls k).pb=o.port):=λc z=>c (by rw[z.2.1,z.2.2]);by_cases c1:((i:Int),o.port)=((ls k).a,(ls k).pa)
   ·have e1:(i:Int)=(ls k).a:=congrArg Prod.fst c1;have e2:o.port=(ls k).pa:=congrArg Prod.snd c1;have p1:(ls k).up=true/\(ls k).a=(i:Int)/\(ls k).pa=o.port:=⟨hu,e1.symm,e2.symm⟩
    have n2:¬((ls k).up=true/\(ls k).b=(i:Int)/\(ls k).pb=o.port):=λz=>o3 (by rw[z.2.1,e1]);rw[low (by unfold Pl.isEnd;rw[e1,e2];simp),iP p1,iN n2,iP c1];rfl
   ·rw[iN c1];by_cases c2:((i:Int),o.port)=((ls k).b,(ls k).pb)
    ·have e1:(i:Int)=(ls k).b:=congrArg Prod.fst c2;have e2:o.port=(ls k).pb:=congrArg Prod.snd c2;have p1:(ls k).up=true/\(ls k).b=(i:Int)/\(ls k).pb=o.port:=⟨hu,e1.symm,e2.symm⟩
     rw[low (by unfold Pl.isEnd;rw[e1,e2];simp),iN (nA c1),iP p1,iP c2];rfl
    ·rw[iN c2,ih,iN (nA c1),iN (nB c2)];simp
  ·rw[iN hu,ih,iN (λz=>hu z.1),iN (λz=>hu z.1)];simp
theorem hits_crs {n:Net}(R:n.Right) (i:Nat) (o:O) (h:o.port≠0):hits n.ls i o n.L=(crs n i o).toList:=by
 unfold crs;rw[iN h];exact hits_eq R.links i o n.L (b0g _)
theorem step_len (n:Net) (t:List Tr) (vid:Int) (f:F) (s:Cs) (x:Nat×O) (r:List (Nat×O)):(step n t vid f s x r).seen.length<=s.seen.length+31:=by
 unfold step;have h1:=seenOf_len x.1 (rl n t vid f s.books x.1 x.2).out;have h2:(rl n t vid f s.books x.1 x.2).out.length<=31:=out_few;simp only[List.length_append];omega
theorem carry_len (n:Net) (t:List Tr) (vid:Int) (f:F):∀(k:Nat) (s:Cs),(carry n t vid f k s).seen.length<=s.seen.length+31*k
 | 0,s=>b0g _
 | k+1,s=>by
  unfold carry;split
  ·omega
  ·rename_i x r _;have h1:=step_len n t vid f s x r;split
   ·have h2:=carry_len n t vid f k (step n t vid f s x r);omega
   ·omega
theorem hit_len (l:Lk) (i:Nat) (o:O):(hit l i o).length<=2:=by
 unfold hit;split<;>split<;>simp
theorem hits_len (ls:Nat->Lk) (i:Nat) (o:O):∀k,(hits ls i o k).length<=2*k
 | 0=>b0g _
 | k+1=>by
  unfold hits;rw[List.length_append];have:=hits_len ls i o k;have:=hit_len (ls k) i o;omega
end Ln
theorem infoCo:(prog.info? 90).map (λi=>(i.zero,i.size,i.bytes))=some (some (.agg #[Iv 0,Iv 0,Uv 0,Uv 0,.bool false,Iv 0,.bool false,Iv 0,Iv 0,sN]),10,96):=by kernel_rfl
def QDt (W:World) (base g off cap:Nat) (f:F) (l:List AV):Prop :=
 base<=g/\l.length<=cap/\∃N c,W.rowIs g 90 N c/\off+cap*10<=N/\∀i,i<l.length->∀j,j<10->(aA f (aat l i))[j]?=some (c (off+i*10+j))
theorem QDt.other {W W':World}{base g off cap:Nat}{f:F}{l:List AV}(h:QDt W base g off cap f l) (e:W'.heap[g]?=W.heap[g]?):QDt W' base g off cap f l:=by
 obtain⟨h1,h2,N,c,⟨cs,h3,h4⟩,r⟩:=h;exact⟨h1,h2,N,c,⟨cs,e.trans h3,h4⟩,r⟩
theorem QDt.lt {W:World}{base g off cap:Nat}{f:F}{l:List AV}(h:QDt W base g off cap f l):g<W.heap.size:=by
 obtain⟨h1,h2,N,c,⟨cs,h3,h4⟩,r⟩:=h;exact(gSm.1 h3).1
theorem QDt.type {W:World}{base g off cap:Nat}{f:F}{l:List AV}(h:QDt W base g off cap f l):∃cs,W.heap[g]?=some (.cells cs 90):=by
 obtain⟨h1,h2,N,c,⟨cs,h3,h4⟩,r⟩:=h;exact⟨cs,h3⟩
theorem QDt.below {W W':World}{base g off cap:Nat}{f:F}{l:List AV}(h:QDt W base g off cap f l) (hb:Bl W W'):QDt W' base g off cap f l:=h.other (hb.block _ h.lt)
theorem QDt.one {W:World}{base g:Nat}{f:F}{x:AV}(h:W.heap[g]?=some (.cells (aA f x) 90)) (hb:base<=g):QDt W base g 0 1 f [x]:=by
 refine⟨hb,by simp,10,λj=>(aA f x).getD j (Iv 0),⟨_,h,rfl,λj hj => ?_⟩,om,λi hi j hj => ?_⟩
 ·have hs:j<(aA f x).size:=hj;simp[hs]
 ·obtain rfl:i=0:=by simp at hi;omega
  have hs:j<(aA f x).size:=hj;show(aA f x)[j]?=some ((aA f x).getD (0+0*10+j) (Iv 0));rw[show 0+0*10+j=j by omega];simp[hs]
theorem QDt.cell {W:World}{base g off cap:Nat}{f:F}{l:List AV}(h:QDt W base g off cap f l) {i:Nat}(hi:i<l.length) {j:Nat}(hj:j<10):W.cell? (Pv g (off+i*10+j))=(aA f (aat l i))[j]?:=by
 obtain⟨h1,h2,N,c,⟨cs,h3,h4,h5⟩,h6,h7⟩:=h;rw[h7 i hi j hj,a9Y W g _ _ _ _ h3];have:i*10+10<=cap*10:=om
 exact h5 _ om
theorem QDt.tail {W:World}{base g off cap:Nat}{f:F}{x:AV}{l:List AV}(h:QDt W base g off cap f (x :: l)):QDt W base g (off+10) (cap-1) f l:=by
 obtain⟨h1,h2,N,c,h3,h4,h5⟩:=h;simp only[List.length_cons] at h2;refine⟨h1,om,N,c,h3,om,λi hi j hj => ?_⟩;have:=h5 (i+1) (by simp;omega) j hj;rw[show off+10+i*10+j=off+(i+1)*10+j by omega];exact this
abbrev a3W (v x:Value) (w:World) (v':Value) (w':World):Prop:=(Builtin.append_ #[91,91] 91 #[v,x]).run prog w=.ok v' w'
theorem one_co {W:World}{g:Nat}{f:F}{x:AV}(h:W.heap[g]?=some (.cells (aA f x) 90)) (j:Nat) (u:Value) (hj:(aA f x).toList[j]?=some u):W.cell? (Addr.add ⟨g,0,none⟩ j)=some u:=by
 rw[Addr.add_lit,Nat.zero_add,a9Y W g _ _ _ _ h];rw[Array.getElem?_toList] at hj;exact hj
theorem more_d (base g off cap:Nat) (W:World) (f:F) (l:List AV) (x:AV) (h:QDt W base g off cap f l) (hl:l.length<=100000) (ac:base<=W.heap.size) :
  ∃g' ai aa W2,a3W (.slice (some (Pv g off)) l.length cap) (.slice (some (Pv W.heap.size 0)) 1 1) (W.alloc (.cells (aA f x) 90)) (.slice (some (Pv g' ai)) (l.length+1) aa) W2/\QDt W2 base g' ai aa f (l++[x])/\(g'=g\/W.heap.size<g')/\Below base W W2/\∀q,q≠g->q<W.heap.size->W2.heap[q]?=W.heap[q]?:=by
 obtain⟨i0,hi,ay,ak,aq⟩:=info_parts infoCo;have aj:=bA1 W (.cells (aA f x) 90);have hq:=h.below aj;have ad:=a9Z W (.cells (aA f x) 90);have al:=h.lt;obtain⟨h1,h2,N,c,ag,h4,h5⟩:=hq;have ah:=ag;obtain⟨cs,am,aD,ap⟩:=ah;by_cases hroom:l.length+1<=cap
 ·have ab:=run_append_room_cells (P:=prog) (W.alloc (.cells (aA f x) 90)) 91 91 90 i0 underlying91 hi g off l.length cap ⟨W.heap.size,0,none⟩ 1 1 (aA f x).toList (by rw[ak];rfl) (one_co ad) (aA_one f x) hroom (λj hj=>by
   rw[a9Y _ g _ _ _ _ am,ak,ap _ (by have:j<10:=hj;omega)];rfl) (λj hj=>b0a _ _ _ _ _ am)
  rw[ak] at ab;refine⟨g,off,cap,_,ab,⟨h1,by simp;omega,N,_,rowIs_setCells _ _ _ _ ag,h4,λi hi j hj => ?_⟩,Or.inl rfl,?_,λq ao al => ?_⟩
  ·simp only[List.length_append,List.length_cons,List.length_nil] at hi;show _=some (if _ then _ else _);rw[show(aA f x).toList.length=10 from rfl];by_cases e:i<l.length
   ·rw[a3d l _ i e,h5 i e j hj,iN om]
   ·obtain rfl:i=l.length:=om
    rw[a3e,iP om,show off+l.length*10+j-(off+l.length*10)=j by omega];have hs:j<(aA f x).size:=hj;simp[hs]
  ·exact(aj.mono ac).trans (below_setCells h1 _ _ _ (b0h _ _))
  ·rw[World.heap_setCells_other _ _ _ _ (by simp;omega) ao];exact aj.block q al
 ·obtain⟨af,eo⟩:=nn (a0f l.length 10 (λi j=>c (off+i*10+j)))
  obtain⟨v',w',ab,an,hg⟩:=run_append_arg_grows (P:=prog) (W.alloc (.cells (aA f x) 90)) 91 91 90 i0 _ 10 96 underlying91 hi ay ak aq rfl om ⟨g,off,none⟩ l.length cap af (by rw[eo,a0p]) (λj u hj=>by
   rw[Addr.add_lit,a9Y _ g _ _ _ _ am];rw[eo] at hj;have av:j<l.length*10:=(by have:=(List.getElem?_eq_some_iff.1 hj).1;rwa [a0p] at this)
   rw[ap _ om];simp[a0f,av] at hj;rw[<-hj,show off+j/10*10+j%10=off+j by omega]) ⟨W.heap.size,0,none⟩ 1 1 (aA f x).toList rfl (one_co ad) om (by unfold maxLen;omega) om
  obtain⟨aC,aw⟩:=an;rcases aw with⟨rfl,e0⟩ | ⟨g',aa,ae,rfl,ar,hh,az,hm,hs,ht⟩
  ·omega
  ·have aB:W.heap.size+1<=g':=(by simpa using ar)
   refine⟨g',0,aa,w',ab,⟨om,by simp;omega,ae.size,λj=>ae.getD j (Iv 0),⟨ae,hh,rfl,λi hi=>by simp[hi]⟩,om,λi hi j hj => ?_⟩,Or.inr om,?_,λq ao al => ?_⟩
   ·simp only[List.length_append,List.length_cons,List.length_nil] at hi;have hk:i*10+j<(l.length+1)*10:=om
    have h3:(ae.toList.take ((l.length+1)*10))[i*10+j]?=(af++(aA f x).toList)[i*10+j]?:=(by rw[ht])
    rw[List.getElem?_take_of_lt hk,Array.getElem?_toList] at h3;have ax:i*10+j<ae.size:=om
    have h6:some (ae.getD (0+i*10+j) (Iv 0))=ae[i*10+j]?:=by
     rw[Nat.zero_add];simp[ax]
    show _=some (ae.getD (0+i*10+j) (Iv 0));rw[h6,h3];have au:af.length=l.length*10:=(by rw[eo,a0p])
    by_cases e:i<l.length
    ·rw[List.getElem?_append_left om,a3d l _ i e,h5 i e j hj,eo];have:i*10+j<l.length*10:=om
     simp[a0f,this];rw[show(i*10+j)/10=i by omega,Nat.mod_eq_of_lt hj]
    ·obtain rfl:i=l.length:=om
     rw[List.getElem?_append_right om,a3e,au,show l.length*10+j-l.length*10=j by omega,Array.getElem?_toList]
   ·exact(aj.mono ac).grown hg (by simp;omega) (λk hk=>by cases hk)
   ·rw[hg.block q (by simp;omega) (by simp)];exact aj.block q al
structure DM (w W:World) (BN BT RF:Nat) (n:Net) (oao:OA) (ocap T:Nat) (f:F) (bks0:Nat->List E) (bo0:Nat->OA) (bc0:Nat->Nat) (gk kc:Nat) (bks:Nat->List E) (bo:Nat->OA) (bc:Nat->Nat) (so:OA) (sc:Nat) (ss:List AV) (g off cap:Nat) (ws:List AV):Prop where
 low:Bl w W
 bxN:W.heap[BN]?=some (.cells #[.slice n.bao n.K n.bcap,.slice n.lao n.L n.lcap] 25)
 bxT:W.heap[BT]?=some (.cells #[.slice oao T ocap] 34)
 rF:W.heap[RF]?=some (.cells #[Iv 0,Iv 0] 37)
 row:W.ownsRow w.heap.size 54 9 (.slice so ss.length sc) ss.length (a0f ss.length 9 (λi=>sC f (aat ss i)))
 q:QDt W w.heap.size g off cap f ws
 dS:∀x∈ss,x.v.da=f.ao/\x.v.dc=f.cap
 dW:∀x∈ws,x.v.da=f.ao/\x.v.dc=f.cap
 out:W.ownsRow w.heap.size 67 1 (.slice (some (Pv gk 0)) n.K kc) n.K (a0f n.K 1 (λi _=>.slice (bo i) (bks i).length (bc i)))
 each:∀i,i<n.K->((bo i=bo0 i/\bc i=bc0 i/\bks i=bks0 i)\/OwnE W w.heap.size (.slice (bo i) (bks i).length (bc i)) (bks i))/\(bks i).length<=9223372036854775807
abbrev DM.o:=@DM.out
section
variable {w W W':World}{BN BT RF:Nat}{n:Net}{oao:OA}{ocap T:Nat}{f:F}{bks0:Nat->List E}{bo0:Nat->OA}{bc0:Nat->Nat}{gk kc:Nat}{bks:Nat->List E}{bo:Nat->OA}{bc:Nat->Nat}{so:OA}{sc:Nat}{ss:List AV}{g off cap:Nat}{ws:List AV}
theorem DM.ty (h:DM w W BN BT RF n oao ocap T f bks0 bo0 bc0 gk kc bks bo bc so sc ss g off cap ws) (hb:Bl w W') (t1:Ty W W' 25) (t2:Ty W W' 34) (t3:Ty W W' 37) (t6:Ty W W' 110) (hr:W'.ownsRow w.heap.size 54 9 (.slice so ss.length sc) ss.length (a0f ss.length 9 (λi=>sC f (aat ss i)))) (hq:QDt W' w.heap.size g off cap f ws) (ho:W'.ownsRow w.heap.size 67 1 (.slice (some (Pv gk 0)) n.K kc) n.K (a0f n.K 1 (λi _=>.slice (bo i) (bks i).length (bc i)))):DM w W' BN BT RF n oao ocap T f bks0 bo0 bc0 gk kc bks bo bc so sc ss g off cap ws :=
 ⟨hb,t1 _ _ h.bxN,t2 _ _ h.bxT,t3 _ _ h.rF,hr,hq,h.dS,h.dW,ho,λi hi=>⟨(h.each i hi).1.imp id (λz=>t6.owns z),(h.each i hi).2⟩⟩
theorem DM.below (h:DM w W BN BT RF n oao ocap T f bks0 bo0 bc0 gk kc bks bo bc so sc ss g off cap ws) (hb:Bl W W'):DM w W' BN BT RF n oao ocap T f bks0 bo0 bc0 gk kc bks bo bc so sc ss g off cap ws :=
 h.ty (h.low.trans (hb.mono h.low.size)) (Ty.below _ hb) (Ty.below _ hb) (Ty.below _ hb) (Ty.below _ hb) (a0h h.row hb) (h.q.below hb) (a0h h.o hb)
theorem DM.tail1 {x:AV}{aa:Nat}(h:DM w W BN BT RF n oao ocap T f bks0 bo0 bc0 gk kc bks bo bc so sc ss g off cap (x :: ws)) (h1:cap=1->aa=off) (h2:cap≠1->aa=off+10):DM w W BN BT RF n oao ocap T f bks0 bo0 bc0 gk kc bks bo bc so sc ss g aa (cap-1) ws:=by
 refine⟨h.low,h.bxN,h.bxT,h.rF,h.row,?_,h.dS,λy hy=>h.dW y (b0n _ hy),h.o,h.each⟩;by_cases e:cap=1
 ·rw[h1 e];obtain⟨q1,q2,N,c,q3,q4,q5⟩:=h.q;simp only[List.length_cons] at q2;exact⟨q1,om,N,c,q3,om,λi hi=>by omega⟩
 ·rw[h2 e];exact h.q.tail
theorem DM.bel (h:DM w W BN BT RF n oao ocap T f bks0 bo0 bc0 gk kc bks bo bc so sc ss g off cap ws) (h0:∀i,i<n.K->BEL w (bo0 i) (bc0 i) (bks0 i)/\a0s (bo0 i) (bks0 i).length (bc0 i)) {i:Nat}(hi:i<n.K):BEL W (bo i) (bc i) (bks i)/\a0s (bo i) (bks i).length (bc i):=by
 rcases(h.each i hi).1 with⟨e1,e2,e3⟩ | z
 ·rw[e1,e2,e3];exact⟨(h0 i hi).1.below h.low,(h0 i hi).2⟩
 ·obtain⟨a,c,e,z1,z2,_⟩:=z.el;injection e with e1 _ e2;rw[e1,e2];exact⟨z1,z2⟩
theorem DM.book (h:DM w W BN BT RF n oao ocap T f bks0 bo0 bc0 gk kc bks bo bc so sc ss g off cap ws) {i:Nat}(hi:i<n.K) {a:OA}{c:Nat}{l:List E}(hd:BkD W w.heap.size (bo i) (bc i) (bks i) a c l) (hl:l.length<=9223372036854775807):DM w (W.setCell (Pv gk i) (.slice a l.length c)) BN BT RF n oao ocap T f bks0 bo0 bc0 gk kc (λj=>if j=i then l else bks j) (λj=>if j=i then a else bo j) (λj=>if j=i then c else bc j) so sc ss g off cap ws:=by
 have ac:=h.o;rcases a1G ac with⟨e,_⟩ | ⟨g1,c1,sp,e,z1,z2,z3,z4,z5⟩
 ·cases e
 ·injection e with e1 _ e2;injection e1 with e1;injection e1 with e1;subst e1 e2;have ab:∀q,q≠gk->(W.setCell (Pv gk i) (.slice a l.length c)).heap[q]?=W.heap[q]?:=λq hq=>b0f _ _ _ _ (by exact hq);have t:∀e,e≠67->Ty W (W.setCell (Pv gk i) (.slice a l.length c)) e:=λe he=>Ty.but z5 (λq ad _=>ab q ad) e he;have ae:g≠gk:=λe=>by
   obtain⟨cs,hc⟩:=h.q.type;rw[e,z5] at hc;injection hc with hc;injection hc with _ hc;exact absurd hc dd
  have aa:=a1D z5 hi (j:=0) om (.slice a l.length c);rw[Nat.mul_one,Nat.add_zero] at aa;refine⟨?_,t _ dd _ _ h.bxN,t _ dd _ _ h.bxT,t _ dd _ _ h.rF,(t _ dd).owns h.row,h.q.other (ab _ ae),h.dS,h.dW,?_,λj hj => ?_⟩
  ·exact h.low.setCell (by exact z1) _
  ·refine a1H z1 z2 z3 z4 (aa.trans (congrArg (λa=>some (Obj.cells a 67)) (a2o sp (λx hx y hy => ?_))));obtain rfl:y=0:=om
   unfold updC;by_cases e:x=i
   ·simp[e]
   ·simp[e]
  ·by_cases e:j=i
   ·simp only[iP e];refine⟨?_,hl⟩;rcases hd with⟨rfl,rfl,rfl⟩ | d
    ·rw[e];exact(h.each i hi).1.imp id (λz=>(t _ dd).owns z)
    ·exact Or.inr ((t _ dd).owns d)
   ·simp only[iN e];exact⟨(h.each j hj).1.imp id (λz=>(t _ dd).owns z),(h.each j hj).2⟩
theorem DM.seen {W2:World}{ab:OA}{ac:Nat}{x:AV}(h:DM w W BN BT RF n oao ocap T f bks0 bo0 bc0 gk kc bks bo bc so sc ss g off cap ws) (hx:x.v.da=f.ao/\x.v.dc=f.cap) (ho:W2.ownsRow w.heap.size 54 9 (.slice ab (ss.length+1) ac) (ss++[x]).length (a0f (ss++[x]).length 9 (λi=>sC f (aat (ss++[x]) i)))) (hb:Below w.heap.size W W2) (ht:∀(q:Nat) (aa:Array Value) (ty:TypeId),W.heap[q]?=some (Obj.cells aa ty (0,0))->ty≠54->W2.heap[q]?=some (Obj.cells aa ty (0,0))) :
  DM w W2 BN BT RF n oao ocap T f bks0 bo0 bc0 gk kc bks bo bc ab ac (ss++[x]) g off cap ws:=by
 have t:∀e,e≠54->Ty W W2 e:=λe he q aa hq=>ht q aa e hq he;obtain⟨cs,hq⟩:=h.q.type;have e:(ss++[x]).length=ss.length+1:=(by simp)
 refine⟨h.low.trans hb,t _ dd _ _ h.bxN,t _ dd _ _ h.bxT,t _ dd _ _ h.rF,by rw[<-e] at ho;exact ho,h.q.other ((ht g cs _ hq dd).trans hq.symm),λy hy => ?_,h.dW,(t _ dd).owns h.o,λi hi=>⟨(h.each i hi).1.imp id (λz=>(t _ dd).owns z),(h.each i hi).2⟩⟩;rcases List.mem_append.1 hy with hy | hy
 ·exact h.dS y hy
 ·obtain rfl:y=x:=by simpa using hy
  exact hx
theorem DM.more {W2:World}{g' ab aa:Nat}{x:AV}(h:DM w W BN BT RF n oao ocap T f bks0 bo0 bc0 gk kc bks bo bc so sc ss g off cap ws) (hx:x.v.da=f.ao/\x.v.dc=f.cap) (hq:QDt W2 w.heap.size g' ab aa f (ws++[x])) (hb:Below w.heap.size W W2) (ht:∀q,q≠g->q<W.heap.size->W2.heap[q]?=W.heap[q]?) :
  DM w W2 BN BT RF n oao ocap T f bks0 bo0 bc0 gk kc bks bo bc so sc ss g' ab aa (ws++[x]):=by
 obtain⟨cs,hg⟩:=h.q.type;have t:∀e,e≠90->Ty W W2 e:=λe he=>Ty.but hg ht e he;refine⟨h.low.trans hb,t _ dd _ _ h.bxN,t _ dd _ _ h.bxT,t _ dd _ _ h.rF,(t _ dd).owns h.row,hq,h.dS,λy hy => ?_,(t _ dd).owns h.o,λi hi=>⟨(h.each i hi).1.imp id (λz=>(t _ dd).owns z),(h.each i hi).2⟩⟩;rcases List.mem_append.1 hy with hy | hy
 ·exact h.dW y hy
 ·obtain rfl:y=x:=by simpa using hy
  exact hx
end
