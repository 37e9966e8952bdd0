/- ZK6 -/
import Derived.Test.YtelebnancdjjiaaGreatDoorE33
set_option maxRecDepth 100000
set_option maxHeartbeats 40000000
namespace Go.Proofs.YtelebnancdjjiaaGreatDoor
section
open Go.Proofs.Tryz Go.RowKit
open Pl(Net Lk Br)
open Bk(E at')
open Rl(G gat F R O)
open Tk(Md)
def a2D:Code->List Code
 | .loop c=>c :: a2D c
 | .seq a b=>a2D a++a2D b
 | .block _ c=>a2D c
 | .scope c=>a2D c
 | .cond _ a b=>a2D a++a2D b
 | _=>[]
noncomputable def a7a (k:Nat):Code:=((Tryz.f11.body.map a2D).getD []).getD k .skip
theorem zlinks {w:World}{BN BT RF:Nat}{n:Net}{oao:OA}{ocap T:Nat}{f:F}{al:Nat->List E}{bo:Nat->OA}{bc:Nat->Nat}{gk kc:Nat}{nb:Nat->List E}{aj:Nat->OA}{ak:Nat->Nat}{so:OA}{sc:Nat}{ss:List AV}{B5:Nat}{am:Value}{os:List O}{xi:Nat}{xp:Int}{xt:Bool}{xr:Int}{xd:Bool}{xv:Int}{BX:Nat}{BO:Nat}{op:Int}{ot:Bool}{oq:Int}{od:Bool}{ov:Int}{ps:List (Nat×O)}{g0 ap q0 aq:Nat}{W0:World}{aA aB aC aD aE aF aG aH aI aJ aK aL aM aN aO aP9 aQ aR aT aU aV aW aX aY aZ bA bB bC bD bE bF bG bH bI bJ bK bL bM bN bO bP bQ bR bS bT bU bV bW bX bY bZ cA cB cC cD cE cF cG cH cI cJ cK cL cM cN cO cP cQ cR cS cT cU cV cW cX cY cZ dA dB dC dD dE dF dG dH dI dJ dK dL dM dN dO dP dQ dR dS dT dU dV dW dX dY dZ eB eC eD eE eF eG eH eI eJ eK eL eM eN eO eP eQ eR eS eT eU eV eW eX eY eZ fA fB fC fD fE fF fG fH fI fJ fK fL fM fN fO fP fQ fR fS fT fU fV fW fX fY fZ gA gB gC gD gE gF gG gH gI gJ gK gL gM gN gO gP gQ gR gS gT gU gV gW gX gY gZ hA hB hC hD hE hF hG hH hI hJ hK hM hN hO hP hQ hR hS hT hU hV hW hX hY hZ iA iB iC iD iE iF iG iH iI iJ iK iL iM iO iQ iR iS iT iU iV iW iX iY iZ jA jB jC jD jE jF jG jH jI jJ jK jL jM jN jO jP jQ jR jS jT jU jV jW jX jY jZ kA kB kC kD kE kF kG kH kI kJ kK kL kM kN kO kP kQ kR kS kT kU kV kW kX kY kZ lA lB lC lD lE lF lG lH lI lJ lK lL lM lN lO lP lQ lR lS lT lU lV lW lX lY lZ mA mB mC mD mE mF mG mH:Value}{Q:Exit->Act->World->Prop}(R:n.Right) (bs:ps.length<=1900) (a8:∀V,Bl w V->LRow V n.lao n.L n.lcap n.ls) (h0:LM w W0 BN BT RF n oao ocap T f al bo bc gk kc nb aj ak so sc ss B5 am os [(BO,#[Iv op,Uv f.dst,Uv f.src,.bool ot,Iv oq,.bool od,Iv ov,Iv f.type,.slice f.ao f.n f.cap],101),(BX,#[Iv xi,Iv xp,Uv f.dst,Uv f.src,.bool xt,Iv xr,.bool xd,Iv xv,Iv f.type,.slice f.ao f.n f.cap],90)] (ps) g0 ap q0 aq)
  (az:∀{g2 ag q2 ae:Nat}{wu:World}{bI mI kA kB kC kD kE kF kG kH kI kJ kK kL kM kN kO kP kQ kR kS kT kU kV kW kX kY kZ lA lB lC lD lE lF lG lH lI lJ lK lL lM lN lO lP lQ lR lS lT lU lV lW lX lY lZ mA mB mC mD:Value},LM w wu BN BT RF n oao ocap T f al bo bc gk kc nb aj ak so sc ss B5 am os [(BO,#[Iv op,Uv f.dst,Uv f.src,.bool ot,Iv oq,.bool od,Iv ov,Iv f.type,.slice f.ao f.n f.cap],101),(BX,#[Iv xi,Iv xp,Uv f.dst,Uv f.src,.bool xt,Iv xr,.bool xd,Iv xv,Iv f.type,.slice f.ao f.n f.cap],90)] (ps++Ln.hits n.ls xi ⟨op,ot,oq,od,ov⟩ n.L) g2 ag q2 ae->Q (.exit 10) ⟨List.toArray (aA::aB::aC::aD::aE::aF::aG::aH::aI::aJ::aK::aL::aM::aN::aO::aP9::aQ::aR::aT::aU::aV::aW::(.slice (some (Pv g2 ag)) q2 ae)::aX::(.pointer (some (Pv BX 0)))::aY::aZ::bA::bB::bC::bD::bE::bF::bG::(.pointer (some (Pv BO 0)))::bH::bI::bJ::bK::bL::bM::bN::bO::bP::bQ::bR::bS::bT::bU::bV::bW::bX::bY::bZ::cA::cB::cC::cD::cE::cF::cG::cH::cI::cJ::cK::cL::cM::cN::cO::cP::cQ::cR::cS::cT::cU::cV::cW::cX::cY::cZ::dA::dB::dC::dD::dE::dF::dG::dH::dI::dJ::dK::dL::dM::dN::dO::dP::dQ::dR::dS::dT::dU::dV::dW::dX::dY::dZ::eB::eC::eD::eE::eF::eG::eH::eI::eJ::eK::eL::eM::eN::eO::eP::eQ::eR::eS::eT::eU::eV::eW::eX::eY::eZ::fA::fB::fC::fD::fE::fF::fG::fH::fI::fJ::fK::fL::fM::fN::fO::fP::fQ::fR::fS::fT::fU::fV::fW::fX::fY::fZ::gA::gB::gC::gD::gE::gF::gG::gH::gI::gJ::gK::gL::gM::gN::gO::gP::gQ::gR::gS::gT::gU::gV::gW::gX::gY::gZ::hA::hB::hC::hD::hE::hF::hG::hH::hI::hJ::hK::hM::hN::hO::hP::hQ::hR::hS::hT::hU::hV::hW::hX::hY::hZ::iA::iB::iC::iD::iE::iF::iG::iH::iI::iJ::iK::iL::iM::iO::iQ::iR::iS::iT::iU::iV::iW::iX::iY::iZ::jA::jB::jC::jD::jE::jF::jG::jH::jI::jJ::jK::jL::jM::jN::jO::jP::jQ::jR::jS::jT::jU::jV::jW::jX::jY::jZ::(.slice n.lao n.L n.lcap)::(Iv (n.L:Int))::mI::kA::kB::kC::kD::kE::kF::kG::kH::kI::kJ::kK::kL::kM::kN::kO::kP::kQ::kR::kS::kT::kU::kV::kW::kX::kY::kZ::lA::lB::lC::lD::lE::lF::lG::lH::lI::lJ::lK::lL::lM::lN::lO::lP::lQ::lR::lS::lT::lU::lV::lW::lX::lY::lZ::mA::mB::mC::mD::mE::mF::mG::mH::[]),[]⟩ wu) :
  Code.wp prog (Code.loop (a7a 5)) Q ⟨List.toArray (aA::aB::aC::aD::aE::aF::aG::aH::aI::aJ::aK::aL::aM::aN::aO::aP9::aQ::aR::aT::aU::aV::aW::(.slice (some (Pv g0 ap)) q0 aq)::aX::(.pointer (some (Pv BX 0)))::aY::aZ::bA::bB::bC::bD::bE::bF::bG::(.pointer (some (Pv BO 0)))::bH::bI::bJ::bK::bL::bM::bN::bO::bP::bQ::bR::bS::bT::bU::bV::bW::bX::bY::bZ::cA::cB::cC::cD::cE::cF::cG::cH::cI::cJ::cK::cL::cM::cN::cO::cP::cQ::cR::cS::cT::cU::cV::cW::cX::cY::cZ::dA::dB::dC::dD::dE::dF::dG::dH::dI::dJ::dK::dL::dM::dN::dO::dP::dQ::dR::dS::dT::dU::dV::dW::dX::dY::dZ::eB::eC::eD::eE::eF::eG::eH::eI::eJ::eK::eL::eM::eN::eO::eP::eQ::eR::eS::eT::eU::eV::eW::eX::eY::eZ::fA::fB::fC::fD::fE::fF::fG::fH::fI::fJ::fK::fL::fM::fN::fO::fP::fQ::fR::fS::fT::fU::fV::fW::fX::fY::fZ::gA::gB::gC::gD::gE::gF::gG::gH::gI::gJ::gK::gL::gM::gN::gO::gP::gQ::gR::gS::gT::gU::gV::gW::gX::gY::gZ::hA::hB::hC::hD::hE::hF::hG::hH::hI::hJ::hK::hM::hN::hO::hP::hQ::hR::hS::hT::hU::hV::hW::hX::hY::hZ::iA::iB::iC::iD::iE::iF::iG::iH::iI::iJ::iK::iL::iM::iO::iQ::iR::iS::iT::iU::iV::iW::iX::iY::iZ::jA::jB::jC::jD::jE::jF::jG::jH::jI::jJ::jK::jL::jM::jN::jO::jP::jQ::jR::jS::jT::jU::jV::jW::jX::jY::jZ::(.slice n.lao n.L n.lcap)::(Iv (n.L:Int))::(Iv 0)::kA::kB::kC::kD::kE::kF::kG::kH::kI::kJ::kK::kL::kM::kN::kO::kP::kQ::kR::kS::kT::kU::kV::kW::kX::kY::kZ::lA::lB::lC::lD::lE::lF::lG::lH::lI::lJ::lK::lL::lM::lN::lO::lP::lQ::lR::lS::lT::lU::lV::lW::lX::lY::lZ::mA::mB::mC::mD::mE::mF::mG::mH::[]),[]⟩ W0:=by
 have bh:Hid (LM w W0 BN BT RF n oao ocap T f al bo bc gk kc nb aj ak so sc ss B5 am os [(BO,#[Iv op,Uv f.dst,Uv f.src,.bool ot,Iv oq,.bool od,Iv ov,Iv f.type,.slice f.ao f.n f.cap],101),(BX,#[Iv xi,Iv xp,Uv f.dst,Uv f.src,.bool xt,Iv xr,.bool xd,Iv xv,Iv f.type,.slice f.ao f.n f.cap],90)] (ps++Ln.hits n.ls xi ⟨op,ot,oq,od,ov⟩ 0) g0 ap q0 aq):=by
  have e:Ln.hits n.ls xi ⟨op,ot,oq,od,ov⟩ 0=[]:=rfl;rw[e,List.append_nil];exact h0
 have bi:Hid (∀V,Bl w V->LRow V n.lao n.L n.lcap n.ls):=a8;have bq:n.L<=n.lcap:=(a8 W0 h0.low).1;have bm:=R.fewL;have HR:Hid n.Right:=R;have a6:=@az;clear h0 a8 R az;conv=>arg 2;arg 1;whnf
 go_loopw [22,260] (λbl bb wu=>∃(j g2 ag q2 ae:Nat),j<=n.L/\bl=.slice (some (Pv g2 ag)) q2 ae/\bb=Iv j/\Hid (LM w wu BN BT RF n oao ocap T f al bo bc gk kc nb aj ak so sc ss B5 am os [(BO,#[Iv op,Uv f.dst,Uv f.src,.bool ot,Iv oq,.bool od,Iv ov,Iv f.type,.slice f.ao f.n f.cap],101),(BX,#[Iv xi,Iv xp,Uv f.dst,Uv f.src,.bool xt,Iv xr,.bool xd,Iv xv,Iv f.type,.slice f.ao f.n f.cap],90)] (ps++Ln.hits n.ls xi ⟨op,ot,oq,od,ov⟩ j) g2 ag q2 ae)) (λ_ i _=>n.L-(intOf i).toNat)
 case atStart=>exact⟨0,g0,ap,q0,aq,om,rfl,rfl,bh⟩
 case round =>
 clear bh;obtain⟨j,g2,ag,q2,ae,hj,rfl,rfl,hL⟩:=hrel;rename World=>wu
 by_cases hjl:j<n.L
 ·have ax:=hL.o;obtain⟨br,bp,bg,_⟩:=CRow.some (bi.o wu ax.low) om;have a7:=bi.o wu ax.low;rw[bg] at a7 ⊢;clear bg;obtain⟨l0,l1,l2,l3,l4,l5⟩:=LRow.cells a7 hjl;obtain⟨Z,HZ⟩:=nm (wu.alloc (.cells #[Iv (n.ls j).a,Iv (n.ls j).pa,Iv (n.ls j).b,Iv (n.ls j).pb,Iv (n.ls j).cost,.bool (n.ls j).up] 103))
  obtain⟨BL,be⟩:=nm wu.heap.size
  have ba:(ps++Ln.hits n.ls xi ⟨op,ot,oq,od,ov⟩ j).length<=2000:=by
   have h1:=Ln.hits_len n.ls xi ⟨op,ot,oq,od,ov⟩ j;rw[List.length_append];omega
  obtain⟨HS,a9⟩:=nn (ps++Ln.hits n.ls xi ⟨op,ot,oq,od,ov⟩ j)
  have ar:ps++Ln.hits n.ls xi ⟨op,ot,oq,od,ov⟩ (j+1)=HS++Ln.hit (n.ls j) xi ⟨op,ot,oq,od,ov⟩:=by
   rw[a9,List.append_assoc];rfl
  rw[<-a9] at ax ba;obtain⟨bn,bj,_⟩:=HR.o.links.ok j hjl;have bd:LM w Z BN BT RF n oao ocap T f al bo bc gk kc nb aj ak so sc ss B5 am os [(BL,#[Iv (n.ls j).a,Iv (n.ls j).pa,Iv (n.ls j).b,Iv (n.ls j).pb,Iv (n.ls j).cost,.bool (n.ls j).up],103),(BO,#[Iv op,Uv f.dst,Uv f.src,.bool ot,Iv oq,.bool od,Iv ov,Iv f.type,.slice f.ao f.n f.cap],101),(BX,#[Iv xi,Iv xp,Uv f.dst,Uv f.src,.bool xt,Iv xr,.bool xd,Iv xv,Iv f.type,.slice f.ao f.n f.cap],90)] (HS) g2 ag q2 ae:=by
   rw[HZ.o,be.o];exact ax.add _ _ dd
  have ij:(0:Int)<=(j:Int):=om
  have nj:(j:Int)<(n.L:Int):=om
  clear a9 ax a7 hL;generalize n.ls j=lk at *;obtain⟨la,ad,lb,ac,lc,lu⟩:=lk;simp only at *;obtain⟨ma,rfl⟩:∃m:Nat,la=(m:Int):=⟨la.toNat,om⟩
  obtain⟨mb,rfl⟩:∃m:Nat,lb=(m:Int):=⟨lb.toNat,om⟩
  have av:Hid (∀V g3 aa q3 ab ps,LM w V BN BT RF n oao ocap T f al bo bc gk kc nb aj ak so sc ss B5 am os [(BL,#[Iv ma,Iv ad,Iv mb,Iv ac,Iv lc,.bool lu],103),(BO,#[Iv op,Uv f.dst,Uv f.src,.bool ot,Iv oq,.bool od,Iv ov,Iv f.type,.slice f.ao f.n f.cap],101),(BX,#[Iv xi,Iv xp,Uv f.dst,Uv f.src,.bool xt,Iv xr,.bool xd,Iv xv,Iv f.type,.slice f.ao f.n f.cap],90)] (ps) g3 aa q3 ab->(V.cell? (Pv BL 0)=some (Iv ma)/\V.cell? (Pv BL 1)=some (Iv ad)/\V.cell? (Pv BL 2)=some (Iv mb)/\V.cell? (Pv BL 3)=some (Iv ac)/\V.cell? (Pv BL 5)=some (.bool lu))/\V.cell? (Pv BX 0)=some (Iv xi)/\(V.cell? (Pv BO 0)=some (Iv op)/\V.cell? (Pv BO 1)=some (Uv f.dst)/\V.cell? (Pv BO 2)=some (Uv f.src)/\V.cell? (Pv BO 3)=some (.bool ot)/\V.cell? (Pv BO 4)=some (Iv oq)/\V.cell? (Pv BO 5)=some (.bool od)/\V.cell? (Pv BO 6)=some (Iv ov)/\V.cell? (Pv BO 7)=some (Iv f.type)/\V.cell? (Pv BO 8)=some (.slice f.ao f.n f.cap))):=λV g3 aa q3 ab ps h=>by
   have h1:=(h.kb _ (b0m ..)).1;have h2:=(h.kb _ (b0n _ (b0m ..))).1;have h3:=(h.kb _ (b0n _ (b0n _ (b0m ..)))).1;exact⟨⟨a9Y _ _ 0 _ _ _ h1,a9Y _ _ 1 _ _ _ h1,a9Y _ _ 2 _ _ _ h1,a9Y _ _ 3 _ _ _ h1,a9Y _ _ 5 _ _ _ h1⟩,a9Y _ _ 0 _ _ _ h3,a9Y _ _ 0 _ _ _ h2,a9Y _ _ 1 _ _ _ h2,a9Y _ _ 2 _ _ _ h2,a9Y _ _ 3 _ _ _ h2,a9Y _ _ 4 _ _ _ h2,a9Y _ _ 5 _ _ _ h2,a9Y _ _ 6 _ _ _ h2,a9Y _ _ 7 _ _ _ h2,a9Y _ _ 8 _ _ _ h2⟩
  have a5:Hid (ps++Ln.hits n.ls xi ⟨op,ot,oq,od,ov⟩ (j+1)=HS++((if lu=true/\(ma:Int)=(xi:Int)/\ad=op then [(mb,(⟨ac,ot,oq,od,ov⟩:O))] else [])++(if lu=true/\(mb:Int)=(xi:Int)/\ac=op then [(ma,(⟨ad,ot,oq,od,ov⟩:O))] else []))):=ar;have HM:Hid (∀V g3 aa q3 ab ps (y:Nat) (pp:Int),ps.length<=3000->LM w V BN BT RF n oao ocap T f al bo bc gk kc nb aj ak so sc ss B5 am os [(BL,#[Iv ma,Iv ad,Iv mb,Iv ac,Iv lc,.bool lu],103),(BO,#[Iv op,Uv f.dst,Uv f.src,.bool ot,Iv oq,.bool od,Iv ov,Iv f.type,.slice f.ao f.n f.cap],101),(BX,#[Iv xi,Iv xp,Uv f.dst,Uv f.src,.bool xt,Iv xr,.bool xd,Iv xv,Iv f.type,.slice f.ao f.n f.cap],90)] (ps) g3 aa q3 ab->∃g4 ah ai W2,a3W (.slice (some (Pv g3 aa)) q3 ab) (.slice (some (Pv V.heap.size 0)) 1 1) (V.alloc (.cells #[Iv y,Iv pp,Uv f.dst,Uv f.src,.bool ot,Iv oq,.bool od,Iv ov,Iv f.type,.slice f.ao f.n f.cap] 90)) (.slice (some (Pv g4 ah)) (q3+1) ai) W2/\Hid (LM w W2 BN BT RF n oao ocap T f al bo bc gk kc nb aj ak so sc ss B5 am os [(BL,#[Iv ma,Iv ad,Iv mb,Iv ac,Iv lc,.bool lu],103),(BO,#[Iv op,Uv f.dst,Uv f.src,.bool ot,Iv oq,.bool od,Iv ov,Iv f.type,.slice f.ao f.n f.cap],101),(BX,#[Iv xi,Iv xp,Uv f.dst,Uv f.src,.bool xt,Iv xr,.bool xd,Iv xv,Iv f.type,.slice f.ao f.n f.cap],90)] (ps++[(y,⟨pp,ot,oq,od,ov⟩)]) g4 ah (q3+1) ai)):=λV g3 aa q3 ab ps y pp hl h=>h.more y ⟨pp,ot,oq,od,ov⟩ om;obtain⟨⟨v0,v1,v2,v3,v5⟩,x0,z0,z1,z2,z3,z4,z5,z6,z7,z8⟩:=av.o Z _ _ _ _ _ bd;have a2:Hid (LM w Z BN BT RF n oao ocap T f al bo bc gk kc nb aj ak so sc ss B5 am os [(BL,#[Iv ma,Iv ad,Iv mb,Iv ac,Iv lc,.bool lu],103),(BO,#[Iv op,Uv f.dst,Uv f.src,.bool ot,Iv oq,.bool od,Iv ov,Iv f.type,.slice f.ao f.n f.cap],101),(BX,#[Iv xi,Iv xp,Uv f.dst,Uv f.src,.bool xt,Iv xr,.bool xd,Iv xv,Iv f.type,.slice f.ao f.n f.cap],90)] (HS) g2 ag q2 ae):=bd;obtain⟨d1,a1⟩:=nn (decide (lu=true/\(ma:Int)=(xi:Int)/\ad=op))
  obtain⟨d2,aw⟩:=nn (decide (lu=true/\(mb:Int)=(xi:Int)/\ac=op))
  clear ar bd bn bj;(go_upto_region 58 with fail);rw[<-HZ.o,<-be.o];clear l0 l1 l2 l3 l4 l5;go_cut [279] from 264 to 279 (λv wx=>v=.bool d1/\Hid (wx=Z))
  case first =>
   clear a6 av HM;have af:Hid (d1=decide (lu=true/\(ma:Int)=(xi:Int)/\ad=op)):=a1;clear a1;cases lu with
   | false =>
    (go_wp2_with fail);go_meet
    exact⟨by rw[af.o];simp,rfl⟩
   | true =>
    by_cases q1:(ma:Int)=(xi:Int)
    ·have b1:((ma:Int) == (xi:Int))=true:=(by simp[q1])
     by_cases q2:ad=op
     ·have b2:(ad == op)=true:=(by simp[q2])
      have HQ:Hid (.bool true=Value.bool d1):=(by rw[af.o,b0k ⟨rfl,q1,q2⟩];rfl)
      clear q1 q2 af;(go_wp2_with fail);go_meet
      exact⟨HQ.o,rfl⟩
     ·have b2:(ad == op)=false:=(by simp[q2])
      have HQ:Hid (.bool false=Value.bool d1):=(by rw[af.o,b0j (λz=>q2 z.2.2)];rfl)
      clear q1 q2 af;(go_wp2_with fail);go_meet
      exact⟨HQ.o,rfl⟩
    ·have b1:((ma:Int) == (xi:Int))=false:=by
      apply beq_eq_false_iff_ne.2
      exact q1
     have HQ:Hid (.bool false=Value.bool d1):=(by rw[af.o,b0j (λz=>q1 z.2.1)];rfl)
     clear q1 af;(go_wp2_with fail);go_meet
     exact⟨HQ.o,rfl⟩
  case rest =>
  obtain⟨rfl,ay⟩:=hcut;rw[ay.o];clear ay;go_upto_if 279 with fail
  go_cut [22] from 280 to 289 (λv wx=>∃g3 aa q3 ab:Nat,v=.slice (some (Pv g3 aa)) q3 ab/\Hid (LM w wx BN BT RF n oao ocap T f al bo bc gk kc nb aj ak so sc ss B5 am os [(BL,#[Iv ma,Iv ad,Iv mb,Iv ac,Iv lc,.bool lu],103),(BO,#[Iv op,Uv f.dst,Uv f.src,.bool ot,Iv oq,.bool od,Iv ov,Iv f.type,.slice f.ao f.n f.cap],101),(BX,#[Iv xi,Iv xp,Uv f.dst,Uv f.src,.bool xt,Iv xr,.bool xd,Iv xv,Iv f.type,.slice f.ao f.n f.cap],90)] (HS++(if lu=true/\(ma:Int)=(xi:Int)/\ad=op then [(mb,(⟨ac,ot,oq,od,ov⟩:O))] else [])) g3 aa q3 ab))
  case first =>
   have af:Hid (d1=decide (lu=true/\(ma:Int)=(xi:Int)/\ad=op)):=a1;clear a1 aw a6 av a5;cases d1 with
   | true =>
    have eA:(if lu=true/\(ma:Int)=(xi:Int)/\ad=op then [(mb,(⟨ac,ot,oq,od,ov⟩:O))] else [])=[(mb,(⟨ac,ot,oq,od,ov⟩:O))]:=iP (b0o af.o.symm);obtain⟨g4,ah,ai,W2,an,a0⟩:=HM.o Z g2 ag q2 ae HS mb ac om a2.o;have a3:Hid (a3W (.slice (some (Pv g2 ag)) q2 ae) (.slice (some (Pv Z.heap.size 0)) 1 1) (Z.alloc (.cells #[Iv mb,Iv ac,Uv f.dst,Uv f.src,.bool ot,Iv oq,.bool od,Iv ov,Iv f.type,.slice f.ao f.n f.cap] 90)) (.slice (some (Pv g4 ah)) (q2+1) ai) W2):=an;have au:Hid (LM w W2 BN BT RF n oao ocap T f al bo bc gk kc nb aj ak so sc ss B5 am os [(BL,#[Iv ma,Iv ad,Iv mb,Iv ac,Iv lc,.bool lu],103),(BO,#[Iv op,Uv f.dst,Uv f.src,.bool ot,Iv oq,.bool od,Iv ov,Iv f.type,.slice f.ao f.n f.cap],101),(BX,#[Iv xi,Iv xp,Uv f.dst,Uv f.src,.bool xt,Iv xr,.bool xd,Iv xv,Iv f.type,.slice f.ao f.n f.cap],90)] (HS++(if lu=true/\(ma:Int)=(xi:Int)/\ad=op then [(mb,(⟨ac,ot,oq,od,ov⟩:O))] else [])) g4 ah (q2+1) ai):=(by rw[eA];exact a0.o)
    clear an a0 HM eA af a2;go_wp2_with (at_builtin;refine a0a rfl (.tmp 280) (.tmp 288) 91 rfl _ _ _ rfl rfl a3.o ?_;clear a3)
    go_meet
    exact⟨g4,ah,q2+1,ai,rfl,au⟩
   | false =>
    have eA:(if lu=true/\(ma:Int)=(xi:Int)/\ad=op then [(mb,(⟨ac,ot,oq,od,ov⟩:O))] else [])=[]:=iN (of_decide_eq_false af.o.symm);have au:Hid (LM w Z BN BT RF n oao ocap T f al bo bc gk kc nb aj ak so sc ss B5 am os [(BL,#[Iv ma,Iv ad,Iv mb,Iv ac,Iv lc,.bool lu],103),(BO,#[Iv op,Uv f.dst,Uv f.src,.bool ot,Iv oq,.bool od,Iv ov,Iv f.type,.slice f.ao f.n f.cap],101),(BX,#[Iv xi,Iv xp,Uv f.dst,Uv f.src,.bool xt,Iv xr,.bool xd,Iv xv,Iv f.type,.slice f.ao f.n f.cap],90)] (HS++(if lu=true/\(ma:Int)=(xi:Int)/\ad=op then [(mb,(⟨ac,ot,oq,od,ov⟩:O))] else [])) g2 ag q2 ae):=(by rw[eA,List.append_nil];exact a2.o)
    clear HM eA af a2;(go_wp2_with fail);go_meet
    exact⟨g2,ag,q2,ae,rfl,au⟩
  case rest =>
  obtain⟨g3,aa,q3,ab,rfl,a4⟩:=hcut;rename World=>wk
  clear v0 v1 v2 v3 v5 x0 z0 z1 z2 z3 z4 z5 z6 z7 z8 a2 HZ a1;obtain⟨⟨v0,v1,v2,v3,v5⟩,x0,z0,z1,z2,z3,z4,z5,z6,z7,z8⟩:=av.o wk _ _ _ _ _ a4.o;have bf:(HS++(if lu=true/\(ma:Int)=(xi:Int)/\ad=op then [(mb,(⟨ac,ot,oq,od,ov⟩:O))] else [])).length<=2001:=by
   rw[List.length_append];split<;>simp<;>omega
  (go_upto_region 60 with fail);go_cut [305] from 290 to 305 (λv wx=>v=.bool d2/\Hid (wx=wk))
  case first =>
   clear a6 av HM;have af:Hid (d2=decide (lu=true/\(mb:Int)=(xi:Int)/\ac=op)):=aw;clear aw;cases lu with
   | false =>
    (go_wp2_with fail);go_meet
    exact⟨by rw[af.o];simp,rfl⟩
   | true =>
    by_cases q1:(mb:Int)=(xi:Int)
    ·have b1:((mb:Int) == (xi:Int))=true:=(by simp[q1])
     by_cases q2:ac=op
     ·have b2:(ac == op)=true:=(by simp[q2])
      have HQ:Hid (.bool true=Value.bool d2):=(by rw[af.o,b0k ⟨rfl,q1,q2⟩];rfl)
      clear q1 q2 af;(go_wp2_with fail);go_meet
      exact⟨HQ.o,rfl⟩
     ·have b2:(ac == op)=false:=(by simp[q2])
      have HQ:Hid (.bool false=Value.bool d2):=(by rw[af.o,b0j (λz=>q2 z.2.2)];rfl)
      clear q1 q2 af;(go_wp2_with fail);go_meet
      exact⟨HQ.o,rfl⟩
    ·have b1:((mb:Int) == (xi:Int))=false:=by
      apply beq_eq_false_iff_ne.2
      exact q1
     have HQ:Hid (.bool false=Value.bool d2):=(by rw[af.o,b0j (λz=>q1 z.2.1)];rfl)
     clear q1 af;(go_wp2_with fail);go_meet
     exact⟨HQ.o,rfl⟩
  case rest =>
  obtain⟨rfl,ay⟩:=hcut;rw[ay.o];clear ay;go_upto_if 305 with fail
  have af:Hid (d2=decide (lu=true/\(mb:Int)=(xi:Int)/\ac=op)):=aw;clear aw av a6;cases d2 with
  | true =>
   have eA:(if lu=true/\(mb:Int)=(xi:Int)/\ac=op then [(ma,(⟨ad,ot,oq,od,ov⟩:O))] else [])=[(ma,(⟨ad,ot,oq,od,ov⟩:O))]:=iP (b0o af.o.symm);obtain⟨g4,ah,ai,W2,an,a0⟩:=HM.o wk g3 aa q3 ab _ ma ad om a4.o;have a3:Hid (a3W (.slice (some (Pv g3 aa)) q3 ab) (.slice (some (Pv wk.heap.size 0)) 1 1) (wk.alloc (.cells #[Iv ma,Iv ad,Uv f.dst,Uv f.src,.bool ot,Iv oq,.bool od,Iv ov,Iv f.type,.slice f.ao f.n f.cap] 90)) (.slice (some (Pv g4 ah)) (q3+1) ai) W2):=an;have au:Hid (LM w W2 BN BT RF n oao ocap T f al bo bc gk kc nb aj ak so sc ss B5 am os [(BO,#[Iv op,Uv f.dst,Uv f.src,.bool ot,Iv oq,.bool od,Iv ov,Iv f.type,.slice f.ao f.n f.cap],101),(BX,#[Iv xi,Iv xp,Uv f.dst,Uv f.src,.bool xt,Iv xr,.bool xd,Iv xv,Iv f.type,.slice f.ao f.n f.cap],90)] (ps++Ln.hits n.ls xi ⟨op,ot,oq,od,ov⟩ (j+1)) g4 ah (q3+1) ai):=by
    rw[a5.o,eA,<-List.append_assoc];exact a0.o.less (λy hy=>b0n _ hy)
   clear an a0 HM eA af a4 a5 bf;go_wp2_with (at_builtin;refine a0a rfl (.tmp 306) (.tmp 314) 91 rfl _ _ _ rfl rfl a3.o ?_;clear a3)
   exact⟨⟨j+1,g4,ah,q3+1,ai,om,rfl,gn,au⟩,io⟩
  | false =>
   have eA:(if lu=true/\(mb:Int)=(xi:Int)/\ac=op then [(ma,(⟨ad,ot,oq,od,ov⟩:O))] else [])=[]:=iN (of_decide_eq_false af.o.symm);have au:Hid (LM w wk BN BT RF n oao ocap T f al bo bc gk kc nb aj ak so sc ss B5 am os [(BO,#[Iv op,Uv f.dst,Uv f.src,.bool ot,Iv oq,.bool od,Iv ov,Iv f.type,.slice f.ao f.n f.cap],101),(BX,#[Iv xi,Iv xp,Uv f.dst,Uv f.src,.bool xt,Iv xr,.bool xd,Iv xv,Iv f.type,.slice f.ao f.n f.cap],90)] (ps++Ln.hits n.ls xi ⟨op,ot,oq,od,ov⟩ (j+1)) g3 aa q3 ab):=by
    rw[a5.o,eA,List.append_nil];exact a4.o.less (λy hy=>b0n _ hy)
   clear HM eA af a4 a5 bf;(go_wp2_with fail);exact⟨⟨j+1,g3,aa,q3,ab,om,rfl,gn,au⟩,io⟩
 ·obtain rfl:j=n.L:=om
  (go_wp2_with fail);exact hL.o
theorem a8j (oao:OA) (ocap:Nat) (t:List Tr) (tree aa ab:Int) (w:World) (ht:TrRow w oao ocap t) :
  Calls prog 36 #[.agg #[.slice oao t.length ocap],Iv tree,Iv aa,Iv ab] w λe w'=>e=.returned (.bool (opT t tree aa ab))/\Bl w w':=by
 obtain⟨X,HX⟩:=nm (w.alloc (.cells #[.slice oao t.length ocap] 34))
 have ae:Bl w X:=(by rw[HX.o];exact bA1 _ _)
 have ah:X.heap[w.heap.size]?=some (.cells #[.slice oao t.length ocap] 34):=(by rw[HX.o];exact a9Z _ _)
 have c0:X.cell? (Pv w.heap.size 0)=some (.slice oao t.length ocap):=a9Y X _ 0 _ _ _ ah;have av:=ht.many;have ax:=ht.row.1;have aj:Hid (Bl w X):=ae;by_cases h0:tree<0
 ·have ad:Hid (opT t tree aa ab=false):=iN (λq=>by omega);rw[HX.o] at c0;clear ae ah ht;go_enter func36,ntmps36;(go_wp2_with fail);rw[<-HX.o];go_ret;exact⟨by rw[ad.o];rfl,aj.o⟩
 ·by_cases h1:tree>=(t.length:Int)
  ·have ad:Hid (opT t tree aa ab=false):=iN (λq=>by omega);rw[HX.o] at c0;clear ae ah ht;go_enter func36,ntmps36;(go_wp2_with fail);rw[<-HX.o];go_ret;exact⟨by rw[ad.o];rfl,aj.o⟩
  ·obtain⟨k,rfl⟩:∃k:Nat,tree=(k:Int):=⟨tree.toNat,om⟩
   have hk:k<t.length:=om
   have ac:=ht.below ae;obtain⟨b,off,rfl,_⟩:=ac.place om;have c1:=ac.cell hk;have hm:=ac.each k hk;have ik:(0:Int)<=(k:Int):=om
   have nk:(k:Int)<(t.length:Int):=om
   have aE:=hm.many;have aC:=hm.row.1;have ad:Hid (opT t k aa ab=if 0<=aa/\aa<=((tat t k).l.length:Int)-1 then opM (mat (tat t k).l aa.toNat) ab else false):=by
    show(if (0<=(k:Int)/\(k:Int)<=(t.length:Int)-1)/\(0<=aa/\aa<=((tat t ((k:Int)).toNat).l.length:Int)-1) then opM (mat (tat t ((k:Int)).toNat).l aa.toNat) ab else false)=_;rw[Int.toNat_natCast];by_cases z:0<=aa/\aa<=((tat t k).l.length:Int)-1
    ·rw[iP ⟨⟨om,om⟩,z⟩,iP z]
    ·rw[iN (λq=>z q.2),iN z]
   generalize tat t k=x at *;obtain⟨xa,xc,xl⟩:=x;simp only at *;by_cases h2:aa<0
   ·rw[iN om] at ad;rw[HX.o] at c0 c1;clear ac hm ae ah ht;go_enter func36,ntmps36;(go_wp2_with fail);rw[<-HX.o];go_ret;exact⟨by rw[ad.o];rfl,aj.o⟩
   ·by_cases h3:aa>=(xl.length:Int)
    ·rw[iN om] at ad;rw[HX.o] at c0 c1;clear ac hm ae ah ht;go_enter func36,ntmps36;(go_wp2_with fail);rw[<-HX.o];go_ret;exact⟨by rw[ad.o];rfl,aj.o⟩
    ·obtain⟨i,rfl⟩:∃i:Nat,aa=(i:Int):=⟨aa.toNat,om⟩
     have hi:i<xl.length:=om
     obtain⟨b2,az,rfl,_⟩:=hm.place om;obtain⟨d0,d1,d2,d3,d4,d5,d6,d7,d8⟩:=hm.cells hi;have ag:=hm.each i hi;have ii:(0:Int)<=(i:Int):=om
     have ni:(i:Int)<(xl.length:Int):=om
     rw[Int.toNat_natCast,iP om] at ad;generalize mat xl i=m at *;obtain⟨Y,HY⟩:=nm (X.alloc (.cells #[Uv m.md.v.root,Iv m.md.v.cost,Uv m.md.v.bridge,Iv m.md.v.port,Iv m.md.age,Iv m.md.rp,.slice m.po m.ports.length m.pc,.slice m.ro m.roles.length m.rc,.slice m.co m.calm.length m.cc] 117))
     have al:Bl X Y:=(by rw[HY.o];exact bA1 _ _)
     have an:Y.heap[X.heap.size]?=some (.cells #[Uv m.md.v.root,Iv m.md.v.cost,Uv m.md.v.bridge,Iv m.md.v.port,Iv m.md.age,Iv m.md.rp,.slice m.po m.ports.length m.pc,.slice m.ro m.roles.length m.rc,.slice m.co m.calm.length m.cc] 117):=(by rw[HY.o];exact a9Z _ _)
     have y6:Y.cell? (Pv X.heap.size 6)=some (.slice m.po m.ports.length m.pc):=a9Y Y _ 6 _ _ _ an;have y8:Y.cell? (Pv X.heap.size 8)=some (.slice m.co m.calm.length m.cc):=a9Y Y _ 8 _ _ _ an;have au:X.heap.size=w.heap.size+1:=(by rw[HX.o];simp)
     have ap:Hid (Bl w Y):=ae.trans (al.mono ae.size);have ak:Hid (ILs Y m.po m.pc m.ports/\ILs Y m.co m.cc m.calm):=⟨ag.ports.below al,ag.calm.below al⟩
     have aB:=ag.pn;have aG:=ag.cn;have aF:=ag.ports.1;have aD:=ag.calm.1;have HM:Hid (opM m ab=if 0<=Bk.idx m.ports ab m.ports.length/\Bk.idx m.ports ab m.ports.length<=(m.calm.length:Int)-1 then decide (50<=m.calm.getD (Bk.idx m.ports ab m.ports.length).toNat 0) else false):=rfl;rw[au] at y6 y8;have y9:=y6;rw[HY.o,HX.o] at y9;rw[HX.o] at c0 c1 d0 d1 d2 d3 d4 d5 d6 d7 d8;clear ac hm ag ae ah al an ht au;go_enter func36,ntmps36;(go_wp2_with fail);rw[<-HX.o,<-HY.o];clear c0 c1 d0 d1 d2 d3 d4 d5 d6 d7 d8 y9;go_loopw [46] (λs wr=>∃j:Nat,j<=m.ports.length/\s=Iv j/\Hid (Bk.idx m.ports ab j = -1)/\wr=Y) (λs _=>m.ports.length-(intOf s).toNat)
     case atStart=>exact⟨0,om,rfl,rfl,rfl⟩
     case round =>
      obtain⟨j,hj,rfl,hS,rfl⟩:=hrel;by_cases hlt:j<m.ports.length
      ·obtain⟨pb,po,ar,_⟩:=ak.o.1.place om;have af:=ak.o.1;rw[ar] at af y6 ⊢;have g1:=af.cell hlt;have jj:(0:Int)<=(j:Int):=om
       have nj:(j:Int)<(m.ports.length:Int):=om
       have am:Hid (Bk.idx m.ports ab (j+1)=if ab=m.ports.getD j 0 then(j:Int) else -1):=by
        show(if 0<=Bk.idx m.ports ab j then Bk.idx m.ports ab j else if ab=m.ports.getD j 0 then(j:Int) else -1)=_;rw[hS.o];rfl
       have ao:Hid (ab=m.ports.getD j 0->Bk.idx m.ports ab m.ports.length=(j:Int)):=λh=>by
        have h1:=am.o;rw[iP h] at h1;rw[Bk.idx_stay m.ports ab (j+1) om m.ports.length om,h1]
       clear af ar hS;generalize m.ports.getD j 0=p at *;by_cases q:p=ab
       ·have aq:Hid (Bk.idx m.ports ab m.ports.length=(j:Int)):=ao.o q.symm;rw[aq.o] at HM;clear ao am aq;by_cases q2:j<m.calm.length
        ·obtain⟨cb,co,aw,_⟩:=ak.o.2.place om;have af:=ak.o.2;rw[aw] at af y8;have g2:=af.cell q2;have nc:(j:Int)<(m.calm.length:Int):=om
         have ai:Hid (opM m ab=decide (50<=m.calm.getD j 0)):=by
          have h:=HM.o;rw[iP om,Int.toNat_natCast] at h;exact h
         have e1:(p == ab)=true:=(by simp[q])
         clear HM af aw q;generalize m.calm.getD j 0=c at *;(go_wp2_with fail);go_ret;exact⟨by rw[ad.o,ai.o];rfl,ap.o⟩
        ·have nc:¬(j:Int)<(m.calm.length:Int):=om
         have ai:Hid (opM m ab=false):=by
          have h:=HM.o;rw[iN om] at h;exact h
         have e1:(p == ab)=true:=(by simp[q])
         clear HM q;(go_wp2_with fail);go_ret;exact⟨by rw[ad.o,ai.o];rfl,ap.o⟩
       ·have ay:Hid (Bk.idx m.ports ab (j+1) = -1):=(by rw[am.o,iN (λe=>q e.symm)];rfl)
        have e1:(p == ab)=false:=(by simp[q])
        clear ao am q HM;(go_wp2_with fail);exact⟨⟨j+1,om,gn,ay,trivial⟩,io⟩
      ·obtain rfl:j=m.ports.length:=om
       have ai:Hid (opM m ab=false):=by
        have h:=HM.o;rw[hS.o,iN om] at h;exact h
       clear HM hS;(go_wp2_with fail);go_ret;exact⟨by rw[ad.o,ai.o];rfl,ap.o⟩
theorem zopn {t:List Tr}{xi BT BX:Nat}{oao:OA}{ocap:Nat}{vid p pl:Int}{wq W0:World}{aA aB aC aD aE aF aG aH aI aJ aK aL aM aN aO aP9 aQ aR aT aU aV aW aX aY aZ bA bB bC bD bE bF bG bH bI bJ bK bL bM bN bO bP bQ bR bS bT bU bV bW bX bY bZ cA cB cC cD cE cF cG cH cI cJ cK cL cM cN cO cP cQ cR cS cT cU cV cW cX cY cZ dA dB dC dD dE dF dG dH dI dJ dK dL dM dN dO dP dQ dR dS dT dU dV dW dX dY dZ eA eB eC eD eE eF eG eH eI eJ eK eL eM eN eO eP eQ eR eS eT eU eV eW eX eY eZ fA fB fC fD fE fF fG fH fI fJ fK fL fM fN fO fP fQ fR fS fT fU fV fW fX fY fZ gA gB gC gD gE gF gG gH gI gJ gK gL gM gN gO gP gQ gR gS gT gU gV gW gX gY gZ hA hB hC hD hE hF hG hH hI hL hM hN hO hP hQ hS hU hX hY hZ iA iB iC iD iE iF iG iH iI iJ iK iL iM iO iQ iR iS iT iU iV iW iX iY iZ jA jB jC jD jE jF jG jH jI jJ jK jL jM jN jO jP jQ jR jS jT jU jV jW jX jY jZ kA kB kC kD kE kF kG kH kI kJ kK kL kM kN kO kP kQ kR kS kT kU kV kW kX kY kZ lA lB lC lD lE lF lG lH lI lJ lK lL lM lN lO lP lQ lR lS lT lU lV lW lX lY lZ mA mB mC mD mE mF mG mH mI mJ mK mL:Value}{Q:Exit->Act->World->Prop}(av:∀c a d v w,Q (.panic c) (Act.put a d v) w->Q (.panic c) a w) (hT:t.length<=4) (au:∀V,Bl wq V->(V.cell? (Pv BT 0)=some (.slice oao t.length ocap)/\V.cell? (Pv BX 0)=some (Iv xi))/\TrRow V oao ocap t) (h0:W0.heap[wq.heap.size+1]?=some (.cells #[Iv p,.slice (some (Pv wq.heap.size 0)) 1 1,Iv pl,sN] 95)/\W0.heap[wq.heap.size]?=some (.cells #[Iv vid] 3)/\W0.ownsRow wq.heap.size 4 1 sN ((List.range 0).map (a0Z t (xi:Int) p)).length (a1e ((List.range 0).map (a0Z t (xi:Int) p)))/\Bl wq W0)
  (ah:∀{oa:OA}{oc:Nat}{wz:World}{bA mM gU gV gW gX gY gZ hA hB hC hD hE hF hG hH hI hL hM hN:Value},(wz.heap[wq.heap.size+1]?=some (.cells #[Iv p,.slice (some (Pv wq.heap.size 0)) 1 1,Iv pl,.slice oa t.length oc] 95)/\wz.heap[wq.heap.size]?=some (.cells #[Iv vid] 3)/\wz.ownsRow wq.heap.size 4 1 (.slice oa t.length oc) ((List.range t.length).map (a0Z t (xi:Int) p)).length (a1e ((List.range t.length).map (a0Z t (xi:Int) p)))/\Bl wq wz)->Q (.exit 6) ⟨List.toArray (aA::aB::aC::aD::aE::aF::aG::(.pointer (some (Pv BT 0)))::aH::aI::aJ::aK::aL::aM::aN::aO::aP9::aQ::aR::aT::aU::aV::aW::aX::(.pointer (some (Pv BX 0)))::aY::aZ::(Iv p)::(.pointer (some (Pv (wq.heap.size+1) 0)))::bA::bB::bC::bD::bE::bF::bG::bH::bI::bJ::bK::bL::bM::bN::bO::bP::bQ::bR::bS::bT::bU::bV::bW::bX::bY::bZ::cA::cB::cC::cD::cE::cF::cG::cH::cI::cJ::cK::cL::cM::cN::cO::cP::cQ::cR::cS::cT::cU::cV::cW::cX::cY::cZ::dA::dB::dC::dD::dE::dF::dG::dH::dI::dJ::dK::dL::dM::dN::dO::dP::dQ::dR::dS::dT::dU::dV::dW::dX::dY::dZ::eA::eB::eC::eD::eE::eF::eG::eH::eI::eJ::eK::eL::eM::eN::eO::eP::eQ::eR::eS::eT::eU::eV::eW::eX::eY::eZ::fA::fB::fC::fD::fE::fF::fG::fH::fI::fJ::fK::fL::fM::fN::fO::fP::fQ::fR::fS::fT::fU::fV::fW::fX::fY::fZ::gA::gB::gC::gD::gE::gF::gG::gH::gI::gJ::gK::gL::gM::gN::gO::gP::gQ::gR::gS::gT::(Iv (t.length:Int))::mM::gU::gV::gW::gX::gY::gZ::hA::hB::hC::hD::hE::hF::hG::hH::hI::hL::hM::hN::hO::hP::hQ::hS::hU::hX::hY::hZ::iA::iB::iC::iD::iE::iF::iG::iH::iI::iJ::iK::iL::iM::iO::iQ::iR::iS::iT::iU::iV::iW::iX::iY::iZ::jA::jB::jC::jD::jE::jF::jG::jH::jI::jJ::jK::jL::jM::jN::jO::jP::jQ::jR::jS::jT::jU::jV::jW::jX::jY::jZ::kA::kB::kC::kD::kE::kF::kG::kH::kI::kJ::kK::kL::kM::kN::kO::kP::kQ::kR::kS::kT::kU::kV::kW::kX::kY::kZ::lA::lB::lC::lD::lE::lF::lG::lH::lI::lJ::lK::lL::lM::lN::lO::lP::lQ::lR::lS::lT::lU::lV::lW::lX::lY::lZ::mA::mB::mC::mD::mE::mF::mG::mH::mI::mJ::mK::mL::[]),[]⟩ wz) :
  Code.wp prog (Code.loop (a7a 3)) Q ⟨List.toArray (aA::aB::aC::aD::aE::aF::aG::(.pointer (some (Pv BT 0)))::aH::aI::aJ::aK::aL::aM::aN::aO::aP9::aQ::aR::aT::aU::aV::aW::aX::(.pointer (some (Pv BX 0)))::aY::aZ::(Iv p)::(.pointer (some (Pv (wq.heap.size+1) 0)))::bA::bB::bC::bD::bE::bF::bG::bH::bI::bJ::bK::bL::bM::bN::bO::bP::bQ::bR::bS::bT::bU::bV::bW::bX::bY::bZ::cA::cB::cC::cD::cE::cF::cG::cH::cI::cJ::cK::cL::cM::cN::cO::cP::cQ::cR::cS::cT::cU::cV::cW::cX::cY::cZ::dA::dB::dC::dD::dE::dF::dG::dH::dI::dJ::dK::dL::dM::dN::dO::dP::dQ::dR::dS::dT::dU::dV::dW::dX::dY::dZ::eA::eB::eC::eD::eE::eF::eG::eH::eI::eJ::eK::eL::eM::eN::eO::eP::eQ::eR::eS::eT::eU::eV::eW::eX::eY::eZ::fA::fB::fC::fD::fE::fF::fG::fH::fI::fJ::fK::fL::fM::fN::fO::fP::fQ::fR::fS::fT::fU::fV::fW::fX::fY::fZ::gA::gB::gC::gD::gE::gF::gG::gH::gI::gJ::gK::gL::gM::gN::gO::gP::gQ::gR::gS::gT::(Iv (t.length:Int))::(Iv 0)::gU::gV::gW::gX::gY::gZ::hA::hB::hC::hD::hE::hF::hG::hH::hI::hL::hM::hN::hO::hP::hQ::hS::hU::hX::hY::hZ::iA::iB::iC::iD::iE::iF::iG::iH::iI::iJ::iK::iL::iM::iO::iQ::iR::iS::iT::iU::iV::iW::iX::iY::iZ::jA::jB::jC::jD::jE::jF::jG::jH::jI::jJ::jK::jL::jM::jN::jO::jP::jQ::jR::jS::jT::jU::jV::jW::jX::jY::jZ::kA::kB::kC::kD::kE::kF::kG::kH::kI::kJ::kK::kL::kM::kN::kO::kP::kQ::kR::kS::kT::kU::kV::kW::kX::kY::kZ::lA::lB::lC::lD::lE::lF::lG::lH::lI::lJ::lK::lL::lM::lN::lO::lP::lQ::lR::lS::lT::lU::lV::lW::lX::lY::lZ::mA::mB::mC::mD::mE::mF::mG::mH::mI::mJ::mK::mL::[]),[]⟩ W0:=by
 have H0:Hid (W0.heap[wq.heap.size+1]?=some (.cells #[Iv p,.slice (some (Pv wq.heap.size 0)) 1 1,Iv pl,sN] 95)/\W0.heap[wq.heap.size]?=some (.cells #[Iv vid] 3)/\W0.ownsRow wq.heap.size 4 1 sN ((List.range 0).map (a0Z t (xi:Int) p)).length (a1e ((List.range 0).map (a0Z t (xi:Int) p)))/\Bl wq W0):=h0;have an:Hid (∀V,Bl wq V->(V.cell? (Pv BT 0)=some (.slice oao t.length ocap)/\V.cell? (Pv BX 0)=some (Iv xi))/\TrRow V oao ocap t):=au;have ar:=@ah;have ad:Hid (∀c a d v w,Q (.panic c) (Act.put a d v) w->Q (.panic c) a w):=av;clear h0 au ah av;conv=>arg 2;arg 1;whnf
 go_loopw [180] (λaq wz=>∃j:Nat,j<=t.length/\aq=Iv j/\Hid (∃(oa:OA) (oc:Nat),wz.heap[wq.heap.size+1]?=some (.cells #[Iv p,.slice (some (Pv wq.heap.size 0)) 1 1,Iv pl,.slice oa j oc] 95)/\wz.heap[wq.heap.size]?=some (.cells #[Iv vid] 3)/\wz.ownsRow wq.heap.size 4 1 (.slice oa j oc) ((List.range j).map (a0Z t (xi:Int) p)).length (a1e ((List.range j).map (a0Z t (xi:Int) p)))/\Bl wq wz)) (λi _=>t.length-(intOf i).toNat)
 case atStart=>exact⟨0,om,rfl,⟨none,0,H0.o⟩⟩
 case round =>
 clear H0;obtain⟨j,hj,rfl,hJ⟩:=hrel;rename World=>wz
 by_cases hjl:j<t.length
 ·obtain⟨oa,oc,j1,j2,j3,j4⟩:=hJ.o;have ag:Hid (∀W,Bl wz W->W.cell? (Pv (wq.heap.size+1) 3)=some (.slice oa j oc)/\W.cell? (Pv BT 0)=some (.slice oao t.length ocap)/\W.cell? (Pv BX 0)=some (Iv xi)):=λW hW=>by
   obtain⟨⟨z2,z3⟩,_⟩:=an.o W (a0c j4 hW);exact⟨a9Y _ _ 3 _ _ _ (keep j1 hW),z2,z3⟩
  have ax:Hid (∀W,Bl wz W->Calls prog 36 #[.agg #[.slice oao t.length ocap],Iv j,Iv xi,Iv p] W λe w'=>e=.returned (.bool (opT t (j:Int) (xi:Int) p))/\Hid (Bl wz w')):=λW hW=>(a8j oao ocap t (j:Int) (xi:Int) p W (an.o W (a0c j4 hW)).2).mono (λe w' h=>⟨h.1,a0c hW h.2⟩);have aj:Hid (∀b,a0Z t (xi:Int) p j=b->∀V,Bl wz V->∃(ab:OA) (ac:Nat) (W2:World),(Builtin.append_ #[50,50] 50 #[.slice oa j oc,.slice (some (Pv V.heap.size 0)) 1 1]).run prog (V.alloc (.cells #[.bool b] 4))=.ok (.slice ab (j+1) ac) W2/\Hid ((W2.cell? (Pv (wq.heap.size+1) 3)=some (.slice oa j oc)/\W2.cell? (Pv BT 0)=some (.slice oao t.length ocap)/\W2.cell? (Pv BX 0)=some (Iv xi))/\W2.frozen? (Pv (wq.heap.size+1) 3)=false)/\Hid ((W2.setCell (Pv (wq.heap.size+1) 3) (.slice ab (j+1) ac)).heap[wq.heap.size+1]?=some (.cells #[Iv p,.slice (some (Pv wq.heap.size 0)) 1 1,Iv pl,.slice ab (j+1) ac] 95)/\(W2.setCell (Pv (wq.heap.size+1) 3) (.slice ab (j+1) ac)).heap[wq.heap.size]?=some (.cells #[Iv vid] 3)/\(W2.setCell (Pv (wq.heap.size+1) 3) (.slice ab (j+1) ac)).ownsRow wq.heap.size 4 1 (.slice ab (j+1) ac) ((List.range (j+1)).map (a0Z t (xi:Int) p)).length (a1e ((List.range (j+1)).map (a0Z t (xi:Int) p)))/\Bl wq (W2.setCell (Pv (wq.heap.size+1) 3) (.slice ab (j+1) ac)))):=λb hb V hV=>by
   have a4:=hV.size;have a1:=j4.size;have el:((List.range j).map (a0Z t (xi:Int) p)).length=j:=(by simp)
   obtain⟨a,c,W2,r,o1,b1,aw⟩:=more_b wq.heap.size V (.slice oa j oc) ((List.range j).map (a0Z t (xi:Int) p)) b (a0h j3 hV) om om;rw[el] at r o1;have ak:=aw 95 dd _ _ (keep j1 hV);have az:=aw 3 dd _ _ (keep j2 hV);have ai:Bl wq W2:=(j4.trans (hV.mono a1)).trans b1;obtain⟨⟨z2,z3⟩,_⟩:=an.o W2 ai;have er:((List.range (j+1)).map (a0Z t (xi:Int) p))=((List.range j).map (a0Z t (xi:Int) p))++[b]:=(by rw[List.range_succ,List.map_append,List.map_cons,List.map_nil,hb])
   have ao:(W2.setCell (Pv (wq.heap.size+1) 3) (.slice a (j+1) c)).heap[wq.heap.size+1]?=some (.cells #[Iv p,.slice (some (Pv wq.heap.size 0)) 1 1,Iv pl,.slice a (j+1) c] 95):=by
    rw[b0e _ _ _ _ _ _ ak];rfl
   refine⟨a,c,W2,r,⟨⟨a9Y _ _ 3 _ _ _ ak,z2,z3⟩,lF0 ak 3⟩,ao,?_,?_,ai.setCell (by show wq.heap.size<=wq.heap.size+1;omega) _⟩
   ·exact(b0f _ _ _ _ (by show wq.heap.size≠wq.heap.size+1;omega)).trans az
   ·rw[er];exact(Ty.but ak (λq ay _=>b0f _ _ _ _ (by exact ay)) _ dd).owns o1
  have af:Bl wz wz.drew:=b0i (b0h _ _);clear hJ j1 j2 j3 j4 ar;by_cases hz:p=0
  ·have ap:Hid (∀V,Bl wz V->∃(ab:OA) (ac:Nat) (W2:World),(Builtin.append_ #[50,50] 50 #[.slice oa j oc,.slice (some (Pv V.heap.size 0)) 1 1]).run prog (V.alloc (.cells #[.bool true] 4))=.ok (.slice ab (j+1) ac) W2/\Hid ((W2.cell? (Pv (wq.heap.size+1) 3)=some (.slice oa j oc)/\W2.cell? (Pv BT 0)=some (.slice oao t.length ocap)/\W2.cell? (Pv BX 0)=some (Iv xi))/\W2.frozen? (Pv (wq.heap.size+1) 3)=false)/\Hid ((W2.setCell (Pv (wq.heap.size+1) 3) (.slice ab (j+1) ac)).heap[wq.heap.size+1]?=some (.cells #[Iv p,.slice (some (Pv wq.heap.size 0)) 1 1,Iv pl,.slice ab (j+1) ac] 95)/\(W2.setCell (Pv (wq.heap.size+1) 3) (.slice ab (j+1) ac)).heap[wq.heap.size]?=some (.cells #[Iv vid] 3)/\(W2.setCell (Pv (wq.heap.size+1) 3) (.slice ab (j+1) ac)).ownsRow wq.heap.size 4 1 (.slice ab (j+1) ac) ((List.range (j+1)).map (a0Z t (xi:Int) p)).length (a1e ((List.range (j+1)).map (a0Z t (xi:Int) p)))/\Bl wq (W2.setCell (Pv (wq.heap.size+1) 3) (.slice ab (j+1) ac)))):=aj.o true (by unfold a0Z;simp[hz]);subst hz;clear aj ax;(go_upto_region 42 with fail);refine a2p (z:=15) (C:=λW=>W.cell? (Pv (wq.heap.size+1) 3)=some (.slice oa j oc)/\W.cell? (Pv BT 0)=some (.slice oao t.length ocap)/\W.cell? (Pv BX 0)=some (Iv xi)) kr (ag.o _ af) (λaa => ?_);refine zTk 0 183 aa ?_ (hQ:=λ_ _ _=>ad.o _ _ _ _ _);simp only[aP];refine zLd 1 184 aa ?_ (hQ:=λ_ _ _=>ad.o _ _ _ _ _);simp only[aP];refine zTk 2 185 aa ?_ (hQ:=λ_ _ _=>ad.o _ _ _ _ _);simp only[aP];refine zTk 3 186 aa ?_ (hQ:=λ_ _ _=>ad.o _ _ _ _ _);simp only[aP];refine zTk 4 187 aa ?_ (hQ:=λ_ _ _=>ad.o _ _ _ _ _);simp only[aP];refine a9R (i:=5) (some 188) rfl rfl kr kr kr dd (λ_ _ _ h=>ad.o _ _ _ _ _ h) (by rfl) aa ?_;simp only[aP];refine a9R (i:=6) (some 189) rfl rfl kr kr kr dd (λ_ _ _ h=>ad.o _ _ _ _ _ h) (by rfl) aa ?_;simp only[aP];refine a9R (i:=7) (some 190) rfl rfl kr kr kr dd (λ_ _ _ h=>ad.o _ _ _ _ _ h) (by rfl) aa ?_;simp only[aP];refine a9R (i:=8) (some 191) rfl rfl kr kr kr dd (λ_ _ _ h=>ad.o _ _ _ _ _ h) (by rfl) aa ?_;simp only[aP];refine a9R (i:=9) (some 192) rfl rfl kr kr kr dd (λ_ _ _ h=>ad.o _ _ _ _ _ h) (by rfl) aa ?_;simp only[aP];refine a2b (i:=10) kr rfl (λK hK => ?_);go_simp;refine hK.out _ _ (Or.inr (ag.o _ af)) (λaa => ?_);clear hK K;try simp only[aP]
   refine zTk 11 194 aa ?_ (hQ:=λ_ _ _=>ad.o _ _ _ _ _);simp only[aP];obtain⟨ab,ac,W2,al,ae,am⟩:=ap.o wz.drew af;refine a2b (i:=12) kr rfl (λK hK => ?_);go_simp;refine hK.out _ _ (Or.inr (ag.o _ (a0c af (bA1 _ _)))) (λaa => ?_);clear hK K;try simp only[lsA,lsZ,lsS]
   refine a2b (i:=13) kr rfl (λK hK => ?_);refine a0Y (some 196) rfl rfl (.tmp 184) (.tmp 195) 50 rfl _ _ _ rfl rfl al ?_;refine hK.out _ _ (Or.inr ae.o.1) (λaa => ?_);clear hK K;simp only[aP];refine zTk 14 197 aa ?_ (hQ:=λ_ _ _=>ad.o _ _ _ _ _);simp only[aP];have a2:=ae.o.2;have a0:=ae.o.1.1;refine a2b (i:=15) kr rfl (λK hK => ?_);go_simp;refine hK.out _ _ (Or.inl kr) (λaa => ?_);clear hK K;refine a5q kr ?_ _;(go_wp2_with fail);exact⟨⟨j+1,om,gn,⟨ab,ac,am.o⟩⟩,io⟩
  ·have ap:Hid (∀V,Bl wz V->∃(ab:OA) (ac:Nat) (W2:World),(Builtin.append_ #[50,50] 50 #[.slice oa j oc,.slice (some (Pv V.heap.size 0)) 1 1]).run prog (V.alloc (.cells #[.bool (opT t (j:Int) (xi:Int) p)] 4))=.ok (.slice ab (j+1) ac) W2/\Hid ((W2.cell? (Pv (wq.heap.size+1) 3)=some (.slice oa j oc)/\W2.cell? (Pv BT 0)=some (.slice oao t.length ocap)/\W2.cell? (Pv BX 0)=some (Iv xi))/\W2.frozen? (Pv (wq.heap.size+1) 3)=false)/\Hid ((W2.setCell (Pv (wq.heap.size+1) 3) (.slice ab (j+1) ac)).heap[wq.heap.size+1]?=some (.cells #[Iv p,.slice (some (Pv wq.heap.size 0)) 1 1,Iv pl,.slice ab (j+1) ac] 95)/\(W2.setCell (Pv (wq.heap.size+1) 3) (.slice ab (j+1) ac)).heap[wq.heap.size]?=some (.cells #[Iv vid] 3)/\(W2.setCell (Pv (wq.heap.size+1) 3) (.slice ab (j+1) ac)).ownsRow wq.heap.size 4 1 (.slice ab (j+1) ac) ((List.range (j+1)).map (a0Z t (xi:Int) p)).length (a1e ((List.range (j+1)).map (a0Z t (xi:Int) p)))/\Bl wq (W2.setCell (Pv (wq.heap.size+1) 3) (.slice ab (j+1) ac)))):=aj.o _ (by unfold a0Z;simp[hz]);have a3:(p == 0)=false:=(by simp[hz])
   clear aj hz;(go_upto_region 42 with fail);refine a2p (z:=15) (C:=λW=>W.cell? (Pv (wq.heap.size+1) 3)=some (.slice oa j oc)/\W.cell? (Pv BT 0)=some (.slice oao t.length ocap)/\W.cell? (Pv BX 0)=some (Iv xi)) kr (ag.o _ af) (λaa => ?_);refine zTk 0 183 aa ?_ (hQ:=λ_ _ _=>ad.o _ _ _ _ _);simp only[aP];refine zLd 1 184 aa ?_ (hQ:=λ_ _ _=>ad.o _ _ _ _ _);simp only[aP];refine zTk 2 185 aa ?_ (hQ:=λ_ _ _=>ad.o _ _ _ _ _);simp only[aP];refine zTk 3 186 aa ?_ (hQ:=λ_ _ _=>ad.o _ _ _ _ _);simp only[aP];refine zTk 4 187 aa ?_ (hQ:=λ_ _ _=>ad.o _ _ _ _ _);simp only[aP];refine zLd 5 188 aa ?_ (hQ:=λ_ _ _=>ad.o _ _ _ _ _);simp only[aP];refine zTk 6 189 aa ?_ (hQ:=λ_ _ _=>ad.o _ _ _ _ _);simp only[aP];refine zTk 7 190 aa ?_ (hQ:=λ_ _ _=>ad.o _ _ _ _ _);simp only[aP];refine zLd 8 191 aa ?_ (hQ:=λ_ _ _=>ad.o _ _ _ _ _);simp only[aP];refine zTk 9 192 aa ?_ (hQ:=λ_ _ _=>ad.o _ _ _ _ _);simp only[aP];refine a2b (i:=10) kr rfl (λK hK => ?_);go_simp;refine(ax.o _ af).mono ?_;rintro e w5 ⟨rfl,H5⟩;refine hK.out _ _ (Or.inr (ag.o _ H5.o)) (λaa => ?_);clear hK K;refine zTk 11 194 aa ?_ (hQ:=λ_ _ _=>ad.o _ _ _ _ _);simp only[aP];obtain⟨ab,ac,W2,al,ae,am⟩:=ap.o w5 H5.o;refine a2b (i:=12) kr rfl (λK hK => ?_);go_simp;refine hK.out _ _ (Or.inr (ag.o _ (a0c H5.o (bA1 _ _)))) (λaa => ?_);clear hK K;try simp only[lsA,lsZ,lsS]
   refine a2b (i:=13) kr rfl (λK hK => ?_);refine a0Y (some 196) rfl rfl (.tmp 184) (.tmp 195) 50 rfl _ _ _ rfl rfl al ?_;refine hK.out _ _ (Or.inr ae.o.1) (λaa => ?_);clear hK K;simp only[aP];refine zTk 14 197 aa ?_ (hQ:=λ_ _ _=>ad.o _ _ _ _ _);simp only[aP];have a2:=ae.o.2;have a0:=ae.o.1.1;refine a2b (i:=15) kr rfl (λK hK => ?_);go_simp;refine hK.out _ _ (Or.inl kr) (λaa => ?_);clear hK K;refine a5q kr ?_ _;(go_wp2_with fail);exact⟨⟨j+1,om,gn,⟨ab,ac,am.o⟩⟩,io⟩
 ·obtain rfl:j=t.length:=om
  obtain⟨oa,oc,hR⟩:=hJ.o;(go_wp2_with fail);exact ar hR
