/-
  What round.Low returns. Conditions: none. What round.Hint returns. Conditions: none. What package bi
-/
import Derived.Test.YtomphjajkkddkaaGreatDoorZs12
import Derived.Test.YtomphjajkkddkaaGreatDoorZs02
import Derived.Test.YtomphjajkkddkaaGreatDoorZs14
import Derived.Test.YtomphjajkkddkaaGreatDoorZs17
import Derived.Test.YtomphjajkkddkaaGreatDoorZs03
import Derived.Test.YtomphjajkkddkaaGreatDoorZs19
import Derived.Test.YtomphjajkkddkaaGreatDoorZs21
import Derived.Test.YtomphjajkkddkaaGreatDoorZs01
import Derived.Test.YtomphjajkkddkaaGreatDoorZs18
import Derived.Test.YtomphjajkkddkaaGreatDoorZs10
import Derived.Test.YtomphjajkkddkaaGreatDoorZs04
import Derived.Test.YtomphjajkkddkaaGreatDoorZs05
import Derived.Test.YtomphjajkkddkaaGreatDoorZs15
import Derived.Test.YtomphjajkkddkaaGreatDoorZs09
import Derived.WalkMore
import Derived.OwnWalk
set_option maxRecDepth 100000
set_option maxHeartbeats 16000000
set_option linter.unusedSimpArgs false
set_option linter.unusedVariables false
open Go Go.RowKit
open Go renaming World->G,Calls->aD,Value->aE
open Go.RowKit renaming intOf->aG
open Go.Act renaming put->aM
open Go.Instr renaming index->aN
open Go.Value renaming int->O,agg->I,string->E,tuple->aA,slice->aB,pointer->aC
open Go.IntKind renaming i64->J
open Go.Obj renaming cells->Y
open Go.Proofs.Tryz renaming prog->aO
namespace Go.Proofs.YtomphjajkkddkaaGreatDoor
namespace rlow
open arr mem bD aT aV bE fP bF rpart
theorem xvj(f:Nat->Int)(g:Int)(w:G):
 aD aO 189 #[I (FL J 256 f),O J g] w (zB w (I (FL J 256 fun i=>lw g (f i)%8380417))):=by
 obtain⟨hz,hsize⟩:=iY aX;obtain⟨z,HZ⟩:=aQ (FL J 256 fun _=>0);rw[HZ.o]at hz;have Hzs:=dP HZ;obtain⟨F,HF⟩:∃ F:Nat->Int,U (F=fun i=>lw g (f i)%8380417):=⟨_,⟨rfl⟩⟩;have hFi:∀ i,F i=(fun i=>lw g (f i)%8380417) i:=fun i=>by rw[HF.o]
 have HFi:=D hFi;rw[<-HF.o];clear HF hFi;obtain⟨R,HR⟩:=aQ (FL J 256 F);have Ri:=eE HR hsize;have Ro:=eJ HR;have Rz:=gJ Hzs HR;obtain⟨Iq,HI⟩:=aQ (FL J 256 f);have Ii:=eE HI hsize;rw[HR.o,HI.o];clear hsize;have Hix:U (∀ (i:Nat),i<256->∀ w1:G,(aN 76 (I Iq) (O J (i:Int))).run aO w1=.ok (O J (f i)) w1):=⟨fun i hi w1=>by rw[<-HI.o];exact xev f i hi w1⟩;go_enter Tryz.func189,Tryz.ntmps189;go_wp2_with fail;clear hz;obtain⟨W,hW⟩:=aP ((w.alloc (Y Iq 76)).alloc (Y z 76));obtain⟨b0,b1,hWs,hWb⟩:=two hW;rw[hW];clear hW;have B0:=D b0;have B1:=D b1;have HWs:U (w.heap.size+2<=W.heap.size):=⟨by omega⟩;have HWb:=D hWb;clear hWs hWb b0 b1;refine nC 76 _ rfl w.heap.size rfl 76 Iq (0,0) _ B0.o zX rfl Ii.o ?_;go_wp2_with fail;go_loopw [10] (fun v wr=>∃ i:Nat,i<=256/\v=O J (i:Int)/\U (At w.heap.size (FL J 256 (pt F f i)) 76 W wr)) (fun v _=>256-(aG v).toNat)
 case atStart=>exact⟨0,iX _,rfl,⟨by rw[xbf,HI.o];exact At.refl B0.o⟩⟩
 case round=>
  obtain⟨i,hi,rfl,A0⟩:=hrel;by_cases hlt:i<256
  ·have hiz:(i:Int)<256:=by omega
   have hx0:=Hix.o i hlt wr;obtain⟨x,hx⟩:=aP (f i);rw[hx]at hx0;have HV:U (F i=lw g x%8380417):=⟨by rw[HFi.o,hx]⟩;have Hp:=xf1 x g;obtain⟨h0,hh0⟩:=aQ (cD g x);obtain⟨l0,hl0⟩:=aQ (lw g x);rw[hh0.o,hl0.o]at Hp;rw[hl0.o]at HV;have Hr:=eU l0;obtain⟨v,hv⟩:=aQ (l0%8380417);rw[hv.o]at Hr;have HU:U (upd (pt F f i) i v=pt F f (i+1)):=⟨xa1 F f i v (by rw[HV.o,hv.o])⟩;clear hx;go_wp2_with fail;refine(Hp _).mono ?_;rintro e w1 ⟨rfl,rfl⟩;go_wp2_with fail;refine(Hr _).mono ?_;rintro e w1 ⟨rfl,rfl⟩;go_wp2_with ((with_reducible refine cU A0 rfl _ _ _ rfl rfl ?_);refine⟨_,_,_,rfl,rfl,rfl,by rw[cC];exact hlt,?_⟩;intro wn HR2;rw[eV,HU.o]at HR2);go_roundw
   case rel=>exact⟨i+1,by omega,by go_num,HR2⟩
   case measure=>simp[aG];omega
  ·obtain rfl:i=256:=by omega
   simp only[jE];rw[xbc,HR.o]at A0;have Hrow:=D A0.o.row;have Hres:U (wr.heap[w.heap.size+1]? = some (Y z 76 (0,0))):=⟨A0.o.other (by have:=HWs.o;omega) (by omega) B1.o⟩;have HB:U (zb w wr):=⟨HWb.o.trans (A0.o.below (by have:=HWs.o;omega) (iM _))⟩;clear A0;go_wp2_with (first
    | (refine iL rfl 76 _ rfl w.heap.size rfl 76 R (0,0) _ Hrow.o zX rfl Ri.o ?_)
    | (refine iS rfl 76 _ _ rfl (w.heap.size+1) R rfl rfl 76 _ Hres.o Ri.o Rz.o Ro.o ?_))
   refine iV (v:=I R) (jC rfl _ _ (w.heap.size+1) 76 _ (0,0) _ rfl (jD _ _ _ _ _ _ Hres.o) zX rfl Ri.o) rfl ?_;exact⟨rfl,HB.o.trans (below_setRow _ _ _ (by omega))⟩
end rlow
namespace rhint
open arr mem bD aT aV bF rhigh vary varyn varye pvar
theorem xuy(zf f:Nat->Int)(g:Int)(w:G):
 aD aO 190 #[I (FL J 256 zf),I (FL J 256 f),O J g] w (zB w (I (FL J 256 fun i=>hn g (zf i) (f i)))):=by
 obtain⟨hz,hsize⟩:=iY aX;obtain⟨z,HZ⟩:=aQ (FL J 256 fun _=>0);rw[HZ.o]at hz;have Hzs:=dP HZ;obtain⟨F,HF⟩:∃ F:Nat->Int,U (F=fun i=>hn g (zf i) (f i)):=⟨_,⟨rfl⟩⟩;have HFi:U (∀ i,F i=hn g (zf i) (f i)):=⟨fun i=>by rw[HF.o]⟩;rw[<-HF.o];clear HF;obtain⟨p,HP⟩:∃ p:Nat->Int,U (p=fun i=>cD g (f i)):=⟨_,⟨rfl⟩⟩;obtain⟨s,HS⟩:∃ s:Nat->Int,U (s=fun i=>(f i+zf i)%8380417):=⟨_,⟨rfl⟩⟩;obtain⟨q,HQ⟩:∃ q:Nat->Int,U (q=fun i=>cD g (s i)):=⟨_,⟨rfl⟩⟩;have HFq:U (∀ i,F i=if p i=q i then 0 else 1):=⟨fun i=>by rw[HFi.o,HQ.o,HS.o,HP.o];rfl⟩;have sz:∀ h:Nat->Int,(aO.info? 76).map (·.size)=some (FL J 256 h).size:=fun h=>by rw[cC];exact hsize
 obtain⟨R,HR⟩:=aQ (FL J 256 F);have Ri:U ((aO.info? 76).map (·.size)=some R.size):=⟨by rw[<-HR.o];exact sz _⟩;have Ro:=eJ HR;have Rz:=gJ Hzs HR;obtain⟨Iq,HI⟩:=aQ (FL J 256 f);have Ii:U ((aO.info? 76).map (·.size)=some Iq.size):=⟨by rw[<-HI.o];exact sz _⟩;obtain⟨Jq,HJ⟩:=aQ (FL J 256 zf);have Ji:U ((aO.info? 76).map (·.size)=some Jq.size):=⟨by rw[<-HJ.o];exact sz _⟩;obtain⟨S,HSS⟩:=aQ (FL J 256 s);have Hh1:U (∀ w1:G,aD aO 202 #[I Iq,O J g] w1 (zB w1 (I (FL J 256 p)))):=⟨fun w1=>by rw[<-HI.o,HP.o];exact xla f g w1⟩;have Hh2:U (∀ w1:G,aD aO 202 #[I S,O J g] w1 (zB w1 (I (FL J 256 q)))):=⟨fun w1=>by rw[<-HSS.o,HQ.o];exact xla s g w1⟩;have Hadd:U (∀ w1:G,aD aO 80 #[I Iq,I Jq] w1 (zB w1 (I S))):=⟨fun w1=>by rw[<-HI.o,<-HJ.o,<-HSS.o,HS.o];exact fadd.xdr f zf w1⟩;rw[HR.o,HI.o,HJ.o];clear hsize sz HP HQ HS HSS HI HJ HFi;go_enter Tryz.func190,Tryz.ntmps190;go_wp2_with fail;obtain⟨W,hW⟩:=aP (((w.alloc (Y Jq 76)).alloc (Y Iq 76)).alloc (Y z 76));obtain⟨b0,b1,b2,hWs,hWb⟩:=three hW;rw[hW];clear hW;have B0:=D b0;have B1:=D b1;have B2:=D b2;have HWs:U (w.heap.size+3<=W.heap.size):=⟨by omega⟩;have HWb:=D hWb;clear hWs hWb b0 b1 b2;have Hhz:=D hz;clear hz;refine xed [vrP 8 10 2 7 13,vrP 9 11 7 8 18] 8 (by kernel_rfl) (by kernel_rfl) (by kernel_rfl) (by kernel_rfl) (by decide) (fun v hv ρ o w1 ho=>by
  simp only[kT,mK,or_false]at hv;rcases hv with rfl | rfl<;>exact fQ ρ o w1 ho) (by simp[vrP]) (fun ops HO=>?_)
 simp only[jH,jU];refine xcd rfl 76 _ rfl _ rfl 76 _ _ (fun w9 hw9=>(hw9.block _ (bI B1.o)).trans B1.o) zX rfl Ii.o ?_;refine cX rfl (fun K hK=>?_);go_simp
 apply jG;refine⟨fun w9 hw9=>rfl,hK _ ?_⟩;clear hK K;refine cX rfl (fun K hK=>?_);go_simp
 apply jG;refine⟨fun w9 hw9=>?_,hK _ ?_⟩;exact Hh1.o w9;clear hK K;refine xcd rfl 76 _ rfl _ rfl 76 _ _ (fun w9 hw9=>(hw9.block _ (bI B1.o)).trans B1.o) zX rfl Ii.o ?_;refine xcd rfl 76 _ rfl _ rfl 76 _ _ (fun w9 hw9=>(hw9.block _ (bI B0.o)).trans B0.o) zX rfl Ji.o ?_;refine cX rfl (fun K hK=>?_);go_simp
 apply jG;refine⟨fun w9 hw9=>?_,hK _ ?_⟩;exact Hadd.o w9;clear hK K;refine cX rfl (fun K hK=>?_);go_simp
 apply jG;refine⟨fun w9 hw9=>rfl,hK _ ?_⟩;clear hK K;refine cX rfl (fun K hK=>?_);go_simp
 apply jG;refine⟨fun w9 hw9=>?_,hK _ ?_⟩;exact Hh2.o w9;clear hK K;refine ends2 (FL J 256 p) (FL J 256 q) rfl (iA p) rfl (iA q) (by decide) (fun p1 p2 w6 l1 l2 n12 hb6 r1 r2=>?_);simp only[vrP,aM,aR.pa,aR.pb,aR.pc]at r1 r2 ⊢;have hz:=Hhz.o;have R1:=D r1;have R2:=D r2;have C2:U (w6.heap[w.heap.size+2]? = some (Y z 76 (0,0))):=⟨(hb6.block _ (bI B2.o)).trans B2.o⟩;have Hb6:=bK HWb hb6;have H6s:U (w.heap.size+3<=w6.heap.size):=⟨by have:=hb6.size;have:=HWs.o;omega⟩;clear r1 r2 hb6 l1 l2 n12 B0 B1 B2 HWs HWb Hh1 Hh2 Hadd HO;go_wp2_with fail;clear hz Hhz;obtain⟨gh,hgh0⟩:=aQ w6.heap.size;obtain⟨V,hV⟩:=aP (w6.alloc (Y z 76));obtain⟨v0,hVs,hVb⟩:=one hV;rw[hV];clear hV;rw[hgh0.o]at v0;rw[hgh0.o];have V1:U (V.heap[p1]? = some (Y (FL J 256 p) 76 (0,0))):=⟨(hVb.block _ (bI R1.o)).trans R1.o⟩;have V2:U (V.heap[p2]? = some (Y (FL J 256 q) 76 (0,0))):=⟨(hVb.block _ (bI R2.o)).trans R2.o⟩;have V3:U (V.heap[w.heap.size+2]? = some (Y z 76 (0,0))):=⟨(hVb.block _ (bI C2.o)).trans C2.o⟩;have HVB:=bK Hb6 hVb;have HVs:U (gh<V.heap.size/\w.heap.size+3<=gh/\p1<gh/\p2<gh):=⟨by have:=H6s.o;have:=hgh0.o;have:=bI R1.o;have:=bI R2.o;omega⟩;have A0':U (At gh (FL J 256 (pt F (fun _=>0) 0)) 76 V V):=⟨At.refl (by rw[xbf,HZ.o];exact v0)⟩;clear v0 hVs hVb hgh0 R1 R2 C2 Hb6 H6s;go_loopw [19] (fun v wr=>∃ i:Nat,i<=256/\v=O J (i:Int)/\U (At gh (FL J 256 (pt F (fun _=>0) i)) 76 V wr)) (fun v _=>256-(aG v).toNat)
 case atStart=>exact⟨0,iX _,rfl,A0'⟩
 case round=>
  obtain⟨i,hi,rfl,A0⟩:=hrel;by_cases hlt:i<256
  ·have hiz:(i:Int)<256:=by omega
   obtain⟨x,hx⟩:=aP (p i);obtain⟨y,hy⟩:=aP (q i);have cx:wr.cell? ⟨p1,i,none⟩=some (O J x):=by rw[<-hx];exact fZ (A0.o.other (by have:=HVs.o;omega) (by have:=HVs.o;omega) V1.o) i hlt
   have cy:wr.cell? ⟨p2,i,none⟩=some (O J y):=by rw[<-hy];exact fZ (A0.o.other (by have:=HVs.o;omega) (by have:=HVs.o;omega) V2.o) i hlt
   have HV:U (F i=if x=y then 0 else 1):=⟨by rw[HFq.o,hx,hy]⟩;clear hx hy;by_cases hxy:x=y
   ·subst hxy;have hne:(x != x)=false:=by simp
    have HU:FL J 256 (pt F (fun _=>0) i)=FL J 256 (pt F (fun _=>0) (i+1)):=by
     rw[<-xa1 F (fun _=>0) i 0 (by rw[HV.o,iP rfl])];refine xc1 _ _ fun j _=>?_
     unfold aT.upd pt;by_cases hj:j=i
     ·subst hj;simp
     ·rw[iQ hj]
    rw[HU]at A0;clear HU HV;go_wp2_with fail;refine xav (by kernel_rfl) (by kernel_rfl) ?_;repeat still_step
    refine jR ?_;clear cx cy;go_wp2_with fail;go_roundw
    case rel=>exact⟨i+1,by omega,by go_num,⟨eN A0.o⟩⟩
    case measure=>simp[aG];omega
   ·have hne:(x != y)=true:=bne_iff_ne.2 hxy;have HU:U (aT.upd (pt F (fun _=>0) i) i 1=pt F (fun _=>0) (i+1)):=⟨xa1 F _ i 1 (by rw[HV.o,iQ hxy])⟩;clear HV hxy;go_wp2_with fail;refine xav (by kernel_rfl) (by kernel_rfl) ?_;repeat still_step
    refine jR ?_;clear cx cy;have A1:U (At gh (FL J 256 (pt F (fun _=>0) i)) 76 V wr.drew):=⟨eN A0.o⟩;clear A0;go_wp2_with ((with_reducible refine cU A1 rfl _ _ _ rfl rfl ?_);refine⟨_,_,_,rfl,rfl,rfl,by rw[cC];exact hlt,?_⟩;intro wn A2;rw[eV,HU.o]at A2);go_roundw
    case rel=>exact⟨i+1,by omega,by go_num,A2⟩
    case measure=>simp[aG];omega
  ·obtain rfl:i=256:=by omega
   simp only[jE];rw[xbc,HR.o]at A0;have Hrow:=D A0.o.row;have Hres:U (wr.heap[w.heap.size+2]? = some (Y z 76 (0,0))):=⟨A0.o.other (by have:=HVs.o;omega) (by have:=HVs.o;omega) V3.o⟩;have HB:U (zb w wr):=⟨HVB.o.trans (A0.o.below HVB.o.size (by have:=HVs.o;omega))⟩;clear A0;go_wp2_with (first
    | (refine iL rfl 76 _ rfl gh rfl 76 R (0,0) _ Hrow.o zX rfl Ri.o ?_)
    | (refine iS rfl 76 _ _ rfl (w.heap.size+2) R rfl rfl 76 _ Hres.o Ri.o Rz.o Ro.o ?_))
   refine iV (v:=I R) (jC rfl _ _ (w.heap.size+2) 76 _ (0,0) _ rfl (jD _ _ _ _ _ _ Hres.o) zX rfl Ri.o) rfl ?_;exact⟨rfl,HB.o.trans (below_setRow _ _ _ (by omega))⟩
end rhint
namespace phin
open arr mem bD dZ aT bE aW aY bC bA bL eD
theorem xft(h:Nat->Nat->Int)(g o cap m om:Nat)(w:G)(hg:g<w.heap.size)(hm1 : 1<=m)(hm8:m<=8)(ho1 : 1<=om)(ho2:om<=255)(hr:∀ i,i<m->w.rangeAt g (o+256*i) (FL J 256 (h i)).toList):
 aD aO 191 #[aB (some ⟨g,o,none⟩) m cap,O J (om:Int)] w (zB w (if dR h m<=om then aA #[E ⟨(cP (lay h om m m)).toArray⟩,O J 0] else aA #[E ⟨#[]⟩,O J 6])):=by
 obtain⟨i0,hi,hz0,hz1,hz2⟩:=parts dV;have HI:=D (jA hi (jA hz0 (jA hz1 hz2)));obtain⟨hz,hsize⟩:=iY aX;obtain⟨z,HZ⟩:=aQ (FL J 256 fun _=>0);rw[HZ.o]at hz;have Hzs:=dP HZ;have HR:=D hr;obtain⟨R,HRe⟩:=aQ (cP (lay h om m m));obtain⟨V,HV⟩:=aQ (if dR h m<=om then Value.tuple #[E ⟨R.toArray⟩,O J 0] else aA #[E ⟨#[]⟩,O J 6]);rw[HRe.o,HV.o];obtain⟨M,hM⟩:=aP (om+m);have fM:(om:Int)+(m:Int)=(M:Int):=by omega
 have fMw:J.wrap ((om:Int)+(m:Int))=(M:Int):=by rw[fM,iN];omega
 have HM0:∀ w1:G,aD aO 104 #[O J (om:Int),O J (m:Int)] w1 (zE w1 (.bool true)):=fun w1=>by
  have h:=dX.xft (om:Int) (m:Int) w1;rw[jP (by omega)]at h;exact h
 have HM:=D hM;clear hi hz0 hz1 hz2 hr HZ hM;go_enter Tryz.func191,Tryz.ntmps191;go_wp2_with fail;go_step3
 go_wp2_with fail;refine(HM0 _).mono ?_;rintro e w ⟨rfl,rfl⟩;go_wp2_with (at_make;refine lY _ rfl (.tmp 19) (.tmp 19) 57 rfl w.heap.size 5 i0 (O .u8 0) 1 Tryz.underlying57 HI.o.1 HI.o.2.1 HI.o.2.2.1 J J M M M rfl rfl rfl rfl (by rw[HI.o.2.2.2];omega) (by unfold maxLen;omega) (iM _) ?_);intro w3 hown hgr;have hb3:zb w w3:=(iR _ _).grown hgr (iM _) (fun k hk=>by simp at hk);obtain⟨cur,hcur,hcl⟩:=xp8 hown;have e0:cur=LK .u8 (lay h om m 0):=by
  apply Array.ext';rw[hcl,lay,HM.o];simp only[toList_madeCells_one];simp[LK]
 rw[e0]at hcur;have A3:U (At w.heap.size (LK .u8 (lay h om m 0)) 5 w3 w3):=⟨At.refl hcur⟩;have HB3:=D hb3;have h38:=bI hcur;clear hown hgr hb3 hcl e0 hcur fM fMw;go_wp2_with fail;go_step3
 go_wp2_with fail;go_loopw [23,7] (fun v c wr=>∃ i:Nat,i<=m/\v=O J (i:Int)/\c=O J ((dR h i:Nat):Int)/\dR h i<=om/\U (At w.heap.size (LK .u8 (lay h om m i)) 5 w3 wr)) (fun v _ _=>m-(aG v).toNat)
 case atStart=>exact⟨0,iX _,rfl,rfl,iX _,A3⟩
 case round=>
  clear A3;obtain⟨i,hi,rfl,rfl,hto,A0⟩:=hrel;by_cases hlt:i<m
  ·have hiz:(i:Int)<(m:Int):=by omega
   have BW:U (zb w wr):=⟨HB3.o.trans (A0.o.below (by omega) (iM _))⟩;have Hrg:U (wr.rangeAt g (o+256*i) (FL J 256 (h i)).toList):=⟨fun j v hv=>by rw[BW.o.cell (p:=⟨g,o+256*i+j,none⟩) hg];exact HR.o i hlt j v hv⟩;have Hidx:U (∀ k:Nat,k<256->∀ w1,(aN 76 (I (FL J 256 (h i))) (O J (k:Int))).run aO w1=.ok (O J (h i k)) w1):=⟨fun k hk w1=>xct (P:=aO) zX (by kernel_rfl) (by kernel_rfl) (by kernel_rfl) _ _ k hk (xba J 256 (h i) k hk) w1⟩;have Fs:U ((FL J 256 (h i)).size=256):=⟨cC _ _ _⟩;have Fo:U ((FL J 256 (h i)).all (·.oneCell')=true):=⟨xbj _ _ _⟩;obtain⟨F,HF⟩:=aQ (FL J 256 (h i));rw[HF.o]at Hrg Hidx Fs Fo;have Fi:=zsz Fs hsize;have A4:U (At w.heap.size (LK .u8 (put (h i) (dR h i) (lay h om m i) 0)) 5 w3 wr):=⟨by rw[put];exact A0.o⟩;obtain⟨i256,hi256⟩:=aP (256*i);rw[hi256]at Hrg;have fi256:i*256=i256:=by omega
   clear HF hi256;go_wp2_with ((with_reducible refine mE rfl 76 _ rfl g (o+i256) ?hx F.toList _ Hrg.o zX rfl ?hi ?_);(case hx=>rfl);(case hi=>rw[jM];exact Fi.o));have Hi:=D hlt;clear A0;go_loopw [30,7] (fun v c wr=>∃ k:Nat,k<=256/\v=O J (k:Int)/\c=O J ((dR h i+cnt (h i) k:Nat):Int)/\dR h i+cnt (h i) k<=om/\U (At w.heap.size (LK .u8 (put (h i) (dR h i) (lay h om m i) k)) 5 w3 wr)) (fun v _ _=>256-(aG v).toNat)
   case atStart=>exact⟨0,iX _,rfl,rfl,hto,A4⟩
   case round=>
    clear A4;obtain⟨k,hk,rfl,rfl,hto,A0⟩:=hrel;obtain⟨n,hn⟩:=aP (dR h i+cnt (h i) k);rw[hn]at hto ⊢;by_cases hklt:k<256
    ·have hkz:(k:Int)<256:=by omega
     have hidx:=Hidx.o k hklt;by_cases hx:h i k=0
     ·rw[hx]at hidx;have Hn:U (dR h i+cnt (h i) (k+1)=n):=⟨by rw[cnt,iP hx,<-hn];omega⟩;have A1:U (At w.heap.size (LK .u8 (put (h i) (dR h i) (lay h om m i) (k+1))) 5 w3 wr):=⟨by rw[put,iP hx];exact A0.o⟩;clear A0 hn hx;go_wp2_with fail;go_roundw
      case rel=>exact⟨k+1,by omega,by go_num,by rw[Hn.o],by rw[Hn.o];exact hto,A1⟩
      case measure=>simp[aG];omega
     ·have Hn:U (dR h i+cnt (h i) (k+1)=n+1):=⟨by rw[cnt,iQ hx,<-hn];omega⟩;have Hs:U ((put (h i) (dR h i) (lay h om m i) k).set n k=put (h i) (dR h i) (lay h om m i) (k+1)):=⟨by rw[put,iQ hx,hn]⟩;obtain⟨x,hxx⟩:=aP (h i k);rw[hxx]at hidx hx;have fx:(x==0)=false:=by simpa using hx
      have fn1:J.wrap ((n:Int)+1)=((n+1:Nat):Int):=bB;have fk8:IntKind.u8.wrap (k:Int)=(k:Int):=by rw[kU];omega
      have BE:U (zb w wr):=⟨HB3.o.trans (A0.o.below (by omega) (iM _))⟩;clear hx hxx hn;by_cases he:n=om
      ·have hV:U (V=aA #[E ⟨#[]⟩,O J 6]):=⟨by
        rw[<-HV.o,iQ];have h1:=xjx h (i+1) m (by have:=Hi.o;omega);have h2:=cnt_mono (h i) (k+1) 256 (by omega);have h3:=Hn.o;rw[dR]at h1;omega⟩
       subst he;go_wp2_with fail;rw[Exit.noGoto_ret];go_ret2;exact⟨by rw[hV.o];rfl,BE.o⟩
      ·have fe:¬ (om:Int)<((n+1:Nat):Int):=by omega
       have fn2:J.wrap (((n+1:Nat):Int)-1)=(n:Int):=bB;have hno:n+1<=om:=by omega
       have hnM:(n:Int)<(M:Int):=by have:=HM.o;omega
       have HnM:U (n<om+m):=⟨by omega⟩;clear he;go_wp2_with ((with_reducible refine cU A0 rfl _ _ _ rfl rfl ?_);refine⟨_,_,_,rfl,rfl,rfl,(by rw[fE,xhe,xey];exact HnM.o),?_⟩;intro wn HRn;rw[xdh,Hs.o]at HRn);go_roundw
       case rel=>exact⟨k+1,by omega,by go_num,by rw[Hn.o];go_num,by rw[Hn.o];exact hno,HRn⟩
       case measure=>simp[aG];omega
    ·obtain rfl:k=256:=by omega
     simp only[jE];have Hn:U (dR h (i+1)=n):=⟨by rw[dR,hn]⟩;have Hs:U ((put (h i) (dR h i) (lay h om m i) 256).set (om+i) n=lay h om m (i+1)):=⟨by rw[lay,Hn.o]⟩;obtain⟨oi,hoi⟩:=aP (om+i);rw[hoi]at Hs;have foi:(om:Int)+(i:Int)=(oi:Int):=by omega
     have foiw:J.wrap ((om:Int)+(i:Int))=(oi:Int):=by rw[foi,iN];omega
     have fn8:IntKind.u8.wrap (n:Int)=(n:Int):=by rw[kU];omega
     have hnM:(oi:Int)<(M:Int):=by have:=HM.o;have:=Hi.o;omega
     have HnM:U (oi<om+m):=⟨by have:=Hi.o;omega⟩;clear hn hoi;go_wp2_with ((with_reducible refine cU A0 rfl _ _ _ rfl rfl ?_);refine⟨_,_,_,rfl,rfl,rfl,(by rw[fE,xhe,xey];exact HnM.o),?_⟩;intro wn HRn;rw[xdh,Hs.o]at HRn);go_roundw
     case rel=>exact⟨i+1,by have:=Hi.o;omega,by go_num,by rw[Hn.o],by rw[Hn.o];exact hto,HRn⟩
     case measure=>have:=Hi.o;simp[aG];omega
  ·obtain rfl:i=m:=by omega
   have hV:U (V=aA #[E ⟨R.toArray⟩,O J 0]):=⟨by rw[<-HV.o,iP hto]⟩;have hto2:¬ (om:Int)<((dR h i:Nat):Int):=by omega
   have hcv:=xeo (cap:=M) (n:=M) (by rw[xey];exact HM.o) (xox h om i i (by omega)) A0.o.row;rw[HRe.o]at hcv;have BE:U (zb w wr):=⟨HB3.o.trans (A0.o.below (by omega) (iM _))⟩;clear A0;go_wp2_with fail;go_ret2;exact⟨by rw[hV.o];rfl,BE.o⟩
end phin
namespace mgf
open arr mem bD aT aV bS cY bF bQ dD bM bZ eH cZ bU bT dN dW eM cV aR mgd vary varyn varye pvar qops
theorem xft{T:Array aE}{S:Sg}(Z:Nat->Int)(n gs gt gm cm ga ca gb cb' gl cl gn gy cy gw cw:Nat)(w:G)(hO:OKS T Z S)(H:SGN T S gs gt gm cm ga ca gb cb' gl cl w)
 (hA:w.heap[gn]? = some (Y (AT (aB (some ⟨gy,0,none⟩) S.ln cy) (aB (some ⟨gw,0,none⟩) S.kn cw) (cT S n) (aS S.ζ 8 (tC S n))) 185 (0,0))) (HYy:Holds w 0 (aB (some ⟨gw,0,none⟩) S.kn cw) S.kn (tW S n)):
 aD aO 167 #[aC (some ⟨gs,0,none⟩),aC (some ⟨gn,0,none⟩)] w (zB w (resH S n)):=by
 obtain⟨hk,hl,he,ht,ha,hbb,ho,hs⟩:=xi3 hO;obtain⟨m,hm⟩:=aP (S.t*S.e);have hm2 : 0<=m/\m<=256:=by rw[<-hm];rcases he with h | h<;>rw[h]<;>omega
 have hmw:J.wrap (S.t*S.e)=m:=by rw[hm,iN];omega
 have hpol:=xno hA;have c1n:w.cell? ⟨gn,1,none⟩=some (aB (some ⟨gw,0,none⟩) S.kn cw):=aZ hA rfl;have lgn:=bI hA;have hlt_of:∀ (g c m:Nat) (q:Nat->Nat->Int) (w1:G),Holds w1 0 (aB (some ⟨g,0,none⟩) m c) m q->g<w1.heap.size:=fun g c m q w1 h=>by
  obtain⟨g9,c9,e9,-,h9,-⟩:=h;injection e9 with e9 _ _
  iterate 2 (injection e9 with e9)
  rw[e9];exact h9
 have HPb0:∀ r,r<S.kn->∀ w1:G,zb w w1->aD aO 186 #[aC (some ⟨gs,0,none⟩),aC (some ⟨gn,3,none⟩),aC (some ⟨gb,r*256,none⟩)] w1 (zB w1 (I (FL J 256 (one S.ζ (tC S n) (S.B r))))):=fun r hr w1 hb=>by
  have h1:=H.later hb;rw[<-mul_one];have h2:=mga.xma (T:=T) Z gs gt gn 3 gb (r*256) (aS S.ζ 8 (tC S n)) (aS S.ζ 8 (S.B r)) w1 hO.zt (h1.cell 0 _ rfl) h1.tab (xa3 hpol lgn hb) (xa8 h1.hb r hr) h1.lts (iZ lgn hb.size) (hlt_of _ _ _ _ _ h1.hb);rw[<-hO.ez]at h2;exact h2
 have HPl0:∀ r,r<S.kn->∀ w1:G,zb w w1->aD aO 186 #[aC (some ⟨gs,0,none⟩),aC (some ⟨gn,3,none⟩),aC (some ⟨gl,r*256,none⟩)] w1 (zB w1 (I (FL J 256 (gK S n r)))):=fun r hr w1 hb=>by
  have h1:=H.later hb;unfold gK;rw[<-mul_one];have h2:=mga.xma (T:=T) Z gs gt gn 3 gl (r*256) (aS S.ζ 8 (tC S n)) (aS S.ζ 8 (S.C r)) w1 hO.zt (h1.cell 0 _ rfl) h1.tab (xa3 hpol lgn hb) (xa8 h1.hl r hr) h1.lts (iZ lgn hb.size) (hlt_of _ _ _ _ _ h1.hl);rw[<-hO.ez]at h2;exact h2
 have HSu0:∀ r,∀ w1:G,aD aO 88 #[I (FL J 256 (tW S n r)),I (FL J 256 (one S.ζ (tC S n) (S.B r)))] w1 (zB w1 (I (FL J 256 (tV S n r)))):=fun r w1=>fsub.xhq _ _ w1
 have HLo0:∀ r,∀ w1:G,aD aO 189 #[I (FL J 256 (tV S n r)),O J S.b] w1 (zB w1 (I (FL J 256 (tLo S n r)))):=fun r w1=>rlow.xvj _ _ w1
 have HSz0:∀ (f:Nat->Int) (w1:G),aD aO 188 #[I (FL J 256 f)] w1 (zB w1 (O J (bE.cb f 256))):=fun f w1=>by
  have h:=mga.xb9 f w1;rw[xt1]at h;exact h
 have HNg0:∀ r,∀ w1:G,aD aO 88 #[I (FL J 256 fun _=>0),I (FL J 256 (gK S n r))] w1 (zB w1 (I (FL J 256 fun k=>(0-gK S n r k)%8380417))):=fun r w1=>fsub.xhq _ _ w1
 have HAd0:∀ r,∀ w1:G,aD aO 80 #[I (FL J 256 (tV S n r)),I (FL J 256 (gK S n r))] w1 (zB w1 (I (FL J 256 fun k=>(tV S n r k+gK S n r k)%8380417))):=fun r w1=>fadd.xdr _ _ w1
 have HHn0:∀ r,∀ w1:G,aD aO 190 #[I (FL J 256 fun k=>(0-gK S n r k)%8380417),I (FL J 256 fun k=>(tV S n r k+gK S n r k)%8380417),O J S.b] w1 (zB w1 (I (FL J 256 (fI S n r)))):=fun r w1=>rhint.xuy _ _ _ w1
 have HMr0:∀ w1:G,zb w w1->aD aO 187 #[aC (some ⟨gs,0,none⟩)] w1 (zB w1 (O J m)):=fun w1 hb=>by
  have h1:=H.later hb;refine(mga.xpa gs S.t S.e m w1 (h1.cell 4 _ rfl) (h1.cell 3 _ rfl) hmw).mono ?_;rintro e w' ⟨rfl,rfl⟩;exact⟨rfl,(iR _ _).drew⟩
 obtain⟨om,hom⟩:=kR (a:=S.o) (by omega);have hom2 : 1<=om/\om<=100:=by omega
 obtain⟨lim,hlim⟩:=aP (S.b-m);have hlim0 : 0<lim:=by omega
 have hb0 : 0<S.b:=by omega
 have hlimw:J.wrap (S.b-m)=lim:=by rw[hlim,iN];omega
 have HV0:(∀ i,i<S.kn->bE.cb (tLo S n i) 256<lim/\bE.cb (gK S n i) 256<S.b)->eD.dR (fI S n) S.kn<=om->resH S n=aA #[E ⟨(aY.cP (eD.lay (fI S n) om S.kn S.kn)).toArray⟩,.bool true]:=fun h1 h2=>by
  unfold resH;rw[iP ⟨by rw[hm,hlim,xia _ _ hlim0];exact fun i hi=>(h1 i hi).1,by rw[xia _ _ hb0];exact fun i hi=>(h1 i hi).2,by rw[hom];exact Int.ofNat_le.2 h2⟩,hom];rfl
 have HV1:∀ i,i<S.kn->lim<=bE.cb (tLo S n i) 256\/S.b<=bE.cb (gK S n i) 256->resH S n=aA #[E ⟨#[]⟩,.bool false]:=fun i hi h=>by
  unfold resH;rw[iQ];rw[hm,hlim,xia _ _ hlim0,xia _ _ hb0];rintro ⟨h1,h2,-⟩;have:=h1 i hi;have:=h2 i hi;omega
 have HV2:om<eD.dR (fI S n) S.kn->resH S n=aA #[E ⟨#[]⟩,.bool false]:=fun h=>by
  unfold resH;rw[iQ];rintro ⟨-,-,h3⟩;omega
 obtain⟨i0,hi,hz0,hz1,hz2⟩:=iC bX;obtain⟨hz,hsize⟩:=iY aV.aX;obtain⟨z,HZ⟩:=aQ (FL J 256 fun _=>0);rw[HZ.o]at hz hz0;simp only[HZ.o]at HNg0;have Hb0:aO.built 76 []=some z:=by rw[<-HZ.o];exact pvar.built0
 have HB0:=D Hb0;have HI:=D (jA hi (jA hz0 (jA hz1 hz2)));have Hsize:=D hsize;have HYv:=D HYy;have HGy:=D (hlt_of _ _ _ _ _ HYy);have c11:w.cell? ⟨gs,11,none⟩=some (aB (some ⟨gb,0,none⟩) S.kn cb'):=H.cell 11 _ rfl;have c12:w.cell? ⟨gs,12,none⟩=some (aB (some ⟨gl,0,none⟩) S.kn cl):=H.cell 12 _ rfl;have c6:w.cell? ⟨gs,6,none⟩=some (O J S.b):=H.cell 6 _ rfl;have c7:w.cell? ⟨gs,7,none⟩=some (O J S.o):=H.cell 7 _ rfl;rw[hom]at c7;have lgs:=H.lts;obtain⟨be,hbe⟩:=aP S.b;rw[hbe]at c6 hlimw HV1;simp only[hbe]at HLo0 HHn0 HV0;obtain⟨kn,hkn⟩:=aP S.kn;simp only[hkn]at HPb0 HPl0 c1n c11 c12 HYv hk HV0 HV1 HV2;obtain⟨V,hV⟩:=aQ (resH S n);rw[hV.o];simp only[hV.o]at HV0 HV1 HV2;obtain⟨hh,ehh⟩:=aQ (fI S n);obtain⟨vv,evv⟩:=aQ (tV S n);obtain⟨ww,eww⟩:=aQ (tW S n);obtain⟨lo,elo⟩:=aQ (tLo S n);obtain⟨cc,ecc⟩:=aQ (gK S n);obtain⟨pp,hpp⟩:=aQ (fun r=>one S.ζ (tC S n) (S.B r));have hpp2:∀ r,one S.ζ (tC S n) (S.B r)=pp r:=fun r=>by rw[<-hpp.o]
 simp only[hpp2,ehh.o,evv.o,eww.o,elo.o,ecc.o]at HPb0 HPl0 HSu0 HLo0 HNg0 HAd0 HHn0 HV0 HV1 HV2 HYv;have HPb:=D HPb0;have HPl:=D HPl0;have HSu:=D HSu0;have HLo:=D HLo0;have HSz:=D HSz0;have HNg:=D HNg0;have HAd:=D HAd0;have HHn:=D HHn0;have HMr:=D HMr0;have HV0':=D HV0;have HV1':=D HV1;have HV2':=D HV2;have C1n:=D c1n;have C11:=D c11;have C12:=D c12;have C6:=D c6;have C7:=D c7;have Lgs:=D lgs;have Lgn:=D lgn;have Hom:=D hom2;have Hlimw:=D hlimw;have hkn8:=hk.2;have hkn1:=hk.1;clear hi hz0 hz1 hz2 hsize hk hl he ht ha hbb ho hs hm hm2 hmw hpol lgn HPb0 HPl0 HSu0 HLo0 HSz0 HNg0 HAd0 HHn0 HMr0 HV0 HV1 HV2 HYy c11 c12 c6 c7 lgs hlim hlim0 hb0 hlimw hbe hkn hV ehh evv eww elo ecc hpp hpp2 hA H hO hom hom2 hlt_of Hb0;go_enter Tryz.func167,Tryz.ntmps167;go_wp2_with (at_make;refine lY _ rfl (.tmp 16) (.tmp 16) 44 rfl w.heap.size 76 i0 (I z) 256 Tryz.underlying44 HI.o.1 HI.o.2.1 HI.o.2.2.1 J J kn kn kn rfl rfl rfl rfl (by rw[HI.o.2.2.2];omega) (by unfold maxLen;omega) (iM _) ?_);clear c1n;intro w3 hown hgr;obtain⟨hrow,hb3⟩:=xbn HZ.o hown hgr;obtain⟨go,hgo⟩:=aP w.heap.size;rw[hgo]at hrow ⊢;have A3:U (At go (RW kn (fst hh 0)) 76 w3 w3):=⟨by rw[xbl];exact At.refl hrow⟩;have B3:U (zb w w3):=⟨hb3⟩;have Hgo:=D hgo;clear hown hgr hrow hb3 hgo;go_wp2_with fail;go_loopw [20] (fun iv wr=>∃ r:Nat,r<=kn/\iv=O J (r:Int)/\U (∀ i,i<r->bE.cb (lo i) 256<lim/\bE.cb (cc i) 256<be)/\U (At go (RW kn (fst hh r)) 76 w3 wr)) (fun iv _=>kn-(aG iv).toNat)
 case atStart=>exact⟨0,iX _,rfl,⟨fun i hi=>by omega⟩,A3⟩
 case round=>
  clear A3;obtain⟨r,hr,rfl,Hin,A0⟩:=hrel;have BU:U (zb w wr):=⟨B3.o.trans (A0.o.below B3.o.size (mS Hgo.o))⟩;by_cases hlt:r<kn
  ·have hrz:(r:Int)<(kn:Int):=by omega
   have hr8:r<8:=by omega
   have hrg:=xa8 (HYv.o.later BU.o) r hlt;have BV:∀ w1:G,zb wr w1->zb w w1:=fun w1 hb=>BU.o.trans (hb.mono BU.o.size)
   have HPq:U (∀ w1:G,zb wr w1->_):=⟨fun w1 hb=>HPb.o r hlt w1 (BV w1 hb)⟩;have HPk:U (∀ w1:G,zb wr w1->_):=⟨fun w1 hb=>HPl.o r hlt w1 (BV w1 hb)⟩;have HMq:U (∀ w1:G,zb wr w1->_):=⟨fun w1 hb=>HMr.o w1 (BV w1 hb)⟩;have HSq:=D (HSu.o r);have HLq:=D (HLo.o r);have HZl:=D (HSz.o (lo r));have HZc:=D (HSz.o (cc r));have HNq:=D (HNg.o r);have HAq:=D (HAd.o r);have HHq:=D (HHn.o r);obtain⟨F,HF⟩:=aQ (FL J 256 (ww r));obtain⟨Gq,HGG⟩:=aQ (FL J 256 (pp r));obtain⟨L,HLL⟩:=aQ (FL J 256 (lo r));obtain⟨M,HMM⟩:=aQ (FL J 256 fun k=>(0-cc r k)%8380417);obtain⟨N,HNN⟩:=aQ (FL J 256 fun k=>(vv r k+cc r k)%8380417);obtain⟨Eq,HE⟩:=aQ (FL J 256 (hh r));obtain⟨o6,ho6⟩:=aP (r*256);have FtV:U (Fits aO 76 (FL J 256 fun _=>0) (FL J 256 (vv r))):=⟨iA _⟩;have FtC:U (Fits aO 76 (FL J 256 fun _=>0) (FL J 256 (cc r))):=⟨iA _⟩;obtain⟨Vv,HVV⟩:=aQ (FL J 256 (vv r));obtain⟨Cc,HCC⟩:=aQ (FL J 256 (cc r));have Vi:=eE HVV Hsize.o;have Ci:=eE HCC Hsize.o;rw[HF.o,ho6]at hrg;rw[ho6,HGG.o]at HPq;rw[ho6,HCC.o]at HPk;rw[HF.o,HGG.o,HVV.o]at HSq;rw[HVV.o,HLL.o]at HLq;rw[HLL.o]at HZl;rw[HCC.o]at HZc FtC;rw[HVV.o]at FtV;rw[HCC.o,HMM.o]at HNq;rw[HVV.o,HCC.o,HNN.o]at HAq;rw[HMM.o,HNN.o,HE.o]at HHq;obtain⟨X,HX⟩:=aP (bE.cb (lo r) 256);obtain⟨Yq,HY⟩:=aP (bE.cb (cc r) 256);have HX:=D HX;have HY:=D HY;rw[HX.o]at HZl;rw[HY.o]at HZc;have Hrg:U (∀ w':G,zb wr w'->w'.rangeAt gw o6 F.toList):=⟨fun w' hb'=>xa3 hrg (iZ HGy.o BU.o.size) hb'⟩
   have Fi:=zfi HF Hsize.o;have K1n:U (∀ w':G,zb wr w'->w'.cell? ⟨gn,1,none⟩=some (aB (some ⟨gw,0,none⟩) kn cw)):=⟨fun w' hb=>((BV w' hb).cell (p:=⟨gn,1,none⟩) Lgn.o).trans C1n.o⟩;have K11:U (∀ w':G,zb wr w'->w'.cell? ⟨gs,11,none⟩=some (aB (some ⟨gb,0,none⟩) kn cb')):=⟨fun w' hb=>((BV w' hb).cell (p:=⟨gs,11,none⟩) Lgs.o).trans C11.o⟩;have K12:U (∀ w':G,zb wr w'->w'.cell? ⟨gs,12,none⟩=some (aB (some ⟨gl,0,none⟩) kn cl)):=⟨fun w' hb=>((BV w' hb).cell (p:=⟨gs,12,none⟩) Lgs.o).trans C12.o⟩;have K6:U (∀ w':G,zb wr w'->w'.cell? ⟨gs,6,none⟩=some (O J be)):=⟨fun w' hb=>((BV w' hb).cell (p:=⟨gs,6,none⟩) Lgs.o).trans C6.o⟩;have Hup:U (ups (fst hh r) r (hh r)=fst hh (r+1)):=⟨xbq hh r⟩;have Hlt:=D hlt;have Ho6:=D ho6;have HzA:=D hz;clear hrg hlt HF HGG HLL HMM HNN HVV HCC BV hz;go_wp2_with fail;refine xed [vrP 19 20 18 8 41] 19 (by kernel_rfl) (by kernel_rfl) (by kernel_rfl) (by kernel_rfl) (by decide) (fun v hv ρ o w1 ho=>by
    simp only[kT,mK,or_false]at hv;subst hv;exact fQ ρ o w1 ho) (by simp[vrP]) (fun ops HO=>?_)
   simp only[jH,jU];refine cX rfl (fun K hK=>?_);go_simp
   apply jG;refine⟨fun w9 hw9=>?_,hK _ ?_⟩;rfl;clear hK K;refine cX rfl (fun K hK=>?_);go_simp
   apply jG;refine⟨fun w9 hw9=>?_,hK _ ?_⟩;rfl;clear hK K;refine cX rfl (fun K hK=>?_);go_simp
   apply jG;refine⟨fun w9 hw9=>?_,hK _ ?_⟩;rfl;clear hK K;refine xdq rfl (aB (some ⟨gw,0,none⟩) kn cw) (fun w9 hw9=>by have hc:=K1n.o w9 hw9;go_simp;first | done | with_reducible rfl) ?_;refine cX rfl (fun K hK=>?_);go_simp
   apply jG;refine⟨fun w9 hw9=>?_,hK _ ?_⟩;rfl;clear hK K;refine cX rfl (fun K hK=>?_);go_simp
   apply jG;refine⟨fun w9 hw9=>?_,hK _ ?_⟩;rfl;clear hK K;refine xhz rfl 76 _ rfl gw o6 rfl F.toList _ (fun w9 hw9=>Hrg.o w9 hw9) zX rfl Fi.o ?_;refine cX rfl (fun K hK=>?_);go_simp
   apply jG;refine⟨fun w9 hw9=>?_,hK _ ?_⟩;rfl;clear hK K;refine cX rfl (fun K hK=>?_);go_simp
   apply jG;refine⟨fun w9 hw9=>?_,hK _ ?_⟩;rfl;clear hK K;refine cX rfl (fun K hK=>?_);go_simp
   apply jG;refine⟨fun w9 hw9=>?_,hK _ ?_⟩;rfl;clear hK K;refine cX rfl (fun K hK=>?_);go_simp
   apply jG;refine⟨fun w9 hw9=>?_,hK _ ?_⟩;rfl;clear hK K;refine cX rfl (fun K hK=>?_);go_simp
   apply jG;refine⟨fun w9 hw9=>?_,hK _ ?_⟩;rfl;clear hK K;refine cX rfl (fun K hK=>?_);go_simp
   apply jG;refine⟨fun w9 hw9=>?_,hK _ ?_⟩;rfl;clear hK K;refine cX rfl (fun K hK=>?_);go_simp
   apply jG;refine⟨fun w9 hw9=>?_,hK _ ?_⟩;rfl;clear hK K;refine xdq rfl (aB (some ⟨gb,0,none⟩) kn cb') (fun w9 hw9=>by have hc:=K11.o w9 hw9;go_simp;first | done | with_reducible rfl) ?_;refine cX rfl (fun K hK=>?_);go_simp
   apply jG;refine⟨fun w9 hw9=>?_,hK _ ?_⟩;rfl;clear hK K;refine cX rfl (fun K hK=>?_);go_simp
   apply jG;refine⟨fun w9 hw9=>?_,hK _ ?_⟩;rfl;clear hK K;refine cX rfl (fun K hK=>?_);go_simp
   apply jG;refine⟨fun w9 hw9=>?_,hK _ ?_⟩;exact HPq.o w9 hw9;clear hK K;refine cX rfl (fun K hK=>?_);go_simp
   apply jG;refine⟨fun w9 hw9=>?_,hK _ ?_⟩;exact HSq.o w9;clear hK K;refine ends1 Vv rfl FtV.o (fun p1 w6 l1 hb6 r1=>?_);simp only[vrP,aM,aR.pa,aR.pb,aR.pc]at r1 ⊢;have E6:U (zb wr w6):=⟨hb6⟩;have R1:=D r1;have L1:=D l1;have T6:U (∀ w':G,zb w6 w'->zb wr w'):=⟨fun w' hb=>E6.o.trans (hb.mono E6.o.size)⟩;clear HO hb6 r1 l1;go_wp2_with fail;refine xed [vrP 11 12 10 9 52] 11 (by kernel_rfl) (by kernel_rfl) (by kernel_rfl) (by kernel_rfl) (by decide) (fun v hv ρ o w1 ho=>by
    simp only[kT,mK,or_false]at hv;subst hv;exact fQ ρ o w1 ho) (by simp[vrP]) (fun ops HO=>?_)
   simp only[jH,jU];refine cX rfl (fun K hK=>?_);go_simp
   apply jG;refine⟨fun w9 hw9=>?_,hK _ ?_⟩;rfl;clear hK K;refine cX rfl (fun K hK=>?_);go_simp
   apply jG;refine⟨fun w9 hw9=>?_,hK _ ?_⟩;rfl;clear hK K;refine cX rfl (fun K hK=>?_);go_simp
   apply jG;refine⟨fun w9 hw9=>?_,hK _ ?_⟩;rfl;clear hK K;refine cX rfl (fun K hK=>?_);go_simp
   apply jG;refine⟨fun w9 hw9=>?_,hK _ ?_⟩;rfl;clear hK K;refine cX rfl (fun K hK=>?_);go_simp
   apply jG;refine⟨fun w9 hw9=>?_,hK _ ?_⟩;rfl;clear hK K;refine cX rfl (fun K hK=>?_);go_simp
   apply jG;refine⟨fun w9 hw9=>?_,hK _ ?_⟩;rfl;clear hK K;refine cX rfl (fun K hK=>?_);go_simp
   apply jG;refine⟨fun w9 hw9=>?_,hK _ ?_⟩;rfl;clear hK K;refine xdq rfl (aB (some ⟨gl,0,none⟩) kn cl) (fun w9 hw9=>by have hc:=(fun w9 hw9=>K12.o w9 (T6.o w9 hw9)) w9 hw9;go_simp;first | done | with_reducible rfl) ?_;refine cX rfl (fun K hK=>?_);go_simp
   apply jG;refine⟨fun w9 hw9=>?_,hK _ ?_⟩;rfl;clear hK K;refine cX rfl (fun K hK=>?_);go_simp
   apply jG;refine⟨fun w9 hw9=>?_,hK _ ?_⟩;rfl;clear hK K;refine cX rfl (fun K hK=>?_);go_simp
   apply jG;refine⟨fun w9 hw9=>?_,hK _ ?_⟩;exact HPk.o w9 (T6.o w9 hw9);clear hK K;refine ends1 Cc rfl FtC.o (fun p2 w7 l2 hb7 r2=>?_);simp only[vrP,aM,aR.pa,aR.pb,aR.pc]at r2 ⊢;have E7:U (zb wr w7):=⟨T6.o w7 hb7⟩;have R2:=D r2;have R17:U (w7.heap[p1]? = some (Y Vv 76 (0,0))):=⟨(hb7.block _ (bI R1.o)).trans R1.o⟩;have L2:U (wr.heap.size<=p2):=⟨jJ E6.o.size l2⟩;have q6:∀ d os,(Go.Sort.grow (redrawn w7 d) os).cell? ⟨gs,6,none⟩=some (O J be):=fun d os=>oP (K6.o w7 E7.o) d os
   have HMq7:U (∀ w1:G,zb w7 w1->_):=⟨fun w1 hb=>HMq.o w1 (E7.o.trans (hb.mono E7.o.size))⟩;clear HO hb7 r2 l2 R1;have hlw:=Hlimw.o;by_cases hcA:lim<=X
   ·have hdA:decide (lim<=X)=true:=jP hcA;have hVe:U (V=aA #[E ⟨#[]⟩,.bool false]):=⟨HV1'.o r Hlt.o (kW (by rw[HX.o];exact hcA))⟩;clear hcA;go_wp2_with fail;refine xf8 (by kernel_rfl) (by kernel_rfl) (fun ops HO=>?_);refine xa2 rfl 76 _ rfl _ rfl 76 _ _ (fun w' hC=>gM R17.o hC) zX rfl Vi.o ?_;iterate 5 (quiet_step (skip))
    quiet_step (exact jI (HLq.o _));quiet_step (exact jI (HZl.o _));iterate 6 (quiet_step (skip))
    quiet_step (exact jI (HMq7.o _ (jX _ _ _)));iterate 3 (quiet_step (skip))
    iterate 8 (refine wpQuiet_skip (by rw[<-HO.o];kernel_rfl) ?_)
    quiet_step (skip);refine kY ?_;intro w8 hC;have E8:U (zb w7 w8):=⟨krw.xa5 hC⟩;clear hC q6 HO;have D8:U (zb w w8):=⟨BU.o.trans ((E7.o.trans (E8.o.mono E7.o.size)).mono BU.o.size)⟩;go_wp2_with fail;go_ret2;exact⟨by rw[hVe.o];rfl,D8.o⟩
   ·have hdA:decide (lim<=X)=false:=jN hcA;by_cases hcB:be<=Yq
    ·have hdB:decide (be<=Yq)=true:=jP hcB;have hVe:U (V=aA #[E ⟨#[]⟩,.bool false]):=⟨HV1'.o r Hlt.o (kO (by rw[HY.o];exact hcB))⟩;clear hcA hcB;go_wp2_with fail;refine xf8 (by kernel_rfl) (by kernel_rfl) (fun ops HO=>?_);refine xa2 rfl 76 _ rfl _ rfl 76 _ _ (fun w' hC=>gM R17.o hC) zX rfl Vi.o ?_;iterate 5 (quiet_step (skip))
     quiet_step (exact jI (HLq.o _));quiet_step (exact jI (HZl.o _));iterate 6 (quiet_step (skip))
     quiet_step (exact jI (HMq7.o _ (jX _ _ _)));iterate 3 (quiet_step (skip))
     refine xa2 (by rw[<-HO.o];kernel_rfl) 76 _ rfl _ rfl 76 _ _ (fun w' hC=>gM R2.o hC) zX rfl Ci.o ?_;refine wpQuiet_want (by rw[<-HO.o];kernel_rfl) (fun K hK=>?_);go_simp
     apply jG;refine⟨fun _=>?_,hK _ ?_⟩;exact jI (HZc.o _);iterate 6 (clear hK K;refine wpQuiet_want (by rw[<-HO.o];kernel_rfl) (fun K hK=>?_);go_simp;refine hK _ ?_)
     clear hK K;quiet_step (skip);refine kY ?_;intro w8 hC;have E8:U (zb w7 w8):=⟨krw.xa5 hC⟩;clear hC q6 HO;have D8:U (zb w w8):=⟨BU.o.trans ((E7.o.trans (E8.o.mono E7.o.size)).mono BU.o.size)⟩;go_wp2_with fail;go_ret2;exact⟨by rw[hVe.o];rfl,D8.o⟩
    ·have hdB:decide (be<=Yq)=false:=jN hcB;have Hin2:U (∀ i,i<r+1->bE.cb (lo i) 256<lim/\bE.cb (cc i) 256<be):=⟨fun i hi=>by
      by_cases e:i=r
      ·rw[e,HX.o,HY.o];omega
      ·exact Hin.o i (by omega)⟩
     clear hcA hcB;go_wp2_with fail;refine xf8 (by kernel_rfl) (by kernel_rfl) (fun ops HO=>?_);refine xa2 rfl 76 _ rfl _ rfl 76 _ _ (fun w' hC=>gM R17.o hC) zX rfl Vi.o ?_;iterate 5 (quiet_step (skip))
     quiet_step (exact jI (HLq.o _));quiet_step (exact jI (HZl.o _));iterate 6 (quiet_step (skip))
     quiet_step (exact jI (HMq7.o _ (jX _ _ _)));iterate 3 (quiet_step (skip))
     refine xa2 (by rw[<-HO.o];kernel_rfl) 76 _ rfl _ rfl 76 _ _ (fun w' hC=>gM R2.o hC) zX rfl Ci.o ?_;refine wpQuiet_want (by rw[<-HO.o];kernel_rfl) (fun K hK=>?_);go_simp
     apply jG;refine⟨fun _=>?_,hK _ ?_⟩;exact jI (HZc.o _);iterate 6 (clear hK K;refine wpQuiet_want (by rw[<-HO.o];kernel_rfl) (fun K hK=>?_);go_simp;refine hK _ ?_)
     clear hK K;quiet_step (skip);refine kY ?_;intro w8 hC;have E8:U (zb w7 w8):=⟨krw.xa5 hC⟩;clear hC q6 HO;have E8r:=bK E7 E8.o;have R18:U (w8.heap[p1]? = some (Y Vv 76 (0,0))):=⟨(E8.o.block _ (bI R17.o)).trans R17.o⟩;have R28:U (w8.heap[p2]? = some (Y Cc 76 (0,0))):=⟨(E8.o.block _ (bI R2.o)).trans R2.o⟩;have q6:∀ d os,(Go.Sort.grow (redrawn w8 d) os).cell? ⟨gs,6,none⟩=some (O J be):=fun d os=>oP (K6.o w8 E8r.o) d os
     have ho6:=Ho6.o;go_wp2_with fail;refine eQ.xb8 14 (by kernel_rfl) (by kernel_rfl) ?_;iterate 2 (quiet_step (skip))
     refine yag rfl (I z) (fun w1=>xug _ rfl _ HB0.o w1) ?_;refine xa2 rfl 76 _ rfl _ rfl 76 _ _ (fun w' hC=>gM R28.o hC) zX rfl Ci.o ?_;quiet_step (exact jI (HNq.o _));refine xa2 rfl 76 _ rfl _ rfl 76 _ _ (fun w' hC=>gM R18.o hC) zX rfl Vi.o ?_;refine xa2 rfl 76 _ rfl _ rfl 76 _ _ (fun w' hC=>gM R28.o hC) zX rfl Ci.o ?_;quiet_step (exact jI (HAq.o _));iterate 5 (quiet_step (skip))
     quiet_step (exact jI (HHq.o _));refine kY ?_;intro wn hC;have hbn:zb w8 wn:=krw.xa5 hC;have A6:U (At go (RW kn (fst hh r)) 76 w3 wn):=⟨A0.o.later (E8r.o.trans (hbn.mono E8r.o.size))⟩;clear hC hbn A0 HPq HPk Hrg q6;simp only[iW,jK];go_wp2_with ((with_reducible refine xci A6 HE.o Hlt.o Ho6.o rfl _ _ rfl rfl ?hx ?hy ?_);(case hx=>exact rfl);(case hy=>exact rfl);intro w9 A7;rw[Hup.o]at A7);go_roundw
     case rel=>exact⟨r+1,by have:=Hlt.o;omega,by go_num,Hin2,A7⟩
     case measure=>have:=Hlt.o;simp[aG];omega
  ·obtain rfl:r=kn:=by omega
   have hrow:=A0.o.row;have HHi:=phin.xft hh go 0 r r om wr (bI hrow) hkn1 hkn8 Hom.o.1 (by have:=Hom.o;omega) (fun i hi=>by
    have h9:=xbp (B:=0) (c:=r) hrow (iX _) (fun i hi=>xbk hh r i hi);have h8:=xa8 h9 i hi;rw[kP,kI];exact h8)
   have c7:wr.cell? ⟨gs,7,none⟩=some (O J (om:Int)):=(BU.o.cell (p:=⟨gs,7,none⟩) Lgs.o).trans C7.o;by_cases htot:eD.dR hh r<=om
   ·rw[iP htot]at HHi;have hVe:=D (HV0'.o Hin.o htot);obtain⟨Ly,HLy⟩:=aQ (⟨(aY.cP (eD.lay hh om r r)).toArray⟩:ByteArray);rw[HLy.o]at HHi hVe;have HHi:=D HHi;clear A0 hlt hrow htot;go_wp2_with fail;refine HHi.o.mono ?_;rintro e w5 ⟨rfl,hb5⟩;have D5:=bK BU hb5;clear hb5;go_wp2_with fail;go_ret2;exact⟨by rw[hVe.o];rfl,D5.o⟩
   ·rw[iQ htot]at HHi;have hVe:=D (HV2'.o (by omega));have HHi:=D HHi;clear A0 hlt hrow htot;go_wp2_with fail;refine HHi.o.mono ?_;rintro e w5 ⟨rfl,hb5⟩;have D5:=bK BU hb5;clear hb5;go_wp2_with fail;go_ret2;exact⟨by rw[hVe.o];rfl,D5.o⟩
end mgf
namespace mgr
open bZ dJ eH mgd aW aY eD dG
def fin:Option ByteArray->aE
 | some y=>aA #[E y,O J 0]
 | none=>aA #[E ⟨#[]⟩,O J 17]
theorem xzg(S:Sg)(n:Nat)(h:fX S n=true)(m:Nat):∀ k,k<=n->n<k+m->(∀ i,k<=i->i<n->fX S i=false)->gF S m k=some (eI S n):=by
 induction m with
 | zero=>intro k h1 h2;omega
 | succ m ih=>
  intro k h1 h2 h3;rw[gF];by_cases e:k=n
  ·rw[e,iP h]
  ·rw[iQ (by rw[h3 k (iM _) (by omega)];decide)];exact ih (k+1) (by omega) (by omega) fun i hi hn=>h3 i (by omega) hn
theorem xzh(S:Sg)(m:Nat):∀ k,(∀ i,k<=i->i<k+m->fX S i=false)->gF S m k=none:=by
 induction m with
 | zero=>intro k _;rfl
 | succ m ih=>
  intro k h;rw[gF,iQ (by rw[h k (iM _) (by omega)];decide)];exact ih (k+1) fun i hi hn=>h i (by omega) (by omega)
theorem fin_at(S:Sg)(n:Nat)(hn:n<814)(h:∀ k,k<n->fX S k=false)(h2:fX S n=true):fin (gF S 814 0)=aA #[E (eI S n),O J 0]:=by
 rw[xzg S n h2 814 0 (by omega) (by omega) fun i _ hi=>h i hi];rfl
theorem fin_no(S:Sg)(h:∀ k,k<814->fX S k=false):fin (gF S 814 0)=aA #[E ⟨#[]⟩,O J 17]:=by
 rw[xzh S 814 0 fun i _ hi=>h i (by omega)];rfl
theorem xk3(o:Option ByteArray):∃ (x:ByteArray) (c:Int),fin o=aA #[E x,O J c]:=by
 cases o with
 | none=>exact⟨_,_,rfl⟩
 | some y=>exact⟨_,_,rfl⟩
theorem xlx(S:Sg)(n:Nat):fX S n=true↔bE.eW (tZ S n) S.ln<S.a-S.t*S.e/\bE.eW (tLo S n) S.kn<S.b-S.t*S.e/\bE.eW (gK S n) S.kn<S.b/\(dR (fI S n) S.kn:Int)<=S.o:=by
 unfold fX;simp only[jQ,kN]
theorem xga(S:Sg)(n:Nat):cT S n++bN ByteArray.empty (tZ S n) (S.a-1) S.a S.ln++⟨(cP (lay (fI S n) S.o.toNat S.kn S.kn)).toArray⟩=eI S n:=by
 unfold eI bN;rw[xkl]
def resM(c x:ByteArray):aE:=if c.size<=255/\x.size<=60000 then aA #[E (iE c x),O J 0] else aA #[E ⟨#[]⟩,O J 5]
def sgk(ζ : Nat->Int)(kn ln:Nat)(e t a b o s:Int)(sk m r:ByteArray):Sg:=
 sgn ζ kn ln e t a b o s (sk.extract 0 128) (iB sk 128 (lb (e+e).toNat) e) (iB sk (128+32*lb (e+e).toNat*ln) (lb (e+e).toNat) e) (iB sk (128+32*lb (e+e).toNat*ln+32*lb (e+e).toNat*kn) 13 4096) m r
open Classical in
noncomputable def resI(ζ : Nat->Int)(kn ln:Nat)(e t a b o s:Int)(sk m r:ByteArray):aE:=
 if r.size=32 then if (sk.size:Int)=sz2 kn ln e/\okK sk kn ln e then fin (gF (sgk ζ kn ln e t a b o s sk m r) 814 0) else aA #[E ⟨#[]⟩,O J 3] else aA #[E ⟨#[]⟩,O J 1]
def z32:ByteArray:=⟨(List.replicate 32 (0:UInt8)).toArray⟩
noncomputable def resS(ζ : Nat->Int)(kn ln:Nat)(e t a b o s:Int)(sk x c r:ByteArray):aE:=
 if c.size<=255/\x.size<=60000 then resI ζ kn ln e t a b o s sk (iE c x) (if r.size=0 then z32 else r) else aA #[E ⟨#[]⟩,O J 5]
theorem xxt(ζ : Nat->Int)(kn ln:Nat)(e t a b o s:Int)(sk m r:ByteArray):∃ (x:ByteArray) (c:Int),resI ζ kn ln e t a b o s sk m r=aA #[E x,O J c]:=by
 unfold resI;split
 ·split
  ·exact xk3 _
  ·exact⟨_,_,rfl⟩
 ·exact⟨_,_,rfl⟩
end mgr
namespace mgg
open arr mem bD aT aV bS cY bF bQ dD bM bZ eH cZ bU bT dN dW eM cV aR mgd mgr aW aY eD
theorem xjr{T:Array aE}{S:Sg}(Z:Nat->Int)(gs gt gm cm ga ca gb cb' gl cl:Nat)(w:G)(hO:OKS T Z S)(hP:Gp w)(H:SGN T S gs gt gm cm ga ca gb cb' gl cl w):
 aD aO 126 #[aC (some ⟨gs,0,none⟩)] w (zB w (fin (gF S 814 0))):=by
 obtain⟨hk,hl,he,ht,ha,hbb,ho,hs⟩:=xi3 hO;have HBe:U (∀ n:Nat,n<814->∀ w1:G,zb w w1->aD aO 165 #[aC (some ⟨gs,0,none⟩),O J (n:Int)] w1 fun e w'=>(∃ gy cy gw cw,e=.returned (I (AT (aB (some ⟨gy,0,none⟩) S.ln cy) (aB (some ⟨gw,0,none⟩) S.kn cw) (cT S n) (aS S.ζ 8 (tC S n))))/\Holds w' 0 (aB (some ⟨gy,0,none⟩) S.ln cy) S.ln (tY S n)/\Holds w' 0 (aB (some ⟨gw,0,none⟩) S.kn cw) S.kn (tW S n))/\zb w1 w'):=⟨fun n hn w1 hb=>mgc.xte Z n gs gt gm cm ga ca gb cb' gl cl w1 hO (hP.later hb) hn (H.later hb)⟩;have HAn:U (∀ n gn gy cy gw cw,∀ w1:G,zb w w1->w1.heap[gn]? = some (Y (AT (aB (some ⟨gy,0,none⟩) S.ln cy) (aB (some ⟨gw,0,none⟩) S.kn cw) (cT S n) (aS S.ζ 8 (tC S n))) 185 (0,0))->Holds w1 0 (aB (some ⟨gy,0,none⟩) S.ln cy) S.ln (tY S n)->aD aO 166 #[aC (some ⟨gs,0,none⟩),aC (some ⟨gn,0,none⟩)] w1 fun e w'=>(∃ v,e=.returned (.tuple #[v,.bool (decide (bE.eW (tZ S n) S.ln<S.a-S.t*S.e))])/\Holds w' w1.heap.size v S.ln (tZ S n))/\zb w1 w'):=⟨fun n gn gy cy gw cw w1 hb h1 h2=>mge.xsy Z n gs gt gm cm ga ca gb cb' gl cl gn gy cy gw cw w1 hO (H.later hb) h1 h2⟩;have HHi:U (∀ n gn gy cy gw cw,∀ w1:G,zb w w1->w1.heap[gn]? = some (Y (AT (aB (some ⟨gy,0,none⟩) S.ln cy) (aB (some ⟨gw,0,none⟩) S.kn cw) (cT S n) (aS S.ζ 8 (tC S n))) 185 (0,0))->Holds w1 0 (aB (some ⟨gw,0,none⟩) S.kn cw) S.kn (tW S n)->aD aO 167 #[aC (some ⟨gs,0,none⟩),aC (some ⟨gn,0,none⟩)] w1 (zB w1 (resH S n))):=⟨fun n gn gy cy gw cw w1 hb h1 h2=>mgf.xft Z n gs gt gm cm ga ca gb cb' gl cl gn gy cy gw cw w1 hO (H.later hb) h1 h2⟩
 have HPk:U (∀ n,fX S n=true->∀ (vz:aE) (B:Nat) (w1:G),zb w w1->Holds w1 B vz S.ln (tZ S n)->aD aO 168 #[aC (some ⟨gs,0,none⟩),vz] w1 (zB w1 (E (bN ByteArray.empty (tZ S n) (S.a-1) S.a S.ln)))):=⟨fun n hn vz B w1 hb h1=>mgb.xd7 gs S.ln S.a vz B (tZ S n) w1 ha ((H.later hb).cell 5 _ rfl) (H.later hb).lts hl h1 fun i hi=>fJ.tZ_in hn (by omega) (by omega) i hi⟩;have HsS:U (∀ n,(cT S n).size<=64):=⟨fun n=>by rw[fJ.xdm];omega⟩;have HsP:U (∀ n,(bN ByteArray.empty (tZ S n) (S.a-1) S.a S.ln).size<=100000):=⟨fun n=>by
  rw[xbd];have h2:lb (S.a-1+S.a).toNat<=64:=by rcases ha with h | h<;>rw[h]<;>decide +kernel
  have h3:=lA (lA (iM 32) h2) hl.2;have h4:ByteArray.empty.size=0:=rfl;omega⟩
 have HsL:U (∀ n,(⟨(cP (lay (fI S n) S.o.toNat S.kn S.kn)).toArray⟩:ByteArray).size<=1000):=⟨fun n=>by
  have h1:=fJ.xzf S n ha;have h2:=xga S n;have h3:(eI S n).size=(cT S n).size+(bN ByteArray.empty (tZ S n) (S.a-1) S.a S.ln).size+(⟨(cP (lay (fI S n) S.o.toNat S.kn S.kn)).toArray⟩:ByteArray).size:=by rw[<-h2,jS,jS]
  rw[fJ.xdm,xbd]at h3;have h4:ByteArray.empty.size=0:=rfl;have h5:lb (S.a-1+S.a).toNat=lb (S.a-1).toNat+1:=by rcases ha with h | h<;>rw[h]<;>decide +kernel
  rw[h5]at h3;generalize 32*(lb (S.a-1).toNat+1)*S.ln=q at h1 h3;omega⟩
 obtain⟨hz,hsize⟩:=iY infoAtz;obtain⟨z,HZ⟩:=aQ (AT (aB none 0 0) (aB none 0 0) ⟨#[]⟩ fun _=>0);rw[HZ.o]at hz;have Hzs:U (z.size=259):=⟨by rw[<-HZ.o];exact xff _ _ _ _⟩;have HV1:U (∀ n:Nat,n<814->(∀ k,k<n->fX S k=false)->fX S n=true->fin (gF S 814 0)=aA #[E (eI S n),O J 0]):=⟨fun n h1 h2 h3=>fin_at S n h1 h2 h3⟩;have HV2:U ((∀ k,k<814->fX S k=false)->fin (gF S 814 0)=aA #[E ⟨#[]⟩,O J 17]):=⟨fin_no S⟩;obtain⟨V,hV⟩:=aQ (fin (gF S 814 0));rw[hV.o]at HV1 HV2 ⊢;have HzA:=D hz;clear hk hl he ht ha hbb ho hs hsize HZ hV hO hP H hz;go_enter Tryz.func126,Tryz.ntmps126;iterate 2 (go_wp2_with fail;go_step3)
 go_wp2_with fail;go_loopw [12,4,5] (fun iv s4 s5 wr=>∃ n:Nat,n<=814/\iv=O J (n:Int)/\s4=E ⟨#[]⟩/\s5=O J 17/\U (∀ k,k<n->fX S k=false)/\U (zb w wr)) (fun iv _ _ _=>814-(aG iv).toNat)
 case atStart=>exact⟨0,iX _,rfl,rfl,rfl,⟨fun k hk=>by omega⟩,⟨iR _ _⟩⟩
 case round=>
  obtain⟨n,hn,rfl,rfl,rfl,Hno,Hb⟩:=hrel;by_cases hlt:n<814
  ·have hnz:(n:Int)<814:=by omega
   have hz:=HzA.o;go_wp2_with fail;refine(HBe.o n hlt wr Hb.o).mono ?_;rintro e w5 ⟨⟨gy,cy,gw,cw,rfl,hy,hw⟩,hb5⟩;obtain⟨A,HA⟩:=aQ (AT (aB (some ⟨gy,0,none⟩) S.ln cy) (aB (some ⟨gw,0,none⟩) S.kn cw) (cT S n) (aS S.ζ 8 (tC S n)));have Ai:U ((aO.info? 185).map (·.size)=some A.size):=⟨by rw[<-HA.o,xff];exact infoAt⟩;have Ao:U (A.all (·.oneCell')=true):=⟨by rw[<-HA.o];exact at_one _ _ _ _ _ _ _ _⟩;have Az:U (z.size=A.size):=⟨by rw[Hzs.o,<-HA.o,xff]⟩;rw[HA.o];obtain⟨W6,hW6⟩:=aP (w5.alloc (Y A 185));obtain⟨r6,hs6,b6⟩:=one hW6;have D6:U (zb w W6):=⟨Hb.o.trans ((hb5.trans (b6.mono hb5.size)).mono Hb.o.size)⟩;have HW6:=D hW6;have HY6:=D (hy.later b6);have HWw6:=D (hw.later b6);have HAn6:=HAn.o n w5.heap.size gy cy gw cw W6 D6.o (by rw[HA.o];exact r6) HY6.o;have hc2:W6.cell? ⟨w5.heap.size,2,none⟩=some (E (cT S n)):=aZ r6 (by rw[<-HA.o];rfl);have Hc2:=D hc2;have R6:=D r6;have L6:U (w5.heap.size<W6.heap.size):=⟨bI r6⟩;have Hlt:=D hlt;clear hW6 r6 hs6 b6 hy hw hb5 hc2 hlt;by_cases h1:bE.eW (tZ S n) S.ln<S.a-S.t*S.e
   ·rw[jP h1]at HAn6;have HAn6:=D HAn6;go_wp2_with (first
     | (refine fV rfl 185 _ _ rfl A rfl rfl Ai.o (by exact Az.o) Ao.o rfl ?_)
     | (rw[HW6.o]))
    clear hz;refine HAn6.o.mono ?_;rintro e w7 ⟨⟨vz,rfl,hz7⟩,hb7⟩;have D7:=bK D6 hb7;have HZ7:=D hz7;have B7:=D hb7;have R7:w7.heap[w5.heap.size]? = some (Y A 185 (0,0)):=(hb7.block _ L6.o).trans R6.o;have HHi7:=HHi.o n w5.heap.size gy cy gw cw w7 D7.o (by rw[HA.o];exact R7) (HWw6.o.later hb7);obtain⟨gz,cz,rfl,-⟩:=gD hz7;clear hz7 hb7 R7;by_cases h2:fX S n=true
    ·have hres:resH S n=aA #[E ⟨(cP (lay (fI S n) S.o.toNat S.kn S.kn)).toArray⟩,.bool true]:=by
      obtain⟨-,q2,q3,q4⟩:=(xlx S n).1 h2;unfold resH;rw[iP ⟨q2,q3,q4⟩]
     rw[hres]at HHi7;have hVe:U (V=aA #[E (eI S n),O J 0]):=⟨HV1.o n Hlt.o Hno.o h2⟩;have hsig:=xga S n;have HPk8:=HPk.o n h2;have s1:=HsS.o n;have s2:=HsP.o n;have s3:=HsL.o n;obtain⟨Sm,HSm⟩:=aQ (cT S n);obtain⟨Pk,HPkk⟩:=aQ (bN ByteArray.empty (tZ S n) (S.a-1) S.a S.ln);obtain⟨Ly,HLy⟩:=aQ (⟨(cP (lay (fI S n) S.o.toNat S.kn S.kn)).toArray⟩:ByteArray);obtain⟨Sg',HSg⟩:=aQ (eI S n);rw[HSm.o]at s1 hsig Hc2;rw[HPkk.o]at s2 hsig HPk8;rw[HLy.o]at s3 hsig HHi7;rw[HSg.o]at hsig hVe;obtain⟨Q,hQ⟩:=aP (Sm++Pk);have hQs:Q.size=Sm.size+Pk.size:=by rw[<-hQ,jS]
     rw[hQ]at hsig;have x1:¬ 9223372036854775807<Sm.size+Pk.size:=by omega
     have x2:¬ 9223372036854775807<Q.size+Ly.size:=by omega
     have HHi7:=D HHi7;have HPk9:=D HPk8;clear HPk8 s1 s2 s3 hQs h1 h2 hres;go_wp2_with fail;refine HHi7.o.mono ?_;rintro e w8 ⟨rfl,hb8⟩;have D8:=bK D7 hb8;have HZ8:=D (HZ7.o.later hb8);have Hc8:U (∀ w':G,zb w8 w'->w'.cell? ⟨w5.heap.size,2,none⟩=some (E Sm)):=⟨fun w' hb=>by
      have k1:=B7.o.trans (hb8.mono B7.o.size);have k2:=k1.trans (hb.mono k1.size);exact(k2.cell (p:=⟨w5.heap.size,2,none⟩) L6.o).trans Hc2.o⟩
     clear hb8;go_wp2_with fail;refine xa4 (w8.heap.size) 10 [0,1,2,3,6,4,5,7,8,9] (by kernel_rfl) rfl rfl (by decide) (fun hS ops HO=>?_);simp only[jT,fa,jF,jL];refine zU hS ?_;refine zD Hc8.o hS ?_;iterate 3 (refine zU hS ?_)
     refine zS fun K hK=>?_
     go_simp
     refine(HPk9.o _ _ _ (D8.o.trans (hS.mono D8.o.size)) (HZ8.o.later hS)).mono ?_;rintro x w9 ⟨rfl,hb9⟩;have h9:=hS.trans (hb9.mono hS.size);refine hK _ _ h9 ?_;clear hK K;try simp only[aM,pa,pb,pc]
     iterate 4 (refine zU h9 ?_)
     refine zN ?_;have D9:=bK D8 h9;clear hS HO hb9 h9 x1 x2 hQ;go_wp2_with fail;rw[Exit.noGoto_ret];go_ret2;exact⟨by rw[hVe.o];rfl,D9.o⟩
    ·have hres:resH S n=aA #[E ⟨#[]⟩,.bool false]:=by
      unfold resH;rw[iQ];rintro ⟨q2,q3,q4⟩;exact h2 ((xlx S n).2 ⟨h1,q2,q3,q4⟩)
     rw[hres]at HHi7;have HHi7:=D HHi7;have Hno2:U (∀ k,k<n+1->fX S k=false):=⟨fun k hk=>by
      by_cases e:k=n
      ·rw[e];exact nK.2 h2
      ·exact Hno.o k (by omega)⟩
     clear h1 h2 hres;go_wp2_with fail;refine HHi7.o.mono ?_;rintro e w8 ⟨rfl,hb8⟩;have D8:=bK D7 hb8;clear hb8;go_wp2_with fail;go_roundw
     case rel=>exact⟨n+1,by have:=Hlt.o;omega,by go_num,rfl,rfl,Hno2,D8⟩
     case measure=>have:=Hlt.o;simp[aG];omega
   ·rw[jN h1]at HAn6;have HAn6:=D HAn6;have Hno2:U (∀ k,k<n+1->fX S k=false):=⟨fun k hk=>by
     by_cases e:k=n
     ·rw[e];exact nK.2 fun h2=>h1 ((xlx S n).1 h2).1
     ·exact Hno.o k (by omega)⟩
    clear h1;go_wp2_with (first
     | (refine fV rfl 185 _ _ rfl A rfl rfl Ai.o (by exact Az.o) Ao.o rfl ?_)
     | (rw[HW6.o]))
    clear hz;refine HAn6.o.mono ?_;rintro e w7 ⟨⟨vz,rfl,hz7⟩,hb7⟩;have D7:=bK D6 hb7;clear hz7 hb7;go_wp2_with fail;go_roundw
    case rel=>exact⟨n+1,by have:=Hlt.o;omega,by go_num,rfl,rfl,Hno2,D7⟩
    case measure=>have:=Hlt.o;simp[aG];omega
  ·obtain rfl:n=814:=by omega
   have hVe:=D (HV2.o Hno.o);go_wp2_with fail;rw[Exit.noGoto_ret];go_ret2;exact⟨by rw[hVe.o];rfl,Hb.o⟩
end mgg
namespace mgt
open arr mem bD aT aV bS cY bF bQ dD bM bZ eH cZ bU bT dN dW eM mgd
theorem xzr{T:Array aE}(Z:Nat->Int)(gt nv:Nat)(vv:aE)(B:Nat)(y:Nat->Nat->Int)(w:G)(hT:cE.ZT T Z)(hr:w.heap[gt]? = some (Y T 34 (0,0)))(hv : 1<=nv/\nv<=8)(HV:Holds w B vv nv y):
 aD aO 164 #[aC (some ⟨gt,0,none⟩),vv] w fun e w'=>(∃ v',e=.returned v'/\Holds w' w.heap.size v' nv (fun i=>aS (fun k=>Z k%8380417) 8 (y i)))/\zb w w':=by
 have HTh:U (∀ (f:Nat->Int) (w1:G),aD aO 79 #[I T,I (FL J 256 f)] w1 (zB w1 (I (FL J 256 (aS (fun k=>Z k%8380417) 8 f))))):=⟨fun f w1=>cE.xdp T Z f w1 hT⟩;have HTz:U ((aO.info? 34).map (·.size)=some T.size):=⟨by rw[hT.size];kernel_rfl⟩;obtain⟨i0,hi,hz0,hz1,hz2⟩:=iC bX;obtain⟨hz,hsize⟩:=iY aV.aX;obtain⟨z,HZ⟩:=aQ (FL J 256 fun _=>0);rw[HZ.o]at hz hz0;have HI:=D (jA hi (jA hz0 (jA hz1 hz2)));have Hsize:=D hsize;obtain⟨gv,cv,rfl,hgv⟩:=gD HV;have HVv:=D HV;have HGv:=D hgv;obtain⟨th,hth⟩:=aQ (fun j=>aS (fun k=>Z k%8380417) 8 (y j));have Hth:U (∀ j,aS (fun k=>Z k%8380417) 8 (y j)=th j):=⟨fun j=>by rw[<-hth.o]⟩;rw[hth.o];have T0:=D hr;have hnv8:=hv.2;clear hi hz0 hz1 hz2 hsize HV hv hth hgv hT hr;go_enter Tryz.func164,Tryz.ntmps164;go_wp2_with (at_make;refine lY _ rfl (.tmp 8) (.tmp 8) 44 rfl w.heap.size 76 i0 (I z) 256 Tryz.underlying44 HI.o.1 HI.o.2.1 HI.o.2.2.1 J J nv nv nv rfl rfl rfl rfl (by rw[HI.o.2.2.2];omega) (by unfold maxLen;omega) (iM _) ?_);intro w3 hown hgr;obtain⟨hrow,hb3⟩:=xbn HZ.o hown hgr;obtain⟨gt2,hgt⟩:=aP w.heap.size;rw[hgt]at hrow ⊢;have A3:U (At gt2 (RW nv (fst th 0)) 76 w3 w3):=⟨by rw[xbl];exact At.refl hrow⟩;have B3:U (zb w w3):=⟨hb3⟩;have Hgt:=D hgt;clear hown hgr hrow hb3 hgt;go_wp2_with fail;go_loopw [12] (fun iv wr=>∃ r:Nat,r<=nv/\iv=O J (r:Int)/\U (At gt2 (RW nv (fst th r)) 76 w3 wr)) (fun iv _=>nv-(aG iv).toNat)
 case atStart=>exact⟨0,iX _,rfl,A3⟩
 case round=>
  clear A3;obtain⟨r,hr,rfl,A0⟩:=hrel;have BU:U (zb w wr):=⟨B3.o.trans (A0.o.below B3.o.size (mS Hgt.o))⟩;by_cases hlt:r<nv
  ·have hrz:(r:Int)<(nv:Int):=by omega
   have hr8:r<8:=by omega
   have hrg:=xa8 (HVv.o.later BU.o) r hlt;obtain⟨F,HF⟩:=aQ (FL J 256 (y r));obtain⟨o6,ho6⟩:=aP (r*256);rw[HF.o,ho6]at hrg;have Hrg:U (∀ w':G,zb wr w'->w'.rangeAt gv o6 F.toList):=⟨fun w' hb'=>xa3 hrg (iZ HGv.o BU.o.size) hb'⟩;have Fi:=zfi HF Hsize.o;have T1:U (wr.heap[gt]? = some (Y T 34 (0,0))):=⟨(BU.o.block _ (bI T0.o)).trans T0.o⟩;have HTr:U (∀ w1:G,aD aO 79 #[I T,I F] w1 (zB w1 (I (FL J 256 (th r))))):=⟨fun w1=>by rw[<-HF.o,<-Hth.o];exact HTh.o (y r) w1⟩;obtain⟨Eq,HE⟩:=aQ (FL J 256 (th r));rw[HE.o]at HTr;have Hup:U (ups (fst th r) r (th r)=fst th (r+1)):=⟨xbq th r⟩;have Hlt:=D hlt;have Ho6:=D ho6;clear hrg hlt HF;go_wp2_with fail;refine eQ.xb8 10 (by kernel_rfl) (by kernel_rfl) ?_;iterate 4 (quiet_step (skip))
   refine xa2 rfl 34 _ rfl _ rfl 34 _ _ (fun w' hC=>gM T1.o hC) zY rfl HTz.o ?_;iterate 3 (quiet_step (skip))
   refine xb2 rfl 76 _ rfl gv o6 rfl F.toList _ (fun w' hC=>Hrg.o w' (krw.xa5 hC)) zX rfl Fi.o ?_;quiet_step (exact jI (HTr.o _));refine kY ?_;intro wn hC;have hbn:zb wr wn:=krw.xa5 hC;have A6:U (At gt2 (RW nv (fst th r)) 76 w3 wn):=⟨A0.o.later hbn⟩;clear hC hbn A0 HTr Hrg T1;simp only[iW,jK];go_wp2_with ((with_reducible refine xci A6 HE.o Hlt.o Ho6.o rfl _ _ rfl rfl ?hx ?hy ?_);(case hx=>exact rfl);(case hy=>exact rfl);intro w7 A7;rw[Hup.o]at A7);go_roundw
   case rel=>exact⟨r+1,by have:=Hlt.o;omega,by go_num,A7⟩
   case measure=>have:=Hlt.o;simp[aG];omega
  ·obtain rfl:r=nv:=by omega
   have HTt:U (Holds wr w.heap.size (aB (some ⟨gt2,0,none⟩) r r) r th):=⟨xbp A0.o.row (by have:=Hgt.o;omega) (fun i hi=>xbk th r i hi)⟩;clear A0 hlt;go_wp2_with fail;go_ret;exact⟨⟨_,rfl,HTt.o⟩,BU.o⟩
end mgt
end Go.Proofs.YtomphjajkkddkaaGreatDoor
