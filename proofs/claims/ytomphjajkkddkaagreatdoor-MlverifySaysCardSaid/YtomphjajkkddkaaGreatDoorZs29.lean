/-
  What the document's own Rows of layer 12 returns. Conditions: the tables hold the ring's roots; the 
-/
import Derived.Test.YtomphjajkkddkaaGreatDoorZs09
import Derived.Test.YtomphjajkkddkaaGreatDoorZs28
import Derived.Test.YtomphjajkkddkaaGreatDoorZs02
import Derived.Test.YtomphjajkkddkaaGreatDoorZs24
import Derived.Test.YtomphjajkkddkaaGreatDoorZs04
import Derived.Test.YtomphjajkkddkaaGreatDoorZs01
import Derived.Test.YtomphjajkkddkaaGreatDoorZs05
import Derived.Test.YtomphjajkkddkaaGreatDoorZs15
import Derived.Great.BuildSlice
set_option maxRecDepth 100000
set_option maxHeartbeats 16000000
set_option linter.unusedSimpArgs false
set_option linter.unusedVariables false
open Go Go.RowKit
open Go renaming World->G,Calls->aD,Value->aE
open Go.RowKit renaming Below->aF,intOf->aG
open Go.Instr renaming index->aN
open Go.Value renaming int->O,agg->I,string->E,tuple->aA,slice->aB
open Go.IntKind renaming i64->J
open Go.Obj renaming cells->Y
open Go.Proofs.Tryz renaming prog->aO
namespace Go.Proofs.YtomphjajkkddkaaGreatDoor
namespace dW
open arr mem bD aT aV bS aY cY bQ bZ dN
theorem xhg(T:Array aE)(Z:Nat->Int)(R nv:Nat)(n:Nat->Nat)(x:Nat->Nat->Nat->Int)(y:Nat->Nat->Int)(v vv:aE)(B:Nat)(w:G)(hTs:T.size=465)(hT:∀ k,k<256->T[209+k]? = some (O J (Z k)))(hR:R<=8)(hn:∀ r,r<R->n r<=8)(hv : 1<=nv/\nv<=8)
 (HM:MX w v R n x) (HV:Holds w B vv nv y):
 aD aO 41 #[I T,v,vv] w fun e w'=>(∃ v',e=.returned v'/\w'.ownsRow w.heap.size 76 256 v' R (cq (fun r=>cQ (fun k=>Z k%8380417) (x r) y (min (n r) nv)) R))/\zb w w':=by
 obtain⟨ζ,hζ⟩:=aQ (fun k=>Z k%8380417);have HTh:U (∀ (f:Nat->Int) (w1:G),aD aO 39 #[I T,I (FL J 256 f)] w1 (zB w1 (I (FL J 256 (aS ζ 8 f))))):=⟨fun f w1=>by rw[<-hζ.o];exact rnthere.xdp T Z f w1 hT⟩;have HBk:U (∀ (f:Nat->Int) (w1:G),aD aO 43 #[I T,I (FL J 256 f)] w1 (zB w1 (I (FL J 256 (fun i=>(bH ζ 8 f i*8347681)%8380417))))):=⟨fun f w1=>by rw[<-hζ.o];exact rnback.xfg T Z f w1 hT⟩;have HTm:=D rntimes.xcp;have HAd:=D radd.xdr;rw[hζ.o];have HTz:U ((aO.info? 34).map (·.size)=some T.size):=⟨by rw[hTs];kernel_rfl⟩;obtain⟨i0,hi,hz0,hz1,hz2⟩:=parts bX;obtain⟨hz,hsize⟩:=iY aV.aX;obtain⟨z,HZ⟩:=aQ (FL J 256 fun _=>0);rw[HZ.o]at hz hz0;have HI:=D (jA hi (jA hz0 (jA hz1 hz2)));have Hzs:=dP HZ;have Hzc:U ((Value.agg z).cells.size=256):=⟨Hzs.o⟩;have Hsize:=D hsize;obtain⟨Gq,C,rfl,hG,hrows⟩:=HM;obtain⟨gv,cv,rfl,hgv⟩:=gD HV;have HRows:=D hrows;have HVv:=D HV;have HGv:=D (jA hG hgv);have Hn:=D hn;have Hv:=D hv;have HR:=D hR;obtain⟨th,hth⟩:=aQ (fun j=>aS ζ 8 (y j));have Hth:U (∀ j,aS ζ 8 (y j)=th j):=⟨fun j=>by rw[<-hth.o]⟩;obtain⟨res,hres⟩:=aQ (fun r=>cQ ζ (x r) y (min (n r) nv));have Hres:U (∀ r k,(bH ζ 8 (dK (x r) th (min (n r) nv)) k*8347681)%8380417=res r k):=⟨fun r k=>by rw[<-hres.o,<-hth.o];rfl⟩;rw[hres.o];obtain⟨W,hW⟩:=aP (w.alloc (Y T 34));obtain⟨r0,hWs,b0⟩:=one hW;have T0:U (W.heap[w.heap.size]? = some (Y T 34 (0,0))):=⟨r0⟩;have BW:=D b0;have HWs:=D hWs
 have HW:=D hW;clear hW r0 b0 hWs hi hz0 hz1 hz2 hsize hrows HV hn hv hR hth hres hζ hG hgv hT hTs;go_enter Tryz.func41,Tryz.ntmps41;go_wp2_with (rw[HW.o]);go_loopw [18,7] (fun iv sv wr=>∃ r:Nat,r<=nv/\iv=O J (r:Int)/\U (wr.ownsRow W.heap.size 76 256 sv r (cq th r))/\U (zb W wr)) (fun iv _ _=>nv-(aG iv).toNat)
 case atStart=>exact⟨0,iX _,rfl,⟨⟨rfl,kW ⟨rfl,rfl⟩⟩⟩,⟨iR _ _⟩⟩
 case round=>
  obtain⟨r,hr,rfl,Oy,Hb⟩:=hrel;have BE:=bK BW Hb.o;by_cases hlt:r<nv
  ·have hrz:(r:Int)<(nv:Int):=by omega
   have hr8:r<8:=by have:=Hv.o;omega
   have hrg:=xa8 (HVv.o.later BE.o) r hlt;obtain⟨F,HF⟩:=aQ (FL J 256 (y r));obtain⟨o6,ho6⟩:=aP (r*256);rw[HF.o,ho6]at hrg;have Hrg:=D hrg;have Fs:=dP HF;have Fo:=eJ HF;have Fi:=zsz Fs Hsize.o;have Fz:U (z.size=F.size):=⟨by rw[Hzs.o,Fs.o]⟩;obtain⟨W11,hW11⟩:=aP (wr.alloc (Y F 76));obtain⟨r11,hs11,b11⟩:=one hW11;have HW11:=D hW11;have R11:=D r11;have D11:=bK Hb b11;have T11:U (W11.heap[w.heap.size]? = some (Y T 34 (0,0))):=⟨(D11.o.block _ (bI T0.o)).trans T0.o⟩;have O11:U (W11.ownsRow W.heap.size 76 256 u7 r (cq th r)):=⟨xcv Oy.o b11⟩;have Hlt:=D hlt;have HTr:U (∀ w1:G,aD aO 39 #[I T,I F] w1 (zB w1 (I (FL J 256 (th r))))):=⟨fun w1=>by rw[<-HF.o,<-Hth.o];exact HTh.o (y r) w1⟩;obtain⟨Eq,HE⟩:=aQ (FL J 256 (th r));rw[HE.o]at HTr;have Es:=dP HE;have Eo:=eJ HE;clear hrg hW11 r11 hs11 b11 Oy;go_wp2_with (first
    | ((with_reducible refine mE rfl 76 _ rfl gv o6 ?hx F.toList _ Hrg.o zX rfl ?hi ?_);(case hx=>rfl);(case hi=>rw[jM];exact Fi.o))
    | (refine fV rfl 76 _ _ rfl F rfl rfl Fi.o (by exact Fz.o) Fo.o rfl ?_)
    | (rw[HW11.o])
    | (refine iL rfl 34 _ rfl w.heap.size rfl 34 T (0,0) _ T11.o zY rfl HTz.o ?_)
    | (refine iL rfl 76 _ rfl wr.heap.size rfl 76 F (0,0) _ R11.o zX rfl Fi.o ?_))
   refine(HTr.o _).mono ?_;rintro e w5 ⟨rfl,hb5⟩;have D5:=bK D11 hb5;have O5:U (w5.ownsRow W.heap.size 76 256 u7 r (cq th r)):=⟨xcv O11.o hb5⟩;have hws:W.heap.size<=w5.heap.size:=D5.o.size;clear hb5;go_wp2_with fail;refine wp_buildSlice 44 76 1 _ rfl Eq i0 (I z) Tryz.underlying44 HI.o.1 HI.o.2.1 (by rw[HI.o.2.2.1];decide) (by rw[HI.o.2.2.1];decide) ?hf ?_
   case hf=>
    go_simp
    exact⟨⟨jN (fun h=>h (Es.o.trans HI.o.2.2.1.symm)),by rw[Es.o,HI.o.2.2.1];exact iM _⟩,xfp Eq _ Es.o (by simp[HI.o.2.2.1])⟩
   go_wp2_with (at_builtin;refine kH _ rfl _ _ 44 rfl W.heap.size 76 i0 (I z) 256 2048 Tryz.underlying44 HI.o.1 HI.o.2.1 HI.o.2.2.1 HI.o.2.2.2 Hzc.o (by decide) _ _ _ rfl (O5.o.alloc _) ⟨w5.heap.size,0,none⟩ 1 1 Eq.toList rfl (by rw[jM,Es.o]) (fun j u hu=>xdw hu) (fun u hu=>xek Eo.o u hu) (by unfold maxLen;omega) (by omega) (by rw[size_alloc];omega) ?_);intro v' w8 hown' hgrow _;have hb8:aF W.heap.size w5 w8:=((iR W.heap.size w5).alloc hws _).grown hgrow (by rw[size_alloc];omega) (fun k hk=>(O5.o.lt k hk).1);have B8:U (zb W w8):=⟨D5.o.trans hb8⟩;have O8:U (w8.ownsRow W.heap.size 76 256 v' (r+1) (cq th (r+1))):=⟨by rw[cq,HE.o];exact hown'⟩;clear hown' hgrow hb8;go_wp2_with fail;go_roundw
   case rel=>exact⟨r+1,by have:=Hlt.o;omega,by go_num,O8,B8⟩
   case measure=>have:=Hlt.o;simp[aG];omega
  ·obtain rfl:r=nv:=by omega
   rename G=>w2
   have hH:=bQ.xe4 Hv.o.1 Oy.o;obtain⟨gt,ct,hu7,hgt⟩:=gD hH;subst hu7;have HTt:=D hH;have Hgt:=D hgt;clear hH Oy hgt hlt;go_wp2_with fail;go_loopw [31,10] (fun iv sv wr=>∃ i:Nat,i<=R/\iv=O J (i:Int)/\U (wr.ownsRow w2.heap.size 76 256 sv i (cq res i))/\U (zb w2 wr)) (fun iv _ _=>R-(aG iv).toNat)
   case atStart=>exact⟨0,iX _,rfl,⟨⟨rfl,kW ⟨rfl,rfl⟩⟩⟩,⟨iR _ _⟩⟩
   case round=>
    obtain⟨i,hi,rfl,Oy,Hc⟩:=hrel;rename G=>w3
    have B3:=bK BE Hc.o;by_cases hlt:i<R
    ·have hiz:(i:Int)<(R:Int):=by omega
     have hi8:i<8:=by have:=HR.o;omega
     obtain⟨g,c,hcell,hg,hpol⟩:=HRows.o i hlt;have hc0:w3.cell? ⟨Gq,i,none⟩=some (aB (some ⟨g,0,none⟩) (n i) c):=(B3.o.cell (p:=⟨Gq,i,none⟩) HGv.o.1).trans hcell;have Hpol:=D hpol;have Hg:=D hg;have Hni:=D (Hn.o i hlt);obtain⟨N,hN⟩:=aP (n i);rw[hN]at hc0 Hpol Hni;obtain⟨W4,hW4⟩:=aP (w3.alloc (Y z 76));obtain⟨r4,hs4,b4⟩:=one hW4;have HW4:=D hW4;have A4:U (At w3.heap.size (FL J 256 (dK (x i) th (min 0 r))) 76 W4 W4):=⟨by rw[Nat.zero_min,dK,HZ.o];exact At.refl r4⟩;have D4:U (zb w3 W4):=⟨b4⟩;have B4:=bK B3 b4;have Hlt:=D hlt;have HN:=D hN;clear hcell hg hpol hW4 r4 hs4 b4 hlt hN;go_wp2_with (rw[HW4.o]);clear hc0;go_loopw [37] (fun jv wr=>∃ j:Nat,j<=N/\jv=O J (j:Int)/\U (At w3.heap.size (FL J 256 (dK (x i) th (min j r))) 76 W4 wr)) (fun jv _=>N-(aG jv).toNat)
     case atStart=>exact⟨0,iX _,rfl,A4⟩
     case round=>
      clear A4;obtain⟨j,hj,rfl,A5⟩:=hrel;have D5:U (zb w3 wr):=⟨D4.o.trans (A5.o.below D4.o.size (iM _))⟩;have B5:=bK B3 D5.o;by_cases hjlt:j<N
      ·have hjz:(j:Int)<(N:Int):=by omega
       have hj8:j<8:=by have:=Hni.o;omega
       have hrg:=xqt (m:=j) (fun k hk=>(B5.o.cell (p:=⟨g,256*j+k,none⟩) Hg.o).trans (Hpol.o j hjlt k hk));obtain⟨F,HF⟩:=aQ (FL J 256 (x i j));obtain⟨o6,ho6⟩:=aP (j*256);rw[HF.o,ho6]at hrg;have Hrg:=D hrg;have Fs:=dP HF;have Fo:=eJ HF;have Fi:=zsz Fs Hsize.o;have Fz:U (z.size=F.size):=⟨by rw[Hzs.o,Fs.o]⟩;obtain⟨W11,hW11⟩:=aP (wr.alloc (Y F 76));obtain⟨r11,hs11,b11⟩:=one hW11;have HW11:=D hW11;have R11:=D r11;have A6:U (At w3.heap.size (FL J 256 (dK (x i) th (min j r))) 76 W4 W11):=⟨A5.o.later b11⟩;have D6:=bK D5 b11;have Hjlt:=D hjlt;clear hrg hW11 r11 hs11 b11 A5 hjlt;by_cases hjr:j<r
       ·have hjrz:(j:Int)<(r:Int):=by omega
        have hm1:min j r=j:=by omega
        have hm2:U (min (j+1) r=j+1):=⟨by omega⟩;rw[hm1]at A6;have hrt:=xa3 (xa8 HTt.o j hjr) Hgt.o (Hc.o.trans (D6.o.mono Hc.o.size));rw[ho6]at hrt;have Hrt:=D hrt;obtain⟨Eq,HE⟩:=aQ (FL J 256 (th j));rw[HE.o]at Hrt;have Es:=dP HE;have Ei:U ((aO.info? 76).map (·.size)=some Eq.toList.length):=⟨by rw[jM,Es.o];exact Hsize.o⟩;have H1:U (∀ w1:G,aD aO 44 #[I F,I Eq] w1 (zB w1 (I (FL J 256 fun k=>(x i j k*th j k)%8380417)))):=⟨fun w1=>by rw[<-HF.o,<-HE.o];exact HTm.o (x i j) (th j) w1⟩;have H2:U (∀ w1:G,aD aO 96 #[I (FL J 256 (dK (x i) th j)),I (FL J 256 fun k=>(x i j k*th j k)%8380417)] w1 (zB w1 (I (FL J 256 (dK (x i) th (j+1)))))):=⟨fun w1=>HAd.o _ _ w1⟩;obtain⟨S,HS⟩:=aQ (FL J 256 (dK (x i) th j));obtain⟨P,HP⟩:=aQ (FL J 256 fun k=>(x i j k*th j k)%8380417);obtain⟨S2,HS2⟩:=aQ (FL J 256 (dK (x i) th (j+1)));rw[HS.o]at A6 H2;rw[HP.o]at H1 H2;rw[HS2.o]at H2;have Si:=eE HS Hsize.o;have Si2:=eE HS2 Hsize.o;have So2:=eJ HS2;have Sz2:U (S.size=S2.size):=⟨by rw[<-HS.o,<-HS2.o,cC,cC]⟩;clear hrt hm1 hjr HF HE HS HP;go_wp2_with (first
         | ((with_reducible refine mE rfl 76 _ rfl g o6 ?hx F.toList _ Hrg.o zX rfl ?hi ?_);(case hx=>rfl);(case hi=>rw[jM];exact Fi.o))
         | (refine fV rfl 76 _ _ rfl F rfl rfl Fi.o (by exact Fz.o) Fo.o rfl ?_)
         | (rw[HW11.o]))
        refine eQ.xb8 8 (by kernel_rfl) (by kernel_rfl) ?_;refine xa2 rfl 76 _ rfl _ rfl 76 _ _ (fun w' hC=>gM A6.o.row hC) zX rfl Si.o ?_;refine xa2 rfl 76 _ rfl _ rfl 76 _ _ (fun w' hC=>gM R11.o hC) zX rfl Fi.o ?_;iterate 3 (quiet_step (skip))
        refine xb2 rfl 76 _ rfl gt o6 rfl Eq.toList _ (fun w' hC=>by
         obtain⟨pp,rfl⟩:=hC;exact xa3 Hrt.o (iZ Hgt.o (jJ Hc.o.size D6.o.size)) (jX _ _ _)) zX rfl Ei.o ?_
        quiet_step (exact jI (H1.o _));quiet_step (exact jI (H2.o _));refine kY ?_;intro w8 hC;have hbn:zb W11 w8:=by
         obtain⟨pp,rfl⟩:=hC;exact jX _ _ _
        have A7:U (At w3.heap.size S 76 W4 w8):=⟨A6.o.later hbn⟩;obtain⟨w9,hw9⟩:=aP (w8.setRow w3.heap.size S2);have A8:U (At w3.heap.size (FL J 256 (dK (x i) th (min (j+1) r))) 76 W4 w9):=⟨by
         rw[hm2.o,HS2.o,<-hw9];exact⟨A7.o.os,A7.o.tape,A7.o.output,by simpa [World.setRow] using A7.o.size,jD _ _ _ _ _ _ A7.o.row,fun k hk hkg=>(lW _ _ _ _ hkg).trans (A7.o.block k hk hkg)⟩⟩
        have HW9:=D hw9;clear hC hbn A6 hw9 hjrz;simp only[iW,jK];refine iS rfl 76 _ _ rfl w3.heap.size S2 rfl rfl 76 _ A7.o.row Si2.o Sz2.o So2.o ?_;rw[HW9.o];go_wp2_with fail;go_roundw
        case rel=>exact⟨j+1,by have:=Hjlt.o;omega,by go_num,A8⟩
        case measure=>have:=Hjlt.o;simp[aG];omega
       ·have hjrz:¬ (j:Int)<(r:Int):=by omega
        have A8:U (At w3.heap.size (FL J 256 (dK (x i) th (min (j+1) r))) 76 W4 W11):=⟨by rw[show min (j+1) r=min j r by omega];exact A6.o⟩;clear A6 hjr;go_wp2_with (first
         | ((with_reducible refine mE rfl 76 _ rfl g o6 ?hx F.toList _ Hrg.o zX rfl ?hi ?_);(case hx=>rfl);(case hi=>rw[jM];exact Fi.o))
         | (refine fV rfl 76 _ _ rfl F rfl rfl Fi.o (by exact Fz.o) Fo.o rfl ?_)
         | (rw[HW11.o]))
        go_roundw
        case rel=>exact⟨j+1,by have:=Hjlt.o;omega,by go_num,A8⟩
        case measure=>have:=Hjlt.o;simp[aG];omega
      ·obtain rfl:j=N:=by omega
       have Hb9:U (∀ w1:G,aD aO 43 #[I T,I (FL J 256 (dK (x i) th (min j r)))] w1 (zB w1 (I (FL J 256 (res i))))):=⟨fun w1=>by
        have h:=HBk.o (dK (x i) th (min j r)) w1;rw[show (fun k=>(bH ζ 8 (dK (x i) th (min j r)) k*8347681)%8380417)=res i from funext fun k=>by rw[<-HN.o];exact Hres.o i k]at h;exact h⟩
       obtain⟨S,HS⟩:=aQ (FL J 256 (dK (x i) th (min j r)));rw[HS.o]at A5 Hb9;have Si:=eE HS Hsize.o;have T5:U (wr.heap[w.heap.size]? = some (Y T 34 (0,0))):=⟨by
        have h:=Hb.o.trans ((Hc.o.mono Hb.o.size).trans (D5.o.mono (jJ Hb.o.size Hc.o.size)));exact(h.block _ (bI T0.o)).trans T0.o⟩
       have R5:=D A5.o.row;have O5:U (wr.ownsRow w2.heap.size 76 256 u10 i (cq res i)):=⟨xcv Oy.o D5.o⟩;obtain⟨Eq,HE⟩:=aQ (FL J 256 (res i));rw[HE.o]at Hb9;have Es:=dP HE;have Eo:=eJ HE;have BX:=bK Hc D5.o;clear A5 hjlt;go_wp2_with (first
        | (refine iL rfl 34 _ rfl w.heap.size rfl 34 T (0,0) _ T5.o zY rfl HTz.o ?_)
        | (refine iL rfl 76 _ rfl w3.heap.size rfl 76 S (0,0) _ R5.o zX rfl Si.o ?_))
       refine(Hb9.o _).mono ?_;rintro e w6 ⟨rfl,hb6⟩;have BY:=bK BX hb6;have O6:U (w6.ownsRow w2.heap.size 76 256 u10 i (cq res i)):=⟨xcv O5.o hb6⟩;have hws:w2.heap.size<=w6.heap.size:=BY.o.size;clear hb6;go_wp2_with fail;refine wp_buildSlice 44 76 1 _ rfl Eq i0 (I z) Tryz.underlying44 HI.o.1 HI.o.2.1 (by rw[HI.o.2.2.1];decide) (by rw[HI.o.2.2.1];decide) ?hf ?_
       case hf=>
        go_simp
        exact⟨⟨jN (fun h=>h (Es.o.trans HI.o.2.2.1.symm)),by rw[Es.o,HI.o.2.2.1];exact iM _⟩,xfp Eq _ Es.o (by simp[HI.o.2.2.1])⟩
       go_wp2_with (at_builtin;refine kH _ rfl _ _ 44 rfl w2.heap.size 76 i0 (I z) 256 2048 Tryz.underlying44 HI.o.1 HI.o.2.1 HI.o.2.2.1 HI.o.2.2.2 Hzc.o (by decide) _ _ _ rfl (O6.o.alloc _) ⟨w6.heap.size,0,none⟩ 1 1 Eq.toList rfl (by rw[jM,Es.o]) (fun j u hu=>xdw hu) (fun u hu=>xek Eo.o u hu) (by unfold maxLen;omega) (by omega) (by rw[size_alloc];omega) ?_);intro v' w8 hown' hgrow _;have hb8:aF w2.heap.size w6 w8:=((iR w2.heap.size w6).alloc hws _).grown hgrow (by rw[size_alloc];omega) (fun k hk=>(O6.o.lt k hk).1);have B8:U (zb w2 w8):=⟨BY.o.trans hb8⟩;have O8:U (w8.ownsRow w2.heap.size 76 256 v' (i+1) (cq res (i+1))):=⟨by rw[cq,HE.o];exact hown'⟩;clear hown' hgrow hb8;go_wp2_with fail;go_roundw
       case rel=>exact⟨i+1,by have:=Hlt.o;omega,by go_num,O8,B8⟩
       case measure=>have:=Hlt.o;simp[aG];omega
    ·obtain rfl:i=R:=by omega
     have Fx:U (w3.ownsRow w.heap.size 76 256 u10 i (cq res i)):=⟨xp7 Oy.o BE.o.size⟩;clear Oy;go_wp2_with fail;go_ret;exact⟨⟨_,rfl,Fx.o⟩,B3.o⟩
end dW
namespace aY
open arr mem bD dZ aW
theorem xtu(g cap n wd M:Nat)(L:List Nat)(w:G)(hl:L.length=n)(hn:n<=256)(hw:wd<=23)(hM0 : 0<M)(hM:(n*wd+7) / 8=M)(hL:∀ x∈L,x<2 ^ wd)(hg:g<w.heap.size)(hcell:∀ i,i<n->w.cell? ⟨g,i,none⟩=some (O J ((L.getD i 0:Nat):Int))):
 aD aO 101 #[aB (some ⟨g,0,none⟩) n cap,O J (wd:Int)] w (zB w (E ⟨(cP (nb 8 M (pk wd L))).toArray⟩)):=by
 obtain⟨i0,hi,hz0,hz1,hz2⟩:=parts dV;have HI:=D (jA hi (jA hz0 (jA hz1 hz2)));have hnw:n*wd<=256*23:=lA hn hw;obtain⟨nw,hnw2⟩:=aP (n*wd);have fnw:(n:Int)*(wd:Int)=(nw:Int):=by rw[<-hnw2,kV]
 have fnww:J.wrap ((n:Int)*(wd:Int))=(nw:Int):=by rw[fnw,iN];omega
 rw[hnw2]at hM hnw;have HnwM:U (wd*n<=8*M):=⟨by rw[kI,hnw2];omega⟩;have fM:((nw:Int)+7).tdiv 8=(M:Int):=by rw[iU (by omega)];omega
 have fM2:((nw:Int)+7) / 8=(M:Int):=by omega
 have Hcell:=D hcell;have HL:=D hL;have Hl:=D hl;obtain⟨R,HR⟩:=aQ (cP (nb 8 M (pk wd L)));have HRn:U (pk wd L%2 ^ (wd*n)=pk wd L):=⟨jO (by rw[<-hl];exact xl7 wd L hL)⟩;rw[HR.o];clear hi hz0 hz1 hz2 hcell hL hl hnw2;go_enter Tryz.func101,Tryz.ntmps101;go_wp2_with (at_make;refine lY _ rfl (.tmp 15) (.tmp 15) 57 rfl w.heap.size 5 i0 (O .u8 0) 1 Tryz.underlying57 HI.o.1 HI.o.2.1 HI.o.2.2.1 J J M M M rfl rfl rfl rfl (by rw[HI.o.2.2.2];omega) (by unfold maxLen;omega) (iM _) ?_);intro w3 hown hgr;have hb3:zb w w3:=(iR _ _).grown hgr (iM _) (fun k hk=>by simp at hk);obtain⟨cur,hcur,hcl⟩:=xp8 hown;have e0:cur=LK .u8 (nb 8 M (pk wd L%2 ^ (wd*0))):=by
  apply Array.ext';rw[hcl,Nat.mul_zero,Nat.pow_zero,Nat.mod_one,xv3];simp only[toList_madeCells_one];simp[LK]
 rw[e0]at hcur;have A3:U (At w.heap.size (LK .u8 (nb 8 M (pk wd L%2 ^ (wd*0)))) 5 w3 w3):=⟨At.refl hcur⟩;have HB3:=D hb3;have h38:=bI hcur;clear hown hgr hb3 hcl e0 hcur fM fM2 fnw fnww;go_wp2_with fail;go_loopw [19] (fun v wr=>∃ i:Nat,i<=n/\v=O J (i:Int)/\U (At w.heap.size (LK .u8 (nb 8 M (pk wd L%2 ^ (wd*i)))) 5 w3 wr)) (fun v _=>n-(aG v).toNat)
 case atStart=>exact⟨0,iX _,rfl,A3⟩
 case round=>
  clear A3;obtain⟨i,hi,rfl,A0⟩:=hrel;by_cases hlt:i<n
  ·have hiz:(i:Int)<(n:Int):=by omega
   have BW:U (zb w wr):=⟨HB3.o.trans (A0.o.below (by omega) (iM _))⟩;obtain⟨x,hx⟩:=aP (L.getD i 0);have hxl:x<2 ^ wd:=by
    rw[<-hx,iO,iT (by rw[Hl.o];exact hlt)];exact HL.o _ (kZ _)
   have hx23:x<8388608:=iZ hxl (kS (by decide) hw);have cx:wr.cell? ⟨g,i,none⟩=some (O J (x:Int)):=by
    rw[<-hx,BW.o.cell (p:=⟨g,i,none⟩) hg];exact Hcell.o i hlt
   have Hx:=D hx;have hiw:wd*i<=23*256:=lA hw (by omega);obtain⟨iw,hiw2⟩:=aP (wd*i);have fi:(i:Int)*(wd:Int)=(iw:Int):=by rw[<-hiw2,kV,oQ]
   have fiw:J.wrap ((i:Int)*(wd:Int))=(iw:Int):=by rw[fi,iN];omega
   have Hiw:=D hiw2;have hiwM:iw+wd<=8*M:=by
    have h1:wd*(i+1)<=wd*n:=kJ _ hlt;rw[kG,hiw2]at h1;have:=HnwM.o;omega
   rw[hiw2]at hiw;clear hx hxl hiw2;go_wp2_with fail;clear cx;go_loopw [25] (fun v wr=>∃ k:Nat,k<=wd/\v=O J (k:Int)/\U (At w.heap.size (LK .u8 (nb 8 M (pk wd L%2 ^ (wd*i+k)))) 5 w3 wr)) (fun v _=>wd-(aG v).toNat)
   case atStart=>exact⟨0,iX _,rfl,A0⟩
   case round=>
    clear A0;obtain⟨k,hk,rfl,A0⟩:=hrel;by_cases hklt:k<wd
    ·have hkz:(k:Int)<(wd:Int):=by omega
     obtain⟨m,hm⟩:=aP (iw+k);obtain⟨j,hj⟩:=aP (m / 8);obtain⟨r,hr⟩:=aP (m%8);obtain⟨y,hy⟩:=aP (x / 2 ^ k);have hyx:y<=x:=by rw[<-hy];exact Nat.div_le_self _ _
     obtain⟨b,hb⟩:=aP (y%2);obtain⟨β,hβ⟩:∃ β,pk wd L%2 ^ m / 2 ^ (8*j)%2 ^ 8 = β := ⟨_,rfl⟩;have hβ8 : β < 256:=by rw[<-hβ];exact kB _ (by decide)
     obtain⟨c,hc⟩:=aP (b*2 ^ r);have hr7:r<=7:=by omega
     have hc8:c<256:=by
      rw[<-hc];have h1 : 2 ^ r<=2 ^ 7:=kS (by decide) hr7;have h2:b*2 ^ r<=1*2 ^ r:=mH _ (by omega);omega
     obtain⟨v,hv⟩:=aP (β ||| c);have V:=or_u8 β c hβ8 hc8;rw[hv]at V;have HS:U ((nb 8 M (pk wd L%2 ^ (wd*i+k))).set j v=nb 8 M (pk wd L%2 ^ (wd*i+(k+1)))):=⟨by
      have h9:=xvl wd n M L Hl.o HL.o i k hlt hklt v (by rw[Hiw.o,hm,hj,hr,hβ,Hx.o,hy,hb,hc,hv]);rw[Hiw.o,hm,hj]at h9;rw[Hiw.o,hm];exact h9⟩
     have fk:(x:Int) / 2 ^ k=(y:Int):=by rw[<-hy];simp
     have fm:(iw:Int)+(k:Int)=(m:Int):=by omega
     have fmw:J.wrap ((iw:Int)+(k:Int))=(m:Int):=by rw[fm,iN];omega
     have fj:(m:Int).tdiv 8=(j:Int):=by rw[iU (by omega)];omega
     have fj2:(m:Int) / 8=(j:Int):=by omega
     have fr:(m:Int).tmod 8=(r:Int):=by rw[jB (by omega)];omega
     have fr2:(m:Int)%8=(r:Int):=by omega
     have fku:IntKind.u64.wrap (k:Int)=(k:Int):=by rw[kA];omega
     have fru:IntKind.u64.wrap (r:Int)=(r:Int):=by rw[kA];omega
     have fand:=and_one y (by omega);rw[hb]at fand;have fb8:IntKind.u8.wrap (b:Int)=(b:Int):=by rw[kU];omega
     have fb82:(b:Int)%256=(b:Int):=by omega
     have fc:(b:Int)*2 ^ r=(c:Int):=by rw[<-hc,kV,Int.natCast_pow];rfl
     have fc2:(c:Int)%256=(c:Int):=by omega
     have fcw:IntKind.u8.wrap (c:Int)=(c:Int):=by rw[kU];omega
     have hjM:j<M:=by omega
     have cb:wr.cell? ⟨w.heap.size,j,none⟩=some (O .u8 (β : Int)):=by
      rw[A0.o.cell,gC .u8 _ j (by rw[xcf];exact hjM),iO,xe1 8 M _ j hjM,Hiw.o,hm,hβ];rfl
     have HjM:=D hjM;have hk63:k<64:=by omega
     clear hm hj hr hy hb hβ hc hv;go_wp2_with ((with_reducible refine cU A0 rfl _ _ _ rfl rfl ?_);refine⟨_,_,_,rfl,rfl,rfl,(by rw[fE,xcf];exact HjM.o),?_⟩;intro wn HR;rw[xdh,HS.o]at HR);go_roundw
     case rel=>exact⟨k+1,by omega,by go_num,HR⟩
     case measure=>simp[aG];omega
    ·obtain rfl:k=wd:=by omega
     have A1:U (At w.heap.size (LK .u8 (nb 8 M (pk k L%2 ^ (k*(i+1))))) 5 w3 wr):=⟨by rw[kG];exact A0.o⟩;clear A0;go_wp2_with fail;go_roundw
     case rel=>exact⟨i+1,by omega,by go_num,A1⟩
     case measure=>simp[aG];omega
  ·obtain rfl:i=n:=by omega
   rw[HRn.o]at A0;have hcv:=xeo (cap:=M) (xcf 8 M _) (fun x hx=>xg5 8 M _ x hx) A0.o.row;rw[HR.o]at hcv;have BW:U (zb w wr):=⟨HB3.o.trans (A0.o.below (by omega) (iM _))⟩;clear A0;go_wp2_with fail;go_ret;exact⟨rfl,BW.o⟩
end aY
namespace bA
open arr mem bD dZ aT aW aY bC
theorem xd7(f:Nat->Int)(most:Int)(w:G)(h1 : 1<=most)(h2:most<8380417):
 aD aO 48 #[I (FL J 256 f),O J most] w (zB w (if fK f most then aA #[E (packed f most),O J 0] else aA #[E ⟨#[]⟩,O J 6])):=by
 obtain⟨i0,hi,hz0,hz1,hz2⟩:=parts gL;have HI:=D (jA hi (jA hz0 (jA hz1 hz2)));obtain⟨wd,hwd⟩:=aP (lb most.toNat);have hsp:=xdg 64 most.toNat (by omega);have hw23:wd<=23:=by
  have h3:most.toNat<2 ^ 23:=by omega
  have h4:lb most.toNat=lbf 23 most.toNat:=xlg 23 64 _ h3 (by decide);rw[<-hwd,h4];exact(xdg 23 _ h3).2.2
 have hlt2:most.toNat<2 ^ wd:=by rw[<-hwd];exact hsp.1
 have hpos : 0<wd:=by rw[<-hwd];exact(hsp.2.1 (by omega)).1
 obtain⟨Oq,HO⟩:=aQ (packed f most);have HB:U (∀ (g cap:Nat) (w1:G),fK f most->g<w1.heap.size->(∀ i,i<256->w1.cell? ⟨g,i,none⟩=some (O J (f i)))->aD aO 101 #[aB (some ⟨g,0,none⟩) 256 cap,O J (wd:Int)] w1 (zB w1 (E Oq))):=⟨fun g cap w1 hin hg hc=>by
  rw[<-HO.o,packed,hwd];have hM:(256*wd+7) / 8=32*wd:=by omega
  refine aY.xtu g cap 256 wd (32*wd) (ns f) w1 (by simp[ns]) (by decide) hw23 (by omega) hM (fun x hx=>?_) hg (fun i hi=>?_)
  ·obtain⟨i,hi,rfl⟩:=nY.1 hx;have:=hin i (lV.1 hi);omega
  ·have h9:=(hin i hi).1;have e:(ns f).getD i 0=(f i).toNat:=by
    unfold ns;rw[iO,mU,List.getElem?_range hi];rfl
   rw[e,Int.toNat_of_nonneg h9];exact hc i hi⟩
 have HLg:U (∀ w1:G,aD aO 54 #[O J most] w1 (zE w1 (O J (wd:Int)))):=⟨fun w1=>by rw[<-hwd];exact xc3 most (by omega) w1⟩;rw[HO.o];have Hidx:U (∀ i:Nat,i<256->∀ w1,(aN 76 (I (FL J 256 f)) (O J (i:Int))).run aO w1=.ok (O J (f i)) w1):=⟨fun i hi w1=>xct (P:=aO) zX (by kernel_rfl) (by kernel_rfl) (by kernel_rfl) _ _ i hi (xba J 256 f i hi) w1⟩;have Fi:U ((aO.info? 76).map (·.size)=some (FL J 256 f).size):=⟨by rw[cC];exact sizeP⟩;obtain⟨F,HF⟩:=aQ (FL J 256 f);rw[HF.o]at Hidx Fi ⊢;obtain⟨W,hW⟩:=aP (w.alloc (Y F 76));have HW:=D hW;have BW:=zba hW;have hrow:=zhp hW;have h1':¬ most<1:=by omega
 have h2':¬ 8380417<=most:=by omega
 obtain⟨V,HV⟩:=aQ (if fK f most then Value.tuple #[E Oq,O J 0] else aA #[E ⟨#[]⟩,O J 6]);rw[HV.o];have H12:=D (jA h1 h2);clear hW hi hz0 hz1 hz2 hwd hsp hlt2 HF HO h1 h2;go_enter Tryz.func48,Tryz.ntmps48;go_wp2_with (first
  | (rw[HW.o])
  | (refine iL rfl 76 _ rfl w.heap.size rfl 76 F (0,0) _ hrow.o zX rfl Fi.o ?_))
 go_loopw [6,16] (fun v c wr=>∃ j:Nat,j<=256/\c=O J (j:Int)/\U (∀ i,i<j->0<=f i/\f i<=most)/\U (wr.ownsRow W.heap.size 3 1 v j (cs f j))/\U (zb W wr)) (fun _ c _=>256-(aG c).toNat)
 case atStart=>exact⟨0,iX _,rfl,⟨fun i hi=>by omega⟩,⟨⟨rfl,kW ⟨rfl,rfl⟩⟩⟩,⟨iR _ _⟩⟩
 case round=>
  obtain⟨j,hj,rfl,Hin,Ho,Hb⟩:=hrel;by_cases hlt:j<256
  ·have hjz:(j:Int)<256:=by omega
   have hidx:=Hidx.o j hlt;obtain⟨x,hx⟩:=aP (f j);rw[hx]at hidx;by_cases hbad:x<0\/most<x
   ·have hV:U (V=aA #[E ⟨#[]⟩,O J 6]):=⟨by rw[<-HV.o,iQ];intro hall;have:=hall j hlt;rw[hx]at this;omega⟩;have BE:=bK BW Hb.o;clear hx;rcases hbad with hb1 | hb1
    ·go_wp2_with fail;go_ret2;exact⟨by rw[hV.o];rfl,BE.o⟩
    ·by_cases hb0:x<0
     ·go_wp2_with fail;go_ret2;exact⟨by rw[hV.o];rfl,BE.o⟩
     ·go_wp2_with fail;go_ret2;exact⟨by rw[hV.o];rfl,BE.o⟩
   ·have hb0:¬ x<0:=by omega
    have hb1:¬ most<x:=by omega
    have Hin2:U (∀ i,i<j+1->0<=f i/\f i<=most):=⟨fun i hi=>by
     by_cases e:i=j
     ·subst e;rw[hx];omega
     ·exact Hin.o i (by omega)⟩
    have Hc:U (cs f (j+1)=cs f j ++ [O J x]):=⟨by rw[xt4,hx]⟩;have hwx:=Hb.o.size;clear hx hbad;go_wp2_with (at_builtin;refine kH _ rfl _ _ 59 rfl W.heap.size 3 i0 (O J 0) 1 8 Tryz.underlying59 HI.o.1 HI.o.2.1 HI.o.2.2.1 HI.o.2.2.2 rfl (by decide) _ _ _ rfl (Ho.o.alloc _) ⟨wr.heap.size,0,none⟩ 1 1 [O J x] rfl rfl xbg (fun u hu=>by simp at hu;subst hu;rfl) (by unfold maxLen;omega) (by omega) (by rw[size_alloc];omega) ?_);intro v' w4 hown' hgrow _;have hb4:aF W.heap.size wr w4:=((iR W.heap.size wr).alloc hwx _).grown hgrow (by rw[size_alloc];omega) (fun k hk=>(Ho.o.lt k hk).1);have HB4:U (zb W w4):=⟨Hb.o.trans hb4⟩;have OY:U (w4.ownsRow W.heap.size 3 1 v' (j+1) (cs f (j+1))):=⟨by rw[Hc.o];exact hown'⟩;clear hown' hgrow hb4 hidx;go_wp2_with fail;go_roundw
    case rel=>exact⟨j+1,by omega,by go_num,Hin2,OY,HB4⟩
    case measure=>simp[aG];omega
  ·obtain rfl:j=256:=by omega
   simp only[jE];obtain⟨g',cap',rfl⟩:=xbu (by decide) Ho.o;have hall:fK f most:=Hin.o;have hV:U (V=aA #[E Oq,O J 0]):=⟨by rw[<-HV.o,iP hall]⟩;have C1:=D (HB.o g' cap' wr hall (Ho.o.lt g' rfl).2 (fun i hi=>by
    have h9:=Ho.o.cellAt i (by omega);rw[h9];unfold cs;rw[mU,List.getElem?_range hi];rfl))
   have BE:=bK BW Hb.o;clear hall hj hlt;go_wp2_with fail;refine(HLg.o _).mono ?_;rintro e w5 ⟨rfl,rfl⟩;go_wp2_with fail;refine C1.o.mono ?_;rintro e w6 ⟨rfl,h6⟩;have BF:=bK BE h6;clear h6;go_wp2_with fail;go_ret2;exact⟨by rw[hV.o];rfl,BF.o⟩
end bA
namespace r13m
open arr mem bD aY bC
theorem xiw(c x:ByteArray)(w:G)(h : 255<c.size\/60000<x.size):
 aD aO 28 #[E c,E x] w (zE w (aA #[E ⟨#[]⟩,O J 5])):=by
 have h:(255:Int)<(c.size:Int)\/(¬ (255:Int)<(c.size:Int)/\(60000:Int)<(x.size:Int)):=by omega
 rcases h with h | ⟨h1,h⟩
 ·go_enter Tryz.func28,Tryz.ntmps28;go_wp2_with fail;go_ret2;exact⟨rfl,rfl⟩
 ·go_enter Tryz.func28,Tryz.ntmps28;go_wp2_with fail;go_ret2;exact⟨rfl,rfl⟩
theorem xix(c x:ByteArray)(w:G)(h1:c.size<=255)(h2:x.size<=60000):
 aD aO 28 #[E c,E x] w (zB w (aA #[E ((⟨#[0,UInt8.ofNat c.size]⟩:ByteArray)++c++x),O J 0])):=by
 have n1:¬ (255:Int)<(c.size:Int):=by omega
 have n2:¬ (60000:Int)<(x.size:Int):=by omega
 obtain⟨n,hn⟩:=aP c.size;have hw:IntKind.u8.wrap (n:Int)=(n:Int):=by rw[kU];omega
 obtain⟨W,hW⟩:=aP (w.alloc (Y #[O .u8 0,O .u8 (n:Int)] 5));have r0:W.heap[w.heap.size]? = some (Y #[O .u8 0,O .u8 (n:Int)] 5 (0,0)):=by rw[<-hW];exact cM _ _ _ rfl
 have hb:zb w W:=by rw[<-hW];exact xby _ _
 have hcv:=xeo (t:=5) (l:=[0,n]) (cap:=2) (n:=2) rfl (by simp;omega) r0;obtain⟨X,hX⟩:∃ X:ByteArray,⟨(cP [0,n]).toArray⟩=X:=⟨_,rfl⟩;have hX2:(⟨#[0,UInt8.ofNat n]⟩:ByteArray)=X:=by rw[<-hX];rfl
 have hXs:X.size=2:=by rw[<-hX];rfl
 rw[hX]at hcv;rw[hn,hX2];rw[hn]at n1;have HW:=D hW;have HB:=D hb;clear hX hX2 r0 hb hW;go_enter Tryz.func28,Tryz.ntmps28;go_wp2_with (first | (rw[HW.o]) | fail);go_ret2;exact⟨rfl,HB.o⟩
end r13m
end Go.Proofs.YtomphjajkkddkaaGreatDoor
