/-
  What mlsign's pack and packHigh return. Conditions: as each theorem says. A row of what a verifier h
-/
import Derived.Test.YtomphjajkkddkaaGreatDoorZs12
import Derived.Test.YtomphjajkkddkaaGreatDoorZs14
import Derived.Test.YtomphjajkkddkaaGreatDoorZs01
import Derived.Test.YtomphjajkkddkaaGreatDoorZs16
import Derived.Test.YtomphjajkkddkaaGreatDoorZs02
import Derived.Test.YtomphjajkkddkaaGreatDoorZs09
import Derived.Test.YtomphjajkkddkaaGreatDoorZs11
import Derived.Test.YtomphjajkkddkaaGreatDoorZs10
import Derived.Test.YtomphjajkkddkaaGreatDoorZs03
import Derived.Test.YtomphjajkkddkaaGreatDoorZs04
import Derived.Test.YtomphjajkkddkaaGreatDoorZs05
import Derived.Test.YtomphjajkkddkaaGreatDoorZs07
import Derived.WideShapes
import Derived.ScopeJumps
import Derived.WalkMore
set_option maxRecDepth 100000
set_option maxHeartbeats 16000000
set_option linter.unusedSimpArgs false
set_option linter.unusedVariables false
open Go Go.RowKit
open Go renaming World->G,Calls->aD,Value->aE,Program->aI
open Go.RowKit renaming Below->aF,intOf->aG
open Go.Lib renaming byteCells->aJ
open Go.Act renaming put->aM
open Go.Instr renaming index->aN
open Go.Value renaming int->O,agg->I,string->E,tuple->aA,slice->aB,pointer->aC
open Go.IntKind renaming i64->J
open Go.Obj renaming cells->Y
open Go.Proofs.Tryz renaming prog->aO
namespace Go.Proofs.YtomphjajkkddkaaGreatDoor
abbrev oP:=@Go.cell_regrown
namespace mgb
open arr mem bD aT aV bS cY bF bQ dD bM bZ eH cZ bU bT dN dW eM mgd aW bA bL dQ
theorem xfk(X:Nat->ByteArray)(n:Nat):(cJ ByteArray.empty X (n+1)).data.toList=(cJ ByteArray.empty X n).data.toList++(X n).data.toList:=by
 rw[cJ,ByteArray.data_append,Array.toList_append]
theorem xlq(x:ByteArray):(⟨x.data.toList.toArray⟩:ByteArray)=x:=rfl
theorem xd7(gs n:Nat)(a:Int)(vz:aE)(B:Nat)(p:Nat->Nat->Int)(w:G)(ha:a=131072\/a=524288)(hc:w.cell? ⟨gs,5,none⟩=some (O J a))(ls:gs<w.heap.size)(hn : 1<=n/\n<=8)(HV:Holds w B vz n p)(hin:∀ i,i<n->ins (p i) (a-1) a):
 aD aO 168 #[aC (some ⟨gs,0,none⟩),vz] w (zB w (E (bN ByteArray.empty p (a-1) a n))):=by
 unfold bN;have hw:J.wrap (a-1)=a-1:=bB;obtain⟨X,hX⟩:=aQ (fun i=>packed (sg (p i) a) (a-1+a));have HX:U (∀ i,i<n->(X i).size<=1000):=⟨fun i _=>by rw[<-hX.o,xcy];rcases ha with rfl | rfl<;>decide +kernel⟩;rw[hX.o];obtain⟨hz,hsize⟩:=iY aV.aX;have Hsize:=D hsize;obtain⟨g,c,hvs,hg⟩:=gD HV;subst hvs;have Hv:=D HV;have Hg:=D hg;have Hls:=D ls;have Hc:=D hc;have HCall:U (∀ i,i<n->∀ w1:G,aD aO 119 #[I (FL J 256 (p i)),O J (a-1),O J a] w1 (zB w1 (aA #[E (X i),O J 0]))):=⟨fun i hi w1=>by
  have h1:=psig.xrm (p i) (a-1) a w1 (by omega) (by omega) (by omega) (by omega);rw[iP (hin i hi)]at h1;rw[<-hX.o];exact h1⟩
 obtain⟨a1,ha1⟩:=aP (a-1);rw[ha1]at HCall hw;clear hX hin ha;rw[<-ha1]at hw;have hw2:J.wrap (a-1)=a1:=by rw[hw,ha1]
 clear hw ha1;have Hcs:U (∀ r,r<=n->(cJ ByteArray.empty X r).data.toList.length<=1000*r):=⟨fun r hr=>by
  induction r with
  | zero=>exact iX _
  | succ r ih=>
   have h1:=ih (by omega);have h2:=HX.o r (by omega);rw[xfk,kK];have h3:(X r).data.toList.length=(X r).size:=rfl;omega⟩
 have hfb:=Lib.fresh_isBuilder 117 5 w;have Hfb:U (Lib.IsBuilder 117 5 w.heap.size w.heap.size (aJ (cJ ByteArray.empty X 0).data.toList) (w.alloc (Y #[aC none,aB none 0 0] 117))):=⟨hfb⟩;have hn8:=hn.2;obtain⟨Rz,HRz⟩:=aQ (cJ ByteArray.empty X n);rw[HRz.o];clear HV hz hsize hg ls hfb hn;go_enter Tryz.func168,Tryz.ntmps168;go_wp2_with fail;clear hc;go_loopw [11] (fun i wr=>∃ r:Nat,r<=n/\i=O J (r:Int)/\U (Lib.IsBuilder 117 5 w.heap.size w.heap.size (aJ (cJ ByteArray.empty X r).data.toList) wr)/\U (zb w wr)) (fun i _=>n-(aG i).toNat)
 case atStart=>exact⟨0,iX _,rfl,Hfb,⟨(iR _ _).alloc (iM _) _⟩⟩
 case round=>
  clear Hfb;obtain⟨r,hr,rfl,Hbd,Hbe⟩:=hrel;by_cases hlt:r<n
  ·have hrz:(r:Int)<(n:Int):=by omega
   have hr8:r<8:=by omega
   have hrg:=xa8 (Hv.o.later Hbe.o) r hlt;have HCa:=D (HCall.o r hlt);obtain⟨F,HF⟩:=aQ (FL J 256 (p r));obtain⟨o6,ho6⟩:=aP (r*256);rw[HF.o,ho6]at hrg;have Hrg:U (∀ w':G,zb wr w'->w'.rangeAt g o6 F.toList):=⟨fun w' hb'=>xa3 hrg (iZ Hg.o Hbe.o.size) hb'⟩;have Fi:=zfi HF Hsize.o;have q5:∀ d os,(Go.Sort.grow (redrawn wr d) os).cell? ⟨gs,5,none⟩=some (O J a):=fun d os=>oP ((Hbe.o.cell (p:=⟨gs,5,none⟩) Hls.o).trans Hc.o) d os
   rw[HF.o]at HCa;have hXs:=HX.o r hlt;have hlen:=Hcs.o r (by omega);have hnext:=xfk X r;obtain⟨Yq,HY⟩:=aQ (X r);rw[HY.o]at HCa hXs hnext;have Hlt:=D hlt;have Hnext:=D hnext;have HXs:=D hXs;have Hlen:=D hlen;clear hrg hlt HF hXs hlen hnext;go_wp2_with fail;refine mA (by kernel_rfl) (by kernel_rfl) ?_;iterate 3 (quiet_step (skip))
   refine xb2 rfl 76 _ rfl g o6 rfl F.toList _ (fun w' hC=>Hrg.o w' (krw.xa5 hC)) zX rfl Fi.o ?_;iterate 11 (quiet_step (skip))
   quiet_step (exact jI (HCa.o _));iterate 5 (quiet_step (skip))
   refine kY ?_;intro w3 hC;have hb3:zb wr w3:=krw.xa5 hC;have Hb3:=D hb3;have hz3:w.heap.size<=w3.heap.size:=jJ Hbe.o.size hb3.size;have Hw:U (aD aO 91 #[aC (some ⟨w.heap.size,0,none⟩),E Yq] w3 fun e w'=>e=.returned (.tuple #[O J Yq.size,.nilIface])/\(Lib.BuilderAt 117 5 w.heap.size w.heap.size (aC (some ⟨w.heap.size,0,none⟩)) (aJ (cJ ByteArray.empty X (r+1)).data.toList) w'/\aF w.heap.size w3 w')):=⟨by
    have hh:=eX.gG w.heap.size w.heap.size (aJ (cJ ByteArray.empty X r).data.toList) Yq w3 (eX.xki Hbd.o hb3) (by
     rw[Lib.byteCells_length];have:=HXs.o;have:=Hlen.o;omega) hz3
    rw[show Lib.strCells Yq=aJ Yq.data.toList from rfl,<-pA,<-Hnext.o]at hh;exact hh⟩
   clear hC hb3 q5;go_wp2_with fail;refine Hw.o.mono ?_;rintro e w4 ⟨rfl,hat,hb4⟩;have Hat:=D hat;have D4:U (zb w w4):=⟨(Hbe.o.trans (Hb3.o.mono Hbe.o.size)).trans hb4⟩;clear hat hb4;go_wp2_with fail;go_roundw
   case rel=>exact⟨r+1,by have:=Hlt.o;omega,by go_num,⟨kO Hat.o⟩,D4⟩
   case measure=>have:=Hlt.o;simp[aG];omega
  ·obtain rfl:r=n:=by omega
   have Hst:U (aD aO 86 #[aC (some ⟨w.heap.size,0,none⟩)] wr fun e w'=>e=.returned (E (cJ ByteArray.empty X r))/\aF w.heap.size wr w'):=⟨by
    have hh:=eX.toText w.heap.size w.heap.size (cJ ByteArray.empty X r).data.toList wr Hbd.o Hbe.o.size;rw[xlq]at hh;exact hh⟩
   rw[HRz.o]at Hst;clear hlt;go_wp2_with fail;refine Hst.o.mono ?_;rintro e w3 ⟨rfl,hb3⟩;have D3:U (zb w w3):=⟨Hbe.o.trans hb3⟩;clear hb3;go_wp2_with fail;go_ret;exact⟨rfl,D3.o⟩
theorem xwp(gs n:Nat)(b:Int)(vw:aE)(B:Nat)(p:Nat->Nat->Int)(w:G)(hb:b=95232\/b=261888)(hc:w.cell? ⟨gs,6,none⟩=some (O J b))(ls:gs<w.heap.size)(hn : 1<=n/\n<=8)(HV:Holds w B vw n p):
 aD aO 185 #[aC (some ⟨gs,0,none⟩),vw] w (zB w (E (cJ ByteArray.empty (fun i=>packed (fun k=>cD b (p i k)) (8380416 / (2*b)-1)) n))):=by
 obtain⟨m,hm⟩:∃ m:Int,(8380416:Int) / (2*b)-1=m:=⟨_,rfl⟩;have hm2 : 1<=m/\m<8380417:=by rcases hb with rfl | rfl<;>omega
 obtain⟨X,hX⟩:=aQ (fun i=>packed (fun k=>cD b (p i k)) m);have HX:U (∀ i,i<n->(X i).size<=1000):=⟨fun i _=>by rw[<-hX.o,xcy,<-hm];rcases hb with rfl | rfl<;>decide +kernel⟩;rw[hm,hX.o];obtain⟨hz,hsize⟩:=iY aV.aX;have Hsize:=D hsize;obtain⟨g,c,hvs,hg⟩:=gD HV;subst hvs;have Hv:=D HV;have Hg:=D hg;have Hls:=D ls;have Hc:=D hc;have HCall:U (∀ i,i<n->∀ w1:G,aD aO 89 #[I (FL J 256 fun k=>cD b (p i k)),O J m] w1 (zB w1 (aA #[E (X i),O J 0]))):=⟨fun i hi w1=>by
  have h1:=ppack.xd7 (fun k=>cD b (p i k)) m w1 hm2.1 hm2.2;rw[iP (show fK (fun k=>cD b (p i k)) m from fun k _=>by rw[<-hm];exact fJ.xom b _ hb)]at h1;rw[<-hX.o];exact h1⟩
 have HHi:U (∀ (f:Nat->Int) (w1:G),aD aO 202 #[I (FL J 256 f),O J b] w1 (zB w1 (I (FL J 256 fun i=>cD b (f i))))):=⟨fun f w1=>rhigh.xla f b w1⟩;have hb1 : 95232<=b/\b<=261888:=by omega
 obtain⟨d,hd⟩:∃ d:Int,2*b=d:=⟨_,rfl⟩;have hd1 : 190464<=d:=by omega
 have hd2:d<=523776:=by omega
 have hdw:J.wrap (2*b)=d:=bB;obtain⟨q,hq⟩:∃ q:Int,(8380416:Int) / d=q:=⟨_,rfl⟩;have hqt:Int.tdiv 8380416 d=q:=by rw[iU (by decide)];exact hq
 have hqm:q-1=m:=by rw[<-hm,<-hq,<-hd]
 have hqw:J.wrap (q-1)=m:=by rw[hqm,iN];omega
 have hq2 : 1<=q/\q<=100:=by rw[<-hq,<-hd];rcases hb with rfl | rfl<;>decide
 clear hX hb hm hm2;have Hcs:U (∀ r,r<=n->(cJ ByteArray.empty X r).data.toList.length<=1000*r):=⟨fun r hr=>by
  induction r with
  | zero=>exact iX _
  | succ r ih=>
   have h1:=ih (by omega);have h2:=HX.o r (by omega);rw[xfk,kK];have h3:(X r).data.toList.length=(X r).size:=rfl;omega⟩
 have hfb:=Lib.fresh_isBuilder 117 5 w;have Hfb:U (Lib.IsBuilder 117 5 w.heap.size w.heap.size (aJ (cJ ByteArray.empty X 0).data.toList) (w.alloc (Y #[aC none,aB none 0 0] 117))):=⟨hfb⟩;have hn8:=hn.2;obtain⟨Rz,HRz⟩:=aQ (cJ ByteArray.empty X n);rw[HRz.o];clear HV hz hsize hg ls hfb hn;go_enter Tryz.func185,Tryz.ntmps185;go_wp2_with fail;clear hc;go_loopw [20] (fun i wr=>∃ r:Nat,r<=n/\i=O J (r:Int)/\U (Lib.IsBuilder 117 5 w.heap.size w.heap.size (aJ (cJ ByteArray.empty X r).data.toList) wr)/\U (zb w wr)) (fun i _=>n-(aG i).toNat)
 case atStart=>exact⟨0,iX _,rfl,Hfb,⟨(iR _ _).alloc (iM _) _⟩⟩
 case round=>
  clear Hfb;obtain⟨r,hr,rfl,Hbd,Hbe⟩:=hrel;by_cases hlt:r<n
  ·have hrz:(r:Int)<(n:Int):=by omega
   have hr8:r<8:=by omega
   have hrg:=xa8 (Hv.o.later Hbe.o) r hlt;have HCa:=D (HCall.o r hlt);have HHa:U (∀ w1:G,aD aO 202 #[I (FL J 256 (p r)),O J b] w1 (zB w1 (I (FL J 256 fun k=>cD b (p r k))))):=⟨HHi.o (p r)⟩;obtain⟨H,HH⟩:=aQ (FL J 256 fun k=>cD b (p r k));rw[HH.o]at HHa HCa;clear HH;obtain⟨F,HF⟩:=aQ (FL J 256 (p r));obtain⟨o6,ho6⟩:=aP (r*256);rw[HF.o,ho6]at hrg;have Hrg:U (∀ w':G,zb wr w'->w'.rangeAt g o6 F.toList):=⟨fun w' hb'=>xa3 hrg (iZ Hg.o Hbe.o.size) hb'⟩;have Fi:=zfi HF Hsize.o;have q5:∀ d os,(Go.Sort.grow (redrawn wr d) os).cell? ⟨gs,6,none⟩=some (O J b):=fun d os=>oP ((Hbe.o.cell (p:=⟨gs,6,none⟩) Hls.o).trans Hc.o) d os
   rw[HF.o]at HHa;have hXs:=HX.o r hlt;have hlen:=Hcs.o r (by omega);have hnext:=xfk X r;obtain⟨Yq,HY⟩:=aQ (X r);rw[HY.o]at HCa hXs hnext;have Hlt:=D hlt;have Hnext:=D hnext;have HXs:=D hXs;have Hlen:=D hlen;clear hrg hlt HF hXs hlen hnext;go_wp2_with fail;refine mA (by kernel_rfl) (by kernel_rfl) ?_;iterate 3 (quiet_step (skip))
   refine xb2 rfl 76 _ rfl g o6 rfl F.toList _ (fun w' hC=>Hrg.o w' (krw.xa5 hC)) zX rfl Fi.o ?_;iterate 5 (quiet_step (skip))
   quiet_step (exact jI (HHa.o _));quiet_step (skip);quiet_step (exact jI (HCa.o _));iterate 5 (quiet_step (skip))
   refine kY ?_;intro w3 hC;have hb3:zb wr w3:=krw.xa5 hC;have Hb3:=D hb3;have hz3:w.heap.size<=w3.heap.size:=jJ Hbe.o.size hb3.size;have Hw:U (aD aO 91 #[aC (some ⟨w.heap.size,0,none⟩),E Yq] w3 fun e w'=>e=.returned (.tuple #[O J Yq.size,.nilIface])/\(Lib.BuilderAt 117 5 w.heap.size w.heap.size (aC (some ⟨w.heap.size,0,none⟩)) (aJ (cJ ByteArray.empty X (r+1)).data.toList) w'/\aF w.heap.size w3 w')):=⟨by
    have hh:=eX.gG w.heap.size w.heap.size (aJ (cJ ByteArray.empty X r).data.toList) Yq w3 (eX.xki Hbd.o hb3) (by
     rw[Lib.byteCells_length];have:=HXs.o;have:=Hlen.o;omega) hz3
    rw[show Lib.strCells Yq=aJ Yq.data.toList from rfl,<-pA,<-Hnext.o]at hh;exact hh⟩
   clear hC hb3 q5;go_wp2_with fail;refine Hw.o.mono ?_;rintro e w4 ⟨rfl,hat,hb4⟩;have Hat:=D hat;have D4:U (zb w w4):=⟨(Hbe.o.trans (Hb3.o.mono Hbe.o.size)).trans hb4⟩;clear hat hb4;go_wp2_with fail;go_roundw
   case rel=>exact⟨r+1,by have:=Hlt.o;omega,by go_num,⟨kO Hat.o⟩,D4⟩
   case measure=>have:=Hlt.o;simp[aG];omega
  ·obtain rfl:r=n:=by omega
   have Hst:U (aD aO 86 #[aC (some ⟨w.heap.size,0,none⟩)] wr fun e w'=>e=.returned (E (cJ ByteArray.empty X r))/\aF w.heap.size wr w'):=⟨by
    have hh:=eX.toText w.heap.size w.heap.size (cJ ByteArray.empty X r).data.toList wr Hbd.o Hbe.o.size;rw[xlq]at hh;exact hh⟩
   rw[HRz.o]at Hst;clear hlt;go_wp2_with fail;refine Hst.o.mono ?_;rintro e w3 ⟨rfl,hb3⟩;have D3:U (zb w w3):=⟨Hbe.o.trans hb3⟩;clear hb3;go_wp2_with fail;go_ret;exact⟨rfl,D3.o⟩
end mgb
namespace vpd
open bF eH
theorem str_eq(x y:ByteArray):(x.toList==y.toList)=decide (y=x):=by
 by_cases h:y=x
 ·rw[jP h,h];exact BEq.rfl
 ·rw[jN h,jV];exact fun h2=>h (WideShapes.bytes_inj (by rw[<-ByteArray.toList_eq,<-ByteArray.toList_eq];exact h2.symm))
theorem us_in(b y x:Int)(hb:b=95232\/b=261888) : 0<=us b y x/\us b y x<=8380416 / (2*b)-1:=by
 have h:=fJ.xom b x hb;have hq : 1<=8380416 / (2*b):=by rcases hb with rfl | rfl<;>decide
 have h1:=lK (cD b x+1) (show 8380416 / (2*b)≠0 by omega);have h2:=kX (cD b x+1) (show 0<8380416 / (2*b) by omega);have h3:=lK (cD b x+8380416 / (2*b)-1) (show 8380416 / (2*b)≠0 by omega);have h4:=kX (cD b x+8380416 / (2*b)-1) (show 0<8380416 / (2*b) by omega);unfold us;split
 ·split
  ·exact h
  ·split<;>omega
 ·omega
def row(ζ : Nat->Int)(b:Int)(c wf hf h:Nat->Int):Nat->Int:=fun k=>us b (h k) ((wf k-one ζ c (fun k=>(hf k*8192)%8380417) k)%8380417)
end vpd
namespace ruse
open arr mem bD aT aV bF rpart
theorem us_bad{g:Int}(hg:okg g=false)(h x:Int):us g h x=0:=by unfold us;rw[iQ (by rw[hg];decide)]
theorem built0:aO.built 76 []=some (FL J 256 fun _=>0):=by kernel_rfl
theorem xz6(hf f:Nat->Int)(g:Int)(hg:okg g=false)(w:G):
 aD aO 90 #[I (FL J 256 hf),I (FL J 256 f),O J g] w (zB w (I (FL J 256 fun i=>us g (hf i) (f i)))):=by
 have e0:FL J 256 (fun i=>us g (hf i) (f i))=FL J 256 fun _=>0:=xc1 _ _ fun i _=>us_bad hg _ _
 rw[e0];clear e0;obtain⟨hz,hsize⟩:=iY aX;have hb:=built0;obtain⟨z,HZ⟩:=aQ (FL J 256 fun _=>0);rw[HZ.o]at hz hb;have Zi:=eE HZ hsize;have Zo:=eJ HZ;obtain⟨Iq,HI⟩:=aQ (FL J 256 f);obtain⟨Jq,HJ⟩:=aQ (FL J 256 hf);rw[HZ.o,HI.o,HJ.o];clear hsize;have Hb:=D hb;clear hb;have Hg:=xeu g;rw[hg]at Hg;go_enter Tryz.func90,Tryz.ntmps90;go_wp2_with fail;refine(Hg _).mono ?_;rintro e w1 ⟨rfl,rfl⟩;obtain⟨W,hW⟩:=aP (((w.alloc (Y Jq 76)).alloc (Y Iq 76)).alloc (Y z 76));obtain⟨b0,b1,b2,hWs,hWb⟩:=three hW;rw[hW];clear hW;go_wp2_with (first
  | (refine xsj rfl 76 _ rfl z Hb.o ?_)
  | (refine iS rfl 76 _ _ rfl (w.heap.size+2) z rfl rfl 76 _ b2 Zi.o rfl Zo.o ?_))
 refine iV (v:=I z) (jC rfl _ _ (w.heap.size+2) 76 _ (0,0) _ rfl (jD _ _ _ _ _ _ b2) zX rfl Zi.o) rfl ?_;exact⟨rfl,hWb.trans (below_setRow _ _ _ (by omega))⟩
theorem xz5(hf f:Nat->Int)(w:G):
 aD aO 90 #[I (FL J 256 hf),I (FL J 256 f),O J 95232] w (zB w (I (FL J 256 fun i=>us 95232 (hf i) (f i)))):=by
 obtain⟨hz,hsize⟩:=iY aX;obtain⟨z,HZ⟩:=aQ (FL J 256 fun _=>0);rw[HZ.o]at hz;have Hzs:=dP HZ;obtain⟨F,HF⟩:∃ F:Nat->Int,U (F=fun i=>us 95232 (hf i) (f i)):=⟨_,⟨rfl⟩⟩;have HFi:U (∀ i,F i=us 95232 (hf i) (f i)):=⟨fun i=>by rw[HF.o]⟩;rw[<-HF.o];clear HF;have sz:∀ h:Nat->Int,(aO.info? 76).map (·.size)=some (FL J 256 h).size:=fun h=>by rw[cC];exact hsize
 obtain⟨R,HR⟩:=aQ (FL J 256 F);have Ri:U ((aO.info? 76).map (·.size)=some R.size):=⟨by rw[<-HR.o];exact sz _⟩;have Ro:=eJ HR;have Rz:=gJ Hzs HR;obtain⟨Iq,HI⟩:=aQ (FL J 256 f);have Ii:U ((aO.info? 76).map (·.size)=some Iq.size):=⟨by rw[<-HI.o];exact sz _⟩;obtain⟨Jq,HJ⟩:=aQ (FL J 256 hf);rw[HR.o,HI.o,HJ.o];clear hsize sz;have Hg:∀ w1:G,aD aO 103 #[O J 95232] w1 (zE w1 (.bool true)):=fun w1=>by have h:=xeu 95232 w1;rw[xb5]at h;exact h
 have Hix:U (∀ (i:Nat),i<256->∀ w1:G,(aN 76 (I Iq) (O J (i:Int))).run aO w1=.ok (O J (f i)) w1):=⟨fun i hi w1=>by rw[<-HI.o];exact xev f i hi w1⟩;have Hpart:=D xf1;go_enter Tryz.func90,Tryz.ntmps90;go_wp2_with fail;refine(Hg _).mono ?_;rintro e w1 ⟨rfl,rfl⟩;go_wp2_with fail;clear hz;obtain⟨W,hW⟩:=aP (((w.alloc (Y Jq 76)).alloc (Y Iq 76)).alloc (Y z 76));obtain⟨b0,b1,b2,hWs,hWb⟩:=three hW;rw[hW];clear hW;have B0:U (W.heap[w.heap.size]? = some (Y (FL J 256 hf) 76 (0,0))):=⟨by rw[HJ.o];exact b0⟩;have B1:=D b1;have B2:=D b2;have HWs:U (w.heap.size+3<=W.heap.size):=⟨by omega⟩;have HWb:=D hWb;clear hWs hWb b0 b1 b2;refine nC 76 _ rfl (w.heap.size+1) rfl 76 Iq (0,0) _ B1.o zX rfl Ii.o ?_;go_wp2_with fail;go_loopw [20] (fun v wr=>∃ i:Nat,i<=256/\v=O J (i:Int)/\U (At (w.heap.size+1) (FL J 256 (pt F f i)) 76 W wr)) (fun v _=>256-(aG v).toNat)
 case atStart=>exact⟨0,iX _,rfl,⟨by rw[xbf,HI.o];exact At.refl B1.o⟩⟩
 case round=>
  obtain⟨i,hi,rfl,A0⟩:=hrel;by_cases hlt:i<256
  ·have hiz:(i:Int)<256:=by omega
   have hx0:=Hix.o i hlt wr;obtain⟨x,hx⟩:=aP (f i);rw[hx]at hx0;obtain⟨y,hy⟩:=aP (hf i);have cy:wr.cell? ⟨w.heap.size,i,none⟩=some (O J y):=by rw[<-hy];exact fZ (A0.o.other (by have:=HWs.o;omega) (by omega) B0.o) i hlt
   have HV:U (F i=us 95232 y x):=⟨by rw[HFi.o,hx,hy]⟩;have Hp:=Hpart.o x 95232;have hb:=bF.xeb x;have HU0:U (us 95232 y x=if y=0 then cD 95232 x else if 0<lw 95232 x then (cD 95232 x+1)%44 else (cD 95232 x+44-1)%44):=⟨by unfold us;rw[iP xb5];rfl⟩;obtain⟨h0,hh0⟩:=aQ (cD 95232 x);obtain⟨l0,hl0⟩:=aQ (lw 95232 x);rw[hh0.o,hl0.o]at Hp HU0 hb;have hbb:=hb.1;have hbc:=hb.2.1;clear hx hy hb hh0 hl0;by_cases h1:y=0
   ·have h1b:(y==0)=true:=by rw[h1];rfl
    have HU:U (aT.upd (pt F f i) i h0=pt F f (i+1)):=⟨xa1 F f i h0 (by rw[HV.o,HU0.o,iP h1])⟩;clear h1 HV HU0 hbb hbc;go_wp2_with fail;refine(Hp _).mono ?_;rintro e wx ⟨rfl,rfl⟩;go_wp2_with ((with_reducible refine cU A0 rfl _ _ _ rfl rfl ?_);refine⟨_,_,_,rfl,rfl,rfl,by rw[cC];exact hlt,?_⟩;intro wn A2;rw[eV,HU.o]at A2);go_roundw
    case rel=>exact⟨i+1,by omega,by go_num,A2⟩
    case measure=>simp[aG];omega
   ·have h1b:(y==0)=false:=jV.2 h1;by_cases h2 : 0<l0
    ·obtain⟨n,hn⟩:=aP (h0+1);have f1:J.wrap (h0+1)=n:=bB;obtain⟨v,hv⟩:=aP (n%44);have f2:n.tmod 44=v:=by rw[jB (by omega)];exact hv
     have f4:n%44=v:=hv;have f3:J.wrap v=v:=bB;have HU:U (aT.upd (pt F f i) i v=pt F f (i+1)):=⟨xa1 F f i v (by rw[HV.o,HU0.o,iQ h1,iP h2,hn,hv])⟩;have hn0 : 0<=n:=by omega
     clear h1 HV HU0 hbb hbc hn hv;go_wp2_with fail;refine(Hp _).mono ?_;rintro e wx ⟨rfl,rfl⟩;go_wp2_with ((with_reducible refine cU A0 rfl _ _ _ rfl rfl ?_);refine⟨_,_,_,rfl,rfl,rfl,by rw[cC];exact hlt,?_⟩;intro wn A2;rw[eV,HU.o]at A2);go_roundw
     case rel=>exact⟨i+1,by omega,by go_num,A2⟩
     case measure=>simp[aG];omega
    ·obtain⟨m,hm⟩:=aP (h0+44);have f0:J.wrap (h0+44)=m:=bB;obtain⟨n,hn⟩:=aP (m-1);have f1:J.wrap (m-1)=n:=bB;obtain⟨v,hv⟩:=aP (n%44);have f2:n.tmod 44=v:=by rw[jB (by omega)];exact hv
     have f4:n%44=v:=hv;have f3:J.wrap v=v:=bB;have HU:U (aT.upd (pt F f i) i v=pt F f (i+1)):=⟨xa1 F f i v (by rw[HV.o,HU0.o,iQ h1,iQ h2,hm,hn,hv])⟩;have hn0 : 0<=n:=by omega
     clear h1 HV HU0 hbb hbc hn hv hm;go_wp2_with fail;refine(Hp _).mono ?_;rintro e wx ⟨rfl,rfl⟩;go_wp2_with ((with_reducible refine cU A0 rfl _ _ _ rfl rfl ?_);refine⟨_,_,_,rfl,rfl,rfl,by rw[cC];exact hlt,?_⟩;intro wn A2;rw[eV,HU.o]at A2);go_roundw
     case rel=>exact⟨i+1,by omega,by go_num,A2⟩
     case measure=>simp[aG];omega
  ·obtain rfl:i=256:=by omega
   simp only[jE];rw[xbc,HR.o]at A0;have Hrow:=D A0.o.row;have Hres:U (wr.heap[w.heap.size+2]? = some (Y z 76 (0,0))):=⟨A0.o.other (by have:=HWs.o;omega) (by omega) B2.o⟩;have HB:U (zb w wr):=⟨HWb.o.trans (A0.o.below (by have:=HWs.o;omega) (by omega))⟩;clear A0;go_wp2_with (first
    | (refine iL rfl 76 _ rfl (w.heap.size+1) rfl 76 R (0,0) _ Hrow.o zX rfl Ri.o ?_)
    | (refine iS rfl 76 _ _ rfl (w.heap.size+2) R rfl rfl 76 _ Hres.o Ri.o Rz.o Ro.o ?_))
   refine iV (v:=I R) (jC rfl _ _ (w.heap.size+2) 76 _ (0,0) _ rfl (jD _ _ _ _ _ _ Hres.o) zX rfl Ri.o) rfl ?_;exact⟨rfl,HB.o.trans (below_setRow _ _ _ (by omega))⟩
theorem xz4(hf f:Nat->Int)(w:G):
 aD aO 90 #[I (FL J 256 hf),I (FL J 256 f),O J 261888] w (zB w (I (FL J 256 fun i=>us 261888 (hf i) (f i)))):=by
 obtain⟨hz,hsize⟩:=iY aX;obtain⟨z,HZ⟩:=aQ (FL J 256 fun _=>0);rw[HZ.o]at hz;have Hzs:=dP HZ;obtain⟨F,HF⟩:∃ F:Nat->Int,U (F=fun i=>us 261888 (hf i) (f i)):=⟨_,⟨rfl⟩⟩;have HFi:U (∀ i,F i=us 261888 (hf i) (f i)):=⟨fun i=>by rw[HF.o]⟩;rw[<-HF.o];clear HF;have sz:∀ h:Nat->Int,(aO.info? 76).map (·.size)=some (FL J 256 h).size:=fun h=>by rw[cC];exact hsize
 obtain⟨R,HR⟩:=aQ (FL J 256 F);have Ri:U ((aO.info? 76).map (·.size)=some R.size):=⟨by rw[<-HR.o];exact sz _⟩;have Ro:=eJ HR;have Rz:=gJ Hzs HR;obtain⟨Iq,HI⟩:=aQ (FL J 256 f);have Ii:U ((aO.info? 76).map (·.size)=some Iq.size):=⟨by rw[<-HI.o];exact sz _⟩;obtain⟨Jq,HJ⟩:=aQ (FL J 256 hf);rw[HR.o,HI.o,HJ.o];clear hsize sz;have Hg:∀ w1:G,aD aO 103 #[O J 261888] w1 (zE w1 (.bool true)):=fun w1=>by have h:=xeu 261888 w1;rw[xcg]at h;exact h
 have Hix:U (∀ (i:Nat),i<256->∀ w1:G,(aN 76 (I Iq) (O J (i:Int))).run aO w1=.ok (O J (f i)) w1):=⟨fun i hi w1=>by rw[<-HI.o];exact xev f i hi w1⟩;have Hpart:=D xf1;go_enter Tryz.func90,Tryz.ntmps90;go_wp2_with fail;refine(Hg _).mono ?_;rintro e w1 ⟨rfl,rfl⟩;go_wp2_with fail;clear hz;obtain⟨W,hW⟩:=aP (((w.alloc (Y Jq 76)).alloc (Y Iq 76)).alloc (Y z 76));obtain⟨b0,b1,b2,hWs,hWb⟩:=three hW;rw[hW];clear hW;have B0:U (W.heap[w.heap.size]? = some (Y (FL J 256 hf) 76 (0,0))):=⟨by rw[HJ.o];exact b0⟩;have B1:=D b1;have B2:=D b2;have HWs:U (w.heap.size+3<=W.heap.size):=⟨by omega⟩;have HWb:=D hWb;clear hWs hWb b0 b1 b2;refine nC 76 _ rfl (w.heap.size+1) rfl 76 Iq (0,0) _ B1.o zX rfl Ii.o ?_;go_wp2_with fail;go_loopw [20] (fun v wr=>∃ i:Nat,i<=256/\v=O J (i:Int)/\U (At (w.heap.size+1) (FL J 256 (pt F f i)) 76 W wr)) (fun v _=>256-(aG v).toNat)
 case atStart=>exact⟨0,iX _,rfl,⟨by rw[xbf,HI.o];exact At.refl B1.o⟩⟩
 case round=>
  obtain⟨i,hi,rfl,A0⟩:=hrel;by_cases hlt:i<256
  ·have hiz:(i:Int)<256:=by omega
   have hx0:=Hix.o i hlt wr;obtain⟨x,hx⟩:=aP (f i);rw[hx]at hx0;obtain⟨y,hy⟩:=aP (hf i);have cy:wr.cell? ⟨w.heap.size,i,none⟩=some (O J y):=by rw[<-hy];exact fZ (A0.o.other (by have:=HWs.o;omega) (by omega) B0.o) i hlt
   have HV:U (F i=us 261888 y x):=⟨by rw[HFi.o,hx,hy]⟩;have Hp:=Hpart.o x 261888;have hb:=bF.xea x;have HU0:U (us 261888 y x=if y=0 then cD 261888 x else if 0<lw 261888 x then (cD 261888 x+1)%16 else (cD 261888 x+16-1)%16):=⟨by unfold us;rw[iP xcg];rfl⟩;obtain⟨h0,hh0⟩:=aQ (cD 261888 x);obtain⟨l0,hl0⟩:=aQ (lw 261888 x);rw[hh0.o,hl0.o]at Hp HU0 hb;have hbb:=hb.1;have hbc:=hb.2.1;clear hx hy hb hh0 hl0;by_cases h1:y=0
   ·have h1b:(y==0)=true:=by rw[h1];rfl
    have HU:U (aT.upd (pt F f i) i h0=pt F f (i+1)):=⟨xa1 F f i h0 (by rw[HV.o,HU0.o,iP h1])⟩;clear h1 HV HU0 hbb hbc;go_wp2_with fail;refine(Hp _).mono ?_;rintro e wx ⟨rfl,rfl⟩;go_wp2_with ((with_reducible refine cU A0 rfl _ _ _ rfl rfl ?_);refine⟨_,_,_,rfl,rfl,rfl,by rw[cC];exact hlt,?_⟩;intro wn A2;rw[eV,HU.o]at A2);go_roundw
    case rel=>exact⟨i+1,by omega,by go_num,A2⟩
    case measure=>simp[aG];omega
   ·have h1b:(y==0)=false:=jV.2 h1;by_cases h2 : 0<l0
    ·obtain⟨n,hn⟩:=aP (h0+1);have f1:J.wrap (h0+1)=n:=bB;obtain⟨v,hv⟩:=aP (n%16);have f2:n.tmod 16=v:=by rw[jB (by omega)];exact hv
     have f4:n%16=v:=hv;have f3:J.wrap v=v:=bB;have HU:U (aT.upd (pt F f i) i v=pt F f (i+1)):=⟨xa1 F f i v (by rw[HV.o,HU0.o,iQ h1,iP h2,hn,hv])⟩;have hn0 : 0<=n:=by omega
     clear h1 HV HU0 hbb hbc hn hv;go_wp2_with fail;refine(Hp _).mono ?_;rintro e wx ⟨rfl,rfl⟩;go_wp2_with ((with_reducible refine cU A0 rfl _ _ _ rfl rfl ?_);refine⟨_,_,_,rfl,rfl,rfl,by rw[cC];exact hlt,?_⟩;intro wn A2;rw[eV,HU.o]at A2);go_roundw
     case rel=>exact⟨i+1,by omega,by go_num,A2⟩
     case measure=>simp[aG];omega
    ·obtain⟨m,hm⟩:=aP (h0+16);have f0:J.wrap (h0+16)=m:=bB;obtain⟨n,hn⟩:=aP (m-1);have f1:J.wrap (m-1)=n:=bB;obtain⟨v,hv⟩:=aP (n%16);have f2:n.tmod 16=v:=by rw[jB (by omega)];exact hv
     have f4:n%16=v:=hv;have f3:J.wrap v=v:=bB;have HU:U (aT.upd (pt F f i) i v=pt F f (i+1)):=⟨xa1 F f i v (by rw[HV.o,HU0.o,iQ h1,iQ h2,hm,hn,hv])⟩;have hn0 : 0<=n:=by omega
     clear h1 HV HU0 hbb hbc hn hv hm;go_wp2_with fail;refine(Hp _).mono ?_;rintro e wx ⟨rfl,rfl⟩;go_wp2_with ((with_reducible refine cU A0 rfl _ _ _ rfl rfl ?_);refine⟨_,_,_,rfl,rfl,rfl,by rw[cC];exact hlt,?_⟩;intro wn A2;rw[eV,HU.o]at A2);go_roundw
     case rel=>exact⟨i+1,by omega,by go_num,A2⟩
     case measure=>simp[aG];omega
  ·obtain rfl:i=256:=by omega
   simp only[jE];rw[xbc,HR.o]at A0;have Hrow:=D A0.o.row;have Hres:U (wr.heap[w.heap.size+2]? = some (Y z 76 (0,0))):=⟨A0.o.other (by have:=HWs.o;omega) (by omega) B2.o⟩;have HB:U (zb w wr):=⟨HWb.o.trans (A0.o.below (by have:=HWs.o;omega) (by omega))⟩;clear A0;go_wp2_with (first
    | (refine iL rfl 76 _ rfl (w.heap.size+1) rfl 76 R (0,0) _ Hrow.o zX rfl Ri.o ?_)
    | (refine iS rfl 76 _ _ rfl (w.heap.size+2) R rfl rfl 76 _ Hres.o Ri.o Rz.o Ro.o ?_))
   refine iV (v:=I R) (jC rfl _ _ (w.heap.size+2) 76 _ (0,0) _ rfl (jD _ _ _ _ _ _ Hres.o) zX rfl Ri.o) rfl ?_;exact⟨rfl,HB.o.trans (below_setRow _ _ _ (by omega))⟩
theorem xnb(hf f:Nat->Int)(g:Int)(w:G):
 aD aO 90 #[I (FL J 256 hf),I (FL J 256 f),O J g] w (zB w (I (FL J 256 fun i=>us g (hf i) (f i)))):=by
 cases h:okg g
 ·exact xz6 hf f g h w
 ·rcases xlz h with rfl | rfl
  ·exact xz5 hf f w
  ·exact xz4 hf f w
end ruse
namespace fsub
open arr mem bD aT aV bE fP
theorem xhq(f g:Nat->Int)(w:G):
 aD aO 88 #[I (FL J 256 f),I (FL J 256 g)] w (zB w (I (FL J 256 fun i=>(f i-g i)%8380417))):=by
 obtain⟨hz,hsize⟩:=iY aX;obtain⟨z,HZ⟩:=aQ (FL J 256 fun _=>0);rw[HZ.o]at hz;have Hzs:=dP HZ;obtain⟨F,HF⟩:∃ F:Nat->Int,U (F=fun i=>(f i-g i)%8380417):=⟨_,⟨rfl⟩⟩;have hFi:∀ i,F i=(fun i=>(f i-g i)%8380417) i:=fun i=>by rw[HF.o]
 have HFi:=D hFi;rw[<-HF.o];clear HF hFi;obtain⟨R,HR⟩:=aQ (FL J 256 F);have Ri:=eE HR hsize;have Ro:=eJ HR;have Rz:=gJ Hzs HR;rw[HR.o];have Hred:=D eU;clear hsize;go_enter Tryz.func88,Tryz.ntmps88;go_wp2_with fail;clear hz;obtain⟨W,hW⟩:=aP (((w.alloc (Y (FL J 256 f) 76)).alloc (Y (FL J 256 g) 76)).alloc (Y z 76));obtain⟨b0,b1,b2,hWs,hWb⟩:=three hW;rw[hW];clear hW;have B0:=D b0;have B1:=D b1;have BR:=D b2;have HWs:U (w.heap.size+3<=W.heap.size):=⟨by omega⟩;have HWb:=D hWb;clear hWs hWb b0 b1 b2;go_loopw [6] (fun v wr=>∃ i:Nat,i<=256/\v=O J (i:Int)/\U (At w.heap.size (FL J 256 (pt F f i)) 76 W wr)) (fun v _=>256-(aG v).toNat)
 case atStart=>exact⟨0,iX _,rfl,⟨by rw[xbf];exact At.refl B0.o⟩⟩
 case round=>
  obtain⟨i,hi,rfl,A0⟩:=hrel;by_cases hlt:i<256
  ·have hiz:(i:Int)<256:=by omega
   obtain⟨x,hx⟩:=aP (f i);have ca:wr.cell? ⟨w.heap.size,i,none⟩=some (O J x):=by
    have h9:=fZ A0.o.row i hlt;rw[xc5,hx]at h9;exact h9
   obtain⟨y,hy⟩:=aP (g i);have cb:wr.cell? ⟨w.heap.size+1,i,none⟩=some (O J y):=by
    rw[<-hy];exact fZ (A0.o.other (by have:=HWs.o;omega) (by omega) B1.o) i hlt
   have HV:U (F i=(x-y)%8380417):=⟨by rw[HFi.o,hx,hy]⟩;obtain⟨x1,hx1⟩:=aQ (x%8380417);obtain⟨y1,hy1⟩:=aQ (y%8380417);have hs:J.wrap (x1-y1)=x1-y1:=by rw[<-hx1.o,<-hy1.o,iN];omega
   obtain⟨s,hs1⟩:=aQ (x1-y1);have hs2:s%8380417=F i:=by rw[HV.o,<-hs1.o,<-hx1.o,<-hy1.o];omega
   obtain⟨v,hv⟩:=aQ (s%8380417);have Hx:∀ w1:G,aD aO 137 #[O J x] w1 (zE w1 (O J x1)):=fun w1=>by rw[<-hx1.o];exact eU x w1
   have Hy:∀ w1:G,aD aO 137 #[O J y] w1 (zE w1 (O J y1)):=fun w1=>by rw[<-hy1.o];exact eU y w1
   have Hs:∀ w1:G,aD aO 137 #[O J (x1-y1)] w1 (zE w1 (O J v)):=fun w1=>by rw[hs1.o,<-hv.o];exact eU s w1
   have HU:U (upd (pt F f i) i v=pt F f (i+1)):=⟨xa1 F f i v (by rw[<-hv.o,hs2])⟩;clear hy hs2;clear hx;go_wp2_with fail;refine gZ 12 (by kernel_rfl) (by kernel_rfl) ?_;simp only[jH,jU,iW,jK];repeat still_step
   still_call (Hx _)
   repeat still_step
   still_call (Hy _)
   repeat still_step
   still_call (Hs _)
   repeat still_step
   refine jR ?_;clear cb;clear ca;have A1:U (At w.heap.size (FL J 256 (pt F f i)) 76 W wr.drew):=⟨eN A0.o⟩;clear A0
   with_reducible refine cU A1 rfl _ _ _ rfl rfl ?_
   refine⟨_,_,_,rfl,rfl,rfl,by rw[cC];exact hlt,?_⟩;intro wn HR;rw[eV,HU.o]at HR;go_wp2_with fail;go_roundw
   case rel=>exact⟨i+1,by omega,by go_num,HR⟩
   case measure=>simp[aG];omega
  ·obtain rfl:i=256:=by omega
   simp only[jE];rw[xbc,HR.o]at A0;have Hrow:=D A0.o.row;have Hres:U (wr.heap[w.heap.size+2]? = some (Y z 76 (0,0))):=⟨A0.o.other (by have:=HWs.o;omega) (by omega) BR.o⟩;have HB:U (zb w wr):=⟨HWb.o.trans (A0.o.below (by have:=HWs.o;omega) (iM _))⟩;clear A0;go_wp2_with (first
    | (refine iL rfl 76 _ rfl w.heap.size rfl 76 R (0,0) _ Hrow.o zX rfl Ri.o ?_)
    | (refine iS rfl 76 _ _ rfl (w.heap.size+2) R rfl rfl 76 _ Hres.o Ri.o Rz.o Ro.o ?_))
   refine iV (v:=I R) (jC rfl _ _ (w.heap.size+2) 76 _ (0,0) _ rfl (jD _ _ _ _ _ _ Hres.o) zX rfl Ri.o) rfl ?_;exact⟨rfl,HB.o.trans (below_setRow _ _ _ (by omega))⟩
end fsub
namespace pvar
open arr mem aT aV vary varyn
theorem fQ(ρ : Operand->aE)(o:Oper)(w1:G)(ho:o.op=.alloc 76):(execOp ρ o).run aO w1=.ok (.value (ptr w1.heap.size)) (w1.alloc (Y (FL J 256 fun _=>0) 76)):=by
 obtain⟨hz,-⟩:=iY aX;generalize (FL J 256 fun _=>0)=z at hz ⊢;unfold execOp;simp only[ho];go_simp
 rfl
def vrP(m s ke d e:Nat):Vr:=⟨m,s,ke,d,e,76,FL J 256 fun _=>0⟩
theorem iA(f:Nat->Int):Fits aO 76 (FL J 256 fun _=>0) (FL J 256 f):=⟨by rw[cC];exact(iY aX).2,by rw[cC,cC],xbj _ _ _⟩
theorem built0:aO.built 76 []=some (FL J 256 fun _=>0):=by kernel_rfl
end pvar
namespace vpb
open arr mem bD aT aV bS cY bF bQ dD bM bZ dJ eH cZ bU bT dN dW eM aW aY bA bL bY cG dQ vary varyn varye pvar qops mgb vpd
theorem xyn{P:aI}{a:Act}{w:G}{Q:Exit->Act->G->Prop}{c y:Code}(l:Nat)(Jq:Act->G->Prop)(μ : Act->G->Nat)(hf:findLabel c l=some (.seq .skip y))
 (first:(∀ a w,Jq a w->y.wp P (Exit.jump l Jq Q) a w)->c.wp P (Exit.jump l Jq Q) a w)
 (pass:∀ a w,Jq a w->y.wp P (Exit.jump l (fun a' w'=>Jq a' w' /\ μ a' w' < μ a w) Q) a w):(Code.scope c).wp P Q a w:=
 wp_scope_jumps l Jq μ hf (first fun a w h=>wp_mono (pass a w h) fun e a' w' hq=>by
  cases e with
  | goto l'=>exact⟨hq.1,hq.2.1⟩
  | _=>exact hq) fun a w h=>wp_seq (wp_skip (pass a w h))
theorem xt3{T:Array aE}(Z:Nat->Int)(gt n:Nat)(b:Int)(vw vk vh:aE)(Bw Bk Bh:Nat)(wf kf hf:Nat->Nat->Int)(c:Nat->Int)(w:G)(hT:cE.ZT T Z)(hb:b=95232\/b=261888)(hn : 1<=n/\n<=8)(hrow:w.heap[gt]? = some (Y T 34 (0,0)))(HWv:Holds w Bw vw n wf)(HKv:Holds w Bk vk n kf)(HHv:Holds w Bh vh n hf):
 aD aO 35 #[aC (some ⟨gt,0,none⟩),O J b,vw,vk,vh,I (FL J 256 c)] w (zB w (E (cJ ByteArray.empty (fun i=>packed (row (fun k=>Z k%8380417) b c (wf i) (kf i) (hf i)) (8380416 / (2*b)-1)) n))):=by
 obtain⟨m,hm⟩:∃ m:Int,(8380416:Int) / (2*b)-1=m:=⟨_,rfl⟩;have hm2 : 1<=m/\m<8380417:=by rcases hb with rfl | rfl<;>omega
 obtain⟨ζ,hζ⟩:∃ ζ : Nat->Int,(fun k=>Z k%8380417) = ζ := ⟨_,rfl⟩;rw[hζ];obtain⟨X,hX⟩:=aQ (fun i=>packed (row ζ b c (wf i) (kf i) (hf i)) m);have HX:U (∀ i,i<n->(X i).size<=1000):=⟨fun i _=>by rw[<-hX.o,xcy,<-hm];rcases hb with rfl | rfl<;>decide +kernel⟩;rw[hm,hX.o];obtain⟨hz,hsize⟩:=iY aV.aX;have Hsize:=D hsize;have HTz:U ((aO.info? 34).map (·.size)=some T.size):=⟨by rw[hT.size];kernel_rfl⟩;obtain⟨gw,cw,hv1,hgw⟩:=gD HWv;subst hv1;obtain⟨gk,ck,hv2,hgk⟩:=gD HKv;subst hv2;obtain⟨gh,ch,hv3,hgh'⟩:=gD HHv;subst hv3;have HTc:U (∀ w1:G,aD aO 79 #[I T,I (FL J 256 c)] w1 (zB w1 (I (FL J 256 (aS ζ 8 c))))):=⟨fun w1=>by rw[<-hζ];exact cE.xdp T Z c w1 hT⟩;have HSc:U (∀ i,∀ w1:G,aD aO 87 #[I (FL J 256 (kf i)),O J 8192] w1 (zB w1 (I (FL J 256 fun k=>(kf i k*8192)%8380417)))):=⟨fun i w1=>fscale.xf9 _ _ w1⟩;have HTr:U (∀ i,∀ w1:G,aD aO 79 #[I T,I (FL J 256 fun k=>(kf i k*8192)%8380417)] w1 (zB w1 (I (FL J 256 (aS ζ 8 fun k=>(kf i k*8192)%8380417))))):=⟨fun i w1=>by rw[<-hζ];exact cE.xdp T Z _ w1 hT⟩;have HTm:U (∀ i,∀ w1:G,aD aO 81 #[I (FL J 256 (aS ζ 8 c)),I (FL J 256 (aS ζ 8 fun k=>(kf i k*8192)%8380417))] w1 (zB w1 (I (FL J 256 fun k=>(aS ζ 8 c k*aS ζ 8 (fun k=>(kf i k*8192)%8380417) k)%8380417)))):=⟨fun i w1=>ntimes.xcp _ _ w1⟩;have HBk:U (∀ i,∀ w1:G,aD aO 82 #[I T,I (FL J 256 fun k=>(aS ζ 8 c k*aS ζ 8 (fun k=>(kf i k*8192)%8380417) k)%8380417)] w1 (zB w1 (I (FL J 256 (one ζ c fun k=>(kf i k*8192)%8380417))))):=⟨fun i w1=>by have h1:=nback.xfg T Z (fun k=>(aS ζ 8 c k*aS ζ 8 (fun k=>(kf i k*8192)%8380417) k)%8380417) w1 hT;rw[hζ]at h1;exact h1⟩
 have HSu:U (∀ i,∀ w1:G,aD aO 88 #[I (FL J 256 (wf i)),I (FL J 256 (one ζ c fun k=>(kf i k*8192)%8380417))] w1 (zB w1 (I (FL J 256 fun k=>(wf i k-one ζ c (fun k=>(kf i k*8192)%8380417) k)%8380417)))):=⟨fun i w1=>fsub.xhq _ _ w1⟩;have HUs:U (∀ i,∀ w1:G,aD aO 90 #[I (FL J 256 (hf i)),I (FL J 256 fun k=>(wf i k-one ζ c (fun k=>(kf i k*8192)%8380417) k)%8380417),O J b] w1 (zB w1 (I (FL J 256 (row ζ b c (wf i) (kf i) (hf i)))))):=⟨fun i w1=>ruse.xnb _ _ b w1⟩;have HPk:U (∀ i,∀ w1:G,aD aO 89 #[I (FL J 256 (row ζ b c (wf i) (kf i) (hf i))),O J m] w1 (zB w1 (aA #[E (X i),O J 0]))):=⟨fun i w1=>by
  have h1:=ppack.xd7 (row ζ b c (wf i) (kf i) (hf i)) m w1 hm2.1 hm2.2;rw[iP (show fK (row ζ b c (wf i) (kf i) (hf i)) m from fun k _=>by rw[<-hm];exact us_in b _ _ hb)]at h1;rw[<-hX.o];exact h1⟩
 have Hcs:U (∀ r,r<=n->(cJ ByteArray.empty X r).data.toList.length<=1000*r):=⟨fun r hr=>by
  induction r with
  | zero=>exact iX _
  | succ r ih=>
   have h1:=ih (by omega);have h2:=HX.o r (by omega);rw[xfk,kK];have h3:(X r).data.toList.length=(X r).size:=rfl;omega⟩
 have hb1 : 95232<=b/\b<=261888:=by omega
 obtain⟨d,hd⟩:∃ d:Int,2*b=d:=⟨_,rfl⟩;have hd1 : 190464<=d:=by omega
 have hd2:d<=523776:=by omega
 have hdw:J.wrap (2*b)=d:=bB;obtain⟨q,hq⟩:∃ q:Int,(8380416:Int) / d=q:=⟨_,rfl⟩;have hqt:Int.tdiv 8380416 d=q:=by rw[iU (by decide)];exact hq
 have hqm:q-1=m:=by rw[<-hm,<-hq,<-hd]
 have hqw:J.wrap (q-1)=m:=by rw[hqm,iN];omega
 have hq2 : 1<=q/\q<=100:=by rw[<-hq,<-hd];rcases hb with rfl | rfl<;>decide
 clear hX hb hm hm2;obtain⟨Rz,HRz⟩:=aQ (cJ ByteArray.empty X n);rw[HRz.o];obtain⟨C0,HC0⟩:=aQ (FL J 256 c);obtain⟨C8,HC8⟩:=aQ (FL J 256 (aS ζ 8 c));rw[HC0.o,HC8.o]at HTc;rw[HC8.o]at HTm;have C0i:=eE HC0 hsize;have C8i:=eE HC8 hsize;have C8o:=eJ HC8;have C08:U (C0.size=C8.size):=⟨by rw[<-HC0.o,<-HC8.o,cC,cC]⟩;rw[HC0.o];obtain⟨W,hW⟩:=aP (w.alloc (Y C0 76));obtain⟨r0,hWs,b0⟩:=one hW;have TW:U (W.heap[gt]? = some (Y T 34 (0,0))):=⟨(b0.block _ (bI hrow)).trans hrow⟩;have R0:=D r0;have B0:=D b0;have HWs:=D hWs;have HW:=D hW;have Hrow:=D hrow;have HWv:=D HWv;have HKv:=D HKv;have HHv:=D HHv;have Hgw:=D hgw;have Hgk:=D hgk;have Hgh:=D hgh';have hn8:=hn.2;obtain⟨Jq,HJ⟩:∃ Jq:Act->G->Prop,U (Jq=fun a' w'=>∃ (r gb:Nat) (W3:G) (u5 u6 u7 u8 u9 u10 u12 u16 u17 u18 u19 u20 u21 u22 u23 u24 u25 u26 u27 u28 u29 u30 u31 u32 u33 u34 u35 u36 u37 u38 u39 u40 u41 u42 u43 u44 u45 u46 u47 u48 u49 u50 u51 u52 u53 u54 u55 u56 u57 u58 u59 u60 u61 u62 u63 u64 u65 u66 u67 u68 u69 u70:aE),a' = { tmps:=#[aC (some ⟨gt,0,none⟩),O J b,aB (some ⟨gw,0,none⟩) n cw,aB (some ⟨gk,0,none⟩) n ck,aB (some ⟨gh,0,none⟩) n ch,u5,u6,u7,u8,u9,u10,aC (some ⟨w.heap.size,0,none⟩),u12,O J m,aC (some ⟨gb,0,none⟩),O J (r:Int),u16,u17,u18,u19,u20,u21,u22,u23,u24,u25,u26,u27,u28,u29,u30,u31,u32,u33,u34,u35,u36,u37,u38,u39,u40,u41,u42,u43,u44,u45,u46,u47,u48,u49,u50,u51,u52,u53,u54,u55,u56,u57,u58,u59,u60,u61,u62,u63,u64,u65,u66,u67,u68,u69,u70],defers:=[] }/\r<=n/\U (Lib.IsBuilder 117 5 gb gb (aJ (cJ ByteArray.empty X r).data.toList) w')/\U (gb=W3.heap.size/\aF gb W3 w'/\zb w W3/\W3.heap[w.heap.size]? = some (Y C8 76 (0,0)))):=⟨_,⟨rfl⟩⟩
 clear hsize hζ hgw hgk hgh' hn hT hrow r0 hWs b0 hW hd hq hqm;go_enter Tryz.func35,Tryz.ntmps35;go_wp2_with fail;refine xyn 0 Jq (fun a' _=>n-(aG (a'.tmps.getD 15 undef)).toNat) rfl ?_ ?_
 ·intro hp;have Hp:=D hp;clear hp;go_wp2_with (rw[HW.o]);refine eQ.xb8 5 (by kernel_rfl) (by kernel_rfl) ?_;iterate 2 (quiet_step (skip))
  refine xa2 rfl 34 _ rfl gt rfl 34 T _ (fun w9 hC=>gM TW.o hC) zY rfl HTz.o ?_;refine xa2 rfl 76 _ rfl w.heap.size rfl 76 C0 _ (fun w9 hC=>gM R0.o hC) zX rfl C0i.o ?_;quiet_step (exact jI (HTc.o _));refine kY ?_;intro wn hC;have hbn:zb W wn:=krw.xa5 hC;have Rn:U (wn.heap[w.heap.size]? = some (Y C0 76 (0,0))):=⟨gM R0.o hC⟩;obtain⟨W3,hW3⟩:=aP (wn.setRow w.heap.size C8);have hB3:zb w W3:=by
   rw[<-hW3];exact(B0.o.trans (hbn.mono B0.o.size)).trans (below_setRow _ _ _ (iM _))
  have r3:W3.heap[w.heap.size]? = some (Y C8 76 (0,0)):=by
   rw[<-hW3];exact jD _ _ _ _ _ _ Rn.o
  have hfb:=Lib.fresh_isBuilder 117 5 W3;obtain⟨gb,hgb⟩:=aP W3.heap.size;have hB4:aF gb W3 (W3.alloc (Y #[aC none,aB none 0 0] 117)):=by rw[<-hgb];exact(iR _ _).alloc (iM _) _
  rw[hgb]at hfb;have HF1:=D hfb;have HF2:=D (jA hgb.symm (jA hB4 (jA hB3 r3)));have Hgb:=D hgb;have HW3:=D hW3;clear hC hbn hW3 hB3 r3 hfb hgb hB4;simp only[iW,jK];go_wp2_with (first
   | (refine iS rfl 76 _ _ rfl w.heap.size C8 rfl rfl 76 _ Rn.o C8i.o C08.o C8o.o ?_)
   | (rw[HW3.o])
   | (rw[Hgb.o]))
  go_step3
  simp only[Exit.then];apply_assumption
  refine Hp.o _ _ ?_;rw[HJ.o];exact⟨0,gb,W3,_,_,_,_,_,_,_,_,_,_,_,_,_,_,_,_,_,_,_,_,_,_,_,_,_,_,_,_,_,_,_,_,_,_,_,_,_,_,_,_,_,_,_,_,_,_,_,_,_,_,_,_,_,_,_,_,_,_,_,_,_,_,rfl,iX _,HF1,HF2⟩
 ·intro a' wr hJ;rw[HJ.o]at hJ;obtain⟨r,gb,W3,u5,u6,u7,u8,u9,u10,u12,u16,u17,u18,u19,u20,u21,u22,u23,u24,u25,u26,u27,u28,u29,u30,u31,u32,u33,u34,u35,u36,u37,u38,u39,u40,u41,u42,u43,u44,u45,u46,u47,u48,u49,u50,u51,u52,u53,u54,u55,u56,u57,u58,u59,u60,u61,u62,u63,u64,u65,u66,u67,u68,u69,u70,rfl,hr,Hbd,Hin⟩:=hJ;have HJi:U (∀ a' w',(∃ (r gb:Nat) (W3:G) (u5 u6 u7 u8 u9 u10 u12 u16 u17 u18 u19 u20 u21 u22 u23 u24 u25 u26 u27 u28 u29 u30 u31 u32 u33 u34 u35 u36 u37 u38 u39 u40 u41 u42 u43 u44 u45 u46 u47 u48 u49 u50 u51 u52 u53 u54 u55 u56 u57 u58 u59 u60 u61 u62 u63 u64 u65 u66 u67 u68 u69 u70:aE),a' = { tmps:=#[aC (some ⟨gt,0,none⟩),O J b,aB (some ⟨gw,0,none⟩) n cw,aB (some ⟨gk,0,none⟩) n ck,aB (some ⟨gh,0,none⟩) n ch,u5,u6,u7,u8,u9,u10,aC (some ⟨w.heap.size,0,none⟩),u12,O J m,aC (some ⟨gb,0,none⟩),O J (r:Int),u16,u17,u18,u19,u20,u21,u22,u23,u24,u25,u26,u27,u28,u29,u30,u31,u32,u33,u34,u35,u36,u37,u38,u39,u40,u41,u42,u43,u44,u45,u46,u47,u48,u49,u50,u51,u52,u53,u54,u55,u56,u57,u58,u59,u60,u61,u62,u63,u64,u65,u66,u67,u68,u69,u70],defers:=[] }/\r<=n/\U (Lib.IsBuilder 117 5 gb gb (aJ (cJ ByteArray.empty X r).data.toList) w')/\U (gb=W3.heap.size/\aF gb W3 w'/\zb w W3/\W3.heap[w.heap.size]? = some (Y C8 76 (0,0))))->Jq a' w'):=⟨fun a' w' h=>by rw[HJ.o];exact h⟩;have BU:U (zb w wr):=⟨Hin.o.2.2.1.trans (Hin.o.2.1.mono (by rw[Hin.o.1];exact Hin.o.2.2.1.size))⟩;have Lc:U (w.heap.size<gb):=⟨by rw[Hin.o.1];exact bI Hin.o.2.2.2⟩
  have Rc:U (wr.heap[w.heap.size]? = some (Y C8 76 (0,0))):=⟨(Hin.o.2.1.block _ Lc.o).trans Hin.o.2.2.2⟩;have Lb:U (gb<=wr.heap.size):=⟨by have h1:=Hin.o.2.1.size;have h2:=Hin.o.1;omega⟩;clear HJ;by_cases hlt:r<n
  ·have hne:((r:Int)==(n:Int))=false:=by simp;omega
   have hne2:¬ (r:Int)=(n:Int):=by omega
   have hrz:(r:Int)<(n:Int):=by omega
   have hr8:r<8:=by omega
   have hrgw:=xa8 (HWv.o.later BU.o) r hlt;have hrgk:=xa8 (HKv.o.later BU.o) r hlt;have hrgh:=xa8 (HHv.o.later BU.o) r hlt;obtain⟨o6,ho6⟩:=aP (r*256);rw[ho6]at hrgw hrgk hrgh;have Trow:U (∀ w':G,zb wr w'->w'.heap[gt]? = some (Y T 34 (0,0))):=⟨fun w' hb=>by
    have h:=BU.o.trans (hb.mono BU.o.size);exact(h.block _ (bI Hrow.o)).trans Hrow.o⟩
   have Crow:U (∀ w':G,zb wr w'->w'.heap[w.heap.size]? = some (Y C8 76 (0,0))):=⟨fun w' hb=>(hb.block _ (bI Rc.o)).trans Rc.o⟩;have HScr:=D (HSc.o r);have HTrr:=D (HTr.o r);have HTmr:=D (HTm.o r);have HBkr:=D (HBk.o r);have HSur:=D (HSu.o r);have HUsr:=D (HUs.o r);have HPkr:=D (HPk.o r);obtain⟨Fk,HFk⟩:=aQ (FL J 256 (kf r));obtain⟨Fw,HFw⟩:=aQ (FL J 256 (wf r));obtain⟨Fh,HFh⟩:=aQ (FL J 256 (hf r));obtain⟨Ak,HAk⟩:=aQ (FL J 256 fun k=>(kf r k*8192)%8380417);obtain⟨Bk',HBk'⟩:=aQ (FL J 256 (aS ζ 8 fun k=>(kf r k*8192)%8380417));have Ft1:U (Fits aO 76 (FL J 256 fun _=>0) (FL J 256 fun k=>(aS ζ 8 c k*aS ζ 8 (fun k=>(kf r k*8192)%8380417) k)%8380417)):=⟨iA _⟩;have Ft2:U (Fits aO 76 (FL J 256 fun _=>0) (FL J 256 fun k=>(wf r k-one ζ c (fun k=>(kf r k*8192)%8380417) k)%8380417)):=⟨iA _⟩;obtain⟨V1,HV1⟩:=aQ (FL J 256 fun k=>(aS ζ 8 c k*aS ζ 8 (fun k=>(kf r k*8192)%8380417) k)%8380417);obtain⟨V2,HV2⟩:=aQ (FL J 256 fun k=>(wf r k-one ζ c (fun k=>(kf r k*8192)%8380417) k)%8380417);obtain⟨Ok,HOk⟩:=aQ (FL J 256 (one ζ c fun k=>(kf r k*8192)%8380417));obtain⟨Ux,HUx⟩:=aQ (FL J 256 (row ζ b c (wf r) (kf r) (hf r)));have V1i:=eE HV1 Hsize.o;have V2i:=eE HV2 Hsize.o;rw[HFk.o,HAk.o]at HScr;rw[HAk.o,HBk'.o]at HTrr;rw[HBk'.o,HV1.o]at HTmr;rw[HV1.o,HOk.o]at HBkr;rw[HFw.o,HOk.o,HV2.o]at HSur;rw[HFh.o,HV2.o,HUx.o]at HUsr;rw[HUx.o]at HPkr;rw[HV1.o]at Ft1;rw[HV2.o]at Ft2
   rw[HFw.o]at hrgw;rw[HFk.o]at hrgk;rw[HFh.o]at hrgh;have Krw:U (∀ w':G,zb wr w'->w'.rangeAt gw o6 Fw.toList):=⟨fun w' hb'=>xa3 hrgw (iZ Hgw.o BU.o.size) hb'⟩;have Krk:U (∀ w':G,zb wr w'->w'.rangeAt gk o6 Fk.toList):=⟨fun w' hb'=>xa3 hrgk (iZ Hgk.o BU.o.size) hb'⟩;have Krh:U (∀ w':G,zb wr w'->w'.rangeAt gh o6 Fh.toList):=⟨fun w' hb'=>xa3 hrgh (iZ Hgh.o BU.o.size) hb'⟩;have Fwi:=zfi HFw Hsize.o;have Fki:=zfi HFk Hsize.o;have Fhi:=zfi HFh Hsize.o;have hXs:=HX.o r hlt;have hlen:=Hcs.o r (by omega);have hnext:=xfk X r;obtain⟨Yq,HY⟩:=aQ (X r);rw[HY.o]at HPkr hXs hnext;have Hlt:=D hlt;have Hnext:=D hnext;have HXs:=D hXs;have Hlen:=D hlen;have Ho6:=D ho6;clear hrgw hrgk hrgh hlt HFk HFw HFh HAk HBk' HV1 HV2 HOk HUx hXs hlen hnext;go_wp2_with fail;refine xed [vrP 11 12 10 16 44] 11 (by kernel_rfl) (by kernel_rfl) (by kernel_rfl) (by kernel_rfl) (by decide) (fun v hv ρ o w1 ho=>by
    simp only[kT,mK,or_false]at hv;subst hv;exact fQ ρ o w1 ho) (by simp[vrP]) (fun ops HO=>?_)
   simp only[jH,jU];refine xcd rfl 76 _ rfl w.heap.size rfl 76 C8 _ (fun w9 hw9=>Crow.o w9 hw9) zX rfl C8i.o ?_;refine cX rfl (fun K hK=>?_);go_simp
   apply jG;refine⟨fun w9 hw9=>?_,hK _ ?_⟩;rfl;clear hK K;refine cX rfl (fun K hK=>?_);go_simp
   apply jG;refine⟨fun w9 hw9=>?_,hK _ ?_⟩;rfl;clear hK K;refine xcd rfl 34 _ rfl gt rfl 34 T _ (fun w9 hw9=>Trow.o w9 hw9) zY rfl HTz.o ?_;refine cX rfl (fun K hK=>?_);go_simp
   apply jG;refine⟨fun w9 hw9=>?_,hK _ ?_⟩;rfl;clear hK K;refine cX rfl (fun K hK=>?_);go_simp
   apply jG;refine⟨fun w9 hw9=>?_,hK _ ?_⟩;rfl;clear hK K;refine cX rfl (fun K hK=>?_);go_simp
   apply jG;refine⟨fun w9 hw9=>?_,hK _ ?_⟩;rfl;clear hK K;refine mgd.xhz rfl 76 _ rfl gk o6 rfl Fk.toList _ (fun w9 hw9=>Krk.o w9 hw9) zX rfl Fki.o ?_;refine cX rfl (fun K hK=>?_);go_simp
   apply jG;refine⟨fun w9 hw9=>?_,hK _ ?_⟩;exact HScr.o w9;clear hK K;refine cX rfl (fun K hK=>?_);go_simp
   apply jG;refine⟨fun w9 hw9=>?_,hK _ ?_⟩;exact HTrr.o w9;clear hK K;refine cX rfl (fun K hK=>?_);go_simp
   apply jG;refine⟨fun w9 hw9=>?_,hK _ ?_⟩;exact HTmr.o w9;clear hK K;refine mgd.ends1 V1 rfl Ft1.o (fun p1 w6 l1 hb6 r1=>?_);simp only[vrP,aM,aR.pa,aR.pb,aR.pc]at r1 ⊢;have E6:U (zb wr w6):=⟨hb6⟩;have R1:=D r1;have T6:U (∀ w':G,zb w6 w'->zb wr w'/\w'.heap[p1]? = some (Y V1 76 (0,0))):=⟨fun w' hb=>⟨E6.o.trans (hb.mono E6.o.size),(hb.block _ (bI R1.o)).trans R1.o⟩⟩;clear HO hb6 r1 l1;go_wp2_with fail;refine xed [vrP 10 11 9 17 54] 10 (by kernel_rfl) (by kernel_rfl) (by kernel_rfl) (by kernel_rfl) (by decide) (fun v hv ρ o w1 ho=>by
    simp only[kT,mK,or_false]at hv;subst hv;exact fQ ρ o w1 ho) (by simp[vrP]) (fun ops HO=>?_)
   simp only[jH,jU];refine cX rfl (fun K hK=>?_);go_simp
   apply jG;refine⟨fun w9 hw9=>?_,hK _ ?_⟩;rfl;clear hK K;refine cX rfl (fun K hK=>?_);go_simp
   apply jG;refine⟨fun w9 hw9=>?_,hK _ ?_⟩;rfl;clear hK K;refine cX rfl (fun K hK=>?_);go_simp
   apply jG;refine⟨fun w9 hw9=>?_,hK _ ?_⟩;rfl;clear hK K;refine mgd.xhz rfl 76 _ rfl gw o6 rfl Fw.toList _ (fun w9 hw9=>(fun w9 hw9=>Krw.o w9 (T6.o w9 hw9).1) w9 hw9) zX rfl Fwi.o ?_;refine cX rfl (fun K hK=>?_);go_simp
   apply jG;refine⟨fun w9 hw9=>?_,hK _ ?_⟩;rfl;clear hK K;refine cX rfl (fun K hK=>?_);go_simp
   apply jG;refine⟨fun w9 hw9=>?_,hK _ ?_⟩;rfl;clear hK K;refine xcd rfl 34 _ rfl gt rfl 34 T _ (fun w9 hw9=>Trow.o w9 (T6.o w9 hw9).1) zY rfl HTz.o ?_;refine xcd rfl 76 _ rfl p1 rfl 76 V1 _ (fun w9 hw9=>(T6.o w9 hw9).2) zX rfl V1i.o ?_;refine cX rfl (fun K hK=>?_);go_simp
   apply jG;refine⟨fun w9 hw9=>?_,hK _ ?_⟩;exact HBkr.o w9;clear hK K;refine cX rfl (fun K hK=>?_);go_simp
   apply jG;refine⟨fun w9 hw9=>?_,hK _ ?_⟩;exact HSur.o w9;clear hK K;refine mgd.ends1 V2 rfl Ft2.o (fun p2 w7 l2 hb7 r2=>?_);simp only[vrP,aM,aR.pa,aR.pb,aR.pc]at r2 ⊢;have E7:U (zb wr w7):=⟨(T6.o w7 hb7).1⟩;have R2:=D r2;clear HO hb7 r2 l2;go_wp2_with fail;refine mA (by kernel_rfl) (by kernel_rfl) ?_;iterate 3 (quiet_step (skip))
   refine xb2 rfl 76 _ rfl gh o6 rfl Fh.toList _ (fun w' hC=>Krh.o w' (E7.o.trans ((krw.xa5 hC).mono E7.o.size))) zX rfl Fhi.o ?_;refine xa2 rfl 76 _ rfl p2 rfl 76 V2 _ (fun w9 hC=>gM R2.o hC) zX rfl V2i.o ?_;quiet_step (skip);quiet_step (exact jI (HUsr.o _));quiet_step (skip);quiet_step (exact jI (HPkr.o _));iterate 5 (quiet_step (skip))
   refine kY ?_;intro w8 hC;have E8:zb wr w8:=E7.o.trans ((krw.xa5 hC).mono E7.o.size);have Hz8:gb<=w8.heap.size:=jJ Lb.o E8.size;have E8':=D E8;have Hw:U (aD aO 91 #[aC (some ⟨gb,0,none⟩),E Yq] w8 fun e w'=>e=.returned (.tuple #[O J Yq.size,.nilIface])/\(Lib.BuilderAt 117 5 gb gb (aC (some ⟨gb,0,none⟩)) (aJ (cJ ByteArray.empty X (r+1)).data.toList) w'/\aF gb w8 w')):=⟨by
    have hh:=eX.gG gb gb (aJ (cJ ByteArray.empty X r).data.toList) Yq w8 (eX.xki Hbd.o E8) (by
     rw[Lib.byteCells_length];have:=HXs.o;have:=Hlen.o;omega) Hz8
    rw[show Lib.strCells Yq=aJ Yq.data.toList from rfl,<-pA,<-Hnext.o]at hh;exact hh⟩
   clear hC E8 Hz8;go_wp2_with fail;refine Hw.o.mono ?_;rintro e w4 ⟨rfl,hat,hb4⟩;have Hat:=D hat;have Hin4:U (gb=W3.heap.size/\aF gb W3 w4/\zb w W3/\W3.heap[w.heap.size]? = some (Y C8 76 (0,0))):=⟨Hin.o.1,(Hin.o.2.1.trans (E8'.o.mono Lb.o)).trans hb4,Hin.o.2.2.1,Hin.o.2.2.2⟩;clear hat hb4;go_wp2_with fail;go_step3
   refine⟨rfl,HJi.o _ _ ⟨r+1,gb,W3,_,_,_,_,_,_,_,_,_,_,_,_,_,_,_,_,_,_,_,_,_,_,_,_,_,_,_,_,_,_,_,_,_,_,_,_,_,_,_,_,_,_,_,_,_,_,_,_,_,_,_,_,_,_,_,_,_,_,_,_,_,_,by go_num,by have:=Hlt.o;omega,⟨kO Hat.o⟩,Hin4⟩,?_⟩;have:=Hlt.o;simp[aG];omega
  ·obtain rfl:r=n:=by omega
   have heq:((r:Int)==(r:Int))=true:=by simp
   have Hst:U (aD aO 86 #[aC (some ⟨gb,0,none⟩)] wr fun e w'=>e=.returned (E (cJ ByteArray.empty X r))/\aF gb wr w'):=⟨by
    have hh:=eX.toText gb gb (cJ ByteArray.empty X r).data.toList wr Hbd.o Lb.o;rw[xlq]at hh;exact hh⟩
   rw[HRz.o]at Hst;clear hlt HJi;go_wp2_with fail;refine Hst.o.mono ?_;rintro e w3 ⟨rfl,hb3⟩;have D3:U (zb w w3):=⟨BU.o.trans (hb3.mono (by have:=Lc.o;omega))⟩;clear hb3;go_wp2_with fail;simp only[Exit.jump];go_ret;exact⟨rfl,D3.o⟩
end vpb
end Go.Proofs.YtomphjajkkddkaaGreatDoor
