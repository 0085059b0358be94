/-
  The document's tables hold the ring's roots; the set with one row is valid. Conditions: none. What m
-/
import Derived.Test.YtomphjajkkddkaaGreatDoorZs10
import Derived.Test.YtomphjajkkddkaaGreatDoorZs09
import Derived.Test.YtomphjajkkddkaaGreatDoorZs04
import Derived.Test.YtomphjajkkddkaaGreatDoorZs13
import Derived.Test.YtomphjajkkddkaaGreatDoorZs19
import Derived.Test.YtomphjajkkddkaaGreatDoorZs22
import Derived.Test.YtomphjajkkddkaaGreatDoorZs03
import Derived.Test.YtomphjajkkddkaaGreatDoorZs02
import Derived.Test.YtomphjajkkddkaaGreatDoorZs18
import Derived.Test.YtomphjajkkddkaaGreatDoorZs12
import Derived.Test.YtomphjajkkddkaaGreatDoorZs17
import Derived.Test.YtomphjajkkddkaaGreatDoorZs21
import Derived.Test.YtomphjajkkddkaaGreatDoorZs16
import Derived.Test.YtomphjajkkddkaaGreatDoorZs01
import Derived.Test.YtomphjajkkddkaaGreatDoorZs05
set_option maxRecDepth 100000
set_option maxHeartbeats 16000000
set_option linter.unusedSimpArgs false
set_option linter.unusedVariables false
open Go Go.RowKit
open Go renaming World->G,Calls->aD,Value->aE
open Go.RowKit renaming Below->aF
open Go.Act renaming put->aM
open Go.Value renaming int->O,agg->I,string->E,tuple->aA,slice->aB,pointer->aC
open Go.IntKind renaming i64->J
open Go.Obj renaming cells->Y
open Go.Proofs.Tryz renaming prog->aO
namespace Go.Proofs.YtomphjajkkddkaaGreatDoor
namespace kaw
open aW mem arr tabv bT bF bZ mlkd tabm fB
theorem xej:cE.ZT TA (fun k=>((zt k:Nat):Int)):=⟨ht_doc,xdn,xgd⟩
end kaw
namespace kcon
open arr mem aT aV bS aW bL bQ fO fD bM bT bZ dJ fA dN rksb dG dW mlkd kkey kaw tabm fB tabv
open bF (bP)
def ζd:Nat->Int:=fun k=>((zt k:Nat):Int)%8380417
structure TH (w:G) (g g1 c1 g2 c2 g3 c3 ln kn:Nat) (p q l:Nat->Nat->Int):Prop where
 lt:g<w.heap.size
 x0:w.cell? ⟨g,0,none⟩=some (aB (some ⟨g1,0,none⟩) ln c1)
 x1:w.cell? ⟨g,1,none⟩=some (aB (some ⟨g2,0,none⟩) kn c2)
 x2:w.cell? ⟨g,2,none⟩=some (aB (some ⟨g3,0,none⟩) kn c3)
 h0:Holds w 0 (aB (some ⟨g1,0,none⟩) ln c1) ln p
 h1:Holds w 0 (aB (some ⟨g2,0,none⟩) kn c2) kn q
 h2:Holds w 0 (aB (some ⟨g3,0,none⟩) kn c3) kn l
theorem TH.later{w w':G}{g g1 c1 g2 c2 g3 c3 ln kn:Nat}{p q l:Nat->Nat->Int}(h:TH w g g1 c1 g2 c2 g3 c3 ln kn p q l)(hb:zb w w'):TH w' g g1 c1 g2 c2 g3 c3 ln kn p q l:=
 ⟨iZ h.lt hb.size,(hb.cell (p:=⟨g,0,none⟩) h.lt).trans h.x0,(hb.cell (p:=⟨g,1,none⟩) h.lt).trans h.x1,(hb.cell (p:=⟨g,2,none⟩) h.lt).trans h.x2,h.h0.later hb,h.h1.later hb,h.h2.later hb⟩
theorem th_of{w:G}{v:aE}{x:ByteArray}{kn ln:Nat}{e:Int}(h:three w v x kn ln e):∃ g c g1 c1 g2 c2 g3 c3,v=aB (some ⟨g,0,none⟩) 3 c/\TH w g g1 c1 g2 c2 g3 c3 ln kn (iB x 128 (lb (e+e).toNat) e) (iB x (128+32*lb (e+e).toNat*ln) (lb (e+e).toNat) e) (iB x (128+32*lb (e+e).toNat*ln+32*lb (e+e).toNat*kn) 13 4096):=by
 obtain⟨g,c,v1,v2,v3,e0,hg,x0,x1,x2,h0,h1,h2⟩:=h;obtain⟨g1,c1,e1,-⟩:=gD h0;obtain⟨g2,c2,e2,-⟩:=gD h1;obtain⟨g3,c3,e3,-⟩:=gD h2;subst e1 e2 e3;exact⟨g,c,g1,c1,g2,c2,g3,c3,e0,hg,x0,x1,x2,h0,h1,h2⟩
theorem xrn(kn ln:Nat)(e:Int)(n:Nat):(n:Int)=sz2 kn ln e↔n=128+32*lb (2*e).toNat*ln+32*lb (2*e).toNat*kn+416*kn:=by
 have e1 : 32*((lb (2*e).toNat:Nat):Int)*((ln:Int)+(kn:Int))=((32*lb (2*e).toNat*ln+32*lb (2*e).toNat*kn:Nat):Int):=by push_cast;rw[mQ]
 rw[sz2,e1];omega
section
variable (kn ln:Nat) (e t a b o s:Int) (sd:ByteArray) (h:bP (kn:Int) (ln:Int) e t a b o s=true)
include h
theorem pair(w:G)(hP:Gp w)(hsd:sd.size=32):aD aO 18 #[I TA,I (bO (kn:Int) (ln:Int) e t a b o s),E sd] w (zB w (aA #[E (pPk ζd sd kn ln e),E (pSk ζd sd kn ln e),O J 0])):=kpr.xd8 _ kn ln e t a b o s sd w kecd.xdd hP xej h hsd
theorem xyx:(pSk ζd sd kn ln e).size=128+32*lb (2*e).toNat*ln+32*lb (2*e).toNat*kn+416*kn/\okK (pSk ζd sd kn ln e) kn ln e:=by
 obtain⟨-,-,he,-⟩:=xbe h;refine⟨?_,?_⟩
 ·unfold pSk;rw[xro,xfy,(xg1 e he).1]
 ·exact xfa kn ln e _ _ _ _ (xfy _ _ _ _ _) he (fun i _=>xf7 _ e he i) (fun i _=>xf7 _ e he (ln+i)) (fun i _=>xl1 ζd sd kn ln e i)
theorem sec(w:G):aD aO 124 #[I (bO (kn:Int) (ln:Int) e t a b o s),E (pSk ζd sd kn ln e)] w fun r w'=>(∃ g c g1 c1 g2 c2 g3 c3,r=.returned (aA #[E (dT ζd sd kn ln e),aB (some ⟨g,0,none⟩) 3 c,O J 0])/\TH w' g g1 c1 g2 c2 g3 c3 ln kn (qS (cB sd kn ln) e) (fun i=>qS (cB sd kn ln) e (ln+i)) (pLo ζd sd kn ln e))/\zb w w':=by
 obtain⟨-,-,he,-⟩:=xbe h;obtain⟨f1,f2⟩:=xyx kn ln e t a b o s sd h;obtain⟨r1,r2,r3⟩:=xyz kn ln e (dT ζd sd kn ln e) (qS (cB sd kn ln) e) (fun i=>qS (cB sd kn ln) e (ln+i)) (pLo ζd sd kn ln e) (xfy _ _ _ _ _) he (fun i _=>xf7 _ e he i) (fun i _=>xf7 _ e he (ln+i)) (fun i _=>xl1 ζd sd kn ln e i) (fun i k=>xqq _ _ _ _) (fun i k=>xqq _ _ _ _) (fun i k=>xwn _ _ _ _ _ _ _);have hhd:(pSk ζd sd kn ln e).extract 0 128=dT ζd sd kn ln e:=xyy kn ln e _ _ _ _ (xfy _ _ _ _ _);refine(kse.xrb kn ln e t a b o s (pSk ζd sd kn ln e) w h ((xrn kn ln e _).2 f1)).mono ?_;rintro r w' ⟨⟨bR,v,rfl,hv⟩ | ⟨hno,-⟩,hb⟩
 ·obtain⟨g,c,g1,c1,g2,c2,g3,c3,rfl,H⟩:=th_of hv;rw[hhd];exact⟨⟨g,c,g1,c1,g2,c2,g3,c3,rfl,H.lt,H.x0,H.x1,H.x2,xfu H.h0 r1,xfu H.h1 r2,xfu H.h2 r3⟩,hb⟩
 ·exact absurd f2 hno
theorem mat(w:G)(hP:Gp w):aD aO 33 #[I TA,I (bO (kn:Int) (ln:Int) e t a b o s),E (cI sd kn ln)] w fun x w'=>(∃ v,x=.returned v/\MX w' v kn (fun _=>ln) (qX (cI sd kn ln)))/\zb w w':=by
 obtain⟨hk,-⟩:=xbe h;refine(iI.matrix kn ln e t a b o s _ w kecd.xdd hP h (by rw[xbv];decide)).mono ?_;rintro x w' ⟨⟨v,vs,rfl,h1,h2⟩,hb⟩;exact⟨⟨v,rfl,xi1 (by omega) h1 h2⟩,hb⟩
end
end kcon
namespace mgh
open arr mem bD aT aV bS cY bF bQ fO dD bM bZ dJ eH cZ bU bT dN dW dG eM cV aR mgd mgr
open kcon (TH)
def MXB(w:G)(B:Nat)(v:aE)(R ln:Nat)(x:Nat->Nat->Nat->Int):Prop:=
 ∃ Gq C,v=aB (some ⟨Gq,0,none⟩) R C/\B<=Gq/\Gq<w.heap.size/\∀ r,r<R->∃ g c,w.cell? ⟨Gq,r,none⟩=some (aB (some ⟨g,0,none⟩) ln c)/\B<=g/\g<w.heap.size/\∀ j,j<ln->∀ k,k<256->w.cell? ⟨g,256*j+k,none⟩=some (O J (x r j k))
theorem MXB.mx{w:G}{B:Nat}{v:aE}{R ln:Nat}{x:Nat->Nat->Nat->Int}(h:MXB w B v R ln x):MX w v R (fun _=>ln) x:=by
 obtain⟨Gq,C,e,-,h1,h2⟩:=h;refine⟨Gq,C,e,h1,fun r hr=>?_⟩;obtain⟨g,c,h3,-,h4,h5⟩:=h2 r hr;exact⟨g,c,h3,h4,h5⟩
theorem MXB.later{w w':G}{B:Nat}{v:aE}{R ln:Nat}{x:Nat->Nat->Nat->Int}(h:MXB w B v R ln x)(hb:zb w w'):MXB w' B v R ln x:=by
 obtain⟨Gq,C,e,h0,h1,h2⟩:=h;refine⟨Gq,C,e,h0,iZ h1 hb.size,fun r hr=>?_⟩;obtain⟨g,c,h3,h4,h5,h6⟩:=h2 r hr;exact⟨g,c,(hb.cell (p:=⟨Gq,r,none⟩) h1).trans h3,h4,iZ h5 hb.size,fun j hj k hk=>(hb.cell (p:=⟨g,256*j+k,none⟩) h5).trans (h6 j hj k hk)⟩
theorem xn6{w:G}{k:Nat}(R:Array aE)(p:Addr)(h:p.block≠k):(w.setRow k R).cell? p=w.cell? p:=by
 have hb:(w.setRow k R).heap[p.block]? = w.heap[p.block]? := lW _ _ _ _ h;unfold World.cell?;simp only[hb]
theorem MXB.set{w:G}{B k:Nat}{v:aE}{R ln:Nat}{x:Nat->Nat->Nat->Int}(h:MXB w B v R ln x)(hk:k<B)(Q:Array aE):MXB (w.setRow k Q) B v R ln x:=by
 obtain⟨Gq,C,e,h0,h1,h2⟩:=h;refine⟨Gq,C,e,h0,by simpa [World.setRow] using h1,fun r hr=>?_⟩;obtain⟨g,c,h3,h4,h5,h6⟩:=h2 r hr;exact⟨g,c,(xn6 Q ⟨Gq,r,none⟩ (by show Gq≠k;omega)).trans h3,h4,by simpa [World.setRow] using h5,fun j hj i hi=>(xn6 Q ⟨g,256*j+i,none⟩ (by show g≠k;omega)).trans (h6 j hj i hi)⟩
theorem mxb_of{w:G}{B e kn ln:Nat}{v:aE}{vs:List aE}{sk:Option Nat}{p:Nat->Nat->Nat->Int}(hk : 1<=kn)(h:w.ownsRow B e 1 v kn vs)(hr:dO w B sk vs ln p):MXB w B v kn ln p:=by
 obtain⟨g,cap,rfl⟩:=bA.xbu (by omega) h;refine⟨g,cap,rfl,(h.lt g rfl).1,(h.lt g rfl).2,fun r hr'=>?_⟩;have hl:vs.length=kn:=by have:=h.1;omega
 have hv:vs[r]? = some vs[r]:=iT (by omega);obtain⟨g2,c2,e2,h1,h2,-,h4⟩:=hr r _ hv;refine⟨g2,c2,?_,h1,h2,h4⟩;rw[h.cellAt r (by omega),hv,e2]
theorem xw5{T:Array aE}(Z:Nat->Int)(kn ln:Nat)(e t a b o s:Int)(gt g c g1 c1 g2 c2 g3 c3:Nat)(A B C:Nat->Nat->Int)(hd m r:ByteArray)(w:G)(S:Sg)(hS:S=sgn (fun k=>Z k%8380417) kn ln e t a b o s hd A B C m r)(hK:KT T TL RL)(hT:cE.ZT T Z)(hP:Gp w)(h:bP (kn:Int) (ln:Int) e t a b o s=true)(hh:hd.size=128)(hm:m.size<=100000)(hr:r.size=32)
 (htab:w.heap[gt]? = some (Y T 34 (0,0))) (HTH:TH w g g1 c1 g2 c2 g3 c3 ln kn A B C):
 aD aO 125 #[aC (some ⟨gt,0,none⟩),I (bO (kn:Int) (ln:Int) e t a b o s),E hd,aB (some ⟨g,0,none⟩) 3 c,E m,E r] w fun x w'=>(∃ gm cm ga ca gb cb gl cl,x=.returned (I (SG gt kn ln e t a b o s (aB (some ⟨gm,0,none⟩) kn cm) (aB (some ⟨ga,0,none⟩) ln ca) (aB (some ⟨gb,0,none⟩) kn cb) (aB (some ⟨gl,0,none⟩) kn cl) S.mu S.ms))/\MX w' (aB (some ⟨gm,0,none⟩) kn cm) kn (fun _=>ln) (qX S.rho)/\Holds w' 0 (aB (some ⟨ga,0,none⟩) ln ca) ln (fun i=>aS S.ζ 8 (A i))/\Holds w' 0 (aB (some ⟨gb,0,none⟩) kn cb) kn (fun i=>aS S.ζ 8 (B i))/\Holds w' 0 (aB (some ⟨gl,0,none⟩) kn cl) kn (fun i=>aS S.ζ 8 (C i)))/\zb w w':=by
 obtain⟨hk,hl,-⟩:=fA.xbe h;have hk : 1<=kn/\kn<=8:=by omega
 have hl : 1<=ln/\ln<=8:=by omega
 have eζ : S.ζ = fun k=>Z k%8380417:=by rw[hS];rfl
 have erho:hd.extract 0 32=S.rho:=by rw[hS];rfl
 have emu:out TL RL 2 (hd.extract 64 128++m) 64=S.mu:=by rw[hS];rfl
 have ems:out TL RL 2 (hd.extract 32 64++r++S.mu) 64=S.ms:=by rw[hS];rfl
 have srho:S.rho.size=32:=by rw[<-erho,size_extract _ _ _ (by omega) (by omega)]
 have smu:S.mu.size=64:=by rw[<-emu];exact fD.xb1 _ _ _
 obtain⟨Tr,hTr⟩:=aP (hd.extract 64 128);obtain⟨Ky,hKy⟩:=aP (hd.extract 32 64);have sTr:Tr.size=64:=by rw[<-hTr,size_extract _ _ _ (by omega) (by omega)]
 have sKy:Ky.size=32:=by rw[<-hKy,size_extract _ _ _ (by omega) (by omega)]
 rw[hTr]at emu;rw[hKy]at ems;have HS10:∀ w1:G,Gp w1->w1.heap[gt]? = some (Y T 34 (0,0))->aD aO 163 #[aC (some ⟨gt,0,none⟩),E (Tr++m),O J 64] w1 (zB w1 (E S.mu)):=fun w1 hg hr=>by
  rw[<-emu];exact mga.xc8 gt _ 64 w1 hK hg hr (by decide) (by rw[jS];omega)
 have HS20:∀ w1:G,Gp w1->w1.heap[gt]? = some (Y T 34 (0,0))->aD aO 163 #[aC (some ⟨gt,0,none⟩),E (Ky++r++S.mu),O J 64] w1 (zB w1 (E S.ms)):=fun w1 hg hr2=>by
  rw[<-ems];exact mga.xc8 gt _ 64 w1 hK hg hr2 (by decide) (by rw[jS,jS];omega)
 have HMa0:∀ w1:G,Gp w1->aD aO 33 #[I T,I (bO (kn:Int) (ln:Int) e t a b o s),E S.rho] w1 fun x w'=>(∃ v,x=.returned v/\MXB w' w1.heap.size v kn ln (qX S.rho))/\zb w1 w':=fun w1 hg=>by
  refine(iI.matrix kn ln e t a b o s _ w1 hK hg h (by omega)).mono ?_;rintro x w' ⟨⟨v,vs,rfl,h1,h2⟩,hb⟩;exact⟨⟨v,rfl,mxb_of hk.1 h1 h2⟩,hb⟩
 have HTf0:∀ (n:Nat) (vv:aE) (B':Nat) (y:Nat->Nat->Int) (w1:G),w1.heap[gt]? = some (Y T 34 (0,0))->1<=n/\n<=8->Holds w1 B' vv n y->aD aO 164 #[aC (some ⟨gt,0,none⟩),vv] w1 fun e w'=>(∃ v',e=.returned v'/\Holds w' w1.heap.size v' n (fun i=>aS S.ζ 8 (y i)))/\zb w1 w':=fun n vv B' y w1 h1 h2 h3=>by
  rw[eζ];exact mgt.xzr Z gt n vv B' y w1 hT h1 h2 h3
 have HTz:U ((aO.info? 34).map (·.size)=some T.size):=⟨by rw[hT.size];kernel_rfl⟩;obtain⟨hz,-⟩:=iY infoSgz;obtain⟨z,HZ⟩:=aQ (#[aC none,O J 0,O J 0,O J 0,O J 0,O J 0,O J 0,O J 0,O J 0,aB none 0 0,aB none 0 0,aB none 0 0,aB none 0 0,E ⟨#[]⟩,E ⟨#[]⟩]:Array aE);rw[HZ.o]at hz;have Hzs:U (z.size=15):=⟨by rw[<-HZ.o];rfl⟩;obtain⟨L,HL⟩:=aQ ((bO (kn:Int) (ln:Int) e t a b o s):Array aE);rw[HL.o]at HMa0 ⊢;have HLs:U ((aO.info? 37).map (·.size)=some L.size):=⟨by rw[<-HL.o];kernel_rfl⟩;obtain⟨W,hW⟩:=aP ((w.alloc (Y L 37)).alloc (Y z 149));obtain⟨r0,r1,hWs,b0⟩:=two hW;have HG:U (∀ w':G,zb W w'->Gp w'/\w'.heap[gt]? = some (Y T 34 (0,0))/\TH w' g g1 c1 g2 c2 g3 c3 ln kn A B C/\w'.heap[w.heap.size]? = some (Y L 37 (0,0))/\w'.heap[w.heap.size+1]? = some (Y z 149 (0,0))):=⟨fun w' hb=>by
  have k:=b0.trans (hb.mono b0.size);exact⟨hP.later k,(k.block _ (bI htab)).trans htab,HTH.later k,(hb.block _ (bI r0)).trans r0,(hb.block _ (bI r1)).trans r1⟩⟩
 obtain⟨mu,hmu⟩:=aP S.mu;obtain⟨ms,hms⟩:=aP S.ms;obtain⟨rho,hrho⟩:=aP S.rho;obtain⟨ζ,hζ⟩:∃ x,S.ζ = x:=⟨_,rfl⟩;rw[hmu,hms,hrho,hζ];rw[hmu]at HS10 HS20 smu;rw[hms]at HS20;rw[hrho]at HMa0 erho;rw[hζ]at HTf0;have ltt:gt<w.heap.size:=bI htab;have ltg:g<w.heap.size:=HTH.lt;have HS1:=D HS10;have HS2:=D HS20;have HMa:=D HMa0;have HTf:=D HTf0;have B0:=D b0;have HWs:=D hWs;have HW:=D hW;have HTH0:=D HTH;have Ltt:=D ltt;have Ltg:=D ltg;have Hk:=D hk;have Hl:=D hl;have hhz:(hd.size:Int)=128:=by omega
 have x1:¬ 9223372036854775807<Tr.size+m.size:=by omega
 have x2:¬ 9223372036854775807<Ky.size+r.size:=by omega
 obtain⟨Q,hQ⟩:=aP (Ky++r);have hQs:Q.size=64:=by rw[<-hQ,jS];omega
 have x3:¬ 9223372036854775807<Q.size+mu.size:=by omega
 rw[hQ]at HS2;clear HS10 HS20 HMa0 HTf0 r0 r1 hWs b0 hW htab HTH hK hT hP h hS eζ emu ems srho smu sTr sKy hm hr hmu hms hrho hζ hQs ltt ltg hk hl HZ;go_enter Tryz.func125,Tryz.ntmps125;go_wp2_with (rw[HW.o]);refine xav (by kernel_rfl) (by kernel_rfl) ?_;repeat still_step
 refine jR ?_;clear erho hTr hKy hhz hh;have D1:U (zb W W.drew):=⟨(iR _ _).drew⟩;go_wp2_with fail;refine(HS1.o _ (HG.o _ D1.o).1 (HG.o _ D1.o).2.1).mono ?_;rintro x w2 ⟨rfl,hb2⟩;have E2:=bK D1 hb2;clear hb2 x1;go_wp2_with fail;have F2:=HG.o _ E2.o;have hw2:w.heap.size+2<=w2.heap.size:=by have h1:=E2.o.size;have h2:=HWs.o;omega
 have U0:∀ w':G,zb w2 w'->zb W w':=fun w' hb=>E2.o.trans (hb.mono E2.o.size)
 refine xa4 (w.heap.size+1) 33 [0,1,2,3,4,5,6,8,9,10,11,13,14,15,16,18,19,20,21,23,24,25,26,27,28,29,7,12,17,22,30,31,32] (by kernel_rfl) rfl rfl (by decide) (fun hS ops HO=>?_);simp only[jT,fa,jF,jL];have V0:∀ w':G,aF (w.heap.size+1) w2 w'->w'.heap[w.heap.size]? = some (Y L 37 (0,0))/\w'.heap[gt]? = some (Y T 34 (0,0))/\w'.cell? ⟨g,0,none⟩=some (aB (some ⟨g1,0,none⟩) ln c1)/\w'.cell? ⟨g,1,none⟩=some (aB (some ⟨g2,0,none⟩) kn c2)/\w'.cell? ⟨g,2,none⟩=some (aB (some ⟨g3,0,none⟩) kn c3):=fun w' hb=>by
  have l1:=Ltg.o;have l2:=Ltt.o;exact⟨(hb.block _ (by omega)).trans F2.2.2.2.1,(hb.block _ (by omega)).trans F2.2.1,(hb.cell (p:=⟨g,0,none⟩) (Nat.lt_succ_of_lt l1)).trans F2.2.2.1.x0,(hb.cell (p:=⟨g,1,none⟩) (Nat.lt_succ_of_lt l1)).trans F2.2.2.1.x1,(hb.cell (p:=⟨g,2,none⟩) (Nat.lt_succ_of_lt l1)).trans F2.2.2.1.x2⟩
 refine zU hS ?_;refine gP (by rw[<-HO.o];kernel_rfl) (fun _ _ _ _ h=>h) 37 _ rfl w.heap.size rfl 37 L _ (fun w1 h1=>(V0 w1 h1).1) zZ rfl HLs.o hS ?_;simp only[aM,pa,pb,pc];iterate 2 (refine zU hS ?_)
 refine gP (by rw[<-HO.o];kernel_rfl) (fun _ _ _ _ h=>h) 34 _ rfl gt rfl 34 T _ (fun w1 h1=>(V0 w1 h1).2.1) zY rfl HTz.o hS ?_;simp only[aM,pa,pb,pc];refine gP (by rw[<-HO.o];kernel_rfl) (fun _ _ _ _ h=>h) 37 _ rfl w.heap.size rfl 37 L _ (fun w1 h1=>(V0 w1 h1).1) zZ rfl HLs.o hS ?_;simp only[aM,pa,pb,pc];iterate 4 (refine zU hS ?_)
 (refine fY (v:=?_) (by rw[<-HO.o];kernel_rfl) (fun _ _ _ h=>h) ?_ hS ?_;rotate_left;focus (intro w9 h9;have hc:=(V0 w9 h9).2.2.1;go_simp;first | done | with_reducible rfl);all_goals skip)
 simp only[aM,pa,pb,pc];iterate 3 (refine zU hS ?_)
 (refine fY (v:=?_) (by rw[<-HO.o];kernel_rfl) (fun _ _ _ h=>h) ?_ hS ?_;rotate_left;focus (intro w9 h9;have hc:=(V0 w9 h9).2.2.2.1;go_simp;first | done | with_reducible rfl);all_goals skip)
 simp only[aM,pa,pb,pc];iterate 3 (refine zU hS ?_)
 (refine fY (v:=?_) (by rw[<-HO.o];kernel_rfl) (fun _ _ _ h=>h) ?_ hS ?_;rotate_left;focus (intro w9 h9;have hc:=(V0 w9 h9).2.2.2.2;go_simp;first | done | with_reducible rfl);all_goals skip)
 simp only[aM,pa,pb,pc];iterate 7 (refine zU hS ?_)
 have hd2:zb w2 w2.drew:=(iR _ _).drew;refine zS fun K hK=>?_
 go_simp
 refine(HMa.o _ (HG.o _ (U0 _ hd2)).1).mono ?_;rintro x w3 ⟨⟨vm,rfl,hm⟩,hb3⟩;have h3:=hS.trans (hb3.mono (jJ (Nat.le_of_succ_le hw2) hd2.size));have k3:=zbm hd2 hb3;obtain⟨gm,cm,rfl,hgm⟩:∃ gm cm,vm=aB (some ⟨gm,0,none⟩) kn cm/\True:=by obtain⟨Gq,C,e,-⟩:=hm;exact⟨Gq,C,e,trivial⟩
 refine hK _ _ h3 ?_;clear hK K;try simp only[aM,pa,pb,pc]
 refine zS fun K hK=>?_
 go_simp
 refine(HTf.o ln _ _ _ _ (HG.o _ (U0 _ k3)).2.1 Hl.o (F2.2.2.1.h0.later k3)).mono ?_;rintro x w4 ⟨⟨va,rfl,ha⟩,hb4⟩;have h4:=h3.trans (hb4.mono (jJ (Nat.le_of_succ_le hw2) k3.size));have k4:=zbm k3 hb4;obtain⟨ga,ca,rfl,-⟩:=gD ha;refine hK _ _ h4 ?_;clear hK K;try simp only[aM,pa,pb,pc]
 refine zS fun K hK=>?_
 go_simp
 refine(HTf.o kn _ _ _ _ (HG.o _ (U0 _ k4)).2.1 Hk.o (F2.2.2.1.h1.later k4)).mono ?_;rintro x w5 ⟨⟨vb,rfl,hb⟩,hb5⟩;have h5:=h4.trans (hb5.mono (jJ (Nat.le_of_succ_le hw2) k4.size));have k5:=zbm k4 hb5;obtain⟨gb,cb,rfl,-⟩:=gD hb;refine hK _ _ h5 ?_;clear hK K;try simp only[aM,pa,pb,pc]
 refine zS fun K hK=>?_
 go_simp
 refine(HTf.o kn _ _ _ _ (HG.o _ (U0 _ k5)).2.1 Hk.o (F2.2.2.1.h2.later k5)).mono ?_;rintro x w6 ⟨⟨vl,rfl,hl⟩,hb6⟩;have h6:=h5.trans (hb6.mono (jJ (Nat.le_of_succ_le hw2) k5.size));have k6:=zbm k5 hb6;obtain⟨gl,cl,rfl,-⟩:=gD hl;refine hK _ _ h6 ?_;clear hK K;try simp only[aM,pa,pb,pc]
 refine zS fun K hK=>?_
 go_simp
 refine(HS2.o _ (HG.o _ (U0 _ k6)).1 (HG.o _ (U0 _ k6)).2.1).mono ?_;rintro x w7 ⟨rfl,hb7⟩;have h7:=h6.trans (hb7.mono (jJ (Nat.le_of_succ_le hw2) k6.size));have k7:=zbm k6 hb7;refine hK _ _ h7 ?_;clear hK K;try simp only[aM,pa,pb,pc]
 refine hk_b (by rw[<-HO.o];kernel_rfl) (fun _ _ _ _ h=>h) (I (SG gt kn ln e t a b o s (aB (some ⟨gm,0,none⟩) kn cm) (aB (some ⟨ga,0,none⟩) ln ca) (aB (some ⟨gb,0,none⟩) kn cb) (aB (some ⟨gl,0,none⟩) kn cl) mu ms)) (fun w1=>xuj rfl rfl (by rw[HL.o];rfl) rfl rfl rfl rfl rfl rfl w1) h7 ?_;simp only[aM,pa,pb,pc];have R7:=(HG.o _ (U0 _ k7)).2.2.2.2;obtain⟨R,HR⟩:=aQ (SG gt kn ln e t a b o s (aB (some ⟨gm,0,none⟩) kn cm) (aB (some ⟨ga,0,none⟩) ln ca) (aB (some ⟨gb,0,none⟩) kn cb) (aB (some ⟨gl,0,none⟩) kn cl) mu ms);have Ri:(aO.info? 149).map (·.size)=some R.size:=by rw[<-HR.o];exact infoSg
 have Ro:R.all (·.oneCell')=true:=by rw[<-HR.o];exact xrf _ _ _ _ _ _ _ _ _ _ _ _ _ _ _ _ _ _ _ _ _ _ _
 have Rz:z.size=R.size:=by rw[Hzs.o,<-HR.o];rfl
 rw[HR.o];refine zS fun K hK=>?_
 refine wp_store_row 149 _ _ rfl (w.heap.size+1) R rfl rfl 149 _ R7 Ri Rz Ro ?_;have h8:=h7.trans (below_setRow (B:=w.heap.size+1) w7 (w.heap.size+1) R (iM _));refine hK _ _ h8 ?_;clear hK K;refine zN ?_;have s0:w.heap.size+1<w2.drew.heap.size:=hw2;have kk:∀ {x:G},zb w2 x->w.heap.size+1<x.heap.size:=fun hb=>iZ hw2 hb.size
 have q1:=(MXB.set (hm.later (hb4.trans ((hb5.trans ((hb6.trans (hb7.mono hb6.size)).mono hb5.size)).mono hb4.size))) s0 R).mx;have q2:=dG.xbm (xgz (ha.later (hb5.trans ((hb6.trans (hb7.mono hb6.size)).mono hb5.size))) (kk k3) R);have q3:=dG.xbm (xgz (hb.later (hb6.trans (hb7.mono hb6.size))) (kk k4) R);have q4:=dG.xbm (xgz (hl.later hb7) (kk k5) R);have bw2:zb w w2:=B0.o.trans (E2.o.mono B0.o.size);go_wp2_with fail;refine iV (v:=I R) (jC rfl _ _ (w.heap.size+1) 149 _ (0,0) _ rfl (jD _ _ _ _ _ _ R7) Tryz.underlying149 rfl Ri) rfl ?_;exact⟨⟨gm,cm,ga,ca,gb,cb,gl,cl,by rw[HR.o],q1,q2,q3,q4⟩,bw2.trans (h8.mono (oO _))⟩
end mgh
namespace mgi
open arr mem bD aT aV bS cY bF bQ fO dD bM bZ dJ eH cZ bU bT dN dW dG aY bC eM mgd mgr
open kcon (TH)
theorem xo3(bs:ByteArray):∀ (k i:Nat) (r:List UInt8),bs.size-i=k->(ByteArray.toList.loop bs i r).length=k+r.length
 | 0,i,r,h=>by rw[ByteArray.toList.loop,iQ (by omega)];simp
 | k+1,i,r,h=>by rw[ByteArray.toList.loop,iP (by omega),xo3 bs k (i+1) _ (by omega),mF];omega
theorem xv7(r:ByteArray)(h : 0<r.size):r.toList.isEmpty=false:=by
 have h1:r.toList.length=r.size:=by rw[ByteArray.toList,xo3 r r.size 0 [] rfl];simp
 cases e:r.toList with
 | nil=>rw[e]at h1;simp at h1;omega
 | cons a l=>rfl
theorem xiw(c x:ByteArray)(w:G)(h : 255<c.size\/60000<x.size):
 aD aO 27 #[E c,E x] w (zE w (aA #[E ⟨#[]⟩,O J 5])):=by
 have h:(255:Int)<(c.size:Int)\/(¬ (255:Int)<(c.size:Int)/\(60000:Int)<(x.size:Int)):=by omega
 rcases h with h | ⟨h1,h⟩
 ·go_enter Tryz.func27,Tryz.ntmps27;go_wp2_with fail;go_ret2;exact⟨rfl,rfl⟩
 ·go_enter Tryz.func27,Tryz.ntmps27;go_wp2_with fail;go_ret2;exact⟨rfl,rfl⟩
theorem xix(c x:ByteArray)(w:G)(h1:c.size<=255)(h2:x.size<=60000):
 aD aO 27 #[E c,E x] w (zB w (aA #[E ((⟨#[0,UInt8.ofNat c.size]⟩:ByteArray)++c++x),O J 0])):=by
 have n1:¬ (255:Int)<(c.size:Int):=by omega
 have n2:¬ (60000:Int)<(x.size:Int):=by omega
 obtain⟨n,hn⟩:=aP c.size;have hw:IntKind.u8.wrap (n:Int)=(n:Int):=by rw[kU];omega
 obtain⟨W,hW⟩:=aP (w.alloc (Y #[O .u8 0,O .u8 (n:Int)] 5));have r0:W.heap[w.heap.size]? = some (Y #[O .u8 0,O .u8 (n:Int)] 5 (0,0)):=by rw[<-hW];exact cM _ _ _ rfl
 have hb:zb w W:=by rw[<-hW];exact xby _ _
 have hcv:=xeo (t:=5) (l:=[0,n]) (cap:=2) (n:=2) rfl (by simp;omega) r0;obtain⟨X,hX⟩:∃ X:ByteArray,⟨(cP [0,n]).toArray⟩=X:=⟨_,rfl⟩;have hX2:(⟨#[0,UInt8.ofNat n]⟩:ByteArray)=X:=by rw[<-hX];rfl
 have hXs:X.size=2:=by rw[<-hX];rfl
 rw[hX]at hcv;rw[hn,hX2];rw[hn]at n1;have HW:=D hW;have HB:=D hb;clear hX hX2 r0 hb hW;go_enter Tryz.func27,Tryz.ntmps27;go_wp2_with (first | (rw[HW.o]) | fail);go_ret2;exact⟨rfl,HB.o⟩
theorem xew{T:Array aE}(Z:Nat->Int)(kn ln:Nat)(e t a b o s:Int)(sk hd m r:ByteArray)(SA SB SC:Nat->Nat->Int)(w:G)(hK:KT T TL RL)(hT:cE.ZT T Z)(hP:Gp w)(h:bP (kn:Int) (ln:Int) e t a b o s=true)(hm:m.size<=100000)(hr:r.size=32)(hhd:hd.size=128)
 (HSe0:∀ w1:G,aD aO 124 #[I (bO (kn:Int) (ln:Int) e t a b o s),E sk] w1 fun x w'=>(∃ g c g1 c1 g2 c2 g3 c3,x=.returned (aA #[E hd,aB (some ⟨g,0,none⟩) 3 c,O J 0])/\TH w' g g1 c1 g2 c2 g3 c3 ln kn SA SB SC)/\zb w1 w'):
 aD aO 68 #[I T,I (bO (kn:Int) (ln:Int) e t a b o s),E sk,E m,E r] w (zB w (fin (gF (sgn (fun k=>Z k%8380417) kn ln e t a b o s hd SA SB SC m r) 814 0))):=by
 obtain⟨S,hS⟩:∃ S,S=sgn (fun k=>Z k%8380417) kn ln e t a b o s hd SA SB SC m r:=⟨_,rfl⟩;rw[<-hS];have HTz:U ((aO.info? 34).map (·.size)=some T.size):=⟨by rw[hT.size];kernel_rfl⟩;obtain⟨L,HL⟩:=aQ ((bO (kn:Int) (ln:Int) e t a b o s):Array aE);have HLs:U ((aO.info? 37).map (·.size)=some L.size):=⟨by rw[<-HL.o];kernel_rfl⟩;obtain⟨W,hW⟩:=aP ((w.alloc (Y T 34)).alloc (Y L 37));obtain⟨r0,r1,hWs,b0⟩:=two hW;have TB:=gW r0;have LB:=gW r1;have GP:U (∀ w':G,zb W w'->Gp w'):=⟨fun w' hb=>hP.later (b0.trans (hb.mono b0.size))⟩;have BW:=D b0;have HW:=D hW;clear hW r0 r1 hWs b0 hP;have hrz:((r.size:Int) != 32)=false:=by rw[hr];rfl
 obtain⟨V,hV⟩:=aQ (fin (gF S 814 0));have HV:=hV;rw[hV.o];have ekn:S.kn=kn:=by rw[hS];rfl
 have eln:S.ln=ln:=by rw[hS];rfl
 have ee:S.e=e:=by rw[hS];rfl
 have et:S.t=t:=by rw[hS];rfl
 have ea:S.a=a:=by rw[hS];rfl
 have eb:S.b=b:=by rw[hS];rfl
 have eo:S.o=o:=by rw[hS];rfl
 have es:S.s=s:=by rw[hS];rfl
 have eA:S.A=SA:=by rw[hS];rfl
 have eB:S.B=SB:=by rw[hS];rfl
 have eC:S.C=SC:=by rw[hS];rfl
 have hO:OKS T Z S:=⟨by rw[ekn,eln,ee,et,ea,eb,eo,es];exact h,hT,hK,by rw[hS];rfl,by rw[hS];exact fD.xb1 _ _ _,by rw[hS];exact fD.xb1 _ _ _,by
  rw[show S.rho=hd.extract 0 32 by rw[hS];rfl,size_extract _ _ _ (by omega) (by omega)]⟩
 have HSe:U (∀ w1:G,aD aO 124 #[I L,E sk] w1 fun x w'=>(∃ g c g1 c1 g2 c2 g3 c3,x=.returned (aA #[E hd,aB (some ⟨g,0,none⟩) 3 c,O J 0])/\TH w' g g1 c1 g2 c2 g3 c3 ln kn S.A S.B S.C)/\zb w1 w'):=⟨fun w1=>by
  rw[<-HL.o,eA,eB,eC];exact HSe0 w1⟩
 have HPr:U (∀ (gt g c g1 c1 g2 c2 g3 c3:Nat) (w1:G),Gp w1->w1.heap[gt]? = some (Y T 34 (0,0))->TH w1 g g1 c1 g2 c2 g3 c3 ln kn S.A S.B S.C->aD aO 125 #[aC (some ⟨gt,0,none⟩),I L,E hd,aB (some ⟨g,0,none⟩) 3 c,E m,E r] w1 fun x w'=>(∃ gm cm ga ca gb cb gl cl,x=.returned (I (SG gt kn ln e t a b o s (aB (some ⟨gm,0,none⟩) kn cm) (aB (some ⟨ga,0,none⟩) ln ca) (aB (some ⟨gb,0,none⟩) kn cb) (aB (some ⟨gl,0,none⟩) kn cl) S.mu S.ms))/\MX w' (aB (some ⟨gm,0,none⟩) kn cm) kn (fun _=>ln) (qX S.rho)/\Holds w' 0 (aB (some ⟨ga,0,none⟩) ln ca) ln (fun i=>aS S.ζ 8 (S.A i))/\Holds w' 0 (aB (some ⟨gb,0,none⟩) kn cb) kn (fun i=>aS S.ζ 8 (S.B i))/\Holds w' 0 (aB (some ⟨gl,0,none⟩) kn cl) kn (fun i=>aS S.ζ 8 (S.C i)))/\zb w1 w'):=⟨fun gt g c g1 c1 g2 c2 g3 c3 w1 q1 q2 q3=>by
  rw[<-HL.o];exact mgh.xw5 Z kn ln e t a b o s gt g c g1 c1 g2 c2 g3 c3 S.A S.B S.C hd m r w1 S (by rw[eA,eB,eC];exact hS) hK hT q1 h hhd hm hr q2 q3⟩
 have HSi:U (∀ (gs gt gm cm ga ca gb cb gl cl:Nat) (w1:G),Gp w1->SGN T S gs gt gm cm ga ca gb cb gl cl w1->aD aO 126 #[aC (some ⟨gs,0,none⟩)] w1 fun e w'=>e=.returned V/\zb w1 w'):=⟨fun gs gt gm cm ga ca gb cb gl cl w1 q1 q2=>by rw[<-HV.o];exact mgg.xjr Z gs gt gm cm ga ca gb cb gl cl w1 hO q1 q2⟩;have HSGN:U (∀ (w1:G) (gs gm cm ga ca gb cb gl cl:Nat),w1.heap[gs]? = some (Y (SG w.heap.size kn ln e t a b o s (aB (some ⟨gm,0,none⟩) kn cm) (aB (some ⟨ga,0,none⟩) ln ca) (aB (some ⟨gb,0,none⟩) kn cb) (aB (some ⟨gl,0,none⟩) kn cl) S.mu S.ms) 149 (0,0))->w1.heap[w.heap.size]? = some (Y T 34 (0,0))->MX w1 (aB (some ⟨gm,0,none⟩) kn cm) kn (fun _=>ln) (qX S.rho)->Holds w1 0 (aB (some ⟨ga,0,none⟩) ln ca) ln (fun i=>aS S.ζ 8 (S.A i))->Holds w1 0 (aB (some ⟨gb,0,none⟩) kn cb) kn (fun i=>aS S.ζ 8 (S.B i))->Holds w1 0 (aB (some ⟨gl,0,none⟩) kn cl) kn (fun i=>aS S.ζ 8 (S.C i))->SGN T S gs w.heap.size gm cm ga ca gb cb gl cl w1):=⟨fun w1 gs gm cm ga ca gb cb gl cl q1 q2 q3 q4 q5 q6=>⟨by rw[ekn,eln,ee,et,ea,eb,eo,es];exact q1,q2,by rw[ekn,eln];exact q3,by rw[eln];exact q4,by rw[ekn];exact q5,by rw[ekn];exact q6⟩⟩;obtain⟨V1,V2,hV12⟩:=xk3 (gF S 814 0);have hV3:V=aA #[E V1,O J V2]:=by rw[<-HV.o];exact hV12
 subst hV3;obtain⟨mu,hmu⟩:=aP S.mu;obtain⟨ms,hms⟩:=aP S.ms;rw[hmu,hms]at HPr HSGN;obtain⟨hz,-⟩:=iY infoSgz;obtain⟨z,HZ⟩:=aQ (#[aC none,O J 0,O J 0,O J 0,O J 0,O J 0,O J 0,O J 0,O J 0,aB none 0 0,aB none 0 0,aB none 0 0,aB none 0 0,E ⟨#[]⟩,E ⟨#[]⟩]:Array aE);rw[HZ.o]at hz;have Hzs:U (z.size=15):=⟨by rw[<-HZ.o];rfl⟩;rw[HL.o];clear hS ekn eln ee et ea eb eo es eA eB eC hO HSe0 hhd hr hmu hms HZ HV hV hV12 hK hT h hm;go_enter Tryz.func68,Tryz.ntmps68;go_wp2_with (first
  | (rw[HW.o])
  | (refine iL rfl 37 _ rfl (w.heap.size+1) rfl 37 _ (0,0) _ (LB.o _ (iR _ _)) zZ rfl HLs.o ?_))
 refine(HSe.o _).mono ?_;rintro x u1 ⟨⟨g,c,g1,c1,g2,c2,g3,c3,rfl,hth⟩,hb1⟩;have E1:U (zb W u1):=⟨hb1⟩;have HTH:=D hth;clear hb1 hth;go_wp2_with (refine iL rfl 37 _ rfl (w.heap.size+1) rfl 37 _ (0,0) _ (LB.o _ E1.o) zZ rfl HLs.o ?_);refine(HPr.o _ _ _ _ _ _ _ _ _ _ (GP.o _ E1.o) (TB.o _ E1.o) HTH.o).mono ?_;rintro x u2 ⟨⟨gm,cm,ga,ca,gb,cb,gl,cl,rfl,q3,q4,q5,q6⟩,hb2⟩;have E2:=bK E1 hb2;obtain⟨R,HR⟩:=aQ (SG w.heap.size kn ln e t a b o s (aB (some ⟨gm,0,none⟩) kn cm) (aB (some ⟨ga,0,none⟩) ln ca) (aB (some ⟨gb,0,none⟩) kn cb) (aB (some ⟨gl,0,none⟩) kn cl) mu ms);have Ri:U ((aO.info? 149).map (·.size)=some R.size):=⟨by rw[<-HR.o];exact infoSg⟩;have Ro:U (R.all (·.oneCell')=true):=⟨by rw[<-HR.o];exact xrf _ _ _ _ _ _ _ _ _ _ _ _ _ _ _ _ _ _ _ _ _ _ _⟩;have Rz:U (z.size=R.size):=⟨by rw[Hzs.o,<-HR.o];rfl⟩;rw[HR.o];obtain⟨W6,hW6⟩:=aP (u2.alloc (Y R 149));obtain⟨r6,hs6,b6⟩:=one hW6;have E6:=bK E2 b6;have HS6:=D (HSGN.o W6 u2.heap.size gm cm ga ca gb cb gl cl (by rw[HR.o];exact r6) (TB.o _ E6.o) (mlkd.xls q3 b6) (q4.later b6) (q5.later b6) (q6.later b6));have HW6:=D hW6;clear hW6 r6 hs6 b6 q3 q4 q5 q6 hb2;go_wp2_with (first
  | (refine fV rfl 149 _ _ rfl R rfl rfl Ri.o (by exact Rz.o) Ro.o rfl ?_)
  | (rw[HW6.o]))
 refine(HSi.o _ _ _ _ _ _ _ _ _ _ _ (GP.o _ E6.o) HS6.o).mono ?_;rintro x u3 ⟨rfl,hb3⟩;have E3:U (zb w u3):=⟨BW.o.trans ((E6.o.trans (hb3.mono E6.o.size)).mono BW.o.size)⟩;clear hb3 hz;go_wp2_with fail;go_ret2;exact⟨rfl,E3.o⟩
theorem xd1{T:Array aE}(Z:Nat->Int)(kn ln:Nat)(e t a b o s:Int)(sk m r:ByteArray)(w:G)(hK:KT T TL RL)(hT:cE.ZT T Z)(hP:Gp w)(h:bP (kn:Int) (ln:Int) e t a b o s=true)(hm:m.size<=100000):
 aD aO 68 #[I T,I (bO (kn:Int) (ln:Int) e t a b o s),E sk,E m,E r] w (zB w (resI (fun k=>Z k%8380417) kn ln e t a b o s sk m r)):=by
 obtain⟨hk,hl,-⟩:=fA.xbe h;obtain⟨V,hV⟩:=aQ (resI (fun k=>Z k%8380417) kn ln e t a b o s sk m r);have HV:=hV;unfold resI at HV;rw[hV.o];have HTz:U ((aO.info? 34).map (·.size)=some T.size):=⟨by rw[hT.size];kernel_rfl⟩;obtain⟨L,HL⟩:=aQ ((bO (kn:Int) (ln:Int) e t a b o s):Array aE);have HLs:U ((aO.info? 37).map (·.size)=some L.size):=⟨by rw[<-HL.o];kernel_rfl⟩;obtain⟨W,hW⟩:=aP ((w.alloc (Y T 34)).alloc (Y L 37));obtain⟨r0,r1,hWs,b0⟩:=two hW;have TB:=gW r0;have LB:=gW r1;have GP:U (∀ w':G,zb W w'->Gp w'):=⟨fun w' hb=>hP.later (b0.trans (hb.mono b0.size))⟩;have BW:=D b0;have HW:=D hW;clear hW r0 r1 hWs b0 hV;by_cases hr:r.size=32
 ·rw[iP hr]at HV;have hrz:((r.size:Int) != 32)=false:=by rw[hr];rfl
  by_cases hsz:(sk.size:Int)=sz2 kn ln e
  ·have hhd:(sk.extract 0 128).size=128:=by
    rw[size_extract _ _ _ (by omega) ?_];have:=(kcon.xrn kn ln e sk.size).1 hsz;generalize 32*aW.lb (2*e).toNat*ln=x at this;generalize 32*aW.lb (2*e).toNat*kn=y at this;omega
   have HSe0:=fun w1=>kse.xrb kn ln e t a b o s sk w1 h hsz
   by_cases bR:okK sk kn ln e
   ·rw[iP ⟨hsz,bR⟩]at HV;have HSe1:∀ w1:G,aD aO 124 #[I (bO (kn:Int) (ln:Int) e t a b o s),E sk] w1 fun x w'=>(∃ g c g1 c1 g2 c2 g3 c3,x=.returned (aA #[E (sk.extract 0 128),aB (some ⟨g,0,none⟩) 3 c,O J 0])/\TH w' g g1 c1 g2 c2 g3 c3 ln kn (iB sk 128 (aW.lb (e+e).toNat) e) (iB sk (128+32*aW.lb (e+e).toNat*ln) (aW.lb (e+e).toNat) e) (iB sk (128+32*aW.lb (e+e).toNat*ln+32*aW.lb (e+e).toNat*kn) 13 4096))/\zb w1 w':=fun w1=>by
     refine(HSe0 w1).mono ?_;rintro x w' ⟨⟨-,v,rfl,hv⟩ | ⟨hno,-⟩,hb⟩
     ·obtain⟨g,c,g1,c1,g2,c2,g3,c3,rfl,H⟩:=kcon.th_of hv;exact⟨⟨g,c,g1,c1,g2,c2,g3,c3,rfl,H⟩,hb⟩
     ·exact absurd bR hno
    have h9:=xew Z kn ln e t a b o s sk (sk.extract 0 128) m r _ _ _ w hK hT hP h hm hr hhd HSe1;rw[<-HV.o];exact h9
   ·rw[iQ (fun hh=>bR hh.2)]at HV;have HSe:U (∀ w1:G,aD aO 124 #[I L,E sk] w1 (zB w1 (aA #[E ⟨#[]⟩,aB none 0 0,O J 3]))):=⟨fun w1=>by
     rw[<-HL.o];refine(HSe0 w1).mono ?_;rintro x w' ⟨⟨hyes,-⟩ | ⟨-,rfl⟩,hb⟩
     ·exact absurd hyes bR
     ·exact⟨rfl,hb⟩⟩
    rw[HL.o];clear HSe0 hhd bR hsz hr hK hT h hm hk hl;go_enter Tryz.func68,Tryz.ntmps68;go_wp2_with (first
     | (rw[HW.o])
     | (refine iL rfl 37 _ rfl (w.heap.size+1) rfl 37 _ (0,0) _ (LB.o _ (iR _ _)) zZ rfl HLs.o ?_))
    refine(HSe.o _).mono ?_;rintro x u1 ⟨rfl,hb1⟩;have E1:=bK BW hb1;clear hb1;go_wp2_with fail;go_ret2;exact⟨by rw[<-HV.o];rfl,E1.o⟩
  ·rw[iQ (fun hh=>hsz hh.1)]at HV;have HSe:U (∀ w1:G,aD aO 124 #[I L,E sk] w1 (zB w1 (aA #[E ⟨#[]⟩,aB none 0 0,O J 3]))):=⟨fun w1=>by
    rw[<-HL.o];exact kse.xyo (kn:Int) (ln:Int) e t a b o s sk w1 h hsz⟩
   rw[HL.o];clear hsz hr hK hT h hm hk hl;go_enter Tryz.func68,Tryz.ntmps68;go_wp2_with (first
    | (rw[HW.o])
    | (refine iL rfl 37 _ rfl (w.heap.size+1) rfl 37 _ (0,0) _ (LB.o _ (iR _ _)) zZ rfl HLs.o ?_))
   refine(HSe.o _).mono ?_;rintro x u1 ⟨rfl,hb1⟩;have E1:=bK BW hb1;clear hb1;go_wp2_with fail;go_ret2;exact⟨by rw[<-HV.o];rfl,E1.o⟩
 ·rw[iQ hr]at HV;have hrz:((r.size:Int) != 32)=true:=by simp;omega
  rw[HL.o];clear hr hK hT h hm hk hl;go_enter Tryz.func68,Tryz.ntmps68;go_wp2_with (rw[HW.o]);go_ret2;exact⟨by rw[<-HV.o];rfl,BW.o⟩
theorem xrl{T:Array aE}(k l e t a b o s:Int)(sk x c r:ByteArray)(w:G)(hTs:T.size=465)(hP:Gp w)(F:ByteArray->ByteArray->aE)(hF:∀ m q,∃ (x:ByteArray) (c:Int),F m q=aA #[E x,O J c])
 (HI:∀ (m q:ByteArray) (w1:G),Gp w1->m.size<=100000->(q=z32\/q=r)->aD aO 68 #[I T,I (bO k l e t a b o s),E sk,E m,E q] w1 (zB w1 (F m q))):
 aD aO 19 #[I T,I (bO k l e t a b o s),E sk,E x,E c,E r] w (zB w (if c.size<=255/\x.size<=60000 then F (iE c x) (if r.size=0 then z32 else r) else aA #[E ⟨#[]⟩,O J 5])):=by
 have HTz:U ((aO.info? 34).map (·.size)=some T.size):=⟨by rw[hTs];kernel_rfl⟩;obtain⟨L,HL⟩:=aQ ((bO k l e t a b o s):Array aE);have HLs:U ((aO.info? 37).map (·.size)=some L.size):=⟨by rw[<-HL.o];kernel_rfl⟩;obtain⟨W,hW⟩:=aP ((w.alloc (Y T 34)).alloc (Y L 37));obtain⟨r0,r1,hWs,b0⟩:=two hW;have TB:=gW r0;have LB:=gW r1;have GP:U (∀ w':G,zb W w'->Gp w'):=⟨fun w' hb=>hP.later (b0.trans (hb.mono b0.size))⟩;have BW:=D b0;have HW:=D hW;have HIn0:∀ (m q:ByteArray) (w1:G),Gp w1->m.size<=100000->(q=z32\/q=r)->aD aO 68 #[I T,I L,E sk,E m,E q] w1 (zB w1 (F m q)):=fun m q w1 q1 q2 q3=>by
  rw[<-HL.o];exact HI m q w1 q1 q2 q3
 rw[HL.o];clear hW r0 r1 hWs b0 hP;by_cases hm:c.size<=255/\x.size<=60000
 ·rw[iP hm];have HMs:U (∀ w1:G,aD aO 27 #[E c,E x] w1 (zB w1 (aA #[E (iE c x),O J 0]))):=⟨fun w1=>xix c x w1 hm.1 hm.2⟩;have hms:(iE c x).size<=100000:=by rw[fJ.xlr];omega
  obtain⟨M,hM⟩:=aP (iE c x);rw[hM]at HMs hms ⊢;by_cases hr:r.size=0
  ·rw[iP hr];have hre:r=⟨#[]⟩:=ByteArray.ext (Array.eq_empty_of_size_eq_zero hr);subst hre;have HRe:U (∀ w1:G,aD aO 67 #[E ⟨#[0]⟩,O J 32] w1 (zB w1 (E z32))):=⟨fun w1=>eX.repeated ⟨#[0]⟩ 32 w1 (by decide) (by decide)⟩;have HIn:=D (fun w1 q1=>HIn0 M z32 w1 q1 hms (kW rfl));obtain⟨V1,V2,hV⟩:=hF M z32;rw[hV]at HIn ⊢;obtain⟨z,hz⟩:=aP z32;rw[hz]at HRe HIn;clear HIn0 hm hM hms hV hz hr HI hF;go_enter Tryz.func19,Tryz.ntmps19;go_wp2_with (rw[HW.o]);refine(HMs.o _).mono ?_;rintro y u1 ⟨rfl,hb1⟩;have E1:U (zb W u1):=⟨hb1⟩;clear hb1;go_wp2_with fail;refine(HRe.o _).mono ?_;rintro y u2 ⟨rfl,hb2⟩;have E2:=bK E1 hb2;clear hb2;go_wp2_with (first
    | (refine iL rfl 34 _ rfl w.heap.size rfl 34 T (0,0) _ (TB.o _ E2.o) zY rfl HTz.o ?_)
    | (refine iL rfl 37 _ rfl (w.heap.size+1) rfl 37 L (0,0) _ (LB.o _ E2.o) zZ rfl HLs.o ?_))
   refine(HIn.o _ (GP.o _ E2.o)).mono ?_;rintro y u3 ⟨rfl,hb3⟩;have E3:U (zb w u3):=⟨BW.o.trans ((E2.o.trans (hb3.mono E2.o.size)).mono BW.o.size)⟩;clear hb3;go_wp2_with fail;go_ret2;exact⟨rfl,E3.o⟩
  ·rw[iQ hr];have hne:=xv7 r (by omega);have HIn:=D (fun w1 q1=>HIn0 M r w1 q1 hms (kO rfl));obtain⟨V1,V2,hV⟩:=hF M r;rw[hV]at HIn ⊢;clear HIn0 hm hM hms hV hr HI hF;go_enter Tryz.func19,Tryz.ntmps19;go_wp2_with (rw[HW.o]);refine(HMs.o _).mono ?_;rintro y u2 ⟨rfl,hb2⟩;have E2:U (zb W u2):=⟨hb2⟩;clear hb2;go_wp2_with (first
    | (refine iL rfl 34 _ rfl w.heap.size rfl 34 T (0,0) _ (TB.o _ E2.o) zY rfl HTz.o ?_)
    | (refine iL rfl 37 _ rfl (w.heap.size+1) rfl 37 L (0,0) _ (LB.o _ E2.o) zZ rfl HLs.o ?_))
   refine(HIn.o _ (GP.o _ E2.o)).mono ?_;rintro y u3 ⟨rfl,hb3⟩;have E3:U (zb w u3):=⟨BW.o.trans ((E2.o.trans (hb3.mono E2.o.size)).mono BW.o.size)⟩;clear hb3;go_wp2_with fail;go_ret2;exact⟨rfl,E3.o⟩
 ·rw[iQ hm];have HMs:U (∀ w1:G,aD aO 27 #[E c,E x] w1 (zE w1 (aA #[E ⟨#[]⟩,O J 5]))):=⟨fun w1=>xiw c x w1 (by omega)⟩;clear HIn0 hm HI hF;go_enter Tryz.func19,Tryz.ntmps19;go_wp2_with (rw[HW.o]);refine(HMs.o _).mono ?_;rintro y u1 ⟨rfl,h1⟩;rw[h1];clear h1 u1;go_wp2_with fail;go_ret2;exact⟨rfl,BW.o⟩
theorem xjr{T:Array aE}(Z:Nat->Int)(kn ln:Nat)(e t a b o s:Int)(sk x c r:ByteArray)(w:G)(hK:KT T TL RL)(hT:cE.ZT T Z)(hP:Gp w)(h:bP (kn:Int) (ln:Int) e t a b o s=true):
 aD aO 19 #[I T,I (bO (kn:Int) (ln:Int) e t a b o s),E sk,E x,E c,E r] w (zB w (mgr.resS (fun k=>Z k%8380417) kn ln e t a b o s sk x c r)):=
 xrl (kn:Int) (ln:Int) e t a b o s sk x c r w hT.size hP (fun m q=>resI (fun k=>Z k%8380417) kn ln e t a b o s sk m q) (fun m q=>xxt _ _ _ _ _ _ _ _ _ _ m q) fun m q w1 q1 q2 _=>xd1 Z kn ln e t a b o s sk m q w1 hK hT q1 h q2
end mgi
namespace vpi
open arr mem bD aT aV bS cY bF bQ dD bM bZ dJ eH cZ bU bT cV aR aW aY bC bA dQ fA dN dG dW mlkd mlvr mlvm vpd
theorem xew{T:Array aE}(Z:Nat->Int)(kn ln:Nat)(e t a b o s:Int)(pk m x rho sum:ByteArray)(hi zf hf:Nat->Nat->Int)(w:G)(hK:KT T TL RL)(hT:cE.ZT T Z)(hP:Gp w)(h:bP (kn:Int) (ln:Int) e t a b o s=true)(hm:m.size<=100000)(hpk:pk.size<=100000)(hrho:rho.size<=1000)(hsum:sum.size<=1000)
 (HPu0:∀ w1:G,aD aO 29 #[I (bO (kn:Int) (ln:Int) e t a b o s),E pk] w1 fun r w'=>(∃ v,r=.returned (aA #[E rho,v,O J 0])/\Holds w' 0 v kn hi)/\zb w1 w')
 (HPa0:∀ w1:G,aD aO 13 #[I (bO (kn:Int) (ln:Int) e t a b o s),E x] w1 fun r w'=>(∃ v1 v2,r=.returned (aA #[E sum,v1,v2,O J 0])/\Holds w' 0 v1 ln zf/\Holds w' 0 v2 kn hf)/\zb w1 w'):
 aD aO 11 #[I T,I (bO (kn:Int) (ln:Int) e t a b o s),E pk,E m,E x] w (zB w (aA #[.bool (vOk (fun k=>Z k%8380417) kn ln e t a b s rho (out TL RL 2 (out TL RL 2 pk 64++m) 64) sum hi zf hf),O J 0])):=by
 obtain⟨hk,hl,ht,he,ha⟩:=xde h;obtain⟨-,-,-,-,ho,hs⟩:=xbe h;have hb:b=95232\/b=261888:=by
  unfold bP okg at h;simp only[jQ,nW,kN,lL]at h;omega
 have hk : 1<=kn/\kn<=8:=by omega
 have hl : 1<=ln/\ln<=8:=by omega
 have hTs:=hT.size;obtain⟨ζ,hζ⟩:∃ ζ : Nat->Int,(fun k=>Z k%8380417) = ζ := ⟨_,rfl⟩;obtain⟨tr,htr⟩:=aP (out TL RL 2 pk 64);have htrs:tr.size=64:=by rw[<-htr];exact fD.xb1 _ _ _
 obtain⟨mu,hmu⟩:=aP (out TL RL 2 (tr++m) 64);have hmus:mu.size=64:=by rw[<-hmu];exact fD.xb1 _ _ _
 obtain⟨l4,hl4⟩:=aP ((s / 4).toNat);have hl4e:s / 4=(l4:Int):=by omega
 have hl4t:s.tdiv 4=(l4:Int):=by rw[iU (by omega)];exact hl4e
 have hl4z:l4<=64:=by omega
 have hl4w:J.wrap (l4:Int)=(l4:Int):=bB;obtain⟨CO,hCO⟩:=aP (cJ ByteArray.empty (fun i=>packed (row ζ b (dB sum t) (cQ ζ (qX rho i) zf ln) (hi i) (hf i)) (8380416 / (2*b)-1)) kn);have hCOs:CO.size<=10000:=by
  rw[<-hCO,xgq _ _ (32*aW.lb (8380416 / (2*b)-1).toNat) _ (fun i _=>by rw[xcy])];have h9 : 32*aW.lb (8380416 / (2*b)-1).toNat<=1000:=by rcases hb with rfl | rfl<;>decide +kernel
  have h8:=lA h9 hk.2;have h7:ByteArray.empty.size=0:=rfl;omega
 obtain⟨VH,hVH⟩:=aP (out TL RL 2 (mu++CO) l4);have hvh:vHash ζ kn ln t b s rho mu sum hi zf hf=VH:=by
  rw[<-hVH,<-hCO,xkl,<-hl4];rfl
 obtain⟨X,hX⟩:=aP (bE.eW zf ln);obtain⟨te,hte⟩:=aP (t*e);have hte2 : 0<=te/\te<=256:=by rw[<-hte];rcases he with h | h<;>rw[h]<;>omega
 have htew:J.wrap (t*e)=te:=by rw[hte,iN];omega
 obtain⟨lim,hlim⟩:=aP (a-te);have hlimw:J.wrap (a-te)=lim:=by rw[hlim,iN];omega
 obtain⟨bb,hbb⟩:=aP (vOk ζ kn ln e t a b s rho mu sum hi zf hf);have hbb2:=hbb;unfold vOk at hbb2;rw[hvh,hX,hte,hlim]at hbb2;rw[hζ,htr,hmu,hbb];have HS10:∀ w1:G,Gp w1->w1.heap[w.heap.size]? = some (Y T 34 (0,0))->aD aO 31 #[aC (some ⟨w.heap.size,0,none⟩),E pk,O J 64] w1 (zB w1 (E tr)):=fun w1 hg hr=>by
  rw[<-htr];exact vpa.xc8 w.heap.size _ 64 w1 hK hg hr (by decide) (by omega)
 have HS20:∀ w1:G,Gp w1->w1.heap[w.heap.size]? = some (Y T 34 (0,0))->aD aO 31 #[aC (some ⟨w.heap.size,0,none⟩),E (tr++m),O J 64] w1 (zB w1 (E mu)):=fun w1 hg hr=>by
  rw[<-hmu];exact vpa.xc8 w.heap.size _ 64 w1 hK hg hr (by decide) (by rw[jS];omega)
 have HS30:∀ w1:G,Gp w1->w1.heap[w.heap.size]? = some (Y T 34 (0,0))->aD aO 31 #[aC (some ⟨w.heap.size,0,none⟩),E (mu++CO),O J (l4:Int)] w1 (zB w1 (E VH)):=fun w1 hg hr=>by
  rw[<-hVH];exact vpa.xc8 w.heap.size _ l4 w1 hK hg hr (by omega) (by rw[jS];omega)
 have HMa0:∀ w1:G,Gp w1->aD aO 33 #[I T,I (bO (kn:Int) (ln:Int) e t a b o s),E rho] w1 fun y w'=>(∃ v,y=.returned v/\MX w' v kn (fun _=>ln) (qX rho))/\zb w1 w':=fun w1 hg=>by
  refine(iI.matrix kn ln e t a b o s _ w1 hK hg h hrho).mono ?_;rintro y w' ⟨⟨v,vs,rfl,h1,h2⟩,hb⟩;exact⟨⟨v,rfl,xi1 hk.1 h1 h2⟩,hb⟩
 have HRw:U (∀ (v vv:aE) (w1:G),MX w1 v kn (fun _=>ln) (qX rho)->Holds w1 0 vv ln zf->aD aO 32 #[I T,v,vv] w1 fun y w'=>(∃ v',y=.returned v'/\Holds w' 0 v' kn (fun i=>cQ ζ (qX rho i) zf ln))/\zb w1 w'):=⟨fun v vv w1 h1 h2=>by
  refine(krw.xhg T Z kn ln (fun _=>ln) (qX rho) zf v vv 0 w1 hTs hT hk (fun r _=>hl.2) hl h1 h2).mono ?_;rintro y w' ⟨⟨v',rfl,h3⟩,hb⟩;simp only[Nat.min_self,hζ]at h3;exact⟨⟨v',rfl,dG.xbm h3⟩,hb⟩⟩
 have HBa:U (∀ w1:G,Gp w1->aD aO 34 #[I T,E sum,O J t] w1 (zB w1 (I (FL J 256 (dB sum t))))):=⟨fun w1 hg=>iI.ball sum t w1 hK hg (by omega)⟩;have HCo:U (∀ (vw vk vh:aE) (w1:G),w1.heap[w.heap.size]? = some (Y T 34 (0,0))->Holds w1 0 vw kn (fun i=>cQ ζ (qX rho i) zf ln)->Holds w1 0 vk kn hi->Holds w1 0 vh kn hf->aD aO 35 #[aC (some ⟨w.heap.size,0,none⟩),O J b,vw,vk,vh,I (FL J 256 (dB sum t))] w1 (zB w1 (E CO))):=⟨fun vw vk vh w1 q1 q2 q3 q4=>by
  have h9:=vpb.xt3 Z w.heap.size kn b vw vk vh 0 0 0 (fun i=>cQ ζ (qX rho i) zf ln) hi hf (dB sum t) w1 hT hb hk q1 q2 q3 q4;rw[hζ,hCO]at h9;exact h9⟩
 have HSi:U (∀ (v:aE) (w1:G),Holds w1 0 v ln zf->aD aO 30 #[v] w1 (zE w1 (O J X))):=⟨fun v w1 q=>by
  obtain⟨g,c,rfl,-,-,q2⟩:=q;rw[<-hX];exact fsize.xb9 g ln c zf w1 (by omega) fun j hj i hi=>by rw[kI];exact q2 j hj i hi⟩
 have HTz:U ((aO.info? 34).map (·.size)=some T.size):=⟨by rw[hTs];kernel_rfl⟩;obtain⟨L,HL⟩:=aQ ((bO (kn:Int) (ln:Int) e t a b o s):Array aE);have HLs:U ((aO.info? 37).map (·.size)=some L.size):=⟨by rw[<-HL.o];kernel_rfl⟩;obtain⟨W,hW⟩:=aP ((w.alloc (Y T 34)).alloc (Y L 37));obtain⟨r0,r1,hWs,b0⟩:=two hW;have TB:=gW r0;have LB:=gW r1;have GP:U (∀ w':G,zb W w'->Gp w'):=⟨fun w' hb=>hP.later (b0.trans (hb.mono b0.size))⟩;have BW:=D b0;have HW:=D hW;have C4:U (∀ w':G,zb W w'->w'.cell? ⟨w.heap.size+1,4,none⟩=some (O J a)):=⟨fun w' hb=>aZ (LB.o w' hb) (by rw[<-HL.o];rfl)⟩;have C3:U (∀ w':G,zb W w'->w'.cell? ⟨w.heap.size+1,3,none⟩=some (O J t)):=⟨fun w' hb=>aZ (LB.o w' hb) (by rw[<-HL.o];rfl)⟩;have C2:U (∀ w':G,zb W w'->w'.cell? ⟨w.heap.size+1,2,none⟩=some (O J e)):=⟨fun w' hb=>aZ (LB.o w' hb) (by rw[<-HL.o];rfl)⟩;have C5:U (∀ w':G,zb W w'->w'.cell? ⟨w.heap.size+1,5,none⟩=some (O J b)):=⟨fun w' hb=>aZ (LB.o w' hb) (by rw[<-HL.o];rfl)⟩;have C7:U (∀ w':G,zb W w'->w'.cell? ⟨w.heap.size+1,7,none⟩=some (O J s)):=⟨fun w' hb=>aZ (LB.o w' hb) (by rw[<-HL.o];rfl)⟩;rw[HL.o]at HPu0 HPa0 HMa0 ⊢;have HPu:=D HPu0;have HPa:=D HPa0;have HMa:=D HMa0;have HS1:=D HS10;have HS2:=D HS20;have HS3:=D HS30;obtain⟨c,hc⟩:=aQ (dB sum t);rw[hc.o]at HBa HCo;obtain⟨hz,hsize⟩:=iY aV.aX;obtain⟨z,HZ⟩:=aQ (FL J 256 fun _=>0);rw[HZ.o]at hz
 obtain⟨F,HF⟩:=aQ (FL J 256 c);rw[HF.o]at HBa HCo;have Fi:=eE HF hsize;have Fo:=eJ HF;have Fz:U (z.size=F.size):=⟨by rw[<-HZ.o,<-HF.o,cC,cC]⟩;have x1:¬ 9223372036854775807<tr.size+m.size:=by omega
 have x2:¬ 9223372036854775807<mu.size+CO.size:=by omega
 have Hbb:=D hbb2;clear hW r0 r1 hWs b0 hP hK hT h hm hpk hrho hsum hk hl ht he ha hb ho hs hTs hζ htr htrs hmu hmus hl4 hl4z hCO hCOs hVH hvh hX hte hte2 hlim hbb hbb2 HPu0 HPa0 HMa0 HS10 HS20 HS30 hsize HF HZ hc;have hz9:=hz;clear hz;go_enter Tryz.func11,Tryz.ntmps11;go_wp2_with (first
  | (rw[HW.o])
  | (refine iL rfl 37 _ rfl (w.heap.size+1) rfl 37 _ (0,0) _ (LB.o _ (iR _ _)) zZ rfl HLs.o ?_))
 refine(HPu.o _).mono ?_;rintro y u1 ⟨⟨vk,rfl,hvk⟩,hb1⟩;have E1:U (zb W u1):=⟨hb1⟩;have Hvk:=D hvk;clear hb1 hvk;go_wp2_with (refine iL rfl 37 _ rfl (w.heap.size+1) rfl 37 _ (0,0) _ (LB.o _ E1.o) zZ rfl HLs.o ?_);refine(HPa.o _).mono ?_;rintro y u2 ⟨⟨vz,vh,rfl,hvz,hvh⟩,hb2⟩;have E2:=bK E1 hb2;have Hk2:U (Holds u2 0 vk kn hi):=⟨Hvk.o.later hb2⟩;have Hz2:=D hvz;have Hh2:=D hvh;clear hb2 hvz hvh Hvk;go_wp2_with fail;refine xa4 (u2.heap.size) 11 [0,2,3,4,5,6,7,8,9,1,10] (by kernel_rfl) rfl rfl (by decide) (fun hS ops HO=>?_);simp only[jT,fa,jF,jL];iterate 2 (refine zU hS ?_)
 refine zD ((fun w9 h9=>C4.o w9 (E2.o.trans (h9.mono E2.o.size)))) hS ?_;refine zU hS ?_;refine zD ((fun w9 h9=>C3.o w9 (E2.o.trans (h9.mono E2.o.size)))) hS ?_;refine zU hS ?_;refine zD ((fun w9 h9=>C2.o w9 (E2.o.trans (h9.mono E2.o.size)))) hS ?_;iterate 2 (refine zU hS ?_)
 refine zS fun K hK=>?_
 go_simp
 refine(HSi.o _ _ (Hz2.o.later (iR _ _).drew)).mono ?_;rintro y w2 ⟨rfl,hw2⟩;rw[hw2];clear hw2 w2;refine hK _ _ hS ?_;clear hK K;try simp only[aM,pa,pb,pc]
 refine zU hS ?_;refine zN ?_;obtain⟨u3,hu3⟩:=aP u2.drew;rw[hu3]at hS ⊢;have E3:=bK E2 hS;have Hk3:U (Holds u3 0 vk kn hi):=⟨Hk2.o.later hS⟩;have Hz3:U (Holds u3 0 vz ln zf):=⟨Hz2.o.later hS⟩;have Hh3:U (Holds u3 0 vh kn hf):=⟨Hh2.o.later hS⟩;clear hS HO hu3 Hk2 Hz2 Hh2 htew hlimw;by_cases hcA:lim<=X
 ·have hdA:¬ X<lim:=by omega
  have hbf:bb=false:=by rw[<-Hbb.o,jN (by omega),Bool.false_and]
  clear hcA;go_wp2_with fail;go_ret2;exact⟨rfl,BW.o.trans (E3.o.mono BW.o.size)⟩
 ·have hdA:X<lim:=by omega
  have hbt:U (decide (VH=sum)=bb):=⟨by rw[<-Hbb.o,jP (show X<lim by omega),Bool.true_and]⟩;clear hcA;go_wp2_with fail;refine(HS1.o _ (GP.o _ E3.o) (TB.o _ E3.o)).mono ?_;rintro y u4 ⟨rfl,hb4⟩;have E4:=bK E3 hb4;have E34:U (zb u3 u4):=⟨hb4⟩;clear hb4;go_wp2_with fail;refine(HS2.o _ (GP.o _ E4.o) (TB.o _ E4.o)).mono ?_;rintro y u5 ⟨rfl,hb5⟩;have E5:=bK E4 hb5;have E35:=bK E34 hb5;clear hb5 x1;go_wp2_with fail;refine xa4 (u5.heap.size) 8 [0,1,2,3,5,4,6,7] (by kernel_rfl) rfl rfl (by decide) (fun hS ops HO=>?_);simp only[jT,fa,jF,jL];iterate 2 (refine gP (by rw[<-HO.o];kernel_rfl) (fun _ _ _ _ h=>h) 34 _ rfl w.heap.size rfl 34 T _ (fun w1 h1=>TB.o w1 (E5.o.trans (h1.mono E5.o.size))) zY rfl HTz.o hS ?_;simp only[aM,pa,pb,pc])
  refine gP (by rw[<-HO.o];kernel_rfl) (fun _ _ _ _ h=>h) 37 _ rfl (w.heap.size+1) rfl 37 L _ (fun w1 h1=>LB.o w1 (E5.o.trans (h1.mono E5.o.size))) zZ rfl HLs.o hS ?_;simp only[aM,pa,pb,pc];iterate 2 (refine zU hS ?_)
  refine zS fun K hK=>?_
  go_simp
  refine(HMa.o _ (GP.o _ (E5.o.trans (hS.mono E5.o.size)))).mono ?_;rintro x w2 ⟨⟨vm,rfl,hvm⟩,hb2⟩;have h2:=hS.trans (hb2.mono hS.size);have k2:zb u3 w2:=E35.o.trans (h2.mono E35.o.size);refine hK _ _ h2 ?_;clear hK K;try simp only[aM,pa,pb,pc]
  refine zS fun K hK=>?_
  go_simp
  refine(HRw.o _ _ _ hvm (Hz3.o.later k2)).mono ?_;rintro x w3 ⟨⟨vw,rfl,hvw⟩,hb3⟩;have h3:=h2.trans (hb3.mono h2.size);refine hK _ _ h3 ?_;clear hK K;try simp only[aM,pa,pb,pc]
  refine zU h3 ?_;refine zN ?_;have E6:=bK E5 h3;have E36:=bK E35 h3;have Hvw:=D hvw;have c3:w3.cell? ⟨w.heap.size+1,3,none⟩=some (O J t):=C3.o _ E6.o;clear hS HO hb2 h2 k2 hvm hb3 h3 hvw;go_wp2_with (refine iL rfl 34 _ rfl w.heap.size rfl 34 _ (0,0) _ (TB.o _ E6.o) zY rfl HTz.o ?_);refine(HBa.o _ (GP.o _ E6.o)).mono ?_;rintro y w4 ⟨rfl,hb4⟩;obtain⟨W5,hW5⟩:=aP (w4.alloc (Y F 76));obtain⟨r5,hs5,b5⟩:=one hW5;have hb5:=zbm hb4 b5;have E7:=bK E6 hb5;have E37:=bK E36 hb5;have Hw7:U (Holds W5 0 vw kn (fun i=>cQ ζ (qX rho i) zf ln)):=⟨Hvw.o.later hb5⟩;have R5:=D r5;have HW5:=D hW5;clear hb4 hW5 r5 hs5 b5 hb5 c3;have hz:=hz9;go_wp2_with (first
   | (refine fV rfl 76 _ _ rfl F rfl rfl Fi.o (by exact Fz.o) Fo.o rfl ?_)
   | (rw[HW5.o]))
  clear hz;refine xa4 (W5.heap.size) 17 [0,1,2,3,4,5,6,7,10,11,12,8,9,13,14,15,16] (by kernel_rfl) rfl rfl (by decide) (fun hS ops HO=>?_);simp only[jT,fa,jF,jL];iterate 3 (refine zU hS ?_)
  refine zD ((fun w9 h9=>C5.o w9 (E7.o.trans (h9.mono E7.o.size)))) hS ?_;iterate 3 (refine zU hS ?_)
  refine gP (by rw[<-HO.o];kernel_rfl) (fun _ _ _ _ h=>h) 76 _ rfl w4.heap.size rfl 76 F _ (fun w1 h1=>(h1.block _ (bI R5.o)).trans R5.o) zX rfl Fi.o hS ?_;simp only[aM,pa,pb,pc];refine zU hS ?_;refine zD ((fun w9 h9=>C7.o w9 (E7.o.trans (h9.mono E7.o.size)))) hS ?_;refine zU hS ?_;have k7:zb u3 W5.drew:=E37.o.trans (hS.mono E37.o.size);refine zS fun K hK=>?_
  go_simp
  refine(HCo.o _ _ _ _ (TB.o _ (E7.o.trans (hS.mono E7.o.size))) (Hw7.o.later hS) (Hk3.o.later k7) (Hh3.o.later k7)).mono ?_;rintro x w8 ⟨rfl,hb8⟩;have h8:=hS.trans (hb8.mono hS.size);refine hK _ _ h8 ?_;clear hK K;try simp only[aM,pa,pb,pc]
  refine zU h8 ?_;refine zS fun K hK=>?_
  go_simp
  refine(HS3.o _ (GP.o _ (E7.o.trans (h8.mono E7.o.size))) (TB.o _ (E7.o.trans (h8.mono E7.o.size)))).mono ?_;rintro x w10 ⟨rfl,hb10⟩;have h10:=h8.trans (hb10.mono h8.size);refine hK _ _ h10 ?_;clear hK K;try simp only[aM,pa,pb,pc]
  iterate 3 (refine zU h10 ?_)
  refine zN ?_;have D9:U (zb w w10):=⟨BW.o.trans ((E7.o.trans (h10.mono E7.o.size)).mono BW.o.size)⟩;clear hS HO k7 hb8 h8 hb10 h10 x2;go_wp2_with fail;go_ret2;rw[<-hbt.o,<-str_eq];exact⟨rfl,D9.o⟩
theorem xd1{T:Array aE}(Z:Nat->Int)(kn ln:Nat)(e t a b o s:Int)(pk m x:ByteArray)(w:G)(hK:KT T TL RL)(hT:cE.ZT T Z)(hP:Gp w)(h:bP (kn:Int) (ln:Int) e t a b o s=true)(hm:m.size<=100000):
 aD aO 11 #[I T,I (bO (kn:Int) (ln:Int) e t a b o s),E pk,E m,E x] w (zB w (resV (fun k=>Z k%8380417) kn ln e t a b o s pk m x)):=by
 obtain⟨hk,hl,-,-,ho,hs⟩:=xbe h;have hTs:=hT.size;unfold resV;by_cases hp:pk.size=32+320*kn
 ·have HPu:∀ w1:G,aD aO 29 #[I (bO (kn:Int) (ln:Int) e t a b o s),E pk] w1 fun r w'=>(∃ v,r=.returned (aA #[E (pk.extract 0 32),v,O J 0])/\Holds w' 0 v kn (rdU pk 32 10))/\zb w1 w':=fun w1=>by
   refine(kpu.xje kn (ln:Int) e t a b o s pk w1 h hp).mono ?_;rintro r w' ⟨⟨v,rfl,hv⟩,hb⟩;exact⟨⟨v,rfl,dG.xbm hv⟩,hb⟩
  by_cases bR:okV x kn ln a o s
  ·rw[iP ⟨hp,bR⟩];refine xew Z kn ln e t a b o s pk m x _ _ _ _ _ w hK hT hP h hm (by omega) (by rw[kE];omega) (by unfold vS;rw[kE];omega) HPu fun w1=>?_
   refine(vpc.xd9 kn ln e t a b o s x w1 h).mono ?_;rintro r w' ⟨⟨v,rfl,⟨-,v1,v2,rfl,q1,q2⟩ | ⟨hno,-⟩⟩,hb⟩
   ·exact⟨⟨v1,v2,rfl,dG.xbm q1,dG.xbm q2⟩,hb⟩
   ·exact absurd bR hno
  ·rw[iQ fun hh=>bR hh.2];have HPa0:∀ w1:G,aD aO 13 #[I (bO (kn:Int) (ln:Int) e t a b o s),E x] w1 (zB w1 (aA #[E ⟨#[]⟩,aB none 0 0,aB none 0 0,O J 3])):=fun w1=>by
    refine(vpc.xd9 kn ln e t a b o s x w1 h).mono ?_;rintro r w' ⟨⟨v,rfl,⟨hyes,-⟩ | ⟨-,rfl⟩⟩,hb⟩
    ·exact absurd hyes bR
    ·exact⟨rfl,hb⟩
   have HTz:U ((aO.info? 34).map (·.size)=some T.size):=⟨by rw[hTs];kernel_rfl⟩;obtain⟨L,HL⟩:=aQ ((bO (kn:Int) (ln:Int) e t a b o s):Array aE);have HLs:U ((aO.info? 37).map (·.size)=some L.size):=⟨by rw[<-HL.o];kernel_rfl⟩;obtain⟨W,hW⟩:=aP ((w.alloc (Y T 34)).alloc (Y L 37));obtain⟨r0,r1,hWs,b0⟩:=two hW;have TB:=gW r0;have LB:=gW r1;have GP:U (∀ w':G,zb W w'->Gp w'):=⟨fun w' hb=>hP.later (b0.trans (hb.mono b0.size))⟩;have BW:=D b0;have HW:=D hW;rw[HL.o]at HPu HPa0 ⊢;have HPu:=D HPu;have HPa:=D HPa0;clear hW r0 r1 hWs b0 hP hK hT h hm hk hl ho hs hp bR hTs HPa0;go_enter Tryz.func11,Tryz.ntmps11;go_wp2_with (first
    | (rw[HW.o])
    | (refine iL rfl 37 _ rfl (w.heap.size+1) rfl 37 _ (0,0) _ (LB.o _ (iR _ _)) zZ rfl HLs.o ?_))
   refine(HPu.o _).mono ?_;rintro y u1 ⟨⟨vk,rfl,-⟩,hb1⟩;have E1:U (zb W u1):=⟨hb1⟩;clear hb1;go_wp2_with (refine iL rfl 37 _ rfl (w.heap.size+1) rfl 37 _ (0,0) _ (LB.o _ E1.o) zZ rfl HLs.o ?_);refine(HPa.o _).mono ?_;rintro y u2 ⟨rfl,hb2⟩;have D2:U (zb w u2):=⟨BW.o.trans ((E1.o.trans (hb2.mono E1.o.size)).mono BW.o.size)⟩;clear hb2;go_wp2_with fail;go_ret2;exact⟨rfl,D2.o⟩
 ·rw[iQ fun hh=>hp hh.1];have HPu0:∀ w1:G,aD aO 29 #[I (bO (kn:Int) (ln:Int) e t a b o s),E pk] w1 (zB w1 (aA #[E ⟨#[]⟩,aB none 0 0,O J 3])):=fun w1=>kpu.xmb (kn:Int) (ln:Int) e t a b o s pk w1 h (by unfold gX;omega)
  have HTz:U ((aO.info? 34).map (·.size)=some T.size):=⟨by rw[hTs];kernel_rfl⟩;obtain⟨L,HL⟩:=aQ ((bO (kn:Int) (ln:Int) e t a b o s):Array aE);have HLs:U ((aO.info? 37).map (·.size)=some L.size):=⟨by rw[<-HL.o];kernel_rfl⟩;obtain⟨W,hW⟩:=aP ((w.alloc (Y T 34)).alloc (Y L 37));obtain⟨r0,r1,hWs,b0⟩:=two hW;have TB:=gW r0;have LB:=gW r1;have GP:U (∀ w':G,zb W w'->Gp w'):=⟨fun w' hb=>hP.later (b0.trans (hb.mono b0.size))⟩;have BW:=D b0;have HW:=D hW;rw[HL.o]at HPu0 ⊢;have HPu:=D HPu0;clear hW r0 r1 hWs b0 hP hK hT h hm hk hl ho hs hp hTs HPu0;go_enter Tryz.func11,Tryz.ntmps11;go_wp2_with (first
   | (rw[HW.o])
   | (refine iL rfl 37 _ rfl (w.heap.size+1) rfl 37 _ (0,0) _ (LB.o _ (iR _ _)) zZ rfl HLs.o ?_))
  refine(HPu.o _).mono ?_;rintro y u1 ⟨rfl,hb1⟩;have D1:=bK BW hb1;clear hb1;go_wp2_with fail;go_ret2;exact⟨rfl,D1.o⟩
theorem xj3{T:Array aE}(k l e t a b o s:Int)(pk m c x:ByteArray)(w:G)(hTs:T.size=465)(hP:Gp w)(F:ByteArray->aE)(hF:∀ m,∃ (y:Bool) (c:Int),F m=aA #[.bool y,O J c])
 (HI:∀ (m:ByteArray) (w1:G),Gp w1->m.size<=100000->aD aO 11 #[I T,I (bO k l e t a b o s),E pk,E m,E x] w1 (zB w1 (F m))):
 aD aO 9 #[I T,I (bO k l e t a b o s),E pk,E m,E c,E x] w (zB w (if c.size<=255/\m.size<=60000 then F (iE c m) else aA #[.bool false,O J 5])):=by
 have HTz:U ((aO.info? 34).map (·.size)=some T.size):=⟨by rw[hTs];kernel_rfl⟩;obtain⟨L,HL⟩:=aQ ((bO k l e t a b o s):Array aE);have HLs:U ((aO.info? 37).map (·.size)=some L.size):=⟨by rw[<-HL.o];kernel_rfl⟩;obtain⟨W,hW⟩:=aP ((w.alloc (Y T 34)).alloc (Y L 37));obtain⟨r0,r1,hWs,b0⟩:=two hW;have TB:=gW r0;have LB:=gW r1;have GP:U (∀ w':G,zb W w'->Gp w'):=⟨fun w' hb=>hP.later (b0.trans (hb.mono b0.size))⟩;have BW:=D b0;have HW:=D hW;have HI0:∀ (m:ByteArray) (w1:G),Gp w1->m.size<=100000->aD aO 11 #[I T,I L,E pk,E m,E x] w1 (zB w1 (F m)):=fun m w1 q1 q2=>by
  rw[<-HL.o];exact HI m w1 q1 q2
 rw[HL.o];clear hW r0 r1 hWs b0 hP;by_cases hm:c.size<=255/\m.size<=60000
 ·rw[iP hm];have HMs:U (∀ w1:G,aD aO 27 #[E c,E m] w1 (zB w1 (aA #[E (iE c m),O J 0]))):=⟨fun w1=>mgi.xix c m w1 hm.1 hm.2⟩;have hms:(iE c m).size<=100000:=by rw[fJ.xlr];omega
  have HIn:=D (fun w1 q1=>HI0 (iE c m) w1 q1 hms);obtain⟨M,hM⟩:=aP (iE c m);rw[hM]at HMs HIn ⊢;obtain⟨V1,V2,hV⟩:=hF M;rw[hV]at HIn ⊢;clear HI0 hm hM hms hV HI hF;go_enter Tryz.func9,Tryz.ntmps9;go_wp2_with (rw[HW.o]);refine(HMs.o _).mono ?_;rintro y u1 ⟨rfl,hb1⟩;have E1:U (zb W u1):=⟨hb1⟩;clear hb1;go_wp2_with (first
   | (refine iL rfl 34 _ rfl w.heap.size rfl 34 _ (0,0) _ (TB.o _ E1.o) zY rfl HTz.o ?_)
   | (refine iL rfl 37 _ rfl (w.heap.size+1) rfl 37 _ (0,0) _ (LB.o _ E1.o) zZ rfl HLs.o ?_))
  refine(HIn.o _ (GP.o _ E1.o)).mono ?_;rintro y u2 ⟨rfl,hb2⟩;have D2:U (zb w u2):=⟨BW.o.trans ((E1.o.trans (hb2.mono E1.o.size)).mono BW.o.size)⟩;clear hb2;go_wp2_with fail;go_ret2;exact⟨rfl,D2.o⟩
 ·rw[iQ hm];have HMs:U (∀ w1:G,aD aO 27 #[E c,E m] w1 (zE w1 (aA #[E ⟨#[]⟩,O J 5]))):=⟨fun w1=>mgi.xiw c m w1 (by omega)⟩;clear HI0 hm HI hF;go_enter Tryz.func9,Tryz.ntmps9;go_wp2_with (rw[HW.o]);refine(HMs.o _).mono ?_;rintro y u1 ⟨rfl,h1⟩;rw[h1];clear h1 u1;go_wp2_with fail;go_ret2;exact⟨rfl,BW.o⟩
theorem xnd{T:Array aE}(Z:Nat->Int)(kn ln:Nat)(e t a b o s:Int)(pk m c x:ByteArray)(w:G)(hK:KT T TL RL)(hT:cE.ZT T Z)(hP:Gp w)(h:bP (kn:Int) (ln:Int) e t a b o s=true):
 aD aO 9 #[I T,I (bO (kn:Int) (ln:Int) e t a b o s),E pk,E m,E c,E x] w (zB w (resY (fun k=>Z k%8380417) kn ln e t a b o s pk m c x)):=
 xj3 (kn:Int) (ln:Int) e t a b o s pk m c x w hT.size hP (fun m=>resV (fun k=>Z k%8380417) kn ln e t a b o s pk m x) (fun m=>xjm _ _ _ _ _ _ _ _ _ _ m _) fun m w1 q1 q2=>xd1 Z kn ln e t a b o s pk m x w1 hK hT q1 h q2
end vpi
end Go.Proofs.YtomphjajkkddkaaGreatDoor
