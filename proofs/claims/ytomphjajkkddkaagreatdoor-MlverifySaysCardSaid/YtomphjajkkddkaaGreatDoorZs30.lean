/-
  What the document's own Inner and Verify of layer 14 return. Conditions: the tables hold the constan
-/
import Derived.Test.YtomphjajkkddkaaGreatDoorZs17
import Derived.Test.YtomphjajkkddkaaGreatDoorZs27
import Derived.Test.YtomphjajkkddkaaGreatDoorZs28
import Derived.Test.YtomphjajkkddkaaGreatDoorZs29
import Derived.Test.YtomphjajkkddkaaGreatDoorZs12
import Derived.Test.YtomphjajkkddkaaGreatDoorZs01
import Derived.Test.YtomphjajkkddkaaGreatDoorZs03
import Derived.Test.YtomphjajkkddkaaGreatDoorZs02
import Derived.Test.YtomphjajkkddkaaGreatDoorZs18
import Derived.Test.YtomphjajkkddkaaGreatDoorZs04
import Derived.Test.YtomphjajkkddkaaGreatDoorZs05
set_option maxRecDepth 100000
set_option maxHeartbeats 16000000
set_option linter.unusedSimpArgs false
set_option linter.unusedVariables false
open Go Go.RowKit
open Go renaming World->G,Calls->aD,Value->aE
open Go.RowKit renaming intOf->aG
open Go.Act renaming put->aM
open Go.Value renaming int->O,agg->I,string->E,tuple->aA,slice->aB
open Go.IntKind renaming i64->J
open Go.Obj renaming cells->Y
open Go.Proofs.Tryz renaming prog->aO
namespace Go.Proofs.YtomphjajkkddkaaGreatDoor
namespace vri
open arr mem bD aT aV bS cY bF bQ dD bM bZ dJ eH cZ bU cV aR aW aY bC bA dQ fA dN dG dW mlkd mlvr mlvm vpd vary varyn varye pvar qops
theorem xa5{w w':G}(hC:∃ p:Regrown,w'=Go.Sort.grow (redrawn w p.d) p.os):zb w w':=by
 obtain⟨pp,rfl⟩:=hC;exact jX _ _ _
theorem xew{T:Array aE}(Z:Nat->Int)(kn ln:Nat)(e t a b o s:Int)(pk m x rho sum:ByteArray)(hi zf hf:Nat->Nat->Int)(w:G)(hK:KT T TL RL)(hT:cE.ZT T Z)(h:bP (kn:Int) (ln:Int) e t a b o s=true)(hm:m.size<=100000)(hpk:pk.size<=100000)(hrho:rho.size<=1000)(hsum:sum.size<=1000)
 (HPu0:∀ w1:G,aD aO 36 #[I (bO (kn:Int) (ln:Int) e t a b o s),E pk] w1 fun r w'=>(∃ v,r=.returned (aA #[E rho,v,O J 0])/\Holds w' 0 v kn hi)/\zb w1 w')
 (HPa0:∀ w1:G,aD aO 14 #[I (bO (kn:Int) (ln:Int) e t a b o s),E x] w1 fun r w'=>(∃ v1 v2,r=.returned (aA #[E sum,v1,v2,O J 0])/\Holds w' 0 v1 ln zf/\Holds w' 0 v2 kn hf)/\zb w1 w'):
 aD aO 12 #[I T,I (bO (kn:Int) (ln:Int) e t a b o s),E pk,E m,E x] w (zB w (aA #[.bool (vOk (fun k=>Z k%8380417) kn ln e t a b s rho (out TL RL 2 (out TL RL 2 pk 64++m) 64) sum hi zf hf),O J 0])):=by
 obtain⟨hk,hl,ht,he,ha⟩:=xde h;obtain⟨-,-,-,-,ho,hs⟩:=xbe h;have hb:b=95232\/b=261888:=by
  unfold bP okg at h;simp only[jQ,nW,kN,lL]at h;omega
 have hk : 1<=kn/\kn<=8:=by omega
 have hl : 1<=ln/\ln<=8:=by omega
 have hTs:=hT.size;have hTz:∀ k,k<256->T[209+k]? = some (O J (Z k)):=hT.z;obtain⟨ζ,hζ⟩:∃ ζ : Nat->Int,(fun k=>Z k%8380417) = ζ := ⟨_,rfl⟩;obtain⟨tr,htr⟩:=aP (out TL RL 2 pk 64);have htrs:tr.size=64:=by rw[<-htr];exact fD.xb1 _ _ _
 obtain⟨mu,hmu⟩:=aP (out TL RL 2 (tr++m) 64);have hmus:mu.size=64:=by rw[<-hmu];exact fD.xb1 _ _ _
 obtain⟨l4,hl4⟩:=aP ((s / 4).toNat);have hl4e:s / 4=(l4:Int):=by omega
 have hl4t:s.tdiv 4=(l4:Int):=by rw[iU (by omega)];exact hl4e
 have hl4z:l4<=64:=by omega
 have hl4w:J.wrap (l4:Int)=(l4:Int):=bB;obtain⟨mo,hmo⟩:∃ mo:Int,(8380416:Int) / (2*b)-1=mo:=⟨_,rfl⟩;have hmo2 : 1<=mo/\mo<8380417:=by rcases hb with rfl | rfl<;>omega
 obtain⟨R,hR⟩:∃ R:Nat->Nat->Int,(fun i=>row ζ b (dB sum t) (cQ ζ (qX rho i) zf ln) (hi i) (hf i))=R:=⟨_,rfl⟩;have hRi:∀ i,row ζ b (dB sum t) (cQ ζ (qX rho i) zf ln) (hi i) (hf i)=R i:=fun i=>by rw[<-hR]
 obtain⟨Yq,hY⟩:∃ Yq:Nat->ByteArray,(fun i=>packed (R i) mo)=Yq:=⟨_,rfl⟩;have hYs:∀ i,(Yq i).size<=1000:=fun i=>by rw[<-hY,xcy,<-hmo];rcases hb with rfl | rfl<;>decide +kernel
 have hCs:∀ r,(cJ mu Yq r).size<=64+1000*r:=fun r=>by
  induction r with
  | zero=>rw[cJ];omega
  | succ r ih=>
   have:=hYs r;rw[cJ,jS];omega
 have hCk:(cJ mu Yq kn).size<=10000:=by have:=hCs kn;omega
 obtain⟨VH,hVH⟩:=aP (out TL RL 2 (cJ mu Yq kn) l4);have hvh:vHash ζ kn ln t b s rho mu sum hi zf hf=VH:=by
  rw[<-hVH,<-hY,<-hR,<-hmo,<-hl4];rfl
 obtain⟨X,hX⟩:=aP (bE.eW zf ln);obtain⟨te,hte⟩:=aP (t*e);have hte2 : 0<=te/\te<=256:=by rw[<-hte];rcases he with h | h<;>rw[h]<;>omega
 have htew:J.wrap (t*e)=te:=by rw[hte,iN];omega
 obtain⟨lim,hlim⟩:=aP (a-te);have hlimw:J.wrap (a-te)=lim:=by rw[hlim,iN];omega
 obtain⟨bb,hbb⟩:=aP (vOk ζ kn ln e t a b s rho mu sum hi zf hf);have hbb2:=hbb;unfold vOk at hbb2;rw[hvh,hX,hte,hlim]at hbb2;rw[hζ,htr,hmu,hbb];have HS1:U (∀ w1:G,aD aO 38 #[I T,O J 2,E pk,O J 64] w1 (zB w1 (aA #[E tr,O J 0]))):=⟨fun w1=>by
  rw[<-htr];exact rsph.xhm 2 _ 64 w1 hK rfl (by decide) (by omega)⟩
 have HS2:U (∀ w1:G,aD aO 38 #[I T,O J 2,E (tr++m),O J 64] w1 (zB w1 (aA #[E mu,O J 0]))):=⟨fun w1=>by
  rw[<-hmu];exact rsph.xhm 2 _ 64 w1 hK rfl (by decide) (by rw[jS];omega)⟩
 have HS3:U (∀ w1:G,aD aO 38 #[I T,O J 2,E (cJ mu Yq kn),O J (l4:Int)] w1 (zB w1 (aA #[E VH,O J 0]))):=⟨fun w1=>by
  rw[<-hVH];exact rsph.xhm 2 _ l4 w1 hK rfl (by omega) (by omega)⟩
 have HMa0:∀ w1:G,aD aO 42 #[I T,I (bO (kn:Int) (ln:Int) e t a b o s),E rho] w1 fun y w'=>(∃ v,y=.returned v/\MX w' v kn (fun _=>ln) (qX rho))/\zb w1 w':=fun w1=>by
  refine(bM.matrix kn ln e t a b o s _ w1 hK h hrho).mono ?_;rintro y w' ⟨⟨v,vs,rfl,h1,h2⟩,hb⟩;exact⟨⟨v,rfl,xi1 hk.1 h1 h2⟩,hb⟩
 obtain⟨wf,hwf⟩:∃ wf:Nat->Nat->Int,(fun i=>cQ ζ (qX rho i) zf ln)=wf:=⟨_,rfl⟩;have hwfi:∀ i,cQ ζ (qX rho i) zf ln=wf i:=fun i=>by rw[<-hwf]
 have HRw:U (∀ (v vv:aE) (w1:G),MX w1 v kn (fun _=>ln) (qX rho)->Holds w1 0 vv ln zf->aD aO 41 #[I T,v,vv] w1 fun y w'=>(∃ v',y=.returned v'/\Holds w' 0 v' kn wf)/\zb w1 w'):=⟨fun v vv w1 h1 h2=>by
  refine(dW.xhg T Z kn ln (fun _=>ln) (qX rho) zf v vv 0 w1 hTs hTz hk.2 (fun r _=>hl.2) hl h1 h2).mono ?_;rintro y w' ⟨⟨v',rfl,h3⟩,hb⟩;simp only[Nat.min_self,hζ,hwfi]at h3;exact⟨⟨v',rfl,dG.xbm (bQ.xe4 hk.1 h3)⟩,hb⟩⟩
 have HBa:U (∀ w1:G,aD aO 40 #[I T,E sum,O J t] w1 (zB w1 (I (FL J 256 (dB sum t))))):=⟨fun w1=>bM.ball sum t w1 hK (by omega)⟩;have HSi:U (∀ (v:aE) (w1:G),Holds w1 0 v ln zf->aD aO 37 #[v] w1 (zB w1 (O J X))):=⟨fun v w1 q=>by
  obtain⟨g,c,rfl,-,q1,q2⟩:=q;rw[<-hX];exact r7sz.xb9 g ln c zf w1 (by omega) q1 fun j hj=>Holds.range (q2 j hj)⟩
 obtain⟨c,hc⟩:=aP (dB sum t);rw[hc]at HBa;rw[hc]at hRi;have HTc:U (∀ w1:G,aD aO 39 #[I T,I (FL J 256 c)] w1 (zB w1 (I (FL J 256 (aS ζ 8 c))))):=⟨fun w1=>by rw[<-hζ];exact rnthere.xdp T Z c w1 hTz⟩;have HSc:U (∀ i,∀ w1:G,aD aO 45 #[I (FL J 256 (hi i)),O J 8192] w1 (zB w1 (I (FL J 256 fun k=>(hi i k*8192)%8380417)))):=⟨fun i w1=>rscale.xf9 _ _ w1⟩;have HTr:U (∀ i,∀ w1:G,aD aO 39 #[I T,I (FL J 256 fun k=>(hi i k*8192)%8380417)] w1 (zB w1 (I (FL J 256 (aS ζ 8 fun k=>(hi i k*8192)%8380417))))):=⟨fun i w1=>by rw[<-hζ];exact rnthere.xdp T Z _ w1 hTz⟩;have HTm:U (∀ i,∀ w1:G,aD aO 44 #[I (FL J 256 (aS ζ 8 c)),I (FL J 256 (aS ζ 8 fun k=>(hi i k*8192)%8380417))] w1 (zB w1 (I (FL J 256 fun k=>(aS ζ 8 c k*aS ζ 8 (fun k=>(hi i k*8192)%8380417) k)%8380417)))):=⟨fun i w1=>rntimes.xcp _ _ w1⟩;have HBk:U (∀ i,∀ w1:G,aD aO 43 #[I T,I (FL J 256 fun k=>(aS ζ 8 c k*aS ζ 8 (fun k=>(hi i k*8192)%8380417) k)%8380417)] w1 (zB w1 (I (FL J 256 (one ζ c fun k=>(hi i k*8192)%8380417))))):=⟨fun i w1=>by have h1:=rnback.xfg T Z (fun k=>(aS ζ 8 c k*aS ζ 8 (fun k=>(hi i k*8192)%8380417) k)%8380417) w1 hTz;rw[hζ]at h1;exact h1⟩;have HSu:U (∀ i,∀ w1:G,aD aO 47 #[I (FL J 256 (wf i)),I (FL J 256 (one ζ c fun k=>(hi i k*8192)%8380417))] w1 (zB w1 (I (FL J 256 fun k=>(wf i k-one ζ c (fun k=>(hi i k*8192)%8380417) k)%8380417)))):=⟨fun i w1=>r7sb.xhq _ _ w1⟩
 have HUs:U (∀ i,∀ w1:G,aD aO 46 #[I (FL J 256 (hf i)),I (FL J 256 fun k=>(wf i k-one ζ c (fun k=>(hi i k*8192)%8380417) k)%8380417),O J b] w1 (zB w1 (I (FL J 256 (R i))))):=⟨fun i w1=>by rw[<-hRi i,hwfi];exact r9us.xnb _ _ b hb w1⟩;have HPk:U (∀ i,∀ w1:G,aD aO 48 #[I (FL J 256 (R i)),O J mo] w1 (zB w1 (aA #[E (Yq i),O J 0]))):=⟨fun i w1=>by
  have h1:=bA.xd7 (R i) mo w1 hmo2.1 hmo2.2;rw[iP (show fK (R i) mo from fun k _=>by rw[<-hmo,<-hRi];exact us_in b _ _ hb)]at h1;rw[<-hY];exact h1⟩
 obtain⟨d,hd⟩:∃ d:Int,2*b=d:=⟨_,rfl⟩;have hd1 : 190464<=d:=by omega
 have hd2:d<=523776:=by omega
 have hdw:J.wrap (2*b)=d:=bB;obtain⟨q,hq⟩:∃ q:Int,(8380416:Int) / d=q:=⟨_,rfl⟩;have hqt:Int.tdiv 8380416 d=q:=by rw[iU (by decide)];exact hq
 have hqm:q-1=mo:=by rw[<-hmo,<-hq,<-hd]
 have hqw:J.wrap (q-1)=mo:=by rw[hqm,iN];omega
 have hq2 : 1<=q/\q<=100:=by rw[<-hq,<-hd];rcases hb with rfl | rfl<;>decide
 have hqw2:J.wrap q=q:=bB;have hd0:(d==0)=false:=by simp;omega
 have hd3:¬ d=0:=by omega
 have HTz:U ((aO.info? 34).map (·.size)=some T.size):=⟨by rw[hTs];kernel_rfl⟩;obtain⟨L,HL⟩:=aQ ((bO (kn:Int) (ln:Int) e t a b o s):Array aE);have HLs:U ((aO.info? 37).map (·.size)=some L.size):=⟨by rw[<-HL.o];kernel_rfl⟩;obtain⟨W,hW⟩:=aP ((w.alloc (Y T 34)).alloc (Y L 37));obtain⟨r0,r1,hWs,b0⟩:=two hW;have TB:=gW r0;have LB:=gW r1;have BW:=D b0;have HW:=D hW;have C4:U (∀ w':G,zb W w'->w'.cell? ⟨w.heap.size+1,4,none⟩=some (O J a)):=⟨fun w' hb=>aZ (LB.o w' hb) (by rw[<-HL.o];rfl)⟩;have C3:U (∀ w':G,zb W w'->w'.cell? ⟨w.heap.size+1,3,none⟩=some (O J t)):=⟨fun w' hb=>aZ (LB.o w' hb) (by rw[<-HL.o];rfl)⟩;have C2:U (∀ w':G,zb W w'->w'.cell? ⟨w.heap.size+1,2,none⟩=some (O J e)):=⟨fun w' hb=>aZ (LB.o w' hb) (by rw[<-HL.o];rfl)⟩;have C5:U (∀ w':G,zb W w'->w'.cell? ⟨w.heap.size+1,5,none⟩=some (O J b)):=⟨fun w' hb=>aZ (LB.o w' hb) (by rw[<-HL.o];rfl)⟩;have C7:U (∀ w':G,zb W w'->w'.cell? ⟨w.heap.size+1,7,none⟩=some (O J s)):=⟨fun w' hb=>aZ (LB.o w' hb) (by rw[<-HL.o];rfl)⟩;rw[HL.o]at HPu0 HPa0 HMa0 ⊢;have HPu:=D HPu0;have HPa:=D HPa0;have HMa:=D HMa0;have HYs:=D hYs;have HCs:=D hCs;obtain⟨hz,hsize⟩:=iY aV.aX;obtain⟨z,HZ⟩:=aQ (FL J 256 fun _=>0);rw[HZ.o]at hz;have hz9:=D hz;have Hzs:=dP HZ;have Hsize:=D hsize;obtain⟨Fc,HFc⟩:=aQ (FL J 256 c);have Ft8:U (Fits aO 76 (FL J 256 fun _=>0) (FL J 256 (aS ζ 8 c))):=⟨iA _⟩
 obtain⟨F8,HF8⟩:=aQ (FL J 256 (aS ζ 8 c));rw[HFc.o]at HBa HTc;rw[HF8.o]at HTc HTm Ft8;have F8i:=eE HF8 hsize;have x1:¬ 9223372036854775807<tr.size+m.size:=by omega
 have hkn8:=hk.2;have Hbb:=D hbb2;clear hW r0 r1 hWs b0 hK hT hTz h hm hpk hrho hsum hk hl ht he ha hb ho hs hTs hζ htr htrs hmu hmus hl4 hl4z hmo hmo2 hR hRi hY hYs hCs hCk hVH hvh hX hte hte2 hlim hbb hbb2 hwf hwfi hc hd hq hqm HPu0 HPa0 HMa0 hsize HZ HFc HF8 hz;go_enter Tryz.func12,Tryz.ntmps12;go_wp2_with (first
  | (rw[HW.o])
  | (refine iL rfl 37 _ rfl (w.heap.size+1) rfl 37 _ (0,0) _ (LB.o _ (iR _ _)) zZ rfl HLs.o ?_))
 refine(HPu.o _).mono ?_;rintro y u1 ⟨⟨vk,rfl,hvk⟩,hb1⟩;have E1:U (zb W u1):=⟨hb1⟩;have Hvk:=D hvk;clear hb1 hvk;go_wp2_with (refine iL rfl 37 _ rfl (w.heap.size+1) rfl 37 _ (0,0) _ (LB.o _ E1.o) zZ rfl HLs.o ?_);refine(HPa.o _).mono ?_;rintro y u2 ⟨⟨vz,vh,rfl,hvz,hvh⟩,hb2⟩;have E2:=bK E1 hb2;have Hk2:U (Holds u2 0 vk kn hi):=⟨Hvk.o.later hb2⟩;have Hz2:=D hvz;have Hh2:=D hvh;clear hb2 hvz hvh Hvk;go_wp2_with fail;refine xa4 (u2.heap.size) 11 [0,2,3,4,5,6,7,8,9,1,10] (by kernel_rfl) rfl rfl (by decide) (fun hS ops HO=>?_);simp only[jT,fa,jF,jL];iterate 2 (refine zU hS ?_)
 refine zD ((fun w9 h9=>C4.o w9 (E2.o.trans (h9.mono E2.o.size)))) hS ?_;refine zU hS ?_;refine zD ((fun w9 h9=>C3.o w9 (E2.o.trans (h9.mono E2.o.size)))) hS ?_;refine zU hS ?_;refine zD ((fun w9 h9=>C2.o w9 (E2.o.trans (h9.mono E2.o.size)))) hS ?_;iterate 2 (refine zU hS ?_)
 refine zS fun K hK=>?_
 go_simp
 refine(HSi.o _ _ (Hz2.o.later (iR _ _).drew)).mono ?_;rintro x u3 ⟨rfl,hb3⟩;have h3:=hS.trans (hb3.mono hS.size);refine hK _ _ h3 ?_;clear hK K;try simp only[aM,pa,pb,pc]
 refine zU h3 ?_;refine zN ?_;have E3:=bK E2 h3;have Hk3:U (Holds u3 0 vk kn hi):=⟨Hk2.o.later h3⟩;have Hz3:U (Holds u3 0 vz ln zf):=⟨Hz2.o.later h3⟩;have Hh3:U (Holds u3 0 vh kn hf):=⟨Hh2.o.later h3⟩;clear hS h3 hb3 HO Hk2 Hz2 Hh2 htew hlimw;by_cases hcA:lim<=X
 ·have hdA:¬ X<lim:=by omega
  have hbf:bb=false:=by rw[<-Hbb.o,jN (by omega),Bool.false_and]
  clear hcA;go_wp2_with fail;go_ret2;exact⟨rfl,BW.o.trans (E3.o.mono BW.o.size)⟩
 ·have hdA:X<lim:=by omega
  have hbt:U ((VH.toList==sum.toList)=bb):=⟨by rw[str_eq,<-Hbb.o,jP (show X<lim by omega),Bool.true_and];exact decide_eq_decide.2 eq_comm⟩;clear hcA;go_wp2_with (refine iL rfl 34 _ rfl w.heap.size rfl 34 _ (0,0) _ (TB.o _ E3.o) zY rfl HTz.o ?_);refine(HS1.o _).mono ?_;rintro y u4 ⟨rfl,hb4⟩;have E4:=bK E3 hb4;have E34:U (zb u3 u4):=⟨hb4⟩;clear hb4;go_wp2_with (refine iL rfl 34 _ rfl w.heap.size rfl 34 _ (0,0) _ (TB.o _ E4.o) zY rfl HTz.o ?_);refine(HS2.o _).mono ?_;rintro y u5 ⟨rfl,hb5⟩;have E5:=bK E4 hb5;have E35:=bK E34 hb5;have TU:U (∀ w':G,zb u5 w'->w'.heap[w.heap.size]? = some (Y T 34 (0,0))/\w'.cell? ⟨w.heap.size+1,3,none⟩=some (O J t)):=⟨fun w' hb=>⟨TB.o _ (E5.o.trans (hb.mono E5.o.size)),C3.o _ (E5.o.trans (hb.mono E5.o.size))⟩⟩;clear hb5 x1;go_wp2_with fail;refine xed [vrP 7 8 6 22 84] 7 (by kernel_rfl) (by kernel_rfl) (by kernel_rfl) (by kernel_rfl) (by decide) (fun v hv ρ o w1 ho=>by
   simp only[kT,mK,or_false]at hv;subst hv;exact fQ ρ o w1 ho) (by simp[vrP]) (fun ops HO=>?_)
  simp only[jH,jU];iterate 2 (refine xcd rfl 34 _ rfl w.heap.size rfl 34 T _ (fun w9 hw9=>(TU.o w9 hw9).1) zY rfl HTz.o ?_)
  refine cX rfl (fun K hK=>?_);go_simp
  apply jG;refine⟨fun w9 hw9=>?_,hK _ ?_⟩;rfl;clear hK K;refine cX rfl (fun K hK=>?_);go_simp
  apply jG;refine⟨fun w9 hw9=>?_,hK _ ?_⟩;rfl;clear hK K;refine xdq rfl (O J t) (fun w9 hw9=>by have hc:=(fun w9 hw9=>(TU.o w9 hw9).2) w9 hw9;go_simp;first | done | with_reducible rfl) ?_;refine cX rfl (fun K hK=>?_);go_simp
  apply jG;refine⟨fun w9 hw9=>?_,hK _ ?_⟩;exact HBa.o w9;clear hK K;refine cX rfl (fun K hK=>?_);go_simp
  apply jG;refine⟨fun w9 hw9=>?_,hK _ ?_⟩;exact HTc.o w9;clear hK K;refine mgd.ends1 F8 rfl Ft8.o (fun gc8 w6 l1 hb9 r6=>?_);simp only[vrP,aM,aR.pa,aR.pb,aR.pc]at r6 ⊢;have hb6:zb u5 w6:=hb9;have E6:=bK E5 hb6;have E36:=bK E35 hb6;have R6:=D r6;clear hb6;clear HO hb9 r6 l1;go_wp2_with fail;refine xa4 (w6.heap.size) 9 [0,1,2,3,5,8,4,6,7] (by kernel_rfl) rfl rfl (by decide) (fun hS ops HO=>?_);simp only[jT,fa,jF,jL];iterate 2 (refine gP (by rw[<-HO.o];kernel_rfl) (fun _ _ _ _ h=>h) 34 _ rfl w.heap.size rfl 34 T _ (fun w1 h1=>TB.o w1 (E6.o.trans (h1.mono E6.o.size))) zY rfl HTz.o hS ?_;simp only[aM,pa,pb,pc])
  refine gP (by rw[<-HO.o];kernel_rfl) (fun _ _ _ _ h=>h) 37 _ rfl (w.heap.size+1) rfl 37 L _ (fun w1 h1=>LB.o w1 (E6.o.trans (h1.mono E6.o.size))) zZ rfl HLs.o hS ?_;simp only[aM,pa,pb,pc];iterate 3 (refine zU hS ?_)
  refine zS fun K hK=>?_
  go_simp
  refine(HMa.o _).mono ?_;rintro x w2 ⟨⟨vm,rfl,hvm⟩,hb2⟩;have h2:=hS.trans (hb2.mono hS.size);have k2:zb u3 w2:=E36.o.trans (h2.mono E36.o.size);refine hK _ _ h2 ?_;clear hK K;try simp only[aM,pa,pb,pc]
  refine zS fun K hK=>?_
  go_simp
  refine(HRw.o _ _ _ hvm (Hz3.o.later k2)).mono ?_;rintro x w7 ⟨⟨vw,rfl,hvw⟩,hb3⟩;have h3:=h2.trans (hb3.mono h2.size);obtain⟨gw,cw,rfl,hgw⟩:=gD hvw;refine hK _ _ h3 ?_;clear hK K;try simp only[aM,pa,pb,pc]
  refine zU h3 ?_;refine zN ?_;have E7:=bK E6 h3;have E37:=bK E36 h3;have R7:U (w7.heap[gc8]? = some (Y F8 76 (0,0))):=⟨(h3.block _ (bI R6.o)).trans R6.o⟩;have Hw7:=D hvw;have Hk7:=D (Hk3.o.later E37.o);have Hh7:=D (Hh3.o.later E37.o);obtain⟨gk,ck,hvk,hgk⟩:=gD Hk7.o;subst hvk;obtain⟨gh,ch,hvh,hgh'⟩:=gD Hh7.o;subst hvh;have Hgw:=D hgw;have Hgk:=D hgk;have Hgh:=D hgh';clear hS HO hb2 h2 k2 hvm hb3 h3 hvw hgw hgk hgh';go_wp2_with fail;go_loopw [23,94] (fun sv iv wr=>∃ r:Nat,r<=kn/\sv=E (cJ mu Yq r)/\iv=O J (r:Int)/\U (zb w7 wr)) (fun _ iv _=>kn-(aG iv).toNat)
  case atStart=>exact⟨0,iX _,rfl,rfl,⟨iR _ _⟩⟩
  case round=>
   obtain⟨r,hr,rfl,rfl,Hbe⟩:=hrel;have BF:=bK E7 Hbe.o;by_cases hlt:r<kn
   ·have hrz:(r:Int)<(kn:Int):=by omega
    have hr8:r<8:=by omega
    have hrgw:=xa8 (Hw7.o.later Hbe.o) r hlt;have hrgk:=xa8 (Hk7.o.later Hbe.o) r hlt;have hrgh:=xa8 (Hh7.o.later Hbe.o) r hlt;obtain⟨o6,ho6⟩:=aP (r*256);rw[ho6]at hrgw hrgk hrgh;have HScr:=D (HSc.o r);have HTrr:=D (HTr.o r);have HTmr:=D (HTm.o r);have HBkr:=D (HBk.o r);have HSur:=D (HSu.o r);have HUsr:=D (HUs.o r);have HPkr:=D (HPk.o r);obtain⟨Fk,HFk⟩:=aQ (FL J 256 (hi r));obtain⟨Fw,HFw⟩:=aQ (FL J 256 (wf r));obtain⟨Fh,HFh⟩:=aQ (FL J 256 (hf r));obtain⟨Ak,HAk⟩:=aQ (FL J 256 fun k=>(hi r k*8192)%8380417);obtain⟨Bk',HBk'⟩:=aQ (FL J 256 (aS ζ 8 fun k=>(hi r k*8192)%8380417));have Ft1:U (Fits aO 76 (FL J 256 fun _=>0) (FL J 256 (one ζ c fun k=>(hi r k*8192)%8380417))):=⟨iA _⟩;have Ft2:U (Fits aO 76 (FL J 256 fun _=>0) (FL J 256 (R r))):=⟨iA _⟩;obtain⟨Pr,HPr⟩:=aQ (FL J 256 fun k=>(aS ζ 8 c k*aS ζ 8 (fun k=>(hi r k*8192)%8380417) k)%8380417);obtain⟨V1,HV1⟩:=aQ (FL J 256 (one ζ c fun k=>(hi r k*8192)%8380417));obtain⟨Sb,HSb⟩:=aQ (FL J 256 fun k=>(wf r k-one ζ c (fun k=>(hi r k*8192)%8380417) k)%8380417);obtain⟨V2,HV2⟩:=aQ (FL J 256 (R r));have V1i:=eE HV1 Hsize.o;have V2i:=eE HV2 Hsize.o;rw[HFk.o,HAk.o]at HScr;rw[HAk.o,HBk'.o]at HTrr;rw[HBk'.o,HPr.o]at HTmr;rw[HPr.o,HV1.o]at HBkr;rw[HFw.o,HV1.o,HSb.o]at HSur;rw[HFh.o,HSb.o,HV2.o]at HUsr;rw[HV2.o]at HPkr;rw[HV1.o]at Ft1;rw[HV2.o]at Ft2;rw[HFw.o]at hrgw;rw[HFk.o]at hrgk;rw[HFh.o]at hrgh;have Hrg:=D hrgw;have Fws:=dP HFw
    have Fwo:=eJ HFw;have Fwi:=zsz Fws Hsize.o;have Fwz:U (z.size=Fw.size):=⟨by rw[Hzs.o,Fws.o]⟩;have Fki:=zfi HFk Hsize.o;have Fhi:=zfi HFh Hsize.o;obtain⟨W11,hW11⟩:=aP (wr.alloc (Y Fw 76));obtain⟨r11,hs11,b11⟩:=one hW11;have B11:=bK Hbe b11;have K11:U (∀ w':G,zb W11 w'->zb W w'/\zb w7 w'/\w'.heap[wr.heap.size]? = some (Y Fw 76 (0,0))):=⟨fun w' hb=>⟨(BF.o.trans (b11.mono BF.o.size)).trans (hb.mono (jJ BF.o.size b11.size)),B11.o.trans (hb.mono B11.o.size),(hb.block _ (bI r11)).trans r11⟩⟩;have Krk:U (∀ w':G,zb wr w'->w'.rangeAt gk o6 Fk.toList):=⟨fun w' hb'=>xa3 hrgk (iZ Hgk.o Hbe.o.size) hb'⟩;have Krh:U (∀ w':G,zb wr w'->w'.rangeAt gh o6 Fh.toList):=⟨fun w' hb'=>xa3 hrgh (iZ Hgh.o Hbe.o.size) hb'⟩;have KB:U (∀ w':G,zb W11 w'->zb wr w'):=⟨fun w' hb=>b11.trans (hb.mono b11.size)⟩;have HW11:=D hW11;have hXs:=HYs.o r;have hlen:=HCs.o r;have hnext:cJ mu Yq r++Yq r=cJ mu Yq (r+1):=rfl;obtain⟨Yr,HYr⟩:=aQ (Yq r);obtain⟨Cr,HCr⟩:=aQ (cJ mu Yq r);rw[HYr.o]at HPkr hXs hnext;rw[HCr.o]at hlen hnext ⊢;have hcat:¬ 9223372036854775807<Cr.size+Yr.size:=by omega
    have Hlt:=D hlt;have Hnext:=D hnext;have hz:=hz9.o;clear hrgw hrgk hrgh hlt HFk HFw HFh HAk HBk' HPr HV1 HSb HV2 hXs hlen hnext hW11 r11 hs11 b11;go_wp2_with (first
     | ((with_reducible refine mE rfl 76 _ rfl gw o6 ?hx Fw.toList _ Hrg.o zX rfl ?hi ?_);(case hx=>rfl);(case hi=>rw[jM];exact Fwi.o))
     | (refine fV rfl 76 _ _ rfl Fw rfl rfl Fwi.o (by exact Fwz.o) Fwo.o rfl ?_)
     | (rw[HW11.o]))
    clear hz;refine xed [vrP 11 12 10 26 109] 11 (by kernel_rfl) (by kernel_rfl) (by kernel_rfl) (by kernel_rfl) (by decide) (fun v hv ρ o w1 ho=>by
     simp only[kT,mK,or_false]at hv;subst hv;exact fQ ρ o w1 ho) (by simp[vrP]) (fun ops HO=>?_)
    simp only[jH,jU];refine xcd rfl 34 _ rfl w.heap.size rfl 34 T _ (fun w9 hw9=>TB.o w9 (K11.o w9 hw9).1) zY rfl HTz.o ?_;refine xcd rfl 76 _ rfl gc8 rfl 76 F8 _ (fun w9 hw9=>((K11.o w9 hw9).2.1.block _ (bI R7.o)).trans R7.o) zX rfl F8i.o ?_;refine xcd rfl 34 _ rfl w.heap.size rfl 34 T _ (fun w9 hw9=>TB.o w9 (K11.o w9 hw9).1) zY rfl HTz.o ?_;refine cX rfl (fun K hK=>?_);go_simp
    apply jG;refine⟨fun w9 hw9=>?_,hK _ ?_⟩;rfl;clear hK K;refine cX rfl (fun K hK=>?_);go_simp
    apply jG;refine⟨fun w9 hw9=>?_,hK _ ?_⟩;rfl;clear hK K;refine cX rfl (fun K hK=>?_);go_simp
    apply jG;refine⟨fun w9 hw9=>?_,hK _ ?_⟩;rfl;clear hK K;refine mgd.xhz rfl 76 _ rfl gk o6 rfl Fk.toList _ (fun w9 hw9=>(fun w9 hw9=>Krk.o w9 (KB.o w9 hw9)) w9 hw9) zX rfl Fki.o ?_;refine cX rfl (fun K hK=>?_);go_simp
    apply jG;refine⟨fun w9 hw9=>?_,hK _ ?_⟩;exact HScr.o w9;clear hK K;refine cX rfl (fun K hK=>?_);go_simp
    apply jG;refine⟨fun w9 hw9=>?_,hK _ ?_⟩;exact HTrr.o w9;clear hK K;refine cX rfl (fun K hK=>?_);go_simp
    apply jG;refine⟨fun w9 hw9=>?_,hK _ ?_⟩;exact HTmr.o w9;clear hK K;refine cX rfl (fun K hK=>?_);go_simp
    apply jG;refine⟨fun w9 hw9=>?_,hK _ ?_⟩;exact HBkr.o w9;clear hK K;refine mgd.ends1 V1 rfl Ft1.o (fun p1 w12 l1 hb9 r12=>?_);simp only[vrP,aM,aR.pa,aR.pb,aR.pc]at r12 ⊢;have T12:U (∀ w':G,zb w12 w'->zb W11 w'/\w'.heap[p1]? = some (Y V1 76 (0,0))):=⟨fun w' hb=>⟨hb9.trans (hb.mono hb9.size),(hb.block _ (bI r12)).trans r12⟩⟩;clear HO hb9 r12 l1;go_wp2_with fail;refine xed [vrP 10 11 9 27 119] 10 (by kernel_rfl) (by kernel_rfl) (by kernel_rfl) (by kernel_rfl) (by decide) (fun v hv ρ o w1 ho=>by
     simp only[kT,mK,or_false]at hv;subst hv;exact fQ ρ o w1 ho) (by simp[vrP]) (fun ops HO=>?_)
    simp only[jH,jU];refine cX rfl (fun K hK=>?_);go_simp
    apply jG;refine⟨fun w9 hw9=>?_,hK _ ?_⟩;rfl;clear hK K;refine cX rfl (fun K hK=>?_);go_simp
    apply jG;refine⟨fun w9 hw9=>?_,hK _ ?_⟩;rfl;clear hK K;refine cX rfl (fun K hK=>?_);go_simp
    apply jG;refine⟨fun w9 hw9=>?_,hK _ ?_⟩;rfl;clear hK K;refine mgd.xhz rfl 76 _ rfl gh o6 rfl Fh.toList _ (fun w9 hw9=>(fun w9 hw9=>Krh.o w9 (KB.o w9 (T12.o w9 hw9).1)) w9 hw9) zX rfl Fhi.o ?_;refine xcd rfl 76 _ rfl wr.heap.size rfl 76 Fw _ (fun w9 hw9=>(K11.o w9 (T12.o w9 hw9).1).2.2) zX rfl Fwi.o ?_;refine xcd rfl 76 _ rfl p1 rfl 76 V1 _ (fun w9 hw9=>(T12.o w9 hw9).2) zX rfl V1i.o ?_;refine cX rfl (fun K hK=>?_);go_simp
    apply jG;refine⟨fun w9 hw9=>?_,hK _ ?_⟩;exact HSur.o w9;clear hK K;refine cX rfl (fun K hK=>?_);go_simp
    apply jG;refine⟨fun w9 hw9=>?_,hK _ ?_⟩;rfl;clear hK K;refine xdq rfl (O J b) (fun w9 hw9=>by have hc:=(fun w9 hw9=>C5.o w9 (K11.o w9 (T12.o w9 hw9).1).1) w9 hw9;go_simp;first | done | with_reducible rfl) ?_;refine cX rfl (fun K hK=>?_);go_simp
    apply jG;refine⟨fun w9 hw9=>?_,hK _ ?_⟩;exact HUsr.o w9;clear hK K;refine mgd.ends1 V2 rfl Ft2.o (fun p2 w13 l1 hb9 r13=>?_);simp only[vrP,aM,aR.pa,aR.pb,aR.pc]at r13 ⊢;have E13:U (zb W11 w13):=⟨(T12.o w13 hb9).1⟩;have R13:=D r13;have q5:∀ d os,(Go.Sort.grow (redrawn w13 d) os).cell? ⟨w.heap.size+1,5,none⟩=some (O J b):=fun d os=>oP (C5.o w13 (K11.o w13 E13.o).1) d os
    clear HO hb9 r13 l1;go_wp2_with fail;refine mA (by kernel_rfl) (by kernel_rfl) ?_;refine xa2 rfl 76 _ rfl p2 rfl 76 V2 _ (fun w9 hC=>gM R13.o hC) zX rfl V2i.o ?_;iterate 5 (quiet_step (skip))
    quiet_step (exact jI (HPkr.o _));iterate 5 (quiet_step (skip))
    refine kY ?_;intro w14 hC;have B14:U (zb w7 w14):=⟨(K11.o w14 (E13.o.trans ((xa5 hC).mono E13.o.size))).2.1⟩;clear hC q5;go_wp2_with fail;go_roundw
    case rel=>exact⟨r+1,by have:=Hlt.o;omega,by rw[Hnext.o],by go_num,B14⟩
    case measure=>have:=Hlt.o;simp[aG];omega
   ·obtain rfl:r=kn:=by omega
    have c7:=C7.o wr BF.o;obtain⟨Ck,HCk⟩:=aQ (cJ mu Yq r);rw[HCk.o]at HS3 ⊢;go_wp2_with (refine iL rfl 34 _ rfl w.heap.size rfl 34 _ (0,0) _ (TB.o _ BF.o) zY rfl HTz.o ?_);refine(HS3.o _).mono ?_;rintro y w15 ⟨rfl,hb15⟩;have D15:U (zb w w15):=⟨BW.o.trans ((BF.o.trans (hb15.mono BF.o.size)).mono BW.o.size)⟩;clear hb15;go_wp2_with fail;go_ret2;rw[<-hbt.o];exact⟨rfl,D15.o⟩
theorem xd1{T:Array aE}(Z:Nat->Int)(kn ln:Nat)(e t a b o s:Int)(pk m x:ByteArray)(w:G)(hK:KT T TL RL)(hT:cE.ZT T Z)(h:bP (kn:Int) (ln:Int) e t a b o s=true)(hm:m.size<=100000):
 aD aO 12 #[I T,I (bO (kn:Int) (ln:Int) e t a b o s),E pk,E m,E x] w (zB w (resV (fun k=>Z k%8380417) kn ln e t a b o s pk m x)):=by
 obtain⟨hk,hl,-,-,ho,hs⟩:=xbe h;have hTs:=hT.size;unfold resV;by_cases hp:pk.size=32+320*kn
 ·have HPu:∀ w1:G,aD aO 36 #[I (bO (kn:Int) (ln:Int) e t a b o s),E pk] w1 fun r w'=>(∃ v,r=.returned (aA #[E (pk.extract 0 32),v,O J 0])/\Holds w' 0 v kn (rdU pk 32 10))/\zb w1 w':=fun w1=>by
   refine(rkpu.xje kn (ln:Int) e t a b o s pk w1 h hp).mono ?_;rintro r w' ⟨⟨v,rfl,hv⟩,hb⟩;exact⟨⟨v,rfl,dG.xbm (bQ.xe4 (by omega) hv)⟩,hb⟩
  by_cases bR:okV x kn ln a o s
  ·rw[iP ⟨hp,bR⟩];refine xew Z kn ln e t a b o s pk m x _ _ _ _ _ w hK hT h hm (by omega) (by rw[kE];omega) (by unfold vS;rw[kE];omega) HPu fun w1=>?_
   refine(vrp.xd9 kn ln e t a b o s x w1 h).mono ?_;rintro r w' ⟨⟨v,rfl,⟨-,v1,v2,rfl,q1,q2⟩ | ⟨hno,-⟩⟩,hb⟩
   ·exact⟨⟨v1,v2,rfl,dG.xbm q1,dG.xbm q2⟩,hb⟩
   ·exact absurd bR hno
  ·rw[iQ fun hh=>bR hh.2];have HPa0:∀ w1:G,aD aO 14 #[I (bO (kn:Int) (ln:Int) e t a b o s),E x] w1 (zB w1 (aA #[E ⟨#[]⟩,aB none 0 0,aB none 0 0,O J 3])):=fun w1=>by
    refine(vrp.xd9 kn ln e t a b o s x w1 h).mono ?_;rintro r w' ⟨⟨v,rfl,⟨hyes,-⟩ | ⟨-,rfl⟩⟩,hb⟩
    ·exact absurd hyes bR
    ·exact⟨rfl,hb⟩
   have HTz:U ((aO.info? 34).map (·.size)=some T.size):=⟨by rw[hTs];kernel_rfl⟩;obtain⟨L,HL⟩:=aQ ((bO (kn:Int) (ln:Int) e t a b o s):Array aE);have HLs:U ((aO.info? 37).map (·.size)=some L.size):=⟨by rw[<-HL.o];kernel_rfl⟩;obtain⟨W,hW⟩:=aP ((w.alloc (Y T 34)).alloc (Y L 37));obtain⟨r0,r1,hWs,b0⟩:=two hW;have TB:=gW r0;have LB:=gW r1;have BW:=D b0;have HW:=D hW;rw[HL.o]at HPu HPa0 ⊢;have HPu:=D HPu;have HPa:=D HPa0;clear hW r0 r1 hWs b0 hK hT h hm hk hl ho hs hp bR hTs HPa0;go_enter Tryz.func12,Tryz.ntmps12;go_wp2_with (first
    | (rw[HW.o])
    | (refine iL rfl 37 _ rfl (w.heap.size+1) rfl 37 _ (0,0) _ (LB.o _ (iR _ _)) zZ rfl HLs.o ?_))
   refine(HPu.o _).mono ?_;rintro y u1 ⟨⟨vk,rfl,-⟩,hb1⟩;have E1:U (zb W u1):=⟨hb1⟩;clear hb1;go_wp2_with (refine iL rfl 37 _ rfl (w.heap.size+1) rfl 37 _ (0,0) _ (LB.o _ E1.o) zZ rfl HLs.o ?_);refine(HPa.o _).mono ?_;rintro y u2 ⟨rfl,hb2⟩;have D2:U (zb w u2):=⟨BW.o.trans ((E1.o.trans (hb2.mono E1.o.size)).mono BW.o.size)⟩;clear hb2;go_wp2_with fail;go_ret2;exact⟨rfl,D2.o⟩
 ·rw[iQ fun hh=>hp hh.1];have HPu0:∀ w1:G,aD aO 36 #[I (bO (kn:Int) (ln:Int) e t a b o s),E pk] w1 (zB w1 (aA #[E ⟨#[]⟩,aB none 0 0,O J 3])):=fun w1=>rkpu.xmb (kn:Int) (ln:Int) e t a b o s pk w1 h (by unfold gX;omega)
  have HTz:U ((aO.info? 34).map (·.size)=some T.size):=⟨by rw[hTs];kernel_rfl⟩;obtain⟨L,HL⟩:=aQ ((bO (kn:Int) (ln:Int) e t a b o s):Array aE);have HLs:U ((aO.info? 37).map (·.size)=some L.size):=⟨by rw[<-HL.o];kernel_rfl⟩;obtain⟨W,hW⟩:=aP ((w.alloc (Y T 34)).alloc (Y L 37));obtain⟨r0,r1,hWs,b0⟩:=two hW;have TB:=gW r0;have LB:=gW r1;have BW:=D b0;have HW:=D hW;rw[HL.o]at HPu0 ⊢;have HPu:=D HPu0;clear hW r0 r1 hWs b0 hK hT h hm hk hl ho hs hp hTs HPu0;go_enter Tryz.func12,Tryz.ntmps12;go_wp2_with (first
   | (rw[HW.o])
   | (refine iL rfl 37 _ rfl (w.heap.size+1) rfl 37 _ (0,0) _ (LB.o _ (iR _ _)) zZ rfl HLs.o ?_))
  refine(HPu.o _).mono ?_;rintro y u1 ⟨rfl,hb1⟩;have D1:=bK BW hb1;clear hb1;go_wp2_with fail;go_ret2;exact⟨rfl,D1.o⟩
theorem xj3{T:Array aE}(k l e t a b o s:Int)(pk m c x:ByteArray)(w:G)(hTs:T.size=465)(F:ByteArray->aE)(hF:∀ m,∃ (y:Bool) (c:Int),F m=aA #[.bool y,O J c])
 (HI:∀ (m:ByteArray) (w1:G),m.size<=100000->aD aO 12 #[I T,I (bO k l e t a b o s),E pk,E m,E x] w1 (zB w1 (F m))):
 aD aO 10 #[I T,I (bO k l e t a b o s),E pk,E m,E c,E x] w (zB w (if c.size<=255/\m.size<=60000 then F (iE c m) else aA #[.bool false,O J 5])):=by
 have HTz:U ((aO.info? 34).map (·.size)=some T.size):=⟨by rw[hTs];kernel_rfl⟩;obtain⟨L,HL⟩:=aQ ((bO k l e t a b o s):Array aE);have HLs:U ((aO.info? 37).map (·.size)=some L.size):=⟨by rw[<-HL.o];kernel_rfl⟩;obtain⟨W,hW⟩:=aP ((w.alloc (Y T 34)).alloc (Y L 37));obtain⟨r0,r1,hWs,b0⟩:=two hW;have TB:=gW r0;have LB:=gW r1;have BW:=D b0;have HW:=D hW;have HI0:∀ (m:ByteArray) (w1:G),m.size<=100000->aD aO 12 #[I T,I L,E pk,E m,E x] w1 (zB w1 (F m)):=fun m w1 q2=>by
  rw[<-HL.o];exact HI m w1 q2
 rw[HL.o];clear hW r0 r1 hWs b0;by_cases hm:c.size<=255/\m.size<=60000
 ·rw[iP hm];have HMs:U (∀ w1:G,aD aO 28 #[E c,E m] w1 (zB w1 (aA #[E (iE c m),O J 0]))):=⟨fun w1=>r13m.xix c m w1 hm.1 hm.2⟩;have hms:(iE c m).size<=100000:=by rw[fJ.xlr];omega
  have HIn:=D (fun w1=>HI0 (iE c m) w1 hms);obtain⟨M,hM⟩:=aP (iE c m);rw[hM]at HMs HIn ⊢;obtain⟨V1,V2,hV⟩:=hF M;rw[hV]at HIn ⊢;clear HI0 hm hM hms hV HI hF;go_enter Tryz.func10,Tryz.ntmps10;go_wp2_with (rw[HW.o]);refine(HMs.o _).mono ?_;rintro y u1 ⟨rfl,hb1⟩;have E1:U (zb W u1):=⟨hb1⟩;clear hb1;go_wp2_with (first
   | (refine iL rfl 34 _ rfl w.heap.size rfl 34 _ (0,0) _ (TB.o _ E1.o) zY rfl HTz.o ?_)
   | (refine iL rfl 37 _ rfl (w.heap.size+1) rfl 37 _ (0,0) _ (LB.o _ E1.o) zZ rfl HLs.o ?_))
  refine(HIn.o _).mono ?_;rintro y u2 ⟨rfl,hb2⟩;have D2:U (zb w u2):=⟨BW.o.trans ((E1.o.trans (hb2.mono E1.o.size)).mono BW.o.size)⟩;clear hb2;go_wp2_with fail;go_ret2;exact⟨rfl,D2.o⟩
 ·rw[iQ hm];have HMs:U (∀ w1:G,aD aO 28 #[E c,E m] w1 (zE w1 (aA #[E ⟨#[]⟩,O J 5]))):=⟨fun w1=>r13m.xiw c m w1 (by omega)⟩;clear HI0 hm HI hF;go_enter Tryz.func10,Tryz.ntmps10;go_wp2_with (rw[HW.o]);refine(HMs.o _).mono ?_;rintro y u1 ⟨rfl,h1⟩;rw[h1];clear h1 u1;go_wp2_with fail;go_ret2;exact⟨rfl,BW.o⟩
theorem xnd{T:Array aE}(Z:Nat->Int)(kn ln:Nat)(e t a b o s:Int)(pk m c x:ByteArray)(w:G)(hK:KT T TL RL)(hT:cE.ZT T Z)(h:bP (kn:Int) (ln:Int) e t a b o s=true):
 aD aO 10 #[I T,I (bO (kn:Int) (ln:Int) e t a b o s),E pk,E m,E c,E x] w (zB w (resY (fun k=>Z k%8380417) kn ln e t a b o s pk m c x)):=
 xj3 (kn:Int) (ln:Int) e t a b o s pk m c x w hT.size (fun m=>resV (fun k=>Z k%8380417) kn ln e t a b o s pk m x) (fun m=>xjm _ _ _ _ _ _ _ _ _ _ m _) fun m w1 q2=>xd1 Z kn ln e t a b o s pk m x w1 hK hT h q2
end vri
namespace r9st
open arr mem bF rset
theorem set_1(w:G):aD aO 8 #[O J 1] w (zB w (aA #[I set1,O J 0])):=by
 obtain⟨hz,hsize⟩:=iY gY;have hb:=built1;obtain⟨z,HZ⟩:=aQ set0;rw[HZ.o]at hz;have Zs:U (z.size=8):=⟨by rw[<-HZ.o];rfl⟩;obtain⟨V,HV⟩:=aQ set1;have Vi:U ((aO.info? 37).map (·.size)=some V.size):=⟨by rw[<-HV.o];exact hsize⟩;have Vz:U (z.size=V.size):=⟨by rw[Zs.o,<-HV.o];rfl⟩;have Vo:U (V.all (·.oneCell')=true):=⟨by rw[<-HV.o];simp[set1,Value.oneCell']⟩;rw[HV.o]at hb;rw[HV.o];have Hb:=D hb;obtain⟨W,hW⟩:=aP (w.alloc (Y z 37));have HW:=D hW;have Hres:U (W.heap[w.heap.size]? = some (Y z 37 (0,0))):=⟨by rw[<-hW];exact cM w _ _ rfl⟩;have HB:=zba hW;clear hb hsize hW;go_enter Tryz.func8,Tryz.ntmps8;go_wp2_with (first
  | (rw[HW.o])
  | (refine xda rfl 37 _ rfl V Hb.o ?_)
  | (refine iS rfl 37 _ _ rfl w.heap.size V rfl rfl 37 _ Hres.o Vi.o Vz.o Vo.o ?_))
 refine iV (v:=aA #[I V,O J 0]) (rset.results_cell_tmp rfl _ _ w.heap.size 37 _ (0,0) _ rfl (jD _ _ _ _ _ _ Hres.o) zZ rfl Vi.o _ rfl) rfl ?_;exact⟨rfl,HB.o.trans (below_setRow _ _ _ (iM _))⟩
theorem set_2(w:G):aD aO 8 #[O J 2] w (zB w (aA #[I set2,O J 0])):=by
 obtain⟨hz,hsize⟩:=iY gY;have hb:=built2;obtain⟨z,HZ⟩:=aQ set0;rw[HZ.o]at hz;have Zs:U (z.size=8):=⟨by rw[<-HZ.o];rfl⟩;obtain⟨V,HV⟩:=aQ set2;have Vi:U ((aO.info? 37).map (·.size)=some V.size):=⟨by rw[<-HV.o];exact hsize⟩;have Vz:U (z.size=V.size):=⟨by rw[Zs.o,<-HV.o];rfl⟩;have Vo:U (V.all (·.oneCell')=true):=⟨by rw[<-HV.o];simp[set2,Value.oneCell']⟩;rw[HV.o]at hb;rw[HV.o];have Hb:=D hb;obtain⟨W,hW⟩:=aP (w.alloc (Y z 37));have HW:=D hW;have Hres:U (W.heap[w.heap.size]? = some (Y z 37 (0,0))):=⟨by rw[<-hW];exact cM w _ _ rfl⟩;have HB:=zba hW;clear hb hsize hW;go_enter Tryz.func8,Tryz.ntmps8;go_wp2_with (first
  | (rw[HW.o])
  | (refine xda rfl 37 _ rfl V Hb.o ?_)
  | (refine iS rfl 37 _ _ rfl w.heap.size V rfl rfl 37 _ Hres.o Vi.o Vz.o Vo.o ?_))
 refine iV (v:=aA #[I V,O J 0]) (rset.results_cell_tmp rfl _ _ w.heap.size 37 _ (0,0) _ rfl (jD _ _ _ _ _ _ Hres.o) zZ rfl Vi.o _ rfl) rfl ?_;exact⟨rfl,HB.o.trans (below_setRow _ _ _ (iM _))⟩
theorem set_3(w:G):aD aO 8 #[O J 3] w (zB w (aA #[I set3,O J 0])):=by
 obtain⟨hz,hsize⟩:=iY gY;have hb:=built3;obtain⟨z,HZ⟩:=aQ set0;rw[HZ.o]at hz;have Zs:U (z.size=8):=⟨by rw[<-HZ.o];rfl⟩;obtain⟨V,HV⟩:=aQ set3;have Vi:U ((aO.info? 37).map (·.size)=some V.size):=⟨by rw[<-HV.o];exact hsize⟩;have Vz:U (z.size=V.size):=⟨by rw[Zs.o,<-HV.o];rfl⟩;have Vo:U (V.all (·.oneCell')=true):=⟨by rw[<-HV.o];simp[set3,Value.oneCell']⟩;rw[HV.o]at hb;rw[HV.o];have Hb:=D hb;obtain⟨W,hW⟩:=aP (w.alloc (Y z 37));have HW:=D hW;have Hres:U (W.heap[w.heap.size]? = some (Y z 37 (0,0))):=⟨by rw[<-hW];exact cM w _ _ rfl⟩;have HB:=zba hW;clear hb hsize hW;go_enter Tryz.func8,Tryz.ntmps8;go_wp2_with (first
  | (rw[HW.o])
  | (refine xda rfl 37 _ rfl V Hb.o ?_)
  | (refine iS rfl 37 _ _ rfl w.heap.size V rfl rfl 37 _ Hres.o Vi.o Vz.o Vo.o ?_))
 refine iV (v:=aA #[I V,O J 0]) (rset.results_cell_tmp rfl _ _ w.heap.size 37 _ (0,0) _ rfl (jD _ _ _ _ _ _ Hres.o) zZ rfl Vi.o _ rfl) rfl ?_;exact⟨rfl,HB.o.trans (below_setRow _ _ _ (iM _))⟩
theorem xmr(w:G):aD aO 8 #[O J 4] w (zB w (aA #[I iJ,O J 0])):=by
 obtain⟨hz,hsize⟩:=iY gY;have hb:=built4;obtain⟨z,HZ⟩:=aQ set0;rw[HZ.o]at hz;have Zs:U (z.size=8):=⟨by rw[<-HZ.o];rfl⟩;obtain⟨V,HV⟩:=aQ iJ;have Vi:U ((aO.info? 37).map (·.size)=some V.size):=⟨by rw[<-HV.o];exact hsize⟩;have Vz:U (z.size=V.size):=⟨by rw[Zs.o,<-HV.o];rfl⟩;have Vo:U (V.all (·.oneCell')=true):=⟨by rw[<-HV.o];simp[iJ,Value.oneCell']⟩;rw[HV.o]at hb;rw[HV.o];have Hb:=D hb;obtain⟨W,hW⟩:=aP (w.alloc (Y z 37));have HW:=D hW;have Hres:U (W.heap[w.heap.size]? = some (Y z 37 (0,0))):=⟨by rw[<-hW];exact cM w _ _ rfl⟩;have HB:=zba hW;clear hb hsize hW;go_enter Tryz.func8,Tryz.ntmps8;go_wp2_with (first
  | (rw[HW.o])
  | (refine xda rfl 37 _ rfl V Hb.o ?_)
  | (refine iS rfl 37 _ _ rfl w.heap.size V rfl rfl 37 _ Hres.o Vi.o Vz.o Vo.o ?_))
 refine iV (v:=aA #[I V,O J 0]) (rset.results_cell_tmp rfl _ _ w.heap.size 37 _ (0,0) _ rfl (jD _ _ _ _ _ _ Hres.o) zZ rfl Vi.o _ rfl) rfl ?_;exact⟨rfl,HB.o.trans (below_setRow _ _ _ (iM _))⟩
end r9st
end Go.Proofs.YtomphjajkkddkaaGreatDoor
