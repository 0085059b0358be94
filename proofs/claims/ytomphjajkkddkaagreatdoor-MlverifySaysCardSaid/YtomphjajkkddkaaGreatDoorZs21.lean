/-
  What mlverify's Parse returns. Conditions: as each theorem says. What field.size and field.Size retu
-/
import Derived.Test.YtomphjajkkddkaaGreatDoorZs18
import Derived.Test.YtomphjajkkddkaaGreatDoorZs12
import Derived.Test.YtomphjajkkddkaaGreatDoorZs16
import Derived.Test.YtomphjajkkddkaaGreatDoorZs19
import Derived.Test.YtomphjajkkddkaaGreatDoorZs20
import Derived.Test.YtomphjajkkddkaaGreatDoorZs03
import Derived.Test.YtomphjajkkddkaaGreatDoorZs02
import Derived.Test.YtomphjajkkddkaaGreatDoorZs09
import Derived.Test.YtomphjajkkddkaaGreatDoorZs14
import Derived.Test.YtomphjajkkddkaaGreatDoorZs15
import Derived.Test.YtomphjajkkddkaaGreatDoorZs10
import Derived.Test.YtomphjajkkddkaaGreatDoorZs17
import Derived.Test.YtomphjajkkddkaaGreatDoorZs04
import Derived.Test.YtomphjajkkddkaaGreatDoorZs01
import Derived.Test.YtomphjajkkddkaaGreatDoorZs05
import Derived.StillTailTactics
set_option maxRecDepth 100000
set_option maxHeartbeats 16000000
set_option linter.unusedSimpArgs false
set_option linter.unusedVariables false
open Go Go.RowKit
open Go renaming World->G,Calls->aD,Value->aE,Program->aI
open Go.RowKit renaming Below->aF,intOf->aG
open Go.Act renaming put->aM
open Go.Value renaming int->O,agg->I,string->E,tuple->aA,slice->aB,pointer->aC
open Go.IntKind renaming i64->J
open Go.Obj renaming cells->Y
open Go.Proofs.Tryz renaming prog->aO
namespace Go.Proofs.YtomphjajkkddkaaGreatDoor
namespace vpc
open arr mem bD aT aV bS cY bF bQ bM bZ dJ cV aR aW aY bC bA bL bY cG gE fA mlvr
theorem xe7{fn:Func}{t u v x:Tmp}(h:fn.results=#[.tmp t,.tmp u,.tmp v,.tmp x])(tmps:Array aE)(P:aI)(w:G):
 (results fn tmps).run P w=.ok (.tuple #[tmps.getD t undef,tmps.getD u undef,tmps.getD v undef,tmps.getD x undef]) w:=by
 simp[results,h]
theorem xd9(kn ln:Nat)(e t a b o s:Int)(x:ByteArray)(w:G)(h:bP (kn:Int) (ln:Int) e t a b o s=true):
 aD aO 13 #[I (bO (kn:Int) (ln:Int) e t a b o s),E x] w fun r w'=>(∃ v,r=.returned v/\PV w' w.heap.size x kn ln a o s v)/\zb w w':=by
 obtain⟨hk,hl,-,ha,ho,hs⟩:=xbe h;have hk : 1<=kn/\kn<=8:=by omega
 have hl : 1<=ln/\ln<=8:=by omega
 have hmw:=(xd5 a ha).2.1;obtain⟨om,rfl⟩:=kR (a:=o) (by omega);have hom : 1<=om/\om<=100:=by omega
 obtain⟨l4,hl4⟩:=aP ((s / 4).toNat);have hl4e:s / 4=(l4:Int):=by omega
 have hl4t:s.tdiv 4=(l4:Int):=by rw[iU (by omega)];exact hl4e
 have hl4z:l4<=64:=by omega
 obtain⟨wd,hwd⟩:=aP (32*mw a);have hwz:wd<=2048:=by omega
 obtain⟨tt,htt⟩:=aP (hAt ln a s);have htt2:l4+wd*ln=tt:=by rw[<-htt,<-hl4,<-hwd];rfl
 have htz:wd*ln<=16384:=jJ (lA hwz hl.2) (by decide);obtain⟨n3,hn3⟩:=aP (sz3 kn ln a om s);have hn3e:n3=((tt+(om+kn):Nat):Int):=by
  rw[<-hn3,sz_is h];unfold szV;rw[htt,kL]
 have HRi:U (∀ w1:G,aD aO 49 #[I (bO (kn:Int) (ln:Int) e t a b (om:Int) s)] w1 (zB w1 (.bool true))):=⟨fun w1=>by have h1:=eF.xbo kn ln e t a b om s w1;rw[h]at h1;exact h1⟩;obtain⟨n1,hn1⟩:=aP (gX kn);obtain⟨n2,hn2⟩:=aP (sz2 kn ln e);have HSz:U (∀ w1:G,aD aO 20 #[I (bO (kn:Int) (ln:Int) e t a b (om:Int) s)] w1 (zB w1 (.tuple #[O J n1,O J n2,O J n3]))):=⟨fun w1=>by
  have h1:=ksz.xdl kn ln e t a b om s w1;unfold szs at h1;rw[iP h,hn1,hn2,hn3]at h1;exact h1⟩
 obtain⟨L,HL⟩:=aQ ((bO (kn:Int) (ln:Int) e t a b (om:Int) s):Array aE);have HAn:U (x.size=tt+(om+kn)->∀ w1:G,aD aO 52 #[I L,E (x.extract l4 tt)] w1 fun r w'=>(∃ v,r=.returned v/\Holds w' w1.heap.size v ln (vZ x a s))/\zb w1 w'):=⟨fun hx w1=>by
  rw[<-HL.o];refine vpa.xsz (kn:Int) ln wd e t a b om s _ _ w1 hl ha (by rw[size_extract _ _ _ (by omega) (by omega),kI ln wd];omega) (by omega) fun i hi w2=>?_
  rw[kpu.xi7 x l4 wd ln i hi (by omega) tt (kO (by omega))];have h1:=iI.unsigned (x.extract (l4+wd*i) (l4+wd*i+wd)) a w2 ha (by
   have h2:=kJ wd (show i+1<=ln from hi);rw[kG]at h2;rw[size_extract _ _ _ (by omega) (by omega),hwd];omega)
  unfold vZ iB rdU;rw[hl4,hwd];exact h1⟩
 have HUh:U (x.size=tt+(om+kn)->∀ w1:G,aD aO 50 #[E (x.extract tt x.size),O J (om:Int),O J (kn:Int)] w1 fun e0 w'=>((okV x kn ln a om s/\∃ v,e0=.returned (.tuple #[v,O J 0])/\Holds w' w1.heap.size v kn (vH x ln a om s))\/(¬ okV x kn ln a om s/\e0=.returned (aA #[aB none 0 0,O J 3])))/\zb w1 w'):=⟨fun hx w1=>by
  have h1:=punh.xm9 (x.extract tt x.size) kn om w1 hk.1 hk.2 hom.1 (by omega) (by rw[size_extract _ _ _ (by omega) (iM _)];omega);have e1:okV x kn ln a om s↔uok (fun j=>(aU (x.extract tt x.size)).getD j 0) om kn:=by
   unfold okV bV szV;rw[htt,kL];exact⟨fun h=>h.2,fun h=>⟨hx,h⟩⟩
  have e2:vH x ln a om s=ply (fun j=>(aU (x.extract tt x.size)).getD j 0) om:=by
   unfold vH bV;rw[htt,kL]
  rw[e1,e2];exact h1⟩
 have HCl:U (∀ w1:G,aD aO 51 #[E (x.extract 0 l4)] w1 (zB w1 (E (x.extract 0 l4)))):=⟨fun w1=>pcut.sclone _ w1 (by rw[kE];omega)⟩;have HS1:U (vS x s=x.extract 0 l4):=⟨by unfold vS;rw[hl4]⟩;rw[HL.o]at HRi HSz ⊢;have HLs:U ((aO.info? 37).map (·.size)=some L.size):=⟨by rw[<-HL.o];kernel_rfl⟩;obtain⟨W,hW⟩:=aP (w.alloc (Y L 37));obtain⟨r0,hWs,b0⟩:=one hW;have LB:=gW r0;have C7:∀ w':G,zb W w'->w'.cell? ⟨w.heap.size,7,none⟩=some (O J s):=fun w' hb=>aZ (LB.o w' hb) (by rw[<-HL.o];rfl)
 have C6:∀ w':G,zb W w'->w'.cell? ⟨w.heap.size,6,none⟩=some (O J (om:Int)):=fun w' hb=>aZ (LB.o w' hb) (by rw[<-HL.o];rfl)
 have C0:∀ w':G,zb W w'->w'.cell? ⟨w.heap.size,0,none⟩=some (O J (kn:Int)):=fun w' hb=>aZ (LB.o w' hb) (by rw[<-HL.o];rfl)
 have HC7:=D C7;have HC6:=D C6;have HC0:=D C0;have BW:=D b0;have HW:=D hW;have Hno:U (x.size≠tt+(om+kn)->¬ okV x kn ln a om s):=⟨fun hne hh=>hne (by have h1:=hh.1;unfold szV at h1;rw[htt,kL]at h1;exact h1)⟩;have Hn3:=D hn3e;have Htt2:=D htt2;have Htb:U (tt<=20000/\l4<=64):=⟨by omega⟩;clear h hs ha hk hl hmw hl4 hl4z hwd hwz htt htz hn3 hn1 hn2 hn3e htt2 hW r0 hWs b0 C7 C6 C0 ho;go_enter Tryz.func13,Tryz.ntmps13;go_wp2_with (first
  | (rw[HW.o])
  | (refine iL rfl 37 _ rfl w.heap.size rfl 37 _ (0,0) _ (LB.o _ (iR _ _)) zZ rfl HLs.o ?_))
 refine(HRi.o _).mono ?_;rintro y u1 ⟨rfl,hb1⟩;have E1:U (zb W u1):=⟨hb1⟩;clear hb1;go_wp2_with (refine iL rfl 37 _ rfl w.heap.size rfl 37 _ (0,0) _ (LB.o _ E1.o) zZ rfl HLs.o ?_);refine(HSz.o _).mono ?_;rintro y u2 ⟨rfl,hb2⟩;have E2:=bK E1 hb2;have D2:=bK BW E2.o;clear hb2;by_cases hx:x.size=tt+(om+kn)
 ·have hne:((x.size:Int) != n3)=false:=by rw[Hn3.o,hx];simp
  have f1:J.wrap ((x.size:Int)-(om:Int))=((tt+kn:Nat):Int):=by rw[iN];have:=Htb.o;omega
  obtain⟨q1,hq1⟩:=aP (tt+kn);have f2:J.wrap ((q1:Int)-(kn:Int))=(tt:Int):=by rw[iN];have:=Htb.o;omega
  rw[hq1]at f1;have g1:tt<=x.size:=by omega
  have g2:l4<=tt:=by have:=Htt2.o;omega
  have g3:l4<=x.size:=by omega
  have f3:J.wrap (l4:Int)=(l4:Int):=by rw[iN];have:=Htb.o;omega
  have HAq:=D (HAn.o hx);have HUq:=D (HUh.o hx);obtain⟨X1,HX1⟩:=aQ (x.extract tt x.size);obtain⟨X2,HX2⟩:=aQ (x.extract l4 tt);obtain⟨X3,HX3⟩:=aQ (x.extract 0 l4);have hX1:=HX1.o;have hX2:=HX2.o;have hX3:=HX3.o;rw[hX1]at HUq;rw[hX2]at HAq;rw[hX3]at HCl HS1;clear hx hq1;go_wp2_with fail;refine xa4 (u2.heap.size) 13 [0,1,2,3,4,5,6,7,8,9,10,11,12] (by kernel_rfl) rfl rfl (by decide) (fun hS ops HO=>?_);simp only[jT,fa,jF,jL];refine zU hS ?_;refine zD ((fun w9 h9=>HC7.o w9 (E2.o.trans (h9.mono E2.o.size)))) hS ?_;iterate 4 (refine zU hS ?_)
  refine zD ((fun w9 h9=>HC6.o w9 (E2.o.trans (h9.mono E2.o.size)))) hS ?_;iterate 2 (refine zU hS ?_)
  refine zD ((fun w9 h9=>HC0.o w9 (E2.o.trans (h9.mono E2.o.size)))) hS ?_;iterate 3 (refine zU hS ?_)
  refine zN ?_;have E3:U (zb W u2.drew):=⟨E2.o.trans (hS.mono E2.o.size)⟩;have D3:U (zb w u2.drew):=⟨D2.o.trans (hS.mono D2.o.size)⟩;obtain⟨u3,hu3⟩:=aP u2.drew;rw[hu3]at E3 D3 ⊢;clear hS HO hu3;go_wp2_with fail;refine xa4 (u3.heap.size) 13 [0,1,2,3,4,5,6,7,8,9,10,11,12] (by kernel_rfl) rfl rfl (by decide) (fun hS ops HO=>?_);simp only[jT,fa,jF,jL];iterate 4 (refine zU hS ?_)
  refine zD ((fun w9 h9=>HC6.o w9 (E3.o.trans (h9.mono E3.o.size)))) hS ?_;refine zU hS ?_;refine zD ((fun w9 h9=>HC0.o w9 (E3.o.trans (h9.mono E3.o.size)))) hS ?_;refine zS fun K hK=>?_
  go_simp
  refine(HUq.o _).mono ?_;rintro y w2 ⟨⟨bR,v,rfl,hv⟩ | ⟨bR,rfl⟩,hb2⟩
  ·have h2:=hS.trans (hb2.mono hS.size);refine hK _ _ h2 ?_;clear hK K;try simp only[aM,pa,pb,pc]
   iterate 5 (refine zU h2 ?_)
   refine zN ?_;have E4:=bK E3 h2;have D4:=bK D3 h2;have Hok:=D bR;have Hv:U (Holds w2 w.heap.size v kn (vH x ln a om s)):=⟨let ⟨g9,c9,e9,l9,m9,n9⟩:=hv;⟨g9,c9,e9,jJ (jJ D3.o.size hS.size) l9,m9,n9⟩⟩;clear hS HO hb2 h2 bR hv;go_wp2_with fail;refine xa4 (w2.heap.size) 15 [0,1,2,4,5,6,7,8,10,3,9,11,12,13,14] (by kernel_rfl) rfl rfl (by decide) (fun hS ops HO=>?_);simp only[jT,fa,jF,jL];iterate 3 (refine zU hS ?_)
   refine gP (by rw[<-HO.o];kernel_rfl) (fun _ _ _ _ h=>h) 37 _ rfl w.heap.size rfl 37 L _ (fun w1 h1=>LB.o w1 (E4.o.trans (h1.mono E4.o.size))) zZ rfl HLs.o hS ?_;simp only[aM,pa,pb,pc];iterate 5 (refine zU hS ?_)
   refine zS fun K hK=>?_
   go_simp
   refine(HCl.o _).mono ?_;rintro x w5 ⟨rfl,hb5⟩;have h5:=hS.trans (hb5.mono hS.size);refine hK _ _ h5 ?_;clear hK K;try simp only[aM,pa,pb,pc]
   refine zS fun K hK=>?_
   go_simp
   refine(HAq.o _).mono ?_;rintro x w6 ⟨⟨v6,rfl,hv6⟩,hb6⟩;have h6:=h5.trans (hb6.mono h5.size);refine hK _ _ h6 ?_;clear hK K;try simp only[aM,pa,pb,pc]
   iterate 4 (refine zU h6 ?_)
   refine zN ?_;have D6:=bK D4 h6;have Hv6:U (Holds w6 w.heap.size v6 ln (vZ x a s)):=⟨let ⟨g9,c9,e9,l9,m9,n9⟩:=hv6;⟨g9,c9,e9,jJ (jJ D4.o.size h5.size) l9,m9,n9⟩⟩;have Hv7:U (Holds w6 w.heap.size v kn (vH x ln a om s)):=⟨Hv.o.later h6⟩;clear hS HO hb5 h5 hb6 h6 hv6;go_wp2_with fail;refine bodyPost_ret (xe7 rfl _ _ _) rfl ?_;exact⟨⟨_,rfl,kW ⟨Hok.o,_,_,by rw[HS1.o];rfl,Hv6.o,Hv7.o⟩⟩,D6.o⟩
  ·have h2:=hS.trans (hb2.mono hS.size);refine hK _ _ h2 ?_;clear hK K;try simp only[aM,pa,pb,pc]
   iterate 5 (refine zU h2 ?_)
   refine zN ?_;have E4:=bK E3 h2;have D4:=bK D3 h2;have Hok:=D bR;clear hS HO hb2 h2 bR;go_wp2_with fail;refine bodyPost_ret (xe7 rfl _ _ _) rfl ?_;exact⟨⟨_,rfl,kO ⟨Hok.o,rfl⟩⟩,D4.o⟩
 ·have hne:((x.size:Int) != n3)=true:=by rw[Hn3.o];simp;omega
  have Hno2:=D (Hno.o hx);clear hx;go_wp2_with fail;refine bodyPost_ret (xe7 rfl _ _ _) rfl ?_;exact⟨⟨_,rfl,kO ⟨Hno2.o,rfl⟩⟩,D2.o⟩
end vpc
namespace fsize
open arr mem bD aT aV bE fP
theorem xwd(g o:Nat)(h:Nat->Int)(w:G)(hc:∀ i,i<256->w.cell? ⟨g,o+i,none⟩=some (O J (h i))):
 aD aO 77 #[aC (some ⟨g,o,none⟩)] w (zE w (O J (cb h 256))):=by
 have Hc:=D hc;clear hc;go_enter Tryz.func77,Tryz.ntmps77;go_wp2_with fail;go_loopw [7,3] (fun v m wr=>∃ i:Nat,i<=256/\v=O J (i:Int)/\m=O J (cb h i)/\w=wr) (fun v _ _=>256-(aG v).toNat)
 case atStart=>exact⟨0,iX _,rfl,rfl,rfl⟩
 case round=>
  obtain⟨i,hi,rfl,rfl,rfl⟩:=hrel;by_cases hlt:i<256
  ·have hiz:(i:Int)<256:=by omega
   have cc:=Hc.o i hlt;obtain⟨x,hx⟩:=aP (h i);rw[hx]at cc;obtain⟨m,hm⟩:=aP (cb h i);have hmb:=xh9 h i;rw[hm]at hmb ⊢;obtain⟨c,hcc⟩:=aQ (ce 8380417 x);have hcb:=xko x;rw[hcc.o]at hcb;obtain⟨k,hk⟩:=aQ (-c);have Hs:U (cb h (i+1)=max m (max c k)):=⟨by rw[cb,hm,hx,hcc.o,hk.o]⟩;have Hx:∀ w1:G,aD aO 131 #[O J x,O J 8380417] w1 (zE w1 (O J c)):=fun w1=>by rw[<-hcc.o];exact xdc x 8380417 w1
   have hw:J.wrap (-c)=k:=by rw[iN];have:=hk.o;omega
   clear hx hm;go_wp2_with fail;refine(Hx _).mono ?_;rintro e w3 ⟨rfl,hw3⟩;subst hw3;go_wp2_with fail;all_goals go_roundw
   case rel=>exact⟨i+1,by omega,by go_num,by rw[Hs.o];try congr 1<;>omega,by first | trivial | rfl⟩
   case measure=>simp[aG];omega
  ·obtain rfl:i=256:=by omega
   simp only[jE];go_wp2_with fail;go_ret;exact⟨rfl,rfl⟩
theorem xb9(g n c:Nat)(p:Nat->Nat->Int)(w:G)(hn:n<=1000000000000)(hc:∀ j,j<n->∀ i,i<256->w.cell? ⟨g,j*256+i,none⟩=some (O J (p j i))):
 aD aO 30 #[aB (some ⟨g,0,none⟩) n c] w (zE w (O J (eW p n))):=by
 have Hc:U (∀ j,j<n->∀ w1:G,w=w1->aD aO 77 #[aC (some ⟨g,j*256,none⟩)] w1 fun e w'=>e=.returned (O J (cb (p j) 256))/\w1=w'):=⟨fun j hj w1 hw=>by subst hw;exact(xwd g (j*256) (p j) w (hc j hj)).mono fun _ _ h=>⟨h.1,h.2.symm⟩⟩;clear hc;go_enter Tryz.func30,Tryz.ntmps30;go_wp2_with fail;go_loopw [7,3] (fun v m wr=>∃ i:Nat,i<=n/\v=O J (i:Int)/\m=O J (eW p i)/\w=wr) (fun v _ _=>n-(aG v).toNat)
 case atStart=>exact⟨0,iX _,rfl,rfl,rfl⟩
 case round=>
  obtain⟨i,hi,rfl,rfl,rfl⟩:=hrel;by_cases hlt:i<n
  ·have hiz:(i:Int)<(n:Int):=by omega
   have hcall:=Hc.o i hlt;obtain⟨m,hm⟩:=aP (eW p i);have hmb:=xn4 p i;rw[hm]at hmb ⊢;obtain⟨b,hb⟩:=aP (cb (p i) 256);have Hs:U (eW p (i+1)=max m b):=⟨by rw[eW,hm,hb]⟩;rw[hb]at hcall;clear hm hb;go_wp2_with fail;refine(hcall _ rfl).mono ?_;rintro e w3 ⟨rfl,hw3⟩;subst hw3;go_wp2_with fail;all_goals go_roundw
   case rel=>exact⟨i+1,by omega,by go_num,by rw[Hs.o];try congr 1<;>omega,by first | trivial | rfl⟩
   case measure=>simp[aG];omega
  ·obtain rfl:i=n:=by omega
   go_wp2_with fail;go_ret;exact⟨rfl,rfl⟩
end fsize
namespace kde
open arr mem bD aT aV bS aW aY bA bL bY cG dQ bF bQ eP eM bZ dJ dN mlkd
theorem clo_pu(x:ByteArray)(w:G)(V:Array aE)(c:Int)(hVs:V.size=256)(hVo:V.all (·.oneCell')=true)(HP:∀ w1:G,aD aO 75 #[E x,O J 1023] w1 (zB w1 (aA #[I V,O J c]))):
 aD aO 74 #[E x] w (zB w (aA #[I V,O J c])):=by
 obtain⟨hz,hsize⟩:=iY aV.aX;obtain⟨z,HZ⟩:=aQ (FL J 256 fun _=>0);rw[HZ.o]at hz;have Hzs:=dP HZ;have Vi:U ((aO.info? 76).map (·.size)=some V.size):=⟨by rw[hVs];exact hsize⟩;have Vz:U (z.size=V.size):=⟨by rw[Hzs.o,hVs]⟩;have Vo:=D hVo;have HP:=D HP;obtain⟨W,hW⟩:=aP (w.alloc (Y z 76));obtain⟨r0,hWs,b0⟩:=one hW;have R0:U (W.heap[w.heap.size]? = some (Y z 76 (0,0))):=⟨r0⟩;have B0:=D b0;have HW:=D hW;clear hsize hW r0 b0 hVs hVo HZ;go_enter Tryz.func74,Tryz.ntmps74;go_wp2_with (rw[HW.o]);refine(HP.o _).mono ?_;rintro e w5 ⟨rfl,hb5⟩;have D5:=bK B0 hb5;have R5:U (w5.heap[w.heap.size]? = some (Y z 76 (0,0))):=⟨(hb5.block _ (bI R0.o)).trans R0.o⟩;clear hb5;go_wp2_with (refine iS rfl 76 _ _ rfl w.heap.size V rfl rfl 76 _ R5.o Vi.o Vz.o Vo.o ?_);refine iV (v:=aA #[I V,O J c]) (bL.results_cell_tmp rfl _ _ w.heap.size 76 _ (0,0) _ rfl (jD _ _ _ _ _ _ R5.o) zX rfl Vi.o _ rfl) rfl ?_;exact⟨rfl,D5.o.trans (below_setRow _ _ _ (iM _))⟩
theorem xt6(s:ByteArray)(m n:Nat)(q:Nat->Nat->Int)(ok:Nat->Prop)(w:G)(hm : 1<=m/\m<=8)(hn:n<=1000)(hs:s.size=m*n)
 (HC1:∀ i,i<m->ok i->∀ w1:G,zb w w1->aD aO 74 #[E (s.extract (i*n) ((i+1)*n))] w1 (zB w1 (aA #[I (FL J 256 (q i)),O J 0])))
 (HC2:∀ i,i<m->¬ ok i->∀ w1:G,zb w w1->aD aO 74 #[E (s.extract (i*n) ((i+1)*n))] w1 (zB w1 (aA #[I (FL J 256 fun _=>0),O J 3]))):
 aD aO 73 #[E s,O J (m:Int),.func (.func 74) #[] #[]] w fun x w'=>(((∀ i,i<m->ok i)/\∃ v,x=.returned (.tuple #[v,O J 0])/\Holds w' w.heap.size v m q)\/((¬ ∀ i,i<m->ok i)/\x=.returned (aA #[aB none 0 0,O J 3])))/\zb w w':=by
 obtain⟨i0,hi,hz0,hz1,hz2⟩:=aY.parts bX;obtain⟨hz,hsize⟩:=iY aV.aX;obtain⟨z,HZ⟩:=aQ (FL J 256 fun _=>0);rw[HZ.o]at hz hz0;have HI:=D (jA hi (jA hz0 (jA hz1 hz2)));have Hzs:=dP HZ;have Hsize:=D hsize;have hm1:=hm.1;have hm8:=hm.2;have hmz:((m:Int)==0)=false:=by simp;omega
 have hmz2:¬ (m:Int)=0:=by omega
 have hmn:m*n<=8000:=jJ (lA hm.2 hn) (by decide);have hdiv:(s.size:Int).tdiv (m:Int)=(n:Int):=by
  rw[hs,iU (by omega)];push_cast
  exact Int.mul_ediv_cancel_left _ hmz2
 have hde:(s.size:Int) / (m:Int)=(n:Int):=by
  rw[<-hdiv,iU (by omega)]
 have hdw:J.wrap ((s.size:Int) / (m:Int))=(n:Int):=by rw[hde,iN];omega
 have HC1:=D HC1;have HC2:=D HC2;have Hs:=D hs;have Hmn:=D hmn;have Hm:=D hm;have hn0 : 0<=(n:Int):=by omega
 clear hi hz0 hz1 hz2 hsize hs hmn hm hdiv hde;go_enter Tryz.func73,Tryz.ntmps73;go_wp2_with (at_make;refine lY _ rfl (.tmp 13) (.tmp 13) 44 rfl w.heap.size 76 i0 (I z) 256 Tryz.underlying44 HI.o.1 HI.o.2.1 HI.o.2.2.1 J J m m m rfl rfl rfl rfl (by rw[HI.o.2.2.2];omega) (by unfold maxLen;omega) (iM _) ?_);intro w5 hown hgr;obtain⟨hrow,hb5⟩:=xbn HZ.o hown hgr;obtain⟨g,hg⟩:=aP w.heap.size;rw[hg]at hrow ⊢;have A5:U (At g (RW m (fst q 0)) 76 w5 w5):=⟨by rw[xbl];exact At.refl hrow⟩;have B5:U (zb w w5):=⟨hb5⟩;have Hg:=D hg;clear hown hgr hrow hb5 hg;go_wp2_with fail;go_loopw [21] (fun v wr=>∃ r:Nat,r<=m/\v=O J (r:Int)/\U (∀ i,i<r->ok i)/\U (At g (RW m (fst q r)) 76 w5 wr)) (fun v _=>m-(aG v).toNat)
 case atStart=>exact⟨0,iX _,rfl,⟨fun i hi=>by omega⟩,A5⟩
 case round=>
  clear A5;obtain⟨r,hr,rfl,Hin,A0⟩:=hrel;have BU:U (zb w wr):=⟨B5.o.trans (A0.o.below B5.o.size (mS Hg.o))⟩;by_cases hlt:r<m
  ·have hrz:(r:Int)<(m:Int):=by omega
   have hr8:r<8:=by omega
   have hmul:(r+1)*n<=m*n:=mH n hlt;have hsplit:(r+1)*n=r*n+n:=nX r n;have HCa:=HC1.o r hlt;have HCb:=HC2.o r hlt;obtain⟨p,hp⟩:=aP (r*n);obtain⟨p2,hp2⟩:=aP ((r+1)*n);rw[hp,hp2]at HCa HCb;have hps:p2<=s.size:=by have:=Hs.o;omega
   have hpp:p<=p2:=by omega
   have hpz:p2<=8000:=by have:=Hmn.o;omega
   have f1:J.wrap ((r:Int)*(n:Int))=(p:Int):=by rw[show (r:Int)*(n:Int)=((r*n:Nat):Int) by push_cast;rfl,hp,iN];omega
   have f2:J.wrap (((r:Int)+1)*(n:Int))=(p2:Int):=by rw[show ((r:Int)+1)*(n:Int)=(((r+1)*n:Nat):Int) by push_cast;rfl,hp2,iN];omega
   obtain⟨X,HX⟩:=aQ (s.extract p p2);have hex:=HX.o;rw[HX.o]at HCa HCb;have Hlt:=D hlt;clear hmul hsplit hp hp2;by_cases bR:ok r
   ·have HCr:=D (HCa bR);have Hin2:U (∀ i,i<r+1->ok i):=⟨fun i hi=>by
     by_cases e:i=r
     ·rw[e];exact bR
     ·exact Hin.o i (by omega)⟩
    obtain⟨F,HF⟩:=aQ (FL J 256 (q r));rw[HF.o]at HCr;have Fs:=dP HF;have Fo:=eJ HF;have Fi:=zsz Fs Hsize.o;have Fz:U (z.size=F.size):=⟨by rw[Hzs.o,Fs.o]⟩;have Hup:U (ups (fst q r) r (q r)=fst q (r+1)):=⟨xbq q r⟩;obtain⟨o6,ho6⟩:=aP (r*256);have Ho6:=D ho6;clear bR HCa HCb;go_wp2_with fail;refine(HCr.o _ BU.o).mono ?_;rintro e w3 ⟨rfl,hb3⟩;obtain⟨W4,hW4⟩:=aP (w3.alloc (Y F 76));obtain⟨r4,hs4,b4⟩:=one hW4;have R4:=D r4;have A4:U (At g (RW m (fst q r)) 76 w5 W4):=⟨A0.o.later (hb3.trans (b4.mono hb3.size))⟩;have HW4:=D hW4;clear hb3 hW4 r4 hs4 b4;go_wp2_with (first
     | (refine fV rfl 76 _ _ rfl F rfl rfl Fi.o (by exact Fz.o) Fo.o rfl ?_)
     | (rw[HW4.o])
     | (refine iL rfl 76 _ rfl w3.heap.size rfl 76 F (0,0) _ R4.o zX rfl Fi.o ?_)
     | ((with_reducible refine xci A4 HF.o Hlt.o Ho6.o rfl _ _ rfl rfl ?hx ?hy ?_);(case hx=>exact rfl);(case hy=>exact rfl);intro w7 A7;rw[Hup.o]at A7))
    go_roundw
    case rel=>exact⟨r+1,by have:=Hlt.o;omega,by go_num,Hin2,A7⟩
    case measure=>have:=Hlt.o;simp[aG];omega
   ·have HCr:=D (HCb bR);rw[HZ.o]at HCr;have Zi:=zsz Hzs Hsize.o;have Zo:=eJ HZ;have Hno:U (¬ ∀ i,i<m->ok i):=⟨fun h=>bR (h r Hlt.o)⟩;clear bR HCa HCb;go_wp2_with fail;refine(HCr.o _ BU.o).mono ?_;rintro e w3 ⟨rfl,hb3⟩;obtain⟨W4,hW4⟩:=aP (w3.alloc (Y z 76));obtain⟨r4,hs4,b4⟩:=one hW4;have B4:U (zb w W4):=⟨BU.o.trans ((hb3.trans (b4.mono hb3.size)).mono BU.o.size)⟩;have HW4:=D hW4;clear hb3 hW4 r4 hs4 b4;go_wp2_with (first
     | (refine fV rfl 76 _ _ rfl z rfl rfl Zi.o rfl Zo.o rfl ?_)
     | (rw[HW4.o]))
    go_ret2;exact⟨kO ⟨Hno.o,rfl⟩,B4.o⟩
  ·obtain rfl:r=m:=by omega
   have HH:U (Holds wr w.heap.size (aB (some ⟨g,0,none⟩) r r) r q):=⟨xbp A0.o.row (mS Hg.o) (fun i hi=>xbk q r i hi)⟩;clear A0;go_wp2_with fail;go_ret2;exact⟨kW ⟨Hin.o,_,rfl,HH.o⟩,BU.o⟩
end kde
namespace kpu
open arr mem bD aT aV bS aW aY bA bL bY cG dQ bF bQ eP cV eM bZ dJ fA dN rksb dG dW
theorem dec_pu(x:ByteArray)(kn:Nat)(w:G)(hk : 1<=kn/\kn<=8)(hx:x.size=32+320*kn):
 aD aO 73 #[E (x.extract 32 x.size),O J (kn:Int),.func (.func 74) #[] #[]] w fun r w'=>(∃ v,r=.returned (.tuple #[v,O J 0])/\Holds w' w.heap.size v kn (rdU x 32 10))/\zb w w':=by
 refine(kde.xt6 (x.extract 32 x.size) kn 320 (rdU x 32 10) (fun _=>True) w hk (by decide) (by rw[size_extract _ _ _ (by omega) (by omega)];omega) (fun i hi _ w1 _=>?_) (fun i _ h=>absurd trivial h)).mono ?_
 ·rw[xi7 x 32 320 kn i hi (by omega) _ (kW rfl)];have hsz:(x.extract (32+320*i) (32+320*i+320)).size=320:=by
   rw[size_extract _ _ _ (by omega) (by omega)];omega
  have h1:=fun w1=>punp.xgh (x.extract (32+320*i) (32+320*i+320)) 1023 w1 (by decide) (by decide) (by rw[hsz,xdf])
  simp only[xdf,iP (show fK (up (x.extract (32+320*i) (32+320*i+320)) 10) 1023 from fun j _=>by
   have:=bM.xjz (x.extract (32+320*i) (32+320*i+320)) 10 j;omega)]at h1
  exact kde.clo_pu _ w1 _ 0 (cC _ _ _) (xbj _ _ _) h1
 ·rintro r w' ⟨h | h,hb⟩
  ·exact⟨h.2,hb⟩
  ·exact absurd (fun _ _=>trivial) h.1
theorem xmb(k l e t a b o s:Int)(x:ByteArray)(w:G)(h:bP k l e t a b o s=true)(hx:(x.size:Int)≠gX k):
 aD aO 29 #[I (bO k l e t a b o s),E x] w (zB w (aA #[E ⟨#[]⟩,aB none 0 0,O J 3])):=by
 have HR0:=fun w1=>eF.xbo k l e t a b o s w1
 simp only[h]at HR0;have HS0:∀ w1:G,aD aO 20 #[I (bO k l e t a b o s)] w1 (zB w1 (.tuple #[O J (gX k),O J (sz2 k l e),O J (sz3 k l a o s)])):=fun w1=>by
  have h1:=ksz.xdl k l e t a b o s w1;unfold szs at h1;rw[iP h]at h1;exact h1
 obtain⟨n1,en1⟩:=aP (gX k);obtain⟨n2,en2⟩:=aP (sz2 k l e);obtain⟨n3,en3⟩:=aP (sz3 k l a o s);simp only[en1,en2,en3]at HS0 hx;have hn1:((x.size:Int) != n1)=true:=by simpa using hx
 obtain⟨C,HC⟩:=aQ ((bO k l e t a b o s):Array aE);simp only[HC.o]at HR0 HS0 ⊢;have HCs:U ((aO.info? 37).map (·.size)=some C.size):=⟨by rw[<-HC.o];kernel_rfl⟩;obtain⟨W,hW⟩:=aP (w.alloc (Y C 37));obtain⟨r0,hWs,b0⟩:=one hW;have CB:=gW r0;have BW:=D b0;have HW:=D hW;have HR:=D HR0;have HS:=D HS0;clear HR0 HS0 hW r0 hWs b0 h hx en1 en2 en3;go_enter Tryz.func29,Tryz.ntmps29;go_wp2_with (first
  | (rw[HW.o])
  | (refine iL rfl 37 _ rfl w.heap.size rfl 37 _ (0,0) _ (CB.o _ (iR _ _)) zZ rfl HCs.o ?_))
 refine(HR.o _).mono ?_;rintro r u1 ⟨rfl,hb1⟩;have E1:U (zb W u1):=⟨hb1⟩;clear hb1;go_wp2_with (refine iL rfl 37 _ rfl w.heap.size rfl 37 _ (0,0) _ (CB.o _ E1.o) zZ rfl HCs.o ?_);refine(HS.o _).mono ?_;rintro r u2 ⟨rfl,hb2⟩;have E2:=bK E1 hb2;clear hb2;go_wp2_with fail;go_ret3
 exact⟨rfl,BW.o.trans (E2.o.mono BW.o.size)⟩
theorem xje(kn:Nat)(l e t a b o s:Int)(x:ByteArray)(w:G)(h:bP (kn:Int) l e t a b o s=true)(hx:x.size=32+320*kn):
 aD aO 29 #[I (bO (kn:Int) l e t a b o s),E x] w fun r w'=>(∃ v,r=.returned (aA #[E (x.extract 0 32),v,O J 0])/\Holds w' w.heap.size v kn (rdU x 32 10))/\zb w w':=by
 obtain⟨hk,-⟩:=xbe h;have hk : 1<=kn/\kn<=8:=by omega
 have HR0:=fun w1=>eF.xbo (kn:Int) l e t a b o s w1
 simp only[h]at HR0;have HS0:∀ w1:G,aD aO 20 #[I (bO (kn:Int) l e t a b o s)] w1 (zB w1 (.tuple #[O J (gX (kn:Int)),O J (sz2 (kn:Int) l e),O J (sz3 (kn:Int) l a o s)])):=fun w1=>by
  have h1:=ksz.xdl (kn:Int) l e t a b o s w1;unfold szs at h1;rw[iP h]at h1;exact h1
 have hn1:((x.size:Int) != gX (kn:Int))=false:=by
  have:(x.size:Int)=gX (kn:Int):=by unfold gX;omega
  rw[this];simp
 obtain⟨n1,en1⟩:=aP (gX (kn:Int));obtain⟨n2,en2⟩:=aP (sz2 (kn:Int) l e);obtain⟨n3,en3⟩:=aP (sz3 (kn:Int) l a o s);simp only[en1,en2,en3]at HS0 hn1;have HD:=D (fun w1=>dec_pu x kn w1 hk hx);have HC0:=D (fun w1=>xoe x 32 w1 (by omega) (by omega));obtain⟨R,HRR⟩:=aQ (rdU x 32 10);simp only[HRR.o]at HD ⊢;have h32:(32:Int)<=(x.size:Int):=by omega
 have h32n : 32<=x.size:=by omega
 obtain⟨Yq,HY⟩:=aQ (x.extract 32 x.size);have hY:=HY.o;simp only[HY.o]at HD;obtain⟨C,HC⟩:=aQ ((bO (kn:Int) l e t a b o s):Array aE);simp only[HC.o]at HR0 HS0 ⊢;have HCs:U ((aO.info? 37).map (·.size)=some C.size):=⟨by rw[<-HC.o];kernel_rfl⟩;obtain⟨W,hW⟩:=aP (w.alloc (Y C 37));obtain⟨r0,hWs,b0⟩:=one hW;have CB:=gW r0;have BW:=D b0;have HW:=D hW;have cK:U (∀ w':G,zb W w'->w'.cell? ⟨w.heap.size,0,none⟩=some (O J (kn:Int))):=⟨fun w' hb=>aZ (CB.o w' hb) (by rw[<-HC.o];rfl)⟩;have HR:=D HR0;have HS:=D HS0;clear HR0 HS0 hW r0 hWs b0 h hx en1 en2 en3 HRR hk;go_enter Tryz.func29,Tryz.ntmps29;go_wp2_with (first
  | (rw[HW.o])
  | (refine iL rfl 37 _ rfl w.heap.size rfl 37 _ (0,0) _ (CB.o _ (iR _ _)) zZ rfl HCs.o ?_))
 refine(HR.o _).mono ?_;rintro r u1 ⟨rfl,hb1⟩;have E1:U (zb W u1):=⟨hb1⟩;clear hb1;go_wp2_with (refine iL rfl 37 _ rfl w.heap.size rfl 37 _ (0,0) _ (CB.o _ E1.o) zZ rfl HCs.o ?_);refine(HS.o _).mono ?_;rintro r u2 ⟨rfl,hb2⟩;have E2:=bK E1 hb2;clear hb2;go_wp2_with fail;refine xa4 (u2.heap.size) 10 [0,1,2,3,4,5,6,7,8,9] (by kernel_rfl) rfl rfl (by decide) (fun hS ops HO=>?_);simp only[jT,mI,jF,jL];have cK2:∀ w':G,zb u2 w'->w'.cell? ⟨w.heap.size,0,none⟩=some (O J (kn:Int)):=fun w' hb=>cK.o w' (E2.o.trans (hb.mono E2.o.size))
 iterate 3 (refine zV hS ?_)
 refine zW cK2 hS ?_;refine zS fun K hK=>?_
 go_simp
 refine(HD.o _).mono ?_;rintro r w9 ⟨⟨v,rfl,hv⟩,hb9⟩;have h9:=zbm hS hb9;have hv:=Holds.later hv (iR _ _);obtain⟨gv,cv,rfl,hgv⟩:=gD hv;refine hK _ _ h9 ?_;clear hK K;try simp only[aM,aR.pa,aR.pb,aR.pc]
 iterate 5 (refine zV h9 ?_)
 refine zN ?_;have E3:=bK E2 h9;have hb8:w.heap.size<=u2.heap.size:=jJ BW.o.size E2.o.size;have Hv:U (Holds w9 w.heap.size (aB (some ⟨gv,0,none⟩) kn cv) kn R):=⟨by obtain⟨g2,c2,q1,q2,q3⟩:=hv;exact⟨g2,c2,q1,jJ hb8 (jJ hS.size q2),q3⟩⟩;clear hS HO hb9 h9 hv hgv cK2 hb8;go_wp2_with fail;refine(HC0.o _).mono ?_;rintro r w5 ⟨rfl,hb5⟩;go_wp2_with fail;go_ret3
 exact⟨⟨_,rfl,Hv.o.later hb5⟩,BW.o.trans ((E3.o.trans (hb5.mono E3.o.size)).mono BW.o.size)⟩
end kpu
namespace mga
open arr mem bD aT aV bS cY bF bQ dD bM bZ eH cZ bU bT dN dW eM mgd
theorem xc8{T:Array aE}(gt:Nat)(x:ByteArray)(n:Nat)(w:G)(hK:KT T TL RL)(hP:Gp w)(hrow:w.heap[gt]? = some (Y T 34 (0,0)))(hn:n<=50000)(hx:x.size<=1125899906842624):
 aD aO 163 #[aC (some ⟨gt,0,none⟩),E x,O J (n:Int)] w (zB w (E (out TL RL 2 x n))):=by
 have HS:=D (fun w1 hb=>iI.shake 2 x n w hK hP (kO rfl) hn hx w1 hb);have HTz:U ((aO.info? 34).map (·.size)=some T.size):=⟨dI T hK⟩;have HR:=D hrow;obtain⟨Yq,HY⟩:=aQ (out TL RL 2 x n);rw[HY.o]at HS ⊢;clear hK hP hrow hn hx HY;go_enter Tryz.func163,Tryz.ntmps163;go_wp2_with (refine iL rfl 34 _ rfl gt rfl 34 T (0,0) _ HR.o zY rfl HTz.o ?_);refine(HS.o _ (iR _ _)).mono ?_;rintro e w5 ⟨rfl,hb5⟩;go_wp2_with fail;go_ret;exact⟨rfl,hb5⟩
theorem xb9(f:Nat->Int)(w:G):
 aD aO 188 #[I (FL J 256 f)] w (zB w (O J (bE.eW (fun _=>f) 1))):=by
 obtain⟨i0,hi,hz0,hz1,hz2⟩:=iC bX;obtain⟨z,HZ⟩:=aQ (FL J 256 fun _=>0);rw[HZ.o]at hz0;have HI:=D (jA hi (jA hz0 hz1));obtain⟨F,HF⟩:=aQ (FL J 256 f);have Fs:=dP HF;have Fi:U ((aO.info? 76).map (·.size)=some F.size):=⟨by rw[Fs.o];exact(iY aV.aX).2⟩;obtain⟨W,hW⟩:=aP (w.alloc (Y F 76));obtain⟨r0,hWs,b0⟩:=one hW;obtain⟨Uq,hU⟩:=aP (W.alloc (Y F 76));obtain⟨r1,hUs,b1⟩:=one hU;have HS:U (aD aO 30 #[aB (some ⟨W.heap.size,0,none⟩) 1 1] Uq (zE Uq (O J (bE.eW (fun _=>f) 1)))):=⟨fsize.xb9 W.heap.size 1 1 (fun _=>f) Uq (by decide) fun j hj i hi=>by
  obtain rfl:j=0:=by omega
  rw[Nat.zero_mul,kP];exact fZ (by rw[HF.o];exact r1) i hi⟩
 have R0:=D r0;have B1:U (zb w Uq):=⟨b0.trans (b1.mono b0.size)⟩;have HW:=D hW;have HU:=D hU;rw[HF.o];clear hi hz0 hz1 hz2 HZ hW r0 hWs b0 hU r1 hUs b1 HF;go_enter Tryz.func188,Tryz.ntmps188;go_wp2_with (first
  | (rw[HU.o])
  | (rw[HW.o])
  | (refine iL rfl 76 _ rfl w.heap.size rfl 76 F (0,0) _ R0.o zX rfl Fi.o ?_)
  | (with_reducible refine fork.xsi rfl 44 76 _ rfl F Fs.o i0 z Tryz.underlying44 HI.o.1 HI.o.2.1 HI.o.2.2 rfl ?_))
 refine HS.o.mono ?_;rintro e w5 ⟨rfl,h5⟩;rw[h5];clear h5 w5;go_wp2_with fail;go_ret;exact⟨rfl,B1.o⟩
theorem xpa(gs:Nat)(t e m:Int)(w:G)(h4:w.cell? ⟨gs,4,none⟩=some (O J t))(h3:w.cell? ⟨gs,3,none⟩=some (O J e))(hm:J.wrap (t*e)=m):
 aD aO 187 #[aC (some ⟨gs,0,none⟩)] w fun e' w'=>e'=.returned (O J m)/\w'=w.drew:=by
 go_enter Tryz.func187,Tryz.ntmps187;go_wp2_with fail;refine xav (by kernel_rfl) (by kernel_rfl) ?_;repeat still_step
 refine jR ?_;go_wp2_with fail;go_ret;exact⟨rfl,rfl⟩
theorem xma{T:Array aE}(Z:Nat->Int)(gs gt g1 o1 g2 o2:Nat)(c f:Nat->Int)(w:G)(hT:cE.ZT T Z)(hc:w.cell? ⟨gs,0,none⟩=some (aC (some ⟨gt,0,none⟩)))(hr:w.heap[gt]? = some (Y T 34 (0,0)))
 (h1:w.rangeAt g1 o1 (FL J 256 c).toList) (h2:w.rangeAt g2 o2 (FL J 256 f).toList) (ls:gs<w.heap.size) (l1:g1<w.heap.size) (l2:g2<w.heap.size):
 aD aO 186 #[aC (some ⟨gs,0,none⟩),aC (some ⟨g1,o1,none⟩),aC (some ⟨g2,o2,none⟩)] w (zB w (I (FL J 256 (mul (fun k=>Z k%8380417) c f)))):=by
 obtain⟨hz,hsize⟩:=iY aV.aX;obtain⟨z,HZ⟩:=aQ (FL J 256 fun _=>0);rw[HZ.o]at hz;have Hzs:=dP HZ;have HTz:U ((aO.info? 34).map (·.size)=some T.size):=⟨by rw[hT.size];kernel_rfl⟩;have HTm:U (∀ w1:G,aD aO 81 #[I (FL J 256 c),I (FL J 256 f)] w1 (zB w1 (I (FL J 256 fun i=>(c i*f i)%8380417)))):=⟨fun w1=>ntimes.xcp c f w1⟩;have HBk:U (∀ w1:G,aD aO 82 #[I T,I (FL J 256 fun i=>(c i*f i)%8380417)] w1 (zB w1 (I (FL J 256 (mul (fun k=>Z k%8380417) c f))))):=⟨fun w1=>nback.xfg T Z _ w1 hT⟩;obtain⟨F,HF⟩:=aQ (FL J 256 c);obtain⟨Gq,HG⟩:=aQ (FL J 256 f);obtain⟨M,HM⟩:=aQ (FL J 256 fun i=>(c i*f i)%8380417);obtain⟨R,HR⟩:=aQ (FL J 256 (mul (fun k=>Z k%8380417) c f));have Fi:=zfi HF hsize;have Gi:=zfi HG hsize;have Ri:=eE HR hsize;have Ro:=eJ HR;have Rz:=gJ Hzs HR;rw[HM.o,HR.o]at HBk;rw[HF.o,HG.o,HM.o]at HTm;rw[HF.o]at h1;rw[HG.o]at h2;rw[HR.o];obtain⟨W,hW⟩:=aP (w.alloc (Y z 76));obtain⟨r0,hWs,b0⟩:=one hW;have q0:∀ d os,(Go.Sort.grow (redrawn W d) os).cell? ⟨gs,0,none⟩=some (aC (some ⟨gt,0,none⟩)):=fun d os=>oP ((b0.cell (p:=⟨gs,0,none⟩) ls).trans hc) d os
 have T0:U (W.heap[gt]? = some (Y T 34 (0,0))):=⟨(b0.block _ (bI hr)).trans hr⟩;have H1:U (∀ w':G,zb W w'->w'.rangeAt g1 o1 F.toList):=⟨fun w' hb=>xa3 h1 l1 (b0.trans (hb.mono b0.size))⟩;have H2:U (∀ w':G,zb W w'->w'.rangeAt g2 o2 Gq.toList):=⟨fun w' hb=>xa3 h2 l2 (b0.trans (hb.mono b0.size))⟩;have R0:=D r0;have B0:=D b0;have HW:=D hW;clear hsize hW r0 hWs b0 HZ HF HG HM HR hc hr h1 h2 ls l1 l2 hT;go_enter Tryz.func186,Tryz.ntmps186;go_wp2_with (rw[HW.o]);refine eQ.xb8 14 (by kernel_rfl) (by kernel_rfl) ?_;iterate 5 (quiet_step (skip))
 refine xa2 rfl 34 _ rfl _ rfl 34 _ _ (fun w' hC=>gM T0.o hC) zY rfl HTz.o ?_;iterate 2 (quiet_step (skip))
 refine xb2 rfl 76 _ rfl g1 o1 rfl F.toList _ (fun w' hC=>H1.o w' (krw.xa5 hC)) zX rfl Fi.o ?_;iterate 2 (quiet_step (skip))
 refine xb2 rfl 76 _ rfl g2 o2 rfl Gq.toList _ (fun w' hC=>H2.o w' (krw.xa5 hC)) zX rfl Gi.o ?_;quiet_step (exact jI (HTm.o _));quiet_step (exact jI (HBk.o _));refine kY ?_;intro wn hC;have hbn:zb W wn:=krw.xa5 hC;have R5:U (wn.heap[w.heap.size]? = some (Y z 76 (0,0))):=⟨(hbn.block _ (bI R0.o)).trans R0.o⟩;have D5:=bK B0 hbn;clear hC hbn q0;simp only[iW,jK];refine iS rfl 76 _ _ rfl w.heap.size R rfl rfl 76 _ R5.o Ri.o Rz.o Ro.o ?_;go_wp2_with fail;refine iV (v:=I R) (jC rfl _ _ w.heap.size 76 _ (0,0) _ rfl (jD _ _ _ _ _ _ R5.o) zX rfl Ri.o) rfl ?_;exact⟨rfl,D5.o.trans (below_setRow _ _ _ (iM _))⟩
end mga
namespace mgc
open arr mem bD aT aV bS cY bF bQ dD bM bZ eH cZ bU bT dN dW eM cV aR mgd aW bA bL dQ
theorem xte{T:Array aE}{S:Sg}(Z:Nat->Int)(n gs gt gm cm ga ca gb cb gl cl:Nat)(w:G)(hO:OKS T Z S)(hP:Gp w)(hn:n<814)(H:SGN T S gs gt gm cm ga ca gb cb gl cl w):
 aD aO 165 #[aC (some ⟨gs,0,none⟩),O J (n:Int)] w fun e w'=>(∃ gy cy gw cw,e=.returned (I (AT (aB (some ⟨gy,0,none⟩) S.ln cy) (aB (some ⟨gw,0,none⟩) S.kn cw) (cT S n) (aS S.ζ 8 (tC S n))))/\Holds w' 0 (aB (some ⟨gy,0,none⟩) S.ln cy) S.ln (tY S n)/\Holds w' 0 (aB (some ⟨gw,0,none⟩) S.kn cw) S.kn (tW S n))/\zb w w':=by
 obtain⟨hk,hl,-,-,ha,hbb,ho,hs⟩:=xi3 hO;obtain⟨fn,hfn⟩:=aP (n*S.ln);have hf1:fn<=65000:=by
  have:n*S.ln<=813*8:=lA (by omega) hl.2;omega
 have hmul:J.wrap ((S.ln:Int)*(n:Int))=(fn:Int):=by
  rw[show (S.ln:Int)*(n:Int)=((n*S.ln:Nat):Int) by rw[kV,oQ],hfn,iN];omega
 obtain⟨lam,hlam⟩:=aP ((S.s / 4).toNat);have hl4:(S.s / 4:Int)=(lam:Int):=by omega
 have hl4t:Int.tdiv S.s 4=(lam:Int):=by rw[iU (by omega)];exact hl4
 have hlam2:lam<=64:=by omega
 have hlw:J.wrap (lam:Int)=(lam:Int):=bB;have HMk0:∀ w1:G,Gp w1->aD aO 184 #[I T,I #[O J S.kn,O J S.ln,O J S.e,O J S.t,O J S.a,O J S.b,O J S.o,O J S.s],E S.ms,O J (fn:Int)] w1 fun x w'=>(∃ v1,x=.returned v1/\Holds w' w1.heap.size v1 S.ln (tY S n))/\zb w1 w':=fun w1 hg=>by
  have h:=iI.masks S.ln fn S.kn S.e S.t S.a S.b S.o S.s S.ms w1 hO.kt hg hf1 hO.lat (by rw[hO.ms];decide);rw[<-hfn]at h ⊢;exact h
 have HRw0:∀ (w1:G) (vv:aE) (B:Nat),MX w1 (aB (some ⟨gm,0,none⟩) S.kn cm) S.kn (fun _=>S.ln) (qX S.rho)->Holds w1 B vv S.ln (tY S n)->aD aO 32 #[I T,aB (some ⟨gm,0,none⟩) S.kn cm,vv] w1 fun e' w'=>(∃ v',e'=.returned v'/\Holds w' w1.heap.size v' S.kn (tW S n))/\zb w1 w':=fun w1 vv B h1 h2=>by
  have h3:=krw.xhg T Z S.kn S.ln (fun _=>S.ln) (qX S.rho) (tY S n) _ vv B w1 hO.zt.size hO.zt hk (fun _ _=>hl.2) hl h1 h2;simp only[Nat.min_self,<-hO.ez]at h3;exact h3
 obtain⟨Hi,hHi⟩:=aQ (cJ ByteArray.empty (fun i=>packed (tHi S n i) (8380416 / (2*S.b)-1)) S.kn);have HPh0:∀ (w1:G) (vv:aE) (B:Nat),SGN T S gs gt gm cm ga ca gb cb gl cl w1->Holds w1 B vv S.kn (tW S n)->aD aO 185 #[aC (some ⟨gs,0,none⟩),vv] w1 (zB w1 (E Hi)):=fun w1 vv B h1 h2=>by
  rw[<-hHi.o];exact mgb.xwp gs S.kn S.b vv B (tW S n) w1 hbb (h1.cell 6 _ rfl) h1.lts hk h2
 have hHs:Hi.size<=10000:=by
  rw[<-hHi.o];have h1:∀ m,(cJ ByteArray.empty (fun i=>packed (tHi S n i) (8380416 / (2*S.b)-1)) m).size=32*lb ((8380416:Int) / (2*S.b)-1).toNat*m:=fun m=>by
   rw[xgq _ _ (32*lb ((8380416:Int) / (2*S.b)-1).toNat) m fun _ _=>xcy _ _];exact kP _
  rw[h1];have h2:lb ((8380416:Int) / (2*S.b)-1).toNat<=6:=by rcases hbb with h | h<;>rw[h]<;>decide +kernel
  have h3:=lA (lA (iM 32) h2) hk.2;omega
 have hsum:out TL RL 2 (S.mu++Hi) lam=cT S n:=by
  unfold cT;rw[<-hlam,<-hHi.o,xkl]
 have HSh0:∀ w1:G,Gp w1->w1.heap[gt]? = some (Y T 34 (0,0))->aD aO 163 #[aC (some ⟨gt,0,none⟩),E (S.mu++Hi),O J (lam:Int)] w1 (zB w1 (E (cT S n))):=fun w1 hg hr=>by
  rw[<-hsum];exact mga.xc8 gt _ lam w1 hO.kt hg hr (by omega) (by rw[jS,hO.mu];omega)
 have hss:(cT S n).size<=64:=by rw[fJ.xdm,hlam];exact hlam2
 have HBa0:∀ w1:G,Gp w1->aD aO 34 #[I T,E (cT S n),O J S.t] w1 (zB w1 (I (FL J 256 (tC S n)))):=fun w1 hg=>iI.ball (cT S n) S.t w1 hO.kt hg (by omega)
 have HTh0:∀ w1:G,aD aO 79 #[I T,I (FL J 256 (tC S n))] w1 (zB w1 (I (FL J 256 (aS S.ζ 8 (tC S n))))):=fun w1=>by rw[hO.ez];exact cE.xdp T Z _ w1 hO.zt
 have hms:S.mu.size=64:=hO.mu;have HTz:U ((aO.info? 34).map (·.size)=some T.size):=⟨by rw[hO.zt.size];kernel_rfl⟩;obtain⟨hz,hsize⟩:=iY infoAtz;obtain⟨z,HZ⟩:=aQ (AT (aB none 0 0) (aB none 0 0) ⟨#[]⟩ fun _=>0);rw[HZ.o]at hz;have Hzs:U (z.size=259):=⟨by rw[<-HZ.o];exact xff _ _ _ _⟩;have Hsize:=D hsize;obtain⟨W,hW⟩:=aP (w.alloc (Y z 185));obtain⟨r0,hWs,b0⟩:=one hW;have HG:U (∀ w':G,zb W w'->SGN T S gs gt gm cm ga ca gb cb gl cl w'):=⟨fun w' hb=>H.later (b0.trans (hb.mono b0.size))⟩;have GP:U (∀ w':G,zb W w'->Gp w'):=⟨fun w' hb=>hP.later (b0.trans (hb.mono b0.size))⟩;have HP0:=D hP;have HH:=D H;have R0:=D r0;have B0:=D b0;have HWs:=D hWs;have HW:=D hW;have c0:∀ w':G,zb W w'->w'.cell? ⟨gs,0,none⟩=some (aC (some ⟨gt,0,none⟩)):=fun w' hb=>(HG.o w' hb).cell 0 _ rfl
 have c2:∀ w':G,zb W w'->w'.cell? ⟨gs,2,none⟩=some (O J S.ln):=fun w' hb=>(HG.o w' hb).cell 2 _ rfl
 have c4:∀ w':G,zb W w'->w'.cell? ⟨gs,4,none⟩=some (O J S.t):=fun w' hb=>(HG.o w' hb).cell 4 _ rfl
 have c8:∀ w':G,zb W w'->w'.cell? ⟨gs,8,none⟩=some (O J S.s):=fun w' hb=>(HG.o w' hb).cell 8 _ rfl
 have c9:∀ w':G,zb W w'->w'.cell? ⟨gs,9,none⟩=some (aB (some ⟨gm,0,none⟩) S.kn cm):=fun w' hb=>(HG.o w' hb).cell 9 _ rfl
 have c13:∀ w':G,zb W w'->w'.cell? ⟨gs,13,none⟩=some (E S.mu):=fun w' hb=>(HG.o w' hb).cell 13 _ rfl
 have c14:∀ w':G,zb W w'->w'.cell? ⟨gs,14,none⟩=some (E S.ms):=fun w' hb=>(HG.o w' hb).cell 14 _ rfl
 obtain⟨C,hC⟩:=aQ (#[O J S.kn,O J S.ln,O J S.e,O J S.t,O J S.a,O J S.b,O J S.o,O J S.s]:Array aE);have CL:U (∀ w':G,zb W w'->w'.rangeAt gs 1 C.toList):=⟨fun w' hb=>by rw[<-hC.o];exact(HG.o w' hb).lat⟩;have Ci:U ((aO.info? 37).map (·.size)=some C.toList.length):=⟨by rw[<-hC.o];kernel_rfl⟩;rw[hC.o]at HMk0;obtain⟨Yq,hY⟩:=aQ (tY S n);obtain⟨Wv,hWv⟩:=aQ (tW S n);obtain⟨sum,hsm⟩:=aQ (cT S n);obtain⟨c,hc⟩:=aQ (tC S n);obtain⟨tc,htc⟩:=aQ (aS S.ζ 8 (tC S n));have htc2:aS S.ζ 8 c=tc:=by rw[<-hc.o];exact htc.o
 rw[htc.o];simp only[hY.o,hWv.o,hsm.o,hc.o,htc2]at HMk0 HRw0 HPh0 HSh0 HBa0 HTh0 ⊢;obtain⟨Fc,hFc⟩:=aQ (FL J 256 c);rw[hFc.o]at HBa0 HTh0;obtain⟨mu,hmu⟩:=aP S.mu;obtain⟨kn,hkn⟩:=aP S.kn;obtain⟨ln,hln⟩:=aP S.ln;obtain⟨sg,hsg⟩:=aP S.s;obtain⟨st,hst⟩:=aP S.t;obtain⟨ms,hmss⟩:=aP S.ms;rw[hmu]at HSh0 c13 hms;rw[hkn]at HRw0 HPh0 c9 ⊢;rw[hln]at HMk0 HRw0 c2 hmul ⊢;rw[hsg]at c8 hl4 hl4t;rw[hst]at HBa0 c4;rw[hmss]at HMk0 c14;have hcat:¬ 9223372036854775807<mu.size+Hi.size:=by omega
 clear hms;have HMk:=D HMk0;have HRw:=D HRw0;have HPh:=D HPh0;have HSh:=D HSh0;have HBa:=D HBa0;have HTh:=D HTh0;have hlnn : 1<=ln/\ln<=8:=by omega
 have hknn : 1<=kn/\kn<=8:=by omega
 have HMXf:U (∀ w':G,zb W w'->MX w' (aB (some ⟨gm,0,none⟩) kn cm) kn (fun _=>ln) (qX S.rho)):=⟨fun w' hb=>by
  have:=(HG.o w' hb).mat;rw[hkn,hln]at this;exact this⟩
 clear hsize hW r0 b0 hWs HZ hP H hHi hsum hss hO ha ho hs hbb hk hl hlam hHs hfn hf1 hC hY hWv hsm hc htc htc2 hmu hkn hln hsg hst hmss HMk0 HRw0 HPh0 HSh0 HBa0 HTh0 hlam2;go_enter Tryz.func165,Tryz.ntmps165;go_wp2_with (rw[HW.o]);refine xa4 (W.heap.size) 23 [0,1,2,3,4,5,6,7,8,9,10,11,12,13,14,15,16,17,18,19,20,21,22] (by kernel_rfl) rfl rfl (by decide) (fun hS ops HO=>?_);simp only[jT,fa,jF,jL];iterate 3 (refine zU hS ?_)
 refine zD c0 hS ?_;refine zU hS ?_;refine gP (by rw[<-HO.o];kernel_rfl) (fun _ _ _ _ h=>h) 34 _ rfl gt rfl 34 T _ (fun w1 h1=>(HG.o w1 h1).tab) zY rfl HTz.o hS ?_;simp only[aM,pa,pb,pc];iterate 3 (refine zU hS ?_)
 refine hk_m (by rw[<-HO.o];kernel_rfl) (fun _ _ _ _ h=>h) 37 _ rfl gs 1 rfl C _ CL.o zZ rfl Ci.o hS ?_;simp only[aM,pa,pb,pc];iterate 3 (refine zU hS ?_)
 refine zD c14 hS ?_;iterate 4 (refine zU hS ?_)
 refine zD c2 hS ?_;iterate 2 (refine zU hS ?_)
 refine zS fun K hK=>?_
 go_simp
 refine(HMk.o _ (GP.o _ hS)).mono ?_;rintro x w2 ⟨⟨vy,rfl,hy⟩,hb2⟩;have h2:=hS.trans (hb2.mono hS.size);obtain⟨gy,cy,rfl,hgy⟩:=gD hy;refine hK _ _ h2 ?_;clear hK K;try simp only[aM,pa,pb,pc]
 refine zU h2 ?_;refine zN ?_;have E2:U (zb W w2):=⟨h2⟩;have HY:=D hy;have L2:U (W.heap.size<=w2.heap.size):=⟨h2.size⟩;clear hS HO hb2 h2 hy hgy;go_wp2_with fail;have U0:∀ w':G,zb w2 w'->zb W w':=fun w' hb=>E2.o.trans (hb.mono L2.o)
 refine xa4 (w2.heap.size) 13 [0,1,2,3,4,5,6,7,8,9,10,11,12] (by kernel_rfl) rfl rfl (by decide) (fun hS ops HO=>?_);simp only[jT,fa,jF,jL];iterate 3 (refine zU hS ?_)
 refine zD (fun w h=>c0 w (U0 w h)) hS ?_;refine zU hS ?_;refine gP (by rw[<-HO.o];kernel_rfl) (fun _ _ _ _ h=>h) 34 _ rfl gt rfl 34 T _ (fun w1 h1=>(HG.o w1 (U0 w1 h1)).tab) zY rfl HTz.o hS ?_;simp only[aM,pa,pb,pc];iterate 3 (refine zU hS ?_)
 refine zD (fun w h=>c9 w (U0 w h)) hS ?_;refine zU hS ?_;refine zS fun K hK=>?_
 go_simp
 refine(HRw.o _ _ _ (HMXf.o _ (U0 _ hS)) (HY.o.later hS)).mono ?_;rintro x w3 ⟨⟨vw,rfl,hw⟩,hb3⟩;have h3:=hS.trans (hb3.mono hS.size);obtain⟨gw,cw,rfl,hgw⟩:=gD hw;refine hK _ _ h3 ?_;clear hK K;try simp only[aM,pa,pb,pc]
 refine zU h3 ?_;refine zN ?_;have E3:U (zb W w3):=⟨U0 _ h3⟩;have HYy:=D (HY.o.later h3);have HWw:=D hw;have L3:U (W.heap.size<=w3.heap.size):=⟨E3.o.size⟩;clear hS HO hb3 h3 hw hgw U0 HY;go_wp2_with fail;have U0:∀ w':G,zb w3 w'->zb W w':=fun w' hb=>E3.o.trans (hb.mono L3.o)
 refine xa4 (w3.heap.size) 20 [0,1,2,3,4,5,6,7,8,9,12,13,14,15,16,17,10,11,18,19] (by kernel_rfl) rfl rfl (by decide) (fun hS ops HO=>?_);simp only[jT,fa,jF,jL];iterate 3 (refine zU hS ?_)
 refine zD (fun w h=>c0 w (U0 w h)) hS ?_;iterate 3 (refine zU hS ?_)
 refine zD (fun w h=>c13 w (U0 w h)) hS ?_;iterate 6 (refine zU hS ?_)
 refine zD (fun w h=>c8 w (U0 w h)) hS ?_;refine zU hS ?_;refine zS fun K hK=>?_
 go_simp
 refine(HPh.o _ _ _ (HG.o _ (U0 _ hS)) (HWw.o.later hS)).mono ?_;rintro x w4 ⟨rfl,hb4⟩;have h4:=hS.trans (hb4.mono hS.size);refine hK _ _ h4 ?_;clear hK K;try simp only[aM,pa,pb,pc]
 refine zU h4 ?_;refine zS fun K hK=>?_
 go_simp
 refine(HSh.o _ (GP.o _ (U0 _ h4)) (HG.o _ (U0 _ h4)).tab).mono ?_;rintro x w5 ⟨rfl,hb5⟩;have h5:=h4.trans (hb5.mono h4.size);refine hK _ _ h5 ?_;clear hK K;try simp only[aM,pa,pb,pc]
 refine zU h5 ?_;refine zN ?_;have E5:U (zb W w5):=⟨U0 _ h5⟩;have HY5:=D (HYy.o.later h5);have HW5:=D (HWw.o.later h5);have L5:U (W.heap.size<=w5.heap.size):=⟨E5.o.size⟩;clear hS HO hb4 h4 hb5 h5 U0 HYy HWw;go_wp2_with fail;have U0:∀ w':G,zb w5 w'->zb W w':=fun w' hb=>E5.o.trans (hb.mono L5.o)
 refine xa4 (w.heap.size) 25 [0,1,2,3,4,5,6,7,8,9,10,11,12,13,14,15,16,17,18,19,20,21,22,23,24] (by kernel_rfl) rfl rfl (by decide) (fun hS ops HO=>?_);simp only[jT,fa,jF,jL];have V0:∀ w':G,aF w.heap.size w5 w'->w'.cell? ⟨gs,0,none⟩=some (aC (some ⟨gt,0,none⟩))/\w'.cell? ⟨gs,4,none⟩=some (O J st)/\w'.heap[gt]? = some (Y T 34 (0,0)):=fun w' hb=>by
  have h5:=U0 w5 (iR _ _);have l1:=HH.o.lts;have l2:=HH.o.ltt;exact⟨(hb.cell (p:=⟨gs,0,none⟩) l1).trans (c0 _ h5),(hb.cell (p:=⟨gs,4,none⟩) l1).trans (c4 _ h5),(hb.block _ l2).trans (HG.o _ h5).tab⟩
 iterate 6 (refine zU hS ?_)
 (refine fY (v:=?_) (by rw[<-HO.o];kernel_rfl) (fun _ _ _ h=>h) ?_ hS ?_;rotate_left;focus (intro w9 h9;have hc:=(V0 w9 h9).1;go_simp;first | done | with_reducible rfl);all_goals skip)
 simp only[aM,pa,pb,pc];refine zU hS ?_;refine gP (by rw[<-HO.o];kernel_rfl) (fun _ _ _ _ h=>h) 34 _ rfl gt rfl 34 T _ (fun w1 h1=>(V0 w1 h1).2.2) zY rfl HTz.o hS ?_;simp only[aM,pa,pb,pc];iterate 3 (refine zU hS ?_)
 (refine fY (v:=?_) (by rw[<-HO.o];kernel_rfl) (fun _ _ _ h=>h) ?_ hS ?_;rotate_left;focus (intro w9 h9;have hc:=(V0 w9 h9).1;go_simp;first | done | with_reducible rfl);all_goals skip)
 simp only[aM,pa,pb,pc];refine zU hS ?_;refine gP (by rw[<-HO.o];kernel_rfl) (fun _ _ _ _ h=>h) 34 _ rfl gt rfl 34 T _ (fun w1 h1=>(V0 w1 h1).2.2) zY rfl HTz.o hS ?_;simp only[aM,pa,pb,pc];iterate 5 (refine zU hS ?_)
 (refine fY (v:=?_) (by rw[<-HO.o];kernel_rfl) (fun _ _ _ h=>h) ?_ hS ?_;rotate_left;focus (intro w9 h9;have hc:=(V0 w9 h9).2.1;go_simp;first | done | with_reducible rfl);all_goals skip)
 simp only[aM,pa,pb,pc];have hwl:w.heap.size<=w5.heap.size:=jJ B0.o.size L5.o;have hd5:zb w5 w5.drew:=(iR _ _).drew;refine zS fun K hK=>?_
 go_simp
 refine(HBa.o _ (GP.o _ (U0 _ hd5))).mono ?_;rintro x w6 ⟨rfl,hb6⟩;have h6:=hS.trans (hb6.mono (jJ hwl hS.size));have k6:=zbm hd5 hb6;refine hK _ _ h6 ?_;clear hK K;try simp only[aM,pa,pb,pc]
 refine zS fun K hK=>?_
 go_simp
 refine(HTh.o _).mono ?_;rintro x w7 ⟨rfl,hb7⟩;have h7:=h6.trans (hb7.mono (jJ hwl h6.size));have k7:=zbm k6 hb7;refine hK _ _ h7 ?_;clear hK K;try simp only[aM,pa,pb,pc]
 refine hk_b (by rw[<-HO.o];kernel_rfl) (fun _ _ _ _ h=>h) (I (AT (aB (some ⟨gy,0,none⟩) ln cy) (aB (some ⟨gw,0,none⟩) kn cw) sum tc)) (fun w1=>xuh _ rfl rfl rfl rfl rfl _ (xtn _ _ _ _ _ _ _ _) w1) h7 ?_;simp only[aM,pa,pb,pc];have R7:w7.heap[w.heap.size]? = some (Y z 185 (0,0)):=(k7.block _ (iZ (bI R0.o) L5.o)).trans ((E5.o.block _ (bI R0.o)).trans R0.o);obtain⟨R,HR⟩:=aQ (AT (aB (some ⟨gy,0,none⟩) ln cy) (aB (some ⟨gw,0,none⟩) kn cw) sum tc);have Ri:(aO.info? 185).map (·.size)=some R.size:=by rw[<-HR.o,xff];exact infoAt
 have Ro:R.all (·.oneCell')=true:=by rw[<-HR.o];exact at_one _ _ _ _ _ _ _ _
 have Rz:z.size=R.size:=by rw[Hzs.o,<-HR.o,xff]
 rw[HR.o];refine zS fun K hK=>?_
 refine wp_store_row 185 _ _ rfl w.heap.size R rfl rfl 185 _ R7 Ri Rz Ro ?_;have h8:=h7.trans (below_setRow (B:=w.heap.size) w7 w.heap.size R (iM _));refine hK _ _ h8 ?_;clear hK K;refine zN ?_;go_wp2_with fail;refine iV (v:=I R) (jC rfl _ _ w.heap.size 185 _ (0,0) _ rfl (jD _ _ _ _ _ _ R7) Tryz.underlying185 rfl Ri) rfl ?_;have q1:=dG.xbm (xgz (HY5.o.later k7) (show w.heap.size<W.heap.size by have:=HWs.o;omega) R);have q2:=dG.xbm (xgz (HW5.o.later k7) (iZ (show w.heap.size<W.heap.size by have:=HWs.o;omega) L2.o) R);exact⟨⟨gy,cy,gw,cw,by rw[HR.o],q1,q2⟩,(B0.o.trans (E5.o.mono B0.o.size)).trans h8⟩
end mgc
namespace mge
open arr mem bD aT aV bS cY bF bQ dD bM bZ eH cZ bU bT dN dW eM cV aR mgd
theorem xsy{T:Array aE}{S:Sg}(Z:Nat->Int)(n gs gt gm cm ga ca gb cb' gl cl gn gy cy gw cw:Nat)(w:G)(hO:OKS T Z S)(H:SGN T S gs gt gm cm ga ca gb cb' gl cl w)
 (hA:w.heap[gn]? = some (Y (AT (aB (some ⟨gy,0,none⟩) S.ln cy) (aB (some ⟨gw,0,none⟩) S.kn cw) (cT S n) (aS S.ζ 8 (tC S n))) 185 (0,0))) (HYy:Holds w 0 (aB (some ⟨gy,0,none⟩) S.ln cy) S.ln (tY S n)):
 aD aO 166 #[aC (some ⟨gs,0,none⟩),aC (some ⟨gn,0,none⟩)] w fun e w'=>(∃ v,e=.returned (.tuple #[v,.bool (decide (bE.eW (tZ S n) S.ln<S.a-S.t*S.e))])/\Holds w' w.heap.size v S.ln (tZ S n))/\zb w w':=by
 obtain⟨hk,hl,he,ht,ha,hbb,ho,hs⟩:=xi3 hO;obtain⟨m,hm⟩:=aP (S.t*S.e);have hm2 : 0<=m/\m<=256:=by rw[<-hm];rcases he with h | h<;>rw[h]<;>omega
 have hmw:J.wrap (S.t*S.e)=m:=by rw[hm,iN];omega
 have hpol:=xno hA;have c0n:w.cell? ⟨gn,0,none⟩=some (aB (some ⟨gy,0,none⟩) S.ln cy):=aZ hA rfl;have lgn:=bI hA;obtain⟨gA,cA,eA,hgA⟩:=gD H.ha;have HPr0:∀ r,r<S.ln->∀ w1:G,zb w w1->aD aO 186 #[aC (some ⟨gs,0,none⟩),aC (some ⟨gn,3,none⟩),aC (some ⟨ga,r*256,none⟩)] w1 (zB w1 (I (FL J 256 (one S.ζ (tC S n) (S.A r))))):=fun r hr w1 hb=>by
  have h1:=H.later hb;rw[<-mul_one];have h2:=mga.xma (T:=T) Z gs gt gn 3 ga (r*256) (aS S.ζ 8 (tC S n)) (aS S.ζ 8 (S.A r)) w1 hO.zt (h1.cell 0 _ rfl) h1.tab (xa3 hpol lgn hb) (xa8 h1.ha r hr) h1.lts (iZ lgn hb.size) (by
   obtain⟨g9,c9,e9,-,h9,-⟩:=h1.ha;injection e9 with e9 _ _
   iterate 2 (injection e9 with e9)
   rw[e9];exact h9)
  rw[<-hO.ez]at h2;exact h2
 have HAd0:∀ r,∀ w1:G,aD aO 80 #[I (FL J 256 (tY S n r)),I (FL J 256 (one S.ζ (tC S n) (S.A r)))] w1 (zB w1 (I (FL J 256 (tZ S n r)))):=fun r w1=>fadd.xdr _ _ w1
 have HMr0:∀ w1:G,zb w w1->aD aO 187 #[aC (some ⟨gs,0,none⟩)] w1 (zB w1 (O J m)):=fun w1 hb=>by
  have h1:=H.later hb;refine(mga.xpa gs S.t S.e m w1 (h1.cell 4 _ rfl) (h1.cell 3 _ rfl) hmw).mono ?_;rintro e w' ⟨rfl,rfl⟩;exact⟨rfl,(iR _ _).drew⟩
 obtain⟨i0,hi,hz0,hz1,hz2⟩:=iC bX;obtain⟨hz,hsize⟩:=iY aV.aX;obtain⟨z,HZ⟩:=aQ (FL J 256 fun _=>0);rw[HZ.o]at hz hz0;have HI:=D (jA hi (jA hz0 (jA hz1 hz2)));have Hsize:=D hsize;have HG:=D H;have HYv:=D HYy;have hgy:gy<w.heap.size:=by
  obtain⟨g9,c9,e9,-,h9,-⟩:=HYy;injection e9 with e9 _ _
  iterate 2 (injection e9 with e9)
  rw[e9];exact h9
 have HGy:=D hgy;have c10:w.cell? ⟨gs,10,none⟩=some (aB (some ⟨ga,0,none⟩) S.ln ca):=H.cell 10 _ rfl;have c5:w.cell? ⟨gs,5,none⟩=some (O J S.a):=H.cell 5 _ rfl;have lgs:=H.lts;obtain⟨lim,hlim⟩:=aP (S.a-m);have hlimw:J.wrap (S.a-m)=lim:=by rw[hlim,iN];omega
 rw[hm,hlim];obtain⟨al,hal⟩:=aP S.a;rw[hal]at c5 hlimw;obtain⟨ln,hln⟩:=aP S.ln;rw[hln]at HPr0 c0n c10 HYv hl ⊢;obtain⟨zz,hzz⟩:=aQ (tZ S n);obtain⟨yy,hyy⟩:=aQ (tY S n);obtain⟨pp,hpp⟩:=aQ (fun r=>one S.ζ (tC S n) (S.A r));have hpp2:∀ r,one S.ζ (tC S n) (S.A r)=pp r:=fun r=>by rw[<-hpp.o]
 simp only[hpp2]at HPr0 HAd0;simp only[hzz.o,hyy.o]at HAd0 HYv ⊢;obtain⟨X,HX⟩:=aQ (bE.eW zz ln);rw[HX.o];have HPr:=D HPr0;have HAd:=D HAd0;have HMr:=D HMr0;have C0n:=D c0n;have C10:=D c10;have C5:=D c5;have Lgs:=D lgs;have Lgn:=D lgn;have hln8:=hl.2;clear hi hz0 hz1 hz2 hsize hk hl he ht ha hbb ho hs hm hm2 hmw hpol lgn eA hgA HPr0 HAd0 HMr0 HYy hgy c10 c5 lgs hlim hal hln hzz hyy hpp hpp2 hA H hO;go_enter Tryz.func166,Tryz.ntmps166;go_wp2_with (at_make;refine lY _ rfl (.tmp 12) (.tmp 12) 44 rfl w.heap.size 76 i0 (I z) 256 Tryz.underlying44 HI.o.1 HI.o.2.1 HI.o.2.2.1 J J ln ln ln rfl rfl rfl rfl (by rw[HI.o.2.2.2];omega) (by unfold maxLen;omega) (iM _) ?_);clear c0n;intro w3 hown hgr;obtain⟨hrow,hb3⟩:=xbn HZ.o hown hgr;obtain⟨go,hgo⟩:=aP w.heap.size;rw[hgo]at hrow ⊢;have A3:U (At go (RW ln (fst zz 0)) 76 w3 w3):=⟨by rw[xbl];exact At.refl hrow⟩;have B3:U (zb w w3):=⟨hb3⟩;have Hgo:=D hgo;clear hown hgr hrow hb3 hgo;go_wp2_with fail;go_loopw [16] (fun iv wr=>∃ r:Nat,r<=ln/\iv=O J (r:Int)/\U (At go (RW ln (fst zz r)) 76 w3 wr)) (fun iv _=>ln-(aG iv).toNat)
 case atStart=>exact⟨0,iX _,rfl,A3⟩
 case round=>
  clear A3;obtain⟨r,hr,rfl,A0⟩:=hrel;have BU:U (zb w wr):=⟨B3.o.trans (A0.o.below B3.o.size (mS Hgo.o))⟩;by_cases hlt:r<ln
  ·have hrz:(r:Int)<(ln:Int):=by omega
   have hr8:r<8:=by omega
   have hrg:=xa8 (HYv.o.later BU.o) r hlt;have HPq:U (∀ w1:G,zb wr w1->_):=⟨fun w1 hb=>HPr.o r hlt w1 (BU.o.trans (hb.mono BU.o.size))⟩;have HAq:=D (HAd.o r);obtain⟨F,HF⟩:=aQ (FL J 256 (yy r));obtain⟨Gq,HGG⟩:=aQ (FL J 256 (pp r));obtain⟨Eq,HE⟩:=aQ (FL J 256 (zz r));obtain⟨o6,ho6⟩:=aP (r*256);rw[HF.o,ho6]at hrg;rw[ho6,HGG.o]at HPq;rw[HF.o,HGG.o,HE.o]at HAq;have Hrg:U (∀ w':G,zb wr w'->w'.rangeAt gy o6 F.toList):=⟨fun w' hb'=>xa3 hrg (iZ HGy.o BU.o.size) hb'⟩;have Fi:=zfi HF Hsize.o;have q0:∀ d os,(Go.Sort.grow (redrawn wr d) os).cell? ⟨gn,0,none⟩=some (aB (some ⟨gy,0,none⟩) ln cy):=fun d os=>oP ((BU.o.cell (p:=⟨gn,0,none⟩) Lgn.o).trans C0n.o) d os
   have q1:∀ d os,(Go.Sort.grow (redrawn wr d) os).cell? ⟨gs,10,none⟩=some (aB (some ⟨ga,0,none⟩) ln ca):=fun d os=>oP ((BU.o.cell (p:=⟨gs,10,none⟩) Lgs.o).trans C10.o) d os
   have Hup:U (ups (fst zz r) r (zz r)=fst zz (r+1)):=⟨xbq zz r⟩;have Hlt:=D hlt;have Ho6:=D ho6;clear hrg hlt HF HGG;go_wp2_with fail;refine eQ.xb8 21 (by kernel_rfl) (by kernel_rfl) ?_;iterate 8 (quiet_step (skip))
   refine xb2 rfl 76 _ rfl gy o6 rfl F.toList _ (fun w' hC=>Hrg.o w' (krw.xa5 hC)) zX rfl Fi.o ?_;iterate 10 (quiet_step (skip))
   quiet_step (exact jI (HPq.o _ (jX _ _ _)));quiet_step (exact jI (HAq.o _));refine kY ?_;intro wn hC;have hbn:zb wr wn:=krw.xa5 hC;have A6:U (At go (RW ln (fst zz r)) 76 w3 wn):=⟨A0.o.later hbn⟩;clear hC hbn A0 HPq HAq Hrg q0 q1;simp only[iW,jK];go_wp2_with ((with_reducible refine xci A6 HE.o Hlt.o Ho6.o rfl _ _ rfl rfl ?hx ?hy ?_);(case hx=>exact rfl);(case hy=>exact rfl);intro w7 A7;rw[Hup.o]at A7);go_roundw
   case rel=>exact⟨r+1,by have:=Hlt.o;omega,by go_num,A7⟩
   case measure=>have:=Hlt.o;simp[aG];omega
  ·obtain rfl:r=ln:=by omega
   have HTt:U (Holds wr w.heap.size (aB (some ⟨go,0,none⟩) r r) r zz):=⟨xbp A0.o.row (by have:=Hgo.o;omega) (fun i hi=>xbk zz r i hi)⟩;have HSz:U (∀ w1:G,zb wr w1->aD aO 30 #[aB (some ⟨go,0,none⟩) r r] w1 (zB w1 (O J (bE.eW zz r)))):=⟨fun w1 hb=>by
    refine(fsize.xb9 go r r zz w1 (by omega) fun j hj i hi=>?_).mono ?_
    ·obtain⟨g9,c9,e9,-,-,h9⟩:=HTt.o.later hb;injection e9 with e9 _ _
     iterate 2 (injection e9 with e9)
     rw[e9,kI];exact h9 j hj i hi
    ·rintro e w' ⟨rfl,rfl⟩;exact⟨rfl,iR _ _⟩⟩
   rw[HX.o]at HSz;have HMq:U (∀ w1:G,zb wr w1->_):=⟨fun w1 hb=>HMr.o w1 (BU.o.trans (hb.mono BU.o.size))⟩;have q5:∀ d os,(Go.Sort.grow (redrawn wr d) os).cell? ⟨gs,5,none⟩=some (O J al):=fun d os=>oP ((BU.o.cell (p:=⟨gs,5,none⟩) Lgs.o).trans C5.o) d os
   clear A0 hlt;go_wp2_with fail;refine mA (by kernel_rfl) (by kernel_rfl) ?_;iterate 2 (quiet_step (skip))
   quiet_step (exact jI (HSz.o _ (jX _ _ _)));iterate 6 (quiet_step (skip))
   quiet_step (exact jI (HMq.o _ (jX _ _ _)));iterate 4 (quiet_step (skip))
   refine kY ?_;intro wn hC;have hbn:zb wr wn:=krw.xa5 hC;have HTn:=D (HTt.o.later hbn);have D9:=bK BU hbn;clear hC hbn q5 HTt;go_wp2_with fail;go_ret2;exact⟨⟨_,rfl,HTn.o⟩,D9.o⟩
end mge
end Go.Proofs.YtomphjajkkddkaaGreatDoor
