/-
  The statement MlverifySays (P14.1 to P14.3): whether any bytes are a signature of any message, by an
-/
import Derived.Test.YtomphjajkkddkaaGreatDoorZs24
import Derived.Test.YtomphjajkkddkaaGreatDoorZs30
import Derived.Test.YtomphjajkkddkaaGreatDoorZs31
import Derived.Test.YtomphjajkkddkaaGreatDoorZs03
import Derived.Test.YtomphjajkkddkaaGreatDoorZs02
import Derived.Test.YtomphjajkkddkaaGreatDoorZs18
import Derived.Test.YtomphjajkkddkaaGreatDoorZs04
import Derived.Test.YtomphjajkkddkaaGreatDoorZs01
set_option maxRecDepth 100000
set_option maxHeartbeats 16000000
set_option linter.unusedSimpArgs false
set_option linter.unusedVariables false
open Go Go.RowKit
open Go renaming World->G,Calls->aD,Value->aE,TypeId->aH,Program->aI
open Go.RowKit renaming Below->aF
open Go.Value renaming int->O,agg->I,string->E,tuple->aA,slice->aB
open Go.IntKind renaming i64->J
open Go.Obj renaming cells->Y
open Go.Act renaming put->aM
open Go.Proofs.Tryz renaming prog->aO
namespace Go.Proofs.YtomphjajkkddkaaGreatDoor
namespace l14s
open arr mem bD aT aV bS cV aR bT bZ mlkd eH tabm fB tabv built rset mlvr
open bF (bP set0)
def SP(ok:Prop)(w:G)(v:aE)(m:Nat)(q:Nat->Nat->Int):Prop:=(ok/\Holds w 0 v m q)\/(¬ ok/\v=aB none 0 0)
theorem SP.later{ok:Prop}{w w':G}{v:aE}{m:Nat}{q:Nat->Nat->Int}(h:SP ok w v m q)(hb:zb w w'):SP ok w' v m q:=by
 rcases h with ⟨h1,h2⟩ | h
 ·exact kW ⟨h1,h2.later hb⟩
 ·exact kO h
theorem xw3{ok:Prop}(v1 v2:aE)(m:Nat)(q:Nat->Nat->Int)(w:G)(hm:m<=1000)(h1:SP ok w v1 m q)(h2:SP ok w v2 m q):
 aD aO 15 #[v1,v2] w (zB w (.bool true)):=by
 rcases h1 with ⟨k1,q1⟩ | ⟨k1,rfl⟩
 ·rcases h2 with ⟨-,q2⟩ | ⟨k2,-⟩
  ·exact lpolg.xym v1 v2 m 0 0 q w hm q1 q2
  ·exact absurd k1 k2
 ·rcases h2 with ⟨k2,-⟩ | ⟨-,rfl⟩
  ·exact absurd k2 k1
  ·exact lpolg.xv5 w
theorem parts(sg:ByteArray)(kn ln:Nat)(a o s:Int):∃ (S0:ByteArray) (c0:Int),∀ (w:G) (B:Nat) (v:aE),PV w B sg kn ln a o s v->∃ v1 v2,v=aA #[E S0,v1,v2,O J c0]/\SP (okV sg kn ln a o s) w v1 ln (vZ sg a s)/\SP (okV sg kn ln a o s) w v2 kn (vH sg ln a o s):=by
 by_cases h:okV sg kn ln a o s
 ·refine⟨vS sg s,0,fun w B v hv=>?_⟩;rcases hv with ⟨-,v1,v2,rfl,q1,q2⟩ | ⟨h2,-⟩
  ·exact⟨v1,v2,rfl,kW ⟨h,dG.xbm q1⟩,kW ⟨h,dG.xbm q2⟩⟩
  ·exact absurd h h2
 ·refine⟨⟨#[]⟩,3,fun w B v hv=>?_⟩;rcases hv with ⟨h2,-⟩ | ⟨-,rfl⟩
  ·exact absurd h2 h
  ·exact⟨_,_,rfl,kO ⟨h,rfl⟩,kO ⟨h,rfl⟩⟩
theorem far(wh wd:Int)(pk x c sg:ByteArray)(w:G)(h : 5000<pk.size\/¬ 5000<pk.size/\500<x.size\/¬ 5000<pk.size/\¬ 500<x.size/\400<c.size\/¬ 5000<pk.size/\¬ 500<x.size/\¬ 400<c.size/\5000<sg.size)(hP:Gp w):
 aD aO 3 #[I #[E pk,E x,E c,E sg],O J wh,O J wd] w (zB w (.bool true)):=by
 have hq:(5000:Int)<(pk.size:Int)\/¬ (5000:Int)<(pk.size:Int)/\(500:Int)<(x.size:Int)\/¬ (5000:Int)<(pk.size:Int)/\¬ (500:Int)<(x.size:Int)/\(400:Int)<(c.size:Int)\/¬ (5000:Int)<(pk.size:Int)/\¬ (500:Int)<(x.size:Int)/\¬ (400:Int)<(c.size:Int)/\(5000:Int)<(sg.size:Int):=by omega
 obtain⟨W,hW⟩:=aP (w.alloc (Y #[E pk,E x,E c,E sg] 22));obtain⟨r0,hWs,bW⟩:=aV.one hW;have C0:U (∀ w',zb W w'->w'.cell? ⟨w.heap.size,0,none⟩=some (E pk)):=⟨fun w' hb=>aZ ((hb.block _ (bI r0)).trans r0) rfl⟩;have C1:U (∀ w',zb W w'->w'.cell? ⟨w.heap.size,1,none⟩=some (E x)):=⟨fun w' hb=>aZ ((hb.block _ (bI r0)).trans r0) rfl⟩;have C2:U (∀ w',zb W w'->w'.cell? ⟨w.heap.size,2,none⟩=some (E c)):=⟨fun w' hb=>aZ ((hb.block _ (bI r0)).trans r0) rfl⟩;have C3:U (∀ w',zb W w'->w'.cell? ⟨w.heap.size,3,none⟩=some (E sg)):=⟨fun w' hb=>aZ ((hb.block _ (bI r0)).trans r0) rfl⟩;have HW:=D hW;have BW:U (zb w W):=⟨bW⟩;have HAw:=D (fun (w1:G) (hb:zb W w1)=>vpw.xh6 w1 (hP.later (bW.trans (hb.mono bW.size))));clear hW r0 hWs bW hP h;rcases hq with h1 | ⟨h1,h2⟩ | ⟨h1,h2,h3⟩ | ⟨h1,h2,h3,h4⟩
 all_goals
  go_enter Tryz.func3,Tryz.ntmps3;go_wp2_with (rw[HW.o]);refine xa4 (W.heap.size) 12 [0,1,2,3,4,5,6,7,8,9,10,11] (by kernel_rfl) rfl rfl (by decide) (fun hS ops HO=>?_);simp only[jT,fa,jF,jL];refine zU hS ?_;refine zD C0.o hS ?_;refine zU hS ?_;refine zD C1.o hS ?_;refine zU hS ?_;refine zD C2.o hS ?_;refine zU hS ?_;refine zD C3.o hS ?_;iterate 4 (refine zU hS ?_)
  refine zN ?_;clear hS HO;go_wp2_with fail;refine(HAw.o _ (iR _ _).drew).mono ?_;rintro e w3 ⟨rfl,hb3⟩;have h3:zb W w3:=(iR _ _).drew.trans hb3;have B3:zb w w3:=BW.o.trans (h3.mono BW.o.size);go_wp2_with fail;go_ret;exact⟨rfl,B3⟩
theorem near(wh wd:Int)(j kn ln:Nat)(e t t2 a b o s:Int)(pk x c sg S0:ByteArray)(y1 y2:Bool)(k1 k2 c0:Int)(ok:Prop)(qz qh:Nat->Nat->Int)(w:G)(hpk:pk.size<=5000)(hx:x.size<=500)(hc:c.size<=400)(hsg:sg.size<=5000)(hP:Gp w)(hj:(IntKind.u64.wrap wh).tmod 4=(j:Int))(hj4:j<4)(hkn:kn<=1000)(hln:ln<=1000)
 (ht:((IntKind.u64.wrap wd).tmod 16=3/\∃ n:Nat,(IntKind.u64.wrap wd).tmod 64=(n:Int)/\n<64/\t2=1+(n:Int))\/((∃ n:Nat,(IntKind.u64.wrap wd).tmod 16=(n:Int)/\n≠3)/\t2=t))
 (HSt:∀ w1:G,aD aO 8 #[O J ((j+1:Nat):Int)] w1 (zB w1 (aA #[I (bO (kn:Int) (ln:Int) e t a b o s),O J 0])))
 (HV1:∀ w1:G,Gp w1->aD aO 9 #[I TA,I (bO (kn:Int) (ln:Int) e t2 a b o s),E pk,E x,E c,E sg] w1 (zB w1 (aA #[.bool y1,O J k1])))
 (HV2:∀ w1:G,aD aO 10 #[I TA,I (bO (kn:Int) (ln:Int) e t2 a b o s),E pk,E x,E c,E sg] w1 (zB w1 (aA #[.bool y1,O J k1])))
 (HI1:∀ w1:G,Gp w1->aD aO 11 #[I TA,I (bO (kn:Int) (ln:Int) e t2 a b o s),E pk,E x,E sg] w1 (zB w1 (aA #[.bool y2,O J k2])))
 (HI2:∀ w1:G,aD aO 12 #[I TA,I (bO (kn:Int) (ln:Int) e t2 a b o s),E pk,E x,E sg] w1 (zB w1 (aA #[.bool y2,O J k2])))
 (HP1:∀ w1:G,aD aO 13 #[I (bO (kn:Int) (ln:Int) e t2 a b o s),E sg] w1 fun y w'=>(∃ v1 v2,y=.returned (aA #[E S0,v1,v2,O J c0])/\SP ok w' v1 ln qz/\SP ok w' v2 kn qh)/\zb w1 w')
 (HP2:∀ w1:G,aD aO 14 #[I (bO (kn:Int) (ln:Int) e t2 a b o s),E sg] w1 fun y w'=>(∃ v1 v2,y=.returned (aA #[E S0,v1,v2,O J c0])/\SP ok w' v1 ln qz/\SP ok w' v2 kn qh)/\zb w1 w'):
 aD aO 3 #[I #[E pk,E x,E c,E sg],O J wh,O J wd] w (zB w (.bool true)):=by
 have HA:=D (fun w1 hg=>vpw.xh6 w1 hg);have HPo:=D (fun v1 v2 m q w1=>xw3 (ok:=ok) v1 v2 m q w1);have HP:=D hP;obtain⟨hz,hsize⟩:=iY built.dI;obtain⟨Zt,HZ⟩:=aQ TZ;rw[HZ.o]at hz;have HZs:U (Zt.size=465):=⟨by rw[<-HZ.o];exact xcc⟩;obtain⟨hzl,hsizel⟩:=iY rset.gY;obtain⟨Zl,HZl⟩:=aQ set0;rw[HZl.o]at hzl;have HZls:U (Zl.size=8):=⟨by rw[<-HZl.o];rfl⟩;obtain⟨T,HT⟩:=aQ TA;simp only[HT.o]at HV1 HV2 HI1 HI2;have HTs:U (T.size=465):=⟨by rw[<-HT.o];exact xdn⟩;have HTo:U (T.all (·.oneCell')=true):=⟨by rw[<-HT.o];exact xgd⟩;have HTz:=zsz HTs hsize;have Hmk:U (∀ w1:G,aD aO 7 #[] w1 (zB w1 (I T))):=⟨fun w1=>by rw[<-HT.o];exact rmake.xln w1⟩;obtain⟨M,HM⟩:=aQ ((bO (kn:Int) (ln:Int) e t2 a b o s):Array aE);have HML:U (((bO (kn:Int) (ln:Int) e t a b o s):Array aE).setIfInBounds 3 (O J t2)=M):=⟨by rw[<-HM.o];rfl⟩;have HMz:U ((aO.info? 37).map (·.size)=some M.size):=⟨by rw[<-HM.o];exact hsizel⟩;simp only[HM.o]at HV1 HV2 HI1 HI2 HP1 HP2;obtain⟨L,HL⟩:=aQ ((bO (kn:Int) (ln:Int) e t a b o s):Array aE);simp only[HL.o]at HSt HML;have HLs:U (L.size=8):=⟨by rw[<-HL.o];rfl⟩;have HL3:U (L[3]? = some (O J t)):=⟨by rw[<-HL.o];rfl⟩;have HLM:U (t2=t->L=M):=⟨fun h=>by rw[<-HL.o,<-HM.o,h]⟩;have HLo:U (L.all (·.oneCell')=true):=⟨by rw[<-HL.o];simp[bO,Value.oneCell']⟩;have HLz:=zsz HLs hsizel;have HSet:=D HSt;have hv1:=D HV1;have hv2:=D HV2;have hi1:=D HI1;have hi2:=D HI2;have hp1:=D HP1;have hp2:=D HP2;have f1:J.wrap (j:Int)=(j:Int):=bB;have f2:J.wrap (1+(j:Int))=((j+1:Nat):Int):=bB
 have z1:¬ (5000:Int)<(pk.size:Int):=by omega
 have z2:¬ (500:Int)<(x.size:Int):=by omega
 have z3:¬ (400:Int)<(c.size:Int):=by omega
 have z4:¬ (5000:Int)<(sg.size:Int):=by omega
 have Ht:=D ht;have Hkn:=D hkn;have Hln:=D hln;obtain⟨W,hW⟩:=aP (w.alloc (Y #[E pk,E x,E c,E sg] 22));obtain⟨r0,hWs,bW⟩:=aV.one hW;have C0:U (∀ w',zb W w'->w'.cell? ⟨w.heap.size,0,none⟩=some (E pk)):=⟨fun w' hb=>aZ ((hb.block _ (bI r0)).trans r0) rfl⟩;have C1:U (∀ w',zb W w'->w'.cell? ⟨w.heap.size,1,none⟩=some (E x)):=⟨fun w' hb=>aZ ((hb.block _ (bI r0)).trans r0) rfl⟩;have C2:U (∀ w',zb W w'->w'.cell? ⟨w.heap.size,2,none⟩=some (E c)):=⟨fun w' hb=>aZ ((hb.block _ (bI r0)).trans r0) rfl⟩;have C3:U (∀ w',zb W w'->w'.cell? ⟨w.heap.size,3,none⟩=some (E sg)):=⟨fun w' hb=>aZ ((hb.block _ (bI r0)).trans r0) rfl⟩;have HW:=D hW;have BW:U (zb w W):=⟨bW⟩;clear HV1 HV2 HI1 HI2 HP1 HP2 HSt HT HL HM hsize hsizel HZ HZl hP hpk hx hc hsg hW r0 hWs bW ht hkn hln;go_enter Tryz.func3,Tryz.ntmps3;go_wp2_with (rw[HW.o]);refine xa4 (W.heap.size) 12 [0,1,2,3,4,5,6,7,8,9,10,11] (by kernel_rfl) rfl rfl (by decide) (fun hS ops HO=>?_);simp only[jT,fa,jF,jL];refine zU hS ?_;refine zD C0.o hS ?_;refine zU hS ?_;refine zD C1.o hS ?_;refine zU hS ?_;refine zD C2.o hS ?_;refine zU hS ?_;refine zD C3.o hS ?_;iterate 4 (refine zU hS ?_)
 refine zN ?_;clear hS HO;go_wp2_with fail;refine(Hmk.o _).mono ?_;rintro y w1 ⟨rfl,hb1'⟩;have hb1:zb W w1:=(iR _ _).drew.trans hb1';obtain⟨W1,hW1⟩:=aP (w1.alloc (Y T 34));obtain⟨r1,hs1',b1⟩:=aV.one hW1;have HW1:=D hW1;have E1:U (zb w W1):=⟨BW.o.trans ((hb1.trans (b1.mono hb1.size)).mono BW.o.size)⟩;have R1:=D r1;clear hb1 hb1' hW1 r1 hs1' b1;go_wp2_with (first
  | (refine fV rfl 34 _ _ rfl _ rfl rfl HTz.o (by rw[HTs.o];exact HZs.o) HTo.o rfl ?_)
  | (rw[HW1.o]))
 refine(HSet.o _).mono ?_;rintro y w2 ⟨rfl,hb2⟩;obtain⟨W2,hW2⟩:=aP (w2.alloc (Y L 37));obtain⟨r2,hs2',b2⟩:=aV.one hW2;have HW2:=D hW2;have h12:=zbm hb2 b2;have l2:W1.heap.size<=w2.heap.size:=hb2.size;obtain⟨g,hg⟩:=aP w2.heap.size;rw[hg]at r2 l2;have Hg:=D hg;have H12:=D h12;have R2:=D r2;have Lg:=D l2;clear hb2 hW2 r2 hs2' b2 h12 l2 hg;have HK:U (∀ W3:G,aF g W2 W3->W3.heap[g]? = some (Y M 37 (0,0))->zb w W3/\(∀ w':G,zb W3 w'->w'.heap[w1.heap.size]? = some (Y T 34 (0,0))/\w'.heap[g]? = some (Y M 37 (0,0))/\Gp w')):=⟨fun W3 h3 r3=>by
  have hg1:W1.heap.size<=g:=Lg.o;have h13:zb W1 W3:=H12.o.trans (h3.mono hg1);have h03:zb w W3:=E1.o.trans (h13.mono E1.o.size);refine⟨h03,fun w' hb=>⟨((h13.trans (hb.mono h13.size)).block _ (bI R1.o)).trans R1.o,(hb.block _ (bI r3)).trans r3,HP.o.later (h03.trans (hb.mono h03.size))⟩⟩⟩
 have q1:(S0.toList==S0.toList)=true:=BEq.rfl;have Q1:=D q1;clear q1;rcases Ht.o with ⟨h16,n,h64,hn,rfl⟩ | ⟨⟨n,h16,hn3⟩,h3⟩
 ·obtain⟨W3,hW3⟩:=aP (W2.setCell ⟨g,3,none⟩ (O J (1+(n:Int))));have b3:aF g W2 W3:=by rw[<-hW3];exact Below.setCell (p:=⟨g,3,none⟩) (iR g W2) (iM _) _
  have r3:W3.heap[g]? = some (Y M 37 (0,0)):=by rw[<-hW3,heap_setCell R2.o,HML.o]
  obtain⟨E3,KB⟩:=HK.o W3 b3 r3;have E3:=D E3;have KB:=D KB;have HW3:=D hW3;have c3:W2.cell? ⟨g,3,none⟩=some (O J t):=aZ R2.o HL3.o;have f3:W2.frozen? ⟨g,3,none⟩=false:=frozen_of_row W2 g 3 _ _ R2.o;have g1:J.wrap (n:Int)=(n:Int):=bB;have g2:J.wrap (1+(n:Int))=1+(n:Int):=bB;have F3:U (zb W3 W3):=⟨iR _ _⟩;clear hW3 b3 r3 HK Ht;go_wp2_with (first
   | (refine fV rfl 37 _ _ rfl _ rfl rfl HLz.o (by rw[HLs.o];exact HZls.o) HLo.o rfl ?_)
   | (rw[HW2.o])
   | (rw[Hg.o])
   | (rw[HW3.o])
   | (refine iL rfl 34 _ rfl w1.heap.size rfl 34 T (0,0) _ (KB.o _ F3.o).1 zY rfl HTz.o ?_)
   | (refine iL rfl 37 _ rfl g rfl 37 M (0,0) _ (KB.o _ F3.o).2.1 zZ rfl HMz.o ?_))
  refine(hv1.o _ (KB.o _ F3.o).2.2).mono ?_;rintro y w4 ⟨rfl,hb4⟩;have F4:=bK F3 hb4;clear hb4;go_wp2_with (first
   | (refine iL rfl 34 _ rfl w1.heap.size rfl 34 T (0,0) _ (KB.o _ F4.o).1 zY rfl HTz.o ?_)
   | (refine iL rfl 37 _ rfl g rfl 37 M (0,0) _ (KB.o _ F4.o).2.1 zZ rfl HMz.o ?_))
  refine(hv2.o _).mono ?_;rintro y w5 ⟨rfl,hb5⟩;have F5:=bK F4 hb5;clear hb5;go_wp2_with (first
   | (refine iL rfl 34 _ rfl w1.heap.size rfl 34 T (0,0) _ (KB.o _ F5.o).1 zY rfl HTz.o ?_)
   | (refine iL rfl 37 _ rfl g rfl 37 M (0,0) _ (KB.o _ F5.o).2.1 zZ rfl HMz.o ?_))
  refine(hi1.o _ (KB.o _ F5.o).2.2).mono ?_;rintro y w6 ⟨rfl,hb6⟩;have F6:=bK F5 hb6;clear hb6;go_wp2_with (first
   | (refine iL rfl 34 _ rfl w1.heap.size rfl 34 T (0,0) _ (KB.o _ F6.o).1 zY rfl HTz.o ?_)
   | (refine iL rfl 37 _ rfl g rfl 37 M (0,0) _ (KB.o _ F6.o).2.1 zZ rfl HMz.o ?_))
  refine(hi2.o _).mono ?_;rintro y w7 ⟨rfl,hb7⟩;have F7:=bK F6 hb7;clear hb7;go_wp2_with (first
   | (refine iL rfl 34 _ rfl w1.heap.size rfl 34 T (0,0) _ (KB.o _ F7.o).1 zY rfl HTz.o ?_)
   | (refine iL rfl 37 _ rfl g rfl 37 M (0,0) _ (KB.o _ F7.o).2.1 zZ rfl HMz.o ?_))
  refine(hp1.o _).mono ?_;rintro y w8 ⟨⟨va8,vb8,rfl,qa8,qb8⟩,hb8⟩;have F8:=bK F7 hb8;have Qa:=D qa8;have Qb:=D qb8;clear qa8 qb8;clear hb8;go_wp2_with (first
   | (refine iL rfl 34 _ rfl w1.heap.size rfl 34 T (0,0) _ (KB.o _ F8.o).1 zY rfl HTz.o ?_)
   | (refine iL rfl 37 _ rfl g rfl 37 M (0,0) _ (KB.o _ F8.o).2.1 zZ rfl HMz.o ?_))
  refine(hp2.o _).mono ?_;rintro y w9 ⟨⟨va9,vb9,rfl,qa9,qb9⟩,hb9⟩;have F9:=bK F8 hb9;have Qa1:=D (Qa.o.later hb9);have Qb1:=D (Qb.o.later hb9);have Qa2:=D qa9;have Qb2:=D qb9;clear qa9 qb9 Qa Qb;have q1:=Q1.o;clear hb9;go_wp2_with fail;refine(HPo.o _ _ ln qz _ Hln.o Qa1.o Qa2.o).mono ?_;rintro y w10 ⟨rfl,hb10⟩;have F10:=bK F9 hb10;have Qb3:=D (Qb1.o.later hb10);have Qb4:=D (Qb2.o.later hb10);clear hb10;go_wp2_with fail;refine(HPo.o _ _ kn qh _ Hkn.o Qb3.o Qb4.o).mono ?_;rintro y w11 ⟨rfl,hb11⟩;have F11:=bK F10 hb11;clear hb11;go_wp2_with fail;refine(HA.o _ (KB.o _ F11.o).2.2).mono ?_;rintro y w12 ⟨rfl,hb12⟩;have B12:zb w w12:=E3.o.trans ((F11.o.trans (hb12.mono F11.o.size)).mono E3.o.size);go_wp2_with fail;go_ret;exact⟨rfl,B12⟩
 ·have q16:((n:Int)==3)=false:=by simp;omega
  have q17:¬ (n:Int)=3:=by omega
  obtain⟨W3,hW3⟩:=aP W2;have b3:aF g W2 W3:=by rw[<-hW3];exact iR _ _
  have r3:W3.heap[g]? = some (Y M 37 (0,0)):=by rw[<-hW3,<-HLM.o h3];exact R2.o
  obtain⟨E3,KB⟩:=HK.o W3 b3 r3;have E3:=D E3;have KB:=D KB;have HW3:U (w2.alloc (Y L 37)=W3):=⟨HW2.o.trans hW3⟩;have F3:U (zb W3 W3):=⟨iR _ _⟩;clear hW3 b3 r3 HK Ht h3 hn3;go_wp2_with (first
   | (refine fV rfl 37 _ _ rfl _ rfl rfl HLz.o (by rw[HLs.o];exact HZls.o) HLo.o rfl ?_)
   | (rw[HW3.o])
   | (rw[Hg.o])
   | (refine iL rfl 34 _ rfl w1.heap.size rfl 34 T (0,0) _ (KB.o _ F3.o).1 zY rfl HTz.o ?_)
   | (refine iL rfl 37 _ rfl g rfl 37 M (0,0) _ (KB.o _ F3.o).2.1 zZ rfl HMz.o ?_))
  refine(hv1.o _ (KB.o _ F3.o).2.2).mono ?_;rintro y w4 ⟨rfl,hb4⟩;have F4:=bK F3 hb4;clear hb4;go_wp2_with (first
   | (refine iL rfl 34 _ rfl w1.heap.size rfl 34 T (0,0) _ (KB.o _ F4.o).1 zY rfl HTz.o ?_)
   | (refine iL rfl 37 _ rfl g rfl 37 M (0,0) _ (KB.o _ F4.o).2.1 zZ rfl HMz.o ?_))
  refine(hv2.o _).mono ?_;rintro y w5 ⟨rfl,hb5⟩;have F5:=bK F4 hb5;clear hb5;go_wp2_with (first
   | (refine iL rfl 34 _ rfl w1.heap.size rfl 34 T (0,0) _ (KB.o _ F5.o).1 zY rfl HTz.o ?_)
   | (refine iL rfl 37 _ rfl g rfl 37 M (0,0) _ (KB.o _ F5.o).2.1 zZ rfl HMz.o ?_))
  refine(hi1.o _ (KB.o _ F5.o).2.2).mono ?_;rintro y w6 ⟨rfl,hb6⟩;have F6:=bK F5 hb6;clear hb6;go_wp2_with (first
   | (refine iL rfl 34 _ rfl w1.heap.size rfl 34 T (0,0) _ (KB.o _ F6.o).1 zY rfl HTz.o ?_)
   | (refine iL rfl 37 _ rfl g rfl 37 M (0,0) _ (KB.o _ F6.o).2.1 zZ rfl HMz.o ?_))
  refine(hi2.o _).mono ?_;rintro y w7 ⟨rfl,hb7⟩;have F7:=bK F6 hb7;clear hb7;go_wp2_with (first
   | (refine iL rfl 34 _ rfl w1.heap.size rfl 34 T (0,0) _ (KB.o _ F7.o).1 zY rfl HTz.o ?_)
   | (refine iL rfl 37 _ rfl g rfl 37 M (0,0) _ (KB.o _ F7.o).2.1 zZ rfl HMz.o ?_))
  refine(hp1.o _).mono ?_;rintro y w8 ⟨⟨va8,vb8,rfl,qa8,qb8⟩,hb8⟩;have F8:=bK F7 hb8;have Qa:=D qa8;have Qb:=D qb8;clear qa8 qb8;clear hb8;go_wp2_with (first
   | (refine iL rfl 34 _ rfl w1.heap.size rfl 34 T (0,0) _ (KB.o _ F8.o).1 zY rfl HTz.o ?_)
   | (refine iL rfl 37 _ rfl g rfl 37 M (0,0) _ (KB.o _ F8.o).2.1 zZ rfl HMz.o ?_))
  refine(hp2.o _).mono ?_;rintro y w9 ⟨⟨va9,vb9,rfl,qa9,qb9⟩,hb9⟩;have F9:=bK F8 hb9;have Qa1:=D (Qa.o.later hb9);have Qb1:=D (Qb.o.later hb9);have Qa2:=D qa9;have Qb2:=D qb9;clear qa9 qb9 Qa Qb;have q1:=Q1.o;clear hb9;go_wp2_with fail;refine(HPo.o _ _ ln qz _ Hln.o Qa1.o Qa2.o).mono ?_;rintro y w10 ⟨rfl,hb10⟩;have F10:=bK F9 hb10;have Qb3:=D (Qb1.o.later hb10);have Qb4:=D (Qb2.o.later hb10);clear hb10;go_wp2_with fail;refine(HPo.o _ _ kn qh _ Hkn.o Qb3.o Qb4.o).mono ?_;rintro y w11 ⟨rfl,hb11⟩;have F11:=bK F10 hb11;clear hb11;go_wp2_with fail;refine(HA.o _ (KB.o _ F11.o).2.2).mono ?_;rintro y w12 ⟨rfl,hb12⟩;have B12:zb w w12:=E3.o.trans ((F11.o.trans (hb12.mono F11.o.size)).mono E3.o.size);go_wp2_with fail;go_ret;exact⟨rfl,B12⟩
theorem xnp(wh wd:Int)(j kn ln:Nat)(e t t2 a b o s:Int)(pk x c sg:ByteArray)(w:G)(hpk:pk.size<=5000)(hx:x.size<=500)(hc:c.size<=400)(hsg:sg.size<=5000)(hP:Gp w)(h:bP (kn:Int) (ln:Int) e t2 a b o s=true)(hj:(IntKind.u64.wrap wh).tmod 4=(j:Int))(hj4:j<4)
 (ht:((IntKind.u64.wrap wd).tmod 16=3/\∃ n:Nat,(IntKind.u64.wrap wd).tmod 64=(n:Int)/\n<64/\t2=1+(n:Int))\/((∃ n:Nat,(IntKind.u64.wrap wd).tmod 16=(n:Int)/\n≠3)/\t2=t))
 (HSt:∀ w1:G,aD aO 8 #[O J ((j+1:Nat):Int)] w1 (zB w1 (aA #[I (bO (kn:Int) (ln:Int) e t a b o s),O J 0]))):
 aD aO 3 #[I #[E pk,E x,E c,E sg],O J wh,O J wd] w (zB w (.bool true)):=by
 obtain⟨hk,hl,-⟩:=fA.xbe h;have HV1:=fun w1 hg=>vpi.xnd _ kn ln e t2 a b o s pk x c sg w1 kecd.xdd kaw.xej hg h
 have HV2:=fun w1=>vri.xnd _ kn ln e t2 a b o s pk x c sg w1 kecd.xdd kaw.xej h
 have HI1:=fun w1 hg=>vpi.xd1 _ kn ln e t2 a b o s pk x sg w1 kecd.xdd kaw.xej hg h (by omega)
 have HI2:=fun w1=>vri.xd1 _ kn ln e t2 a b o s pk x sg w1 kecd.xdd kaw.xej h (by omega)
 obtain⟨y1,k1,q1⟩:=xxu (fun k=>((zt k:Nat):Int)%8380417) kn ln e t2 a b o s pk x c sg;obtain⟨y2,k2,q2⟩:=xjm (fun k=>((zt k:Nat):Int)%8380417) kn ln e t2 a b o s pk x sg;obtain⟨S0,c0,hS⟩:=parts sg kn ln a o s;simp only[q1]at HV1 HV2;simp only[q2]at HI1 HI2;refine near wh wd j kn ln e t t2 a b o s pk x c sg S0 y1 y2 k1 k2 c0 (okV sg kn ln a o s) (vZ sg a s) (vH sg ln a o s) w hpk hx hc hsg hP hj hj4 (by omega) (by omega) ht HSt HV1 HV2 HI1 HI2 (fun w1=>?_) (fun w1=>?_)
 ·refine(vpc.xd9 kn ln e t2 a b o s sg w1 h).mono ?_;rintro y w' ⟨⟨v,rfl,hv⟩,hb⟩;obtain⟨v1,v2,rfl,r1,r2⟩:=hS _ _ _ hv;exact⟨⟨v1,v2,rfl,r1,r2⟩,hb⟩
 ·refine(vrp.xd9 kn ln e t2 a b o s sg w1 h).mono ?_;rintro y w' ⟨⟨v,rfl,hv⟩,hb⟩;obtain⟨v1,v2,rfl,r1,r2⟩:=hS _ _ _ hv;exact⟨⟨v1,v2,rfl,r1,r2⟩,hb⟩
theorem latt_t{k l e t t2 a b o s:Int}(h:bP k l e t a b o s=true)(h2 : 1<=t2/\t2<=64):bP k l e t2 a b o s=true:=by
 unfold bP bF.upto at h ⊢;simp only[jQ,kN]at h ⊢;exact⟨⟨⟨⟨⟨⟨h.1.1.1.1.1.1,h2⟩,h.1.1.1.1.2⟩,h.1.1.1.2⟩,h.1.1.2⟩,h.1.2⟩,h.2⟩
theorem at_set(wh wd:Int)(j kn ln:Nat)(e t a b o s:Int)(pk x c sg:ByteArray)(w:G)(hpk:pk.size<=5000)(hx:x.size<=500)(hc:c.size<=400)(hsg:sg.size<=5000)(hP:Gp w)(h:bP (kn:Int) (ln:Int) e t a b o s=true)(hj:(IntKind.u64.wrap wh).tmod 4=(j:Int))(hj4:j<4)
 (HSt:∀ w1:G,aD aO 8 #[O J ((j+1:Nat):Int)] w1 (zB w1 (aA #[I (bO (kn:Int) (ln:Int) e t a b o s),O J 0]))):
 aD aO 3 #[I #[E pk,E x,E c,E sg],O J wh,O J wd] w (zB w (.bool true)):=by
 have h0 : 0<=IntKind.u64.wrap wd:=by rw[kA];omega
 obtain⟨n,hn⟩:=kR (a:=(IntKind.u64.wrap wd).tmod 16) (Int.tmod_nonneg _ h0);obtain⟨m,hm⟩:=kR (a:=(IntKind.u64.wrap wd).tmod 64) (Int.tmod_nonneg _ h0);have hm4:m<64:=by
  have:=Int.tmod_lt_of_pos (IntKind.u64.wrap wd) (show (0:Int)<64 by decide);omega
 by_cases h3:n=3
 ·exact xnp wh wd j kn ln e t (1+(m:Int)) a b o s pk x c sg w hpk hx hc hsg hP (latt_t h (by omega)) hj hj4 (kW ⟨by rw[hn,h3];rfl,m,hm,hm4,rfl⟩) HSt
 ·exact xnp wh wd j kn ln e t t a b o s pk x c sg w hpk hx hc hsg hP h hj hj4 (kO ⟨⟨n,hn,h3⟩,rfl⟩) HSt
theorem walk(pk x c sg:ByteArray)(wh wd:Int)(w:G)(wi:(Lit.int J wh).wf=true)(wj:(Lit.int J wd).wf=true)(hP:Gp w):aD aO 3 #[I #[E pk,E x,E c,E sg],O J wh,O J wd] w (zB w (.bool true)):=by
 by_cases hpk : 5000<pk.size
 ·exact far wh wd pk x c sg w (kW hpk) hP
 by_cases hx : 500<x.size
 ·exact far wh wd pk x c sg w (kO (kW ⟨hpk,hx⟩)) hP
 by_cases hc : 400<c.size
 ·exact far wh wd pk x c sg w (kO (kO (kW ⟨hpk,hx,hc⟩))) hP
 by_cases hsg : 5000<sg.size
 ·exact far wh wd pk x c sg w (kO (kO (kO ⟨hpk,hx,hc,hsg⟩))) hP
 have h0 : 0<=IntKind.u64.wrap wh:=by rw[kA];omega
 obtain⟨n,hn⟩:=kR (a:=(IntKind.u64.wrap wh).tmod 4) (Int.tmod_nonneg _ h0);have hn4:n<4:=by
  have:=Int.tmod_lt_of_pos (IntKind.u64.wrap wh) (show (0:Int)<4 by decide);omega
 rcases (show n=0\/n=1\/n=2\/n=3 by omega) with rfl | rfl | rfl | rfl
 ·exact at_set wh wd 0 4 4 2 39 131072 95232 80 128 pk x c sg w (by omega) (by omega) (by omega) (by omega) hP (by decide +kernel) hn hn4 (fun w1=>r9st.set_1 w1)
 ·exact at_set wh wd 1 6 5 4 49 524288 261888 55 192 pk x c sg w (by omega) (by omega) (by omega) (by omega) hP (by decide +kernel) hn hn4 (fun w1=>r9st.set_2 w1)
 ·exact at_set wh wd 2 8 7 2 60 524288 261888 75 256 pk x c sg w (by omega) (by omega) (by omega) (by omega) hP (by decide +kernel) hn hn4 (fun w1=>r9st.set_3 w1)
 ·exact at_set wh wd 3 1 1 2 20 131072 95232 60 128 pk x c sg w (by omega) (by omega) (by omega) (by omega) hP (by decide +kernel) hn hn4 (fun w1=>r9st.xmr w1)
end l14s
namespace opfs
open Go Go.ChangeShapes Go.WideShapes Go.ChangeAt Go.RowKit
open Go.Proofs.YtomphjajkkddkaaGreatDoor.opens
section
variable {H:Type} {enc:aH × aE->H} {P:aI} {w:G} {base:Nat} {spare held:Bool}
theorem xwg{r:Reach}{b0 b1:Nat}{sp:Nat->Bool}{hd:Bool}{t e:aH}{v:aE}{d:DataW H}{p:List MemPlace}(ht:P.underlying t=some (.array 4 e))(hk:P.underlying e=some .string)(hc:P.cellsOf t=4)(he:P.cellsOf e=1)
 (hv:Value.okWide P w r b0 t v) (h:DataW.Trod enc P w b1 sp hd t v d p):
 ∃ a b c g:ByteArray,v=.agg #[.string a,.string b,.string c,.string g]/\d=.agg [.lit (.string a.data.toList),.lit (.string b.data.toList),.lit (.string c.data.toList),.lit (.string g.data.toList)]/\p=[]:=by
 obtain⟨cs,m,xs,rfl,hsz,hxs,rfl,rfl,hg⟩:=xwf ht hc he hv h;match xs,hxs with
 | [x0,x1,x2,x3],_=>
  have h0:=hg 0 (by omega);have h1:=hg 1 (by omega);have h2:=hg 2 (by omega);have h3:=hg 3 (by omega);simp only[jL,jF]at h0 h1 h2 h3;obtain⟨a,e0,rfl,-⟩:=DataW.trod_string hk h0;obtain⟨b,e1,rfl,-⟩:=DataW.trod_string hk h1;obtain⟨c,e2,rfl,-⟩:=DataW.trod_string hk h2;obtain⟨g,e3,rfl,-⟩:=DataW.trod_string hk h3;refine⟨a,b,c,g,?_,rfl,rfl⟩;simp only[nV,and_true]at e0 e1 e2 e3;rw[<-e0,<-e1,<-e2,<-e3];congr 1
  apply Array.ext (by simpa using hsz);intro i h1 h2;match i,h2 with
  | 0,_=>rfl
  | 1,_=>rfl
  | 2,_=>rfl
  | 3,_=>rfl
end
end opfs
end Go.Proofs.YtomphjajkkddkaaGreatDoor
