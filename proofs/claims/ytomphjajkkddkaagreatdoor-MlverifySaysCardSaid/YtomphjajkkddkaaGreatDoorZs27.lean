/-
  What the document's own Shake of layer 6 returns. Conditions: the tables have their size. What the d
-/
import Derived.Test.YtomphjajkkddkaaGreatDoorZs26
import Derived.Test.YtomphjajkkddkaaGreatDoorZs08
import Derived.Test.YtomphjajkkddkaaGreatDoorZs02
import Derived.Test.YtomphjajkkddkaaGreatDoorZs20
import Derived.Test.YtomphjajkkddkaaGreatDoorZs24
import Derived.Test.YtomphjajkkddkaaGreatDoorProg
import Derived.Test.YtomphjajkkddkaaGreatDoorZs03
import Derived.Test.YtomphjajkkddkaaGreatDoorZs15
import Derived.Test.YtomphjajkkddkaaGreatDoorZs18
import Derived.Test.YtomphjajkkddkaaGreatDoorZs17
import Derived.Test.YtomphjajkkddkaaGreatDoorZs04
import Derived.Test.YtomphjajkkddkaaGreatDoorZs01
import Derived.Test.YtomphjajkkddkaaGreatDoorZs05
import Derived.Great.BuildSlice
import Derived.OwnWalk
set_option maxRecDepth 100000
set_option maxHeartbeats 16000000
set_option linter.unusedSimpArgs false
set_option linter.unusedVariables false
open Go Go.RowKit
open Go renaming World->G,Calls->aD,Value->aE,Program->aI
open Go.RowKit renaming Below->aF,intOf->aG
open Go.Act renaming put->aM
open Go.Instr renaming index->aN
open Go.Value renaming int->O,agg->I,string->E,tuple->aA,slice->aB
open Go.IntKind renaming i64->J
open Go.Obj renaming cells->Y
open Go.Proofs.Tryz renaming prog->aO
namespace Go.Proofs.YtomphjajkkddkaaGreatDoor
namespace rsph
open arr mem bJ dL bU iD cF eT rspb eZ gI spof dD
theorem ok_in(k:Int)(a:Nat)(h:a<bG k):ok k (a:Int) false=true:=by
 unfold ok;rw[jP (show 0<bG k by omega),jP (show (0:Int)<=(a:Int) by omega),jP (show (a:Int)<(bG k:Int) by omega)];rfl
theorem xpx{T:Array aE}{ts rs:List Nat}(k:Int)(b:ByteArray)(n:Nat)(w:G)(hK:KT T ts rs)(hra : 0<bG k)(hn:n<=50000)(hb:b.size<=1125899906842624):
 aD aO 94 #[I T,O J k,E b,O J (n:Int)] w (zB w (aA #[E (out ts rs k b n),O J 0])):=by
 have hPst:∀ l,St l->St (PP ts rs l):=fun _ h=>xb7 hK.br h
 have hEo:St (abs (PP ts rs) (bG k) ⟨Z,0⟩ (aU b)).l/\(abs (PP ts rs) (bG k) ⟨Z,0⟩ (aU b)).at'<bG k:=xh3 hPst _ z_st hra;obtain⟨A,HA⟩:=aQ (out ts rs k b n);have C2:U (∀ w1:G,aD aO 146 #[I T,I (SC k Z 0 false),E b] w1 (zB w1 (aA #[I (SC k (abs (PP ts rs) (bG k) ⟨Z,0⟩ (aU b)).l ((abs (PP ts rs) (bG k) ⟨Z,0⟩ (aU b)).at':Nat) false),O J 0]))):=⟨fun w1=>gI.xsw k 0 Z b w1 z_st hK (ok_in k 0 hra) hb⟩;obtain⟨Eq,HE⟩:=aQ (abs (PP ts rs) (bG k) ⟨Z,0⟩ (aU b));rw[HE.o]at C2 hEo;have HA2:U (⟨(cP (sq (PP ts rs) (bG k) (pad (bG k) (cF.mark k) ⟨Eq.l,Eq.at'⟩) n)).toArray⟩=A):=⟨by rw[<-HA.o,<-HE.o];rfl⟩;rw[HA.o];have C3:U (∀ w1:G,aD aO 147 #[I T,I (SC k Eq.l (Eq.at':Int) false),O J (n:Int)] w1 (zB w1 (aA #[I (SC k (sk (PP ts rs) (bG k) (pad (bG k) (cF.mark k) ⟨Eq.l,Eq.at'⟩) n).l ((sk (PP ts rs) (bG k) (pad (bG k) (cF.mark k) ⟨Eq.l,Eq.at'⟩) n).at':Nat) true),E A,O J 0]))):=⟨fun w1=>by rw[<-HA2.o];exact rspg.xmw k Eq.at' n Eq.l w1 hEo.1 hK (ok_in k _ hEo.2) ⟨hra,hEo.2,xjh k⟩ hn⟩;clear HA HA2 HE;have C1:U (∀ w1:G,aD aO 145 #[O J k] w1 (zB w1 (aA #[I (SC k Z 0 false),O J 0]))):=⟨fun w1=>rspe.xv4 k w1 hra⟩;have HTz:U ((aO.info? 34).map (·.size)=some T.size):=⟨by rw[hK.size];exact rkeb.sizeT⟩;obtain⟨S0,HS0⟩:=aQ (SC k Z 0 false);have i0:U ((aO.info? 164).map (·.size)=some S0.size):=⟨by rw[<-HS0.o];exact xdj _ _ _ xfe⟩;have o0:U (S0.all (·.oneCell')=true):=⟨by rw[<-HS0.o];exact xef _ _ _ _⟩
 have z0:U (S0.size=28):=⟨by rw[<-HS0.o];exact xa6 _ _ _ xfe⟩;obtain⟨S1,HS1⟩:=aQ (SC k Eq.l (Eq.at':Int) false);have i1:U ((aO.info? 164).map (·.size)=some S1.size):=⟨by rw[<-HS1.o];exact xdj _ _ _ hEo.1.len⟩;have o1:U (S1.all (·.oneCell')=true):=⟨by rw[<-HS1.o];exact xef _ _ _ _⟩;have z1:U (S1.size=28):=⟨by rw[<-HS1.o];exact xa6 _ _ _ hEo.1.len⟩;have hsk:=(xfa hPst hra (xi6 (r:=bG k) (m:=cF.mark k) (s:=⟨Eq.l,Eq.at'⟩) hEo.1).1 (xi6 (r:=bG k) (m:=cF.mark k) (s:=⟨Eq.l,Eq.at'⟩) hEo.1).2 n).1.len;obtain⟨E2,HE2⟩:=aQ (sk (PP ts rs) (bG k) (pad (bG k) (cF.mark k) ⟨Eq.l,Eq.at'⟩) n);rw[HE2.o]at C3 hsk;obtain⟨S2,HS2⟩:=aQ (SC k E2.l (E2.at':Int) true);have i2:U ((aO.info? 164).map (·.size)=some S2.size):=⟨by rw[<-HS2.o];exact xdj _ _ _ hsk⟩;have o2:U (S2.all (·.oneCell')=true):=⟨by rw[<-HS2.o];exact xef _ _ _ _⟩;have z2:U (S2.size=28):=⟨by rw[<-HS2.o];exact xa6 _ _ _ hsk⟩;rw[HS2.o]at C3;clear hsk HS2 HE2;rw[HS0.o]at C1 C2;rw[HS1.o]at C2 C3;clear hEo hPst HS0 HS1 hK;obtain⟨W,hW⟩:=aP (w.alloc (Y T 34));have HW:=D hW;have BW:=zba hW;have GW:=zhp hW;have hzW:W.heap.size=w.heap.size+1:=by rw[<-hW];exact size_alloc _ _
 clear hW;go_enter Tryz.func94,Tryz.ntmps94;go_wp2_with (rw[HW.o]);refine(C1.o _).mono ?_;rintro e w2 ⟨rfl,hb2⟩;obtain⟨W3,hW3⟩:=aP (w2.alloc (Y S0 164));have HW3:=D hW3;have B3:U (zb W W3):=⟨by rw[<-hW3];exact hb2.alloc hb2.size _⟩;have G3:U (W3.heap[w.heap.size]? = some (Y T 34 (0,0))):=⟨(B3.o.block _ (by omega)).trans GW.o⟩;have R3:=zhp hW3;have h2W:W.heap.size<=w2.heap.size:=hb2.size;clear hb2 hW3;go_wp2_with (first
  | (refine fV rfl 164 _ _ rfl S0 rfl rfl i0.o (by exact z0.o.symm) o0.o rfl ?_)
  | (rw[HW3.o])
  | (refine iL rfl 34 _ rfl w.heap.size rfl 34 T (0,0) _ G3.o zY rfl HTz.o ?_)
  | (refine iL rfl 164 _ rfl w2.heap.size rfl 164 S0 (0,0) _ R3.o Tryz.underlying164 rfl i0.o ?_))
 refine(C2.o _).mono ?_;rintro e w4 ⟨rfl,hb4⟩;obtain⟨W5,hW5⟩:=aP (w4.setRow w2.heap.size S1);have HW5:=D hW5;have R4:U (w4.heap[w2.heap.size]? = some (Y S0 164 (0,0))):=⟨(hb4.block _ (bI R3.o)).trans R3.o⟩;have B5:U (zb W W5):=⟨by rw[<-hW5];exact(B3.o.trans (hb4.mono B3.o.size)).trans (below_setRow _ _ _ h2W)⟩;have G5:U (W5.heap[w.heap.size]? = some (Y T 34 (0,0))):=⟨(B5.o.block _ (by omega)).trans GW.o⟩;have R5:U (W5.heap[w2.heap.size]? = some (Y S1 164 (0,0))):=⟨by rw[<-hW5];exact jD _ _ _ _ _ _ R4.o⟩;clear hb4 hW5 HW3;go_wp2_with (first
  | (refine iS rfl 164 _ _ rfl w2.heap.size S1 rfl rfl 164 _ R4.o i1.o (z0.o.trans z1.o.symm) o1.o ?_)
  | (rw[HW5.o])
  | (refine iL rfl 34 _ rfl w.heap.size rfl 34 T (0,0) _ G5.o zY rfl HTz.o ?_)
  | (refine iL rfl 164 _ rfl w2.heap.size rfl 164 S1 (0,0) _ R5.o Tryz.underlying164 rfl i1.o ?_))
 refine(C3.o _).mono ?_;rintro e w6 ⟨rfl,hb6⟩;obtain⟨W7,hW7⟩:=aP (w6.alloc (Y S2 164));have HW7:=D hW7;have B7:U (zb w W7):=⟨by rw[<-hW7];exact(BW.o.trans ((B5.o.trans (hb6.mono B5.o.size)).mono BW.o.size)).alloc (jJ BW.o.size (jJ B5.o.size hb6.size)) _⟩;clear hb6 hW7 HW5;go_wp2_with (first
  | (refine fV rfl 164 _ _ rfl S2 rfl rfl i2.o (by exact z2.o.symm) o2.o rfl ?_)
  | (rw[HW7.o]))
 go_ret2;exact⟨rfl,B7.o⟩
theorem xyr{T:Array aE}{ts rs:List Nat}(k:Int)(b:ByteArray)(n:Nat)(w:G)(hK:KT T ts rs)(h1:k=1)(hn:n<=50000)(hb:b.size<=1125899906842624):
 aD aO 38 #[I T,O J k,E b,O J (n:Int)] w (zB w (aA #[E (out ts rs k b n),O J 0])):=by
 have HTz:U ((aO.info? 34).map (·.size)=some T.size):=⟨by rw[hK.size];exact rkeb.sizeT⟩;have C3:U (∀ w1:G,aD aO 94 #[I T,O J k,E b,O J (n:Int)] w1 (zB w1 (aA #[E (out ts rs k b n),O J 0]))):=⟨fun w1=>xpx k b n w1 hK (by rw[h1];decide) hn hb⟩;obtain⟨A,HA⟩:=aQ (out ts rs k b n);rw[HA.o]at C3 ⊢;subst h1;clear hn hK HA;obtain⟨W,hW⟩:=aP (w.alloc (Y T 34));have HW:=D hW;have BW:=zba hW;have GW:=zhp hW;clear hW;go_enter Tryz.func38,Tryz.ntmps38;go_wp2_with (first
  | (rw[HW.o])
  | (refine iL rfl 34 _ rfl w.heap.size rfl 34 T (0,0) _ GW.o zY rfl HTz.o ?_))
 refine(C3.o W).mono ?_;rintro e w3 ⟨rfl,h3⟩;have HB3:=bK BW h3;clear h3;go_wp2_with fail;go_ret2;exact⟨rfl,HB3.o⟩
theorem xhm{T:Array aE}{ts rs:List Nat}(k:Int)(b:ByteArray)(n:Nat)(w:G)(hK:KT T ts rs)(h1:k=2)(hn:n<=50000)(hb:b.size<=1125899906842624):
 aD aO 38 #[I T,O J k,E b,O J (n:Int)] w (zB w (aA #[E (out ts rs k b n),O J 0])):=by
 have HTz:U ((aO.info? 34).map (·.size)=some T.size):=⟨by rw[hK.size];exact rkeb.sizeT⟩;have C3:U (∀ w1:G,aD aO 94 #[I T,O J k,E b,O J (n:Int)] w1 (zB w1 (aA #[E (out ts rs k b n),O J 0]))):=⟨fun w1=>xpx k b n w1 hK (by rw[h1];decide) hn hb⟩;obtain⟨A,HA⟩:=aQ (out ts rs k b n);rw[HA.o]at C3 ⊢;subst h1;clear hn hK HA;obtain⟨W,hW⟩:=aP (w.alloc (Y T 34));have HW:=D hW;have BW:=zba hW;have GW:=zhp hW;clear hW;go_enter Tryz.func38,Tryz.ntmps38;go_wp2_with (first
  | (rw[HW.o])
  | (refine iL rfl 34 _ rfl w.heap.size rfl 34 T (0,0) _ GW.o zY rfl HTz.o ?_))
 refine(C3.o W).mono ?_;rintro e w3 ⟨rfl,h3⟩;have HB3:=bK BW h3;clear h3;go_wp2_with fail;go_ret2;exact⟨rfl,HB3.o⟩
end rsph
namespace bM
open arr mem cZ bU dD aT aV aW bC bY cG bF fW fL fD bQ fO
theorem uniform{T:Array aE}(b:ByteArray)(w:G)(hK:KT T TL RL)(hb:b.size<=1125899906842624):
 aD aO 98 #[I T,E b] w (zB w (I (FL J 256 (dU b)))):=
 rsuni.xna b _ w (dI T hK) (xb1 1 b 1008) fun w1=>rsph.xyr 1 b 1008 w1 hK rfl (by decide) hb
theorem matrix{T:Array aE}(kn ln:Nat)(e t a b o s:Int)(sd:ByteArray)(w:G)(hK:KT T TL RL)(h:bP (kn:Int) (ln:Int) e t a b o s=true)(hsd:sd.size<=1000):
 aD aO 42 #[I T,I (bO (kn:Int) (ln:Int) e t a b o s),E sd] w fun x w'=>(∃ v vs,x=.returned v/\w'.ownsRow w.heap.size 44 1 v kn vs/\dO w' w.heap.size v.ownBlock vs ln (qX sd))/\zb w w':=by
 obtain⟨h1,h2,-⟩:=xde h;exact rsmat.xlp kn ln e t a b o s sd (qX sd) w (dI T hK) (by omega) (by omega) h (by omega) fun r c _ _ w1=>uniform (tw sd c r) w1 hK (by rw[xhv];omega)
end bM
namespace rfld
open arr mem bE
theorem eU(x:Int)(w:G):aD aO 95 #[O J x] w (zE w (O J (x%8380417))):=by
 obtain⟨z,hz⟩:=aP (x%8380417);obtain⟨y,hy⟩:=aP (x.tmod 8380417);have h:=xm0 x 8380417 (by decide);have hb : 0<=z/\z<8380417:=by omega
 rw[hz,hy]at h;rw[hz];rcases h with ⟨h1,h2⟩ | ⟨h1,h2⟩
 ·subst h2;have h3:¬ y<0:=by omega
  clear hz hb;go_enter Tryz.func95,Tryz.ntmps95;go_wp2_with fail;go_ret;exact⟨rfl,rfl⟩
 ·have hw:J.wrap (y+8380417)=z:=bB;have h2':=D h2;clear hz hb h2;go_enter Tryz.func95,Tryz.ntmps95;go_wp2_with fail;go_ret;exact⟨by first | rfl | rw[<-h2'.o],rfl⟩
end rfld
namespace bC
open arr mem bD dZ aT aW aY
theorem xv9(s:ByteArray)(wd:Nat)(w:G)(hw:wd<=23)(hs : 32*wd<=s.size):
 aD aO 144 #[E s,O J (wd:Int)] w (zB w (I (FL J 256 fun i=>((bt (pk 8 (aU s)) wd i wd:Nat):Int)))):=by
 obtain⟨hz,hsize⟩:=iY aX;obtain⟨z,HZ⟩:=aQ (FL J 256 fun _=>0);rw[HZ.o]at hz;have Hzs:=dP HZ;obtain⟨N,HN⟩:=aQ (pk 8 (aU s));rw[HN.o];obtain⟨R,HR⟩:=aQ (FL J 256 fun i=>((bt N wd i wd:Nat):Int));have Ri:=eE HR hsize;have Ro:=eJ HR;have Rz:=gJ Hzs HR;rw[HR.o];obtain⟨W,hW⟩:=aP ((w.alloc (Y z 76)).alloc (Y z 76));have HW:=D hW;have hWs:W.heap.size=w.heap.size+2:=by rw[<-hW,size_alloc,size_alloc]
 have BW:U (zb w W):=⟨by rw[<-hW];exact((iR _ _).alloc (iM _) _).alloc (by rw[size_alloc];omega) _⟩;have R0:U (W.heap[w.heap.size]? = some (Y z 76 (0,0))):=⟨by rw[<-hW,fF _ _ _ (by rw[size_alloc];omega)];exact cM _ _ _ rfl⟩;have R1:U (W.heap[w.heap.size+1]? = some (Y (FL J 256 (pt (fun i=>((bt N wd i wd:Nat):Int)) (fun _=>0) 0)) 76 (0,0))):=⟨by rw[<-hW,xbf,HZ.o];exact cM _ _ _ (by rw[size_alloc])⟩;clear hW hsize;go_enter Tryz.func144,Tryz.ntmps144;go_wp2_with (rw[HW.o]);clear hz;go_loopw [9] (fun v wr=>∃ i:Nat,i<=256/\v=O J (i:Int)/\U (At (w.heap.size+1) (FL J 256 (pt (fun i=>((bt N wd i wd:Nat):Int)) (fun _=>0) i)) 76 W wr)) (fun v _=>256-(aG v).toNat)
 case atStart=>exact⟨0,iX _,rfl,⟨At.refl R1.o⟩⟩
 case round=>
  obtain⟨i,hi,rfl,A0⟩:=hrel;by_cases hlt:i<256
  ·have hiz:(i:Int)<256:=by omega
   have hiw:wd*i+wd<=8*s.size:=by
    have h1:wd*(i+1)<=wd*256:=kJ _ hlt;rw[kG]at h1;omega
   have hiw3:wd*i<=23*256:=lA hw (by omega);obtain⟨iw,hiw2⟩:=aP (wd*i);have fi:(i:Int)*(wd:Int)=(iw:Int):=by rw[<-hiw2,kV,oQ]
   have fiw:J.wrap ((i:Int)*(wd:Int))=(iw:Int):=by rw[fi,iN];omega
   have Hiw:=D hiw2;rw[hiw2]at hiw hiw3;have A00:U (At (w.heap.size+1) (FL J 256 (upd (pt (fun i=>((bt N wd i wd:Nat):Int)) (fun _=>0) i) i ((bt N wd i 0:Nat):Int))) 76 W wr):=⟨by
    rw[xc1 J 256 (h':=pt (fun i=>((bt N wd i wd:Nat):Int)) (fun _=>0) i) (fun j _=>by
     unfold upd pt;by_cases e:j=i
     ·rw[iP e,iQ (by omega)];unfold bt;rw[Nat.pow_zero,Nat.mod_one];rfl
     ·rw[iQ e])]
    exact A0.o⟩
   clear hiw2 A0;go_wp2_with fail;go_loopw [13] (fun v wr=>∃ k:Nat,k<=wd/\v=O J (k:Int)/\U (At (w.heap.size+1) (FL J 256 (upd (pt (fun i=>((bt N wd i wd:Nat):Int)) (fun _=>0) i) i ((bt N wd i k:Nat):Int))) 76 W wr)) (fun v _=>wd-(aG v).toNat)
   case atStart=>exact⟨0,iX _,rfl,A00⟩
   case round=>
    clear A00;obtain⟨k,hk,rfl,A0⟩:=hrel;by_cases hklt:k<wd
    ·have hkz:(k:Int)<(wd:Int):=by omega
     obtain⟨m,hm⟩:=aP (iw+k);obtain⟨j,hj⟩:=aP (m / 8);obtain⟨r,hr⟩:=aP (m%8);have hjs:j<s.size:=by omega
     obtain⟨β,hβ⟩:∃ β,(aU s).getD j 0 = β := ⟨_,rfl⟩;have hβ8 : β < 256:=by
      rw[<-hβ,iO,iT (by rw[xaz];exact hjs)];exact fG s _ (kZ _)
     have hidx:=byte_of s j β hjs hβ;obtain⟨y,hy⟩:=aP (β / 2 ^ r);have hyx:y <= β := by rw[<-hy];exact Nat.div_le_self _ _
     obtain⟨b,hb⟩:=aP (y%2);have hb2:b<2:=by omega
     have hbN:N / 2 ^ m%2=b:=by
      have h9:=xts s m (by rw[hj];exact hjs);rw[hj,hr,hβ,hy,hb,HN.o]at h9;exact h9.symm
     obtain⟨a,ha⟩:=aP (bt N wd i k);have ha2:a<2 ^ k:=by rw[<-ha];exact kB _ (kD _)
     have hk23 : 2 ^ k<=2 ^ 23:=kS (by decide) (by omega);obtain⟨c,hc⟩:=aP (b*2 ^ k);have hcl:c<=2 ^ 23:=by
      rw[<-hc];have h2:b*2 ^ k<=1*2 ^ k:=mH _ (by omega);omega
     have V:=xg7 a c (by omega) (by omega);have hac:a ||| c=bt N wd i (k+1):=by
      rw[<-hc,xl0 a b k ha2,xtl,ha,Hiw.o,hm,hbN]
     rw[hac]at V;obtain⟨v,hv⟩:=aP (bt N wd i (k+1));rw[hv]at V;have fm:(iw:Int)+(k:Int)=(m:Int):=by omega
     have fmw:J.wrap ((iw:Int)+(k:Int))=(m:Int):=by rw[fm,iN];omega
     have fj:(m:Int).tdiv 8=(j:Int):=by rw[iU (by omega)];omega
     have fjw:J.wrap ((m:Int).tdiv 8)=(j:Int):=by rw[fj,iN];omega
     have fjw2:J.wrap (j:Int)=(j:Int):=bB;have fcw2:J.wrap (c:Int)=(c:Int):=bB;have fr:(m:Int).tmod 8=(r:Int):=by rw[jB (by omega)];omega
     have fku:IntKind.u64.wrap (k:Int)=(k:Int):=by rw[kA];omega
     have fru:IntKind.u64.wrap (r:Int)=(r:Int):=by rw[kA];omega
     have fy:(β : Int) / 2 ^ r=(y:Int):=by rw[<-hy];simp
     have fand:=xj9 y (by omega);rw[hb]at fand;have fbw:J.wrap (b:Int)=(b:Int):=bB;have fc:(b:Int)*2 ^ k=(c:Int):=by rw[<-hc,kV,Int.natCast_pow];rfl
     have fcw:J.wrap ((b:Int)*2 ^ k)=(c:Int):=by rw[fc,iN];omega
     have ca:wr.cell? ⟨w.heap.size+1,i,none⟩=some (O J (a:Int)):=by
      rw[<-ha];have h9:=fZ A0.o.row i hlt;unfold upd at h9;rw[iP rfl]at h9;exact h9
     have hk63:k<=63:=by omega
     have hr63:r<=7:=by omega
     have Hv:=D hv;clear hm hj hr hy hb hβ hc hv ha hbN hac;go_wp2_with fail;refine gZ 18 (by kernel_rfl) (by kernel_rfl) ?_;simp only[jH,jU,iW,jK];repeat still_step
     refine jR ?_;have A1:U (At (w.heap.size+1) (FL J 256 (upd (pt (fun i=>((bt N wd i wd:Nat):Int)) (fun _=>0) i) i ((bt N wd i k:Nat):Int))) 76 W wr.drew):=⟨eN A0.o⟩;clear ca fm fmw fj fjw fjw2 fcw2 fr fku fru fy fand fbw fc fcw V A0 hidx
     with_reducible refine cU A1 rfl _ _ _ rfl rfl ?_
     refine⟨_,_,_,rfl,rfl,rfl,by rw[cC];exact hlt,?_⟩;intro wn HR;rw[eV,xc1 J 256 (h':=upd (pt (fun i=>((bt N wd i wd:Nat):Int)) (fun _=>0) i) i ((bt N wd i (k+1):Nat):Int)) (fun j _=>by
      unfold upd;by_cases e:j=i
      ·rw[iP e,iP e,Hv.o]
      ·rw[iQ e,iQ e,iQ e])]at HR
     go_wp2_with fail;go_roundw
     case rel=>exact⟨k+1,by omega,by go_num,HR⟩
     case measure=>simp[aG];omega
    ·obtain rfl:k=wd:=by omega
     have A1:U (At (w.heap.size+1) (FL J 256 (pt (fun i=>((bt N k i k:Nat):Int)) (fun _=>0) (i+1))) 76 W wr):=⟨by
      rw[<-xa1 (fun i=>((bt N k i k:Nat):Int)) (fun _=>0) i _ rfl];exact A0.o⟩
     clear A0;go_wp2_with fail;go_roundw
     case rel=>exact⟨i+1,by omega,by go_num,A1⟩
     case measure=>simp[aG];omega
  ·obtain rfl:i=256:=by omega
   simp only[jE];rw[xbc,HR.o]at A0;have Hrow:=D A0.o.row;have Hres:U (wr.heap[w.heap.size]? = some (Y z 76 (0,0))):=⟨A0.o.other (by omega) (by omega) R0.o⟩;have HB:U (zb w wr):=⟨BW.o.trans (A0.o.below (by omega) (by omega))⟩;clear A0;go_wp2_with (first
    | (refine iL rfl 76 _ rfl (w.heap.size+1) rfl 76 R (0,0) _ Hrow.o zX rfl Ri.o ?_)
    | (refine iS rfl 76 _ _ rfl w.heap.size R rfl rfl 76 _ Hres.o Ri.o Rz.o Ro.o ?_))
   refine iV (v:=I R) (jC rfl _ _ w.heap.size 76 _ (0,0) _ rfl (jD _ _ _ _ _ _ Hres.o) zX rfl Ri.o) rfl ?_;exact⟨rfl,HB.o.trans (below_setRow _ _ _ (iM _))⟩
end bC
namespace bY
open arr mem bD dZ aT bE aW aY bC bA bL
theorem xgh(s:ByteArray)(most:Int)(w:G)(h1 : 1<=most)(h2:most<8380417)(hs:s.size=32*lb most.toNat):
 aD aO 92 #[E s,O J most] w (zB w (if fK (up s (lb most.toNat)) most then aA #[I (FL J 256 (up s (lb most.toNat))),O J 0] else aA #[I (FL J 256 fun _=>0),O J 3])):=by
 obtain⟨hz,hsize⟩:=iY aX;have hl:=D (fun w1=>xc3 most (by omega) w1);have hl23:=xg3 most (by omega);obtain⟨wd,hwd⟩:=aP (lb most.toNat);rw[hwd]at hs hl hl23 ⊢;have HN:=D (fun w1=>xv9 s wd w1 hl23 (by omega));obtain⟨f,Hf⟩:=aQ (up s wd);have ef:(fun i=>((bt (pk 8 (aU s)) wd i wd:Nat):Int))=f:=by rw[<-Hf.o];rfl
 rw[ef]at HN;rw[Hf.o];have Hpos:U (∀ i,0<=f i):=⟨fun i=>by rw[<-Hf.o];exact Int.natCast_nonneg _⟩;have Hidx:U (∀ i:Nat,i<256->∀ w1,(aN 76 (I (FL J 256 f)) (O J (i:Int))).run aO w1=.ok (O J (f i)) w1):=⟨fun i hi w1=>xct (P:=aO) zX (by kernel_rfl) (by kernel_rfl) (by kernel_rfl) _ _ i hi (xba J 256 f i hi) w1⟩;obtain⟨z,HZ⟩:=aQ (FL J 256 fun _=>0);rw[HZ.o]at hz ⊢;have Hzs:=dP HZ;have Zi:=zsz Hzs hsize;have Zo:=eJ HZ;have Gs:U ((FL J 256 f).size=256):=⟨cC _ _ _⟩;have Go:U ((FL J 256 f).all (·.oneCell')=true):=⟨xbj _ _ _⟩;obtain⟨Gq,HG⟩:=aQ (FL J 256 f);rw[HG.o]at HN Hidx Gs Go ⊢;have Gi:=zsz Gs hsize;obtain⟨V,HV⟩:=aQ (if fK f most then Value.tuple #[I Gq,O J 0] else aA #[I z,O J 3]);rw[HV.o];obtain⟨W,hW⟩:=aP (w.alloc (Y z 76));have HW:=D hW;have BW:=zba hW;have hrow:=zhp hW;have hWs:U (W.heap.size=w.heap.size+1):=⟨by rw[<-hW,size_alloc]⟩;obtain⟨n,hn⟩:=aP (32*wd);have fn:J.wrap (32*(wd:Int))=(n:Int):=bB;obtain⟨m,hsm⟩:=aQ s.size;have fne:((s.size:Int) != (n:Int))=false:=by rw[show (s.size:Int)=(n:Int) by omega];simp
 have g1:¬ most<1:=by omega
 have g2:¬ 8380417<=most:=by omega
 clear hW hsize hwd hs hn Hf ef HZ HG h1 h2;go_enter Tryz.func92,Tryz.ntmps92;go_wp2_with (rw[HW.o]);iterate 2 (refine(hl.o _).mono ?_;rintro e w1 ⟨rfl,rfl⟩;go_wp2_with fail)
 refine(HN.o _).mono ?_;rintro e w2 ⟨rfl,hb2⟩;have hrow2:U (w2.heap[w.heap.size]? = some (Y z 76 (0,0))):=⟨(hb2.block w.heap.size (by rw[hWs.o];omega)).trans hrow.o⟩;have B2:U (zb w w2):=⟨BW.o.trans (hb2.mono (by rw[hWs.o];omega))⟩;have hlt2:w.heap.size<w2.heap.size:=by have:=hb2.size;rw[hWs.o]at this;omega
 obtain⟨W3,hW3⟩:=aP (w2.alloc (Y Gq 76));have HW3:=D hW3;have r3:=zhp hW3;have r0:U (W3.heap[w.heap.size]? = some (Y z 76 (0,0))):=⟨by rw[<-hW3,fF _ _ _ hlt2];exact hrow2.o⟩;have B3:U (zb w W3):=⟨by rw[<-hW3];exact B2.o.alloc (by omega) _⟩;clear hb2 hW3 hlt2;go_wp2_with (first
  | ((with_reducible refine fV rfl 76 _ _ rfl Gq ?hx ?hy ?hi ?ho ?h1 ?hn ?_);(case hx=>rfl);(case hy=>rfl);(case hi=>exact Gi.o);(case ho=>rw[Hzs.o,Gs.o]);(case h1=>exact Go.o);(case hn=>rfl);rw[HW3.o])
  | (refine iL rfl 76 _ rfl w2.heap.size rfl 76 Gq (0,0) _ r3.o zX rfl Gi.o ?_))
 go_loopw [29] (fun c wr=>∃ j:Nat,j<=256/\c=O J (j:Int)/\U (∀ i,i<j->f i<=most)/\W3=wr) (fun c _=>256-(aG c).toNat)
 case atStart=>exact⟨0,iX _,rfl,⟨fun i hi=>by omega⟩,rfl⟩
 case round=>
  obtain⟨j,hj,rfl,Hin,rfl⟩:=hrel;by_cases hlt:j<256
  ·have hjz:(j:Int)<256:=by omega
   have hidx:=Hidx.o j hlt;obtain⟨x,hx⟩:=aP (f j);rw[hx]at hidx;by_cases hbad:most<x
   ·have hV:U (V=aA #[I z,O J 3]):=⟨by rw[<-HV.o,iQ];intro hall;have:=hall j hlt;rw[hx]at this;omega⟩;clear hx;go_wp2_with (refine iS rfl 76 _ _ rfl w.heap.size z rfl rfl 76 _ r0.o Zi.o rfl Zo.o ?_);refine iV (v:=aA #[I z,O J 3]) (bL.results_cell_tmp rfl _ _ w.heap.size 76 _ (0,0) _ rfl (jD _ _ _ _ _ _ r0.o) zX rfl Zi.o _ rfl) rfl ?_;exact⟨by rw[hV.o],B3.o.trans (below_setRow _ _ _ (iM _))⟩
   ·have Hin2:U (∀ i,i<j+1->f i<=most):=⟨fun i hi=>by
     by_cases e:i=j
     ·subst e;rw[hx];omega
     ·exact Hin.o i (by omega)⟩
    clear hx;go_wp2_with fail;go_roundw
    case rel=>exact⟨j+1,by omega,by go_num,Hin2,trivial⟩
    case measure=>simp[aG];omega
  ·obtain rfl:j=256:=by omega
   simp only[jE];have hV:U (V=aA #[I Gq,O J 0]):=⟨by rw[<-HV.o,iP];exact fun i hi=>⟨Hpos.o i,Hin.o i hi⟩⟩;clear hj hlt;go_wp2_with (first
    | (refine iL rfl 76 _ rfl w2.heap.size rfl 76 Gq (0,0) _ r3.o zX rfl Gi.o ?_)
    | (refine iS rfl 76 _ _ rfl w.heap.size Gq rfl rfl 76 _ r0.o Gi.o (by rw[Hzs.o,Gs.o]) Go.o ?_))
   refine iV (v:=aA #[I Gq,O J 0]) (bL.results_cell_tmp rfl _ _ w.heap.size 76 _ (0,0) _ rfl (jD _ _ _ _ _ _ r0.o) zX rfl Gi.o _ rfl) rfl ?_;exact⟨by rw[hV.o],B3.o.trans (below_setRow _ _ _ (iM _))⟩
end bY
namespace cG
open arr mem bD dZ aT bE aW aY bC bA bL bY rfld
theorem xse(s:ByteArray)(low high:Int)(w:G)(c:Int)(h1 : 0<=low)(h2 : 1<=high)(h3:low<4190208)(h4:high<4190208)(hc:c≠0)
 (hu:∀ w1:G,aD aO 92 #[E s,O J (low+high)] w1 (zB w1 (aA #[I (FL J 256 fun _=>0),O J c]))):
 aD aO 55 #[E s,O J low,O J high] w (zB w (aA #[I (FL J 256 fun _=>0),O J c])):=by
 have HU:=D hu;clear hu;obtain⟨hz,hsize⟩:=iY aX;obtain⟨z,HZ⟩:=aQ (FL J 256 fun _=>0);rw[HZ.o]at hz HU ⊢;have Hzs:=dP HZ;have Zi:=zsz Hzs hsize;have Zo:=eJ HZ;obtain⟨W,hW⟩:=aP (w.alloc (Y z 76));have HW:=D hW;have BW:=zba hW;have hrow:=zhp hW;have hWs:U (W.heap.size=w.heap.size+1):=⟨by rw[<-hW,size_alloc]⟩;have g1:¬ low<0:=by omega
 have g2:¬ high<1:=by omega
 have g3:¬ 4190208<=low:=by omega
 have g4:¬ 4190208<=high:=by omega
 have fl2:J.wrap (low+high)=low+high:=bB;have fc:(c != 0)=true:=by simpa using hc
 clear hW hsize HZ h1 h2 h3 h4 hc;go_enter Tryz.func55,Tryz.ntmps55;go_wp2_with (rw[HW.o]);refine(HU.o _).mono ?_;rintro e w2 ⟨rfl,hb2⟩;have hrow2:U (w2.heap[w.heap.size]? = some (Y z 76 (0,0))):=⟨(hb2.block w.heap.size (by rw[hWs.o];omega)).trans hrow.o⟩;have B2:U (zb w w2):=⟨BW.o.trans (hb2.mono (by rw[hWs.o];omega))⟩;have hlt2:w.heap.size<w2.heap.size:=by have:=hb2.size;rw[hWs.o]at this;omega
 obtain⟨W3,hW3⟩:=aP (w2.alloc (Y z 76));have HW3:=D hW3;have r3:=zhp hW3;have r0:U (W3.heap[w.heap.size]? = some (Y z 76 (0,0))):=⟨by rw[<-hW3,fF _ _ _ hlt2];exact hrow2.o⟩;have B3:U (zb w W3):=⟨by rw[<-hW3];exact B2.o.alloc (by omega) _⟩;clear hb2 hW3 hlt2;go_wp2_with (first
  | ((with_reducible refine fV rfl 76 _ _ rfl z ?hx ?hy ?hi ?ho ?h1 ?hn ?_);(case hx=>rfl);(case hy=>rfl);(case hi=>exact Zi.o);(case ho=>rfl);(case h1=>exact Zo.o);(case hn=>rfl);rw[HW3.o])
  | (refine iL rfl 76 _ rfl w2.heap.size rfl 76 z (0,0) _ r3.o zX rfl Zi.o ?_)
  | (refine iS rfl 76 _ _ rfl w.heap.size z rfl rfl 76 _ r0.o Zi.o rfl Zo.o ?_))
 refine iV (v:=aA #[I z,O J c]) (bL.results_cell_tmp rfl _ _ w.heap.size 76 _ (0,0) _ rfl (jD _ _ _ _ _ _ r0.o) zX rfl Zi.o _ rfl) rfl ?_;exact⟨rfl,B3.o.trans (below_setRow _ _ _ (iM _))⟩
theorem xjy(s:ByteArray)(low high:Int)(w:G)(f:Nat->Int)(h1 : 0<=low)(h2 : 1<=high)(h3:low<4190208)(h4:high<4190208)(hf:∀ i,i<256->0<=f i/\f i<=low+high)
 (hu:∀ w1:G,aD aO 92 #[E s,O J (low+high)] w1 (zB w1 (aA #[I (FL J 256 f),O J 0]))):
 aD aO 55 #[E s,O J low,O J high] w (zB w (aA #[I (FL J 256 (un f high)),O J 0])):=by
 have HU:=D hu;have Hf:=D hf;clear hu hf;have Hidx:U (∀ i:Nat,i<256->∀ w1,(aN 76 (I (FL J 256 f)) (O J (i:Int))).run aO w1=.ok (O J (f i)) w1):=⟨fun i hi w1=>xct (P:=aO) zX (by kernel_rfl) (by kernel_rfl) (by kernel_rfl) _ _ i hi (xba J 256 f i hi) w1⟩;obtain⟨hz,hsize⟩:=iY aX;obtain⟨z,HZ⟩:=aQ (FL J 256 fun _=>0);rw[HZ.o]at hz;have Hzs:=dP HZ;have Fs:U ((FL J 256 f).size=256):=⟨cC _ _ _⟩;have Fo:U ((FL J 256 f).all (·.oneCell')=true):=⟨xbj _ _ _⟩;have Hpz:U (FL J 256 (pt (un f high) f 0)=FL J 256 f):=⟨by rw[xbf]⟩;obtain⟨F,HF⟩:=aQ (FL J 256 f);rw[HF.o]at HU Hidx Fs Fo Hpz;have Fi:=zsz Fs hsize;have Gs:U ((FL J 256 (un f high)).size=256):=⟨cC _ _ _⟩;have Go:U ((FL J 256 (un f high)).all (·.oneCell')=true):=⟨xbj _ _ _⟩;have Hall:U (FL J 256 (pt (un f high) f 256)=FL J 256 (un f high)):=⟨xbc _ _ _ _⟩;obtain⟨Gq,HG⟩:=aQ (FL J 256 (un f high));rw[HG.o]at Gs Go Hall ⊢;have Gi:=zsz Gs hsize;obtain⟨W,hW⟩:=aP (w.alloc (Y z 76));have HW:=D hW;have BW:=zba hW;have hrow:=zhp hW;have hWs:U (W.heap.size=w.heap.size+1):=⟨by rw[<-hW,size_alloc]⟩;have g1:¬ low<0:=by omega
 have g2:¬ high<1:=by omega
 have g3:¬ 4190208<=low:=by omega
 have g4:¬ 4190208<=high:=by omega
 have fl2:J.wrap (low+high)=low+high:=bB;have HL:=D (jA h1 (jA h2 (jA h3 h4)));clear hW hsize HZ HG HF h1 h2 h3 h4;go_enter Tryz.func55,Tryz.ntmps55;go_wp2_with (rw[HW.o]);refine(HU.o _).mono ?_;rintro e w2 ⟨rfl,hb2⟩;have hrow2:U (w2.heap[w.heap.size]? = some (Y z 76 (0,0))):=⟨(hb2.block w.heap.size (by rw[hWs.o];omega)).trans hrow.o⟩;have B2:U (zb w w2):=⟨BW.o.trans (hb2.mono (by rw[hWs.o];omega))⟩;have hlt2:w.heap.size<w2.heap.size:=by have:=hb2.size;rw[hWs.o]at this;omega
 obtain⟨W3,hW3⟩:=aP (w2.alloc (Y F 76));have HW3:=D hW3;have r3:=zhp hW3;have r0:U (W3.heap[w.heap.size]? = some (Y z 76 (0,0))):=⟨by rw[<-hW3,fF _ _ _ hlt2];exact hrow2.o⟩;have B3:U (zb w W3):=⟨by rw[<-hW3];exact B2.o.alloc (by omega) _⟩;have A0:U (At w2.heap.size (FL J 256 (pt (un f high) f 0)) 76 W3 W3):=⟨by rw[Hpz.o];exact At.refl r3.o⟩;have Hlt2:=D hlt2;clear hb2 hW3 hlt2;go_wp2_with (first
  | ((with_reducible refine fV rfl 76 _ _ rfl F ?hx ?hy ?hi ?ho ?h1 ?hn ?_);(case hx=>rfl);(case hy=>rfl);(case hi=>exact Fi.o);(case ho=>rw[Hzs.o,Fs.o]);(case h1=>exact Fo.o);(case hn=>rfl);rw[HW3.o])
  | (refine iL rfl 76 _ rfl w2.heap.size rfl 76 F (0,0) _ r3.o zX rfl Fi.o ?_))
 go_loopw [40] (fun c wr=>∃ j:Nat,j<=256/\c=O J (j:Int)/\U (At w2.heap.size (FL J 256 (pt (un f high) f j)) 76 W3 wr)) (fun c _=>256-(aG c).toNat)
 case atStart=>exact⟨0,iX _,rfl,A0⟩
 case round=>
  clear A0;obtain⟨j,hj,rfl,A0⟩:=hrel;by_cases hlt:j<256
  ·have hjz:(j:Int)<256:=by omega
   have hidx:=Hidx.o j hlt;have hfj:=Hf.o j hlt;obtain⟨x,hx⟩:=aP (f j);rw[hx]at hidx hfj;have fs:J.wrap (high-x)=high-x:=by rw[iN];have:=HL.o;omega
   have hun:U ((high-x)%8380417=un f high j):=⟨by unfold un;rw[hx]⟩;have Hre:=D (fun w1=>eU (high-x) w1);obtain⟨y,hy⟩:=aP ((high-x)%8380417);rw[hy]at hun Hre;clear hx hy hfj;go_wp2_with fail;refine(Hre.o _).mono ?_;rintro e w5 ⟨rfl,rfl⟩;clear hidx;go_wp2_with ((with_reducible refine cU A0 rfl _ _ _ rfl rfl ?_);refine⟨_,_,_,rfl,rfl,rfl,(by rw[cC];exact hlt),?_⟩;intro wn HR;rw[eV,xa1 _ _ _ _ hun.o]at HR);go_roundw
   case rel=>exact⟨j+1,by omega,by go_num,HR⟩
   case measure=>simp[aG];omega
  ·obtain rfl:j=256:=by omega
   simp only[jE];rw[Hall.o]at A0;have rg:=D A0.o.row;have rz:U (wr.heap[w.heap.size]? = some (Y z 76 (0,0))):=⟨A0.o.other (jW.1 r0.o).1 (by have:=Hlt2.o;omega) r0.o⟩;have BE:U (zb w wr):=⟨B3.o.trans (A0.o.below (by exact B3.o.size) (by have:=Hlt2.o;omega))⟩;clear A0 hj hlt;go_wp2_with (first
    | (refine iL rfl 76 _ rfl w2.heap.size rfl 76 Gq (0,0) _ rg.o zX rfl Gi.o ?_)
    | (refine iS rfl 76 _ _ rfl w.heap.size Gq rfl rfl 76 _ rz.o Gi.o (by rw[Hzs.o,Gs.o]) Go.o ?_))
   refine iV (v:=aA #[I Gq,O J 0]) (bL.results_cell_tmp rfl _ _ w.heap.size 76 _ (0,0) _ rfl (jD _ _ _ _ _ _ rz.o) zX rfl Gi.o _ rfl) rfl ?_;exact⟨rfl,BE.o.trans (below_setRow _ _ _ (iM _))⟩
end cG
namespace bM
open arr mem cZ bU dD aT aV aW bC bY cG bF fW fL fD bQ fO
theorem ball{T:Array aE}(b:ByteArray)(tau:Int)(w:G)(hK:KT T TL RL)(hb:b.size<=1125899906842624):
 aD aO 40 #[I T,E b,O J tau] w (zB w (I (FL J 256 (dB b tau)))):=by
 unfold dB;by_cases h : 1<=tau/\tau<=64
 ·obtain⟨t,rfl⟩:=kR (a:=tau) (by omega);rw[xh7 _ t (by omega) (by omega)];exact rsball.xta b _ t w (dI T hK) (by omega) (by omega) (xb1 2 b 544) fun w1=>rsph.xhm 2 b 544 w1 hK rfl (by decide) hb
 ·rw[xkd _ _ h];exact rsball.xs9 b (out TL RL 2 b 544) tau w (dI T hK) h fun w1=>rsph.xhm 2 b 544 w1 hK rfl (by decide) hb
theorem unsigned(s:ByteArray)(a:Int)(w:G)(ha:a=131072\/a=524288)(hs:s.size=32*mw a):
 aD aO 55 #[E s,O J (a-1),O J a] w (zB w (aA #[I (FL J 256 (un (up s (mw a)) a)),O J 0])):=by
 obtain⟨h1,h2,h3⟩:=xd5 a ha;have hin:∀ i,0<=up s (mw a) i/\up s (mw a) i<=a-1+a:=fun i=>by have:=xjz s (mw a) i;rw[h3]at this;omega
 refine cG.xjy s (a-1) a w (up s (mw a)) (by omega) (by omega) (by omega) (by omega) (fun i _=>hin i) fun w1=>?_
 have h:=bY.xgh s (a-1+a) w1 (by omega) (by omega) (by rw[h1];exact hs);rw[h1,iP (show bA.fK (up s (mw a)) (a-1+a) from fun i _=>hin i)]at h;exact h
end bM
namespace rgp
open arr mem aT aV bS bQ cV aR
theorem yah{o:Oper}{a:Act}{w:G}{K:Act->G->Prop}{Q:Exit->Act->G->Prop}(s x:Operand)(ho:o.op=.call { callee:=.builtin .append,args:=#[s,x],argTypes:=#[44,44] })(B n:Nat)(v:aE)(q:Nat->Nat->Int)(F:Array aE)(hF:FL J 256 (q n)=F)(hn:n<=1000)
 (hown:w.ownsRow B 76 256 v n (cq q n)) (hs:a.eval s=v) (hx:a.eval x=aB (some ⟨w.heap.size,0,none⟩) 1 1) (hB:B<=w.heap.size)
 (h:∀ v' w',w'.ownsRow B 76 256 v' (n+1) (cq q (n+1))->aF B w w'->(∀ k,k<w.heap.size->v.ownBlock≠some k->w'.heap[k]? = w.heap[k]?)->K (a.put o.dst v') w'):o.wp aO a (w.alloc (Y F 76)) K Q:=by
 obtain⟨i0,hi,hz0,hz1,hz2⟩:=iC bX;have hFs:F.size=256:=by rw[<-hF];exact cC _ _ _
 have hFo:F.all (·.oneCell')=true:=by rw[<-hF];exact xbj _ _ _
 refine wp_append_own _ s x 44 ho B 76 i0 (I (FL J 256 fun _=>0)) 256 2048 Tryz.underlying44 hi hz0 hz1 hz2 (cC _ _ _) (by decide) v n (cq q n) hs (hown.alloc _) ⟨w.heap.size,0,none⟩ 1 1 F.toList hx (by rw[jM,hFs]) (fun j u hu=>xdw hu) (fun u hu=>xek hFo u hu) (by unfold maxLen;omega) (by omega) (by rw[size_alloc];omega) ?_;intro v' w' h1 h2 _;refine h v' w' (by rw[cq,hF];exact h1) (((iR B w).alloc hB _).grown h2 (by rw[size_alloc];omega) (fun k hk=>(hown.lt k hk).1)) fun k hk hne=>?_
 rw[h2.block k (by rw[size_alloc];omega) (fun e=>hne e.symm)];exact fF _ _ _ hk
theorem yaf{ops:Array Oper}{rest:List Oper}{o:Oper}{a:Act}{w:G}{Q:Exit->Act->G->Prop}(hgd:o.guard=none)(s x:Operand)(ho:o.op=.call { callee:=.builtin .append,args:=#[s,x],argTypes:=#[44,44] })(B n:Nat)(v:aE)(q:Nat->Nat->Int)(F:Array aE)(hF:FL J 256 (q n)=F)(hn:n<=1000)
 (hown:w.ownsRow B 76 256 v n (cq q n)) (hs:a.eval s=v) (hx:a.eval x=aB (some ⟨w.heap.size,0,none⟩) 1 1) (hB:B<=w.heap.size)
 (h:∀ v' w',w'.ownsRow B 76 256 v' (n+1) (cq q (n+1))->aF B w w'->wpList aO ops Q rest (a.put o.dst v') w'):wpList aO ops Q (o :: rest) a (w.alloc (Y F 76)):=
 wpList_plain hgd fun _ hK=>yah s x ho B n v q F hF hn hown hs hx hB fun v' w' h1 h2 _=>hK _ _ (h v' w' h1 h2)
end rgp
namespace vrp
open arr mem bD aT aV bS cY bF bQ bM bZ dJ cV aR aW aY bC bA bL bY cG gE fA mlvr vary varyn varye pvar rgp
theorem xe7{fn:Func}{t u v x:Tmp}(h:fn.results=#[.tmp t,.tmp u,.tmp v,.tmp x])(tmps:Array aE)(P:aI)(w:G):
 (results fn tmps).run P w=.ok (.tuple #[tmps.getD t undef,tmps.getD u undef,tmps.getD v undef,tmps.getD x undef]) w:=by
 simp[results,h]
theorem xd9(kn ln:Nat)(e t a b o s:Int)(x:ByteArray)(w:G)(h:bP (kn:Int) (ln:Int) e t a b o s=true):
 aD aO 14 #[I (bO (kn:Int) (ln:Int) e t a b o s),E x] w fun r w'=>(∃ v,r=.returned v/\PV w' w.heap.size x kn ln a o s v)/\zb w w':=by
 obtain⟨hk,hl,-,ha,ho,hs⟩:=xbe h;have hk : 1<=kn/\kn<=8:=by omega
 have hl : 1<=ln/\ln<=8:=by omega
 have hmw:=(xd5 a ha).2.1;obtain⟨om,rfl⟩:=kR (a:=o) (by omega);have hom : 1<=om/\om<=100:=by omega
 obtain⟨l4,hl4⟩:=aP ((s / 4).toNat);have hl4e:s / 4=(l4:Int):=by omega
 have hl4t:s.tdiv 4=(l4:Int):=by rw[iU (by omega)];exact hl4e
 have hl4z:l4<=64:=by omega
 have hl4w:J.wrap (l4:Int)=(l4:Int):=bB;obtain⟨lg,hlg⟩:=aP (lb (a-1).toNat);have hmwl:mw a=lg+1:=by rw[<-hlg];rfl
 obtain⟨wd,hwd⟩:=aP (32*mw a);have hwz:wd<=2048:=by omega
 obtain⟨a1,ha1⟩:=aP (a-1);have haw:J.wrap (a-1)=a1:=bB;have g1:J.wrap ((lg:Int)+1)=((lg+1:Nat):Int):=bB;obtain⟨lg1,hlg1⟩:=aP (lg+1);have g2:J.wrap (32*(lg1:Int))=(wd:Int):=bB;rw[hlg1]at g1;obtain⟨tt,htt⟩:=aP (hAt ln a s);have htt2:l4+wd*ln=tt:=by rw[<-htt,<-hl4,<-hwd];rfl
 have htz:wd*ln<=16384:=jJ (lA hwz hl.2) (by decide);obtain⟨n3,hn3⟩:=aP (sz3 kn ln a om s);have hn3e:n3=((tt+(om+kn):Nat):Int):=by
  rw[<-hn3,sz_is h];unfold szV;rw[htt,kL]
 have hn30:(n3==0)=false:=by simp;omega
 obtain⟨n1,hn1⟩:=aP (gX kn);obtain⟨n2,hn2⟩:=aP (sz2 kn ln e);have HSz:U (∀ w1:G,aD aO 53 #[I (bO (kn:Int) (ln:Int) e t a b (om:Int) s)] w1 (zB w1 (.tuple #[O J n1,O J n2,O J n3]))):=⟨fun w1=>by
  have h1:=fA.xdl kn ln e t a b om s w1;unfold szs at h1;rw[iP h,hn1,hn2,hn3]at h1;exact h1⟩
 have HLg:U (∀ w1:G,aD aO 54 #[O J a1] w1 (zE w1 (O J (lg:Int)))):=⟨fun w1=>by
  have h1:=aW.xc3 a1 (by omega) w1;rw[<-ha1,hlg]at h1;rw[<-ha1];exact h1⟩
 obtain⟨Q,hQ⟩:=aP (vZ x a s);have HUs:U (x.size=tt+(om+kn)->∀ r,r<ln->∀ w1:G,aD aO 55 #[E (x.extract (l4+wd*r) (l4+wd*r+wd)),O J a1,O J a] w1 (zB w1 (aA #[I (FL J 256 (Q r)),O J 0]))):=⟨fun hx r hr w1=>by
  rw[<-ha1,<-hQ];have h1:=bM.unsigned (x.extract (l4+wd*r) (l4+wd*r+wd)) a w1 ha (by
   have h2:=kJ wd (show r+1<=ln from hr);rw[kG]at h2;rw[size_extract _ _ _ (by omega) (by omega),hwd];omega)
  unfold vZ iB rdU;rw[hl4,hwd];exact h1⟩
 have HUh:U (x.size=tt+(om+kn)->∀ w1:G,aD aO 56 #[E (x.extract tt x.size),O J (om:Int),O J (kn:Int)] w1 fun e0 w'=>((okV x kn ln a om s/\∃ v,e0=.returned (.tuple #[v,O J 0])/\Holds w' w1.heap.size v kn (vH x ln a om s))\/(¬ okV x kn ln a om s/\e0=.returned (aA #[aB none 0 0,O J 3])))/\zb w1 w'):=⟨fun hx w1=>by
  have h1:=gE.xm9 (x.extract tt x.size) kn om w1 hk.1 hk.2 hom.1 (by omega) (by rw[size_extract _ _ _ (by omega) (iM _)];omega);have e1:okV x kn ln a om s↔uok (fun j=>(aU (x.extract tt x.size)).getD j 0) om kn:=by
   unfold okV bV szV;rw[htt,kL];exact⟨fun h=>h.2,fun h=>⟨hx,h⟩⟩
  have e2:vH x ln a om s=ply (fun j=>(aU (x.extract tt x.size)).getD j 0) om:=by
   unfold vH bV;rw[htt,kL]
  rw[e1,e2];refine h1.mono ?_;rintro e0 w' ⟨⟨q1,v,rfl,q2⟩ | q,hb⟩
  ·exact⟨kW ⟨q1,v,rfl,bS.xe4 hk.1 q2⟩,hb⟩
  ·exact⟨kO q,hb⟩⟩
 have HS1:U (vS x s=x.extract 0 l4):=⟨by unfold vS;rw[hl4]⟩;obtain⟨L,HL⟩:=aQ ((bO (kn:Int) (ln:Int) e t a b (om:Int) s):Array aE);rw[HL.o]at HSz ⊢;have HLs:U ((aO.info? 37).map (·.size)=some L.size):=⟨by rw[<-HL.o];kernel_rfl⟩;obtain⟨W,hW⟩:=aP (w.alloc (Y L 37));obtain⟨r0,hWs,b0⟩:=one hW;have LB:=gW r0;have HC7:U (∀ w':G,zb W w'->w'.cell? ⟨w.heap.size,7,none⟩=some (O J s)):=⟨fun w' hb=>aZ (LB.o w' hb) (by rw[<-HL.o];rfl)⟩;have HC6:U (∀ w':G,zb W w'->w'.cell? ⟨w.heap.size,6,none⟩=some (O J (om:Int))):=⟨fun w' hb=>aZ (LB.o w' hb) (by rw[<-HL.o];rfl)⟩;have HC0:U (∀ w':G,zb W w'->w'.cell? ⟨w.heap.size,0,none⟩=some (O J (kn:Int))):=⟨fun w' hb=>aZ (LB.o w' hb) (by rw[<-HL.o];rfl)⟩;have HC1:U (∀ w':G,zb W w'->w'.cell? ⟨w.heap.size,1,none⟩=some (O J (ln:Int))):=⟨fun w' hb=>aZ (LB.o w' hb) (by rw[<-HL.o];rfl)⟩;have HC4:U (∀ w':G,zb W w'->w'.cell? ⟨w.heap.size,4,none⟩=some (O J a)):=⟨fun w' hb=>aZ (LB.o w' hb) (by rw[<-HL.o];rfl)⟩;have BW:=D b0;have HW:=D hW;have Hno:U (x.size≠tt+(om+kn)->¬ okV x kn ln a om s):=⟨fun hne hh=>hne (by have h1:=hh.1;unfold szV at h1;rw[htt,kL]at h1;exact h1)⟩;have Hn3:=D hn3e;have Htt2:=D htt2;have Htb:U (tt<=20000/\l4<=64/\wd<=2048):=⟨by omega⟩;have Hl:=D hl;have hl8:=hl.2;obtain⟨i0,hi,hz0,hz1,hz2⟩:=iC aV.bX;obtain⟨hz,hsize⟩:=iY aV.aX;obtain⟨z,HZ⟩:=aQ (FL J 256 fun _=>0);rw[HZ.o]at hz0
 have HI:=D (jA hi (jA hz0 hz1));have Hsize:=D hsize;clear h hs ha hk hl hmw hl4 hl4z hlg hmwl hlg1 hwd hwz ha1 htt htz hn3 hn1 hn2 hn3e htt2 hW r0 hWs b0 ho hi hz0 hz1 hz2 hz hsize;go_enter Tryz.func14,Tryz.ntmps14;go_wp2_with (first
  | (rw[HW.o])
  | (refine iL rfl 37 _ rfl w.heap.size rfl 37 _ (0,0) _ (LB.o _ (iR _ _)) zZ rfl HLs.o ?_))
 refine(HSz.o _).mono ?_;rintro y u2 ⟨rfl,hb2⟩;have E2:U (zb W u2):=⟨hb2⟩;have D2:=bK BW E2.o;clear hb2;by_cases hx:x.size=tt+(om+kn)
 ·have hne:((x.size:Int) != n3)=false:=by rw[Hn3.o,hx];simp
  have HUq:=D (HUh.o hx);have HUr:=D (HUs.o hx);have Hxs:U (tt<=x.size):=⟨by omega⟩;have c7:=HC7.o _ E2.o;have c4:=HC4.o _ E2.o;clear hx;go_wp2_with fail;refine(HLg.o _).mono ?_;rintro y u9 ⟨rfl,hu9⟩;rw[hu9];clear hu9 u9;have c1:=HC1.o _ E2.o;go_wp2_with fail;clear c7 c4 c1;go_loopw [11,13,41] (fun av lv iv wr=>∃ r:Nat,r<=ln/\av=O J ((l4+wd*r:Nat):Int)/\iv=O J (r:Int)/\U (wr.ownsRow W.heap.size 76 256 lv r (cq Q r))/\U (zb W wr)) (fun _ _ iv _=>ln-(aG iv).toNat)
  case atStart=>exact⟨0,iX _,rfl,rfl,⟨⟨rfl,kW ⟨rfl,rfl⟩⟩⟩,E2⟩
  case round=>
   obtain⟨r,hr,rfl,rfl,Oy,Hb⟩:=hrel;obtain⟨p,hp⟩:=aP (l4+wd*r);rw[hp];by_cases hlt:r<ln
   ·have hrz:(r:Int)<(ln:Int):=by omega
    have HUi:=HUr.o r hlt;rw[hp]at HUi;have hmul:=kJ wd (show r+1<=ln from hlt);rw[kG]at hmul;obtain⟨p2,hp2⟩:=aP (p+wd);have hp3:l4+wd*(r+1)=p2:=by rw[kG];omega
    have hpt:p2<=tt:=by have:=Htt2.o;omega
    have h1:p2<=x.size:=by have:=Hxs.o;omega
    have h2:p<=p2:=by omega
    have f1:J.wrap ((p:Int)+(wd:Int))=(p2:Int):=by rw[iN];have:=Htb.o;omega
    rw[hp2]at HUi;obtain⟨X,HX⟩:=aQ (x.extract p p2);have hex:=HX.o;rw[HX.o]at HUi;have Ft:U (Fits aO 76 (FL J 256 fun _=>0) (FL J 256 (Q r))):=⟨iA _⟩;obtain⟨F,HF⟩:=aQ (FL J 256 (Q r));rw[HF.o]at HUi Ft;have HUi:=D HUi;have Fs:=dP HF;have Fi:=zsz Fs Hsize.o;have C4:U (∀ w':G,zb wr w'->w'.cell? ⟨w.heap.size,4,none⟩=some (O J a)):=⟨fun w' hb=>HC4.o w' (Hb.o.trans (hb.mono Hb.o.size))⟩;have Hlt:=D hlt;have Hp3:=D hp3;clear hp hp2 hp3 hmul hpt;go_wp2_with fail;refine xxr 15 16 13 14 56 76 (FL J 256 fun _=>0) (by kernel_rfl) (by kernel_rfl) rfl (by kernel_rfl) rfl (fun ρ o w1 ho=>fQ ρ o w1 ho) (by simp) (fun ops HO=>?_);simp only[List.eraseIdx_cons_succ,List.eraseIdx_cons_zero];refine cX rfl (fun K hK=>?_);go_simp
    apply jG;refine⟨fun w9 hw9=>?_,hK _ ?_⟩;rfl;clear hK K;refine cX rfl (fun K hK=>?_);go_simp
    apply jG;refine⟨fun w9 hw9=>?_,hK _ ?_⟩;rfl;clear hK K;refine cX rfl (fun K hK=>?_);go_simp
    apply jG;refine⟨fun w9 hw9=>?_,hK _ ?_⟩;rfl;clear hK K;refine cX rfl (fun K hK=>?_);go_simp
    apply jG;refine⟨fun w9 hw9=>?_,hK _ ?_⟩;rfl;clear hK K;refine cX rfl (fun K hK=>?_);go_simp
    apply jG;refine⟨fun w9 hw9=>?_,hK _ ?_⟩;rfl;clear hK K;refine cX rfl (fun K hK=>?_);go_simp
    apply jG;refine⟨fun w9 hw9=>?_,hK _ ?_⟩;rfl;clear hK K;refine cX rfl (fun K hK=>?_);go_simp
    apply jG;refine⟨fun w9 hw9=>?_,hK _ ?_⟩;rfl;clear hK K;refine xdq rfl (O J a) (fun w9 hw9=>by have hc:=C4.o w9 hw9;go_simp;first | done | with_reducible rfl) ?_;refine cX rfl (fun K hK=>?_);go_simp
    apply jG;refine⟨fun w9 hw9=>?_,hK _ ?_⟩;rfl;clear hK K;refine cX rfl (fun K hK=>?_);go_simp
    apply jG;refine⟨fun w9 hw9=>?_,hK _ ?_⟩;rfl;clear hK K;refine xdq rfl (O J a) (fun w9 hw9=>by have hc:=C4.o w9 hw9;go_simp;first | done | with_reducible rfl) ?_;refine cX rfl (fun K hK=>?_);go_simp
    apply jG;refine⟨fun w9 hw9=>?_,hK _ ?_⟩;exact HUi.o w9;clear hK K;refine cX rfl (fun K hK=>?_);go_simp
    apply jG;refine⟨fun w9 hw9=>?_,hK _ ?_⟩;rfl;clear hK K;refine cX rfl (fun K hK=>?_);go_simp
    apply jG;refine⟨fun w9 hw9=>?_,hK _ ?_⟩;rfl;clear hK K;refine cX rfl (fun K hK=>?_);go_simp
    apply jG;refine⟨fun w9 hw9=>?_,hK _ ?_⟩;rfl;clear hK K;refine cX rfl (fun K hK=>?_);go_simp
    apply jG;refine⟨fun w9 hw9=>?_,hK _ ?_⟩;rfl;clear hK K;refine⟨F,rfl,Ft.o,fun p1 w3 l1 hb3 r3=>?_⟩;simp only[aM,aR.pa,aR.pb,aR.pc,vary.ptr];have E3:=bK Hb hb3;have O3:U (w3.ownsRow W.heap.size 76 256 u13 r (cq Q r)):=⟨aV.xcv Oy.o hb3⟩;have R3:=D r3;have L3:W.heap.size<=w3.heap.size:=E3.o.size;clear HO hb3 r3 l1;go_wp2_with (first
     | (refine iL rfl 76 _ rfl p1 rfl 76 F (0,0) _ R3.o zX rfl Fi.o ?_)
     | (with_reducible refine fork.xsi rfl 44 76 _ rfl F Fs.o i0 z Tryz.underlying44 HI.o.1 HI.o.2.1 HI.o.2.2 rfl ?_)
     | (at_builtin;refine yaf rfl _ _ rfl W.heap.size r _ Q F HF.o (by omega) O3.o rfl rfl L3 ?_;intro v8 w8 hown8 hbl8))
    have O8:=D hown8;have E8:U (zb W w8):=⟨E3.o.trans hbl8⟩;clear hown8 hbl8;go_wp2_with fail;go_roundw
    case rel=>exact⟨r+1,by have:=Hlt.o;omega,by rw[Hp3.o],by go_num,O8,E8⟩
    case measure=>have:=Hlt.o;simp[aG];omega
   ·obtain rfl:r=ln:=by omega
    have hpt:p=tt:=by have:=Htt2.o;omega
    have g9:p<=x.size:=by have:=Hxs.o;omega
    rw[<-hpt]at HUq;obtain⟨X1,HX1⟩:=aQ (x.extract p x.size);have hX1:=HX1.o;rw[hX1]at HUq;have Hln:=D Hl.o.1;clear hp hpt hlt;go_wp2_with fail;refine xa4 (wr.heap.size) 13 [0,1,2,3,4,5,6,7,8,9,10,11,12] (by kernel_rfl) rfl rfl (by decide) (fun hS ops HO=>?_);simp only[jT,fa,jF,jL];iterate 4 (refine zU hS ?_)
    refine zD ((fun w9 h9=>HC6.o w9 (Hb.o.trans (h9.mono Hb.o.size)))) hS ?_;refine zU hS ?_;refine zD ((fun w9 h9=>HC0.o w9 (Hb.o.trans (h9.mono Hb.o.size)))) hS ?_;refine zS fun K hK=>?_
    go_simp
    refine(HUq.o _).mono ?_;rintro y w2 ⟨⟨bR,v,rfl,hv⟩ | ⟨bR,rfl⟩,hb2⟩
    ·have h2:=hS.trans (hb2.mono hS.size);refine hK _ _ h2 ?_;clear hK K;try simp only[aM,pa,pb,pc]
     iterate 5 (refine zU h2 ?_)
     refine zN ?_;have E4:=bK Hb h2;have D4:=bK BW E4.o;have Hok:=D bR;have Hv:U (Holds w2 w.heap.size v kn (vH x r a om s)):=⟨let ⟨g9,c9,e9,l9,m9,n9⟩:=hv;⟨g9,c9,e9,jJ (jJ (jJ BW.o.size Hb.o.size) hS.size) l9,m9,n9⟩⟩;have Hy:U (Holds w2 w.heap.size u13 r Q):=⟨let ⟨g9,c9,e9,l9,m9,n9⟩:=(bQ.xe4 Hln.o Oy.o).later h2;⟨g9,c9,e9,jJ BW.o.size l9,m9,n9⟩⟩;have c7:=HC7.o _ E4.o;have g8:l4<=x.size:=by have:=Htt2.o;have:=Hxs.o;omega
     clear hS HO hb2 h2 bR hv Oy;go_wp2_with fail;refine bodyPost_ret (xe7 rfl _ _ _) rfl ?_;exact⟨⟨_,rfl,kW ⟨Hok.o,_,_,by rw[HS1.o];rfl,by rw[hQ];exact Hy.o,Hv.o⟩⟩,D4.o⟩
    ·have h2:=hS.trans (hb2.mono hS.size);refine hK _ _ h2 ?_;clear hK K;try simp only[aM,pa,pb,pc]
     iterate 5 (refine zU h2 ?_)
     refine zN ?_;have E4:=bK Hb h2;have D4:=bK BW E4.o;have Hok:=D bR;clear hS HO hb2 h2 bR;go_wp2_with fail;refine bodyPost_ret (xe7 rfl _ _ _) rfl ?_;exact⟨⟨_,rfl,kO ⟨Hok.o,rfl⟩⟩,D4.o⟩
 ·have hne:((x.size:Int) != n3)=true:=by rw[Hn3.o];simp;omega
  have Hno2:=D (Hno.o hx);clear hx;go_wp2_with fail;refine bodyPost_ret (xe7 rfl _ _ _) rfl ?_;exact⟨⟨_,rfl,kO ⟨Hno2.o,rfl⟩⟩,D2.o⟩
end vrp
namespace rfld
open arr mem bE
theorem xdc(x m:Int)(w:G):aD aO 93 #[O J x,O J m] w (zE w (O J (ce m x))):=by
 unfold ce;by_cases h0:m<1
 ·rw[iP (kW h0)];go_enter Tryz.func93,Tryz.ntmps93;go_wp2_with fail;go_ret;exact⟨rfl,rfl⟩
 ·by_cases h1 : 1125899906842624<m
  ·rw[iP (kO h1)];go_enter Tryz.func93,Tryz.ntmps93;go_wp2_with fail;go_ret;exact⟨rfl,rfl⟩
  ·rw[iQ (by omega)];obtain⟨z,hz⟩:=aP (x%m);obtain⟨y,hy⟩:=aP (x.tmod m);have h:=xm0 x m (by omega);have hb : 0<=z/\z<m:=by rw[<-hz];exact⟨lK _ (by omega),kX _ (by omega)⟩
   rw[hz,hy]at h;rw[hz];obtain⟨d,hd⟩:=aP (m / 2);have fd:m.tdiv 2=d:=by rw[iU (by omega)];exact hd
   have fdw:J.wrap (m.tdiv 2)=d:=by rw[fd,iN];omega
   have hm0:¬ m=0:=by omega
   have hm1:(m==0)=false:=jV.2 hm0;rw[hd];rcases h with ⟨h2,h3⟩ | ⟨h2,h3⟩
   ·subst h3;have h4:¬ y<0:=by omega
    by_cases h5:d<y
    ·rw[iP h5];have hw:J.wrap (y-m)=y-m:=bB;clear hz;go_enter Tryz.func93,Tryz.ntmps93;go_wp2_with fail;go_ret;exact⟨rfl,rfl⟩
    ·rw[iQ h5];clear hz;go_enter Tryz.func93,Tryz.ntmps93;go_wp2_with fail;go_ret;exact⟨rfl,rfl⟩
   ·have hw:J.wrap (y+m)=z:=bB;have hw0:y+m=z:=h3;by_cases h5:d<z
    ·rw[iP h5];have hw2:J.wrap (z-m)=z-m:=bB;clear hz h3;go_enter Tryz.func93,Tryz.ntmps93;go_wp2_with fail;go_ret;exact⟨rfl,rfl⟩
    ·rw[iQ h5];clear hz h3;go_enter Tryz.func93,Tryz.ntmps93;go_wp2_with fail;go_ret;exact⟨rfl,rfl⟩
end rfld
namespace r7sb
open arr mem bD aT aV bE rfld
theorem xhq(f g:Nat->Int)(w:G):
 aD aO 47 #[I (FL J 256 f),I (FL J 256 g)] w (zB w (I (FL J 256 fun i=>(f i-g i)%8380417))):=by
 obtain⟨hz,hsize⟩:=iY aX;obtain⟨z,HZ⟩:=aQ (FL J 256 fun _=>0);rw[HZ.o]at hz;have Hzs:=dP HZ;obtain⟨F,HF⟩:∃ F:Nat->Int,U (F=fun i=>(f i-g i)%8380417):=⟨_,⟨rfl⟩⟩;have hFi:∀ i,F i=(fun i=>(f i-g i)%8380417) i:=fun i=>by rw[HF.o]
 have HFi:=D hFi;rw[<-HF.o];clear HF hFi;obtain⟨R,HR⟩:=aQ (FL J 256 F);have Ri:=eE HR hsize;have Ro:=eJ HR;have Rz:=gJ Hzs HR;rw[HR.o];have Hred:=D eU;clear hsize;go_enter Tryz.func47,Tryz.ntmps47;go_wp2_with fail;clear hz;obtain⟨W,hW⟩:=aP (((w.alloc (Y (FL J 256 f) 76)).alloc (Y (FL J 256 g) 76)).alloc (Y z 76));obtain⟨b0,b1,b2,hWs,hWb⟩:=three hW;rw[hW];clear hW;have B0:=D b0;have B1:=D b1;have BR:=D b2;have HWs:U (w.heap.size+3<=W.heap.size):=⟨by omega⟩;have HWb:=D hWb;clear hWs hWb b0 b1 b2;go_loopw [6] (fun v wr=>∃ i:Nat,i<=256/\v=O J (i:Int)/\U (At w.heap.size (FL J 256 (pt F f i)) 76 W wr)) (fun v _=>256-(aG v).toNat)
 case atStart=>exact⟨0,iX _,rfl,⟨by rw[xbf];exact At.refl B0.o⟩⟩
 case round=>
  obtain⟨i,hi,rfl,A0⟩:=hrel;by_cases hlt:i<256
  ·have hiz:(i:Int)<256:=by omega
   obtain⟨x,hx⟩:=aP (f i);have ca:wr.cell? ⟨w.heap.size,i,none⟩=some (O J x):=by
    have h9:=fZ A0.o.row i hlt;rw[xc5,hx]at h9;exact h9
   obtain⟨y,hy⟩:=aP (g i);have cb:wr.cell? ⟨w.heap.size+1,i,none⟩=some (O J y):=by
    rw[<-hy];exact fZ (A0.o.other (by have:=HWs.o;omega) (by omega) B1.o) i hlt
   have HV:U (F i=(x-y)%8380417):=⟨by rw[HFi.o,hx,hy]⟩;obtain⟨x1,hx1⟩:=aQ (x%8380417);obtain⟨y1,hy1⟩:=aQ (y%8380417);have hs:J.wrap (x1-y1)=x1-y1:=by rw[<-hx1.o,<-hy1.o,iN];omega
   obtain⟨s,hs1⟩:=aQ (x1-y1);have hs2:s%8380417=F i:=by rw[HV.o,<-hs1.o,<-hx1.o,<-hy1.o];omega
   obtain⟨v,hv⟩:=aQ (s%8380417);have Hx:∀ w1:G,aD aO 95 #[O J x] w1 (zE w1 (O J x1)):=fun w1=>by rw[<-hx1.o];exact eU x w1
   have Hy:∀ w1:G,aD aO 95 #[O J y] w1 (zE w1 (O J y1)):=fun w1=>by rw[<-hy1.o];exact eU y w1
   have Hs:∀ w1:G,aD aO 95 #[O J (x1-y1)] w1 (zE w1 (O J v)):=fun w1=>by rw[hs1.o,<-hv.o];exact eU s w1
   have HU:U (upd (pt F f i) i v=pt F f (i+1)):=⟨xa1 F f i v (by rw[<-hv.o,hs2])⟩;clear hy hs2;clear hx;go_wp2_with fail;refine gZ 12 (by kernel_rfl) (by kernel_rfl) ?_;simp only[jH,jU,iW,jK];repeat still_step
   still_call (Hx _)
   repeat still_step
   still_call (Hy _)
   repeat still_step
   still_call (Hs _)
   repeat still_step
   refine jR ?_;clear cb;clear ca;have A1:U (At w.heap.size (FL J 256 (pt F f i)) 76 W wr.drew):=⟨eN A0.o⟩;clear A0
   with_reducible refine cU A1 rfl _ _ _ rfl rfl ?_
   refine⟨_,_,_,rfl,rfl,rfl,by rw[cC];exact hlt,?_⟩;intro wn HR;rw[eV,HU.o]at HR;go_wp2_with fail;go_roundw
   case rel=>exact⟨i+1,by omega,by go_num,HR⟩
   case measure=>simp[aG];omega
  ·obtain rfl:i=256:=by omega
   simp only[jE];rw[xbc,HR.o]at A0;have Hrow:=D A0.o.row;have Hres:U (wr.heap[w.heap.size+2]? = some (Y z 76 (0,0))):=⟨A0.o.other (by have:=HWs.o;omega) (by omega) BR.o⟩;have HB:U (zb w wr):=⟨HWb.o.trans (A0.o.below (by have:=HWs.o;omega) (iM _))⟩;clear A0;go_wp2_with (first
    | (refine iL rfl 76 _ rfl w.heap.size rfl 76 R (0,0) _ Hrow.o zX rfl Ri.o ?_)
    | (refine iS rfl 76 _ _ rfl (w.heap.size+2) R rfl rfl 76 _ Hres.o Ri.o Rz.o Ro.o ?_))
   refine iV (v:=I R) (jC rfl _ _ (w.heap.size+2) 76 _ (0,0) _ rfl (jD _ _ _ _ _ _ Hres.o) zX rfl Ri.o) rfl ?_;exact⟨rfl,HB.o.trans (below_setRow _ _ _ (by omega))⟩
end r7sb
namespace r7sz
open arr mem bD aT aV bE rfld
theorem xb9(g n c:Nat)(p:Nat->Nat->Int)(w:G)(hn:n<=1000000000000)(hg:g<w.heap.size)(hc:∀ j,j<n->w.rangeAt g (256*j) (FL J 256 (p j)).toList):
 aD aO 37 #[aB (some ⟨g,0,none⟩) n c] w (zB w (O J (eW p n))):=by
 obtain⟨hz,hsize⟩:=iY aX;obtain⟨z,HZ⟩:=aQ (FL J 256 fun _=>0);rw[HZ.o]at hz;have Hzs:=dP HZ;clear HZ;have HR:=D hc;clear hc;go_enter Tryz.func37,Tryz.ntmps37;go_wp2_with fail;go_loopw [11,3] (fun v m wr=>∃ i:Nat,i<=n/\v=O J (i:Int)/\m=O J (eW p i)/\U (zb w wr)) (fun v _ _=>n-(aG v).toNat)
 case atStart=>exact⟨0,iX _,rfl,rfl,⟨iR _ _⟩⟩
 case round=>
  obtain⟨i,hi,rfl,rfl,BW⟩:=hrel;by_cases hlt:i<n
  ·have hiz:(i:Int)<(n:Int):=by omega
   have Hrg:U (wr.rangeAt g (256*i) (FL J 256 (p i)).toList):=⟨fun j v hv=>by rw[BW.o.cell (p:=⟨g,256*i+j,none⟩) hg];exact HR.o i hlt j v hv⟩;have Hidx:U (∀ k:Nat,k<256->∀ w1,(aN 76 (I (FL J 256 (p i))) (O J (k:Int))).run aO w1=.ok (O J (p i k)) w1):=⟨fun k hk w1=>xev (p i) k hk w1⟩;have Fs:U ((FL J 256 (p i)).size=256):=⟨cC _ _ _⟩;have Fo:U ((FL J 256 (p i)).all (·.oneCell')=true):=⟨xbj _ _ _⟩;obtain⟨F,HF⟩:=aQ (FL J 256 (p i));rw[HF.o]at Hrg Hidx Fs Fo;have Fi:=zsz Fs hsize;obtain⟨W4,hW4⟩:=aP (wr.alloc (Y F 76));have HW4:=D hW4;have r4:=zhp hW4;have B4:U (zb w W4):=⟨by rw[<-hW4];exact BW.o.trans ((xby _ _).mono BW.o.size)⟩;obtain⟨m,hm⟩:=aP (eW p i);have hmb:=xn4 p i;have Hs:U (eW p (i+1)=max m (cb (p i) 256)):=⟨by rw[eW,hm]⟩;rw[hm]at hmb ⊢;obtain⟨i256,hi256⟩:=aP (256*i);rw[hi256]at Hrg;have fi256:i*256=i256:=by omega
   clear hW4 HF hi256 BW hm;go_wp2_with (first
    | ((with_reducible refine mE rfl 76 _ rfl g i256 ?hx F.toList _ Hrg.o zX rfl ?hi ?_);(case hx=>rfl);(case hi=>rw[jM];exact Fi.o))
    | ((with_reducible refine fV rfl 76 _ _ rfl F ?hx ?hy ?hi ?ho ?h1 ?hn ?_);(case hx=>rfl);(case hy=>rfl);(case hi=>exact Fi.o);(case ho=>rw[Hzs.o,Fs.o]);(case h1=>exact Fo.o);(case hn=>rfl);rw[HW4.o])
    | (refine iL rfl 76 _ rfl wr.heap.size rfl 76 F (0,0) _ r4.o zX rfl Fi.o ?_))
   have Hi:=D hlt;go_loopw [16,3] (fun v c wr=>∃ k:Nat,k<=256/\v=O J (k:Int)/\c=O J (max m (cb (p i) k))/\W4=wr) (fun v _ _=>256-(aG v).toNat)
   case atStart=>exact⟨0,iX _,rfl,by rw[cb];congr 1;omega,rfl⟩
   case round=>
    obtain⟨k,hk,rfl,rfl,rfl⟩:=hrel;by_cases hlk:k<256
    ·have hkz:(k:Int)<256:=by omega
     have cc:=Hidx.o k hlk;obtain⟨x,hx⟩:=aP (p i k);rw[hx]at cc;obtain⟨q,hq⟩:=aP (max m (cb (p i) k));have hqb : 0<=q/\q<=4190208:=by have:=xh9 (p i) k;omega
     obtain⟨d,hcc⟩:=aQ (ce 8380417 x);have hcb:=xko x;rw[hcc.o]at hcb;obtain⟨e,hk'⟩:=aQ (-d);have Ht:U (max m (cb (p i) (k+1))=max q (max d e)):=⟨by rw[cb,hx,hcc.o,hk'.o];omega⟩;have Hx:∀ w1:G,aD aO 93 #[O J x,O J 8380417] w1 (zE w1 (O J d)):=fun w1=>by rw[<-hcc.o];exact xdc x 8380417 w1
     have hw:J.wrap (-d)=e:=by rw[iN];have:=hk'.o;omega
     rw[hq];clear hx hq;go_wp2_with fail;refine(Hx _).mono ?_;rintro e3 w3 ⟨rfl,hw3⟩;subst hw3;go_wp2_with fail;all_goals go_roundw
     case rel=>exact⟨k+1,by omega,by go_num,by rw[Ht.o];congr 1;omega,by first | trivial | rfl⟩
     case measure=>simp[aG];omega
    ·obtain rfl:k=256:=by omega
     simp only[jE];go_wp2_with fail;all_goals go_roundw
     case rel=>exact⟨i+1,by omega,by go_num,by rw[Hs.o],B4⟩
     case measure=>simp[aG];omega
  ·obtain rfl:i=n:=by omega
   go_wp2_with fail;go_ret;exact⟨rfl,BW.o⟩
end r7sz
end Go.Proofs.YtomphjajkkddkaaGreatDoor
