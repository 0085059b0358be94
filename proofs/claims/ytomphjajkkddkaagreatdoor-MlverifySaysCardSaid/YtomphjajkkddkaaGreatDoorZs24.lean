/-
  The document's roots of the ring are those of the transform: each one's square is the one above it, 
-/
import Derived.Test.YtomphjajkkddkaaGreatDoorZs09
import Derived.Test.YtomphjajkkddkaaGreatDoorZs01
import Derived.Test.YtomphjajkkddkaaGreatDoorZs23
import Derived.Test.YtomphjajkkddkaaGreatDoorZs21
import Derived.Test.YtomphjajkkddkaaGreatDoorZs06
import Derived.Test.YtomphjajkkddkaaGreatDoorZs14
import Derived.Test.YtomphjajkkddkaaGreatDoorZs18
import Derived.Test.YtomphjajkkddkaaGreatDoorZs02
import Derived.Test.YtomphjajkkddkaaGreatDoorZs04
import Derived.Test.YtomphjajkkddkaaGreatDoorZs05
import Derived.OwnWalk
set_option maxRecDepth 100000
set_option maxHeartbeats 16000000
set_option linter.unusedSimpArgs false
set_option linter.unusedVariables false
open Go Go.RowKit
open Go renaming World->G,Calls->aD,Value->aE
open Go.RowKit renaming Below->aF,intOf->aG
open Go.Instr renaming index->aN
open Go.Value renaming int->O,agg->I,string->E,tuple->aA,slice->aB
open Go.IntKind renaming i64->J
open Go.Obj renaming cells->Y
open Go.Proofs.Tryz renaming prog->aO
namespace Go.Proofs.YtomphjajkkddkaaGreatDoor
namespace nttt
open fB nttm iK
def ζ(k:Nat):Int:=((zt k:Nat):Int)
def ρ(k:Nat):Int:=if k=1 then -1 else if k%2=0 then ζ (k / 2) else - ζ (k / 2)
theorem xu8:∀ m:Fin 8,∀ t:Fin 128,t.val<2 ^ m.val->(zt (2 ^ m.val+t.val)*zt (2*2 ^ m.val-1-t.val)+1)%8380417=0:=by decide +kernel
theorem xy5:∀ k:Fin 128,0<k.val->zt (2*k.val)*zt (2*k.val)%8380417=zt k.val%8380417:=by decide +kernel
theorem sq_odd:∀ k:Fin 128,0<k.val->(zt (2*k.val+1)*zt (2*k.val+1)+zt k.val)%8380417=0:=by decide +kernel
theorem sq_top:(zt 1*zt 1+1)%8380417=0:=by decide +kernel
theorem xot:Inv ζ := by
 intro m hm t ht;have h128 : 2 ^ m<=128:=jJ (kS (by decide) hm) (by decide);have h:=xu8 ⟨m,by omega⟩ ⟨t,by omega⟩ ht;unfold Cg ζ;rw[<-kV];simp only at h;generalize zt (2 ^ m+t)*zt (2*2 ^ m-1-t)=x at h ⊢;omega
theorem xrz:Sq ζ ρ where
 top:=by unfold ρ;rw[iP rfl];exact eY _
 sq:=by
  intro k h0 h;unfold ρ;by_cases h1:k=1
  ·subst h1;rw[iP rfl];have h9:=sq_top;unfold Cg ζ;rw[<-kV];generalize zt 1*zt 1=x at h9 ⊢;omega
  ·rw[iQ h1];by_cases h2:k%2=0
   ·rw[iP h2];have h9:=xy5 ⟨k / 2,by omega⟩ (by show 0<k / 2;omega);simp only at h9;rw[show 2*(k / 2)=k by omega]at h9;unfold Cg ζ;rw[<-kV];generalize zt k*zt k=x at h9 ⊢;omega
   ·rw[iQ h2];have h9:=sq_odd ⟨k / 2,by omega⟩ (by show 0<k / 2;omega);simp only at h9;rw[show 2*(k / 2)+1=k by omega]at h9;unfold Cg ζ;rw[<-kV];generalize zt k*zt k=x at h9 ⊢;omega
 lo:=by
  intro k h0 h;unfold ρ;rw[iQ (by omega),iP (by omega),show 2*k / 2=k by omega];exact eY _
 hi:=by
  intro k h0 h;unfold ρ;rw[iQ (by omega),iQ (by omega),show (2*k+1) / 2=k by omega];exact eY _
end nttt
namespace kcon
open arr mem aT aV bS aW bL bQ fO fD bM bT bZ dJ fA dN rksb dG dW mlkd kkey kaw tabm fB tabv
open bF (bP)
section
variable (kn ln:Nat) (e t a b o s:Int) (sd:ByteArray) (h:bP (kn:Int) (ln:Int) e t a b o s=true)
include h
theorem pub(w:G):aD aO 29 #[I (bO (kn:Int) (ln:Int) e t a b o s),E (pPk ζd sd kn ln e)] w fun r w'=>(∃ v,r=.returned (aA #[E (cI sd kn ln),v,O J 0])/\Holds w' 0 v kn (pHi ζd sd kn ln e))/\zb w w':=by
 refine(kpu.xje kn ln e t a b o s (pPk ζd sd kn ln e) w h (xl2 _ _ _ _ _)).mono ?_;rintro r w' ⟨⟨v,rfl,hv⟩,hb⟩;rw[pk_rho];exact⟨⟨v,rfl,xfu (dG.xbm hv) fun i hi k hk=>xwx ζd sd kn ln e i hi k hk⟩,hb⟩
end
end kcon
namespace vpw
open arr mem bS dD cZ bM fO bQ kaw aW tabv built bT bF bZ dJ eH fJ mlkd mlvr mlvm tabm fB mgr mgi
open kcon (ζd)
open awake14 (d32)
theorem xnj : ζd=tbf.ζ := fJ.xni
theorem inv_d:iK.Inv ζd:=by rw[show ζd=nttt.ζ from fJ.xni];exact nttt.xot
theorem sq_d:iK.Sq ζd nttt.ρ := by rw[show ζd=nttt.ζ from fJ.xni];exact nttt.xrz
noncomputable def Sw(kn ln:Nat)(e t a b o s:Int)(sd m r:ByteArray):Sg:=sgn ζd kn ln e t a b o s (dT ζd sd kn ln e) (qS (cB sd kn ln) e) (fun i=>qS (cB sd kn ln) e (ln+i)) (pLo ζd sd kn ln e) m r
theorem xu7(kn ln:Nat)(e t a b o s:Int)(sd m r m2:ByteArray)(n:Nat)(w:G)(hP:Gp w)(h:bP (kn:Int) (ln:Int) e t a b o s=true)(bR:fX (Sw kn ln e t a b o s sd m r) n=true)(hm:m2.size<=100000):
 aD aO 11 #[I TA,I (bO (kn:Int) (ln:Int) e t a b o s),E (pPk ζd sd kn ln e),E m2,E (eI (Sw kn ln e t a b o s sd m r) n)] w (zB w (aA #[.bool (vOk ζd kn ln e t a b s (cI sd kn ln) (out TL RL 2 (pTr ζd sd kn ln e++m2) 64) (cT (Sw kn ln e t a b o s sd m r) n) (pHi ζd sd kn ln e) (tZ (Sw kn ln e t a b o s sd m r) n) (fI (Sw kn ln e t a b o s sd m r) n)),O J 0])):=by
 obtain⟨hk,hl,ht,he,ha⟩:=xde h;obtain⟨-,-,-,-,ho,hs⟩:=fA.xbe h;refine vpi.xew _ kn ln e t a b o s _ m2 _ _ _ _ _ _ w kecd.xdd xej hP h hm (by rw[xl2];omega) (by unfold cI;rw[kE];omega) (by rw[xdm];show (s / 4).toNat<=1000;omega) (fun w1=>kcon.pub kn ln e t a b o s sd h w1) fun w1=>?_
 refine(vpc.xd9 kn ln e t a b o s _ w1 h).mono ?_;rintro y w' ⟨⟨v,rfl,hv⟩,hb⟩;obtain⟨v1,v2,rfl,q1,q2⟩:=xvs (Sw kn ln e t a b o s sd m r) n ha (show (1:Int)<=t by omega) (show (1:Int)<=e by omega) (show (0:Int)<=o by omega) (show o<=(255:Int) by omega) bR hv;exact⟨⟨v1,v2,rfl,dG.xbm q1,dG.xbm q2⟩,hb⟩
theorem xwc(kn ln:Nat)(e t a b o s:Int)(sd m r:ByteArray)(n:Nat)(h:bP (kn:Int) (ln:Int) e t a b o s=true)(bR:fX (Sw kn ln e t a b o s sd m r) n=true):
 vOk ζd kn ln e t a b s (cI sd kn ln) (out TL RL 2 (pTr ζd sd kn ln e++m) 64) (cT (Sw kn ln e t a b o s sd m r) n) (pHi ζd sd kn ln e) (tZ (Sw kn ln e t a b o s sd m r) n) (fI (Sw kn ln e t a b o s sd m r) n)=true:=by
 obtain⟨hk,hl,ht,he,ha⟩:=xde h;have hb:b=95232\/b=261888:=by
  unfold bP okg at h;simp only[jQ,nW,kN,lL]at h;omega
 obtain⟨tau,rfl⟩:=kR (a:=t) (by omega);exact takes ζd _ inv_d sq_d sd m r kn ln tau e a b o s he hb (by omega) n (Sw kn ln e (tau:Int) a b o s sd m r) rfl bR
theorem xz9(kn ln:Nat)(e t a b o s:Int)(sd m r x c:ByteArray)(n:Nat)(w:G)(hP:Gp w)(h:bP (kn:Int) (ln:Int) e t a b o s=true)(bR:fX (Sw kn ln e t a b o s sd m r) n=true)(hc:c.size<=255/\x.size<=60000):
 aD aO 9 #[I TA,I (bO (kn:Int) (ln:Int) e t a b o s),E (pPk ζd sd kn ln e),E x,E c,E (eI (Sw kn ln e t a b o s sd m r) n)] w (zB w (aA #[.bool (vOk ζd kn ln e t a b s (cI sd kn ln) (out TL RL 2 (pTr ζd sd kn ln e++iE c x) 64) (cT (Sw kn ln e t a b o s sd m r) n) (pHi ζd sd kn ln e) (tZ (Sw kn ln e t a b o s sd m r) n) (fI (Sw kn ln e t a b o s sd m r) n)),O J 0])):=by
 have h1:=vpi.xj3 (T:=TA) (kn:Int) (ln:Int) e t a b o s (pPk ζd sd kn ln e) x c (eI (Sw kn ln e t a b o s sd m r) n) w xdn hP (fun m2=>aA #[.bool (vOk ζd kn ln e t a b s (cI sd kn ln) (out TL RL 2 (pTr ζd sd kn ln e++m2) 64) (cT (Sw kn ln e t a b o s sd m r) n) (pHi ζd sd kn ln e) (tZ (Sw kn ln e t a b o s sd m r) n) (fI (Sw kn ln e t a b o s sd m r) n)),O J 0]) (fun m2=>⟨_,_,rfl⟩) fun m2 w2 q1 q2=>xu7 kn ln e t a b o s sd m r m2 n w2 q1 h bR q2
 rw[iP hc]at h1;exact h1
noncomputable def Sa:Sg:=Sw 1 1 2 20 131072 95232 60 128 d32 (iE ⟨#[99]⟩ ⟨#[97,98,99]⟩) z32
theorem xhj:fX Sa 0=true:=by
 have h:=fJ.xrk d32 (iE ⟨#[99]⟩ ⟨#[97,98,99]⟩) z32 (by decide +kernel) (by decide +kernel) (by decide +kernel);unfold Sa Sw;rw[xnj];exact h
theorem lat4:bP ((1:Nat):Int) ((1:Nat):Int) 2 20 131072 95232 60 128=true:=by decide +kernel
theorem sign_a(w:G)(hP:Gp w):aD aO 19 #[I TA,I iJ,E (pSk ζd d32 1 1 2),E ⟨#[97,98,99]⟩,E ⟨#[99]⟩,E ⟨#[]⟩] w (zB w (aA #[E (eI Sa 0),O J 0])):=by
 have hfin:fin (gF Sa 814 0)=aA #[E (eI Sa 0),O J 0]:=fin_at Sa 0 (by decide) (fun k hk=>absurd hk (Nat.not_lt_zero k)) xhj;obtain⟨F,hF⟩:∃ F:ByteArray->ByteArray->aE,∀ m q,F m q=(if q.size=32 then fin (gF (Sw 1 1 2 20 131072 95232 60 128 d32 m q) 814 0) else aA #[E ⟨#[]⟩,O J 1]):=⟨_,fun _ _=>rfl⟩;have h:=xrl (T:=TA) 1 1 2 20 131072 95232 60 128 (pSk ζd d32 1 1 2) ⟨#[97,98,99]⟩ ⟨#[99]⟩ ⟨#[]⟩ w xdn hP F
  (fun m q=>by
   rw[hF];by_cases hq:q.size=32
   ·rw[iP hq];exact xk3 _
   ·rw[iQ hq];exact⟨_,_,rfl⟩)
  (fun m q w2 h2 h3 hqq=>by
   rw[hF];by_cases hq:q.size=32
   ·rw[iP hq];exact xew _ 1 1 2 20 131072 95232 60 128 (pSk ζd d32 1 1 2) (dT ζd d32 1 1 2) m q _ _ _ w2 kecd.xdd xej h2 lat4 h3 hq (xfy _ _ _ _ _) (fun w3=>kcon.sec 1 1 2 20 131072 95232 60 128 d32 lat4 w3)
   ·rw[iQ hq];have h9:=xd1 _ 1 1 2 20 131072 95232 60 128 (pSk ζd d32 1 1 2) m q w2 kecd.xdd xej h2 lat4 h3;unfold resI at h9;rw[iQ hq]at h9;exact h9)
 have c1:(⟨#[99]⟩:ByteArray).size<=255/\(⟨#[97,98,99]⟩:ByteArray).size<=60000:=by decide
 have c2:(⟨#[]⟩:ByteArray).size=0:=rfl;have c3:z32.size=32:=by decide +kernel
 rw[iP c1,iP c2,hF,iP c3]at h;rw[<-hfin];exact h
noncomputable def Va(x:ByteArray):Bool:=vOk ζd 1 1 2 20 131072 95232 128 (cI d32 1 1) (out TL RL 2 (pTr ζd d32 1 1 2++x) 64) (cT Sa 0) (pHi ζd d32 1 1 2) (tZ Sa 0) (fI Sa 0)
theorem va_yes:Va (iE ⟨#[99]⟩ ⟨#[97,98,99]⟩)=true:=xwc 1 1 2 20 131072 95232 60 128 d32 (iE ⟨#[99]⟩ ⟨#[97,98,99]⟩) z32 0 lat4 xhj
theorem va_no:Va (iE ⟨#[99]⟩ ⟨#[97,98,100]⟩)=false:=by
 have h2:=refused _ nttt.xot nttt.xrz d32 (iE ⟨#[99]⟩ ⟨#[97,98,99]⟩) (iE ⟨#[99]⟩ ⟨#[97,98,100]⟩) z32 (by decide +kernel) (by decide +kernel) (by decide +kernel) (by decide +kernel) Sa (by unfold Sa Sw;rw[xnj]);unfold Va;rw[xnj];exact h2
theorem xsh(x:ByteArray)(w:G)(hP:Gp w)(hx:x.size<=1000):aD aO 9 #[I TA,I iJ,E (pPk ζd d32 1 1 2),E x,E ⟨#[99]⟩,E (eI Sa 0)] w (zB w (aA #[.bool (Va (iE ⟨#[99]⟩ x)),O J 0])):=
 xz9 1 1 2 20 131072 95232 60 128 d32 (iE ⟨#[99]⟩ ⟨#[97,98,99]⟩) z32 x ⟨#[99]⟩ 0 w hP lat4 xhj ⟨by decide,by omega⟩
theorem xh6(w:G)(hP:Gp w):aD aO 6 #[] w (zB w (.bool true)):=
 awake14.xh6 (pPk ζd d32 1 1 2) (pSk ζd d32 1 1 2) (eI Sa 0) w hP (fun w1 h1=>kcon.pair 1 1 2 20 131072 95232 60 128 d32 lat4 w1 h1 rfl) sign_a (fun w1 h1=>by rw[<-va_yes];exact xsh _ w1 h1 (by decide)) (fun w1 h1=>by rw[<-va_no];exact xsh _ w1 h1 (by decide))
end vpw
namespace rfright
open arr mem aV bF
theorem xfq(g:Int)(w:G):aD aO 99 #[O J g] w (zE w (.bool (okg g))):=by
 unfold okg;cases h1:g==95232
 ·cases h2:g==261888
  ·go_enter Tryz.func99,Tryz.ntmps99;go_wp2_with fail;go_ret;exact⟨rfl,rfl⟩
  ·go_enter Tryz.func99,Tryz.ntmps99;go_wp2_with fail;go_ret;exact⟨rfl,rfl⟩
 ·go_enter Tryz.func99,Tryz.ntmps99;go_wp2_with fail;go_ret;exact⟨rfl,rfl⟩
theorem bt(x:Bool):x=false\/x=true/\True:=by cases x<;>simp
theorem bo(x y:Bool):x=true/\True\/(x=false/\y=true/\True)\/x=false/\y=false:=by cases x<;>cases y<;>simp
theorem b3(x y z:Bool):x=true\/(x=false/\y=true)\/(x=false/\y=false/\z=true)\/x=false/\y=false/\z=false:=by cases x<;>cases y<;>cases z<;>simp
theorem bd(p:Prop):p/\True\/¬ p:=by by_cases h:p<;>simp[h]
theorem xbo(k l e t a b o s:Int)(w:G):aD aO 97 #[I (bO k l e t a b o s)] w (zB w (.bool (bP k l e t a b o s))):=by
 obtain⟨W,hW⟩:=aP (w.alloc (Y (bO k l e t a b o s) 37));have HW:=D hW;have HB:=zba hW;have hrow:W.heap[w.heap.size]? = some (Y (bO k l e t a b o s) 37 (0,0)):=by rw[<-hW];exact cM _ _ _ rfl
 have c0:W.cell? ⟨w.heap.size,0,none⟩=some (O J k):=aZ hrow rfl;have c1:W.cell? ⟨w.heap.size,1,none⟩=some (O J l):=aZ hrow rfl;have c2:W.cell? ⟨w.heap.size,2,none⟩=some (O J e):=aZ hrow rfl;have c3:W.cell? ⟨w.heap.size,3,none⟩=some (O J t):=aZ hrow rfl;have c4:W.cell? ⟨w.heap.size,4,none⟩=some (O J a):=aZ hrow rfl;have c5:W.cell? ⟨w.heap.size,5,none⟩=some (O J b):=aZ hrow rfl;have c6:W.cell? ⟨w.heap.size,6,none⟩=some (O J o):=aZ hrow rfl;have c7:W.cell? ⟨w.heap.size,7,none⟩=some (O J s):=aZ hrow rfl;clear hrow hW;obtain⟨V,HV⟩:=aQ (bP k l e t a b o s);rw[HV.o];have Ch9:=xfq b;rcases bd (1<=k) with ⟨h0,g0⟩ | h0
 all_goals try (have z:=g0;clear g0;rcases bd (k<=8) with ⟨h1,g1⟩ | h1)
 all_goals try (have z:=g1;clear g1;rcases bd (1<=l) with ⟨h2,g2⟩ | h2)
 all_goals try (have z:=g2;clear g2;rcases bd (l<=8) with ⟨h3,g3⟩ | h3)
 all_goals try (have z:=g3;clear g3;rcases bo (e==2) (e==4) with ⟨h4,g4⟩ | ⟨h4,h4y,g4⟩ | ⟨h4,h4y⟩)
 all_goals try (have z:=g4;clear g4;rcases bd (1<=t) with ⟨h5,g5⟩ | h5)
 all_goals try (have z:=g5;clear g5;rcases bd (t<=64) with ⟨h6,g6⟩ | h6)
 all_goals try (have z:=g6;clear g6;rcases bo (a==131072) (a==524288) with ⟨h7,g7⟩ | ⟨h7,h7y,g7⟩ | ⟨h7,h7y⟩)
 all_goals try (have z:=g7;clear g7;rcases bt (okg b) with h8 | ⟨h8,g8⟩)
 all_goals try (have z:=g8;clear g8;rcases bd (1<=o) with ⟨h9,g9⟩ | h9)
 all_goals try (have z:=g9;clear g9;rcases bd (o<=100) with ⟨h10,g10⟩ | h10)
 all_goals try (have z:=g10;clear g10;rcases b3 (s==128) (s==192) (s==256) with h11 | ⟨h11,h11y⟩ | ⟨h11,h11y,h11z⟩ | ⟨h11,h11y,h11z⟩)
 all_goals
  try rw[h8]at Ch9
  have HE:=HV.o;clear HV;simp[bP,upto, *]at HE;subst HE;go_enter Tryz.func97,Tryz.ntmps97;simp only[List.append_eq,List.cons_append,List.nil_append];go_wp2_with (rw[HW.o]);repeat ((first | with_reducible refine(Ch9 _).mono ?_);rintro e0 w0 ⟨rfl,rfl⟩;go_wp2_with fail)
  go_ret;exact⟨rfl,HB.o⟩
end rfright
namespace aW
open arr mem
theorem xc3(n:Int)(hn:n<9223372036854775808)(w:G):aD aO 54 #[O J n] w (zE w (O J ((lb n.toNat:Nat):Int))):=by
 go_enter Tryz.func54,Tryz.ntmps54;go_wp2_with fail;go_loopw [0,3] (fun v k wr=>wr=w/\∃ (z:Int) (c:Nat),v=O J z/\k=O J (c:Int)/\z<9223372036854775808/\c+lb z.toNat=lb n.toNat/\c<=64) (fun v _ _=>(aG v).toNat)
 case atStart=>exact⟨rfl,n,0,rfl,rfl,hn,by omega,by omega⟩
 case round=>
  obtain⟨rfl,z,c,rfl,rfl,hz,hc,hc64⟩:=hrel;by_cases h0 : 0<z
  ·have hb:=xvg z.toNat (by omega) (by omega);have hs:=(xdg 64 z.toNat (by omega)).2.2;have hn64:=(xdg 64 n.toNat (by omega)).2.2;have hn64':lb n.toNat<=64:=hn64;go_wp2_with fail;go_roundw
   case rel=>exact⟨by first | trivial | rfl,z / 2,c+1,by go_num,by go_num,by omega,by rw[show (z / 2).toNat=z.toNat / 2 by omega];omega,by omega⟩
   case measure=>simp[aG];omega
  ·have hz0:z.toNat=0:=by omega
   have hl:lb 0=0:=rfl;rw[hz0,hl,mX]at hc;go_wp2_with fail;go_ret;exact⟨rfl,rfl⟩
end aW
namespace fA
open arr mem bD aT aV aW bF bZ
theorem xdl(k l e t a b o s:Int)(w:G):
 aD aO 53 #[I (bO k l e t a b o s)] w (zB w (szs k l e t a b o s)):=by
 have HR0:=fun w1=>rfright.xbo k l e t a b o s w1
 obtain⟨V,HV⟩:=aQ (szs k l e t a b o s);rw[HV.o];obtain⟨C,HC⟩:=aQ ((bO k l e t a b o s):Array aE);rw[HC.o]at HR0 ⊢;have HCs:U ((aO.info? 37).map (·.size)=some C.size):=⟨by rw[<-HC.o];kernel_rfl⟩;obtain⟨W,hW⟩:=aP (w.alloc (Y C 37));obtain⟨r0,hWs,b0⟩:=one hW;have L0:U (W.heap[w.heap.size]? = some (Y C 37 (0,0))):=⟨r0⟩;have BW:=D b0;have HWs:=D hWs;have HW:=D hW;clear hW r0 b0 hWs;by_cases h:bP k l e t a b o s=true
 rotate_left
 ·have h:bP k l e t a b o s=false:=by simpa using h
  have hVe:U (V=.tuple #[O J 0,O J 0,O J 0]):=⟨by rw[<-HV.o];unfold szs;rw[h];rfl⟩;rw[h]at HR0;have HR:=D HR0;clear HR0 h;go_enter Tryz.func53,Tryz.ntmps53;go_wp2_with (first
   | (rw[HW.o])
   | (refine iL rfl 37 _ rfl w.heap.size rfl 37 _ (0,0) _ L0.o zZ rfl HCs.o ?_))
  refine(HR.o _).mono ?_;rintro x u1 ⟨rfl,hb1⟩;have B1:U (zb w u1):=⟨BW.o.trans (hb1.mono (by rw[HWs.o];omega))⟩;clear hb1;go_wp2_with fail;go_ret3
  exact⟨by rw[hVe.o];rfl,B1.o⟩
 rw[h]at HR0;have HR:=D HR0;obtain⟨⟨k1,k8⟩,⟨l1,l8⟩,he,ha,⟨o1,o8⟩,hs⟩:=xbe h;obtain⟨Eq,hE⟩:∃ Eq:Nat,lb (2*e).toNat=Eq:=⟨_,rfl⟩;obtain⟨A,hA⟩:∃ A:Nat,lb (a-1).toNat=A:=⟨_,rfl⟩;have hE3:Eq=3\/Eq=4:=by rcases he with rfl | rfl<;>(rw[<-hE];decide +kernel)
 have hA3:A=17\/A=19:=by rcases ha with rfl | rfl<;>(rw[<-hA];decide +kernel)
 have HE:U (∀ w1:G,aD aO 54 #[O J (2*e)] w1 (zE w1 (O J (Eq:Int)))):=⟨fun w1=>by have h:=aW.xc3 (2*e) (by omega) w1;rw[hE]at h;exact h⟩;have HA:U (∀ w1:G,aD aO 54 #[O J (a-1)] w1 (zE w1 (O J (A:Int)))):=⟨fun w1=>by have h:=aW.xc3 (a-1) (by omega) w1;rw[hA]at h;exact h⟩;obtain⟨M,hM⟩:∃ M:Int,32*(Eq:Int)=M:=⟨_,rfl⟩;obtain⟨q,hq⟩:∃ q:Int,l+k=q:=⟨_,rfl⟩;obtain⟨p,hp⟩:∃ p:Int,M*q=p:=⟨_,rfl⟩;obtain⟨N,hN⟩:∃ N:Int,32*((A:Int)+1)=N:=⟨_,rfl⟩;obtain⟨r,hr⟩:∃ r:Int,N*l=r:=⟨_,rfl⟩;obtain⟨d,hd⟩:∃ d:Int,s / 4=d:=⟨_,rfl⟩;have hpb : 0<=p/\p<=2048:=by rcases hE3 with rfl | rfl<;>(rw[<-hp,<-hM];omega)
 have hrb : 0<=r/\r<=5120:=by rcases hA3 with rfl | rfl<;>(rw[<-hr,<-hN];omega)
 have f1:J.wrap (2*e)=2*e:=bB;have f2:J.wrap (32*(Eq:Int))=M:=by rw[hM,iN];omega
 have f3:J.wrap (320*k)=320*k:=bB;have f4:J.wrap (32+320*k)=32+320*k:=bB;have f5:J.wrap (l+k)=q:=by rw[hq,iN];omega
 have f6:J.wrap (M*q)=p:=by rw[hp,iN];omega
 have f7:J.wrap (128+p)=128+p:=bB;have f8:J.wrap (416*k)=416*k:=bB;have f9:J.wrap (128+p+416*k)=128+p+416*k:=bB;have g1:s.tdiv 4=d:=by rw[iU (by omega)];exact hd
 have g1':J.wrap (s.tdiv 4)=d:=by rw[g1,iN];omega
 have g1'':J.wrap d=d:=bB;have g2:J.wrap (a-1)=a-1:=bB;have g3:J.wrap ((A:Int)+1)=(A:Int)+1:=bB;have g4:J.wrap (32*((A:Int)+1))=N:=by rw[hN,iN];omega
 have g5:J.wrap (N*l)=r:=by rw[hr,iN];omega
 have g6:J.wrap (d+r)=d+r:=bB;have g7:J.wrap (d+r+o)=d+r+o:=bB;have g8:J.wrap (d+r+o+k)=d+r+o+k:=bB;have hVe:U (V=.tuple #[O J (32+320*k),O J (128+p+416*k),O J (d+r+o+k)]):=⟨by
  rw[<-HV.o];unfold szs gX sz2 sz3;rw[iP h,hE,hA,hM,hN,hq,hp,hr,hd]⟩
 clear HR0 h he ha hs hE hA hE3 hA3 hM hq hp hN hr hd hpb hrb k1 k8 l1 l8 o1 o8;go_enter Tryz.func53,Tryz.ntmps53;go_wp2_with (first
  | (rw[HW.o])
  | (refine iL rfl 37 _ rfl w.heap.size rfl 37 _ (0,0) _ L0.o zZ rfl HCs.o ?_))
 refine(HR.o _).mono ?_;rintro x u1 ⟨rfl,hb1⟩;have B1:U (zb w u1):=⟨BW.o.trans (hb1.mono (by rw[HWs.o];omega))⟩;have L1:u1.heap[w.heap.size]? = some (Y C 37 (0,0)):=(hb1.block _ (by rw[HWs.o];omega)).trans L0.o;have c0:u1.cell? ⟨w.heap.size,0,none⟩=some (O J k):=aZ L1 (by rw[<-HC.o];rfl);have c1:u1.cell? ⟨w.heap.size,1,none⟩=some (O J l):=aZ L1 (by rw[<-HC.o];rfl);have c2:u1.cell? ⟨w.heap.size,2,none⟩=some (O J e):=aZ L1 (by rw[<-HC.o];rfl);have c4:u1.cell? ⟨w.heap.size,4,none⟩=some (O J a):=aZ L1 (by rw[<-HC.o];rfl);have c6:u1.cell? ⟨w.heap.size,6,none⟩=some (O J o):=aZ L1 (by rw[<-HC.o];rfl);have c7:u1.cell? ⟨w.heap.size,7,none⟩=some (O J s):=aZ L1 (by rw[<-HC.o];rfl);clear hb1 L1;go_wp2_with fail;refine(HE.o _).mono ?_;rintro x u1 ⟨rfl,rfl⟩;go_wp2_with fail;refine xav (by kernel_rfl) (by kernel_rfl) ?_;repeat still_step
 still_call (HA.o _)
 repeat still_step
 refine jR ?_;clear c0 c1 c2 c4 c6 c7;go_wp2_with fail;go_ret3
 exact⟨by rw[hVe.o];rfl,B1.o.drew⟩
end fA
namespace gE
open arr mem qops bD dZ aT bE aW aY bC bA bL
theorem xm9(s:ByteArray)(m om:Nat)(w:G)(hm1 : 1<=m)(hm8:m<=8)(ho1 : 1<=om)(ho2:om<=255)(hs:s.size=om+m):
 aD aO 56 #[E s,O J (om:Int),O J (m:Int)] w fun e w'=>((uok (fun j=>(aU s).getD j 0) om m/\∃ v,e=.returned (.tuple #[v,O J 0])/\w'.ownsRow w.heap.size 76 256 v m (cl (fun j=>(aU s).getD j 0) om m))\/(¬ uok (fun j=>(aU s).getD j 0) om m/\e=.returned (aA #[aB none 0 0,O J 3])))/\zb w w':=by
 obtain⟨i0,hi,hz0,hz1,hz2⟩:=parts bX;obtain⟨hz,hsize⟩:=iY aX;obtain⟨β,Hβ⟩:=aQ (fun j=>(aU s).getD j 0);rw[Hβ.o];have Hix:U (∀ j,j<om+m->∀ w1:G,(aN 9 (E s) (O J (j:Int))).run aO w1=.ok (O .u8 ((β j:Nat):Int)) w1):=⟨fun j hj w1=>byte_of s j _ (by omega) (by rw[<-Hβ.o]) w1⟩;have Hb8:U (∀ j,β j<256):=⟨fun j=>by
  rw[<-Hβ.o];show (aU s).getD j 0<256;by_cases hj:j<(aU s).length
  ·rw[iO,iT hj];exact fG s _ (kZ _)
  ·rw[iO,jY (by omega)];decide⟩
 obtain⟨z,HZ⟩:=aQ (FL J 256 fun _=>0);rw[HZ.o]at hz hz0;have HI:=D (jA hi (jA hz0 (jA hz1 hz2)));have Hzs:=dP HZ;obtain⟨M,hM⟩:=aP (om+m);have fM:(om:Int)+(m:Int)=(M:Int):=by omega
 have fMw:J.wrap ((om:Int)+(m:Int))=(M:Int):=by rw[fM,iN];omega
 obtain⟨q,hq⟩:=aQ s.size;have fne:((s.size:Int) != (M:Int))=false:=by rw[show (s.size:Int)=(M:Int) by omega];simp
 have g1:¬ (om:Int)<1:=by omega
 have g2:¬ (255:Int)<(om:Int):=by omega
 have g3:¬ (m:Int)<1:=by omega
 have g4:¬ (8:Int)<(m:Int):=by omega
 clear hi hz0 hz1 hz2 hM hs;go_enter Tryz.func56,Tryz.ntmps56;go_wp2_with fail;clear fM fMw fne;go_loopw [38,8,9] (fun v sl c wr=>∃ i:Nat,i<=m/\v=O J (i:Int)/\c=O J ((fr β om i:Nat):Int)/\fr β om i<=om/\U (∀ j,j<i->one β om j)/\U (wr.ownsRow w.heap.size 76 256 sl i (cl β om i))/\U (zb w wr)) (fun v _ _ _=>m-(aG v).toNat)
 case atStart=>exact⟨0,iX _,rfl,rfl,iX _,⟨fun j hj=>by omega⟩,⟨⟨rfl,kW ⟨rfl,rfl⟩⟩⟩,⟨iR _ _⟩⟩
 case round=>
  rename G=>wo
  obtain⟨i,hi,rfl,rfl,hno,Hall,Ho,Hb⟩:=hrel;by_cases hlt:i<m
  ·have hiz:(i:Int)<(m:Int):=by omega
   have Hi:=D hlt;obtain⟨n,hn⟩:=aP (fr β om i);obtain⟨tz,hto⟩:=aP (β (om+i));have hto2:fr β om (i+1)=tz:=hto;have hto8:tz<256:=by rw[<-hto];exact Hb8.o _
   have hidx0:=Hix.o (om+i) (by omega);obtain⟨oi,hoi⟩:=aP (om+i);rw[hto,hoi]at hidx0;rw[hn]at hno ⊢;have foi:(om:Int)+(i:Int)=(oi:Int):=by omega
   have foiw:J.wrap ((om:Int)+(i:Int))=(oi:Int):=by rw[foi,iN];omega
   have fto:J.wrap (tz:Int)=(tz:Int):=bB;obtain⟨W4,hW4⟩:=aP (wo.alloc (Y z 76));have HW4:=D hW4;have r4:=zhp hW4;have A4:U (At wo.heap.size (FL J 256 (mk β n 0)) 76 W4 W4):=⟨by rw[mk,HZ.o];exact At.refl r4.o⟩;have B4:=zba hW4;have Hn:=D hn;have Hto:=D hto2;clear hn hto hto2 hoi hW4;by_cases hbad:tz<n\/om<tz
   ·have hno2:U (¬ uok β om m):=⟨fun h=>by have h1:=(h.1 i Hi.o).1;have h2:=(h.1 i Hi.o).2.1;rw[Hn.o,Hto.o]at h1;rw[Hto.o]at h2;omega⟩;have BE:=bK Hb B4.o;have hbad:((tz:Int)<(n:Int))\/(¬ (tz:Int)<(n:Int)/\(om:Int)<(tz:Int)):=by omega
    rcases hbad with h1 | ⟨h1,h2⟩
    ·go_wp2_with (rw[HW4.o]);go_ret2;exact⟨kO ⟨hno2.o,rfl⟩,BE.o⟩
    ·go_wp2_with (rw[HW4.o]);go_ret2;exact⟨kO ⟨hno2.o,rfl⟩,BE.o⟩
   ·have h1:¬ (tz:Int)<(n:Int):=by omega
    have h2:¬ (om:Int)<(tz:Int):=by omega
    have hnt:n<=tz:=by omega
    have hto3:tz<=om:=by omega
    clear hbad;go_wp2_with (rw[HW4.o]);clear hidx0 foi foiw fto;go_loopw [13] (fun v wr=>∃ t:Nat,n+t<=tz/\v=O J ((n+t:Nat):Int)/\U (∀ k,n<k->k<n+t -> β (k-1) < β k)/\U (At wo.heap.size (FL J 256 (mk β n t)) 76 W4 wr)) (fun v _=>tz-(aG v).toNat)
    case atStart=>exact⟨0,by omega,rfl,⟨fun k h1 h2=>by omega⟩,A4⟩
    case round=>
     clear A4;obtain⟨t,hk,rfl,Hin,A0⟩:=hrel;obtain⟨k,hkk⟩:=aP (n+t);rw[hkk]at hk ⊢;have BE:U (zb w wr):=⟨Hb.o.trans ((B4.o.trans (A0.o.below B4.o.size (iM _))).mono Hb.o.size)⟩;by_cases hklt:k<tz
     ·have hkz:(k:Int)<(tz:Int):=by omega
      have hidx:=Hix.o k (by omega);have hb8:=Hb8.o k;have hbu:U (upd (mk β n t) (β k) 1=mk β n (t+1)):=⟨by rw[mk,hkk]⟩;have Hk:=D hkk;by_cases ht:n<k
      ·have hidx1:=Hix.o (k-1) (by omega);have ha8:=Hb8.o (k-1);have Hstep:U (β (k-1) < β k->∀ k',n<k'->k'<k+1 -> β (k'-1) < β k'):=⟨fun h k' h1 h2=>by
        by_cases e:k'=k
        ·subst e;exact h
        ·exact Hin.o k' h1 (by rw[hkk];omega)⟩
       have Hno:U (β k <= β (k-1)->¬ uok β om m):=⟨fun h hu=>by
        have h1:=(hu.1 i Hi.o).2.2 k (by rw[Hn.o];exact ht) (by rw[Hto.o];omega);omega⟩
       obtain⟨b,hb⟩:=aP (β k);obtain⟨a,ha⟩:=aP (β (k-1));rw[hb]at hidx hb8 hbu Hstep Hno;rw[ha]at hidx1 ha8 Hstep Hno;obtain⟨k1,hk1⟩:=aP (k-1);rw[hk1]at hidx1;have fk1:J.wrap ((k:Int)-1)=(k1:Int):=bB;have hd:decide (n<k)=true:=jP (by omega);by_cases hab:b<=a
       ·have hge:decide (b<=a)=true:=jP (by omega);have hno2:=D (Hno.o hab);clear hkk hk1 ht hb ha hab;go_wp2_with fail;refine xf8 (by kernel_rfl) (by kernel_rfl) (fun ops HO=>?_);iterate 4 (quiet_step (skip))
        iterate 8 (refine wpQuiet_want (by rw[<-HO.o];kernel_rfl) (fun K hK=>?_);go_simp;refine hK _ ?_;clear hK K)
        quiet_step (skip);refine kY ?_;intro w7 hC;have BW7:U (zb w w7):=⟨by obtain⟨pp,rfl⟩:=hC;exact BE.o.trans ((jX _ _ _).mono BE.o.size)⟩;clear hC;go_wp2_with fail;go_ret2;exact⟨kO ⟨hno2.o,rfl⟩,BW7.o⟩
       ·have hge:decide (b<=a)=false:=jN (by omega);have Hin2:U (∀ k',n<k'->k'<n+(t+1) -> β (k'-1) < β k'):=⟨fun k' h1 h2=>Hstep.o (by omega) k' h1 (by have:=Hk.o;omega)⟩;have hb256:(b:Int)<256:=by omega
        clear hkk hk1 ht hb ha hab;go_wp2_with fail;refine xf8 (by kernel_rfl) (by kernel_rfl) (fun ops HO=>?_);iterate 4 (quiet_step (skip))
        iterate 8 (refine wpQuiet_want (by rw[<-HO.o];kernel_rfl) (fun K hK=>?_);go_simp;refine hK _ ?_;clear hK K)
        quiet_step (skip);refine kY ?_;intro w7 hC;have A7:U (At wo.heap.size (FL J 256 (mk β n t)) 76 W4 w7):=⟨by obtain⟨pp,rfl⟩:=hC;exact A0.o.later (jX _ _ _)⟩;clear hC A0 BE;go_wp2_with ((with_reducible refine cU A7 rfl _ _ _ rfl rfl ?_);refine⟨_,_,_,rfl,rfl,rfl,(by rw[cC];exact hb8),?_⟩;intro wn HRn;rw[eV,hbu.o]at HRn);go_roundw
        case rel=>exact⟨t+1,by have:=Hk.o;omega,by have:=Hk.o;go_num,Hin2,HRn⟩
        case measure=>simp[aG];omega
      ·have hkn:k=n:=by omega
       have ht0:t=0:=by omega
       obtain⟨b,hb⟩:=aP (β k);rw[hb]at hidx hb8 hbu;have hb256:(b:Int)<256:=by omega
       have hd:decide (n<k)=false:=jN ht;have Hin2:U (∀ k',n<k'->k'<n+(t+1) -> β (k'-1) < β k'):=⟨fun k' h1 h2=>by omega⟩;clear hkk ht hkn ht0 hb;go_wp2_with fail;refine xf8 (by kernel_rfl) (by kernel_rfl) (fun ops HO=>?_);iterate 4 (quiet_step (skip))
       iterate 8 (refine wpQuiet_skip (by rw[<-HO.o];kernel_rfl) ?_)
       quiet_step (skip);refine kY ?_;intro w7 hC;have A7:U (At wo.heap.size (FL J 256 (mk β n t)) 76 W4 w7):=⟨by obtain⟨pp,rfl⟩:=hC;exact A0.o.later (jX _ _ _)⟩;clear hC A0 BE;go_wp2_with ((with_reducible refine cU A7 rfl _ _ _ rfl rfl ?_);refine⟨_,_,_,rfl,rfl,rfl,(by rw[cC];exact hb8),?_⟩;intro wn HRn;rw[eV,hbu.o]at HRn);go_roundw
       case rel=>exact⟨t+1,by have:=Hk.o;omega,by have:=Hk.o;go_num,Hin2,HRn⟩
       case measure=>simp[aG];omega
     ·obtain rfl:k=tz:=by omega
      have Hone:U (one β om i):=⟨by unfold one;rw[Hn.o,Hto.o];exact⟨hnt,hto3,fun k' h1 h2=>Hin.o k' h1 (by rw[hkk];exact h2)⟩⟩;have Hall2:U (∀ j,j<i+1->one β om j):=⟨fun j hj=>by
       by_cases e:j=i
       ·subst e;exact Hone.o
       ·exact Hall.o j (by omega)⟩
      have Hply:U (mk β n t=ply β om i):=⟨by unfold ply;rw[Hn.o,Hto.o,show k-n=t by omega]⟩;rw[Hply.o]at A0;have Ho2:U (wr.ownsRow w.heap.size 76 256 u8 i (cl β om i)):=⟨xcv Ho.o (B4.o.trans (A0.o.below B4.o.size (iM _)))⟩;have Fs:U ((FL J 256 (ply β om i)).size=256):=⟨cC _ _ _⟩;have Fo:U ((FL J 256 (ply β om i)).all (·.oneCell')=true):=⟨xbj _ _ _⟩;obtain⟨F,HF⟩:=aQ (FL J 256 (ply β om i));rw[HF.o]at A0 Fs Fo;have Hcl:U (cl β om (i+1)=cl β om i++F.toList):=⟨by rw[cl,HF.o]⟩;have Fi:=zsz Fs hsize;have rF:=D A0.o.row;have hws:=BE.o.size;clear A0 hkk hklt HF;have Hzc:U ((Value.agg z).cells.size=256):=⟨Hzs.o⟩;have HF0:U (∀ cs:Array aE,cs.size=256->Instr.fill (fun i=>some (i*i0.size,i0.size)) cs [(0,I F)]=some F):=⟨fun cs hc=>by rw[HI.o.2.2.1];exact xfo F cs Fs.o hc⟩;go_wp2_with (refine iL rfl 76 _ rfl wo.heap.size rfl 76 F (0,0) _ rF.o zX rfl Fi.o ?_);refine wp_buildSlice 44 76 1 _ rfl F i0 (I z) Tryz.underlying44 HI.o.1 HI.o.2.1 (by rw[HI.o.2.2.1];decide) (by rw[HI.o.2.2.1];decide) ?hf ?_
      case hf=>
       go_simp
       exact⟨⟨jN (fun h=>h (Fs.o.trans HI.o.2.2.1.symm)),by rw[Fs.o,HI.o.2.2.1];exact iM _⟩,xfp F _ Fs.o (by simp[HI.o.2.2.1])⟩
      go_wp2_with (at_builtin;refine kH _ rfl _ _ 44 rfl w.heap.size 76 i0 (I z) 256 2048 Tryz.underlying44 HI.o.1 HI.o.2.1 HI.o.2.2.1 HI.o.2.2.2 Hzc.o (by decide) _ _ _ rfl (Ho2.o.alloc _) ⟨wr.heap.size,0,none⟩ 1 1 F.toList rfl (by rw[jM,Fs.o]) (fun j u hu=>xdw hu) (fun u hu=>xek Fo.o u hu) (by unfold maxLen;omega) (by omega) (by rw[size_alloc];omega) ?_);intro v' w8 hown' hgrow _;have hb8:aF w.heap.size wr w8:=((iR w.heap.size wr).alloc hws _).grown hgrow (by rw[size_alloc];omega) (fun k hk=>(Ho2.o.lt k hk).1);have HB8:U (zb w w8):=⟨BE.o.trans hb8⟩;have OY:U (w8.ownsRow w.heap.size 76 256 v' (i+1) (cl β om (i+1))):=⟨by rw[Hcl.o];exact hown'⟩;clear hown' hgrow hb8;go_wp2_with fail;go_roundw
      case rel=>exact⟨i+1,by have:=Hi.o;omega,by go_num,by rw[Hto.o],by rw[Hto.o];exact hto3,Hall2,OY,HB8⟩
      case measure=>have:=Hi.o;simp[aG];omega
  ·obtain rfl:i=m:=by omega
   obtain⟨n,hn⟩:=aP (fr β om i);rw[hn]at hno ⊢;have Hn:=D hn;clear hn;go_wp2_with fail;go_loopw [14] (fun v wr=>∃ k:Nat,n<=k/\k<=om/\v=O J (k:Int)/\U (∀ j,n<=j->j<k -> β j=0)/\wo=wr) (fun v _=>om-(aG v).toNat)
   case atStart=>exact⟨n,iM _,hno,rfl,⟨fun j h1 h2=>by omega⟩,rfl⟩
   case round=>
    obtain⟨k,hk1,hk2,rfl,Hin,rfl⟩:=hrel;by_cases hklt:k<om
    ·have hkz:(k:Int)<(om:Int):=by omega
     have hidx:=Hix.o k (by omega);by_cases hb : β k=0
     ·have Hin2:U (∀ j,n<=j->j<k+1 -> β j=0):=⟨fun j h1 h2=>by
       by_cases e:j=k
       ·subst e;exact hb
       ·exact Hin.o j h1 (by omega)⟩
      rw[hb]at hidx;clear hb;go_wp2_with fail;go_roundw
      case rel=>exact⟨k+1,by omega,by omega,by go_num,Hin2,trivial⟩
      case measure=>simp[aG];omega
     ·have hno2:U (¬ uok β om i):=⟨fun h=>hb (h.2 k (by rw[Hn.o];exact hk1) hklt)⟩;obtain⟨b,hbb⟩:=aP (β k);rw[hbb]at hidx hb;have fb:((b:Int) != 0)=true:=by simp only[bne_iff_ne,ne_eq];omega
      clear hbb;go_wp2_with fail;go_ret2;exact⟨kO ⟨hno2.o,rfl⟩,Hb.o⟩
    ·obtain rfl:k=om:=by omega
     have hyes:U (uok β k i):=⟨Hall.o,fun j h1 h2=>Hin.o j (by rw[<-Hn.o];exact h1) h2⟩;go_wp2_with fail;go_ret2;exact⟨kW ⟨hyes.o,_,rfl,Ho.o⟩,Hb.o⟩
end gE
namespace rbitv
open arr mem bD
end rbitv
namespace rsmat
open arr mem bD aT aV aY bC bF bQ fO
theorem infoSl:(aO.info? 44).map (fun i=>(i.zero,i.size,i.bytes))=some (some (aB none 0 0),1,24):=by kernel_rfl
theorem xlp{T:Array aE}(kn ln:Nat)(e t a b o s:Int)(sd:ByteArray)(q:Nat->Nat->Nat->Int)(w:G)(hT:(aO.info? 34).map (·.size)=some T.size)(hk : 1<=kn/\kn<=8)(hl : 1<=ln/\ln<=8)(h:bP (kn:Int) (ln:Int) e t a b o s=true)(hsd:sd.size<=1125899906842624)
 (HS:∀ r c:Nat,r<8->c<8->∀ w1:G,aD aO 98 #[I T,E (tw sd c r)] w1 (zB w1 (I (FL J 256 (q r c))))):
 aD aO 42 #[I T,I (bO (kn:Int) (ln:Int) e t a b o s),E sd] w fun x w'=>(∃ v vs,x=.returned v/\w'.ownsRow w.heap.size 44 1 v kn vs/\dO w' w.heap.size v.ownBlock vs ln q)/\zb w w':=by
 have HR:U (∀ w1:G,aD aO 97 #[I (bO (kn:Int) (ln:Int) e t a b o s)] w1 (zB w1 (.bool true))):=⟨fun w1=>by rw[<-h];exact rfright.xbo _ _ e t a b o s w1⟩;obtain⟨i0,hi,hz0,hz1,hz2⟩:=parts bX;obtain⟨hz,hsize⟩:=iY aV.aX;obtain⟨z,HZ⟩:=aQ (FL J 256 fun _=>0);rw[HZ.o]at hz hz0;obtain⟨j0,hj,hy0,hy1,hy2⟩:=parts infoSl;have HJ:=D (jA hj (jA hy0 (jA hy1 hy2)));have HI:=D (jA hi (jA hz0 (jA hz1 hz2)));have Hzs:=dP HZ;have Hsize:=D hsize;clear hi hz0 hz1 hz2 hsize hj hy0 hy1 hy2;obtain⟨C,HC⟩:=aQ ((bO (kn:Int) (ln:Int) e t a b o s):Array aE);rw[HC.o]at HR ⊢;have HCs:U ((aO.info? 37).map (·.size)=some C.size):=⟨by rw[<-HC.o];kernel_rfl⟩;obtain⟨W,hW⟩:=aP ((w.alloc (Y T 34)).alloc (Y C 37));obtain⟨r0,r1,hWs,b0⟩:=two hW;have T0:U (W.heap[w.heap.size]? = some (Y T 34 (0,0))):=⟨r0⟩;have L0:U (W.heap[w.heap.size+1]? = some (Y C 37 (0,0))):=⟨r1⟩;have BW:=D b0;have HWs:=D hWs;have HW:=D hW;have HSm:=D HS;have HTz:=D hT;have Hk:=D hk;have Hl:=D hl;have Hsd:=D hsd;clear hW r0 r1 b0 h HS hT hk hl hsd hWs;go_enter Tryz.func42,Tryz.ntmps42;go_wp2_with (first
  | (rw[HW.o])
  | (refine iL rfl 37 _ rfl (w.heap.size+1) rfl 37 _ (0,0) _ L0.o zZ rfl HCs.o ?_))
 refine(HR.o _).mono ?_;rintro x u1 ⟨rfl,hb1⟩;have B1:U (zb w u1):=⟨BW.o.trans (hb1.mono (by rw[HWs.o];omega))⟩;have T1:U (u1.heap[w.heap.size]? = some (Y T 34 (0,0))):=⟨(hb1.block _ (by rw[HWs.o];omega)).trans T0.o⟩;have L1:U (u1.heap[w.heap.size+1]? = some (Y C 37 (0,0))):=⟨(hb1.block _ (by rw[HWs.o];omega)).trans L0.o⟩;have cK:∀ w1:G,zb u1 w1->w1.cell? ⟨w.heap.size+1,0,none⟩=some (O J (kn:Int)):=fun w1 hb=>aZ ((hb.block _ (bI L1.o)).trans L1.o) (by rw[<-HC.o];rfl)
 have cL:∀ w1:G,zb u1 w1->w1.cell? ⟨w.heap.size+1,1,none⟩=some (O J (ln:Int)):=fun w1 hb=>aZ ((hb.block _ (bI L1.o)).trans L1.o) (by rw[<-HC.o];rfl)
 have HcL:=D cL;have cK1:=cK u1 (iR _ _);clear hb1 cK cL;go_wp2_with fail;clear cK1;go_loopw [7,16] (fun x v wr=>∃ r:Nat,r<=kn/\v=O J (r:Int)/\U (∃ vs,wr.ownsRow u1.heap.size 44 1 x r vs/\dO wr u1.heap.size x.ownBlock vs ln q)/\U (zb u1 wr)) (fun _ v _=>kn-(aG v).toNat)
 case atStart=>exact⟨0,iX _,rfl,⟨[],⟨rfl,kW ⟨rfl,rfl⟩⟩,xq4 _ _ _ _ _⟩,⟨iR _ _⟩⟩
 case round=>
  rename G=>wo
  obtain⟨r,hr,rfl,HO,Hb⟩:=hrel;by_cases hlt:r<kn
  ·have hltz:(r:Int)<(kn:Int):=by omega
   have hr8:r<8:=by have:=Hk.o;omega
   have cL1:=HcL.o wo Hb.o;have Hlt:=D hlt;go_wp2_with fail;clear cL1;go_loopw [9,21] (fun y v wr=>∃ c:Nat,c<=ln/\v=O J (c:Int)/\U (wr.ownsRow wo.heap.size 76 256 y c (cq (q r) c))/\U (zb wo wr)) (fun _ v _=>ln-(aG v).toNat)
   case atStart=>exact⟨0,iX _,rfl,⟨⟨rfl,kW ⟨rfl,rfl⟩⟩⟩,⟨iR _ _⟩⟩
   case round=>
    obtain⟨c,hc,rfl,Oy,Hc⟩:=hrel;by_cases hclt:c<ln
    ·have hcz:(c:Int)<(ln:Int):=by omega
     have hc8:c<8:=by have:=Hl.o;omega
     have fr8:IntKind.u8.wrap (r:Int)=(r:Int):=by rw[kU];omega
     have fc8:IntKind.u8.wrap (c:Int)=(c:Int):=by rw[kU];omega
     have BO:=bK Hb Hc.o;have T2:U (wr.heap[w.heap.size]? = some (Y T 34 (0,0))):=⟨(BO.o.block _ (bI T1.o)).trans T1.o⟩;obtain⟨W2,hW2⟩:=aP (wr.alloc (Y #[O .u8 (c:Int),O .u8 (r:Int)] 5));obtain⟨r2,hs2,b2⟩:=one hW2;have hcv:=xeo (t:=5) (l:=[c,r]) (cap:=2) (n:=2) rfl (by simp;omega) r2;obtain⟨X,hX⟩:∃ X:ByteArray,⟨(cP [c,r]).toArray⟩=X:=⟨_,rfl⟩;have hXs:X.size=2:=by rw[<-hX];rfl
     have hcat:sd++X=tw sd c r:=by rw[<-hX];rfl
     rw[hX]at hcv;have HW2:=D hW2;have hsd:=Hsd.o;have HSr:=HSm.o r c hr8 hc8;rw[<-hcat]at HSr;have HSr:=D HSr;have D2:U (zb wr W2):=⟨b2⟩;have Hclt:=D hclt;clear hX hcat r2 hs2 b2 hW2;go_wp2_with fail;refine nC 34 _ rfl w.heap.size rfl 34 T (0,0) _ T2.o zY rfl HTz.o ?_;go_wp2_with (rw[HW2.o]);refine(HSr.o _).mono ?_;rintro x1 w3 ⟨rfl,hb3⟩;have D3:=bK D2 hb3;have Oy3:U (w3.ownsRow wo.heap.size 76 256 u9 c (cq (q r) c)):=⟨xcv Oy.o D3.o⟩;obtain⟨F,HF⟩:=aQ (FL J 256 (q r c));have Fs:=dP HF;have Fo:=eJ HF;rw[HF.o];have hws:wo.heap.size<=w3.heap.size:=jJ Hc.o.size D3.o.size;have HF0:U (∀ cs:Array aE,cs.size=256->Instr.fill (fun i=>some (i*i0.size,i0.size)) cs [(0,I F)]=some F):=⟨fun cs hc=>by rw[HI.o.2.2.1];exact xfo F cs Fs.o hc⟩;have Hzc:U ((Value.agg z).cells.size=256):=⟨Hzs.o⟩;clear hb3 hcv fr8 fc8 hXs Oy;go_wp2_with fail;refine wp_buildSlice 44 76 1 _ rfl F i0 (I z) Tryz.underlying44 HI.o.1 HI.o.2.1 (by rw[HI.o.2.2.1];decide) (by rw[HI.o.2.2.1];decide) ?hf ?_
     case hf=>
      go_simp
      exact⟨⟨jN (fun h=>h (Fs.o.trans HI.o.2.2.1.symm)),by rw[Fs.o,HI.o.2.2.1];exact iM _⟩,xfp F _ Fs.o (by simp[HI.o.2.2.1])⟩
     go_wp2_with (at_builtin;refine kH _ rfl _ _ 44 rfl wo.heap.size 76 i0 (I z) 256 2048 Tryz.underlying44 HI.o.1 HI.o.2.1 HI.o.2.2.1 HI.o.2.2.2 Hzc.o (by decide) _ _ _ rfl (Oy3.o.alloc _) ⟨w3.heap.size,0,none⟩ 1 1 F.toList rfl (by rw[jM,Fs.o]) (fun j u hu=>xdw hu) (fun u hu=>xek Fo.o u hu) (by unfold maxLen;omega) (by omega) (by rw[size_alloc];omega) ?_);intro v' w8 hown' hgrow _;have hb8:aF wo.heap.size w3 w8:=((iR wo.heap.size w3).alloc hws _).grown hgrow (by rw[size_alloc];omega) (fun k hk=>(Oy3.o.lt k hk).1);have B8:U (zb wo w8):=⟨Hc.o.trans ((D3.o.mono Hc.o.size).trans hb8)⟩;have O8:U (w8.ownsRow wo.heap.size 76 256 v' (c+1) (cq (q r) (c+1))):=⟨by rw[cq,HF.o];exact hown'⟩;clear hown' hgrow hb8;go_wp2_with fail;go_roundw
     case rel=>exact⟨c+1,by have:=Hclt.o;omega,by go_num,O8,B8⟩
     case measure=>have:=Hclt.o;simp[aG];omega
    ·obtain rfl:c=ln:=by omega
     obtain⟨vs,hov,hrv⟩:=HO.o;have hvl:vs.length=r:=by have:=hov.1;omega
     have HH:U (bS.Holds wr wo.heap.size u9 c (q r)):=⟨bQ.xe4 Hl.o.1 Oy.o⟩;have ho1:U (u9.oneCell'=true):=⟨holds_one HH.o⟩;have hrows:U (dO wr u1.heap.size u7.ownBlock (vs ++ [u9]) c q):=⟨(hrv.later Hc.o).snoc (by rw[hvl];exact HH.o) Hb.o.size (fun k hk=>(hov.lt k hk).2)⟩;obtain⟨gi,ci,hu9,-⟩:=HH.o;have hov2:U (wr.ownsRow u1.heap.size 44 1 u7 r vs):=⟨xcv hov Hc.o⟩;have hws:u1.heap.size<=wr.heap.size:=jJ Hb.o.size Hc.o.size;have Hzc:U ((Value.slice none 0 0).cells.size=1):=⟨rfl⟩;have Hlt2:=Hlt.o;clear hov hrv Oy hclt HH;subst hu9;go_wp2_with (at_builtin;refine wpList_append_own_at _ rfl _ _ 74 rfl u1.heap.size 44 j0 (aB none 0 0) 1 24 Tryz.underlying74 HJ.o.1 HJ.o.2.1 HJ.o.2.2.1 HJ.o.2.2.2 Hzc.o (by decide) _ _ _ rfl (hov2.o.alloc _) ⟨wr.heap.size,0,none⟩ 1 1 [aB (some ⟨gi,0,none⟩) c ci] rfl rfl (fun j u hu=>cell_one_new _ _ _ j u hu) (fun u hu=>by rw[List.mem_singleton]at hu;subst hu;exact ho1.o) (by unfold maxLen;omega) (by omega) (by rw[size_alloc];omega) ?_);intro v' w8 hown' hgrow _ hblk;have hb8:aF u1.heap.size wr w8:=((iR u1.heap.size wr).alloc hws _).grown hgrow (by rw[size_alloc];omega) (fun k hk=>(hov2.o.lt k hk).1);have B8:U (zb u1 w8):=⟨Hb.o.trans ((Hc.o.mono Hb.o.size).trans hb8)⟩;have O8:U (∃ vs,w8.ownsRow u1.heap.size 44 1 v' (r+1) vs/\dO w8 u1.heap.size v'.ownBlock vs c q):=⟨_,hown',(hrows.o.later (xby _ _)).grown hgrow (by rw[size_alloc];exact hblk)⟩;clear hown' hgrow hb8 hblk;go_wp2_with fail
     go_roundw
     case rel=>exact⟨r+1,by omega,by go_num,O8,B8⟩
     case measure=>simp[aG];omega
  ·obtain rfl:r=kn:=by omega
   obtain⟨vs,hov,hrv⟩:=HO.o;have Fx:U (wo.ownsRow w.heap.size 44 1 u7 r vs):=⟨xp7 hov B1.o.size⟩;have Gx:U (dO wo w.heap.size u7.ownBlock vs ln q):=⟨hrv.base B1.o.size⟩;clear hov hrv;go_wp2_with fail;go_ret;exact⟨⟨_,vs,rfl,Fx.o,Gx.o⟩,B1.o.trans (Hb.o.mono B1.o.size)⟩
end rsmat
end Go.Proofs.YtomphjajkkddkaaGreatDoor
