/-
  What the reference's turning function of layer 5 returns: a word turned to the left. Conditions: the
-/
import Derived.Test.YtomphjajkkddkaaGreatDoorZs03
import Derived.Test.YtomphjajkkddkaaGreatDoorZs06
import Derived.Test.YtomphjajkkddkaaGreatDoorZs04
import Derived.Test.YtomphjajkkddkaaGreatDoorZs01
import Derived.Test.YtomphjajkkddkaaGreatDoorZs05
set_option maxRecDepth 100000
set_option maxHeartbeats 16000000
set_option linter.unusedSimpArgs false
set_option linter.unusedVariables false
open Go Go.RowKit
open Go renaming World->G,Calls->aD,Value->aE
open Go.RowKit renaming intOf->aG
open Go.Value renaming int->O,agg->I
open Go.IntKind renaming i64->J
open Go.Obj renaming cells->Y
open Go.Proofs.Tryz renaming prog->aO
namespace Go.Proofs.YtomphjajkkddkaaGreatDoor
namespace rols
open Go.RowKit
open arr bJ
theorem xoy(x k:Nat)(w:G)(hx:x<18446744073709551616)(hk:k<9223372036854775808):
 aD aO 198 #[O .u64 (x:Int),O J (k:Int)] w (zE w (O .u64 ((rol x (k%64):Nat):Int))):=by
 have hq:=mask k hk;have hw:IntKind.u64.wrap (k:Int)=(k:Int):=by rw[kA];omega
 obtain⟨n,hn⟩:=aP (k%64);rw[hn]at hq ⊢;have hn63:n<=63:=by omega
 clear hn;by_cases h0:n=0
 ·subst h0;have h1:bits .and .u64 (k:Int) 63=0:=hq;have h2:bits .and .u64 64 63=0:=by decide +kernel
  clear hq hn63;have h3:bits .or .u64 (x:Int) (x:Int)=(x:Int):=by rw[oF x x hx hx,Nat.or_self]
  have h4:(x:Int)<18446744073709551616:=by omega
  rw[xx4 x hx];go_enter Tryz.func198,Tryz.ntmps198;go_wp2_with fail;go_ret;exact⟨rfl,rfl⟩
 ·obtain⟨m,hm⟩:∃ m,m=64-n:=⟨_,rfl⟩;have Hm:=D hm;have h2:bits .and .u64 (64-(n:Int)) 63=(m:Int):=by
   have h:=mask (64-n) (by omega);rw[show ((64-n:Nat):Int)=64-(n:Int) by omega]at h;rw[h];omega
  have hm63:m<=63:=by omega
  have hn1 : 1<=n:=by omega
  clear hm h0;go_enter Tryz.func198,Tryz.ntmps198;go_wp2_with fail;go_ret;exact⟨xcm (orl x n m Hm.o hx),rfl⟩
end rols
namespace rkec
open Go.RowKit
open arr mem bJ dL bU iD
theorem left1(x r:Nat)(w:G)(hx:x<18446744073709551616)(hr:rol x 1=r):
 aD aO 198 #[O .u64 (x:Int),O J 1] w (zE w (O .u64 (r:Int))):=by
 subst hr;exact rols.xoy x 1 w hx (by decide)
theorem z5_is:(#[O .u64 0,O .u64 0,O .u64 0,O .u64 0,O .u64 0]:Array aE)=LK .u64 [0,0,0,0,0]:=rfl
def oxy(i:Nat):Nat:=5*(i%5)+i / 5
theorem oxy_lt(i:Nat)(h:i<25):oxy i<25:=by unfold oxy;omega
theorem xwm(i x y:Nat)(hi:i<25)(hx:x<5)(hy:y<5)(h:oxy i=5*x+y):i=x+5*y:=by unfold oxy at h;omega
theorem src_at(x y:Nat)(hx:x<5)(hy:y<5):src (y+5*((2*x+3*y)%5))=x+5*y:=by
 unfold src;have:∀ x:Fin 5,∀ y:Fin 5,(3*((y.val+5*((2*x.val+3*y.val)%5)) / 5)+(y.val+5*((2*x.val+3*y.val)%5))%5)%5+5*((y.val+5*((2*x.val+3*y.val)%5))%5)=x.val+5*y.val:=by decide
 exact this ⟨x,hx⟩ ⟨y,hy⟩
theorem xy7(i j:Nat)(hi:i<25)(hj:j<25)(h:src i=src j):i=j:=by
 have h1:=xkv ⟨i,hi⟩;have h2:=xkv ⟨j,hj⟩;simp only at h1 h2;rw[<-h1,<-h2,h]
end rkec
namespace rkeb
open Go.RowKit
open arr mem bJ dL bU iD rkec
theorem sizeT:(aO.info? 34).map (·.size)=some 465:=by kernel_rfl
theorem xth(a:List Nat):dH a=mkS (fU.bl a):=rfl
end rkeb
namespace rperm
open Go.RowKit
open arr mem bJ dL bU iD rkec rkeb
def ct(b:List Nat)(x:Nat):List Nat:=(List.range 5).map fun i=>if i<x then kc b i else 0
theorem xic(b:List Nat)(x:Nat):(ct b x).length=5:=by simp[ct]
theorem ct_get(b:List Nat)(x i:Nat)(h:i<5):(ct b x).getD i 0=if i<x then kc b i else 0:=by simp[ct,iO,h]
theorem ct_set(b:List Nat)(x v:Nat)(_hx:x<5)(hv:kc b x=v):(LK .u64 (ct b x)).setIfInBounds x (O .u64 (v:Int))=LK .u64 (ct b (x+1)):=by
 subst hv;rw[xdh];congr 1
 apply List.ext_getElem (by rw[nN,xic,xic]);intro i h1 h2;rw[List.getElem_set];simp only[ct,List.getElem_map,List.getElem_range];by_cases e:x=i
 ·subst e;rw[iP rfl,iP (by omega)]
 ·rw[iQ e];by_cases h3:i<x
  ·rw[iP h3,iP (by omega)]
  ·rw[iQ h3,iQ (by omega)]
theorem ct_at(b:List Nat)(p c:Nat)(hp:p<5)(hc:kc b p=c):(LK .u64 (ct b 5))[p]? = some (O .u64 (c:Int)):=by
 rw[gC _ _ _ (by rw[xic];exact hp),ct_get b 5 p hp,iP hp,hc]
theorem one{w W:G}{x:Obj}(h:w.alloc x=W):W.heap[w.heap.size]? = some x/\W.heap.size=w.heap.size+1/\zb w W:=by
 subst h;exact⟨cM _ _ _ rfl,size_alloc _ _,xby _ _⟩
theorem xi9{T:Array aE}{ts rs:List Nat}(a:List Nat)(w:G)(h:St a)(hK:KT T ts rs):
 aD aO 176 #[I T,I (LK .u64 a)] w (zB w (I (LK .u64 (fC (fun i=>ts.getD i 0) (fun i=>rs.getD i 0) a 24)))):=by
 have H:=D h;have HK:=D hK;obtain⟨z,HZ⟩:=aQ Z;have HZl:U (z.length=25):=⟨by rw[<-HZ.o];rfl⟩;have Hz:U ((#[O .u64 0,O .u64 0,O .u64 0,O .u64 0,O .u64 0,O .u64 0,O .u64 0,O .u64 0,O .u64 0,O .u64 0,O .u64 0,O .u64 0,O .u64 0,O .u64 0,O .u64 0,O .u64 0,O .u64 0,O .u64 0,O .u64 0,O .u64 0,O .u64 0,O .u64 0,O .u64 0,O .u64 0,O .u64 0]:Array aE)=LK .u64 z):=⟨by rw[<-HZ.o];exact z_is⟩;clear h HZ hK;obtain⟨R,HR⟩:=aQ (fC (fun i=>ts.getD i 0) (fun i=>rs.getD i 0) a 24);have HRl:U (R.length=25):=⟨by rw[<-HR.o];exact(xhb (fun i=>ts.getD i 0) _ HK.o.br H.o 24).len⟩;have HRo:=D (gV .u64 R);have HRz:=D (size25 HRl.o);rw[HR.o];go_enter Tryz.func176,Tryz.ntmps176;go_wp2_with fail;rw[Hz.o];obtain⟨W,hW⟩:=aP (((w.alloc (Y T 34)).alloc (Y (LK .u64 a) 162)).alloc (Y (LK .u64 z) 162));obtain⟨b0,b1,b2,hWs,hWb⟩:=three hW;rw[hW];clear hW;have B0:=D b0;have B1:=D b1;have B2:=D b2;have HWs:=D hWs;have HWb:=D hWb;clear hWs hWb b0 b1 b2;go_loopw [14] (fun i wr=>∃ k:Nat,k<=24/\i=O J (k:Int)/\U (At (w.heap.size+1) (LK .u64 (fC (fun i=>ts.getD i 0) (fun i=>rs.getD i 0) a k)) 162 W wr)) (fun i _=>24-(aG i).toNat)
 case atStart=>exact⟨0,by decide,rfl,⟨At.refl B1.o⟩⟩
 case round=>
  obtain⟨k,hk,rfl,A0⟩:=hrel;by_cases hlt:k<24
  ·have hkz:(k:Int)<24:=by omega
   clear hk;obtain⟨cur,Hcur⟩:=aQ (fC (fun i=>ts.getD i 0) (fun i=>rs.getD i 0) a k);have HC:U (St cur):=⟨by rw[<-Hcur.o];exact xhb (fun i=>ts.getD i 0) _ HK.o.br H.o k⟩;rw[Hcur.o]at A0;go_wp2_with fail;rw[z5_is];obtain⟨V,hV⟩:=aP (wr.alloc (Y (LK .u64 [0,0,0,0,0]) 221));obtain⟨v0,v1,v2⟩:=one hV;rw[hV];clear hV;obtain⟨gc,hgc⟩:=aP wr.heap.size;have Gq:U (W.heap.size<=gc/\V.heap.size=gc+1):=⟨hgc ▸ A0.o.size,hgc ▸ v1⟩;have AV:U (At (w.heap.size+1) (LK .u64 cur) 162 W V):=⟨A0.o.later v2⟩;rw[hgc]at v0;rw[hgc];have V0:=D v0;clear v0 v1 v2 hgc A0;go_loopw [17] (fun i wr=>∃ x:Nat,x<=5/\i=O J (x:Int)/\U (At gc (LK .u64 (ct cur x)) 221 V wr)) (fun i _=>5-(aG i).toNat)
   case atStart=>exact⟨0,by decide,rfl,⟨At.refl V0.o⟩⟩
   case round=>
    obtain⟨x,hx,rfl,A0⟩:=hrel;by_cases hlu:x<5
    ·have hxz:(x:Int)<5:=by omega
     have hxz2:(x:Int)<25:=by omega
     have hA:=A0.o.other (by have:=Gq.o;have:=HWs.o;omega) (by have:=Gq.o;have:=HWs.o;omega) AV.o.row;obtain⟨q1,hq1⟩:∃ q,q=x+5:=⟨_,rfl⟩;have f1:J.wrap ((x:Int)+5)=(q1:Int):=bB;have z1:(q1:Int)<25:=by omega
     obtain⟨q2,hq2⟩:∃ q,q=x+10:=⟨_,rfl⟩;have f2:J.wrap ((x:Int)+10)=(q2:Int):=bB;have z2:(q2:Int)<25:=by omega
     obtain⟨q3,hq3⟩:∃ q,q=x+15:=⟨_,rfl⟩;have f3:J.wrap ((x:Int)+15)=(q3:Int):=bB;have z3:(q3:Int)<25:=by omega
     obtain⟨q4,hq4⟩:∃ q,q=x+20:=⟨_,rfl⟩;have f4:J.wrap ((x:Int)+20)=(q4:Int):=bB;have z4:(q4:Int)<25:=by omega
     obtain⟨y0,hy0⟩:=aP (g cur x);have c0:=fH HC.o.len hA x y0 (by omega) hy0;obtain⟨y1,hy1⟩:=aP (g cur q1);have c1:=fH HC.o.len hA q1 y1 (by omega) hy1;obtain⟨y2,hy2⟩:=aP (g cur q2);have c2:=fH HC.o.len hA q2 y2 (by omega) hy2;obtain⟨y3,hy3⟩:=aP (g cur q3);have c3:=fH HC.o.len hA q3 y3 (by omega) hy3;obtain⟨y4,hy4⟩:=aP (g cur q4);have c4:=fH HC.o.len hA q4 y4 (by omega) hy4;obtain⟨v,hv⟩:=aP (kc cur x);have Eq:=xor5 y0 y1 y2 y3 y4 v (hy0 ▸ HC.o.lt _) (hy1 ▸ HC.o.lt _) (hy2 ▸ HC.o.lt _) (hy3 ▸ HC.o.lt _) (hy4 ▸ HC.o.lt _) (by rw[<-hv,kc,<-hy0,<-hy1,<-hy2,<-hy3,<-hy4,hq1,hq2,hq3,hq4]);have HS:=D (ct_set cur x v hlu hv);clear hA hq1 hq2 hq3 hq4 hy0 hy1 hy2 hy3 hy4 hv;go_wp2_with fail;refine gZ 25 (by kernel_rfl) (by kernel_rfl) ?_;simp only[jH,jU,iW,jK];repeat still_step
     refine jR ?_;have A1:U (At gc (LK .u64 (ct cur x)) 221 V wr.drew):=⟨eN A0.o⟩;clear c0 c1 c2 c3 c4 f1 f2 f3 f4
     with_reducible refine cU A1 rfl _ _ _ rfl rfl ?_
     refine⟨_,_,_,rfl,rfl,rfl,by rw[fE,xic];exact hlu,?_⟩;intro wn HRn;rw[HS.o]at HRn;go_wp2_with fail;go_roundw
     case rel=>exact⟨x+1,by omega,by go_num,HRn⟩
     case measure=>simp[aG];omega
    ·obtain rfl:x=5:=by omega
     simp only[jE];clear hx hlu;go_wp2_with fail;rw[Hz.o];have AW:U (At (w.heap.size+1) (LK .u64 cur) 162 W wr):=⟨xgk AV.o Gq.o.1 (by have:=Gq.o;have:=HWs.o;omega) A0.o⟩;have hcc:=A0.o.row;have hgs:gc<wr.heap.size:=A0.o.lt;obtain⟨V2,hV⟩:=aP (wr.alloc (Y (LK .u64 z) 162));obtain⟨v0,v1,v2⟩:=one hV;rw[hV];clear hV;obtain⟨gb,hgb⟩:=aP wr.heap.size;have G2:U (W.heap.size<=gb/\V2.heap.size=gb+1/\gc<gb):=⟨hgb ▸ AW.o.size,hgb ▸ v1,hgb ▸ hgs⟩;have AX:U (At (w.heap.size+1) (LK .u64 cur) 162 W V2):=⟨AW.o.later v2⟩;have VC:U (V2.heap[gc]? = some (Y (LK .u64 (ct cur 5)) 221 (0,0))):=⟨(v2.block _ hgs).trans hcc⟩;rw[hgb]at v0;rw[hgb];have VB:=D v0;clear v0 v1 v2 hgb A0 AW hcc hgs AV V0;go_loopw [46] (fun i wr=>∃ x:Nat,x<=5/\i=O J (x:Int)/\U (At gb (LK .u64 (bJ.part (fun j=>oxy (src j)) (bT.tl ts (cO cur)) (g z) (5*x))) 162 V2 wr)) (fun i _=>5-(aG i).toNat)
     case atStart=>
      refine⟨0,by decide,rfl,⟨?_⟩⟩;rw[Nat.mul_zero,xha,xcu HZl.o];exact At.refl VB.o
     case round=>
      obtain⟨x,hx,rfl,A0⟩:=hrel;by_cases hlu:x<5
      ·have hxz:(x:Int)<5:=by omega
       clear hx;obtain⟨dd,hd⟩:=aP (kd cur x);obtain⟨k4,hk4⟩:∃ q,q=x+4:=⟨_,rfl⟩;obtain⟨k1,hk1⟩:∃ q,q=x+1:=⟨_,rfl⟩;obtain⟨p4,hp4⟩:=aP ((x+4)%5);obtain⟨p1,hp1⟩:=aP ((x+1)%5);obtain⟨c,hc⟩:=aP (kc cur p4);obtain⟨e,he⟩:=aP (kc cur p1);obtain⟨r,hr⟩:=aP (rol (kc cur p1) 1);have be:e<18446744073709551616:=he ▸ xb3 HC.o p1;have bd:dd<18446744073709551616:=hd ▸ xex HC.o x;have Her:=D (show rol e 1=r by rw[<-he,hr]);have Dq:=fN c r dd (hc ▸ xb3 HC.o p4) (hr ▸ xee _ _ (xb3 HC.o p1)) (xfw cur x p4 p1 c r dd hp4 hp1 hc hr hd);have w4:J.wrap ((x:Int)+4)=(k4:Int):=bB;have w1:J.wrap ((x:Int)+1)=(k1:Int):=bB;have m4:(k4:Int).tmod 5=(p4:Int):=by rw[jB (by omega)];omega
       have m1:(k1:Int).tmod 5=(p1:Int):=by rw[jB (by omega)];omega
       have l4:(p4:Int)<5:=by omega
       have l1:(p1:Int)<5:=by omega
       have hcr:=A0.o.other (by have:=G2.o;omega) (by have:=G2.o;omega) VC.o;have c4:wr.cell? ⟨gc,p4,none⟩=some (O .u64 (c:Int)):=aZ hcr (ct_at cur p4 c (by omega) hc);have c1:wr.cell? ⟨gc,p1,none⟩=some (O .u64 (e:Int)):=aZ hcr (ct_at cur p1 e (by omega) he);have Hd:=D hd;clear hd hc he hr hp4 hp1 hk4 hk1 hcr;go_wp2_with fail;refine xav (by kernel_rfl) (by kernel_rfl) ?_;repeat still_step
       still_call (left1 e r _ be Her.o)
       repeat still_step
       refine jR ?_;clear c4 c1 w4 w1 m4 m1 Dq;have A1:U (At gb (LK .u64 (bJ.part (fun j=>oxy (src j)) (bT.tl ts (cO cur)) (g z) (5*x))) 162 V2 wr.drew):=⟨eN A0.o⟩;clear A0;go_wp2_with fail;go_loopw [61] (fun i wr=>∃ y:Nat,y<=5/\i=O J (y:Int)/\U (At gb (LK .u64 (bJ.part (fun j=>oxy (src j)) (bT.tl ts (cO cur)) (g z) (5*x+y))) 162 V2 wr)) (fun i _=>5-(aG i).toNat)
       case atStart=>exact⟨0,by decide,rfl,A1⟩
       case round=>
        clear A1;obtain⟨y,hy,rfl,A0⟩:=hrel;by_cases hlv:y<5
        ·have hyz:(y:Int)<5:=by omega
         clear hy;have f1:J.wrap (2*(x:Int))=((2*x:Nat):Int):=bB;have f2:J.wrap (3*(y:Int))=((3*y:Nat):Int):=bB;have f7:J.wrap (5*(y:Int))=((5*y:Nat):Int):=bB;obtain⟨xa,hxa⟩:∃ q:Nat,q=2*x:=⟨_,rfl⟩;obtain⟨yb,hyb⟩:∃ q:Nat,q=3*y:=⟨_,rfl⟩;obtain⟨yf,hyf⟩:∃ q:Nat,q=5*y:=⟨_,rfl⟩;rw[<-hxa]at f1;rw[<-hyb]at f2;rw[<-hyf]at f7;obtain⟨c,hc⟩:∃ q:Nat,q=xa+yb:=⟨_,rfl⟩;have f3:J.wrap ((xa:Int)+(yb:Int))=(c:Int):=bB;obtain⟨d,hd⟩:∃ q:Nat,q=c%5:=⟨_,rfl⟩;have f4:(c:Int).tmod 5=(d:Int):=by rw[jB (by omega)];omega
         obtain⟨e,he⟩:∃ q:Nat,q=5*d:=⟨_,rfl⟩;have f5:J.wrap (5*(d:Int))=(e:Int):=bB;obtain⟨j,hj⟩:∃ q:Nat,q=y+e:=⟨_,rfl⟩;have f6:J.wrap ((y:Int)+(e:Int))=(j:Int):=bB;obtain⟨i,hi⟩:∃ q:Nat,q=x+yf:=⟨_,rfl⟩;have f8:J.wrap ((x:Int)+(yf:Int))=(i:Int):=bB;have hi25:i<25:=by omega
         have hj25:j<25:=by omega
         have iz:(i:Int)<25:=by omega
         have jz:(j:Int)<25:=by omega
         have hsj:src j=i:=by rw[hj,he,hd,hc,hxa,hyb,hi,hyf];exact src_at x y hlu hlv
         have hoi:oxy i=5*x+y:=by unfold oxy;omega
         obtain⟨l,hl⟩:=aP (g cur i);obtain⟨m,hm⟩:=aP (g (cO cur) i);have bm:m<18446744073709551616:=hm ▸ (xb4 HC.o).lt i;have V:=fN l dd m (hl ▸ HC.o.lt i) bd (by rw[<-hm,cO,xc4 _ i hi25,hl,xfx cur i x (by omega),Hd.o]);obtain⟨t,ht⟩:=aP (ts.getD i 0);have bt:t<9223372036854775808:=ht ▸ HK.o.bt i;have cl:=fH HC.o.len (A0.o.other (by have:=G2.o;have:=HWs.o;omega) (by have:=G2.o;have:=HWs.o;omega) AX.o.row) i l hi25 hl;have ct:wr.cell? ⟨w.heap.size,184+i,none⟩=some (O J (t:Int)):=by
          rw[<-ht];exact aZ (A0.o.other (by have:=G2.o;have:=HWs.o;omega) (by have:=G2.o;have:=HWs.o;omega) (AX.o.other (by have:=HWs.o;omega) (by omega) B0.o)) (HK.o.t i hi25)
         have HS:=D (xch (ord:=fun j=>oxy (src j)) (f:=bT.tl ts (cO cur)) (d:=g z) (m:=5*x+y) j (rol m (t%64)) hj25 (by rw[hsj,hoi]) (fun i' hi' e'=>xy7 i' j hi' hj25 (by rw[hsj];have h1:=xwm (src i') x y (xmx i' hi') hlu hlv e';omega)) (by rw[bT.tl,hsj,hm,ht]));clear hxa hyb hyf hc hd he hj hi hsj hoi hl ht hm;go_wp2_with fail;refine gZ 26 (by kernel_rfl) (by kernel_rfl) ?_;simp only[jH,jU,iW,jK];repeat still_step
         still_call (rols.xoy m t _ bm bt)
         repeat still_step
         refine jR ?_;have A1:U (At gb (LK .u64 (bJ.part (fun j=>oxy (src j)) (bT.tl ts (cO cur)) (g z) (5*x+y))) 162 V2 wr.drew):=⟨eN A0.o⟩;clear cl ct f1 f2 f3 f4 f5 f6 f7 f8 V
         with_reducible refine cU A1 rfl _ _ _ rfl rfl ?_
         refine⟨_,_,_,rfl,rfl,rfl,by rw[lk25 _ (xcw _ _ _ _)];exact hj25,?_⟩;intro wn HRn;rw[HS.o]at HRn;go_wp2_with fail;go_roundw
         case rel=>exact⟨y+1,by omega,by go_num,HRn⟩
         case measure=>simp[aG];omega
        ·obtain rfl:y=5:=by omega
         simp only[jE];go_wp2_with fail;go_roundw
         case rel=>exact⟨x+1,by omega,by go_num,by rw[oB];exact A0⟩
         case measure=>simp[aG];omega
      ·obtain rfl:x=5:=by omega
       simp only[jE];clear hx hlu;obtain⟨tb,Htb⟩:=aQ (cW (fun i=>ts.getD i 0) (cO cur));have HT:U (St tb):=⟨by rw[<-Htb.o];exact xeg _ (xb4 HC.o)⟩;have hfin:=A0.o;rw[xg8 _ _ _ _ (fun i hi=>oxy_lt _ (xmx i hi)),<-bT.xr7,Htb.o]at hfin;obtain⟨V3,hV3⟩:=aP wr;rw[hV3]at hfin;rw[hV3];clear hV3 A0;have AY:U (At (w.heap.size+1) (LK .u64 cur) 162 W V3):=⟨xgk AX.o G2.o.1 (by have:=G2.o;have:=HWs.o;omega) hfin⟩;have VB3:=D hfin.row;have G3:U (gb<V3.heap.size):=⟨hfin.lt⟩;clear hfin AX VB VC;go_wp2_with fail;go_loopw [12] (fun i wr=>∃ n:Nat,n<=25/\n%5=0/\i=O J (n:Int)/\U (At (w.heap.size+1) (LK .u64 (bJ.part (fun i=>i) (fU.bl tb) (g cur) n)) 162 V3 wr)) (fun i _=>25-(aG i).toNat)
       case atStart=>
        refine⟨0,by decide,rfl,rfl,⟨?_⟩⟩;rw[xha,xcu HC.o.len];exact At.refl AY.o.row
       case round=>
        obtain⟨n,hn,hm,rfl,A0⟩:=hrel;by_cases hlu:n<25
        ·have hnz:(n:Int)<25:=by omega
         have hn20:n<=20:=by omega
         have Hm:=D hm;clear hn hlu hm;go_wp2_with fail;go_loopw [96] (fun i wr=>∃ x:Nat,x<=5/\i=O J (x:Int)/\U (At (w.heap.size+1) (LK .u64 (bJ.part (fun i=>i) (fU.bl tb) (g cur) (n+x))) 162 V3 wr)) (fun i _=>5-(aG i).toNat)
         case atStart=>exact⟨0,by decide,rfl,A0⟩
         case round=>
          clear A0;obtain⟨x,hx,rfl,A0⟩:=hrel;by_cases hlv:x<5
          ·have hxz:(x:Int)<5:=by omega
           have hm:=Hm.o;obtain⟨i,hi⟩:∃ q:Nat,q=n+x:=⟨_,rfl⟩;have f8:J.wrap ((x:Int)+(n:Int))=(i:Int):=bB;obtain⟨x1,hx1⟩:∃ q:Nat,q=x+1:=⟨_,rfl⟩;have f1:J.wrap ((x:Int)+1)=(x1:Int):=bB;obtain⟨p1,hp1⟩:∃ q:Nat,q=x1%5:=⟨_,rfl⟩;have g1:(x1:Int).tmod 5=(p1:Int):=by rw[jB (by omega)];omega
           obtain⟨j1,hj1⟩:∃ q:Nat,q=p1+n:=⟨_,rfl⟩;have e1:J.wrap ((p1:Int)+(n:Int))=(j1:Int):=bB;obtain⟨x2,hx2⟩:∃ q:Nat,q=x+2:=⟨_,rfl⟩;have f2:J.wrap ((x:Int)+2)=(x2:Int):=bB;obtain⟨p2,hp2⟩:∃ q:Nat,q=x2%5:=⟨_,rfl⟩;have g2:(x2:Int).tmod 5=(p2:Int):=by rw[jB (by omega)];omega
           obtain⟨j2,hj2⟩:∃ q:Nat,q=p2+n:=⟨_,rfl⟩;have e2:J.wrap ((p2:Int)+(n:Int))=(j2:Int):=bB;have hi25:i<25:=by omega
           have h125:j1<25:=by omega
           have h225:j2<25:=by omega
           have iz:(i:Int)<25:=by omega
           have z1:(j1:Int)<25:=by omega
           have z2:(j2:Int)<25:=by omega
           have q1:(i%5+1)%5+5*(i / 5)=j1:=by omega
           have q2:(i%5+2)%5+5*(i / 5)=j2:=by omega
           obtain⟨l,hl⟩:=aP (g tb i);obtain⟨m,hm1⟩:=aP (g tb j1);obtain⟨u,hu⟩:=aP (g tb j2);obtain⟨v,hv⟩:=aP (fU.bl tb i);have hA:=A0.o.other G3.o (by have:=G2.o;have:=HWs.o;omega) VB3.o;have cl:=fH HT.o.len hA i l hi25 hl;have cm:=fH HT.o.len hA j1 m h125 hm1;have cn:=fH HT.o.len hA j2 u h225 hu;have HV:=D (bend3 l m u v (hl ▸ HT.o.lt _) (hm1 ▸ HT.o.lt _) (hu ▸ HT.o.lt _) (fU.xdu tb i j1 j2 l m u v q1 q2 hl hm1 hu hv));have HS:=D (xch (ord:=fun i=>i) (f:=fU.bl tb) (d:=g cur) (m:=n+x) i v hi25 hi (fun i' hi' e'=>e'.trans hi.symm) hv);clear hi hx1 hp1 hj1 hx2 hp2 hj2 q1 q2 hl hm1 hu hv hA hm;go_wp2_with fail;refine gZ 26 (by kernel_rfl) (by kernel_rfl) ?_;simp only[jH,jU,iW,jK];repeat still_step
           refine jR ?_;have A1:U (At (w.heap.size+1) (LK .u64 (bJ.part (fun i=>i) (fU.bl tb) (g cur) (n+x))) 162 V3 wr.drew):=⟨eN A0.o⟩;clear cl cm cn f1 f2 f8 g1 g2 e1 e2
           with_reducible refine cU A1 rfl _ _ _ rfl rfl ?_
           refine⟨_,_,_,rfl,rfl,rfl,by rw[lk25 _ (xcw _ _ _ _)];exact hi25,?_⟩;intro wn HRm;have HRn:U (At (w.heap.size+1) (LK .u64 (bJ.part (fun i=>i) (fU.bl tb) (g cur) (n+x+1))) 162 V3 wn):=⟨by rw[<-HS.o,<-HV.o];exact HRm.o⟩;clear HRm;go_wp2_with fail;go_roundw
           case rel=>exact⟨x+1,by omega,by go_num,HRn⟩
           case measure=>simp[aG];omega
          ·obtain rfl:x=5:=by omega
           simp only[jE];go_wp2_with fail;go_roundw
           case rel=>exact⟨n+5,by omega,by have:=Hm.o;omega,by go_num,A0⟩
           case measure=>simp[aG];omega
        ·obtain rfl:n=25:=by omega
         simp only[jE];clear hn hm hlu;obtain⟨s,Hs⟩:=aQ (dH tb);have Hst:U (St s):=⟨by rw[<-Hs.o];exact xgl HT.o⟩;have hfin:=A0.o;rw[xg8 _ _ _ _ (fun i hi=>hi),<-xth,Hs.o]at hfin;have AE:U (At (w.heap.size+1) (LK .u64 s) 162 W wr):=⟨AY.o.trans hfin⟩;clear hfin;obtain⟨x,hx⟩:=aP (g s 0);obtain⟨c,hc⟩:=aP (rs.getD k 0);obtain⟨v,hv⟩:=aP (x ^^^ c);have V:=fN x c v (hx ▸ Hst.o.lt 0) (hc ▸ HK.o.br k) hv;have cx:=fH Hst.o.len AE.o.row 0 x (by decide) hx;have cr:wr.cell? ⟨w.heap.size,160+k,none⟩=some (O .u64 (c:Int)):=by rw[<-hc];exact aZ (AE.o.other (by have:=HWs.o;omega) (by omega) B0.o) (HK.o.r k hlt)
         have HS:U ((LK .u64 s).setIfInBounds 0 (O .u64 (v:Int))=LK .u64 (fC (fun i=>ts.getD i 0) (fun i=>rs.getD i 0) a (k+1))):=⟨by
          rw[xou c v Hst.o.len (by rw[hx,hv]),fC,Hcur.o,cR,Htb.o,Hs.o,hc]⟩
         clear hx hc hv;go_wp2_with fail;refine gZ 8 (by kernel_rfl) (by kernel_rfl) ?_;simp only[jH,jU,iW,jK];repeat still_step
         refine jR ?_;have A4:U (At (w.heap.size+1) (LK .u64 s) 162 W wr.drew):=⟨eN AE.o⟩;clear cx cr V
         with_reducible refine cU A4 rfl _ _ _ rfl rfl ?_
         refine⟨_,_,_,rfl,rfl,rfl,by rw[lk25 _ Hst.o.len];decide,?_⟩;intro w5 G5;rw[HS.o]at G5;go_wp2_with fail;go_roundw
         case rel=>exact⟨k+1,by omega,by go_num,G5⟩
         case measure=>simp[aG];omega
  ·obtain rfl:k=24:=by omega
   simp only[jE];have hfin:=A0.o;rw[HR.o]at hfin;have Hrow:=D hfin.row;have Hres:U (wr.heap[w.heap.size+2]? = some (Y (LK .u64 z) 162 (0,0))):=⟨hfin.other (by have:=HWs.o;omega) (by omega) B2.o⟩;have Hb5:U (zb w wr):=⟨HWb.o.trans (hfin.below (by have:=HWs.o;omega) (by omega))⟩;clear hfin;go_wp2_with (first
    | (refine iL rfl 162 _ rfl (w.heap.size+1) rfl 162 (LK .u64 R) (0,0) _ Hrow.o Tryz.underlying162 rfl HRz.o ?_)
    | (refine iS rfl 162 _ _ rfl (w.heap.size+2) (LK .u64 R) rfl rfl 162 _ Hres.o HRz.o (same25 HZl.o HRl.o) HRo.o ?_))
   refine iV (v:=I (LK .u64 R)) (jC rfl _ _ (w.heap.size+2) 162 _ (0,0) _ rfl (jD _ _ _ _ _ _ Hres.o) Tryz.underlying162 rfl HRz.o) rfl ?_;exact⟨rfl,Hb5.o.trans (below_setRow _ _ _ (by omega))⟩
end rperm
end Go.Proofs.YtomphjajkkddkaaGreatDoor
