/-
  Layer 13's plain functions: sizes, bounds, what a message tells, and the set, seed and message whose
-/
import Derived.Test.YtomphjajkkddkaaGreatDoorZs13
import Derived.Test.YtomphjajkkddkaaGreatDoorZs02
import Derived.Test.YtomphjajkkddkaaGreatDoorZs09
import Derived.Test.YtomphjajkkddkaaGreatDoorZs12
import Derived.Test.YtomphjajkkddkaaGreatDoorZs04
import Derived.Test.YtomphjajkkddkaaGreatDoorZs01
import Derived.Test.YtomphjajkkddkaaGreatDoorZs05
import Derived.Great.BuildSlice
import Derived.WalkMore
set_option maxRecDepth 100000
set_option maxHeartbeats 16000000
set_option linter.unusedSimpArgs false
set_option linter.unusedVariables false
open Go Go.RowKit
open Go renaming World->G,Calls->aD,Value->aE,TypeId->aH,Program->aI
open Go.RowKit renaming intOf->aG
open Go.Instr renaming index->aN
open Go.Value renaming int->O,agg->I,string->E,tuple->aA,slice->aB,pointer->aC
open Go.IntKind renaming i64->J
open Go.Obj renaming cells->Y
open Go.Proofs.Tryz renaming prog->aO
namespace Go.Proofs.YtomphjajkkddkaaGreatDoor
namespace fJ
open arr mem cZ fB aT bE dD cY aW aY bA bL eD dQ bF fL bQ bM bZ eH kkey bS sigf
open bC (aU fG xaz)
theorem xni:(fun k=>((zt k:Nat):Int)%8380417)=fun k=>((zt k:Nat):Int):=by
 funext k
 have:zt k<8380417:=tabm.pw_lt _ _;omega
theorem xlr(c x:ByteArray):(iE c x).size=2+c.size+x.size:=by
 unfold iE;rw[jS,jS];rfl
theorem xdm(S:Sg)(n:Nat):(cT S n).size=(S.s / 4).toNat:=fD.xb1 _ _ _
theorem xzf(S:Sg)(n:Nat)(ha:S.a=131072\/S.a=524288):(eI S n).size=(S.s / 4).toNat+32*(lb (S.a-1).toNat+1)*S.ln+(S.o.toNat+S.kn):=by
 have h:=(xd5 S.a ha).1;unfold mw at h;unfold eI;rw[jS,xbd,xdm,h,<-xaz,xaz];congr 1
 show (cP _).toArray.size=_;rw[List.size_toArray,cP,List.length_map,xey]
theorem xhr{S:Sg}{n:Nat}(h:fX S n=true):eW (tZ S n) S.ln<S.a-S.t*S.e/\eW (tLo S n) S.kn<S.b-S.t*S.e/\eW (gK S n) S.kn<S.b/\(dR (fI S n) S.kn:Int)<=S.o:=by
 unfold fX at h;simp only[jQ,kN]at h;exact⟨h.1,h.2.1,h.2.2.1,h.2.2.2⟩
theorem xom(g x:Int)(h:g=95232\/g=261888) : 0<=cD g x/\cD g x<=(8380416:Int) / (2*g)-1:=by
 rcases h with rfl | rfl
 ·have:=xeb x;rw[show (8380416:Int) / (2*95232)-1=43 from rfl];omega
 ·have:=xea x;rw[show (8380416:Int) / (2*261888)-1=15 from rfl];omega
theorem hn_01(g z x:Int):hn g z x=0\/hn g z x=1:=by unfold hn;split<;>simp
theorem xk0(x:ByteArray)(a b:Nat)(h:x.size<=a):x.extract a b=ByteArray.empty:=ByteArray.extract_eq_empty_iff.2 (by omega)
theorem xuq(ζ : Nat->Int)(sd:ByteArray)(kn ln:Nat)(e:Int):(dT ζ sd kn ln e).extract 32 64=pKey sd kn ln:=by
 unfold dT;rw[mO,jS,xbv,xe5,mO,xbv];simp only[Nat.reduceAdd,Nat.reduceSub];rw[xes _ _ (xe5 _ _ _),ByteArray.extract_eq_empty_iff.2 (show min 0 (pTr ζ sd kn ln e).size<=0 by omega),nZ,xk0 _ _ _ (by rw[xbv];decide),ByteArray.empty_append]
theorem xus(ζ : Nat->Int)(sd:ByteArray)(kn ln:Nat)(e:Int):(dT ζ sd kn ln e).extract 64 128=pTr ζ sd kn ln e:=by
 unfold dT;rw[mO,jS,xbv,xe5];simp only[Nat.reduceAdd,Nat.reduceSub];rw[xes _ _ (xl3 _ _ _ _ _),xk0 _ _ _ (by rw[jS,xbv,xe5];decide),ByteArray.empty_append]
theorem xmt(ζ : Nat->Int)(sd:ByteArray)(kn ln:Nat)(e t a b o s:Int)(A B C:Nat->Nat->Int)(m z:ByteArray):
 sgn ζ kn ln e t a b o s (dT ζ sd kn ln e) A B C m z=⟨ζ,kn,ln,e,t,a,b,o,s,cI sd kn ln,out TL RL 2 (pTr ζ sd kn ln e++m) 64,out TL RL 2 (pKey sd kn ln++z++out TL RL 2 (pTr ζ sd kn ln e++m) 64) 64,A,B,C⟩:=by
 unfold sgn;rw[xuq,xus,xur]
theorem xrk(sd m z:ByteArray)(hsd:aU sd=seed32)(hm:aU m=[0,1,99,97,98,99])(hz:aU z=List.replicate 32 0):
 fX (sgn tbf.ζ 1 1 2 20 131072 95232 60 128 (dT tbf.ζ sd 1 1 2) (qS (cB sd 1 1) 2) (fun i=>qS (cB sd 1 1) 2 (1+i)) (pLo tbf.ζ sd 1 1 2) m z) 0=true:=by
 rw[xmt];exact sigt.try_ok sd m z hsd hm hz
theorem xn3(p:Nat->Nat->Int)(n j:Nat)(hj:j<n):cb (p j) 256<=eW p n:=by
 induction n with
 | zero=>omega
 | succ n ih=>
  rw[eW];by_cases e:j=n
  ·subst e;omega
  ·have:=ih (by omega);omega
theorem tZ_in{S:Sg}{n:Nat}(h:fX S n=true)(ht : 1<=S.t)(he : 1<=S.e)(i:Nat)(hi:i<S.ln):ins (tZ S n i) (S.a-1) S.a:=fun k hk=>by
 have h1:=(xhr h).1;have h2:=xn3 (tZ S n) S.ln i hi;have h3:=cb_ge (tZ S n i) 256 k hk;have h4 : 1*1<=S.t*S.e:=Int.mul_le_mul ht he (by decide) (by omega);omega
end fJ
namespace qpair
open arr mem aV aY bC bQ
def x2(a b:Nat):ByteArray:=⟨#[UInt8.ofNat a,UInt8.ofNat b]⟩
theorem xd8(a b:Nat)(ha:a<256)(hb:b<256)(w:G):aD aO 84 #[O J (a:Int),O J (b:Int)] w (zB w (E (x2 a b))):=by
 obtain⟨W,hW⟩:=aP (w.alloc (Y #[O .u8 (a:Int),O .u8 (b:Int)] 5));obtain⟨r2,hs2,b2⟩:=one hW;have hcv:=xeo (t:=5) (l:=[a,b]) (cap:=2) (n:=2) rfl (by simp;omega) r2;obtain⟨X,hX⟩:∃ X:ByteArray,⟨(cP [a,b]).toArray⟩=X:=⟨_,rfl⟩;have hx2:X=x2 a b:=by rw[<-hX];rfl
 rw[hX]at hcv;rw[<-hx2];have fa:IntKind.u8.wrap (a:Int)=(a:Int):=by rw[kU];omega
 have fb:IntKind.u8.wrap (b:Int)=(b:Int):=by rw[kU];omega
 have HW:=D hW;have B2:=D b2;clear hX hx2 r2 hs2 b2 hW;go_enter Tryz.func84,Tryz.ntmps84;go_wp2_with (rw[HW.o]);go_ret;exact⟨rfl,B2.o⟩
end qpair
namespace eM
open arr mem aT aV bC bS bQ
def ups(p:Nat->Nat->Int)(i:Nat)(f:Nat->Int):Nat->Nat->Int:=fun i'=>if i'=i then f else p i'
def fst(q:Nat->Nat->Int)(n:Nat):Nat->Nat->Int:=fun i=>if i<n then q i else fun _=>0
theorem xbl(q:Nat->Nat->Int):fst q 0=fun _ _=>0:=by funext i;unfold fst;rw[iQ (by omega)]
theorem xbq(q:Nat->Nat->Int)(n:Nat):ups (fst q n) n (q n)=fst q (n+1):=by
 funext i
 unfold ups fst;by_cases e:i=n
 ·subst e;rw[iP rfl,iP (by omega)]
 ·rw[iQ e];by_cases h:i<n
  ·rw[iP h,iP (by omega)]
  ·rw[iQ h,iQ (by omega)]
theorem xry(o:Nat)(vs:List aE)(C:Array aE):(sp C o vs).size=C.size:=by
 induction vs generalizing o C with
 | nil=>rfl
 | cons v r ih=>rw[sp,ih,nD]
theorem sp_get(vs:List aE):∀ (o:Nat) (C:Array aE) (j:Nat),j<C.size->(sp C o vs)[j]? = if o<=j/\j<o+vs.length then vs[j-o]? else C[j]? := by
 induction vs with
 | nil=>intro o C j _;rw[sp,iQ (by rw[List.length_nil];omega)]
 | cons v r ih=>
  intro o C j hj;rw[sp,ih (o+1) _ j (by rw[nD];exact hj),Array.getElem?_setIfInBounds,mF];by_cases e:j=o
  ·subst e;rw[iQ (by omega),iP rfl,iP hj,iP (by omega),mW];rfl
  ·by_cases h:o+1<=j/\j<o+1+r.length
   ·rw[iP h,iP (by omega),show j-o=(j-(o+1))+1 by omega];rfl
   ·rw[iQ h,iQ (by omega),iQ (by omega)]
theorem sp_rw(m:Nat)(p:Nat->Nat->Int)(i:Nat)(f:Nat->Int):sp (RW m p) (256*i) (FL J 256 f).toList=RW m (ups p i f):=by
 apply Array.ext (by rw[xry,xe8,xe8]);intro j h1 h2;rw[xry,xe8]at h1;apply kF;rw[<-kC,<-kC,sp_get _ _ _ j (by rw[xe8];exact h1),jM,cC];have e2:(RW m (ups p i f))[j]? = some (O J (ups p i f (j / 256) (j%256))):=xba J (256*m) _ j h1;have e3:(RW m p)[j]? = some (O J (p (j / 256) (j%256))):=xba J (256*m) _ j h1;rw[e2,e3];unfold ups;by_cases h : 256*i<=j/\j<256*i+256
 ·rw[iP h,iP (by omega),Array.getElem?_toList,xba J 256 f _ (by omega)];rw[show j-256*i=j%256 by omega]
 ·rw[iQ h,iQ (by omega)]
theorem xci{ops:Array Oper}{Q:Exit->Act->G->Prop}{rest:List Oper}{op:Oper}{ac:Act}{w0 w:G}{g m i o:Nat}{t:aH}{p:Nat->Nat->Int}{f:Nat->Int}{F:Array aE}(H:U (At g (RW m p) t w0 w))(hF:FL J 256 f=F)(hi:i<m)(hoi:i*256=o)
 (hgd:op.guard=none) (x y:Operand) (ho:op.op=.store 76 x y) (hd:op.dst=none) (hx:ac.eval x=aC (some ⟨g,o,none⟩)) (hy:ac.eval y=I F)
 (h:∀ w',U (At g (RW m (ups p i f)) t w0 w')->wpList aO ops Q rest ac w'):wpList aO ops Q (op :: rest) ac w:=by
 subst hF;obtain⟨hz,hsize⟩:=iY aV.aX;refine wpList_store_mid hgd _ x y ho g o (FL J 256 f) hx hy (fun j hj=>?_) (by rw[cC];exact hsize) (xbj _ _ _) ?_
 ·rw[cC]at hj;rw[H.o.cell,H.o.frozen];have e3:(RW m p)[o+j]? = some (O J (p ((o+j) / 256) ((o+j)%256))):=xba J (256*m) _ (o+j) (by omega);rw[e3];exact⟨rfl,rfl⟩
 ·rw[hd];refine h _ ⟨?_⟩;have h1:At g (sp (RW m p) (256*i) (FL J 256 f).toList) t w (w.setCells g (256*i) (FL J 256 f).toList):=At.set H.o.row H.o.lt (iR _ _);rw[sp_rw m p i f]at h1;rw[show o=256*i by omega];exact H.o.trans h1
theorem xp9{w:G}{base g M size:Nat}{e:aH}{xs:List aE}(h:w.ownsRow base e size (aB (some ⟨g,0,none⟩) M M) M xs):∃ cur,w.heap[g]? = some (Y cur e (0,0))/\cur.toList=xs:=by
 rcases h.2 with ⟨h',-⟩ | ⟨g',cap',cur,h',hb,hg,-,hm,hs,htake⟩
 ·simp at h'
 ·simp only[Value.slice.injEq,mT,Addr.mk.injEq,and_true,true_and]at h';obtain⟨rfl,rfl⟩:=h';refine⟨cur,hg,?_⟩;rw[<-htake,lG (by rw[jM];omega)]
theorem xbn{w w':G}{B:Nat}{z:Array aE}{e:aH}{n:Nat}(hz:FL J 256 (fun _=>0)=z)(h:w'.ownsRow B e 256 (aB (some ⟨w.heap.size,0,none⟩) n n) n (madeCells (Value.agg z).cells (n*256)).toList)(hg:w.grownBy w' none):
 w'.heap[w.heap.size]? = some (Y (RW n fun _ _=>0) e (0,0))/\zb w w':=by
 obtain⟨cur,h1,h2⟩:=xp9 h;have e0:cur=RW n fun _ _=>0:=by
  apply Array.ext';rw[h2,<-hz];exact lD Array.toList (xo9 n)
 rw[e0]at h1;exact⟨h1,(iR _ _).grown hg (iM _) (fun k hk=>by simp at hk)⟩
theorem xeh{P:aI}{w:G}{o:Oper}{a:Act}{K:Act->G->Prop}{Q:Exit->Act->G->Prop}(l c:Operand)(t:aH)(hop:o.op=Op.makeSlice t l c)
 (e:aH) (i:TypeInfo) (z:aE) (size:Nat) (h1:P.underlying t=some (.slice e)) (h2:P.info? e=some i) (h3:i.zero=some z) (h4:i.size=size)
 (kl kc:IntKind) (n:Nat) (hl:a.eval l=.int kl (n:Int)) (hc:a.eval c=.int kc (n:Int)) (b2:i.bytes*n<=281474976710656) (b3:n<=maxLen)
 (hK:∀ w',w'.ownsRow w.heap.size e size (aB (some ⟨w.heap.size,0,none⟩) n n) n (madeCells z.cells (n*size)).toList->w.grownBy w' none->K (a.put o.dst (aB (some ⟨w.heap.size,0,none⟩) n n)) w'):
 o.wp P a w K Q:=by
 obtain⟨w',hrun,r1,r2⟩:=run_make_full (P:=P) w w.heap.size t e i z size h1 h2 h3 h4 kl kc n b2 b3 (iM _);unfold Oper.wp;simp[execOp,hop,hl,hc,hrun,Result.andThen];exact hK w' r1 r2
theorem xbp{w:G}{B g m c:Nat}{t:aH}{p q:Nat->Nat->Int}(h:w.heap[g]? = some (Y (RW m p) t (0,0)))(hB:B<=g)(hp:∀ i,i<m->p i=q i):Holds w B (aB (some ⟨g,0,none⟩) m c) m q:=
 ⟨g,c,rfl,hB,bI h,fun i hi k hk=>by rw[xq6 h i k hi hk,hp i hi]⟩
theorem xbk(q:Nat->Nat->Int)(n i:Nat)(h:i<n):fst q n i=q i:=by unfold fst;rw[iP h]
end eM
namespace quni
open arr mem bD aT aV bC fW rsuni
def tl(s:ByteArray)(i:Nat):ByteArray:=s.extract i s.size
theorem xmz(s:ByteArray)(i:Nat)(h:i<=s.size):(tl s i).size=s.size-i:=bS.size_extract s i s.size h (iM _)
theorem tl_tl(s:ByteArray)(i k:Nat)(h:i+k<=s.size):(tl s i).extract k (tl s i).size=tl s (i+k):=by
 rw[xmz s i (by omega)];unfold tl;rw[ByteArray.extract_extract];congr 1
 omega
theorem xzn(s:ByteArray):tl s 0=s:=by unfold tl;simp
theorem tl_by(s:ByteArray)(i k:Nat)(h:i+k<s.size):by' (aU (tl s i)) k=by' (aU s) (i+k):=bS.xen s i s.size k (by omega)
def strLen:aE->Nat
 | E b=>b.size
 | _=>0
theorem xna(s:ByteArray)(w:G)(hs:s.size=1008):
 aD aO 139 #[E s] w (zB w (I (FL J 256 (uni (aU s))))):=by
 obtain⟨hz,hsize⟩:=iY aV.aX;obtain⟨z,HZ⟩:=aQ (FL J 256 fun _=>0);rw[HZ.o]at hz;have Hzs:=dP HZ;obtain⟨R,HR⟩:=aQ (FL J 256 (uni (aU s)));have Ri:=eE HR hsize;have Ro:=eJ HR;have Rz:=gJ Hzs HR;have HRd:U (FL J 256 (lf (ua (aU s) 336))=R):=HR;rw[HR.o];obtain⟨W1,hW⟩:=aP ((w.alloc (Y z 76)).alloc (Y z 76));obtain⟨r0,r1,hWs,b0⟩:=two hW;have R1:U (W1.heap[w.heap.size]? = some (Y z 76 (0,0))):=⟨r0⟩;have A0:U (At (w.heap.size+1) (FL J 256 (lf (ua (aU s) 0))) 76 W1 W1):=⟨by rw[ua,xlh,HZ.o];exact At.refl r1⟩;have B1:=D b0;have HW:=D hW;have Htl:U (tl s (3*0)=s):=⟨xzn s⟩;have Hs:=D hs;clear hW r0 r1 b0 hWs hsize HR hs;go_enter Tryz.func139,Tryz.ntmps139;go_wp2_with (rw[HW.o]);clear hz;go_loopw [0,4] (fun b c wr=>∃ j:Nat,j<=336/\b=E (tl s (3*j))/\c=O J (((ua (aU s) j).length:Nat):Int)/\U (At (w.heap.size+1) (FL J 256 (lf (ua (aU s) j))) 76 W1 wr)) (fun b _ _=>strLen b)
 case atStart=>exact⟨0,by omega,by rw[Htl.o],rfl,A0⟩
 case round=>
  clear A0;obtain⟨j,hj,rfl,rfl,A0⟩:=hrel;have BE:U (zb w wr):=⟨B1.o.trans (A0.o.below B1.o.size (by omega))⟩;obtain⟨n,hn⟩:=aP ((ua (aU s) j).length);have hn256:=(ua_le (aU s) j).1;rw[hn]at hn256 ⊢;obtain⟨X,hX⟩:=aP (tl s (3*j));have hXs:X.size=1008-3*j:=by rw[<-hX,xmz s (3*j) (by rw[Hs.o];omega),Hs.o]
  obtain⟨m,hm⟩:=aP X.size;rw[hm]at hXs;have hmi:(X.size:Int)=(m:Int):=by omega
  rw[hX];by_cases hgo:j<336/\n<256
  ·obtain⟨hj336,hn2⟩:=hgo;have hm3:(3:Int)<=(m:Int):=by omega
   have hsl : 3<=X.size:=by omega
   have hn2z:(n:Int)<256:=by omega
   have hix:∀ k:Nat,k<3->∀ w1:G,(aN 9 (E X) (O J (k:Int))).run aO w1=.ok (O .u8 ((by' (aU s) (3*j+k):Nat):Int)) w1:=fun k hk w1=>by
    refine byte_of X k _ (by omega) ?_ w1;rw[<-hX];exact tl_by s (3*j) k (by rw[Hs.o];omega)
   obtain⟨β0,hβ0⟩:∃ β,by' (aU s) (3*j) = β := ⟨_,rfl⟩
   obtain⟨β1,hβ1⟩:∃ β,by' (aU s) (3*j+1) = β := ⟨_,rfl⟩
   obtain⟨β2,hβ2⟩:∃ β,by' (aU s) (3*j+2) = β := ⟨_,rfl⟩
   have hi1:∀ w1:G,(aN 9 (E X) (O J 0)).run aO w1=.ok (O .u8 (β0:Int)) w1:=by have:=hix 0 (by omega);rwa [mX,hβ0]at this
   have hi2:∀ w1:G,(aN 9 (E X) (O J 1)).run aO w1=.ok (O .u8 (β1:Int)) w1:=by have:=hix 1 (by omega);rwa [hβ1]at this
   have hi3:∀ w1:G,(aN 9 (E X) (O J 2)).run aO w1=.ok (O .u8 (β2:Int)) w1:=by have:=hix 2 (by omega);rwa [hβ2]at this
   have l0 : β0<256:=by rw[<-hβ0];exact xce s _
   have l1 : β1<256:=by rw[<-hβ1];exact xce s _
   have l2 : β2<256:=by rw[<-hβ2];exact xce s _
   obtain⟨γ,hγ⟩:∃ γ,β2%128 = γ := ⟨_,rfl⟩;obtain⟨p,hp⟩:=aP (β1*256);obtain⟨q,hq⟩:=aP (γ * 65536);obtain⟨y,hy⟩:=aP (β0+256 * β1);obtain⟨x,hx⟩:∃ x,β0+256 * β1+65536 * γ = x:=⟨_,rfl⟩;have htri:tri (aU s) (3*j)=x:=by unfold tri;rw[hβ0,hβ1,hβ2,hγ,hx]
   obtain⟨v1,v2⟩:=xp3 β0 β1 γ l0 l1 (by omega);rw[hp,hy]at v1;rw[hy,hq,show y+65536 * γ = x by omega]at v2;have va:=xnn β2 l2;rw[hγ]at va;have fp:(β1:Int)*256=(p:Int):=by omega
   have fpw:J.wrap ((β1:Int)*256)=(p:Int):=by rw[fp,iN];omega
   have fq:(γ : Int)*65536=(q:Int):=by omega
   have fqw:J.wrap ((γ : Int)*65536)=(q:Int):=by rw[fq,iN];omega
   have w0:J.wrap (β0:Int)=(β0:Int):=bB;have w1:J.wrap (β1:Int)=(β1:Int):=bB;have w2:J.wrap (γ : Int)=(γ : Int):=bB;have wp:J.wrap (p:Int)=(p:Int):=bB;have wq:J.wrap (q:Int)=(q:Int):=bB;have hnext:U (X.extract 3 X.size=tl s (3*(j+1))):=⟨by rw[<-hX,tl_tl s (3*j) 3 (by rw[Hs.o];omega)];rfl⟩;have hless:U ((tl s (3*(j+1))).size<X.size):=⟨by rw[xmz s _ (by rw[Hs.o];omega),Hs.o];omega⟩;have A1:U (At (w.heap.size+1) (FL J 256 (lf (ua (aU s) j))) 76 W1 wr.drew):=⟨eN A0.o⟩;have Hn:=D hn;have Htri:=D htri;clear hβ0 hβ1 hβ2 hγ hp hq hx hy hn htri hix hX hXs hm;go_wp2_with fail;refine xav (by kernel_rfl) (by kernel_rfl) ?_;repeat still_step
   refine jR ?_;clear hi1 hi2 hi3 v1 v2 va fp fpw fq fqw w0 w1 w2 wp wq A0;by_cases hx:x<8380417
   ·have hxz:(x:Int)<8380417:=by omega
    have Hua:U (ua (aU s) (j+1)=ua (aU s) j ++ [x]):=⟨by rw[ua,Htri.o,iP ⟨by rw[Hn.o];exact hn2,hx⟩]⟩;have Hset:U ((FL J 256 (lf (ua (aU s) j))).setIfInBounds n (O J (x:Int))=FL J 256 (lf (ua (aU s) (j+1)))):=⟨by rw[eV,Hua.o,<-xli,Hn.o]⟩;clear hx;go_wp2_with ((with_reducible refine cU A1 rfl _ _ _ rfl rfl ?_);refine⟨_,_,_,rfl,rfl,rfl,(by rw[cC];exact hn2),?_⟩;intro wn HRn;rw[Hset.o]at HRn);go_roundw
    case rel=>exact⟨j+1,by omega,by rw[hnext.o],by rw[show (ua (aU s) (j+1)).length=n+1 by rw[Hua.o,kK,Hn.o];rfl];go_num,HRn⟩
    case measure=>show (X.extract 3 X.size).size<X.size;rw[hnext.o];exact hless.o
   ·have hxz:¬ (x:Int)<8380417:=by omega
    have Hua:U (ua (aU s) (j+1)=ua (aU s) j):=⟨by rw[ua,Htri.o,iQ (fun h=>hx h.2)]⟩;clear hx;go_wp2_with fail;go_roundw
    case rel=>exact⟨j+1,by omega,by rw[hnext.o],by rw[Hua.o,Hn.o],by rw[Hua.o];exact A1⟩
    case measure=>show (X.extract 3 X.size).size<X.size;rw[hnext.o];exact hless.o
  ·have hend:U (ua (aU s) j=ua (aU s) 336):=⟨by
    by_cases h:j=336
    ·rw[h]
    ·exact(xsb (aU s) j 336 (by omega) hj).symm⟩
   rw[hend.o,HRd.o]at A0;have Hrow:=D A0.o.row;have Hres:U (wr.heap[w.heap.size]? = some (Y z 76 (0,0))):=⟨A0.o.other (bI R1.o) (by omega) R1.o⟩;clear A0 hn hX;by_cases h:j<336
   ·have hm3:(3:Int)<=(m:Int):=by omega
    have hn256z:¬ (n:Int)<256:=by omega
    clear hgo hend hXs hm;go_wp2_with (first
     | (refine iL rfl 76 _ rfl (w.heap.size+1) rfl 76 R (0,0) _ Hrow.o zX rfl Ri.o ?_)
     | (refine iS rfl 76 _ _ rfl w.heap.size R rfl rfl 76 _ Hres.o Ri.o Rz.o Ro.o ?_))
    refine iV (v:=I R) (jC rfl _ _ w.heap.size 76 _ (0,0) _ rfl (jD _ _ _ _ _ _ Hres.o) zX rfl Ri.o) rfl ?_;exact⟨rfl,BE.o.trans (below_setRow _ _ _ (iM _))⟩
   ·have hm3:¬ (3:Int)<=(m:Int):=by omega
    clear hgo hend hXs hm;go_wp2_with (first
     | (refine iL rfl 76 _ rfl (w.heap.size+1) rfl 76 R (0,0) _ Hrow.o zX rfl Ri.o ?_)
     | (refine iS rfl 76 _ _ rfl w.heap.size R rfl rfl 76 _ Hres.o Ri.o Rz.o Ro.o ?_))
    refine iV (v:=I R) (jC rfl _ _ w.heap.size 76 _ (0,0) _ rfl (jD _ _ _ _ _ _ Hres.o) zX rfl Ri.o) rfl ?_;exact⟨rfl,BE.o.trans (below_setRow _ _ _ (iM _))⟩
theorem xsq{T:Array aE}(b s:ByteArray)(w:G)(hT:(aO.info? 34).map (·.size)=some T.size)(hs:s.size=1008)
 (HS:∀ w1:G,zb w w1->aD aO 78 #[I T,O J 1,E b,O J 1008] w1 (zB w1 (aA #[E s,O J 0]))):
 aD aO 83 #[I T,E b] w (zB w (I (FL J 256 (uni (aU s))))):=by
 obtain⟨hz,hsize⟩:=iY aV.aX;obtain⟨z,HZ⟩:=aQ (FL J 256 fun _=>0);rw[HZ.o]at hz;have Hzs:=dP HZ;have HU:U (∀ w1:G,aD aO 139 #[E s] w1 (zB w1 (I (FL J 256 (uni (aU s)))))):=⟨fun w1=>xna s w1 hs⟩;obtain⟨R,HR⟩:=aQ (FL J 256 (uni (aU s)));have Ri:=eE HR hsize;have Ro:=eJ HR;have Rz:=gJ Hzs HR;have HTz:=D hT;rw[HR.o]at HU ⊢;obtain⟨W,hW⟩:=aP ((w.alloc (Y T 34)).alloc (Y z 76));obtain⟨r0,r1,hWs,b0⟩:=two hW;have T0:U (W.heap[w.heap.size]? = some (Y T 34 (0,0))):=⟨r0⟩;have R0:U (W.heap[w.heap.size+1]? = some (Y z 76 (0,0))):=⟨r1⟩;have BW:=D b0;have HWs:=D hWs;have HW:=D hW;have HSh:=D (HS W b0);clear hW r0 r1 b0 hWs hsize HS hT HR hs;go_enter Tryz.func83,Tryz.ntmps83;go_wp2_with (first
  | (rw[HW.o])
  | (refine iL rfl 34 _ rfl w.heap.size rfl 34 T (0,0) _ T0.o zY rfl HTz.o ?_))
 refine HSh.o.mono ?_;rintro e u1 ⟨rfl,hb1⟩;have R1:U (u1.heap[w.heap.size+1]? = some (Y z 76 (0,0))):=⟨(hb1.block _ (by rw[HWs.o];omega)).trans R0.o⟩;have B1:U (zb w u1):=⟨BW.o.trans (hb1.mono (by rw[HWs.o];omega))⟩;have Hlt:U (w.heap.size+1<u1.heap.size):=⟨bI R1.o⟩;clear hb1 hz;go_wp2_with fail;refine(HU.o _).mono ?_;rintro e u2 ⟨rfl,hb2⟩;have R2:U (u2.heap[w.heap.size+1]? = some (Y z 76 (0,0))):=⟨(hb2.block _ Hlt.o).trans R1.o⟩;have B2:=bK B1 hb2;clear hb2;go_wp2_with (refine iS rfl 76 _ _ rfl (w.heap.size+1) R rfl rfl 76 _ R2.o Ri.o Rz.o Ro.o ?_);refine iV (v:=I R) (jC rfl _ _ (w.heap.size+1) 76 _ (0,0) _ rfl (jD _ _ _ _ _ _ R2.o) zX rfl Ri.o) rfl ?_;exact⟨rfl,B2.o.trans (below_setRow _ _ _ (oO _))⟩
end quni
namespace qsma
open arr mem bD aT aV bC bA fW rsuni rssma
def cv(e:Int)(b:Nat):Int:=if bR e b=true then (if e=2 then 2-((b%5:Nat):Int) else 4-(b:Int)) else 0
theorem cv_red(e:Int)(b:Nat)(h:bR e b=true):cv e b%8380417=hv e b:=by
 unfold cv hv;rw[iP h];split<;>rfl
theorem cv_lt(e:Int)(b:Nat)(hb:b<16) : -16<=cv e b/\cv e b<=16:=by
 unfold cv;split
 ·split<;>omega
 ·omega
theorem xy2(b:Nat)(hb:b<16)(e:Int)(w:G):aD aO 182 #[O J (b:Int),O J e] w (zE w (.tuple #[O J (cv e b),.bool (bR e b)])):=by
 by_cases he:e=2
 ·subst he;by_cases h:b<15
  ·have ho:bR 2 b=true:=by unfold bR;rw[iP rfl];exact jP h
   obtain⟨r,hr⟩:=aP (b%5);have hc:cv 2 b=2-(r:Int):=by unfold cv;rw[iP ho,iP rfl,hr]
   rw[hc,ho];have hz:(b:Int)<15:=by omega
   have fr:(b:Int).tmod 5=(r:Int):=by rw[jB (by omega)];omega
   have fr2:(b:Int)%5=(r:Int):=by omega
   have fw:J.wrap (2-(r:Int))=2-(r:Int):=bB;clear hc hr ho;go_enter Tryz.func182,Tryz.ntmps182;go_wp2_with fail;go_ret2;exact⟨by first | rfl | simp_all,rfl⟩
  ·have ho:bR 2 b=false:=by unfold bR;rw[iP rfl];exact jN h
   have hc:cv 2 b=0:=by unfold cv;rw[ho];rfl
   rw[hc,ho];have hz:¬ (b:Int)<15:=by omega
   clear hc ho;go_enter Tryz.func182,Tryz.ntmps182;go_wp2_with fail;go_ret2;exact⟨by first | rfl | simp_all,rfl⟩
 ·have fe:(e==2)=false:=jV.2 he;have fe2:(e != 2)=true:=by simpa using he
  by_cases h:b<9
  ·have ho:bR e b=true:=by unfold bR;rw[iQ he];exact jP h
   have hc:cv e b=4-(b:Int):=by unfold cv;rw[iP ho,iQ he]
   rw[hc,ho];have hz:(b:Int)<9:=by omega
   have fw:J.wrap (4-(b:Int))=4-(b:Int):=bB;clear hc ho he;go_enter Tryz.func182,Tryz.ntmps182;go_wp2_with fail;go_ret2;exact⟨by first | rfl | simp_all,rfl⟩
  ·have ho:bR e b=false:=by unfold bR;rw[iQ he];exact jN h
   have hc:cv e b=0:=by unfold cv;rw[ho];rfl
   rw[hc,ho];have hz:¬ (b:Int)<9:=by omega
   clear hc ho he;go_enter Tryz.func182,Tryz.ntmps182;go_wp2_with fail;go_ret2;exact⟨by first | rfl | simp_all,rfl⟩
theorem xy3(s:ByteArray)(e:Int)(w:G)(hs:s.size=816):
 aD aO 157 #[E s,O J e] w (zB w (I (FL J 256 (sma (aU s) e)))):=by
 obtain⟨hz,hsize⟩:=iY aV.aX;obtain⟨z,HZ⟩:=aQ (FL J 256 fun _=>0);rw[HZ.o]at hz;have Hzs:=dP HZ;obtain⟨R,HR⟩:=aQ (FL J 256 (sma (aU s) e));have Ri:=eE HR hsize;have Ro:=eJ HR;have Rz:=gJ Hzs HR;have HRd:U (FL J 256 (lf (sa (aU s) e 1632))=R):=HR;rw[HR.o];have Hix:U (∀ j:Nat,j<816->∀ w1:G,(aN 9 (E s) (O J (j:Int))).run aO w1=.ok (O .u8 ((by' (aU s) j:Nat):Int)) w1):=⟨fun j hj w1=>byte_of s j _ (by omega) rfl w1⟩;obtain⟨W1,hW⟩:=aP ((w.alloc (Y z 76)).alloc (Y z 76));obtain⟨r0,r1,hWs,b0⟩:=two hW;have R1:U (W1.heap[w.heap.size]? = some (Y z 76 (0,0))):=⟨r0⟩;have A0:U (At (w.heap.size+1) (FL J 256 (lf (sa (aU s) e (2*0)))) 76 W1 W1):=⟨by rw[Nat.mul_zero,sa,xlh,HZ.o];exact At.refl r1⟩;have B1:=D b0;have HW:=D hW;have hszi:(s.size:Int)=816:=by omega
 clear hW r0 r1 b0 hWs hsize HR hs;go_enter Tryz.func157,Tryz.ntmps157;iterate 2 (go_wp2_with (rw[HW.o]);go_step3)
 go_wp2_with fail;clear hz;go_loopw [14,6] (fun v c wr=>∃ j:Nat,j<=816/\v=O J (j:Int)/\c=O J (((sa (aU s) e (2*j)).length:Nat):Int)/\(sa (aU s) e (2*j)).length<256/\U (At (w.heap.size+1) (FL J 256 (lf (sa (aU s) e (2*j)))) 76 W1 wr)) (fun v _ _=>816-(aG v).toNat)
 case atStart=>exact⟨0,by omega,rfl,rfl,by rw[Nat.mul_zero,sa];decide,A0⟩
 case round=>
  clear A0;obtain⟨j,hj,rfl,rfl,hn2,A0⟩:=hrel;have BE:U (zb w wr):=⟨B1.o.trans (A0.o.below B1.o.size (by omega))⟩;obtain⟨n,hn⟩:=aP ((sa (aU s) e (2*j)).length);rw[hn]at hn2 ⊢;by_cases hj816:j<816
  ·have hjz:(j:Int)<816:=by omega
   have hn2z:(n:Int)<256:=by omega
   have hi1:=Hix.o j hj816;obtain⟨β,hβ⟩:∃ β,by' (aU s) j = β := ⟨_,rfl⟩
   have l0 : β < 256:=by rw[<-hβ];exact xce s _
   obtain⟨lo,hlo⟩:=aP (β % 16);obtain⟨hi,hhi⟩:=aP (β / 16);have va:=and_15 β l0;rw[hlo]at va;rw[hβ]at hi1;have fh:(β : Int) / 16=(hi:Int):=by omega
   have Hhf:U (∀ k,k<2->hf (aU s) (2*j+k)=if k=0 then lo else hi):=⟨fun k hk=>by
    unfold hf;rw[show (2*j+k) / 2=j by omega,hβ,hlo,hhi];by_cases h:k=0
    ·rw[iP h,iP (by omega)]
    ·rw[iQ h,iQ (by omega)]⟩
   have Hl16:U (lo<16/\hi<16):=⟨by omega⟩;have Hk2:U (∀ k:Nat,k<2->∀ w1:G,(aN 206 (I #[O .u8 (lo:Int),O .u8 (hi:Int)]) (O J (k:Int))).run aO w1=.ok (O .u8 (((if k=0 then lo else hi):Nat):Int)) w1):=⟨fun k hk w1=>by
    refine xct (P:=aO) Tryz.underlying206 (by kernel_rfl) (by kernel_rfl) (by kernel_rfl) _ _ k hk ?_ w1;rcases (show k=0\/k=1 by omega) with rfl | rfl
    ·rfl
    ·rfl⟩
   have Hn:=D hn;have A2:U (At (w.heap.size+1) (FL J 256 (lf (sa (aU s) e (2*j+0)))) 76 W1 wr.drew):=⟨eN A0.o⟩;clear hβ hlo hhi hn;go_wp2_with fail;refine xav (by kernel_rfl) (by kernel_rfl) ?_;repeat still_step
   refine jR ?_;have Hn0:U ((sa (aU s) e (2*j+0)).length=n):=⟨by rw[mX];exact Hn.o⟩;clear va hi1 fh A0;go_wp2_with fail;go_loopw [26,6] (fun v c wv=>∃ k:Nat,k<=2/\v=O J (k:Int)/\c=O J (((sa (aU s) e (2*j+k)).length:Nat):Int)/\(sa (aU s) e (2*j+k)).length<256/\U (At (w.heap.size+1) (FL J 256 (lf (sa (aU s) e (2*j+k)))) 76 W1 wv)) (fun v _ _=>2-(aG v).toNat)
   case atStart=>exact⟨0,by omega,rfl,by rw[Hn0.o],by rw[Hn0.o];exact hn2,A2⟩
   case round=>
    rename G=>wv
    clear A2;obtain⟨k,hk,rfl,rfl,hn6,A0⟩:=hrel;obtain⟨n',hn'⟩:∃ n',(sa (aU s) e (2*j+k)).length=n':=⟨_,rfl⟩;rw[hn']at hn6 ⊢;have Hn':=D hn';clear hn';by_cases hk2:k<2
    ·have hkz:(k:Int)<2:=by omega
     have hix:=Hk2.o k hk2;obtain⟨h,hh⟩:=aP ((if k=0 then lo else hi));have hhf:=Hhf.o k hk2;rw[hh]at hhf hix;have hh16:h<16:=by have:=Hl16.o;rw[<-hh];split<;>omega
     have HH:=D (fun w1=>xy2 h hh16 e w1);have hvr:=xip e h;have hcl:=cv_lt e h hh16;have fh64:J.wrap (h:Int)=(h:Int):=bB;obtain⟨V,hV⟩:∃ V:Nat,hv e h=(V:Int):=⟨(hv e h).toNat,by omega⟩;have HRd2:U (bR e h=true->∀ w1:G,aD aO 137 #[O J (cv e h)] w1 (zE w1 (O J (V:Int)))):=⟨fun ho w1=>by
      have:=fP.eU (cv e h) w1;rwa [cv_red e h ho,hV]at this⟩
     obtain⟨c,hc⟩:=aP (cv e h);rw[hc]at HH HRd2;have Hok:U (bR e (hf (aU s) (2*j+k))=bR e h):=⟨by rw[hhf]⟩;have HV:U ((hv e (hf (aU s) (2*j+k))).toNat=V):=⟨by rw[hhf,hV];rfl⟩;by_cases ho:bR e h=true
     ·have Hred:=D (HRd2.o ho);rw[ho]at HH Hok;have Hsa:U (sa (aU s) e (2*j+(k+1))=sa (aU s) e (2*j+k) ++ [V]):=⟨by
       rw[show 2*j+(k+1)=(2*j+k)+1 by omega,sa,iP ⟨by rw[Hn'.o];exact hn6,Hok.o⟩,HV.o]⟩
      have Hset:U ((FL J 256 (lf (sa (aU s) e (2*j+k)))).setIfInBounds n' (O J (V:Int))=FL J 256 (lf (sa (aU s) e (2*j+(k+1))))):=⟨by rw[eV,Hsa.o,<-xli,Hn'.o]⟩;have Hlen:U ((sa (aU s) e (2*j+(k+1))).length=n'+1):=⟨by rw[Hsa.o,kK,Hn'.o];rfl⟩;have fn1:J.wrap ((n':Int)+1)=(n':Int)+1:=bB;have hn6z:(n':Int)<256:=by omega
      clear hh hhf hvr hV hc hcl ho HRd2 Hok HV;go_wp2_with fail;refine(HH.o _).mono ?_;rintro x wv ⟨rfl,rfl⟩;by_cases hfull:n'=255
      ·have HRR:U (FL J 256 (lf (sa (aU s) e (2*j+(k+1))))=R):=⟨by
        rw[<-HRd.o,xyk (aU s) e (2*j+(k+1)) 1632 (by rw[Hlen.o];omega) (by omega)]⟩
       rw[HRR.o]at Hset;have fne:((n':Int)+1==256)=true:=lL.2 (by omega);clear hfull;go_wp2_with fail;refine(Hred.o _).mono ?_;rintro x wv ⟨rfl,rfl⟩;go_wp2_with ((with_reducible refine cU A0 rfl _ _ _ rfl rfl ?_);refine⟨_,_,_,rfl,rfl,rfl,(by rw[cC];exact hn6),?_⟩;intro wn HRn;rw[Hset.o]at HRn;have Hrow:=D HRn.o.row;have Hres:U (wn.heap[w.heap.size]? = some (Y z 76 (0,0))):=⟨HRn.o.other (bI R1.o) (by omega) R1.o⟩;have BF:U (zb w wn):=⟨B1.o.trans (HRn.o.below B1.o.size (by omega))⟩);refine nC 76 _ rfl (w.heap.size+1) rfl 76 R (0,0) _ Hrow.o zX rfl Ri.o ?_;go_wp2_with (refine iS rfl 76 _ _ rfl w.heap.size R rfl rfl 76 _ Hres.o Ri.o Rz.o Ro.o ?_);rw[Exit.noGoto_ret];refine iV (v:=I R) (jC rfl _ _ w.heap.size 76 _ (0,0) _ rfl (jD _ _ _ _ _ _ Hres.o) zX rfl Ri.o) rfl ?_;exact⟨rfl,BF.o.trans (below_setRow _ _ _ (iM _))⟩
      ·have fne:((n':Int)+1==256)=false:=jV.2 (by omega);go_wp2_with fail;refine(Hred.o _).mono ?_;rintro x wv ⟨rfl,rfl⟩;go_wp2_with ((with_reducible refine cU A0 rfl _ _ _ rfl rfl ?_);refine⟨_,_,_,rfl,rfl,rfl,(by rw[cC];exact hn6),?_⟩;intro wn HRn;rw[Hset.o]at HRn);go_roundw
       case rel=>exact⟨k+1,by omega,by go_num,by rw[Hlen.o];go_num,by rw[Hlen.o];omega,HRn⟩
       case measure=>simp[aG];omega
     ·have hof:bR e h=false:=by simpa using ho
      rw[hof]at HH Hok;have Hsa:U (sa (aU s) e (2*j+(k+1))=sa (aU s) e (2*j+k)):=⟨by
       rw[show 2*j+(k+1)=(2*j+k)+1 by omega,sa,iQ (by rw[Hok.o];exact fun h=>by simpa using h.2)]⟩
      have A1:U (At (w.heap.size+1) (FL J 256 (lf (sa (aU s) e (2*j+(k+1))))) 76 W1 wv):=⟨by rw[Hsa.o];exact A0.o⟩;have Hl:U ((sa (aU s) e (2*j+(k+1))).length=n'):=⟨by rw[Hsa.o,Hn'.o]⟩;clear hh hhf hvr hV hc hcl ho HRd2 Hok HV hof A0;go_wp2_with fail;refine(HH.o _).mono ?_;rintro x wv ⟨rfl,rfl⟩;go_wp2_with fail;go_roundw
      case rel=>exact⟨k+1,by omega,by go_num,by rw[Hl.o],by rw[Hl.o];exact hn6,A1⟩
      case measure=>simp[aG];omega
    ·obtain rfl:k=2:=by omega
     have A1:U (At (w.heap.size+1) (FL J 256 (lf (sa (aU s) e (2*(j+1))))) 76 W1 wv):=⟨A0.o⟩;have Hl:U ((sa (aU s) e (2*(j+1))).length=n'):=Hn';clear A0;simp only[jE];go_wp2_with fail;go_roundw
     case rel=>exact⟨j+1,by omega,by go_num,by rw[Hl.o],by rw[Hl.o];exact hn6,A1⟩
     case measure=>simp[aG];omega
  ·obtain rfl:j=816:=by omega
   rw[HRd.o]at A0;have Hrow:=D A0.o.row;have Hres:U (wr.heap[w.heap.size]? = some (Y z 76 (0,0))):=⟨A0.o.other (bI R1.o) (by omega) R1.o⟩;clear A0 hn;simp only[jE];go_wp2_with (first
    | (refine iL rfl 76 _ rfl (w.heap.size+1) rfl 76 R (0,0) _ Hrow.o zX rfl Ri.o ?_)
    | (refine iS rfl 76 _ _ rfl w.heap.size R rfl rfl 76 _ Hres.o Ri.o Rz.o Ro.o ?_))
   rw[Exit.noGoto_ret];refine iV (v:=I R) (jC rfl _ _ w.heap.size 76 _ (0,0) _ rfl (jD _ _ _ _ _ _ Hres.o) zX rfl Ri.o) rfl ?_;exact⟨rfl,BE.o.trans (below_setRow _ _ _ (iM _))⟩
theorem xsp{T:Array aE}(b s:ByteArray)(e:Int)(w:G)(hT:(aO.info? 34).map (·.size)=some T.size)(hs:s.size=816)
 (HS:∀ w1:G,zb w w1->aD aO 78 #[I T,O J 2,E b,O J 816] w1 (zB w1 (aA #[E s,O J 0]))):
 aD aO 114 #[I T,E b,O J e] w (zB w (I (FL J 256 (sma (aU s) e)))):=by
 obtain⟨hz,hsize⟩:=iY aV.aX;obtain⟨z,HZ⟩:=aQ (FL J 256 fun _=>0);rw[HZ.o]at hz;have Hzs:=dP HZ;have HU:U (∀ w1:G,aD aO 157 #[E s,O J e] w1 (zB w1 (I (FL J 256 (sma (aU s) e))))):=⟨fun w1=>xy3 s e w1 hs⟩;obtain⟨R,HR⟩:=aQ (FL J 256 (sma (aU s) e));have Ri:=eE HR hsize;have Ro:=eJ HR;have Rz:=gJ Hzs HR;have HTz:=D hT;rw[HR.o]at HU ⊢;obtain⟨W,hW⟩:=aP ((w.alloc (Y T 34)).alloc (Y z 76));obtain⟨r0,r1,hWs,b0⟩:=two hW;have T0:U (W.heap[w.heap.size]? = some (Y T 34 (0,0))):=⟨r0⟩;have R0:U (W.heap[w.heap.size+1]? = some (Y z 76 (0,0))):=⟨r1⟩;have BW:=D b0;have HWs:=D hWs;have HW:=D hW;have HSh:=D (HS W b0);clear hW r0 r1 b0 hWs hsize HS hT HR hs;go_enter Tryz.func114,Tryz.ntmps114;go_wp2_with (first
  | (rw[HW.o])
  | (refine iL rfl 34 _ rfl w.heap.size rfl 34 T (0,0) _ T0.o zY rfl HTz.o ?_))
 refine HSh.o.mono ?_;rintro x u1 ⟨rfl,hb1⟩;have R1:U (u1.heap[w.heap.size+1]? = some (Y z 76 (0,0))):=⟨(hb1.block _ (by rw[HWs.o];omega)).trans R0.o⟩;have B1:U (zb w u1):=⟨BW.o.trans (hb1.mono (by rw[HWs.o];omega))⟩;have Hlt:U (w.heap.size+1<u1.heap.size):=⟨bI R1.o⟩;clear hb1 hz;go_wp2_with fail;refine(HU.o _).mono ?_;rintro x u2 ⟨rfl,hb2⟩;have R2:U (u2.heap[w.heap.size+1]? = some (Y z 76 (0,0))):=⟨(hb2.block _ Hlt.o).trans R1.o⟩;have B2:=bK B1 hb2;clear hb2;go_wp2_with (refine iS rfl 76 _ _ rfl (w.heap.size+1) R rfl rfl 76 _ R2.o Ri.o Rz.o Ro.o ?_);refine iV (v:=I R) (jC rfl _ _ (w.heap.size+1) 76 _ (0,0) _ rfl (jD _ _ _ _ _ _ R2.o) zX rfl Ri.o) rfl ?_;exact⟨rfl,B2.o.trans (below_setRow _ _ _ (oO _))⟩
end qsma
namespace pload
open arr mem bD dZ bitn aT aY bC bA bY
theorem xsx(h wd k:Nat)(hh:h<4294967296)(hk : 2 ^ wd-1=k)(hk2:k<4294967296):bits .and J (h:Int) (k:Int)=((h%2 ^ wd:Nat):Int):=by
 have h0:h%2 ^ wd<=h:=Nat.mod_le _ _;show J.wrap ((BitVec.ofInt 64 (h:Int) &&& BitVec.ofInt 64 (k:Int)).toNat:Int)=_;rw[lE,lE,BitVec.toNat_and,lO,lO,jO (by omega),jO (by omega),<-hk,Nat.and_two_pow_sub_one_eq_mod,iN];omega
theorem xvi(s:ByteArray)(wd:Nat)(w:G)(hw0 : 1<=wd)(hw:wd<=23)(hs:s.size=32*wd):
 aD aO 130 #[E s,O J (wd:Int)] w (zB w (I (FL J 256 (up s wd)))):=by
 unfold up;obtain⟨hz,hsize⟩:=iY aX;obtain⟨z,HZ⟩:=aQ (FL J 256 fun _=>0);rw[HZ.o]at hz;have Hzs:=dP HZ;obtain⟨N,HN⟩:=aQ (pk 8 (aU s));rw[HN.o];obtain⟨R,HR⟩:=aQ (FL J 256 fun i=>((bt N wd i wd:Nat):Int));have Ri:=eE HR hsize;have Ro:=eJ HR;have Rz:=gJ Hzs HR;rw[HR.o];obtain⟨W,hW⟩:=aP ((w.alloc (Y z 76)).alloc (Y z 76));have HW:=D hW;have hWs:W.heap.size=w.heap.size+2:=by rw[<-hW,size_alloc,size_alloc]
 have BW:U (zb w W):=⟨by rw[<-hW];exact((iR _ _).alloc (iM _) _).alloc (by rw[size_alloc];omega) _⟩;have R0:U (W.heap[w.heap.size]? = some (Y z 76 (0,0))):=⟨by rw[<-hW,fF _ _ _ (by rw[size_alloc];omega)];exact cM _ _ _ rfl⟩;have R1:U (W.heap[w.heap.size+1]? = some (Y (FL J 256 (pt (fun i=>((bt N wd i wd:Nat):Int)) (fun _=>0) 0)) 76 (0,0))):=⟨by rw[<-hW,xbf,HZ.o];exact cM _ _ _ (by rw[size_alloc])⟩;have Hby:U (∀ a,a<32*wd->(aU s).getD a 0=N / 2 ^ (8*a)%2 ^ 8):=⟨fun a ha=>by
  rw[<-HN.o,xf2 8 (aU s) (fG s) a (by rw[xaz];omega),iO,iT (by rw[xaz];omega)];rfl⟩
 have pw:=xf5 wd 23 hw;obtain⟨q,hq⟩:=aP (2 ^ wd);have hq0 : 0<q:=by rw[<-hq];exact kD _
 rw[hq]at pw;obtain⟨q1,hq1⟩:=aP (q-1);have Hq:=D hq;have Hq1:U (2 ^ wd-1=q1):=⟨by rw[hq,hq1]⟩;have fq:(2:Int) ^ wd=(q:Int):=by rw[<-hq,Int.natCast_pow];rfl
 have fqw:J.wrap ((2:Int) ^ wd)=(q:Int):=by rw[fq,iN];omega
 have fqw2:J.wrap (1*(2:Int) ^ wd)=(q:Int):=by rw[Int.one_mul];exact fqw
 have fq1:J.wrap ((q:Int)-1)=(q1:Int):=bB;have Hq1b:U (q1<8388608):=⟨by omega⟩;have Hfq:=D fq;clear hW hsize hq hq1 pw hq0 fq;go_enter Tryz.func130,Tryz.ntmps130;go_wp2_with (rw[HW.o]);clear hz;go_loopw [6,7,8,10] (fun v k c d wr=>∃ i a h j:Nat,i<=256/\wd*i<=8*a/\a<=32*wd/\N%2 ^ (8*a) / 2 ^ (wd*i)=h/\j+wd*i=8*a/\j<8/\v=O J (h:Int)/\k=O J (j:Int)/\c=O J (a:Int)/\d=O J (i:Int)/\U (At (w.heap.size+1) (FL J 256 (pt (fun i=>((bt N wd i wd:Nat):Int)) (fun _=>0) i)) 76 W wr)) (fun _ _ _ d _=>256-(aG d).toNat)
 case atStart=>exact⟨0,0,0,0,iX _,by omega,by omega,by simp[Nat.mod_one],by omega,by omega,rfl,rfl,rfl,rfl,⟨At.refl R1.o⟩⟩
 case round=>
  obtain⟨i,a,h,j,hi,hb1,ha,hh,hj,hj8,rfl,rfl,rfl,rfl,A0⟩:=hrel;by_cases hlt:i<256
  ·have hiz:(i:Int)<256:=by omega
   obtain⟨m,hm⟩:=aP (wd*i);have hmM:m+wd<=256*wd:=by
    have h1:wd*(i+1)<=wd*256:=kJ _ hlt;rw[kG]at h1;omega
   rw[hm]at hb1 hh hj;have Hm:=D (jA hm hmM);have hjb:j<wd+8:=by omega
   clear hm hmM hj8;go_wp2_with fail;go_loopw [6,7,8] (fun v k c wr=>∃ a h j:Nat,m<=8*a/\a<=32*wd/\N%2 ^ (8*a) / 2 ^ m=h/\j+m=8*a/\j<wd+8/\v=O J (h:Int)/\k=O J (j:Int)/\c=O J (a:Int)/\U (At (w.heap.size+1) (FL J 256 (pt (fun i=>((bt N wd i wd:Nat):Int)) (fun _=>0) i)) 76 W wr)) (fun _ k _ _=>wd+8-(aG k).toNat)
   case atStart=>exact⟨a,h,j,hb1,ha,hh,hj,hjb,rfl,rfl,rfl,A0⟩
   case round=>
    clear A0 hb1 ha hh hj hjb;obtain⟨a,h,j,hb1,ha,hh,hj,hjb,rfl,rfl,rfl,A0⟩:=hrel;have hhl:h<2 ^ j:=by rw[<-hh,show j=8*a-m by omega];exact xil N (8*a) m hb1
    have p31:=xf5 j 31 (by omega);have hh31:h<4294967296:=by omega
    by_cases hlt2:j<wd
    ·have hjz:(j:Int)<(wd:Int):=by omega
     have haM:a<32*wd:=by have:=Hm.o.2;omega
     obtain⟨β,hβ⟩:∃ β,(aU s).getD a 0 = β := ⟨_,rfl⟩;have hβN:=Hby.o a haM;rw[hβ]at hβN;have hβ8 : β < 256:=by rw[hβN];exact kB _ (by decide)
     have hidx:=byte_of s a β (by omega) hβ;obtain⟨d,hd⟩:=aP (β * 2 ^ j);have hor:=xp1 N (8*a) m 8 hb1;rw[hh,<-hβN,show 8*a-m=j by omega,hd]at hor;obtain⟨h',hh'⟩:∃ h',N%2 ^ (8*a+8) / 2 ^ m=h':=⟨_,rfl⟩;rw[hh']at hor;have p22:=xf5 j 22 (by omega);have hd31:d<4294967296:=by
      rw[<-hd];have h1 : β * 2 ^ j<=255*2 ^ j:=mH _ (by omega);omega
     have fd:(β : Int)*2 ^ j=(d:Int):=by rw[<-hd,kV,Int.natCast_pow];rfl
     have fdw:J.wrap ((β : Int)*2 ^ j)=(d:Int):=by rw[fd,iN];omega
     have V:=xg7 h d (by omega) (by omega);rw[hor]at V;have Hh':U (N%2 ^ (8*(a+1)) / 2 ^ m=h'):=⟨by rw[kG];exact hh'⟩;have hj64:j<64:=by omega
     have fj8:J.wrap ((j:Int)+8)=((j+8:Nat):Int):=bB;clear hβ hβN hd hor hh' hhl p31 p22 fd hh hh31 hd31;go_wp2_with fail;go_roundw
     case rel=>exact⟨a+1,h',j+8,by omega,by omega,Hh'.o,by omega,by omega,by go_num,by go_num,by go_num,A0⟩
     case measure=>simp[aG];omega
    ·have hjz:¬ (j:Int)<(wd:Int):=by omega
     obtain⟨u,hu⟩:=aP (h%2 ^ wd);have V:=xsx h wd q1 hh31 Hq1.o (by have:=Hq1b.o;omega);rw[hu]at V;have Hu:U ((u:Int)=((bt N wd i wd:Nat):Int)):=⟨by
      have e:=xpi N (8*a) m wd (by omega);unfold bt;rw[Hm.o.1,<-e,hh,hu]⟩
     obtain⟨h2,hh2⟩:=aP (h / 2 ^ wd);have Hh2:U (N%2 ^ (8*a) / 2 ^ (wd*(i+1))=h2):=⟨by rw[kG,Hm.o.1,lF,<-mY,hh,hh2]⟩;have fh2:(h:Int) / 2 ^ wd=(h2:Int):=by rw[<-hh2];simp
     have fh3:(h:Int) / (q:Int)=(h2:Int):=by rw[<-Hfq.o];exact fh2
     have fjw:J.wrap ((j:Int)-(wd:Int))=((j-wd:Nat):Int):=bB;have hwd64:wd<64:=by omega
     clear hu hh2 hh hhl p31;go_wp2_with ((with_reducible refine cU A0 rfl _ _ _ rfl rfl ?_);refine⟨_,_,_,rfl,rfl,rfl,(by rw[cC];exact hlt),?_⟩;intro wn HRn;rw[eV,xa1 (fun i=>((bt N wd i wd:Nat):Int)) _ _ _ Hu.o]at HRn);go_roundw
     case rel=>exact⟨i+1,a,h2,j-wd,by omega,by rw[kG,Hm.o.1];omega,ha,Hh2.o,by rw[kG,Hm.o.1];omega,by omega,by go_num,by go_num,rfl,by go_num,HRn⟩
     case measure=>simp[aG];omega
  ·obtain rfl:i=256:=by omega
   simp only[jE];rw[xbc,HR.o]at A0;have Hrow:=D A0.o.row;have Hres:U (wr.heap[w.heap.size]? = some (Y z 76 (0,0))):=⟨A0.o.other (by omega) (by omega) R0.o⟩;have HB:U (zb w wr):=⟨BW.o.trans (A0.o.below (by omega) (by omega))⟩;clear A0 hh;go_wp2_with (first
    | (refine iL rfl 76 _ rfl (w.heap.size+1) rfl 76 R (0,0) _ Hrow.o zX rfl Ri.o ?_)
    | (refine iS rfl 76 _ _ rfl w.heap.size R rfl rfl 76 _ Hres.o Ri.o Rz.o Ro.o ?_))
   refine iV (v:=I R) (jC rfl _ _ w.heap.size 76 _ (0,0) _ rfl (jD _ _ _ _ _ _ Hres.o) zX rfl Ri.o) rfl ?_;exact⟨rfl,HB.o.trans (below_setRow _ _ _ (iM _))⟩
end pload
namespace punp
open arr mem bD dZ aT bE aW aY bC bA bL bY
theorem xgh(s:ByteArray)(most:Int)(w:G)(h1 : 1<=most)(h2:most<8380417)(hs:s.size=32*lb most.toNat):
 aD aO 75 #[E s,O J most] w (zB w (if fK (up s (lb most.toNat)) most then aA #[I (FL J 256 (up s (lb most.toNat))),O J 0] else aA #[I (FL J 256 fun _=>0),O J 3])):=by
 obtain⟨hz,hsize⟩:=iY aX;have HM:∀ w1:G,aD aO 128 #[O J most] w1 (zE w1 (.bool true)):=fun w1=>by
  have h:=dX.xpl most w1;rw[jP ⟨h1,h2⟩]at h;exact h
 have hl:=D (fun w1=>plong.xc3 most (by omega) w1);have hl1:=dQ.xlf most h1 h2;have hl23:=xg3 most (by omega);obtain⟨wd,hwd⟩:=aP (lb most.toNat);rw[hwd]at hs hl hl1 hl23 ⊢;have HN:=D (fun w1=>pload.xvi s wd w1 hl1 hl23 hs);have HS:=D (fun w1=>dX.xb9 wd (by omega) w1);obtain⟨f,Hf⟩:=aQ (up s wd);rw[Hf.o]at HN;rw[Hf.o];have Hpos:U (∀ i,0<=f i):=⟨fun i=>by rw[<-Hf.o];exact Int.natCast_nonneg _⟩;have Hidx:U (∀ i:Nat,i<256->∀ w1,(aN 76 (I (FL J 256 f)) (O J (i:Int))).run aO w1=.ok (O J (f i)) w1):=⟨fun i hi w1=>xct (P:=aO) zX (by kernel_rfl) (by kernel_rfl) (by kernel_rfl) _ _ i hi (xba J 256 f i hi) w1⟩;obtain⟨z,HZ⟩:=aQ (FL J 256 fun _=>0);rw[HZ.o]at hz ⊢;have Hzs:=dP HZ;have Zi:=zsz Hzs hsize;have Zo:=eJ HZ;have Gs:U ((FL J 256 f).size=256):=⟨cC _ _ _⟩;have Go:U ((FL J 256 f).all (·.oneCell')=true):=⟨xbj _ _ _⟩;obtain⟨Gq,HG⟩:=aQ (FL J 256 f);rw[HG.o]at HN Hidx Gs Go ⊢;have Gi:=zsz Gs hsize;obtain⟨V,HV⟩:=aQ (if fK f most then Value.tuple #[I Gq,O J 0] else aA #[I z,O J 3]);rw[HV.o];obtain⟨W,hW⟩:=aP (w.alloc (Y z 76));have HW:=D hW;have BW:=zba hW;have hrow:=zhp hW;have hWs:U (W.heap.size=w.heap.size+1):=⟨by rw[<-hW,size_alloc]⟩;obtain⟨n,hn⟩:=aP (32*wd);rw[hn]at HS;have fne:((s.size:Int) != (n:Int))=false:=by rw[show (s.size:Int)=(n:Int) by omega];simp
 clear hW hsize hwd hs hn Hf HZ HG h1 h2 hl1;go_enter Tryz.func75,Tryz.ntmps75;go_wp2_with (rw[HW.o]);refine(HM _).mono ?_;rintro e W ⟨rfl,rfl⟩;go_wp2_with fail;refine(hl.o _).mono ?_;rintro e W ⟨rfl,rfl⟩;go_wp2_with fail;refine(HS.o _).mono ?_;rintro e W ⟨rfl,rfl⟩;go_wp2_with fail;refine(hl.o _).mono ?_;rintro e W ⟨rfl,rfl⟩;go_wp2_with fail;refine(HN.o _).mono ?_;rintro e w2 ⟨rfl,hb2⟩;have hrow2:U (w2.heap[w.heap.size]? = some (Y z 76 (0,0))):=⟨(hb2.block w.heap.size (by rw[hWs.o];omega)).trans hrow.o⟩;have B2:U (zb w w2):=⟨BW.o.trans (hb2.mono (by rw[hWs.o];omega))⟩;have hlt2:w.heap.size<w2.heap.size:=by have:=hb2.size;rw[hWs.o]at this;omega
 obtain⟨W3,hW3⟩:=aP (w2.alloc (Y Gq 76));have HW3:=D hW3;have r3:=zhp hW3;have r0:U (W3.heap[w.heap.size]? = some (Y z 76 (0,0))):=⟨by rw[<-hW3,fF _ _ _ hlt2];exact hrow2.o⟩;have B3:U (zb w W3):=⟨by rw[<-hW3];exact B2.o.alloc (by omega) _⟩;clear hb2 hW3 hlt2;go_wp2_with (first
  | ((with_reducible refine fV rfl 76 _ _ rfl Gq ?hx ?hy ?hi ?ho ?h1 ?hn ?_);(case hx=>rfl);(case hy=>rfl);(case hi=>exact Gi.o);(case ho=>rw[Hzs.o,Gs.o]);(case h1=>exact Go.o);(case hn=>rfl);rw[HW3.o])
  | (refine iL rfl 76 _ rfl w2.heap.size rfl 76 Gq (0,0) _ r3.o zX rfl Gi.o ?_))
 go_loopw [26] (fun c wr=>∃ j:Nat,j<=256/\c=O J (j:Int)/\U (∀ i,i<j->f i<=most)/\W3=wr) (fun c _=>256-(aG c).toNat)
 case atStart=>exact⟨0,iX _,rfl,⟨fun i hi=>by omega⟩,rfl⟩
 case round=>
  obtain⟨j,hj,rfl,Hin,rfl⟩:=hrel;by_cases hlt:j<256
  ·have hjz:(j:Int)<256:=by omega
   have hidx:=Hidx.o j hlt;obtain⟨x,hx⟩:=aP (f j);rw[hx]at hidx;by_cases hbad:most<x
   ·have hV:U (V=aA #[I z,O J 3]):=⟨by rw[<-HV.o,iQ];intro hall;have:=hall j hlt;rw[hx]at this;omega⟩;clear hx;go_wp2_with (refine iS rfl 76 _ _ rfl w.heap.size z rfl rfl 76 _ r0.o Zi.o rfl Zo.o ?_);refine iV (v:=aA #[I z,O J 3]) (bL.results_cell_tmp rfl _ _ w.heap.size 76 _ (0,0) _ rfl (jD _ _ _ _ _ _ r0.o) zX rfl Zi.o _ rfl) rfl ?_;exact⟨by rw[hV.o],B3.o.trans (below_setRow _ _ _ (iM _))⟩
   ·have Hin2:U (∀ i,i<j+1->f i<=most):=⟨fun i hi=>by
     by_cases e:i=j
     ·subst e;rw[hx];omega
     ·exact Hin.o i (by omega)⟩
    clear hx;go_wp2_with fail;go_roundw
    case rel=>exact⟨j+1,by omega,by go_num,Hin2,trivial⟩
    case measure=>simp[aG];omega
  ·obtain rfl:j=256:=by omega
   simp only[jE];have hV:U (V=aA #[I Gq,O J 0]):=⟨by rw[<-HV.o,iP];exact fun i hi=>⟨Hpos.o i,Hin.o i hi⟩⟩;clear hj hlt;go_wp2_with (first
    | (refine iL rfl 76 _ rfl w2.heap.size rfl 76 Gq (0,0) _ r3.o zX rfl Gi.o ?_)
    | (refine iS rfl 76 _ _ rfl w.heap.size Gq rfl rfl 76 _ r0.o Gi.o (by rw[Hzs.o,Gs.o]) Go.o ?_))
   refine iV (v:=aA #[I Gq,O J 0]) (bL.results_cell_tmp rfl _ _ w.heap.size 76 _ (0,0) _ rfl (jD _ _ _ _ _ _ r0.o) zX rfl Gi.o _ rfl) rfl ?_;exact⟨by rw[hV.o],B3.o.trans (below_setRow _ _ _ (iM _))⟩
end punp
namespace puns
open arr mem bD dZ aT bE aW aY bC bA bL bY fP cG
theorem xse(s:ByteArray)(low high:Int)(w:G)(c:Int)(h1 : 0<=low)(h2 : 1<=high)(h3:low<4190208)(h4:high<4190208)(hc:c≠0)
 (hu:∀ w1:G,aD aO 75 #[E s,O J (low+high)] w1 (zB w1 (aA #[I (FL J 256 fun _=>0),O J c]))):
 aD aO 108 #[E s,O J low,O J high] w (zB w (aA #[I (FL J 256 fun _=>0),O J c])):=by
 have HU:=D hu;clear hu;obtain⟨hz,hsize⟩:=iY aX;obtain⟨z,HZ⟩:=aQ (FL J 256 fun _=>0);rw[HZ.o]at hz HU ⊢;have Hzs:=dP HZ;have Zi:=zsz Hzs hsize;have Zo:=eJ HZ;obtain⟨W,hW⟩:=aP (w.alloc (Y z 76));have HW:=D hW;have BW:=zba hW;have hrow:=zhp hW;have hWs:U (W.heap.size=w.heap.size+1):=⟨by rw[<-hW,size_alloc]⟩;have HM:∀ w1:G,aD aO 155 #[O J low,O J high] w1 (zE w1 (.bool true)):=fun w1=>by
  have h:=dX.xkx low high w1;rw[jP ⟨h1,h3,h2,h4⟩]at h;exact h
 have fl2:J.wrap (low+high)=low+high:=bB;have fc:(c != 0)=true:=by simpa using hc
 clear hW hsize HZ h1 h2 h3 h4 hc;go_enter Tryz.func108,Tryz.ntmps108;go_wp2_with (rw[HW.o]);refine(HM _).mono ?_;rintro e W ⟨rfl,rfl⟩;go_wp2_with fail;refine(HU.o _).mono ?_;rintro e w2 ⟨rfl,hb2⟩;have hrow2:U (w2.heap[w.heap.size]? = some (Y z 76 (0,0))):=⟨(hb2.block w.heap.size (by rw[hWs.o];omega)).trans hrow.o⟩;have B2:U (zb w w2):=⟨BW.o.trans (hb2.mono (by rw[hWs.o];omega))⟩;have hlt2:w.heap.size<w2.heap.size:=by have:=hb2.size;rw[hWs.o]at this;omega
 obtain⟨W3,hW3⟩:=aP (w2.alloc (Y z 76));have HW3:=D hW3;have r3:=zhp hW3;have r0:U (W3.heap[w.heap.size]? = some (Y z 76 (0,0))):=⟨by rw[<-hW3,fF _ _ _ hlt2];exact hrow2.o⟩;have B3:U (zb w W3):=⟨by rw[<-hW3];exact B2.o.alloc (by omega) _⟩;clear hb2 hW3 hlt2;go_wp2_with (first
  | ((with_reducible refine fV rfl 76 _ _ rfl z ?hx ?hy ?hi ?ho ?h1 ?hn ?_);(case hx=>rfl);(case hy=>rfl);(case hi=>exact Zi.o);(case ho=>rfl);(case h1=>exact Zo.o);(case hn=>rfl);rw[HW3.o])
  | (refine iL rfl 76 _ rfl w2.heap.size rfl 76 z (0,0) _ r3.o zX rfl Zi.o ?_)
  | (refine iS rfl 76 _ _ rfl w.heap.size z rfl rfl 76 _ r0.o Zi.o rfl Zo.o ?_))
 refine iV (v:=aA #[I z,O J c]) (bL.results_cell_tmp rfl _ _ w.heap.size 76 _ (0,0) _ rfl (jD _ _ _ _ _ _ r0.o) zX rfl Zi.o _ rfl) rfl ?_;exact⟨rfl,B3.o.trans (below_setRow _ _ _ (iM _))⟩
theorem xjy(s:ByteArray)(low high:Int)(w:G)(f:Nat->Int)(h1 : 0<=low)(h2 : 1<=high)(h3:low<4190208)(h4:high<4190208)(hf:∀ i,i<256->0<=f i/\f i<=low+high)
 (hu:∀ w1:G,aD aO 75 #[E s,O J (low+high)] w1 (zB w1 (aA #[I (FL J 256 f),O J 0]))):
 aD aO 108 #[E s,O J low,O J high] w (zB w (aA #[I (FL J 256 (un f high)),O J 0])):=by
 have HU:=D hu;have Hf:=D hf;clear hu hf;have Hidx:U (∀ i:Nat,i<256->∀ w1,(aN 76 (I (FL J 256 f)) (O J (i:Int))).run aO w1=.ok (O J (f i)) w1):=⟨fun i hi w1=>xct (P:=aO) zX (by kernel_rfl) (by kernel_rfl) (by kernel_rfl) _ _ i hi (xba J 256 f i hi) w1⟩;obtain⟨hz,hsize⟩:=iY aX;obtain⟨z,HZ⟩:=aQ (FL J 256 fun _=>0);rw[HZ.o]at hz;have Hzs:=dP HZ;have Fs:U ((FL J 256 f).size=256):=⟨cC _ _ _⟩;have Fo:U ((FL J 256 f).all (·.oneCell')=true):=⟨xbj _ _ _⟩;have Hpz:U (FL J 256 (pt (un f high) f 0)=FL J 256 f):=⟨by rw[xbf]⟩;obtain⟨F,HF⟩:=aQ (FL J 256 f);rw[HF.o]at HU Hidx Fs Fo Hpz;have Fi:=zsz Fs hsize;have Gs:U ((FL J 256 (un f high)).size=256):=⟨cC _ _ _⟩;have Go:U ((FL J 256 (un f high)).all (·.oneCell')=true):=⟨xbj _ _ _⟩;have Hall:U (FL J 256 (pt (un f high) f 256)=FL J 256 (un f high)):=⟨xbc _ _ _ _⟩;obtain⟨Gq,HG⟩:=aQ (FL J 256 (un f high));rw[HG.o]at Gs Go Hall ⊢;have Gi:=zsz Gs hsize;obtain⟨W,hW⟩:=aP (w.alloc (Y z 76));have HW:=D hW;have BW:=zba hW;have hrow:=zhp hW;have hWs:U (W.heap.size=w.heap.size+1):=⟨by rw[<-hW,size_alloc]⟩;have HM:∀ w1:G,aD aO 155 #[O J low,O J high] w1 (zE w1 (.bool true)):=fun w1=>by
  have h:=dX.xkx low high w1;rw[jP ⟨h1,h3,h2,h4⟩]at h;exact h
 have fl2:J.wrap (low+high)=low+high:=bB;have HL:=D (jA h1 (jA h2 (jA h3 h4)));clear hW hsize HZ HG HF h1 h2 h3 h4;go_enter Tryz.func108,Tryz.ntmps108;go_wp2_with (rw[HW.o]);refine(HM _).mono ?_;rintro e W ⟨rfl,rfl⟩;go_wp2_with fail;refine(HU.o _).mono ?_;rintro e w2 ⟨rfl,hb2⟩;have hrow2:U (w2.heap[w.heap.size]? = some (Y z 76 (0,0))):=⟨(hb2.block w.heap.size (by rw[hWs.o];omega)).trans hrow.o⟩;have B2:U (zb w w2):=⟨BW.o.trans (hb2.mono (by rw[hWs.o];omega))⟩;have hlt2:w.heap.size<w2.heap.size:=by have:=hb2.size;rw[hWs.o]at this;omega
 obtain⟨W3,hW3⟩:=aP (w2.alloc (Y F 76));have HW3:=D hW3;have r3:=zhp hW3;have r0:U (W3.heap[w.heap.size]? = some (Y z 76 (0,0))):=⟨by rw[<-hW3,fF _ _ _ hlt2];exact hrow2.o⟩;have B3:U (zb w W3):=⟨by rw[<-hW3];exact B2.o.alloc (by omega) _⟩;have A0:U (At w2.heap.size (FL J 256 (pt (un f high) f 0)) 76 W3 W3):=⟨by rw[Hpz.o];exact At.refl r3.o⟩;have Hlt2:=D hlt2;clear hb2 hW3 hlt2;go_wp2_with (first
  | ((with_reducible refine fV rfl 76 _ _ rfl F ?hx ?hy ?hi ?ho ?h1 ?hn ?_);(case hx=>rfl);(case hy=>rfl);(case hi=>exact Fi.o);(case ho=>rw[Hzs.o,Fs.o]);(case h1=>exact Fo.o);(case hn=>rfl);rw[HW3.o])
  | (refine iL rfl 76 _ rfl w2.heap.size rfl 76 F (0,0) _ r3.o zX rfl Fi.o ?_))
 go_loopw [30] (fun c wr=>∃ j:Nat,j<=256/\c=O J (j:Int)/\U (At w2.heap.size (FL J 256 (pt (un f high) f j)) 76 W3 wr)) (fun c _=>256-(aG c).toNat)
 case atStart=>exact⟨0,iX _,rfl,A0⟩
 case round=>
  clear A0;obtain⟨j,hj,rfl,A0⟩:=hrel;by_cases hlt:j<256
  ·have hjz:(j:Int)<256:=by omega
   have hidx:=Hidx.o j hlt;have hfj:=Hf.o j hlt;obtain⟨x,hx⟩:=aP (f j);rw[hx]at hidx hfj;have fs:J.wrap (high-x)=high-x:=by rw[iN];have:=HL.o;omega
   have hun:U ((high-x)%8380417=un f high j):=⟨by unfold un;rw[hx]⟩;have Hre:=D (fun w1=>eU (high-x) w1);obtain⟨y,hy⟩:=aP ((high-x)%8380417);rw[hy]at hun Hre;clear hx hy hfj;go_wp2_with fail;refine(Hre.o _).mono ?_;rintro e w5 ⟨rfl,rfl⟩;clear hidx;go_wp2_with ((with_reducible refine cU A0 rfl _ _ _ rfl rfl ?_);refine⟨_,_,_,rfl,rfl,rfl,(by rw[cC];exact hlt),?_⟩;intro wn HR;rw[eV,xa1 _ _ _ _ hun.o]at HR);go_roundw
   case rel=>exact⟨j+1,by omega,by go_num,HR⟩
   case measure=>simp[aG];omega
  ·obtain rfl:j=256:=by omega
   simp only[jE];rw[Hall.o]at A0;have rg:=D A0.o.row;have rz:U (wr.heap[w.heap.size]? = some (Y z 76 (0,0))):=⟨A0.o.other (jW.1 r0.o).1 (by have:=Hlt2.o;omega) r0.o⟩;have BE:U (zb w wr):=⟨B3.o.trans (A0.o.below (by exact B3.o.size) (by have:=Hlt2.o;omega))⟩;clear A0 hj hlt;go_wp2_with (first
    | (refine iL rfl 76 _ rfl w2.heap.size rfl 76 Gq (0,0) _ rg.o zX rfl Gi.o ?_)
    | (refine iS rfl 76 _ _ rfl w.heap.size Gq rfl rfl 76 _ rz.o Gi.o (by rw[Hzs.o,Gs.o]) Go.o ?_))
   refine iV (v:=aA #[I Gq,O J 0]) (bL.results_cell_tmp rfl _ _ w.heap.size 76 _ (0,0) _ rfl (jD _ _ _ _ _ _ rz.o) zX rfl Gi.o _ rfl) rfl ?_;exact⟨rfl,BE.o.trans (below_setRow _ _ _ (iM _))⟩
end puns
namespace fadd
open arr mem bD aT aV bE fP
theorem xdr(f g:Nat->Int)(w:G):
 aD aO 80 #[I (FL J 256 f),I (FL J 256 g)] w (zB w (I (FL J 256 fun i=>(f i+g i)%8380417))):=by
 obtain⟨hz,hsize⟩:=iY aX;obtain⟨z,HZ⟩:=aQ (FL J 256 fun _=>0);rw[HZ.o]at hz;have Hzs:=dP HZ;obtain⟨F,HF⟩:∃ F:Nat->Int,U (F=fun i=>(f i+g i)%8380417):=⟨_,⟨rfl⟩⟩;have hFi:∀ i,F i=(fun i=>(f i+g i)%8380417) i:=fun i=>by rw[HF.o]
 have HFi:=D hFi;rw[<-HF.o];clear HF hFi;obtain⟨R,HR⟩:=aQ (FL J 256 F);have Ri:=eE HR hsize;have Ro:=eJ HR;have Rz:=gJ Hzs HR;rw[HR.o];have Hred:=D eU;clear hsize;go_enter Tryz.func80,Tryz.ntmps80;go_wp2_with fail;clear hz;obtain⟨W,hW⟩:=aP (((w.alloc (Y (FL J 256 f) 76)).alloc (Y (FL J 256 g) 76)).alloc (Y z 76));obtain⟨b0,b1,b2,hWs,hWb⟩:=three hW;rw[hW];clear hW;have B0:=D b0;have B1:=D b1;have BR:=D b2;have HWs:U (w.heap.size+3<=W.heap.size):=⟨by omega⟩;have HWb:=D hWb;clear hWs hWb b0 b1 b2;go_loopw [6] (fun v wr=>∃ i:Nat,i<=256/\v=O J (i:Int)/\U (At w.heap.size (FL J 256 (pt F f i)) 76 W wr)) (fun v _=>256-(aG v).toNat)
 case atStart=>exact⟨0,iX _,rfl,⟨by rw[xbf];exact At.refl B0.o⟩⟩
 case round=>
  obtain⟨i,hi,rfl,A0⟩:=hrel;by_cases hlt:i<256
  ·have hiz:(i:Int)<256:=by omega
   obtain⟨x,hx⟩:=aP (f i);have ca:wr.cell? ⟨w.heap.size,i,none⟩=some (O J x):=by
    have h9:=fZ A0.o.row i hlt;rw[xc5,hx]at h9;exact h9
   obtain⟨y,hy⟩:=aP (g i);have cb:wr.cell? ⟨w.heap.size+1,i,none⟩=some (O J y):=by
    rw[<-hy];exact fZ (A0.o.other (by have:=HWs.o;omega) (by omega) B1.o) i hlt
   have HV:U (F i=(x+y)%8380417):=⟨by rw[HFi.o,hx,hy]⟩;obtain⟨x1,hx1⟩:=aQ (x%8380417);obtain⟨y1,hy1⟩:=aQ (y%8380417);have hs:J.wrap (x1+y1)=x1+y1:=by rw[<-hx1.o,<-hy1.o,iN];omega
   obtain⟨s,hs1⟩:=aQ (x1+y1);have hs2:s%8380417=F i:=by rw[HV.o,<-hs1.o,<-hx1.o,<-hy1.o];omega
   obtain⟨v,hv⟩:=aQ (s%8380417);have Hx:∀ w1:G,aD aO 137 #[O J x] w1 (zE w1 (O J x1)):=fun w1=>by rw[<-hx1.o];exact eU x w1
   have Hy:∀ w1:G,aD aO 137 #[O J y] w1 (zE w1 (O J y1)):=fun w1=>by rw[<-hy1.o];exact eU y w1
   have Hs:∀ w1:G,aD aO 137 #[O J (x1+y1)] w1 (zE w1 (O J v)):=fun w1=>by rw[hs1.o,<-hv.o];exact eU s w1
   have HU:U (upd (pt F f i) i v=pt F f (i+1)):=⟨xa1 F f i v (by rw[<-hv.o,hs2])⟩;clear hy hs2;clear hx;go_wp2_with fail;refine gZ 12 (by kernel_rfl) (by kernel_rfl) ?_;simp only[jH,jU,iW,jK];repeat still_step
   still_call (Hx _)
   repeat still_step
   still_call (Hy _)
   repeat still_step
   still_call (Hs _)
   repeat still_step
   refine jR ?_;clear cb;clear ca;have A1:U (At w.heap.size (FL J 256 (pt F f i)) 76 W wr.drew):=⟨eN A0.o⟩;clear A0
   with_reducible refine cU A1 rfl _ _ _ rfl rfl ?_
   refine⟨_,_,_,rfl,rfl,rfl,by rw[cC];exact hlt,?_⟩;intro wn HR;rw[eV,HU.o]at HR;go_wp2_with fail;go_roundw
   case rel=>exact⟨i+1,by omega,by go_num,HR⟩
   case measure=>simp[aG];omega
  ·obtain rfl:i=256:=by omega
   simp only[jE];rw[xbc,HR.o]at A0;have Hrow:=D A0.o.row;have Hres:U (wr.heap[w.heap.size+2]? = some (Y z 76 (0,0))):=⟨A0.o.other (by have:=HWs.o;omega) (by omega) BR.o⟩;have HB:U (zb w wr):=⟨HWb.o.trans (A0.o.below (by have:=HWs.o;omega) (iM _))⟩;clear A0;go_wp2_with (first
    | (refine iL rfl 76 _ rfl w.heap.size rfl 76 R (0,0) _ Hrow.o zX rfl Ri.o ?_)
    | (refine iS rfl 76 _ _ rfl (w.heap.size+2) R rfl rfl 76 _ Hres.o Ri.o Rz.o Ro.o ?_))
   refine iV (v:=I R) (jC rfl _ _ (w.heap.size+2) 76 _ (0,0) _ rfl (jD _ _ _ _ _ _ Hres.o) zX rfl Ri.o) rfl ?_;exact⟨rfl,HB.o.trans (below_setRow _ _ _ (by omega))⟩
end fadd
end Go.Proofs.YtomphjajkkddkaaGreatDoor
