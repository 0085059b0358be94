/-
  A sponge as cells, and what the document's own rate, mark, Right and New of layer 6 return. Conditio
-/
import Derived.Test.YtomphjajkkddkaaGreatDoorZs07
import Derived.Test.YtomphjajkkddkaaGreatDoorZs25
import Derived.Test.YtomphjajkkddkaaGreatDoorZs02
import Derived.Test.YtomphjajkkddkaaGreatDoorZs04
import Derived.Test.YtomphjajkkddkaaGreatDoorZs01
import Derived.Test.YtomphjajkkddkaaGreatDoorZs08
import Derived.Test.YtomphjajkkddkaaGreatDoorZs05
import Derived.Test.YtomphjajkkddkaaGreatDoorZs09
import Derived.OwnWalk
import Derived.Lib.ConvBytes
set_option maxRecDepth 100000
set_option maxHeartbeats 16000000
set_option linter.unusedSimpArgs false
set_option linter.unusedVariables false
open Go Go.RowKit
open Go renaming World->G,Calls->aD,Value->aE,TypeId->aH,Program->aI
open Go.RowKit renaming Below->aF,intOf->aG
open Go.Lib renaming byteCells->aJ
open Go.Value renaming int->O,agg->I,string->E,tuple->aA,slice->aB
open Go.IntKind renaming i64->J
open Go.Obj renaming cells->Y
open Go.Proofs.Tryz renaming prog->aO
namespace Go.Proofs.YtomphjajkkddkaaGreatDoor
namespace eT
open Go.RowKit
open arr mem bJ dL cF
theorem xjg(k:Int)(w:G):aD aO 174 #[O J k] w (zE w (O J ((bG k:Nat):Int))):=by
 unfold bG;by_cases h1:k=1
 ·subst h1;go_enter Tryz.func174,Tryz.ntmps174;go_wp2_with fail;go_ret;exact⟨rfl,rfl⟩
 ·by_cases h2:k=2
  ·subst h2;go_enter Tryz.func174,Tryz.ntmps174;go_wp2_with fail;go_ret;exact⟨rfl,rfl⟩
  ·by_cases h3:k=3
   ·subst h3;go_enter Tryz.func174,Tryz.ntmps174;go_wp2_with fail;go_ret;exact⟨rfl,rfl⟩
   ·by_cases h4:k=4
    ·subst h4;go_enter Tryz.func174,Tryz.ntmps174;go_wp2_with fail;go_ret;exact⟨rfl,rfl⟩
    ·rw[iQ h1,iQ h2,iQ h3,iQ h4];go_enter Tryz.func174,Tryz.ntmps174;go_wp2_with fail;go_ret;exact⟨rfl,rfl⟩
theorem xvt(k:Int)(w:G):aD aO 177 #[O J k] w (zE w (O .u8 ((cF.mark k:Nat):Int))):=by
 unfold cF.mark;by_cases h1:k=1
 ·subst h1;go_enter Tryz.func177,Tryz.ntmps177;go_wp2_with fail;go_ret;exact⟨rfl,rfl⟩
 ·by_cases h2:k=2
  ·subst h2;go_enter Tryz.func177,Tryz.ntmps177;go_wp2_with fail;go_ret;exact⟨rfl,rfl⟩
  ·rw[iQ h1,iQ h2];have e1:(k==1)=false:=by simpa using h1
   have e2:(k==2)=false:=by simpa using h2
   go_enter Tryz.func177,Tryz.ntmps177;go_wp2_with fail;go_ret;exact⟨rfl,rfl⟩
end eT
namespace rspb
open Go.RowKit
open arr mem bJ dL cF eT
theorem xx3(k a:Int)(o:Bool)(l:List Nat)(r:Nat)(w:G)(hl:l.length=25)(Hr:U (∀ w1:G,aD aO 174 #[O J k] w1 (zE w1 (O J (r:Int)))))(hr:r=0):
 aD aO 175 #[I (SC k l a o)] w (zB w (.bool false)):=by
 obtain⟨W,hW⟩:=aP (w.alloc (Y (SC k l a o) 164));have HW:=D hW;have Hb:=zba hW;have hrow:W.heap[w.heap.size]? = some (Y (SC k l a o) 164 (0,0)):=by rw[<-hW];exact cM _ _ _ rfl
 have c0:=aZ hrow (xcx k l a o);have ca:=aZ hrow (gO k a o hl);have co:=aZ hrow (xco k a o hl);clear hrow hW hl;subst hr;go_enter Tryz.func175,Tryz.ntmps175;go_wp2_with (rw[HW.o]);refine(Hr.o _).mono ?_;rintro e w1 ⟨rfl,rfl⟩;go_wp2_with fail;go_ret;exact⟨rfl,Hb.o⟩
theorem xx2(k a:Int)(o:Bool)(l:List Nat)(r:Nat)(w:G)(hl:l.length=25)(Hr:U (∀ w1:G,aD aO 174 #[O J k] w1 (zE w1 (O J (r:Int)))))(hr : 0<r)(ha:a<0):
 aD aO 175 #[I (SC k l a o)] w (zB w (.bool false)):=by
 obtain⟨W,hW⟩:=aP (w.alloc (Y (SC k l a o) 164));have HW:=D hW;have Hb:=zba hW;have hrow:W.heap[w.heap.size]? = some (Y (SC k l a o) 164 (0,0)):=by rw[<-hW];exact cM _ _ _ rfl
 have c0:=aZ hrow (xcx k l a o);have ca:=aZ hrow (gO k a o hl);have co:=aZ hrow (xco k a o hl);clear hrow hW hl;have h1:(0:Int)<(r:Int):=by omega
 clear hr;go_enter Tryz.func175,Tryz.ntmps175;go_wp2_with (rw[HW.o]);refine(Hr.o _).mono ?_;rintro e w1 ⟨rfl,rfl⟩;go_wp2_with fail;go_ret;exact⟨rfl,Hb.o⟩
theorem xx1(k a:Int)(o:Bool)(l:List Nat)(r:Nat)(w:G)(hl:l.length=25)(Hr:U (∀ w1:G,aD aO 174 #[O J k] w1 (zE w1 (O J (r:Int)))))(ha : 0<=a)(hb:a<(r:Int)):
 aD aO 175 #[I (SC k l a o)] w (zB w (.bool true)):=by
 obtain⟨W,hW⟩:=aP (w.alloc (Y (SC k l a o) 164));have HW:=D hW;have Hb:=zba hW;have hrow:W.heap[w.heap.size]? = some (Y (SC k l a o) 164 (0,0)):=by rw[<-hW];exact cM _ _ _ rfl
 have c0:=aZ hrow (xcx k l a o);have ca:=aZ hrow (gO k a o hl);have co:=aZ hrow (xco k a o hl);clear hrow hW hl;have h1:(0:Int)<(r:Int):=by omega
 go_enter Tryz.func175,Tryz.ntmps175;go_wp2_with (rw[HW.o]);refine(Hr.o _).mono ?_;rintro e w1 ⟨rfl,rfl⟩;go_wp2_with fail;go_ret;exact⟨rfl,Hb.o⟩
theorem xx0(k a:Int)(o:Bool)(l:List Nat)(r:Nat)(w:G)(hl:l.length=25)(Hr:U (∀ w1:G,aD aO 174 #[O J k] w1 (zE w1 (O J (r:Int)))))(hb:(r:Int)<a)(hr : 0<r)(ho:o=true):
 aD aO 175 #[I (SC k l a o)] w (zB w (.bool false)):=by
 obtain⟨W,hW⟩:=aP (w.alloc (Y (SC k l a o) 164));have HW:=D hW;have Hb:=zba hW;have hrow:W.heap[w.heap.size]? = some (Y (SC k l a o) 164 (0,0)):=by rw[<-hW];exact cM _ _ _ rfl
 have c0:=aZ hrow (xcx k l a o);have ca:=aZ hrow (gO k a o hl);have co:=aZ hrow (xco k a o hl);clear hrow hW hl;subst ho;have h1:(0:Int)<(r:Int):=by omega
 have h2:(0:Int)<=a:=by omega
 have h3:decide (a<(r:Int))=false:=jN (by omega);have h4:(a==(r:Int))=false:=jV.2 (by omega);clear hr hb;go_enter Tryz.func175,Tryz.ntmps175;go_wp2_with (rw[HW.o]);refine(Hr.o _).mono ?_;rintro e w1 ⟨rfl,rfl⟩;go_wp2_with fail;go_ret;exact⟨rfl,Hb.o⟩
theorem xxz(k a:Int)(o:Bool)(l:List Nat)(r:Nat)(w:G)(hl:l.length=25)(Hr:U (∀ w1:G,aD aO 174 #[O J k] w1 (zE w1 (O J (r:Int)))))(hb:(r:Int)<=a)(hr : 0<r)(ho:o=false):
 aD aO 175 #[I (SC k l a o)] w (zB w (.bool false)):=by
 obtain⟨W,hW⟩:=aP (w.alloc (Y (SC k l a o) 164));have HW:=D hW;have Hb:=zba hW;have hrow:W.heap[w.heap.size]? = some (Y (SC k l a o) 164 (0,0)):=by rw[<-hW];exact cM _ _ _ rfl
 have c0:=aZ hrow (xcx k l a o);have ca:=aZ hrow (gO k a o hl);have co:=aZ hrow (xco k a o hl);clear hrow hW hl;subst ho;have h1:(0:Int)<(r:Int):=by omega
 have h2:(0:Int)<=a:=by omega
 have h3:decide (a<(r:Int))=false:=jN (by omega);clear hr hb;go_enter Tryz.func175,Tryz.ntmps175;go_wp2_with (rw[HW.o]);refine(Hr.o _).mono ?_;rintro e w1 ⟨rfl,rfl⟩;go_wp2_with fail;go_ret;exact⟨rfl,Hb.o⟩
theorem xxy(k a:Int)(o:Bool)(l:List Nat)(r:Nat)(w:G)(hl:l.length=25)(Hr:U (∀ w1:G,aD aO 174 #[O J k] w1 (zE w1 (O J (r:Int)))))(hb:a=(r:Int))(hr : 0<r)(ho:o=true):
 aD aO 175 #[I (SC k l a o)] w (zB w (.bool true)):=by
 obtain⟨W,hW⟩:=aP (w.alloc (Y (SC k l a o) 164));have HW:=D hW;have Hb:=zba hW;have hrow:W.heap[w.heap.size]? = some (Y (SC k l a o) 164 (0,0)):=by rw[<-hW];exact cM _ _ _ rfl
 have c0:=aZ hrow (xcx k l a o);have ca:=aZ hrow (gO k a o hl);have co:=aZ hrow (xco k a o hl);clear hrow hW hl;subst ho hb;have h1:(0:Int)<(r:Int):=by omega
 clear hr;go_enter Tryz.func175,Tryz.ntmps175;go_wp2_with (rw[HW.o]);refine(Hr.o _).mono ?_;rintro e w1 ⟨rfl,rfl⟩;go_wp2_with fail;go_ret;exact⟨rfl,Hb.o⟩
theorem xbo(k a:Int)(o:Bool)(l:List Nat)(w:G)(hl:l.length=25):
 aD aO 175 #[I (SC k l a o)] w (zB w (.bool (ok k a o))):=by
 have Hr:U (∀ w1:G,aD aO 174 #[O J k] w1 (zE w1 (O J ((bG k:Nat):Int)))):=⟨xjg k⟩;show aD aO 175 #[I (SC k l a o)] w (zB w (.bool (okr (bG k) a o)));obtain⟨r,hr⟩:=aP (bG k);rw[hr]at Hr ⊢;clear hr;by_cases h0:r=0
 ·have e:okr r a o=false:=by unfold okr;rw[h0];rfl
  rw[e];exact xx3 k a o l r w hl Hr h0
 ·by_cases h1:a<0
  ·have e:okr r a o=false:=by unfold okr;rw[jN (show ¬ 0<=a by omega)];simp
   rw[e];exact xx2 k a o l r w hl Hr (by omega) h1
  ·by_cases h2:a<(r:Int)
   ·have e:okr r a o=true:=by unfold okr;rw[jP (show 0<r by omega),jP (show 0<=a by omega),jP h2];rfl
    rw[e];exact xx1 k a o l r w hl Hr (by omega) h2
   ·cases o with
    | false=>
     have e:okr r a false=false:=by unfold okr;rw[jN h2];simp
     rw[e];exact xxz k a false l r w hl Hr (by omega) (by omega) rfl
    | true=>
     by_cases h3:a=(r:Int)
     ·have e:okr r a true=true:=by unfold okr;rw[jP (show 0<r by omega),jP (show 0<=a by omega),jP h3];simp
      rw[e];exact xxy k a true l r w hl Hr h3 (by omega) rfl
     ·have e:okr r a true=false:=by unfold okr;rw[jN h2,jN h3];simp
      rw[e];exact xx0 k a true l r w hl Hr (by omega) (by omega) rfl
end rspb
namespace gI
open Go.RowKit
open arr mem bJ dL bU iD cF eT rspb eZ
theorem xsw{T:Array aE}{ts rs:List Nat}(k:Int)(a:Nat)(l:List Nat)(b:ByteArray)(w:G)(h:St l)(hK:KT T ts rs)(bR:ok k (a:Int) false=true)(hb:b.size<=1125899906842624):
 aD aO 146 #[I T,I (SC k l (a:Int) false),E b] w (zB w (aA #[I (SC k (abs (PP ts rs) (bG k) ⟨l,a⟩ (aU b)).l ((abs (PP ts rs) (bG k) ⟨l,a⟩ (aU b)).at':Nat) false),O J 0])):=by
 have Hrt:U (∀ w1:G,aD aO 175 #[I (SC k l (a:Int) false)] w1 (zB w1 (.bool true))):=⟨fun w1=>by have h9:=xbo k (a:Int) false l w1 h.len;rw[bR]at h9;exact h9⟩;have hra:a<bG k/\bG k<=168:=⟨ok_lt k a bR,xjh k⟩;have Hrate:U (∀ w1:G,aD aO 174 #[O J k] w1 (zE w1 (O J ((bG k:Nat):Int)))):=⟨xjg k⟩;obtain⟨r,hr⟩:=aP (bG k);rw[hr]at hra Hrate ⊢;have Hra:=D hra;clear hr bR hra;have H:=D h;have HK:=D hK;have HTz:U ((aO.info? 34).map (·.size)=some T.size):=⟨by rw[hK.size];exact rkeb.sizeT⟩;obtain⟨z,HZ⟩:=aQ Z;have HZl:U (z.length=25):=⟨by rw[<-HZ.o];rfl⟩;have Hz:U ((#[O J 0,O .u64 0,O .u64 0,O .u64 0,O .u64 0,O .u64 0,O .u64 0,O .u64 0,O .u64 0,O .u64 0,O .u64 0,O .u64 0,O .u64 0,O .u64 0,O .u64 0,O .u64 0,O .u64 0,O .u64 0,O .u64 0,O .u64 0,O .u64 0,O .u64 0,O .u64 0,O .u64 0,O .u64 0,O .u64 0,O J 0,.bool false]:Array aE)=SC 0 z 0 false):=⟨by rw[<-HZ.o];exact zs_is⟩;clear h hK HZ;have C1:U (∀ (l:List Nat) (w1:G),St l->aD aO 176 #[I T,I (LK .u64 l)] w1 (zB w1 (I (LK .u64 (PP ts rs l))))):=⟨fun l w1 hl=>rperm.xi9 l w1 hl HK.o⟩;obtain⟨Eq,HE⟩:=aQ (abs (PP ts rs) r ⟨l,a⟩ (aU b));have HEs:U (St Eq.l):=⟨by rw[<-HE.o];exact(xh3 (fun _ h=>xb7 HK.o.br h) _ H.o Hra.o.1).1⟩;have HEa:U (sa ts rs r l a (aU b) b.size=Eq):=⟨by rw[<-HE.o,sa,lG (by rw[xaz];exact iM _)]⟩;rw[HE.o];clear HE;go_enter Tryz.func146,Tryz.ntmps146
 obtain⟨W,hW⟩:=aP (((w.alloc (Y T 34)).alloc (Y (SC k l (a:Int) false) 164)).alloc (Y (SC 0 z 0 false) 164));obtain⟨b0,b1,b2,hWs,hWb⟩:=three hW;have B0:=D b0;have B1:=D b1;have B2:=D b2;have HWs:=D hWs;have HWb:=D hWb;have HW:=D hW;have Si:=D (xdj k (a:Int) false H.o.len);have So:=D (xef k l (a:Int) false);have Sz:=D (xmp k 0 (a:Int) 0 false false H.o.len HZl.o);have c3:=aZ b1 (xco k (a:Int) false H.o.len);have c0:=aZ b1 (xcx k l (a:Int) false);obtain⟨S,HS⟩:=aQ (SC k l (a:Int) false);rw[HS.o]at B1 Si So Sz HW Hrt;clear hWs hWb hW b0 b1 b2;rw[HS.o];go_wp2_with (first
  | (rw[Hz.o,HW.o])
  | (refine iL rfl 164 _ rfl (w.heap.size+1) rfl 164 S (0,0) _ B1.o Tryz.underlying164 rfl Si.o ?_))
 refine(Hrt.o _).mono ?_;rintro e w1 ⟨rfl,hb1⟩;rw[<-HS.o]at B1;have A1:U (At (w.heap.size+1) (SC k l (a:Int) false) 164 W w1):=⟨(At.refl B1.o).later hb1⟩;have c3':w1.cell? ⟨w.heap.size+1,27,none⟩=some (.bool false):=aZ A1.o.row (xco k (a:Int) false H.o.len);have c0':w1.cell? ⟨w.heap.size+1,0,none⟩=some (O J k):=aZ A1.o.row (xcx k l (a:Int) false);clear hb1 c0 c3 HS Si So Sz Hrt;go_wp2_with fail;refine(Hrate.o _).mono ?_;rintro e w2 ⟨rfl,rfl⟩;go_wp2_with fail;clear c3' c0';go_loopw [22] (fun i wr=>∃ i':Nat,i'<=b.size/\i=O J (i':Int)/\U (At (w.heap.size+1) (SC k (sa ts rs r l a (aU b) i').l ((sa ts rs r l a (aU b) i').at':Nat) false) 164 W wr)) (fun i _=>b.size-(aG i).toNat)
 case atStart=>exact⟨0,iX _,rfl,A1⟩
 case round=>
  clear A1;obtain⟨i,hi,rfl,A0⟩:=hrel;by_cases hlt:i<b.size
  ·have hiz:(i:Int)<(b.size:Int):=by omega
   obtain⟨s,Hs⟩:=aQ (sa ts rs r l a (aU b) i);have Hso:U (St s.l/\s.at'<r):=⟨by rw[<-Hs.o];exact xhj HK.o.br H.o Hra.o.1 _ _⟩;rw[Hs.o]at A0;obtain⟨β,hβ⟩:∃ β,(aU b).getD i 0 = β := ⟨_,rfl⟩;have bβ : β < 256:=hβ ▸ fG b i;have hidx:=byte_of b i β hlt hβ;have Hn:U (sa ts rs r l a (aU b) (i+1)=ab (PP ts rs) r s β):=⟨by rw[xyl ts rs r l a (aU b) i β (by rw[xaz];exact hlt) hβ,Hs.o]⟩;obtain⟨sl,p⟩:=s;have h168:=Hra.o.2;have hsl:=Hso.o.1;have hp:=Hso.o.2;simp only at hsl hp A0;obtain⟨q,hq⟩:=aP (p / 8);obtain⟨m,hm⟩:=aP (p%8);obtain⟨c,hc⟩:∃ c,c=8*m:=⟨_,rfl⟩;have fq:(p:Int).tdiv 8=(q:Int):=by rw[iU (by omega)];omega
   have fqw:J.wrap ((p:Int).tdiv 8)=(q:Int):=by rw[fq,iN];omega
   have fm:(p:Int).tmod 8=(m:Int):=by rw[jB (by omega)];omega
   have fq2:(p:Int) / 8=(q:Int):=by omega
   have fq3:J.wrap (q:Int)=(q:Int):=bB;have fm2:(p:Int)%8=(m:Int):=by omega
   have fc:J.wrap (8*(m:Int))=(c:Int):=bB;have fu:IntKind.u64.wrap (c:Int)=(c:Int):=by rw[kA];omega
   have hc63:c<=63:=by omega
   have hq25:q<25:=by omega
   have hqz:(q:Int)<25:=by omega
   obtain⟨x,hx⟩:=aP (g sl q);have bx:x<18446744073709551616:=hx ▸ hsl.lt q;obtain⟨y,hy⟩:=aP (β * 2 ^ c%18446744073709551616);have by':y<18446744073709551616:=hy ▸ kB _ (by decide)
   have fs:=xjq β c;rw[hy]at fs;have fb:IntKind.u64.wrap (β : Int)=(β : Int):=by rw[kA];omega
   have fy:IntKind.u64.wrap ((β : Int)*2 ^ c)=(y:Int):=by rw[kA];exact fs
   obtain⟨v,hv⟩:=aP (x ^^^ y);have V:=fN x y v bx by' hv
   have Hxb:U (sl.set q v=xb sl p β):=⟨by unfold xb;rw[hq,hm,<-hc,hx,hy,hv]⟩;have cp:wr.cell? ⟨w.heap.size+1,26,none⟩=some (O J (p:Int)):=aZ A0.o.row (gO k _ false hsl.len);have cx:wr.cell? ⟨w.heap.size+1,1+q,none⟩=some (O .u64 (x:Int)):=by rw[<-hx];exact aZ A0.o.row (xcn k _ false hsl.len q hq25)
   have Hsl:=D hsl;have Hp:=D hp;clear hq hm hc hx hy hv hβ hi hsl hp h168;go_wp2_with fail;refine gZ 19 (by kernel_rfl) (by kernel_rfl) ?_;simp only[jH,jU,iW,jK];repeat still_step
   refine jR ?_;have hz28:∀ (k a:Int) (o:Bool) {l:List Nat},l.length=25->(SC k l a o).size=28:=fun k a o l h=>xa6 k a o h
   have A1:U (At (w.heap.size+1) (SC k sl (p:Int) false) 164 W wr.drew):=⟨eN A0.o⟩;clear cp cx fq fqw fm fq2 fq3 fm2 fc fu fs V A0 fb fy
   with_reducible refine cU A1 rfl _ _ _ rfl rfl ?_
   refine⟨_,_,_,rfl,rfl,rfl,by rw[hz28 _ _ _ Hsl.o.len];omega,?_⟩;intro wn HR1;rw[xhk k _ false Hsl.o.len q v hq25,Hxb.o]at HR1;obtain⟨xl,Hxl⟩:=aQ (xb sl p β);have HX:U (St xl):=⟨by rw[<-Hxl.o];exact xcq Hsl.o p β⟩;rw[Hxl.o]at HR1;have cp1:wn.cell? ⟨w.heap.size+1,26,none⟩=some (O J (p:Int)):=aZ HR1.o.row (gO k _ false HX.o.len);have hp8:p<=168:=by have:=Hp.o;have:=Hra.o.2;omega
   by_cases he:p+1=r
   ·have hz:((p:Int)+1==(r:Int))=true:=lL.2 (by omega);have Hn2:U (sa ts rs r l a (aU b) (i+1)=⟨PP ts rs xl,0⟩):=⟨by rw[Hn.o,ab,iP he,Hxl.o]⟩;have HQ:U (St (PP ts rs xl)):=⟨xb7 HK.o.br HX.o⟩;obtain⟨pl,Hpl⟩:=aQ (PP ts rs xl);rw[Hpl.o]at HQ Hn2;have C2:U (∀ w1:G,aD aO 176 #[I T,I (LK .u64 xl)] w1 (zB w1 (I (LK .u64 pl)))):=⟨fun w1=>by rw[<-Hpl.o];exact C1.o xl w1 HX.o⟩;have Xz:=D (show (aO.info? 162).map (·.size)=some (LK .u64 xl).toList.length by rw[jM];exact size25 HX.o.len);clear he Hn Hxb Hsl Hp A1 hidx bβ;go_wp2_with (first
     | ((with_reducible refine cU (by assumption) rfl _ _ _ rfl rfl ?_);refine⟨_,_,_,rfl,rfl,rfl,(by rw[hz28 _ _ _ HX.o.len];decide),?_⟩;intro w5 HR2;rw[xbh k _ _ false HX.o.len]at HR2;have cp2:w5.cell? ⟨w.heap.size+1,26,none⟩=some (O J ((p:Int)+1)):=aZ HR2.o.row (gO k _ false HX.o.len);have T5:U (w5.heap[w.heap.size]? = some (Y T 34 (0,0))):=⟨HR2.o.other (by have:=HWs.o;omega) (by omega) B0.o⟩;have L5:=D (xir HR2.o.row HX.o.len))
     | (refine iL rfl 34 _ rfl w.heap.size rfl 34 T (0,0) _ T5.o zY rfl HTz.o ?_)
     | (refine mE rfl 162 _ rfl (w.heap.size+1) 1 rfl (LK .u64 xl).toList _ L5.o Tryz.underlying162 rfl Xz.o ?_))
    refine(C2.o _).mono ?_;rintro e w6 ⟨rfl,hb6⟩;have HR3:U (At (w.heap.size+1) (SC k xl _ false) 164 W w6):=⟨HR2.o.later hb6⟩;clear hb6 cp1 cp2 T5 L5 HR1 HR2;go_wp2_with (first
     | ((with_reducible refine xng HR3 HX.o.len HQ.o.len rfl _ _ rfl rfl ?hx ?hy ?_);(case hx=>exact rfl);(case hy=>exact rfl);intro w7 HR4;clear HR3)
     | ((with_reducible refine cU (by assumption) rfl _ _ _ rfl rfl ?_);refine⟨_,_,_,rfl,rfl,rfl,(by rw[hz28 _ _ _ HQ.o.len];decide),?_⟩;intro w8 HR5;rw[xbh k _ _ false HQ.o.len]at HR5))
    go_roundw
    case rel=>exact⟨i+1,by omega,by go_num,by rw[Hn2.o];exact HR5⟩
    case measure=>simp[aG];omega
   ·have hz:((p:Int)+1==(r:Int))=false:=jV.2 (by omega);have Hn2:U (sa ts rs r l a (aU b) (i+1)=⟨xl,p+1⟩):=⟨by rw[Hn.o,ab,iQ he,Hxl.o]⟩;clear he Hn Hxb Hsl Hp A1 hidx bβ;go_wp2_with ((with_reducible refine cU (by assumption) rfl _ _ _ rfl rfl ?_);refine⟨_,_,_,rfl,rfl,rfl,(by rw[hz28 _ _ _ HX.o.len];decide),?_⟩;intro w5 HR2;rw[xbh k _ _ false HX.o.len]at HR2;have cp2:w5.cell? ⟨w.heap.size+1,26,none⟩=some (O J ((p:Int)+1)):=aZ HR2.o.row (gO k _ false HX.o.len));go_roundw
    case rel=>exact⟨i+1,by omega,by go_num,by rw[Hn2.o];exact HR2⟩
    case measure=>simp[aG];omega
  ·obtain rfl:i=b.size:=by omega
   rw[HEa.o]at A0;obtain⟨el,ea⟩:=Eq;simp only at A0;have hel:=HEs.o.len;simp only at hel;obtain⟨F,HF⟩:=aQ (SC k el (ea:Int) false);have Fi:U ((aO.info? 164).map (·.size)=some F.size):=⟨by rw[<-HF.o];exact xdj k _ _ hel⟩;have Fo:U (F.all (·.oneCell')=true):=⟨by rw[<-HF.o];exact xef k el _ _⟩;have Fz:U ((SC 0 z 0 false).size=F.size):=⟨by rw[<-HF.o];exact xmp _ _ _ _ _ _ HZl.o hel⟩;rw[HF.o]at A0;have Hres:U (wr.heap[w.heap.size+2]? = some (Y (SC 0 z 0 false) 164 (0,0))):=⟨A0.o.other (by have:=HWs.o;omega) (by omega) B2.o⟩;have Hrow:=D A0.o.row;have Hb5:U (zb w wr):=⟨HWb.o.trans (A0.o.below (by have:=HWs.o;omega) (by omega))⟩;clear A0 hi hlt hel;go_wp2_with (first
    | (refine iL rfl 164 _ rfl (w.heap.size+1) rfl 164 F (0,0) _ Hrow.o Tryz.underlying164 rfl Fi.o ?_)
    | (refine iS rfl 164 _ _ rfl (w.heap.size+2) F rfl rfl 164 _ Hres.o Fi.o Fz.o Fo.o ?_))
   refine iV (v:=aA #[I F,O J 0]) (eZ.results_cell_tmp rfl _ _ (w.heap.size+2) 164 _ (0,0) _ rfl (jD _ _ _ _ _ _ Hres.o) Tryz.underlying164 rfl Fi.o _ rfl) rfl ?_;exact⟨by rw[<-HF.o],Hb5.o.trans (below_setRow _ _ _ (by omega))⟩
end gI
namespace rspe
open Go.RowKit
open arr mem bJ dL bU iD cF eT rspb eZ gI
theorem xv4(k:Int)(w:G)(hr : 0<bG k):aD aO 145 #[O J k] w (zB w (aA #[I (SC k Z 0 false),O J 0])):=by
 have Hrate:U (∀ w1:G,aD aO 174 #[O J k] w1 (zE w1 (O J ((bG k:Nat):Int)))):=⟨xjg k⟩;obtain⟨r,hre⟩:=aP (bG k);rw[hre]at hr Hrate;clear hre;have h0:¬ ((r:Int)=0):=by omega
 have h1:((r:Int)==0)=false:=jV.2 (by omega);clear hr h0;obtain⟨F,HF⟩:=aQ (SC k Z 0 false);have Fi:U ((aO.info? 164).map (·.size)=some F.size):=⟨by rw[<-HF.o];exact xdj _ _ _ xfe⟩;have Fo:U (F.all (·.oneCell')=true):=⟨by rw[<-HF.o];exact xef _ _ _ _⟩;have Fz:U ((#[O J 0,O .u64 0,O .u64 0,O .u64 0,O .u64 0,O .u64 0,O .u64 0,O .u64 0,O .u64 0,O .u64 0,O .u64 0,O .u64 0,O .u64 0,O .u64 0,O .u64 0,O .u64 0,O .u64 0,O .u64 0,O .u64 0,O .u64 0,O .u64 0,O .u64 0,O .u64 0,O .u64 0,O .u64 0,O .u64 0,O J 0,.bool false]:Array aE).size=F.size):=⟨by rw[<-HF.o,xa6 _ _ _ xfe];rfl⟩;have Fb:U ((#[O J k,O .u64 0,O .u64 0,O .u64 0,O .u64 0,O .u64 0,O .u64 0,O .u64 0,O .u64 0,O .u64 0,O .u64 0,O .u64 0,O .u64 0,O .u64 0,O .u64 0,O .u64 0,O .u64 0,O .u64 0,O .u64 0,O .u64 0,O .u64 0,O .u64 0,O .u64 0,O .u64 0,O .u64 0,O .u64 0,O J 0,.bool false]:Array aE)=F):=⟨by rw[<-HF.o];rfl⟩;rw[HF.o];go_enter Tryz.func145,Tryz.ntmps145;go_wp2_with fail;refine(Hrate.o _).mono ?_;rintro e w1 ⟨rfl,rfl⟩;go_wp2_with (first
  | ((with_reducible refine xnf rfl _ _ rfl #[O J k,O .u64 0,O .u64 0,O .u64 0,O .u64 0,O .u64 0,O .u64 0,O .u64 0,O .u64 0,O .u64 0,O .u64 0,O .u64 0,O .u64 0,O .u64 0,O .u64 0,O .u64 0,O .u64 0,O .u64 0,O .u64 0,O .u64 0,O .u64 0,O .u64 0,O .u64 0,O .u64 0,O .u64 0,O .u64 0,O J 0,.bool false] ?hC ?_);(case hC=>kernel_rfl);rw[Fb.o])
  | (refine fV rfl 164 _ _ rfl F rfl rfl Fi.o (by first | exact Fz.o | rfl) Fo.o rfl ?_))
 refine iV (v:=aA #[I F,O J 0]) (eZ.results_cell_tmp rfl _ _ w.heap.size 164 _ (0,0) _ rfl (cM _ _ _ rfl) Tryz.underlying164 rfl Fi.o _ rfl) rfl ?_;exact⟨rfl,xby _ _⟩
end rspe
namespace rspf
open Go.RowKit
open arr mem bJ dL bU iD cF eT rspb eZ gI
theorem dV:(aO.info? 5).map (fun i=>(i.zero,i.size,i.bytes))=some (some (O .u8 0),1,1):=by kernel_rfl
theorem parts{P:aI}{e:aH}{z:aE}{s b:Nat}(h:(P.info? e).map (fun i=>(i.zero,i.size,i.bytes))=some (some z,s,b)):∃ i,P.info? e=some i/\i.zero=some z/\i.size=s/\i.bytes=b:=by
 cases hi:P.info? e with
 | none=>rw[hi]at h;cases h
 | some i=>
  rw[hi]at h;simp only[nU,mT,Prod.mk.injEq]at h;exact⟨i,rfl,h.1,h.2.1,h.2.2⟩
theorem xb6{w w':G}{base:Nat}{e:aH}{size:Nat}{v:aE}{n:Nat}{xs:List aE}{g:Nat}{C:Array aE}{t:aH}(h:w.ownsRow base e size v n xs)(k:At g C t w w')(hg:g<base):w'.ownsRow base e size v n xs:=
 ⟨h.1,h.2.imp id fun ⟨g',cap,cur,hv,hb,hgr,rest⟩=>⟨g',cap,cur,hv,hb,(k.block g' (bI hgr) (by omega)).trans hgr,rest⟩⟩
theorem xcr{g B:Nat}{C:Array aE}{t:aH}{a b c:G}(h:At g C t a b)(k:aF B b c)(hB:a.heap.size<=B)(hg:g<B):At g C t a c:=
 ⟨k.os.trans h.os,k.tape.trans h.tape,k.output.trans h.output,jJ h.size k.size,(k.block g hg).trans h.row,fun i hi hig=>(k.block i (by omega)).trans (h.block i hi hig)⟩
open spof (cP)
theorem xgf(l:List Nat)(x:Nat)(hx:x<256):aJ (cP (l ++ [x]))=aJ (cP l) ++ [O .u8 (x:Int)]:=by
 unfold cP;rw[List.map_append,pA];congr 1
 simp[aJ,jO hx]
theorem xbg{w:G}{v:aE}{T:Nat}:∀ j u,[v][j]? = some u->(w.alloc (Y #[v] T)).cell? ((⟨w.heap.size,0,none⟩:Addr).add j)=some u:=by
 intro j u hj;match j,hj with
 | 0,hj=>
  simp at hj;subst hj;simp[Addr.add]
theorem xbu{w:G}{base:Nat}{e:aH}{size:Nat}{v:aE}{n:Nat}{xs:List aE}(h:w.ownsRow base e size v (n+1) xs):∃ g cap,v=aB (some ⟨g,0,none⟩) (n+1) cap:=by
 rcases h.2 with ⟨-,h0⟩ | ⟨g,cap,cur,hv,-⟩
 ·omega
 ·exact⟨g,cap,hv⟩
theorem xep{w:G}{base g cap n:Nat}{l:List UInt8}(hn:l.length=n)(h:w.ownsRow base 5 1 (aB (some ⟨g,0,none⟩) n cap) n (aJ l)):
 (convert 57 9 (aB (some ⟨g,0,none⟩) n cap)).run aO w.drew=.ok (E ⟨l.toArray⟩) w.drew:=by
 subst hn;have h:=lU h;refine run_convert_bytes_back (P:=aO) w.drew 57 9 5 ⟨g,0,none⟩ cap l Tryz.underlying57 Tryz.underlying5 Tryz.underlying9 (fun j hj=>?_);have:=h.cellAt j (by omega);rw[Addr.add_mid,kP,this];simp[aJ,hj]
theorem xhn(x c:Nat):IntKind.u8.wrap ((x:Int) / 2 ^ c)=((x / 2 ^ c%256:Nat):Int):=by
 rw[rols.castd x c,kU];omega
theorem xcj{P:aI}{md:Region.Mode}{l:List Oper}{Q:Exit->Act->G->Prop}{listed:Array Bool}{a:Act}{w:G}(n g:Nat)(hB:Region.seqB md l.toArray g n listed=true)(hg:(l.drop n).length=g)
 (h:wpList P l.toArray Q (l.drop n) a w):wpAny P md l.toArray Q g listed a w:=by
 subst hg;exact wpAny_of_seq (l.drop n) n listed a w (fun j=>by simp[List.getElem?_drop]) hB h
theorem xs2{g:Nat}{C C':Array aE}{t:aH}{w w':G}(h:At g C t w w'):At g C' t w (w'.setRow g C'):=
 ⟨h.os,h.tape,h.output,by simpa [World.setRow] using h.size,jD _ _ _ _ _ _ h.row,fun k hk hg=>(lW w' g k C' hg).trans (h.block k hk hg)⟩
theorem xlv{c:Prop}[Decidable c]{a b:Prop}(hc:c)(h:a):if c then a else b:=by rw[iP hc];exact h
end rspf
namespace rspg
open arr mem bJ dL bU iD cF eT rspb eZ gI rspf
open spof (cP)
theorem xmw{T:Array aE}{ts rs:List Nat}(k:Int)(a n:Nat)(l:List Nat)(w:G)(h:St l)(hK:KT T ts rs)(bR:ok k (a:Int) false=true)(hra : 0<bG k/\a<bG k/\bG k<=168)(hn:n<=50000):
 aD aO 147 #[I T,I (SC k l (a:Int) false),O J (n:Int)] w (zB w (aA #[I (SC k (sk (PP ts rs) (bG k) (pad (bG k) (cF.mark k) ⟨l,a⟩) n).l ((sk (PP ts rs) (bG k) (pad (bG k) (cF.mark k) ⟨l,a⟩) n).at':Nat) true),E ⟨(cP (sq (PP ts rs) (bG k) (pad (bG k) (cF.mark k) ⟨l,a⟩) n)).toArray⟩,O J 0])):=by
 have Hrt:U (∀ w1:G,aD aO 175 #[I (SC k l (a:Int) false)] w1 (zB w1 (.bool true))):=⟨fun w1=>by have h9:=xbo k (a:Int) false l w1 h.len;rw[bR]at h9;exact h9⟩;have Hrate:U (∀ w1:G,aD aO 174 #[O J k] w1 (zE w1 (O J ((bG k:Nat):Int)))):=⟨xjg k⟩;obtain⟨r,hr⟩:=aP (bG k);rw[hr]at hra Hrate ⊢;have hf:=xpb k;obtain⟨f,hf2⟩:=aP (cF.mark k);rw[hf2]at hf ⊢;clear hr bR;have Hra:=D hra;have H:=D h;have HK:=D hK;have HTz:U ((aO.info? 34).map (·.size)=some T.size):=⟨by rw[hK.size];exact rkeb.sizeT⟩;obtain⟨z,HZ⟩:=aQ Z;have HZl:U (z.length=25):=⟨by rw[<-HZ.o];rfl⟩;have Hz:U ((#[O J 0,O .u64 0,O .u64 0,O .u64 0,O .u64 0,O .u64 0,O .u64 0,O .u64 0,O .u64 0,O .u64 0,O .u64 0,O .u64 0,O .u64 0,O .u64 0,O .u64 0,O .u64 0,O .u64 0,O .u64 0,O .u64 0,O .u64 0,O .u64 0,O .u64 0,O .u64 0,O .u64 0,O .u64 0,O .u64 0,O J 0,.bool false]:Array aE)=SC 0 z 0 false):=⟨by rw[<-HZ.o];exact zs_is⟩;obtain⟨i0,hi,hz0,hz1,hz2⟩:=parts dV;have HI:=D (jA hi (jA hz0 (jA hz1 hz2)));have hz28:∀ (k a:Int) (o:Bool) {l:List Nat},l.length=25->(SC k l a o).size=28:=fun k a o l h=>xa6 k a o h
 clear h hK HZ hi hz0 hz1 hz2 hra;have Hmark:U (∀ w1:G,aD aO 177 #[O J k] w1 (zE w1 (O .u8 (f:Int)))):=⟨fun w1=>by rw[<-hf2];exact xvt k w1⟩;clear hf2;have hn0:(0:Int)<=(n:Int):=by omega
 have hn1:¬ (50000:Int)<(n:Int):=by omega
 have C1:U (∀ (l:List Nat) (w1:G),St l->aD aO 176 #[I T,I (LK .u64 l)] w1 (zB w1 (I (LK .u64 (PP ts rs l))))):=⟨fun l w1 hl=>rperm.xi9 l w1 hl HK.o⟩;obtain⟨s0,Hs0⟩:=aQ (pad r f ⟨l,a⟩);have Hs0k:U (St s0.l/\s0.at'<=r):=⟨by rw[<-Hs0.o];exact xi6 H.o⟩;rw[Hs0.o];obtain⟨Eq,HE⟩:=aQ (sk (PP ts rs) r s0 n);have Hel:U (Eq.l.length=25):=⟨by rw[<-HE.o];exact(xfa (fun _ h=>xb7 HK.o.br h) Hra.o.1 Hs0k.o.1 Hs0k.o.2 n).1.len⟩;rw[HE.o];obtain⟨F,HF⟩:=aQ (SC k Eq.l (Eq.at':Int) true);rw[HF.o];obtain⟨bs,Hbs⟩:=aQ (cP (sq (PP ts rs) r s0 n));have Hbl:U (bs.length=n):=⟨by rw[<-Hbs.o,cP,List.length_map,xmv]⟩;rw[Hbs.o];go_enter Tryz.func147,Tryz.ntmps147;obtain⟨W,hW⟩:=aP (((w.alloc (Y T 34)).alloc (Y (SC k l (a:Int) false) 164)).alloc (Y (SC 0 z 0 false) 164));obtain⟨b0,b1,b2,hWs,hWb⟩:=three hW;have B0:=D b0;have B2:=D b2;have HWs:=D hWs;have HWb:=D hWb;have HW:=D hW;have B1:=D b1;have Si:=D (xdj k (a:Int) false H.o.len);obtain⟨S,HS⟩:=aQ (SC k l (a:Int) false);rw[HS.o]at B1 Si HW Hrt;clear hWs hWb hW b0 b1 b2;rw[HS.o];go_wp2_with (first
  | (rw[Hz.o,HW.o])
  | (refine iL rfl 164 _ rfl (w.heap.size+1) rfl 164 S (0,0) _ B1.o Tryz.underlying164 rfl Si.o ?_))
 refine(Hrt.o _).mono ?_;rintro e w1 ⟨rfl,hb1⟩;rw[<-HS.o]at B1;have A1:U (At (w.heap.size+1) (SC k l (a:Int) false) 164 W w1):=⟨(At.refl B1.o).later hb1⟩;have c3':w1.cell? ⟨w.heap.size+1,27,none⟩=some (.bool false):=aZ A1.o.row (xco k (a:Int) false H.o.len);have c0':w1.cell? ⟨w.heap.size+1,0,none⟩=some (O J k):=aZ A1.o.row (xcx k l (a:Int) false);clear hb1 HS Si Hrt;go_wp2_with fail;refine(Hrate.o _).mono ?_;rintro e w2 ⟨rfl,rfl⟩;have ha8:a<r:=Hra.o.2.1;have h168:r<=168:=Hra.o.2.2;obtain⟨q,hq⟩:=aP (a / 8);obtain⟨m,hm⟩:=aP (a%8);obtain⟨c,hc⟩:∃ c,c=8*m:=⟨_,rfl⟩;have fq:(a:Int).tdiv 8=(q:Int):=by rw[iU (by omega)];omega
 have fqw:J.wrap ((a:Int).tdiv 8)=(q:Int):=by rw[fq,iN];omega
 have fm:(a:Int).tmod 8=(m:Int):=by rw[jB (by omega)];omega
 have fq2:(a:Int) / 8=(q:Int):=by omega
 have fq3:J.wrap (q:Int)=(q:Int):=bB;have fm2:(a:Int)%8=(m:Int):=by omega
 have fc:J.wrap (8*(m:Int))=(c:Int):=bB;have fu:IntKind.u64.wrap (c:Int)=(c:Int):=by rw[kA];omega
 have hc63:c<=63:=by omega
 have hq25:q<25:=by omega
 have hqz:(q:Int)<25:=by omega
 obtain⟨x,hx⟩:=aP (g l q);have bx:x<18446744073709551616:=hx ▸ H.o.lt q;obtain⟨y,hy⟩:=aP (f*2 ^ c%18446744073709551616);have by':y<18446744073709551616:=hy ▸ kB _ (by decide)
 have fs:=xjq f c;rw[hy]at fs;have fb:IntKind.u64.wrap (f:Int)=(f:Int):=by rw[kA];omega
 have fy:IntKind.u64.wrap ((f:Int)*2 ^ c)=(y:Int):=by rw[kA];exact fs
 obtain⟨v,hv⟩:=aP (x ^^^ y);have V:=fN x y v bx by' hv
 have Hxb:U (l.set q v=xb l a f):=⟨by unfold xb;rw[hq,hm,<-hc,hx,hy,hv]⟩;have cp:w2.cell? ⟨w.heap.size+1,26,none⟩=some (O J (a:Int)):=aZ A1.o.row (gO k _ false H.o.len);have cx:w2.cell? ⟨w.heap.size+1,1+q,none⟩=some (O .u64 (x:Int)):=by rw[<-hx];exact aZ A1.o.row (xcn k _ false H.o.len q hq25)
 clear hq hm hc hx hy hv;go_wp2_with fail;refine gZ 19 (by kernel_rfl) (by kernel_rfl) ?_;simp only[jH,jU,iW,jK];iterate 8 still_step
 still_call (Hmark.o _)
 repeat still_step
 refine jR ?_;have A2:U (At (w.heap.size+1) (SC k l (a:Int) false) 164 W w2.drew):=⟨eN A1.o⟩;clear cp cx fq fqw fm fq2 fq3 fm2 fc fu fs V fb fy c3' c0' A1 hqz hc63;obtain⟨r1,hr1⟩:=aP (r-1);obtain⟨q1,hq1⟩:=aP (r1 / 8);obtain⟨m1,hm1⟩:=aP (r1%8);obtain⟨c1,hc1⟩:∃ c,c=8*m1:=⟨_,rfl⟩;have fr1:(r:Int)-1=(r1:Int):=by omega
 have fr1w:J.wrap ((r:Int)-1)=(r1:Int):=bB;have fq1:(r1:Int).tdiv 8=(q1:Int):=by rw[iU (by omega)];omega
 have fq1w:J.wrap ((r1:Int).tdiv 8)=(q1:Int):=by rw[fq1,iN];omega
 have fm1:(r1:Int).tmod 8=(m1:Int):=by rw[jB (by omega)];omega
 have fq12:(r1:Int) / 8=(q1:Int):=by omega
 have fm12:(r1:Int)%8=(m1:Int):=by omega
 have fc1:(8:Int)*(m1:Int)=(c1:Int):=by omega
 have fc1w:J.wrap (8*(m1:Int))=(c1:Int):=bB;have fu1:IntKind.u64.wrap (c1:Int)=(c1:Int):=by rw[kA];omega
 have hc163:c1<=63:=by omega
 have hq125:q1<25:=by omega
 have hq1z:(q1:Int)<25:=by omega
 have hr1168:r1<=168:=by omega
 have HX0:U (St (xb l a f)):=⟨xcq H.o a f⟩;obtain⟨l2,Hl2⟩:=aQ (xb l a f);rw[Hl2.o]at HX0 Hxb;obtain⟨x1,hx1⟩:=aP (g l2 q1);have bx1:x1<18446744073709551616:=hx1 ▸ HX0.o.lt q1;obtain⟨y1,hy1⟩:=aP (128*2 ^ c1%18446744073709551616);have by1:y1<18446744073709551616:=hy1 ▸ kB _ (by decide);have fs1:((128:Int)*2 ^ c1%18446744073709551616)=(y1:Int):=by have h9:=xjq 128 c1;rw[hy1]at h9;exact h9
 have fy1:IntKind.u64.wrap ((128:Int)*2 ^ c1)=(y1:Int):=by rw[kA];exact fs1
 obtain⟨v1,hv1⟩:=aP (x1 ^^^ y1);have V1:=fN x1 y1 v1 bx1 by1 hv1;have Hxb1:U (l2.set q1 v1=xb l2 r1 128):=⟨by unfold xb;rw[hq1,hm1,<-hc1,hx1,hy1,hv1]⟩;have HX1:U (St (xb l2 r1 128)):=⟨xcq HX0.o r1 128⟩;have Hpad:U (s0=⟨xb l2 r1 128,r⟩):=⟨by rw[<-Hs0.o,pad,Hl2.o,hr1]⟩;obtain⟨l3,Hl3⟩:=aQ (xb l2 r1 128);rw[Hl3.o]at HX1 Hxb1 Hpad;have Hq25:=D hq25;have Hq125:=D hq125;have Hx1:=D hx1;clear hq1 hm1 hc1 hy1 hv1 hr1 Hl2 Hl3 Hs0 hx1 hq25
 with_reducible refine cU A2 rfl _ _ _ rfl rfl ?_
 refine⟨_,_,_,rfl,rfl,rfl,(by rw[xa6 k _ false H.o.len];have:=Hq25.o;omega),?_⟩;intro w5 A5;rw[xhk k _ false H.o.len q v Hq25.o,Hxb.o]at A5;have cx1:w5.cell? ⟨w.heap.size+1,1+q1,none⟩=some (O .u64 (x1:Int)):=by (rw[<-Hx1.o];exact aZ A5.o.row (xcn k _ false HX0.o.len q1 Hq125.o))
 clear A2;go_wp2_with (first
  | ((with_reducible refine cU A5 rfl _ _ _ rfl rfl ?_);refine⟨_,_,_,rfl,rfl,rfl,(by rw[xa6 k _ false HX0.o.len];have:=Hq125.o;omega),?_⟩;intro w6 A6;rw[xhk k _ false HX0.o.len q1 v1 Hq125.o,Hxb1.o]at A6;clear A5)
  | ((with_reducible refine xhy A6 rfl _ _ _ rfl 27 (.bool true) rfl rfl ?hi rfl ?hn rfl ?_);(case hi=>rfl);(case hn=>(rw[xa6 k _ false HX1.o.len];decide));intro w7 A7;rw[xmq k _ false true HX1.o.len]at A7;clear A6)
  | ((with_reducible refine cU A7 rfl _ _ _ rfl rfl ?_);refine⟨_,_,_,rfl,rfl,rfl,(by rw[xa6 k _ true HX1.o.len];decide),?_⟩;intro w8 A8;rw[xbh k _ _ true HX1.o.len]at A8;have hbase:W.heap.size<=w8.heap.size:=A8.o.size;clear A7)
  | (at_make;refine wpList_make_own _ rfl _ _ 57 rfl W.heap.size 5 i0 (O .u8 0) 1 Tryz.underlying57 HI.o.1 HI.o.2.1 HI.o.2.2.1 J J (n:Int) n rfl rfl rfl (by rw[HI.o.2.2.2];omega) (by unfold maxLen;omega) hbase ?_))
 intro w3 hown hgr;have AL:U (At (w.heap.size+1) (SC k s0.l (s0.at':Nat) true) 164 W w8):=⟨by rw[Hpad.o];exact A8.o⟩;have hb3:zb w8 w3:=(iR _ _).grown hgr (iM _) (fun k hk=>by simp at hk);have AM:U (At (w.heap.size+1) (SC k s0.l (s0.at':Nat) true) 164 W w3):=⟨AL.o.later hb3⟩;have OW0:=D hown;clear hown hgr hb3 AL A8 Hxb Hxb1 fr1 fr1w fq1 fq1w fm1 fq12 fm12 fc1 fc1w fu1 hc163 hq125 hq1z hr1168 fs1 fy1 V1 bx1 by1 bx by' cx1
 go_wp2_with fail;go_loopw [10] (fun v wr=>∃ j:Nat,j<=n/\(∃ g cap,v=aB (some ⟨g,0,none⟩) j cap)/\U (wr.ownsRow W.heap.size 5 1 v j (aJ (cP (sq (PP ts rs) r s0 j))))/\U (At (w.heap.size+1) (SC k (sk (PP ts rs) r s0 j).l ((sk (PP ts rs) r s0 j).at':Nat) true) 164 W wr)) (fun v _=>n-(match v with | .slice _ m _=>m | _=>0))
 case atStart=>exact⟨0,iX _,⟨_,_,rfl⟩,OW0,AM⟩
 case round=>
  clear OW0 AM;obtain⟨j,hj,⟨gv,cap,rfl⟩,OWN,A0⟩:=hrel;by_cases hlt:j<n
  ·have hjz:(j:Int)<(n:Int):=by omega
   obtain⟨st,Hst⟩:=aQ (sk (PP ts rs) r s0 j);have Hso:U (St st.l/\st.at'<=r):=⟨by rw[<-Hst.o];exact xfa (fun _ h=>xb7 HK.o.br h) Hra.o.1 Hs0k.o.1 Hs0k.o.2 j⟩;rw[Hst.o]at A0;have Hnx:U (sk (PP ts rs) r s0 (j+1)=nx (PP ts rs) r st/\sq (PP ts rs) r s0 (j+1)=sq (PP ts rs) r s0 j ++ [gb (tn (PP ts rs) r st).l (tn (PP ts rs) r st).at']):=⟨by rw[sk,Hst.o,xjt,sb,Hst.o];exact⟨rfl,rfl⟩⟩;obtain⟨sl,p⟩:=st;have hsl:=Hso.o.1;have hp:=Hso.o.2;simp only at hsl hp A0;have h168:=Hra.o.2.2;have hp8:p<=168:=by omega
   have Hsl:=D hsl;have Hp:=D hp;have cp0:wr.cell? ⟨w.heap.size+1,26,none⟩=some (O J (p:Int)):=aZ A0.o.row (gO k _ true hsl.len);have hs1:w.heap.size+1<W.heap.size:=by have:=HWs.o;omega
   have Hs1:=D hs1;clear hsl hp hj hs1;by_cases he:p=r
   ·have hz:((p:Int)==(r:Int))=true:=lL.2 (by omega);have Htn:U (tn (PP ts rs) r ⟨sl,p⟩=⟨PP ts rs sl,0⟩):=⟨by rw[tn,iP he]⟩;have HQ:U (St (PP ts rs sl)):=⟨xb7 HK.o.br Hsl.o⟩;obtain⟨xl,Hpl⟩:=aQ (PP ts rs sl);rw[Hpl.o]at HQ Htn;have C2:U (∀ w1:G,aD aO 176 #[I T,I (LK .u64 sl)] w1 (zB w1 (I (LK .u64 xl)))):=⟨fun w1=>by rw[<-Hpl.o];exact C1.o sl w1 Hsl.o⟩;have Xz:=D (show (aO.info? 162).map (·.size)=some (LK .u64 sl).toList.length by rw[jM];exact size25 Hsl.o.len);have T5:U (wr.heap[w.heap.size]? = some (Y T 34 (0,0))):=⟨A0.o.other (by have:=HWs.o;omega) (by omega) B0.o⟩;have L5:=D (xir A0.o.row Hsl.o.len);clear he Hp;go_wp2_with (first
     | (refine iL rfl 34 _ rfl w.heap.size rfl 34 T (0,0) _ T5.o zY rfl HTz.o ?_)
     | (refine mE rfl 162 _ rfl (w.heap.size+1) 1 rfl (LK .u64 sl).toList _ L5.o Tryz.underlying162 rfl Xz.o ?_))
    refine(C2.o _).mono ?_;rintro e w6 ⟨rfl,hb6⟩;have HR3:U (At (w.heap.size+1) (SC k sl (p:Int) true) 164 wr w6):=⟨(At.refl A0.o.row).later hb6⟩;clear hb6 cp0 T5 L5;go_wp2_with (first
     | ((with_reducible refine xng HR3 Hsl.o.len HQ.o.len rfl _ _ rfl rfl ?hx ?hy ?_);(case hx=>exact rfl);(case hy=>exact rfl);intro w7 HR4;clear HR3)
     | ((with_reducible refine cU (by assumption) rfl _ _ _ rfl rfl ?_);refine⟨_,_,_,rfl,rfl,rfl,(by rw[hz28 _ _ _ HQ.o.len];decide),?_⟩;intro w8 HR5;rw[xbh k _ _ true HQ.o.len]at HR5))
    obtain⟨y,hy⟩:∃ y:Nat,y=0:=⟨0,rfl⟩;have hyr:y<r:=by rw[hy];exact Hra.o.1
    have Htn:U (tn (PP ts rs) r ⟨sl,p⟩=⟨xl,y⟩):=⟨by rw[hy];exact Htn.o⟩;have AZ:U (At (w.heap.size+1) (SC k xl (y:Int) true) 164 W w8):=⟨A0.o.trans (by rw[hy];exact HR5.o)⟩;have OZ:U (w8.ownsRow W.heap.size 5 1 (aB (some ⟨gv,0,none⟩) j cap) j (aJ (cP (sq (PP ts rs) r s0 j)))):=⟨xb6 OWN.o HR5.o Hs1.o⟩;clear A0 OWN HR4 HR5 hz hy C2 Xz Hpl Hsl;obtain⟨q,hq⟩:=aP (y / 8);obtain⟨m,hm⟩:=aP (y%8);obtain⟨c,hc⟩:∃ c,c=8*m:=⟨_,rfl⟩;have fq:(y:Int).tdiv 8=(q:Int):=by rw[iU (by omega)];omega
    have fqw:J.wrap ((y:Int).tdiv 8)=(q:Int):=by rw[fq,iN];omega
    have fm:(y:Int).tmod 8=(m:Int):=by rw[jB (by omega)];omega
    have fq2:(y:Int) / 8=(q:Int):=by omega
    have fq3:J.wrap (q:Int)=(q:Int):=bB;have fm2:(y:Int)%8=(m:Int):=by omega
    have fc:J.wrap (8*(m:Int))=(c:Int):=bB;have fu:IntKind.u64.wrap (c:Int)=(c:Int):=by rw[kA];omega
    have hc63:c<=63:=by omega
    have hq25:q<25:=by omega
    have hqz:(q:Int)<25:=by omega
    have hy8:y<=168:=by omega
    obtain⟨x,hx⟩:=aP (g xl q);obtain⟨β,hβ⟩:∃ β,x / 2 ^ c%256 = β := ⟨_,rfl⟩;have bβ : β < 256:=hβ ▸ kB _ (by decide);have fz:=xhn x c;rw[hβ]at fz;have Hgb:U (gb xl y = β):=⟨by rw[gb,hq,hm,<-hc,hx,hβ]⟩;have cp1:w8.cell? ⟨w.heap.size+1,26,none⟩=some (O J (y:Int)):=aZ AZ.o.row (gO k _ true HQ.o.len);have cx:w8.cell? ⟨w.heap.size+1,1+q,none⟩=some (O .u64 (x:Int)):=by rw[<-hx];exact aZ AZ.o.row (xcn k _ true HQ.o.len q hq25)
    have hwx:W.heap.size<=w8.heap.size:=AZ.o.size;have Hyr:=D hyr;clear hq hm hc hx hβ hyr h168;refine oC (by kernel_rfl) ?_;change wpAny _ _ _ _ _ _ _ (World.drew _)
    refine zA 0 ?_;refine zA 1 ?_;refine zA 4 ?_;refine zA 7 ?_;refine lJ (rs:=[2,8]) (by kernel_rfl) (by simp) ?_;refine jZ rfl (fun K hK=>?_) (jZ rfl (fun K hK=>?_) lB)
    ·(go_simp;refine hK _ _ ?_;clear hK K)
     refine zA 3 ?_;refine zA 5 ?_;refine lJ (rs:=[6,8]) (by kernel_rfl) (by simp) ?_;refine jZ rfl (fun K hK=>?_) (jZ rfl (fun K hK=>?_) lB)
     ·(go_simp;refine hK _ _ ?_;clear hK K)
      (refine lJ (rs:=[8]) (by kernel_rfl) (by simp) ?_;refine jZ rfl (fun K hK=>?_) lB;go_simp;refine hK _ _ ?_;clear hK K)
      refine zA 9 ?_;refine zA 10 ?_;refine zA 11 ?_;refine zA 12 ?_;refine zA 13 ?_;refine xcj 14 3 (by kernel_rfl) (by kernel_rfl) ?_;simp only[iW,jK];clear cp1 cx fq fqw fm fq2 fq3 fm2 fc fu fz;go_wp2_with (at_builtin;refine kH _ rfl _ _ 57 rfl W.heap.size 5 i0 (O .u8 0) 1 1 Tryz.underlying57 HI.o.1 HI.o.2.1 HI.o.2.2.1 HI.o.2.2.2 rfl (by decide) _ _ _ rfl (OZ.o.drew.alloc _) ⟨w8.heap.size,0,none⟩ 1 1 [O .u8 (β : Int)] rfl rfl xbg (fun u hu=>by simp at hu;subst hu;rfl) (by unfold maxLen;omega) (by omega) (by simp;omega) ?_);intro v' w4 hown' hgrow _;have hb4:aF W.heap.size w8 w4:=((iR W.heap.size w8).drew.alloc hwx _).grown hgrow (by rw[size_alloc];show W.heap.size<=w8.heap.size+1;omega) (fun k hk=>(OZ.o.lt k hk).1);have AY:U (At (w.heap.size+1) (SC k xl (y:Int) true) 164 W w4):=⟨xcr AZ.o hb4 (iM _) Hs1.o⟩;have OY:U (w4.ownsRow W.heap.size 5 1 v' (j+1) (aJ (cP (sq (PP ts rs) r s0 (j+1))))):=⟨by
       rw[Hnx.o.2,Htn.o,Hgb.o,xgf _ _ bβ];exact hown'⟩
      obtain⟨gv',cap',hv'⟩:=xbu OY.o;have AR:U (At (w.heap.size+1) (SC k xl (y:Int) true) 164 w4 w4):=⟨At.refl AY.o.row⟩;have cp2:w4.cell? ⟨w.heap.size+1,26,none⟩=some (O J (y:Int)):=aZ AY.o.row (gO k _ true HQ.o.len);clear hown' hgrow hb4;subst hv';go_wp2_with ((with_reducible refine cU AR rfl _ _ _ rfl rfl ?_);refine⟨_,_,_,rfl,rfl,rfl,(by rw[hz28 _ _ _ HQ.o.len];decide),?_⟩;intro w9 HR9;rw[xbh k _ _ true HQ.o.len]at HR9);have AN:U (At (w.heap.size+1) (SC k (sk (PP ts rs) r s0 (j+1)).l ((sk (PP ts rs) r s0 (j+1)).at':Nat) true) 164 W w9):=⟨by rw[Hnx.o.1,nx,Htn.o];exact AY.o.trans HR9.o⟩;have ON:=D (xb6 OY.o HR9.o Hs1.o);clear HR9 AR cp2 AY OY;go_roundw
      case rel=>exact⟨j+1,by omega,⟨_,_,rfl⟩,ON,AN⟩
      case measure=>simp;omega
     ·(go_simp;refine hK _ _ ?_;clear hK K)
      refine zA 9 ?_;refine zA 10 ?_;refine zA 11 ?_;(refine lJ (rs:=[6]) (by kernel_rfl) (by simp) ?_;refine jZ rfl (fun K hK=>?_) lB;go_simp;refine hK _ _ ?_;clear hK K)
      refine zA 12 ?_;refine zA 13 ?_;refine xcj 14 3 (by kernel_rfl) (by kernel_rfl) ?_;simp only[iW,jK];clear cp1 cx fq fqw fm fq2 fq3 fm2 fc fu fz;go_wp2_with (at_builtin;refine kH _ rfl _ _ 57 rfl W.heap.size 5 i0 (O .u8 0) 1 1 Tryz.underlying57 HI.o.1 HI.o.2.1 HI.o.2.2.1 HI.o.2.2.2 rfl (by decide) _ _ _ rfl (OZ.o.drew.alloc _) ⟨w8.heap.size,0,none⟩ 1 1 [O .u8 (β : Int)] rfl rfl xbg (fun u hu=>by simp at hu;subst hu;rfl) (by unfold maxLen;omega) (by omega) (by simp;omega) ?_);intro v' w4 hown' hgrow _;have hb4:aF W.heap.size w8 w4:=((iR W.heap.size w8).drew.alloc hwx _).grown hgrow (by rw[size_alloc];show W.heap.size<=w8.heap.size+1;omega) (fun k hk=>(OZ.o.lt k hk).1);have AY:U (At (w.heap.size+1) (SC k xl (y:Int) true) 164 W w4):=⟨xcr AZ.o hb4 (iM _) Hs1.o⟩;have OY:U (w4.ownsRow W.heap.size 5 1 v' (j+1) (aJ (cP (sq (PP ts rs) r s0 (j+1))))):=⟨by
       rw[Hnx.o.2,Htn.o,Hgb.o,xgf _ _ bβ];exact hown'⟩
      obtain⟨gv',cap',hv'⟩:=xbu OY.o;have AR:U (At (w.heap.size+1) (SC k xl (y:Int) true) 164 w4 w4):=⟨At.refl AY.o.row⟩;have cp2:w4.cell? ⟨w.heap.size+1,26,none⟩=some (O J (y:Int)):=aZ AY.o.row (gO k _ true HQ.o.len);clear hown' hgrow hb4;subst hv';go_wp2_with ((with_reducible refine cU AR rfl _ _ _ rfl rfl ?_);refine⟨_,_,_,rfl,rfl,rfl,(by rw[hz28 _ _ _ HQ.o.len];decide),?_⟩;intro w9 HR9;rw[xbh k _ _ true HQ.o.len]at HR9);have AN:U (At (w.heap.size+1) (SC k (sk (PP ts rs) r s0 (j+1)).l ((sk (PP ts rs) r s0 (j+1)).at':Nat) true) 164 W w9):=⟨by rw[Hnx.o.1,nx,Htn.o];exact AY.o.trans HR9.o⟩;have ON:=D (xb6 OY.o HR9.o Hs1.o);clear HR9 AR cp2 AY OY;go_roundw
      case rel=>exact⟨j+1,by omega,⟨_,_,rfl⟩,ON,AN⟩
      case measure=>simp;omega
    ·(go_simp;refine hK _ _ ?_;clear hK K)
     refine zA 9 ?_;refine zA 10 ?_;refine zA 11 ?_;(refine lJ (rs:=[2]) (by kernel_rfl) (by simp) ?_;refine jZ rfl (fun K hK=>?_) lB;go_simp;refine hK _ _ ?_;clear hK K)
     refine zA 3 ?_;refine zA 5 ?_;(refine lJ (rs:=[6]) (by kernel_rfl) (by simp) ?_;refine jZ rfl (fun K hK=>?_) lB;go_simp;refine hK _ _ ?_;clear hK K)
     refine zA 12 ?_;refine zA 13 ?_;refine xcj 14 3 (by kernel_rfl) (by kernel_rfl) ?_;simp only[iW,jK];clear cp1 cx fq fqw fm fq2 fq3 fm2 fc fu fz;go_wp2_with (at_builtin;refine kH _ rfl _ _ 57 rfl W.heap.size 5 i0 (O .u8 0) 1 1 Tryz.underlying57 HI.o.1 HI.o.2.1 HI.o.2.2.1 HI.o.2.2.2 rfl (by decide) _ _ _ rfl (OZ.o.drew.alloc _) ⟨w8.heap.size,0,none⟩ 1 1 [O .u8 (β : Int)] rfl rfl xbg (fun u hu=>by simp at hu;subst hu;rfl) (by unfold maxLen;omega) (by omega) (by simp;omega) ?_);intro v' w4 hown' hgrow _;have hb4:aF W.heap.size w8 w4:=((iR W.heap.size w8).drew.alloc hwx _).grown hgrow (by rw[size_alloc];show W.heap.size<=w8.heap.size+1;omega) (fun k hk=>(OZ.o.lt k hk).1);have AY:U (At (w.heap.size+1) (SC k xl (y:Int) true) 164 W w4):=⟨xcr AZ.o hb4 (iM _) Hs1.o⟩;have OY:U (w4.ownsRow W.heap.size 5 1 v' (j+1) (aJ (cP (sq (PP ts rs) r s0 (j+1))))):=⟨by
      rw[Hnx.o.2,Htn.o,Hgb.o,xgf _ _ bβ];exact hown'⟩
     obtain⟨gv',cap',hv'⟩:=xbu OY.o;have AR:U (At (w.heap.size+1) (SC k xl (y:Int) true) 164 w4 w4):=⟨At.refl AY.o.row⟩;have cp2:w4.cell? ⟨w.heap.size+1,26,none⟩=some (O J (y:Int)):=aZ AY.o.row (gO k _ true HQ.o.len);clear hown' hgrow hb4;subst hv';go_wp2_with ((with_reducible refine cU AR rfl _ _ _ rfl rfl ?_);refine⟨_,_,_,rfl,rfl,rfl,(by rw[hz28 _ _ _ HQ.o.len];decide),?_⟩;intro w9 HR9;rw[xbh k _ _ true HQ.o.len]at HR9);have AN:U (At (w.heap.size+1) (SC k (sk (PP ts rs) r s0 (j+1)).l ((sk (PP ts rs) r s0 (j+1)).at':Nat) true) 164 W w9):=⟨by rw[Hnx.o.1,nx,Htn.o];exact AY.o.trans HR9.o⟩;have ON:=D (xb6 OY.o HR9.o Hs1.o);clear HR9 AR cp2 AY OY;go_roundw
     case rel=>exact⟨j+1,by omega,⟨_,_,rfl⟩,ON,AN⟩
     case measure=>simp;omega
   ·have hz:((p:Int)==(r:Int))=false:=jV.2 (by omega);have Htn:U (tn (PP ts rs) r ⟨sl,p⟩=⟨sl,p⟩):=⟨by rw[tn,iQ he]⟩;have hyr:p<r:=by have:=Hp.o;omega
    have HQ:=Hsl;go_wp2_with fail;have AZ:=A0;have OZ:=OWN;clear A0 OWN hz cp0 he Hp Hsl;obtain⟨q,hq⟩:=aP (p / 8);obtain⟨m,hm⟩:=aP (p%8);obtain⟨c,hc⟩:∃ c,c=8*m:=⟨_,rfl⟩;have fq:(p:Int).tdiv 8=(q:Int):=by rw[iU (by omega)];omega
    have fqw:J.wrap ((p:Int).tdiv 8)=(q:Int):=by rw[fq,iN];omega
    have fm:(p:Int).tmod 8=(m:Int):=by rw[jB (by omega)];omega
    have fq2:(p:Int) / 8=(q:Int):=by omega
    have fq3:J.wrap (q:Int)=(q:Int):=bB;have fm2:(p:Int)%8=(m:Int):=by omega
    have fc:J.wrap (8*(m:Int))=(c:Int):=bB;have fu:IntKind.u64.wrap (c:Int)=(c:Int):=by rw[kA];omega
    have hc63:c<=63:=by omega
    have hq25:q<25:=by omega
    have hqz:(q:Int)<25:=by omega
    have hy8:p<=168:=by omega
    obtain⟨x,hx⟩:=aP (g sl q);obtain⟨β,hβ⟩:∃ β,x / 2 ^ c%256 = β := ⟨_,rfl⟩;have bβ : β < 256:=hβ ▸ kB _ (by decide);have fz:=xhn x c;rw[hβ]at fz;have Hgb:U (gb sl p = β):=⟨by rw[gb,hq,hm,<-hc,hx,hβ]⟩;have cp1:wr.cell? ⟨w.heap.size+1,26,none⟩=some (O J (p:Int)):=aZ AZ.o.row (gO k _ true HQ.o.len);have cx:wr.cell? ⟨w.heap.size+1,1+q,none⟩=some (O .u64 (x:Int)):=by rw[<-hx];exact aZ AZ.o.row (xcn k _ true HQ.o.len q hq25)
    have hwx:W.heap.size<=wr.heap.size:=AZ.o.size;have Hyr:=D hyr;clear hq hm hc hx hβ hyr h168;refine oC (by kernel_rfl) ?_;change wpAny _ _ _ _ _ _ _ (World.drew _)
    refine zA 0 ?_;refine zA 1 ?_;refine zA 4 ?_;refine zA 7 ?_;refine lJ (rs:=[2,8]) (by kernel_rfl) (by simp) ?_;refine jZ rfl (fun K hK=>?_) (jZ rfl (fun K hK=>?_) lB)
    ·(go_simp;refine hK _ _ ?_;clear hK K)
     refine zA 3 ?_;refine zA 5 ?_;refine lJ (rs:=[6,8]) (by kernel_rfl) (by simp) ?_;refine jZ rfl (fun K hK=>?_) (jZ rfl (fun K hK=>?_) lB)
     ·(go_simp;refine hK _ _ ?_;clear hK K)
      (refine lJ (rs:=[8]) (by kernel_rfl) (by simp) ?_;refine jZ rfl (fun K hK=>?_) lB;go_simp;refine hK _ _ ?_;clear hK K)
      refine zA 9 ?_;refine zA 10 ?_;refine zA 11 ?_;refine zA 12 ?_;refine zA 13 ?_;refine xcj 14 3 (by kernel_rfl) (by kernel_rfl) ?_;simp only[iW,jK];clear cp1 cx fq fqw fm fq2 fq3 fm2 fc fu fz;go_wp2_with (at_builtin;refine kH _ rfl _ _ 57 rfl W.heap.size 5 i0 (O .u8 0) 1 1 Tryz.underlying57 HI.o.1 HI.o.2.1 HI.o.2.2.1 HI.o.2.2.2 rfl (by decide) _ _ _ rfl (OZ.o.drew.alloc _) ⟨wr.heap.size,0,none⟩ 1 1 [O .u8 (β : Int)] rfl rfl xbg (fun u hu=>by simp at hu;subst hu;rfl) (by unfold maxLen;omega) (by omega) (by simp;omega) ?_);intro v' w4 hown' hgrow _;have hb4:aF W.heap.size wr w4:=((iR W.heap.size wr).drew.alloc hwx _).grown hgrow (by rw[size_alloc];show W.heap.size<=wr.heap.size+1;omega) (fun k hk=>(OZ.o.lt k hk).1);have AY:U (At (w.heap.size+1) (SC k sl (p:Int) true) 164 W w4):=⟨xcr AZ.o hb4 (iM _) Hs1.o⟩;have OY:U (w4.ownsRow W.heap.size 5 1 v' (j+1) (aJ (cP (sq (PP ts rs) r s0 (j+1))))):=⟨by
       rw[Hnx.o.2,Htn.o,Hgb.o,xgf _ _ bβ];exact hown'⟩
      obtain⟨gv',cap',hv'⟩:=xbu OY.o;have AR:U (At (w.heap.size+1) (SC k sl (p:Int) true) 164 w4 w4):=⟨At.refl AY.o.row⟩;have cp2:w4.cell? ⟨w.heap.size+1,26,none⟩=some (O J (p:Int)):=aZ AY.o.row (gO k _ true HQ.o.len);clear hown' hgrow hb4;subst hv';go_wp2_with ((with_reducible refine cU AR rfl _ _ _ rfl rfl ?_);refine⟨_,_,_,rfl,rfl,rfl,(by rw[hz28 _ _ _ HQ.o.len];decide),?_⟩;intro w9 HR9;rw[xbh k _ _ true HQ.o.len]at HR9);have AN:U (At (w.heap.size+1) (SC k (sk (PP ts rs) r s0 (j+1)).l ((sk (PP ts rs) r s0 (j+1)).at':Nat) true) 164 W w9):=⟨by rw[Hnx.o.1,nx,Htn.o];exact AY.o.trans HR9.o⟩;have ON:=D (xb6 OY.o HR9.o Hs1.o);clear HR9 AR cp2 AY OY;go_roundw
      case rel=>exact⟨j+1,by omega,⟨_,_,rfl⟩,ON,AN⟩
      case measure=>simp;omega
     ·(go_simp;refine hK _ _ ?_;clear hK K)
      refine zA 9 ?_;refine zA 10 ?_;refine zA 11 ?_;(refine lJ (rs:=[6]) (by kernel_rfl) (by simp) ?_;refine jZ rfl (fun K hK=>?_) lB;go_simp;refine hK _ _ ?_;clear hK K)
      refine zA 12 ?_;refine zA 13 ?_;refine xcj 14 3 (by kernel_rfl) (by kernel_rfl) ?_;simp only[iW,jK];clear cp1 cx fq fqw fm fq2 fq3 fm2 fc fu fz;go_wp2_with (at_builtin;refine kH _ rfl _ _ 57 rfl W.heap.size 5 i0 (O .u8 0) 1 1 Tryz.underlying57 HI.o.1 HI.o.2.1 HI.o.2.2.1 HI.o.2.2.2 rfl (by decide) _ _ _ rfl (OZ.o.drew.alloc _) ⟨wr.heap.size,0,none⟩ 1 1 [O .u8 (β : Int)] rfl rfl xbg (fun u hu=>by simp at hu;subst hu;rfl) (by unfold maxLen;omega) (by omega) (by simp;omega) ?_);intro v' w4 hown' hgrow _;have hb4:aF W.heap.size wr w4:=((iR W.heap.size wr).drew.alloc hwx _).grown hgrow (by rw[size_alloc];show W.heap.size<=wr.heap.size+1;omega) (fun k hk=>(OZ.o.lt k hk).1);have AY:U (At (w.heap.size+1) (SC k sl (p:Int) true) 164 W w4):=⟨xcr AZ.o hb4 (iM _) Hs1.o⟩;have OY:U (w4.ownsRow W.heap.size 5 1 v' (j+1) (aJ (cP (sq (PP ts rs) r s0 (j+1))))):=⟨by
       rw[Hnx.o.2,Htn.o,Hgb.o,xgf _ _ bβ];exact hown'⟩
      obtain⟨gv',cap',hv'⟩:=xbu OY.o;have AR:U (At (w.heap.size+1) (SC k sl (p:Int) true) 164 w4 w4):=⟨At.refl AY.o.row⟩;have cp2:w4.cell? ⟨w.heap.size+1,26,none⟩=some (O J (p:Int)):=aZ AY.o.row (gO k _ true HQ.o.len);clear hown' hgrow hb4;subst hv';go_wp2_with ((with_reducible refine cU AR rfl _ _ _ rfl rfl ?_);refine⟨_,_,_,rfl,rfl,rfl,(by rw[hz28 _ _ _ HQ.o.len];decide),?_⟩;intro w9 HR9;rw[xbh k _ _ true HQ.o.len]at HR9);have AN:U (At (w.heap.size+1) (SC k (sk (PP ts rs) r s0 (j+1)).l ((sk (PP ts rs) r s0 (j+1)).at':Nat) true) 164 W w9):=⟨by rw[Hnx.o.1,nx,Htn.o];exact AY.o.trans HR9.o⟩;have ON:=D (xb6 OY.o HR9.o Hs1.o);clear HR9 AR cp2 AY OY;go_roundw
      case rel=>exact⟨j+1,by omega,⟨_,_,rfl⟩,ON,AN⟩
      case measure=>simp;omega
    ·(go_simp;refine hK _ _ ?_;clear hK K)
     refine zA 9 ?_;refine zA 10 ?_;refine zA 11 ?_;(refine lJ (rs:=[2]) (by kernel_rfl) (by simp) ?_;refine jZ rfl (fun K hK=>?_) lB;go_simp;refine hK _ _ ?_;clear hK K)
     refine zA 3 ?_;refine zA 5 ?_;(refine lJ (rs:=[6]) (by kernel_rfl) (by simp) ?_;refine jZ rfl (fun K hK=>?_) lB;go_simp;refine hK _ _ ?_;clear hK K)
     refine zA 12 ?_;refine zA 13 ?_;refine xcj 14 3 (by kernel_rfl) (by kernel_rfl) ?_;simp only[iW,jK];clear cp1 cx fq fqw fm fq2 fq3 fm2 fc fu fz;go_wp2_with (at_builtin;refine kH _ rfl _ _ 57 rfl W.heap.size 5 i0 (O .u8 0) 1 1 Tryz.underlying57 HI.o.1 HI.o.2.1 HI.o.2.2.1 HI.o.2.2.2 rfl (by decide) _ _ _ rfl (OZ.o.drew.alloc _) ⟨wr.heap.size,0,none⟩ 1 1 [O .u8 (β : Int)] rfl rfl xbg (fun u hu=>by simp at hu;subst hu;rfl) (by unfold maxLen;omega) (by omega) (by simp;omega) ?_);intro v' w4 hown' hgrow _;have hb4:aF W.heap.size wr w4:=((iR W.heap.size wr).drew.alloc hwx _).grown hgrow (by rw[size_alloc];show W.heap.size<=wr.heap.size+1;omega) (fun k hk=>(OZ.o.lt k hk).1);have AY:U (At (w.heap.size+1) (SC k sl (p:Int) true) 164 W w4):=⟨xcr AZ.o hb4 (iM _) Hs1.o⟩;have OY:U (w4.ownsRow W.heap.size 5 1 v' (j+1) (aJ (cP (sq (PP ts rs) r s0 (j+1))))):=⟨by
      rw[Hnx.o.2,Htn.o,Hgb.o,xgf _ _ bβ];exact hown'⟩
     obtain⟨gv',cap',hv'⟩:=xbu OY.o;have AR:U (At (w.heap.size+1) (SC k sl (p:Int) true) 164 w4 w4):=⟨At.refl AY.o.row⟩;have cp2:w4.cell? ⟨w.heap.size+1,26,none⟩=some (O J (p:Int)):=aZ AY.o.row (gO k _ true HQ.o.len);clear hown' hgrow hb4;subst hv';go_wp2_with ((with_reducible refine cU AR rfl _ _ _ rfl rfl ?_);refine⟨_,_,_,rfl,rfl,rfl,(by rw[hz28 _ _ _ HQ.o.len];decide),?_⟩;intro w9 HR9;rw[xbh k _ _ true HQ.o.len]at HR9);have AN:U (At (w.heap.size+1) (SC k (sk (PP ts rs) r s0 (j+1)).l ((sk (PP ts rs) r s0 (j+1)).at':Nat) true) 164 W w9):=⟨by rw[Hnx.o.1,nx,Htn.o];exact AY.o.trans HR9.o⟩;have ON:=D (xb6 OY.o HR9.o Hs1.o);clear HR9 AR cp2 AY OY;go_roundw
     case rel=>exact⟨j+1,by omega,⟨_,_,rfl⟩,ON,AN⟩
     case measure=>simp;omega
  ·obtain rfl:j=n:=by omega
   have hel:=Hel.o;rw[HE.o,HF.o]at A0;have Fi:U ((aO.info? 164).map (·.size)=some F.size):=⟨by rw[<-HF.o];exact xdj k _ _ hel⟩;have Fo:U (F.all (·.oneCell')=true):=⟨by rw[<-HF.o];exact xef k Eq.l _ _⟩;have Fz:U ((SC 0 z 0 false).size=F.size):=⟨by rw[<-HF.o];exact xmp _ _ _ _ _ _ HZl.o hel⟩;have hbl:=Hbl.o;rw[Hbs.o]at OWN;have Hcv:=D (xep hbl OWN.o);have Hres:U (wr.heap[w.heap.size+2]? = some (Y (SC 0 z 0 false) 164 (0,0))):=⟨A0.o.other (by have:=HWs.o;omega) (by omega) B2.o⟩;have Hrow:=D A0.o.row;have Hb5:U (zb w wr):=⟨HWb.o.trans (A0.o.below (by have:=HWs.o;omega) (by omega))⟩;have Hcv2:U ((convert 57 9 (aB (some ⟨gv,0,none⟩) j cap)).run aO (wr.drew.setRow (w.heap.size+2) F)=.ok (E ⟨bs.toArray⟩) (wr.drew.setRow (w.heap.size+2) F)):=
    ⟨xep hbl (xb6 OWN.o (xs2 (C':=F) (At.refl Hres.o)) (by have:=HWs.o;omega))⟩
   clear A0 OWN hj hlt hel hbl;go_wp2_with fail;have hcv:=Hcv.o;refine oC (by kernel_rfl) ?_;change wpAny _ _ _ _ _ _ _ (World.drew _)
   refine zA 1 ?_;refine lJ (rs:=[0,2]) (by kernel_rfl) (by simp) ?_;refine jZ rfl (fun K hK=>?_) (jZ rfl (fun K hK=>?_) lB)
   ·(refine xlv (by rfl) ?_;refine nC 164 _ rfl (w.heap.size+1) rfl 164 F (0,0) _ Hrow.o Tryz.underlying164 rfl Fi.o (hK _ _ ?_);clear hK K)
    refine lJ (rs:=[2,3]) (by kernel_rfl) (by simp) ?_;refine jZ rfl (fun K hK=>?_) (jZ rfl (fun K hK=>?_) lB)
    ·(go_simp;refine hK _ _ ?_;clear hK K)
     refine xcj 3 3 (by kernel_rfl) (by kernel_rfl) ?_;simp only[iW,jK];refine iS rfl 164 _ _ rfl (w.heap.size+2) F rfl rfl 164 _ Hres.o Fi.o Fz.o Fo.o ?_;go_wp2_with fail;refine iV (v:=aA #[I F,E ⟨bs.toArray⟩,O J 0]) (eZ.xme rfl _ _ (w.heap.size+2) 164 _ (0,0) _ rfl (jD wr.drew _ _ _ _ _ Hres.o) Tryz.underlying164 rfl Fi.o _ _ rfl rfl) rfl ?_;exact⟨rfl,Hb5.o.drew.trans (below_setRow _ _ _ (by omega))⟩
    ·(refine xlv (by rfl) ?_;refine wp_store_row 164 _ _ rfl (w.heap.size+2) F rfl rfl 164 _ Hres.o Fi.o Fz.o Fo.o (hK _ _ ?_);clear hK K)
     have hcv2:=Hcv2.o;refine lJ (rs:=[2]) (by kernel_rfl) (by simp) ?_;refine jZ rfl (fun K hK=>?_) lB;(go_simp;refine hK _ _ ?_;clear hK K)
     refine xcj 4 2 (by kernel_rfl) (by kernel_rfl) ?_;simp only[iW,jK];go_wp2_with fail;refine iV (v:=aA #[I F,E ⟨bs.toArray⟩,O J 0]) (eZ.xme rfl _ _ (w.heap.size+2) 164 _ (0,0) _ rfl (jD wr.drew _ _ _ _ _ Hres.o) Tryz.underlying164 rfl Fi.o _ _ rfl rfl) rfl ?_;exact⟨rfl,Hb5.o.drew.trans (below_setRow _ _ _ (by omega))⟩
   ·(go_simp;refine hK _ _ ?_;clear hK K)
    refine lJ (rs:=[0]) (by kernel_rfl) (by simp) ?_;refine jZ rfl (fun K hK=>?_) lB;(refine xlv (by rfl) ?_;refine nC 164 _ rfl (w.heap.size+1) rfl 164 F (0,0) _ Hrow.o Tryz.underlying164 rfl Fi.o (hK _ _ ?_);clear hK K)
    refine xcj 3 3 (by kernel_rfl) (by kernel_rfl) ?_;simp only[iW,jK];refine iS rfl 164 _ _ rfl (w.heap.size+2) F rfl rfl 164 _ Hres.o Fi.o Fz.o Fo.o ?_;go_wp2_with fail;refine iV (v:=aA #[I F,E ⟨bs.toArray⟩,O J 0]) (eZ.xme rfl _ _ (w.heap.size+2) 164 _ (0,0) _ rfl (jD wr.drew _ _ _ _ _ Hres.o) Tryz.underlying164 rfl Fi.o _ _ rfl rfl) rfl ?_;exact⟨rfl,Hb5.o.drew.trans (below_setRow _ _ _ (by omega))⟩
end rspg
end Go.Proofs.YtomphjajkkddkaaGreatDoor
