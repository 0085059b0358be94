/-
  Plain facts on what an argument that is an array looks like when it can be read as data: each elemen
-/
import Derived.Test.YtomphjajkkddkaaGreatDoorProg
import Derived.Test.YtomphjajkkddkaaGreatDoorZs01
import Derived.ProofKit
import Derived.OpenShut
import Derived.ShutString
import Derived.Carry
import Derived.SizedLaws
import Derived.Laws.StructEq
import Derived.ChangeKeysEq
import Derived.StillTailTactics
import Derived.BigQuiet
import Derived.OwnWalk
import Derived.Lib.ConvBytes
import Derived.Great.BuildSlice
import Derived.Deep.MidRow
import Derived.OrdersHeld
import Derived.Lib.Strings
import Derived.Maps.AppendAt
set_option maxRecDepth 100000
set_option maxHeartbeats 16000000
set_option linter.unusedSimpArgs false
set_option linter.unusedVariables false
open Go Go.RowKit
open Go renaming World->G,Value->aE,TypeId->aH,Program->aI
open Go.RowKit renaming Below->aF
open Go.Region renaming ready->aK,wanted->aL
open Go.Instr renaming index->aN
open Go.Proofs.Tryz renaming prog->aO
namespace Go.Proofs.YtomphjajkkddkaaGreatDoor
abbrev kU:=@Go.IntKind.wrap_u8
namespace opens
open Go Go.ChangeShapes Go.WideShapes Go.ChangeAt Go.RowKit
section
variable {H:Type} {enc:aH × aE->H} {P:aI} {w:G} {base:Nat} {spare held:Bool}
theorem xwb{r:Reach}{t e:aH}{n:Nat}{v:aE}(ht:P.underlying t=some (.array n e))(h:Value.okWide P w r base t v):∃ cs,v=.agg cs/\cs.size=P.cellsOf t:=by
 simp only[Value.okWide,ht]at h;obtain⟨cs,h1,h2,_⟩:=h;exact⟨cs,h1,h2⟩
theorem xwf{r:Reach}{b0 b1:Nat}{sp:Nat->Bool}{hd:Bool}{t e:aH}{n:Nat}{v:aE}{d:DataW H}{p:List MemPlace}(ht:P.underlying t=some (.array n e))(hc:P.cellsOf t=n)(he:P.cellsOf e=1)
 (hv:Value.okWide P w r b0 t v) (h:DataW.Trod enc P w b1 sp hd t v d p):
 ∃ (cs:Array aE) (m:Nat) (xs:List (DataW H × List MemPlace)),v=.agg cs/\cs.size=n/\xs.length=n/\d=.agg (xs.map (·.1))/\p=xs.flatMap (·.2)/\∀ i (hi:i<cs.size),DataW.trod enc P w b1 sp hd m e [cs[i]]=xs[i]? := by
 obtain⟨cs,rfl,hsz⟩:=xwb ht hv;rw[hc]at hsz;obtain⟨fuel,hf⟩:=h;obtain⟨xs,m,-,hx,-,hxs,hg⟩:=DataW.trod_array ht hf;simp only[Prod.mk.injEq]at hx;refine⟨cs,m,xs,rfl,hsz,hxs,hx.1,hx.2,fun i hi=>?_⟩;have:=hg i (by omega);rw[he,oA]at this;rw[<-this];congr 1
 simp only[Value.cells];rw[nA (by simpa using hi),jH,jU];simp
end
end opens
namespace eqa
open arr
def dY(xs:Array aE)(i:Nat):Int:=match xs[i]? with
 | some (.int _ a)=>a
 | _=>0
def Nums(k:IntKind)(xs:Array aE)(o n:Nat):Prop:=∀ i,i<n->∃ a,xs[o+i]? = some (.int k a)
section
variable {P:aI}
theorem xhi(w:G){e:aH}{k:IntKind}(he:P.underlying e=some (.int k)){xs:Array aE}{i:Nat}{v:aE}(hx:xs[i]? = some v):(part e xs i).run P w=.ok v w:=by
 have h:(isAgg e).run P w=.ok false w:=by
  unfold isAgg;rw[lQ,run_underlying he w];simp
 unfold part;simp[lQ,h,hx]
theorem xhh(w:G)(d:Nat){e:aH}{k:IntKind}(he:P.underlying e=some (.int k))(xs ys:Array aE):∀ is:List Nat,(∀ i∈is,∃ a,xs[i]? = some (.int k a))->(∀ i∈is,∃ a,ys[i]? = some (.int k a)) ->
 (Op.eqItems (d+1) e 1 xs ys is).run P w=.ok (is.all fun i=>dY xs i==dY ys i) w
 | [],_,_=>by simp[Op.eqItems]
 | i :: is,hx,hy=>by
  obtain⟨a,ha⟩:=hx i (by simp);obtain⟨b,hb⟩:=hy i (by simp);have ih:=xhh w d he xs ys is (fun j hj=>hx j (by simp[hj])) (fun j hj=>hy j (by simp[hj]));have e1:dY xs i=a:=by simp[dY,ha]
  have e2:dY ys i=b:=by simp[dY,hb]
  simp only[Op.eqItems,oA,lQ,xhi w he ha,xhi w he hb,kQ,run_equalIn_int w d e k k a b he,List.all_cons,e1,e2];cases hab:(a==b)
  ·simp
  ·simpa using ih
theorem xq5(w:G)(d:Nat){t e:aH}{n:Nat}{k:IntKind}{i:TypeInfo}(ht:P.underlying t=some (.array n e))(hi:P.info? e=some i)(hc:P.cellsOf e=1)(he:P.underlying e=some (.int k))(xs ys:Array aE)
 (hx:Nums k xs 0 n) (hy:Nums k ys 0 n):(Op.equalIn (d+2) t (.agg xs) (.agg ys)).run P w=.ok ((List.range n).all fun i=>dY xs i==dY ys i) w:=by
 rw[run_equalIn_array w (d+1) xs ys ht hi,hc];exact xhh w d he xs ys _ (fun j hj=>by have:=hx j (by simpa using hj);rwa [kP]at this) (fun j hj=>by have:=hy j (by simpa using hj);rwa [kP]at this)
end
theorem xoq{P:aI}{e:aH}{s:Nat}(h:(P.info? e).map (·.size)=some s):∃ i,P.info? e=some i:=by
 cases hq:P.info? e with
 | none=>rw[hq]at h;cases h
 | some i=>exact⟨i,rfl⟩
end eqa
namespace bD
open arr mem
theorem gZ{P:aI}{id:Nat}{Q:Exit->Act->G->Prop}{a:Act}{w:G}{l:List Oper}(n:Nat)(hm:P.follows .mixedOrders=true)(hB:Region.lexTailB .any l.toArray n=true)
 (h:wpStill P l.toArray w.drew (fun a'=>wpList P l.toArray Q (l.drop n) a' w.drew) (l.take n) a):(Code.region id l.toArray true).wp P Q a w:=wp_region_still_tail n hm hB h
theorem xav{P:aI}{id:Nat}{Q:Exit->Act->G->Prop}{a:Act}{w:G}{l:List Oper}(hm:P.follows .mixedOrders=true)(hB:Region.lexB .any l.toArray=true)
 (h:wpStill P l.toArray w.drew (fun a'=>Q .normal a' w.drew) l a):(Code.region id l.toArray true).wp P Q a w:=wp_region_still_lit hm hB h
theorem xcz{g:Nat}{C:Array aE}{t:aH}{w w':G}(h:At g C t w w')(o:Nat)(v:aE):At g (C.setIfInBounds o v) t w (w'.setCell ⟨g,o,none⟩ v):=
 ⟨h.os,h.tape,h.output,by rw[size_setCell];exact h.size,heap_setCell h.row o v,fun k hk hg=>(Below.heap_setCell w' ⟨g,o,none⟩ v k hg).trans (h.block k hk hg)⟩
theorem eN{g:Nat}{C:Array aE}{t:aH}{w w':G}(h:At g C t w w'):At g C t w w'.drew:=⟨h.os,h.tape,h.output,h.size,h.row,h.block⟩
theorem xmo{P:aI}(w:G)(g n:Nat)(t ty:aH)(C:Array aE)(v:aE)(hg:w.heap[g]? = some (.cells C t (0,0)))(hi:(P.info? ty).map (·.size)=some 1)(h1:v.oneCell'=true)(hn:n<C.size):
 (storeVar ty ⟨g,n,none⟩ v).run P w=.ok () (w.setCell ⟨g,n,none⟩ v):=by
 have hc:v.cells=#[v]:=by cases v<;>first | rfl | cases h1
 cases hq:P.info? ty with
 | none=>simp[hq]at hi
 | some i=>
  have hs:i.size=1:=by simpa [hq] using hi
  have hadd:(⟨g,n,none⟩:Addr).add 0=⟨g,n,none⟩:=by unfold Addr.add;split<;>simp_all
  have hst:(store (⟨g,n,none⟩:Addr) v).run P w=.ok () (w.setCell ⟨g,n,none⟩ v):=by
   rw[run_store P w _ v _ h1,cell_of_row w g n C t (0,0) hg,frozen_of_row w g n C t hg,kC hn];rfl
  simp[storeVar,sizeOf,typeInfo,hq,hc,hs,storeCells,hadd,hst]
theorem xhy{P:aI}{ops:Array Oper}{Q:Exit->Act->G->Prop}{rest:List Oper}{o:Oper}{a:Act}{w0 w:G}{g:Nat}{C:Array aE}{t:aH}(H:U (At g C t w0 w))(hgd:o.guard=none)(ty:aH)(x y:Operand)(ho:o.op=.store ty x y)
 (n:Nat) (v:aE) (hx:a.eval x=.pointer (some ⟨g,n,none⟩)) (hy:a.eval y=v) (hi:(P.info? ty).map (·.size)=some 1) (h1:v.oneCell'=true) (hn:n<C.size) (hd:o.dst=none)
 (h:∀ w',U (At g (C.setIfInBounds n v) t w0 w')->wpList P ops Q rest a w'):wpList P ops Q (o :: rest) a w:=
 wpList_plain hgd fun K hK=>by
  unfold Oper.wp execOp;simp only[ho,hx,hy,Instr.storeAt,Instr.sureAddr,lQ,mR,kQ,xmo w g n t ty C v H.o.row hi h1 hn];have h2:=hK _ _ (h _ ⟨xcz H.o n v⟩);show K (a.put o.dst undef) _;rw[hd];exact h2
theorem cU{P:aI}{ops:Array Oper}{Q:Exit->Act->G->Prop}{rest:List Oper}{o:Oper}{a:Act}{w0 w:G}{g:Nat}{C:Array aE}{t:aH}(H:U (At g C t w0 w))(hgd:o.guard=none)(ty:aH)(x y:Operand)(ho:o.op=.store ty x y)(hd:o.dst=none)
 (h:∃ n k z,a.eval x=.pointer (some ⟨g,n,none⟩)/\a.eval y=.int k z/\(P.info? ty).map (·.size)=some 1/\n<C.size/\∀ w',U (At g (C.setIfInBounds n (.int k z)) t w0 w')->wpList P ops Q rest a w'):wpList P ops Q (o :: rest) a w:=by
 obtain⟨n,k,z,h1,h2,h3,h5,h6⟩:=h;exact xhy H hgd ty x y ho n _ h1 h2 h3 rfl h5 hd h6
end bD
namespace aT
open Go Go.ChangeShapes Go.WideShapes Go.ChangeAt Go.RowKit
open arr mem eqa
def FL(k:IntKind)(n:Nat)(h:Nat->Int):Array aE:=((List.range n).map fun i=>Value.int k (h i)).toArray
theorem cC(k:IntKind)(n:Nat)(h:Nat->Int):(FL k n h).size=n:=by simp[FL]
theorem xba(k:IntKind)(n:Nat)(h:Nat->Int)(i:Nat)(hi:i<n):(FL k n h)[i]? = some (.int k (h i)):=by
 simp[FL,hi]
theorem xbj(k:IntKind)(n:Nat)(h:Nat->Int):(FL k n h).all (·.oneCell')=true:=by
 rw[kM];intro v hv;simp only[FL,List.mem_toArray,nY]at hv;obtain⟨i,-,rfl⟩:=hv;rfl
theorem xc1(k:IntKind)(n:Nat){h h':Nat->Int}(e:∀ i,i<n->h i=h' i):FL k n h=FL k n h':=by
 unfold FL;congr 1
 exact List.map_congr_left fun i hi=>by rw[e i (lV.1 hi)]
def upd(h:Nat->Int)(i:Nat)(v:Int):Nat->Int:=fun j=>if j=i then v else h j
theorem eV(k:IntKind)(n:Nat)(h:Nat->Int)(i:Nat)(v:Int):(FL k n h).setIfInBounds i (.int k v)=FL k n (upd h i v):=by
 apply Array.ext
 ·rw[nD,cC,cC]
 ·intro j h1 h2;have hj:j<n:=by rw[cC]at h2;exact h2
  have e1:((FL k n h).setIfInBounds i (.int k v))[j]? = (FL k n (upd h i v))[j]? := by
   rw[Array.getElem?_setIfInBounds,xba k n (upd h i v) j hj,cC];unfold upd;by_cases e:i=j
   ·subst e;rw[iP rfl,iP hj,iP rfl]
   ·rw[iQ e,iQ (Ne.symm e),xba k n h j hj]
  rw[kC h1,kC h2]at e1;exact kF e1
theorem fZ{k:IntKind}{n:Nat}{h:Nat->Int}{w:G}{g:Nat}{t:aH}(hw:w.heap[g]? = some (.cells (FL k n h) t (0,0)))(i:Nat)(hi:i<n):w.cell? ⟨g,i,none⟩=some (.int k (h i)):=aZ hw (xba k n h i hi)
def pt(f d:Nat->Int)(m:Nat):Nat->Int:=fun i=>if i<m then f i else d i
theorem xbf(f d:Nat->Int):pt f d 0=d:=by funext i;unfold pt;rw[iQ (by omega)]
theorem xa1(f d:Nat->Int)(m:Nat)(v:Int)(hv:v=f m):upd (pt f d m) m v=pt f d (m+1):=by
 subst hv;funext j
 unfold upd pt;by_cases h:j=m
 ·subst h;rw[iP rfl,iP (by omega)]
 ·rw[iQ h];by_cases h2:j<m
  ·rw[iP h2,iP (by omega)]
  ·rw[iQ h2,iQ (by omega)]
theorem xc5(f d:Nat->Int)(m:Nat):pt f d m m=d m:=by unfold pt;rw[iQ (by omega)]
theorem xbc(k:IntKind)(n:Nat)(f d:Nat->Int):FL k n (pt f d n)=FL k n f:=xc1 k n fun i hi=>by unfold pt;rw[iP hi]
theorem xpr(k:IntKind)(n:Nat)(h:Nat->Int):Nums k (FL k n h) 0 n:=fun i hi=>⟨_,by rw[kP];exact xba k n h i hi⟩
theorem xiq(k:IntKind)(n:Nat)(h:Nat->Int)(i:Nat)(hi:i<n):dY (FL k n h) i=h i:=by unfold dY;rw[xba k n h i hi]
theorem eq_fl{P:aI}{t e:aH}{n:Nat}{k:IntKind}(ht:P.underlying t=some (.array n e))(hi:(P.info? e).map (·.size)=some 1)(hc:P.cellsOf e=1)(he:P.underlying e=some (.int k))(x y:Nat->Int)(w:G):
 (binOp .eql t (.agg (FL k n x)) (.agg (FL k n y))).run P w=.ok (.bool (decide (∀ i,i<n->x i=y i))) w:=by
 obtain⟨i0,h0⟩:=xoq hi;rw[run_eql_struct,xq5 w 9998 ht h0 hc he _ _ (xpr k n x) (xpr k n y)];simp only[kQ];congr 2
 apply Bool.eq_iff_iff.2;rw[lN,decide_eq_true_iff];constructor
 ·intro h i hi;have:=h i (lV.2 hi);rw[xiq _ _ _ _ hi,xiq _ _ _ _ hi,lL]at this;exact this
 ·intro h i hi;rw[xiq _ _ _ _ (lV.1 hi),xiq _ _ _ _ (lV.1 hi),h i (lV.1 hi)];exact beq_self_eq_true _
section
variable {H:Type} {enc:aH × aE->H} {P:aI} {w:G}
end
end aT
section
open Go Go.RowKit arr aT
abbrev zX:=Tryz.underlying76
abbrev zY:=Tryz.underlying34
abbrev zZ:=Tryz.underlying37
theorem dP{k:IntKind}{n:Nat}{f:Nat->Int}{A:Array aE}(H:U (FL k n f=A)):U (A.size=n):=⟨by rw[<-H.o];exact cC _ _ _⟩
theorem eE{k:IntKind}{n:Nat}{f:Nat->Int}{A:Array aE}{M:Option Nat}(H:U (FL k n f=A))(h:M=some n):U (M=some A.size):=⟨by rw[<-H.o,cC];exact h⟩
theorem eJ{k:IntKind}{n:Nat}{f:Nat->Int}{A:Array aE}(H:U (FL k n f=A)):U (A.all (·.oneCell')=true):=⟨by rw[<-H.o];exact xbj _ _ _⟩
theorem gJ{k:IntKind}{n:Nat}{f:Nat->Int}{A z:Array aE}(s:U (z.size=n))(H:U (FL k n f=A)):U (z.size=A.size):=⟨by rw[s.o,<-H.o,cC]⟩
theorem zfi{k:IntKind}{n:Nat}{f:Nat->Int}{A:Array aE}{M:Option Nat}(H:U (FL k n f=A))(h:M=some n):U (M=some A.toList.length):=⟨by rw[jM,<-H.o,cC];exact h⟩
end
namespace bE
theorem xm0(x m:Int)(hm : 0<m):(0<=x.tmod m/\x.tmod m=x%m)\/(x.tmod m<0/\x.tmod m+m=x%m):=by
 by_cases hx : 0<=x
 ·left;rw[jB hx];exact⟨lK _ (by omega),rfl⟩
 ·have e:x.tmod m = -((-x)%m):=by
   rw[show x = -(-x) by omega,Int.neg_tmod,jB (by omega),Int.neg_neg]
  by_cases h0:(-x)%m=0
  ·left;rw[e,h0];refine⟨by omega,?_⟩;have h1:m ∣ -x:=Int.dvd_of_emod_eq_zero h0;have h2:m ∣ x:=by have:=Int.dvd_neg.2 h1;rwa [Int.neg_neg]at this
   rw[Int.emod_eq_zero_of_dvd h2];rfl
  ·right;have h1:=lK (-x) (show m≠0 by omega);refine⟨by omega,?_⟩;rw[e];clear e;have h2:=kX (-x) hm;have h3:=Int.emod_add_mul_ediv (-x) m;generalize (-x)%m=r at h0 h1 h2 h3 ⊢;generalize (-x) / m=k at h3;have h6:m*(-k-1) = -(m*k)-m:=by rw[Int.mul_sub,Int.mul_neg,Int.mul_one]
   have h4:x=(-r+m)+m*(-k-1):=by rw[h6];omega
   have h5:x%m=(-r+m)%m:=by
    rw[h4];exact Int.add_mul_emod_self_left _ _ _
   rw[h5,Int.emod_eq_of_lt (by omega) (by omega)]
def ce(m x:Int):Int:=if m<1\/1125899906842624<m then 0 else if m / 2<x%m then x%m-m else x%m
theorem xko(x:Int) : -4190208<=ce 8380417 x/\ce 8380417 x<=4190208:=by
 unfold ce;rw[iQ (by omega)];split<;>omega
def cb(h:Nat->Int):Nat->Int
 | 0=>0
 | n+1=>max (cb h n) (max (ce 8380417 (h n)) (-(ce 8380417 (h n))))
theorem xh9(h:Nat->Int)(n:Nat) : 0<=cb h n/\cb h n<=4190208:=by
 induction n with
 | zero=>exact⟨Int.le_refl 0,(by decide:(0:Int)<=4190208)⟩
 | succ n ih=>have:=xko (h n);rw[cb];omega
def eW(p:Nat->Nat->Int):Nat->Int
 | 0=>0
 | m+1=>max (eW p m) (cb (p m) 256)
theorem xn4(p:Nat->Nat->Int)(m:Nat) : 0<=eW p m/\eW p m<=4190208:=by
 induction m with
 | zero=>exact⟨Int.le_refl 0,(by decide:(0:Int)<=4190208)⟩
 | succ n ih=>have:=xh9 (p n) 256;rw[eW];omega
end bE
namespace bF
open bE
def okg(g:Int):Bool:=g==95232 || g==261888
theorem xlz{g:Int}(h:okg g=true):g=95232\/g=261888:=by
 unfold okg at h;simpa using h
def pl(g x:Int):Int:=ce (2*g) (x%8380417)
def cD(g x:Int):Int:=if okg g=true then (if x%8380417-pl g x=8380416 then 0 else (x%8380417-pl g x) / (2*g)) else 0
def lw(g x:Int):Int:=if okg g=true then (if x%8380417-pl g x=8380416 then pl g x-1 else pl g x) else 0
theorem xbr(m r:Int)(h1 : 1<=m)(h2:m<=1125899906842624):ce m r=if m / 2<r%m then r%m-m else r%m:=by
 unfold ce;rw[iQ (by omega)]
theorem xl9(x:Int) : -95232<pl 95232 x/\pl 95232 x<=95232/\pl 95232 x<=x%8380417/\(x%8380417-pl 95232 x)%190464=0:=by
 unfold pl;rw[xbr _ _ (by decide) (by decide)];split<;>omega
theorem xl8(x:Int) : -261888<pl 261888 x/\pl 261888 x<=261888/\pl 261888 x<=x%8380417/\(x%8380417-pl 261888 x)%523776=0:=by
 unfold pl;rw[xbr _ _ (by decide) (by decide)];split<;>omega
theorem xol{g:Int}(h:okg g=false)(x:Int):cD g x=0:=by unfold cD;rw[iQ (by rw[h];decide)]
theorem xo4{g:Int}(h:okg g=false)(x:Int):lw g x=0:=by unfold lw;rw[iQ (by rw[h];decide)]
theorem xb5:okg 95232=true:=by decide
theorem xcg:okg 261888=true:=by decide
theorem xeb(x:Int) : 0<=cD 95232 x/\cD 95232 x<44 /\ -95232<=lw 95232 x/\lw 95232 x<=95232/\(cD 95232 x*190464+lw 95232 x)%8380417=x%8380417:=by
 have h:=xl9 x;unfold cD lw;rw[iP xb5,iP xb5];split<;>omega
theorem xea(x:Int) : 0<=cD 261888 x/\cD 261888 x<16 /\ -261888<=lw 261888 x/\lw 261888 x<=261888/\(cD 261888 x*523776+lw 261888 x)%8380417=x%8380417:=by
 have h:=xl8 x;unfold cD lw;rw[iP xcg,iP xcg];split<;>omega
def sl(x:Int):Int:=ce 8192 (x%8380417)
def sh(x:Int):Int:=(x%8380417-sl x) / 8192
theorem xmu(x:Int) : -4096<sl x/\sl x<=4096/\sl x<=x%8380417/\(x%8380417-sl x)%8192=0:=by
 unfold sl;rw[xbr _ _ (by decide) (by decide)];split<;>omega
theorem xjs(x:Int) : 0<=sh x/\sh x<=1023/\(sh x*8192+sl x)%8380417=x%8380417:=by
 have h:=xmu x;unfold sh;omega
theorem xkn(l:Int)(h1 : -4190208<=l)(h2:l<=4190208):ce 8380417 (l%8380417)=l:=by
 rw[xbr _ _ (by decide) (by decide)];split<;>omega
def us(g h x:Int):Int:=if okg g=true then (if h=0 then cD g x else if 0<lw g x then (cD g x+1)%(8380416 / (2*g)) else (cD g x+8380416 / (2*g)-1)%(8380416 / (2*g))) else 0
def hn(g z x:Int):Int:=if cD g x=cD g ((x+z)%8380417) then 0 else 1
def upto(n m:Int):Bool:=decide (1<=n) && decide (n<=m)
def bP(k l e t a b o s:Int):Bool:=
 upto k 8 && upto l 8 && upto t 64 && upto o 100 && (e==2 || e==4) && (a==131072 || a==524288) && okg b && (s==128 || s==192 || s==256)
def set1:Array aE:=(bO 4 4 2 39 131072 95232 80 128)
def set2:Array aE:=(bO 6 5 4 49 524288 261888 55 192)
def set3:Array aE:=(bO 8 7 2 60 524288 261888 75 256)
def iJ:Array aE:=(bO 1 1 2 20 131072 95232 60 128)
def set0:Array aE:=(bO 0 0 0 0 0 0 0 0)
end bF
namespace dZ
def pk(w:Nat):List Nat->Nat
 | []=>0
 | x :: l=>x+2 ^ w*pk w l
def nb(w:Nat):Nat->Nat->List Nat
 | 0,_=>[]
 | n+1,N=>N%2 ^ w :: nb w n (N / 2 ^ w)
theorem xcf(w n N:Nat):(nb w n N).length=n:=by
 induction n generalizing N with
 | zero=>rfl
 | succ n ih=>rw[nb,mF,ih]
theorem xe1(w n N i:Nat)(h:i<n):(nb w n N)[i]? = some (N / 2 ^ (w*i)%2 ^ w):=by
 induction n generalizing N i with
 | zero=>omega
 | succ n ih=>
  rw[nb];cases i with
  | zero=>simp
  | succ i=>
   rw[jF,ih (N / 2 ^ w) i (by omega),mY,<-lF,kG,mJ w]
theorem xg5(w n N:Nat):∀ x∈nb w n N,x<2 ^ w:=by
 induction n generalizing N with
 | zero=>intro x hx;cases hx
 | succ n ih=>
  intro x hx;rw[nb,kT]at hx;rcases hx with rfl | hx
  ·exact kB _ (kD _)
  ·exact ih _ x hx
theorem xl7(w:Nat)(l:List Nat)(h:∀ x∈l,x<2 ^ w):pk w l<2 ^ (w*l.length):=by
 induction l with
 | nil=>simp[pk]
 | cons x l ih=>
  have h1:=h x (by simp);have h2:=ih (fun y hy=>h y (by simp[hy]));rw[pk,mF,kG,mJ (w*l.length),lF];calc x+2 ^ w*pk w l<2 ^ w+2 ^ w*pk w l:=by omega
   _=2 ^ w*(pk w l+1):=by rw[kG,mJ]
   _<=2 ^ w*2 ^ (w*l.length):=kJ _ h2
theorem nb_pk(w:Nat)(l:List Nat)(h:∀ x∈l,x<2 ^ w):nb w l.length (pk w l)=l:=by
 induction l with
 | nil=>rfl
 | cons x l ih=>
  have h1:=h x (by simp);rw[mF,nb,pk,nO,jO h1,oY _ _ (kD _),lI h1,kP,ih (fun y hy=>h y (by simp[hy]))]
theorem pk_nb(w n N:Nat):pk w (nb w n N)=N%2 ^ (w*n):=by
 induction n generalizing N with
 | zero=>simp[nb,pk,Nat.mod_one]
 | succ n ih=>
  rw[nb,pk,ih,kG,mJ (w*n),lF,Nat.mod_mul]
theorem xf2(w:Nat)(l:List Nat)(h:∀ x∈l,x<2 ^ w)(i:Nat)(hi:i<l.length):pk w l / 2 ^ (w*i)%2 ^ w=l[i]:=by
 have h1:=xe1 w l.length (pk w l) i hi;rw[nb_pk w l h,iT hi]at h1;exact(kF h1).symm
theorem bit_in(N w k:Nat)(h:k<w):N%2 ^ w / 2 ^ k%2=N / 2 ^ k%2:=by
 have e : 2 ^ w=2 ^ k*(2*2 ^ (w-k-1)):=by
  rw[<-Nat.pow_succ',<-lF];congr 1;omega
 rw[e,Nat.mod_mul_right_div_self,Nat.mod_mul_right_mod]
theorem xqg(w:Nat)(l:List Nat)(h:∀ x∈l,x<2 ^ w)(i k:Nat)(hi:i<l.length)(hk:k<w):pk w l / 2 ^ (w*i+k)%2=l[i] / 2 ^ k%2:=by
 rw[<-xf2 w l h i hi,bit_in _ w k hk,mY,<-lF]
theorem xpj(N m:Nat):N%2 ^ (m+1)=N%2 ^ m+2 ^ m*(N / 2 ^ m%2):=by
 rw[mG,Nat.mod_mul]
theorem nb_or(w n A m b:Nat)(hw : 0<w)(hA:A<2 ^ m)(hb:b<2):nb w n (A+2 ^ m*b)=(nb w n A).set (m / w) ((A / 2 ^ (w*(m / w))%2 ^ w) ||| b*2 ^ (m%w)):=by
 apply List.ext_getElem?;intro i;by_cases hi:i<n
 ·rw[xe1 w n _ i hi,nS,xcf];have hd:=oL m w;have hr:=kB m hw;by_cases e:m / w=i
  ·rw[iP e,iP (by omega)];congr 1
   obtain⟨r,hrr⟩:=aP (m%w);have hm:m=w*i+r:=by rw[<-e,<-hrr];exact hd.symm
   rw[e,hrr];have h1:A / 2 ^ (w*i)<2 ^ r:=by
    rw[Nat.div_lt_iff_lt_mul (kD _),<-lF,mJ r,<-hm];exact hA
   have h2:(A+2 ^ m*b) / 2 ^ (w*i)=A / 2 ^ (w*i)+2 ^ r*b:=by
    rw[hm,lF,lC,oY _ _ (kD _)]
   have hrw:r<w:=by omega
   have h3 : 2 ^ r*2<=2 ^ w:=by rw[<-mG];exact kS (by decide) hrw
   have h4 : 2 ^ r*b<=2 ^ r:=by
    rcases (show b=0\/b=1 by omega) with rfl | rfl<;>simp
   rw[h2,jO (by omega),jO (by omega),kI b,Nat.or_comm,<-Nat.two_pow_add_eq_or_of_lt h1,mJ]
  ·rw[iQ e,xe1 w n _ i hi];congr 1
   by_cases hlt:m / w<i
   ·have h1:m<w*i:=by
     have:w*(m / w+1)<=w*i:=kJ _ hlt;rw[kG]at this;omega
    have h2 : 2 ^ m*2<=2 ^ (w*i):=by rw[<-mG];exact kS (by decide) h1
    have h4 : 2 ^ m*b<=2 ^ m:=by
     rcases (show b=0\/b=1 by omega) with rfl | rfl<;>simp
    rw[lI (by omega),lI (by omega)]
   ·have h1:w*i+w<=m:=by
     have:w*(i+1)<=w*(m / w):=kJ _ (by omega);rw[kG]at this;omega
    have h2 : 2 ^ m=2 ^ (w*i)*(2 ^ w*2 ^ (m-(w*i+w))):=by
     rw[<-lF,<-lF];congr 1;omega
    rw[h2,lC,oY _ _ (kD _),lC,nO]
 ·rw[jY (by rw[xcf];omega),jY (by rw[nN,xcf];omega)]
theorem xv3(w n:Nat):nb w n 0=List.replicate n 0:=by
 induction n with
 | zero=>rfl
 | succ n ih=>rw[nb,Nat.zero_mod,Nat.zero_div,ih];rfl
end dZ
namespace bitn
open dZ
theorem xpi(N m a c:Nat)(h:a+c<=m):N%2 ^ m / 2 ^ a%2 ^ c=N / 2 ^ a%2 ^ c:=by
 obtain⟨d,rfl⟩:∃ d,m=a+c+d:=⟨m-(a+c),by omega⟩;rw[lX,lF,Nat.mod_mul_right_div_self,lF,Nat.mod_mul_right_mod]
theorem xil(N m a:Nat)(h:a<=m):N%2 ^ m / 2 ^ a<2 ^ (m-a):=by
 rw[Nat.div_lt_iff_lt_mul (kD _),<-lF,Nat.sub_add_cancel h];exact kB _ (kD _)
theorem xwh(a b k:Nat)(ha:a<2 ^ k):a ||| b*2 ^ k=a+2 ^ k*b:=by
 rw[kI,Nat.or_comm,<-Nat.two_pow_add_eq_or_of_lt ha,mJ]
theorem xp1(N m a c:Nat)(h:a<=m):(N%2 ^ m / 2 ^ a) ||| (N / 2 ^ m%2 ^ c)*2 ^ (m-a)=N%2 ^ (m+c) / 2 ^ a:=by
 rw[xwh _ _ _ (xil N m a h)];obtain⟨d,rfl⟩:∃ d,m=a+d:=⟨m-a,by omega⟩;rw[Nat.add_sub_cancel_left,lF 2 (a+d) c,Nat.mod_mul,lF 2 a d,lC,oY _ _ (kD _)]
theorem xv2(w b N:Nat):nb w (b+1) N=nb w b N ++ [N / 2 ^ (w*b)%2 ^ w]:=by
 apply List.ext_getElem?;intro i;by_cases h:i<b
 ·rw[xe1 w (b+1) N i (by omega),mC (by rw[xcf];exact h),xe1 w b N i h]
 ·by_cases h2:i=b
  ·subst h2;rw[xe1 w (i+1) N i (by omega),lR (by rw[xcf];omega),xcf,mW];rfl
  ·rw[jY (by rw[xcf];omega),jY (by rw[kK,xcf];simp;omega)]
theorem xf5(k n:Nat)(h:k<=n) : 2 ^ k<=2 ^ n:=kS (by decide) h
end bitn
namespace aW
open arr mem
def lbf:Nat->Nat->Nat
 | 0,_=>0
 | f+1,n=>if n=0 then 0 else lbf f (n / 2)+1
def lb(n:Nat):Nat:=lbf 64 n
theorem xdg(f:Nat):∀ n,n<2 ^ f->n<2 ^ lbf f n/\(0<n->0<lbf f n/\2 ^ (lbf f n-1)<=n)/\lbf f n<=f:=by
 induction f with
 | zero=>intro n h;simp[lbf]at *;omega
 | succ f ih=>
  intro n h;unfold lbf;by_cases h0:n=0
  ·subst h0;simp
  ·rw[iQ h0];obtain⟨h1,h2,h3⟩:=ih (n / 2) (by rw[mG]at h;omega);refine⟨by rw[mG];omega,fun _=>⟨by omega,?_⟩,by omega⟩;rw[oH];by_cases h4 : 0<n / 2
   ·obtain⟨h5,h6⟩:=h2 h4;rw[show lbf f (n / 2)=(lbf f (n / 2)-1)+1 by omega,mG];omega
   ·have h5:n / 2=0:=by omega
    have h7:∀ f,lbf f 0=0:=fun f=>by cases f<;>simp[lbf]
    rw[h5,h7];omega
theorem xlg(f:Nat):∀ g n,n<2 ^ f->f<=g->lbf g n=lbf f n:=by
 induction f with
 | zero=>
  intro g n h _;have:n=0:=by simpa using h
  subst this;cases g<;>simp[lbf]
 | succ f ih=>
  intro g n h hg;obtain⟨g,rfl⟩:∃ k,g=k+1:=⟨g-1,by omega⟩;unfold lbf;by_cases h0:n=0
  ·rw[iP h0,iP h0]
  ·rw[iQ h0,iQ h0,ih g (n / 2) (by rw[mG]at h;omega) (by omega)]
theorem xvg(n:Nat)(h0 : 0<n)(h:n<2 ^ 64):lb n=lb (n / 2)+1:=by
 have h1:n / 2<2 ^ 63:=by omega
 have e:lb (n / 2)=lbf 63 (n / 2):=xlg 63 64 _ h1 (by decide);rw[e];show lbf 64 n=_;rw[lbf,iQ (by omega)]
end aW
namespace aY
open arr mem bD dZ aW
theorem dV:(aO.info? 5).map (fun i=>(i.zero,i.size,i.bytes))=some (some (.int .u8 0),1,1):=by kernel_rfl
theorem parts{P:aI}{e:aH}{z:aE}{s b:Nat}(h:(P.info? e).map (fun i=>(i.zero,i.size,i.bytes))=some (some z,s,b)):∃ i,P.info? e=some i/\i.zero=some z/\i.size=s/\i.bytes=b:=by
 cases hi:P.info? e with
 | none=>rw[hi]at h;cases h
 | some i=>
  rw[hi]at h;simp only[nU,mT,Prod.mk.injEq]at h;exact⟨i,rfl,h.1,h.2.1,h.2.2⟩
def cP(l:List Nat):List UInt8:=l.map UInt8.ofNat
theorem xeo{w:G}{g cap n:Nat}{t:aH}{l:List Nat}(hn:l.length=n)(hl:∀ x∈l,x<256)(h:w.heap[g]? = some (.cells (LK .u8 l) t (0,0))):
 (convert 57 9 (.slice (some ⟨g,0,none⟩) n cap)).run aO w=.ok (.string ⟨(cP l).toArray⟩) w:=by
 subst hn;have hz:(cP l).length=l.length:=by simp[cP]
 have:=run_convert_bytes_back (P:=aO) w 57 9 5 ⟨g,0,none⟩ cap (cP l) Tryz.underlying57 Tryz.underlying5 Tryz.underlying9 (fun j hj=>by
  rw[hz]at hj;rw[Addr.add_mid,kP,aZ h (gC .u8 l j hj)];have hx:=hl l[j] (kZ hj);simp[cP,iO,iT hj,jO hx])
 rw[hz]at this;exact this
theorem and_one(y:Nat)(h:y<9223372036854775808):bits .and .i64 (y:Int) 1=((y%2:Nat):Int):=by
 show IntKind.i64.wrap ((BitVec.ofInt 64 (y:Int) &&& BitVec.ofInt 64 1).toNat:Int)=_;rw[show (1:Int)=((1:Nat):Int) from rfl,lE,lE,BitVec.toNat_and,lO,lO,jO (by omega),jO (by decide),Nat.and_one_is_mod,iN];omega
theorem or_u8(a b:Nat)(ha:a<256)(hb:b<256):bits .or .u8 (a:Int) (b:Int)=((a ||| b:Nat):Int):=by
 have h:=oS (n:=8) ha hb;show IntKind.u8.wrap ((BitVec.ofInt 8 (a:Int) ||| BitVec.ofInt 8 (b:Int)).toNat:Int)=_;rw[lE,lE,BitVec.toNat_or,lO,lO,jO (by simpa using ha),jO (by simpa using hb),kU];omega
theorem xp8{w:G}{base g M:Nat}{e:aH}{xs:List aE}(h:w.ownsRow base e 1 (.slice (some ⟨g,0,none⟩) M M) M xs):∃ cur,w.heap[g]? = some (.cells cur e (0,0))/\cur.toList=xs:=by
 rcases h.2 with ⟨h',-⟩ | ⟨g',cap',cur,h',hb,hg,-,hm,hs,htake⟩
 ·simp at h'
 ·simp only[Value.slice.injEq,mT,Addr.mk.injEq,and_true,true_and]at h';obtain⟨rfl,rfl⟩:=h';refine⟨cur,hg,?_⟩;rw[<-htake,lG (by rw[jM];omega)]
theorem xvl(wd n M:Nat)(L:List Nat)(hl:L.length=n)(hL:∀ x∈L,x<2 ^ wd)(i k:Nat)(hi:i<n)(hk:k<wd)(v:Nat)
 (hv:(pk wd L%2 ^ (wd*i+k) / 2 ^ (8*((wd*i+k) / 8))%2 ^ 8) ||| (L.getD i 0 / 2 ^ k%2)*2 ^ ((wd*i+k)%8)=v):
 (nb 8 M (pk wd L%2 ^ (wd*i+k))).set ((wd*i+k) / 8) v=nb 8 M (pk wd L%2 ^ (wd*i+(k+1))):=by
 subst hl;rw[<-hv,<-lX,xpj (pk wd L) (wd*i+k),xqg wd L hL i k hi hk];have e:L.getD i 0=L[i]:=by rw[iO,iT hi];rfl
 rw[e];exact(nb_or 8 M _ (wd*i+k) _ (by decide) (kB _ (kD _)) (kB _ (by decide))).symm
end aY
namespace bC
open arr mem bD dZ aT aW aY
def aU(b:ByteArray):List Nat:=b.data.toList.map (·.toNat)
theorem xaz(b:ByteArray):(aU b).length=b.size:=by unfold aU;rw[List.length_map];rfl
theorem fG(b:ByteArray):∀ x∈aU b,x<2 ^ 8:=by
 intro x hx;obtain⟨u,-,rfl⟩:=nY.1 hx;exact u.toNat_lt
theorem byte_of(b:ByteArray)(i β : Nat)(hi:i<b.size)(hb:(aU b).getD i 0 = β)(w:G):(aN 9 (.string b) (.int .i64 (i:Int))).run aO w=.ok (.int .u8 (β : Int)) w:=by
 subst hb;rw[run_index_string w 9 b .i64 (i:Int) Tryz.underlying9,dif_pos ⟨by omega,by omega⟩];have e:(aU b).getD i 0=(b[i]'hi).toNat:=by
  rw[iO,iT (by rw[xaz];exact hi)];simp only[aU,List.getElem_map,Option.getD_some];rfl
 rw[e];rfl
theorem aX:(aO.info? 76).map (fun i=>(i.zero,i.size))=some (some (.agg (FL .i64 256 fun _=>0)),256):=by kernel_rfl
theorem xts(s:ByteArray)(m:Nat)(hm:m / 8<s.size):(aU s).getD (m / 8) 0 / 2 ^ (m%8)%2=pk 8 (aU s) / 2 ^ m%2:=by
 have h:=xqg 8 (aU s) (fG s) (m / 8) (m%8) (by rw[xaz];exact hm) (kB _ (by decide));rw[oL]at h;rw[h,iO,iT (by rw[xaz];exact hm)];rfl
def bt(N wd i k:Nat):Nat:=N / 2 ^ (wd*i)%2 ^ k
theorem xtl(N wd i k:Nat):bt N wd i (k+1)=bt N wd i k+2 ^ k*(N / 2 ^ (wd*i+k)%2):=by
 unfold bt;rw[xpj,mY,<-lF]
theorem xl0(a b k:Nat)(ha:a<2 ^ k):a ||| b*2 ^ k=a+2 ^ k*b:=by
 rw[kI b,Nat.or_comm,<-Nat.two_pow_add_eq_or_of_lt ha,mJ]
theorem xg7(a b:Nat)(ha:a<9223372036854775808)(hb:b<9223372036854775808):bits .or .i64 (a:Int) (b:Int)=((a ||| b:Nat):Int):=by
 have h:=oS (n:=63) ha hb;show IntKind.i64.wrap ((BitVec.ofInt 64 (a:Int) ||| BitVec.ofInt 64 (b:Int)).toNat:Int)=_;rw[lE,lE,BitVec.toNat_or,lO,lO,jO (by omega),jO (by omega),iN];omega
theorem xj9(y:Nat)(h:y<256):bits .and .u8 (y:Int) 1=((y%2:Nat):Int):=by
 show IntKind.u8.wrap ((BitVec.ofInt 8 (y:Int) &&& BitVec.ofInt 8 1).toNat:Int)=_;rw[show (1:Int)=((1:Nat):Int) from rfl,lE,lE,BitVec.toNat_and,lO,lO,jO (by omega),jO (by decide),Nat.and_one_is_mod,kU];omega
end bC
namespace bA
open arr mem bD dZ aT aW aY bC
theorem xct{P:aI}{t e:aH}{n:Nat}(hu:P.underlying t=some (.array n e))(he:P.plainKey e=true)(hi0:(P.info? e).isSome=true)(hc:P.cellsOf e=1)(C:Array aE)(v:aE)(k:Nat)(hk:k<n)(hx:C[k]? = some v)(w:G):
 (aN t (.agg C) (.int .i64 (k:Int))).run P w=.ok v w:=by
 obtain⟨i,hi⟩:=nR.1 hi0;have h1:(0:Int)<=(k:Int)/\(k:Int)<(n:Int):=⟨by omega,by omega⟩;unfold aN;simp only[asIntOf,lQ,mR,run_underlying hu,kQ,iP h1,run_sizeOf w hi,hc,oA,kL];exact run_part_plain w he hx
theorem gL:(aO.info? 3).map (fun i=>(i.zero,i.size,i.bytes))=some (some (.int .i64 0),1,8):=by kernel_rfl
theorem sizeP:(aO.info? 76).map (·.size)=some 256:=by kernel_rfl
theorem xbg{w:G}{v:aE}{T:Nat}:∀ j u,[v][j]? = some u->(w.alloc (.cells #[v] T)).cell? ((⟨w.heap.size,0,none⟩:Addr).add j)=some u:=by
 intro j u hj;match j,hj with
 | 0,hj=>
  simp at hj;subst hj;simp[Addr.add]
theorem xbu{w:G}{base:Nat}{e:aH}{size:Nat}{v:aE}{n:Nat}{xs:List aE}(hn : 0<n)(h:w.ownsRow base e size v n xs):∃ g cap,v=.slice (some ⟨g,0,none⟩) n cap:=by
 rcases h.2 with ⟨-,h0⟩ | ⟨g,cap,cur,hv,-⟩
 ·omega
 ·exact⟨g,cap,hv⟩
def cs(f:Nat->Int)(m:Nat):List aE:=(List.range m).map fun i=>Value.int .i64 (f i)
theorem xt4(f:Nat->Int)(m:Nat):cs f (m+1)=cs f m ++ [.int .i64 (f m)]:=by simp[cs,List.range_succ]
def ns(f:Nat->Int):List Nat:=(List.range 256).map fun i=>(f i).toNat
def fK(f:Nat->Int)(most:Int):Prop:=∀ i,i<256->0<=f i/\f i<=most
instance (f:Nat->Int) (most:Int):Decidable (fK f most):=by unfold fK;exact inferInstance
def packed(f:Nat->Int)(most:Int):ByteArray:=⟨(cP (nb 8 (32*lb most.toNat) (pk (lb most.toNat) (ns f)))).toArray⟩
end bA
namespace bL
open arr mem bD dZ aT bE aW aY bC bA
theorem results_cell_tmp{P:aI}{fn:Func}{p u:Tmp}{ty:aH}(h:fn.results=#[.cell p ty,.tmp u])(tmps:Array aE)(w:G)(g:Nat)(t:aH)(cs:Array aE)(fr:Nat × Nat)(d:TypeDesc)
 (hp:tmps.getD p undef=.pointer (some ⟨g,0,none⟩)) (hg:w.heap[g]? = some (.cells cs t fr))
 (hu:P.underlying ty=some d) (hd:(match d with | .struct _ | .array _ _=>true | _=>false)=true) (hi:(P.info? ty).map (·.size)=some cs.size) (v:aE) (hv:tmps.getD u undef=v):
 (results fn tmps).run P w=.ok (.tuple #[.agg cs,v]) w:=by
 have hp':tmps[p]?.getD undef=.pointer (some ⟨g,0,none⟩):=by simpa using hp
 have hv':tmps[u]?.getD undef=v:=by simpa using hv
 simp[results,h,hp',hv',asAddr,nM w g t ty cs fr d hg hu hd hi]
theorem xnf{P:aI}{ops:Array Oper}{rest:List Oper}{o:Oper}{a:Act}{w:G}{Q:Exit->Act->G->Prop}(hg:o.guard=none)(t:aH)(parts:Array (Nat × Operand))(ho:o.op=.build t parts)
 (C:Array aE) (hC:P.built t (parts.map fun (i,x)=>(i,a.eval x)).toList=some C) (h:wpList P ops Q rest (a.put o.dst (.agg C)) w):wpList P ops Q (o :: rest) a w:=
 wpList_build hg t _ ho (by rw[hC];rfl) (by rw[hC];exact h)
def sg(f:Nat->Int)(high:Int):Nat->Int:=fun i=>high-ce 8380417 (f i)
def ins(f:Nat->Int)(low high:Int):Prop:=∀ i,i<256 -> -low<=ce 8380417 (f i)/\ce 8380417 (f i)<=high
instance (f:Nat->Int) (low high:Int):Decidable (ins f low high):=by unfold ins;exact inferInstance
theorem xt2(x:Int) : -4190208<=ce 8380417 x/\ce 8380417 x<=4190208:=by
 unfold ce;rw[iQ (by omega)];split<;>omega
end bL
namespace bY
open arr mem bD dZ aT bE aW aY bC bA bL
def up(s:ByteArray)(wd:Nat):Nat->Int:=fun i=>((bt (pk 8 (aU s)) wd i wd:Nat):Int)
theorem xg3(most:Int)(h:most<8380417):lb most.toNat<=23:=by
 have h3:most.toNat<2 ^ 23:=by omega
 have h4:lb most.toNat=lbf 23 most.toNat:=xlg 23 64 _ h3 (by decide);rw[h4];exact(xdg 23 _ h3).2.2
end bY
namespace cG
open arr mem bD dZ aT bE aW aY bC bA bL bY
def un(f:Nat->Int)(high:Int):Nat->Int:=fun i=>(high-f i)%8380417
end cG
namespace eD
open arr mem bD dZ aT bE aW aY bC bA bL
def cnt(f:Nat->Int):Nat->Nat
 | 0=>0
 | k+1=>cnt f k+if f k=0 then 0 else 1
def dR(h:Nat->Nat->Int):Nat->Nat
 | 0=>0
 | i+1=>dR h i+cnt (h i) 256
def put(f:Nat->Int)(n:Nat)(S:List Nat):Nat->List Nat
 | 0=>S
 | k+1=>if f k=0 then put f n S k else (put f n S k).set (n+cnt f k) k
def lay(h:Nat->Nat->Int)(om m:Nat):Nat->List Nat
 | 0=>List.replicate (om+m) 0
 | i+1=>(put (h i) (dR h i) (lay h om m i) 256).set (om+i) (dR h (i+1))
theorem xhe(f:Nat->Int)(n:Nat)(S:List Nat)(k:Nat):(put f n S k).length=S.length:=by
 induction k with
 | zero=>rfl
 | succ k ih=>rw[put];split<;>simp[ih]
theorem xey(h:Nat->Nat->Int)(om m i:Nat):(lay h om m i).length=om+m:=by
 induction i with
 | zero=>simp[lay]
 | succ i ih=>rw[lay,nN,xhe,ih]
theorem cnt_mono(f:Nat->Int)(k j:Nat)(hkj:k<=j):cnt f k<=cnt f j:=by
 induction j with
 | zero=>
  obtain rfl:k=0:=by omega
  exact iM _
 | succ j ih=>
  by_cases e:k=j+1
  ·subst e;exact iM _
  ·have:=ih (by omega);rw[cnt];omega
theorem xjx(h:Nat->Nat->Int)(i j:Nat)(hij:i<=j):dR h i<=dR h j:=by
 induction j with
 | zero=>
  obtain rfl:i=0:=by omega
  exact iM _
 | succ j ih=>
  by_cases e:i=j+1
  ·subst e;exact iM _
  ·have:=ih (by omega);rw[dR];omega
theorem xrd{L:List Nat}{i v:Nat}(h:∀ x∈L,x<256)(hv:v<256):∀ x∈L.set i v,x<256:=fun x hx=>by
 rcases List.mem_or_eq_of_mem_set hx with h1 | rfl
 ·exact h x h1
 ·exact hv
theorem put_lt(f:Nat->Int)(n:Nat)(S:List Nat)(k:Nat)(hk:k<=256)(h:∀ x∈S,x<256):∀ x∈put f n S k,x<256:=by
 induction k with
 | zero=>exact h
 | succ k ih=>
  rw[put];split
  ·exact ih (by omega)
  ·exact xrd (ih (by omega)) (by omega)
theorem xox(h:Nat->Nat->Int)(om m i:Nat)(ht:dR h i<256):∀ x∈lay h om m i,x<256:=by
 induction i with
 | zero=>
  intro x hx;rw[lay]at hx;have:=List.eq_of_mem_replicate hx;omega
 | succ i ih=>
  rw[lay];exact xrd (put_lt _ _ _ _ (iM _) (ih (by have:=xjx h i (i+1) (by omega);omega))) ht
end eD
namespace gE
open arr mem qops bD dZ aT bE aW aY bC bA bL
def fr(β : Nat->Nat)(om:Nat):Nat->Nat
 | 0=>0
 | i+1 => β (om+i)
def mk(β : Nat->Nat)(a:Nat):Nat->Nat->Int
 | 0=>fun _=>0
 | t+1=>upd (mk β a t) (β (a+t)) 1
def one(β : Nat->Nat)(om i:Nat):Prop:=fr β om i<=fr β om (i+1)/\fr β om (i+1)<=om/\∀ k,fr β om i<k->k<fr β om (i+1) -> β (k-1) < β k
def uok(β : Nat->Nat)(om m:Nat):Prop:=(∀ i,i<m->one β om i)/\∀ k,fr β om m<=k->k<om -> β k=0
def ply(β : Nat->Nat)(om i:Nat):Nat->Int:=mk β (fr β om i) (fr β om (i+1)-fr β om i)
def cl(β : Nat->Nat)(om:Nat):Nat->List aE
 | 0=>[]
 | i+1=>cl β om i++(FL .i64 256 (ply β om i)).toList
theorem xcv{w w':G}{B e size n:Nat}{v:aE}{xs:List aE}(h:w.ownsRow B e size v n xs)(hb:zb w w'):w'.ownsRow B e size v n xs:=
 ⟨h.1,h.2.imp id fun ⟨g,cap,cur,hv,hbb,hg,r⟩=>⟨g,cap,cur,hv,hbb,(hb.block g (bI hg)).trans hg,r⟩⟩
theorem xdw{w:G}{F:Array aE}{T j:Nat}{u:aE}(hu:F.toList[j]? = some u):(w.alloc (.cells F T)).cell? ((⟨w.heap.size,0,none⟩:Addr).add j)=some u:=by
 rw[Addr.add_mid,kP];exact aZ (cM _ _ _ rfl) (by simpa using hu)
theorem xek{F:Array aE}(h:F.all (·.oneCell')=true):∀ u∈F.toList,u.oneCell'=true:=fun u hu=>(kM.1 h) u (by simpa using hu)
theorem xfo(F cells:Array aE)(hF:F.size=256)(hc:cells.size=256):Instr.fill (fun i=>some (i*256,256)) cells [(0,.agg F)]=some F:=by
 have h:=Great.fill_whole (s:=256) (by decide) [Value.agg F] cells (by intro v hv;simp at hv;subst hv;exact hF) (by simp[hc]);have e:(([Value.agg F].flatMap fun v=>v.cells.toList).toArray)=F:=by simp[Value.cells]
 rw[e]at h;exact h
theorem xfp(F cells:Array aE)(hF:F.size=256)(hc:cells.size=256):Array.foldl (fun (cs:Array aE) (x:aE × Nat)=>cs.setIfInBounds x.snd x.fst) cells F.zipIdx 0 F.size=F:=by
 have h:=xfo F cells hF hc;simpa [Instr.fill,Value.cells,hF,hc] using h
theorem bX:(aO.info? 76).map (fun i=>(i.zero,i.size,i.bytes))=some (some (.agg (FL .i64 256 fun _=>0)),256,2048):=by kernel_rfl
end gE
namespace dQ
open arr mem dZ aT bE aW aY bC bA bL bY cG
theorem xgp(l:List Nat)(h:∀ x∈l,x<2 ^ 8):aU ⟨(cP l).toArray⟩=l:=by
 unfold aU cP;rw[List.map_map];conv=>rhs;rw[<-List.map_id l]
 refine List.map_congr_left fun x hx=>?_
 have:=h x hx;show (UInt8.ofNat x).toNat=x;rw[UInt8.toNat_ofNat'];omega
theorem lb_lt(most:Int)(h2:most<8380417):most.toNat<2 ^ lb most.toNat:=(xdg 64 most.toNat (by omega)).1
theorem xlf(most:Int)(h1 : 1<=most)(h2:most<8380417) : 1<=lb most.toNat:=
 ((xdg 64 most.toNat (by omega)).2.1 (by omega)).1
theorem xcy(f:Nat->Int)(most:Int):(packed f most).size=32*lb most.toNat:=by
 rw[<-xaz,packed,xgp _ (xg5 8 _ _),xcf]
theorem xpq(f:Nat->Int):(ns f).length=256:=by simp[ns]
theorem xz1(f:Nat->Int)(most:Int)(h2:most<8380417)(hin:fK f most)(i:Nat)(hi:i<256):up (packed f most) (lb most.toNat) i=f i:=by
 have hL:∀ x∈ns f,x<2 ^ lb most.toNat:=by
  intro x hx;obtain⟨j,hj,rfl⟩:=nY.1 hx;have h3:=hin j (lV.1 hj);exact mM (by omega) (lb_lt most h2)
 have hb:=xl7 (lb most.toNat) (ns f) hL;rw[xpq,show lb most.toNat*256=8*(32*lb most.toNat) by omega]at hb;have hm:=jO hb;have ha:=xf2 (lb most.toNat) (ns f) hL i (by rw[xpq];exact hi);unfold up packed bt;rw[xgp _ (xg5 8 _ _),pk_nb,hm,ha];simp only[ns,List.getElem_map,List.getElem_range];exact Int.toNat_of_nonneg (hin i hi).1
theorem un_sg(f:Nat->Int)(high:Int)(i:Nat)(h : 0<=f i/\f i<8380417):un (sg f high) high i=f i:=by
 unfold un sg ce;rw[iQ (by omega)];split<;>omega
end dQ
namespace cV
open mem arr
section
variable {P:aI} {md:Region.Mode} {ops:Array Oper} {Q:Exit->Act->G->Prop} {S:G->Prop}
theorem xuw{i fuel:Nat}{o:Oper}{listed:Array Bool}{a:Act}{w:G}(hr:aK md ops listed=[i])(hi:ops[i]? = some o)(hw:aL o (yielded ops a.tmps)=true)
 (h:∀ K:Act->G->Prop,(∀ a' w',S w'->wpAnyH P md ops Q S fuel (listed.setIfInBounds i true) a' w'->K a' w')->o.wp P a w K Q):wpAnyH P md ops Q S (fuel+1) listed a w:=by
 refine wpAnyH_all hr (by simp) fun j hj=>?_
 have e:j=i:=by simpa using hj
 subst e;unfold Go.wpOp;simp only[hi,hw,if_true];exact kW (h _ fun a' w' hs hh=>⟨hs,hh⟩)
theorem xuv{id:Nat}{a:Act}{w:G}{l:List Oper}(B:Nat)(hm:P.follows .mixedOrders=true)
 (h:aF B w w.drew->wpAnyH P .any l.toArray Q (fun w'=>aF B w w') l.toArray.size (Array.replicate l.toArray.size false) a w.drew):(Code.region id l.toArray true).wp P Q a w:=
 wp_region_held hm (h ((iR _ _).drew))
def pre(n k:Nat):Array Bool:=(List.replicate k true++List.replicate (n-k) false).toArray
def HL(P:aI)(ops:Array Oper)(Q:Exit->Act->G->Prop)(S:G->Prop)(n:Nat)(l:List Oper)(k:Nat)(a:Act)(w:G):Prop:=
 (∀ j,l[j]? = ops[k+j]?)->wpAnyH P .any ops Q S l.length (pre n k) a w
def HK(P:aI)(ops:Array Oper)(Q:Exit->Act->G->Prop)(S:G->Prop)(b:Array Bool)(l:List Oper)(ks:List Nat)(a:Act)(w:G):Prop:=
 ks.map (fun k=>ops[k]?)=l.map some->wpAnyH P .any ops Q S l.length b a w
theorem xlb{b:Array Bool}{k:Nat}{ks:List Nat}{o:Oper}{rest:List Oper}{a:Act}{w:G}{v:aE}(hw:aL o (yielded ops a.tmps)=true)(hs:Region.noSelect ops=true)(hf:Region.free .any ops b k=true)(hr:(aK .any ops b).contains k=true)
 (hQ:∀ c a w,Q (.panic c) (a.put o.dst v) w->Q (.panic c) a w) (hy:∀ w,S w->(execOp a.eval o).run P w=.ok (.value v) w) (hS:S w) (h:HK P ops Q S (b.setIfInBounds k true) rest ks (a.put o.dst v) w):HK P ops Q S b (o :: rest) (k :: ks) a w:=fun hl=>by
 simp only[lT,nV]at hl;exact wpAnyH_take hl.1 hs hf hr hQ (kW ⟨hw,hy⟩) hS (h hl.2)
theorem xu0{b:Array Bool}{k:Nat}{ks:List Nat}{o:Oper}{rest:List Oper}{a:Act}{w:G}(hw:aL o (yielded ops a.tmps)=true)(hs:Region.noSelect ops=true)(hf:Region.free .any ops b k=true)(hr:(aK .any ops b).contains k=true)
 (hQ:∀ v c a w,Q (.panic c) (a.put o.dst v) w->Q (.panic c) a w) (ty:aH) (x:Operand) (ho:o.op=.load ty x)
 (g:Nat) (hx:a.eval x=.pointer (some ⟨g,0,none⟩)) (t:aH) (cs:Array aE) (d:TypeDesc) (hC:∀ w,S w->w.heap[g]? = some (.cells cs t (0,0)))
 (hu:P.underlying ty=some d) (hd:(match d with | .struct _ | .array _ _=>true | _=>false)=true) (hz:(P.info? ty).map (·.size)=some cs.size) (hS:S w)
 (h:HK P ops Q S (b.setIfInBounds k true) rest ks (a.put o.dst (.agg cs)) w):HK P ops Q S b (o :: rest) (k :: ks) a w:=
 xlb hw hs hf hr (hQ _) (fun w hw2=>by
  unfold execOp;simp only[ho,hx,Instr.loadAt,Instr.sureAddr,lQ,mR,kQ,nM w g t ty cs (0,0) d (hC w hw2) hu hd hz]) hS h
theorem xu1{b:Array Bool}{k:Nat}{ks:List Nat}{o:Oper}{rest:List Oper}{a:Act}{w:G}(hw:aL o (yielded ops a.tmps)=true)(hr:aK .any ops b=[k])
 (h:∀ K:Act->G->Prop,(∀ a' w',S w'->HK P ops Q S (b.setIfInBounds k true) rest ks a' w'->K a' w')->o.wp P a w K Q):HK P ops Q S b (o :: rest) (k :: ks) a w:=fun hl=>by
 simp only[lT,nV]at hl;exact xuw hr hl.1 hw fun K hK=>h K fun a' w' hs hh=>hK a' w' hs (hh hl.2)
theorem hk_nil{b:Array Bool}{a:Act}{w:G}(hr:aK .any ops b=[])(h:Q .normal a w):HK P ops Q S b [] [] a w:=fun _=>wpAnyH_done hr h _
theorem xwj(l:List Oper)(ks:List Nat)(h:ks.all (fun k=>decide (k<l.length))=true):ks.map (fun k=>l.toArray[k]?)=(ks.filterMap fun k=>l[k]?).map some/\(ks.filterMap fun k=>l[k]?).length=ks.length:=by
 induction ks with
 | nil=>exact⟨rfl,rfl⟩
 | cons k ks ih=>
  rw[List.all_cons,jQ]at h;have hk:k<l.length:=lZ h.1;obtain⟨h1,h2⟩:=ih h.2;have e:l[k]? = some l[k]:=iT hk;rw[jT,e,lT,h1];exact⟨by simp[e],by simp[h2]⟩
theorem xa4{id:Nat}{a:Act}{w:G}{l:List Oper}(B n:Nat)(ks:List Nat)(hm:P.follows .mixedOrders=true)(hn:l.length=n)(hz:ks.length=n)(hall:ks.all (fun k=>decide (k<n))=true)
 (h:aF B w w.drew->∀ ops:Array Oper,U (l.toArray=ops)->HK P ops Q (fun w'=>aF B w w') (Array.replicate n false) (ks.filterMap fun k=>l[k]?) ks a w.drew):(Code.region id l.toArray true).wp P Q a w:=by
 subst hn;obtain⟨h1,h2⟩:=xwj l ks hall;refine xuv B hm fun hb=>?_
 have h3:=h hb _ ⟨rfl⟩ h1;rw[h2,hz]at h3;exact h3
end
end cV
namespace fW
open arr mem aT bE
def by'(B:List Nat)(i:Nat):Nat:=B.getD i 0
def tri(B:List Nat)(i:Nat):Nat:=by' B i+256*by' B (i+1)+65536*(by' B (i+2)%128)
def ua(B:List Nat):Nat->List Nat
 | 0=>[]
 | j+1=>if (ua B j).length<256/\tri B (3*j)<8380417 then ua B j ++ [tri B (3*j)] else ua B j
theorem ua_le(B:List Nat)(j:Nat):(ua B j).length<=256/\(ua B j).length<=j:=by
 induction j with
 | zero=>simp[ua]
 | succ j ih=>
  rw[ua];split
  ·rename_i h;rw[kK];simp;omega
  ·omega
theorem ua_lt(B:List Nat)(j:Nat):∀ x∈ua B j,x<8380417:=by
 induction j with
 | zero=>intro x hx;cases hx
 | succ j ih=>
  intro x hx;rw[ua]at hx;split at hx
  ·rename_i h
   rw[List.mem_append]at hx;rcases hx with hx | hx
   ·exact ih x hx
   ·simp at hx;omega
  ·exact ih x hx
theorem xsb(B:List Nat)(j k:Nat)(h:(ua B j).length=256)(hk:j<=k):ua B k=ua B j:=by
 induction k with
 | zero=>rw[show j=0 by omega]
 | succ k ih=>
  by_cases e:j=k+1
  ·rw[e]
  ·rw[ua,ih (by omega),iQ (by omega)]
def lf(l:List Nat)(k:Nat):Int:=((l.getD k 0:Nat):Int)
theorem xli(l:List Nat)(x:Nat):upd (lf l) l.length (x:Int)=lf (l ++ [x]):=by
 funext k
 unfold upd lf;by_cases e:k=l.length
 ·subst e;rw[iP rfl,iO,lR (iM _),mW];rfl
 ·rw[iQ e];by_cases h:k<l.length
  ·rw[iO,iO,mC h]
  ·rw[iO,iO,jY (by omega),jY (by rw[kK];simp;omega)]
def uni(B:List Nat):Nat->Int:=lf (ua B 336)
theorem xlh:lf []=fun _=>0:=by funext k;simp[lf]
def hf(B:List Nat)(j:Nat):Nat:=if j%2=0 then by' B (j / 2)%16 else by' B (j / 2) / 16
def bR(e:Int)(b:Nat):Bool:=if e=2 then decide (b<15) else decide (b<9)
def hv(e:Int)(b:Nat):Int:=if e=2 then (2-((b%5:Nat):Int))%8380417 else (4-(b:Int))%8380417
theorem xip(e:Int)(b:Nat) : 0<=hv e b/\hv e b<8380417:=by unfold hv;split<;>omega
def sa(B:List Nat)(e:Int):Nat->List Nat
 | 0=>[]
 | j+1=>if (sa B e j).length<256/\bR e (hf B j)=true then sa B e j ++ [(hv e (hf B j)).toNat] else sa B e j
theorem xyk(B:List Nat)(e:Int)(j k:Nat)(h:(sa B e j).length=256)(hk:j<=k):sa B e k=sa B e j:=by
 induction k with
 | zero=>rw[show j=0 by omega]
 | succ k ih=>
  by_cases e2:j=k+1
  ·rw[e2]
  ·rw[sa,ih (by omega),iQ (by omega)]
theorem sa_in(B:List Nat)(e:Int)(j:Nat):∀ x∈sa B e j,∃ b,bR e b=true/\x=(hv e b).toNat:=by
 induction j with
 | zero=>intro x hx;cases hx
 | succ j ih=>
  intro x hx;rw[sa]at hx;split at hx
  ·rename_i h
   rw[List.mem_append]at hx;rcases hx with hx | hx
   ·exact ih x hx
   ·simp at hx;exact⟨_,h.2,hx⟩
  ·exact ih x hx
def sma(B:List Nat)(e:Int):Nat->Int:=lf (sa B e 1632)
def nx(B:List Nat)(i:Nat):Nat->Nat->Nat
 | 0,a=>a
 | f+1,a=>if a<544/\i<by' B a then nx B i f (a+1) else a
theorem xg6(B:List Nat)(i f a:Nat)(h:¬ (a<544/\i<by' B a)):nx B i f a=a:=by
 cases f with
 | zero=>rfl
 | succ f=>rw[nx,iQ h]
theorem xps(B:List Nat)(i f a:Nat)(hf : 544<=a+f):¬ (nx B i f a<544/\i<by' B (nx B i f a)):=by
 induction f generalizing a with
 | zero=>rw[nx];omega
 | succ f ih=>
  rw[nx];split
  ·exact ih (a+1) (by omega)
  ·assumption
theorem xlu(B:List Nat)(i f a:Nat)(ha:a<=544):a<=nx B i f a/\nx B i f a<=544:=by
 induction f generalizing a with
 | zero=>exact⟨iM _,ha⟩
 | succ f ih=>
  rw[nx];split
  ·have:=ih (a+1) (by omega);omega
  ·exact⟨iM _,ha⟩
def sgn(B:List Nat)(t:Nat):Int:=if by' B (t / 8) / 2 ^ (t%8)%2=1 then 8380416 else 1
def bl(B:List Nat)(tau:Nat):Nat->(Nat->Int) × Nat
 | 0=>(fun _=>0,8)
 | t+1=>
  let a:=nx B (256-tau+t) 544 (bl B tau t).2
  if a=544 then ((bl B tau t).1,544)
  else (upd (upd (bl B tau t).1 (256-tau+t) ((bl B tau t).1 (by' B a))) (by' B a) (sgn B t),a+1)
theorem xkh(B:List Nat)(tau t:Nat):(bl B tau t).2<=544:=by
 induction t with
 | zero=>exact(by decide : 8<=544)
 | succ t ih=>
  rw[bl];have:=xlu B (256-tau+t) 544 (bl B tau t).2 ih;split
  ·exact iM _
  ·show nx B (256-tau+t) 544 (bl B tau t).2+1<=544;omega
theorem xnw(B:List Nat)(tau t k:Nat)(h:(bl B tau t).2=544)(hk:t<=k):bl B tau k=bl B tau t:=by
 induction k with
 | zero=>rw[show t=0 by omega]
 | succ k ih=>
  by_cases e:t=k+1
  ·rw[e]
  ·have e2:=ih (by omega);rw[bl,e2,h];have:nx B (256-tau+k) 544 544=544:=xg6 _ _ _ _ (by omega);rw[this,iP rfl,<-h]
end fW
namespace fL
open arr mem aT bE fW
theorem lf_or(l:List Nat)(i:Nat):lf l i=0\/∃ x∈l,lf l i=(x:Int):=by
 unfold lf;by_cases h:i<l.length
 ·exact kO ⟨l[i],kZ h,by rw[iO,iT h];rfl⟩
 ·exact kW (by rw[iO,jY (by omega)];rfl)
theorem xrv(B:List Nat)(e:Int)(i:Nat):sma B e i=0\/∃ b,bR e b=true/\sma B e i=hv e b:=by
 unfold sma;rcases lf_or (sa B e 1632) i with h | ⟨x,hx,h⟩
 ·exact kW h
 ·obtain⟨b,hb,rfl⟩:=sa_in B e 1632 x hx;have:=xip e b;exact kO ⟨b,hb,by rw[h];omega⟩
theorem xy1(B:List Nat)(e:Int)(i:Nat) : 0<=sma B e i/\sma B e i<8380417:=by
 rcases xrv B e i with h | ⟨b,-,h⟩
 ·rw[h];decide
 ·rw[h];exact xip e b
theorem xbr(x:Int):ce 8380417 x=if 4190208<x%8380417 then x%8380417-8380417 else x%8380417:=by
 unfold ce;rw[iQ (by omega)];rfl
theorem xrt(B:List Nat)(e:Int)(he:e=2\/e=4)(i:Nat) : -e<=ce 8380417 (sma B e i)/\ce 8380417 (sma B e i)<=e:=by
 rw[xbr];rcases xrv B e i with h | ⟨b,hb,h⟩
 ·rw[h];rcases he with rfl | rfl<;>decide
 ·rw[h];rcases he with rfl | rfl
  ·have h1:hv 2 b=(2-((b%5:Nat):Int))%8380417:=rfl;rw[h1];split<;>omega
  ·have h1:hv 4 b=(4-(b:Int))%8380417:=rfl;have h2:b<9:=lZ (show decide (b<9)=true from hb);rw[h1];split<;>omega
theorem cb_ge(h:Nat->Int)(n i:Nat)(hi:i<n):ce 8380417 (h i)<=cb h n /\ -(ce 8380417 (h i))<=cb h n:=by
 induction n with
 | zero=>omega
 | succ n ih=>
  rw[cb];by_cases e:i=n
  ·subst e;omega
  ·have:=ih (by omega);omega
def nz(h:Nat->Int):Nat->Nat
 | 0=>0
 | n+1=>nz h n+if h n=0 then 0 else 1
theorem xpu(n:Nat):nz (fun _=>0) n=0:=by
 induction n with
 | zero=>rfl
 | succ n ih=>rw[nz,ih];rfl
theorem xwa(h:Nat->Int)(k:Nat)(x:Int)(n:Nat)(hn:n<=k):nz (upd h k x) n=nz h n:=by
 induction n with
 | zero=>rfl
 | succ n ih=>
  rw[nz,nz,ih (by omega)];have:upd h k x n=h n:=by unfold upd;rw[iQ (by omega)]
  rw[this]
theorem xpt(h:Nat->Int)(k:Nat)(x:Int)(n:Nat)(hn:k<n):nz (upd h k x) n+(if h k=0 then 0 else 1)=nz h n+(if x=0 then 0 else 1):=by
 induction n with
 | zero=>omega
 | succ n ih=>
  by_cases e:k=n
  ·subst e;rw[nz,nz,xwa h k x k (iM _)];have:upd h k x k=x:=by unfold upd;rw[iP rfl]
   rw[this];omega
  ·rw[nz,nz];have h1:=ih (by omega);have:upd h k x n=h n:=by unfold upd;rw[iQ (by omega)]
   rw[this];omega
theorem xrg(B:List Nat)(t:Nat):sgn B t=1\/sgn B t=8380416:=by unfold sgn;split<;>simp
def tre(x:Int):Prop:=x=0\/x=1\/x=8380416
theorem xr6{h:Nat->Int}(H:∀ i,tre (h i))(k:Nat){x:Int}(hx:tre x)(i:Nat):tre (upd h k x i):=by
 unfold upd;split
 ·exact hx
 ·exact H i
theorem bl_tre(B:List Nat)(tau t:Nat):∀ i,tre ((bl B tau t).1 i):=by
 induction t with
 | zero=>intro i;exact kW rfl
 | succ t ih=>
  rw[bl];split
  ·exact ih
  ·exact xr6 (xr6 ih _ (ih _)) _ (kO (xrg B t))
theorem xtj(B:List Nat)(tau t:Nat)(ht:t<=tau):∀ i,256-tau+t<=i->(bl B tau t).1 i=0:=by
 induction t with
 | zero=>intro i _;rfl
 | succ t ih=>
  intro i hi;have h1:=ih (by omega);rw[bl];split
  ·exact h1 i (by omega)
  ·rename_i ha
   have h2:=xps B (256-tau+t) 544 (bl B tau t).2 (by omega);have h3:=(xlu B (256-tau+t) 544 (bl B tau t).2 (xkh B tau t)).2;show upd (upd (bl B tau t).1 (256-tau+t) _) _ _ i=0;unfold upd;rw[iQ (by omega),iQ (by omega)];exact h1 i (by omega)
theorem xtk(B:List Nat)(tau t:Nat)(ht:t<tau)(h64:tau<=256):nz (bl B tau (t+1)).1 256=nz (bl B tau t).1 256+if nx B (256-tau+t) 544 (bl B tau t).2=544 then 0 else 1:=by
 have h1:=xtj B tau t (by omega) (256-tau+t) (iM _);have h2:=xps B (256-tau+t) 544 (bl B tau t).2 (by omega);have h3:=(xlu B (256-tau+t) 544 (bl B tau t).2 (xkh B tau t)).2;rw[bl];obtain⟨a,ha⟩:=aP (nx B (256-tau+t) 544 (bl B tau t).2);obtain⟨h,hh⟩:=aP ((bl B tau t).1);obtain⟨i,hi⟩:=aP (256-tau+t);rw[ha]at h2 h3;rw[hh,hi]at h1;rw[hi]at h2;rw[hi,show nx B i 544 (bl B tau t).2=a by rw[<-hi];exact ha,hh];by_cases e:a=544
 ·simp only[iP e,mX]
 ·simp only[iQ e];obtain⟨k,hk⟩:=aP (by' B a);rw[hk]at h2 ⊢;have u1:=xpt h i (h k) 256 (by omega);have u2:=xpt (upd h i (h k)) k (sgn B t) 256 (by omega);have e1:upd h i (h k) k=h k:=by
   unfold upd;split
   ·rfl
   ·rfl
  have e2:sgn B t≠0:=by rcases xrg B t with h | h<;>rw[h]<;>decide
  rw[e1,iQ e2]at u2;rw[iP h1]at u1;show nz (upd (upd h i (h k)) k (sgn B t)) 256=nz h 256+1;omega
theorem bl_nz(B:List Nat)(tau t:Nat)(ht:t<=tau)(h64:tau<=256):nz (bl B tau t).1 256<=t:=by
 induction t with
 | zero=>exact mS (xpu 256)
 | succ t ih=>
  have:=ih (by omega);rw[xtk B tau t (by omega) h64];split<;>omega
def ball(B:List Nat)(tau:Int):Nat->Int:=if 1<=tau/\tau<=64 then (bl B tau.toNat tau.toNat).1 else fun _=>0
theorem xh7(B:List Nat)(tau:Nat)(h1 : 1<=tau)(h2:tau<=64):ball B (tau:Int)=(bl B tau tau).1:=by
 unfold ball;rw[iP ⟨by omega,by omega⟩,kL]
theorem xkd(B:List Nat)(tau:Int)(h:¬ (1<=tau/\tau<=64)):ball B tau=fun _=>0:=by unfold ball;rw[iQ h]
theorem xtd(B:List Nat)(tau:Int)(i:Nat):tre (ball B tau i):=by
 unfold ball;split
 ·exact bl_tre _ _ _ i
 ·exact kW rfl
theorem xtc(B:List Nat)(tau:Nat)(h2:tau<=64):nz (ball B (tau:Int)) 256<=tau:=by
 by_cases h1 : 1<=tau
 ·rw[xh7 B tau h1 h2];exact bl_nz B tau tau (iM _) (by omega)
 ·rw[xkd B tau (by omega),xpu];omega
end fL
namespace aV
open arr mem aT
theorem one{w W:G}{x:Obj}(h:w.alloc x=W):W.heap[w.heap.size]? = some x/\W.heap.size=w.heap.size+1/\zb w W:=by
 subst h;exact⟨cM _ _ _ rfl,size_alloc _ _,xby _ _⟩
theorem two{w W:G}{x y:Obj}(h:(w.alloc x).alloc y=W):W.heap[w.heap.size]? = some x/\W.heap[w.heap.size+1]? = some y/\W.heap.size=w.heap.size+2/\zb w W:=by
 subst h;refine⟨?_,cM _ _ _ (by rw[size_alloc]),by rw[size_alloc,size_alloc],((iR _ _).alloc (iM _) _).alloc (by rw[size_alloc];omega) _⟩;rw[fF _ _ _ (by rw[size_alloc];omega),cM _ _ _ rfl]
theorem three{w W:G}{x y z:Obj}(h:((w.alloc x).alloc y).alloc z=W):W.heap[w.heap.size]? = some x/\W.heap[w.heap.size+1]? = some y/\W.heap[w.heap.size+2]? = some z/\W.heap.size=w.heap.size+3/\zb w W:=by
 obtain⟨h1,h2,h3,h4⟩:=two (w:=w) (x:=x) (y:=y) rfl;subst h;refine⟨?_,?_,cM _ _ _ h3.symm,by rw[size_alloc,h3],h4.alloc (by rw[h3];omega) _⟩
 ·rw[fF _ _ _ (by omega),h1]
 ·rw[fF _ _ _ (by omega),h2]
theorem xcv{w w':G}{B e size n:Nat}{v:aE}{xs:List aE}(h:w.ownsRow B e size v n xs)(hb:zb w w'):w'.ownsRow B e size v n xs:=
 ⟨h.1,h.2.imp id fun ⟨g,cap,cur,hv,hbb,hg,r⟩=>⟨g,cap,cur,hv,hbb,(hb.block g (bI hg)).trans hg,r⟩⟩
theorem xdw{w:G}{F:Array aE}{T j:Nat}{u:aE}(hu:F.toList[j]? = some u):(w.alloc (.cells F T)).cell? ((⟨w.heap.size,0,none⟩:Addr).add j)=some u:=by
 rw[Addr.add_mid,kP];exact aZ (cM _ _ _ rfl) (by simpa using hu)
theorem xek{F:Array aE}(h:F.all (·.oneCell')=true):∀ u∈F.toList,u.oneCell'=true:=fun u hu=>(kM.1 h) u (by simpa using hu)
theorem xfo(F cells:Array aE)(hF:F.size=256)(hc:cells.size=256):Instr.fill (fun i=>some (i*256,256)) cells [(0,.agg F)]=some F:=by
 have h:=Great.fill_whole (s:=256) (by decide) [Value.agg F] cells (by intro v hv;simp at hv;subst hv;exact hF) (by simp[hc]);have e:(([Value.agg F].flatMap fun v=>v.cells.toList).toArray)=F:=by simp[Value.cells]
 rw[e]at h;exact h
theorem xfp(F cells:Array aE)(hF:F.size=256)(hc:cells.size=256):Array.foldl (fun (cs:Array aE) (x:aE × Nat)=>cs.setIfInBounds x.snd x.fst) cells F.zipIdx 0 F.size=F:=by
 have h:=xfo F cells hF hc;simpa [Instr.fill,Value.cells,hF,hc] using h
theorem iC{P:aI}{e:aH}{z:aE}{s b:Nat}(h:(P.info? e).map (fun i=>(i.zero,i.size,i.bytes))=some (some z,s,b)):∃ i,P.info? e=some i/\i.zero=some z/\i.size=s/\i.bytes=b:=by
 cases hi:P.info? e with
 | none=>rw[hi]at h;cases h
 | some i=>
  rw[hi]at h;simp only[nU,mT,Prod.mk.injEq]at h;exact⟨i,rfl,h.1,h.2.1,h.2.2⟩
theorem aX:(aO.info? 76).map (fun i=>(i.zero,i.size))=some (some (.agg (FL .i64 256 fun _=>0)),256):=by kernel_rfl
theorem bX:(aO.info? 76).map (fun i=>(i.zero,i.size,i.bytes))=some (some (.agg (FL .i64 256 fun _=>0)),256,2048):=by kernel_rfl
def same(n:Nat)(x y:Nat->Int):Bool:=decide (∀ i,i<n->x i=y i)
theorem same_iff(n:Nat)(x y:Nat->Int):same n x y=true↔∀ i,i<n->x i=y i:=by unfold same;exact decide_eq_true_iff
theorem xuf{P:aI}{t e:aH}{n:Nat}{k:IntKind}(ht:P.underlying t=some (.array n e))(hi:(P.info? e).map (·.size)=some 1)(hc:P.cellsOf e=1)(he:P.underlying e=some (.int k))(x y:Nat->Int)(w:G):
 (Op.equalIn 10000 t (.agg (FL k n x)) (.agg (FL k n y))).run P w=.ok (same n x y) w:=by
 have h:=eq_fl ht hi hc he x y w;rw[run_eql_struct]at h;cases hq:(Op.equalIn 10000 t (.agg (FL k n x)) (.agg (FL k n y))).run P w with
 | ok b w'=>
  rw[hq]at h;simp only[kQ,Result.ok.injEq,Value.bool.injEq]at h;obtain⟨rfl,rfl⟩:=h;rfl
 | halt a b=>rw[hq]at h;simp[Result.andThen]at h
theorem xue(x y:Nat->Int)(w:G):(Op.equalIn 10000 76 (.agg (FL .i64 256 x)) (.agg (FL .i64 256 y))).run aO w=.ok (same 256 x y) w:=
 xuf zX (by kernel_rfl) (by kernel_rfl) (by kernel_rfl) x y w
def p1(a:Int):Nat->Int:=upd (fun _=>0) 0 a
def p2(a b:Int):Nat->Int:=upd (upd (fun _=>0) 0 a) 1 b
theorem built1(a:Int):aO.built 76 [(0,.int .i64 a)]=some (FL .i64 256 (p1 a)):=by kernel_rfl
theorem built2(a b:Int):aO.built 76 [(0,.int .i64 a),(1,.int .i64 b)]=some (FL .i64 256 (p2 a b)):=by kernel_rfl
theorem xsj{P:aI}{ops:Array Oper}{rest:List Oper}{o:Oper}{a:Act}{w:G}{Q:Exit->Act->G->Prop}(hg:o.guard=none)(t:aH)(parts:Array (Nat × Operand))(ho:o.op=.build t parts)
 (C:Array aE) (hC:P.built t (parts.map fun (i,x)=>(i,a.eval x)).toList=some C) (h:wpList P ops Q rest (a.put o.dst (.agg C)) w):wpList P ops Q (o :: rest) a w:=
 wpList_build hg t _ ho (by rw[hC];rfl) (by rw[hC];exact h)
theorem xu6{P:aI}{t e:aH}{n:Nat}(hu:P.underlying t=some (.array n e))(he:P.plainKey e=true)(hi0:(P.info? e).isSome=true)(hc:P.cellsOf e=1)(C:Array aE)(v:aE)(k:Nat)(hk:k<n)(hx:C[k]? = some v)(w:G):
 (aN t (.agg C) (.int .i64 (k:Int))).run P w=.ok v w:=by
 obtain⟨i,hi⟩:=nR.1 hi0;have h1:(0:Int)<=(k:Int)/\(k:Int)<(n:Int):=⟨by omega,by omega⟩;unfold aN;simp only[asIntOf,lQ,mR,run_underlying hu,kQ,iP h1,run_sizeOf w hi,hc,oA,kL];exact run_part_plain w he hx
theorem xev(f:Nat->Int)(k:Nat)(hk:k<256)(w:G):(aN 76 (.agg (FL .i64 256 f)) (.int .i64 (k:Int))).run aO w=.ok (.int .i64 (f k)) w:=
 xu6 zX (by kernel_rfl) (by kernel_rfl) (by kernel_rfl) _ _ k hk (xba .i64 256 f k hk) w
end aV
namespace bS
open arr mem aT aY bC gE
def RW(m:Nat)(p:Nat->Nat->Int):Array aE:=FL .i64 (256*m) (fun j=>p (j / 256) (j%256))
theorem xe8(m:Nat)(p:Nat->Nat->Int):(RW m p).size=256*m:=cC _ _ _
theorem rw_set(m:Nat)(p:Nat->Nat->Int)(i b:Nat)(hb:b<256)(v:Int):(RW m p).setIfInBounds (256*i+b) (.int .i64 v)=RW m (fun i'=>if i'=i then upd (p i) b v else p i'):=by
 unfold RW;rw[eV];refine xc1 _ _ fun j _=>?_
 show upd (fun j=>p (j / 256) (j%256)) (256*i+b) v j=(if j / 256=i then upd (p i) b v else p (j / 256)) (j%256);unfold upd;by_cases e:j=256*i+b
 ·subst e;rw[iP rfl,iP (by omega)];show v=if (256*i+b)%256=b then v else _
  rw[iP (by omega)]
 ·rw[iQ e];by_cases e2:j / 256=i
  ·rw[iP e2];show p (j / 256) (j%256)=if j%256=b then v else _
   rw[iQ (by omega),e2]
  ·rw[iQ e2]
theorem xq6{w:G}{g:Nat}{t:aH}{m:Nat}{p:Nat->Nat->Int}(h:w.heap[g]? = some (.cells (RW m p) t (0,0)))(i k:Nat)(hi:i<m)(hk:k<256):w.cell? ⟨g,256*i+k,none⟩=some (.int .i64 (p i k)):=by
 have h1:=fZ h (256*i+k) (by omega);rw[show (256*i+k) / 256=i by omega,show (256*i+k)%256=k by omega]at h1;exact h1
theorem xo9(m:Nat):madeCells (FL .i64 256 fun _=>0) (m*256)=RW m (fun _ _=>0):=by
 apply Array.ext (by rw[size_madeCells,xe8];omega);intro i h1 h2;have hi:i<256*m:=by rw[xe8]at h2;exact h2
 have e2:=xba .i64 (256*m) (fun _=>0) i hi;have e3:(RW m (fun _ _=>0))[i]? = some (.int .i64 0):=e2;rw[kC h2]at e3;rw[kF e3];have e4:=xba .i64 256 (fun _=>0) (i%256) (by omega);simp only[madeCells,Array.getElem_map,Array.getElem_range,cC];rw[getElem!_def,e4]
def Holds(w:G)(B:Nat)(v:aE)(m:Nat)(p:Nat->Nat->Int):Prop:=
 ∃ g c,v=.slice (some ⟨g,0,none⟩) m c/\B<=g/\g<w.heap.size/\∀ i,i<m->∀ k,k<256->w.cell? ⟨g,256*i+k,none⟩=some (.int .i64 (p i k))
theorem xkq(β : Nat->Nat)(om m:Nat):(cl β om m).length=256*m:=by
 induction m with
 | zero=>rfl
 | succ m ih=>rw[cl,kK,ih,jM,cC];omega
theorem cl_get(β : Nat->Nat)(om m:Nat):∀ i,i<m->∀ k,k<256->(cl β om m)[256*i+k]? = some (.int .i64 (ply β om i k)):=by
 induction m with
 | zero=>intro i h;omega
 | succ m ih=>
  intro i hi k hk;rw[cl];by_cases e:i=m
  ·subst e;rw[lR (by rw[xkq];omega),xkq,show 256*i+k-256*i=k by omega];have:=xba .i64 256 (ply β om i) k hk;simpa using this
  ·rw[mC (by rw[xkq];omega)];exact ih i (by omega) k hk
theorem xe4{w:G}{B:Nat}{e:aH}{v:aE}{β : Nat->Nat}{om m:Nat}(hm : 1<=m)(h:w.ownsRow B e 256 v m (cl β om m)):Holds w B v m (ply β om):=by
 obtain⟨g,cap,rfl⟩:=bA.xbu (by omega) h;have hb:=h.lt g rfl;refine⟨g,cap,rfl,hb.1,hb.2,fun i hi k hk=>?_⟩;rw[h.cellAt (256*i+k) (by omega)];exact cl_get β om m i hi k hk
theorem Holds.later{w w':G}{B:Nat}{v:aE}{m:Nat}{p:Nat->Nat->Int}(h:Holds w B v m p)(hb:zb w w'):Holds w' B v m p:=by
 obtain⟨g,c,hv,h1,h2,h3⟩:=h;exact⟨g,c,hv,h1,iZ h2 hb.size,fun i hi k hk=>(hb.cell (p:=⟨g,256*i+k,none⟩) h2).trans (h3 i hi k hk)⟩
theorem Holds.range{w:G}{g:Nat}{p:Nat->Nat->Int}{i:Nat}(h:∀ k,k<256->w.cell? ⟨g,256*i+k,none⟩=some (.int .i64 (p i k))):w.rangeAt g (256*i) (FL .i64 256 (p i)).toList:=by
 intro j v hv;have hj:j<256:=by
  have:=(List.getElem?_eq_some_iff.1 hv).1;rwa [jM,cC]at this
 have h2:=xba .i64 256 (p i) j hj;have hv2:(FL .i64 256 (p i))[j]? = some v:=by simpa using hv
 rw[h2]at hv2;rw[h j hj,hv2]
theorem xen(s:ByteArray)(a b j:Nat)(hj:j<b-a):(aU (s.extract a b)).getD j 0=(aU s).getD (a+j) 0:=by
 unfold aU;rw[Lib.extract_eq];simp only[iO,mU,List.getElem?_take,List.getElem?_drop];rw[iP hj]
theorem size_extract(s:ByteArray)(a b:Nat)(hab:a<=b)(hb:b<=s.size):(s.extract a b).size=b-a:=by
 rw[kE];omega
end bS
namespace polb
open arr mem aT bS
def pair(f g:Nat->Int):Nat->Nat->Int:=fun i=>if i=0 then f else g
end polb
namespace bQ
open arr mem aT aY bC bS
def cq(q:Nat->Nat->Int):Nat->List aE
 | 0=>[]
 | n+1=>cq q n++(FL .i64 256 (q n)).toList
theorem xks(q:Nat->Nat->Int)(m:Nat):(cq q m).length=256*m:=by
 induction m with
 | zero=>rfl
 | succ m ih=>rw[cq,kK,ih,jM,cC];omega
theorem cq_get(q:Nat->Nat->Int)(m:Nat):∀ i,i<m->∀ k,k<256->(cq q m)[256*i+k]? = some (.int .i64 (q i k)):=by
 induction m with
 | zero=>intro i h;omega
 | succ m ih=>
  intro i hi k hk;rw[cq];by_cases e:i=m
  ·subst e;rw[lR (by rw[xks];omega),xks,show 256*i+k-256*i=k by omega];have:=xba .i64 256 (q i) k hk;simpa using this
  ·rw[mC (by rw[xks];omega)];exact ih i (by omega) k hk
theorem xe4{w:G}{B:Nat}{e:aH}{v:aE}{q:Nat->Nat->Int}{m:Nat}(hm : 1<=m)(h:w.ownsRow B e 256 v m (cq q m)):Holds w B v m q:=by
 obtain⟨g,cap,rfl⟩:=bA.xbu (by omega) h;have hb:=h.lt g rfl;refine⟨g,cap,rfl,hb.1,hb.2,fun i hi k hk=>?_⟩;rw[h.cellAt (256*i+k) (by omega)];exact cq_get q m i hi k hk
theorem xp7{w:G}{B B' e size n:Nat}{v:aE}{xs:List aE}(h:w.ownsRow B e size v n xs)(hb:B'<=B):w.ownsRow B' e size v n xs:=
 ⟨h.1,h.2.imp id fun ⟨g,cap,cur,hv,hbb,r⟩=>⟨g,cap,cur,hv,jJ hb hbb,r⟩⟩
def tw(b:ByteArray)(x y:Nat):ByteArray:=b++⟨#[UInt8.ofNat x,UInt8.ofNat y]⟩
theorem xhv(b:ByteArray)(x y:Nat):(tw b x y).size=b.size+2:=by unfold tw;rw[jS];rfl
end bQ
namespace fO
open arr mem aT bS bQ
def dO(w:G)(B:Nat)(skip:Option Nat)(vs:List aE)(ln:Nat)(p:Nat->Nat->Nat->Int):Prop:=
 ∀ i v,vs[i]? = some v->∃ g c,v=.slice (some ⟨g,0,none⟩) ln c/\B<=g/\g<w.heap.size/\some g≠skip/\∀ s,s<ln->∀ k,k<256->w.cell? ⟨g,256*s+k,none⟩=some (.int .i64 (p i s k))
theorem xq4(w:G)(B:Nat)(skip:Option Nat)(ln:Nat)(p:Nat->Nat->Nat->Int):dO w B skip [] ln p:=fun i v h=>by simp at h
theorem dO.grown{w w':G}{B ln:Nat}{skip skip':Option Nat}{vs:List aE}{p:Nat->Nat->Nat->Int}(h:dO w B skip vs ln p)(hg:w.grownBy w' skip)(hs:skip'=skip\/skip'=some w.heap.size):dO w' B skip' vs ln p:=fun i v hv=>by
 obtain⟨g,c,e,h1,h2,h3,h4⟩:=h i v hv;refine⟨g,c,e,h1,iZ h2 hg.size,?_,fun s hs k hk=>hg.cell (h4 s hs k hk) h3⟩;rcases hs with rfl | rfl
 ·exact h3
 ·intro e2;injection e2 with e2;omega
theorem dO.later{w w':G}{B ln:Nat}{skip:Option Nat}{vs:List aE}{p:Nat->Nat->Nat->Int}(h:dO w B skip vs ln p)(hb:zb w w'):dO w' B skip vs ln p:=fun i v hv=>by
 obtain⟨g,c,e,h1,h2,h3,h4⟩:=h i v hv;exact⟨g,c,e,h1,iZ h2 hb.size,h3,fun s hs k hk=>(hb.cell (p:=⟨g,256*s+k,none⟩) h2).trans (h4 s hs k hk)⟩
theorem dO.base{w:G}{B B' ln:Nat}{skip:Option Nat}{vs:List aE}{p:Nat->Nat->Nat->Int}(h:dO w B skip vs ln p)(hb:B'<=B):dO w B' skip vs ln p:=fun i v hv=>by
 obtain⟨g,c,e,h1,r⟩:=h i v hv;exact⟨g,c,e,jJ hb h1,r⟩
theorem dO.snoc{w:G}{B B' ln:Nat}{x y:aE}{vs:List aE}{p:Nat->Nat->Nat->Int}(h:dO w B x.ownBlock vs ln p)(hy:Holds w B' y ln (p vs.length))(hB:B<=B')(hx:∀ k,x.ownBlock=some k->k<B'):dO w B x.ownBlock (vs ++ [y]) ln p:=fun i v hv=>by
 by_cases e:i<vs.length
 ·exact h i v (by rwa [mC e]at hv)
 ·have e2:i=vs.length:=by
   have:=(List.getElem?_eq_some_iff.1 hv).1;rw[kK,List.length_singleton]at this;omega
  subst e2;rw[lR (iM _),mW]at hv;have e3:y=v:=by simpa using hv
  subst e3;obtain⟨g,c,e,h1,h2,h3⟩:=hy;exact⟨g,c,e,by omega,h2,fun e4=>by have:=hx g e4.symm;omega,h3⟩
theorem holds_one{w:G}{B m:Nat}{v:aE}{p:Nat->Nat->Int}(h:Holds w B v m p):v.oneCell'=true:=by
 obtain⟨g,c,rfl,-⟩:=h;rfl
end fO
namespace floa
variable {P:aI} {ops:Array Oper} {md:Region.Mode} {w:G}
def seqD(md:Region.Mode)(ops:Array Oper):List Nat->Array Bool->Bool
 | [],listed=>(aK md ops listed).isEmpty
 | k :: ks,listed=>decide (aK md ops listed=[k]) && seqD md ops ks (listed.setIfInBounds k true)
def lexD(md:Region.Mode)(ops:Array Oper)(tl:List Nat):List Nat->Array Bool->Bool
 | [],listed=>seqD md ops tl listed
 | k :: ks,listed=>(aK md ops listed).contains k && Region.free md ops listed k && lexD md ops tl ks (listed.setIfInBounds k true)
def sinkD(md:Region.Mode)(ops:Array Oper)(hd:List Nat)(t0:Nat):Bool:=
 hd.all fun i=>(t0 :: hd).any fun j=>decide (i<j) && Region.waitsFor md ops j i
def chainD(md:Region.Mode)(ops:Array Oper):Nat->List Nat->Bool
 | _,[]=>true
 | t,u :: us=>Region.waitsFor md ops u t && chainD md ops u us
def closedD(md:Region.Mode)(ops:Array Oper)(listed:Array Bool):Bool:=
 (List.range ops.size).all fun j => !listed.getD j false || match ops[j]? with
  | some o=>o.after.all fun e => !Region.binds md e || listed.getD e.on false
  | none=>true
def partsD(ops:Array Oper)(listed:Array Bool)(hd tl:List Nat):Bool:=
 decide (listed.size=ops.size) && (tl.all fun t => !hd.contains t && !listed.getD t true && decide (t<ops.size)) && (List.range ops.size).all fun j=>hd.contains j || tl.contains j || listed.getD j true
def allD(md:Region.Mode)(ops:Array Oper)(listed:Array Bool)(hd:List Nat)(t0:Nat)(ts:List Nat):Bool:=
 Region.noSelect ops && partsD ops listed hd (t0 :: ts) && closedD md ops listed && sinkD md ops hd t0 && chainD md ops t0 ts && lexD md ops (t0 :: ts) hd listed
structure InvD (md:Region.Mode) (ops:Array Oper) (hd tl:List Nat) (listed:Array Bool):Prop where
 size:listed.size=ops.size
 closed:∀ j oj,ops[j]? = some oj->listed.getD j false=true->∀ e∈oj.after,Region.binds md e=true->listed.getD e.on false=true
 tail:∀ t∈tl,listed.getD t true=false
 all:∀ j,j<ops.size->j∈hd\/j∈tl\/listed.getD j true=true
theorem InvD.set{hd tl:List Nat}{i:Nat}{listed:Array Bool}(inv:InvD md ops hd tl listed)(hi:i∈aK md ops listed)(hin:i ∉ tl):InvD md ops hd tl (listed.setIfInBounds i true):=by
 obtain⟨_,oi,hoi,hall⟩:=mD.1 hi;have hlt:i<ops.size:=(jW.1 hoi).1;refine⟨by simp[inv.size],fun j oj hj hl e he hb=>?_,fun t ht=>?_,fun j hj=>?_⟩
 ·by_cases hij:i=j
  ·subst hij;obtain rfl:oj=oi:=kF (hj.symm.trans hoi);exact getD_set_true (hall e he hb)
  ·rw[lM false hij]at hl;exact getD_set_true (inv.closed j oj hj hl e he hb)
 ·have hne:i≠t:=fun h=>hin (by rw[h];exact ht)
  rw[lM true hne];exact inv.tail t ht
 ·by_cases hij:i=j
  ·subst hij;refine kO (kO ?_);have hs:i<listed.size:=by rw[inv.size];exact hlt
   simp[hs]
  ·rw[lM true hij];exact inv.all j hj
theorem waits{hd:List Nat}{t0:Nat}{ts:List Nat}{listed:Array Bool}(hs:sinkD md ops hd t0=true)(hc:chainD md ops t0 ts=true)(inv:InvD md ops hd (t0 :: ts) listed)(hhd:∀ j∈hd,j<ops.size):
 ∀ (d i:Nat),i∈hd->ops.size-i=d->listed.getD i true=false->∀ t∈t0 :: ts,t ∉ aK md ops listed:=by
 have notyet:∀ (j i:Nat),Region.waitsFor md ops j i=true->listed.getD i true=false->j ∉ aK md ops listed/\listed.getD j false=false:=by
  intro j i hw hu;obtain⟨oj,hoj,e,he,hb,hon⟩:=Region.waitsFor_spec hw;constructor
  ·intro hr;obtain⟨_,o',ho',hall⟩:=mD.1 hr;obtain rfl:oj=o':=kF (hoj.symm.trans ho');have h2:=hall e he hb;rw[hon,getD_both hu]at h2;cases h2
  ·cases hl:listed.getD j false with
   | false=>rfl
   | true=>
    have h2:=inv.closed j oj hoj hl e he hb;rw[hon,getD_both hu]at h2;cases h2
 have first:∀ (d i:Nat),i∈hd->ops.size-i=d->listed.getD i true=false->t0 ∉ aK md ops listed:=by
  intro d;induction d using Nat.strongRecOn with
  | _ d ih=>
   intro i hi hd0 hu;obtain⟨j,hj,hj2⟩:=List.any_eq_true.1 (lN.1 hs i hi);simp only[jQ,kN]at hj2;obtain⟨h1,h2⟩:=notyet j i hj2.2 hu;rcases kT.1 hj with h | h
   ·subst h;exact h1
   ·have hjs:=hhd j h;exact ih (ops.size-j) (by omega) j h rfl (getD_in (by rw[inv.size];exact hjs) h2)
 intro d i hi hd0 hu t ht;rcases kT.1 ht with h | h
 ·subst h;exact first d i hi hd0 hu
 ·have go:∀ (us:List Nat) (u:Nat),chainD md ops u us=true->listed.getD u true=false->(∀ x∈us,listed.getD x true=false)->∀ x∈us,x ∉ aK md ops listed:=by
   intro us;induction us with
   | nil=>intro _ _ _ _ x hx;cases hx
   | cons v vs ih=>
    intro u hcu hu' hall x hx;simp only[chainD,jQ]at hcu;rcases kT.1 hx with h | h
    ·subst h;exact(notyet x u hcu.1 hu').1
    ·exact ih v hcu.2 (hall v (by simp)) (fun y hy=>hall y (by simp[hy])) x h
  exact go ts t0 hc (inv.tail t0 (by simp)) (fun x hx=>inv.tail x (by simp[hx])) t h
def wpAnyD(P:aI)(md:Region.Mode)(ops:Array Oper)(w:G)(hd:List Nat)(L:Array Bool->Act->Prop):Nat->Array Bool->Act->Prop
 | 0,listed,a=>L listed a
 | f+1,listed,a=>aK md ops listed≠[]/\∀ i∈aK md ops listed,i∈hd/\stOp P ops w i (wpAnyD P md ops w hd L f (listed.setIfInBounds i true)) a
theorem xpv{hd:List Nat}{g:Nat}{L:Array Bool->Act->Prop}{Q':Exit->Act->G->Prop}(hL:∀ listed a,L listed a->wpAny P md ops Q' g listed a w):
 ∀ (f:Nat) (listed:Array Bool) (a:Act),wpAnyD P md ops w hd L f listed a->wpAny P md ops Q' (f+g) listed a w
 | 0,listed,a,h=>by rw[kP];exact hL _ _ h
 | f+1,listed,a,h=>by
  rw[show f+1+g=(f+g)+1 by omega];exact⟨fun h0=>absurd h0 h.1,fun i hi=>wpOp_of_stOp (fun a' h'=>xpv hL f _ a' h') (h.2 i hi).2⟩
theorem firstD{hd:List Nat}{t0:Nat}{ts:List Nat}{i:Nat}{oi:Oper}{v:aE}{L:Array Bool->Act->Prop}(hi:ops[i]? = some oi)(hsel:∀ (j:Nat) (o:Oper) cs b,ops[j]? = some o->o.op≠.select cs b)
 (hs:sinkD md ops hd t0=true) (hc:chainD md ops t0 ts=true) (hhd:∀ j∈hd,j<ops.size) (hdis:∀ t∈t0 :: ts,t ∉ hd) (hin:i∈hd)
 (hdone:∀ listed a,L listed a->∀ j∈aK md ops listed,j ∉ hd):
 ∀ (f:Nat) (listed:Array Bool) (a:Act),InvD md ops hd (t0 :: ts) listed ->
  (∀ j oj,ops[j]? = some oj->j≠i->listed.getD j true=false->(∀ e∈oj.after,Region.binds md e=true->e.on≠i)->oi.apart ops oj=true) ->
  i∈aK md ops listed->YieldsAt P ops w oi v a ->
  wpAnyD P md ops w hd L f (listed.setIfInBounds i true) (a.put oi.dst v)->wpAnyD P md ops w hd L (f+1) listed a:=by
 have inhd:∀ (listed:Array Bool),InvD md ops hd (t0 :: ts) listed->i∈aK md ops listed->∀ j∈aK md ops listed,j∈hd:=by
  intro listed inv hr j hj;obtain⟨hju,oj,hoj,_⟩:=mD.1 hj;rcases inv.all j (jW.1 hoj).1 with h | h | h
  ·exact h
  ·exact absurd hj (waits hs hc inv hhd _ i hin rfl (mD.1 hr).1 j h)
  ·rw[hju]at h;cases h
 intro f;induction f with
 | zero=>
  intro listed a inv _ hr hy H;refine⟨fun h=>(by rw[h]at hr;cases hr),fun j hj=>?_⟩;have hjh:=inhd listed inv hr j hj;refine⟨hjh,?_⟩;by_cases hji:j=i
  ·subst hji;exact hy.stOp hi H
  ·exact absurd hjh (hdone _ _ H j (nB hj hji))
 | succ f ih=>
  intro listed a inv hfree hr hy H;refine⟨fun h=>(by rw[h]at hr;cases hr),fun j hj=>?_⟩;have hjh:=inhd listed inv hr j hj;refine⟨hjh,?_⟩;by_cases hji:j=i
  ·subst hji;exact hy.stOp hi H
  ·have h1:=(H.2 j (nB hj hji)).2;obtain⟨hjun,oj,hoj,hall⟩:=mD.1 hj;have hnot:∀ e∈oj.after,Region.binds md e=true->e.on≠i:=fun e he hb heq=>by
    have h1:=hall e he hb;rw[heq,getD_both (mD.1 hr).1]at h1;cases h1
   have h2:=stOp_put hoj (hfree j oj hoj hji hjun hnot) (fun cs b=>hsel i oi cs b hi) (fun cs b=>hsel j oj cs b hoj) hy h1;have hfree':∀ k ok,ops[k]? = some ok->k≠i->(listed.setIfInBounds j true).getD k true=false ->
    (∀ e∈ok.after,Region.binds md e=true->e.on≠i)->oi.apart ops ok=true:=fun k ok hk hki hun hno=>by
    refine hfree k ok hk hki ?_ hno;by_cases hjk:j=k
    ·subst hjk;exact hjun
    ·rw[lM true hjk]at hun;exact hun
   refine stOp_mono (fun a' h3=>ih (listed.setIfInBounds j true) a' (inv.set hj (fun h=>hdis j h hjh)) hfree' (nB hr (Ne.symm hji)) h3.1 ?_) h2;rw[mP _ _ hji];exact h3.2
def pick(l:List Oper)(ks:List Nat):List Oper:=ks.filterMap fun k=>l[k]?
theorem xo0{hd:List Nat}{t0:Nat}{ts:List Nat}{Lq:Act->Prop}{l:List Oper}(hsel:Region.noSelect l.toArray=true)(hs:sinkD md l.toArray hd t0=true)(hc:chainD md l.toArray t0 ts=true)
 (hhd:∀ j∈hd,j<l.toArray.size) (hdis:∀ t∈t0 :: ts,t ∉ hd):
 ∀ (ks:List Nat) (listed:Array Bool) (a:Act),(∀ k∈ks,k∈hd)->InvD md l.toArray hd (t0 :: ts) listed->lexD md l.toArray (t0 :: ts) ks listed=true->wpStill P l.toArray w Lq (pick l ks) a ->
 wpAnyD P md l.toArray w hd (fun listed' a'=>seqD md l.toArray (t0 :: ts) listed'=true/\Lq a') ks.length listed a
 | [],listed,a,_,_,hB,h=>⟨hB,h⟩
 | k :: ks,listed,a,hk,inv,hB,h=>by
  simp only[lexD,jQ]at hB;obtain⟨⟨hr,hf⟩,hB'⟩:=hB;have hr':k∈aK md l.toArray listed:=by simpa using hr
  obtain⟨_,o,ho,_⟩:=mD.1 hr';have hkh:k∈hd:=hk k (by simp);have ho':l[k]? = some o:=by simpa using ho
  have hst:stOp P l.toArray w k (wpStill P l.toArray w Lq (pick l ks)) a:=by
   unfold stOp;simp only[ho];have e:pick l (k :: ks)=o :: pick l ks:=by unfold pick;rw[jT,ho']
   rw[e]at h;exact h
  obtain⟨v,hy,hK⟩:=yieldsAt_of_stOp ho hst;refine firstD ho (nJ hsel) hs hc hhd hdis hkh (fun listed' a' hL j hj=>?_) ks.length listed a inv (Region.free_spec ho hf) hr' hy
   (xo0 hsel hs hc hhd hdis ks _ _ (fun x hx=>hk x (by simp[hx])) (inv.set hr' (fun h=>hdis k h hkh)) hB' hK)
  have h1:=hL.1;simp only[seqD,jQ,kN]at h1;rw[h1.1]at hj;rw[List.mem_singleton.1 hj];exact hdis t0 (by simp)
theorem xpw{Q':Exit->Act->G->Prop}{l:List Oper}:∀ (ks:List Nat) (listed:Array Bool) (a:Act) (w:G),(∀ k∈ks,k<l.toArray.size) ->
 seqD md l.toArray ks listed=true->wpList P l.toArray Q' (pick l ks) a w->wpAny P md l.toArray Q' ks.length listed a w
 | [],listed,a,w,_,hB,h=>⟨by simpa [seqD] using hB,h⟩
 | k :: ks,listed,a,w,hlt,hB,h=>by
  obtain⟨o,ho⟩:∃ o,l.toArray[k]? = some o:=⟨_,kC (hlt k (by simp))⟩;have ho':l[k]? = some o:=by simpa using ho
  have e:pick l (k :: ks)=o :: pick l ks:=by unfold pick;rw[jT,ho']
  rw[e]at h;simp only[seqD,jQ,kN]at hB;refine⟨fun h1=>(by rw[hB.1]at h1;cases h1),fun i hi=>?_⟩;rw[hB.1]at hi;obtain rfl:i=k:=by simpa using hi
  have hw:wpOp P l.toArray Q' i (wpList P l.toArray Q' (pick l ks)) a w:=by unfold wpOp;simp only[ho];exact h
  exact wpOp_mono (fun a' w' h'=>xpw ks _ a' w' (fun x hx=>hlt x (by simp[hx])) hB.2 h') hw
theorem xkc{Q:Exit->Act->G->Prop}{l:List Oper}{listed:Array Bool}{a:Act}{n:Nat}(hd:List Nat)(t0:Nat)(ts:List Nat)(hn:n=hd.length+(t0 :: ts).length)(hB:allD md l.toArray listed hd t0 ts=true)
 (h:wpStill P l.toArray w (fun a'=>wpList P l.toArray Q (pick l (t0 :: ts)) a' w) (pick l hd) a):wpAny P md l.toArray Q n listed a w:=by
 subst hn;simp only[allD,jQ]at hB;obtain⟨⟨⟨⟨⟨hsel,hp⟩,hcl⟩,hs⟩,hc⟩,hlex⟩:=hB;simp only[partsD,jQ,kN]at hp;obtain⟨⟨hsz,htl⟩,hall⟩:=hp;have htl':∀ t∈t0 :: ts,t ∉ hd/\listed.getD t true=false/\t<l.toArray.size:=fun t ht=>by
  have h1:=lN.1 htl t ht;simp only[jQ,nT,kN]at h1;exact⟨by simpa using h1.1.1,h1.1.2,h1.2⟩
 have hhd:∀ j∈hd,j<l.toArray.size:=by
  have go:∀ (ks:List Nat) (listed:Array Bool),lexD md l.toArray (t0 :: ts) ks listed=true->∀ j∈ks,j<l.toArray.size:=by
   intro ks;induction ks with
   | nil=>intro _ _ j hj;cases hj
   | cons k ks ih=>
    intro listed hB j hj;simp only[lexD,jQ]at hB;rcases kT.1 hj with h | h
    ·subst h;have hr':j∈aK md l.toArray listed:=by simpa using hB.1.1
     obtain⟨_,o,ho,_⟩:=mD.1 hr';exact(jW.1 ho).1
    ·exact ih _ hB.2 j h
  exact go hd listed hlex
 have inv:InvD md l.toArray hd (t0 :: ts) listed:=by
  refine⟨hsz,fun j oj hj hl e he hb=>?_,fun t ht=>(htl' t ht).2.1,fun j hj=>?_⟩
  ·have h1:=lN.1 hcl j (lV.2 (jW.1 hj).1);simp only[hl,hj,Bool.not_true,Bool.false_or]at h1;have h2:=(kM.1 h1) e he;simpa [hb] using h2
  ·have h1:=lN.1 hall j (lV.2 hj);simp only[nW]at h1;rcases h1 with (h1 | h1) | h1
   ·exact kW (by simpa using h1)
   ·exact kO (kW (by simpa using h1))
   ·exact kO (kO h1)
 have H:=xo0 (P:=P) (w:=w) hsel hs hc hhd (fun t ht=>(htl' t ht).1) hd listed a (fun k hk=>hk) inv hlex h;exact xpv (fun listed' a' hL=>xpw (t0 :: ts) listed' a' w (fun t ht=>(htl' t ht).2.2) hL.1 hL.2) hd.length listed a H
theorem xkb{id:Nat}{Q:Exit->Act->G->Prop}{a:Act}{l:List Oper}(hm:P.follows .mixedOrders=true)
 (h:wpAny P .any l.toArray Q l.toArray.size (Array.replicate l.toArray.size false) a w.drew):(Code.region id l.toArray true).wp P Q a w:=oC hm h
end floa
namespace rsuni
open arr mem aT aV bC fW
theorem xce(s:ByteArray)(i:Nat):by' (aU s) i<256:=by
 unfold by'
 by_cases hj:i<(aU s).length
 ·rw[iO,iT hj];exact fG s _ (kZ hj)
 ·rw[iO,jY (by omega)];decide
theorem xnn(y:Nat)(h:y<256):bits .and .u8 (y:Int) 127=((y%128:Nat):Int):=by
 show IntKind.u8.wrap ((BitVec.ofInt 8 (y:Int) &&& BitVec.ofInt 8 127).toNat:Int)=_;rw[show (127:Int)=((127:Nat):Int) from rfl,lE,lE,BitVec.toNat_and,lO,lO,jO (by omega),jO (by decide),show 127=2 ^ 7-1 from rfl,Nat.and_two_pow_sub_one_eq_mod,kU];omega
theorem xp3(a b c:Nat)(ha:a<256)(hb:b<256)(hc:c<128):bits .or .i64 (a:Int) ((b*256:Nat):Int)=((a+256*b:Nat):Int)/\bits .or .i64 ((a+256*b:Nat):Int) ((c*65536:Nat):Int)=((a+256*b+65536*c:Nat):Int):=by
 have h1:=xg7 a (b*256) (by omega) (by omega);have h2:=xg7 (a+256*b) (c*65536) (by omega) (by omega);rw[show b*256=b*2 ^ 8 from rfl,xl0 a b 8 ha]at h1;rw[show c*65536=c*2 ^ 16 from rfl,xl0 (a+256*b) c 16 (by omega)]at h2;exact⟨h1,h2⟩
end rsuni
namespace rssma
theorem and_15(y:Nat)(h:y<256):bits .and .u8 (y:Int) 15=((y%16:Nat):Int):=by
 show IntKind.u8.wrap ((BitVec.ofInt 8 (y:Int) &&& BitVec.ofInt 8 15).toNat:Int)=_;rw[show (15:Int)=((15:Nat):Int) from rfl,lE,lE,BitVec.toNat_and,lO,lO,jO (by omega),jO (by decide),show 15=2 ^ 4-1 from rfl,Nat.and_two_pow_sub_one_eq_mod,kU];omega
end rssma
end Go.Proofs.YtomphjajkkddkaaGreatDoor
