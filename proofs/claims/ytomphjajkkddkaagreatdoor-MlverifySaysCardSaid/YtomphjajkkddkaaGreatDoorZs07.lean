/-
  Plain facts on the sponge: bytes of a state, absorbing and squeezing byte by byte, over any permutat
-/
import Derived.Test.YtomphjajkkddkaaGreatDoorZs03
import Derived.Test.YtomphjajkkddkaaGreatDoorZs06
import Derived.Test.YtomphjajkkddkaaGreatDoorProg
import Derived.Test.YtomphjajkkddkaaGreatDoorZs01
import Derived.Test.YtomphjajkkddkaaGreatDoorZs02
import Derived.Test.YtomphjajkkddkaaGreatDoorZs04
import Derived.Test.YtomphjajkkddkaaGreatDoorZs05
import Derived.Deep.MidRow
import Derived.Lib.QuietBelow
import Derived.OwnWalk
import Derived.Lib.ConvBytes
set_option maxRecDepth 100000
set_option maxHeartbeats 16000000
set_option linter.unusedSimpArgs false
set_option linter.unusedVariables false
open Go Go.RowKit
open Go renaming World->G,Calls->aD,Value->aE,TypeId->aH,Program->aI
open Go.RowKit renaming Below->aF,intOf->aG
open Go.Lib renaming byteCells->aJ
open Go.Region renaming wanted->aL
open Go.Instr renaming index->aN
open Go.Value renaming int->O,agg->I,string->E,tuple->aA,slice->aB,pointer->aC
open Go.IntKind renaming i64->J
open Go.Obj renaming cells->Y
open Go.Proofs.Tryz renaming prog->aO
namespace Go.Proofs.YtomphjajkkddkaaGreatDoor
abbrev pA:=@Go.Lib.byteCells_append
namespace cF
open Go.RowKit
open arr bJ
def bG(k:Int):Nat:=if k=1 then 168 else if k=2 then 136 else if k=3 then 136 else if k=4 then 72 else 0
def mark(k:Int):Nat:=if k=1 then 31 else if k=2 then 31 else 6
theorem xjh(k:Int):bG k<=168:=by unfold bG;(repeat' split)<;>decide
theorem xpb(k:Int):mark k<256:=by unfold mark;(repeat' split)<;>decide
def xb(l:List Nat)(i b:Nat):List Nat:=l.set (i / 8) (g l (i / 8) ^^^ (b*2 ^ (8*(i%8))%18446744073709551616))
def gb(l:List Nat)(i:Nat):Nat:=g l (i / 8) / 2 ^ (8*(i%8))%256
theorem gb_lt(l:List Nat)(i:Nat):gb l i<256:=kB _ (by decide)
theorem xk5(l:List Nat)(i j x:Nat):g (l.set i x) j=if j=i/\i<l.length then x else g l j:=by
 unfold g;rw[iO,iO,nS];by_cases h:i=j
 ·subst h;by_cases h2:i<l.length
  ·simp[h2]
  ·rw[iP rfl,iQ h2,iQ (by omega),jY (by omega)]
 ·rw[iQ h,iQ (by omega)]
theorem xcq{l:List Nat}(h:St l)(i b:Nat):St (xb l i b):=⟨by unfold xb;rw[nN,h.len],fun j=>by
 unfold xb;rw[xk5];split
 ·exact xbx _ _ (h.lt _) (kB _ (by decide))
 ·exact h.lt j⟩
structure Sp where
 l:List Nat
 at':Nat
def ab(P:List Nat->List Nat)(r:Nat)(s:Sp)(b:Nat):Sp:=if s.at'+1=r then ⟨P (xb s.l s.at' b),0⟩ else ⟨xb s.l s.at' b,s.at'+1⟩
def abs(P:List Nat->List Nat)(r:Nat)(s:Sp)(bs:List Nat):Sp:=bs.foldl (ab P r) s
theorem xj4(P:List Nat->List Nat)(r:Nat)(s:Sp)(x y:List Nat):abs P r s (x++y)=abs P r (abs P r s x) y:=List.foldl_append
theorem xsu(P:List Nat->List Nat)(r:Nat)(s:Sp)(x:List Nat)(b:Nat):abs P r s (x ++ [b])=ab P r (abs P r s x) b:=xj4 P r s x [b]
theorem ab_ok{P:List Nat->List Nat}(hP:∀ l,St l->St (P l)){r:Nat}{s:Sp}(h:St s.l)(ha:s.at'<r)(b:Nat):St (ab P r s b).l/\(ab P r s b).at'<r:=by
 unfold ab;split
 ·exact⟨hP _ (xcq h _ _),by show 0<r;omega⟩
 ·exact⟨xcq h _ _,by show s.at'+1<r;omega⟩
theorem xh3{P:List Nat->List Nat}(hP:∀ l,St l->St (P l)){r:Nat}(bs:List Nat):∀ {s:Sp},St s.l->s.at'<r->St (abs P r s bs).l/\(abs P r s bs).at'<r:=by
 induction bs with
 | nil=>intro s h ha;exact⟨h,ha⟩
 | cons b bs ih=>intro s h ha;exact ih (s:=ab P r s b) (ab_ok hP h ha b).1 (ab_ok hP h ha b).2
def pad(r m:Nat)(s:Sp):Sp:=⟨xb (xb s.l s.at' m) (r-1) 128,r⟩
theorem xi6{r m:Nat}{s:Sp}(h:St s.l):St (pad r m s).l/\(pad r m s).at'<=r:=⟨xcq (xcq h _ _) _ _,iM _⟩
def tn(P:List Nat->List Nat)(r:Nat)(s:Sp):Sp:=if s.at'=r then ⟨P s.l,0⟩ else s
def nx(P:List Nat->List Nat)(r:Nat)(s:Sp):Sp:=⟨(tn P r s).l,(tn P r s).at'+1⟩
def sk(P:List Nat->List Nat)(r:Nat)(s:Sp):Nat->Sp
 | 0=>s
 | n+1=>nx P r (sk P r s n)
def sb(P:List Nat->List Nat)(r:Nat)(s:Sp)(i:Nat):Nat:=gb (tn P r (sk P r s i)).l (tn P r (sk P r s i)).at'
def sq(P:List Nat->List Nat)(r:Nat)(s:Sp)(n:Nat):List Nat:=(List.range n).map (sb P r s)
theorem xmv(P:List Nat->List Nat)(r:Nat)(s:Sp)(n:Nat):(sq P r s n).length=n:=by simp[sq]
theorem sq_lt(P:List Nat->List Nat)(r:Nat)(s:Sp)(n:Nat):∀ x∈sq P r s n,x<256:=by
 intro x hx;obtain⟨i,-,rfl⟩:=nY.1 hx;exact gb_lt _ _
theorem xe9(P:List Nat->List Nat)(r:Nat)(s:Sp)(n m:Nat):sk P r s (n+m)=sk P r (sk P r s n) m:=by
 induction m with
 | zero=>rfl
 | succ m ih=>rw[<-lX,sk,sk,ih]
theorem sb_add(P:List Nat->List Nat)(r:Nat)(s:Sp)(n i:Nat):sb P r s (n+i)=sb P r (sk P r s n) i:=by unfold sb;rw[xe9]
theorem xjt(P:List Nat->List Nat)(r:Nat)(s:Sp)(n:Nat):sq P r s (n+1)=sq P r s n ++ [sb P r s n]:=by simp[sq,List.range_succ]
theorem xho(P:List Nat->List Nat)(r:Nat)(s:Sp)(n m:Nat):sq P r s (n+m)=sq P r s n++sq P r (sk P r s n) m:=by
 induction m with
 | zero=>simp[sq]
 | succ m ih=>rw[<-lX,xjt,ih,xjt,sb_add,mL]
theorem xm1{P:List Nat->List Nat}(hP:∀ l,St l->St (P l)){r:Nat}{s:Sp}(hr : 0<r)(h:St s.l)(ha:s.at'<=r):St (tn P r s).l/\(tn P r s).at'<r:=by
 unfold tn;split
 ·exact⟨hP _ h,hr⟩
 ·exact⟨h,by omega⟩
theorem xfa{P:List Nat->List Nat}(hP:∀ l,St l->St (P l)){r:Nat}{s:Sp}(hr : 0<r)(h:St s.l)(ha:s.at'<=r)(n:Nat):St (sk P r s n).l/\(sk P r s n).at'<=r:=by
 induction n with
 | zero=>exact⟨h,ha⟩
 | succ n ih=>
  have h1:=xm1 hP hr ih.1 ih.2;exact⟨h1.1,h1.2⟩
theorem byte_at(b k:Nat)(hb:b<256)(hk:k<8):b*2 ^ (8*k)<18446744073709551616:=by
 have h1:b*2 ^ (8*k)<256*2 ^ (8*k):=Nat.mul_lt_mul_of_pos_right hb (kD _);have h2:(256:Nat)*2 ^ (8*k)=2 ^ (8*(k+1)):=by rw[show (256:Nat)=2 ^ 8 from rfl,<-lF];congr 1;omega
 have h3:(2:Nat) ^ (8*(k+1))<=2 ^ 64:=kS (by decide) (by omega);rw[h2]at h1;exact iZ h1 h3
end cF
namespace spmx
open arr bJ cF
def gN(l:List Nat)(p:Nat):List Nat->List Nat
 | []=>l
 | b :: bs=>gN (xb l p b) (p+1) bs
theorem xsk(x y:List Nat):∀ (l:List Nat) (p:Nat),gN l p (x++y)=gN (gN l p x) (p+x.length) y:=by
 induction x with
 | nil=>intro l p;rfl
 | cons b x ih=>
  intro l p;show gN (xb l p b) (p+1) (x++y)=gN (gN (xb l p b) (p+1) x) (p+(b :: x).length) y;rw[ih,mF,show p+1+x.length=p+(x.length+1) by omega]
theorem xnh(bs:List Nat):∀ {l:List Nat} (_:St l) (p:Nat),St (gN l p bs):=by
 induction bs with
 | nil=>intro l h p;exact h
 | cons b bs ih=>intro l h p;exact ih (xcq h p b) (p+1)
theorem xnm(P:List Nat->List Nat)(r:Nat)(bs:List Nat):∀ (l:List Nat) (p:Nat),p+bs.length<r->abs P r ⟨l,p⟩ bs=⟨gN l p bs,p+bs.length⟩:=by
 induction bs with
 | nil=>intro l p _;rfl
 | cons b bs ih=>
  intro l p h;rw[mF]at h;show abs P r (ab P r ⟨l,p⟩ b) bs=_;have e:ab P r ⟨l,p⟩ b=⟨xb l p b,p+1⟩:=by unfold ab;rw[iQ (by show ¬ p+1=r;omega)]
  rw[e,ih _ _ (by omega)];show (⟨_,_⟩:Sp)=⟨gN (xb l p b) (p+1) bs,_⟩;congr 1
  rw[mF];omega
theorem xnl(P:List Nat->List Nat)(r:Nat)(bs:List Nat)(l:List Nat)(p:Nat)(h0:bs≠[])(h:p+bs.length=r):abs P r ⟨l,p⟩ bs=⟨P (gN l p bs),0⟩:=by
 have e:bs=bs.dropLast ++ [bs.getLast h0]:=(List.dropLast_concat_getLast h0).symm;have hl:bs.dropLast.length+1=bs.length:=by
  rw[List.length_dropLast];have:bs.length≠0:=fun h=>h0 (List.eq_nil_of_length_eq_zero h)
  omega
 rw[e,xj4,xnm P r _ l p (by omega),xsk];show ab P r ⟨gN l p bs.dropLast,p+bs.dropLast.length⟩ (bs.getLast h0)=_;unfold ab;rw[iP (by show p+bs.dropLast.length+1=r;omega)];rfl
theorem xe3(a b k:Nat)(h:a<2 ^ k):a ||| b*2 ^ k=a ^^^ b*2 ^ k:=by
 apply Nat.eq_of_testBit_eq;intro i;rw[Nat.testBit_or,Nat.testBit_xor];by_cases hi:i<k
 ·have:(b*2 ^ k).testBit i=false:=by rw[Nat.testBit_mul_two_pow];simp;omega
  rw[this];simp
 ·have:a.testBit i=false:=Nat.testBit_lt_two_pow (iZ h (kS (by decide) (by omega)));rw[this];simp
theorem xe2(a b k j:Nat)(ha:a<2 ^ k)(hb:b<2 ^ j):a ||| b*2 ^ k<2 ^ (k+j):=by
 refine oS (iZ ha (kS (by decide) (by omega))) ?_;rw[mJ k j,lF];exact Nat.mul_lt_mul_of_pos_right hb (kD _)
def w8(b0 b1 b2 b3 b4 b5 b6 b7:Nat):Nat:=b0 ||| b1*2 ^ 8 ||| b2*2 ^ 16 ||| b3*2 ^ 24 ||| b4*2 ^ 32 ||| b5*2 ^ 40 ||| b6*2 ^ 48 ||| b7*2 ^ 56
theorem xne{b0 b1 b2 b3 b4 b5 b6 b7:Nat}(h0:b0<256)(h1:b1<256)(h2:b2<256)(h3:b3<256)(h4:b4<256)(h5:b5<256)(h6:b6<256)(h7:b7<256):
 (b0 ||| b1*2 ^ 8<2 ^ 16/\b0 ||| b1*2 ^ 8 ||| b2*2 ^ 16<2 ^ 24/\b0 ||| b1*2 ^ 8 ||| b2*2 ^ 16 ||| b3*2 ^ 24<2 ^ 32/\b0 ||| b1*2 ^ 8 ||| b2*2 ^ 16 ||| b3*2 ^ 24 ||| b4*2 ^ 32<2 ^ 40 /\
 b0 ||| b1*2 ^ 8 ||| b2*2 ^ 16 ||| b3*2 ^ 24 ||| b4*2 ^ 32 ||| b5*2 ^ 40<2 ^ 48/\b0 ||| b1*2 ^ 8 ||| b2*2 ^ 16 ||| b3*2 ^ 24 ||| b4*2 ^ 32 ||| b5*2 ^ 40 ||| b6*2 ^ 48<2 ^ 56/\w8 b0 b1 b2 b3 b4 b5 b6 b7<18446744073709551616):=by
 have k1:=xe2 b0 b1 8 8 h0 h1;have k2:=xe2 _ b2 16 8 k1 h2;have k3:=xe2 _ b3 24 8 k2 h3;have k4:=xe2 _ b4 32 8 k3 h4;have k5:=xe2 _ b5 40 8 k4 h5;have k6:=xe2 _ b6 48 8 k5 h6;have k7:=xe2 _ b7 56 8 k6 h7;exact⟨k1,k2,k3,k4,k5,k6,k7⟩
theorem w8_xor{b0 b1 b2 b3 b4 b5 b6 b7:Nat}(h0:b0<256)(h1:b1<256)(h2:b2<256)(h3:b3<256)(h4:b4<256)(h5:b5<256)(h6:b6<256)(h7:b7<256):
 w8 b0 b1 b2 b3 b4 b5 b6 b7=b0 ^^^ b1*2 ^ 8 ^^^ b2*2 ^ 16 ^^^ b3*2 ^ 24 ^^^ b4*2 ^ 32 ^^^ b5*2 ^ 40 ^^^ b6*2 ^ 48 ^^^ b7*2 ^ 56:=by
 obtain⟨k1,k2,k3,k4,k5,k6,k7⟩:=xne h0 h1 h2 h3 h4 h5 h6 h7;unfold w8;rw[xe3 _ b7 56 k6,xe3 _ b6 48 k5,xe3 _ b5 40 k4,xe3 _ b4 32 k3,xe3 _ b3 24 k2,xe3 _ b2 16 k1,xe3 b0 b1 8 h0]
theorem xei(l:List Nat)(q i b:Nat)(hb:b<256)(hi:i<8):xb l (8*q+i) b=l.set q (g l q ^^^ b*2 ^ (8*i)):=by
 unfold xb;rw[show (8*q+i) / 8=q by omega,show (8*q+i)%8=i by omega,jO (byte_at b i hb hi)]
theorem xet(l:List Nat)(q x:Nat)(hq:q<l.length):g (l.set q x) q=x:=by rw[xk5,iP ⟨rfl,hq⟩]
theorem yai{l:List Nat}{q b0 b1 b2 b3 b4 b5 b6 b7:Nat}(hq:q<l.length)(h0:b0<256)(h1:b1<256)(h2:b2<256)(h3:b3<256)(h4:b4<256)(h5:b5<256)(h6:b6<256)(h7:b7<256):
 gN l (8*q) [b0,b1,b2,b3,b4,b5,b6,b7]=l.set q (g l q ^^^ w8 b0 b1 b2 b3 b4 b5 b6 b7):=by
 have e0:xb l (8*q) b0=l.set q (g l q ^^^ b0):=by have:=xei l q 0 b0 h0 (by decide);simpa using this
 show xb (xb (xb (xb (xb (xb (xb (xb l (8*q) b0) (8*q+1) b1) (8*q+1+1) b2) (8*q+1+1+1) b3) (8*q+1+1+1+1) b4) (8*q+1+1+1+1+1) b5) (8*q+1+1+1+1+1+1) b6) (8*q+1+1+1+1+1+1+1) b7=_;rw[e0];simp only[lX,Nat.reduceAdd];rw[xei _ q 1 b1 h1 (by decide),xet _ _ _ hq,List.set_set,xei _ q 2 b2 h2 (by decide),xet _ _ _ hq,List.set_set,xei _ q 3 b3 h3 (by decide),xet _ _ _ hq,List.set_set,xei _ q 4 b4 h4 (by decide),xet _ _ _ hq,List.set_set,
  xei _ q 5 b5 h5 (by decide),xet _ _ _ hq,List.set_set,xei _ q 6 b6 h6 (by decide),xet _ _ _ hq,List.set_set,xei _ q 7 b7 h7 (by decide),xet _ _ _ hq,List.set_set,w8_xor h0 h1 h2 h3 h4 h5 h6 h7]
 simp only[Nat.reduceMul,Nat.xor_assoc]
def gS(l:List Nat)(p m:Nat):List Nat:=(List.range m).map (fun i=>gb l (p+i))
theorem xk8(l:List Nat)(p m:Nat):gS l p (m+1)=gS l p m ++ [gb l (p+m)]:=by simp[gS,List.range_succ]
theorem xk6(l:List Nat)(p m n:Nat):gS l p (m+n)=gS l p m++gS l (p+m) n:=by
 induction n with
 | zero=>simp[gS]
 | succ n ih=>rw[<-lX,xk8,ih,xk8,mL,lX]
theorem xdx(l:List Nat)(q i:Nat)(hi:i<8):gb l (8*q+i)=g l q / 2 ^ (8*i)%256:=by
 unfold gb;rw[show (8*q+i) / 8=q by omega,show (8*q+i)%8=i by omega]
theorem xun(l:List Nat)(q x:Nat)(hx:g l q=x):gS l (8*q) 8=[x%256,x / 2 ^ 8%256,x / 2 ^ 16%256,x / 2 ^ 24%256,x / 2 ^ 32%256,x / 2 ^ 40%256,x / 2 ^ 48%256,x / 2 ^ 56%256]:=by
 have e:gS l (8*q) 8=[gb l (8*q+0),gb l (8*q+1),gb l (8*q+2),gb l (8*q+3),gb l (8*q+4),gb l (8*q+5),gb l (8*q+6),gb l (8*q+7)]:=rfl;rw[e,xdx l q 0 (by decide),xdx l q 1 (by decide),xdx l q 2 (by decide),xdx l q 3 (by decide),xdx l q 4 (by decide),xdx l q 5 (by decide),xdx l q 6 (by decide),xdx l q 7 (by decide),hx];simp
theorem xr2(P:List Nat->List Nat)(r:Nat)(l:List Nat)(p:Nat)(h:p<r):tn P r ⟨l,p⟩=⟨l,p⟩:=by unfold tn;rw[iQ (by show ¬ p=r;omega)]
theorem xxm(P:List Nat->List Nat)(r:Nat)(l:List Nat)(p m:Nat)(h:p+m<=r):sk P r ⟨l,p⟩ m=⟨l,p+m⟩/\sq P r ⟨l,p⟩ m=gS l p m:=by
 induction m with
 | zero=>exact⟨rfl,by simp[sq,gS]⟩
 | succ m ih=>
  obtain⟨h1,h2⟩:=ih (by omega);refine⟨?_,?_⟩
  ·rw[sk,h1,nx,xr2 P r l _ (by omega)];rfl
  ·rw[xjt,h2,xk8,sb,h1,xr2 P r l _ (by omega)]
theorem tn_tn(P:List Nat->List Nat)(r:Nat)(s:Sp)(hr : 0<r):tn P r (tn P r s)=tn P r s:=by
 unfold tn;split
 ·rw[iQ (by show ¬ 0=r;omega)]
 ·rfl
theorem sk_tn(P:List Nat->List Nat)(r:Nat)(s:Sp)(hr : 0<r)(m:Nat):sk P r s (m+1)=sk P r (tn P r s) (m+1):=by
 rw[mJ,xe9,xe9];congr 1
 show nx P r s=nx P r (tn P r s);unfold nx;rw[tn_tn P r s hr]
theorem sq_tn(P:List Nat->List Nat)(r:Nat)(s:Sp)(hr : 0<r)(m:Nat):sq P r s m=sq P r (tn P r s) m:=by
 unfold sq;congr 1
 funext i
 unfold sb;cases i with
 | zero=>show gb (tn P r s).l (tn P r s).at'=gb (tn P r (tn P r s)).l (tn P r (tn P r s)).at';rw[tn_tn P r s hr]
 | succ i=>rw[sk_tn P r s hr i]
theorem xjo(P:List Nat->List Nat)(r:Nat)(s:Sp)(l:List Nat)(p m:Nat)(hr : 0<r)(ht:tn P r s=⟨l,p⟩)(hm : 0<m)(h:p+m<=r):sk P r s m=⟨l,p+m⟩/\sq P r s m=gS l p m:=by
 obtain⟨m,rfl⟩:∃ k,m=k+1:=⟨m-1,by omega⟩;rw[sk_tn P r s hr m,sq_tn P r s hr,ht];exact xxm P r l p (m+1) h
end spmx
namespace eT
open Go.RowKit
open arr mem bJ dL cF
def SC(k:Int)(l:List Nat)(a:Int)(o:Bool):Array aE:=(Value.int J k :: ((LK .u64 l).toList ++ [Value.int J a,Value.bool o])).toArray
theorem xa6(k:Int){l:List Nat}(a:Int)(o:Bool)(h:l.length=25):(SC k l a o).size=28:=by simp[SC,LK,h]
theorem xcx(k:Int)(l:List Nat)(a:Int)(o:Bool):(SC k l a o)[0]? = some (O J k):=by simp[SC]
theorem xcn(k:Int){l:List Nat}(a:Int)(o:Bool)(h:l.length=25)(i:Nat)(hi:i<25):(SC k l a o)[1+i]? = some (O .u64 ((g l i:Nat):Int)):=by
 have h1:=xd2 h i hi;rw[mJ];simp only[SC,oJ,jF];rw[mC (by simp[LK,h];exact hi),Array.getElem?_toList];exact h1
theorem gO(k:Int){l:List Nat}(a:Int)(o:Bool)(h:l.length=25):(SC k l a o)[26]? = some (O J a):=by
 simp only[SC,oJ,jF];rw[lR (by simp[LK,h])];simp[LK,h]
theorem xco(k:Int){l:List Nat}(a:Int)(o:Bool)(h:l.length=25):(SC k l a o)[27]? = some (.bool o):=by
 simp only[SC,oJ,jF];rw[lR (by simp[LK,h])];simp[LK,h]
theorem xef(k:Int)(l:List Nat)(a:Int)(o:Bool):(SC k l a o).all (·.oneCell')=true:=by
 rw[kM];intro v hv;simp only[SC,List.mem_toArray,kT,List.mem_append,mK,or_false]at hv;rcases hv with rfl | h | rfl | rfl
 ·rfl
 ·exact(kM.1 (gV .u64 l)) v (by simpa using h)
 ·rfl
 ·rfl
theorem xhk(k:Int){l:List Nat}(a:Int)(o:Bool)(h:l.length=25)(i x:Nat)(hi:i<25):(SC k l a o).setIfInBounds (1+i) (O .u64 (x:Int))=SC k (l.set i x) a o:=by
 rw[mJ];simp only[SC,mV,List.set_cons_succ];rw[List.set_append_left _ _ (by simp[LK,h];exact hi)];have e:(LK .u64 l).toList.set i (O .u64 (x:Int))=(LK .u64 (l.set i x)).toList:=by rw[<-xdh];simp
 rw[e]
theorem xbh(k:Int){l:List Nat}(a b:Int)(o:Bool)(h:l.length=25):(SC k l a o).setIfInBounds 26 (O J b)=SC k l b o:=by
 simp only[SC,mV,List.set_cons_succ];rw[List.set_append_right _ _ (by simp[LK,h])];simp[LK,h]
theorem xmq(k:Int){l:List Nat}(a:Int)(o p:Bool)(h:l.length=25):(SC k l a o).setIfInBounds 27 (.bool p)=SC k l a p:=by
 simp only[SC,mV,List.set_cons_succ];rw[List.set_append_right _ _ (by simp[LK,h])];simp[LK,h]
theorem sizeT:(aO.info? 34).map (·.size)=some 465:=by kernel_rfl
theorem sizeS:(aO.info? 164).map (·.size)=some 28:=by kernel_rfl
end eT
namespace rspb
open Go.RowKit
open arr mem bJ dL cF eT
def ok(k a:Int)(o:Bool):Bool:=decide (0<bG k) && (decide (0<=a) && (decide (a<(bG k:Int)) || (o && decide (a=(bG k:Int)))))
def okr(r:Nat)(a:Int)(o:Bool):Bool:=decide (0<r) && (decide (0<=a) && (decide (a<(r:Int)) || (o && decide (a=(r:Int)))))
end rspb
namespace eZ
open arr mem bJ dL cF eT iD
theorem xy4(X:List aE):∀ (vs:List aE) (a z:List aE),a.length=vs.length->sp (X++(a++z)).toArray X.length vs=(X++(vs++z)).toArray:=by
 intro vs;induction vs generalizing X with
 | nil=>intro a z h;obtain rfl:=List.eq_nil_of_length_eq_zero h;rfl
 | cons v vs ih=>
  intro a z h;cases a with
  | nil=>cases h
  | cons y a=>
   have e1:((X++(y :: a++z)).toArray).setIfInBounds X.length v=((X ++ [v])++(a++z)).toArray:=by
    rw[mV,List.set_append_right _ _ (iM _),mW];simp
   rw[sp,e1,show X.length+1=(X ++ [v]).length by simp,ih (X ++ [v]) a z (by simpa using h)];simp
theorem sp_sc(k:Int){l l':List Nat}(a:Int)(o:Bool)(h:l.length=25)(h':l'.length=25):sp (SC k l a o) 1 (LK .u64 l').toList=SC k l' a o:=
 xy4 [Value.int J k] (LK .u64 l').toList (LK .u64 l).toList [Value.int J a,Value.bool o] (by simp[LK,h,h'])
theorem xng{ops:Array Oper}{Q:Exit->Act->G->Prop}{rest:List Oper}{op:Oper}{ac:Act}{w0 w:G}{g:Nat}{t:aH}{k:Int}{l l':List Nat}{a:Int}{o:Bool}(H:U (At g (SC k l a o) t w0 w))(hl:l.length=25)(hl':l'.length=25)
 (hgd:op.guard=none) (x y:Operand) (ho:op.op=.store 162 x y) (hd:op.dst=none) (hx:ac.eval x=aC (some ⟨g,1,none⟩)) (hy:ac.eval y=I (LK .u64 l'))
 (h:∀ w',U (At g (SC k l' a o) t w0 w')->wpList aO ops Q rest ac w'):wpList aO ops Q (op :: rest) ac w:=by
 refine wpList_store_mid hgd _ x y ho g 1 (LK .u64 l') hx hy (fun j hj=>?_) (size25 hl') (gV _ _) ?_
 ·rw[fE,hl']at hj;rw[H.o.cell,H.o.frozen,xcn k a o hl j hj];exact⟨rfl,rfl⟩
 ·rw[hd];refine h _ ⟨?_⟩;have h1:At g (sp (SC k l a o) 1 (LK .u64 l').toList) t w (w.setCells g 1 (LK .u64 l').toList):=At.set H.o.row H.o.lt (iR _ _);rw[sp_sc k a o hl hl']at h1;exact H.o.trans h1
theorem xir{w:G}{g:Nat}{t:aH}{k:Int}{l:List Nat}{a:Int}{o:Bool}(h:w.heap[g]? = some (Y (SC k l a o) t (0,0)))(hl:l.length=25):w.rangeAt g 1 (LK .u64 l).toList:=fun j v hv=>by
 rw[Array.getElem?_toList]at hv;have hj:j<25:=by
  by_cases hj:j<25
  ·exact hj
  ·rw[lH (by rw[fE,hl];omega)]at hv;cases hv
 rw[xd2 hl j hj]at hv;rw[cell_of_row w g (1+j) _ t (0,0) h,xcn k a o hl j hj,hv]
theorem results_cell_tmp{P:aI}{fn:Func}{p u:Tmp}{ty:aH}(h:fn.results=#[.cell p ty,.tmp u])(tmps:Array aE)(w:G)(g:Nat)(t:aH)(cs:Array aE)(fr:Nat × Nat)(d:TypeDesc)
 (hp:tmps.getD p undef=aC (some ⟨g,0,none⟩)) (hg:w.heap[g]? = some (Y cs t fr))
 (hu:P.underlying ty=some d) (hd:(match d with | .struct _ | .array _ _=>true | _=>false)=true) (hi:(P.info? ty).map (·.size)=some cs.size) (v:aE) (hv:tmps.getD u undef=v):
 (results fn tmps).run P w=.ok (aA #[I cs,v]) w:=by
 have hp':tmps[p]?.getD undef=aC (some ⟨g,0,none⟩):=by simpa using hp
 have hv':tmps[u]?.getD undef=v:=by simpa using hv
 simp[results,h,hp',hv',asAddr,nM w g t ty cs fr d hg hu hd hi]
theorem xme{P:aI}{fn:Func}{p u u2:Tmp}{ty:aH}(h:fn.results=#[.cell p ty,.tmp u,.tmp u2])(tmps:Array aE)(w:G)(g:Nat)(t:aH)(cs:Array aE)(fr:Nat × Nat)(d:TypeDesc)
 (hp:tmps.getD p undef=aC (some ⟨g,0,none⟩)) (hg:w.heap[g]? = some (Y cs t fr))
 (hu:P.underlying ty=some d) (hd:(match d with | .struct _ | .array _ _=>true | _=>false)=true) (hi:(P.info? ty).map (·.size)=some cs.size) (v v2:aE) (hv:tmps.getD u undef=v) (hv2:tmps.getD u2 undef=v2):
 (results fn tmps).run P w=.ok (aA #[I cs,v,v2]) w:=by
 have hp':tmps[p]?.getD undef=aC (some ⟨g,0,none⟩):=by simpa using hp
 have hv':tmps[u]?.getD undef=v:=by simpa using hv
 have hv2':tmps[u2]?.getD undef=v2:=by simpa using hv2
 simp[results,h,hp',hv',hv2',asAddr,nM w g t ty cs fr d hg hu hd hi]
def aU(b:ByteArray):List Nat:=b.data.toList.map (·.toNat)
theorem xaz(b:ByteArray):(aU b).length=b.size:=by unfold aU;rw[List.length_map];rfl
theorem fG(b:ByteArray)(i:Nat):(aU b).getD i 0<256:=by
 by_cases h:i<b.size
 ·have:∀ x∈aU b,x<256:=by
   intro x hx;obtain⟨u,-,rfl⟩:=nY.1 hx;exact u.toNat_lt
  rw[iO,iT (by rw[xaz];exact h)];exact this _ (kZ _)
 ·rw[iO,jY (by rw[xaz];omega)];decide
theorem byte_of(b:ByteArray)(i β : Nat)(hi:i<b.size)(hb:(aU b).getD i 0 = β)(w:G):(aN 9 (E b) (O J (i:Int))).run aO w=.ok (O .u8 (β : Int)) w:=by
 subst hb;rw[run_index_string w 9 b J (i:Int) Tryz.underlying9,dif_pos ⟨by omega,by omega⟩];have e:(aU b).getD i 0=(b[i]'hi).toNat:=by
  rw[iO,iT (by rw[xaz];exact hi)];simp only[aU,List.getElem_map,Option.getD_some];rfl
 rw[e];rfl
end eZ
namespace gI
open Go.RowKit
open arr mem bJ dL bU iD cF eT rspb eZ
theorem zs_is:(#[O J 0,O .u64 0,O .u64 0,O .u64 0,O .u64 0,O .u64 0,O .u64 0,O .u64 0,O .u64 0,O .u64 0,O .u64 0,O .u64 0,O .u64 0,O .u64 0,O .u64 0,O .u64 0,O .u64 0,O .u64 0,O .u64 0,O .u64 0,O .u64 0,O .u64 0,O .u64 0,O .u64 0,O .u64 0,O .u64 0,O J 0,.bool false]:Array aE)=SC 0 Z 0 false:=rfl
theorem xmp(k k':Int){l l':List Nat}(a a':Int)(o o':Bool)(h:l.length=25)(h':l'.length=25):(SC k l a o).size=(SC k' l' a' o').size:=by rw[xa6 k a o h,xa6 k' a' o' h']
theorem xdj(k:Int){l:List Nat}(a:Int)(o:Bool)(h:l.length=25):(aO.info? 164).map (·.size)=some (SC k l a o).size:=by rw[xa6 k a o h];exact sizeS
def PP(ts rs:List Nat)(l:List Nat):List Nat:=fC (fun i=>ts.getD i 0) (fun i=>rs.getD i 0) l 24
theorem xb7{ts rs:List Nat}(hr:∀ i,rs.getD i 0<18446744073709551616){l:List Nat}(h:St l):St (PP ts rs l):=xhb _ _ hr h 24
def sa(ts rs:List Nat)(r:Nat)(l:List Nat)(a:Nat)(bs:List Nat)(i:Nat):Sp:=abs (PP ts rs) r ⟨l,a⟩ (bs.take i)
theorem xyl(ts rs:List Nat)(r:Nat)(l:List Nat)(a:Nat)(bs:List Nat)(i β : Nat)(hi:i<bs.length)(hb:bs.getD i 0 = β):sa ts rs r l a bs (i+1)=ab (PP ts rs) r (sa ts rs r l a bs i) β := by
 unfold sa;rw[List.take_add_one,iT hi];have e:bs[i] = β := by rw[<-hb,iO,iT hi];rfl
 rw[e];exact xsu _ _ _ _ _
theorem xhj{ts rs:List Nat}(hr:∀ i,rs.getD i 0<18446744073709551616){r:Nat}{l:List Nat}{a:Nat}(h:St l)(ha:a<r)(bs:List Nat)(i:Nat):St (sa ts rs r l a bs i).l/\(sa ts rs r l a bs i).at'<r:=xh3 (fun _ h=>xb7 hr h) _ h ha
theorem ok_lt(k:Int)(a:Nat)(h:ok k (a:Int) false=true):a<bG k:=by
 unfold ok at h;generalize bG k=r at h;by_cases h2:(a:Int)<(r:Int)
 ·omega
 ·rw[jN h2]at h;simp at h
theorem xjq(β c:Nat):((β : Int)*2 ^ c%18446744073709551616)=((β * 2 ^ c%18446744073709551616:Nat):Int):=rols.castm β c 18446744073709551616
end gI
namespace rspe
open Go.RowKit
open arr mem bJ dL bU iD cF eT rspb eZ gI
theorem xnf{P:aI}{ops:Array Oper}{rest:List Oper}{o:Oper}{a:Act}{w:G}{Q:Exit->Act->G->Prop}(hg:o.guard=none)(t:aH)(parts:Array (Nat × Operand))(ho:o.op=.build t parts)
 (C:Array aE) (hC:P.built t (parts.map fun (i,x)=>(i,a.eval x)).toList=some C) (h:wpList P ops Q rest (a.put o.dst (I C)) w):wpList P ops Q (o :: rest) a w:=
 wpList_build hg t _ ho (by rw[hC];rfl) (by rw[hC];exact h)
end rspe
namespace iH
open Go.RowKit
open arr mem bJ dL cF spmx eT
theorem xhu:(aO.info? 153).map (·.size)=some 3:=by kernel_rfl
def size(k:Int):Nat:=if k=3 then 32 else if k=4 then 64 else 0
def fin(k:Int):Nat:=if k=1 then 31 else if k=2 then 31 else if k=3 then 6 else if k=4 then 6 else 0
def tr(k:Int):aE:=I #[O J ((bG k:Nat):Int),O .u8 ((fin k:Nat):Int),O J ((size k:Nat):Int)]
theorem xm2(k:Int)(w:G):aD aO 132 #[O J k] w (zB w (tr k)):=by
 unfold tr bG fin iH.size;by_cases h1:k=1
 ·subst h1;go_enter Tryz.func132,Tryz.ntmps132;go_wp2_with fail;refine iV (jC rfl _ _ w.heap.size 153 #[O J 168,O .u8 31,O J 0] (0,0) _ rfl (by rw[fF _ _ _ (by rw[size_alloc];omega)];exact cM _ _ _ rfl) Tryz.underlying153 rfl xhu) rfl ?_;exact⟨rfl,((iR _ _).alloc (iM _) _).alloc (by rw[size_alloc];omega) _⟩
 ·by_cases h2:k=2
  ·subst h2;go_enter Tryz.func132,Tryz.ntmps132;go_wp2_with fail;refine iV (jC rfl _ _ w.heap.size 153 #[O J 136,O .u8 31,O J 0] (0,0) _ rfl (by rw[fF _ _ _ (by rw[size_alloc];omega)];exact cM _ _ _ rfl) Tryz.underlying153 rfl xhu) rfl ?_;exact⟨rfl,((iR _ _).alloc (iM _) _).alloc (by rw[size_alloc];omega) _⟩
  ·by_cases h3:k=3
   ·subst h3;go_enter Tryz.func132,Tryz.ntmps132;go_wp2_with fail;refine iV (jC rfl _ _ w.heap.size 153 #[O J 136,O .u8 6,O J 32] (0,0) _ rfl (by rw[fF _ _ _ (by rw[size_alloc];omega)];exact cM _ _ _ rfl) Tryz.underlying153 rfl xhu) rfl ?_;exact⟨rfl,((iR _ _).alloc (iM _) _).alloc (by rw[size_alloc];omega) _⟩
   ·by_cases h4:k=4
    ·subst h4;go_enter Tryz.func132,Tryz.ntmps132;go_wp2_with fail;refine iV (jC rfl _ _ w.heap.size 153 #[O J 72,O .u8 6,O J 64] (0,0) _ rfl (by rw[fF _ _ _ (by rw[size_alloc];omega)];exact cM _ _ _ rfl) Tryz.underlying153 rfl xhu) rfl ?_;exact⟨rfl,((iR _ _).alloc (iM _) _).alloc (by rw[size_alloc];omega) _⟩
    ·simp only[iQ h1,iQ h2,iQ h3,iQ h4];go_enter Tryz.func132,Tryz.ntmps132;go_wp2_with fail;refine iV (jC rfl _ _ w.heap.size 153 #[O J 0,O .u8 0,O J 0] (0,0) _ rfl (by rw[fF _ _ _ (by rw[size_alloc];omega)];exact cM _ _ _ rfl) Tryz.underlying153 rfl xhu) rfl ?_;exact⟨rfl,((iR _ _).alloc (iM _) _).alloc (by rw[size_alloc];omega) _⟩
theorem xum(n:Int)(w:G):aD aO 133 #[O J n] w (zE w (.bool (decide (0<=n/\n<=50000)))):=by
 by_cases h1 : 0<=n
 ·by_cases h2:n<=50000
  ·rw[jP ⟨h1,h2⟩];go_enter Tryz.func133,Tryz.ntmps133;go_wp2_with fail;go_ret;exact⟨rfl,rfl⟩
  ·rw[jN (fun h=>h2 h.2)];have h3 : 50000<n:=by omega
   go_enter Tryz.func133,Tryz.ntmps133;go_wp2_with fail;go_ret;exact⟨rfl,rfl⟩
 ·rw[jN (fun h=>h1 h.1)];have h3:n<0:=by omega
  go_enter Tryz.func133,Tryz.ntmps133;go_wp2_with fail;go_ret;exact⟨rfl,rfl⟩
end iH
namespace spob
open arr mem bJ dL bU bT iD cF spmx eT eZ gI iH
theorem xiy(gs:Nat)(k a:Int)(o:Bool)(l:List Nat)(t:aH)(p β : Nat)(w:G)(h:St l)(hp:p<200)(hβ : β < 256)(hrow:w.heap[gs]? = some (Y (SC k l a o) t (0,0))):
 aD aO 196 #[aC (some ⟨gs,1,none⟩),O J (p:Int),O .u8 (β : Int)] w fun e w'=>e=.returned (.tuple #[])/\At gs (SC k (xb l p β) a o) t w w':=by
 obtain⟨q,hq⟩:=aP (p / 8);obtain⟨m,hm⟩:=aP (p%8);obtain⟨c,hc⟩:∃ c,c=8*m:=⟨_,rfl⟩;have fq:(p:Int).tdiv 8=(q:Int):=by rw[iU (by omega)];omega
 have fqw:J.wrap ((p:Int).tdiv 8)=(q:Int):=by rw[fq,iN];omega
 have fm:(p:Int).tmod 8=(m:Int):=by rw[jB (by omega)];omega
 have fq2:(p:Int) / 8=(q:Int):=by omega
 have fq3:J.wrap (q:Int)=(q:Int):=bB;have fm2:(p:Int)%8=(m:Int):=by omega
 have fc:J.wrap ((m:Int)*8)=(c:Int):=bB;have fc2:J.wrap (8*(m:Int))=(c:Int):=bB;have hc63:c<=63:=by omega
 have hq25:q<25:=by omega
 have hqz:(q:Int)<25:=by omega
 obtain⟨x,hx⟩:=aP (g l q);have bx:x<18446744073709551616:=hx ▸ h.lt q;obtain⟨y,hy⟩:=aP (β * 2 ^ c%18446744073709551616);have by':y<18446744073709551616:=hy ▸ kB _ (by decide)
 have fs:=xjq β c;rw[hy]at fs;have fb:IntKind.u64.wrap (β : Int)=(β : Int):=by rw[kA];omega
 have fy:IntKind.u64.wrap ((β : Int)*2 ^ c)=(y:Int):=by rw[kA];exact fs
 obtain⟨v,hv⟩:=aP (x ^^^ y);have V:=fN x y v bx by' hv
 have Hxb:U (l.set q v=xb l p β):=⟨by unfold xb;rw[hq,hm,<-hc,hx,hy,hv]⟩;have H:=D h;have A0:=D (At.refl hrow);have cx:w.cell? ⟨gs,1+q,none⟩=some (O .u64 (x:Int)):=by rw[<-hx];exact aZ hrow (xcn k a o h.len q hq25)
 clear hq hm hc hx hy hv h hrow hp;go_enter Tryz.func196,Tryz.ntmps196;refine gZ 15 (by kernel_rfl) (by kernel_rfl) ?_;simp only[jH,jU,iW,jK];repeat still_step
 refine jR ?_;have A1:U (At gs (SC k l a o) t w w.drew):=⟨eN A0.o⟩;clear cx fq fqw fm fq2 fq3 fm2 fc fc2 fs V A0 fb fy
 with_reducible refine cU A1 rfl _ _ _ rfl rfl ?_
 refine⟨_,_,_,rfl,rfl,rfl,by rw[xa6 k a o H.o.len];omega,?_⟩;intro wn HR1;rw[xhk k a o H.o.len q v hq25,Hxb.o]at HR1;go_wp2_with fail;go_end0
 exact⟨rfl,HR1.o⟩
theorem xb2{P:aI}{ops:Array Oper}{C:G->Prop}{Q:Act->Prop}{rest:List Oper}{o:Oper}{a:Act}(hw:aL o (yielded ops a.tmps)=true)(ty:aH)(x:Operand)(ho:o.op=.load ty x)
 (b n:Nat) (hx:a.eval x=aC (some ⟨b,n,none⟩)) (cs:List aE) (d:TypeDesc) (hS:∀ w,C w->w.rangeAt b n cs)
 (hu:P.underlying ty=some d) (hd:d.isRow=true) (hi:(P.info? ty).map (·.size)=some cs.length)
 (h:wpQuiet P ops C Q rest (a.put o.dst (I cs.toArray))):wpQuiet P ops C Q (o :: rest) a:=by
 refine wpQuiet_step fun K hK=>?_
 rw[iP hw];refine⟨I cs.toArray,fun w hC=>?_,hK _ h⟩;unfold Oper.quietAt execOp;simp only[ho,hx,Instr.loadAt,Instr.sureAddr,lQ,mR,kQ,run_loadVar_mid w b n ty cs d (hS w hC) hu hd hi];exact⟨rfl,rfl⟩
theorem xi2{T:Array aE}{ts rs:List Nat}(gt gs:Nat)(k a:Int)(o:Bool)(l:List Nat)(w:G)(h:St l)(hK:KT T ts rs)(hP:Gp w)(hT:w.heap[gt]? = some (Y T 34 (0,0)))(hrow:w.heap[gs]? = some (Y (SC k l a o) 164 (0,0))):
 aD aO 195 #[aC (some ⟨gt,0,none⟩),aC (some ⟨gs,0,none⟩)] w fun e w'=>e=.returned (.tuple #[])/\At gs (SC k (PP ts rs l) 0 o) 164 w w':=by
 have HTz:U ((aO.info? 34).map (·.size)=some T.size):=⟨by rw[hK.size];exact eT.sizeT⟩;have Xz:=D (show (aO.info? 162).map (·.size)=some (LK .u64 l).toList.length by rw[jM];exact size25 h.len);have HQ:U (St (PP ts rs l)):=⟨xb7 hK.br h⟩;obtain⟨xl,Hxl⟩:=aQ (PP ts rs l);rw[Hxl.o]at HQ ⊢;have C2:U (∀ w1:G,zb w w1->aD aO 204 #[I T,I (LK .u64 l)] w1 (zB w1 (I (LK .u64 xl)))):=⟨fun w1 hb=>by rw[<-Hxl.o];exact iD.xi9 l w1 h hK (hP.later hb)⟩;have H:=D h;have B0:=D hT;have B1:=D hrow;have L1:=D (xir hrow h.len);clear h hK hP hT hrow Hxl;go_enter Tryz.func195,Tryz.ntmps195;go_wp2_with fail;refine eQ.xb8 9 (by kernel_rfl) (by kernel_rfl) ?_;simp only[jH,jU,iW,jK];iterate 3 (quiet_step (skip))
 refine xa2 rfl 34 _ rfl _ rfl 34 T _ (fun w' hC=>gM B0.o hC) zY rfl HTz.o ?_;iterate 3 (quiet_step (skip))
 refine xb2 rfl 162 _ rfl gs 1 rfl (LK .u64 l).toList _ (fun w' hC=>xir (gM B1.o hC) H.o.len) Tryz.underlying162 rfl Xz.o ?_;quiet_step (exact jI (C2.o _ (jX _ _ _)));refine kY ?_;rintro w1 ⟨pp,rfl⟩;have A1:U (At gs (SC k l a o) 164 w _):=⟨(At.refl B1.o).later (jX w pp.d pp.os)⟩;obtain⟨w1,hw1⟩:=aP (Sort.grow (redrawn w pp.d) pp.os);rw[hw1]at A1 ⊢;clear hw1 C2 L1 B0 B1;go_wp2_with (first
  | ((with_reducible refine xng A1 H.o.len HQ.o.len rfl _ _ rfl rfl ?hx ?hy ?_);(case hx=>exact rfl);(case hy=>exact rfl);intro w7 HR4;clear A1)
  | ((with_reducible refine cU (by assumption) rfl _ _ _ rfl rfl ?_);refine⟨_,_,_,rfl,rfl,rfl,(by rw[xa6 k a o HQ.o.len];decide),?_⟩;intro w8 HR5;rw[xbh k _ _ o HQ.o.len]at HR5))
 go_end0
 exact⟨rfl,HR5.o⟩
end spob
namespace spoc
open arr mem bJ dL cF spmx eT eZ iH
theorem xd0(b:ByteArray)(i β : Nat)(z:Int)(hz:z=(i:Int))(hi:i<b.size)(hb:(aU b).getD i 0 = β)(w:G):(aN 9 (E b) (O J z)).run aO w=.ok (O .u8 (β : Int)) w:=by
 rw[hz];exact byte_of b i β hi hb w
theorem xfd(b c:Nat)(hb:b<256)(hc:c*256<=18446744073709551616):IntKind.u64.wrap (IntKind.u64.wrap (b:Int)*(c:Int))=((b*c:Nat):Int):=by
 have h1:b*c<18446744073709551616:=by
  rcases Nat.eq_zero_or_pos c with h | h
  ·subst h;simp
  ·exact iZ (Nat.mul_lt_mul_of_pos_right hb h) (by rw[kI];exact hc)
 have h2:IntKind.u64.wrap (b:Int)=(b:Int):=by rw[kA];omega
 rw[h2,<-kV];generalize b*c=z at h1 ⊢;rw[kA];omega
theorem or_w8{b0 b1 b2 b3 b4 b5 b6 b7:Nat}(h0:b0<256)(h1:b1<256)(h2:b2<256)(h3:b3<256)(h4:b4<256)(h5:b5<256)(h6:b6<256)(h7:b7<256):
 bits .or .u64 (bits .or .u64 (bits .or .u64 (bits .or .u64 (bits .or .u64 (bits .or .u64 (bits .or .u64 (IntKind.u64.wrap (b0:Int)) (IntKind.u64.wrap (IntKind.u64.wrap (b1:Int)*256))) (IntKind.u64.wrap (IntKind.u64.wrap (b2:Int)*65536))) (IntKind.u64.wrap (IntKind.u64.wrap (b3:Int)*16777216))) (IntKind.u64.wrap (IntKind.u64.wrap (b4:Int)*4294967296))) (IntKind.u64.wrap (IntKind.u64.wrap (b5:Int)*1099511627776))) (IntKind.u64.wrap (IntKind.u64.wrap (b6:Int)*281474976710656))) (IntKind.u64.wrap (IntKind.u64.wrap (b7:Int)*72057594037927936))
 = ((w8 b0 b1 b2 b3 b4 b5 b6 b7:Nat):Int):=by
 have e0:IntKind.u64.wrap (b0:Int)=(b0:Int):=by rw[kA];omega
 have e1:IntKind.u64.wrap (IntKind.u64.wrap (b1:Int)*256)=((b1*2 ^ 8:Nat):Int):=xfd b1 256 h1 (by decide);have e2:IntKind.u64.wrap (IntKind.u64.wrap (b2:Int)*65536)=((b2*2 ^ 16:Nat):Int):=xfd b2 65536 h2 (by decide);have e3:IntKind.u64.wrap (IntKind.u64.wrap (b3:Int)*16777216)=((b3*2 ^ 24:Nat):Int):=xfd b3 16777216 h3 (by decide);have e4:IntKind.u64.wrap (IntKind.u64.wrap (b4:Int)*4294967296)=((b4*2 ^ 32:Nat):Int):=xfd b4 4294967296 h4 (by decide);have e5:IntKind.u64.wrap (IntKind.u64.wrap (b5:Int)*1099511627776)=((b5*2 ^ 40:Nat):Int):=xfd b5 1099511627776 h5 (by decide);have e6:IntKind.u64.wrap (IntKind.u64.wrap (b6:Int)*281474976710656)=((b6*2 ^ 48:Nat):Int):=xfd b6 281474976710656 h6 (by decide);have e7:IntKind.u64.wrap (IntKind.u64.wrap (b7:Int)*72057594037927936)=((b7*2 ^ 56:Nat):Int):=xfd b7 72057594037927936 h7 (by decide);obtain⟨k1,k2,k3,k4,k5,k6,k7⟩:=xne h0 h1 h2 h3 h4 h5 h6 h7;simp only[Nat.reducePow]at k1 k2 k3 k4 k5 k6 e1 e2 e3 e4 e5 e6 e7;unfold w8;simp only[Nat.reducePow];rw[e0,e1,e2,e3,e4,e5,e6,e7,oF _ _ (by omega) (by omega),oF _ _ (by omega) (by omega),oF _ _ (by omega) (by omega),oF _ _ (by omega) (by omega),oF _ _ (by omega) (by omega),oF _ _ (by omega) (by omega),oF _ _ (by omega) (by omega)]
theorem yab(b:ByteArray)(b0 b1 b2 b3 b4 b5 b6 b7:Nat)(w:G)(hs : 8<=b.size)(h0:(aU b).getD 0 0=b0)(h1:(aU b).getD 1 0=b1)(h2:(aU b).getD 2 0=b2)(h3:(aU b).getD 3 0=b3)(h4:(aU b).getD 4 0=b4)(h5:(aU b).getD 5 0=b5)(h6:(aU b).getD 6 0=b6)(h7:(aU b).getD 7 0=b7):
 aD aO 203 #[E b] w (zB w (O .u64 ((w8 b0 b1 b2 b3 b4 b5 b6 b7:Nat):Int))):=by
 have i0:=xd0 b 0 b0 0 rfl (by omega) h0;have i1:=xd0 b 1 b1 1 rfl (by omega) h1;have i2:=xd0 b 2 b2 2 rfl (by omega) h2;have i3:=xd0 b 3 b3 3 rfl (by omega) h3;have i4:=xd0 b 4 b4 4 rfl (by omega) h4;have i5:=xd0 b 5 b5 5 rfl (by omega) h5;have i6:=xd0 b 6 b6 6 rfl (by omega) h6;have i7:=xd0 b 7 b7 7 rfl (by omega) h7;have e:=or_w8 (h0 ▸ fG b 0) (h1 ▸ fG b 1) (h2 ▸ fG b 2) (h3 ▸ fG b 3) (h4 ▸ fG b 4) (h5 ▸ fG b 5) (h6 ▸ fG b 6) (h7 ▸ fG b 7);have Eq:=D e;clear h0 h1 h2 h3 h4 h5 h6 h7 e;go_enter Tryz.func203,Tryz.ntmps203;go_wp2_with fail;refine xav (by kernel_rfl) (by kernel_rfl) ?_;repeat still_step
 refine jR ?_;clear i0 i1 i2 i3 i4 i5 i6 i7;rw[Eq.o];go_wp2_with fail;go_ret;exact⟨rfl,(iR _ _).drew⟩
end spoc
namespace spod
open arr mem bJ dL cF spmx eT eZ iH spob spoc
theorem xdb(b:ByteArray)(j:Nat)(h:j<b.size):(aU b).drop j=(aU b).getD j 0 :: (aU b).drop (j+1):=by
 rw[nA (by rw[xaz];exact h),iO,iT (by rw[xaz];exact h)];rfl
theorem xn0(b:ByteArray)(j:Nat):aU (b.extract j b.size)=(aU b).drop j:=by
 unfold aU;simp only[ByteArray.data_extract,Array.toList_extract];rw[List.extract_eq_take_drop,List.map_take,List.map_drop,lG (by simp)]
theorem xtr(b:ByteArray)(j:Nat):aU (b.extract 0 j)=(aU b).take j:=by
 unfold aU;simp only[ByteArray.data_extract,Array.toList_extract,List.map_take];simp
theorem xvb{l:List Nat}(h:St l)(q:Nat)(hq:q<25)(s:ByteArray)(hs : 8<=s.size)(R:List Nat)(hR:gN l (8*q) (aU s)=R):
 gN (l.set q (g l q ^^^ w8 ((aU s).getD 0 0) ((aU s).getD 1 0) ((aU s).getD 2 0) ((aU s).getD 3 0) ((aU s).getD 4 0) ((aU s).getD 5 0) ((aU s).getD 6 0) ((aU s).getD 7 0))) (8*q+8) (aU (s.extract 8 s.size))=R:=by
 rw[<-yai (by rw[h.len];exact hq) (fG s 0) (fG s 1) (fG s 2) (fG s 3) (fG s 4) (fG s 5) (fG s 6) (fG s 7),xn0];have e:aU s=[(aU s).getD 0 0,(aU s).getD 1 0,(aU s).getD 2 0,(aU s).getD 3 0,(aU s).getD 4 0,(aU s).getD 5 0,(aU s).getD 6 0,(aU s).getD 7 0]++(aU s).drop 8:=by
  show aU s=(aU s).getD 0 0 :: (aU s).getD 1 0 :: (aU s).getD 2 0 :: (aU s).getD 3 0 :: (aU s).getD 4 0 :: (aU s).getD 5 0 :: (aU s).getD 6 0 :: (aU s).getD 7 0 :: (aU s).drop 8;rw[<-xdb s 7 (by omega),<-xdb s 6 (by omega),<-xdb s 5 (by omega),<-xdb s 4 (by omega),<-xdb s 3 (by omega),<-xdb s 2 (by omega),<-xdb s 1 (by omega),<-xdb s 0 (by omega)];rfl
 rw[<-hR];generalize hd:(aU s).drop 8=d at e;conv=>rhs;rw[e]
 rw[xsk];rfl
theorem xn1(l:List Nat)(p i:Nat)(s:ByteArray)(hi:i<s.size)(R:List Nat)(hR:gN l (p+i) ((aU s).drop i)=R):gN (xb l (p+i) ((aU s).getD i 0)) (p+(i+1)) ((aU s).drop (i+1))=R:=by
 rw[xdb s i hi]at hR;exact hR
theorem xez(gs:Nat)(k a:Int)(o:Bool)(l:List Nat)(t:aH)(p0:Nat)(b:ByteArray)(w:G)(h:St l)(hp:p0+b.size<=200)(hrow:w.heap[gs]? = some (Y (SC k l a o) t (0,0))):
 aD aO 194 #[aC (some ⟨gs,1,none⟩),O J (p0:Int),E b] w fun e w'=>e=.returned (.tuple #[])/\At gs (SC k (gN l p0 (aU b)) a o) t w w':=by
 obtain⟨R,HR⟩:=aQ (gN l p0 (aU b));rw[HR.o];have H:=D h;have A00:=D (At.refl hrow);clear hrow h;go_enter Tryz.func194,Tryz.ntmps194;go_wp2_with fail;go_loopw [1,2] (fun v x wr=>∃ (p:Nat) (s:ByteArray) (l':List Nat),v=O J (p:Int)/\x=E s/\p+s.size=p0+b.size/\U (gN l' p (aU s)=R)/\U (St l')/\U (At gs (SC k l' a o) t w wr)) (fun _ x _=>match x with | E s=>s.size | _=>0)
 case atStart=>exact⟨p0,b,l,rfl,rfl,rfl,HR,H,A00⟩
 case round=>
  clear A00 H HR;obtain⟨p,s,l',rfl,rfl,hps,HR,H,A0⟩:=hrel;obtain⟨m,hm⟩:=aP (p%8);have fm:(p:Int).tmod 8=(m:Int):=by rw[jB (by omega)];omega
  have fm2:(p:Int)%8=(m:Int):=by omega
  by_cases hc:m=0/\8<=s.size
  ·obtain⟨h0,h8⟩:=hc;subst h0;have fm:(p:Int).tmod 8=0:=fm;have fm2:(p:Int)%8=0:=fm2;obtain⟨q,hq⟩:=aP (p / 8);obtain rfl:p=8*q:=by omega
   have fq:((8*q:Nat):Int).tdiv 8=(q:Int):=by rw[iU (by omega)];omega
   obtain⟨p,hp8⟩:=aP (8*q);rw[hp8]at fq fm fm2 hps HR;have fqw:J.wrap ((p:Int).tdiv 8)=(q:Int):=by rw[fq,iN];omega
   have fq2:(p:Int) / 8=(q:Int):=by omega
   have fq3:J.wrap (q:Int)=(q:Int):=bB;have hq25:q<25:=by omega
   have hqz:(q:Int)<25:=by omega
   obtain⟨y,Hy⟩:=aQ (w8 ((aU s).getD 0 0) ((aU s).getD 1 0) ((aU s).getD 2 0) ((aU s).getD 3 0) ((aU s).getD 4 0) ((aU s).getD 5 0) ((aU s).getD 6 0) ((aU s).getD 7 0));have by':y<18446744073709551616:=by rw[<-Hy.o];exact(xne (fG s 0) (fG s 1) (fG s 2) (fG s 3) (fG s 4) (fG s 5) (fG s 6) (fG s 7)).2.2.2.2.2.2
   obtain⟨x,hx⟩:=aP (g l' q);have bx:x<18446744073709551616:=hx ▸ H.o.lt q;obtain⟨v,hv⟩:=aP (x ^^^ y);have V:=fN x y v bx by' hv
   have HN:U (gN (l'.set q v) (p+8) (aU (s.extract 8 s.size))=R):=⟨by rw[<-hv,<-hx,<-Hy.o,<-hp8];exact xvb H.o q hq25 s h8 R (by rw[hp8];exact HR.o)⟩;have HW:U (∀ w1:G,aD aO 203 #[E s] w1 (zB w1 (O .u64 (y:Int)))):=⟨fun w1=>by rw[<-Hy.o];exact yab s _ _ _ _ _ _ _ _ w1 h8 rfl rfl rfl rfl rfl rfl rfl rfl⟩;have HX:U (St (l'.set q v)):=⟨⟨by rw[nN,H.o.len],fun j=>by rw[xk5];split<;>first | (rw[<-hv];exact xbx _ _ bx by') | exact H.o.lt j⟩⟩;have cx:∀ d os,(Sort.grow (redrawn wr d) os).cell? ⟨gs,1+q,none⟩=some (O .u64 (x:Int)):=fun d os=>by rw[<-hx];exact aZ (gM A0.o.row ⟨⟨d,os⟩,rfl⟩) (xcn k a o H.o.len q hq25)
   have hsz:(s.extract 8 s.size).size=s.size-8:=by rw[kE];omega
   obtain⟨s3,Hs3⟩:=aQ (s.extract 8 s.size);have e3:=Hs3.o;rw[e3]at HN hsz;have Hq25:=D hq25;clear hq hp8 hx hv hm Hy;go_wp2_with fail;refine eQ.xb8 11 (by kernel_rfl) (by kernel_rfl) ?_;simp only[jH,jU,iW,jK];iterate 7 (quiet_step (skip))
   quiet_step (exact jI (HW.o _));iterate 3 (quiet_step (skip))
   refine kY ?_;rintro w1 ⟨pp,rfl⟩;have A1:U (At gs (SC k l' a o) t w _):=⟨A0.o.later (jX wr pp.d pp.os)⟩;obtain⟨w1,hw1⟩:=aP (Sort.grow (redrawn wr pp.d) pp.os);rw[hw1]at A1 ⊢;clear hw1 HW cx V fqw fq3 A0;go_wp2_with ((with_reducible refine cU A1 rfl _ _ _ rfl rfl ?_);refine⟨_,_,_,rfl,rfl,rfl,(by rw[xa6 k a o H.o.len];have:=Hq25.o;omega),?_⟩;intro w8 HR5;rw[xhk k a o H.o.len q v Hq25.o]at HR5);go_roundw
   case rel=>exact⟨p+8,s3,_,by go_num,rfl,by omega,HN,HX,HR5⟩
   case measure=>simp only;omega
  ·have h2:m≠0\/m=0/\s.size<8:=by omega
   clear hc;rcases h2 with hc | hc
   ·have hcz:((m:Int)==0)=false:=jV.2 (by omega);go_wp2_with fail;obtain⟨B,HB⟩:=aQ (aU s);rw[HB.o]at HR;go_loopw [32] (fun v wr=>∃ (i:Nat) (l2:List Nat),i<=s.size/\v=O J (i:Int)/\U (gN l2 (p+i) (B.drop i)=R)/\U (St l2)/\U (At gs (SC k l2 a o) t w wr)) (fun v _=>s.size-(aG v).toNat)
    case atStart=>exact⟨0,l',iX _,rfl,HR,H,A0⟩
    case round=>
     clear A0 H HR;obtain⟨i,l2,hi,rfl,HR,H,A0⟩:=hrel;by_cases hlt:i<s.size
     ·have hiz:(i:Int)<(s.size:Int):=by omega
      obtain⟨β,hβ⟩:∃ β,(aU s).getD i 0 = β := ⟨_,rfl⟩;have hidx:=byte_of s i β hlt hβ;obtain⟨n,hn⟩:=aP (p+i);have fn:(p:Int)+(i:Int)=(n:Int):=by omega
      have fnw:J.wrap ((p:Int)+(i:Int))=(n:Int):=by rw[fn,iN];omega
      have HN:U (gN (xb l2 n β) (p+(i+1)) (B.drop (i+1))=R):=⟨by rw[<-hn,<-hβ,<-HB.o];exact xn1 l2 p i s hlt R (by rw[HB.o];exact HR.o)⟩;have HX:U (St (xb l2 n β)):=⟨xcq H.o n β⟩;have HC:=D (xiy gs k a o l2 t n β wr H.o (by omega) (hβ ▸ fG s i) A0.o.row);clear hβ hn;go_wp2_with fail;refine HC.o.mono ?_;rintro e w1 ⟨rfl,h1⟩;have A1:U (At gs (SC k (xb l2 n β) a o) t w w1):=⟨A0.o.trans h1⟩;clear h1;go_wp2_with fail;go_roundw
      case rel=>exact⟨i+1,_,by omega,by go_num,HN,HX,A1⟩
      case measure=>simp[aG];omega
     ·obtain rfl:i=s.size:=by omega
      have HE:U (l2=R):=⟨by
       have h9:=HR.o;rw[nL (by rw[<-HB.o,xaz];exact iM _)]at h9;exact h9⟩
      rw[HE.o]at A0;go_wp2_with fail;go_end0
      exact⟨rfl,A0.o⟩
   ·obtain⟨h0,hc⟩:=hc;subst h0;have fm:(p:Int).tmod 8=0:=fm;have fm2:(p:Int)%8=0:=fm2;go_wp2_with fail;obtain⟨B,HB⟩:=aQ (aU s);rw[HB.o]at HR;go_loopw [32] (fun v wr=>∃ (i:Nat) (l2:List Nat),i<=s.size/\v=O J (i:Int)/\U (gN l2 (p+i) (B.drop i)=R)/\U (St l2)/\U (At gs (SC k l2 a o) t w wr)) (fun v _=>s.size-(aG v).toNat)
    case atStart=>exact⟨0,l',iX _,rfl,HR,H,A0⟩
    case round=>
     clear A0 H HR;obtain⟨i,l2,hi,rfl,HR,H,A0⟩:=hrel;by_cases hlt:i<s.size
     ·have hiz:(i:Int)<(s.size:Int):=by omega
      obtain⟨β,hβ⟩:∃ β,(aU s).getD i 0 = β := ⟨_,rfl⟩;have hidx:=byte_of s i β hlt hβ;obtain⟨n,hn⟩:=aP (p+i);have fn:(p:Int)+(i:Int)=(n:Int):=by omega
      have fnw:J.wrap ((p:Int)+(i:Int))=(n:Int):=by rw[fn,iN];omega
      have HN:U (gN (xb l2 n β) (p+(i+1)) (B.drop (i+1))=R):=⟨by rw[<-hn,<-hβ,<-HB.o];exact xn1 l2 p i s hlt R (by rw[HB.o];exact HR.o)⟩;have HX:U (St (xb l2 n β)):=⟨xcq H.o n β⟩;have HC:=D (xiy gs k a o l2 t n β wr H.o (by omega) (hβ ▸ fG s i) A0.o.row);clear hβ hn;go_wp2_with fail;refine HC.o.mono ?_;rintro e w1 ⟨rfl,h1⟩;have A1:U (At gs (SC k (xb l2 n β) a o) t w w1):=⟨A0.o.trans h1⟩;clear h1;go_wp2_with fail;go_roundw
      case rel=>exact⟨i+1,_,by omega,by go_num,HN,HX,A1⟩
      case measure=>simp[aG];omega
     ·obtain rfl:i=s.size:=by omega
      have HE:U (l2=R):=⟨by
       have h9:=HR.o;rw[nL (by rw[<-HB.o,xaz];exact iM _)]at h9;exact h9⟩
      rw[HE.o]at A0;go_wp2_with fail;go_end0
      exact⟨rfl,A0.o⟩
end spod
namespace spoe
open arr mem bJ dL bU bT cF spmx eT eZ gI iH spob spoc spod
theorem xzp(k:Int)(r:Nat)(hr:bG k=r):∃ f z:Nat,∀ w1:G,aD aO 132 #[O J k] w1 (zB w1 (I #[O J (r:Int),O .u8 (f:Int),O J (z:Int)])):=
 ⟨fin k,iH.size k,fun w1=>by have h:=xm2 k w1;unfold tr at h;rw[hr]at h;exact h⟩
theorem field0(r f z:Int)(w:G):(Instr.field 153 (I #[O J r,O .u8 f,O J z]) 0).run aO w=.ok (O J r) w:=by kernel_rfl
theorem xj5(P:List Nat->List Nat)(r:Nat)(l:List Nat)(p:Nat)(s:ByteArray)(n:Nat):abs P r ⟨l,p⟩ (aU s)=abs P r (abs P r ⟨l,p⟩ (aU (s.extract 0 n))) (aU (s.extract n s.size)):=by
 rw[<-xj4,xtr,xn0,List.take_append_drop]
theorem xsv{T:Array aE}{ts rs:List Nat}(gt gs:Nat)(k:Int)(p0:Nat)(l:List Nat)(b:ByteArray)(w:G)(h:St l)(hK:KT T ts rs)(hP:Gp w)(hT:w.heap[gt]? = some (Y T 34 (0,0)))(hne:gt≠gs)(hgp:gs≠3)(hp:p0<bG k)(hb:b.size<=1125899906842624)
 (hrow:w.heap[gs]? = some (Y (SC k l (p0:Int) false) 164 (0,0))):
 aD aO 171 #[aC (some ⟨gt,0,none⟩),aC (some ⟨gs,0,none⟩),E b] w fun e w'=>e=.returned (.tuple #[])/\At gs (SC k (abs (PP ts rs) (bG k) ⟨l,p0⟩ (aU b)).l ((abs (PP ts rs) (bG k) ⟨l,p0⟩ (aU b)).at':Nat) false) 164 w w':=by
 have hr168:=xjh k;obtain⟨r,hr⟩:=aP (bG k);obtain⟨f,z,hTr⟩:=xzp k r hr;rw[hr]at hp hr168 ⊢;obtain⟨Eq,HE⟩:=aQ (abs (PP ts rs) r ⟨l,p0⟩ (aU b));rw[HE.o];have HTr:=D hTr;have hfd:=field0 (r:Int) (f:Int) (z:Int);have H:=D h;have HK:=D hK;have HP:=D hP;have HT:=D hT;have HR:=D hrow;have Hp:=D hp;have hgt:=bI hT;have hgs:=bI hrow;have c0:w.cell? ⟨gs,0,none⟩=some (O J k):=aZ hrow (xcx k l _ _);clear h hK hP hT hrow hTr hr;go_enter Tryz.func171,Tryz.ntmps171;go_wp2_with fail;refine(HTr.o _).mono ?_;rintro e w1 ⟨rfl,hb1⟩;have A00:U (At gs (SC k l (p0:Int) false) 164 w w1):=⟨(At.refl HR.o).later hb1⟩;clear hb1 c0 HTr HR;go_wp2_with fail;clear hfd;go_loopw [2] (fun x wr=>∃ (s:ByteArray) (l':List Nat) (p:Nat),x=E s/\s.size<=b.size/\p<r/\U (abs (PP ts rs) r ⟨l',p⟩ (aU s)=Eq)/\U (St l')/\U (At gs (SC k l' (p:Int) false) 164 w wr)) (fun x _=>match x with | E s=>s.size | _=>0)
 case atStart=>exact⟨b,l,p0,rfl,iM _,Hp.o,HE,H,A00⟩
 case round=>
  clear A00 H HE;obtain⟨s,l',p,rfl,hs,hp',HE,H,A0⟩:=hrel;by_cases hc : 0<s.size
  ·have hcz:(0:Int)<(s.size:Int):=by omega
   have cp:wr.cell? ⟨gs,26,none⟩=some (O J (p:Int)):=aZ A0.o.row (gO k _ false H.o.len);obtain⟨d,hd⟩:=aP (r-p);have fd:(r:Int)-(p:Int)=(d:Int):=by omega
   have fdw:J.wrap ((r:Int)-(p:Int))=(d:Int):=by rw[fd,iN];omega
   have hd2:p+d=r:=by omega
   have hs50:s.size<=1125899906842624:=by omega
   clear hd;rcases Nat.lt_trichotomy s.size d with hlt | heq | hgt2
   ·have hN:s.size<=s.size:=by omega
    have hN2:p+s.size<=r:=by omega
    have HM:U (∀ w2:G,w2.heap=wr.heap->aD aO 194 #[aC (some ⟨gs,1,none⟩),O J (p:Int),E (s.extract 0 (s.size))] w2 fun e w'=>e=.returned (.tuple #[])/\At gs (SC k (gN l' p (aU (s.extract 0 (s.size)))) (p:Int) false) 164 w2 w'):=
     ⟨fun w2 hw2=>xez gs k (p:Int) false l' 164 p (s.extract 0 (s.size)) w2 H.o (by rw[kE];omega) (by rw[hw2];exact A0.o.row)⟩
    have HX:U (St (gN l' p (aU (s.extract 0 (s.size))))):=⟨xnh _ H.o p⟩;have HT2:=xj5 (PP ts rs) r l' p s (s.size);rw[HE.o]at HT2;have hz3:(s.extract s.size s.size).size=s.size-(s.size):=by rw[kE];omega
    have hl2:(aU (s.extract 0 (s.size))).length=s.size:=by rw[xaz,kE];omega
    obtain⟨m2,Hm2⟩:=aQ (s.extract 0 (s.size));have e2:=Hm2.o;have e3:s.extract s.size s.size=ByteArray.empty:=by simp
    rw[e2]at HM HX HT2 hl2;rw[e3]at hz3 HT2;rw[xnm (PP ts rs) r (aU m2) l' p (by omega),hl2]at HT2;obtain⟨xl,Hxl⟩:=aQ (gN l' p (aU m2));rw[Hxl.o]at HM HX HT2;have HT2:=D HT2.symm;have hpr:((p:Int)+((s.size:Nat):Int)==(r:Int))=false:=jV.2 (by omega);clear hl2 Hxl;go_wp2_with fail;refine gZ 10 (by kernel_rfl) (by kernel_rfl) ?_;simp only[jH,jU,iW,jK];repeat still_step
    refine jR ?_;go_wp2_with fail;refine(HM.o wr.drew rfl).mono ?_;rintro e w2 ⟨rfl,h2⟩;have A1:U (At gs (SC k xl (p:Int) false) 164 w w2):=⟨A0.o.trans (b:=wr) ⟨h2.os,h2.tape,h2.output,h2.size,h2.row,h2.block⟩⟩;have cp1:w2.cell? ⟨gs,26,none⟩=some (O J (p:Int)):=aZ A1.o.row (gO k _ false HX.o.len);clear h2 cp HM;go_wp2_with ((with_reducible refine cU A1 rfl _ _ _ rfl rfl ?_);refine⟨_,_,_,rfl,rfl,rfl,(by rw[xa6 k _ false HX.o.len];decide),?_⟩;intro w5 HR2;rw[xbh k _ _ false HX.o.len]at HR2;have cp2:w5.cell? ⟨gs,26,none⟩=some (O J ((p:Int)+((s.size:Nat):Int))):=aZ HR2.o.row (gO k _ false HX.o.len));go_roundw
    case rel=>exact⟨ByteArray.empty,_,p+(s.size),rfl,iX _,by omega,HT2,HX,HR2⟩
    case measure=>simp;omega
   ·subst heq;have hN:s.size<=s.size:=by omega
    have hN2:p+s.size<=r:=by omega
    have HM:U (∀ w2:G,w2.heap=wr.heap->aD aO 194 #[aC (some ⟨gs,1,none⟩),O J (p:Int),E (s.extract 0 (s.size))] w2 fun e w'=>e=.returned (.tuple #[])/\At gs (SC k (gN l' p (aU (s.extract 0 (s.size)))) (p:Int) false) 164 w2 w'):=
     ⟨fun w2 hw2=>xez gs k (p:Int) false l' 164 p (s.extract 0 (s.size)) w2 H.o (by rw[kE];omega) (by rw[hw2];exact A0.o.row)⟩
    have HX:U (St (gN l' p (aU (s.extract 0 (s.size))))):=⟨xnh _ H.o p⟩;have HT2:=xj5 (PP ts rs) r l' p s (s.size);rw[HE.o]at HT2;have hz3:(s.extract s.size s.size).size=s.size-(s.size):=by rw[kE];omega
    have hl2:(aU (s.extract 0 (s.size))).length=s.size:=by rw[xaz,kE];omega
    obtain⟨m2,Hm2⟩:=aQ (s.extract 0 (s.size));have e2:=Hm2.o;have e3:s.extract s.size s.size=ByteArray.empty:=by simp
    rw[e2]at HM HX HT2 hl2;rw[e3]at hz3 HT2;rw[xnl (PP ts rs) r (aU m2) l' p (fun h9=>by rw[h9]at hl2;simp at hl2;omega) (by omega)]at HT2;obtain⟨xl,Hxl⟩:=aQ (gN l' p (aU m2));rw[Hxl.o]at HM HX HT2;have HT2:=D HT2.symm;have hpr:(p:Int)+((s.size:Nat):Int)=(r:Int):=by omega
    clear hl2 Hxl;go_wp2_with fail;refine gZ 10 (by kernel_rfl) (by kernel_rfl) ?_;simp only[jH,jU,iW,jK];repeat still_step
    refine jR ?_;go_wp2_with fail;refine(HM.o wr.drew rfl).mono ?_;rintro e w2 ⟨rfl,h2⟩;have A1:U (At gs (SC k xl (p:Int) false) 164 w w2):=⟨A0.o.trans (b:=wr) ⟨h2.os,h2.tape,h2.output,h2.size,h2.row,h2.block⟩⟩;have cp1:w2.cell? ⟨gs,26,none⟩=some (O J (p:Int)):=aZ A1.o.row (gO k _ false HX.o.len);clear h2 cp HM;go_wp2_with ((with_reducible refine cU A1 rfl _ _ _ rfl rfl ?_);refine⟨_,_,_,rfl,rfl,rfl,(by rw[xa6 k _ false HX.o.len];decide),?_⟩;intro w5 HR2;rw[xbh k _ _ false HX.o.len]at HR2;have cp2:w5.cell? ⟨gs,26,none⟩=some (O J (r:Int)):=aZ HR2.o.row (gO k _ false HX.o.len));refine(xi2 gt gs k (r:Int) false xl w5 HX.o HK.o (Gp.at HP.o HR2.o hgp) (HR2.o.other hgt hne HT.o) HR2.o.row).mono ?_;rintro e w6 ⟨rfl,h6⟩;have A2:U (At gs (SC k (PP ts rs xl) ((0:Nat):Int) false) 164 w w6):=⟨HR2.o.trans h6⟩;clear h6 cp2 cp1 A1;go_wp2_with fail;go_roundw
    case rel=>exact⟨ByteArray.empty,_,0,rfl,iX _,by omega,HT2,⟨xb7 HK.o.br HX.o⟩,A2⟩
    case measure=>simp;omega
   ·have hN:d<=s.size:=by omega
    have hN2:p+d<=r:=by omega
    have HM:U (∀ w2:G,w2.heap=wr.heap->aD aO 194 #[aC (some ⟨gs,1,none⟩),O J (p:Int),E (s.extract 0 (d))] w2 fun e w'=>e=.returned (.tuple #[])/\At gs (SC k (gN l' p (aU (s.extract 0 (d)))) (p:Int) false) 164 w2 w'):=
     ⟨fun w2 hw2=>xez gs k (p:Int) false l' 164 p (s.extract 0 (d)) w2 H.o (by rw[kE];omega) (by rw[hw2];exact A0.o.row)⟩
    have HX:U (St (gN l' p (aU (s.extract 0 (d))))):=⟨xnh _ H.o p⟩;have HT2:=xj5 (PP ts rs) r l' p s (d);rw[HE.o]at HT2;have hz3:(s.extract (d) s.size).size=s.size-(d):=by rw[kE];omega
    have hl2:(aU (s.extract 0 (d))).length=d:=by rw[xaz,kE];omega
    obtain⟨m2,Hm2⟩:=aQ (s.extract 0 (d));obtain⟨s3,Hs3⟩:=aQ (s.extract (d) s.size);have e2:=Hm2.o;have e3:=Hs3.o;rw[e2]at HM HX HT2 hl2;rw[e3]at hz3 HT2;rw[xnl (PP ts rs) r (aU m2) l' p (fun h9=>by rw[h9]at hl2;simp at hl2;omega) (by omega)]at HT2;obtain⟨xl,Hxl⟩:=aQ (gN l' p (aU m2));rw[Hxl.o]at HM HX HT2;have HT2:=D HT2.symm;have hpr:(p:Int)+((d:Nat):Int)=(r:Int):=by omega
    clear hl2 Hxl;go_wp2_with fail;refine gZ 10 (by kernel_rfl) (by kernel_rfl) ?_;simp only[jH,jU,iW,jK];repeat still_step
    refine jR ?_;go_wp2_with fail;refine(HM.o wr.drew rfl).mono ?_;rintro e w2 ⟨rfl,h2⟩;have A1:U (At gs (SC k xl (p:Int) false) 164 w w2):=⟨A0.o.trans (b:=wr) ⟨h2.os,h2.tape,h2.output,h2.size,h2.row,h2.block⟩⟩;have cp1:w2.cell? ⟨gs,26,none⟩=some (O J (p:Int)):=aZ A1.o.row (gO k _ false HX.o.len);clear h2 cp HM;go_wp2_with ((with_reducible refine cU A1 rfl _ _ _ rfl rfl ?_);refine⟨_,_,_,rfl,rfl,rfl,(by rw[xa6 k _ false HX.o.len];decide),?_⟩;intro w5 HR2;rw[xbh k _ _ false HX.o.len]at HR2;have cp2:w5.cell? ⟨gs,26,none⟩=some (O J (r:Int)):=aZ HR2.o.row (gO k _ false HX.o.len));refine(xi2 gt gs k (r:Int) false xl w5 HX.o HK.o (Gp.at HP.o HR2.o hgp) (HR2.o.other hgt hne HT.o) HR2.o.row).mono ?_;rintro e w6 ⟨rfl,h6⟩;have A2:U (At gs (SC k (PP ts rs xl) ((0:Nat):Int) false) 164 w w6):=⟨HR2.o.trans h6⟩;clear h6 cp2 cp1 A1;go_wp2_with fail;go_roundw
    case rel=>exact⟨s3,_,0,rfl,by omega,by omega,HT2,⟨xb7 HK.o.br HX.o⟩,A2⟩
    case measure=>simp only;omega
  ·have hs0:s.size=0:=by omega
   have HF:U ((⟨l',p⟩:Sp)=Eq):=⟨by
    have h9:=HE.o;rw[List.eq_nil_of_length_eq_zero (show (aU s).length=0 by rw[xaz];exact hs0)]at h9;exact h9⟩
   have A1:U (At gs (SC k Eq.l (Eq.at':Int) false) 164 w wr):=⟨by rw[<-HF.o];exact A0.o⟩;clear A0 HF HE;go_wp2_with fail;go_end0
   exact⟨rfl,A1.o⟩
end spoe
namespace spof
open arr mem bJ dL cF spmx eT eZ gI iH spob spoc spod
theorem dV:(aO.info? 5).map (fun i=>(i.zero,i.size,i.bytes))=some (some (O .u8 0),1,1):=by kernel_rfl
theorem parts{P:aI}{e:aH}{z:aE}{s b:Nat}(h:(P.info? e).map (fun i=>(i.zero,i.size,i.bytes))=some (some z,s,b)):∃ i,P.info? e=some i/\i.zero=some z/\i.size=s/\i.bytes=b:=by
 cases hi:P.info? e with
 | none=>rw[hi]at h;cases h
 | some i=>
  rw[hi]at h;simp only[nU,mT,Prod.mk.injEq]at h;exact⟨i,rfl,h.1,h.2.1,h.2.2⟩
theorem xb6{w w':G}{base:Nat}{e:aH}{size:Nat}{v:aE}{n:Nat}{xs:List aE}{g:Nat}{C:Array aE}{t:aH}(h:w.ownsRow base e size v n xs)(k:At g C t w w')(hg:g<base):w'.ownsRow base e size v n xs:=
 ⟨h.1,h.2.imp id fun ⟨g',cap,cur,hv,hb,hgr,rest⟩=>⟨g',cap,cur,hv,hb,(k.block g' (bI hgr) (by omega)).trans hgr,rest⟩⟩
theorem xcr{g B:Nat}{C:Array aE}{t:aH}{a b c:G}(h:At g C t a b)(k:aF B b c)(hB:a.heap.size<=B)(hg:g<B):At g C t a c:=
 ⟨k.os.trans h.os,k.tape.trans h.tape,k.output.trans h.output,jJ h.size k.size,(k.block g hg).trans h.row,fun i hi hig=>(k.block i (by omega)).trans (h.block i hi hig)⟩
def cP(l:List Nat):List UInt8:=l.map UInt8.ofNat
theorem xzy(l:List Nat):(cP l).length=l.length:=by simp[cP]
theorem xm8(l m:List Nat)(hm:∀ x∈m,x<256):aJ (cP (l++m))=aJ (cP l)++m.map (fun x:Nat=>Value.int .u8 (x:Int)):=by
 unfold cP;rw[List.map_append,pA];congr 1
 induction m with
 | nil=>rfl
 | cons x m ih=>
  have hx:=hm x (by simp);have:=ih (fun y hy=>hm y (by simp[hy]));simp only[lT];rw[<-this];simp[aJ,jO hx]
theorem xbu{w:G}{base:Nat}{e:aH}{size:Nat}{v:aE}{n:Nat}{xs:List aE}(hn : 0<n)(h:w.ownsRow base e size v n xs):∃ g cap,v=aB (some ⟨g,0,none⟩) n cap:=by
 rcases h.2 with ⟨-,h0⟩ | ⟨g,cap,cur,hv,-⟩
 ·omega
 ·exact⟨g,cap,hv⟩
theorem xhn(x c:Nat):IntKind.u8.wrap ((x:Int) / 2 ^ c)=((x / 2 ^ c%256:Nat):Int):=by
 rw[rols.castd x c,kU];omega
theorem xk7(l:List Nat)(p m:Nat):∀ x∈gS l p m,x<256:=by
 intro x hx;obtain⟨i,-,rfl⟩:=nY.1 hx;exact gb_lt _ _
theorem xbg{w:G}{vs:List aE}{T:Nat}:∀ j u,vs[j]? = some u->(w.alloc (Y vs.toArray T)).cell? ((⟨w.heap.size,0,none⟩:Addr).add j)=some u:=by
 intro j u hj;rw[Addr.add_mid,kP];exact aZ (cM _ _ _ rfl) (by simpa using hj)
theorem cells8(u:Nat)(hu:u<18446744073709551616):([u%256,u / 2 ^ 8%256,u / 2 ^ 16%256,u / 2 ^ 24%256,u / 2 ^ 32%256,u / 2 ^ 40%256,u / 2 ^ 48%256,u / 2 ^ 56%256]:List Nat).map (fun x:Nat=>Value.int .u8 (x:Int)) =
 [O .u8 ((u:Int)%256),O .u8 ((u:Int) / 256%256),O .u8 ((u:Int) / 65536%256),O .u8 ((u:Int) / 16777216%256),O .u8 ((u:Int) / 4294967296%256),O .u8 ((u:Int) / 1099511627776%256),O .u8 ((u:Int) / 281474976710656%256),O .u8 ((u:Int) / 72057594037927936)]:=by
 have e:u / 2 ^ 56%256=u / 72057594037927936:=by omega
 rw[e];simp only[lT,List.map_nil];rfl
theorem xjk(base gs:Nat)(k a:Int)(o:Bool)(l:List Nat)(t:aH)(xs:List Nat)(j gv cap p z:Nat)(w:G)(h:St l)(hpz:p<=z)(hz:z<=200)(hj:j<=50000)(hgs:gs<base)(hbase:base<=w.heap.size)
 (hrow:w.heap[gs]? = some (Y (SC k l a o) t (0,0))) (hown:w.ownsRow base 5 1 (aB (some ⟨gv,0,none⟩) j cap) j (aJ (cP xs))):
 aD aO 197 #[aB (some ⟨gv,0,none⟩) j cap,aC (some ⟨gs,1,none⟩),O J (p:Int),O J (z:Int)] w fun e w'=>∃ gv' cap',e=.returned (aB (some ⟨gv',0,none⟩) (j+(z-p)) cap')/\w'.ownsRow base 5 1 (aB (some ⟨gv',0,none⟩) (j+(z-p)) cap') (j+(z-p)) (aJ (cP (xs++gS l p (z-p))))/\aF base w w':=by
 obtain⟨i0,hi,hz0,hz1,hz2⟩:=parts dV;have HI:=D (jA hi (jA hz0 (jA hz1 hz2)));have H:=D h;have OWN:=D hown;have HR:=D hrow;clear h hown hrow hi hz0 hz1 hz2;go_enter Tryz.func197,Tryz.ntmps197;go_wp2_with fail;go_loopw [0,2] (fun v y wr=>∃ (m:Nat),p+m<=z/\(∃ g cap,v=aB (some ⟨g,0,none⟩) (j+m) cap)/\y=O J ((p+m:Nat):Int)/\U (wr.ownsRow base 5 1 v (j+m) (aJ (cP (xs++gS l p m))))/\U (aF base w wr)) (fun _ y _=>z-(aG y).toNat)
 case atStart=>exact⟨0,by omega,⟨gv,cap,rfl⟩,rfl,⟨by rw[show gS l p 0=[] from rfl,List.append_nil];exact OWN.o⟩,⟨iR _ _⟩⟩
 case round=>
  clear OWN;obtain⟨m,hm,⟨g1,c1,rfl⟩,rfl,OWN,HB⟩:=hrel;obtain⟨x,hx⟩:=aP (p+m);rw[hx];obtain⟨r8,hr8⟩:=aP (x%8);have fm:(x:Int).tmod 8=(r8:Int):=by rw[jB (by omega)];omega
  have fm2:(x:Int)%8=(r8:Int):=by omega
  by_cases hc:r8=0/\x+8<=z
  ·obtain⟨h0,h8⟩:=hc;subst h0;have fm:(x:Int).tmod 8=0:=fm;have fm2:(x:Int)%8=0:=fm2;obtain⟨q,hq⟩:=aP (x / 8);have fq:(x:Int).tdiv 8=(q:Int):=by rw[iU (by omega)];omega
   have fqw:J.wrap ((x:Int).tdiv 8)=(q:Int):=by rw[fq,iN];omega
   have fq2:(x:Int) / 8=(q:Int):=by omega
   have fq3:J.wrap (q:Int)=(q:Int):=bB;have hq25:q<25:=by omega
   have hqz:(q:Int)<25:=by omega
   obtain⟨u,hu⟩:=aP (g l q);have bu:u<18446744073709551616:=hu ▸ H.o.lt q;have cx:wr.cell? ⟨gs,1+q,none⟩=some (O .u64 (u:Int)):=by rw[<-hu];exact aZ ((HB.o.block gs hgs).trans HR.o) (xcn k a o H.o.len q hq25)
   have HNX:U (aJ (cP (xs++gS l p (m+8)))=aJ (cP (xs++gS l p m)) ++ [O .u8 ((u:Int)%256),O .u8 ((u:Int) / 256%256),O .u8 ((u:Int) / 65536%256),O .u8 ((u:Int) / 16777216%256),O .u8 ((u:Int) / 4294967296%256),O .u8 ((u:Int) / 1099511627776%256),O .u8 ((u:Int) / 281474976710656%256),O .u8 ((u:Int) / 72057594037927936)]):=⟨by
    rw[xk6,<-mL,xm8 _ _ (xk7 _ _ _),hx,show x=8*q by omega,xun l q u hu,cells8 u bu]⟩
   have hwx:base<=wr.heap.size:=jJ hbase HB.o.size;clear hq hr8;go_wp2_with (at_builtin;refine kH _ rfl _ _ 57 rfl base 5 i0 (O .u8 0) 1 1 Tryz.underlying57 HI.o.1 HI.o.2.1 HI.o.2.2.1 HI.o.2.2.2 rfl (by decide) _ _ _ rfl (OWN.o.alloc _) ⟨wr.heap.size,0,none⟩ 8 8 [O .u8 ((u:Int)%256),O .u8 ((u:Int) / 256%256),O .u8 ((u:Int) / 65536%256),O .u8 ((u:Int) / 16777216%256),O .u8 ((u:Int) / 4294967296%256),O .u8 ((u:Int) / 1099511627776%256),O .u8 ((u:Int) / 281474976710656%256),O .u8 ((u:Int) / 72057594037927936)] rfl rfl xbg (fun u hu=>by simp at hu;rcases hu with h | h | h | h | h | h | h | h<;>(subst h;rfl)) (by unfold maxLen;omega) (by omega) (by rw[size_alloc];omega) ?_);intro v' w4 hown' hgrow _;have hb4:aF base wr w4:=((iR base wr).alloc hwx _).grown hgrow (by rw[size_alloc];omega) (fun k hk=>(OWN.o.lt k hk).1);have HB4:U (aF base w w4):=⟨HB.o.trans hb4⟩;have OY:U (w4.ownsRow base 5 1 v' (j+(m+8)) (aJ (cP (xs++gS l p (m+8))))):=⟨by
    rw[HNX.o];exact hown'⟩
   obtain⟨gv',cap',hv'⟩:=xbu (by omega) OY.o;clear hown' hgrow hb4;subst hv';go_wp2_with fail;go_roundw
   case rel=>exact⟨m+8,by omega,⟨_,_,rfl⟩,by go_num,OY,HB4⟩
   case measure=>simp[aG];omega
  ·have hc2:r8≠0\/r8=0/\z<x+8:=by omega
   rcases hc2 with h2 | ⟨h0,h2⟩
   ·have hcz:((r8:Int)==0)=false:=jV.2 (by omega);go_wp2_with fail;clear hcz;go_loopw [0,2] (fun v y wr=>∃ (m:Nat),p+m<=z/\(∃ g cap,v=aB (some ⟨g,0,none⟩) (j+m) cap)/\y=O J ((p+m:Nat):Int)/\U (wr.ownsRow base 5 1 v (j+m) (aJ (cP (xs++gS l p m))))/\U (aF base w wr)) (fun _ y _=>z-(aG y).toNat)
    case atStart=>exact⟨m,hm,⟨g1,c1,rfl⟩,by rw[hx],OWN,HB⟩
    case round=>
     clear OWN HB hm hx fm fm2 hr8 hc;obtain⟨m,hm,⟨g1,c1,rfl⟩,rfl,OWN,HB⟩:=hrel;obtain⟨x,hx⟩:=aP (p+m);rw[hx];by_cases hlt:x<z
     ·have hltz:(x:Int)<(z:Int):=by omega
      obtain⟨q,hq⟩:=aP (x / 8);obtain⟨mm,hmm⟩:=aP (x%8);obtain⟨c,hc⟩:∃ c,c=8*mm:=⟨_,rfl⟩;have fq:(x:Int).tdiv 8=(q:Int):=by rw[iU (by omega)];omega
      have fqw:J.wrap ((x:Int).tdiv 8)=(q:Int):=by rw[fq,iN];omega
      have fm:(x:Int).tmod 8=(mm:Int):=by rw[jB (by omega)];omega
      have fq2:(x:Int) / 8=(q:Int):=by omega
      have fq3:J.wrap (q:Int)=(q:Int):=bB;have fm2:(x:Int)%8=(mm:Int):=by omega
      have fc:(mm:Int)*8=(c:Int):=by omega
      have fcw:J.wrap ((mm:Int)*8)=(c:Int):=bB;have hc63:c<=63:=by omega
      have hq25:q<25:=by omega
      have hqz:(q:Int)<25:=by omega
      obtain⟨u,hu⟩:=aP (g l q);have bu:u<18446744073709551616:=hu ▸ H.o.lt q;obtain⟨β,hβ⟩:∃ β,u / 2 ^ c%256 = β := ⟨_,rfl⟩;have bβ : β < 256:=hβ ▸ kB _ (by decide);have fz:=xhn u c;rw[hβ]at fz;have fz2:((u:Int) / 2 ^ c)%256=(β : Int):=by rw[<-fz,kU]
      have cx:wr.cell? ⟨gs,1+q,none⟩=some (O .u64 (u:Int)):=by rw[<-hu];exact aZ ((HB.o.block gs hgs).trans HR.o) (xcn k a o H.o.len q hq25)
      have HNX:U (aJ (cP (xs++gS l p (m+1)))=aJ (cP (xs++gS l p m)) ++ [O .u8 (β : Int)]):=⟨by
       rw[xk6,<-mL,xm8 _ _ (xk7 _ _ _),hx,show gS l x 1=[gb l x] from rfl,gb,hq,hmm,<-hc,hu,hβ];rfl⟩
      have hwx:base<=wr.heap.size:=jJ hbase HB.o.size;clear hq hmm hc hβ hu;go_wp2_with (at_builtin;refine kH _ rfl _ _ 57 rfl base 5 i0 (O .u8 0) 1 1 Tryz.underlying57 HI.o.1 HI.o.2.1 HI.o.2.2.1 HI.o.2.2.2 rfl (by decide) _ _ _ rfl (OWN.o.alloc _) ⟨wr.heap.size,0,none⟩ 1 1 [O .u8 (β : Int)] rfl rfl xbg (fun u hu=>by simp at hu;subst hu;rfl) (by unfold maxLen;omega) (by omega) (by rw[size_alloc];omega) ?_);intro v' w4 hown' hgrow _;have hb4:aF base wr w4:=((iR base wr).alloc hwx _).grown hgrow (by rw[size_alloc];omega) (fun k hk=>(OWN.o.lt k hk).1);have HB4:U (aF base w w4):=⟨HB.o.trans hb4⟩;have OY:U (w4.ownsRow base 5 1 v' (j+(m+1)) (aJ (cP (xs++gS l p (m+1))))):=⟨by
       rw[HNX.o];exact hown'⟩
      obtain⟨gv',cap',hv'⟩:=xbu (by omega) OY.o;clear hown' hgrow hb4;subst hv';go_wp2_with fail;go_roundw
      case rel=>exact⟨m+1,by omega,⟨_,_,rfl⟩,by go_num,OY,HB4⟩
      case measure=>simp[aG];omega
     ·have hE:U (m=z-p/\True):=⟨by omega,trivial⟩;have hm2:m=z-p:=by omega
      have hge:(z:Int)<=(x:Int):=by omega
      clear hm hx;subst hm2;go_wp2_with fail;go_ret;exact⟨g1,c1,rfl,OWN.o,HB.o⟩
   ·subst h0;have fm:(x:Int).tmod 8=0:=fm;have fm2:(x:Int)%8=0:=fm2;go_wp2_with fail;go_loopw [0,2] (fun v y wr=>∃ (m:Nat),p+m<=z/\(∃ g cap,v=aB (some ⟨g,0,none⟩) (j+m) cap)/\y=O J ((p+m:Nat):Int)/\U (wr.ownsRow base 5 1 v (j+m) (aJ (cP (xs++gS l p m))))/\U (aF base w wr)) (fun _ y _=>z-(aG y).toNat)
    case atStart=>exact⟨m,hm,⟨g1,c1,rfl⟩,by rw[hx],OWN,HB⟩
    case round=>
     clear OWN HB hm hx fm fm2 hr8 hc;obtain⟨m,hm,⟨g1,c1,rfl⟩,rfl,OWN,HB⟩:=hrel;obtain⟨x,hx⟩:=aP (p+m);rw[hx];by_cases hlt:x<z
     ·have hltz:(x:Int)<(z:Int):=by omega
      obtain⟨q,hq⟩:=aP (x / 8);obtain⟨mm,hmm⟩:=aP (x%8);obtain⟨c,hc⟩:∃ c,c=8*mm:=⟨_,rfl⟩;have fq:(x:Int).tdiv 8=(q:Int):=by rw[iU (by omega)];omega
      have fqw:J.wrap ((x:Int).tdiv 8)=(q:Int):=by rw[fq,iN];omega
      have fm:(x:Int).tmod 8=(mm:Int):=by rw[jB (by omega)];omega
      have fq2:(x:Int) / 8=(q:Int):=by omega
      have fq3:J.wrap (q:Int)=(q:Int):=bB;have fm2:(x:Int)%8=(mm:Int):=by omega
      have fc:(mm:Int)*8=(c:Int):=by omega
      have fcw:J.wrap ((mm:Int)*8)=(c:Int):=bB;have hc63:c<=63:=by omega
      have hq25:q<25:=by omega
      have hqz:(q:Int)<25:=by omega
      obtain⟨u,hu⟩:=aP (g l q);have bu:u<18446744073709551616:=hu ▸ H.o.lt q;obtain⟨β,hβ⟩:∃ β,u / 2 ^ c%256 = β := ⟨_,rfl⟩;have bβ : β < 256:=hβ ▸ kB _ (by decide);have fz:=xhn u c;rw[hβ]at fz;have fz2:((u:Int) / 2 ^ c)%256=(β : Int):=by rw[<-fz,kU]
      have cx:wr.cell? ⟨gs,1+q,none⟩=some (O .u64 (u:Int)):=by rw[<-hu];exact aZ ((HB.o.block gs hgs).trans HR.o) (xcn k a o H.o.len q hq25)
      have HNX:U (aJ (cP (xs++gS l p (m+1)))=aJ (cP (xs++gS l p m)) ++ [O .u8 (β : Int)]):=⟨by
       rw[xk6,<-mL,xm8 _ _ (xk7 _ _ _),hx,show gS l x 1=[gb l x] from rfl,gb,hq,hmm,<-hc,hu,hβ];rfl⟩
      have hwx:base<=wr.heap.size:=jJ hbase HB.o.size;clear hq hmm hc hβ hu;go_wp2_with (at_builtin;refine kH _ rfl _ _ 57 rfl base 5 i0 (O .u8 0) 1 1 Tryz.underlying57 HI.o.1 HI.o.2.1 HI.o.2.2.1 HI.o.2.2.2 rfl (by decide) _ _ _ rfl (OWN.o.alloc _) ⟨wr.heap.size,0,none⟩ 1 1 [O .u8 (β : Int)] rfl rfl xbg (fun u hu=>by simp at hu;subst hu;rfl) (by unfold maxLen;omega) (by omega) (by rw[size_alloc];omega) ?_);intro v' w4 hown' hgrow _;have hb4:aF base wr w4:=((iR base wr).alloc hwx _).grown hgrow (by rw[size_alloc];omega) (fun k hk=>(OWN.o.lt k hk).1);have HB4:U (aF base w w4):=⟨HB.o.trans hb4⟩;have OY:U (w4.ownsRow base 5 1 v' (j+(m+1)) (aJ (cP (xs++gS l p (m+1))))):=⟨by
       rw[HNX.o];exact hown'⟩
      obtain⟨gv',cap',hv'⟩:=xbu (by omega) OY.o;clear hown' hgrow hb4;subst hv';go_wp2_with fail;go_roundw
      case rel=>exact⟨m+1,by omega,⟨_,_,rfl⟩,by go_num,OY,HB4⟩
      case measure=>simp[aG];omega
     ·have hE:U (m=z-p/\True):=⟨by omega,trivial⟩;have hm2:m=z-p:=by omega
      have hge:(z:Int)<=(x:Int):=by omega
      clear hm hx;subst hm2;go_wp2_with fail;go_ret;exact⟨g1,c1,rfl,OWN.o,HB.o⟩
end spof
end Go.Proofs.YtomphjajkkddkaaGreatDoor
