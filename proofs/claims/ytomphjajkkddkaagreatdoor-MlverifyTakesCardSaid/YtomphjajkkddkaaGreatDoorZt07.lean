/-
  Plain facts on the sponge: bytes of a state, absorbing and squeezing byte by byte, over any permutat
-/
import Derived.Test.YtomphjajkkddkaaGreatDoorZt03
import Derived.Test.YtomphjajkkddkaaGreatDoorZt06
import Derived.Test.YtomphjajkkddkaaGreatDoorProg
import Derived.Test.YtomphjajkkddkaaGreatDoorZt01
import Derived.Deep.MidRow
import Derived.Lib.QuietBelow
import Derived.OwnWalk
import Derived.Lib.ConvBytes
set_option maxRecDepth 100000
set_option maxHeartbeats 16000000
namespace Go.Proofs.YtomphjajkkddkaaGreatDoor
namespace spgm
set_option linter.unusedVariables false
open Go.RowKit
open arr kecm
def rate (k:Int):Nat:=if k=1 then 168 else if k=2 then 136 else if k=3 then 136 else if k=4 then 72 else 0
def mark (k:Int):Nat:=if k=1 then 31 else if k=2 then 31 else 6
theorem rate_le (k:Int):rate k≤168:=by unfold rate;(repeat' split)<;>decide
theorem mark_lt (k:Int):mark k<256:=by unfold mark;(repeat' split)<;>decide
def xb (l:List Nat) (i b:Nat):List Nat:=l.set (i / 8) (g l (i / 8) ^^^ (b*2 ^ (8*(i%8))%18446744073709551616))
def gb (l:List Nat) (i:Nat):Nat:=g l (i / 8) / 2 ^ (8*(i%8))%256
theorem gb_lt (l:List Nat) (i:Nat):gb l i<256:=Nat.mod_lt _ (by decide)
theorem g_set (l:List Nat) (i j x:Nat):g (l.set i x) j=if j=i∧i<l.length then x else g l j:=by
 unfold g
 rw[List.getD_eq_getElem?_getD,List.getD_eq_getElem?_getD,List.getElem?_set]
 by_cases h:i=j
 ·subst h
  by_cases h2:i<l.length
  ·simp[h2]
  ·rw[if_pos rfl,if_neg h2,if_neg (by omega),List.getElem?_eq_none (by omega)]
 ·rw[if_neg h,if_neg (by omega)]
theorem xb_st {l:List Nat} (h:St l) (i b:Nat):St (xb l i b):=⟨by unfold xb;rw[List.length_set,h.len],fun j=>by
 unfold xb
 rw[g_set]
 split
 ·exact xor_lt _ _ (h.lt _) (Nat.mod_lt _ (by decide))
 ·exact h.lt j⟩
structure Sp where
 l:List Nat
 at':Nat
def ab (P:List Nat→List Nat) (r:Nat) (s:Sp) (b:Nat):Sp:=if s.at'+1=r then ⟨P (xb s.l s.at' b),0⟩ else ⟨xb s.l s.at' b,s.at'+1⟩
def abs (P:List Nat→List Nat) (r:Nat) (s:Sp) (bs:List Nat):Sp:=bs.foldl (ab P r) s
theorem abs_append (P:List Nat→List Nat) (r:Nat) (s:Sp) (x y:List Nat):abs P r s (x++y)=abs P r (abs P r s x) y:=List.foldl_append
theorem ab_ok {P:List Nat→List Nat} (hP:∀ l,St l→St (P l)) {r:Nat} {s:Sp} (h:St s.l) (ha:s.at'<r) (b:Nat):St (ab P r s b).l∧(ab P r s b).at'<r:=by
 unfold ab
 split
 ·exact⟨hP _ (xb_st h _ _),by show 0<r;omega⟩
 ·exact⟨xb_st h _ _,by show s.at'+1<r;omega⟩
theorem abs_ok {P:List Nat→List Nat} (hP:∀ l,St l→St (P l)) {r:Nat} (bs:List Nat):∀ {s:Sp},St s.l→s.at'<r→St (abs P r s bs).l∧(abs P r s bs).at'<r:=by
 induction bs with
 | nil=>intro s h ha;exact⟨h,ha⟩
 | cons b bs ih=>intro s h ha;exact ih (s:=ab P r s b) (ab_ok hP h ha b).1 (ab_ok hP h ha b).2
def pad (r m:Nat) (s:Sp):Sp:=⟨xb (xb s.l s.at' m) (r-1) 128,r⟩
theorem pad_ok {r m:Nat} {s:Sp} (h:St s.l):St (pad r m s).l∧(pad r m s).at'≤r:=⟨xb_st (xb_st h _ _) _ _,Nat.le_refl _⟩
def tn (P:List Nat→List Nat) (r:Nat) (s:Sp):Sp:=if s.at'=r then ⟨P s.l,0⟩ else s
def nx (P:List Nat→List Nat) (r:Nat) (s:Sp):Sp:=⟨(tn P r s).l,(tn P r s).at'+1⟩
def sk (P:List Nat→List Nat) (r:Nat) (s:Sp):Nat→Sp
 | 0=>s
 | n+1=>nx P r (sk P r s n)
def sb (P:List Nat→List Nat) (r:Nat) (s:Sp) (i:Nat):Nat:=gb (tn P r (sk P r s i)).l (tn P r (sk P r s i)).at'
def sq (P:List Nat→List Nat) (r:Nat) (s:Sp) (n:Nat):List Nat:=(List.range n).map (sb P r s)
theorem sq_length (P:List Nat→List Nat) (r:Nat) (s:Sp) (n:Nat):(sq P r s n).length=n:=by simp[sq]
theorem sq_lt (P:List Nat→List Nat) (r:Nat) (s:Sp) (n:Nat):∀ x∈sq P r s n,x<256:=by
 intro x hx
 obtain⟨i,-,rfl⟩:=List.mem_map.1 hx
 exact gb_lt _ _
theorem sk_add (P:List Nat→List Nat) (r:Nat) (s:Sp) (n m:Nat):sk P r s (n+m)=sk P r (sk P r s n) m:=by
 induction m with
 | zero=>rfl
 | succ m ih=>rw[←Nat.add_assoc,sk,sk,ih]
theorem sb_add (P:List Nat→List Nat) (r:Nat) (s:Sp) (n i:Nat):sb P r s (n+i)=sb P r (sk P r s n) i:=by unfold sb;rw[sk_add]
theorem sq_succ (P:List Nat→List Nat) (r:Nat) (s:Sp) (n:Nat):sq P r s (n+1)=sq P r s n ++ [sb P r s n]:=by simp[sq,List.range_succ]
theorem sq_add (P:List Nat→List Nat) (r:Nat) (s:Sp) (n m:Nat):sq P r s (n+m)=sq P r s n++sq P r (sk P r s n) m:=by
 induction m with
 | zero=>simp[sq]
 | succ m ih=>rw[←Nat.add_assoc,sq_succ,ih,sq_succ,sb_add,List.append_assoc]
theorem tn_ok {P:List Nat→List Nat} (hP:∀ l,St l→St (P l)) {r:Nat} {s:Sp} (hr : 0<r) (h:St s.l) (ha:s.at'≤r):St (tn P r s).l∧(tn P r s).at'<r:=by
 unfold tn
 split
 ·exact⟨hP _ h,hr⟩
 ·exact⟨h,by omega⟩
theorem sk_ok {P:List Nat→List Nat} (hP:∀ l,St l→St (P l)) {r:Nat} {s:Sp} (hr : 0<r) (h:St s.l) (ha:s.at'≤r) (n:Nat):St (sk P r s n).l∧(sk P r s n).at'≤r:=by
 induction n with
 | zero=>exact⟨h,ha⟩
 | succ n ih=>
  have h1:=tn_ok hP hr ih.1 ih.2
  exact⟨h1.1,h1.2⟩
theorem byte_at (b k:Nat) (hb:b<256) (hk:k<8):b*2 ^ (8*k)<18446744073709551616:=by
 have h1:b*2 ^ (8*k)<256*2 ^ (8*k):=Nat.mul_lt_mul_of_pos_right hb (Nat.two_pow_pos _)
 have h2:(256:Nat)*2 ^ (8*k)=2 ^ (8*(k+1)):=by rw[show (256:Nat)=2 ^ 8 from rfl,←Nat.pow_add];congr 1;omega
 have h3:(2:Nat) ^ (8*(k+1))≤2 ^ 64:=Nat.pow_le_pow_right (by decide) (by omega)
 rw[h2]at h1
 exact Nat.lt_of_lt_of_le h1 h3
end spgm
namespace spmx
open arr kecm spgm
def xbs (l:List Nat) (p:Nat):List Nat→List Nat
 | []=>l
 | b :: bs=>xbs (xb l p b) (p+1) bs
theorem xbs_append (x y:List Nat):∀ (l:List Nat) (p:Nat),xbs l p (x++y)=xbs (xbs l p x) (p+x.length) y:=by
 induction x with
 | nil=>intro l p;rfl
 | cons b x ih=>
  intro l p
  show xbs (xb l p b) (p+1) (x++y)=xbs (xbs (xb l p b) (p+1) x) (p+(b :: x).length) y
  rw[ih,List.length_cons,show p+1+x.length=p+(x.length+1) by omega]
theorem xbs_st (bs:List Nat):∀ {l:List Nat} (_:St l) (p:Nat),St (xbs l p bs):=by
 induction bs with
 | nil=>intro l h p;exact h
 | cons b bs ih=>intro l h p;exact ih (xb_st h p b) (p+1)
theorem abs_lt (P:List Nat→List Nat) (r:Nat) (bs:List Nat):∀ (l:List Nat) (p:Nat),p+bs.length<r→abs P r ⟨l,p⟩ bs=⟨xbs l p bs,p+bs.length⟩:=by
 induction bs with
 | nil=>intro l p _;rfl
 | cons b bs ih=>
  intro l p h
  rw[List.length_cons]at h
  show abs P r (ab P r ⟨l,p⟩ b) bs=_
  have e:ab P r ⟨l,p⟩ b=⟨xb l p b,p+1⟩:=by unfold ab;rw[if_neg (by show ¬ p+1=r;omega)]
  rw[e,ih _ _ (by omega)]
  show (⟨_,_⟩:Sp)=⟨xbs (xb l p b) (p+1) bs,_⟩
  congr 1
  rw[List.length_cons];omega
theorem abs_eq (P:List Nat→List Nat) (r:Nat) (bs:List Nat) (l:List Nat) (p:Nat) (h0:bs≠[]) (h:p+bs.length=r):abs P r ⟨l,p⟩ bs=⟨P (xbs l p bs),0⟩:=by
 have e:bs=bs.dropLast ++ [bs.getLast h0]:=(List.dropLast_concat_getLast h0).symm
 have hl:bs.dropLast.length+1=bs.length:=by
  rw[List.length_dropLast]
  have:bs.length≠0:=fun h=>h0 (List.eq_nil_of_length_eq_zero h)
  omega
 rw[e,abs_append,abs_lt P r _ l p (by omega),xbs_append]
 show ab P r ⟨xbs l p bs.dropLast,p+bs.dropLast.length⟩ (bs.getLast h0)=_
 unfold ab
 rw[if_pos (by show p+bs.dropLast.length+1=r;omega)]
 rfl
theorem or_xor (a b k:Nat) (h:a<2 ^ k):a ||| b*2 ^ k=a ^^^ b*2 ^ k:=by
 apply Nat.eq_of_testBit_eq
 intro i
 rw[Nat.testBit_or,Nat.testBit_xor]
 by_cases hi:i<k
 ·have:(b*2 ^ k).testBit i=false:=by rw[Nat.testBit_mul_two_pow];simp;omega
  rw[this];simp
 ·have:a.testBit i=false:=Nat.testBit_lt_two_pow (Nat.lt_of_lt_of_le h (Nat.pow_le_pow_right (by decide) (by omega)))
  rw[this];simp
theorem or_lt (a b k j:Nat) (ha:a<2 ^ k) (hb:b<2 ^ j):a ||| b*2 ^ k<2 ^ (k+j):=by
 refine Nat.or_lt_two_pow (Nat.lt_of_lt_of_le ha (Nat.pow_le_pow_right (by decide) (by omega))) ?_
 rw[Nat.add_comm k j,Nat.pow_add]
 exact Nat.mul_lt_mul_of_pos_right hb (Nat.two_pow_pos _)
def w8 (b0 b1 b2 b3 b4 b5 b6 b7:Nat):Nat:=b0 ||| b1*2 ^ 8 ||| b2*2 ^ 16 ||| b3*2 ^ 24 ||| b4*2 ^ 32 ||| b5*2 ^ 40 ||| b6*2 ^ 48 ||| b7*2 ^ 56
theorem w8_parts {b0 b1 b2 b3 b4 b5 b6 b7:Nat} (h0:b0<256) (h1:b1<256) (h2:b2<256) (h3:b3<256) (h4:b4<256) (h5:b5<256) (h6:b6<256) (h7:b7<256):
 (b0 ||| b1*2 ^ 8<2 ^ 16∧b0 ||| b1*2 ^ 8 ||| b2*2 ^ 16<2 ^ 24∧b0 ||| b1*2 ^ 8 ||| b2*2 ^ 16 ||| b3*2 ^ 24<2 ^ 32∧b0 ||| b1*2 ^ 8 ||| b2*2 ^ 16 ||| b3*2 ^ 24 ||| b4*2 ^ 32<2 ^ 40 ∧
 b0 ||| b1*2 ^ 8 ||| b2*2 ^ 16 ||| b3*2 ^ 24 ||| b4*2 ^ 32 ||| b5*2 ^ 40<2 ^ 48∧b0 ||| b1*2 ^ 8 ||| b2*2 ^ 16 ||| b3*2 ^ 24 ||| b4*2 ^ 32 ||| b5*2 ^ 40 ||| b6*2 ^ 48<2 ^ 56∧w8 b0 b1 b2 b3 b4 b5 b6 b7<18446744073709551616):=by
 have k1:=or_lt b0 b1 8 8 h0 h1
 have k2:=or_lt _ b2 16 8 k1 h2
 have k3:=or_lt _ b3 24 8 k2 h3
 have k4:=or_lt _ b4 32 8 k3 h4
 have k5:=or_lt _ b5 40 8 k4 h5
 have k6:=or_lt _ b6 48 8 k5 h6
 have k7:=or_lt _ b7 56 8 k6 h7
 exact⟨k1,k2,k3,k4,k5,k6,k7⟩
theorem w8_xor {b0 b1 b2 b3 b4 b5 b6 b7:Nat} (h0:b0<256) (h1:b1<256) (h2:b2<256) (h3:b3<256) (h4:b4<256) (h5:b5<256) (h6:b6<256) (h7:b7<256):
 w8 b0 b1 b2 b3 b4 b5 b6 b7=b0 ^^^ b1*2 ^ 8 ^^^ b2*2 ^ 16 ^^^ b3*2 ^ 24 ^^^ b4*2 ^ 32 ^^^ b5*2 ^ 40 ^^^ b6*2 ^ 48 ^^^ b7*2 ^ 56:=by
 obtain⟨k1,k2,k3,k4,k5,k6,k7⟩:=w8_parts h0 h1 h2 h3 h4 h5 h6 h7
 unfold w8
 rw[or_xor _ b7 56 k6,or_xor _ b6 48 k5,or_xor _ b5 40 k4,or_xor _ b4 32 k3,or_xor _ b3 24 k2,or_xor _ b2 16 k1,or_xor b0 b1 8 h0]
theorem xb_lane (l:List Nat) (q i b:Nat) (hb:b<256) (hi:i<8):xb l (8*q+i) b=l.set q (g l q ^^^ b*2 ^ (8*i)):=by
 unfold xb
 rw[show (8*q+i) / 8=q by omega,show (8*q+i)%8=i by omega,Nat.mod_eq_of_lt (byte_at b i hb hi)]
theorem g_self (l:List Nat) (q x:Nat) (hq:q<l.length):g (l.set q x) q=x:=by rw[g_set,if_pos ⟨rfl,hq⟩]
theorem xbs_lane {l:List Nat} {q b0 b1 b2 b3 b4 b5 b6 b7:Nat} (hq:q<l.length) (h0:b0<256) (h1:b1<256) (h2:b2<256) (h3:b3<256) (h4:b4<256) (h5:b5<256) (h6:b6<256) (h7:b7<256):
 xbs l (8*q) [b0,b1,b2,b3,b4,b5,b6,b7]=l.set q (g l q ^^^ w8 b0 b1 b2 b3 b4 b5 b6 b7):=by
 have e0:xb l (8*q) b0=l.set q (g l q ^^^ b0):=by have:=xb_lane l q 0 b0 h0 (by decide);simpa using this
 show xb (xb (xb (xb (xb (xb (xb (xb l (8*q) b0) (8*q+1) b1) (8*q+1+1) b2) (8*q+1+1+1) b3) (8*q+1+1+1+1) b4) (8*q+1+1+1+1+1) b5) (8*q+1+1+1+1+1+1) b6) (8*q+1+1+1+1+1+1+1) b7=_
 rw[e0]
 simp only[Nat.add_assoc,Nat.reduceAdd]
 rw[xb_lane _ q 1 b1 h1 (by decide),g_self _ _ _ hq,List.set_set,xb_lane _ q 2 b2 h2 (by decide),g_self _ _ _ hq,List.set_set,xb_lane _ q 3 b3 h3 (by decide),g_self _ _ _ hq,List.set_set,xb_lane _ q 4 b4 h4 (by decide),g_self _ _ _ hq,List.set_set,
  xb_lane _ q 5 b5 h5 (by decide),g_self _ _ _ hq,List.set_set,xb_lane _ q 6 b6 h6 (by decide),g_self _ _ _ hq,List.set_set,xb_lane _ q 7 b7 h7 (by decide),g_self _ _ _ hq,List.set_set,w8_xor h0 h1 h2 h3 h4 h5 h6 h7]
 simp only[Nat.reduceMul,Nat.xor_assoc]
def gbs (l:List Nat) (p m:Nat):List Nat:=(List.range m).map (fun i=>gb l (p+i))
theorem gbs_succ (l:List Nat) (p m:Nat):gbs l p (m+1)=gbs l p m ++ [gb l (p+m)]:=by simp[gbs,List.range_succ]
theorem gbs_add (l:List Nat) (p m n:Nat):gbs l p (m+n)=gbs l p m++gbs l (p+m) n:=by
 induction n with
 | zero=>simp[gbs]
 | succ n ih=>rw[←Nat.add_assoc,gbs_succ,ih,gbs_succ,List.append_assoc,Nat.add_assoc]
theorem gb_lane (l:List Nat) (q i:Nat) (hi:i<8):gb l (8*q+i)=g l q / 2 ^ (8*i)%256:=by
 unfold gb
 rw[show (8*q+i) / 8=q by omega,show (8*q+i)%8=i by omega]
theorem gbs_lane (l:List Nat) (q x:Nat) (hx:g l q=x):gbs l (8*q) 8=[x%256,x / 2 ^ 8%256,x / 2 ^ 16%256,x / 2 ^ 24%256,x / 2 ^ 32%256,x / 2 ^ 40%256,x / 2 ^ 48%256,x / 2 ^ 56%256]:=by
 have e:gbs l (8*q) 8=[gb l (8*q+0),gb l (8*q+1),gb l (8*q+2),gb l (8*q+3),gb l (8*q+4),gb l (8*q+5),gb l (8*q+6),gb l (8*q+7)]:=rfl
 rw[e,gb_lane l q 0 (by decide),gb_lane l q 1 (by decide),gb_lane l q 2 (by decide),gb_lane l q 3 (by decide),gb_lane l q 4 (by decide),gb_lane l q 5 (by decide),gb_lane l q 6 (by decide),gb_lane l q 7 (by decide),hx]
 simp
theorem tn_same (P:List Nat→List Nat) (r:Nat) (l:List Nat) (p:Nat) (h:p<r):tn P r ⟨l,p⟩=⟨l,p⟩:=by unfold tn;rw[if_neg (by show ¬ p=r;omega)]
theorem rate_run (P:List Nat→List Nat) (r:Nat) (l:List Nat) (p m:Nat) (h:p+m≤r):sk P r ⟨l,p⟩ m=⟨l,p+m⟩∧sq P r ⟨l,p⟩ m=gbs l p m:=by
 induction m with
 | zero=>exact⟨rfl,by simp[sq,gbs]⟩
 | succ m ih=>
  obtain⟨h1,h2⟩:=ih (by omega)
  refine⟨?_,?_⟩
  ·rw[sk,h1,nx,tn_same P r l _ (by omega)]
   rfl
  ·rw[sq_succ,h2,gbs_succ,sb,h1,tn_same P r l _ (by omega)]
theorem tn_tn (P:List Nat→List Nat) (r:Nat) (s:Sp) (hr : 0<r):tn P r (tn P r s)=tn P r s:=by
 unfold tn
 split
 ·rw[if_neg (by show ¬ 0=r;omega)]
 ·rfl
theorem sk_tn (P:List Nat→List Nat) (r:Nat) (s:Sp) (hr : 0<r) (m:Nat):sk P r s (m+1)=sk P r (tn P r s) (m+1):=by
 rw[Nat.add_comm,sk_add,sk_add]
 congr 1
 show nx P r s=nx P r (tn P r s)
 unfold nx
 rw[tn_tn P r s hr]
theorem sq_tn (P:List Nat→List Nat) (r:Nat) (s:Sp) (hr : 0<r) (m:Nat):sq P r s m=sq P r (tn P r s) m:=by
 unfold sq
 congr 1
 funext i
 unfold sb
 cases i with
 | zero=>show gb (tn P r s).l (tn P r s).at'=gb (tn P r (tn P r s)).l (tn P r (tn P r s)).at';rw[tn_tn P r s hr]
 | succ i=>rw[sk_tn P r s hr i]
theorem round_is (P:List Nat→List Nat) (r:Nat) (s:Sp) (l:List Nat) (p m:Nat) (hr : 0<r) (ht:tn P r s=⟨l,p⟩) (hm : 0<m) (h:p+m≤r):sk P r s m=⟨l,p+m⟩∧sq P r s m=gbs l p m:=by
 obtain⟨m,rfl⟩:∃ k,m=k+1:=⟨m-1,by omega⟩
 rw[sk_tn P r s hr m,sq_tn P r s hr,ht]
 exact rate_run P r l p (m+1) h
end spmx
namespace rspa
open Go.RowKit
open arr mem kecm kecb spgm
def SC (k:Int) (l:List Nat) (a:Int) (o:Bool):Array Value:=(Value.int .i64 k :: ((LK .u64 l).toList ++ [Value.int .i64 a,Value.bool o])).toArray
theorem sc_size (k:Int) {l:List Nat} (a:Int) (o:Bool) (h:l.length=25):(SC k l a o).size=28:=by simp[SC,LK,h]
theorem sc_kind (k:Int) (l:List Nat) (a:Int) (o:Bool):(SC k l a o)[0]? = some (.int .i64 k):=by simp[SC]
theorem sc_lane (k:Int) {l:List Nat} (a:Int) (o:Bool) (h:l.length=25) (i:Nat) (hi:i<25):(SC k l a o)[1+i]? = some (.int .u64 ((g l i:Nat):Int)):=by
 have h1:=lane_get h i hi
 rw[Nat.add_comm]
 simp only[SC,List.getElem?_toArray,List.getElem?_cons_succ]
 rw[List.getElem?_append_left (by simp[LK,h];exact hi),Array.getElem?_toList]
 exact h1
theorem sc_at (k:Int) {l:List Nat} (a:Int) (o:Bool) (h:l.length=25):(SC k l a o)[26]? = some (.int .i64 a):=by
 simp only[SC,List.getElem?_toArray,List.getElem?_cons_succ]
 rw[List.getElem?_append_right (by simp[LK,h])]
 simp[LK,h]
theorem sc_out (k:Int) {l:List Nat} (a:Int) (o:Bool) (h:l.length=25):(SC k l a o)[27]? = some (.bool o):=by
 simp only[SC,List.getElem?_toArray,List.getElem?_cons_succ]
 rw[List.getElem?_append_right (by simp[LK,h])]
 simp[LK,h]
theorem sc_one (k:Int) (l:List Nat) (a:Int) (o:Bool):(SC k l a o).all (·.oneCell')=true:=by
 rw[Array.all_eq_true_iff_forall_mem]
 intro v hv
 simp only[SC,List.mem_toArray,List.mem_cons,List.mem_append,List.not_mem_nil,or_false]at hv
 rcases hv with rfl | h | rfl | rfl
 ·rfl
 ·exact(Array.all_eq_true_iff_forall_mem.1 (lk_one .u64 l)) v (by simpa using h)
 ·rfl
 ·rfl
theorem sc_setl (k:Int) {l:List Nat} (a:Int) (o:Bool) (h:l.length=25) (i x:Nat) (hi:i<25):(SC k l a o).setIfInBounds (1+i) (.int .u64 (x:Int))=SC k (l.set i x) a o:=by
 rw[Nat.add_comm]
 simp only[SC,List.setIfInBounds_toArray,List.set_cons_succ]
 rw[List.set_append_left _ _ (by simp[LK,h];exact hi)]
 have e:(LK .u64 l).toList.set i (.int .u64 (x:Int))=(LK .u64 (l.set i x)).toList:=by rw[←lk_set];simp
 rw[e]
theorem sc_seta (k:Int) {l:List Nat} (a b:Int) (o:Bool) (h:l.length=25):(SC k l a o).setIfInBounds 26 (.int .i64 b)=SC k l b o:=by
 simp only[SC,List.setIfInBounds_toArray,List.set_cons_succ]
 rw[List.set_append_right _ _ (by simp[LK,h])]
 simp[LK,h]
theorem sc_seto (k:Int) {l:List Nat} (a:Int) (o p:Bool) (h:l.length=25):(SC k l a o).setIfInBounds 27 (.bool p)=SC k l a p:=by
 simp only[SC,List.setIfInBounds_toArray,List.set_cons_succ]
 rw[List.set_append_right _ _ (by simp[LK,h])]
 simp[LK,h]
theorem sizeT:(Tryz.prog.info? 34).map (·.size)=some 465:=by kernel_rfl
theorem sizeS:(Tryz.prog.info? 164).map (·.size)=some 28:=by kernel_rfl
end rspa
namespace rspb
open Go.RowKit
open arr mem kecm kecb spgm rspa
def ok (k a:Int) (o:Bool):Bool:=decide (0<rate k) && (decide (0≤a) && (decide (a<(rate k:Int)) || (o && decide (a=(rate k:Int)))))
def okr (r:Nat) (a:Int) (o:Bool):Bool:=decide (0<r) && (decide (0≤a) && (decide (a<(r:Int)) || (o && decide (a=(r:Int)))))
end rspb
namespace rspc
open Go Go.RowKit
open arr mem kecm kecb spgm rspa kfun
theorem sp_list (X:List Value):∀ (vs:List Value) (a z:List Value),a.length=vs.length→sp (X++(a++z)).toArray X.length vs=(X++(vs++z)).toArray:=by
 intro vs
 induction vs generalizing X with
 | nil=>intro a z h;obtain rfl:=List.eq_nil_of_length_eq_zero h;rfl
 | cons v vs ih=>
  intro a z h
  cases a with
  | nil=>cases h
  | cons y a=>
   have e1:((X++(y :: a++z)).toArray).setIfInBounds X.length v=((X ++ [v])++(a++z)).toArray:=by
    rw[List.setIfInBounds_toArray,List.set_append_right _ _ (Nat.le_refl _),Nat.sub_self]
    simp
   rw[sp,e1,show X.length+1=(X ++ [v]).length by simp,ih (X ++ [v]) a z (by simpa using h)]
   simp
theorem sp_sc (k:Int) {l l':List Nat} (a:Int) (o:Bool) (h:l.length=25) (h':l'.length=25):sp (SC k l a o) 1 (LK .u64 l').toList=SC k l' a o:=
 sp_list [Value.int .i64 k] (LK .u64 l').toList (LK .u64 l).toList [Value.int .i64 a,Value.bool o] (by simp[LK,h,h'])
theorem wpList_putl {ops:Array Oper} {Q:Exit→Act→World→Prop} {rest:List Oper} {op:Oper} {ac:Act} {w0 w:World} {g:Nat} {t:TypeId} {k:Int} {l l':List Nat} {a:Int} {o:Bool} (H:Away (At g (SC k l a o) t w0 w)) (hl:l.length=25) (hl':l'.length=25)
 (hgd:op.guard=none) (x y:Operand) (ho:op.op=.store 162 x y) (hd:op.dst=none) (hx:ac.eval x=.pointer (some ⟨g,1,none⟩)) (hy:ac.eval y=.agg (LK .u64 l'))
 (h:∀ w',Away (At g (SC k l' a o) t w0 w')→wpList Tryz.prog ops Q rest ac w'):wpList Tryz.prog ops Q (op :: rest) ac w:=by
 refine wpList_store_mid hgd _ x y ho g 1 (LK .u64 l') hx hy (fun j hj=>?_) (size25 hl') (lk_one _ _) ?_
 ·rw[lk_size,hl']at hj
  rw[H.out.cell,H.out.frozen,sc_lane k a o hl j hj]
  exact⟨rfl,rfl⟩
 ·rw[hd]
  refine h _ ⟨?_⟩
  have h1:At g (sp (SC k l a o) 1 (LK .u64 l').toList) t w (w.setCells g 1 (LK .u64 l').toList):=At.set H.out.row H.out.lt (Below.refl _ _)
  rw[sp_sc k a o hl hl']at h1
  exact H.out.trans h1
theorem lanes_at {w:World} {g:Nat} {t:TypeId} {k:Int} {l:List Nat} {a:Int} {o:Bool} (h:w.heap[g]? = some (.cells (SC k l a o) t (0,0))) (hl:l.length=25):w.rangeAt g 1 (LK .u64 l).toList:=fun j v hv=>by
 rw[Array.getElem?_toList]at hv
 have hj:j<25:=by
  by_cases hj:j<25
  ·exact hj
  ·rw[Array.getElem?_eq_none (by rw[lk_size,hl];omega)]at hv;cases hv
 rw[lane_get hl j hj]at hv
 rw[cell_of_row w g (1+j) _ t (0,0) h,sc_lane k a o hl j hj,hv]
theorem results_cell_tmp {P:Program} {fn:Func} {p u:Tmp} {ty:TypeId} (h:fn.results=#[.cell p ty,.tmp u]) (tmps:Array Value) (w:World) (g:Nat) (t:TypeId) (cs:Array Value) (fr:Nat × Nat) (d:TypeDesc)
 (hp:tmps.getD p undef=.pointer (some ⟨g,0,none⟩)) (hg:w.heap[g]? = some (.cells cs t fr))
 (hu:P.underlying ty=some d) (hd:(match d with | .struct _ | .array _ _=>true | _=>false)=true) (hi:(P.info? ty).map (·.size)=some cs.size) (v:Value) (hv:tmps.getD u undef=v):
 (results fn tmps).run P w=.ok (.tuple #[.agg cs,v]) w:=by
 have hp':tmps[p]?.getD undef=.pointer (some ⟨g,0,none⟩):=by simpa using hp
 have hv':tmps[u]?.getD undef=v:=by simpa using hv
 simp[results,h,hp',hv',asAddr,run_loadVar_row w g t ty cs fr d hg hu hd hi]
def bys (b:ByteArray):List Nat:=b.data.toList.map (·.toNat)
theorem bys_length (b:ByteArray):(bys b).length=b.size:=by unfold bys;rw[List.length_map];rfl
theorem bys_lt (b:ByteArray) (i:Nat):(bys b).getD i 0<256:=by
 by_cases h:i<b.size
 ·have:∀ x∈bys b,x<256:=by
   intro x hx
   obtain⟨u,-,rfl⟩:=List.mem_map.1 hx
   exact u.toNat_lt
  rw[List.getD_eq_getElem?_getD,List.getElem?_eq_getElem (by rw[bys_length];exact h)]
  exact this _ (List.getElem_mem _)
 ·rw[List.getD_eq_getElem?_getD,List.getElem?_eq_none (by rw[bys_length];omega)];decide
theorem byte_of (b:ByteArray) (i β : Nat) (hi:i<b.size) (hb:(bys b).getD i 0 = β) (w:World):(Instr.index 9 (.string b) (.int .i64 (i:Int))).run Tryz.prog w=.ok (.int .u8 (β : Int)) w:=by
 subst hb
 rw[run_index_string w 9 b .i64 (i:Int) Tryz.underlying9,dif_pos ⟨by omega,by omega⟩]
 have e:(bys b).getD i 0=(b[i]'hi).toNat:=by
  rw[List.getD_eq_getElem?_getD,List.getElem?_eq_getElem (by rw[bys_length];exact hi)]
  simp only[bys,List.getElem_map,Option.getD_some]
  rfl
 rw[e]
 rfl
end rspc
namespace rspd
open Go.RowKit
open arr mem kecm kecb kstep kfun spgm rspa rspb rspc
theorem sc_info (k:Int) {l:List Nat} (a:Int) (o:Bool) (h:l.length=25):(Tryz.prog.info? 164).map (·.size)=some (SC k l a o).size:=by rw[sc_size k a o h];exact sizeS
def PP (ts rs:List Nat) (l:List Nat):List Nat:=permL (fun i=>ts.getD i 0) (fun i=>rs.getD i 0) l 24
theorem pp_st {ts rs:List Nat} (hr:∀ i,rs.getD i 0<18446744073709551616) {l:List Nat} (h:St l):St (PP ts rs l):=permL_st _ _ hr h 24
def sa (ts rs:List Nat) (r:Nat) (l:List Nat) (a:Nat) (bs:List Nat) (i:Nat):Sp:=abs (PP ts rs) r ⟨l,a⟩ (bs.take i)
theorem sa_ok {ts rs:List Nat} (hr:∀ i,rs.getD i 0<18446744073709551616) {r:Nat} {l:List Nat} {a:Nat} (h:St l) (ha:a<r) (bs:List Nat) (i:Nat):St (sa ts rs r l a bs i).l∧(sa ts rs r l a bs i).at'<r:=abs_ok (fun _ h=>pp_st hr h) _ h ha
theorem shl_is (β c:Nat):((β : Int)*2 ^ c%18446744073709551616)=((β * 2 ^ c%18446744073709551616:Nat):Int):=rols.castm β c 18446744073709551616
end rspd
namespace rspe
open Go.RowKit
open arr mem kecm kecb kstep kfun spgm rspa rspb rspc rspd
theorem wpList_buildC {P:Program} {ops:Array Oper} {rest:List Oper} {o:Oper} {a:Act} {w:World} {Q:Exit→Act→World→Prop} (hg:o.guard=none) (t:TypeId) (parts:Array (Nat × Operand)) (ho:o.op=.build t parts)
 (C:Array Value) (hC:P.built t (parts.map fun (i,x)=>(i,a.eval x)).toList=some C) (h:wpList P ops Q rest (a.put o.dst (.agg C)) w):wpList P ops Q (o :: rest) a w:=
 wpList_build hg t _ ho (by rw[hC];rfl) (by rw[hC];exact h)
end rspe
namespace spoa
open Go.RowKit
open arr mem kecm kecb spgm spmx rspa
theorem traits_size:(Tryz.prog.info? 153).map (·.size)=some 3:=by kernel_rfl
def size (k:Int):Nat:=if k=3 then 32 else if k=4 then 64 else 0
def fin (k:Int):Nat:=if k=1 then 31 else if k=2 then 31 else if k=3 then 6 else if k=4 then 6 else 0
def tr (k:Int):Value:=.agg #[.int .i64 ((rate k:Nat):Int),.int .u8 ((fin k:Nat):Int),.int .i64 ((size k:Nat):Int)]
theorem traits_any (k:Int) (w:World):Calls Tryz.prog 132 #[.int .i64 k] w fun e w'=>e=.returned (tr k)∧Below w.heap.size w w':=by
 unfold tr rate fin spoa.size
 by_cases h1:k=1
 ·subst h1
  go_enter Tryz.func132,Tryz.ntmps132
  go_wp2_with fail
  refine bodyPost_ret_by (results_cell_row rfl _ _ w.heap.size 153 #[.int .i64 168,.int .u8 31,.int .i64 0] (0,0) _ rfl (by rw[heap_past _ _ _ (by rw[size_alloc];omega)];exact heap_at _ _ _ rfl) Tryz.underlying153 rfl traits_size) rfl ?_
  exact⟨rfl,((Below.refl _ _).alloc (Nat.le_refl _) _).alloc (by rw[size_alloc];omega) _⟩
 ·by_cases h2:k=2
  ·subst h2
   go_enter Tryz.func132,Tryz.ntmps132
   go_wp2_with fail
   refine bodyPost_ret_by (results_cell_row rfl _ _ w.heap.size 153 #[.int .i64 136,.int .u8 31,.int .i64 0] (0,0) _ rfl (by rw[heap_past _ _ _ (by rw[size_alloc];omega)];exact heap_at _ _ _ rfl) Tryz.underlying153 rfl traits_size) rfl ?_
   exact⟨rfl,((Below.refl _ _).alloc (Nat.le_refl _) _).alloc (by rw[size_alloc];omega) _⟩
  ·by_cases h3:k=3
   ·subst h3
    go_enter Tryz.func132,Tryz.ntmps132
    go_wp2_with fail
    refine bodyPost_ret_by (results_cell_row rfl _ _ w.heap.size 153 #[.int .i64 136,.int .u8 6,.int .i64 32] (0,0) _ rfl (by rw[heap_past _ _ _ (by rw[size_alloc];omega)];exact heap_at _ _ _ rfl) Tryz.underlying153 rfl traits_size) rfl ?_
    exact⟨rfl,((Below.refl _ _).alloc (Nat.le_refl _) _).alloc (by rw[size_alloc];omega) _⟩
   ·by_cases h4:k=4
    ·subst h4
     go_enter Tryz.func132,Tryz.ntmps132
     go_wp2_with fail
     refine bodyPost_ret_by (results_cell_row rfl _ _ w.heap.size 153 #[.int .i64 72,.int .u8 6,.int .i64 64] (0,0) _ rfl (by rw[heap_past _ _ _ (by rw[size_alloc];omega)];exact heap_at _ _ _ rfl) Tryz.underlying153 rfl traits_size) rfl ?_
     exact⟨rfl,((Below.refl _ _).alloc (Nat.le_refl _) _).alloc (by rw[size_alloc];omega) _⟩
    ·simp only[if_neg h1,if_neg h2,if_neg h3,if_neg h4]
     go_enter Tryz.func132,Tryz.ntmps132
     go_wp2_with fail
     refine bodyPost_ret_by (results_cell_row rfl _ _ w.heap.size 153 #[.int .i64 0,.int .u8 0,.int .i64 0] (0,0) _ rfl (by rw[heap_past _ _ _ (by rw[size_alloc];omega)];exact heap_at _ _ _ rfl) Tryz.underlying153 rfl traits_size) rfl ?_
     exact⟨rfl,((Below.refl _ _).alloc (Nat.le_refl _) _).alloc (by rw[size_alloc];omega) _⟩
theorem fits_any (n:Int) (w:World):Calls Tryz.prog 133 #[.int .i64 n] w fun e w'=>e=.returned (.bool (decide (0≤n∧n≤50000)))∧w'=w:=by
 by_cases h1 : 0≤n
 ·by_cases h2:n≤50000
  ·rw[decide_eq_true ⟨h1,h2⟩]
   go_enter Tryz.func133,Tryz.ntmps133
   go_wp2_with fail
   go_ret
   exact⟨rfl,rfl⟩
  ·rw[decide_eq_false (fun h=>h2 h.2)]
   have h3 : 50000<n:=by omega
   go_enter Tryz.func133,Tryz.ntmps133
   go_wp2_with fail
   go_ret
   exact⟨rfl,rfl⟩
 ·rw[decide_eq_false (fun h=>h1 h.1)]
  have h3:n<0:=by omega
  go_enter Tryz.func133,Tryz.ntmps133
  go_wp2_with fail
  go_ret
  exact⟨rfl,rfl⟩
end spoa
namespace spob
open Go Go.RowKit
open arr mem kecm kecb kstep kturn kfun spgm spmx rspa rspc rspd spoa
theorem mixByte_any (gs:Nat) (k a:Int) (o:Bool) (l:List Nat) (t:TypeId) (p β : Nat) (w:World) (h:St l) (hp:p<200) (hβ : β < 256) (hrow:w.heap[gs]? = some (.cells (SC k l a o) t (0,0))):
 Calls Tryz.prog 196 #[.pointer (some ⟨gs,1,none⟩),.int .i64 (p:Int),.int .u8 (β : Int)] w fun e w'=>e=.returned (.tuple #[])∧At gs (SC k (xb l p β) a o) t w w':=by
 obtain⟨q,hq⟩:∃ q,p / 8=q:=⟨_,rfl⟩
 obtain⟨m,hm⟩:∃ m,p%8=m:=⟨_,rfl⟩
 obtain⟨c,hc⟩:∃ c,c=8*m:=⟨_,rfl⟩
 have fq:(p:Int).tdiv 8=(q:Int):=by rw[Int.tdiv_eq_ediv_of_nonneg (by omega)];omega
 have fqw:IntKind.i64.wrap ((p:Int).tdiv 8)=(q:Int):=by rw[fq,IntKind.wrap_i64];omega
 have fm:(p:Int).tmod 8=(m:Int):=by rw[Int.tmod_eq_emod_of_nonneg (by omega)];omega
 have fq2:(p:Int) / 8=(q:Int):=by omega
 have fq3:IntKind.i64.wrap (q:Int)=(q:Int):=by rw[IntKind.wrap_i64];omega
 have fm2:(p:Int)%8=(m:Int):=by omega
 have fc:IntKind.i64.wrap ((m:Int)*8)=(c:Int):=by rw[IntKind.wrap_i64];omega
 have fc2:IntKind.i64.wrap (8*(m:Int))=(c:Int):=by rw[IntKind.wrap_i64];omega
 have hc63:c≤63:=by omega
 have hq25:q<25:=by omega
 have hqz:(q:Int)<25:=by omega
 obtain⟨x,hx⟩:∃ x,g l q=x:=⟨_,rfl⟩
 have bx:x<18446744073709551616:=hx ▸ h.lt q
 obtain⟨y,hy⟩:∃ y,β * 2 ^ c%18446744073709551616=y:=⟨_,rfl⟩
 have by':y<18446744073709551616:=hy ▸ Nat.mod_lt _ (by decide)
 have fs:=shl_is β c
 rw[hy]at fs
 have fb:IntKind.u64.wrap (β : Int)=(β : Int):=by rw[IntKind.wrap_u64];omega
 have fy:IntKind.u64.wrap ((β : Int)*2 ^ c)=(y:Int):=by rw[IntKind.wrap_u64];exact fs
 obtain⟨v,hv⟩:∃ v,x ^^^ y=v:=⟨_,rfl⟩
 have V:=xor2 x y v bx by' hv
 have Hxb:Away (l.set q v=xb l p β):=⟨by unfold xb;rw[hq,hm,←hc,hx,hy,hv]⟩
 have H:=Away.mk h
 have A0:=Away.mk (At.refl hrow)
 have cx:w.cell? ⟨gs,1+q,none⟩=some (.int .u64 (x:Int)):=by rw[←hx];exact cell_at hrow (sc_lane k a o h.len q hq25)
 clear hq hm hc hx hy hv h hrow hp
 go_enter Tryz.func196,Tryz.ntmps196
 refine still_tail 15 (by kernel_rfl) (by kernel_rfl) ?_
 simp only[List.take_succ_cons,List.take_zero,List.drop_succ_cons,List.drop_zero]
 repeat still_step
 refine wpStill_nil ?_
 have A1:Away (At gs (SC k l a o) t w w.drew):=⟨at_drew A0.out⟩
 clear cx fq fqw fm fq2 fq3 fm2 fc fc2 fs V A0 fb fy
 with_reducible refine wpList_put2 A1 rfl _ _ _ rfl rfl ?_
 refine⟨_,_,_,rfl,rfl,rfl,by rw[sc_size k a o H.out.len];omega,?_⟩
 intro wn HR1
 rw[sc_setl k a o H.out.len q v hq25,Hxb.out]at HR1
 go_wp2_with fail
 go_end0
 exact⟨rfl,HR1.out⟩
theorem wpQuiet_load_mid {P:Program} {ops:Array Oper} {C:World→Prop} {Q:Act→Prop} {rest:List Oper} {o:Oper} {a:Act} (hw:Region.wanted o (yielded ops a.tmps)=true) (ty:TypeId) (x:Operand) (ho:o.op=.load ty x)
 (b n:Nat) (hx:a.eval x=.pointer (some ⟨b,n,none⟩)) (cs:List Value) (d:TypeDesc) (hS:∀ w,C w→w.rangeAt b n cs)
 (hu:P.underlying ty=some d) (hd:d.isRow=true) (hi:(P.info? ty).map (·.size)=some cs.length)
 (h:wpQuiet P ops C Q rest (a.put o.dst (.agg cs.toArray))):wpQuiet P ops C Q (o :: rest) a:=by
 refine wpQuiet_step fun K hK=>?_
 rw[if_pos hw]
 refine⟨.agg cs.toArray,fun w hC=>?_,hK _ h⟩
 unfold Oper.quietAt execOp
 simp only[ho,hx,Instr.loadAt,Instr.sureAddr,Sem.run_bind,Sem.run_pure,Result.andThen_ok,run_loadVar_mid w b n ty cs d (hS w hC) hu hd hi]
 exact⟨rfl,rfl⟩
theorem next_any {T:Array Value} {ts rs:List Nat} (gt gs:Nat) (k a:Int) (o:Bool) (l:List Nat) (w:World) (h:St l) (hK:KT T ts rs) (hP:Gp w) (hT:w.heap[gt]? = some (.cells T 34 (0,0))) (hrow:w.heap[gs]? = some (.cells (SC k l a o) 164 (0,0))):
 Calls Tryz.prog 195 #[.pointer (some ⟨gt,0,none⟩),.pointer (some ⟨gs,0,none⟩)] w fun e w'=>e=.returned (.tuple #[])∧At gs (SC k (PP ts rs l) 0 o) 164 w w':=by
 have HTz:Away ((Tryz.prog.info? 34).map (·.size)=some T.size):=⟨by rw[hK.size];exact rspa.sizeT⟩
 have Xz:=Away.mk (show (Tryz.prog.info? 162).map (·.size)=some (LK .u64 l).toList.length by rw[Array.length_toList];exact size25 h.len)
 have HQ:Away (St (PP ts rs l)):=⟨pp_st hK.br h⟩
 obtain⟨xl,Hxl⟩:=ex_eq (PP ts rs l)
 rw[Hxl.out]at HQ ⊢
 have C2:Away (∀ w1:World,Below w.heap.size w w1→Calls Tryz.prog 204 #[.agg T,.agg (LK .u64 l)] w1 fun e w'=>e=.returned (.agg (LK .u64 xl))∧Below w1.heap.size w1 w'):=⟨fun w1 hb=>by rw[←Hxl.out];exact kfun.perm_any l w1 h hK (hP.later hb)⟩
 have H:=Away.mk h
 have B0:=Away.mk hT
 have B1:=Away.mk hrow
 have L1:=Away.mk (lanes_at hrow h.len)
 clear h hK hP hT hrow Hxl
 go_enter Tryz.func195,Tryz.ntmps195
 go_wp2_with fail
 refine qtail.region_below_tail 9 (by kernel_rfl) (by kernel_rfl) ?_
 simp only[List.take_succ_cons,List.take_zero,List.drop_succ_cons,List.drop_zero]
 iterate 3 (quiet_step (skip))
 refine wpQuiet_load rfl 34 _ rfl _ rfl 34 T _ (fun w' hC=>heap_regrown B0.out hC) Tryz.underlying34 rfl HTz.out ?_
 iterate 3 (quiet_step (skip))
 refine wpQuiet_load_mid rfl 162 _ rfl gs 1 rfl (LK .u64 l).toList _ (fun w' hC=>lanes_at (heap_regrown B1.out hC) H.out.len) Tryz.underlying162 rfl Xz.out ?_
 quiet_step (exact Calls.regrown_of (C2.out _ (below_regrown _ _ _)))
 refine wpQuiet_nil ?_
 rintro w1 ⟨pp,rfl⟩
 have A1:Away (At gs (SC k l a o) 164 w _):=⟨(At.refl B1.out).later (below_regrown w pp.d pp.os)⟩
 obtain⟨w1,hw1⟩:∃ x,Sort.grow (redrawn w pp.d) pp.os=x:=⟨_,rfl⟩
 rw[hw1]at A1 ⊢
 clear hw1 C2 L1 B0 B1
 go_wp2_with (first
  | ((with_reducible refine wpList_putl A1 H.out.len HQ.out.len rfl _ _ rfl rfl ?hx ?hy ?_);(case hx=>exact rfl);(case hy=>exact rfl);intro w7 HR4;clear A1)
  | ((with_reducible refine wpList_put2 (by assumption) rfl _ _ _ rfl rfl ?_);refine⟨_,_,_,rfl,rfl,rfl,(by rw[sc_size k a o HQ.out.len];decide),?_⟩;intro w8 HR5;rw[sc_seta k _ _ o HQ.out.len]at HR5))
 go_end0
 exact⟨rfl,HR5.out⟩
end spob
namespace spoc
open Go Go.RowKit
open arr mem kecm kecb spgm spmx rspa rspc spoa
theorem index_at (b:ByteArray) (i β : Nat) (z:Int) (hz:z=(i:Int)) (hi:i<b.size) (hb:(bys b).getD i 0 = β) (w:World):(Instr.index 9 (.string b) (.int .i64 z)).run Tryz.prog w=.ok (.int .u8 (β : Int)) w:=by
 rw[hz];exact byte_of b i β hi hb w
theorem wr_byte (b c:Nat) (hb:b<256) (hc:c*256≤18446744073709551616):IntKind.u64.wrap (IntKind.u64.wrap (b:Int)*(c:Int))=((b*c:Nat):Int):=by
 have h1:b*c<18446744073709551616:=by
  rcases Nat.eq_zero_or_pos c with h | h
  ·subst h;simp
  ·exact Nat.lt_of_lt_of_le (Nat.mul_lt_mul_of_pos_right hb h) (by rw[Nat.mul_comm];exact hc)
 have h2:IntKind.u64.wrap (b:Int)=(b:Int):=by rw[IntKind.wrap_u64];omega
 rw[h2,←Int.natCast_mul]
 generalize b*c=z at h1 ⊢
 rw[IntKind.wrap_u64];omega
theorem or_w8 {b0 b1 b2 b3 b4 b5 b6 b7:Nat} (h0:b0<256) (h1:b1<256) (h2:b2<256) (h3:b3<256) (h4:b4<256) (h5:b5<256) (h6:b6<256) (h7:b7<256):
 bits .or .u64 (bits .or .u64 (bits .or .u64 (bits .or .u64 (bits .or .u64 (bits .or .u64 (bits .or .u64 (IntKind.u64.wrap (b0:Int)) (IntKind.u64.wrap (IntKind.u64.wrap (b1:Int)*256))) (IntKind.u64.wrap (IntKind.u64.wrap (b2:Int)*65536))) (IntKind.u64.wrap (IntKind.u64.wrap (b3:Int)*16777216))) (IntKind.u64.wrap (IntKind.u64.wrap (b4:Int)*4294967296))) (IntKind.u64.wrap (IntKind.u64.wrap (b5:Int)*1099511627776))) (IntKind.u64.wrap (IntKind.u64.wrap (b6:Int)*281474976710656))) (IntKind.u64.wrap (IntKind.u64.wrap (b7:Int)*72057594037927936))
 = ((w8 b0 b1 b2 b3 b4 b5 b6 b7:Nat):Int):=by
 have e0:IntKind.u64.wrap (b0:Int)=(b0:Int):=by rw[IntKind.wrap_u64];omega
 have e1:IntKind.u64.wrap (IntKind.u64.wrap (b1:Int)*256)=((b1*2 ^ 8:Nat):Int):=wr_byte b1 256 h1 (by decide)
 have e2:IntKind.u64.wrap (IntKind.u64.wrap (b2:Int)*65536)=((b2*2 ^ 16:Nat):Int):=wr_byte b2 65536 h2 (by decide)
 have e3:IntKind.u64.wrap (IntKind.u64.wrap (b3:Int)*16777216)=((b3*2 ^ 24:Nat):Int):=wr_byte b3 16777216 h3 (by decide)
 have e4:IntKind.u64.wrap (IntKind.u64.wrap (b4:Int)*4294967296)=((b4*2 ^ 32:Nat):Int):=wr_byte b4 4294967296 h4 (by decide)
 have e5:IntKind.u64.wrap (IntKind.u64.wrap (b5:Int)*1099511627776)=((b5*2 ^ 40:Nat):Int):=wr_byte b5 1099511627776 h5 (by decide)
 have e6:IntKind.u64.wrap (IntKind.u64.wrap (b6:Int)*281474976710656)=((b6*2 ^ 48:Nat):Int):=wr_byte b6 281474976710656 h6 (by decide)
 have e7:IntKind.u64.wrap (IntKind.u64.wrap (b7:Int)*72057594037927936)=((b7*2 ^ 56:Nat):Int):=wr_byte b7 72057594037927936 h7 (by decide)
 obtain⟨k1,k2,k3,k4,k5,k6,k7⟩:=w8_parts h0 h1 h2 h3 h4 h5 h6 h7
 simp only[Nat.reducePow]at k1 k2 k3 k4 k5 k6 e1 e2 e3 e4 e5 e6 e7
 unfold w8
 simp only[Nat.reducePow]
 rw[e0,e1,e2,e3,e4,e5,e6,e7,u64_or_nat _ _ (by omega) (by omega),u64_or_nat _ _ (by omega) (by omega),u64_or_nat _ _ (by omega) (by omega),u64_or_nat _ _ (by omega) (by omega),u64_or_nat _ _ (by omega) (by omega),u64_or_nat _ _ (by omega) (by omega),u64_or_nat _ _ (by omega) (by omega)]
theorem worth_any (b:ByteArray) (b0 b1 b2 b3 b4 b5 b6 b7:Nat) (w:World) (hs : 8≤b.size) (h0:(bys b).getD 0 0=b0) (h1:(bys b).getD 1 0=b1) (h2:(bys b).getD 2 0=b2) (h3:(bys b).getD 3 0=b3) (h4:(bys b).getD 4 0=b4) (h5:(bys b).getD 5 0=b5) (h6:(bys b).getD 6 0=b6) (h7:(bys b).getD 7 0=b7):
 Calls Tryz.prog 203 #[.string b] w fun e w'=>e=.returned (.int .u64 ((w8 b0 b1 b2 b3 b4 b5 b6 b7:Nat):Int))∧Below w.heap.size w w':=by
 have i0:=index_at b 0 b0 0 rfl (by omega) h0
 have i1:=index_at b 1 b1 1 rfl (by omega) h1
 have i2:=index_at b 2 b2 2 rfl (by omega) h2
 have i3:=index_at b 3 b3 3 rfl (by omega) h3
 have i4:=index_at b 4 b4 4 rfl (by omega) h4
 have i5:=index_at b 5 b5 5 rfl (by omega) h5
 have i6:=index_at b 6 b6 6 rfl (by omega) h6
 have i7:=index_at b 7 b7 7 rfl (by omega) h7
 have e:=or_w8 (h0 ▸ bys_lt b 0) (h1 ▸ bys_lt b 1) (h2 ▸ bys_lt b 2) (h3 ▸ bys_lt b 3) (h4 ▸ bys_lt b 4) (h5 ▸ bys_lt b 5) (h6 ▸ bys_lt b 6) (h7 ▸ bys_lt b 7)
 have E:=Away.mk e
 clear h0 h1 h2 h3 h4 h5 h6 h7 e
 go_enter Tryz.func203,Tryz.ntmps203
 go_wp2_with fail
 refine still_all (by kernel_rfl) (by kernel_rfl) ?_
 repeat still_step
 refine wpStill_nil ?_
 clear i0 i1 i2 i3 i4 i5 i6 i7
 rw[E.out]
 go_wp2_with fail
 go_ret
 exact⟨rfl,(Below.refl _ _).drew⟩
end spoc
namespace spod
open Go Go.RowKit
open arr mem kecm kecb spgm spmx rspa rspc spoa spob spoc
theorem bys_cons (b:ByteArray) (j:Nat) (h:j<b.size):(bys b).drop j=(bys b).getD j 0 :: (bys b).drop (j+1):=by
 rw[List.drop_eq_getElem_cons (by rw[bys_length];exact h),List.getD_eq_getElem?_getD,List.getElem?_eq_getElem (by rw[bys_length];exact h)]
 rfl
theorem bys_tail (b:ByteArray) (j:Nat):bys (b.extract j b.size)=(bys b).drop j:=by
 unfold bys
 simp only[ByteArray.data_extract,Array.toList_extract]
 rw[List.extract_eq_take_drop,List.map_take,List.map_drop,List.take_of_length_le (by simp)]
theorem bys_head (b:ByteArray) (j:Nat):bys (b.extract 0 j)=(bys b).take j:=by
 unfold bys
 simp only[ByteArray.data_extract,Array.toList_extract,List.map_take]
 simp
theorem lane_step {l:List Nat} (h:St l) (q:Nat) (hq:q<25) (s:ByteArray) (hs : 8≤s.size) (R:List Nat) (hR:xbs l (8*q) (bys s)=R):
 xbs (l.set q (g l q ^^^ w8 ((bys s).getD 0 0) ((bys s).getD 1 0) ((bys s).getD 2 0) ((bys s).getD 3 0) ((bys s).getD 4 0) ((bys s).getD 5 0) ((bys s).getD 6 0) ((bys s).getD 7 0))) (8*q+8) (bys (s.extract 8 s.size))=R:=by
 rw[←xbs_lane (by rw[h.len];exact hq) (bys_lt s 0) (bys_lt s 1) (bys_lt s 2) (bys_lt s 3) (bys_lt s 4) (bys_lt s 5) (bys_lt s 6) (bys_lt s 7),bys_tail]
 have e:bys s=[(bys s).getD 0 0,(bys s).getD 1 0,(bys s).getD 2 0,(bys s).getD 3 0,(bys s).getD 4 0,(bys s).getD 5 0,(bys s).getD 6 0,(bys s).getD 7 0]++(bys s).drop 8:=by
  show bys s=(bys s).getD 0 0 :: (bys s).getD 1 0 :: (bys s).getD 2 0 :: (bys s).getD 3 0 :: (bys s).getD 4 0 :: (bys s).getD 5 0 :: (bys s).getD 6 0 :: (bys s).getD 7 0 :: (bys s).drop 8
  rw[←bys_cons s 7 (by omega),←bys_cons s 6 (by omega),←bys_cons s 5 (by omega),←bys_cons s 4 (by omega),←bys_cons s 3 (by omega),←bys_cons s 2 (by omega),←bys_cons s 1 (by omega),←bys_cons s 0 (by omega)]
  rfl
 rw[←hR]
 generalize hd:(bys s).drop 8=d at e
 conv=>rhs;rw[e]
 rw[xbs_append]
 rfl
theorem byte_step (l:List Nat) (p i:Nat) (s:ByteArray) (hi:i<s.size) (R:List Nat) (hR:xbs l (p+i) ((bys s).drop i)=R):xbs (xb l (p+i) ((bys s).getD i 0)) (p+(i+1)) ((bys s).drop (i+1))=R:=by
 rw[bys_cons s i hi]at hR
 exact hR
theorem mix_any (gs:Nat) (k a:Int) (o:Bool) (l:List Nat) (t:TypeId) (p0:Nat) (b:ByteArray) (w:World) (h:St l) (hp:p0+b.size≤200) (hrow:w.heap[gs]? = some (.cells (SC k l a o) t (0,0))):
 Calls Tryz.prog 194 #[.pointer (some ⟨gs,1,none⟩),.int .i64 (p0:Int),.string b] w fun e w'=>e=.returned (.tuple #[])∧At gs (SC k (xbs l p0 (bys b)) a o) t w w':=by
 obtain⟨R,HR⟩:=ex_eq (xbs l p0 (bys b))
 rw[HR.out]
 have H:=Away.mk h
 have A00:=Away.mk (At.refl hrow)
 clear hrow h
 go_enter Tryz.func194,Tryz.ntmps194
 go_wp2_with fail
 go_loopw [1,2] (fun v x wr=>∃ (p:Nat) (s:ByteArray) (l':List Nat),v=.int .i64 (p:Int)∧x=.string s∧p+s.size=p0+b.size∧Away (xbs l' p (bys s)=R)∧Away (St l')∧Away (At gs (SC k l' a o) t w wr)) (fun _ x _=>match x with | .string s=>s.size | _=>0)
 case atStart=>exact⟨p0,b,l,rfl,rfl,rfl,HR,H,A00⟩
 case round=>
  clear A00 H HR
  obtain⟨p,s,l',rfl,rfl,hps,HR,H,A0⟩:=hrel
  obtain⟨m,hm⟩:∃ m,p%8=m:=⟨_,rfl⟩
  have fm:(p:Int).tmod 8=(m:Int):=by rw[Int.tmod_eq_emod_of_nonneg (by omega)];omega
  have fm2:(p:Int)%8=(m:Int):=by omega
  by_cases hc:m=0∧8≤s.size
  ·obtain⟨h0,h8⟩:=hc
   subst h0
   have fm:(p:Int).tmod 8=0:=fm
   have fm2:(p:Int)%8=0:=fm2
   obtain⟨q,hq⟩:∃ q,p / 8=q:=⟨_,rfl⟩
   obtain rfl:p=8*q:=by omega
   have fq:((8*q:Nat):Int).tdiv 8=(q:Int):=by rw[Int.tdiv_eq_ediv_of_nonneg (by omega)];omega
   obtain⟨p,hp8⟩:∃ p,8*q=p:=⟨_,rfl⟩
   rw[hp8]at fq fm fm2 hps HR
   have fqw:IntKind.i64.wrap ((p:Int).tdiv 8)=(q:Int):=by rw[fq,IntKind.wrap_i64];omega
   have fq2:(p:Int) / 8=(q:Int):=by omega
   have fq3:IntKind.i64.wrap (q:Int)=(q:Int):=by rw[IntKind.wrap_i64];omega
   have hq25:q<25:=by omega
   have hqz:(q:Int)<25:=by omega
   obtain⟨y,Hy⟩:=ex_eq (w8 ((bys s).getD 0 0) ((bys s).getD 1 0) ((bys s).getD 2 0) ((bys s).getD 3 0) ((bys s).getD 4 0) ((bys s).getD 5 0) ((bys s).getD 6 0) ((bys s).getD 7 0))
   have by':y<18446744073709551616:=by rw[←Hy.out];exact(w8_parts (bys_lt s 0) (bys_lt s 1) (bys_lt s 2) (bys_lt s 3) (bys_lt s 4) (bys_lt s 5) (bys_lt s 6) (bys_lt s 7)).2.2.2.2.2.2
   obtain⟨x,hx⟩:∃ x,g l' q=x:=⟨_,rfl⟩
   have bx:x<18446744073709551616:=hx ▸ H.out.lt q
   obtain⟨v,hv⟩:∃ v,x ^^^ y=v:=⟨_,rfl⟩
   have V:=xor2 x y v bx by' hv
   have HN:Away (xbs (l'.set q v) (p+8) (bys (s.extract 8 s.size))=R):=⟨by rw[←hv,←hx,←Hy.out,←hp8];exact lane_step H.out q hq25 s h8 R (by rw[hp8];exact HR.out)⟩
   have HW:Away (∀ w1:World,Calls Tryz.prog 203 #[.string s] w1 fun e w'=>e=.returned (.int .u64 (y:Int))∧Below w1.heap.size w1 w'):=⟨fun w1=>by rw[←Hy.out];exact worth_any s _ _ _ _ _ _ _ _ w1 h8 rfl rfl rfl rfl rfl rfl rfl rfl⟩
   have HX:Away (St (l'.set q v)):=⟨⟨by rw[List.length_set,H.out.len],fun j=>by rw[g_set];split<;>first | (rw[←hv];exact xor_lt _ _ bx by') | exact H.out.lt j⟩⟩
   have cx:∀ d os,(Sort.grow (redrawn wr d) os).cell? ⟨gs,1+q,none⟩=some (.int .u64 (x:Int)):=fun d os=>by rw[←hx];exact cell_at (heap_regrown A0.out.row ⟨⟨d,os⟩,rfl⟩) (sc_lane k a o H.out.len q hq25)
   have hsz:(s.extract 8 s.size).size=s.size-8:=by rw[ByteArray.size_extract];omega
   obtain⟨s3,Hs3⟩:=ex_eq (s.extract 8 s.size)
   have e3:=Hs3.out
   rw[e3]at HN hsz
   have Hq25:=Away.mk hq25
   clear hq hp8 hx hv hm Hy
   go_wp2_with fail
   refine qtail.region_below_tail 11 (by kernel_rfl) (by kernel_rfl) ?_
   simp only[List.take_succ_cons,List.take_zero,List.drop_succ_cons,List.drop_zero]
   iterate 7 (quiet_step (skip))
   quiet_step (exact Calls.regrown_of (HW.out _))
   iterate 3 (quiet_step (skip))
   refine wpQuiet_nil ?_
   rintro w1 ⟨pp,rfl⟩
   have A1:Away (At gs (SC k l' a o) t w _):=⟨A0.out.later (below_regrown wr pp.d pp.os)⟩
   obtain⟨w1,hw1⟩:∃ x,Sort.grow (redrawn wr pp.d) pp.os=x:=⟨_,rfl⟩
   rw[hw1]at A1 ⊢
   clear hw1 HW cx V fqw fq3 A0
   go_wp2_with ((with_reducible refine wpList_put2 A1 rfl _ _ _ rfl rfl ?_);refine⟨_,_,_,rfl,rfl,rfl,(by rw[sc_size k a o H.out.len];have:=Hq25.out;omega),?_⟩;intro w8 HR5;rw[sc_setl k a o H.out.len q v Hq25.out]at HR5)
   go_roundw
   case rel=>exact⟨p+8,s3,_,by go_num,rfl,by omega,HN,HX,HR5⟩
   case measure=>simp only;omega
  ·have h2:m≠0∨m=0∧s.size<8:=by omega
   clear hc
   rcases h2 with hc | hc
   ·have hcz:((m:Int)==0)=false:=beq_eq_false_iff_ne.2 (by omega)
    go_wp2_with fail
    obtain⟨B,HB⟩:=ex_eq (bys s)
    rw[HB.out]at HR
    go_loopw [32] (fun v wr=>∃ (i:Nat) (l2:List Nat),i≤s.size∧v=.int .i64 (i:Int)∧Away (xbs l2 (p+i) (B.drop i)=R)∧Away (St l2)∧Away (At gs (SC k l2 a o) t w wr)) (fun v _=>s.size-(intOf v).toNat)
    case atStart=>exact⟨0,l',Nat.zero_le _,rfl,HR,H,A0⟩
    case round=>
     clear A0 H HR
     obtain⟨i,l2,hi,rfl,HR,H,A0⟩:=hrel
     by_cases hlt:i<s.size
     ·have hiz:(i:Int)<(s.size:Int):=by omega
      obtain⟨β,hβ⟩:∃ β,(bys s).getD i 0 = β := ⟨_,rfl⟩
      have hidx:=byte_of s i β hlt hβ
      obtain⟨n,hn⟩:∃ n,p+i=n:=⟨_,rfl⟩
      have fn:(p:Int)+(i:Int)=(n:Int):=by omega
      have fnw:IntKind.i64.wrap ((p:Int)+(i:Int))=(n:Int):=by rw[fn,IntKind.wrap_i64];omega
      have HN:Away (xbs (xb l2 n β) (p+(i+1)) (B.drop (i+1))=R):=⟨by rw[←hn,←hβ,←HB.out];exact byte_step l2 p i s hlt R (by rw[HB.out];exact HR.out)⟩
      have HX:Away (St (xb l2 n β)):=⟨xb_st H.out n β⟩
      have HC:=Away.mk (mixByte_any gs k a o l2 t n β wr H.out (by omega) (hβ ▸ bys_lt s i) A0.out.row)
      clear hβ hn
      go_wp2_with fail
      refine HC.out.mono ?_
      rintro e w1 ⟨rfl,h1⟩
      have A1:Away (At gs (SC k (xb l2 n β) a o) t w w1):=⟨A0.out.trans h1⟩
      clear h1
      go_wp2_with fail
      go_roundw
      case rel=>exact⟨i+1,_,by omega,by go_num,HN,HX,A1⟩
      case measure=>simp[intOf];omega
     ·obtain rfl:i=s.size:=by omega
      have HE:Away (l2=R):=⟨by
       have h9:=HR.out
       rw[List.drop_of_length_le (by rw[←HB.out,bys_length];exact Nat.le_refl _)]at h9
       exact h9⟩
      rw[HE.out]at A0
      go_wp2_with fail
      go_end0
      exact⟨rfl,A0.out⟩
   ·obtain⟨h0,hc⟩:=hc
    subst h0
    have fm:(p:Int).tmod 8=0:=fm
    have fm2:(p:Int)%8=0:=fm2
    go_wp2_with fail
    obtain⟨B,HB⟩:=ex_eq (bys s)
    rw[HB.out]at HR
    go_loopw [32] (fun v wr=>∃ (i:Nat) (l2:List Nat),i≤s.size∧v=.int .i64 (i:Int)∧Away (xbs l2 (p+i) (B.drop i)=R)∧Away (St l2)∧Away (At gs (SC k l2 a o) t w wr)) (fun v _=>s.size-(intOf v).toNat)
    case atStart=>exact⟨0,l',Nat.zero_le _,rfl,HR,H,A0⟩
    case round=>
     clear A0 H HR
     obtain⟨i,l2,hi,rfl,HR,H,A0⟩:=hrel
     by_cases hlt:i<s.size
     ·have hiz:(i:Int)<(s.size:Int):=by omega
      obtain⟨β,hβ⟩:∃ β,(bys s).getD i 0 = β := ⟨_,rfl⟩
      have hidx:=byte_of s i β hlt hβ
      obtain⟨n,hn⟩:∃ n,p+i=n:=⟨_,rfl⟩
      have fn:(p:Int)+(i:Int)=(n:Int):=by omega
      have fnw:IntKind.i64.wrap ((p:Int)+(i:Int))=(n:Int):=by rw[fn,IntKind.wrap_i64];omega
      have HN:Away (xbs (xb l2 n β) (p+(i+1)) (B.drop (i+1))=R):=⟨by rw[←hn,←hβ,←HB.out];exact byte_step l2 p i s hlt R (by rw[HB.out];exact HR.out)⟩
      have HX:Away (St (xb l2 n β)):=⟨xb_st H.out n β⟩
      have HC:=Away.mk (mixByte_any gs k a o l2 t n β wr H.out (by omega) (hβ ▸ bys_lt s i) A0.out.row)
      clear hβ hn
      go_wp2_with fail
      refine HC.out.mono ?_
      rintro e w1 ⟨rfl,h1⟩
      have A1:Away (At gs (SC k (xb l2 n β) a o) t w w1):=⟨A0.out.trans h1⟩
      clear h1
      go_wp2_with fail
      go_roundw
      case rel=>exact⟨i+1,_,by omega,by go_num,HN,HX,A1⟩
      case measure=>simp[intOf];omega
     ·obtain rfl:i=s.size:=by omega
      have HE:Away (l2=R):=⟨by
       have h9:=HR.out
       rw[List.drop_of_length_le (by rw[←HB.out,bys_length];exact Nat.le_refl _)]at h9
       exact h9⟩
      rw[HE.out]at A0
      go_wp2_with fail
      go_end0
      exact⟨rfl,A0.out⟩
end spod
namespace spoe
open Go Go.RowKit
open arr mem kecm kecb kstep kturn spgm spmx rspa rspc rspd spoa spob spoc spod
theorem traits_is (k:Int) (r:Nat) (hr:rate k=r):∃ f z:Nat,∀ w1:World,Calls Tryz.prog 132 #[.int .i64 k] w1 fun e w'=>e=.returned (.agg #[.int .i64 (r:Int),.int .u8 (f:Int),.int .i64 (z:Int)])∧Below w1.heap.size w1 w':=
 ⟨fin k,spoa.size k,fun w1=>by have h:=traits_any k w1;unfold tr at h;rw[hr]at h;exact h⟩
theorem field0 (r f z:Int) (w:World):(Instr.field 153 (.agg #[.int .i64 r,.int .u8 f,.int .i64 z]) 0).run Tryz.prog w=.ok (.int .i64 r) w:=by kernel_rfl
theorem abs_two (P:List Nat→List Nat) (r:Nat) (l:List Nat) (p:Nat) (s:ByteArray) (n:Nat):abs P r ⟨l,p⟩ (bys s)=abs P r (abs P r ⟨l,p⟩ (bys (s.extract 0 n))) (bys (s.extract n s.size)):=by
 rw[←abs_append,bys_head,bys_tail,List.take_append_drop]
theorem absorb_any {T:Array Value} {ts rs:List Nat} (gt gs:Nat) (k:Int) (p0:Nat) (l:List Nat) (b:ByteArray) (w:World) (h:St l) (hK:KT T ts rs) (hP:Gp w) (hT:w.heap[gt]? = some (.cells T 34 (0,0))) (hne:gt≠gs) (hgp:gs≠3) (hp:p0<rate k) (hb:b.size≤1125899906842624)
 (hrow:w.heap[gs]? = some (.cells (SC k l (p0:Int) false) 164 (0,0))):
 Calls Tryz.prog 171 #[.pointer (some ⟨gt,0,none⟩),.pointer (some ⟨gs,0,none⟩),.string b] w fun e w'=>e=.returned (.tuple #[])∧At gs (SC k (abs (PP ts rs) (rate k) ⟨l,p0⟩ (bys b)).l ((abs (PP ts rs) (rate k) ⟨l,p0⟩ (bys b)).at':Nat) false) 164 w w':=by
 have hr168:=rate_le k
 obtain⟨r,hr⟩:∃ r,rate k=r:=⟨_,rfl⟩
 obtain⟨f,z,hTr⟩:=traits_is k r hr
 rw[hr]at hp hr168 ⊢
 obtain⟨E,HE⟩:=ex_eq (abs (PP ts rs) r ⟨l,p0⟩ (bys b))
 rw[HE.out]
 have HTr:=Away.mk hTr
 have hfd:=field0 (r:Int) (f:Int) (z:Int)
 have H:=Away.mk h
 have HK:=Away.mk hK
 have HP:=Away.mk hP
 have HT:=Away.mk hT
 have HR:=Away.mk hrow
 have Hp:=Away.mk hp
 have hgt:=lt_of_row hT
 have hgs:=lt_of_row hrow
 have c0:w.cell? ⟨gs,0,none⟩=some (.int .i64 k):=cell_at hrow (sc_kind k l _ _)
 clear h hK hP hT hrow hTr hr
 go_enter Tryz.func171,Tryz.ntmps171
 go_wp2_with fail
 refine(HTr.out _).mono ?_
 rintro e w1 ⟨rfl,hb1⟩
 have A00:Away (At gs (SC k l (p0:Int) false) 164 w w1):=⟨(At.refl HR.out).later hb1⟩
 clear hb1 c0 HTr HR
 go_wp2_with fail
 clear hfd
 go_loopw [2] (fun x wr=>∃ (s:ByteArray) (l':List Nat) (p:Nat),x=.string s∧s.size≤b.size∧p<r∧Away (abs (PP ts rs) r ⟨l',p⟩ (bys s)=E)∧Away (St l')∧Away (At gs (SC k l' (p:Int) false) 164 w wr)) (fun x _=>match x with | .string s=>s.size | _=>0)
 case atStart=>exact⟨b,l,p0,rfl,Nat.le_refl _,Hp.out,HE,H,A00⟩
 case round=>
  clear A00 H HE
  obtain⟨s,l',p,rfl,hs,hp',HE,H,A0⟩:=hrel
  by_cases hc : 0<s.size
  ·have hcz:(0:Int)<(s.size:Int):=by omega
   have cp:wr.cell? ⟨gs,26,none⟩=some (.int .i64 (p:Int)):=cell_at A0.out.row (sc_at k _ false H.out.len)
   obtain⟨d,hd⟩:∃ d,r-p=d:=⟨_,rfl⟩
   have fd:(r:Int)-(p:Int)=(d:Int):=by omega
   have fdw:IntKind.i64.wrap ((r:Int)-(p:Int))=(d:Int):=by rw[fd,IntKind.wrap_i64];omega
   have hd2:p+d=r:=by omega
   have hs50:s.size≤1125899906842624:=by omega
   clear hd
   rcases Nat.lt_trichotomy s.size d with hlt | heq | hgt2
   ·have hN:s.size≤s.size:=by omega
    have hN2:p+s.size≤r:=by omega
    have HM:Away (∀ w2:World,w2.heap=wr.heap→Calls Tryz.prog 194 #[.pointer (some ⟨gs,1,none⟩),.int .i64 (p:Int),.string (s.extract 0 (s.size))] w2 fun e w'=>e=.returned (.tuple #[])∧At gs (SC k (xbs l' p (bys (s.extract 0 (s.size)))) (p:Int) false) 164 w2 w'):=
     ⟨fun w2 hw2=>mix_any gs k (p:Int) false l' 164 p (s.extract 0 (s.size)) w2 H.out (by rw[ByteArray.size_extract];omega) (by rw[hw2];exact A0.out.row)⟩
    have HX:Away (St (xbs l' p (bys (s.extract 0 (s.size))))):=⟨xbs_st _ H.out p⟩
    have HT2:=abs_two (PP ts rs) r l' p s (s.size)
    rw[HE.out]at HT2
    have hz3:(s.extract s.size s.size).size=s.size-(s.size):=by rw[ByteArray.size_extract];omega
    have hl2:(bys (s.extract 0 (s.size))).length=s.size:=by rw[bys_length,ByteArray.size_extract];omega
    obtain⟨m2,Hm2⟩:=ex_eq (s.extract 0 (s.size))
    have e2:=Hm2.out
    have e3:s.extract s.size s.size=ByteArray.empty:=by simp
    rw[e2]at HM HX HT2 hl2
    rw[e3]at hz3 HT2
    rw[abs_lt (PP ts rs) r (bys m2) l' p (by omega),hl2]at HT2
    obtain⟨xl,Hxl⟩:=ex_eq (xbs l' p (bys m2))
    rw[Hxl.out]at HM HX HT2
    have HT2:=Away.mk HT2.symm
    have hpr:((p:Int)+((s.size:Nat):Int)==(r:Int))=false:=beq_eq_false_iff_ne.2 (by omega)
    clear hl2 Hxl
    go_wp2_with fail
    refine still_tail 10 (by kernel_rfl) (by kernel_rfl) ?_
    simp only[List.take_succ_cons,List.take_zero,List.drop_succ_cons,List.drop_zero]
    repeat still_step
    refine wpStill_nil ?_
    go_wp2_with fail
    refine(HM.out wr.drew rfl).mono ?_
    rintro e w2 ⟨rfl,h2⟩
    have A1:Away (At gs (SC k xl (p:Int) false) 164 w w2):=⟨A0.out.trans (b:=wr) ⟨h2.os,h2.tape,h2.output,h2.size,h2.row,h2.block⟩⟩
    have cp1:w2.cell? ⟨gs,26,none⟩=some (.int .i64 (p:Int)):=cell_at A1.out.row (sc_at k _ false HX.out.len)
    clear h2 cp HM
    go_wp2_with ((with_reducible refine wpList_put2 A1 rfl _ _ _ rfl rfl ?_);refine⟨_,_,_,rfl,rfl,rfl,(by rw[sc_size k _ false HX.out.len];decide),?_⟩;intro w5 HR2;rw[sc_seta k _ _ false HX.out.len]at HR2;have cp2:w5.cell? ⟨gs,26,none⟩=some (.int .i64 ((p:Int)+((s.size:Nat):Int))):=cell_at HR2.out.row (sc_at k _ false HX.out.len))
    go_roundw
    case rel=>exact⟨ByteArray.empty,_,p+(s.size),rfl,Nat.zero_le _,by omega,HT2,HX,HR2⟩
    case measure=>simp;omega
   ·subst heq
    have hN:s.size≤s.size:=by omega
    have hN2:p+s.size≤r:=by omega
    have HM:Away (∀ w2:World,w2.heap=wr.heap→Calls Tryz.prog 194 #[.pointer (some ⟨gs,1,none⟩),.int .i64 (p:Int),.string (s.extract 0 (s.size))] w2 fun e w'=>e=.returned (.tuple #[])∧At gs (SC k (xbs l' p (bys (s.extract 0 (s.size)))) (p:Int) false) 164 w2 w'):=
     ⟨fun w2 hw2=>mix_any gs k (p:Int) false l' 164 p (s.extract 0 (s.size)) w2 H.out (by rw[ByteArray.size_extract];omega) (by rw[hw2];exact A0.out.row)⟩
    have HX:Away (St (xbs l' p (bys (s.extract 0 (s.size))))):=⟨xbs_st _ H.out p⟩
    have HT2:=abs_two (PP ts rs) r l' p s (s.size)
    rw[HE.out]at HT2
    have hz3:(s.extract s.size s.size).size=s.size-(s.size):=by rw[ByteArray.size_extract];omega
    have hl2:(bys (s.extract 0 (s.size))).length=s.size:=by rw[bys_length,ByteArray.size_extract];omega
    obtain⟨m2,Hm2⟩:=ex_eq (s.extract 0 (s.size))
    have e2:=Hm2.out
    have e3:s.extract s.size s.size=ByteArray.empty:=by simp
    rw[e2]at HM HX HT2 hl2
    rw[e3]at hz3 HT2
    rw[abs_eq (PP ts rs) r (bys m2) l' p (fun h9=>by rw[h9]at hl2;simp at hl2;omega) (by omega)]at HT2
    obtain⟨xl,Hxl⟩:=ex_eq (xbs l' p (bys m2))
    rw[Hxl.out]at HM HX HT2
    have HT2:=Away.mk HT2.symm
    have hpr:(p:Int)+((s.size:Nat):Int)=(r:Int):=by omega
    clear hl2 Hxl
    go_wp2_with fail
    refine still_tail 10 (by kernel_rfl) (by kernel_rfl) ?_
    simp only[List.take_succ_cons,List.take_zero,List.drop_succ_cons,List.drop_zero]
    repeat still_step
    refine wpStill_nil ?_
    go_wp2_with fail
    refine(HM.out wr.drew rfl).mono ?_
    rintro e w2 ⟨rfl,h2⟩
    have A1:Away (At gs (SC k xl (p:Int) false) 164 w w2):=⟨A0.out.trans (b:=wr) ⟨h2.os,h2.tape,h2.output,h2.size,h2.row,h2.block⟩⟩
    have cp1:w2.cell? ⟨gs,26,none⟩=some (.int .i64 (p:Int)):=cell_at A1.out.row (sc_at k _ false HX.out.len)
    clear h2 cp HM
    go_wp2_with ((with_reducible refine wpList_put2 A1 rfl _ _ _ rfl rfl ?_);refine⟨_,_,_,rfl,rfl,rfl,(by rw[sc_size k _ false HX.out.len];decide),?_⟩;intro w5 HR2;rw[sc_seta k _ _ false HX.out.len]at HR2;have cp2:w5.cell? ⟨gs,26,none⟩=some (.int .i64 (r:Int)):=cell_at HR2.out.row (sc_at k _ false HX.out.len))
    refine(next_any gt gs k (r:Int) false xl w5 HX.out HK.out (Gp.at HP.out HR2.out hgp) (HR2.out.other hgt hne HT.out) HR2.out.row).mono ?_
    rintro e w6 ⟨rfl,h6⟩
    have A2:Away (At gs (SC k (PP ts rs xl) ((0:Nat):Int) false) 164 w w6):=⟨HR2.out.trans h6⟩
    clear h6 cp2 cp1 A1
    go_wp2_with fail
    go_roundw
    case rel=>exact⟨ByteArray.empty,_,0,rfl,Nat.zero_le _,by omega,HT2,⟨pp_st HK.out.br HX.out⟩,A2⟩
    case measure=>simp;omega
   ·have hN:d≤s.size:=by omega
    have hN2:p+d≤r:=by omega
    have HM:Away (∀ w2:World,w2.heap=wr.heap→Calls Tryz.prog 194 #[.pointer (some ⟨gs,1,none⟩),.int .i64 (p:Int),.string (s.extract 0 (d))] w2 fun e w'=>e=.returned (.tuple #[])∧At gs (SC k (xbs l' p (bys (s.extract 0 (d)))) (p:Int) false) 164 w2 w'):=
     ⟨fun w2 hw2=>mix_any gs k (p:Int) false l' 164 p (s.extract 0 (d)) w2 H.out (by rw[ByteArray.size_extract];omega) (by rw[hw2];exact A0.out.row)⟩
    have HX:Away (St (xbs l' p (bys (s.extract 0 (d))))):=⟨xbs_st _ H.out p⟩
    have HT2:=abs_two (PP ts rs) r l' p s (d)
    rw[HE.out]at HT2
    have hz3:(s.extract (d) s.size).size=s.size-(d):=by rw[ByteArray.size_extract];omega
    have hl2:(bys (s.extract 0 (d))).length=d:=by rw[bys_length,ByteArray.size_extract];omega
    obtain⟨m2,Hm2⟩:=ex_eq (s.extract 0 (d))
    obtain⟨s3,Hs3⟩:=ex_eq (s.extract (d) s.size)
    have e2:=Hm2.out
    have e3:=Hs3.out
    rw[e2]at HM HX HT2 hl2
    rw[e3]at hz3 HT2
    rw[abs_eq (PP ts rs) r (bys m2) l' p (fun h9=>by rw[h9]at hl2;simp at hl2;omega) (by omega)]at HT2
    obtain⟨xl,Hxl⟩:=ex_eq (xbs l' p (bys m2))
    rw[Hxl.out]at HM HX HT2
    have HT2:=Away.mk HT2.symm
    have hpr:(p:Int)+((d:Nat):Int)=(r:Int):=by omega
    clear hl2 Hxl
    go_wp2_with fail
    refine still_tail 10 (by kernel_rfl) (by kernel_rfl) ?_
    simp only[List.take_succ_cons,List.take_zero,List.drop_succ_cons,List.drop_zero]
    repeat still_step
    refine wpStill_nil ?_
    go_wp2_with fail
    refine(HM.out wr.drew rfl).mono ?_
    rintro e w2 ⟨rfl,h2⟩
    have A1:Away (At gs (SC k xl (p:Int) false) 164 w w2):=⟨A0.out.trans (b:=wr) ⟨h2.os,h2.tape,h2.output,h2.size,h2.row,h2.block⟩⟩
    have cp1:w2.cell? ⟨gs,26,none⟩=some (.int .i64 (p:Int)):=cell_at A1.out.row (sc_at k _ false HX.out.len)
    clear h2 cp HM
    go_wp2_with ((with_reducible refine wpList_put2 A1 rfl _ _ _ rfl rfl ?_);refine⟨_,_,_,rfl,rfl,rfl,(by rw[sc_size k _ false HX.out.len];decide),?_⟩;intro w5 HR2;rw[sc_seta k _ _ false HX.out.len]at HR2;have cp2:w5.cell? ⟨gs,26,none⟩=some (.int .i64 (r:Int)):=cell_at HR2.out.row (sc_at k _ false HX.out.len))
    refine(next_any gt gs k (r:Int) false xl w5 HX.out HK.out (Gp.at HP.out HR2.out hgp) (HR2.out.other hgt hne HT.out) HR2.out.row).mono ?_
    rintro e w6 ⟨rfl,h6⟩
    have A2:Away (At gs (SC k (PP ts rs xl) ((0:Nat):Int) false) 164 w w6):=⟨HR2.out.trans h6⟩
    clear h6 cp2 cp1 A1
    go_wp2_with fail
    go_roundw
    case rel=>exact⟨s3,_,0,rfl,by omega,by omega,HT2,⟨pp_st HK.out.br HX.out⟩,A2⟩
    case measure=>simp only;omega
  ·have hs0:s.size=0:=by omega
   have HF:Away ((⟨l',p⟩:Sp)=E):=⟨by
    have h9:=HE.out
    rw[List.eq_nil_of_length_eq_zero (show (bys s).length=0 by rw[bys_length];exact hs0)]at h9
    exact h9⟩
   have A1:Away (At gs (SC k E.l (E.at':Int) false) 164 w wr):=⟨by rw[←HF.out];exact A0.out⟩
   clear A0 HF HE
   go_wp2_with fail
   go_end0
   exact⟨rfl,A1.out⟩
end spoe
namespace spof
open Go Go.RowKit
open arr mem kecm kecb spgm spmx rspa rspc rspd spoa spob spoc spod
theorem infoByte:(Tryz.prog.info? 5).map (fun i=>(i.zero,i.size,i.bytes))=some (some (.int .u8 0),1,1):=by kernel_rfl
theorem parts {P:Program} {e:TypeId} {z:Value} {s b:Nat} (h:(P.info? e).map (fun i=>(i.zero,i.size,i.bytes))=some (some z,s,b)):∃ i,P.info? e=some i∧i.zero=some z∧i.size=s∧i.bytes=b:=by
 cases hi:P.info? e with
 | none=>rw[hi]at h;cases h
 | some i=>
  rw[hi]at h
  simp only[Option.map_some,Option.some.injEq,Prod.mk.injEq]at h
  exact⟨i,rfl,h.1,h.2.1,h.2.2⟩
theorem owns_at {w w':World} {base:Nat} {e:TypeId} {size:Nat} {v:Value} {n:Nat} {xs:List Value} {g:Nat} {C:Array Value} {t:TypeId} (h:w.ownsRow base e size v n xs) (k:At g C t w w') (hg:g<base):w'.ownsRow base e size v n xs:=
 ⟨h.1,h.2.imp id fun ⟨g',cap,cur,hv,hb,hgr,rest⟩=>⟨g',cap,cur,hv,hb,(k.block g' (lt_of_row hgr) (by omega)).trans hgr,rest⟩⟩
theorem at_below {g B:Nat} {C:Array Value} {t:TypeId} {a b c:World} (h:At g C t a b) (k:Below B b c) (hB:a.heap.size≤B) (hg:g<B):At g C t a c:=
 ⟨k.os.trans h.os,k.tape.trans h.tape,k.output.trans h.output,Nat.le_trans h.size k.size,(k.block g hg).trans h.row,fun i hi hig=>(k.block i (by omega)).trans (h.block i hi hig)⟩
def u8s (l:List Nat):List UInt8:=l.map UInt8.ofNat
theorem u8s_length (l:List Nat):(u8s l).length=l.length:=by simp[u8s]
theorem u8s_app (l m:List Nat) (hm:∀ x∈m,x<256):Lib.byteCells (u8s (l++m))=Lib.byteCells (u8s l)++m.map (fun x:Nat=>Value.int .u8 (x:Int)):=by
 unfold u8s
 rw[List.map_append,Lib.byteCells_append]
 congr 1
 induction m with
 | nil=>rfl
 | cons x m ih=>
  have hx:=hm x (by simp)
  have:=ih (fun y hy=>hm y (by simp[hy]))
  simp only[List.map_cons]
  rw[←this]
  simp[Lib.byteCells,Nat.mod_eq_of_lt hx]
theorem owns_some {w:World} {base:Nat} {e:TypeId} {size:Nat} {v:Value} {n:Nat} {xs:List Value} (hn : 0<n) (h:w.ownsRow base e size v n xs):∃ g cap,v=.slice (some ⟨g,0,none⟩) n cap:=by
 rcases h.2 with ⟨-,h0⟩ | ⟨g,cap,cur,hv,-⟩
 ·omega
 ·exact⟨g,cap,hv⟩
theorem shr_is (x c:Nat):IntKind.u8.wrap ((x:Int) / 2 ^ c)=((x / 2 ^ c%256:Nat):Int):=by
 rw[rols.castd x c,IntKind.wrap_u8]
 omega
theorem gbs_lt (l:List Nat) (p m:Nat):∀ x∈gbs l p m,x<256:=by
 intro x hx
 obtain⟨i,-,rfl⟩:=List.mem_map.1 hx
 exact gb_lt _ _
theorem news_at {w:World} {vs:List Value} {T:Nat}:∀ j u,vs[j]? = some u→(w.alloc (.cells vs.toArray T)).cell? ((⟨w.heap.size,0,none⟩:Addr).add j)=some u:=by
 intro j u hj
 rw[Addr.add_mid,Nat.zero_add]
 exact cell_at (heap_at _ _ _ rfl) (by simpa using hj)
theorem cells8 (u:Nat) (hu:u<18446744073709551616):([u%256,u / 2 ^ 8%256,u / 2 ^ 16%256,u / 2 ^ 24%256,u / 2 ^ 32%256,u / 2 ^ 40%256,u / 2 ^ 48%256,u / 2 ^ 56%256]:List Nat).map (fun x:Nat=>Value.int .u8 (x:Int)) =
 [.int .u8 ((u:Int)%256),.int .u8 ((u:Int) / 256%256),.int .u8 ((u:Int) / 65536%256),.int .u8 ((u:Int) / 16777216%256),.int .u8 ((u:Int) / 4294967296%256),.int .u8 ((u:Int) / 1099511627776%256),.int .u8 ((u:Int) / 281474976710656%256),.int .u8 ((u:Int) / 72057594037927936)]:=by
 have e:u / 2 ^ 56%256=u / 72057594037927936:=by omega
 rw[e]
 simp only[List.map_cons,List.map_nil]
 rfl
theorem read_any (base gs:Nat) (k a:Int) (o:Bool) (l:List Nat) (t:TypeId) (xs:List Nat) (j gv cap p z:Nat) (w:World) (h:St l) (hpz:p≤z) (hz:z≤200) (hj:j≤50000) (hgs:gs<base) (hbase:base≤w.heap.size)
 (hrow:w.heap[gs]? = some (.cells (SC k l a o) t (0,0))) (hown:w.ownsRow base 5 1 (.slice (some ⟨gv,0,none⟩) j cap) j (Lib.byteCells (u8s xs))):
 Calls Tryz.prog 197 #[.slice (some ⟨gv,0,none⟩) j cap,.pointer (some ⟨gs,1,none⟩),.int .i64 (p:Int),.int .i64 (z:Int)] w fun e w'=>∃ gv' cap',e=.returned (.slice (some ⟨gv',0,none⟩) (j+(z-p)) cap')∧w'.ownsRow base 5 1 (.slice (some ⟨gv',0,none⟩) (j+(z-p)) cap') (j+(z-p)) (Lib.byteCells (u8s (xs++gbs l p (z-p))))∧Below base w w':=by
 obtain⟨i0,hi,hz0,hz1,hz2⟩:=parts infoByte
 have HI:=Away.mk (And.intro hi (And.intro hz0 (And.intro hz1 hz2)))
 have H:=Away.mk h
 have OWN:=Away.mk hown
 have HR:=Away.mk hrow
 clear h hown hrow hi hz0 hz1 hz2
 go_enter Tryz.func197,Tryz.ntmps197
 go_wp2_with fail
 go_loopw [0,2] (fun v y wr=>∃ (m:Nat),p+m≤z∧(∃ g cap,v=.slice (some ⟨g,0,none⟩) (j+m) cap)∧y=.int .i64 ((p+m:Nat):Int)∧Away (wr.ownsRow base 5 1 v (j+m) (Lib.byteCells (u8s (xs++gbs l p m))))∧Away (Below base w wr)) (fun _ y _=>z-(intOf y).toNat)
 case atStart=>exact⟨0,by omega,⟨gv,cap,rfl⟩,rfl,⟨by rw[show gbs l p 0=[] from rfl,List.append_nil];exact OWN.out⟩,⟨Below.refl _ _⟩⟩
 case round=>
  clear OWN
  obtain⟨m,hm,⟨g1,c1,rfl⟩,rfl,OWN,HB⟩:=hrel
  obtain⟨x,hx⟩:∃ x,p+m=x:=⟨_,rfl⟩
  rw[hx]
  obtain⟨r8,hr8⟩:∃ r8,x%8=r8:=⟨_,rfl⟩
  have fm:(x:Int).tmod 8=(r8:Int):=by rw[Int.tmod_eq_emod_of_nonneg (by omega)];omega
  have fm2:(x:Int)%8=(r8:Int):=by omega
  by_cases hc:r8=0∧x+8≤z
  ·obtain⟨h0,h8⟩:=hc
   subst h0
   have fm:(x:Int).tmod 8=0:=fm
   have fm2:(x:Int)%8=0:=fm2
   obtain⟨q,hq⟩:∃ q,x / 8=q:=⟨_,rfl⟩
   have fq:(x:Int).tdiv 8=(q:Int):=by rw[Int.tdiv_eq_ediv_of_nonneg (by omega)];omega
   have fqw:IntKind.i64.wrap ((x:Int).tdiv 8)=(q:Int):=by rw[fq,IntKind.wrap_i64];omega
   have fq2:(x:Int) / 8=(q:Int):=by omega
   have fq3:IntKind.i64.wrap (q:Int)=(q:Int):=by rw[IntKind.wrap_i64];omega
   have hq25:q<25:=by omega
   have hqz:(q:Int)<25:=by omega
   obtain⟨u,hu⟩:∃ u,g l q=u:=⟨_,rfl⟩
   have bu:u<18446744073709551616:=hu ▸ H.out.lt q
   have cx:wr.cell? ⟨gs,1+q,none⟩=some (.int .u64 (u:Int)):=by rw[←hu];exact cell_at ((HB.out.block gs hgs).trans HR.out) (sc_lane k a o H.out.len q hq25)
   have HNX:Away (Lib.byteCells (u8s (xs++gbs l p (m+8)))=Lib.byteCells (u8s (xs++gbs l p m)) ++ [.int .u8 ((u:Int)%256),.int .u8 ((u:Int) / 256%256),.int .u8 ((u:Int) / 65536%256),.int .u8 ((u:Int) / 16777216%256),.int .u8 ((u:Int) / 4294967296%256),.int .u8 ((u:Int) / 1099511627776%256),.int .u8 ((u:Int) / 281474976710656%256),.int .u8 ((u:Int) / 72057594037927936)]):=⟨by
    rw[gbs_add,←List.append_assoc,u8s_app _ _ (gbs_lt _ _ _),hx,show x=8*q by omega,gbs_lane l q u hu,cells8 u bu]⟩
   have hwx:base≤wr.heap.size:=Nat.le_trans hbase HB.out.size
   clear hq hr8
   go_wp2_with (at_builtin;refine wpList_append_own _ rfl _ _ 57 rfl base 5 i0 (.int .u8 0) 1 1 Tryz.underlying57 HI.out.1 HI.out.2.1 HI.out.2.2.1 HI.out.2.2.2 rfl (by decide) _ _ _ rfl (OWN.out.alloc _) ⟨wr.heap.size,0,none⟩ 8 8 [.int .u8 ((u:Int)%256),.int .u8 ((u:Int) / 256%256),.int .u8 ((u:Int) / 65536%256),.int .u8 ((u:Int) / 16777216%256),.int .u8 ((u:Int) / 4294967296%256),.int .u8 ((u:Int) / 1099511627776%256),.int .u8 ((u:Int) / 281474976710656%256),.int .u8 ((u:Int) / 72057594037927936)] rfl rfl news_at (fun u hu=>by simp at hu;rcases hu with h | h | h | h | h | h | h | h<;>(subst h;rfl)) (by unfold maxLen;omega) (by omega) (by rw[size_alloc];omega) ?_)
   intro v' w4 hown' hgrow _
   have hb4:Below base wr w4:=((Below.refl base wr).alloc hwx _).grown hgrow (by rw[size_alloc];omega) (fun k hk=>(OWN.out.lt k hk).1)
   have HB4:Away (Below base w w4):=⟨HB.out.trans hb4⟩
   have OY:Away (w4.ownsRow base 5 1 v' (j+(m+8)) (Lib.byteCells (u8s (xs++gbs l p (m+8))))):=⟨by
    rw[HNX.out];exact hown'⟩
   obtain⟨gv',cap',hv'⟩:=owns_some (by omega) OY.out
   clear hown' hgrow hb4
   subst hv'
   go_wp2_with fail
   go_roundw
   case rel=>exact⟨m+8,by omega,⟨_,_,rfl⟩,by go_num,OY,HB4⟩
   case measure=>simp[intOf];omega
  ·have hc2:r8≠0∨r8=0∧z<x+8:=by omega
   rcases hc2 with h2 | ⟨h0,h2⟩
   ·have hcz:((r8:Int)==0)=false:=beq_eq_false_iff_ne.2 (by omega)
    go_wp2_with fail
    clear hcz
    go_loopw [0,2] (fun v y wr=>∃ (m:Nat),p+m≤z∧(∃ g cap,v=.slice (some ⟨g,0,none⟩) (j+m) cap)∧y=.int .i64 ((p+m:Nat):Int)∧Away (wr.ownsRow base 5 1 v (j+m) (Lib.byteCells (u8s (xs++gbs l p m))))∧Away (Below base w wr)) (fun _ y _=>z-(intOf y).toNat)
    case atStart=>exact⟨m,hm,⟨g1,c1,rfl⟩,by rw[hx],OWN,HB⟩
    case round=>
     clear OWN HB hm hx fm fm2 hr8 hc
     obtain⟨m,hm,⟨g1,c1,rfl⟩,rfl,OWN,HB⟩:=hrel
     obtain⟨x,hx⟩:∃ x,p+m=x:=⟨_,rfl⟩
     rw[hx]
     by_cases hlt:x<z
     ·have hltz:(x:Int)<(z:Int):=by omega
      obtain⟨q,hq⟩:∃ q,x / 8=q:=⟨_,rfl⟩
      obtain⟨mm,hmm⟩:∃ mm,x%8=mm:=⟨_,rfl⟩
      obtain⟨c,hc⟩:∃ c,c=8*mm:=⟨_,rfl⟩
      have fq:(x:Int).tdiv 8=(q:Int):=by rw[Int.tdiv_eq_ediv_of_nonneg (by omega)];omega
      have fqw:IntKind.i64.wrap ((x:Int).tdiv 8)=(q:Int):=by rw[fq,IntKind.wrap_i64];omega
      have fm:(x:Int).tmod 8=(mm:Int):=by rw[Int.tmod_eq_emod_of_nonneg (by omega)];omega
      have fq2:(x:Int) / 8=(q:Int):=by omega
      have fq3:IntKind.i64.wrap (q:Int)=(q:Int):=by rw[IntKind.wrap_i64];omega
      have fm2:(x:Int)%8=(mm:Int):=by omega
      have fc:(mm:Int)*8=(c:Int):=by omega
      have fcw:IntKind.i64.wrap ((mm:Int)*8)=(c:Int):=by rw[IntKind.wrap_i64];omega
      have hc63:c≤63:=by omega
      have hq25:q<25:=by omega
      have hqz:(q:Int)<25:=by omega
      obtain⟨u,hu⟩:∃ u,g l q=u:=⟨_,rfl⟩
      have bu:u<18446744073709551616:=hu ▸ H.out.lt q
      obtain⟨β,hβ⟩:∃ β,u / 2 ^ c%256 = β := ⟨_,rfl⟩
      have bβ : β < 256:=hβ ▸ Nat.mod_lt _ (by decide)
      have fz:=shr_is u c
      rw[hβ]at fz
      have fz2:((u:Int) / 2 ^ c)%256=(β : Int):=by rw[←fz,IntKind.wrap_u8]
      have cx:wr.cell? ⟨gs,1+q,none⟩=some (.int .u64 (u:Int)):=by rw[←hu];exact cell_at ((HB.out.block gs hgs).trans HR.out) (sc_lane k a o H.out.len q hq25)
      have HNX:Away (Lib.byteCells (u8s (xs++gbs l p (m+1)))=Lib.byteCells (u8s (xs++gbs l p m)) ++ [.int .u8 (β : Int)]):=⟨by
       rw[gbs_add,←List.append_assoc,u8s_app _ _ (gbs_lt _ _ _),hx,show gbs l x 1=[gb l x] from rfl,gb,hq,hmm,←hc,hu,hβ]
       rfl⟩
      have hwx:base≤wr.heap.size:=Nat.le_trans hbase HB.out.size
      clear hq hmm hc hβ hu
      go_wp2_with (at_builtin;refine wpList_append_own _ rfl _ _ 57 rfl base 5 i0 (.int .u8 0) 1 1 Tryz.underlying57 HI.out.1 HI.out.2.1 HI.out.2.2.1 HI.out.2.2.2 rfl (by decide) _ _ _ rfl (OWN.out.alloc _) ⟨wr.heap.size,0,none⟩ 1 1 [.int .u8 (β : Int)] rfl rfl news_at (fun u hu=>by simp at hu;subst hu;rfl) (by unfold maxLen;omega) (by omega) (by rw[size_alloc];omega) ?_)
      intro v' w4 hown' hgrow _
      have hb4:Below base wr w4:=((Below.refl base wr).alloc hwx _).grown hgrow (by rw[size_alloc];omega) (fun k hk=>(OWN.out.lt k hk).1)
      have HB4:Away (Below base w w4):=⟨HB.out.trans hb4⟩
      have OY:Away (w4.ownsRow base 5 1 v' (j+(m+1)) (Lib.byteCells (u8s (xs++gbs l p (m+1))))):=⟨by
       rw[HNX.out];exact hown'⟩
      obtain⟨gv',cap',hv'⟩:=owns_some (by omega) OY.out
      clear hown' hgrow hb4
      subst hv'
      go_wp2_with fail
      go_roundw
      case rel=>exact⟨m+1,by omega,⟨_,_,rfl⟩,by go_num,OY,HB4⟩
      case measure=>simp[intOf];omega
     ·have hE:Away (m=z-p∧True):=⟨by omega,trivial⟩
      have hm2:m=z-p:=by omega
      have hge:(z:Int)≤(x:Int):=by omega
      clear hm hx
      subst hm2
      go_wp2_with fail
      go_ret
      exact⟨g1,c1,rfl,OWN.out,HB.out⟩
   ·subst h0
    have fm:(x:Int).tmod 8=0:=fm
    have fm2:(x:Int)%8=0:=fm2
    go_wp2_with fail
    go_loopw [0,2] (fun v y wr=>∃ (m:Nat),p+m≤z∧(∃ g cap,v=.slice (some ⟨g,0,none⟩) (j+m) cap)∧y=.int .i64 ((p+m:Nat):Int)∧Away (wr.ownsRow base 5 1 v (j+m) (Lib.byteCells (u8s (xs++gbs l p m))))∧Away (Below base w wr)) (fun _ y _=>z-(intOf y).toNat)
    case atStart=>exact⟨m,hm,⟨g1,c1,rfl⟩,by rw[hx],OWN,HB⟩
    case round=>
     clear OWN HB hm hx fm fm2 hr8 hc
     obtain⟨m,hm,⟨g1,c1,rfl⟩,rfl,OWN,HB⟩:=hrel
     obtain⟨x,hx⟩:∃ x,p+m=x:=⟨_,rfl⟩
     rw[hx]
     by_cases hlt:x<z
     ·have hltz:(x:Int)<(z:Int):=by omega
      obtain⟨q,hq⟩:∃ q,x / 8=q:=⟨_,rfl⟩
      obtain⟨mm,hmm⟩:∃ mm,x%8=mm:=⟨_,rfl⟩
      obtain⟨c,hc⟩:∃ c,c=8*mm:=⟨_,rfl⟩
      have fq:(x:Int).tdiv 8=(q:Int):=by rw[Int.tdiv_eq_ediv_of_nonneg (by omega)];omega
      have fqw:IntKind.i64.wrap ((x:Int).tdiv 8)=(q:Int):=by rw[fq,IntKind.wrap_i64];omega
      have fm:(x:Int).tmod 8=(mm:Int):=by rw[Int.tmod_eq_emod_of_nonneg (by omega)];omega
      have fq2:(x:Int) / 8=(q:Int):=by omega
      have fq3:IntKind.i64.wrap (q:Int)=(q:Int):=by rw[IntKind.wrap_i64];omega
      have fm2:(x:Int)%8=(mm:Int):=by omega
      have fc:(mm:Int)*8=(c:Int):=by omega
      have fcw:IntKind.i64.wrap ((mm:Int)*8)=(c:Int):=by rw[IntKind.wrap_i64];omega
      have hc63:c≤63:=by omega
      have hq25:q<25:=by omega
      have hqz:(q:Int)<25:=by omega
      obtain⟨u,hu⟩:∃ u,g l q=u:=⟨_,rfl⟩
      have bu:u<18446744073709551616:=hu ▸ H.out.lt q
      obtain⟨β,hβ⟩:∃ β,u / 2 ^ c%256 = β := ⟨_,rfl⟩
      have bβ : β < 256:=hβ ▸ Nat.mod_lt _ (by decide)
      have fz:=shr_is u c
      rw[hβ]at fz
      have fz2:((u:Int) / 2 ^ c)%256=(β : Int):=by rw[←fz,IntKind.wrap_u8]
      have cx:wr.cell? ⟨gs,1+q,none⟩=some (.int .u64 (u:Int)):=by rw[←hu];exact cell_at ((HB.out.block gs hgs).trans HR.out) (sc_lane k a o H.out.len q hq25)
      have HNX:Away (Lib.byteCells (u8s (xs++gbs l p (m+1)))=Lib.byteCells (u8s (xs++gbs l p m)) ++ [.int .u8 (β : Int)]):=⟨by
       rw[gbs_add,←List.append_assoc,u8s_app _ _ (gbs_lt _ _ _),hx,show gbs l x 1=[gb l x] from rfl,gb,hq,hmm,←hc,hu,hβ]
       rfl⟩
      have hwx:base≤wr.heap.size:=Nat.le_trans hbase HB.out.size
      clear hq hmm hc hβ hu
      go_wp2_with (at_builtin;refine wpList_append_own _ rfl _ _ 57 rfl base 5 i0 (.int .u8 0) 1 1 Tryz.underlying57 HI.out.1 HI.out.2.1 HI.out.2.2.1 HI.out.2.2.2 rfl (by decide) _ _ _ rfl (OWN.out.alloc _) ⟨wr.heap.size,0,none⟩ 1 1 [.int .u8 (β : Int)] rfl rfl news_at (fun u hu=>by simp at hu;subst hu;rfl) (by unfold maxLen;omega) (by omega) (by rw[size_alloc];omega) ?_)
      intro v' w4 hown' hgrow _
      have hb4:Below base wr w4:=((Below.refl base wr).alloc hwx _).grown hgrow (by rw[size_alloc];omega) (fun k hk=>(OWN.out.lt k hk).1)
      have HB4:Away (Below base w w4):=⟨HB.out.trans hb4⟩
      have OY:Away (w4.ownsRow base 5 1 v' (j+(m+1)) (Lib.byteCells (u8s (xs++gbs l p (m+1))))):=⟨by
       rw[HNX.out];exact hown'⟩
      obtain⟨gv',cap',hv'⟩:=owns_some (by omega) OY.out
      clear hown' hgrow hb4
      subst hv'
      go_wp2_with fail
      go_roundw
      case rel=>exact⟨m+1,by omega,⟨_,_,rfl⟩,by go_num,OY,HB4⟩
      case measure=>simp[intOf];omega
     ·have hE:Away (m=z-p∧True):=⟨by omega,trivial⟩
      have hm2:m=z-p:=by omega
      have hge:(z:Int)≤(x:Int):=by omega
      clear hm hx
      subst hm2
      go_wp2_with fail
      go_ret
      exact⟨g1,c1,rfl,OWN.out,HB.out⟩
end spof
end Go.Proofs.YtomphjajkkddkaaGreatDoor
