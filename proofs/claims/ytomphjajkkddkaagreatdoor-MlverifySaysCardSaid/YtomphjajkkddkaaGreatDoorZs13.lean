/-
  The Keccak permutation reckoned value by value, for the kernel. No program is named here. Conditions
-/
import Derived.Test.YtomphjajkkddkaaGreatDoorZs07
import Derived.Test.YtomphjajkkddkaaGreatDoorZs09
import Derived.Test.YtomphjajkkddkaaGreatDoorZs01
import Derived.Test.YtomphjajkkddkaaGreatDoorZs08
set_option maxRecDepth 100000
set_option maxHeartbeats 16000000
set_option linter.unusedSimpArgs false
set_option linter.unusedVariables false
open Go Go.RowKit
open Go renaming World->G,Value->aE
namespace Go.Proofs.YtomphjajkkddkaaGreatDoor
namespace kecf
open bU (Z)
open bJ cZ cF gI
def st{α : Type}(n:Nat)(k:Nat -> α) : α := match n with
 | 0=>k 0
 | m+1=>k m.succ
theorem xa9{α : Type}(n:Nat)(k:Nat -> α):st n k=k n:=by cases n<;>rfl
def sl{α : Type}:List Nat->(List Nat -> α) -> α
 | [],k=>k []
 | x :: r,k=>st x fun x=>sl r fun r=>k (x :: r)
theorem xgb{α : Type}(l:List Nat)(k:List Nat -> α):sl l k=k l:=by
 induction l generalizing k with
 | nil=>rfl
 | cons x r ih=>rw[sl,xa9,ih]
def mixS{α : Type}(k:List Nat -> α):List Nat -> α
 | [a0,a1,a2,a3,a4,a5,a6,a7,a8,a9,a10,a11,a12,a13,a14,a15,a16,a17,a18,a19,a20,a21,a22,a23,a24]=>
  st (Nat.xor (Nat.xor (Nat.xor (Nat.xor a0 a5) a10) a15) a20) fun c0=>
  st (Nat.xor (Nat.xor (Nat.xor (Nat.xor a1 a6) a11) a16) a21) fun c1=>
  st (Nat.xor (Nat.xor (Nat.xor (Nat.xor a2 a7) a12) a17) a22) fun c2=>
  st (Nat.xor (Nat.xor (Nat.xor (Nat.xor a3 a8) a13) a18) a23) fun c3=>
  st (Nat.xor (Nat.xor (Nat.xor (Nat.xor a4 a9) a14) a19) a24) fun c4=>
  st (Nat.xor c4 (Nat.lor (Nat.mod (Nat.mul c1 2) 18446744073709551616) (Nat.div c1 9223372036854775808))) fun d0=>
  st (Nat.xor c0 (Nat.lor (Nat.mod (Nat.mul c2 2) 18446744073709551616) (Nat.div c2 9223372036854775808))) fun d1=>
  st (Nat.xor c1 (Nat.lor (Nat.mod (Nat.mul c3 2) 18446744073709551616) (Nat.div c3 9223372036854775808))) fun d2=>
  st (Nat.xor c2 (Nat.lor (Nat.mod (Nat.mul c4 2) 18446744073709551616) (Nat.div c4 9223372036854775808))) fun d3=>
  st (Nat.xor c3 (Nat.lor (Nat.mod (Nat.mul c0 2) 18446744073709551616) (Nat.div c0 9223372036854775808))) fun d4=>
  st (Nat.xor a0 d0) fun m0=>
  st (Nat.xor a1 d1) fun m1=>
  st (Nat.xor a2 d2) fun m2=>
  st (Nat.xor a3 d3) fun m3=>
  st (Nat.xor a4 d4) fun m4=>
  st (Nat.xor a5 d0) fun m5=>
  st (Nat.xor a6 d1) fun m6=>
  st (Nat.xor a7 d2) fun m7=>
  st (Nat.xor a8 d3) fun m8=>
  st (Nat.xor a9 d4) fun m9=>
  st (Nat.xor a10 d0) fun m10=>
  st (Nat.xor a11 d1) fun m11=>
  st (Nat.xor a12 d2) fun m12=>
  st (Nat.xor a13 d3) fun m13=>
  st (Nat.xor a14 d4) fun m14=>
  st (Nat.xor a15 d0) fun m15=>
  st (Nat.xor a16 d1) fun m16=>
  st (Nat.xor a17 d2) fun m17=>
  st (Nat.xor a18 d3) fun m18=>
  st (Nat.xor a19 d4) fun m19=>
  st (Nat.xor a20 d0) fun m20=>
  st (Nat.xor a21 d1) fun m21=>
  st (Nat.xor a22 d2) fun m22=>
  st (Nat.xor a23 d3) fun m23=>
  st (Nat.xor a24 d4) fun m24=>
  k [m0,m1,m2,m3,m4,m5,m6,m7,m8,m9,m10,m11,m12,m13,m14,m15,m16,m17,m18,m19,m20,m21,m22,m23,m24]
 | _=>k []
def turnS{α : Type}(k:List Nat -> α):List Nat -> α
 | [a0,a1,a2,a3,a4,a5,a6,a7,a8,a9,a10,a11,a12,a13,a14,a15,a16,a17,a18,a19,a20,a21,a22,a23,a24]=>
  st (Nat.lor (Nat.mod (Nat.mul a0 1) 18446744073709551616) (Nat.div a0 18446744073709551616)) fun b0=>
  st (Nat.lor (Nat.mod (Nat.mul a6 17592186044416) 18446744073709551616) (Nat.div a6 1048576)) fun b1=>
  st (Nat.lor (Nat.mod (Nat.mul a12 8796093022208) 18446744073709551616) (Nat.div a12 2097152)) fun b2=>
  st (Nat.lor (Nat.mod (Nat.mul a18 2097152) 18446744073709551616) (Nat.div a18 8796093022208)) fun b3=>
  st (Nat.lor (Nat.mod (Nat.mul a24 16384) 18446744073709551616) (Nat.div a24 1125899906842624)) fun b4=>
  st (Nat.lor (Nat.mod (Nat.mul a3 268435456) 18446744073709551616) (Nat.div a3 68719476736)) fun b5=>
  st (Nat.lor (Nat.mod (Nat.mul a9 1048576) 18446744073709551616) (Nat.div a9 17592186044416)) fun b6=>
  st (Nat.lor (Nat.mod (Nat.mul a10 8) 18446744073709551616) (Nat.div a10 2305843009213693952)) fun b7=>
  st (Nat.lor (Nat.mod (Nat.mul a16 35184372088832) 18446744073709551616) (Nat.div a16 524288)) fun b8=>
  st (Nat.lor (Nat.mod (Nat.mul a22 2305843009213693952) 18446744073709551616) (Nat.div a22 8)) fun b9=>
  st (Nat.lor (Nat.mod (Nat.mul a1 2) 18446744073709551616) (Nat.div a1 9223372036854775808)) fun b10=>
  st (Nat.lor (Nat.mod (Nat.mul a7 64) 18446744073709551616) (Nat.div a7 288230376151711744)) fun b11=>
  st (Nat.lor (Nat.mod (Nat.mul a13 33554432) 18446744073709551616) (Nat.div a13 549755813888)) fun b12=>
  st (Nat.lor (Nat.mod (Nat.mul a19 256) 18446744073709551616) (Nat.div a19 72057594037927936)) fun b13=>
  st (Nat.lor (Nat.mod (Nat.mul a20 262144) 18446744073709551616) (Nat.div a20 70368744177664)) fun b14=>
  st (Nat.lor (Nat.mod (Nat.mul a4 134217728) 18446744073709551616) (Nat.div a4 137438953472)) fun b15=>
  st (Nat.lor (Nat.mod (Nat.mul a5 68719476736) 18446744073709551616) (Nat.div a5 268435456)) fun b16=>
  st (Nat.lor (Nat.mod (Nat.mul a11 1024) 18446744073709551616) (Nat.div a11 18014398509481984)) fun b17=>
  st (Nat.lor (Nat.mod (Nat.mul a17 32768) 18446744073709551616) (Nat.div a17 562949953421312)) fun b18=>
  st (Nat.lor (Nat.mod (Nat.mul a23 72057594037927936) 18446744073709551616) (Nat.div a23 256)) fun b19=>
  st (Nat.lor (Nat.mod (Nat.mul a2 4611686018427387904) 18446744073709551616) (Nat.div a2 4)) fun b20=>
  st (Nat.lor (Nat.mod (Nat.mul a8 36028797018963968) 18446744073709551616) (Nat.div a8 512)) fun b21=>
  st (Nat.lor (Nat.mod (Nat.mul a14 549755813888) 18446744073709551616) (Nat.div a14 33554432)) fun b22=>
  st (Nat.lor (Nat.mod (Nat.mul a15 2199023255552) 18446744073709551616) (Nat.div a15 8388608)) fun b23=>
  st (Nat.lor (Nat.mod (Nat.mul a21 4) 18446744073709551616) (Nat.div a21 4611686018427387904)) fun b24=>
  k [b0,b1,b2,b3,b4,b5,b6,b7,b8,b9,b10,b11,b12,b13,b14,b15,b16,b17,b18,b19,b20,b21,b22,b23,b24]
 | _=>k []
def bendS{α : Type}(c:Nat)(k:List Nat -> α):List Nat -> α
 | [a0,a1,a2,a3,a4,a5,a6,a7,a8,a9,a10,a11,a12,a13,a14,a15,a16,a17,a18,a19,a20,a21,a22,a23,a24]=>
  st (Nat.xor (Nat.xor a0 (Nat.land (Nat.sub 18446744073709551615 a1) a2)) c) fun e0=>
  st (Nat.xor a1 (Nat.land (Nat.sub 18446744073709551615 a2) a3)) fun e1=>
  st (Nat.xor a2 (Nat.land (Nat.sub 18446744073709551615 a3) a4)) fun e2=>
  st (Nat.xor a3 (Nat.land (Nat.sub 18446744073709551615 a4) a0)) fun e3=>
  st (Nat.xor a4 (Nat.land (Nat.sub 18446744073709551615 a0) a1)) fun e4=>
  st (Nat.xor a5 (Nat.land (Nat.sub 18446744073709551615 a6) a7)) fun e5=>
  st (Nat.xor a6 (Nat.land (Nat.sub 18446744073709551615 a7) a8)) fun e6=>
  st (Nat.xor a7 (Nat.land (Nat.sub 18446744073709551615 a8) a9)) fun e7=>
  st (Nat.xor a8 (Nat.land (Nat.sub 18446744073709551615 a9) a5)) fun e8=>
  st (Nat.xor a9 (Nat.land (Nat.sub 18446744073709551615 a5) a6)) fun e9=>
  st (Nat.xor a10 (Nat.land (Nat.sub 18446744073709551615 a11) a12)) fun e10=>
  st (Nat.xor a11 (Nat.land (Nat.sub 18446744073709551615 a12) a13)) fun e11=>
  st (Nat.xor a12 (Nat.land (Nat.sub 18446744073709551615 a13) a14)) fun e12=>
  st (Nat.xor a13 (Nat.land (Nat.sub 18446744073709551615 a14) a10)) fun e13=>
  st (Nat.xor a14 (Nat.land (Nat.sub 18446744073709551615 a10) a11)) fun e14=>
  st (Nat.xor a15 (Nat.land (Nat.sub 18446744073709551615 a16) a17)) fun e15=>
  st (Nat.xor a16 (Nat.land (Nat.sub 18446744073709551615 a17) a18)) fun e16=>
  st (Nat.xor a17 (Nat.land (Nat.sub 18446744073709551615 a18) a19)) fun e17=>
  st (Nat.xor a18 (Nat.land (Nat.sub 18446744073709551615 a19) a15)) fun e18=>
  st (Nat.xor a19 (Nat.land (Nat.sub 18446744073709551615 a15) a16)) fun e19=>
  st (Nat.xor a20 (Nat.land (Nat.sub 18446744073709551615 a21) a22)) fun e20=>
  st (Nat.xor a21 (Nat.land (Nat.sub 18446744073709551615 a22) a23)) fun e21=>
  st (Nat.xor a22 (Nat.land (Nat.sub 18446744073709551615 a23) a24)) fun e22=>
  st (Nat.xor a23 (Nat.land (Nat.sub 18446744073709551615 a24) a20)) fun e23=>
  st (Nat.xor a24 (Nat.land (Nat.sub 18446744073709551615 a20) a21)) fun e24=>
  k [e0,e1,e2,e3,e4,e5,e6,e7,e8,e9,e10,e11,e12,e13,e14,e15,e16,e17,e18,e19,e20,e21,e22,e23,e24]
 | _=>k []
def permS{α : Type}(a:List Nat):List Nat->(List Nat -> α) -> α
 | [],k=>k a
 | c :: r,k=>mixS (turnS (bendS c fun a=>permS a r k)) a
theorem xvx{α : Type}(k:List Nat -> α)(a0 a1 a2 a3 a4 a5 a6 a7 a8 a9 a10 a11 a12 a13 a14 a15 a16 a17 a18 a19 a20 a21 a22 a23 a24:Nat):mixS k [a0,a1,a2,a3,a4,a5,a6,a7,a8,a9,a10,a11,a12,a13,a14,a15,a16,a17,a18,a19,a20,a21,a22,a23,a24]=k (cO [a0,a1,a2,a3,a4,a5,a6,a7,a8,a9,a10,a11,a12,a13,a14,a15,a16,a17,a18,a19,a20,a21,a22,a23,a24]):=by
 simp only[mixS,xa9];rfl
theorem xzv{α : Type}(k:List Nat -> α)(a0 a1 a2 a3 a4 a5 a6 a7 a8 a9 a10 a11 a12 a13 a14 a15 a16 a17 a18 a19 a20 a21 a22 a23 a24:Nat):turnS k [a0,a1,a2,a3,a4,a5,a6,a7,a8,a9,a10,a11,a12,a13,a14,a15,a16,a17,a18,a19,a20,a21,a22,a23,a24]=k (cW (fun i=>TL.getD i 0) [a0,a1,a2,a3,a4,a5,a6,a7,a8,a9,a10,a11,a12,a13,a14,a15,a16,a17,a18,a19,a20,a21,a22,a23,a24]):=by
 simp only[turnS,xa9];rfl
theorem xtf{α : Type}(c:Nat)(k:List Nat -> α)(a0 a1 a2 a3 a4 a5 a6 a7 a8 a9 a10 a11 a12 a13 a14 a15 a16 a17 a18 a19 a20 a21 a22 a23 a24:Nat):bendS c k [a0,a1,a2,a3,a4,a5,a6,a7,a8,a9,a10,a11,a12,a13,a14,a15,a16,a17,a18,a19,a20,a21,a22,a23,a24]=k (gU c (dH [a0,a1,a2,a3,a4,a5,a6,a7,a8,a9,a10,a11,a12,a13,a14,a15,a16,a17,a18,a19,a20,a21,a22,a23,a24])):=by
 simp only[bendS,xa9];rfl
theorem xvy{α : Type}(k:List Nat -> α)(a:List Nat)(h:a.length=25):mixS k a=k (cO a):=
 (lD (mixS k) (xcu h).symm).trans ((xvx k (g a 0) (g a 1) (g a 2) (g a 3) (g a 4) (g a 5) (g a 6) (g a 7) (g a 8) (g a 9) (g a 10) (g a 11) (g a 12) (g a 13) (g a 14) (g a 15) (g a 16) (g a 17) (g a 18) (g a 19) (g a 20) (g a 21) (g a 22) (g a 23) (g a 24)).trans (lD (fun x=>k (cO x)) (xcu h)))
theorem xzw{α : Type}(k:List Nat -> α)(a:List Nat)(h:a.length=25):turnS k a=k (cW (fun i=>TL.getD i 0) a):=
 (lD (turnS k) (xcu h).symm).trans ((xzv k (g a 0) (g a 1) (g a 2) (g a 3) (g a 4) (g a 5) (g a 6) (g a 7) (g a 8) (g a 9) (g a 10) (g a 11) (g a 12) (g a 13) (g a 14) (g a 15) (g a 16) (g a 17) (g a 18) (g a 19) (g a 20) (g a 21) (g a 22) (g a 23) (g a 24)).trans (lD (fun x=>k (cW (fun i=>TL.getD i 0) x)) (xcu h)))
theorem xtg{α : Type}(c:Nat)(k:List Nat -> α)(a:List Nat)(h:a.length=25):bendS c k a=k (gU c (dH a)):=
 (lD (bendS c k) (xcu h).symm).trans ((xtf c k (g a 0) (g a 1) (g a 2) (g a 3) (g a 4) (g a 5) (g a 6) (g a 7) (g a 8) (g a 9) (g a 10) (g a 11) (g a 12) (g a 13) (g a 14) (g a 15) (g a 16) (g a 17) (g a 18) (g a 19) (g a 20) (g a 21) (g a 22) (g a 23) (g a 24)).trans (lD (fun x=>k (gU c (dH x))) (xcu h)))
theorem xx6{α : Type}(c:Nat)(k:List Nat -> α)(a:List Nat)(h:a.length=25):mixS (turnS (bendS c k)) a=k (cR (fun i=>TL.getD i 0) c a):=by
 rw[xvy _ a h,xzw _ (cO a) (xcl _),xtg _ _ (cW _ (cO a)) (xcl _)];rfl
theorem xws{α : Type}(cs:List Nat)(k:List Nat -> α):∀ a:List Nat,a.length=25->permS a cs k=k (cs.foldl (fun a c=>cR (fun i=>TL.getD i 0) c a) a):=by
 induction cs with
 | nil=>intro a _;rfl
 | cons c r ih=>
  intro a h;rw[permS,xx6 c _ a h,ih (cR (fun i=>TL.getD i 0) c a) (xcl _)];rfl
theorem xwt(a:List Nat):RL.foldl (fun a c=>cR (fun i=>TL.getD i 0) c a) a=PP TL RL a:=rfl
theorem xqd{α : Type}(k:List Nat -> α)(a:List Nat)(h:a.length=25):permS a RL k=k (PP TL RL a):=by rw[xws RL k a h,xwt]
theorem xl6(a:List Nat):(PP TL RL a).length=25:=xcl _
def absS{α : Type}(r:Nat)(k:List Nat->Nat -> α):List Nat->List Nat->Nat -> α
 | [],l,a=>k l a
 | b :: bs,l,a=>if Nat.succ a=r then sl (xb l a b) fun l=>permS l RL fun l=>absS r k bs l 0 else sl (xb l a b) fun l=>st (Nat.succ a) fun a=>absS r k bs l a
theorem xh1(l:List Nat)(i b:Nat):(xb l i b).length=l.length:=by unfold xb;rw[nN]
theorem xss{α : Type}(r:Nat)(k:List Nat->Nat -> α)(bs:List Nat):∀ (l:List Nat) (a:Nat),l.length=25->absS r k bs l a=k (abs (PP TL RL) r ⟨l,a⟩ bs).l (abs (PP TL RL) r ⟨l,a⟩ bs).at':=by
 induction bs with
 | nil=>intro l a _;rfl
 | cons b bs ih=>
  intro l a h;rw[absS];show _=k (abs (PP TL RL) r (ab (PP TL RL) r ⟨l,a⟩ b) bs).l (abs (PP TL RL) r (ab (PP TL RL) r ⟨l,a⟩ b) bs).at';unfold ab;by_cases e:a+1=r
  ·rw[iP e,iP (show (⟨l,a⟩:Sp).at'+1=r from e),xgb,xqd _ _ ((xh1 _ _ _).trans h),ih _ _ (xl6 _)]
  ·rw[iQ e,iQ (show ¬ (⟨l,a⟩:Sp).at'+1=r from e),xgb,xa9,ih _ _ ((xh1 _ _ _).trans h)]
theorem xst(r:Nat)(bs:List Nat):∀ s:Sp,s.l.length=25->(abs (PP TL RL) r s bs).l.length=25:=by
 induction bs with
 | nil=>intro s h;exact h
 | cons b bs ih=>
  intro s h;refine ih _ ?_;unfold ab;split
  ·exact xl6 _
  ·exact(xh1 _ _ _).trans h
def sqS{α : Type}(r:Nat)(k:List Nat -> α):Nat->List Nat->Nat->List Nat -> α
 | 0,_,_,acc=>k acc.reverse
 | n+1,l,a,acc=>if a=r then permS l RL fun l=>st (gb l 0) fun b=>sqS r k n l 1 (b :: acc) else st (gb l a) fun b=>st (Nat.succ a) fun a=>sqS r k n l a (b :: acc)
theorem sq_one(P:List Nat->List Nat)(r:Nat)(s:Sp)(n:Nat):sq P r s (n+1)=gb (tn P r s).l (tn P r s).at' :: sq P r (nx P r s) n:=by
 rw[mJ n 1,xho];rfl
theorem sqS_eq{α : Type}(r:Nat)(k:List Nat -> α)(n:Nat):∀ (l:List Nat) (a:Nat) (acc:List Nat),l.length=25->sqS r k n l a acc=k (acc.reverse++sq (PP TL RL) r ⟨l,a⟩ n):=by
 induction n with
 | zero=>intro l a acc _;rw[sqS];simp[sq]
 | succ n ih=>
  intro l a acc h;rw[sqS,sq_one];unfold nx tn;by_cases e:a=r
  ·rw[iP e,iP (show (⟨l,a⟩:Sp).at'=r from e),xqd _ _ h,xa9,ih _ _ _ (xl6 _),List.reverse_cons,mL];rfl
  ·rw[iQ e,iQ (show ¬ (⟨l,a⟩:Sp).at'=r from e),xa9,xa9,ih _ _ _ h,List.reverse_cons,mL];rfl
def fS{α : Type}(r m:Nat)(bs:List Nat)(n:Nat)(k:List Nat -> α) : α := absS r (fun l a=>sl (xb (xb l a m) (r-1) 128) fun l=>sqS r k n l r []) bs Z 0
theorem xwk{α : Type}(r m:Nat)(bs:List Nat)(n:Nat)(k:List Nat -> α):fS r m bs n k=k (sq (PP TL RL) r (pad r m (abs (PP TL RL) r ⟨Z,0⟩ bs)) n):=by
 unfold fS;rw[xss _ _ _ _ _ (by rfl),xgb,sqS_eq _ _ _ _ _ _ ((xh1 _ _ _).trans ((xh1 _ _ _).trans (xst r bs ⟨Z,0⟩ rfl)))];rfl
end kecf
namespace tbf
open kecf fB nttm cY aT
abbrev ζ : Nat->Int:=fun k=>((zt k:Nat):Int)
def hor(h:Nat->Nat):Nat->Nat->Nat
 | 0,acc=>acc
 | n+1,acc=>hor h n (Nat.add (Nat.mul acc 4294967296) (h n))
def horS{α : Type}(h:Nat->Nat)(k:Nat -> α):Nat->Nat -> α
 | 0,acc=>k acc
 | n+1,acc=>st (Nat.add (Nat.mul acc 4294967296) (h n)) fun acc=>horS h k n acc
theorem xu2{α : Type}(h:Nat->Nat)(k:Nat -> α)(n:Nat):∀ acc,horS h k n acc=k (hor h n acc):=by
 induction n with
 | zero=>intro acc;rfl
 | succ n ih=>intro acc;rw[horS,xa9,ih];rfl
def lk(N i:Nat):Nat:=Nat.mod (Nat.div N (Nat.pow 4294967296 i)) 4294967296
theorem xlk(N i:Nat):lk N i=N / 4294967296 ^ i%4294967296:=rfl
theorem hor_is(h:Nat->Nat)(hh:∀ i,h i<4294967296)(n:Nat):∀ acc,(∀ i,i<n->lk (hor h n acc) i=h i)/\hor h n acc / 4294967296 ^ n=acc:=by
 induction n with
 | zero=>intro acc;exact⟨fun i hi=>by omega,by rw[Nat.pow_zero,Nat.div_one];rfl⟩
 | succ n ih=>
  intro acc;obtain⟨h1,h2⟩:=ih (Nat.add (Nat.mul acc 4294967296) (h n));have h3:Nat.add (Nat.mul acc 4294967296) (h n)=acc*4294967296+h n:=rfl;have hn:=hh n;refine⟨fun i hi=>?_,?_⟩
  ·by_cases e:i=n
   ·subst e;show lk (hor h i _) i=_;rw[xlk,h2,h3];omega
   ·exact h1 i (by omega)
  ·show hor h n _ / _=_;rw[mG,<-mY,h2,h3];omega
def dA{α : Type}(h:Nat->Nat)(k:Nat -> α) : α := horS h k 256 0
def eO(N:Nat)(f:Nat->Int):Prop:=∀ i,i<256->lk N i<8380417/\f i=((lk N i:Nat):Int)
theorem xdo(h:Nat->Nat)(f:Nat->Int)(hh:∀ i,h i<4294967296)(hf:∀ i,i<256->h i<8380417/\f i=((h i:Nat):Int)):∃ M,eO M f/\∀ (α : Type) (k:Nat -> α),dA h k=k M:=
 ⟨hor h 256 0,fun i hi=>by rw[(hor_is h hh 256 0).1 i hi];exact hf i hi,fun _ k=>xu2 h k 256 0⟩
def ZN:Nat:=1942532590334862870138974211309491265782479578908875968865029424456053257258072682295166927120764341606327311584658853370499113175525762845358868055875449743865862120561507886266747906148109645887626569421358571458517131955923284862628124089112459955088367321758936870320868432697508840795368302553306576128045551607900627127501794114081202641910877226362801691822840898283887149403998842135480772271410685269676056079915871598662895342995024116405481364306244279332350098942854172493709708276187309139599590708792464483823760789356714193279404756677496017119634944934138036115747230462237986224255331592814367902736981458467519885665679479228037485495093630541964206931915163610275278937739714994470440583037739519371910840303218798742525392799033380093848832106984474065814597511152572022702855167409301633981844629425289715425513189029241545586899000780710272102105091605579804393400213043857482162467923932944277054752633280111701102829033262795617846970374521865188732741696600691505667686329522606287841560781862388665232359322879374208972336199642789727206476734881296178925179289536740450642981295725346851284164001847278084449190324311603069755178077421853116731460280747304127011680652201945786222691228488254713937177263227605494921064947865535581351518083331160300703806453118421938781384978085450686752087458948523818888842204236408802467616937683189706840942690780294699359315222743213794246885800990452437071553815427308310126173523992248163650132523991616829815627658787232798346920794291613469437445387711809729040183677108117453921834875903390132031359687416044245487457771017388506548364564559122569450939338118419555439921574145639048278533533660638873919347394974093323140006350021801255901322034596405010487698490495577798064332243826130425283098122871005726590391144741858660072963970671535934213421572075996539234047661212859541799506727893504164706978268104719884245023518336180989693307757423110033600879176964970190021698534844531069500303801840960678469133619677376783395108800320774455070008267090960784486339862562729884302758202270636416921073981755143887576621683020104146012655817041173986749065132246285408760256952748676034888636562920808961740887799517003060362711331429543967849102906437932290547874354911527571960210570964207077252592611795709619564762124335042772532003782349962352973367387722684668660569565761073551374745677636660694228889934682204568507453807362700949136754277475637722254486777653541592081819221941551105
theorem zn_all:(List.range 256).all (fun i=>Nat.beq (lk ZN i) (zt i))=true:=by decide +kernel
theorem zn_is(i:Nat)(h:i<256) : ζ i=((lk ZN i:Nat):Int):=by
 have:=lN.1 zn_all i (lV.2 h);show ((zt i:Nat):Int)=_;rw[Nat.eq_of_beq_eq_true this]
def md(x:Nat):Nat:=Nat.mod x 8380417
theorem md_eq(x:Nat):md x=x%8380417:=rfl
def lyN(N K s j:Nat):Nat:=cond (Nat.ble (Nat.succ (Nat.mod j (Nat.mul 2 s))) s) (md (Nat.add (lk N j) (Nat.mul (lk ZN (Nat.add K (Nat.div j (Nat.mul 2 s)))) (lk N (Nat.add j s))))) (md (Nat.add (lk N (Nat.sub j s)) (Nat.sub 8380417 (md (Nat.mul (lk ZN (Nat.add K (Nat.div j (Nat.mul 2 s)))) (lk N j))))))
def bkN(N K s j:Nat):Nat:=cond (Nat.ble (Nat.succ (Nat.mod j (Nat.mul 2 s))) s) (md (Nat.add (lk N j) (lk N (Nat.add j s)))) (md (Nat.mul (lk ZN (Nat.sub (Nat.sub (Nat.mul 2 K) 1) (Nat.div j (Nat.mul 2 s)))) (Nat.add (lk N j) (Nat.sub 8380417 (lk N (Nat.sub j s))))))
theorem xob{α : Type}(a b:Nat)(x y : α):cond (Nat.ble (Nat.succ a) b) x y=if a<b then x else y:=by
 by_cases h:a<b
 ·rw[iP h,show Nat.ble (Nat.succ a) b=true from Nat.ble_eq_true_of_le h];rfl
 ·rw[iQ h,show Nat.ble (Nat.succ a) b=false from nK.2 fun e=>h (oI e)];rfl
theorem xll(N K s j:Nat):lyN N K s j=if j%(2*s)<s then (lk N j+lk ZN (K+j / (2*s))*lk N (j+s))%8380417 else (lk N (j-s)+(8380417-(lk ZN (K+j / (2*s))*lk N j)%8380417))%8380417:=xob _ _ _ _
theorem xkf(N K s j:Nat):bkN N K s j=if j%(2*s)<s then (lk N j+lk N (j+s))%8380417 else (lk ZN (2*K-1-j / (2*s))*(lk N j+(8380417-lk N (j-s))))%8380417:=xob _ _ _ _
theorem near(K s j:Nat)(hK : 2*s*K=256)(hj:j<256):j / (2*s)<K/\(j%(2*s)<s->j+s<256):=by
 have h1:j / (2*s)<K:=oX (by omega);refine⟨h1,fun h=>?_⟩;have h2:=oL j (2*s);have h3 : 2*s*(j / (2*s)+1)<=2*s*K:=kJ _ h1;rw[kG]at h3;omega
theorem xd3(K s:Nat)(hK : 2*s*K=256)(hs : 0<s)(h128:K<=128){N:Nat}{f:Nat->Int}(h:eO N f):∃ M,eO M (gB (ly ζ K s f))/\∀ (α : Type) (k:Nat -> α),dA (lyN N K s) k=k M:=by
 refine xdo _ _ (fun i=>?_) (fun j hj=>⟨?_,?_⟩)
 ·rw[xll];split<;>omega
 ·rw[xll];split<;>omega
 ·obtain⟨h1,h2⟩:=near K s j hK hj;rw[xll];unfold gB ly;rw[zn_is (K+j / (2*s)) (by omega),(h j hj).2];split
  ·rename_i hl
   rw[(h (j+s) (h2 hl)).2,<-kV,<-oM];exact(oE _ _).symm
  ·rw[(h (j-s) (by omega)).2,<-kV];generalize lk ZN (K+j / (2*s))*lk N j=x;omega
theorem xdt(K s:Nat)(hK : 2*s*K=256)(hs : 0<s)(h128:K<=128){N:Nat}{f:Nat->Int}(h:eO N f):∃ M,eO M (gB (bk ζ K s f))/\∀ (α : Type) (k:Nat -> α),dA (bkN N K s) k=k M:=by
 refine xdo _ _ (fun i=>?_) (fun j hj=>⟨?_,?_⟩)
 ·rw[xkf];split<;>omega
 ·rw[xkf];split<;>omega
 ·obtain⟨h1,h2⟩:=near K s j hK hj;rw[xkf];unfold gB bk;rw[(h j hj).2];split
  ·rename_i hl
   rw[(h (j+s) (h2 hl)).2,<-oM];exact(oE _ _).symm
  ·have hz : 2*K-1-j / (2*s)<256:=by clear h2;generalize j / (2*s)=q at h1;omega
   rw[zn_is (2*K-1-j / (2*s)) hz,(h (j-s) (by omega)).2];have ha:=(h (j-s) (by omega)).1;generalize lk ZN (2*K-1-j / (2*s))=z;generalize lk N (j-s)=a at ha;generalize lk N j=b;have e:(((z*(b+(8380417-a)))%8380417:Nat):Int)=(((z:Int)*b+z*8380417)-z*a)%8380417:=by
    rw[oE,kV,oM,Int.natCast_sub (Nat.le_of_lt ha),mQ,Int.mul_sub,Int.add_sub_assoc];rfl
   rw[e,Int.neg_mul,Int.mul_sub];generalize (z:Int)*a=x;generalize (z:Int)*b=y;omega
theorem xqu{N:Nat}{f:Nat->Int}(h:eO N f):eO N (gB f):=fun i hi=>⟨(h i hi).1,by unfold gB;rw[(h i hi).2];have:=(h i hi).1;omega⟩
def fT{α : Type}(N:Nat)(k:Nat -> α) : α := dA (lyN N 1 128) fun N=>dA (lyN N 2 64) fun N=>dA (lyN N 4 32) fun N=>dA (lyN N 8 16) fun N=>dA (lyN N 16 8) fun N=>dA (lyN N 32 4) fun N=>dA (lyN N 64 2) fun N=>dA (lyN N 128 1) k
def backS{α : Type}(N:Nat)(k:Nat -> α) : α := dA (bkN N 128 1) fun N=>dA (bkN N 64 2) fun N=>dA (bkN N 32 4) fun N=>dA (bkN N 16 8) fun N=>dA (bkN N 8 16) fun N=>dA (bkN N 4 32) fun N=>dA (bkN N 2 64) fun N=>dA (bkN N 1 128) k
theorem xfc{N:Nat}{f:Nat->Int}(h:eO N f):∃ M,eO M (aS ζ 8 f)/\∀ (α : Type) (k:Nat -> α),fT N k=k M:=by
 have h0:eO N (aS ζ 0 f):=xqu h;obtain⟨M1,h1,e1⟩:=xd3 1 128 rfl (by decide) (by decide) h0;rw[show gB (ly ζ 1 128 (aS ζ 0 f))=aS ζ 1 f from rfl]at h1;obtain⟨M2,h2,e2⟩:=xd3 2 64 rfl (by decide) (by decide) h1;rw[show gB (ly ζ 2 64 (aS ζ 1 f))=aS ζ 2 f from rfl]at h2;obtain⟨M3,h3,e3⟩:=xd3 4 32 rfl (by decide) (by decide) h2;rw[show gB (ly ζ 4 32 (aS ζ 2 f))=aS ζ 3 f from rfl]at h3;obtain⟨M4,h4,e4⟩:=xd3 8 16 rfl (by decide) (by decide) h3;rw[show gB (ly ζ 8 16 (aS ζ 3 f))=aS ζ 4 f from rfl]at h4;obtain⟨M5,h5,e5⟩:=xd3 16 8 rfl (by decide) (by decide) h4;rw[show gB (ly ζ 16 8 (aS ζ 4 f))=aS ζ 5 f from rfl]at h5;obtain⟨M6,h6,e6⟩:=xd3 32 4 rfl (by decide) (by decide) h5;rw[show gB (ly ζ 32 4 (aS ζ 5 f))=aS ζ 6 f from rfl]at h6;obtain⟨M7,h7,e7⟩:=xd3 64 2 rfl (by decide) (by decide) h6;rw[show gB (ly ζ 64 2 (aS ζ 6 f))=aS ζ 7 f from rfl]at h7;obtain⟨M8,h8,e8⟩:=xd3 128 1 rfl (by decide) (by decide) h7;rw[show gB (ly ζ 128 1 (aS ζ 7 f))=aS ζ 8 f from rfl]at h8;exact⟨M8,h8,fun α k=>by unfold fT;rw[e1,e2,e3,e4,e5,e6,e7,e8]⟩
theorem xs6{N:Nat}{f:Nat->Int}(h:eO N f):∃ M,eO M (bH ζ 8 f)/\∀ (α : Type) (k:Nat -> α),backS N k=k M:=by
 have h0:eO N (bH ζ 0 f):=xqu h;obtain⟨M1,h1,e1⟩:=xdt 128 1 rfl (by decide) (by decide) h0;rw[show gB (bk ζ 128 1 (bH ζ 0 f))=bH ζ 1 f from rfl]at h1;obtain⟨M2,h2,e2⟩:=xdt 64 2 rfl (by decide) (by decide) h1;rw[show gB (bk ζ 64 2 (bH ζ 1 f))=bH ζ 2 f from rfl]at h2;obtain⟨M3,h3,e3⟩:=xdt 32 4 rfl (by decide) (by decide) h2;rw[show gB (bk ζ 32 4 (bH ζ 2 f))=bH ζ 3 f from rfl]at h3;obtain⟨M4,h4,e4⟩:=xdt 16 8 rfl (by decide) (by decide) h3;rw[show gB (bk ζ 16 8 (bH ζ 3 f))=bH ζ 4 f from rfl]at h4;obtain⟨M5,h5,e5⟩:=xdt 8 16 rfl (by decide) (by decide) h4;rw[show gB (bk ζ 8 16 (bH ζ 4 f))=bH ζ 5 f from rfl]at h5;obtain⟨M6,h6,e6⟩:=xdt 4 32 rfl (by decide) (by decide) h5;rw[show gB (bk ζ 4 32 (bH ζ 5 f))=bH ζ 6 f from rfl]at h6;obtain⟨M7,h7,e7⟩:=xdt 2 64 rfl (by decide) (by decide) h6;rw[show gB (bk ζ 2 64 (bH ζ 6 f))=bH ζ 7 f from rfl]at h7;obtain⟨M8,h8,e8⟩:=xdt 1 128 rfl (by decide) (by decide) h7;rw[show gB (bk ζ 1 128 (bH ζ 7 f))=bH ζ 8 f from rfl]at h8;exact⟨M8,h8,fun α k=>by unfold backS;rw[e1,e2,e3,e4,e5,e6,e7,e8]⟩
end tbf
namespace sigf
open kecf tbf
def pkS{α : Type}(k:Nat -> α):List Nat->Nat->Nat -> α
 | [],acc,_=>k acc
 | x :: r,acc,p=>st (Nat.add acc (Nat.mul p x)) fun acc=>st (Nat.mul p 256) fun p=>pkS k r acc p
def byN(N i:Nat):Nat:=Nat.mod (Nat.div N (Nat.pow 256 i)) 256
def pickS{α : Type}(v:Nat->Nat)(o:Nat->Bool)(k:Nat->Nat -> α):Nat->Nat->Nat->Nat -> α
 | 0,_,c,a=>k c a
 | f+1,j,c,a=>cond (Nat.ble 256 c) (k c a) (cond (o j) (st (Nat.add a (Nat.mul (v j) (Nat.pow 4294967296 c))) fun a=>st (Nat.succ c) fun c=>st (Nat.succ j) fun j=>pickS v o k f j c a) (st (Nat.succ j) fun j=>pickS v o k f j c a))
def triN(N j:Nat):Nat:=Nat.add (Nat.add (byN N (Nat.mul 3 j)) (Nat.mul 256 (byN N (Nat.add (Nat.mul 3 j) 1)))) (Nat.mul 65536 (Nat.mod (byN N (Nat.add (Nat.mul 3 j) 2)) 128))
def hfN(N j:Nat):Nat:=cond (Nat.beq (Nat.mod j 2) 0) (Nat.mod (byN N (Nat.div j 2)) 16) (Nat.div (byN N (Nat.div j 2)) 16)
def full(k:Nat->Bool)(c a:Nat):Bool:=cond (Nat.beq c 256) (k a) false
def uniS(B:List Nat)(k:Nat->Bool):Bool:=pkS (fun N=>pickS (triN N) (fun j=>Nat.ble (Nat.succ (triN N j)) 8380417) (full k) 336 0 0 0) B 0 1
def smaS(B:List Nat)(k:Nat->Bool):Bool:=pkS (fun N=>pickS (fun j=>md (Nat.sub 8380419 (Nat.mod (hfN N j) 5))) (fun j=>Nat.ble (Nat.succ (hfN N j)) 15) (full k) 1632 0 0 0) B 0 1
def nxS{α : Type}(N i:Nat)(k:Nat -> α):Nat->Nat -> α
 | 0,a=>k a
 | f+1,a=>cond (Nat.ble (Nat.succ a) 544) (cond (Nat.ble (Nat.succ i) (byN N a)) (st (Nat.succ a) fun a=>nxS N i k f a) (k a)) (k a)
def sgnN(N t:Nat):Nat:=cond (Nat.beq (Nat.mod (Nat.div (byN N (Nat.div t 8)) (Nat.pow 2 (Nat.mod t 8))) 2) 1) 8380416 1
def blS(N tau:Nat)(k:Nat->Bool):Nat->Nat->Nat->Nat->Bool
 | 0,_,_,M=>k M
 | f+1,t,p,M=>st (Nat.add (Nat.sub 256 tau) t) fun i=>nxS N i (fun a=>cond (Nat.beq a 544) false (st (byN N a) fun b=>st (sgnN N t) fun s=>dA (fun j=>cond (Nat.beq j b) s (cond (Nat.beq j i) (lk M b) (lk M j))) fun M=>st (Nat.succ t) fun t=>st (Nat.succ a) fun a=>blS N tau k f t a M)) 544 p
def ballS(B:List Nat)(tau:Nat)(k:Nat->Bool):Bool:=pkS (fun N=>blS N tau k tau 0 8 0) B 0 1
def horW{α : Type}(w:Nat)(h:Nat->Nat)(k:Nat -> α):Nat->Nat -> α
 | 0,acc=>k acc
 | n+1,acc=>st (Nat.add (Nat.mul acc (Nat.pow 2 w)) (h n)) fun acc=>horW w h k n acc
def nbS{α : Type}(k:List Nat -> α):Nat->Nat->List Nat -> α
 | 0,_,acc=>k acc.reverse
 | n+1,N,acc=>st (Nat.mod N 256) fun b=>st (Nat.div N 256) fun N=>nbS k n N (b :: acc)
def packS{α : Type}(w M:Nat)(k:List Nat -> α) : α := horW w (lk M) (fun N=>nbS k (Nat.mul 32 w) N []) 256 0
def maskN(N i:Nat):Nat:=md (Nat.sub 8511489 (Nat.mod (Nat.div N (Nat.pow 262144 i)) 262144))
def mulN(M K i:Nat):Nat:=md (Nat.mul (lk M i) (lk K i))
def addN(M K i:Nat):Nat:=md (Nat.add (lk M i) (lk K i))
def subN(M K i:Nat):Nat:=md (Nat.add (lk M i) (Nat.sub 8380417 (lk K i)))
def prodS(M K:Nat)(k:Nat->Bool):Bool:=dA (mulN M K) fun x=>backS x fun x=>dA (fun i=>md (Nat.mul (lk x i) 8347681)) k
def shN(x:Nat):Nat:=Nat.div (Nat.add x 4095) 8192
def slN(x:Nat):Nat:=md (Nat.sub (Nat.add x 8380417) (Nat.mul 8192 (shN x)))
def hghN(x:Nat):Nat:=Nat.mod (Nat.div (Nat.add x 95231) 190464) 44
def allS(p:Nat->Bool)(k:Bool):Nat->Bool
 | 0=>k
 | n+1=>cond (p n) (allS p k n) false
def smallN(b x:Nat):Bool:=cond (Nat.ble (Nat.succ x) b) true (Nat.ble (Nat.sub 8380418 b) x)
def lowN(b x:Nat):Bool:=cond (Nat.ble (Nat.succ (Nat.mod x 190464)) b) true (Nat.ble (Nat.sub 190465 b) (Nat.mod x 190464))
def cntS(p:Nat->Bool)(k:Nat->Bool):Nat->Nat->Bool
 | 0,c=>k c
 | n+1,c=>cond (p n) (cntS p k n c) (st (Nat.succ c) fun c=>cntS p k n c)
def keyS(seed:List Nat)(k:List Nat->List Nat->List Nat->Nat->Nat->Nat->Nat->Bool):Bool:=
 fS 136 31 (seed ++ [1,1]) 128 fun S=>sl (S.take 32) fun rho=>sl ((S.drop 32).take 64) fun sg=>sl ((S.drop 96).take 32) fun key=>
 fS 168 31 (rho ++ [0,0]) 1008 fun u=>uniS u fun A=>fS 136 31 (sg ++ [0,0]) 816 fun u=>smaS u fun s1=>fS 136 31 (sg ++ [1,0]) 816 fun u=>smaS u fun s2=>
 fT s1 fun h1=>prodS A h1 fun x=>dA (addN x s2) fun T=>dA (fun i=>shN (lk T i)) fun hi=>packS 10 hi fun pl=>fS 136 31 (rho++pl) 64 fun tr=>k rho key tr A s1 s2 T
def tryS(seed iE:List Nat):Bool:=
 keyS seed fun _ key tr A s1 s2 T=>fS 136 31 (tr++iE) 64 fun mu=>fS 136 31 (key++(List.replicate 32 0++mu)) 64 fun mask=>
 fS 136 31 (mask ++ [0,0]) 576 fun u=>pkS (fun N=>dA (maskN N) fun y=>fT y fun hy=>prodS A hy fun w=>dA (fun i=>hghN (lk w i)) fun hi=>packS 6 hi fun hb=>
 fS 136 31 (mu++hb) 32 fun sum=>fS 136 31 sum 544 fun u=>ballS u 20 fun c=>fT c fun hc=>fT s1 fun ha=>prodS hc ha fun ca=>fT s2 fun hb=>prodS hc hb fun cb=>dA (fun i=>slN (lk T i)) fun lo=>fT lo fun hl=>prodS hc hl fun cl=>
 dA (addN y ca) fun z=>dA (subN w cb) fun v=>dA (addN v cl) fun x=>
 allS (fun i=>smallN 131032 (lk z i)) (allS (fun i=>lowN 95191 (lk v i)) (allS (fun i=>smallN 95232 (lk cl i)) (cntS (fun i=>Nat.beq (hghN (lk x i)) (hghN (lk v i))) (fun c=>Nat.ble c 60) 256 0) 256) 256) 256) u 0 1
def seed32:List Nat:=[48,49,50,51,52,53,54,55,56,57,48,49,50,51,52,53,54,55,56,57,48,49,50,51,52,53,54,55,56,57,48,49]
theorem try_is:tryS seed32 [0,1,99,97,98,99]=true:=by decide +kernel
end sigf
namespace sigp
open kecf tbf sigf dZ fW fL cZ dD aT bE bF cY bA bM eD bQ
open bC (aU fG xaz bt)
theorem xb0{α : Type}(k:Int)(r m:Nat)(b:ByteArray)(n:Nat)(hr:cF.bG k=r)(hm:cF.mark k=m)(kk:List Nat -> α):fS r m (aU b) n kk=kk (aU (out TL RL k b n)):=by
 subst hr hm;rw[xwk,fD.xp6];rfl
theorem xhd{α : Type}(k:Nat -> α)(l:List Nat):∀ acc p,pkS k l acc p=k (acc+p*pk 8 l):=by
 induction l with
 | nil=>intro acc p;rw[pkS,pk,Nat.mul_zero,mX]
 | cons x r ih=>
  intro acc p;rw[pkS,xa9,xa9,ih,pk,oB,<-lX,<-lC];rfl
theorem byN_eq(N i:Nat):byN N i=N / 256 ^ i%256:=rfl
theorem xdv(B:List Nat)(h:∀ x∈B,x<2 ^ 8)(i:Nat):byN (pk 8 B) i=by' B i:=by
 rw[byN_eq];have e:(256:Nat) ^ i=2 ^ (8*i):=by rw[Nat.pow_mul]
 rw[e];unfold by'
 rw[iO];by_cases hi:i<B.length
 ·rw[iT hi];exact xf2 8 B h i hi
 ·rw[jY (by omega)];have h1:=xl7 8 B h;have h2 : 2 ^ (8*B.length)<=2 ^ (8*i):=kS (by decide) (by omega);rw[lI (by omega)];rfl
def pick(v:Nat->Nat)(o:Nat->Bool):Nat->List Nat
 | 0=>[]
 | j+1=>if (pick v o j).length<256/\o j=true then pick v o j ++ [v j] else pick v o j
theorem xwv(v:Nat->Nat)(o:Nat->Bool)(j k:Nat)(h : 256<=(pick v o j).length)(hk:j<=k):pick v o k=pick v o j:=by
 induction k with
 | zero=>rw[show j=0 by omega]
 | succ k ih=>
  by_cases e:j=k+1
  ·rw[e]
  ·rw[pick,ih (by omega),iQ (by omega)]
theorem xqh(w:Nat)(l:List Nat)(x:Nat):pk w (l ++ [x])=pk w l+x*2 ^ (w*l.length):=by
 induction l with
 | nil=>simp[pk]
 | cons y r ih=>
  rw[List.cons_append,pk,ih,pk,mF,kG,lF,oB,lX,oT (2 ^ w) x,kI (2 ^ w) (2 ^ (w*r.length))]
theorem ct{α : Type}(x y : α):cond true x y=x:=rfl
theorem cf{α : Type}(x y : α):cond false x y=y:=rfl
theorem xgn{a b:Nat}(h:a<=b):Nat.ble a b=true:=Nat.ble_eq_true_of_le h
theorem xgm{a b:Nat}(h:¬ a<=b):Nat.ble a b=false:=nK.2 fun e=>h (oI e)
theorem xqf{α : Type}(v:Nat->Nat)(o:Nat->Bool)(k:Nat->Nat -> α)(f:Nat):∀ j,pickS v o k f j (pick v o j).length (pk 32 (pick v o j))=k (pick v o (j+f)).length (pk 32 (pick v o (j+f))):=by
 induction f with
 | zero=>intro j;rfl
 | succ f ih=>
  intro j;rw[pickS];by_cases h : 256<=(pick v o j).length
  ·rw[xgn h,xwv v o j (j+(f+1)) h (by omega)];rfl
  ·rw[xgm h];have h2:=ih (j+1);rw[show j+1+f=j+(f+1) by omega]at h2;rw[<-h2];by_cases e:o j=true
   ·have e2:pick v o (j+1)=pick v o j ++ [v j]:=by rw[pick,iP ⟨by omega,e⟩]
    rw[e2,xqh,kK,e,Nat.pow_mul,cf,ct,xa9,xa9,xa9];rfl
   ·have e2:pick v o (j+1)=pick v o j:=by rw[pick,iQ (fun x=>e x.2)]
    rw[e2,nK.2 e,cf,cf,xa9]
theorem xqw(l:List Nat)(hl:l.length=256)(h:∀ x∈l,x<8380417):eO (pk 32 l) (lf l):=by
 intro i hi;have e:lk (pk 32 l) i=l[i]'(by omega):=by
  rw[xlk,show (4294967296:Nat) ^ i=2 ^ (32*i) by rw[Nat.pow_mul]];exact xf2 32 l (fun x hx=>nP (h x hx) (by decide)) i (by omega)
 refine⟨by rw[e];exact h _ (kZ _),?_⟩;rw[e];unfold lf;rw[iO,iT (by omega)];rfl
theorem xoh{k:Nat->Bool}{c a:Nat}(h:full k c a=true):c=256/\k a=true:=by
 unfold full at h;by_cases e:c=256
 ·subst e;exact⟨rfl,h⟩
 ·rw[show Nat.beq c 256=false from nK.2 fun x=>e (Nat.eq_of_beq_eq_true x)]at h;cases h
theorem tri_is(B:List Nat)(h:∀ x∈B,x<2 ^ 8)(j:Nat):triN (pk 8 B) j=tri B (3*j):=by
 unfold triN;rw[xdv B h,xdv B h,xdv B h];rfl
theorem xsc(B:List Nat)(h:∀ x∈B,x<2 ^ 8)(j:Nat):pick (triN (pk 8 B)) (fun j=>Nat.ble (Nat.succ (triN (pk 8 B) j)) 8380417) j=ua B j:=by
 induction j with
 | zero=>rfl
 | succ j ih=>
  rw[pick,ua,ih,tri_is B h];by_cases x:(ua B j).length<256/\tri B (3*j)<8380417
  ·rw[iP x,iP ⟨x.1,xgn x.2⟩]
  ·rw[iQ x,iQ fun y=>x ⟨y.1,oI y.2⟩]
theorem uni_is{k:Nat->Bool}{B:List Nat}(hB:∀ x∈B,x<2 ^ 8)(h:uniS B k=true):∃ M,eO M (uni B)/\k M=true:=by
 unfold uniS at h;rw[xhd,kP,Nat.one_mul]at h;have e:=xqf (triN (pk 8 B)) (fun j=>Nat.ble (Nat.succ (triN (pk 8 B) j)) 8380417) (full k) 336 0;rw[xsc B hB,xsc B hB]at e;obtain⟨h1,h2⟩:=xoh (e.symm.trans h);exact⟨_,xqw _ h1 (ua_lt B 336),h2⟩
theorem hf_is(B:List Nat)(h:∀ x∈B,x<2 ^ 8)(j:Nat):hfN (pk 8 B) j=hf B j:=by
 unfold hfN hf;rw[xdv B h];by_cases e:j%2=0
 ·rw[iP e,show Nat.mod j 2=0 from e];rfl
 ·rw[iQ e,show Nat.mod j 2=1 by show j%2=1;omega];rfl
theorem xq7(B:List Nat)(h:∀ x∈B,x<2 ^ 8)(j:Nat):pick (fun j=>md (Nat.sub 8380419 (Nat.mod (hfN (pk 8 B) j) 5))) (fun j=>Nat.ble (Nat.succ (hfN (pk 8 B) j)) 15) j=sa B 2 j:=by
 induction j with
 | zero=>rfl
 | succ j ih=>
  have e1:bR 2 (hf B j)=Nat.ble (Nat.succ (hf B j)) 15:=by
   unfold bR;rw[iP rfl];by_cases x:hf B j<15
   ·rw[jP x,xgn x]
   ·rw[jN x,xgm x]
  have e2:(hv 2 (hf B j)).toNat=md (Nat.sub 8380419 (Nat.mod (hf B j) 5)):=by
   unfold hv;rw[iP rfl,md_eq];show _=(8380419-hf B j%5)%8380417;omega
  rw[pick,sa,ih,hf_is B h,e1,e2]
theorem xru{k:Nat->Bool}{B:List Nat}(hB:∀ x∈B,x<2 ^ 8)(h:smaS B k=true):∃ M,eO M (sma B 2)/\k M=true:=by
 unfold smaS at h;rw[xhd,kP,Nat.one_mul]at h;have e:=xqf (fun j=>md (Nat.sub 8380419 (Nat.mod (hfN (pk 8 B) j) 5))) (fun j=>Nat.ble (Nat.succ (hfN (pk 8 B) j)) 15) (full k) 1632 0;rw[xq7 B hB,xq7 B hB]at e;obtain⟨h1,h2⟩:=xoh (e.symm.trans h);refine⟨_,xqw _ h1 (fun x hx=>?_),h2⟩;obtain⟨b,-,rfl⟩:=sa_in B 2 1632 x hx;have:=xip 2 b;omega
theorem nx_is{α : Type}(B:List Nat)(h:∀ x∈B,x<2 ^ 8)(i:Nat)(k:Nat -> α)(f:Nat):∀ a,nxS (pk 8 B) i k f a=k (nx B i f a):=by
 induction f with
 | zero=>intro a;rfl
 | succ f ih=>
  intro a;rw[nxS,nx,xdv B h];by_cases e1:a<544
  ·rw[xgn (show Nat.succ a<=544 from e1)];by_cases e2:i<by' B a
   ·rw[xgn (show Nat.succ i<=by' B a from e2),iP ⟨e1,e2⟩,ct,ct,xa9,ih]
   ·rw[xgm (show ¬ Nat.succ i<=by' B a from e2),iQ (fun x=>e2 x.2)];rfl
  ·rw[xgm (show ¬ Nat.succ a<=544 from e1),iQ (fun x=>e1 x.1)];rfl
theorem lk_lt(N i:Nat):lk N i<4294967296:=kB _ (by decide)
theorem xel{α : Type}(a b:Nat)(x y : α):cond (Nat.beq a b) x y=if a=b then x else y:=by
 by_cases e:a=b
 ·subst e;rw[iP rfl,show Nat.beq a a=true from Nat.beq_refl a];rfl
 ·rw[iQ e,show Nat.beq a b=false from nK.2 fun x=>e (Nat.eq_of_beq_eq_true x)];rfl
theorem sgn_is(B:List Nat)(h:∀ x∈B,x<2 ^ 8)(t:Nat):sgn B t=((sgnN (pk 8 B) t:Nat):Int)/\sgnN (pk 8 B) t<8380417:=by
 unfold sgnN sgn;rw[xel,xdv B h];show (if by' B (t / 8) / 2 ^ (t%8)%2=1 then (8380416:Int) else 1)=(((if by' B (t / 8) / 2 ^ (t%8)%2=1 then 8380416 else 1:Nat):Nat):Int)/\(if by' B (t / 8) / 2 ^ (t%8)%2=1 then 8380416 else 1)<8380417;split<;>exact⟨rfl,by decide⟩
theorem xce(B:List Nat)(h:∀ x∈B,x<2 ^ 8)(i:Nat):by' B i<256:=by rw[<-xdv B h];exact kB _ (by decide)
theorem xdu(B:List Nat)(hB:∀ x∈B,x<2 ^ 8)(tau:Nat)(k:Nat->Bool)(f:Nat):∀ t M,eO M (bl B tau t).1->blS (pk 8 B) tau k f t (bl B tau t).2 M=true->∃ M',eO M' (bl B tau (t+f)).1/\k M'=true:=by
 induction f with
 | zero=>intro t M hM h;exact⟨M,hM,h⟩
 | succ f ih=>
  intro t M hM h;rw[blS,xa9,nx_is B hB]at h;have ea:nx B (Nat.add (Nat.sub 256 tau) t) 544 (bl B tau t).2=nx B (256-tau+t) 544 (bl B tau t).2:=rfl;rw[ea,xel]at h;by_cases e:nx B (256-tau+t) 544 (bl B tau t).2=544
  ·rw[iP e]at h;cases h
  ·rw[iQ e,xa9,xa9,xdv B hB]at h;have e2:bl B tau (t+1)=(upd (upd (bl B tau t).1 (256-tau+t) ((bl B tau t).1 (by' B (nx B (256-tau+t) 544 (bl B tau t).2)))) (by' B (nx B (256-tau+t) 544 (bl B tau t).2)) (sgn B t),nx B (256-tau+t) 544 (bl B tau t).2+1):=by
    rw[bl];exact iQ e
   have e2':=lD Prod.fst e2;simp only at e2';have hs:=sgn_is B hB t;have hb:=xce B hB (nx B (256-tau+t) 544 (bl B tau t).2);obtain⟨M',h1,h2⟩:=xdo (fun j=>cond (Nat.beq j (by' B (nx B (256-tau+t) 544 (bl B tau t).2))) (sgnN (pk 8 B) t) (cond (Nat.beq j (Nat.add (Nat.sub 256 tau) t)) (lk M (by' B (nx B (256-tau+t) 544 (bl B tau t).2))) (lk M j))) (bl B tau (t+1)).1
    (fun j=>by
     rw[xel,xel];split
     ·exact nP hs.2 (by decide)
     ·split<;>exact lk_lt _ _)
    (fun j hj=>by
     rw[xel,xel,e2',upd,upd];by_cases x:j=by' B (nx B (256-tau+t) 544 (bl B tau t).2)
     ·rw[iP x,iP x];exact⟨hs.2,hs.1⟩
     ·rw[iQ x,iQ x];by_cases y:j=256-tau+t
      ·rw[iP (show j=Nat.add (Nat.sub 256 tau) t from y),iP y];exact hM _ hb
      ·rw[iQ (show ¬ j=Nat.add (Nat.sub 256 tau) t from y),iQ y];exact hM _ hj)
   rw[h2,xa9,xa9]at h;have e3:(bl B tau (t+1)).2=Nat.succ (nx B (256-tau+t) 544 (bl B tau t).2):=by rw[e2]
   have h3:=ih (t+1) M' h1 (by rw[e3];exact h);rw[show t+1+f=t+(f+1) by omega]at h3;exact h3
theorem xxs:eO 0 (fun _=>0):=fun i _=>by
 have:lk 0 i=0:=by rw[xlk,Nat.zero_div]
 rw[this];exact⟨by decide,rfl⟩
theorem xtb{k:Nat->Bool}{B:List Nat}{tau:Nat}(h1 : 1<=tau)(h64:tau<=64)(hB:∀ x∈B,x<2 ^ 8)(h:ballS B tau k=true):∃ M,eO M (ball B (tau:Int))/\k M=true:=by
 unfold ballS at h;rw[xhd,kP,Nat.one_mul]at h;have h2:=xdu B hB tau k tau 0 0 xxs h;rw[kP]at h2;rw[xh7 B tau h1 h64];exact h2
end sigp
namespace sigq
open kecf hiding sl
open tbf sigf sigp dZ fW fL cZ dD aT bE bF cY aW bA bY cG bM eD bQ
open bC (aU fG xaz bt)
theorem xck(x:Nat):md x<8380417:=kB _ (by decide)
theorem xpf(b:ByteArray):∃ M,eO M (un (up b 18) 131072)/\∀ (α : Type) (k:Nat -> α),dA (maskN (pk 8 (aU b))) k=k M:=by
 refine xdo _ _ (fun i=>nP (xck _) (by decide)) (fun i _=>⟨xck _,?_⟩);unfold un up bt maskN;rw[md_eq];show _=(((8511489-pk 8 (aU b) / 262144 ^ i%262144)%8380417:Nat):Int);rw[show (262144:Nat) ^ i=2 ^ (18*i) by rw[Nat.pow_mul],show (262144:Nat)=2 ^ 18 from rfl];have:pk 8 (aU b) / 2 ^ (18*i)%2 ^ 18<2 ^ 18:=kB _ (by decide);generalize pk 8 (aU b) / 2 ^ (18*i)%2 ^ 18=x at this;omega
theorem mul_is{M K:Nat}{f g:Nat->Int}(hM:eO M f)(hK:eO K g):∃ P,eO P (fun k=>(f k*g k)%8380417)/\∀ (α : Type) (k:Nat -> α),dA (mulN M K) k=k P:=by
 refine xdo _ _ (fun i=>nP (xck _) (by decide)) (fun i hi=>⟨xck _,?_⟩);show (f i*g i)%8380417=_;rw[(hM i hi).2,(hK i hi).2,<-kV];exact(oE _ _).symm
theorem xj6{M K:Nat}{f g:Nat->Int}(hM:eO M f)(hK:eO K g):∃ P,eO P (fun k=>(f k+g k)%8380417)/\∀ (α : Type) (k:Nat -> α),dA (addN M K) k=k P:=by
 refine xdo _ _ (fun i=>nP (xck _) (by decide)) (fun i hi=>⟨xck _,?_⟩);show (f i+g i)%8380417=_;rw[(hM i hi).2,(hK i hi).2,<-oM];exact(oE _ _).symm
theorem sub_is{M K:Nat}{f g:Nat->Int}(hM:eO M f)(hK:eO K g):∃ P,eO P (fun k=>(f k-g k)%8380417)/\∀ (α : Type) (k:Nat -> α),dA (subN M K) k=k P:=by
 refine xdo _ _ (fun i=>nP (xck _) (by decide)) (fun i hi=>⟨xck _,?_⟩);have h:=(hK i hi).1;show (f i-g i)%8380417=(((lk M i+(8380417-lk K i))%8380417:Nat):Int);rw[(hM i hi).2,(hK i hi).2];omega
theorem xf6{M K:Nat}{f g:Nat->Int}(hM:eO M f)(hK:eO K g):∃ P,eO P (fun k=>(bH ζ 8 (fun k=>(f k*g k)%8380417) k*8347681)%8380417)/\∀ k:Nat->Bool,prodS M K k=k P:=by
 obtain⟨X,hX,e1⟩:=mul_is hM hK;obtain⟨Yq,hY,e2⟩:=xs6 hX;obtain⟨P,hP,e3⟩:=xdo (fun i=>md (Nat.mul (lk Yq i) 8347681)) (fun k=>(bH ζ 8 (fun k=>(f k*g k)%8380417) k*8347681)%8380417) (fun i=>nP (xck _) (by decide)) (fun i hi=>⟨xck _,by
  show _=(((lk Yq i*8347681)%8380417:Nat):Int);rw[(hY i hi).2];omega⟩)
 exact⟨P,hP,fun k=>by unfold prodS;rw[e1,e2,e3]⟩
theorem xiv{M:Nat}{f:Nat->Int}(g:Nat->Nat)(Gq:Int->Int)(hM:eO M f)(hg:∀ x,x<8380417->g x<8380417/\Gq (x:Int)=((g x:Nat):Int))(hb:∀ x,x<4294967296->g x<4294967296):∃ P,eO P (fun k=>Gq (f k))/\∀ (α : Type) (k:Nat -> α),dA (fun i=>g (lk M i)) k=k P:=by
 refine xdo _ _ (fun i=>hb _ (lk_lt _ _)) (fun i hi=>⟨(hg _ (hM i hi).1).1,?_⟩);show Gq (f i)=_;rw[(hM i hi).2];exact(hg _ (hM i hi).1).2
theorem xrh(x:Nat):shN x=(x+4095) / 8192:=rfl
theorem sh_is(x:Nat)(h:x<8380417):sh (x:Int)=((shN x:Nat):Int)/\shN x<=1023/\sl (x:Int)=(x:Int)-8192*((shN x:Nat):Int):=by
 have e:=xbr 8192 ((x:Int)%8380417) (by decide) (by decide);rw[xrh];unfold sh sl;rw[e];split<;>omega
theorem hi_is(x:Nat)(h:x<8380417):shN x<8380417/\sh (x:Int)=((shN x:Nat):Int):=by have:=sh_is x h;omega
theorem lo_is(x:Nat)(h:x<8380417):slN x<8380417/\sl (x:Int)%8380417=((slN x:Nat):Int):=by
 refine⟨xck _,?_⟩;have h2:=sh_is x h;rw[h2.2.2];show _=(((x+8380417-8192*shN x)%8380417:Nat):Int);omega
theorem xim(x:Nat)(h:x<8380417):hghN x<8380417/\cD 95232 (x:Int)=((hghN x:Nat):Int):=by
 have e:=xbr 190464 ((x:Int)%8380417) (by decide) (by decide);have e2:hghN x=(x+95231) / 190464%44:=rfl;rw[e2];unfold cD pl;rw[iP xb5,show (2:Int)*95232=190464 from rfl,e];split<;>split<;>omega
theorem xu3{α : Type}(w:Nat)(h:Nat->Nat)(k:Nat -> α)(n:Nat):∀ acc,horW w h k n acc=k (pk w ((List.range n).map h)+acc*2 ^ (w*n)):=by
 induction n with
 | zero=>intro acc;rw[horW];simp[pk]
 | succ n ih=>
  intro acc;rw[horW,xa9,ih,List.range_succ,List.map_append,lT,List.map_nil,xqh,List.length_map,List.length_range,kG w n,lF,lX];show k (_+(acc*2 ^ w+h n)*_)=_;rw[Nat.add_mul,mJ (acc*2 ^ w*2 ^ (w*n)),lC,kI (2 ^ w)]
theorem nbS_eq{α : Type}(k:List Nat -> α)(n:Nat):∀ N acc,nbS k n N acc=k (acc.reverse++nb 8 n N):=by
 induction n with
 | zero=>intro N acc;rw[nbS,nb,List.append_nil]
 | succ n ih=>
  intro N acc;rw[nbS,xa9,xa9,ih,nb,List.reverse_cons,mL];rfl
theorem xl4{α : Type}{M:Nat}{f:Nat->Int}(w:Nat)(most:Int)(hw:lb most.toNat=w)(hM:eO M f)(k:List Nat -> α):packS w M k=k (aU (packed f most)):=by
 subst hw;have e:ns f=(List.range 256).map (lk M):=by
  unfold ns;refine List.map_congr_left fun i hi=>?_
  rw[(hM i (lV.1 hi)).2,kL]
 unfold packS packed;rw[xu3,nbS_eq,Nat.zero_mul,mX,<-e,dQ.xgp _ (xg5 8 _ _)];rfl
theorem xj7{p:Nat->Bool}{k:Bool}(n:Nat)(h:allS p k n=true):(∀ i,i<n->p i=true)/\k=true:=by
 induction n with
 | zero=>exact⟨fun i hi=>by omega,h⟩
 | succ n ih=>
  rw[allS]at h;cases e:p n with
  | false=>rw[e]at h;cases h
  | true=>
   rw[e]at h;obtain⟨h1,h2⟩:=ih h;refine⟨fun i hi=>?_,h2⟩;by_cases x:i=n
   ·rw[x];exact e
   ·exact h1 i (by omega)
theorem cnt_is(p:Nat->Bool)(k:Nat->Bool)(f:Nat->Int)(n:Nat)(hf:∀ i,i<n->(f i=0↔p i=true)):∀ c,cntS p k n c=k (c+cnt f n):=by
 induction n with
 | zero=>intro c;rfl
 | succ n ih=>
  intro c;have ih:=ih fun i hi=>hf i (by omega)
  rw[cntS,cnt];by_cases e:p n=true
  ·rw[e,iP ((hf n (by omega)).2 e),ct,ih];rfl
  ·rw[nK.2 e,iQ (fun x=>e ((hf n (by omega)).1 x)),cf,xa9,ih];congr 1
   omega
theorem or_is{a b c d:Nat}(h:cond (Nat.ble (Nat.succ a) b) true (Nat.ble c d)=true):a<b\/c<=d:=by
 by_cases e:a<b
 ·exact kW e
 ·rw[xgm (show ¬ Nat.succ a<=b from e),cf]at h;exact kO (oI h)
theorem xrw{b x:Nat}(hb:b<=4190208)(hx:x<8380417)(h:smallN b x=true) : -(b:Int)<ce 8380417 (x:Int)/\ce 8380417 (x:Int)<(b:Int):=by
 have h2:x<b\/8380418-b<=x:=or_is h;rw[xbr 8380417 _ (by decide) (by decide)];split<;>omega
theorem low_is{b x:Nat}(hb:b<=95232)(hx:x<8380417)(h:lowN b x=true) : -(b:Int)<=lw 95232 (x:Int)/\lw 95232 (x:Int)<(b:Int):=by
 have h2:x%190464<b\/190465-b<=x%190464:=or_is h;have e:=xbr 190464 ((x:Int)%8380417) (by decide) (by decide);unfold lw pl;rw[iP xb5,show (2:Int)*95232=190464 from rfl,e];split<;>split<;>omega
theorem xkm(f:Nat->Int)(b:Int)(h0 : 0<b)(n:Nat)(h:∀ i,i<n -> -b<ce 8380417 (f i)/\ce 8380417 (f i)<b):cb f n<b:=by
 induction n with
 | zero=>exact h0
 | succ n ih=>
  have h1:=ih fun i hi=>h i (by omega)
  have h2:=h n (by omega);rw[cb];omega
theorem hn_is(v c:Int)(hv : 0<=v/\v<8380417):hn 95232 ((0-c)%8380417) ((v+c)%8380417)=if cD 95232 ((v+c)%8380417)=cD 95232 v then 0 else 1:=by
 unfold hn;rw[show ((v+c)%8380417+(0-c)%8380417)%8380417=v by omega]
end sigq
namespace sigt
open kecf hiding sl
open tbf sigf sigp sigq dZ fW fL cZ dD aT bE bF cY aW bA bY cG bM eD bQ bZ eH
open bC (aU fG xaz bt)
theorem xca(x y:ByteArray):aU (x++y)=aU x++aU y:=by
 unfold aU;rw[ByteArray.data_append,Array.toList_append,List.map_append]
theorem xkj(s:ByteArray)(a b:Nat):aU (s.extract a b)=((aU s).drop a).take (b-a):=by
 unfold aU;rw[Lib.extract_eq];simp only[List.map_take,List.map_drop]
theorem tw00(s:ByteArray):aU s ++ [0,0]=aU (tw s 0 0):=(xca s ⟨#[UInt8.ofNat 0,UInt8.ofNat 0]⟩).symm
theorem tw10(s:ByteArray):aU s ++ [1,0]=aU (tw s 1 0):=(xca s ⟨#[UInt8.ofNat 1,UInt8.ofNat 0]⟩).symm
theorem tw11(s:ByteArray):aU s ++ [1,1]=aU (tw s 1 1):=(xca s ⟨#[UInt8.ofNat 1,UInt8.ofNat 1]⟩).symm
theorem row_one(Z:Nat->Int)(x v:Nat->Nat->Int):cQ Z x v 1=fun k=>(bH Z 8 (fun k=>(x 0 k*aS Z 8 (v 0) k)%8380417) k*8347681)%8380417:=by
 have e:dK x (fun j=>aS Z 8 (v j)) 1=fun k=>(x 0 k*aS Z 8 (v 0) k)%8380417:=by
  funext k
  show ((0:Int)+(x 0 k*aS Z 8 (v 0) k)%8380417)%8380417=_;omega
 unfold cQ;rw[e]
theorem xow(sd:ByteArray)(k:List Nat->List Nat->List Nat->Nat->Nat->Nat->Nat->Bool)(h:keyS (aU sd) k=true):
 ∃ A s1 s2 T,eO A (qX (cI sd 1 1) 0 0)/\eO s1 (qS (cB sd 1 1) 2 0)/\eO s2 (qS (cB sd 1 1) 2 1)/\eO T (pT ζ sd 1 1 2 0)/\k (aU (cI sd 1 1)) (aU (pKey sd 1 1)) (aU (pTr ζ sd 1 1 2)) A s1 s2 T=true:=by
 have hS:aU (out TL RL 2 (tw sd 1 1) 128)=aU (pS sd 1 1):=rfl;have hr:(aU (pS sd 1 1)).take 32=aU (cI sd 1 1):=(xkj _ 0 32).symm;have hg:((aU (pS sd 1 1)).drop 32).take 64=aU (cB sd 1 1):=(xkj _ 32 96).symm;have hk:((aU (pS sd 1 1)).drop 96).take 32=aU (pKey sd 1 1):=(xkj _ 96 128).symm;unfold keyS at h;rw[tw11,xb0 2 136 31 _ 128 rfl rfl,hS,xgb,xgb,xgb,hr,hg,hk,tw00,xb0 1 168 31 _ 1008 rfl rfl]at h;obtain⟨A,hA,h⟩:=uni_is (fG _) h;rw[tw00,xb0 2 136 31 _ 816 rfl rfl]at h;obtain⟨s1,h1,h⟩:=xru (fG _) h;rw[tw10,xb0 2 136 31 _ 816 rfl rfl]at h;obtain⟨s2,h2,h⟩:=xru (fG _) h;obtain⟨H,hH,e⟩:=xfc h1;rw[e]at h;obtain⟨X,hX,e⟩:=xf6 hA hH;rw[e]at h;obtain⟨T,hT,e⟩:=xj6 hX h2;rw[e]at h;have hT2:eO T (pT ζ sd 1 1 2 0):=by
  have e2:pT ζ sd 1 1 2 0=fun k=>(cQ ζ (qX (cI sd 1 1) 0) (qS (cB sd 1 1) 2) 1 k+qS (cB sd 1 1) 2 1 k)%8380417:=rfl
  rw[e2,row_one];exact hT
 obtain⟨Uq,hU,e⟩:=xiv shN sh hT2 hi_is (fun x hx=>by rw[xrh];omega);rw[e,xl4 (f:=pHi ζ sd 1 1 2 0) 10 1023 xdf hU,<-xca,xb0 2 136 31 _ 64 rfl rfl]at h;exact⟨A,s1,s2,T,hA,h1,h2,hT2,h⟩
theorem lb_43:lb ((8380416:Int) / (2*95232)-1).toNat=6:=by decide +kernel
theorem mw_18:mw 131072=18:=by decide +kernel
theorem xlt{p:Nat->Nat->Int}{b:Int}(h0 : 0<b)(h:cb (p 0) 256<b):eW p 1<b:=by
 show max 0 (cb (p 0) 256)<b;omega
theorem try_ok(sd m z:ByteArray)(hsd:aU sd=seed32)(hm:aU m=[0,1,99,97,98,99])(hz:aU z=List.replicate 32 0):
 fX ⟨ζ,1,1,2,20,131072,95232,60,128,cI sd 1 1,out TL RL 2 (pTr ζ sd 1 1 2++m) 64,out TL RL 2 (pKey sd 1 1++z++out TL RL 2 (pTr ζ sd 1 1 2++m) 64) 64,qS (cB sd 1 1) 2,fun i=>qS (cB sd 1 1) 2 (1+i),pLo ζ sd 1 1 2⟩ 0=true:=by
 obtain⟨S,hS⟩:∃ S:Sg,(⟨ζ,1,1,2,20,131072,95232,60,128,cI sd 1 1,out TL RL 2 (pTr ζ sd 1 1 2++m) 64,out TL RL 2 (pKey sd 1 1++z++out TL RL 2 (pTr ζ sd 1 1 2++m) 64) 64,qS (cB sd 1 1) 2,fun i=>qS (cB sd 1 1) 2 (1+i),pLo ζ sd 1 1 2⟩:Sg)=S:=⟨_,rfl⟩;have hmu:aU (out TL RL 2 (pTr ζ sd 1 1 2++m) 64)=aU S.mu:=by rw[<-hS]
 have hms:aU (out TL RL 2 (pKey sd 1 1++z++S.mu) 64)=aU S.ms:=by rw[<-hS]
 have h:=try_is;unfold tryS at h;rw[<-hsd,<-hm]at h;obtain⟨A,s1,s2,T,hA,h1,h2,hT,h⟩:=xow sd _ h;rw[<-xca,xb0 2 136 31 _ 64 rfl rfl,hmu,<-hz,<-mL,<-xca,<-xca,xb0 2 136 31 _ 64 rfl rfl,hms,tw00,xb0 2 136 31 _ 576 rfl rfl,xhd,kP,Nat.one_mul]at h;obtain⟨Yq,hY,e⟩:=xpf (out TL RL 2 (tw S.ms 0 0) 576);rw[e]at h;have hY2:eO Yq (tY S 0 0):=by
  have e3:S.a=131072/\S.ln=1:=by rw[<-hS];exact⟨rfl,rfl⟩
  unfold tY qM;rw[e3.1,e3.2,show (0*1+0)%256=0 from rfl,show (0*1+0) / 256=0 from rfl];unfold dM;rw[mw_18];exact hY
 obtain⟨H,hH,e⟩:=xfc hY2;rw[e]at h;obtain⟨W,hW,e⟩:=xf6 hA hH;rw[e]at h;have hW2:eO W (tW S 0 0):=by
  have e2:tW S 0 0=cQ ζ (qX (cI sd 1 1) 0) (tY S 0) 1:=by rw[<-hS];rfl
  rw[e2,row_one];exact hW
 obtain⟨Uq,hU,e⟩:=xiv hghN (cD 95232) hW2 xim (fun x _=>nP (kB _ (by decide)) (by decide : 44<4294967296));have hU2:eO Uq (tHi S 0 0):=by
  have e2:tHi S 0 0=fun k=>cD 95232 (tW S 0 0 k):=by rw[<-hS];rfl
  rw[e2];exact hU
 have hsum:out TL RL 2 (S.mu++packed (tHi S 0 0) ((8380416:Int) / (2*95232)-1)) 32=cT S 0:=by
  have e2:S.b=95232/\S.kn=1/\S.s=128:=by rw[<-hS];exact⟨rfl,rfl,rfl⟩
  unfold cT;rw[e2.1,e2.2.1,e2.2.2];rfl
 rw[e,xl4 6 ((8380416:Int) / (2*95232)-1) lb_43 hU2,<-xca,xb0 2 136 31 _ 32 rfl rfl,hsum,xb0 2 136 31 _ 544 rfl rfl]at h;obtain⟨C,hC,h⟩:=xtb (by decide) (by decide) (fG _) h;have hC2:eO C (tC S 0):=by
  have e2:S.t=20:=by rw[<-hS]
  unfold tC dB;rw[e2];exact hC
 obtain⟨HC,hHC,e⟩:=xfc hC2;rw[e]at h;obtain⟨HA,hHA,e⟩:=xfc h1;rw[e]at h;obtain⟨CA,hCA,e⟩:=xf6 hHC hHA;rw[e]at h;obtain⟨HB,hHB,e⟩:=xfc h2;rw[e]at h;obtain⟨CB,hCB,e⟩:=xf6 hHC hHB;rw[e]at h;obtain⟨L,hL,e⟩:=xiv slN (fun x=>sl x%8380417) hT lo_is (fun x _=>nP (xck _) (by decide));rw[e]at h;obtain⟨HL,hHL,e⟩:=xfc hL;rw[e]at h;obtain⟨CL,hCL,e⟩:=xf6 hHC hHL;rw[e]at h;obtain⟨Z,hZ,e⟩:=xj6 hY2 hCA;rw[e]at h;obtain⟨V,hV,e⟩:=sub_is hW2 hCB;rw[e]at h;obtain⟨X,hX,e⟩:=xj6 hV hCL;rw[e]at h;have hZ2:eO Z (tZ S 0 0):=by
  have e2:tZ S 0 0=fun k=>(tY S 0 0 k+one ζ (tC S 0) (qS (cB sd 1 1) 2 0) k)%8380417:=by rw[<-hS];rfl
  rw[e2];exact hZ
 have hV2:eO V (tV S 0 0):=by
  have e2:tV S 0 0=fun k=>(tW S 0 0 k-one ζ (tC S 0) (qS (cB sd 1 1) 2 (1+0)) k)%8380417:=by rw[<-hS];rfl
  rw[e2];exact hV
 have hCL2:eO CL (gK S 0 0):=by
  have e2:gK S 0 0=one ζ (tC S 0) (pLo ζ sd 1 1 2 0):=by rw[<-hS];rfl
  rw[e2];exact hCL
 have hX2:eO X (fun k=>(tV S 0 0 k+gK S 0 0 k)%8380417):=by
  have e2:(fun k=>(tV S 0 0 k+gK S 0 0 k)%8380417)=fun k=>((tW S 0 0 k-one ζ (tC S 0) (qS (cB sd 1 1) 2 (1+0)) k)%8380417+one ζ (tC S 0) (pLo ζ sd 1 1 2 0) k)%8380417:=by rw[<-hS];rfl
  rw[e2];exact hX
 obtain⟨k1,h⟩:=xj7 256 h;obtain⟨k2,h⟩:=xj7 256 h;obtain⟨k3,h⟩:=xj7 256 h;have hf:∀ i,i<256->(fI S 0 0 i=0↔Nat.beq (hghN (lk X i)) (hghN (lk V i))=true):=by
  intro i hi;have e2:fI S 0 0 i=hn 95232 ((0-gK S 0 0 i)%8380417) ((tV S 0 0 i+gK S 0 0 i)%8380417):=by rw[<-hS];rfl
  have hv:=hV2 i hi;have hx:lk X i<8380417/\(tV S 0 0 i+gK S 0 0 i)%8380417=((lk X i:Nat):Int):=hX2 i hi;rw[e2,hn_is _ _ (by omega),hx.2,hv.2,(xim _ hx.1).2,(xim _ hv.1).2];constructor
  ·intro y;by_cases x:hghN (lk X i)=hghN (lk V i)
   ·rw[x];exact Nat.beq_refl _
   ·rw[iQ (by omega)]at y;cases y
  ·intro y;rw[iP (by rw[Nat.eq_of_beq_eq_true y])]
 rw[cnt_is _ _ _ 256 hf,kP]at h;have h60:=oI h;have g1:eW (tZ S 0) 1<131032:=xlt (by decide) (xkm _ _ (by decide) 256 fun i hi=>by
  rw[(hZ2 i hi).2];exact xrw (by decide) (hZ2 i hi).1 (k1 i hi))
 have g2:eW (tLo S 0) 1<95192:=xlt (by decide) (xkm _ _ (by decide) 256 fun i hi=>by
  have e2:tLo S 0 0 i=lw 95232 (tV S 0 0 i)%8380417:=by rw[<-hS];rfl
  rw[e2,(hV2 i hi).2];have:=low_is (by decide) (hV2 i hi).1 (k2 i hi);rw[xkn _ (by omega) (by omega)];omega)
 have g3:eW (gK S 0) 1<95232:=xlt (by decide) (xkm _ _ (by decide) 256 fun i hi=>by
  rw[(hCL2 i hi).2];exact xrw (by decide) (hCL2 i hi).1 (k3 i hi))
 have g4:dR (fI S 0) 1<=60:=by
  show 0+cnt (fI S 0 0) 256<=60;omega
 rw[hS];have e2:S.ln=1/\S.kn=1/\S.a=131072/\S.b=95232/\S.t=20/\S.e=2/\S.o=60:=by rw[<-hS];exact⟨rfl,rfl,rfl,rfl,rfl,rfl,rfl⟩
 unfold fX;rw[e2.1,e2.2.1,e2.2.2.1,e2.2.2.2.1,e2.2.2.2.2.1,e2.2.2.2.2.2.1,e2.2.2.2.2.2.2];rw[jP (show eW (tZ S 0) 1<131072-20*2 by omega),jP (show eW (tLo S 0) 1<95232-20*2 by omega),jP g3,jP (show ((dR (fI S 0) 1:Nat):Int)<=60 by omega)];rfl
end sigt
namespace kkey
open arr mem aT bE bS aW bA bL bY cG dQ bM bZ dJ dN rksb dG
theorem xes(b:ByteArray)(n:Nat)(h:b.size=n):b.extract 0 n=b:=by
 subst h;apply ByteArray.ext;simp
theorem xkz(a b:ByteArray)(n:Nat)(h:n<=a.size):(a++b).extract 0 n=a.extract 0 n:=by
 rw[mO,show n-a.size=0 by omega,xk1,nZ]
theorem xfu{w:G}{B m:Nat}{v:aE}{p q:Nat->Nat->Int}(h:Holds w B v m p)(e:∀ i,i<m->∀ k,k<256->p i k=q i k):Holds w B v m q:=by
 obtain⟨g,c,hv,h1,h2,h3⟩:=h;exact⟨g,c,hv,h1,h2,fun i hi k hk=>by rw[<-e i hi k hk];exact h3 i hi k hk⟩
section
variable (ζ : Nat->Int) (sd:ByteArray) (kn ln:Nat) (e:Int)
theorem pk_rho:(pPk ζ sd kn ln e).extract 0 32=cI sd kn ln:=by
 unfold pPk;rw[xfn _ _ _ _ _ (by rw[xbv];decide)];exact xes _ _ (xbv _ _ _)
theorem xwx(i:Nat)(hi:i<kn)(k:Nat)(hk:k<256):rdU (pPk ζ sd kn ln e) 32 10 i k=pHi ζ sd kn ln e i k:=by
 have h:=xmd (cI sd kn ln) (pHi ζ sd kn ln e) 1023 kn i (by decide) hi (xqa _ _ _ _ _ _) k hk;rw[xbv,xdf]at h;exact h
theorem xur:(dT ζ sd kn ln e).extract 0 32=cI sd kn ln:=by
 unfold dT;rw[xkz _ _ _ (by rw[jS,xbv,xe5];decide),xkz _ _ _ (by rw[xbv];decide)];exact xes _ _ (xbv _ _ _)
end
section
variable (kn ln:Nat) (e:Int) (h:ByteArray) (a b l:Nat->Nat->Int) (hh:h.size=128)
include hh
theorem xyy:(skB kn ln e h a b l).extract 0 128=h:=by
 unfold skB;rw[bN,xfn _ _ _ _ _ (by rw[xbd,xbd,hh];omega),bN,xfn _ _ _ _ _ (by rw[xbd,hh];omega),bN,xfn _ _ _ _ _ (by rw[hh];omega)];exact xes _ _ hh
theorem xrp(i:Nat)(hi:i<ln):rdU (skB kn ln e h a b l) 128 (lb (e+e).toNat) i=rdU (bN h a e e ln) 128 (lb (e+e).toNat) i:=by
 have s1:=xbd h a e e ln;have s2:=xbd (bN h a e e ln) b e e kn;unfold skB;generalize bN h a e e ln=L1 at s1 s2 ⊢;generalize hL2:bN L1 b e e kn=L2 at s2 ⊢;rw[bN,xjj L2 _ kn 128 _ i ln hi (by omega),<-hL2,bN,xjj L1 _ kn 128 _ i ln hi (by omega)]
theorem xrq(i:Nat)(hi:i<kn):rdU (skB kn ln e h a b l) (128+32*lb (e+e).toNat*ln) (lb (e+e).toNat) i=rdU (bN (bN h a e e ln) b e e kn) (128+32*lb (e+e).toNat*ln) (lb (e+e).toNat) i:=by
 have s1:=xbd h a e e ln;have s2:=xbd (bN h a e e ln) b e e kn;unfold skB;generalize bN h a e e ln=L1 at s1 s2 ⊢;generalize bN L1 b e e kn=L2 at s2 ⊢;rw[bN,xjj L2 _ kn _ _ i kn hi (by omega)]
variable (he:e=2\/e=4) (ha:∀ i,i<ln->ins (a i) e e) (hb:∀ i,i<kn->ins (b i) e e) (hl:∀ i,i<kn->ins (l i) 4095 4096)
include he ha hb hl
theorem xfa:okK (skB kn ln e h a b l) kn ln e:=by
 refine⟨fun i hi=>?_,fun i hi=>?_,?_⟩
 ·rw[xrp kn ln e h a b l hh i hi,<-hh];exact xly h a e e ln (by omega) ha i hi
 ·rw[xrq kn ln e h a b l hh i hi,<-hh,<-xbd h a e e ln];exact xly (bN h a e e ln) b e e kn (by omega) hb i hi
 ·have h5:=xly (bN (bN h a e e ln) b e e kn) l 4095 4096 kn (by decide) hl;rw[xbd,xbd,hh,xg2]at h5;exact h5
variable (ra:∀ i k,0<=a i k/\a i k<8380417) (rb:∀ i k,0<=b i k/\b i k<8380417) (rl:∀ i k,0<=l i k/\l i k<8380417)
include ra rb rl
theorem xyz:(∀ i,i<ln->∀ k,k<256->iB (skB kn ln e h a b l) 128 (lb (e+e).toNat) e i k=a i k)
 /\ (∀ i,i<kn->∀ k,k<256->iB (skB kn ln e h a b l) (128+32*lb (e+e).toNat*ln) (lb (e+e).toNat) e i k=b i k)
 /\ (∀ i,i<kn->∀ k,k<256->iB (skB kn ln e h a b l) (128+32*lb (e+e).toNat*ln+32*lb (e+e).toNat*kn) 13 4096 i k=l i k):=by
 refine⟨fun i hi k hk=>?_,fun i hi k hk=>?_,fun i hi k hk=>?_⟩
 ·have h5:=xji h a e e ln i (by omega) hi (ha i hi) (fun k=>ra i k) k hk;rw[hh]at h5;rw[iB,xrp kn ln e h a b l hh i hi];exact h5
 ·have h5:=xji (bN h a e e ln) b e e kn i (by omega) hi (hb i hi) (fun k=>rb i k) k hk;rw[xbd,hh]at h5;rw[iB,xrq kn ln e h a b l hh i hi];exact h5
 ·have h5:=xji (bN (bN h a e e ln) b e e kn) l 4095 4096 kn i (by decide) hi (hl i hi) (fun k=>rl i k) k hk;rw[xbd,xbd,hh,xg2]at h5;exact h5
end
end kkey
end Go.Proofs.YtomphjajkkddkaaGreatDoor
