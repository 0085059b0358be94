/-
  Plain facts on the encoding of numbers and strings as bytes (layer 1): no program is named here. Con
-/
import Derived.Lib.BitFns
import Derived.Below
import Derived.WalkKit
import Derived.WalkSpells
import Derived.WalkLawsBesides
import Derived.Lib.Hide
import Derived.IntWalk
import Derived.Laws.MathBits
import Derived.Laws.BitsAllLaws
import Derived.Deep.WholeRow
import Derived.Deep.MidRow
import Derived.Deep.QuietTactic
import Derived.BigQuiet
import Derived.Lib.QuietBelow
import Derived.Laws.Bits64
import Derived.Laws.BitsLemmas
import Derived.Lib.UnsafeStr
import GoSem.Op.Shift
import Derived.StillTailTactics
import Derived.Lib.Tables
set_option maxRecDepth 100000
set_option maxHeartbeats 16000000
namespace Go.Proofs.YtomphjajkkddkaaGreatDoor
namespace oct
open Go
def byteAt (n j:Nat):UInt8:=UInt8.ofNat (n / 256 ^ j)
def fixL (n:Nat):Nat→List UInt8
 | 0=>[]
 | w+1=>byteAt n w :: fixL n w
def wo (l:List UInt8):Nat:=l.foldl (fun a b=>a*256+b.toNat) 0
def woU (l:List UInt8):Nat:=wo l%18446744073709551616
def wd (n:Nat):Nat:=
 if n=0 then 0 else if n<256 then 1 else if n<65536 then 2 else if n<16777216 then 3 else if n<4294967296 then 4
 else if n<1099511627776 then 5 else if n<281474976710656 then 6 else 7
def intL (n:Int):List UInt8 × Int:=
 if n<0∨1125899906842624<n then ([],6) else (UInt8.ofNat (wd n.toNat) :: fixL n.toNat (wd n.toNat),0)
def textL (t:List UInt8) (most:Int):List UInt8 × Int:=
 if most<t.length then ([],5) else if (intL t.length).2=0 then ((intL t.length).1++t,0) else ([],(intL t.length).2)
def fixS (n:Nat) (width:Int):List UInt8:=if width<1∨50000<width then [] else fixL n width.toNat
def rdInt (l:List UInt8) (p:Int):Int × Int × Int:=
 if p<0∨(l.length:Int)<p then (0,0,1)
 else if p=l.length then (0,0,2)
 else if 7<(l[p.toNat]?.getD 0).toNat then (0,0,3)
 else if (l.length:Int)-(p+1)<(l[p.toNat]?.getD 0).toNat then (0,0,2)
 else if 0<(l[p.toNat]?.getD 0).toNat∧(l[p.toNat+1]?.getD 0).toNat=0 then (0,0,3)
 else if 1125899906842624<wo ((l.drop (p.toNat+1)).take (l[p.toNat]?.getD 0).toNat) then (0,0,3)
 else ((wo ((l.drop (p.toNat+1)).take (l[p.toNat]?.getD 0).toNat):Int),p+1+(l[p.toNat]?.getD 0).toNat,0)
def rdText (l:List UInt8) (p most:Int):List UInt8 × Int × Int:=
 if (rdInt l p).2.2=0 then
  if most<(rdInt l p).1 then ([],0,5)
  else if (l.length:Int)-(rdInt l p).2.1<(rdInt l p).1 then ([],0,2)
  else ((l.drop (rdInt l p).2.1.toNat).take (rdInt l p).1.toNat,(rdInt l p).2.1+(rdInt l p).1,0)
 else ([],0,(rdInt l p).2.2)
section
variable (l:List UInt8) (q c:Nat) (hq:q<l.length) (hc:(l[q]?.getD 0).toNat=c)
include hq hc
end
end oct
namespace tabd
def val:List Nat→Nat
 | []=>0
 | d :: ds=>d+4294967296*val ds
def dg:Nat→Nat→List Nat
 | 0,_=>[]
 | n+1,v=>v%4294967296 :: dg n (v / 4294967296)
def bp (k:Nat):Nat:=4294967296 ^ k
theorem bp_zero:bp 0=1:=rfl
theorem bp_succ (k:Nat):bp (k+1)=4294967296*bp k:=by unfold bp;rw[Nat.pow_succ,Nat.mul_comm]
theorem bp_add (i j:Nat):bp (i+j)=bp i*bp j:=by unfold bp;rw[Nat.pow_add]
def Small (ds:List Nat):Prop:=∀ d∈ds,d<4294967296
theorem dg_length (n:Nat):∀ v,(dg n v).length=n:=by
 induction n with
 | zero=>intro v;rfl
 | succ n ih=>intro v;simp[dg,ih]
theorem dg_small (n:Nat):∀ v,Small (dg n v):=by
 induction n with
 | zero=>intro v d hd;simp[dg]at hd
 | succ n ih=>
  intro v d hd
  simp only[dg,List.mem_cons]at hd
  rcases hd with rfl | hd
  ·omega
  ·exact ih _ d hd
theorem val_dg (n:Nat):∀ v,val (dg n v)=v%bp n:=by
 induction n with
 | zero=>intro v;simp[dg,val,bp_zero,Nat.mod_one]
 | succ n ih=>
  intro v
  rw[dg,val,ih,bp_succ,Nat.mod_mul]
theorem dg_val (ds:List Nat) (h:Small ds):dg ds.length (val ds)=ds:=by
 induction ds with
 | nil=>rfl
 | cons d ds ih=>
  have h1:d<4294967296:=h d (by simp)
  have h2:Small ds:=fun x hx=>h x (by simp[hx])
  rw[List.length_cons,dg,val,Nat.add_mul_mod_self_left,Nat.mod_eq_of_lt h1,Nat.add_mul_div_left _ _ (by decide),Nat.div_eq_of_lt h1,Nat.zero_add,ih h2]
theorem dg_mod (n v:Nat):dg n (v%bp n)=dg n v:=by
 rw[←val_dg]
 have:=dg_val (dg n v) (dg_small n v)
 rwa [dg_length]at this
theorem val_lt (ds:List Nat) (h:Small ds):val ds<bp ds.length:=by
 induction ds with
 | nil=>simp[val,bp_zero]
 | cons d ds ih=>
  have h1:d<4294967296:=h d (by simp)
  have h2:=ih (fun x hx=>h x (by simp[hx]))
  rw[List.length_cons,bp_succ,val]
  have:=Nat.mul_le_mul_left 4294967296 (Nat.succ_le_of_lt h2)
  rw[Nat.mul_succ]at this
  omega
theorem small_set {ds:List Nat} (h:Small ds) (k:Nat) {x:Nat} (hx:x<4294967296):Small (ds.set k x):=by
 intro d hd
 rcases List.mem_or_eq_of_mem_set hd with h1 | h1
 ·exact h d h1
 ·omega
theorem val_set (ds:List Nat):∀ (k x:Nat),k<ds.length→val (ds.set k x)+ds.getD k 0*bp k=val ds+x*bp k:=by
 induction ds with
 | nil=>intro k x h;simp at h
 | cons d ds ih=>
  intro k x h
  cases k with
  | zero=>simp[val,bp_zero];omega
  | succ k=>
   have:=ih k x (by simpa using h)
   simp only[List.set_cons_succ,val,List.getD_cons_succ,bp_succ]
   have e1:ds.getD k 0*(4294967296*bp k)=4294967296*(ds.getD k 0*bp k):=by rw[Nat.mul_left_comm]
   have e2:x*(4294967296*bp k)=4294967296*(x*bp k):=by rw[Nat.mul_left_comm]
   rw[e1,e2]
   omega
theorem val_take_succ (ds:List Nat):∀ k,k<ds.length→val (ds.take (k+1))=val (ds.take k)+ds.getD k 0*bp k:=by
 induction ds with
 | nil=>intro k h;simp at h
 | cons d ds ih=>
  intro k h
  cases k with
  | zero=>simp[val,bp_zero]
  | succ k=>
   have:=ih k (by simpa using h)
   simp only[List.take_succ_cons,val,List.getD_cons_succ,bp_succ]
   rw[this]
   have e1:ds.getD k 0*(4294967296*bp k)=4294967296*(ds.getD k 0*bp k):=by rw[Nat.mul_left_comm]
   rw[e1]
   omega
theorem val_split (ds:List Nat):∀ k,k≤ds.length→val ds=val (ds.take k)+bp k*val (ds.drop k):=by
 induction ds with
 | nil=>intro k h;simp at h;subst h;simp[val]
 | cons d ds ih=>
  intro k h
  cases k with
  | zero=>simp[val,bp_zero]
  | succ k=>
   have:=ih k (by simpa using h)
   simp only[List.take_succ_cons,List.drop_succ_cons,val,bp_succ]
   rw[this,Nat.mul_add,Nat.mul_assoc]
   omega
theorem getD_small {ds:List Nat} (h:Small ds) (k:Nat):ds.getD k 0<4294967296:=by
 rw[List.getD_eq_getElem?_getD]
 by_cases hk:k<ds.length
 ·rw[List.getElem?_eq_getElem hk];exact h _ (List.getElem_mem hk)
 ·rw[List.getElem?_eq_none (by omega)];decide
def Mid (vs:List Nat) (N x i j:Nat) (ds:List Nat) (c:Nat):Prop:=
 ds.length=8∧Small ds∧c<4294967296∧val ds+c*bp (i+j)=N+x*bp i*val (vs.take j)
theorem mid_start (vs ds:List Nat) (x i:Nat) (h:ds.length=8) (hs:Small ds):Mid vs (val ds) x i 0 ds 0:=by
 refine⟨h,hs,by decide,?_⟩
 simp[val]
theorem mid_step {vs:List Nat} {N x i j:Nat} {ds:List Nat} {c:Nat} (h:Mid vs N x i j ds c) (hx:x<4294967296) (hvs:Small vs) (hl:j<vs.length) (hij:i+j<8):
 Mid vs N x i (j+1) (ds.set (i+j) ((x*vs.getD j 0+ds.getD (i+j) 0+c)%4294967296)) ((x*vs.getD j 0+ds.getD (i+j) 0+c) / 4294967296):=by
 obtain⟨h1,h2,h3,h4⟩:=h
 have hv:=getD_small hvs j
 have hd:=getD_small h2 (i+j)
 have hp:x*vs.getD j 0≤4294967295*4294967295:=Nat.mul_le_mul (by omega) (by omega)
 refine⟨by simpa using h1,small_set h2 _ (Nat.mod_lt _ (by decide)),by omega,?_⟩
 rw[val_take_succ vs j hl,Nat.mul_add]
 have hs:=val_set ds (i+j) ((x*vs.getD j 0+ds.getD (i+j) 0+c)%4294967296) (by omega)
 generalize hd':ds.getD (i+j) 0=d at *
 generalize hv':vs.getD j 0=v at *
 generalize hq:x*v+d+c=q at *
 rw[show i+(j+1)=(i+j)+1 from rfl,bp_succ]
 have e1:x*bp i*(v*bp j)=x*v*bp (i+j):=by
  rw[bp_add,Nat.mul_assoc,Nat.mul_assoc,Nat.mul_left_comm (bp i)]
 rw[e1]
 have e2:q / 4294967296*(4294967296*bp (i+j))+q%4294967296*bp (i+j)=(x*v)*bp (i+j)+d*bp (i+j)+c*bp (i+j):=by
  rw[←Nat.mul_assoc,←Nat.add_mul,Nat.mul_comm (q / 4294967296),Nat.div_add_mod,←hq,Nat.add_mul,Nat.add_mul]
 omega
theorem mid_bd {vs ds:List Nat} {x c j k:Nat} (hx:x<4294967296) (hvs:Small vs) (hds:Small ds) (hc:c<4294967296):
 x*vs.getD j 0≤18446744065119617025∧x*vs.getD j 0+ds.getD k 0≤18446744069414584320∧x*vs.getD j 0+ds.getD k 0+c≤18446744073709551615:=by
 have hv:=getD_small hvs j
 have hd:=getD_small hds k
 have hp:x*vs.getD j 0≤4294967295*4294967295:=Nat.mul_le_mul (by omega) (by omega)
 omega
def Top (us vs:List Nat) (i:Nat) (ds:List Nat):Prop:=ds.length=8∧Small ds∧val ds=val (us.take i)*val vs%bp 8
theorem top_start (us vs:List Nat):Top us vs 0 (List.replicate 8 0):=⟨rfl,by intro d hd;simp at hd;omega,by simp[val]⟩
theorem top_step {us vs ds':List Nat} {N i c:Nat} (hN:N=val (us.take i)*val vs%bp 8) (hu:i<us.length) (hi:i≤8) (hvl:vs.length=8) (h:Mid vs N (us.getD i 0) i (8-i) ds' c):Top us vs (i+1) ds':=by
 obtain⟨h1,h2,h3,h4⟩:=h
 refine⟨h1,h2,?_⟩
 have hlt:=val_lt ds' h2
 rw[h1]at hlt
 rw[show i+(8-i)=8 by omega]at h4
 rw[val_take_succ us i hu,Nat.add_mul]
 have hs:=val_split vs (8-i) (by omega)
 have e:us.getD i 0*bp i*val vs=us.getD i 0*bp i*val (vs.take (8-i))+bp 8*(us.getD i 0*val (vs.drop (8-i))):=by
  rw[hs,Nat.mul_add]
  congr 1
  rw[show bp 8=bp i*bp (8-i) by rw[←bp_add];congr 1;omega]
  simp only[Nat.mul_assoc,Nat.mul_left_comm]
 rw[e,←Nat.add_assoc,Nat.add_mul_mod_self_left,Nat.add_mod,←hN,Nat.add_mod_mod,←h4,Nat.mul_comm c,Nat.add_mul_mod_self_left,Nat.mod_eq_of_lt hlt]
theorem top_end {us vs ds:List Nat} (hu:us.length=8) (h:Top us vs 8 ds):ds=dg 8 (val us*val vs):=by
 obtain⟨h1,h2,h3⟩:=h
 rw[List.take_of_length_le (by omega)]at h3
 rw[←dg_mod,←h3,←h1]
 exact(dg_val ds h2).symm
def Same (a b:List Nat) (k:Nat):Prop:=a.drop k=b.drop k
theorem same_step {a b:List Nat} {k:Nat} (h:Same a b (k+1)) (ha:k<a.length) (hb:k<b.length) (he:a.getD k 0=b.getD k 0):Same a b k:=by
 unfold Same at *
 rw[List.drop_eq_getElem_cons ha,List.drop_eq_getElem_cons hb,h]
 simp only[List.getD_eq_getElem?_getD,List.getElem?_eq_getElem ha,List.getElem?_eq_getElem hb,Option.getD_some]at he
 rw[he]
theorem same_lt {a b:List Nat} {k:Nat} (h:Same a b (k+1)) (ha:k<a.length) (hb:k<b.length) (sa:Small a) (hl:a.getD k 0<b.getD k 0):val a<val b:=by
 rw[val_split a (k+1) (by omega),val_split b (k+1) (by omega),h,val_take_succ a k ha,val_take_succ b k hb]
 have h1:=val_lt (a.take k) (fun d hd=>sa d (List.mem_of_mem_take hd))
 rw[List.length_take,Nat.min_eq_left (by omega)]at h1
 have h2:=Nat.mul_le_mul_right (bp k) (Nat.succ_le_of_lt hl)
 rw[Nat.succ_mul]at h2
 omega
theorem same_zero {a b:List Nat} (h:Same a b 0):val a=val b:=by unfold Same at h;simpa using congrArg val h
def rt (s X k:Nat):Nat→Nat
 | 0=>0
 | n+1=>if (rt s X k n+2 ^ (s-1-n)) ^ k≤X then rt s X k n+2 ^ (s-1-n) else rt s X k n
theorem rt_spec (s X k:Nat) (hk:k≠0) (hX:X<(2 ^ s) ^ k):∀ n,n≤s→2 ^ (s-n) ∣ rt s X k n∧rt s X k n+2 ^ (s-n)≤2 ^ s∧rt s X k n ^ k≤X∧X<(rt s X k n+2 ^ (s-n)) ^ k:=by
 intro n
 induction n with
 | zero=>intro _;refine⟨⟨0,rfl⟩,?_,?_,?_⟩<;>simp[rt,hX,Nat.zero_pow (Nat.pos_of_ne_zero hk)]
 | succ n ih=>
  intro hn
  obtain⟨h1,h2,h3,h4⟩:=ih (by omega)
  have e1:s-n=s-1-n+1:=by omega
  have e2:s-(n+1)=s-1-n:=by omega
  rw[e1,Nat.pow_succ]at h1 h2 h4
  rw[e2,rt]
  have hd : 2 ^ (s-1-n) ∣ rt s X k n:=Nat.dvd_trans ⟨2,rfl⟩ h1
  split
  ·rename_i hc
   refine⟨Nat.dvd_add hd (Nat.dvd_refl _),by omega,hc,?_⟩
   rw[Nat.add_assoc,←Nat.mul_two];exact h4
  ·rename_i hc
   exact⟨hd,by omega,h3,by omega⟩
def rootN (p k:Nat):Nat:=rt 69 (p*bp (2*k)) k 69
theorem root_bd (p k s:Nat) (hp:p≤1000) (hk:k=2∨k=3) (hs : 69≤s):p*bp (2*k)<(2 ^ s) ^ k:=by
 have h1:p*bp (2*k)<(2 ^ 69) ^ k:=by
  have h0:p*bp (2*k)≤1000*bp (2*k):=Nat.mul_le_mul_right _ hp
  rcases hk with rfl | rfl
  ·exact Nat.lt_of_le_of_lt h0 (by decide)
  ·exact Nat.lt_of_le_of_lt h0 (by decide)
 exact Nat.lt_of_lt_of_le h1 (Nat.pow_le_pow_left (Nat.pow_le_pow_right (by decide) hs) k)
theorem getD_dg (n:Nat):∀ v k,k<n→(dg n v).getD k 0=v / bp k%4294967296:=by
 induction n with
 | zero=>intro v k h;omega
 | succ n ih=>
  intro v k h
  cases k with
  | zero=>simp[dg,bp_zero]
  | succ k=>
   rw[dg,List.getD_cons_succ,ih _ _ (by omega),bp_succ,Nat.div_div_eq_div_mul]
theorem bp_pow (k:Nat):bp k=2 ^ (32*k):=by
 unfold bp;rw[Nat.pow_mul]
theorem dg_bit (y b:Nat) (hb:b<256) (hy : 2 ^ (b+1) ∣ y) (hlt:y+2 ^ b<bp 8):
 (dg 8 y).set (b / 32) ((dg 8 y).getD (b / 32) 0 ||| 2 ^ (b%32))=dg 8 (y+2 ^ b)∧(dg 8 y).getD (b / 32) 0 ||| 2 ^ (b%32)<4294967296:=by
 have hq:b / 32<8:=by omega
 have hd:=getD_dg 8 y (b / 32) hq
 have hdl:=getD_small (dg_small 8 y) (b / 32)
 have hdv:(dg 8 y).getD (b / 32) 0%2 ^ (b%32+1)=0:=by
  obtain⟨t,rfl⟩:=hy
  rw[hd,bp_pow,show b+1=32*(b / 32)+(b%32+1) by omega,Nat.pow_add,Nat.mul_assoc,Nat.mul_div_cancel_left _ (Nat.two_pow_pos _)]
  rw[show (4294967296:Nat)=2 ^ (b%32+1)*2 ^ (32-(b%32+1)) by rw[←Nat.pow_add,show b%32+1+(32-(b%32+1))=32 by omega]]
  rw[Nat.mod_mul_right_mod,Nat.mul_mod_right]
 have hor:(dg 8 y).getD (b / 32) 0 ||| 2 ^ (b%32)=(dg 8 y).getD (b / 32) 0+2 ^ (b%32):=by
  have hp : 2 ^ (b%32)<2 ^ (b%32+1):=Nat.pow_lt_pow_right (by decide) (by omega)
  obtain⟨c,hc⟩:=Nat.dvd_of_mod_eq_zero hdv
  have h:=Nat.shiftLeft_add_eq_or_of_lt (i:=b%32+1) (b:=2 ^ (b%32)) hp c
  rw[Nat.shiftLeft_eq]at h
  rw[hc,Nat.mul_comm]
  exact h.symm
 have hol:(dg 8 y).getD (b / 32) 0 ||| 2 ^ (b%32)<4294967296:=by
  have:(2:Nat) ^ (b%32)<2 ^ 32:=Nat.pow_lt_pow_right (by decide) (by omega)
  exact Nat.or_lt_two_pow (n:=32) (by simpa using hdl) this
 refine⟨?_,hol⟩
 have hv:=val_set (dg 8 y) (b / 32) ((dg 8 y).getD (b / 32) 0 ||| 2 ^ (b%32)) (by rw[dg_length];exact hq)
 have hv2:val ((dg 8 y).set (b / 32) ((dg 8 y).getD (b / 32) 0 ||| 2 ^ (b%32)))=y+2 ^ b:=by
  have e3 : 2 ^ (b%32)*bp (b / 32)=2 ^ b:=by rw[bp_pow,←Nat.pow_add];congr 1;omega
  have e4:val (dg 8 y)=y:=by rw[val_dg];exact Nat.mod_eq_of_lt (by omega)
  rw[e4]at hv
  rw[show ((dg 8 y).getD (b / 32) 0 ||| 2 ^ (b%32))*bp (b / 32)=(dg 8 y).getD (b / 32) 0*bp (b / 32)+2 ^ b by rw[hor,Nat.add_mul,e3]]at hv
  omega
 have hs:=dg_val _ (small_set (dg_small 8 y) (b / 32) hol)
 rw[List.length_set,dg_length,hv2]at hs
 exact hs.symm
def top (p k:Nat):List Nat:=if k=2 then [0,0,0,0,p,0,0,0] else [0,0,0,0,0,0,p,0]
theorem top_length (p k:Nat):(top p k).length=8:=by unfold top;split<;>rfl
theorem top_small (p k:Nat) (hp:p≤1000):Small (top p k):=by
 unfold top
 split<;>(intro d hd;simp at hd;omega)
theorem val_top (p k:Nat) (hk:k=2∨k=3):val (top p k)=p*bp (2*k):=by
 rcases hk with rfl | rfl<;>(simp[top,val,bp];omega)
theorem rt_round {s p k n y:Nat} (hk:k=2∨k=3) (hp:p≤1000) (hs : 69≤s) (hs2:s≤70) (hn:n<s) (hy:rt s (p*bp (2*k)) k n=y):
 2 ^ (s-1-n+1) ∣ y∧y+2 ^ (s-1-n)<bp 8∧val (dg 8 (y+2 ^ (s-1-n)))=y+2 ^ (s-1-n) ∧
 val (dg 8 ((y+2 ^ (s-1-n)) ^ k))=(y+2 ^ (s-1-n)) ^ k ∧
 rt s (p*bp (2*k)) k (n+1)=if (y+2 ^ (s-1-n)) ^ k≤p*bp (2*k) then y+2 ^ (s-1-n) else y:=by
 obtain⟨h1,h2,-,-⟩:=rt_spec s (p*bp (2*k)) k (by omega) (root_bd p k s hp hk hs) n (by omega)
 rw[hy]at h1 h2
 have e1:s-n=s-1-n+1:=by omega
 rw[e1]at h1 h2
 rw[Nat.pow_succ]at h2
 have h3:(2:Nat) ^ s≤2 ^ 70:=Nat.pow_le_pow_right (by decide) hs2
 have hb:(2:Nat) ^ 70<bp 8:=by decide
 have hlt:y+2 ^ (s-1-n)≤2 ^ 70:=by omega
 have hpow:(y+2 ^ (s-1-n)) ^ k<bp 8:=by
  refine Nat.lt_of_le_of_lt (Nat.pow_le_pow_left hlt k) ?_
  rcases hk with rfl | rfl<;>decide
 refine⟨h1,by omega,by rw[val_dg];exact Nat.mod_eq_of_lt (by omega),by rw[val_dg];exact Nat.mod_eq_of_lt hpow,?_⟩
 rw[rt,hy]
theorem low_parts (y:Nat):(dg 8 y).getD 1 0*4294967296+(dg 8 y).getD 0 0=y%18446744073709551616:=by
 rw[getD_dg 8 y 1 (by decide),getD_dg 8 y 0 (by decide)]
 simp only[bp,Nat.pow_one,Nat.pow_zero,Nat.div_one]
 omega
end tabd
namespace arr
open Go Go.RowKit
def LK (k:IntKind) (ds:List Nat):Array Value:=(ds.map fun d:Nat=>Value.int k (d:Int)).toArray
theorem lk_get (k:IntKind) (ds:List Nat) (i:Nat) (h:i<ds.length):(LK k ds)[i]? = some (.int k (ds.getD i 0:Nat)):=by
 simp[LK,List.getD_eq_getElem?_getD,List.getElem?_eq_getElem h]
theorem lk_set (k:IntKind) (ds:List Nat) (i x:Nat):(LK k ds).setIfInBounds i (.int k (x:Int))=LK k (ds.set i x):=by
 simp[LK,List.map_set]
theorem lk_setI (k:IntKind) (ds:List Nat) (i x:Nat) (v:Int) (h:v=(x:Int)):(LK k ds).setIfInBounds i (.int k v)=LK k (ds.set i x):=by
 subst h;exact lk_set k ds i x
theorem lk_size (k:IntKind) (ds:List Nat):(LK k ds).size=ds.length:=by simp[LK]
theorem lk_one (k:IntKind) (ds:List Nat):(LK k ds).all (·.oneCell')=true:=by
 rw[Array.all_eq_true_iff_forall_mem]
 intro v hv
 simp only[LK,List.mem_toArray,List.mem_map]at hv
 obtain⟨d,-,rfl⟩:=hv
 rfl
@[go_sem] theorem setCell_drewN (w:World) (n:Nat) (a:Addr) (v:Value):(w.drewN n).setCell a v=(w.setCell a v).drewN n:=rfl
@[go_sem] theorem alloc_drewN (w:World) (n:Nat) (o:Obj):(w.drewN n).alloc o=(w.alloc o).drewN n:=rfl
theorem ret_int {k:IntKind} {a b:Int} (h:a=b):Ending.returned (.int k a)=.returned (.int k b):=by rw[h]
theorem ret_b {a b:Bool} (h:a=b):Ending.returned (.bool a)=.returned (.bool b):=by rw[h]
theorem val_int {k:IntKind} {a b:Int} (h:a=b):Value.int k a=.int k b:=by rw[h]
theorem heap_drewN' (w:World) (n g:Nat):(w.drewN n).heap[g]? = w.heap[g]? := rfl
theorem heap_at (w:World) (o:Obj) (g:Nat) (h:g=w.heap.size):(w.alloc o).heap[g]? = some o:=by subst h;exact heap_alloc_last w o
theorem heap_past (w:World) (o:Obj) (g:Nat) (h:g<w.heap.size):(w.alloc o).heap[g]? = w.heap[g]? := Below.heap_alloc w o g h
theorem size_alloc (w:World) (o:Obj):(w.alloc o).heap.size=w.heap.size+1:=by
 show (w.heap.push o).size=_
 simp
theorem cell_at {w:World} {g i:Nat} {C:Array Value} {t:TypeId} {v:Value} (h:w.heap[g]? = some (.cells C t (0,0))) (hv:C[i]? = some v):w.cell? ⟨g,i,none⟩=some v:=by
 rw[cell_of_row w g i C t (0,0) h,hv]
theorem below_setRow {B:Nat} (w:World) (g:Nat) (cs:Array Value) (h:B≤g):Below B w (w.setRow g cs):=
 ⟨rfl,rfl,rfl,by simp,fun k hk=>setRow_other w g k cs (by omega)⟩
theorem wpList_store_new {P:Program} {ops:Array Oper} {Q:Exit→Act→World→Prop} {rest:List Oper} {o:Oper} {a:Act} {w0:World} {old:Array Value} {t:TypeId} (hgd:o.guard=none) (ty:TypeId) (x y:Operand) (ho:o.op=.store ty x y)
 (cells:Array Value) (hx:a.eval x=.pointer (some ⟨w0.heap.size,0,none⟩)) (hy:a.eval y=.agg cells) (hi:(P.info? ty).map (·.size)=some cells.size) (hold:old.size=cells.size) (h1:cells.all (·.oneCell')=true) (hn:o.dst=none)
 (h:wpList P ops Q rest a (w0.alloc (.cells cells t))):wpList P ops Q (o :: rest) a (w0.alloc (.cells old t)):=
 wpList_store_row hgd ty x y ho w0.heap.size cells hx hy t old (heap_at _ _ _ rfl) hi hold h1 (by rw[World.setRow_alloc_new,hn];exact h)
theorem wpQuiet_load {P:Program} {ops:Array Oper} {C:World→Prop} {Q:Act→Prop} {rest:List Oper} {o:Oper} {a:Act} (hw:Region.wanted o (yielded ops a.tmps)=true) (ty:TypeId) (x:Operand) (ho:o.op=.load ty x)
 (g:Nat) (hx:a.eval x=.pointer (some ⟨g,0,none⟩)) (t:TypeId) (cs:Array Value) (d:TypeDesc) (hS:∀ w,C w→w.heap[g]? = some (.cells cs t (0,0)))
 (hu:P.underlying ty=some d) (hd:(match d with | .struct _ | .array _ _=>true | _=>false)=true) (hi:(P.info? ty).map (·.size)=some cs.size)
 (h:wpQuiet P ops C Q rest (a.put o.dst (.agg cs))):wpQuiet P ops C Q (o :: rest) a:=by
 refine wpQuiet_step fun K hK=>?_
 rw[if_pos hw]
 refine⟨.agg cs,fun w hC=>?_,hK _ h⟩
 unfold Oper.quietAt execOp
 simp only[ho,hx,Instr.loadAt,Instr.sureAddr,Sem.run_bind,Sem.run_pure,Result.andThen_ok,run_loadVar_row w g t ty cs (0,0) d (hS w hC) hu hd hi]
 exact⟨rfl,rfl⟩
theorem heap_regrown {w w':World} {g:Nat} {o:Obj} (h:w.heap[g]? = some o) (hC:∃ p:Regrown,w'=Sort.grow (redrawn w p.d) p.os):w'.heap[g]? = some o:=by
 obtain⟨p,rfl⟩:=hC
 have hg:g<w.heap.size:=by
  by_cases hlt:g<w.heap.size
  ·exact hlt
  ·rw[Array.getElem?_eq_none (by omega)]at h;cases h
 rw[(below_regrown w p.d p.os).block g hg,h]
structure Away (p:Prop):Prop where
 out:p
theorem ex_eq {α : Type} (a : α):∃ c,Away (a=c):=⟨a,⟨rfl⟩⟩
theorem pow_cast (r m:Nat) (h:(2:Nat) ^ r<m):((2:Int) ^ r)%(m:Int)=((2 ^ r:Nat):Int):=by
 have e:(2:Int) ^ r=((2 ^ r:Nat):Int):=by norm_cast
 rw[e,Int.emod_eq_of_lt (Int.natCast_nonneg _) (Int.ofNat_lt.2 h)]
theorem or_bit32 (d r:Nat) (hd:d<4294967296) (hr:r<32):bits .or .u32 (d:Int) (2 ^ r%4294967296)=((d ||| 2 ^ r:Nat):Int):=by
 have h:(2:Nat) ^ r<4294967296:=by
  have:=Nat.pow_lt_pow_right (a:=2) (by decide) hr
  simpa using this
 rw[←u32_or_nat d (2 ^ r) hd h]
 exact congrArg _ (pow_cast r 4294967296 h)
theorem cast_pz (x y z c:Nat):(x:Int)*(y:Int)+(z:Int)+(c:Int)=((x*y+z+c:Nat):Int):=by
 rw[Int.natCast_add,Int.natCast_add,Int.natCast_mul]
theorem cast_mod (x y z c:Nat):((x:Int)*(y:Int)+(z:Int)+(c:Int))%4294967296=(((x*y+z+c)%4294967296:Nat):Int):=by
 rw[cast_pz,Int.natCast_emod];rfl
theorem cast_div (x y z c:Nat):((x:Int)*(y:Int)+(z:Int)+(c:Int)) / 4294967296=(((x*y+z+c) / 4294967296:Nat):Int):=by
 rw[cast_pz,Int.natCast_ediv];rfl
end arr
namespace mem
open Go Go.RowKit
open arr
theorem drewn_below (B:Nat) (w:World) (n:Nat):Below B w (w.drewN n):=⟨rfl,rfl,rfl,Nat.le_refl _,fun _ _=>rfl⟩
theorem below_alloc (w:World) (o:Obj):Below w.heap.size w (w.alloc o):=(Below.refl _ _).alloc (Nat.le_refl _) _
theorem size_setCell (w:World) (a:Addr) (v:Value):(w.setCell a v).heap.size=w.heap.size:=by simp[World.setCell]
theorem size_setCells (b:Nat):∀ (vs:List Value) (o:Nat) (w:World),(w.setCells b o vs).heap.size=w.heap.size
 | [],_,_=>rfl
 | v :: r,o,w=>by rw[World.setCells,size_setCells b r,size_setCell]
def sp (C:Array Value):Nat→List Value→Array Value
 | _,[]=>C
 | o,v :: r=>sp (C.setIfInBounds o v) (o+1) r
theorem heap_setCell {w:World} {g:Nat} {C:Array Value} {t:TypeId} {fr:Nat × Nat} (h:w.heap[g]? = some (.cells C t fr)) (o:Nat) (v:Value):(w.setCell ⟨g,o,none⟩ v).heap[g]? = some (.cells (C.setIfInBounds o v) t fr):=by
 simp only[World.setCell,Array.getElem?_modify,h]
 simp
theorem heap_setCells {g:Nat} {t:TypeId} {fr:Nat × Nat}:∀ (vs:List Value) (o:Nat) {w:World} {C:Array Value},w.heap[g]? = some (.cells C t fr)→(w.setCells g o vs).heap[g]? = some (.cells (sp C o vs) t fr)
 | [],_,_,_,h=>h
 | v :: r,o,_,_,h=>heap_setCells r (o+1) (heap_setCell h o v)
theorem heap_setCells_other (g k:Nat) (hk:k≠g):∀ (vs:List Value) (o:Nat) (w:World),(w.setCells g o vs).heap[k]? = w.heap[k]?
 | [],_,_=>rfl
 | v :: r,o,w=>by
  rw[World.setCells,heap_setCells_other g k hk r,Below.heap_setCell _ _ _ _ hk]
structure At (g:Nat) (C:Array Value) (t:TypeId) (w w':World):Prop where
 os:w'.os=w.os
 tape:w'.tape=w.tape
 output:w'.output=w.output
 size:w.heap.size≤w'.heap.size
 row:w'.heap[g]? = some (.cells C t (0,0))
 block:∀ k,k<w.heap.size→k≠g→w'.heap[k]? = w.heap[k]?
theorem At.refl {g:Nat} {C:Array Value} {t:TypeId} {w:World} (h:w.heap[g]? = some (.cells C t (0,0))):At g C t w w:=⟨rfl,rfl,rfl,Nat.le_refl _,h,fun _ _ _=>rfl⟩
theorem At.trans {g:Nat} {C C':Array Value} {t t':TypeId} {a b c:World} (h:At g C t a b) (k:At g C' t' b c):At g C' t' a c:=
 ⟨k.os.trans h.os,k.tape.trans h.tape,k.output.trans h.output,Nat.le_trans h.size k.size,k.row,fun i hi hg=>(k.block i (Nat.lt_of_lt_of_le hi h.size) hg).trans (h.block i hi hg)⟩
theorem At.lt {g:Nat} {C:Array Value} {t:TypeId} {w w':World} (h:At g C t w w'):g<w'.heap.size:=by
 by_cases hlt:g<w'.heap.size
 ·exact hlt
 ·have:=h.row;rw[Array.getElem?_eq_none (by omega)]at this;cases this
theorem At.later {g:Nat} {C:Array Value} {t:TypeId} {a b c:World} (h:At g C t a b) (k:Below b.heap.size b c):At g C t a c:=
 ⟨k.os.trans h.os,k.tape.trans h.tape,k.output.trans h.output,Nat.le_trans h.size k.size,(k.block g h.lt).trans h.row,fun i hi hg=>(k.block i (Nat.lt_of_lt_of_le hi h.size)).trans (h.block i hi hg)⟩
theorem At.set {g o:Nat} {C:Array Value} {t:TypeId} {vs:List Value} {w w':World} (hg:w.heap[g]? = some (.cells C t (0,0))) (hl:g<w.heap.size) (h:Below w.heap.size (w.setCells g o vs) w'):At g (sp C o vs) t w w':=by
 have hx:∀ (vs:List Value) (o:Nat) (w:World),(w.setCells g o vs).os=w.os∧(w.setCells g o vs).tape=w.tape∧(w.setCells g o vs).output=w.output:=by
  intro vs
  induction vs with
  | nil=>intro o w;exact⟨rfl,rfl,rfl⟩
  | cons v r ih=>intro o w;exact ih (o+1) (w.setCell ⟨g,o,none⟩ v)
 have h1:=hx vs o w
 refine⟨h.os.trans h1.1,h.tape.trans h1.2.1,h.output.trans h1.2.2,by have:=h.size;rw[size_setCells]at this;exact this,?_,fun k hk hkg=>?_⟩
 ·rw[h.block g hl];exact heap_setCells vs o hg
 ·rw[h.block k hk];exact heap_setCells_other g k hkg vs o w
theorem At.below {g B:Nat} {C:Array Value} {t:TypeId} {w w':World} (h:At g C t w w') (hB:B≤w.heap.size) (hg:B≤g):Below B w w':=
 ⟨h.os,h.tape,h.output,h.size,fun k hk=>h.block k (by omega) (by omega)⟩
theorem At.cell {g:Nat} {C:Array Value} {t:TypeId} {w w':World} (h:At g C t w w') (i:Nat):w'.cell? ⟨g,i,none⟩=C[i]? := cell_of_row w' g i C t (0,0) h.row
theorem At.frozen {g:Nat} {C:Array Value} {t:TypeId} {w w':World} (h:At g C t w w') (i:Nat):w'.frozen? ⟨g,i,none⟩=false:=frozen_of_row w' g i C t h.row
theorem At.other {g k:Nat} {C T:Array Value} {t tt:TypeId} {w w':World} (h:At g C t w w') (hk:k<w.heap.size) (hkg:k≠g) (hw:w.heap[k]? = some (.cells T tt (0,0))):w'.heap[k]? = some (.cells T tt (0,0)):=(h.block k hk hkg).trans hw
theorem lt_of_row {g:Nat} {C:Array Value} {t:TypeId} {fr:Nat × Nat} {w:World} (h:w.heap[g]? = some (.cells C t fr)):g<w.heap.size:=by
 by_cases hlt:g<w.heap.size
 ·exact hlt
 ·rw[Array.getElem?_eq_none (by omega)]at h;cases h
end mem
namespace bits8
open Go Go.RowKit
open oct
theorem take_snoc (s:ByteArray) (k:Nat) (h:k<s.size):s.data.toList.take (k+1)=s.data.toList.take k ++ [s[k]]:=by
 rw[List.take_succ_eq_append_getElem (by simpa using h)];rfl
theorem ret_int {k:IntKind} {a b:Int} (h:a=b):Ending.returned (.int k a)=.returned (.int k b):=by rw[h]
end bits8
namespace r01m
open Go
open oct bits8
def refRow (n m i:Nat):List UInt8:=(List.range m).map fun p=>if m-1-p<i then byteAt n (m-1-p) else 0
end r01m
namespace qtail
open Go Go.RowKit
section
variable {P:Program} {ops:Array Oper} {md:Region.Mode} {C:World→Prop}
def heads (P:Program) (md:Region.Mode) (ops:Array Oper) (C:World→Prop) (n:Nat) (L:Array Bool→Act→Prop):Nat→Array Bool→Act→Prop
 | 0,b,a=>L b a
 | f+1,b,a=>Region.ready md ops b≠[]∧∀ i∈Region.ready md ops b,i<n∧qOp P ops C i (heads P md ops C n L f (b.setIfInBounds i true)) a
theorem any_of_heads {n g:Nat} {L:Array Bool→Act→Prop} {Q:Exit→Act→World→Prop} (hL:∀ b a w,C w→L b a→wpAny P md ops Q g b a w):
 ∀ (f:Nat) (b:Array Bool) (a:Act) (w:World),C w→heads P md ops C n L f b a→wpAny P md ops Q (f+g) b a w:=by
 intro f
 induction f with
 | zero=>intro b a w hw h;rw[Nat.zero_add];exact hL b a w hw h
 | succ f ih=>
  intro b a w hw h
  rw[Nat.succ_add]
  exact⟨fun h0=>absurd h0 h.1,fun i hi=>wpOp_of_qOp hw (fun a' w' hw' k=>ih _ a' w' hw' k) (h.2 i hi).2⟩
theorem head_lt {n i j:Nat} {b:Array Bool} (hs:Region.sinkB md ops n=true) (hc:Region.chainB md ops n=true) (hn:n<ops.size) (inv:HeadInv md ops n b) (hin:i<n) (hi:i∈Region.ready md ops b) (hj:j∈Region.ready md ops b):j<n:=by
 by_cases h:j<n
 ·exact h
 ·exact absurd hj (tail_waits hs hc hn inv _ i rfl hin (mem_ready.1 hi).1 j (by omega))
theorem heads_first {n i:Nat} {oi:Oper} {v:Value} {L:Array Bool→Act→Prop} (hi:ops[i]? = some oi) (hsel:∀ (j:Nat) (o:Oper) cs b,ops[j]? = some o→o.op≠.select cs b)
 (hs:Region.sinkB md ops n=true) (hc:Region.chainB md ops n=true) (hn:n<ops.size) (hin:i<n) (hL:∀ b a,L b a→∀ j∈Region.ready md ops b,n≤j) (f:Nat):
 ∀ (b:Array Bool) (a:Act),HeadInv md ops n b →
  (∀ j oj,ops[j]? = some oj→j≠i→b.getD j true=false→(∀ e∈oj.after,Region.binds md e=true→e.on≠i)→oi.apart ops oj=true) →
  i∈Region.ready md ops b→YieldsIn P ops C oi v a→heads P md ops C n L f (b.setIfInBounds i true) (a.put oi.dst v)→heads P md ops C n L (f+1) b a:=by
 induction f with
 | zero=>
  intro b a inv _ hr hy H
  refine⟨List.ne_nil_of_mem hr,fun j hj=>⟨head_lt hs hc hn inv hin hr hj,?_⟩⟩
  by_cases e:j=i
  ·rw[e];exact hy.qOp hi H
  ·have h1:=hL _ _ H j (ready_mono hj e)
   have h2:=head_lt hs hc hn inv hin hr hj
   omega
 | succ f ih=>
  intro b a inv hap hr hy H
  refine⟨List.ne_nil_of_mem hr,fun j hj=>⟨head_lt hs hc hn inv hin hr hj,?_⟩⟩
  by_cases e:j=i
  ·rw[e];exact hy.qOp hi H
  ·obtain⟨hju,oj,hoj,hall⟩:=mem_ready.1 hj
   have hno:∀ x∈oj.after,Region.binds md x=true→x.on≠i:=fun x hx hb h=>by
    have h1:=hall x hx hb
    rw[h,getD_both (mem_ready.1 hr).1]at h1
    cases h1
   have hq:=qOp_put hoj (hap j oj hoj e hju hno) (fun cs b=>hsel i oi cs b hi) (fun cs b=>hsel j oj cs b hoj) hy (H.2 j (ready_mono hj e)).2
   refine qOp_mono (fun a' h3=>ih _ a' (inv.set hj (head_lt hs hc hn inv hin hr hj)) (fun k ok hk hki hku hkn=>hap k ok hk hki ?_ hkn) (ready_mono hr (Ne.symm e)) h3.1 ?_) hq
   ·by_cases hjk:j=k
    ·rw[←hjk];exact hju
    ·rwa [getD_set_ne true hjk]at hku
   ·rw[Array.setIfInBounds_comm _ _ e];exact h3.2
theorem heads_lex {n g:Nat} {Lq:Act→Prop} (hsel:Region.noSelect ops=true) (hs:Region.sinkB md ops n=true) (hc:Region.chainB md ops n=true) (hn:n<ops.size) (l:List Oper):
 ∀ (k:Nat) (b:Array Bool) (a:Act),(∀ j,j<l.length→l[j]? = ops[k+j]?)→k+l.length=n→HeadInv md ops n b→Region.lexHead md ops g l.length k b=true→wpQuiet P ops C Lq l a →
  heads P md ops C n (fun b' a'=>Region.seqB md ops g n b'=true∧Lq a') l.length b a:=by
 induction l with
 | nil=>
  intro k b a _ hk inv hB h
  have e:k=n:=hk
  rw[←e]
  exact⟨hB,h⟩
 | cons o l ih=>
  intro k b a hl hk inv hB h
  have h0:ops[k]? = some o:=(hl 0 (by simp)).symm
  have hkl:k+(l.length+1)=n:=hk
  simp only[List.length_cons,Region.lexHead,Bool.and_eq_true,List.contains_iff_mem]at hB
  obtain⟨v,hy,hK⟩:=yieldsIn_of_qOp (K:=wpQuiet P ops C Lq l) h0 (by unfold qOp;simp only[h0];exact h)
  exact heads_first h0 (Region.noSelect_spec hsel) hs hc hn (by omega) (fun b' a' hb=>seqB_ready hb.1) l.length b a inv (Region.free_spec h0 hB.1.2) hB.1.1 hy
   (ih (k+1) _ _ (fun j hj=>by have h1:=hl (j+1) (by simp;omega);rw[Nat.add_right_comm,Nat.add_assoc];exact h1) (by omega) (inv.set hB.1.1 (by omega)) hB.2 hK)
end
theorem region_quiet_tail {P:Program} {id:Nat} {Q:Exit→Act→World→Prop} {a:Act} {w:World} {l:List Oper} {C:World→Prop} (n:Nat) (hm:P.follows .mixedOrders=true) (hB:Region.lexTailB .any l.toArray n=true) (hC:C w.drew)
 (h:wpQuiet P l.toArray C (fun a'=>∀ w',C w'→wpList P l.toArray Q (l.drop n) a' w') (l.take n) a):(Code.region id l.toArray true).wp P Q a w:=by
 simp only[Region.lexTailB,Bool.and_eq_true,decide_eq_true_eq]at hB
 obtain⟨⟨⟨⟨hsel,hn⟩,hs⟩,hc⟩,hx⟩:=hB
 have hnl:n<l.length:=by simpa using hn
 have hd:(l.drop n).length=l.toArray.size-n:=by simp
 have ht:(l.take n).length=n:=by simp;omega
 have inv:HeadInv .any l.toArray n (Array.replicate l.toArray.size false):=
  ⟨by simp,fun j oj _ hl=>absurd hl (by rw[getD_replicate_false];decide),fun t _ hts=>getD_in (by simpa using hts) (getD_replicate_false _ _)⟩
 have H:=heads_lex (md:=.any) (C:=C) (g:=l.toArray.size-n) hsel hs hc hn (l.take n) 0 _ a (fun j hj=>by
  rw[ht]at hj
  simp[hj]) (by omega) inv (by rw[ht];exact hx) h
 have hw:wpAny P .any l.toArray Q ((l.take n).length+(l.toArray.size-n)) (Array.replicate l.toArray.size false) a w.drew:=
  any_of_heads (fun b a' w' hw' hb=>by
   have h1:=wpAny_of_seq (md:=.any) (Q':=Q) (l.drop n) n b a' w' (fun j=>by simp[List.getElem?_drop]) (by rw[hd];exact hb.1) (hb.2 w' hw')
   rwa [hd]at h1) _ _ _ _ hC H
 rw[ht,show n+(l.toArray.size-n)=l.toArray.size by omega]at hw
 exact wp_region_any hm hw
theorem region_below_tail {P:Program} {id:Nat} {Q:Exit→Act→World→Prop} {a:Act} {w:World} {l:List Oper} (n:Nat) (hm:P.follows .mixedOrders=true) (hB:Region.lexTailB .any l.toArray n=true)
 (h:wpQuiet P l.toArray (fun w'=>∃ p:Regrown,w'=Go.Sort.grow (redrawn w p.d) p.os) (fun a'=>∀ w',(∃ p:Regrown,w'=Go.Sort.grow (redrawn w p.d) p.os)→wpList P l.toArray Q (l.drop n) a' w') (l.take n) a):(Code.region id l.toArray true).wp P Q a w:=
 region_quiet_tail n hm hB (regrown_of_below (Below.refl _ _).drew) h
end qtail
namespace qops
open Go Go.RowKit
open arr
theorem region_quiet_ops {P:Program} {id:Nat} {Q:Exit→Act→World→Prop} {a:Act} {w:World} {l:List Oper} (hm:P.follows .mixedOrders=true) (hB:Region.lexB .any l.toArray=true)
 (h:∀ ops:Array Oper,Away (l.toArray=ops)→wpQuiet P ops (fun w'=>∃ p:Regrown,w'=Go.Sort.grow (redrawn w p.d) p.os) (fun a'=>∀ w',(∃ p:Regrown,w'=Go.Sort.grow (redrawn w p.d) p.os)→Q .normal a' w') l a):(Code.region id l.toArray true).wp P Q a w:=
 wp_region_quiet_below hm hB (h _ ⟨rfl⟩)
theorem wpQuiet_skip {P:Program} {ops:Array Oper} {C:World→Prop} {Q:Act→Prop} {rest:List Oper} {o:Oper} {a:Act} (hw:Region.wanted o (yielded ops a.tmps)=false) (h:wpQuiet P ops C Q rest (a.put o.dst undef)):wpQuiet P ops C Q (o :: rest) a:=
 wpQuiet_step fun K hK=>by rw[if_neg (by rw[hw];decide)];exact hK _ h
theorem wpQuiet_want {P:Program} {ops:Array Oper} {C:World→Prop} {Q:Act→Prop} {rest:List Oper} {o:Oper} {a:Act} (hw:Region.wanted o (yielded ops a.tmps)=true)
 (h:∀ K:Act→Prop,(∀ a,wpQuiet P ops C Q rest a→K a)→o.quiet P a C K):wpQuiet P ops C Q (o :: rest) a:=
 wpQuiet_step fun K hK=>by rw[if_pos hw];exact h K hK
end qops
namespace tabm
def ch:Nat→Nat→Nat
 | _,0=>1
 | 0,_+1=>0
 | n+1,k+1=>ch n k+ch n (k+1)
def bs (a n:Nat):Nat→Nat
 | 0=>0
 | m+1=>bs a n m+ch n m*a ^ m
def noDiv (p:Nat):Nat→Nat→Bool
 | 0,_=>true
 | f+1,k=>(p%k != 0) && noDiv p f (k+1)
def pwp (p x n:Nat):Nat:=x ^ n%p
def pw (x n:Nat):Nat:=pwp 8380417 x n
theorem pw_lt (x n:Nat):pw x n<8380417:=Nat.mod_lt _ (by omega)
def pwk (x n r s m:Nat):Prop:=r*s ^ m%8380417=pw x n
theorem pwk_start (x n:Nat):pwk x n 1 (x%8380417) n:=by
 unfold pwk pw pwp;rw[Nat.one_mul,←Nat.pow_mod]
theorem pwk_even (x n r s m:Nat) (h:pwk x n r s m) (h2:m%2=0):pwk x n r (s*s%8380417) (m / 2):=by
 unfold pwk at *
 rw[←h,Nat.mul_mod,←Nat.pow_mod,←Nat.mul_mod,←Nat.pow_two,←Nat.pow_mul,show 2*(m / 2)=m by omega]
theorem pwk_odd (x n r s m:Nat) (h:pwk x n r s m) (h2:m%2=1):pwk x n (r*s%8380417) (s*s%8380417) (m / 2):=by
 unfold pwk at *
 rw[←h,Nat.mul_mod,Nat.mod_mod,←Nat.pow_mod,←Nat.mul_mod,←Nat.pow_two,←Nat.pow_mul,Nat.mul_assoc,←Nat.pow_succ',
  show (2*(m / 2)).succ=m by omega]
theorem pwk_end (x n r s:Nat) (h:pwk x n r s 0) (hr:r<8380417):r=pw x n:=by
 unfold pwk at h;rw[←h,Nat.pow_zero,Nat.mul_one,Nat.mod_eq_of_lt hr]
def pwI (x n:Int):Int:=if x<0∨n<0 then 0 else (pw x.toNat n.toNat:Nat)
end tabm
namespace primm
def ph:List Nat:=[2,3,5,7,11,13,17,19,23,29,31,37,41,43,47,53,59,61,67,71,73,79,83,89,97,101,103,107,109,113,127,131,137,139,149,151,157,163,167,173,179,181,191,193,197,199,211,223,227,229,233,239,241,251,257,263,269,271,277,281,283,293,307,311,313,317,331,337,347,349,353,359,367,373,379,383,389,397,401,409,419,421,431,433,439,443,449,457,461,463,467,479,487,491,499,503,509,521,523,541]
def pl (x:Nat):List Nat:=ph.filter (fun p=>p<x)
def dvd (l:List Nat) (x:Nat):Bool:=l.any (fun p=>x%p==0)
def pr (n:Int):List Nat:=ph.take n.toNat
theorem ph_length:ph.length=100:=by decide
theorem ph_pos:∀ p∈ph,2≤p∧p≤541:=by decide
def okAt (x:Nat):Bool:=
 if dvd (pl x) x then pl (x+1)==pl x else pl (x+1)==pl x ++ [x]
theorem ok_all:(List.range 542).all (fun x=>x<2 || (okAt x && (pl x==ph.take (pl x).length)))=true:=by decide +kernel
theorem ok_at {x:Nat} (h1 : 2≤x) (h2:x<542):okAt x=true∧pl x=ph.take (pl x).length:=by
 have h:=List.all_eq_true.1 ok_all x (by simpa using h2)
 simp only[Bool.or_eq_true,decide_eq_true_eq,Bool.and_eq_true,beq_iff_eq]at h
 rcases h with h | h
 ·omega
 ·exact h
theorem pl_two:pl 2=[]:=by decide
theorem pl_end:pl 542=ph:=by decide +kernel
theorem pl_hit {x:Nat} (h1 : 2≤x) (h2:x<542) (hd:dvd (pl x) x=true):pl (x+1)=pl x:=by
 have h:=(ok_at h1 h2).1
 unfold okAt at h
 rw[if_pos hd]at h
 simpa using h
theorem pl_new {x:Nat} (h1 : 2≤x) (h2:x<542) (hd:dvd (pl x) x=false):pl (x+1)=pl x ++ [x]:=by
 have h:=(ok_at h1 h2).1
 unfold okAt at h
 rw[if_neg (by simp[hd])]at h
 simpa using h
theorem pl_take {x:Nat} (h1 : 2≤x) (h2:x≤542):pl x=ph.take (pl x).length:=by
 by_cases h:x<542
 ·exact(ok_at h1 h).2
 ·obtain rfl:x=542:=by omega
  rw[pl_end,List.take_length]
theorem pl_le (x:Nat):(pl x).length≤100:=by
 rw[←ph_length];exact List.length_filter_le _ _
theorem pl_pos {x p:Nat} (h:p∈pl x) : 2≤p∧p≤541:=ph_pos p (List.mem_filter.1 h).1
theorem pl_room {x:Nat} (h2:x≤542) (hl:(pl x).length<100):x<542:=by
 by_cases h:x<542
 ·exact h
 ·obtain rfl:x=542:=by omega
  rw[pl_end,ph_length]at hl;omega
theorem pr_of {x:Nat} {n:Int} (h1 : 2≤x) (h2:x≤542) (hl:n≤100→(pl x).length=n.toNat) (hg : 100<n→(pl x).length=100):pl x=pr n:=by
 have h:=pl_take h1 h2
 unfold pr
 by_cases hn:n≤100
 ·rw[hl hn]at h;exact h
 ·rw[hg (by omega)]at h
  rw[h,List.take_of_length_le (by rw[ph_length];omega),List.take_of_length_le (by rw[ph_length];omega)]
theorem dvd_snoc (l:List Nat) (p x:Nat):dvd (l ++ [p]) x=(dvd l x || (x%p==0)):=by simp[dvd]
theorem dvd_hit {l:List Nat} {k x:Nat} (hk:k<l.length) (h:x%l.getD k 0=0):dvd l x=true:=by
 rw[List.getD_eq_getElem?_getD,List.getElem?_eq_getElem hk]at h
 exact List.any_eq_true.2 ⟨l[k],List.getElem_mem hk,by simpa using h⟩
theorem take_snoc {l:List Nat} {k:Nat} (hk:k<l.length):l.take (k+1)=l.take k ++ [l.getD k 0]:=by
 rw[List.take_succ_eq_append_getElem hk,List.getD_eq_getElem?_getD,List.getElem?_eq_getElem hk];rfl
end primm
namespace tabt
open Go
open tabm tabd primm
def lstep (r:Nat):Nat:=if 255<r*2 then (r*2) ^^^ 369 else r*2
def lf:Nat→Nat
 | 0=>1
 | t+1=>lstep (lf t)
def rl:Nat→List Nat
 | 0=>List.replicate 24 0
 | t+1=>if lf t%2=1 then (rl t).set (t / 7) ((rl t).getD (t / 7) 0 ||| 2 ^ (2 ^ (t%7)-1)) else rl t
theorem lstep_le:∀ r,r<256→lstep r<256:=by decide +kernel
theorem lf_le (t:Nat):lf t<256:=by
 induction t with
 | zero=>decide
 | succ t ih=>exact lstep_le _ ih
theorem rl_length (t:Nat):(rl t).length=24:=by
 induction t with
 | zero=>rfl
 | succ t ih=>rw[rl];split<;>simp[ih]
theorem bit_lt (k:Nat) (h:k<7) : 2 ^ (2 ^ k-1)<18446744073709551616:=by
 have : 2 ^ k≤2 ^ 6:=Nat.pow_le_pow_right (by decide) (by omega)
 have h2 : 2 ^ (2 ^ k-1)<2 ^ 64:=Nat.pow_lt_pow_right (by decide) (by omega)
 simpa using h2
theorem rl_lt (t:Nat):∀ d∈rl t,d<18446744073709551616:=by
 induction t with
 | zero=>intro d hd;simp[rl]at hd;omega
 | succ t ih=>
  intro d hd
  rw[rl]at hd
  split at hd
  ·rcases List.mem_or_eq_of_mem_set hd with h | h
   ·exact ih d h
   ·rw[h]
    have h1:(rl t).getD (t / 7) 0<2 ^ 64:=by
     rw[List.getD_eq_getElem?_getD]
     by_cases hk:t / 7<(rl t).length
     ·rw[List.getElem?_eq_getElem hk];exact Nat.lt_of_lt_of_eq (ih _ (List.getElem_mem hk)) (by decide)
     ·rw[List.getElem?_eq_none (by omega)];decide
    exact Nat.lt_of_lt_of_eq (Nat.or_lt_two_pow h1 (Nat.lt_of_lt_of_eq (bit_lt (t%7) (Nat.mod_lt _ (by decide))) (by decide))) (by decide)
  ·exact ih d hd
theorem rl_getD_lt (t i:Nat):(rl t).getD i 0<18446744073709551616:=by
 rw[List.getD_eq_getElem?_getD]
 by_cases hk:i<(rl t).length
 ·rw[List.getElem?_eq_getElem hk];exact rl_lt t _ (List.getElem_mem hk)
 ·rw[List.getElem?_eq_none (by omega)];decide
theorem rl_odd {i k:Nat} (hk:k<7) (h:lf (7*i+k)%2=1):rl (7*i+k+1)=(rl (7*i+k)).set i ((rl (7*i+k)).getD i 0 ||| 2 ^ (2 ^ k-1)):=by
 rw[rl,if_pos h,show (7*i+k) / 7=i by omega,show (7*i+k)%7=k by omega]
theorem rl_even {t:Nat} (h:¬ lf t%2=1):rl (t+1)=rl t:=by rw[rl,if_neg h]
theorem lf_over {t:Nat} (h : 255<lf t*2):lf (t+1)=(lf t*2) ^^^ 369:=by rw[lf,lstep,if_pos h]
theorem lf_in {t:Nat} (h:¬ 255<lf t*2):lf (t+1)=lf t*2:=by rw[lf,lstep,if_neg h]
theorem xor_tab:∀ r:Nat,r<256→bits .xor .i64 ((r:Int)*2) 369=(((r*2) ^^^ 369:Nat):Int):=by decide +kernel
theorem shift_tab:∀ m:Nat,m<7→IntKind.u64.wrap (2 ^ min (IntKind.u64.wrap (IntKind.u64.wrap (2 ^ m)-1)).toNat 64)=((2 ^ (2 ^ m-1):Nat):Int):=by decide +kernel
theorem or_shift (d m:Nat) (hd:d<18446744073709551616) (hm:m<7):
 bits .or .u64 (d:Int) (IntKind.u64.wrap (2 ^ min (IntKind.u64.wrap (IntKind.u64.wrap (2 ^ m)-1)).toNat 64))=((d ||| 2 ^ (2 ^ m-1):Nat):Int):=by
 rw[shift_tab m hm,u64_or_nat d _ hd (bit_lt m hm)]
def xy:Nat→Nat × Nat
 | 0=>(1,0)
 | t+1=>((xy t).2,(2*(xy t).1+3*(xy t).2)%5)
def tl:Nat→List Nat
 | 0=>List.replicate 25 0
 | t+1=>(tl t).set ((xy t).1+5*(xy t).2) ((t+1)*(t+2) / 2%64)
theorem xy_lt (t:Nat):(xy t).1<5∧(xy t).2<5:=by
 induction t with
 | zero=>decide
 | succ t ih=>simp only[xy];omega
theorem tl_length (t:Nat):(tl t).length=25:=by
 induction t with
 | zero=>rfl
 | succ t ih=>simp[tl,ih]
def rvTo (n:Nat):Nat→Nat
 | 0=>0
 | i+1=>rvTo n i ||| (n / 2 ^ i%2)*2 ^ (7-i)
def rv (n:Nat):Nat:=rvTo n 8
theorem rev8_tab:∀ n:Nat,n<256→Lib.rev8 (n:Int)=(rv n:Int):=by decide +kernel
theorem rv_lt:∀ n:Nat,n<256→rv n<256:=by decide +kernel
def zt (n:Nat):Nat:=pw 1753 (rv n)
def zl:Nat→List Nat
 | 0=>List.replicate 256 0
 | n+1=>(zl n).set n (zt n)
theorem zl_length (n:Nat):(zl n).length=256:=by
 induction n with
 | zero=>exact List.length_replicate
 | succ n ih=>simp[zl,ih]
theorem zl_get (n:Nat):∀ j,j<n→n≤256→(zl n).getD j 0=zt j:=by
 induction n with
 | zero=>intro j h;omega
 | succ n ih=>
  intro j hj hn
  rw[zl,List.getD_eq_getElem?_getD,List.getElem?_set]
  by_cases h:n=j
  ·subst h
   rw[if_pos rfl,if_pos (by rw[zl_length];omega)]
   rfl
  ·rw[if_neg h,←List.getD_eq_getElem?_getD]
   exact ih j (by omega) (by omega)
end tabt
end Go.Proofs.YtomphjajkkddkaaGreatDoor
