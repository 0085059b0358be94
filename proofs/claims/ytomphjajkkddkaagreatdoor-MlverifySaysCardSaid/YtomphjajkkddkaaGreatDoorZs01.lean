/-
  Plain facts on the encoding of numbers and strings as bytes (layer 1): no program is named here. Con
-/
import Derived.Lib.BitFns
import Derived.Below
import Derived.WalkKit
import Derived.WalkSpells
import Derived.WalkLawsBesides
import Derived.Lib.Hide
import Derived.IntWalk
import Derived.Laws.MathBits
import Derived.Laws.BitsAllLaws
import Derived.Deep.WholeRow
import Derived.Deep.MidRow
import Derived.Deep.QuietTactic
import Derived.BigQuiet
import Derived.Lib.QuietBelow
import Derived.Laws.Bits64
import Derived.Laws.BitsLemmas
import Derived.Lib.UnsafeStr
import GoSem.Op.Shift
import Derived.StillTailTactics
import Derived.Lib.Tables
set_option maxRecDepth 100000
set_option maxHeartbeats 16000000
set_option linter.unusedSimpArgs false
set_option linter.unusedVariables false
open Go Go.RowKit
open Go renaming World->G,Value->aE,TypeId->aH,Program->aI
open Go.RowKit renaming Below->aF
open Go.Region renaming ready->aK,wanted->aL
open Go.Value renaming int->O,agg->I,pointer->aC
open Go.IntKind renaming i64->J
open Go.Obj renaming cells->Y
namespace Go.Proofs.YtomphjajkkddkaaGreatDoor
abbrev iM:=@Nat.le_refl
abbrev iO:=@List.getD_eq_getElem?_getD
abbrev iP:=@if_pos
abbrev iQ:=@if_neg
abbrev iT:=@List.getElem?_eq_getElem
abbrev iU:=@Int.tdiv_eq_ediv_of_nonneg
abbrev iW:=@List.drop_succ_cons
abbrev iX:=@Nat.zero_le
abbrev iZ:=@Nat.lt_of_lt_of_le
abbrev jA:=@And.intro
abbrev jB:=@Int.tmod_eq_emod_of_nonneg
abbrev jE:=@Int.cast_ofNat_Int
abbrev jF:=@List.getElem?_cons_succ
abbrev jG:=@Exists.intro
abbrev jH:=@List.take_succ_cons
abbrev jJ:=@Nat.le_trans
abbrev jK:=@List.drop_zero
abbrev jL:=@List.getElem?_cons_zero
abbrev jM:=@Array.length_toList
abbrev jN:=@decide_eq_false
abbrev jO:=@Nat.mod_eq_of_lt
abbrev jP:=@decide_eq_true
abbrev jQ:=@Bool.and_eq_true
abbrev jS:=@ByteArray.size_append
abbrev jT:=@List.filterMap_cons
abbrev jU:=@List.take_zero
abbrev jV:=@beq_eq_false_iff_ne
abbrev jW:=@Array.getElem?_eq_some_iff
abbrev jY:=@List.getElem?_eq_none
abbrev kB:=@Nat.mod_lt
abbrev kC:=@Array.getElem?_eq_getElem
abbrev kD:=@Nat.two_pow_pos
abbrev kE:=@ByteArray.size_extract
abbrev kF:=@Option.some.inj
abbrev kG:=@Nat.mul_succ
abbrev kI:=@Nat.mul_comm
abbrev kJ:=@Nat.mul_le_mul_left
abbrev kK:=@List.length_append
abbrev kL:=@Int.toNat_natCast
abbrev kM:=@Array.all_eq_true_iff_forall_mem
abbrev kN:=@decide_eq_true_eq
abbrev kO:=@Or.inr
abbrev kP:=@Nat.zero_add
abbrev kR:=@Int.eq_ofNat_of_zero_le
abbrev kS:=@Nat.pow_le_pow_right
abbrev kT:=@List.mem_cons
abbrev kV:=@Int.natCast_mul
abbrev kW:=@Or.inl
abbrev kX:=@Int.emod_lt_of_pos
abbrev kZ:=@List.getElem_mem
abbrev lA:=@Nat.mul_le_mul
abbrev lC:=@Nat.mul_assoc
abbrev lD:=@congrArg
abbrev lE:=@BitVec.ofInt_natCast
abbrev lF:=@Nat.pow_add
abbrev lG:=@List.take_of_length_le
abbrev lH:=@Array.getElem?_eq_none
abbrev lI:=@Nat.div_eq_of_lt
abbrev lK:=@Int.emod_nonneg
abbrev lL:=@beq_iff_eq
abbrev lN:=@List.all_eq_true
abbrev lO:=@BitVec.toNat_ofNat
abbrev lP:=@Int.mul_le_mul_of_nonneg_right
abbrev lR:=@List.getElem?_append_right
abbrev lT:=@List.map_cons
abbrev lV:=@List.mem_range
abbrev lX:=@Nat.add_assoc
abbrev lZ:=@of_decide_eq_true
abbrev mB:=@Int.mul_le_mul_of_nonneg_left
abbrev mC:=@List.getElem?_append_left
abbrev mF:=@List.length_cons
abbrev mG:=@Nat.pow_succ
abbrev mH:=@Nat.mul_le_mul_right
abbrev mI:=@List.filterMap_nil
abbrev mJ:=@Nat.add_comm
abbrev mK:=@List.not_mem_nil
abbrev mL:=@List.append_assoc
abbrev mM:=@Nat.lt_of_le_of_lt
abbrev mO:=@ByteArray.extract_append
abbrev mP:=@Array.setIfInBounds_comm
abbrev mQ:=@Int.mul_add
abbrev mS:=@Nat.le_of_eq
abbrev mT:=@Option.some.injEq
abbrev mU:=@List.getElem?_map
abbrev mV:=@List.setIfInBounds_toArray
abbrev mW:=@Nat.sub_self
abbrev mX:=@Nat.add_zero
abbrev mY:=@Nat.div_div_eq_div_mul
abbrev nA:=@List.drop_eq_getElem_cons
abbrev nD:=@Array.size_setIfInBounds
abbrev nE:=@Int.mul_emod
abbrev nF:=@Int.le_of_lt
abbrev nG:=@Nat.mul_add_mod
abbrev nH:=@Nat.mul_add_div
abbrev nK:=@Bool.eq_false_iff
abbrev nL:=@List.drop_of_length_le
abbrev nN:=@List.length_set
abbrev nO:=@Nat.add_mul_mod_self_left
abbrev nP:=@Nat.lt_trans
abbrev nR:=@Option.isSome_iff_exists
abbrev nS:=@List.getElem?_set
abbrev nT:=@Bool.not_eq_true'
abbrev nU:=@Option.map_some
abbrev nV:=@List.cons.injEq
abbrev nW:=@Bool.or_eq_true
abbrev nX:=@Nat.succ_mul
abbrev nY:=@List.mem_map
abbrev nZ:=@ByteArray.append_empty
abbrev oA:=@Nat.mul_one
abbrev oB:=@Nat.mul_add
abbrev oD:=@Int.mul_assoc
abbrev oE:=@Int.natCast_emod
abbrev oG:=@Int.mul_nonneg
abbrev oH:=@Nat.add_sub_cancel
abbrev oI:=@Nat.le_of_ble_eq_true
abbrev oJ:=@List.getElem?_toArray
abbrev oK:=@Option.isNone_iff_eq_none
abbrev oL:=@Nat.div_add_mod
abbrev oM:=@Int.natCast_add
abbrev oO:=@Nat.le_succ
abbrev oQ:=@Int.mul_comm
abbrev oS:=@Nat.or_lt_two_pow
abbrev oT:=@Nat.mul_left_comm
abbrev oW:=@Nat.pow_lt_pow_right
abbrev oX:=@Nat.div_lt_of_lt_mul
abbrev oY:=@Nat.add_mul_div_left
abbrev iN:=@Go.IntKind.wrap_i64
abbrev iR:=@Go.RowKit.Below.refl
abbrev iS:=@Go.wpList_store_row
abbrev jX:=@Go.below_regrown
abbrev kA:=@Go.IntKind.wrap_u64
abbrev kQ:=@Go.Result.andThen_ok
abbrev lM:=@Go.getD_set_ne
abbrev lQ:=@Go.Sem.run_bind
abbrev lW:=@Go.setRow_other
abbrev mA:=@Go.wp_region_quiet_below
abbrev mD:=@Go.mem_ready
abbrev mR:=@Go.Sem.run_pure
abbrev nB:=@Go.ready_mono
abbrev nJ:=@Go.Region.noSelect_spec
abbrev nM:=@Go.run_loadVar_row
abbrev oC:=@Go.wp_region_any
abbrev oF:=@Go.u64_or_nat
abbrev zb(w w':World):Prop:=Below w.heap.size w w'
namespace oct
open Go
def byteAt(n j:Nat):UInt8:=UInt8.ofNat (n / 256 ^ j)
def fixL(n:Nat):Nat->List UInt8
 | 0=>[]
 | w+1=>byteAt n w :: fixL n w
def wo(l:List UInt8):Nat:=l.foldl (fun a b=>a*256+b.toNat) 0
def woU(l:List UInt8):Nat:=wo l%18446744073709551616
def wd(n:Nat):Nat:=
 if n=0 then 0 else if n<256 then 1 else if n<65536 then 2 else if n<16777216 then 3 else if n<4294967296 then 4
 else if n<1099511627776 then 5 else if n<281474976710656 then 6 else 7
def intL(n:Int):List UInt8 × Int:=
 if n<0\/1125899906842624<n then ([],6) else (UInt8.ofNat (wd n.toNat) :: fixL n.toNat (wd n.toNat),0)
def textL(t:List UInt8)(most:Int):List UInt8 × Int:=
 if most<t.length then ([],5) else if (intL t.length).2=0 then ((intL t.length).1++t,0) else ([],(intL t.length).2)
def fixS(n:Nat)(width:Int):List UInt8:=if width<1\/50000<width then [] else fixL n width.toNat
def rdInt(l:List UInt8)(p:Int):Int × Int × Int:=
 if p<0\/(l.length:Int)<p then (0,0,1)
 else if p=l.length then (0,0,2)
 else if 7<(l[p.toNat]?.getD 0).toNat then (0,0,3)
 else if (l.length:Int)-(p+1)<(l[p.toNat]?.getD 0).toNat then (0,0,2)
 else if 0<(l[p.toNat]?.getD 0).toNat/\(l[p.toNat+1]?.getD 0).toNat=0 then (0,0,3)
 else if 1125899906842624<wo ((l.drop (p.toNat+1)).take (l[p.toNat]?.getD 0).toNat) then (0,0,3)
 else ((wo ((l.drop (p.toNat+1)).take (l[p.toNat]?.getD 0).toNat):Int),p+1+(l[p.toNat]?.getD 0).toNat,0)
def rdText(l:List UInt8)(p most:Int):List UInt8 × Int × Int:=
 if (rdInt l p).2.2=0 then
  if most<(rdInt l p).1 then ([],0,5)
  else if (l.length:Int)-(rdInt l p).2.1<(rdInt l p).1 then ([],0,2)
  else ((l.drop (rdInt l p).2.1.toNat).take (rdInt l p).1.toNat,(rdInt l p).2.1+(rdInt l p).1,0)
 else ([],0,(rdInt l p).2.2)
section
variable (l:List UInt8) (q c:Nat) (hq:q<l.length) (hc:(l[q]?.getD 0).toNat=c)
include hq hc
end
end oct
namespace tabd
def val:List Nat->Nat
 | []=>0
 | d :: ds=>d+4294967296*val ds
def dg:Nat->Nat->List Nat
 | 0,_=>[]
 | n+1,v=>v%4294967296 :: dg n (v / 4294967296)
def bp(k:Nat):Nat:=4294967296 ^ k
theorem xfh:bp 0=1:=rfl
theorem xem(k:Nat):bp (k+1)=4294967296*bp k:=by unfold bp;rw[mG,kI]
theorem xnx(i j:Nat):bp (i+j)=bp i*bp j:=by unfold bp;rw[lF]
def cH(ds:List Nat):Prop:=∀ d∈ds,d<4294967296
theorem gR(n:Nat):∀ v,(dg n v).length=n:=by
 induction n with
 | zero=>intro v;rfl
 | succ n ih=>intro v;simp[dg,ih]
theorem xa0(n:Nat):∀ v,cH (dg n v):=by
 induction n with
 | zero=>intro v d hd;simp[dg]at hd
 | succ n ih=>
  intro v d hd;simp only[dg,kT]at hd;rcases hd with rfl | hd
  ·omega
  ·exact ih _ d hd
theorem xhw(n:Nat):∀ v,val (dg n v)=v%bp n:=by
 induction n with
 | zero=>intro v;simp[dg,val,xfh,Nat.mod_one]
 | succ n ih=>
  intro v;rw[dg,val,ih,xem,Nat.mod_mul]
theorem xie(ds:List Nat)(h:cH ds):dg ds.length (val ds)=ds:=by
 induction ds with
 | nil=>rfl
 | cons d ds ih=>
  have h1:d<4294967296:=h d (by simp);have h2:cH ds:=fun x hx=>h x (by simp[hx])
  rw[mF,dg,val,nO,jO h1,oY _ _ (by decide),lI h1,kP,ih h2]
theorem xkt(n v:Nat):dg n (v%bp n)=dg n v:=by
 rw[<-xhw];have:=xie (dg n v) (xa0 n v);rwa [gR]at this
theorem xsf(ds:List Nat)(h:cH ds):val ds<bp ds.length:=by
 induction ds with
 | nil=>simp[val,xfh]
 | cons d ds ih=>
  have h1:d<4294967296:=h d (by simp);have h2:=ih (fun x hx=>h x (by simp[hx]));rw[mF,xem,val];have:=kJ 4294967296 (Nat.succ_le_of_lt h2);rw[kG]at this;omega
theorem xrx{ds:List Nat}(h:cH ds)(k:Nat){x:Nat}(hx:x<4294967296):cH (ds.set k x):=by
 intro d hd;rcases List.mem_or_eq_of_mem_set hd with h1 | h1
 ·exact h d h1
 ·omega
theorem xsg(ds:List Nat):∀ (k x:Nat),k<ds.length->val (ds.set k x)+ds.getD k 0*bp k=val ds+x*bp k:=by
 induction ds with
 | nil=>intro k x h;simp at h
 | cons d ds ih=>
  intro k x h;cases k with
  | zero=>simp[val,xfh];omega
  | succ k=>
   have:=ih k x (by simpa using h);simp only[List.set_cons_succ,val,List.getD_cons_succ,xem];have e1:ds.getD k 0*(4294967296*bp k)=4294967296*(ds.getD k 0*bp k):=by rw[oT]
   have e2:x*(4294967296*bp k)=4294967296*(x*bp k):=by rw[oT]
   rw[e1,e2];omega
theorem xj1(ds:List Nat):∀ k,k<ds.length->val (ds.take (k+1))=val (ds.take k)+ds.getD k 0*bp k:=by
 induction ds with
 | nil=>intro k h;simp at h
 | cons d ds ih=>
  intro k h;cases k with
  | zero=>simp[val,xfh]
  | succ k=>
   have:=ih k (by simpa using h);simp only[jH,val,List.getD_cons_succ,xem];rw[this];have e1:ds.getD k 0*(4294967296*bp k)=4294967296*(ds.getD k 0*bp k):=by rw[oT]
   rw[e1];omega
theorem xnc(ds:List Nat):∀ k,k<=ds.length->val ds=val (ds.take k)+bp k*val (ds.drop k):=by
 induction ds with
 | nil=>intro k h;simp at h;subst h;simp[val]
 | cons d ds ih=>
  intro k h;cases k with
  | zero=>simp[val,xfh]
  | succ k=>
   have:=ih k (by simpa using h);simp only[jH,iW,val,xem];rw[this,oB,lC];omega
theorem xa7{ds:List Nat}(h:cH ds)(k:Nat):ds.getD k 0<4294967296:=by
 rw[iO];by_cases hk:k<ds.length
 ·rw[iT hk];exact h _ (kZ hk)
 ·rw[jY (by omega)];decide
def Mid(vs:List Nat)(N x i j:Nat)(ds:List Nat)(c:Nat):Prop:=
 ds.length=8/\cH ds/\c<4294967296/\val ds+c*bp (i+j)=N+x*bp i*val (vs.take j)
theorem xph(vs ds:List Nat)(x i:Nat)(h:ds.length=8)(hs:cH ds):Mid vs (val ds) x i 0 ds 0:=by
 refine⟨h,hs,by decide,?_⟩;simp[val]
theorem mid_step{vs:List Nat}{N x i j:Nat}{ds:List Nat}{c:Nat}(h:Mid vs N x i j ds c)(hx:x<4294967296)(hvs:cH vs)(hl:j<vs.length)(hij:i+j<8):
 Mid vs N x i (j+1) (ds.set (i+j) ((x*vs.getD j 0+ds.getD (i+j) 0+c)%4294967296)) ((x*vs.getD j 0+ds.getD (i+j) 0+c) / 4294967296):=by
 obtain⟨h1,h2,h3,h4⟩:=h;have hv:=xa7 hvs j;have hd:=xa7 h2 (i+j);have hp:x*vs.getD j 0<=4294967295*4294967295:=lA (by omega) (by omega);refine⟨by simpa using h1,xrx h2 _ (kB _ (by decide)),by omega,?_⟩;rw[xj1 vs j hl,oB];have hs:=xsg ds (i+j) ((x*vs.getD j 0+ds.getD (i+j) 0+c)%4294967296) (by omega);generalize hd':ds.getD (i+j) 0=d at *;generalize hv':vs.getD j 0=v at *;generalize hq:x*v+d+c=q at *;rw[show i+(j+1)=(i+j)+1 from rfl,xem];have e1:x*bp i*(v*bp j)=x*v*bp (i+j):=by
  rw[xnx,lC,lC,oT (bp i)]
 rw[e1];have e2:q / 4294967296*(4294967296*bp (i+j))+q%4294967296*bp (i+j)=(x*v)*bp (i+j)+d*bp (i+j)+c*bp (i+j):=by
  rw[<-lC,<-Nat.add_mul,kI (q / 4294967296),oL,<-hq,Nat.add_mul,Nat.add_mul]
 omega
theorem xpg{vs ds:List Nat}{x c j k:Nat}(hx:x<4294967296)(hvs:cH vs)(hds:cH ds)(hc:c<4294967296):
 x*vs.getD j 0<=18446744065119617025/\x*vs.getD j 0+ds.getD k 0<=18446744069414584320/\x*vs.getD j 0+ds.getD k 0+c<=18446744073709551615:=by
 have hv:=xa7 hvs j;have hd:=xa7 hds k;have hp:x*vs.getD j 0<=4294967295*4294967295:=lA (by omega) (by omega);omega
def Top(us vs:List Nat)(i:Nat)(ds:List Nat):Prop:=ds.length=8/\cH ds/\val ds=val (us.take i)*val vs%bp 8
theorem xr4(us vs:List Nat):Top us vs 0 (List.replicate 8 0):=⟨rfl,by intro d hd;simp at hd;omega,by simp[val]⟩
theorem xr5{us vs ds':List Nat}{N i c:Nat}(hN:N=val (us.take i)*val vs%bp 8)(hu:i<us.length)(hi:i<=8)(hvl:vs.length=8)(h:Mid vs N (us.getD i 0) i (8-i) ds' c):Top us vs (i+1) ds':=by
 obtain⟨h1,h2,h3,h4⟩:=h;refine⟨h1,h2,?_⟩;have hlt:=xsf ds' h2;rw[h1]at hlt;rw[show i+(8-i)=8 by omega]at h4;rw[xj1 us i hu,Nat.add_mul];have hs:=xnc vs (8-i) (by omega);have e:us.getD i 0*bp i*val vs=us.getD i 0*bp i*val (vs.take (8-i))+bp 8*(us.getD i 0*val (vs.drop (8-i))):=by
  rw[hs,oB];congr 1
  rw[show bp 8=bp i*bp (8-i) by rw[<-xnx];congr 1;omega];simp only[lC,oT]
 rw[e,<-lX,nO,Nat.add_mod,<-hN,Nat.add_mod_mod,<-h4,kI c,nO,jO hlt]
theorem xr3{us vs ds:List Nat}(hu:us.length=8)(h:Top us vs 8 ds):ds=dg 8 (val us*val vs):=by
 obtain⟨h1,h2,h3⟩:=h;rw[lG (by omega)]at h3;rw[<-xkt,<-h3,<-h1];exact(xie ds h2).symm
def Same(a b:List Nat)(k:Nat):Prop:=a.drop k=b.drop k
theorem xq9{a b:List Nat}{k:Nat}(h:Same a b (k+1))(ha:k<a.length)(hb:k<b.length)(he:a.getD k 0=b.getD k 0):Same a b k:=by
 unfold Same at *;rw[nA ha,nA hb,h];simp only[iO,iT ha,iT hb,Option.getD_some]at he;rw[he]
theorem xq8{a b:List Nat}{k:Nat}(h:Same a b (k+1))(ha:k<a.length)(hb:k<b.length)(sa:cH a)(hl:a.getD k 0<b.getD k 0):val a<val b:=by
 rw[xnc a (k+1) (by omega),xnc b (k+1) (by omega),h,xj1 a k ha,xj1 b k hb];have h1:=xsf (a.take k) (fun d hd=>sa d (List.mem_of_mem_take hd));rw[List.length_take,Nat.min_eq_left (by omega)]at h1;have h2:=mH (bp k) (Nat.succ_le_of_lt hl);rw[nX]at h2;omega
theorem xra{a b:List Nat}(h:Same a b 0):val a=val b:=by unfold Same at h;simpa using lD val h
def rt(s X k:Nat):Nat->Nat
 | 0=>0
 | n+1=>if (rt s X k n+2 ^ (s-1-n)) ^ k<=X then rt s X k n+2 ^ (s-1-n) else rt s X k n
theorem xmn(s X k:Nat)(hk:k≠0)(hX:X<(2 ^ s) ^ k):∀ n,n<=s->2 ^ (s-n) ∣ rt s X k n/\rt s X k n+2 ^ (s-n)<=2 ^ s/\rt s X k n ^ k<=X/\X<(rt s X k n+2 ^ (s-n)) ^ k:=by
 intro n;induction n with
 | zero=>intro _;refine⟨⟨0,rfl⟩,?_,?_,?_⟩<;>simp[rt,hX,Nat.zero_pow (Nat.pos_of_ne_zero hk)]
 | succ n ih=>
  intro hn;obtain⟨h1,h2,h3,h4⟩:=ih (by omega);have e1:s-n=s-1-n+1:=by omega
  have e2:s-(n+1)=s-1-n:=by omega
  rw[e1,mG]at h1 h2 h4;rw[e2,rt];have hd : 2 ^ (s-1-n) ∣ rt s X k n:=Nat.dvd_trans ⟨2,rfl⟩ h1;split
  ·rename_i hc
   refine⟨Nat.dvd_add hd (Nat.dvd_refl _),by omega,hc,?_⟩;rw[lX,<-Nat.mul_two];exact h4
  ·rename_i hc
   exact⟨hd,by omega,h3,by omega⟩
theorem xq2{a b X k:Nat}(h1:a ^ k<=X)(h2:X<(b+1) ^ k):a<=b:=by
 by_cases h:a<=b
 ·exact h
 ·exfalso
  have:(b+1) ^ k<=a ^ k:=Nat.pow_le_pow_left (by omega) k;omega
theorem xyh(s X k y:Nat)(hk:k≠0)(hX:X<(2 ^ s) ^ k)(h1:y ^ k<=X)(h2:X<(y+1) ^ k):rt s X k s=y:=by
 obtain⟨-,-,h3,h4⟩:=xmn s X k hk hX s (iM _);rw[mW,Nat.pow_zero]at h4;exact Nat.le_antisymm (xq2 h3 h2) (xq2 h1 h4)
def rootN(p k:Nat):Nat:=rt 69 (p*bp (2*k)) k 69
theorem xmi(p k s:Nat)(hp:p<=1000)(hk:k=2\/k=3)(hs : 69<=s):p*bp (2*k)<(2 ^ s) ^ k:=by
 have h1:p*bp (2*k)<(2 ^ 69) ^ k:=by
  have h0:p*bp (2*k)<=1000*bp (2*k):=mH _ hp;rcases hk with rfl | rfl
  ·exact mM h0 (by decide)
  ·exact mM h0 (by decide)
 exact iZ h1 (Nat.pow_le_pow_left (kS (by decide) hs) k)
theorem xq0(p k s:Nat)(hp:p<=1000)(hk:k=2\/k=3)(hs : 69<=s):rt s (p*bp (2*k)) k s=rootN p k:=by
 have hk0:k≠0:=by omega
 obtain⟨-,-,h3,h4⟩:=xmn 69 _ k hk0 (xmi p k 69 hp hk (by omega)) 69 (iM _);rw[mW,Nat.pow_zero]at h4;exact xyh s _ k _ hk0 (xmi p k s hp hk hs) h3 h4
theorem xk9(n:Nat):∀ v k,k<n->(dg n v).getD k 0=v / bp k%4294967296:=by
 induction n with
 | zero=>intro v k h;omega
 | succ n ih=>
  intro v k h;cases k with
  | zero=>simp[dg,xfh]
  | succ k=>
   rw[dg,List.getD_cons_succ,ih _ _ (by omega),xem,mY]
theorem xny(k:Nat):bp k=2 ^ (32*k):=by
 unfold bp;rw[Nat.pow_mul]
theorem xid(y b:Nat)(hb:b<256)(hy : 2 ^ (b+1) ∣ y)(hlt:y+2 ^ b<bp 8):
 (dg 8 y).set (b / 32) ((dg 8 y).getD (b / 32) 0 ||| 2 ^ (b%32))=dg 8 (y+2 ^ b)/\(dg 8 y).getD (b / 32) 0 ||| 2 ^ (b%32)<4294967296:=by
 have hq:b / 32<8:=by omega
 have hd:=xk9 8 y (b / 32) hq;have hdl:=xa7 (xa0 8 y) (b / 32);have hdv:(dg 8 y).getD (b / 32) 0%2 ^ (b%32+1)=0:=by
  obtain⟨t,rfl⟩:=hy;rw[hd,xny,show b+1=32*(b / 32)+(b%32+1) by omega,lF,lC,Nat.mul_div_cancel_left _ (kD _)];rw[show (4294967296:Nat)=2 ^ (b%32+1)*2 ^ (32-(b%32+1)) by rw[<-lF,show b%32+1+(32-(b%32+1))=32 by omega]];rw[Nat.mod_mul_right_mod,Nat.mul_mod_right]
 have hor:(dg 8 y).getD (b / 32) 0 ||| 2 ^ (b%32)=(dg 8 y).getD (b / 32) 0+2 ^ (b%32):=by
  have hp : 2 ^ (b%32)<2 ^ (b%32+1):=oW (by decide) (by omega);obtain⟨c,hc⟩:=Nat.dvd_of_mod_eq_zero hdv;have h:=Nat.shiftLeft_add_eq_or_of_lt (i:=b%32+1) (b:=2 ^ (b%32)) hp c;rw[Nat.shiftLeft_eq]at h;rw[hc,kI];exact h.symm
 have hol:(dg 8 y).getD (b / 32) 0 ||| 2 ^ (b%32)<4294967296:=by
  have:(2:Nat) ^ (b%32)<2 ^ 32:=oW (by decide) (by omega);exact oS (n:=32) (by simpa using hdl) this
 refine⟨?_,hol⟩;have hv:=xsg (dg 8 y) (b / 32) ((dg 8 y).getD (b / 32) 0 ||| 2 ^ (b%32)) (by rw[gR];exact hq);have hv2:val ((dg 8 y).set (b / 32) ((dg 8 y).getD (b / 32) 0 ||| 2 ^ (b%32)))=y+2 ^ b:=by
  have e3 : 2 ^ (b%32)*bp (b / 32)=2 ^ b:=by rw[xny,<-lF];congr 1;omega
  have e4:val (dg 8 y)=y:=by rw[xhw];exact jO (by omega)
  rw[e4]at hv;rw[show ((dg 8 y).getD (b / 32) 0 ||| 2 ^ (b%32))*bp (b / 32)=(dg 8 y).getD (b / 32) 0*bp (b / 32)+2 ^ b by rw[hor,Nat.add_mul,e3]]at hv;omega
 have hs:=xie _ (xrx (xa0 8 y) (b / 32) hol);rw[nN,gR,hv2]at hs;exact hs.symm
def top(p k:Nat):List Nat:=if k=2 then [0,0,0,0,p,0,0,0] else [0,0,0,0,0,0,p,0]
theorem xge(p k:Nat):(top p k).length=8:=by unfold top;split<;>rfl
theorem xjw(p k:Nat)(hp:p<=1000):cH (top p k):=by
 unfold top;split<;>(intro d hd;simp at hd;omega)
theorem xj2(p k:Nat)(hk:k=2\/k=3):val (top p k)=p*bp (2*k):=by
 rcases hk with rfl | rfl<;>(simp[top,val,bp];omega)
theorem xjp{s p k n y:Nat}(hk:k=2\/k=3)(hp:p<=1000)(hs : 69<=s)(hs2:s<=70)(hn:n<s)(hy:rt s (p*bp (2*k)) k n=y):
 2 ^ (s-1-n+1) ∣ y/\y+2 ^ (s-1-n)<bp 8/\val (dg 8 (y+2 ^ (s-1-n)))=y+2 ^ (s-1-n) /\
 val (dg 8 ((y+2 ^ (s-1-n)) ^ k))=(y+2 ^ (s-1-n)) ^ k /\
 rt s (p*bp (2*k)) k (n+1)=if (y+2 ^ (s-1-n)) ^ k<=p*bp (2*k) then y+2 ^ (s-1-n) else y:=by
 obtain⟨h1,h2,-,-⟩:=xmn s (p*bp (2*k)) k (by omega) (xmi p k s hp hk hs) n (by omega);rw[hy]at h1 h2;have e1:s-n=s-1-n+1:=by omega
 rw[e1]at h1 h2;rw[mG]at h2;have h3:(2:Nat) ^ s<=2 ^ 70:=kS (by decide) hs2;have hb:(2:Nat) ^ 70<bp 8:=by decide
 have hlt:y+2 ^ (s-1-n)<=2 ^ 70:=by omega
 have hpow:(y+2 ^ (s-1-n)) ^ k<bp 8:=by
  refine mM (Nat.pow_le_pow_left hlt k) ?_;rcases hk with rfl | rfl<;>decide
 refine⟨h1,by omega,by rw[xhw];exact jO (by omega),by rw[xhw];exact jO hpow,?_⟩;rw[rt,hy]
theorem xvk(y:Nat):(dg 8 y).getD 1 0*4294967296+(dg 8 y).getD 0 0=y%18446744073709551616:=by
 rw[xk9 8 y 1 (by decide),xk9 8 y 0 (by decide)];simp only[bp,Nat.pow_one,Nat.pow_zero,Nat.div_one];omega
end tabd
namespace arr
def LK(k:IntKind)(ds:List Nat):Array aE:=(ds.map fun d:Nat=>Value.int k (d:Int)).toArray
theorem gC(k:IntKind)(ds:List Nat)(i:Nat)(h:i<ds.length):(LK k ds)[i]? = some (.int k (ds.getD i 0:Nat)):=by
 simp[LK,iO,iT h]
theorem xdh(k:IntKind)(ds:List Nat)(i x:Nat):(LK k ds).setIfInBounds i (.int k (x:Int))=LK k (ds.set i x):=by
 simp[LK,List.map_set]
theorem xc2(k:IntKind)(ds:List Nat)(i x:Nat)(v:Int)(h:v=(x:Int)):(LK k ds).setIfInBounds i (.int k v)=LK k (ds.set i x):=by
 subst h;exact xdh k ds i x
theorem fE(k:IntKind)(ds:List Nat):(LK k ds).size=ds.length:=by simp[LK]
theorem gV(k:IntKind)(ds:List Nat):(LK k ds).all (·.oneCell')=true:=by
 rw[kM];intro v hv;simp only[LK,List.mem_toArray,nY]at hv;obtain⟨d,-,rfl⟩:=hv;rfl
@[go_sem] theorem setCell_drewN (w:G) (n:Nat) (a:Addr) (v:aE):(w.drewN n).setCell a v=(w.setCell a v).drewN n:=rfl
@[go_sem] theorem alloc_drewN (w:G) (n:Nat) (o:Obj):(w.drewN n).alloc o=(w.alloc o).drewN n:=rfl
theorem xcm{k:IntKind}{a b:Int}(h:a=b):Ending.returned (.int k a)=.returned (.int k b):=by rw[h]
theorem ret_b{a b:Bool}(h:a=b):Ending.returned (.bool a)=.returned (.bool b):=by rw[h]
theorem xbw{k:IntKind}{a b:Int}(h:a=b):Value.int k a=.int k b:=by rw[h]
theorem xdy(w:G)(n g:Nat):(w.drewN n).heap[g]? = w.heap[g]? := rfl
theorem cM(w:G)(o:Obj)(g:Nat)(h:g=w.heap.size):(w.alloc o).heap[g]? = some o:=by subst h;exact heap_alloc_last w o
theorem fF(w:G)(o:Obj)(g:Nat)(h:g<w.heap.size):(w.alloc o).heap[g]? = w.heap[g]? := Below.heap_alloc w o g h
theorem size_alloc(w:G)(o:Obj):(w.alloc o).heap.size=w.heap.size+1:=by
 show (w.heap.push o).size=_;simp
theorem aZ{w:G}{g i:Nat}{C:Array aE}{t:aH}{v:aE}(h:w.heap[g]? = some (Y C t (0,0)))(hv:C[i]? = some v):w.cell? ⟨g,i,none⟩=some v:=by
 rw[cell_of_row w g i C t (0,0) h,hv]
theorem below_setRow{B:Nat}(w:G)(g:Nat)(cs:Array aE)(h:B<=g):aF B w (w.setRow g cs):=
 ⟨rfl,rfl,rfl,by simp,fun k hk=>lW w g k cs (by omega)⟩
theorem fV{P:aI}{ops:Array Oper}{Q:Exit->Act->G->Prop}{rest:List Oper}{o:Oper}{a:Act}{w0:G}{old:Array aE}{t:aH}(hgd:o.guard=none)(ty:aH)(x y:Operand)(ho:o.op=.store ty x y)
 (cells:Array aE) (hx:a.eval x=aC (some ⟨w0.heap.size,0,none⟩)) (hy:a.eval y=I cells) (hi:(P.info? ty).map (·.size)=some cells.size) (hold:old.size=cells.size) (h1:cells.all (·.oneCell')=true) (hn:o.dst=none)
 (h:wpList P ops Q rest a (w0.alloc (Y cells t))):wpList P ops Q (o :: rest) a (w0.alloc (Y old t)):=
 iS hgd ty x y ho w0.heap.size cells hx hy t old (cM _ _ _ rfl) hi hold h1 (by rw[World.setRow_alloc_new,hn];exact h)
theorem xa2{P:aI}{ops:Array Oper}{C:G->Prop}{Q:Act->Prop}{rest:List Oper}{o:Oper}{a:Act}(hw:aL o (yielded ops a.tmps)=true)(ty:aH)(x:Operand)(ho:o.op=.load ty x)
 (g:Nat) (hx:a.eval x=aC (some ⟨g,0,none⟩)) (t:aH) (cs:Array aE) (d:TypeDesc) (hS:∀ w,C w->w.heap[g]? = some (Y cs t (0,0)))
 (hu:P.underlying ty=some d) (hd:(match d with | .struct _ | .array _ _=>true | _=>false)=true) (hi:(P.info? ty).map (·.size)=some cs.size)
 (h:wpQuiet P ops C Q rest (a.put o.dst (I cs))):wpQuiet P ops C Q (o :: rest) a:=by
 refine wpQuiet_step fun K hK=>?_
 rw[iP hw];refine⟨I cs,fun w hC=>?_,hK _ h⟩;unfold Oper.quietAt execOp;simp only[ho,hx,Instr.loadAt,Instr.sureAddr,lQ,mR,kQ,nM w g t ty cs (0,0) d (hS w hC) hu hd hi];exact⟨rfl,rfl⟩
theorem gM{w w':G}{g:Nat}{o:Obj}(h:w.heap[g]? = some o)(hC:∃ p:Regrown,w'=Sort.grow (redrawn w p.d) p.os):w'.heap[g]? = some o:=by
 obtain⟨p,rfl⟩:=hC;have hg:g<w.heap.size:=by
  by_cases hlt:g<w.heap.size
  ·exact hlt
  ·rw[lH (by omega)]at h;cases h
 rw[(jX w p.d p.os).block g hg,h]
structure U (p:Prop):Prop where
 o:p
theorem aQ{α : Type}(a : α):∃ c,U (a=c):=⟨a,⟨rfl⟩⟩
theorem xqk(r m:Nat)(h:(2:Nat) ^ r<m):((2:Int) ^ r)%(m:Int)=((2 ^ r:Nat):Int):=by
 have e:(2:Int) ^ r=((2 ^ r:Nat):Int):=by norm_cast
 rw[e,Int.emod_eq_of_lt (Int.natCast_nonneg _) (Int.ofNat_lt.2 h)]
theorem xpz(d r:Nat)(hd:d<4294967296)(hr:r<32):bits .or .u32 (d:Int) (2 ^ r%4294967296)=((d ||| 2 ^ r:Nat):Int):=by
 have h:(2:Nat) ^ r<4294967296:=by
  have:=oW (a:=2) (by decide) hr;simpa using this
 rw[<-u32_or_nat d (2 ^ r) hd h];exact lD _ (xqk r 4294967296 h)
theorem xwi(d r:Nat)(hd:d<4294967296)(hr:r<32):bits .or .u64 (d:Int) (2 ^ r%18446744073709551616)=((d ||| 2 ^ r:Nat):Int):=by
 have h:(2:Nat) ^ r<18446744073709551616:=by
  have:=oW (a:=2) (by decide) (show r<64 by omega);simpa using this
 rw[<-oF d (2 ^ r) (by omega) h];exact lD _ (xqk r 18446744073709551616 h)
theorem xp0(d r:Nat)(hd:d<4294967296)(hr:r<32):bits .or .u64 (d:Int) (IntKind.u64.wrap (2 ^ r))=((d ||| 2 ^ r:Nat):Int):=by
 rw[kA];exact xwi d r hd hr
theorem xkk(x y z c:Nat):(x:Int)*(y:Int)+(z:Int)+(c:Int)=((x*y+z+c:Nat):Int):=by
 rw[oM,oM,kV]
theorem xn2(x y z c:Nat):(z:Int)+(x:Int)*(y:Int)+(c:Int)=((x*y+z+c:Nat):Int):=by
 rw[Int.add_comm (z:Int),xkk]
theorem xtw(x y z c:Nat)(h:x*y+z+c<=18446744073709551615):bits .and .u64 ((z:Int)+(x:Int)*(y:Int)+(c:Int)) 4294967295=(((x*y+z+c)%4294967296:Nat):Int):=by
 rw[xn2,and_low32 _ (by omega) (by omega)];omega
theorem xty(x y z c:Nat):((z:Int)+(x:Int)*(y:Int)+(c:Int)) / 4294967296=(((x*y+z+c) / 4294967296:Nat):Int):=by
 rw[xn2,Int.natCast_ediv];rfl
theorem xtx(x y z c:Nat):((x:Int)*(y:Int)+(z:Int)+(c:Int))%4294967296=(((x*y+z+c)%4294967296:Nat):Int):=by
 rw[xkk,oE];rfl
theorem xtv(x y z c:Nat):((x:Int)*(y:Int)+(z:Int)+(c:Int)) / 4294967296=(((x*y+z+c) / 4294967296:Nat):Int):=by
 rw[xkk,Int.natCast_ediv];rfl
end arr
namespace mem
open arr
theorem xij(B:Nat)(w:G)(n:Nat):aF B w (w.drewN n):=⟨rfl,rfl,rfl,iM _,fun _ _=>rfl⟩
theorem xby(w:G)(o:Obj):zb w (w.alloc o):=(iR _ _).alloc (iM _) _
theorem size_setCell(w:G)(a:Addr)(v:aE):(w.setCell a v).heap.size=w.heap.size:=by simp[World.setCell]
theorem size_setCells(b:Nat):∀ (vs:List aE) (o:Nat) (w:G),(w.setCells b o vs).heap.size=w.heap.size
 | [],_,_=>rfl
 | v :: r,o,w=>by rw[World.setCells,size_setCells b r,size_setCell]
def sp(C:Array aE):Nat->List aE->Array aE
 | _,[]=>C
 | o,v :: r=>sp (C.setIfInBounds o v) (o+1) r
theorem heap_setCell{w:G}{g:Nat}{C:Array aE}{t:aH}{fr:Nat × Nat}(h:w.heap[g]? = some (Y C t fr))(o:Nat)(v:aE):(w.setCell ⟨g,o,none⟩ v).heap[g]? = some (Y (C.setIfInBounds o v) t fr):=by
 simp only[World.setCell,Array.getElem?_modify,h];simp
theorem xok{g:Nat}{t:aH}{fr:Nat × Nat}:∀ (vs:List aE) (o:Nat) {w:G} {C:Array aE},w.heap[g]? = some (Y C t fr)->(w.setCells g o vs).heap[g]? = some (Y (sp C o vs) t fr)
 | [],_,_,_,h=>h
 | v :: r,o,_,_,h=>xok r (o+1) (heap_setCell h o v)
theorem heap_setCells_other(g k:Nat)(hk:k≠g):∀ (vs:List aE) (o:Nat) (w:G),(w.setCells g o vs).heap[k]? = w.heap[k]?
 | [],_,_=>rfl
 | v :: r,o,w=>by
  rw[World.setCells,heap_setCells_other g k hk r,Below.heap_setCell _ _ _ _ hk]
structure At (g:Nat) (C:Array aE) (t:aH) (w w':G):Prop where
 os:w'.os=w.os
 tape:w'.tape=w.tape
 output:w'.output=w.output
 size:w.heap.size<=w'.heap.size
 row:w'.heap[g]? = some (Y C t (0,0))
 block:∀ k,k<w.heap.size->k≠g->w'.heap[k]? = w.heap[k]?
theorem At.refl{g:Nat}{C:Array aE}{t:aH}{w:G}(h:w.heap[g]? = some (Y C t (0,0))):At g C t w w:=⟨rfl,rfl,rfl,iM _,h,fun _ _ _=>rfl⟩
theorem At.trans{g:Nat}{C C':Array aE}{t t':aH}{a b c:G}(h:At g C t a b)(k:At g C' t' b c):At g C' t' a c:=
 ⟨k.os.trans h.os,k.tape.trans h.tape,k.output.trans h.output,jJ h.size k.size,k.row,fun i hi hg=>(k.block i (iZ hi h.size) hg).trans (h.block i hi hg)⟩
theorem At.lt{g:Nat}{C:Array aE}{t:aH}{w w':G}(h:At g C t w w'):g<w'.heap.size:=by
 by_cases hlt:g<w'.heap.size
 ·exact hlt
 ·have:=h.row;rw[lH (by omega)]at this;cases this
theorem At.later{g:Nat}{C:Array aE}{t:aH}{a b c:G}(h:At g C t a b)(k:zb b c):At g C t a c:=
 ⟨k.os.trans h.os,k.tape.trans h.tape,k.output.trans h.output,jJ h.size k.size,(k.block g h.lt).trans h.row,fun i hi hg=>(k.block i (iZ hi h.size)).trans (h.block i hi hg)⟩
theorem At.set{g o:Nat}{C:Array aE}{t:aH}{vs:List aE}{w w':G}(hg:w.heap[g]? = some (Y C t (0,0)))(hl:g<w.heap.size)(h:aF w.heap.size (w.setCells g o vs) w'):At g (sp C o vs) t w w':=by
 have hx:∀ (vs:List aE) (o:Nat) (w:G),(w.setCells g o vs).os=w.os/\(w.setCells g o vs).tape=w.tape/\(w.setCells g o vs).output=w.output:=by
  intro vs;induction vs with
  | nil=>intro o w;exact⟨rfl,rfl,rfl⟩
  | cons v r ih=>intro o w;exact ih (o+1) (w.setCell ⟨g,o,none⟩ v)
 have h1:=hx vs o w;refine⟨h.os.trans h1.1,h.tape.trans h1.2.1,h.output.trans h1.2.2,by have:=h.size;rw[size_setCells]at this;exact this,?_,fun k hk hkg=>?_⟩
 ·rw[h.block g hl];exact xok vs o hg
 ·rw[h.block k hk];exact heap_setCells_other g k hkg vs o w
theorem At.below{g B:Nat}{C:Array aE}{t:aH}{w w':G}(h:At g C t w w')(hB:B<=w.heap.size)(hg:B<=g):aF B w w':=
 ⟨h.os,h.tape,h.output,h.size,fun k hk=>h.block k (by omega) (by omega)⟩
theorem At.cell{g:Nat}{C:Array aE}{t:aH}{w w':G}(h:At g C t w w')(i:Nat):w'.cell? ⟨g,i,none⟩=C[i]? := cell_of_row w' g i C t (0,0) h.row
theorem At.frozen{g:Nat}{C:Array aE}{t:aH}{w w':G}(h:At g C t w w')(i:Nat):w'.frozen? ⟨g,i,none⟩=false:=frozen_of_row w' g i C t h.row
theorem At.other{g k:Nat}{C T:Array aE}{t tt:aH}{w w':G}(h:At g C t w w')(hk:k<w.heap.size)(hkg:k≠g)(hw:w.heap[k]? = some (Y T tt (0,0))):w'.heap[k]? = some (Y T tt (0,0)):=(h.block k hk hkg).trans hw
theorem bI{g:Nat}{C:Array aE}{t:aH}{fr:Nat × Nat}{w:G}(h:w.heap[g]? = some (Y C t fr)):g<w.heap.size:=by
 by_cases hlt:g<w.heap.size
 ·exact hlt
 ·rw[lH (by omega)]at h;cases h
end mem
section
open Go Go.RowKit arr mem
abbrev zB(w:G)(v:aE)(e:Ending)(w':G):Prop:=e=.returned v/\zb w w'
abbrev zE(w:G)(v:aE)(e:Ending)(w':G):Prop:=e=.returned v/\w'=w
abbrev bO(k l e t a b o s:Int):Array aE:=#[O J k,O J l,O J e,O J t,O J a,O J b,O J o,O J s]
theorem aP{α:Sort _}(a:α):∃ x,a=x:=⟨a,rfl⟩
theorem bB{a b:Int}(h:(a+9223372036854775808)%18446744073709551616-9223372036854775808=b:=by omega):J.wrap a=b:=by rw[iN];omega
theorem bK{w w1 w2:G}(A:U (zb w w1))(h:zb w1 w2):U (zb w w2):=⟨A.o.trans (h.mono A.o.size)⟩
theorem D{p:Prop}(h:p):U p:=⟨h⟩
theorem zhp{w W:G}{o:Obj}(h:w.alloc o=W):U (W.heap[w.heap.size]? = some o):=⟨by rw[<-h];exact cM _ _ _ rfl⟩
theorem zbm{w w1 w2:G}(h:zb w w1)(b:zb w1 w2):zb w w2:=h.trans (b.mono h.size)
theorem zba{w W:G}{o:Obj}(h:w.alloc o=W):U (zb w W):=⟨by rw[<-h];exact xby _ _⟩
theorem gW{W:G}{g:Nat}{c:Array aE}{t:aH}{f:Nat×Nat}(r:W.heap[g]? = some (Y c t f)):U (∀ w':G,zb W w'->w'.heap[g]? = some (Y c t f)):=⟨fun w' hb=>(hb.block _ (bI r)).trans r⟩
theorem zsz{A:Array aE}{n:Nat}{M:Option Nat}(s:U (A.size=n))(h:M=some n):U (M=some A.size):=⟨by rw[s.o];exact h⟩
theorem zA{P:aI}{md:Region.Mode}{ops:Array Oper}{Q:Exit->Act->G->Prop}{oi:Oper}{v:aE}{fuel:Nat}{listed:Array Bool}{a:Act}{w:G}(i:Nat)(h:wpAny P md ops Q fuel (listed.setIfInBounds i true) (a.put oi.dst v) w)(hi:ops[i]? = some oi:=by rfl)(hs:Region.noSelect ops=true:=by kernel_rfl)(hf:Region.free md ops listed i=true:=by kernel_rfl)(hr:(aK md ops listed).contains i=true:=by kernel_rfl)(hQ:∀ c a w,Q (.panic c) (a.put oi.dst v) w->Q (.panic c) a w:=by exact fun _ _ _ h=>h)(hy:Yields P ops oi v a:=by exact kW ⟨by rfl,by intro w;go_simp;first | done | with_reducible rfl⟩):wpAny P md ops Q (fuel+1) listed a w:=wpAny_take hi hs hf hr hQ hy h
theorem zan{a b c d:Prop}(x:a)(y:b)(z:c)(u:d):U (a/\b/\c/\d):=⟨⟨x,y,z,u⟩⟩
end
namespace bits8
open oct
theorem xjv(s:ByteArray)(k:Nat)(h:k<s.size):s.data.toList.take (k+1)=s.data.toList.take k ++ [s[k]]:=by
 rw[List.take_succ_eq_append_getElem (by simpa using h)];rfl
theorem xcm{k:IntKind}{a b:Int}(h:a=b):Ending.returned (.int k a)=.returned (.int k b):=by rw[h]
end bits8
namespace r01m
open Go
open oct bits8
def refRow(n m i:Nat):List UInt8:=(List.range m).map fun p=>if m-1-p<i then byteAt n (m-1-p) else 0
end r01m
namespace eQ
section
variable {P:aI} {ops:Array Oper} {md:Region.Mode} {C:G->Prop}
def heads(P:aI)(md:Region.Mode)(ops:Array Oper)(C:G->Prop)(n:Nat)(L:Array Bool->Act->Prop):Nat->Array Bool->Act->Prop
 | 0,b,a=>L b a
 | f+1,b,a=>aK md ops b≠[]/\∀ i∈aK md ops b,i<n/\qOp P ops C i (heads P md ops C n L f (b.setIfInBounds i true)) a
theorem xs1{n g:Nat}{L:Array Bool->Act->Prop}{Q:Exit->Act->G->Prop}(hL:∀ b a w,C w->L b a->wpAny P md ops Q g b a w):
 ∀ (f:Nat) (b:Array Bool) (a:Act) (w:G),C w->heads P md ops C n L f b a->wpAny P md ops Q (f+g) b a w:=by
 intro f;induction f with
 | zero=>intro b a w hw h;rw[kP];exact hL b a w hw h
 | succ f ih=>
  intro b a w hw h;rw[Nat.succ_add];exact⟨fun h0=>absurd h0 h.1,fun i hi=>wpOp_of_qOp hw (fun a' w' hw' k=>ih _ a' w' hw' k) (h.2 i hi).2⟩
theorem xik{n i j:Nat}{b:Array Bool}(hs:Region.sinkB md ops n=true)(hc:Region.chainB md ops n=true)(hn:n<ops.size)(inv:HeadInv md ops n b)(hin:i<n)(hi:i∈aK md ops b)(hj:j∈aK md ops b):j<n:=by
 by_cases h:j<n
 ·exact h
 ·exact absurd hj (tail_waits hs hc hn inv _ i rfl hin (mD.1 hi).1 j (by omega))
theorem xut{n i:Nat}{oi:Oper}{v:aE}{L:Array Bool->Act->Prop}(hi:ops[i]? = some oi)(hsel:∀ (j:Nat) (o:Oper) cs b,ops[j]? = some o->o.op≠.select cs b)
 (hs:Region.sinkB md ops n=true) (hc:Region.chainB md ops n=true) (hn:n<ops.size) (hin:i<n) (hL:∀ b a,L b a->∀ j∈aK md ops b,n<=j) (f:Nat):
 ∀ (b:Array Bool) (a:Act),HeadInv md ops n b ->
  (∀ j oj,ops[j]? = some oj->j≠i->b.getD j true=false->(∀ e∈oj.after,Region.binds md e=true->e.on≠i)->oi.apart ops oj=true) ->
  i∈aK md ops b->YieldsIn P ops C oi v a->heads P md ops C n L f (b.setIfInBounds i true) (a.put oi.dst v)->heads P md ops C n L (f+1) b a:=by
 induction f with
 | zero=>
  intro b a inv _ hr hy H;refine⟨List.ne_nil_of_mem hr,fun j hj=>⟨xik hs hc hn inv hin hr hj,?_⟩⟩;by_cases e:j=i
  ·rw[e];exact hy.qOp hi H
  ·have h1:=hL _ _ H j (nB hj e);have h2:=xik hs hc hn inv hin hr hj;omega
 | succ f ih=>
  intro b a inv hap hr hy H;refine⟨List.ne_nil_of_mem hr,fun j hj=>⟨xik hs hc hn inv hin hr hj,?_⟩⟩;by_cases e:j=i
  ·rw[e];exact hy.qOp hi H
  ·obtain⟨hju,oj,hoj,hall⟩:=mD.1 hj;have hno:∀ x∈oj.after,Region.binds md x=true->x.on≠i:=fun x hx hb h=>by
    have h1:=hall x hx hb;rw[h,getD_both (mD.1 hr).1]at h1;cases h1
   have hq:=qOp_put hoj (hap j oj hoj e hju hno) (fun cs b=>hsel i oi cs b hi) (fun cs b=>hsel j oj cs b hoj) hy (H.2 j (nB hj e)).2;refine qOp_mono (fun a' h3=>ih _ a' (inv.set hj (xik hs hc hn inv hin hr hj)) (fun k ok hk hki hku hkn=>hap k ok hk hki ?_ hkn) (nB hr (Ne.symm e)) h3.1 ?_) hq
   ·by_cases hjk:j=k
    ·rw[<-hjk];exact hju
    ·rwa [lM true hjk]at hku
   ·rw[mP _ _ e];exact h3.2
theorem xuu{n g:Nat}{Lq:Act->Prop}(hsel:Region.noSelect ops=true)(hs:Region.sinkB md ops n=true)(hc:Region.chainB md ops n=true)(hn:n<ops.size)(l:List Oper):
 ∀ (k:Nat) (b:Array Bool) (a:Act),(∀ j,j<l.length->l[j]? = ops[k+j]?)->k+l.length=n->HeadInv md ops n b->Region.lexHead md ops g l.length k b=true->wpQuiet P ops C Lq l a ->
  heads P md ops C n (fun b' a'=>Region.seqB md ops g n b'=true/\Lq a') l.length b a:=by
 induction l with
 | nil=>
  intro k b a _ hk inv hB h;have e:k=n:=hk;rw[<-e];exact⟨hB,h⟩
 | cons o l ih=>
  intro k b a hl hk inv hB h;have h0:ops[k]? = some o:=(hl 0 (by simp)).symm;have hkl:k+(l.length+1)=n:=hk;simp only[mF,Region.lexHead,jQ,List.contains_iff_mem]at hB;obtain⟨v,hy,hK⟩:=yieldsIn_of_qOp (K:=wpQuiet P ops C Lq l) h0 (by unfold qOp;simp only[h0];exact h);exact xut h0 (nJ hsel) hs hc hn (by omega) (fun b' a' hb=>seqB_ready hb.1) l.length b a inv (Region.free_spec h0 hB.1.2) hB.1.1 hy
   (ih (k+1) _ _ (fun j hj=>by have h1:=hl (j+1) (by simp;omega);rw[Nat.add_right_comm,lX];exact h1) (by omega) (inv.set hB.1.1 (by omega)) hB.2 hK)
end
theorem xxn{P:aI}{id:Nat}{Q:Exit->Act->G->Prop}{a:Act}{w:G}{l:List Oper}{C:G->Prop}(n:Nat)(hm:P.follows .mixedOrders=true)(hB:Region.lexTailB .any l.toArray n=true)(hC:C w.drew)
 (h:wpQuiet P l.toArray C (fun a'=>∀ w',C w'->wpList P l.toArray Q (l.drop n) a' w') (l.take n) a):(Code.region id l.toArray true).wp P Q a w:=by
 simp only[Region.lexTailB,jQ,kN]at hB;obtain⟨⟨⟨⟨hsel,hn⟩,hs⟩,hc⟩,hx⟩:=hB;have hnl:n<l.length:=by simpa using hn
 have hd:(l.drop n).length=l.toArray.size-n:=by simp
 have ht:(l.take n).length=n:=by simp;omega
 have inv:HeadInv .any l.toArray n (Array.replicate l.toArray.size false):=
  ⟨by simp,fun j oj _ hl=>absurd hl (by rw[getD_replicate_false];decide),fun t _ hts=>getD_in (by simpa using hts) (getD_replicate_false _ _)⟩
 have H:=xuu (md:=.any) (C:=C) (g:=l.toArray.size-n) hsel hs hc hn (l.take n) 0 _ a (fun j hj=>by
  rw[ht]at hj;simp[hj]) (by omega) inv (by rw[ht];exact hx) h
 have hw:wpAny P .any l.toArray Q ((l.take n).length+(l.toArray.size-n)) (Array.replicate l.toArray.size false) a w.drew:=
  xs1 (fun b a' w' hw' hb=>by
   have h1:=wpAny_of_seq (md:=.any) (Q':=Q) (l.drop n) n b a' w' (fun j=>by simp[List.getElem?_drop]) (by rw[hd];exact hb.1) (hb.2 w' hw');rwa [hd]at h1) _ _ _ _ hC H
 rw[ht,show n+(l.toArray.size-n)=l.toArray.size by omega]at hw;exact oC hm hw
theorem xb8{P:aI}{id:Nat}{Q:Exit->Act->G->Prop}{a:Act}{w:G}{l:List Oper}(n:Nat)(hm:P.follows .mixedOrders=true)(hB:Region.lexTailB .any l.toArray n=true)
 (h:wpQuiet P l.toArray (fun w'=>∃ p:Regrown,w'=Go.Sort.grow (redrawn w p.d) p.os) (fun a'=>∀ w',(∃ p:Regrown,w'=Go.Sort.grow (redrawn w p.d) p.os)->wpList P l.toArray Q (l.drop n) a' w') (l.take n) a):(Code.region id l.toArray true).wp P Q a w:=
 xxn n hm hB (regrown_of_below (iR _ _).drew) h
end eQ
namespace qops
open arr
theorem xf8{P:aI}{id:Nat}{Q:Exit->Act->G->Prop}{a:Act}{w:G}{l:List Oper}(hm:P.follows .mixedOrders=true)(hB:Region.lexB .any l.toArray=true)
 (h:∀ ops:Array Oper,U (l.toArray=ops)->wpQuiet P ops (fun w'=>∃ p:Regrown,w'=Go.Sort.grow (redrawn w p.d) p.os) (fun a'=>∀ w',(∃ p:Regrown,w'=Go.Sort.grow (redrawn w p.d) p.os)->Q .normal a' w') l a):(Code.region id l.toArray true).wp P Q a w:=
 mA hm hB (h _ ⟨rfl⟩)
theorem wpQuiet_skip{P:aI}{ops:Array Oper}{C:G->Prop}{Q:Act->Prop}{rest:List Oper}{o:Oper}{a:Act}(hw:aL o (yielded ops a.tmps)=false)(h:wpQuiet P ops C Q rest (a.put o.dst undef)):wpQuiet P ops C Q (o :: rest) a:=
 wpQuiet_step fun K hK=>by rw[iQ (by rw[hw];decide)];exact hK _ h
theorem wpQuiet_want{P:aI}{ops:Array Oper}{C:G->Prop}{Q:Act->Prop}{rest:List Oper}{o:Oper}{a:Act}(hw:aL o (yielded ops a.tmps)=true)
 (h:∀ K:Act->Prop,(∀ a,wpQuiet P ops C Q rest a->K a)->o.quiet P a C K):wpQuiet P ops C Q (o :: rest) a:=
 wpQuiet_step fun K hK=>by rw[iP hw];exact h K hK
end qops
namespace tabm
def ch:Nat->Nat->Nat
 | _,0=>1
 | 0,_+1=>0
 | n+1,k+1=>ch n k+ch n (k+1)
def bs(a n:Nat):Nat->Nat
 | 0=>0
 | m+1=>bs a n m+ch n m*a ^ m
def noDiv(p:Nat):Nat->Nat->Bool
 | 0,_=>true
 | f+1,k=>(p%k != 0) && noDiv p f (k+1)
def pwp(p x n:Nat):Nat:=x ^ n%p
def pw(x n:Nat):Nat:=pwp 8380417 x n
theorem pw_lt(x n:Nat):pw x n<8380417:=kB _ (by omega)
def pwk(x n r s m:Nat):Prop:=r*s ^ m%8380417=pw x n
theorem xqp(x n:Nat):pwk x n 1 (x%8380417) n:=by
 unfold pwk pw pwp;rw[Nat.one_mul,<-Nat.pow_mod]
theorem xqn(x n r s m:Nat)(h:pwk x n r s m)(h2:m%2=0):pwk x n r (s*s%8380417) (m / 2):=by
 unfold pwk at *;rw[<-h,Nat.mul_mod,<-Nat.pow_mod,<-Nat.mul_mod,<-Nat.pow_two,<-Nat.pow_mul,show 2*(m / 2)=m by omega]
theorem xqo(x n r s m:Nat)(h:pwk x n r s m)(h2:m%2=1):pwk x n (r*s%8380417) (s*s%8380417) (m / 2):=by
 unfold pwk at *;rw[<-h,Nat.mul_mod,Nat.mod_mod,<-Nat.pow_mod,<-Nat.mul_mod,<-Nat.pow_two,<-Nat.pow_mul,lC,<-Nat.pow_succ',
  show (2*(m / 2)).succ=m by omega]
theorem xqm(x n r s:Nat)(h:pwk x n r s 0)(hr:r<8380417):r=pw x n:=by
 unfold pwk at h;rw[<-h,Nat.pow_zero,oA,jO hr]
def pwI(x n:Int):Int:=if x<0\/n<0 then 0 else (pw x.toNat n.toNat:Nat)
end tabm
namespace primm
def ph:List Nat:=[2,3,5,7,11,13,17,19,23,29,31,37,41,43,47,53,59,61,67,71,73,79,83,89,97,101,103,107,109,113,127,131,137,139,149,151,157,163,167,173,179,181,191,193,197,199,211,223,227,229,233,239,241,251,257,263,269,271,277,281,283,293,307,311,313,317,331,337,347,349,353,359,367,373,379,383,389,397,401,409,419,421,431,433,439,443,449,457,461,463,467,479,487,491,499,503,509,521,523,541]
def pl(x:Nat):List Nat:=ph.filter (fun p=>p<x)
def iG(l:List Nat)(x:Nat):Bool:=l.any (fun p=>x%p==0)
def pr(n:Int):List Nat:=ph.take n.toNat
theorem xhc:ph.length=100:=by decide
theorem xqe:∀ p∈ph,2<=p/\p<=541:=by decide
def okAt(x:Nat):Bool:=
 if iG (pl x) x then pl (x+1)==pl x else pl (x+1)==pl x ++ [x]
theorem ok_all:(List.range 542).all (fun x=>x<2 || (okAt x && (pl x==ph.take (pl x).length)))=true:=by decide +kernel
theorem xlw{x:Nat}(h1 : 2<=x)(h2:x<542):okAt x=true/\pl x=ph.take (pl x).length:=by
 have h:=lN.1 ok_all x (by simpa using h2);simp only[nW,kN,jQ,lL]at h;rcases h with h | h
 ·omega
 ·exact h
theorem xec:pl 2=[]:=by decide
theorem xqi:pl 542=ph:=by decide +kernel
theorem xja{x:Nat}(h1 : 2<=x)(h2:x<542)(hd:iG (pl x) x=true):pl (x+1)=pl x:=by
 have h:=(xlw h1 h2).1;unfold okAt at h;rw[iP hd]at h;simpa using h
theorem xf4{x:Nat}(h1 : 2<=x)(h2:x<542)(hd:iG (pl x) x=false):pl (x+1)=pl x ++ [x]:=by
 have h:=(xlw h1 h2).1;unfold okAt at h;rw[iQ (by simp[hd])]at h;simpa using h
theorem xwy{x:Nat}(h1 : 2<=x)(h2:x<=542):pl x=ph.take (pl x).length:=by
 by_cases h:x<542
 ·exact(xlw h1 h).2
 ·obtain rfl:x=542:=by omega
  rw[xqi,List.take_length]
theorem xf3(x:Nat):(pl x).length<=100:=by
 rw[<-xhc];exact List.length_filter_le _ _
theorem xjb{x p:Nat}(h:p∈pl x) : 2<=p/\p<=541:=xqe p (List.mem_filter.1 h).1
theorem xjc{x:Nat}(h2:x<=542)(hl:(pl x).length<100):x<542:=by
 by_cases h:x<542
 ·exact h
 ·obtain rfl:x=542:=by omega
  rw[xqi,xhc]at hl;omega
theorem xjd{x:Nat}{n:Int}(h1 : 2<=x)(h2:x<=542)(hl:n<=100->(pl x).length=n.toNat)(hg : 100<n->(pl x).length=100):pl x=pr n:=by
 have h:=xwy h1 h2;unfold pr;by_cases hn:n<=100
 ·rw[hl hn]at h;exact h
 ·rw[hg (by omega)]at h;rw[h,lG (by rw[xhc];omega),lG (by rw[xhc];omega)]
theorem xeq(l:List Nat)(p x:Nat):iG (l ++ [p]) x=(iG l x || (x%p==0)):=by simp[iG]
theorem xua{l:List Nat}{k x:Nat}(hk:k<l.length)(h:x%l.getD k 0=0):iG l x=true:=by
 rw[iO,iT hk]at h;exact List.any_eq_true.2 ⟨l[k],kZ hk,by simpa using h⟩
theorem xjv{l:List Nat}{k:Nat}(hk:k<l.length):l.take (k+1)=l.take k ++ [l.getD k 0]:=by
 rw[List.take_succ_eq_append_getElem hk,iO,iT hk];rfl
end primm
namespace fB
open Go
open tabm tabd primm
def lstep(r:Nat):Nat:=if 255<r*2 then (r*2) ^^^ 369 else r*2
def lf:Nat->Nat
 | 0=>1
 | t+1=>lstep (lf t)
def rl:Nat->List Nat
 | 0=>List.replicate 24 0
 | t+1=>if lf t%2=1 then (rl t).set (t / 7) ((rl t).getD (t / 7) 0 ||| 2 ^ (2 ^ (t%7)-1)) else rl t
theorem xvm:∀ r,r<256->lstep r<256:=by decide +kernel
theorem lf_le(t:Nat):lf t<256:=by
 induction t with
 | zero=>decide
 | succ t ih=>exact xvm _ ih
theorem xc7(t:Nat):(rl t).length=24:=by
 induction t with
 | zero=>rfl
 | succ t ih=>rw[rl];split<;>simp[ih]
theorem xnt(k:Nat)(h:k<7) : 2 ^ (2 ^ k-1)<18446744073709551616:=by
 have : 2 ^ k<=2 ^ 6:=kS (by decide) (by omega);have h2 : 2 ^ (2 ^ k-1)<2 ^ 64:=oW (by decide) (by omega);simpa using h2
theorem xmf(t:Nat):∀ d∈rl t,d<18446744073709551616:=by
 induction t with
 | zero=>intro d hd;simp[rl]at hd;omega
 | succ t ih=>
  intro d hd;rw[rl]at hd;split at hd
  ·rcases List.mem_or_eq_of_mem_set hd with h | h
   ·exact ih d h
   ·rw[h];have h1:(rl t).getD (t / 7) 0<2 ^ 64:=by
     rw[iO];by_cases hk:t / 7<(rl t).length
     ·rw[iT hk];exact Nat.lt_of_lt_of_eq (ih _ (kZ hk)) (by decide)
     ·rw[jY (by omega)];decide
    exact Nat.lt_of_lt_of_eq (oS h1 (Nat.lt_of_lt_of_eq (xnt (t%7) (kB _ (by decide))) (by decide))) (by decide)
  ·exact ih d hd
theorem xqy(t i:Nat):(rl t).getD i 0<18446744073709551616:=by
 rw[iO];by_cases hk:i<(rl t).length
 ·rw[iT hk];exact xmf t _ (kZ hk)
 ·rw[jY (by omega)];decide
theorem xqz{i k:Nat}(hk:k<7)(h:lf (7*i+k)%2=1):rl (7*i+k+1)=(rl (7*i+k)).set i ((rl (7*i+k)).getD i 0 ||| 2 ^ (2 ^ k-1)):=by
 rw[rl,iP h,show (7*i+k) / 7=i by omega,show (7*i+k)%7=k by omega]
theorem xqx{t:Nat}(h:¬ lf t%2=1):rl (t+1)=rl t:=by rw[rl,iQ h]
theorem xo1{t:Nat}(h : 255<lf t*2):lf (t+1)=(lf t*2) ^^^ 369:=by rw[lf,lstep,iP h]
theorem lf_in{t:Nat}(h:¬ 255<lf t*2):lf (t+1)=lf t*2:=by rw[lf,lstep,iQ h]
theorem xsl:∀ r:Nat,r<256->bits .xor J ((r:Int)*2) 369=(((r*2) ^^^ 369:Nat):Int):=by decide +kernel
theorem xh5:∀ r:Nat,r<256->(bits .and J ((r:Int)*2) 256 != 0)=decide (255<r*2):=by decide +kernel
theorem xyv:∀ m:Nat,m<7->IntKind.u64.wrap (2 ^ min (IntKind.u64.wrap (IntKind.u64.wrap (2 ^ m)-1)).toNat 64)=((2 ^ (2 ^ m-1):Nat):Int):=by decide +kernel
theorem xp2(d m:Nat)(hd:d<18446744073709551616)(hm:m<7):
 bits .or .u64 (d:Int) (IntKind.u64.wrap (2 ^ min (IntKind.u64.wrap (IntKind.u64.wrap (2 ^ m)-1)).toNat 64))=((d ||| 2 ^ (2 ^ m-1):Nat):Int):=by
 rw[xyv m hm,oF d _ hd (xnt m hm)]
def xy:Nat->Nat × Nat
 | 0=>(1,0)
 | t+1=>((xy t).2,(2*(xy t).1+3*(xy t).2)%5)
def tl:Nat->List Nat
 | 0=>List.replicate 25 0
 | t+1=>(tl t).set ((xy t).1+5*(xy t).2) ((t+1)*(t+2) / 2%64)
theorem xy_lt(t:Nat):(xy t).1<5/\(xy t).2<5:=by
 induction t with
 | zero=>decide
 | succ t ih=>simp only[xy];omega
theorem xc9(t:Nat):(tl t).length=25:=by
 induction t with
 | zero=>rfl
 | succ t ih=>simp[tl,ih]
def rvTo(n:Nat):Nat->Nat
 | 0=>0
 | i+1=>rvTo n i ||| (n / 2 ^ i%2)*2 ^ (7-i)
def rv(n:Nat):Nat:=rvTo n 8
theorem xxx:∀ n:Nat,n<256->Lib.rev8 (n:Int)=(rv n:Int):=by decide +kernel
theorem rv_lt:∀ n:Nat,n<256->rv n<256:=by decide +kernel
def zt(n:Nat):Nat:=pw 1753 (rv n)
def zl:Nat->List Nat
 | 0=>List.replicate 256 0
 | n+1=>(zl n).set n (zt n)
theorem xgi(n:Nat):(zl n).length=256:=by
 induction n with
 | zero=>exact List.length_replicate
 | succ n ih=>simp[zl,ih]
theorem xsm(n:Nat):∀ j,j<n->n<=256->(zl n).getD j 0=zt j:=by
 induction n with
 | zero=>intro j h;omega
 | succ n ih=>
  intro j hj hn;rw[zl,iO,nS];by_cases h:n=j
  ·subst h;rw[iP rfl,iP (by rw[xgi];omega)];rfl
  ·rw[iQ h,<-iO];exact ih j (by omega) (by omega)
end fB
end Go.Proofs.YtomphjajkkddkaaGreatDoor
