/-
  HeldA's steps with their looks in one. No program is named here. Conditions: as each theorem says. P
-/
import Derived.Test.YtomphjajkkddkaaGreatDoorZt02
import Derived.Test.YtomphjajkkddkaaGreatDoorZt01
import Derived.Test.YtomphjajkkddkaaGreatDoorProg
import Derived.Test.YtomphjajkkddkaaGreatDoorRows
import Derived.StillTailTactics
import Derived.BigQuiet
import Derived.ChangeKeysEq
import Derived.LaidMore
import Derived.OpenShut
import Derived.Stop.Joined
set_option maxRecDepth 100000
set_option maxHeartbeats 16000000
namespace Go.Proofs.YtomphjajkkddkaaGreatDoor.heldb
open Go Go.RowKit
open helda
def tk (ops:Array Oper) (b:Array Bool) (k:Nat) (o:Oper) (a:Act):Bool:=Region.wanted o (yielded ops a.tmps) && (Region.noSelect ops && (Region.free .any ops b k && (Region.ready .any ops b).contains k))
def st (ops:Array Oper) (b:Array Bool) (k:Nat) (o:Oper) (a:Act):Bool:=Region.wanted o (yielded ops a.tmps) && (Region.ready .any ops b == [k])
section
variable {P:Program} {ops:Array Oper} {Q:Exit→Act→World→Prop} {S:World→Prop}
theorem tk_is {b:Array Bool} {k:Nat} {o:Oper} {a:Act} (h:tk ops b k o a=true):Region.wanted o (yielded ops a.tmps)=true∧Region.noSelect ops=true∧Region.free .any ops b k=true∧(Region.ready .any ops b).contains k=true:=by
 unfold tk at h
 rw[Bool.and_eq_true,Bool.and_eq_true,Bool.and_eq_true]at h
 exact h
theorem hk_t {b:Array Bool} {k:Nat} {ks:List Nat} {o:Oper} {rest:List Oper} {a:Act} {w:World} {v:Value} (hc:tk ops b k o a=true)
 (hQ:∀ c a w,Q (.panic c) (a.put o.dst v) w→Q (.panic c) a w) (hy:∀ w,S w→(execOp a.eval o).run P w=.ok (.value v) w) (hS:S w) (h:HK P ops Q S (b.setIfInBounds k true) rest ks (a.put o.dst v) w):HK P ops Q S b (o :: rest) (k :: ks) a w:=by
 obtain⟨h1,h2,h3,h4⟩:=tk_is hc
 exact hk_take h1 h2 h3 h4 hQ hy hS h
theorem hk_l {b:Array Bool} {k:Nat} {ks:List Nat} {o:Oper} {rest:List Oper} {a:Act} {w:World} (hc:tk ops b k o a=true)
 (hQ:∀ v c a w,Q (.panic c) (a.put o.dst v) w→Q (.panic c) a w) (ty:TypeId) (x:Operand) (ho:o.op=.load ty x)
 (g:Nat) (hx:a.eval x=.pointer (some ⟨g,0,none⟩)) (t:TypeId) (cs:Array Value) (d:TypeDesc) (hC:∀ w,S w→w.heap[g]? = some (.cells cs t (0,0)))
 (hu:P.underlying ty=some d) (hd:(match d with | .struct _ | .array _ _=>true | _=>false)=true) (hz:(P.info? ty).map (·.size)=some cs.size) (hS:S w)
 (h:HK P ops Q S (b.setIfInBounds k true) rest ks (a.put o.dst (.agg cs)) w):HK P ops Q S b (o :: rest) (k :: ks) a w:=by
 obtain⟨h1,h2,h3,h4⟩:=tk_is hc
 exact hk_load h1 h2 h3 h4 hQ ty x ho g hx t cs d hC hu hd hz hS h
theorem hk_m {b:Array Bool} {k:Nat} {ks:List Nat} {o:Oper} {rest:List Oper} {a:Act} {w:World} (hc:tk ops b k o a=true)
 (hQ:∀ v c a w,Q (.panic c) (a.put o.dst v) w→Q (.panic c) a w) (ty:TypeId) (x:Operand) (ho:o.op=.load ty x)
 (g n:Nat) (hx:a.eval x=.pointer (some ⟨g,n,none⟩)) (cs:Array Value) (d:TypeDesc) (hC:∀ w,S w→w.rangeAt g n cs.toList)
 (hu:P.underlying ty=some d) (hd:d.isRow=true) (hz:(P.info? ty).map (·.size)=some cs.toList.length) (hS:S w)
 (h:HK P ops Q S (b.setIfInBounds k true) rest ks (a.put o.dst (.agg cs)) w):HK P ops Q S b (o :: rest) (k :: ks) a w:=by
 refine hk_t hc (hQ _) (fun w hw2=>?_) hS h
 unfold execOp
 simp only[ho,hx,run_loadAt_mid w g n ty cs.toList d (hC w hw2) hu hd hz,Sem.run_bind,Sem.run_pure,Result.andThen_ok]
theorem hk_b {b:Array Bool} {k:Nat} {ks:List Nat} {o:Oper} {rest:List Oper} {a:Act} {w:World} (hc:tk ops b k o a=true)
 (hQ:∀ v c a w,Q (.panic c) (a.put o.dst v) w→Q (.panic c) a w) (v:Value) (hy:∀ w,(execOp a.eval o).run P w=.ok (.value v) w) (hS:S w)
 (h:HK P ops Q S (b.setIfInBounds k true) rest ks (a.put o.dst v) w):HK P ops Q S b (o :: rest) (k :: ks) a w:=hk_t hc (hQ _) (fun w _=>hy w) hS h
theorem hk_s {b:Array Bool} {k:Nat} {ks:List Nat} {o:Oper} {rest:List Oper} {a:Act} {w:World} (hc:st ops b k o a=true)
 (h:∀ K:Act→World→Prop,(∀ a' w',S w'→HK P ops Q S (b.setIfInBounds k true) rest ks a' w'→K a' w')→o.wp P a w K Q):HK P ops Q S b (o :: rest) (k :: ks) a w:=by
 unfold st at hc
 rw[Bool.and_eq_true,beq_iff_eq]at hc
 exact hk_step hc.1 hc.2 h
theorem pa {α : Type} (l:List α) (i:Nat) (a : α):l.toArray.setIfInBounds i a=(l.set i a).toArray:=List.setIfInBounds_toArray ..
theorem pb {α : Type} (x a : α) (xs:List α):(x :: xs).set 0 a=a :: xs:=rfl
theorem pc {α : Type} (x a : α) (xs:List α) (n:Nat):(x :: xs).set (n+1) a=x :: xs.set n a:=rfl
theorem fa {α β : Type} (f : α → Option β):List.filterMap f []=[]:=rfl
end
end Go.Proofs.YtomphjajkkddkaaGreatDoor.heldb
namespace Go.Proofs.YtomphjajkkddkaaGreatDoor
namespace kecm
set_option linter.unusedVariables false
open Go.RowKit
open arr
def rol (x k:Nat):Nat:=x*2 ^ k%18446744073709551616 ||| x / 2 ^ (64-k)
theorem bit_off (x i:Nat) (hx:x<18446744073709551616) (hi : 64≤i):x.testBit i=false:=
 Nat.testBit_lt_two_pow (Nat.lt_of_lt_of_le hx (Nat.pow_le_pow_right (n:=2) (by decide) hi))
theorem rol_lt (x k:Nat) (hx:x<18446744073709551616):rol x k<18446744073709551616:=
 Nat.or_lt_two_pow (n:=64) (Nat.mod_lt _ (by decide)) (Nat.lt_of_le_of_lt (Nat.div_le_self _ _) hx)
theorem eq_bits (x y:Nat) (hx:x<18446744073709551616) (hy:y<18446744073709551616) (h:∀ i,i<64→x.testBit i=y.testBit i):x=y:=by
 apply Nat.eq_of_testBit_eq
 intro i
 by_cases hi:i<64
 ·exact h i hi
 ·rw[bit_off x i hx (by omega),bit_off y i hy (by omega)]
theorem xor_lt (x y:Nat) (hx:x<18446744073709551616) (hy:y<18446744073709551616):x ^^^ y<18446744073709551616:=Nat.xor_lt_two_pow (n:=64) hx hy
theorem and_lt (x y:Nat) (hx:x<18446744073709551616):x &&& y<18446744073709551616:=Nat.lt_of_le_of_lt Nat.and_le_left hx
def pc (x:Nat):Nat:=((List.range 64).map fun i=>(x.testBit i).toNat).sum
def g (a:List Nat) (i:Nat):Nat:=a.getD i 0
structure St (a:List Nat):Prop where
 len:a.length=25
 lt:∀ i,g a i<18446744073709551616
def mkS (f:Nat→Nat):List Nat:=(List.range 25).map f
theorem mkS_len (f:Nat→Nat):(mkS f).length=25:=by simp[mkS]
theorem mkS_g (f:Nat→Nat) (i:Nat) (h:i<25):g (mkS f) i=f i:=by simp[g,mkS,List.getD_eq_getElem?_getD,h]
theorem mkS_out (f:Nat→Nat) (i:Nat) (h : 25≤i):g (mkS f) i=0:=by simp[g,mkS,List.getD_eq_getElem?_getD,h]
theorem mkS_st (f:Nat→Nat) (h:∀ i,i<25→f i<18446744073709551616):St (mkS f):=⟨mkS_len f,fun i=>by
 by_cases hi:i<25
 ·rw[mkS_g f i hi];exact h i hi
 ·rw[mkS_out f i (by omega)];decide⟩
theorem st_ext {a b:List Nat} (ha:a.length=25) (hb:b.length=25) (h:∀ i,i<25→g a i=g b i):a=b:=by
 apply List.ext_getElem (ha.trans hb.symm)
 intro i h1 h2
 have:=h i (by omega)
 simpa [g,List.getD_eq_getElem?_getD,List.getElem?_eq_getElem h1,List.getElem?_eq_getElem h2] using this
theorem mkS_eta {a:List Nat} (ha:a.length=25):mkS (g a)=a:=st_ext (mkS_len _) ha fun i hi=>mkS_g _ i hi
def kc (a:List Nat) (x:Nat):Nat:=g a x ^^^ g a (x+5) ^^^ g a (x+10) ^^^ g a (x+15) ^^^ g a (x+20)
theorem kc_lt {a:List Nat} (h:St a) (x:Nat):kc a x<18446744073709551616:=xor_lt _ _ (xor_lt _ _ (xor_lt _ _ (xor_lt _ _ (h.lt _) (h.lt _)) (h.lt _)) (h.lt _)) (h.lt _)
def kd (a:List Nat) (x:Nat):Nat:=kc a ((x+4)%5) ^^^ rol (kc a ((x+1)%5)) 1
theorem kd_lt {a:List Nat} (h:St a) (x:Nat):kd a x<18446744073709551616:=xor_lt _ _ (kc_lt h _) (rol_lt _ _ (kc_lt h _))
def mixL (a:List Nat):List Nat:=mkS fun i=>g a i ^^^ kd a i
def src (j:Nat):Nat:=(3*(j / 5)+j%5)%5+5*(j%5)
def dst (i:Nat):Nat:=i / 5+5*((2*(i%5)+3*(i / 5))%5)
theorem src_lt (j:Nat) (h:j<25):src j<25:=by unfold src;omega
theorem dst_lt (i:Nat) (h:i<25):dst i<25:=by unfold dst;omega
theorem src_dst:∀ i:Fin 25,src (dst i.val)=i.val:=by decide
theorem dst_src:∀ i:Fin 25,dst (src i.val)=i.val:=by decide
def turnL (t:Nat→Nat) (a:List Nat):List Nat:=mkS fun j=>rol (g a (src j)) (t (src j)%64)
def not64 (x:Nat):Nat:=18446744073709551615-x
def bendL (a:List Nat):List Nat:=mkS fun i=>g a i ^^^ (not64 (g a ((i%5+1)%5+5*(i / 5))) &&& g a ((i%5+2)%5+5*(i / 5)))
def iota (c:Nat) (a:List Nat):List Nat:=mkS fun i=>if i=0 then g a 0 ^^^ c else g a i
def roundL (t:Nat→Nat) (c:Nat) (a:List Nat):List Nat:=iota c (bendL (turnL t (mixL a)))
def permL (t r:Nat→Nat) (a:List Nat):Nat→List Nat
 | 0=>a
 | k+1=>roundL t (r k) (permL t r a k)
theorem mixL_st {a:List Nat} (h:St a):St (mixL a):=mkS_st _ fun i _=>xor_lt _ _ (h.lt i) (kd_lt h i)
theorem turnL_st {a:List Nat} (t:Nat→Nat) (h:St a):St (turnL t a):=mkS_st _ fun i _=>rol_lt _ _ (h.lt _)
theorem bendL_st {a:List Nat} (h:St a):St (bendL a):=mkS_st _ fun i _=>xor_lt _ _ (h.lt i) (and_lt _ _ (by unfold not64;omega))
theorem iota_st {a:List Nat} (c:Nat) (hc:c<18446744073709551616) (h:St a):St (iota c a):=mkS_st _ fun i _=>by
 split
 ·exact xor_lt _ _ (h.lt _) hc
 ·exact h.lt _
theorem roundL_st {a:List Nat} (t:Nat→Nat) (c:Nat) (hc:c<18446744073709551616) (h:St a):St (roundL t c a):=iota_st c hc (bendL_st (turnL_st t (mixL_st h)))
theorem permL_st {a:List Nat} (t r:Nat→Nat) (hr:∀ k,r k<18446744073709551616) (h:St a) (k:Nat):St (permL t r a k):=by
 induction k with
 | zero=>exact h
 | succ k ih=>exact roundL_st t _ (hr k) ih
theorem iota_zero {a:List Nat} (h:a.length=25):iota 0 a=a:=by
 refine st_ext (mkS_len _) h fun i hi=>?_
 rw[iota,mkS_g _ i hi]
 split
 ·rename_i e;subst e;exact Nat.xor_zero _
 ·rfl
def xs (a b:List Nat):List Nat:=mkS fun i=>g a i ^^^ g b i
theorem x4 (a b c d:Nat):(a ^^^ b) ^^^ (c ^^^ d)=(a ^^^ c) ^^^ (b ^^^ d):=by
 rw[Nat.xor_assoc,←Nat.xor_assoc b c d,Nat.xor_comm b c,Nat.xor_assoc c b d,←Nat.xor_assoc]
def pcs (a:List Nat):Nat:=((List.range 25).map fun i=>pc (g a i)).sum
def part (ord f d:Nat→Nat) (m:Nat):List Nat:=mkS fun i=>if ord i<m then f i else d i
theorem part_len (ord f d:Nat→Nat) (m:Nat):(part ord f d m).length=25:=mkS_len _
theorem part_zero (ord f d:Nat→Nat):part ord f d 0=mkS d:=by simp[part]
theorem part_all (ord f d:Nat→Nat) (n:Nat) (h:∀ i,i<25→ord i<n):part ord f d n=mkS f:=
 st_ext (mkS_len _) (mkS_len _) fun i hi=>by rw[part,mkS_g _ i hi,mkS_g _ i hi,if_pos (h i hi)]
theorem part_get (ord f d:Nat→Nat) (m i:Nat) (hi:i<25) (h:m≤ord i):g (part ord f d m) i=d i:=by rw[part,mkS_g _ i hi,if_neg (by omega)]
theorem part_set (ord f d:Nat→Nat) (m i0:Nat) (h0:i0<25) (hm:ord i0=m) (hi:∀ i,i<25→ord i=m→i=i0):(part ord f d m).set i0 (f i0)=part ord f d (m+1):=by
 refine st_ext (by rw[List.length_set,part_len]) (part_len _ _ _ _) fun i h=>?_
 rw[part,part,mkS_g _ i h]
 unfold g
 rw[List.getD_eq_getElem?_getD,List.getElem?_set]
 by_cases e:i0=i
 ·subst e
  rw[if_pos rfl,if_pos (by rw[mkS_len];exact h),if_pos (by omega)]
  rfl
 ·rw[if_neg e,←List.getD_eq_getElem?_getD]
  show g (mkS _) i=_
  rw[mkS_g _ i h]
  by_cases h2:ord i<m
  ·rw[if_pos h2,if_pos (by omega)]
  ·rw[if_neg h2,if_neg (fun h3=>e (hi i h (by omega)).symm)]
def ck (a:List Nat):Nat→List Nat
 | 0=>[0,0,0,0,0]
 | k+1=>(ck a k).set (k%5) ((ck a k).getD (k%5) 0 ^^^ g a k)
theorem not_bits (x:Nat) (hx:x<18446744073709551616):bits .xor .u64 18446744073709551615 (x:Int)=((not64 x:Nat):Int):=by
 have h:=u64_xor_nat 18446744073709551615 x (by decide) hx
 rw[show ((18446744073709551615:Nat):Int)=18446744073709551615 from rfl]at h
 rw[h]
 congr 1
 refine eq_bits _ _ (xor_lt _ _ (by decide) hx) (by unfold not64;omega) fun i hi=>?_
 rw[Nat.testBit_xor,not64,show 18446744073709551615-x=2 ^ 64-(x+1) by omega,Nat.testBit_two_pow_sub_succ hx,show 18446744073709551615=2 ^ 64-1 from rfl,Nat.testBit_two_pow_sub_one]
 simp[hi]
end kecm
namespace keca
open kecm
def TL:List Nat:=[0,1,62,28,27,36,44,6,55,20,3,10,43,25,39,41,45,15,21,8,18,2,61,56,14]
def RL:List Nat:=[1,32898,9223372036854808714,9223372039002292224,32907,2147483649,9223372039002292353,9223372036854808585,138,136,2147516425,2147483658,2147516555,9223372036854775947,9223372036854808713,9223372036854808579,9223372036854808578,9223372036854775936,32778,9223372039002259466,9223372039002292353,9223372036854808704,2147483649,9223372039002292232]
theorem tl_is:tabt.tl 24=TL:=by decide +kernel
theorem rl_is:tabt.rl 168=RL:=by decide +kernel
theorem s0:roundL (fun i=>TL.getD i 0) 1 [0,0,0,0,0,0,0,0,0,0,0,0,0,0,0,0,0,0,0,0,0,0,0,0,0]=[1,0,0,0,0,0,0,0,0,0,0,0,0,0,0,0,0,0,0,0,0,0,0,0,0]:=by decide +kernel
theorem s1:roundL (fun i=>TL.getD i 0) 32898 [1,0,0,0,0,0,0,0,0,0,0,0,0,0,0,0,0,0,0,0,0,0,0,0,0]=[32899,17592186044416,32768,1,17592186077184,0,35184374185984,0,35184372088832,2097152,2,512,0,514,0,268436480,0,1024,268435456,0,1099511627776,0,1099511627780,0,4]:=by decide +kernel
theorem s2:roundL (fun i=>TL.getD i 0) 9223372036854808714 [32899,17592186044416,32768,1,17592186077184,0,35184374185984,0,35184372088832,2097152,2,512,0,514,0,268436480,0,1024,268435456,0,1099511627776,0,1099511627780,0,4]=[9236970796698600460,4092250545529553158,626057523912327425,2306538108895626371,1173341635645358336,1293304092434976,1266393375296193026,4612686711565066480,3572814934320349200,6918386853474468034,181437471070544,17451689225912448,14123431978033217603,9612137362626578,14131171423402623105,109225863298950544,4469910934709993472,291608492588557700,4143342752895270928,722898250671538564,9260980282462904729,14339470011802853602,37581858268459548,4683770000893804961,432358761588732518]:=by decide +kernel
theorem s3:roundL (fun i=>TL.getD i 0) 9223372039002292224 [9236970796698600460,4092250545529553158,626057523912327425,2306538108895626371,1173341635645358336,1293304092434976,1266393375296193026,4612686711565066480,3572814934320349200,6918386853474468034,181437471070544,17451689225912448,14123431978033217603,9612137362626578,14131171423402623105,109225863298950544,4469910934709993472,291608492588557700,4143342752895270928,722898250671538564,9260980282462904729,14339470011802853602,37581858268459548,4683770000893804961,432358761588732518]=[592319258926211651,14940587067404002452,6163873250186209783,9133172271835791495,13983250434949586883,10037245043040796116,14625807227073111006,9517639169617348992,10802803781493464979,1170967630360556906,4833658608200494670,14411270558251773425,10413092914151648788,6324505867985343017,15456637871614865798,15961727220218474669,12219779720573097889,13453918774002596887,11249665490274026413,16763947842887530834,9348458261315236693,11269932799224724130,5725669273397430228,16793563075160212879,7296601056617420707]:=by decide +kernel
theorem s4:roundL (fun i=>TL.getD i 0) 32907 [592319258926211651,14940587067404002452,6163873250186209783,9133172271835791495,13983250434949586883,10037245043040796116,14625807227073111006,9517639169617348992,10802803781493464979,1170967630360556906,4833658608200494670,14411270558251773425,10413092914151648788,6324505867985343017,15456637871614865798,15961727220218474669,12219779720573097889,13453918774002596887,11249665490274026413,16763947842887530834,9348458261315236693,11269932799224724130,5725669273397430228,16793563075160212879,7296601056617420707]=[7638250137956199023,17990125325728205105,7906499215270811140,10861036725959346835,11195520138696188958,8358174899797462070,8135952663530915624,1143978644753002443,15662404937588594201,16535557756827863490,2821756897662528488,12114361851460063201,8845673958919045506,13942698502943567537,11656387723772272466,13322614738909770079,2086432298574777049,17543636310180418713,1178364895537752846,10832164025006223835,2030143342952750111,12360607886846421348,10479039689777663018,16563260862735374768,7279885679800479721]:=by decide +kernel
theorem s5:roundL (fun i=>TL.getD i 0) 2147483649 [7638250137956199023,17990125325728205105,7906499215270811140,10861036725959346835,11195520138696188958,8358174899797462070,8135952663530915624,1143978644753002443,15662404937588594201,16535557756827863490,2821756897662528488,12114361851460063201,8845673958919045506,13942698502943567537,11656387723772272466,13322614738909770079,2086432298574777049,17543636310180418713,1178364895537752846,10832164025006223835,2030143342952750111,12360607886846421348,10479039689777663018,16563260862735374768,7279885679800479721]=[4891766363406797400,15439122233753343804,13823342620960621853,11746433691194652646,4017314498112237324,815207819430446539,4967747420293129338,3818588911347179217,12982395987346120149,8831006501622048216,3273200702990303769,11925911941096385939,11818410238024184151,6855937196075990472,6813782227838587502,5749709705375199086,198532287281302992,3986921420170929948,2084732521627207926,3955984847012879536,17540298648724239738,14973796877054370773,9207394463793105740,13336242423054526618,2223831538796077986]:=by decide +kernel
end keca
namespace rols
open Go.RowKit
open arr kecm
theorem castm (x m M:Nat):(x:Int)*2 ^ m%(M:Int)=((x*2 ^ m%M:Nat):Int):=by push_cast;rfl
theorem castd (x n:Nat):(x:Int) / 2 ^ n=((x / 2 ^ n:Nat):Int):=by push_cast;rfl
theorem orl (x n m:Nat) (hm:m=64-n) (hx:x<18446744073709551616):bits .or .u64 ((x:Int)*2 ^ n%18446744073709551616) ((x:Int) / 2 ^ m)=((rol x n:Nat):Int):=by
 subst hm
 have e:=castm x n 18446744073709551616
 have e2:=castd x (64-n)
 rw[e2,show (x:Int)*2 ^ n%18446744073709551616=((x*2 ^ n%18446744073709551616:Nat):Int) from e]
 rw[u64_or_nat _ _ (Nat.mod_lt _ (by decide)) (Nat.lt_of_le_of_lt (Nat.div_le_self _ _) hx)]
 rfl
theorem mask (k:Nat) (hk:k<9223372036854775808):bits .and .u64 (k:Int) 63=((k%64:Nat):Int):=by
 have:=u64_and_nat k 63 (by omega) (by decide)
 rw[show ((63:Nat):Int)=63 from rfl]at this
 rw[this,nat_mask6]
theorem rotl_any (x k:Nat) (w:World) (hx:x<18446744073709551616) (hk:k<9223372036854775808):
 Calls Tryz.prog 215 #[.int .u64 (x:Int),.int .i64 (k:Int)] w fun e w'=>e=.returned (.int .u64 ((rol x (k%64):Nat):Int))∧w'=w:=by
 have hq:=mask k hk
 have hw:IntKind.u64.wrap (k:Int)=(k:Int):=by rw[IntKind.wrap_u64];omega
 obtain⟨n,hn⟩:∃ n,k%64=n:=⟨_,rfl⟩
 rw[hn]at hq ⊢
 have hn63:n≤63:=by omega
 clear hn
 go_enter Tryz.func215,Tryz.ntmps215
 go_wp2_with fail
 go_ret
 exact⟨ret_int (orl x n (64-n) rfl hx),rfl⟩
end rols
namespace kecb
open Go Go.RowKit
open arr mem kecm
theorem still_tail {P:Program} {id:Nat} {Q:Exit→Act→World→Prop} {a:Act} {w:World} {l:List Oper} (n:Nat) (hm:P.follows .mixedOrders=true) (hB:Region.lexTailB .any l.toArray n=true)
 (h:wpStill P l.toArray w.drew (fun a'=>wpList P l.toArray Q (l.drop n) a' w.drew) (l.take n) a):(Code.region id l.toArray true).wp P Q a w:=wp_region_still_tail n hm hB h
theorem still_all {P:Program} {id:Nat} {Q:Exit→Act→World→Prop} {a:Act} {w:World} {l:List Oper} (hm:P.follows .mixedOrders=true) (hB:Region.lexB .any l.toArray=true)
 (h:wpStill P l.toArray w.drew (fun a'=>Q .normal a' w.drew) l a):(Code.region id l.toArray true).wp P Q a w:=wp_region_still_lit hm hB h
theorem at_put {g:Nat} {C:Array Value} {t:TypeId} {w w':World} (h:At g C t w w') (o:Nat) (v:Value):At g (C.setIfInBounds o v) t w (w'.setCell ⟨g,o,none⟩ v):=
 ⟨h.os,h.tape,h.output,by rw[size_setCell];exact h.size,heap_setCell h.row o v,fun k hk hg=>(Below.heap_setCell w' ⟨g,o,none⟩ v k hg).trans (h.block k hk hg)⟩
theorem at_drew {g:Nat} {C:Array Value} {t:TypeId} {w w':World} (h:At g C t w w'):At g C t w w'.drew:=⟨h.os,h.tape,h.output,h.size,h.row,h.block⟩
theorem index_row {P:Program} {t e:TypeId} {n:Nat} (hu:P.underlying t=some (.array n e)) (he:P.plainKey e=true) (hi0:(P.info? e).isSome=true) (hc:P.cellsOf e=1) (C:Array Value) (v:Value) (k:Nat) (hk:k<n) (hx:C[k]? = some v) (w:World):
 (Instr.index t (.agg C) (.int .i64 (k:Int))).run P w=.ok v w:=by
 obtain⟨i,hi⟩:=Option.isSome_iff_exists.1 hi0
 have h1:(0:Int)≤(k:Int)∧(k:Int)<(n:Int):=⟨by omega,by omega⟩
 unfold Instr.index
 simp only[asIntOf,Sem.run_bind,Sem.run_pure,run_underlying hu,Result.andThen_ok,if_pos h1,run_sizeOf w hi,hc,Nat.mul_one,Int.toNat_natCast]
 exact run_part_plain w he hx
theorem run_storeVar_lane {P:Program} (w:World) (g n:Nat) (t ty:TypeId) (C:Array Value) (v:Value) (hg:w.heap[g]? = some (.cells C t (0,0))) (hi:(P.info? ty).map (·.size)=some 1) (h1:v.oneCell'=true) (hn:n<C.size):
 (storeVar ty ⟨g,n,none⟩ v).run P w=.ok () (w.setCell ⟨g,n,none⟩ v):=by
 have hc:v.cells=#[v]:=by cases v<;>first | rfl | cases h1
 cases hq:P.info? ty with
 | none=>simp[hq]at hi
 | some i=>
  have hs:i.size=1:=by simpa [hq] using hi
  have hadd:(⟨g,n,none⟩:Addr).add 0=⟨g,n,none⟩:=by unfold Addr.add;split<;>simp_all
  have hst:(store (⟨g,n,none⟩:Addr) v).run P w=.ok () (w.setCell ⟨g,n,none⟩ v):=by
   rw[run_store P w _ v _ h1,cell_of_row w g n C t (0,0) hg,frozen_of_row w g n C t hg,Array.getElem?_eq_getElem hn]
   rfl
  simp[storeVar,sizeOf,typeInfo,hq,hc,hs,storeCells,hadd,hst]
theorem wpList_put {P:Program} {ops:Array Oper} {Q:Exit→Act→World→Prop} {rest:List Oper} {o:Oper} {a:Act} {w0 w:World} {g:Nat} {C:Array Value} {t:TypeId} (H:Away (At g C t w0 w)) (hgd:o.guard=none) (ty:TypeId) (x y:Operand) (ho:o.op=.store ty x y)
 (n:Nat) (v:Value) (hx:a.eval x=.pointer (some ⟨g,n,none⟩)) (hy:a.eval y=v) (hi:(P.info? ty).map (·.size)=some 1) (h1:v.oneCell'=true) (hn:n<C.size) (hd:o.dst=none)
 (h:∀ w',Away (At g (C.setIfInBounds n v) t w0 w')→wpList P ops Q rest a w'):wpList P ops Q (o :: rest) a w:=
 wpList_plain hgd fun K hK=>by
  unfold Oper.wp execOp
  simp only[ho,hx,hy,Instr.storeAt,Instr.sureAddr,Sem.run_bind,Sem.run_pure,Result.andThen_ok,run_storeVar_lane w g n t ty C v H.out.row hi h1 hn]
  have h2:=hK _ _ (h _ ⟨at_put H.out n v⟩)
  show K (a.put o.dst undef) _
  rw[hd]
  exact h2
theorem run_not {P:Program} (n:Nat) (hn:n<18446744073709551616) (w:World):(Op.unary .xor (.int .u64 (n:Int))).run P w=.ok (.int .u64 ((not64 n:Nat):Int)) w:=by
 have h:=not_bits n hn
 have e:(if IntKind.u64.signed then -1 else IntKind.u64.max:Int)=18446744073709551615:=rfl
 rw[unary_xor,e,intBits_xor,h]
 rfl
theorem wpList_not {P:Program} {ops:Array Oper} {Q:Exit→Act→World→Prop} {rest:List Oper} {o:Oper} {a:Act} {w:World} (n:Nat) (hn:n<18446744073709551616) (hgd:o.guard=none) (ty:TypeId) (x:Operand) (ho:o.op=.unOp .xor ty x)
 (hx:a.eval x=.int .u64 (n:Int)) (h:wpList P ops Q rest (a.put o.dst (.int .u64 ((not64 n:Nat):Int))) w):wpList P ops Q (o :: rest) a w:=
 wpList_plain hgd fun K hK=>by
  have h2:=hK _ _ h
  unfold Oper.wp execOp
  simp only[ho,hx,Sem.run_bind,run_not n hn,Result.andThen_ok]
  exact h2
theorem bendz (x y z r:Nat) (hx:x<18446744073709551616) (hz:z<18446744073709551616) (h:x ^^^ (not64 y &&& z)=r):
 bits .xor .u64 (x:Int) (bits .and .u64 ((not64 y:Nat):Int) (z:Int))=(r:Int):=by
 subst h
 have hn:not64 y<18446744073709551616:=by unfold not64;omega
 rw[u64_and_nat _ z hn hz,u64_xor_nat x _ hx (and_lt _ _ hn)]
theorem wpList_put2 {P:Program} {ops:Array Oper} {Q:Exit→Act→World→Prop} {rest:List Oper} {o:Oper} {a:Act} {w0 w:World} {g:Nat} {C:Array Value} {t:TypeId} (H:Away (At g C t w0 w)) (hgd:o.guard=none) (ty:TypeId) (x y:Operand) (ho:o.op=.store ty x y) (hd:o.dst=none)
 (h:∃ n k z,a.eval x=.pointer (some ⟨g,n,none⟩)∧a.eval y=.int k z∧(P.info? ty).map (·.size)=some 1∧n<C.size∧∀ w',Away (At g (C.setIfInBounds n (.int k z)) t w0 w')→wpList P ops Q rest a w'):wpList P ops Q (o :: rest) a w:=by
 obtain⟨n,k,z,h1,h2,h3,h5,h6⟩:=h
 exact wpList_put H hgd ty x y ho n _ h1 h2 h3 rfl h5 hd h6
theorem lk25 (l:List Nat) (h:l.length=25):(LK .u64 l).size=25:=by rw[lk_size,h]
theorem lane_get {a:List Nat} (h:a.length=25) (i:Nat) (hi:i<25):(LK .u64 a)[i]? = some (.int .u64 ((g a i:Nat):Int)):=lk_get _ _ _ (by omega)
theorem lane_at {a:List Nat} {ga:Nat} {t:TypeId} {w:World} (h:a.length=25) (hw:w.heap[ga]? = some (.cells (LK .u64 a) t (0,0))) (i x:Nat) (hi:i<25) (hx:g a i=x):w.cell? ⟨ga,i,none⟩=some (.int .u64 (x:Int)):=by
 subst hx;exact cell_at hw (lane_get h i hi)
theorem part_lane {ord f d:Nat→Nat} {m:Nat} (i0 v:Nat) (h0:i0<25) (hm:ord i0=m) (hi:∀ i,i<25→ord i=m→i=i0) (hv:f i0=v):
 (LK .u64 (kecm.part ord f d m)).setIfInBounds i0 (.int .u64 (v:Int))=LK .u64 (kecm.part ord f d (m+1)):=by
 subst hv;rw[lk_set,part_set ord f d m i0 h0 hm hi]
theorem xor2 (a b c:Nat) (ha:a<18446744073709551616) (hb:b<18446744073709551616) (h:a ^^^ b=c):bits .xor .u64 (a:Int) (b:Int)=(c:Int):=by
 subst h;exact u64_xor_nat a b ha hb
theorem xor5 (a b c d e r:Nat) (ha:a<18446744073709551616) (hb:b<18446744073709551616) (hc:c<18446744073709551616) (hd:d<18446744073709551616) (he:e<18446744073709551616) (h:a ^^^ b ^^^ c ^^^ d ^^^ e=r):
 bits .xor .u64 (bits .xor .u64 (bits .xor .u64 (bits .xor .u64 (a:Int) (b:Int)) (c:Int)) (d:Int)) (e:Int)=(r:Int):=by
 subst h
 rw[u64_xor_nat a b ha hb,u64_xor_nat _ c (xor_lt _ _ ha hb) hc,u64_xor_nat _ d (xor_lt _ _ (xor_lt _ _ ha hb) hc) hd,u64_xor_nat _ e (xor_lt _ _ (xor_lt _ _ (xor_lt _ _ ha hb) hc) hd) he]
theorem kd_mod (a:List Nat) (i j:Nat) (h:i%5=j%5):kd a i=kd a j:=by
 unfold kd
 rw[show (i+4)%5=(j+4)%5 by omega,show (i+1)%5=(j+1)%5 by omega]
theorem kd_is (a:List Nat) (j p q c d r:Nat) (hp:(j+4)%5=p) (hq:(j+1)%5=q) (hc:kc a p=c) (hd:rol (kc a q) 1=d) (hr:kd a j=r):c ^^^ d=r:=by
 rw[←hr,kd,hp,hq,hc,hd]
end kecb
end Go.Proofs.YtomphjajkkddkaaGreatDoor
namespace Go.Proofs.YtomphjajkkddkaaGreatDoor
namespace kmix
open Go.RowKit
open arr mem kecm kecb
theorem rot1 (x r:Nat) (w:World) (hx:x<18446744073709551616) (hr:rol x 1=r):
 Calls Tryz.prog 215 #[.int .u64 (x:Int),.int .i64 1] w fun e w'=>e=.returned (.int .u64 (r:Int))∧w'=w:=by
 subst hr;exact rols.rotl_any x 1 w hx (by decide)
theorem mix_any (ga:Nat) (a:List Nat) (w:World) (h:St a) (hA:w.heap[ga]? = some (.cells (LK .u64 a) 162 (0,0))):
 Calls Tryz.prog 211 #[.pointer (some ⟨ga,0,none⟩)] w fun e w'=>e=.returned (.tuple #[])∧At ga (LK .u64 (mixL a)) 162 w w':=by
 have H:=Away.mk h
 have HA:=Away.mk hA
 obtain⟨y0,hy0⟩:∃ x,g a 0=x:=⟨_,rfl⟩
 have c0:=lane_at h.len hA 0 y0 (by decide) hy0
 have l0:y0<18446744073709551616:=hy0 ▸ h.lt 0
 obtain⟨y1,hy1⟩:∃ x,g a 1=x:=⟨_,rfl⟩
 have c1:=lane_at h.len hA 1 y1 (by decide) hy1
 have l1:y1<18446744073709551616:=hy1 ▸ h.lt 1
 obtain⟨y2,hy2⟩:∃ x,g a 2=x:=⟨_,rfl⟩
 have c2:=lane_at h.len hA 2 y2 (by decide) hy2
 have l2:y2<18446744073709551616:=hy2 ▸ h.lt 2
 obtain⟨y3,hy3⟩:∃ x,g a 3=x:=⟨_,rfl⟩
 have c3:=lane_at h.len hA 3 y3 (by decide) hy3
 have l3:y3<18446744073709551616:=hy3 ▸ h.lt 3
 obtain⟨y4,hy4⟩:∃ x,g a 4=x:=⟨_,rfl⟩
 have c4:=lane_at h.len hA 4 y4 (by decide) hy4
 have l4:y4<18446744073709551616:=hy4 ▸ h.lt 4
 obtain⟨y5,hy5⟩:∃ x,g a 5=x:=⟨_,rfl⟩
 have c5:=lane_at h.len hA 5 y5 (by decide) hy5
 have l5:y5<18446744073709551616:=hy5 ▸ h.lt 5
 obtain⟨y6,hy6⟩:∃ x,g a 6=x:=⟨_,rfl⟩
 have c6:=lane_at h.len hA 6 y6 (by decide) hy6
 have l6:y6<18446744073709551616:=hy6 ▸ h.lt 6
 obtain⟨y7,hy7⟩:∃ x,g a 7=x:=⟨_,rfl⟩
 have c7:=lane_at h.len hA 7 y7 (by decide) hy7
 have l7:y7<18446744073709551616:=hy7 ▸ h.lt 7
 obtain⟨y8,hy8⟩:∃ x,g a 8=x:=⟨_,rfl⟩
 have c8:=lane_at h.len hA 8 y8 (by decide) hy8
 have l8:y8<18446744073709551616:=hy8 ▸ h.lt 8
 obtain⟨y9,hy9⟩:∃ x,g a 9=x:=⟨_,rfl⟩
 have c9:=lane_at h.len hA 9 y9 (by decide) hy9
 have l9:y9<18446744073709551616:=hy9 ▸ h.lt 9
 obtain⟨y10,hy10⟩:∃ x,g a 10=x:=⟨_,rfl⟩
 have c10:=lane_at h.len hA 10 y10 (by decide) hy10
 have l10:y10<18446744073709551616:=hy10 ▸ h.lt 10
 obtain⟨y11,hy11⟩:∃ x,g a 11=x:=⟨_,rfl⟩
 have c11:=lane_at h.len hA 11 y11 (by decide) hy11
 have l11:y11<18446744073709551616:=hy11 ▸ h.lt 11
 obtain⟨y12,hy12⟩:∃ x,g a 12=x:=⟨_,rfl⟩
 have c12:=lane_at h.len hA 12 y12 (by decide) hy12
 have l12:y12<18446744073709551616:=hy12 ▸ h.lt 12
 obtain⟨y13,hy13⟩:∃ x,g a 13=x:=⟨_,rfl⟩
 have c13:=lane_at h.len hA 13 y13 (by decide) hy13
 have l13:y13<18446744073709551616:=hy13 ▸ h.lt 13
 obtain⟨y14,hy14⟩:∃ x,g a 14=x:=⟨_,rfl⟩
 have c14:=lane_at h.len hA 14 y14 (by decide) hy14
 have l14:y14<18446744073709551616:=hy14 ▸ h.lt 14
 obtain⟨y15,hy15⟩:∃ x,g a 15=x:=⟨_,rfl⟩
 have c15:=lane_at h.len hA 15 y15 (by decide) hy15
 have l15:y15<18446744073709551616:=hy15 ▸ h.lt 15
 obtain⟨y16,hy16⟩:∃ x,g a 16=x:=⟨_,rfl⟩
 have c16:=lane_at h.len hA 16 y16 (by decide) hy16
 have l16:y16<18446744073709551616:=hy16 ▸ h.lt 16
 obtain⟨y17,hy17⟩:∃ x,g a 17=x:=⟨_,rfl⟩
 have c17:=lane_at h.len hA 17 y17 (by decide) hy17
 have l17:y17<18446744073709551616:=hy17 ▸ h.lt 17
 obtain⟨y18,hy18⟩:∃ x,g a 18=x:=⟨_,rfl⟩
 have c18:=lane_at h.len hA 18 y18 (by decide) hy18
 have l18:y18<18446744073709551616:=hy18 ▸ h.lt 18
 obtain⟨y19,hy19⟩:∃ x,g a 19=x:=⟨_,rfl⟩
 have c19:=lane_at h.len hA 19 y19 (by decide) hy19
 have l19:y19<18446744073709551616:=hy19 ▸ h.lt 19
 obtain⟨y20,hy20⟩:∃ x,g a 20=x:=⟨_,rfl⟩
 have c20:=lane_at h.len hA 20 y20 (by decide) hy20
 have l20:y20<18446744073709551616:=hy20 ▸ h.lt 20
 obtain⟨y21,hy21⟩:∃ x,g a 21=x:=⟨_,rfl⟩
 have c21:=lane_at h.len hA 21 y21 (by decide) hy21
 have l21:y21<18446744073709551616:=hy21 ▸ h.lt 21
 obtain⟨y22,hy22⟩:∃ x,g a 22=x:=⟨_,rfl⟩
 have c22:=lane_at h.len hA 22 y22 (by decide) hy22
 have l22:y22<18446744073709551616:=hy22 ▸ h.lt 22
 obtain⟨y23,hy23⟩:∃ x,g a 23=x:=⟨_,rfl⟩
 have c23:=lane_at h.len hA 23 y23 (by decide) hy23
 have l23:y23<18446744073709551616:=hy23 ▸ h.lt 23
 obtain⟨y24,hy24⟩:∃ x,g a 24=x:=⟨_,rfl⟩
 have c24:=lane_at h.len hA 24 y24 (by decide) hy24
 have l24:y24<18446744073709551616:=hy24 ▸ h.lt 24
 obtain⟨k0,hk0⟩:∃ x,kc a 0=x:=⟨_,rfl⟩
 have m0:k0<18446744073709551616:=hk0 ▸ kc_lt h 0
 have E0:=xor5 y0 y5 y10 y15 y20 k0 l0 l5 l10 l15 l20 (by rw[←hk0];show _=g a 0 ^^^ g a 5 ^^^ g a 10 ^^^ g a 15 ^^^ g a 20;rw[hy0,hy5,hy10,hy15,hy20])
 obtain⟨r0,hr0⟩:∃ x,rol (kc a 0) 1=x:=⟨_,rfl⟩
 have n0:r0<18446744073709551616:=hr0 ▸ rol_lt _ _ (kc_lt h 0)
 obtain⟨k1,hk1⟩:∃ x,kc a 1=x:=⟨_,rfl⟩
 have m1:k1<18446744073709551616:=hk1 ▸ kc_lt h 1
 have E1:=xor5 y1 y6 y11 y16 y21 k1 l1 l6 l11 l16 l21 (by rw[←hk1];show _=g a 1 ^^^ g a 6 ^^^ g a 11 ^^^ g a 16 ^^^ g a 21;rw[hy1,hy6,hy11,hy16,hy21])
 obtain⟨r1,hr1⟩:∃ x,rol (kc a 1) 1=x:=⟨_,rfl⟩
 have n1:r1<18446744073709551616:=hr1 ▸ rol_lt _ _ (kc_lt h 1)
 obtain⟨k2,hk2⟩:∃ x,kc a 2=x:=⟨_,rfl⟩
 have m2:k2<18446744073709551616:=hk2 ▸ kc_lt h 2
 have E2:=xor5 y2 y7 y12 y17 y22 k2 l2 l7 l12 l17 l22 (by rw[←hk2];show _=g a 2 ^^^ g a 7 ^^^ g a 12 ^^^ g a 17 ^^^ g a 22;rw[hy2,hy7,hy12,hy17,hy22])
 obtain⟨r2,hr2⟩:∃ x,rol (kc a 2) 1=x:=⟨_,rfl⟩
 have n2:r2<18446744073709551616:=hr2 ▸ rol_lt _ _ (kc_lt h 2)
 obtain⟨k3,hk3⟩:∃ x,kc a 3=x:=⟨_,rfl⟩
 have m3:k3<18446744073709551616:=hk3 ▸ kc_lt h 3
 have E3:=xor5 y3 y8 y13 y18 y23 k3 l3 l8 l13 l18 l23 (by rw[←hk3];show _=g a 3 ^^^ g a 8 ^^^ g a 13 ^^^ g a 18 ^^^ g a 23;rw[hy3,hy8,hy13,hy18,hy23])
 obtain⟨r3,hr3⟩:∃ x,rol (kc a 3) 1=x:=⟨_,rfl⟩
 have n3:r3<18446744073709551616:=hr3 ▸ rol_lt _ _ (kc_lt h 3)
 obtain⟨k4,hk4⟩:∃ x,kc a 4=x:=⟨_,rfl⟩
 have m4:k4<18446744073709551616:=hk4 ▸ kc_lt h 4
 have E4:=xor5 y4 y9 y14 y19 y24 k4 l4 l9 l14 l19 l24 (by rw[←hk4];show _=g a 4 ^^^ g a 9 ^^^ g a 14 ^^^ g a 19 ^^^ g a 24;rw[hy4,hy9,hy14,hy19,hy24])
 obtain⟨r4,hr4⟩:∃ x,rol (kc a 4) 1=x:=⟨_,rfl⟩
 have n4:r4<18446744073709551616:=hr4 ▸ rol_lt _ _ (kc_lt h 4)
 obtain⟨d0,hd0⟩:∃ x,kd a 0=x:=⟨_,rfl⟩
 have D0:=xor2 k4 r1 d0 m4 n1 (kd_is a 0 4 1 k4 r1 d0 rfl rfl hk4 hr1 hd0)
 have b0:d0<18446744073709551616:=hd0 ▸ kd_lt h 0
 have Hd0:=Away.mk hd0
 have R0:Away (rol k0 1=r0):=⟨by rw[←hk0,hr0]⟩
 obtain⟨d1,hd1⟩:∃ x,kd a 1=x:=⟨_,rfl⟩
 have D1:=xor2 k0 r2 d1 m0 n2 (kd_is a 1 0 2 k0 r2 d1 rfl rfl hk0 hr2 hd1)
 have b1:d1<18446744073709551616:=hd1 ▸ kd_lt h 1
 have Hd1:=Away.mk hd1
 have R1:Away (rol k1 1=r1):=⟨by rw[←hk1,hr1]⟩
 obtain⟨d2,hd2⟩:∃ x,kd a 2=x:=⟨_,rfl⟩
 have D2:=xor2 k1 r3 d2 m1 n3 (kd_is a 2 1 3 k1 r3 d2 rfl rfl hk1 hr3 hd2)
 have b2:d2<18446744073709551616:=hd2 ▸ kd_lt h 2
 have Hd2:=Away.mk hd2
 have R2:Away (rol k2 1=r2):=⟨by rw[←hk2,hr2]⟩
 obtain⟨d3,hd3⟩:∃ x,kd a 3=x:=⟨_,rfl⟩
 have D3:=xor2 k2 r4 d3 m2 n4 (kd_is a 3 2 4 k2 r4 d3 rfl rfl hk2 hr4 hd3)
 have b3:d3<18446744073709551616:=hd3 ▸ kd_lt h 3
 have Hd3:=Away.mk hd3
 have R3:Away (rol k3 1=r3):=⟨by rw[←hk3,hr3]⟩
 obtain⟨d4,hd4⟩:∃ x,kd a 4=x:=⟨_,rfl⟩
 have D4:=xor2 k3 r0 d4 m3 n0 (kd_is a 4 3 0 k3 r0 d4 rfl rfl hk3 hr0 hd4)
 have b4:d4<18446744073709551616:=hd4 ▸ kd_lt h 4
 have Hd4:=Away.mk hd4
 have R4:Away (rol k4 1=r4):=⟨by rw[←hk4,hr4]⟩
 clear hy0 hy1 hy2 hy3 hy4 hy5 hy6 hy7 hy8 hy9 hy10 hy11 hy12 hy13 hy14 hy15 hy16 hy17 hy18 hy19 hy20 hy21 hy22 hy23 hy24 l0 l1 l2 l3 l4 l5 l6 l7 l8 l9 l10 l11 l12 l13 l14 l15 l16 l17 l18 l19 l20 l21 l22 l23 l24 hk0 hr0 hd0 hk1 hr1 hd1 hk2 hr2 hd2 hk3 hr3 hd3 hk4 hr4 hd4
 clear h hA
 go_enter Tryz.func211,Tryz.ntmps211
 iterate 5 (go_wp2_with fail;refine still_all (by kernel_rfl) (by kernel_rfl) ?_;(repeat still_step);refine wpStill_nil ?_)
 go_wp2_with fail
 clear c0 c1 c2 c3 c4 c5 c6 c7 c8 c9 c10 c11 c12 c13 c14 c15 c16 c17 c18 c19 c20 c21 c22 c23 c24 E0 E1 E2 E3 E4
 refine(rot1 k1 r1 _ m1 R1.out).mono ?_
 rintro e w1 ⟨rfl,rfl⟩
 go_wp2_with fail
 refine(rot1 k2 r2 _ m2 R2.out).mono ?_
 rintro e w1 ⟨rfl,rfl⟩
 go_wp2_with fail
 refine(rot1 k3 r3 _ m3 R3.out).mono ?_
 rintro e w1 ⟨rfl,rfl⟩
 go_wp2_with fail
 refine(rot1 k4 r4 _ m4 R4.out).mono ?_
 rintro e w1 ⟨rfl,rfl⟩
 go_wp2_with fail
 refine(rot1 k0 r0 _ m0 R0.out).mono ?_
 rintro e w1 ⟨rfl,rfl⟩
 go_wp2_with fail
 clear D0 D1 D2 D3 D4 R0 R1 R2 R3 R4 n0 m0   n1 m1   n2 m2   n3 m3   n4 m4
 have hlane:∀ n:Nat,n<25→g a n<18446744073709551616:=fun n _=>H.out.lt n
 go_loopw [12] (fun i wr=>∃ n:Nat,n≤25∧n%5=0∧i=.int .i64 (n:Int)∧Away (At ga (LK .u64 (kecm.part (fun i=>i) (fun i=>g a i ^^^ kd a i) (g a) n)) 162 w wr)) (fun i _=>25-(intOf i).toNat)
 case atStart=>
  refine⟨0,by decide,rfl,rfl,⟨?_⟩⟩
  rw[part_zero,mkS_eta H.out.len]
  exact at_drew (at_drew (at_drew (at_drew (at_drew (At.refl HA.out)))))
 case round=>
  obtain⟨n,hn,hm,rfl,HR0⟩:=hrel
  by_cases hlt:n<25
  ·have hn20:n≤20:=by omega
   clear hn hlt
   have u0:n<25:=by omega
   have z0:(n:Int)<25:=by omega
   obtain⟨x0,hx0⟩:∃ x,g a n=x:=⟨_,rfl⟩
   obtain⟨v0,hv0⟩:∃ x,g a n ^^^ kd a n=x:=⟨_,rfl⟩
   have V0:=xor2 x0 d0 v0 (hx0 ▸ H.out.lt _) b0 (by rw[←hv0,←hx0,kd_mod a n 0 (by omega),Hd0.out])
   have S0:Away ((LK .u64 (kecm.part (fun i=>i) (fun i=>g a i ^^^ kd a i) (g a) n)).setIfInBounds n (.int .u64 (v0:Int))=LK .u64 (kecm.part (fun i=>i) (fun i=>g a i ^^^ kd a i) (g a) (n+1))):=⟨by rw[part_lane n v0 u0 rfl (fun i _ e=>e) hv0]⟩
   have Hx0:=Away.mk hx0
   clear hv0 hx0
   obtain⟨q1,hq1⟩:∃ x,x=n+1:=⟨_,rfl⟩
   have wr1:IntKind.i64.wrap ((n:Int)+1)=(q1:Int):=by rw[IntKind.wrap_i64];omega
   have u1:q1<25:=by omega
   have z1:(q1:Int)<25:=by omega
   obtain⟨x1,hx1⟩:∃ x,g a q1=x:=⟨_,rfl⟩
   obtain⟨v1,hv1⟩:∃ x,g a q1 ^^^ kd a q1=x:=⟨_,rfl⟩
   have V1:=xor2 x1 d1 v1 (hx1 ▸ H.out.lt _) b1 (by rw[←hv1,←hx1,kd_mod a q1 1 (by omega),Hd1.out])
   have S1:Away ((LK .u64 (kecm.part (fun i=>i) (fun i=>g a i ^^^ kd a i) (g a) q1)).setIfInBounds q1 (.int .u64 (v1:Int))=LK .u64 (kecm.part (fun i=>i) (fun i=>g a i ^^^ kd a i) (g a) (n+2))):=⟨by rw[part_lane q1 v1 u1 rfl (fun i _ e=>e) hv1];rw[hq1]⟩
   have Hx1:=Away.mk hx1
   clear hv1 hx1
   obtain⟨q2,hq2⟩:∃ x,x=n+2:=⟨_,rfl⟩
   have wr2:IntKind.i64.wrap ((n:Int)+2)=(q2:Int):=by rw[IntKind.wrap_i64];omega
   have u2:q2<25:=by omega
   have z2:(q2:Int)<25:=by omega
   obtain⟨x2,hx2⟩:∃ x,g a q2=x:=⟨_,rfl⟩
   obtain⟨v2,hv2⟩:∃ x,g a q2 ^^^ kd a q2=x:=⟨_,rfl⟩
   have V2:=xor2 x2 d2 v2 (hx2 ▸ H.out.lt _) b2 (by rw[←hv2,←hx2,kd_mod a q2 2 (by omega),Hd2.out])
   have S2:Away ((LK .u64 (kecm.part (fun i=>i) (fun i=>g a i ^^^ kd a i) (g a) q2)).setIfInBounds q2 (.int .u64 (v2:Int))=LK .u64 (kecm.part (fun i=>i) (fun i=>g a i ^^^ kd a i) (g a) (n+3))):=⟨by rw[part_lane q2 v2 u2 rfl (fun i _ e=>e) hv2];rw[hq2]⟩
   have Hx2:=Away.mk hx2
   clear hv2 hx2
   obtain⟨q3,hq3⟩:∃ x,x=n+3:=⟨_,rfl⟩
   have wr3:IntKind.i64.wrap ((n:Int)+3)=(q3:Int):=by rw[IntKind.wrap_i64];omega
   have u3:q3<25:=by omega
   have z3:(q3:Int)<25:=by omega
   obtain⟨x3,hx3⟩:∃ x,g a q3=x:=⟨_,rfl⟩
   obtain⟨v3,hv3⟩:∃ x,g a q3 ^^^ kd a q3=x:=⟨_,rfl⟩
   have V3:=xor2 x3 d3 v3 (hx3 ▸ H.out.lt _) b3 (by rw[←hv3,←hx3,kd_mod a q3 3 (by omega),Hd3.out])
   have S3:Away ((LK .u64 (kecm.part (fun i=>i) (fun i=>g a i ^^^ kd a i) (g a) q3)).setIfInBounds q3 (.int .u64 (v3:Int))=LK .u64 (kecm.part (fun i=>i) (fun i=>g a i ^^^ kd a i) (g a) (n+4))):=⟨by rw[part_lane q3 v3 u3 rfl (fun i _ e=>e) hv3];rw[hq3]⟩
   have Hx3:=Away.mk hx3
   clear hv3 hx3
   obtain⟨q4,hq4⟩:∃ x,x=n+4:=⟨_,rfl⟩
   have wr4:IntKind.i64.wrap ((n:Int)+4)=(q4:Int):=by rw[IntKind.wrap_i64];omega
   have u4:q4<25:=by omega
   have z4:(q4:Int)<25:=by omega
   obtain⟨x4,hx4⟩:∃ x,g a q4=x:=⟨_,rfl⟩
   obtain⟨v4,hv4⟩:∃ x,g a q4 ^^^ kd a q4=x:=⟨_,rfl⟩
   have V4:=xor2 x4 d4 v4 (hx4 ▸ H.out.lt _) b4 (by rw[←hv4,←hx4,kd_mod a q4 4 (by omega),Hd4.out])
   have S4:Away ((LK .u64 (kecm.part (fun i=>i) (fun i=>g a i ^^^ kd a i) (g a) q4)).setIfInBounds q4 (.int .u64 (v4:Int))=LK .u64 (kecm.part (fun i=>i) (fun i=>g a i ^^^ kd a i) (g a) (n+5))):=⟨by rw[part_lane q4 v4 u4 rfl (fun i _ e=>e) hv4];rw[hq4]⟩
   have Hx4:=Away.mk hx4
   clear hv4 hx4
   have Hq:Away (n%5=0∧q1=n+1∧q2=n+2∧q3=n+3∧q4=n+4):=⟨hm,hq1,hq2,hq3,hq4⟩
   clear hm hq1 hq2 hq3 hq4 b0 b1 b2 b3 b4
   have c0:wr.cell? ⟨ga,n,none⟩=some (.int .u64 (x0:Int)):=cell_at HR0.out.row (by rw[lane_get (part_len _ _ _ _) _ u0,part_get _ _ _ _ _ u0 (by first | exact Nat.le_refl _ | (obtain⟨_,h1,h2,h3,h4⟩:=Hq.out;omega)),Hx0.out])
   have f0:wr.frozen? ⟨ga,n,none⟩=false:=HR0.out.frozen n
   go_wp2_with fail
   refine still_tail 9 (by kernel_rfl) (by kernel_rfl) ?_
   simp only[List.take_succ_cons,List.take_zero,List.drop_succ_cons,List.drop_zero]
   repeat still_step
   refine wpStill_nil ?_
   go_wp2_with fail
   have HR1:Away (At ga (LK .u64 (kecm.part (fun i=>i) (fun i=>g a i ^^^ kd a i) (g a) (n+1))) 162 w (wr.setCell ⟨ga,n,none⟩ (.int .u64 (v0:Int))).drew):=⟨by rw[←S0.out];exact at_drew (at_put (HR0.out) _ _)⟩
   obtain⟨w1,hw1⟩:∃ x,(wr.setCell ⟨ga,n,none⟩ (.int .u64 (v0:Int))).drew=x:=⟨_,rfl⟩
   rw[hw1]at HR1
   rw[hw1]
   clear hw1 c0 f0 V0 S0 HR0
   rw[show n+1=q1 by have:=Hq.out;omega]at HR1
   have c1:w1.cell? ⟨ga,q1,none⟩=some (.int .u64 (x1:Int)):=cell_at HR1.out.row (by rw[lane_get (part_len _ _ _ _) _ u1,part_get _ _ _ _ _ u1 (by first | exact Nat.le_refl _ | (obtain⟨_,h1,h2,h3,h4⟩:=Hq.out;omega)),Hx1.out])
   have f1:w1.frozen? ⟨ga,q1,none⟩=false:=HR1.out.frozen q1
   skip
   refine still_tail 10 (by kernel_rfl) (by kernel_rfl) ?_
   simp only[List.take_succ_cons,List.take_zero,List.drop_succ_cons,List.drop_zero]
   repeat still_step
   refine wpStill_nil ?_
   go_wp2_with fail
   have HR2:Away (At ga (LK .u64 (kecm.part (fun i=>i) (fun i=>g a i ^^^ kd a i) (g a) (n+2))) 162 w (w1.setCell ⟨ga,q1,none⟩ (.int .u64 (v1:Int))).drew):=⟨by rw[←S1.out];exact at_drew (at_put (HR1.out) _ _)⟩
   obtain⟨w2,hw2⟩:∃ x,(w1.setCell ⟨ga,q1,none⟩ (.int .u64 (v1:Int))).drew=x:=⟨_,rfl⟩
   rw[hw2]at HR2
   rw[hw2]
   clear hw2 c1 f1 V1 S1 HR1
   rw[show n+2=q2 by have:=Hq.out;omega]at HR2
   have c2:w2.cell? ⟨ga,q2,none⟩=some (.int .u64 (x2:Int)):=cell_at HR2.out.row (by rw[lane_get (part_len _ _ _ _) _ u2,part_get _ _ _ _ _ u2 (by first | exact Nat.le_refl _ | (obtain⟨_,h1,h2,h3,h4⟩:=Hq.out;omega)),Hx2.out])
   have f2:w2.frozen? ⟨ga,q2,none⟩=false:=HR2.out.frozen q2
   skip
   refine still_tail 10 (by kernel_rfl) (by kernel_rfl) ?_
   simp only[List.take_succ_cons,List.take_zero,List.drop_succ_cons,List.drop_zero]
   repeat still_step
   refine wpStill_nil ?_
   go_wp2_with fail
   have HR3:Away (At ga (LK .u64 (kecm.part (fun i=>i) (fun i=>g a i ^^^ kd a i) (g a) (n+3))) 162 w (w2.setCell ⟨ga,q2,none⟩ (.int .u64 (v2:Int))).drew):=⟨by rw[←S2.out];exact at_drew (at_put (HR2.out) _ _)⟩
   obtain⟨w3,hw3⟩:∃ x,(w2.setCell ⟨ga,q2,none⟩ (.int .u64 (v2:Int))).drew=x:=⟨_,rfl⟩
   rw[hw3]at HR3
   rw[hw3]
   clear hw3 c2 f2 V2 S2 HR2
   rw[show n+3=q3 by have:=Hq.out;omega]at HR3
   have c3:w3.cell? ⟨ga,q3,none⟩=some (.int .u64 (x3:Int)):=cell_at HR3.out.row (by rw[lane_get (part_len _ _ _ _) _ u3,part_get _ _ _ _ _ u3 (by first | exact Nat.le_refl _ | (obtain⟨_,h1,h2,h3,h4⟩:=Hq.out;omega)),Hx3.out])
   have f3:w3.frozen? ⟨ga,q3,none⟩=false:=HR3.out.frozen q3
   skip
   refine still_tail 10 (by kernel_rfl) (by kernel_rfl) ?_
   simp only[List.take_succ_cons,List.take_zero,List.drop_succ_cons,List.drop_zero]
   repeat still_step
   refine wpStill_nil ?_
   go_wp2_with fail
   have HR4:Away (At ga (LK .u64 (kecm.part (fun i=>i) (fun i=>g a i ^^^ kd a i) (g a) (n+4))) 162 w (w3.setCell ⟨ga,q3,none⟩ (.int .u64 (v3:Int))).drew):=⟨by rw[←S3.out];exact at_drew (at_put (HR3.out) _ _)⟩
   obtain⟨w4,hw4⟩:∃ x,(w3.setCell ⟨ga,q3,none⟩ (.int .u64 (v3:Int))).drew=x:=⟨_,rfl⟩
   rw[hw4]at HR4
   rw[hw4]
   clear hw4 c3 f3 V3 S3 HR3
   rw[show n+4=q4 by have:=Hq.out;omega]at HR4
   have c4:w4.cell? ⟨ga,q4,none⟩=some (.int .u64 (x4:Int)):=cell_at HR4.out.row (by rw[lane_get (part_len _ _ _ _) _ u4,part_get _ _ _ _ _ u4 (by first | exact Nat.le_refl _ | (obtain⟨_,h1,h2,h3,h4⟩:=Hq.out;omega)),Hx4.out])
   have f4:w4.frozen? ⟨ga,q4,none⟩=false:=HR4.out.frozen q4
   skip
   refine still_tail 10 (by kernel_rfl) (by kernel_rfl) ?_
   simp only[List.take_succ_cons,List.take_zero,List.drop_succ_cons,List.drop_zero]
   repeat still_step
   refine wpStill_nil ?_
   go_wp2_with fail
   have HR5:Away (At ga (LK .u64 (kecm.part (fun i=>i) (fun i=>g a i ^^^ kd a i) (g a) (n+5))) 162 w (w4.setCell ⟨ga,q4,none⟩ (.int .u64 (v4:Int))).drew):=⟨by rw[←S4.out];exact at_drew (at_put (HR4.out) _ _)⟩
   go_roundw
   case rel=>exact⟨n+5,by have:=Hq.out;omega,by have:=Hq.out;omega,by go_num,HR5⟩
   case measure=>simp[intOf];omega
  ·obtain rfl:n=25:=by omega
   simp only[Int.cast_ofNat_Int]
   go_wp2_with fail
   refine bodyPost_end (v:=.tuple #[]) (results_none rfl _ _ _) rfl ?_
   have h:=HR0.out
   rw[part_all _ _ _ _ (fun i hi=>hi)]at h
   exact⟨rfl,h⟩
end kmix
namespace kturn
open Go.RowKit
open arr mem kecm kecb
def PL:List Nat:=[0,10,20,5,15,16,1,11,21,6,7,17,2,12,22,23,8,18,3,13,14,24,9,19,4]
theorem pl_dst:∀ k:Fin 25,PL.getD k.val 0=dst k.val:=by decide
def Gp (w:World):Prop:=∃ t,w.heap[3]? = some (.cells (LK .i64 PL) t (0,0))
theorem gp_lt {w:World} (h:Gp w) : 3<w.heap.size:=by
 obtain⟨t,h⟩:=h
 exact lt_of_row h
theorem Gp.later {w w':World} (h:Gp w) (hb:Below w.heap.size w w'):Gp w':=by
 have hl:=gp_lt h
 obtain⟨t,h⟩:=h
 exact⟨t,(hb.block _ hl).trans h⟩
theorem Gp.at {w w':World} {g:Nat} {C:Array Value} {t:TypeId} (h:Gp w) (hb:At g C t w w') (hg:g≠3):Gp w':=by
 have hl:=gp_lt h
 obtain⟨tt,h⟩:=h
 exact⟨tt,hb.other hl (Ne.symm hg) h⟩
def tl (ts a:List Nat) (j:Nat):Nat:=rol (g a (src j)) (ts.getD (src j) 0%64)
theorem turn_is (ts a:List Nat):turnL (fun i=>ts.getD i 0) a=mkS (tl ts a):=rfl
theorem turn_any (gt ga gu o:Nat) (D a ts:List Nat) (w:World) (hD:D.length=25) (h:St a) (ht:∀ i,ts.getD i 0<9223372036854775808) (hP:Gp w)
 (hT:w.heap[gt]? = some (.cells (LK .u64 D) 162 (0,0))) (hA:w.heap[ga]? = some (.cells (LK .u64 a) 162 (0,0)))
 (hU:∀ i,i<25→w.cell? ⟨gu,o+i,none⟩=some (.int .i64 ((ts.getD i 0:Nat):Int))) (hga:ga≠gt) (hgu:gu≠gt) (hgl:gu<w.heap.size):
 Calls Tryz.prog 212 #[.pointer (some ⟨gt,0,none⟩),.pointer (some ⟨ga,0,none⟩),.pointer (some ⟨gu,o,none⟩)] w fun e w'=>e=.returned (.tuple #[])∧At gt (LK .u64 (turnL (fun i=>ts.getD i 0) a)) 162 w w':=by
 rw[turn_is]
 have H:=Away.mk h
 have HA:=Away.mk hA
 have HT:=Away.mk hT
 have HD:=Away.mk hD
 have HU:=Away.mk hU
 have Ht:=Away.mk ht
 have Hga:=Away.mk hga
 have Hgu:=Away.mk hgu
 have Hgl:=Away.mk hgl
 have Hal:=Away.mk (lt_of_row hA)
 obtain⟨tp,hP1⟩:=hP
 have hpl:∀ k,k<25→PL.getD k 0=dst k:=fun k hk=>pl_dst ⟨k,hk⟩
 have hpz:PL.length=25:=rfl
 obtain⟨PV,HPV⟩:=ex_eq PL
 rw[HPV.out]at hP1 hpl hpz
 have HP:=Away.mk hP1
 have Hpl:=Away.mk hpl
 have Hpz:=Away.mk hpz
 have Hps:Away ((Tryz.prog.info? 31).map (·.size)=some (LK .i64 PV).size):=⟨by rw[lk_size,hpz];kernel_rfl⟩
 clear h hA hT hD hU ht hga hgu hgl hP1 hpl hpz HPV
 go_enter Tryz.func212,Tryz.ntmps212
 go_wp2_with (refine wpList_load_row rfl 31 _ rfl 3 rfl tp _ (0,0) _ HP.out Tryz.underlying31 rfl Hps.out ?_)
 go_loopw [9] (fun i wr=>∃ k:Nat,k≤25∧i=.int .i64 (k:Int)∧Away (At gt (LK .u64 (kecm.part src (tl ts a) (g D) k)) 162 w wr)) (fun i _=>25-(intOf i).toNat)
 case atStart=>
  refine⟨0,by decide,rfl,⟨?_⟩⟩
  rw[part_zero,mkS_eta HD.out]
  exact At.refl HT.out
 case round=>
  obtain⟨k,hk,rfl,HR⟩:=hrel
  by_cases hlt:k<25
  ·have hag:∀ w:World,(Instr.index 31 (.agg (LK .i64 PV)) (.int .i64 (k:Int))).run Tryz.prog w=.ok (.int .i64 ((dst k:Nat):Int)) w:=fun w=>
    index_row Tryz.underlying31 (by kernel_rfl) (by kernel_rfl) (by kernel_rfl) _ _ k hlt (by rw[lk_get _ _ _ (by rw[Hpz.out];exact hlt),Hpl.out k hlt]) w
   obtain⟨j,hj⟩:∃ j,dst k=j:=⟨_,rfl⟩
   rw[hj]at hag
   have hj25:j<25:=hj ▸ dst_lt k hlt
   have hjz:(j:Int)<25:=by omega
   have hkz:(k:Int)<25:=by omega
   have hsj:src j=k:=hj ▸ src_dst ⟨k,hlt⟩
   obtain⟨x,hx⟩:∃ x,g a k=x:=⟨_,rfl⟩
   have bx:x<18446744073709551616:=hx ▸ H.out.lt k
   obtain⟨t,htt⟩:∃ t,ts.getD k 0=t:=⟨_,rfl⟩
   have bt:t<9223372036854775808:=htt ▸ Ht.out k
   have cx:=lane_at H.out.len (HR.out.other Hal.out Hga.out HA.out) k x hlt hx
   have ct:wr.cell? ⟨gu,o+k,none⟩=some (.int .i64 (t:Int)):=by
    have h1:=HU.out k hlt
    rw[htt]at h1
    rw[←h1]
    unfold World.cell?
    rw[HR.out.block gu Hgl.out Hgu.out]
   have HS:Away ((LK .u64 (kecm.part src (tl ts a) (g D) k)).setIfInBounds j (.int .u64 ((rol x (t%64):Nat):Int))=LK .u64 (kecm.part src (tl ts a) (g D) (k+1))):=⟨part_lane j _ hj25 hsj (fun i hi e=>by have:=dst_src ⟨i,hi⟩;simp only at this;rw[←this,e,hj]) (by rw[tl,hsj,hx,htt])⟩
   clear hsj hx htt hj
   go_wp2_with fail
   refine still_tail 15 (by kernel_rfl) (by kernel_rfl) ?_
   simp only[List.take_succ_cons,List.take_zero,List.drop_succ_cons,List.drop_zero]
   repeat still_step
   still_call (rols.rotl_any x t _ bx bt)
   repeat still_step
   refine wpStill_nil ?_
   have HR1:Away (At gt (LK .u64 (kecm.part src (tl ts a) (g D) k)) 162 w wr.drew):=⟨at_drew HR.out⟩
   clear cx ct
   with_reducible refine wpList_put2 HR1 rfl _ _ _ rfl rfl ?_
   refine⟨_,_,_,rfl,rfl,rfl,by rw[lk25 _ (part_len _ _ _ _)];exact hj25,?_⟩
   intro wn HRn
   rw[HS.out]at HRn
   clear hag HS HR1
   go_wp2_with fail
   go_roundw
   case rel=>exact⟨k+1,by omega,by go_num,HRn⟩
   case measure=>simp[intOf];omega
  ·obtain rfl:k=25:=by omega
   simp only[Int.cast_ofNat_Int]
   go_wp2_with fail
   refine bodyPost_end (v:=.tuple #[]) (results_none rfl _ _ _) rfl ?_
   have h:=HR.out
   rw[part_all _ _ _ _ (fun i hi=>src_lt i hi)]at h
   exact⟨rfl,h⟩
end kturn
namespace kbend
open Go.RowKit
open arr mem kecm kecb
def bl (a:List Nat) (i:Nat):Nat:=g a i ^^^ (not64 (g a ((i%5+1)%5+5*(i / 5))) &&& g a ((i%5+2)%5+5*(i / 5)))
theorem bl_is (a:List Nat) (i p q x y z r:Nat) (hp:(i%5+1)%5+5*(i / 5)=p) (hq:(i%5+2)%5+5*(i / 5)=q) (hx:g a i=x) (hy:g a p=y) (hz:g a q=z) (hr:bl a i=r):x ^^^ (not64 y &&& z)=r:=by
 rw[←hr,bl,hp,hq,hx,hy,hz]
theorem bend_any (gb ga:Nat) (D a:List Nat) (w:World) (hD:D.length=25) (h:St a) (hB:w.heap[gb]? = some (.cells (LK .u64 D) 162 (0,0))) (hA:w.heap[ga]? = some (.cells (LK .u64 a) 162 (0,0))) (hne:ga≠gb):
 Calls Tryz.prog 213 #[.pointer (some ⟨gb,0,none⟩),.pointer (some ⟨ga,0,none⟩)] w fun e w'=>e=.returned (.tuple #[])∧At gb (LK .u64 (bendL a)) 162 w w':=by
 have H:=Away.mk h
 have HA:=Away.mk hA
 have HB:=Away.mk hB
 have HD:=Away.mk hD
 have Hne:=Away.mk hne
 have Hlt:=Away.mk (lt_of_row hA)
 clear h hA hB hD hne
 go_enter Tryz.func213,Tryz.ntmps213
 go_wp2_with fail
 go_loopw [4] (fun i wr=>∃ n:Nat,n≤25∧n%5=0∧i=.int .i64 (n:Int)∧Away (At gb (LK .u64 (kecm.part (fun i=>i) (bl a) (g D) n)) 162 w wr)) (fun i _=>25-(intOf i).toNat)
 case atStart=>
  refine⟨0,by decide,rfl,rfl,⟨?_⟩⟩
  rw[part_zero,mkS_eta HD.out]
  exact At.refl HB.out
 case round=>
  obtain⟨n,hn,hm,rfl,HR0⟩:=hrel
  by_cases hlt:n<25
  ·have hn20:n≤20:=by omega
   have hA2:=HR0.out.other Hlt.out Hne.out HA.out
   clear hn hlt
   have u0:n<25:=by omega
   have z0:(n:Int)<25:=by omega
   obtain⟨x0,hx0⟩:∃ x,g a n=x:=⟨_,rfl⟩
   have b0:x0<18446744073709551616:=hx0 ▸ H.out.lt _
   have c0:=lane_at H.out.len hA2 n x0 u0 hx0
   obtain⟨q1,hq1⟩:∃ x,x=n+1:=⟨_,rfl⟩
   have wr1:IntKind.i64.wrap ((n:Int)+1)=(q1:Int):=by rw[IntKind.wrap_i64];omega
   have ws1:(n:Int)+1=(q1:Int):=by omega
   have u1:q1<25:=by omega
   have z1:(q1:Int)<25:=by omega
   obtain⟨x1,hx1⟩:∃ x,g a q1=x:=⟨_,rfl⟩
   have b1:x1<18446744073709551616:=hx1 ▸ H.out.lt _
   have c1:=lane_at H.out.len hA2 q1 x1 u1 hx1
   obtain⟨q2,hq2⟩:∃ x,x=n+2:=⟨_,rfl⟩
   have wr2:IntKind.i64.wrap ((n:Int)+2)=(q2:Int):=by rw[IntKind.wrap_i64];omega
   have ws2:(n:Int)+2=(q2:Int):=by omega
   have u2:q2<25:=by omega
   have z2:(q2:Int)<25:=by omega
   obtain⟨x2,hx2⟩:∃ x,g a q2=x:=⟨_,rfl⟩
   have b2:x2<18446744073709551616:=hx2 ▸ H.out.lt _
   have c2:=lane_at H.out.len hA2 q2 x2 u2 hx2
   obtain⟨q3,hq3⟩:∃ x,x=n+3:=⟨_,rfl⟩
   have wr3:IntKind.i64.wrap ((n:Int)+3)=(q3:Int):=by rw[IntKind.wrap_i64];omega
   have ws3:(n:Int)+3=(q3:Int):=by omega
   have u3:q3<25:=by omega
   have z3:(q3:Int)<25:=by omega
   obtain⟨x3,hx3⟩:∃ x,g a q3=x:=⟨_,rfl⟩
   have b3:x3<18446744073709551616:=hx3 ▸ H.out.lt _
   have c3:=lane_at H.out.len hA2 q3 x3 u3 hx3
   obtain⟨q4,hq4⟩:∃ x,x=n+4:=⟨_,rfl⟩
   have wr4:IntKind.i64.wrap ((n:Int)+4)=(q4:Int):=by rw[IntKind.wrap_i64];omega
   have ws4:(n:Int)+4=(q4:Int):=by omega
   have u4:q4<25:=by omega
   have z4:(q4:Int)<25:=by omega
   obtain⟨x4,hx4⟩:∃ x,g a q4=x:=⟨_,rfl⟩
   have b4:x4<18446744073709551616:=hx4 ▸ H.out.lt _
   have c4:=lane_at H.out.len hA2 q4 x4 u4 hx4
   obtain⟨v0,hv0⟩:∃ x,bl a n=x:=⟨_,rfl⟩
   have V0:=bendz x0 x1 x2 v0 b0 b2 (bl_is a n q1 q2 x0 x1 x2 v0 (by omega) (by omega) hx0 hx1 hx2 hv0)
   have S0:Away ((LK .u64 (kecm.part (fun i=>i) (bl a) (g D) n)).setIfInBounds n (.int .u64 (v0:Int))=LK .u64 (kecm.part (fun i=>i) (bl a) (g D) (n+1))):=⟨by rw[part_lane n v0 u0 rfl (fun i _ e=>e) hv0]⟩
   obtain⟨v1,hv1⟩:∃ x,bl a q1=x:=⟨_,rfl⟩
   have V1:=bendz x1 x2 x3 v1 b1 b3 (bl_is a q1 q2 q3 x1 x2 x3 v1 (by omega) (by omega) hx1 hx2 hx3 hv1)
   have S1:Away ((LK .u64 (kecm.part (fun i=>i) (bl a) (g D) q1)).setIfInBounds q1 (.int .u64 (v1:Int))=LK .u64 (kecm.part (fun i=>i) (bl a) (g D) (n+2))):=⟨by rw[part_lane q1 v1 u1 rfl (fun i _ e=>e) hv1];rw[hq1]⟩
   obtain⟨v2,hv2⟩:∃ x,bl a q2=x:=⟨_,rfl⟩
   have V2:=bendz x2 x3 x4 v2 b2 b4 (bl_is a q2 q3 q4 x2 x3 x4 v2 (by omega) (by omega) hx2 hx3 hx4 hv2)
   have S2:Away ((LK .u64 (kecm.part (fun i=>i) (bl a) (g D) q2)).setIfInBounds q2 (.int .u64 (v2:Int))=LK .u64 (kecm.part (fun i=>i) (bl a) (g D) (n+3))):=⟨by rw[part_lane q2 v2 u2 rfl (fun i _ e=>e) hv2];rw[hq2]⟩
   obtain⟨v3,hv3⟩:∃ x,bl a q3=x:=⟨_,rfl⟩
   have V3:=bendz x3 x4 x0 v3 b3 b0 (bl_is a q3 q4 n x3 x4 x0 v3 (by omega) (by omega) hx3 hx4 hx0 hv3)
   have S3:Away ((LK .u64 (kecm.part (fun i=>i) (bl a) (g D) q3)).setIfInBounds q3 (.int .u64 (v3:Int))=LK .u64 (kecm.part (fun i=>i) (bl a) (g D) (n+4))):=⟨by rw[part_lane q3 v3 u3 rfl (fun i _ e=>e) hv3];rw[hq3]⟩
   obtain⟨v4,hv4⟩:∃ x,bl a q4=x:=⟨_,rfl⟩
   have V4:=bendz x4 x0 x1 v4 b4 b1 (bl_is a q4 n q1 x4 x0 x1 v4 (by omega) (by omega) hx4 hx0 hx1 hv4)
   have S4:Away ((LK .u64 (kecm.part (fun i=>i) (bl a) (g D) q4)).setIfInBounds q4 (.int .u64 (v4:Int))=LK .u64 (kecm.part (fun i=>i) (bl a) (g D) (n+5))):=⟨by rw[part_lane q4 v4 u4 rfl (fun i _ e=>e) hv4];rw[hq4]⟩
   have Hq:Away (n%5=0∧q1=n+1∧q2=n+2∧q3=n+3∧q4=n+4):=⟨hm,hq1,hq2,hq3,hq4⟩
   clear hm hq1 ws1 hq2 ws2 hq3 ws3 hq4 ws4 hA2 hx0 hv0 hx1 hv1 hx2 hv2 hx3 hv3 hx4 hv4
   go_wp2_with fail
   refine still_all (by kernel_rfl) (by kernel_rfl) ?_
   iterate 34 still_step
   refine wpStill_nil ?_
   have HR0:Away (At gb _ 162 w wr.drew):=⟨at_drew HR0.out⟩
   clear c0 c1 c2 c3 c4
   have ws1:(n:Int)+1=(q1:Int):=by have:=Hq.out;omega
   have ws2:(n:Int)+2=(q2:Int):=by have:=Hq.out;omega
   have ws3:(n:Int)+3=(q3:Int):=by have:=Hq.out;omega
   have ws4:(n:Int)+4=(q4:Int):=by have:=Hq.out;omega
   go_wp2_with (first | ((with_reducible refine wpList_not x0 b0 rfl _ _ rfl ?hx ?_);(case hx=>exact rfl)) | ((with_reducible refine wpList_not x1 b1 rfl _ _ rfl ?hx ?_);(case hx=>exact rfl)) | ((with_reducible refine wpList_not x2 b2 rfl _ _ rfl ?hx ?_);(case hx=>exact rfl)) | ((with_reducible refine wpList_not x3 b3 rfl _ _ rfl ?hx ?_);(case hx=>exact rfl)) | ((with_reducible refine wpList_not x4 b4 rfl _ _ rfl ?hx ?_);(case hx=>exact rfl)) | ((with_reducible refine wpList_put2 (by assumption) rfl _ _ _ rfl rfl ?_);refine⟨_,_,_,rfl,rfl,rfl,(by simp only[Array.size_setIfInBounds,lk25 _ (part_len _ _ _ _)];assumption),?_⟩;intro wn HRn))
   have HR5:Away (At gb (LK .u64 (kecm.part (fun i=>i) (bl a) (g D) (n+5))) 162 w wn):=by
    have h:=HRn.out
    rw[S0.out]at h
    rw[show n+1=q1 by have:=Hq.out;omega]at h
    rw[S1.out]at h
    rw[show n+2=q2 by have:=Hq.out;omega]at h
    rw[S2.out]at h
    rw[show n+3=q3 by have:=Hq.out;omega]at h
    rw[S3.out]at h
    rw[show n+4=q4 by have:=Hq.out;omega]at h
    rw[S4.out]at h
    exact⟨h⟩
   go_roundw
   case rel=>exact⟨n+5,by have:=Hq.out;omega,by have:=Hq.out;omega,by go_num,HR5⟩
   case measure=>simp[intOf];omega
  ·obtain rfl:n=25:=by omega
   simp only[Int.cast_ofNat_Int]
   go_wp2_with fail
   refine bodyPost_end (v:=.tuple #[]) (results_none rfl _ _ _) rfl ?_
   have h:=HR0.out
   rw[part_all _ _ _ _ (fun i hi=>hi)]at h
   exact⟨rfl,h⟩
end kbend
namespace kstep
open Go.RowKit
open arr mem kecm kecb kturn
structure KT (T:Array Value) (ts rs:List Nat):Prop where
 t:∀ i,i<25→T[184+i]? = some (.int .i64 ((ts.getD i 0:Nat):Int))
 r:∀ i,i<24→T[160+i]? = some (.int .u64 ((rs.getD i 0:Nat):Int))
 bt:∀ i,ts.getD i 0<9223372036854775808
 br:∀ i,rs.getD i 0<18446744073709551616
 size:T.size=465
 one:T.all (·.oneCell')=true
def Z:List Nat:=List.replicate 25 0
theorem z_len:Z.length=25:=rfl
theorem z_is:(#[.int .u64 0,.int .u64 0,.int .u64 0,.int .u64 0,.int .u64 0,.int .u64 0,.int .u64 0,.int .u64 0,.int .u64 0,.int .u64 0,.int .u64 0,.int .u64 0,.int .u64 0,.int .u64 0,.int .u64 0,.int .u64 0,.int .u64 0,.int .u64 0,.int .u64 0,.int .u64 0,.int .u64 0,.int .u64 0,.int .u64 0,.int .u64 0,.int .u64 0]:Array Value)=LK .u64 Z:=rfl
theorem info25:(Tryz.prog.info? 162).map (·.size)=some 25:=by kernel_rfl
theorem at_over {g gn:Nat} {C C':Array Value} {t t':TypeId} {a b c:World} (h:At g C t a b) (hn:a.heap.size≤gn) (hg:g≠gn) (k:At gn C' t' b c):At g C t a c:=
 ⟨k.os.trans h.os,k.tape.trans h.tape,k.output.trans h.output,Nat.le_trans h.size k.size,(k.block g h.lt hg).trans h.row,fun i hi hig=>(k.block i (Nat.lt_of_lt_of_le hi h.size) (by omega)).trans (h.block i hi hig)⟩
theorem iota_set {s:List Nat} (c v:Nat) (hs:s.length=25) (hv:g s 0 ^^^ c=v):(LK .u64 s).setIfInBounds 0 (.int .u64 (v:Int))=LK .u64 (iota c s):=by
 subst hv
 rw[lk_set]
 congr 1
 refine st_ext (by rw[List.length_set,hs]) (mkS_len _) fun i hi=>?_
 rw[iota,mkS_g _ i hi]
 unfold g
 rw[List.getD_eq_getElem?_getD,List.getElem?_set]
 by_cases e:i=0
 ·subst e
  rw[if_pos rfl,if_pos (by omega),if_pos rfl]
  rfl
 ·rw[if_neg (fun x=>e x.symm),if_neg e,List.getD_eq_getElem?_getD]
theorem step_at (m:Nat) (hm:m<24) (gT ga:Nat) (T:Array Value) (a ts rs:List Nat) (w:World) (h:St a) (hK:KT T ts rs) (hP:Gp w) (hT:w.heap[gT]? = some (.cells T 34 (0,0)))
 (hA:w.heap[ga]? = some (.cells (LK .u64 a) 162 (0,0))) (hne:ga≠gT) (hgp:ga≠3):
 Calls Tryz.prog 209 #[.pointer (some ⟨gT,0,none⟩),.pointer (some ⟨ga,0,none⟩),.int .i64 (m:Int)] w fun e w'=>e=.returned (.tuple #[])∧At ga (LK .u64 (roundL (fun i=>ts.getD i 0) (rs.getD m 0) a)) 162 w w':=by
 unfold roundL
 have H:=Away.mk h
 have HK:=Away.mk hK
 have HP:=Away.mk hP
 have HT:=Away.mk hT
 have HA:=Away.mk hA
 have Hne:=Away.mk hne
 have Hgp:=Away.mk hgp
 have HlT:=Away.mk (lt_of_row hT)
 have HlA:=Away.mk (lt_of_row hA)
 obtain⟨z,HZ⟩:=ex_eq Z
 have HZl:Away (z.length=25):=⟨by rw[←HZ.out];rfl⟩
 have hz:(#[.int .u64 0,.int .u64 0,.int .u64 0,.int .u64 0,.int .u64 0,.int .u64 0,.int .u64 0,.int .u64 0,.int .u64 0,.int .u64 0,.int .u64 0,.int .u64 0,.int .u64 0,.int .u64 0,.int .u64 0,.int .u64 0,.int .u64 0,.int .u64 0,.int .u64 0,.int .u64 0,.int .u64 0,.int .u64 0,.int .u64 0,.int .u64 0,.int .u64 0]:Array Value)=LK .u64 z:=by rw[←HZ.out];exact z_is
 have Hz:=Away.mk hz
 clear h hK hP hT hA hne hgp hz HZ
 have hm0:(0:Int)≤(m:Int):=by omega
 have hm1:(m:Int)<24:=by omega
 have Hm:=Away.mk hm
 clear hm
 have Hg:Away (∀ (s:List Nat) (w':World),At ga (LK .u64 (iota (rs.getD m 0) s)) 162 w w'→bendL (turnL (fun i=>ts.getD i 0) (mixL a))=s→At ga (LK .u64 (iota (rs.getD m 0) (bendL (turnL (fun i=>ts.getD i 0) (mixL a))))) 162 w w'):=⟨fun s w' h e=>by rw[e];exact h⟩
 go_enter Tryz.func209,Tryz.ntmps209
 go_wp2_with fail
 rw[Hz.out]
 obtain⟨W0,hW0⟩:∃ x,w.alloc (.cells (LK .u64 z) 162)=x:=⟨_,rfl⟩
 have hz0:W0.heap[w.heap.size]? = some (.cells (LK .u64 z) 162 (0,0)):=by rw[←hW0];exact heap_at _ _ _ rfl
 have A0:At ga (LK .u64 a) 162 w W0:=(At.refl HA.out).later (by rw[←hW0];exact below_alloc _ _)
 have hs0:W0.heap.size=w.heap.size+1:=by rw[←hW0,size_alloc]
 rw[hW0]
 clear hW0
 refine(kmix.mix_any ga a W0 H.out A0.row).mono ?_
 rintro e w1 ⟨rfl,h1⟩
 have hgl:=HlA.out
 have hTl:=HlT.out
 have A1:Away (At ga (LK .u64 (mixL a)) 162 w w1):=⟨A0.trans h1⟩
 have z1:Away (w1.heap[w.heap.size]? = some (.cells (LK .u64 z) 162 (0,0))):=⟨h1.other (by omega) (by omega) hz0⟩
 have t1:Away (w1.heap[gT]? = some (.cells T 34 (0,0))):=⟨A1.out.other hTl (Ne.symm Hne.out) HT.out⟩
 have s1:Away (w.heap.size<w1.heap.size):=⟨by have:=h1.size;omega⟩
 clear hz0 A0 hs0 h1 hgl hTl
 go_wp2_with fail
 refine(kturn.turn_any w.heap.size ga gT 184 z (mixL a) ts w1 HZl.out (mixL_st H.out) HK.out.bt (Gp.at HP.out A1.out Hgp.out) z1.out A1.out.row (fun i hi=>cell_at t1.out (HK.out.t i hi)) (by have:=HlA.out;omega) (by have:=HlT.out;omega) (by have:=HlT.out;have:=s1.out;omega)).mono ?_
 rintro e w2 ⟨rfl,h2⟩
 have A2:Away (At ga (LK .u64 (mixL a)) 162 w w2):=⟨at_over A1.out (Nat.le_refl _) (by have:=HlA.out;omega) h2⟩
 have B2:=Away.mk h2.row
 clear h2 A1 z1 t1 s1
 go_wp2_with fail
 refine(kbend.bend_any ga w.heap.size (mixL a) (turnL (fun i=>ts.getD i 0) (mixL a)) w2 (mixL_st H.out).len (turnL_st _ (mixL_st H.out)) A2.out.row B2.out (by have:=HlA.out;omega)).mono ?_
 rintro e w3 ⟨rfl,h3⟩
 have A3:Away (At ga (LK .u64 (bendL (turnL (fun i=>ts.getD i 0) (mixL a)))) 162 w w3):=⟨A2.out.trans h3⟩
 have Hst:Away (St (bendL (turnL (fun i=>ts.getD i 0) (mixL a)))):=⟨bendL_st (turnL_st _ (mixL_st H.out))⟩
 have T3:Away (w3.heap[gT]? = some (.cells T 34 (0,0))):=⟨A3.out.other HlT.out (Ne.symm Hne.out) HT.out⟩
 obtain⟨s,Hs⟩:=ex_eq (bendL (turnL (fun i=>ts.getD i 0) (mixL a)))
 rw[Hs.out]at A3 Hst
 clear A2 B2 h3
 obtain⟨x,hx⟩:∃ x,g s 0=x:=⟨_,rfl⟩
 obtain⟨c,hc⟩:∃ c,rs.getD m 0=c:=⟨_,rfl⟩
 obtain⟨v,hv⟩:∃ v,x ^^^ c=v:=⟨_,rfl⟩
 have bx:x<18446744073709551616:=hx ▸ Hst.out.lt 0
 have bc:c<18446744073709551616:=hc ▸ HK.out.br m
 have V:=xor2 x c v bx bc hv
 have cx:=lane_at Hst.out.len A3.out.row 0 x (by decide) hx
 have cr:w3.cell? ⟨gT,160+m,none⟩=some (.int .u64 (c:Int)):=by rw[←hc];exact cell_at T3.out (HK.out.r m Hm.out)
 have HS:Away ((LK .u64 s).setIfInBounds 0 (.int .u64 (v:Int))=LK .u64 (iota c s)):=⟨iota_set c v Hst.out.len (by rw[hx,hv])⟩
 have Hgoal:Away (∀ w':World,At ga (LK .u64 (iota c s)) 162 w w'→At ga (LK .u64 (iota (rs.getD m 0) (bendL (turnL (fun i=>ts.getD i 0) (mixL a))))) 162 w w'):=⟨fun w' h=>Hg.out s w' (by rw[hc];exact h) Hs.out⟩
 clear hx hc hv Hg
 go_wp2_with fail
 refine still_tail 13 (by kernel_rfl) (by kernel_rfl) ?_
 simp only[List.take_succ_cons,List.take_zero,List.drop_succ_cons,List.drop_zero]
 repeat still_step
 refine wpStill_nil ?_
 have A4:Away (At ga (LK .u64 s) 162 w w3.drew):=⟨at_drew A3.out⟩
 clear cx cr
 with_reducible refine wpList_put2 A4 rfl _ _ _ rfl rfl ?_
 refine⟨_,_,_,rfl,rfl,rfl,by rw[lk25 _ Hst.out.len];decide,?_⟩
 intro w4 A5
 rw[HS.out]at A5
 go_wp2_with fail
 refine bodyPost_end (v:=.tuple #[]) (results_none rfl _ _ _) rfl ?_
 exact⟨rfl,Hgoal.out _ A5.out⟩
theorem step_neg (n:Int) (hn:n<0) (gT ga:Nat) (T:Array Value) (a ts rs:List Nat) (w:World) (h:St a) (hK:KT T ts rs) (hP:Gp w) (hT:w.heap[gT]? = some (.cells T 34 (0,0)))
 (hA:w.heap[ga]? = some (.cells (LK .u64 a) 162 (0,0))) (hne:ga≠gT) (hgp:ga≠3):
 Calls Tryz.prog 209 #[.pointer (some ⟨gT,0,none⟩),.pointer (some ⟨ga,0,none⟩),.int .i64 n] w fun e w'=>e=.returned (.tuple #[])∧At ga (LK .u64 (roundL (fun i=>ts.getD i 0) (0) a)) 162 w w':=by
 unfold roundL
 have H:=Away.mk h
 have HK:=Away.mk hK
 have HP:=Away.mk hP
 have HT:=Away.mk hT
 have HA:=Away.mk hA
 have Hne:=Away.mk hne
 have Hgp:=Away.mk hgp
 have HlT:=Away.mk (lt_of_row hT)
 have HlA:=Away.mk (lt_of_row hA)
 obtain⟨z,HZ⟩:=ex_eq Z
 have HZl:Away (z.length=25):=⟨by rw[←HZ.out];rfl⟩
 have hz:(#[.int .u64 0,.int .u64 0,.int .u64 0,.int .u64 0,.int .u64 0,.int .u64 0,.int .u64 0,.int .u64 0,.int .u64 0,.int .u64 0,.int .u64 0,.int .u64 0,.int .u64 0,.int .u64 0,.int .u64 0,.int .u64 0,.int .u64 0,.int .u64 0,.int .u64 0,.int .u64 0,.int .u64 0,.int .u64 0,.int .u64 0,.int .u64 0,.int .u64 0]:Array Value)=LK .u64 z:=by rw[←HZ.out];exact z_is
 have Hz:=Away.mk hz
 clear h hK hP hT hA hne hgp hz HZ
 go_enter Tryz.func209,Tryz.ntmps209
 go_wp2_with fail
 rw[Hz.out]
 obtain⟨W0,hW0⟩:∃ x,w.alloc (.cells (LK .u64 z) 162)=x:=⟨_,rfl⟩
 have hz0:W0.heap[w.heap.size]? = some (.cells (LK .u64 z) 162 (0,0)):=by rw[←hW0];exact heap_at _ _ _ rfl
 have A0:At ga (LK .u64 a) 162 w W0:=(At.refl HA.out).later (by rw[←hW0];exact below_alloc _ _)
 have hs0:W0.heap.size=w.heap.size+1:=by rw[←hW0,size_alloc]
 rw[hW0]
 clear hW0
 refine(kmix.mix_any ga a W0 H.out A0.row).mono ?_
 rintro e w1 ⟨rfl,h1⟩
 have hgl:=HlA.out
 have hTl:=HlT.out
 have A1:Away (At ga (LK .u64 (mixL a)) 162 w w1):=⟨A0.trans h1⟩
 have z1:Away (w1.heap[w.heap.size]? = some (.cells (LK .u64 z) 162 (0,0))):=⟨h1.other (by omega) (by omega) hz0⟩
 have t1:Away (w1.heap[gT]? = some (.cells T 34 (0,0))):=⟨A1.out.other hTl (Ne.symm Hne.out) HT.out⟩
 have s1:Away (w.heap.size<w1.heap.size):=⟨by have:=h1.size;omega⟩
 clear hz0 A0 hs0 h1 hgl hTl
 go_wp2_with fail
 refine(kturn.turn_any w.heap.size ga gT 184 z (mixL a) ts w1 HZl.out (mixL_st H.out) HK.out.bt (Gp.at HP.out A1.out Hgp.out) z1.out A1.out.row (fun i hi=>cell_at t1.out (HK.out.t i hi)) (by have:=HlA.out;omega) (by have:=HlT.out;omega) (by have:=HlT.out;have:=s1.out;omega)).mono ?_
 rintro e w2 ⟨rfl,h2⟩
 have A2:Away (At ga (LK .u64 (mixL a)) 162 w w2):=⟨at_over A1.out (Nat.le_refl _) (by have:=HlA.out;omega) h2⟩
 have B2:=Away.mk h2.row
 clear h2 A1 z1 t1 s1
 go_wp2_with fail
 refine(kbend.bend_any ga w.heap.size (mixL a) (turnL (fun i=>ts.getD i 0) (mixL a)) w2 (mixL_st H.out).len (turnL_st _ (mixL_st H.out)) A2.out.row B2.out (by have:=HlA.out;omega)).mono ?_
 rintro e w3 ⟨rfl,h3⟩
 have A3:Away (At ga (LK .u64 (bendL (turnL (fun i=>ts.getD i 0) (mixL a)))) 162 w w3):=⟨A2.out.trans h3⟩
 have Hst:Away (St (bendL (turnL (fun i=>ts.getD i 0) (mixL a)))):=⟨bendL_st (turnL_st _ (mixL_st H.out))⟩
 have T3:Away (w3.heap[gT]? = some (.cells T 34 (0,0))):=⟨A3.out.other HlT.out (Ne.symm Hne.out) HT.out⟩
 obtain⟨s,Hs⟩:=ex_eq (bendL (turnL (fun i=>ts.getD i 0) (mixL a)))
 rw[Hs.out]at A3 Hst
 clear A2 B2 h3
 have Hgoal:Away (∀ w':World,At ga (LK .u64 s) 162 w w'→At ga (LK .u64 (iota 0 (bendL (turnL (fun i=>ts.getD i 0) (mixL a))))) 162 w w'):=⟨fun w' h=>by rw[Hs.out,iota_zero Hst.out.len];exact h⟩
 go_wp2_with fail
 refine bodyPost_end (v:=.tuple #[]) (results_none rfl _ _ _) rfl ?_
 exact⟨rfl,Hgoal.out _ A3.out⟩
theorem step_big (n:Int) (hn : 24≤n) (gT ga:Nat) (T:Array Value) (a ts rs:List Nat) (w:World) (h:St a) (hK:KT T ts rs) (hP:Gp w) (hT:w.heap[gT]? = some (.cells T 34 (0,0)))
 (hA:w.heap[ga]? = some (.cells (LK .u64 a) 162 (0,0))) (hne:ga≠gT) (hgp:ga≠3):
 Calls Tryz.prog 209 #[.pointer (some ⟨gT,0,none⟩),.pointer (some ⟨ga,0,none⟩),.int .i64 n] w fun e w'=>e=.returned (.tuple #[])∧At ga (LK .u64 (roundL (fun i=>ts.getD i 0) (0) a)) 162 w w':=by
 unfold roundL
 have H:=Away.mk h
 have HK:=Away.mk hK
 have HP:=Away.mk hP
 have HT:=Away.mk hT
 have HA:=Away.mk hA
 have Hne:=Away.mk hne
 have Hgp:=Away.mk hgp
 have HlT:=Away.mk (lt_of_row hT)
 have HlA:=Away.mk (lt_of_row hA)
 obtain⟨z,HZ⟩:=ex_eq Z
 have HZl:Away (z.length=25):=⟨by rw[←HZ.out];rfl⟩
 have hz:(#[.int .u64 0,.int .u64 0,.int .u64 0,.int .u64 0,.int .u64 0,.int .u64 0,.int .u64 0,.int .u64 0,.int .u64 0,.int .u64 0,.int .u64 0,.int .u64 0,.int .u64 0,.int .u64 0,.int .u64 0,.int .u64 0,.int .u64 0,.int .u64 0,.int .u64 0,.int .u64 0,.int .u64 0,.int .u64 0,.int .u64 0,.int .u64 0,.int .u64 0]:Array Value)=LK .u64 z:=by rw[←HZ.out];exact z_is
 have Hz:=Away.mk hz
 clear h hK hP hT hA hne hgp hz HZ
 go_enter Tryz.func209,Tryz.ntmps209
 go_wp2_with fail
 rw[Hz.out]
 obtain⟨W0,hW0⟩:∃ x,w.alloc (.cells (LK .u64 z) 162)=x:=⟨_,rfl⟩
 have hz0:W0.heap[w.heap.size]? = some (.cells (LK .u64 z) 162 (0,0)):=by rw[←hW0];exact heap_at _ _ _ rfl
 have A0:At ga (LK .u64 a) 162 w W0:=(At.refl HA.out).later (by rw[←hW0];exact below_alloc _ _)
 have hs0:W0.heap.size=w.heap.size+1:=by rw[←hW0,size_alloc]
 rw[hW0]
 clear hW0
 refine(kmix.mix_any ga a W0 H.out A0.row).mono ?_
 rintro e w1 ⟨rfl,h1⟩
 have hgl:=HlA.out
 have hTl:=HlT.out
 have A1:Away (At ga (LK .u64 (mixL a)) 162 w w1):=⟨A0.trans h1⟩
 have z1:Away (w1.heap[w.heap.size]? = some (.cells (LK .u64 z) 162 (0,0))):=⟨h1.other (by omega) (by omega) hz0⟩
 have t1:Away (w1.heap[gT]? = some (.cells T 34 (0,0))):=⟨A1.out.other hTl (Ne.symm Hne.out) HT.out⟩
 have s1:Away (w.heap.size<w1.heap.size):=⟨by have:=h1.size;omega⟩
 clear hz0 A0 hs0 h1 hgl hTl
 go_wp2_with fail
 refine(kturn.turn_any w.heap.size ga gT 184 z (mixL a) ts w1 HZl.out (mixL_st H.out) HK.out.bt (Gp.at HP.out A1.out Hgp.out) z1.out A1.out.row (fun i hi=>cell_at t1.out (HK.out.t i hi)) (by have:=HlA.out;omega) (by have:=HlT.out;omega) (by have:=HlT.out;have:=s1.out;omega)).mono ?_
 rintro e w2 ⟨rfl,h2⟩
 have A2:Away (At ga (LK .u64 (mixL a)) 162 w w2):=⟨at_over A1.out (Nat.le_refl _) (by have:=HlA.out;omega) h2⟩
 have B2:=Away.mk h2.row
 clear h2 A1 z1 t1 s1
 go_wp2_with fail
 refine(kbend.bend_any ga w.heap.size (mixL a) (turnL (fun i=>ts.getD i 0) (mixL a)) w2 (mixL_st H.out).len (turnL_st _ (mixL_st H.out)) A2.out.row B2.out (by have:=HlA.out;omega)).mono ?_
 rintro e w3 ⟨rfl,h3⟩
 have A3:Away (At ga (LK .u64 (bendL (turnL (fun i=>ts.getD i 0) (mixL a)))) 162 w w3):=⟨A2.out.trans h3⟩
 have Hst:Away (St (bendL (turnL (fun i=>ts.getD i 0) (mixL a)))):=⟨bendL_st (turnL_st _ (mixL_st H.out))⟩
 have T3:Away (w3.heap[gT]? = some (.cells T 34 (0,0))):=⟨A3.out.other HlT.out (Ne.symm Hne.out) HT.out⟩
 obtain⟨s,Hs⟩:=ex_eq (bendL (turnL (fun i=>ts.getD i 0) (mixL a)))
 rw[Hs.out]at A3 Hst
 clear A2 B2 h3
 have Hgoal:Away (∀ w':World,At ga (LK .u64 s) 162 w w'→At ga (LK .u64 (iota 0 (bendL (turnL (fun i=>ts.getD i 0) (mixL a))))) 162 w w'):=⟨fun w' h=>by rw[Hs.out,iota_zero Hst.out.len];exact h⟩
 go_wp2_with fail
 refine bodyPost_end (v:=.tuple #[]) (results_none rfl _ _ _) rfl ?_
 exact⟨rfl,Hgoal.out _ A3.out⟩
def cst (rs:List Nat) (n:Int):Nat:=if 0≤n∧n<24 then rs.getD n.toNat 0 else 0
theorem step_any (n:Int) (gT ga:Nat) (T:Array Value) (a ts rs:List Nat) (w:World) (h:St a) (hK:KT T ts rs) (hP:Gp w) (hT:w.heap[gT]? = some (.cells T 34 (0,0)))
 (hA:w.heap[ga]? = some (.cells (LK .u64 a) 162 (0,0))) (hne:ga≠gT) (hgp:ga≠3):
 Calls Tryz.prog 209 #[.pointer (some ⟨gT,0,none⟩),.pointer (some ⟨ga,0,none⟩),.int .i64 n] w fun e w'=>e=.returned (.tuple #[])∧At ga (LK .u64 (roundL (fun i=>ts.getD i 0) (cst rs n) a)) 162 w w':=by
 by_cases h0:n<0
 ·rw[cst,if_neg (by omega)]
  exact step_neg n h0 gT ga T a ts rs w h hK hP hT hA hne hgp
 ·by_cases h1 : 24≤n
  ·rw[cst,if_neg (by omega)]
   exact step_big n h1 gT ga T a ts rs w h hK hP hT hA hne hgp
  ·obtain⟨m,rfl⟩:=Int.eq_ofNat_of_zero_le (show 0≤n by omega)
   rw[cst,if_pos (by omega),Int.toNat_natCast]
   exact step_at m (by omega) gT ga T a ts rs w h hK hP hT hA hne hgp
end kstep
end Go.Proofs.YtomphjajkkddkaaGreatDoor
namespace Go.Proofs.YtomphjajkkddkaaGreatDoor.laid3
open Go Go.ChangeShapes Go.WideShapes Go.RowKit
open arr mem kturn
theorem ints_of_laid {P:Program} {w:World} {g n:Nat} {name:String} {t e:TypeId} {rest:List (String × DataW Unit)} (ds:List Nat) (h:laidMetH P ((name,.agg (ds.map fun d:Nat=>.lit (.int .i64 (d:Int)))) :: rest) w) (hr:(rest.all fun x=>x.2.handleName?.isNone)=true) (hg:P.globalNamed name=some g) (ht:(P.globals[g]?).map (·.type)=some t)
 (hu:P.underlying t=some (.array n e)) (he:P.underlying e=some (.int .i64)) (hce:P.cellsOf e=1) (hct:P.cellsOf t=n) (hl:ds.length=n) (hn : 0<n):∃ t,w.heap[g]? = some (.cells (LK .i64 ds) t (0,0)):=by
 rw[MakeChecks.laidMetH_plain _ _ _ (by rw[List.all_cons,hr,Bool.and_true];simp[DataW.handleName?])]at h
 obtain⟨ps,⟨g0,t0,cs,fuel,p,q,hg0,ht0,hv,hd,hq,hps⟩,-,hb⟩:=h
 obtain rfl:=Option.some.inj (hg.symm.trans hg0)
 obtain rfl:=Option.some.inj (ht.symm.trans ht0)
 obtain⟨xs,m,-,hx,hlen,hxs,hel⟩:=DataW.trod_array hu hd
 simp only[Prod.mk.injEq,DataW.agg.injEq]at hx
 have hsz:cs.size=n:=by rw[←hct,←hlen];simp
 have hmem:MemPlace.cell g 0∈ps:=by
  rw[hps]
  refine List.mem_append_left _ (List.mem_append_left _ (MemPlace.mem_row.2 ⟨0,by omega,by simp⟩))
 obtain⟨⟨c,t',hc⟩,-⟩:=hb g 0 hmem
 have hcc:c=cs:=by
  simp only[World.var?,hg,Option.bind_some,hc]at hv
  exact Option.some.inj hv
 subst hcc
 refine⟨t',?_⟩
 rw[hc]
 congr 2
 apply Array.ext (by rw[lk_size,hsz,hl])
 intro i h1 h2
 have h3:=hel i (by omega)
 rw[hce,Nat.mul_one,List.drop_eq_getElem_cons (by simpa using h1),List.take_succ_cons,List.take_zero,List.getElem?_eq_getElem (by omega)]at h3
 obtain⟨a,e1,e2,-⟩:=DataW.trod_int he h3
 have e3:(ds.map fun d:Nat=>(DataW.lit (.int .i64 (d:Int)):DataW Unit))[i]? = (xs.map (·.1))[i]? := by rw[hx.1]
 rw[List.getElem?_map,List.getElem?_map,List.getElem?_eq_getElem (by omega),List.getElem?_eq_getElem (by omega),e2]at e3
 simp only[Option.map_some,Option.some.injEq,DataW.lit.injEq,Lit.int.injEq,true_and]at e3
 simp only[List.cons.injEq,and_true]at e1
 have e4:c[i]=.int .i64 a:=by simpa using e1
 rw[e4,←e3]
 simp[LK]
theorem gp_of {w : World} (h : laidMetH Tryz.prog [("sigil/keccak.places", Rows.laid_sigil_keccak_places), ("unicode/utf8.acceptRanges", Rows.laid_unicode_utf8_acceptRanges), ("unicode/utf8.first", Rows.laid_unicode_utf8_first)] w) : Gp w :=
 ints_of_laid (n:=25) (t:=31) (e:=3) PL h (by kernel_rfl) (by kernel_rfl) (by kernel_rfl) (by kernel_rfl) (by kernel_rfl) (by kernel_rfl) (by kernel_rfl) rfl (by decide)
end Go.Proofs.YtomphjajkkddkaaGreatDoor.laid3
