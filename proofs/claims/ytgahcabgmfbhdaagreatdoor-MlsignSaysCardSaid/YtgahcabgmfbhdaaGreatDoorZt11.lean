/-
  What the kernel's fast reckonings stand for: hashes, Uniform, Small, Ball, masks, products, packed b
-/
import Derived.Test.YtgahcabgmfbhdaaGreatDoorZt10
import Derived.Test.YtgahcabgmfbhdaaGreatDoorZt07
import Derived.Test.YtgahcabgmfbhdaaGreatDoorZt09
import Derived.Test.YtgahcabgmfbhdaaGreatDoorZt01
import Derived.Test.YtgahcabgmfbhdaaGreatDoorZt03
import Derived.Test.YtgahcabgmfbhdaaGreatDoorZt02
set_option maxRecDepth 100000
set_option maxHeartbeats 16000000
set_option linter.unusedSimpArgs false
set_option linter.unusedVariables false
open Go Go.RowKit
namespace Go.Proofs.YtgahcabgmfbhdaaGreatDoor
namespace sigp
open kecf tbf sigf bitm samm samb keca spok polys fldm rndm nttl rbitd rsdoc rbith saml
open rbitc (bys xao xa0 bt)
theorem xcz{α : Type}(k:Int)(r m:Nat)(b:ByteArray)(n:Nat)(hr:spgm.rate k=r)(hm:spgm.mark k=m)(kk:List Nat → α):outS r m (bys b) n kk=kk (bys (out TL RL k b n)):=by
 subst hr hm;rw[xtl,samc.xol];rfl
theorem xib{α : Type}(k:Nat → α)(l:List Nat):∀ acc p,pkS k l acc p=k (acc+p*pk 8 l):=by
 induction l with
 | nil=>intro acc p;rw[pkS,pk,Nat.mul_zero,Nat.add_zero]
 | cons x r ih=>
  intro acc p;rw[pkS,xa7,xa7,ih,pk,Nat.mul_add,←Nat.add_assoc,←Nat.mul_assoc];rfl
theorem byN_eq(N i:Nat):byN N i=N / 256 ^ i%256:=rfl
theorem xdg(B:List Nat)(h:∀ x∈B,x<2 ^ 8)(i:Nat):byN (pk 8 B) i=by' B i:=by
 rw[byN_eq];have e:(256:Nat) ^ i=2 ^ (8*i):=by rw[Nat.pow_mul]
 rw[e];unfold by'
 rw[List.getD_eq_getElem?_getD];by_cases hi:i<B.length
 ·rw[List.getElem?_eq_getElem hi];exact xe8 8 B h i hi
 ·rw[List.getElem?_eq_none (by omega)];have h1:=xkv 8 B h;have h2 : 2 ^ (8*B.length)≤2 ^ (8*i):=Nat.pow_le_pow_right (by decide) (by omega);rw[Nat.div_eq_of_lt (by omega)];rfl
def pick(v:Nat→Nat)(o:Nat→Bool):Nat→List Nat
 | 0=>[]
 | j+1=>if (pick v o j).length<256∧o j=true then pick v o j ++ [v j] else pick v o j
theorem xtw(v:Nat→Nat)(o:Nat→Bool)(j k:Nat)(h : 256≤(pick v o j).length)(hk:j≤k):pick v o k=pick v o j:=by
 induction k with
 | zero=>rw[show j=0 by omega]
 | succ k ih=>
  by_cases e:j=k+1
  ·rw[e]
  ·rw[pick,ih (by omega),if_neg (by omega)]
theorem xow(w:Nat)(l:List Nat)(x:Nat):pk w (l ++ [x])=pk w l+x*2 ^ (w*l.length):=by
 induction l with
 | nil=>simp[pk]
 | cons y r ih=>
  rw[List.cons_append,pk,ih,pk,List.length_cons,Nat.mul_succ,Nat.pow_add,Nat.mul_add,Nat.add_assoc,Nat.mul_left_comm (2 ^ w) x,Nat.mul_comm (2 ^ w) (2 ^ (w*r.length))]
theorem ct{α : Type}(x y : α):cond true x y=x:=rfl
theorem cf{α : Type}(x y : α):cond false x y=y:=rfl
theorem xfy{a b:Nat}(h:a≤b):Nat.ble a b=true:=Nat.ble_eq_true_of_le h
theorem xfx{a b:Nat}(h:¬ a≤b):Nat.ble a b=false:=Bool.eq_false_iff.2 fun e=>h (Nat.le_of_ble_eq_true e)
theorem xot{α : Type}(v:Nat→Nat)(o:Nat→Bool)(k:Nat→Nat → α)(f:Nat):∀ j,pickS v o k f j (pick v o j).length (pk 32 (pick v o j))=k (pick v o (j+f)).length (pk 32 (pick v o (j+f))):=by
 induction f with
 | zero=>intro j;rfl
 | succ f ih=>
  intro j;rw[pickS];by_cases h : 256≤(pick v o j).length
  ·rw[xfy h,xtw v o j (j+(f+1)) h (by omega)];rfl
  ·rw[xfx h];have h2:=ih (j+1);rw[show j+1+f=j+(f+1) by omega]at h2;rw[←h2];by_cases e:o j=true
   ·have e2:pick v o (j+1)=pick v o j ++ [v j]:=by rw[pick,if_pos ⟨by omega,e⟩]
    rw[e2,xow,List.length_append,e,Nat.pow_mul,cf,ct,xa7,xa7,xa7];rfl
   ·have e2:pick v o (j+1)=pick v o j:=by rw[pick,if_neg (fun x=>e x.2)]
    rw[e2,Bool.eq_false_iff.2 e,cf,cf,xa7]
theorem xpc(l:List Nat)(hl:l.length=256)(h:∀ x∈l,x<8380417):Rep (pk 32 l) (lf l):=by
 intro i hi;have e:lk (pk 32 l) i=l[i]'(by omega):=by
  rw[xkc,show (4294967296:Nat) ^ i=2 ^ (32*i) by rw[Nat.pow_mul]];exact xe8 32 l (fun x hx=>Nat.lt_trans (h x hx) (by decide)) i (by omega)
 refine⟨by rw[e];exact h _ (List.getElem_mem _),?_⟩;rw[e];unfold lf;rw[List.getD_eq_getElem?_getD,List.getElem?_eq_getElem (by omega)];rfl
theorem xm7{k:Nat→Bool}{c a:Nat}(h:full k c a=true):c=256∧k a=true:=by
 unfold full at h;by_cases e:c=256
 ·subst e;exact⟨rfl,h⟩
 ·rw[show Nat.beq c 256=false from Bool.eq_false_iff.2 fun x=>e (Nat.eq_of_beq_eq_true x)]at h;cases h
theorem tri_is(B:List Nat)(h:∀ x∈B,x<2 ^ 8)(j:Nat):triN (pk 8 B) j=tri B (3*j):=by
 unfold triN;rw[xdg B h,xdg B h,xdg B h];rfl
theorem xqf(B:List Nat)(h:∀ x∈B,x<2 ^ 8)(j:Nat):pick (triN (pk 8 B)) (fun j=>Nat.ble (Nat.succ (triN (pk 8 B) j)) 8380417) j=ua B j:=by
 induction j with
 | zero=>rfl
 | succ j ih=>
  rw[pick,ua,ih,tri_is B h];by_cases x:(ua B j).length<256∧tri B (3*j)<8380417
  ·rw[if_pos x,if_pos ⟨x.1,xfy x.2⟩]
  ·rw[if_neg x,if_neg fun y=>x ⟨y.1,Nat.le_of_ble_eq_true y.2⟩]
theorem uni_is{k:Nat→Bool}{B:List Nat}(hB:∀ x∈B,x<2 ^ 8)(h:uniS B k=true):∃ M,Rep M (uni B)∧k M=true:=by
 unfold uniS at h;rw[xib,Nat.zero_add,Nat.one_mul]at h;have e:=xot (triN (pk 8 B)) (fun j=>Nat.ble (Nat.succ (triN (pk 8 B) j)) 8380417) (full k) 336 0;rw[xqf B hB,xqf B hB]at e;obtain⟨h1,h2⟩:=xm7 (e.symm.trans h);exact⟨_,xpc _ h1 (ua_lt B 336),h2⟩
theorem hf_is(B:List Nat)(h:∀ x∈B,x<2 ^ 8)(j:Nat):hfN (pk 8 B) j=hf B j:=by
 unfold hfN hf;rw[xdg B h];by_cases e:j%2=0
 ·rw[if_pos e,show Nat.mod j 2=0 from e];rfl
 ·rw[if_neg e,show Nat.mod j 2=1 by show j%2=1;omega];rfl
theorem xpm(B:List Nat)(h:∀ x∈B,x<2 ^ 8)(j:Nat):pick (fun j=>md (Nat.sub 8380419 (Nat.mod (hfN (pk 8 B) j) 5))) (fun j=>Nat.ble (Nat.succ (hfN (pk 8 B) j)) 15) j=sa B 2 j:=by
 induction j with
 | zero=>rfl
 | succ j ih=>
  have e1:hok 2 (hf B j)=Nat.ble (Nat.succ (hf B j)) 15:=by
   unfold hok;rw[if_pos rfl];by_cases x:hf B j<15
   ·rw[decide_eq_true x,xfy x]
   ·rw[decide_eq_false x,xfx x]
  have e2:(hv 2 (hf B j)).toNat=md (Nat.sub 8380419 (Nat.mod (hf B j) 5)):=by
   unfold hv;rw[if_pos rfl,md_eq];show _=(8380419-hf B j%5)%8380417;omega
  rw[pick,sa,ih,hf_is B h,e1,e2]
theorem xp0{k:Nat→Bool}{B:List Nat}(hB:∀ x∈B,x<2 ^ 8)(h:smaS B k=true):∃ M,Rep M (sma B 2)∧k M=true:=by
 unfold smaS at h;rw[xib,Nat.zero_add,Nat.one_mul]at h;have e:=xot (fun j=>md (Nat.sub 8380419 (Nat.mod (hfN (pk 8 B) j) 5))) (fun j=>Nat.ble (Nat.succ (hfN (pk 8 B) j)) 15) (full k) 1632 0;rw[xpm B hB,xpm B hB]at e;obtain⟨h1,h2⟩:=xm7 (e.symm.trans h);refine⟨_,xpc _ h1 (fun x hx=>?_),h2⟩;obtain⟨b,-,rfl⟩:=sa_in B 2 1632 x hx;have:=xhw 2 b;omega
theorem nx_is{α : Type}(B:List Nat)(h:∀ x∈B,x<2 ^ 8)(i:Nat)(k:Nat → α)(f:Nat):∀ a,nxS (pk 8 B) i k f a=k (nx B i f a):=by
 induction f with
 | zero=>intro a;rfl
 | succ f ih=>
  intro a;rw[nxS,nx,xdg B h];by_cases e1:a<544
  ·rw[xfy (show Nat.succ a≤544 from e1)];by_cases e2:i<by' B a
   ·rw[xfy (show Nat.succ i≤by' B a from e2),if_pos ⟨e1,e2⟩,ct,ct,xa7,ih]
   ·rw[xfx (show ¬ Nat.succ i≤by' B a from e2),if_neg (fun x=>e2 x.2)];rfl
  ·rw[xfx (show ¬ Nat.succ a≤544 from e1),if_neg (fun x=>e1 x.1)];rfl
theorem lk_lt(N i:Nat):lk N i<4294967296:=Nat.mod_lt _ (by decide)
theorem xes{α : Type}(a b:Nat)(x y : α):cond (Nat.beq a b) x y=if a=b then x else y:=by
 by_cases e:a=b
 ·subst e;rw[if_pos rfl,show Nat.beq a a=true from Nat.beq_refl a];rfl
 ·rw[if_neg e,show Nat.beq a b=false from Bool.eq_false_iff.2 fun x=>e (Nat.eq_of_beq_eq_true x)];rfl
theorem sgn_is(B:List Nat)(h:∀ x∈B,x<2 ^ 8)(t:Nat):sgn B t=((sgnN (pk 8 B) t:Nat):Int)∧sgnN (pk 8 B) t<8380417:=by
 unfold sgnN sgn;rw[xes,xdg B h];show (if by' B (t / 8) / 2 ^ (t%8)%2=1 then (8380416:Int) else 1)=(((if by' B (t / 8) / 2 ^ (t%8)%2=1 then 8380416 else 1:Nat):Nat):Int)∧(if by' B (t / 8) / 2 ^ (t%8)%2=1 then 8380416 else 1)<8380417;split<;>exact⟨rfl,by decide⟩
theorem xb4(B:List Nat)(h:∀ x∈B,x<2 ^ 8)(i:Nat):by' B i<256:=by rw[←xdg B h];exact Nat.mod_lt _ (by decide)
theorem xdf(B:List Nat)(hB:∀ x∈B,x<2 ^ 8)(tau:Nat)(k:Nat→Bool)(f:Nat):∀ t M,Rep M (bl B tau t).1→blS (pk 8 B) tau k f t (bl B tau t).2 M=true→∃ M',Rep M' (bl B tau (t+f)).1∧k M'=true:=by
 induction f with
 | zero=>intro t M hM h;exact⟨M,hM,h⟩
 | succ f ih=>
  intro t M hM h;rw[blS,xa7,nx_is B hB]at h;have ea:nx B (Nat.add (Nat.sub 256 tau) t) 544 (bl B tau t).2=nx B (256-tau+t) 544 (bl B tau t).2:=rfl;rw[ea,xes]at h;by_cases e:nx B (256-tau+t) 544 (bl B tau t).2=544
  ·rw[if_pos e]at h;cases h
  ·rw[if_neg e,xa7,xa7,xdg B hB]at h;have e2:bl B tau (t+1)=(upd (upd (bl B tau t).1 (256-tau+t) ((bl B tau t).1 (by' B (nx B (256-tau+t) 544 (bl B tau t).2)))) (by' B (nx B (256-tau+t) 544 (bl B tau t).2)) (sgn B t),nx B (256-tau+t) 544 (bl B tau t).2+1):=by
    rw[bl];exact if_neg e
   have e2':=congrArg Prod.fst e2;simp only at e2';have hs:=sgn_is B hB t;have hb:=xb4 B hB (nx B (256-tau+t) 544 (bl B tau t).2);obtain⟨M',h1,h2⟩:=xdc (fun j=>cond (Nat.beq j (by' B (nx B (256-tau+t) 544 (bl B tau t).2))) (sgnN (pk 8 B) t) (cond (Nat.beq j (Nat.add (Nat.sub 256 tau) t)) (lk M (by' B (nx B (256-tau+t) 544 (bl B tau t).2))) (lk M j))) (bl B tau (t+1)).1
    (fun j=>by
     rw[xes,xes];split
     ·exact Nat.lt_trans hs.2 (by decide)
     ·split<;>exact lk_lt _ _)
    (fun j hj=>by
     rw[xes,xes,e2',upd,upd];by_cases x:j=by' B (nx B (256-tau+t) 544 (bl B tau t).2)
     ·rw[if_pos x,if_pos x];exact⟨hs.2,hs.1⟩
     ·rw[if_neg x,if_neg x];by_cases y:j=256-tau+t
      ·rw[if_pos (show j=Nat.add (Nat.sub 256 tau) t from y),if_pos y];exact hM _ hb
      ·rw[if_neg (show ¬ j=Nat.add (Nat.sub 256 tau) t from y),if_neg y];exact hM _ hj)
   rw[h2,xa7,xa7]at h;have e3:(bl B tau (t+1)).2=Nat.succ (nx B (256-tau+t) 544 (bl B tau t).2):=by rw[e2]
   have h3:=ih (t+1) M' h1 (by rw[e3];exact h);rw[show t+1+f=t+(f+1) by omega]at h3;exact h3
theorem xuh:Rep 0 (fun _=>0):=fun i _=>by
 have:lk 0 i=0:=by rw[xkc,Nat.zero_div]
 rw[this];exact⟨by decide,rfl⟩
theorem xq5{k:Nat→Bool}{B:List Nat}{tau:Nat}(h1 : 1≤tau)(h64:tau≤64)(hB:∀ x∈B,x<2 ^ 8)(h:ballS B tau k=true):∃ M,Rep M (ball B (tau:Int))∧k M=true:=by
 unfold ballS at h;rw[xib,Nat.zero_add,Nat.one_mul]at h;have h2:=xdf B hB tau k tau 0 0 xuh h;rw[Nat.zero_add]at h2;rw[xjd B tau h1 h64];exact h2
end sigp
namespace sigq
open kecf hiding sl
open tbf sigf sigp bitm samm samb keca spok polys fldm rndm nttl rbita rbitd rbitf rbitg rsdoc rbith saml
open rbitc (bys xao xa0 bt)
theorem xca(x:Nat):md x<8380417:=Nat.mod_lt _ (by decide)
theorem xs1(b:ByteArray):∃ M,Rep M (un (up b 18) 131072)∧∀ (α : Type) (k:Nat → α),tabS (maskN (pk 8 (bys b))) k=k M:=by
 refine xdc _ _ (fun i=>Nat.lt_trans (xca _) (by decide)) (fun i _=>⟨xca _,?_⟩);unfold un up bt maskN;rw[md_eq];show _=(((8511489-pk 8 (bys b) / 262144 ^ i%262144)%8380417:Nat):Int);rw[show (262144:Nat) ^ i=2 ^ (18*i) by rw[Nat.pow_mul],show (262144:Nat)=2 ^ 18 from rfl];have:pk 8 (bys b) / 2 ^ (18*i)%2 ^ 18<2 ^ 18:=Nat.mod_lt _ (by decide);generalize pk 8 (bys b) / 2 ^ (18*i)%2 ^ 18=x at this;omega
theorem mul_is{M K:Nat}{f g:Nat→Int}(hM:Rep M f)(hK:Rep K g):∃ P,Rep P (fun k=>(f k*g k)%8380417)∧∀ (α : Type) (k:Nat → α),tabS (mulN M K) k=k P:=by
 refine xdc _ _ (fun i=>Nat.lt_trans (xca _) (by decide)) (fun i hi=>⟨xca _,?_⟩);show (f i*g i)%8380417=_;rw[(hM i hi).2,(hK i hi).2,←Int.natCast_mul];exact(Int.natCast_emod _ _).symm
theorem xi7{M K:Nat}{f g:Nat→Int}(hM:Rep M f)(hK:Rep K g):∃ P,Rep P (fun k=>(f k+g k)%8380417)∧∀ (α : Type) (k:Nat → α),tabS (addN M K) k=k P:=by
 refine xdc _ _ (fun i=>Nat.lt_trans (xca _) (by decide)) (fun i hi=>⟨xca _,?_⟩);show (f i+g i)%8380417=_;rw[(hM i hi).2,(hK i hi).2,←Int.natCast_add];exact(Int.natCast_emod _ _).symm
theorem sub_is{M K:Nat}{f g:Nat→Int}(hM:Rep M f)(hK:Rep K g):∃ P,Rep P (fun k=>(f k-g k)%8380417)∧∀ (α : Type) (k:Nat → α),tabS (subN M K) k=k P:=by
 refine xdc _ _ (fun i=>Nat.lt_trans (xca _) (by decide)) (fun i hi=>⟨xca _,?_⟩);have h:=(hK i hi).1;show (f i-g i)%8380417=(((lk M i+(8380417-lk K i))%8380417:Nat):Int);rw[(hM i hi).2,(hK i hi).2];omega
theorem xgo{M K:Nat}{f g:Nat→Int}(hM:Rep M f)(hK:Rep K g):∃ P,Rep P (fun k=>(backR ζ 8 (fun k=>(f k*g k)%8380417) k*8347681)%8380417)∧∀ k:Nat→Bool,prodS M K k=k P:=by
 obtain⟨X,hX,e1⟩:=mul_is hM hK;obtain⟨Y,hY,e2⟩:=xq1 hX;obtain⟨P,hP,e3⟩:=xdc (fun i=>md (Nat.mul (lk Y i) 8347681)) (fun k=>(backR ζ 8 (fun k=>(f k*g k)%8380417) k*8347681)%8380417) (fun i=>Nat.lt_trans (xca _) (by decide)) (fun i hi=>⟨xca _,by
  show _=(((lk Y i*8347681)%8380417:Nat):Int);rw[(hY i hi).2];omega⟩)
 exact⟨P,hP,fun k=>by unfold prodS;rw[e1,e2,e3]⟩
theorem xkg{M:Nat}{f:Nat→Int}(g:Nat→Nat)(G:Int→Int)(hM:Rep M f)(hg:∀ x,x<8380417→g x<8380417∧G (x:Int)=((g x:Nat):Int))(hb:∀ x,x<4294967296→g x<4294967296):∃ P,Rep P (fun k=>G (f k))∧∀ (α : Type) (k:Nat → α),tabS (fun i=>g (lk M i)) k=k P:=by
 refine xdc _ _ (fun i=>hb _ (lk_lt _ _)) (fun i hi=>⟨(hg _ (hM i hi).1).1,?_⟩);show G (f i)=_;rw[(hM i hi).2];exact(hg _ (hM i hi).1).2
theorem xpu(x:Nat):shN x=(x+4095) / 8192:=rfl
theorem sh_is(x:Nat)(h:x<8380417):sh (x:Int)=((shN x:Nat):Int)∧shN x≤1023∧sl (x:Int)=(x:Int)-8192*((shN x:Nat):Int):=by
 have e:=xcu 8192 ((x:Int)%8380417) (by decide) (by decide);rw[xpu];unfold sh sl;rw[e];split<;>omega
theorem hi_is(x:Nat)(h:x<8380417):shN x<8380417∧sh (x:Int)=((shN x:Nat):Int):=by have:=sh_is x h;omega
theorem lo_is(x:Nat)(h:x<8380417):slN x<8380417∧sl (x:Int)%8380417=((slN x:Nat):Int):=by
 refine⟨xca _,?_⟩;have h2:=sh_is x h;rw[h2.2.2];show _=(((x+8380417-8192*shN x)%8380417:Nat):Int);omega
theorem xj0(x:Nat)(h:x<8380417):hghN x<8380417∧hgh 95232 (x:Int)=((hghN x:Nat):Int):=by
 have e:=xcu 190464 ((x:Int)%8380417) (by decide) (by decide);have e2:hghN x=(x+95231) / 190464%44:=rfl;rw[e2];unfold hgh pl;rw[if_pos xcy,show (2:Int)*95232=190464 from rfl,e];split<;>split<;>omega
theorem xsh{α : Type}(w:Nat)(h:Nat→Nat)(k:Nat → α)(n:Nat):∀ acc,horW w h k n acc=k (pk w ((List.range n).map h)+acc*2 ^ (w*n)):=by
 induction n with
 | zero=>intro acc;rw[horW];simp[pk]
 | succ n ih=>
  intro acc;rw[horW,xa7,ih,List.range_succ,List.map_append,List.map_cons,List.map_nil,xow,List.length_map,List.length_range,Nat.mul_succ w n,Nat.pow_add,Nat.add_assoc];show k (_+(acc*2 ^ w+h n)*_)=_;rw[Nat.add_mul,Nat.add_comm (acc*2 ^ w*2 ^ (w*n)),Nat.mul_assoc,Nat.mul_comm (2 ^ w)]
theorem nbS_eq{α : Type}(k:List Nat → α)(n:Nat):∀ N acc,nbS k n N acc=k (acc.reverse++nb 8 n N):=by
 induction n with
 | zero=>intro N acc;rw[nbS,nb,List.append_nil]
 | succ n ih=>
  intro N acc;rw[nbS,xa7,xa7,ih,nb,List.reverse_cons,List.append_assoc];rfl
theorem xon{α : Type}{M:Nat}{f:Nat→Int}(w:Nat)(most:Int)(hw:lb most.toNat=w)(hM:Rep M f)(k:List Nat → α):packS w M k=k (bys (packed f most)):=by
 subst hw;have e:ns f=(List.range 256).map (lk M):=by
  unfold ns;refine List.map_congr_left fun i hi=>?_
  rw[(hM i (List.mem_range.1 hi)).2,Int.toNat_natCast]
 unfold packS packed;rw[xsh,nbS_eq,Nat.zero_mul,Nat.add_zero,←e,bitp.xg9 _ (xgb 8 _ _)];rfl
theorem xi8{p:Nat→Bool}{k:Bool}(n:Nat)(h:allS p k n=true):(∀ i,i<n→p i=true)∧k=true:=by
 induction n with
 | zero=>exact⟨fun i hi=>by omega,h⟩
 | succ n ih=>
  rw[allS]at h;cases e:p n with
  | false=>rw[e]at h;cases h
  | true=>
   rw[e]at h;obtain⟨h1,h2⟩:=ih h;refine⟨fun i hi=>?_,h2⟩;by_cases x:i=n
   ·rw[x];exact e
   ·exact h1 i (by omega)
theorem cnt_is(p:Nat→Bool)(k:Nat→Bool)(f:Nat→Int)(n:Nat)(hf:∀ i,i<n→(f i=0↔p i=true)):∀ c,cntS p k n c=k (c+cnt f n):=by
 induction n with
 | zero=>intro c;rfl
 | succ n ih=>
  intro c;have ih:=ih fun i hi=>hf i (by omega)
  rw[cntS,cnt];by_cases e:p n=true
  ·rw[e,if_pos ((hf n (by omega)).2 e),ct,ih];rfl
  ·rw[Bool.eq_false_iff.2 e,if_neg (fun x=>e ((hf n (by omega)).1 x)),cf,xa7,ih];congr 1
   omega
theorem or_is{a b c d:Nat}(h:cond (Nat.ble (Nat.succ a) b) true (Nat.ble c d)=true):a<b∨c≤d:=by
 by_cases e:a<b
 ·exact Or.inl e
 ·rw[xfx (show ¬ Nat.succ a≤b from e),cf]at h;exact Or.inr (Nat.le_of_ble_eq_true h)
theorem xp2{b x:Nat}(hb:b≤4190208)(hx:x<8380417)(h:smallN b x=true) : -(b:Int)<ce 8380417 (x:Int)∧ce 8380417 (x:Int)<(b:Int):=by
 have h2:x<b∨8380418-b≤x:=or_is h;rw[xcu 8380417 _ (by decide) (by decide)];split<;>omega
theorem low_is{b x:Nat}(hb:b≤95232)(hx:x<8380417)(h:lowN b x=true) : -(b:Int)≤lw 95232 (x:Int)∧lw 95232 (x:Int)<(b:Int):=by
 have h2:x%190464<b∨190465-b≤x%190464:=or_is h;have e:=xcu 190464 ((x:Int)%8380417) (by decide) (by decide);unfold lw pl;rw[if_pos xcy,show (2:Int)*95232=190464 from rfl,e];split<;>split<;>omega
theorem xjj(f:Nat→Int)(b:Int)(h0 : 0<b)(n:Nat)(h:∀ i,i<n → -b<ce 8380417 (f i)∧ce 8380417 (f i)<b):cb f n<b:=by
 induction n with
 | zero=>exact h0
 | succ n ih=>
  have h1:=ih fun i hi=>h i (by omega)
  have h2:=h n (by omega);rw[cb];omega
theorem hn_is(v c:Int)(hv : 0≤v∧v<8380417):hn 95232 ((0-c)%8380417) ((v+c)%8380417)=if hgh 95232 ((v+c)%8380417)=hgh 95232 v then 0 else 1:=by
 unfold hn;rw[show ((v+c)%8380417+(0-c)%8380417)%8380417=v by omega]
end sigq
namespace sigt
open kecf hiding sl
open tbf sigf sigp sigq bitm samm samb keca spok polys fldm rndm nttl rbita rbitd rbitf rbitg rsdoc rbith saml mlkm mlsm
open rbitc (bys xao xa0 bt)
theorem xdh(x y:ByteArray):bys (x++y)=bys x++bys y:=by
 unfold bys;rw[ByteArray.data_append,Array.toList_append,List.map_append]
theorem xjg(s:ByteArray)(a b:Nat):bys (s.extract a b)=((bys s).drop a).take (b-a):=by
 unfold bys;rw[Lib.extract_eq];simp only[List.map_take,List.map_drop]
theorem tw00(s:ByteArray):bys s ++ [0,0]=bys (tw s 0 0):=(xdh s ⟨#[UInt8.ofNat 0,UInt8.ofNat 0]⟩).symm
theorem tw10(s:ByteArray):bys s ++ [1,0]=bys (tw s 1 0):=(xdh s ⟨#[UInt8.ofNat 1,UInt8.ofNat 0]⟩).symm
theorem tw11(s:ByteArray):bys s ++ [1,1]=bys (tw s 1 1):=(xdh s ⟨#[UInt8.ofNat 1,UInt8.ofNat 1]⟩).symm
theorem row_one(Z:Nat→Int)(x v:Nat→Nat→Int):rowv Z x v 1=fun k=>(backR Z 8 (fun k=>(x 0 k*thereR Z 8 (v 0) k)%8380417) k*8347681)%8380417:=by
 have e:rsum x (fun j=>thereR Z 8 (v j)) 1=fun k=>(x 0 k*thereR Z 8 (v 0) k)%8380417:=by
  funext k
  show ((0:Int)+(x 0 k*thereR Z 8 (v 0) k)%8380417)%8380417=_;omega
 unfold rowv;rw[e]
theorem key_is(sd:ByteArray)(k:List Nat→List Nat→List Nat→Nat→Nat→Nat→Nat→Bool)(h:keyS (bys sd) k=true):
 ∃ A s1 s2 T,Rep A (qX (pRho sd 1 1) 0 0)∧Rep s1 (qS (pSig sd 1 1) 2 0)∧Rep s2 (qS (pSig sd 1 1) 2 1)∧Rep T (pT ζ sd 1 1 2 0)∧k (bys (pRho sd 1 1)) (bys (pKey sd 1 1)) (bys (pTr ζ sd 1 1 2)) A s1 s2 T=true:=by
 have hS:bys (out TL RL 2 (tw sd 1 1) 128)=bys (pS sd 1 1):=rfl;have hr:(bys (pS sd 1 1)).take 32=bys (pRho sd 1 1):=(xjg _ 0 32).symm;have hg:((bys (pS sd 1 1)).drop 32).take 64=bys (pSig sd 1 1):=(xjg _ 32 96).symm;have hk:((bys (pS sd 1 1)).drop 96).take 32=bys (pKey sd 1 1):=(xjg _ 96 128).symm;unfold keyS at h;rw[tw11,xcz 2 136 31 _ 128 rfl rfl,hS,xfh,xfh,xfh,hr,hg,hk,tw00,xcz 1 168 31 _ 1008 rfl rfl]at h;obtain⟨A,hA,h⟩:=uni_is (xao _) h;rw[tw00,xcz 2 136 31 _ 816 rfl rfl]at h;obtain⟨s1,h1,h⟩:=xp0 (xao _) h;rw[tw10,xcz 2 136 31 _ 816 rfl rfl]at h;obtain⟨s2,h2,h⟩:=xp0 (xao _) h;obtain⟨H,hH,e⟩:=xfn h1;rw[e]at h;obtain⟨X,hX,e⟩:=xgo hA hH;rw[e]at h;obtain⟨T,hT,e⟩:=xi7 hX h2;rw[e]at h;have hT2:Rep T (pT ζ sd 1 1 2 0):=by
  have e2:pT ζ sd 1 1 2 0=fun k=>(rowv ζ (qX (pRho sd 1 1) 0) (qS (pSig sd 1 1) 2) 1 k+qS (pSig sd 1 1) 2 1 k)%8380417:=rfl
  rw[e2,row_one];exact hT
 obtain⟨U,hU,e⟩:=xkg shN sh hT2 hi_is (fun x hx=>by rw[xpu];omega);rw[e,xon (f:=pHi ζ sd 1 1 2 0) 10 1023 xh0 hU,←xdh,xcz 2 136 31 _ 64 rfl rfl]at h;exact⟨A,s1,s2,T,hA,h1,h2,hT2,h⟩
theorem lb_43:lb ((8380416:Int) / (2*95232)-1).toNat=6:=by decide +kernel
theorem mw_18:mw 131072=18:=by decide +kernel
theorem xkk{p:Nat→Nat→Int}{b:Int}(h0 : 0<b)(h:cb (p 0) 256<b):cbs p 1<b:=by
 show max 0 (cb (p 0) 256)<b;omega
theorem try_ok(sd m z:ByteArray)(hsd:bys sd=seed32)(hm:bys m=[0,1,99,97,98,99])(hz:bys z=List.replicate 32 0):
 tOk ⟨ζ,1,1,2,20,131072,95232,60,128,pRho sd 1 1,out TL RL 2 (pTr ζ sd 1 1 2++m) 64,out TL RL 2 (pKey sd 1 1++z++out TL RL 2 (pTr ζ sd 1 1 2++m) 64) 64,qS (pSig sd 1 1) 2,fun i=>qS (pSig sd 1 1) 2 (1+i),pLo ζ sd 1 1 2⟩ 0=true:=by
 obtain⟨S,hS⟩:∃ S:Sg,(⟨ζ,1,1,2,20,131072,95232,60,128,pRho sd 1 1,out TL RL 2 (pTr ζ sd 1 1 2++m) 64,out TL RL 2 (pKey sd 1 1++z++out TL RL 2 (pTr ζ sd 1 1 2++m) 64) 64,qS (pSig sd 1 1) 2,fun i=>qS (pSig sd 1 1) 2 (1+i),pLo ζ sd 1 1 2⟩:Sg)=S:=⟨_,rfl⟩;have hmu:bys (out TL RL 2 (pTr ζ sd 1 1 2++m) 64)=bys S.mu:=by rw[←hS]
 have hms:bys (out TL RL 2 (pKey sd 1 1++z++S.mu) 64)=bys S.ms:=by rw[←hS]
 have h:=try_is;unfold tryS at h;rw[←hsd,←hm]at h;obtain⟨A,s1,s2,T,hA,h1,h2,hT,h⟩:=key_is sd _ h;rw[←xdh,xcz 2 136 31 _ 64 rfl rfl,hmu,←hz,←List.append_assoc,←xdh,←xdh,xcz 2 136 31 _ 64 rfl rfl,hms,tw00,xcz 2 136 31 _ 576 rfl rfl,xib,Nat.zero_add,Nat.one_mul]at h;obtain⟨Y,hY,e⟩:=xs1 (out TL RL 2 (tw S.ms 0 0) 576);rw[e]at h;have hY2:Rep Y (tY S 0 0):=by
  have e3:S.a=131072∧S.ln=1:=by rw[←hS];exact⟨rfl,rfl⟩
  unfold tY qM;rw[e3.1,e3.2,show (0*1+0)%256=0 from rfl,show (0*1+0) / 256=0 from rfl];unfold dM;rw[mw_18];exact hY
 obtain⟨H,hH,e⟩:=xfn hY2;rw[e]at h;obtain⟨W,hW,e⟩:=xgo hA hH;rw[e]at h;have hW2:Rep W (tW S 0 0):=by
  have e2:tW S 0 0=rowv ζ (qX (pRho sd 1 1) 0) (tY S 0) 1:=by rw[←hS];rfl
  rw[e2,row_one];exact hW
 obtain⟨U,hU,e⟩:=xkg hghN (hgh 95232) hW2 xj0 (fun x _=>Nat.lt_trans (Nat.mod_lt _ (by decide)) (by decide : 44<4294967296));have hU2:Rep U (tHi S 0 0):=by
  have e2:tHi S 0 0=fun k=>hgh 95232 (tW S 0 0 k):=by rw[←hS];rfl
  rw[e2];exact hU
 have hsum:out TL RL 2 (S.mu++packed (tHi S 0 0) ((8380416:Int) / (2*95232)-1)) 32=tSum S 0:=by
  have e2:S.b=95232∧S.kn=1∧S.s=128:=by rw[←hS];exact⟨rfl,rfl,rfl⟩
  unfold tSum;rw[e2.1,e2.2.1,e2.2.2];rfl
 rw[e,xon 6 ((8380416:Int) / (2*95232)-1) lb_43 hU2,←xdh,xcz 2 136 31 _ 32 rfl rfl,hsum,xcz 2 136 31 _ 544 rfl rfl]at h;obtain⟨C,hC,h⟩:=xq5 (by decide) (by decide) (xao _) h;have hC2:Rep C (tC S 0):=by
  have e2:S.t=20:=by rw[←hS]
  unfold tC dB;rw[e2];exact hC
 obtain⟨HC,hHC,e⟩:=xfn hC2;rw[e]at h;obtain⟨HA,hHA,e⟩:=xfn h1;rw[e]at h;obtain⟨CA,hCA,e⟩:=xgo hHC hHA;rw[e]at h;obtain⟨HB,hHB,e⟩:=xfn h2;rw[e]at h;obtain⟨CB,hCB,e⟩:=xgo hHC hHB;rw[e]at h;obtain⟨L,hL,e⟩:=xkg slN (fun x=>sl x%8380417) hT lo_is (fun x _=>Nat.lt_trans (xca _) (by decide));rw[e]at h;obtain⟨HL,hHL,e⟩:=xfn hL;rw[e]at h;obtain⟨CL,hCL,e⟩:=xgo hHC hHL;rw[e]at h;obtain⟨Z,hZ,e⟩:=xi7 hY2 hCA;rw[e]at h;obtain⟨V,hV,e⟩:=sub_is hW2 hCB;rw[e]at h;obtain⟨X,hX,e⟩:=xi7 hV hCL;rw[e]at h;have hZ2:Rep Z (tZ S 0 0):=by
  have e2:tZ S 0 0=fun k=>(tY S 0 0 k+one ζ (tC S 0) (qS (pSig sd 1 1) 2 0) k)%8380417:=by rw[←hS];rfl
  rw[e2];exact hZ
 have hV2:Rep V (tV S 0 0):=by
  have e2:tV S 0 0=fun k=>(tW S 0 0 k-one ζ (tC S 0) (qS (pSig sd 1 1) 2 (1+0)) k)%8380417:=by rw[←hS];rfl
  rw[e2];exact hV
 have hCL2:Rep CL (tCl S 0 0):=by
  have e2:tCl S 0 0=one ζ (tC S 0) (pLo ζ sd 1 1 2 0):=by rw[←hS];rfl
  rw[e2];exact hCL
 have hX2:Rep X (fun k=>(tV S 0 0 k+tCl S 0 0 k)%8380417):=by
  have e2:(fun k=>(tV S 0 0 k+tCl S 0 0 k)%8380417)=fun k=>((tW S 0 0 k-one ζ (tC S 0) (qS (pSig sd 1 1) 2 (1+0)) k)%8380417+one ζ (tC S 0) (pLo ζ sd 1 1 2 0) k)%8380417:=by rw[←hS];rfl
  rw[e2];exact hX
 obtain⟨k1,h⟩:=xi8 256 h;obtain⟨k2,h⟩:=xi8 256 h;obtain⟨k3,h⟩:=xi8 256 h;have hf:∀ i,i<256→(tHn S 0 0 i=0↔Nat.beq (hghN (lk X i)) (hghN (lk V i))=true):=by
  intro i hi;have e2:tHn S 0 0 i=hn 95232 ((0-tCl S 0 0 i)%8380417) ((tV S 0 0 i+tCl S 0 0 i)%8380417):=by rw[←hS];rfl
  have hv:=hV2 i hi;have hx:lk X i<8380417∧(tV S 0 0 i+tCl S 0 0 i)%8380417=((lk X i:Nat):Int):=hX2 i hi;rw[e2,hn_is _ _ (by omega),hx.2,hv.2,(xj0 _ hx.1).2,(xj0 _ hv.1).2];constructor
  ·intro y;by_cases x:hghN (lk X i)=hghN (lk V i)
   ·rw[x];exact Nat.beq_refl _
   ·rw[if_neg (by omega)]at y;cases y
  ·intro y;rw[if_pos (by rw[Nat.eq_of_beq_eq_true y])]
 rw[cnt_is _ _ _ 256 hf,Nat.zero_add]at h;have h60:=Nat.le_of_ble_eq_true h;have g1:cbs (tZ S 0) 1<131032:=xkk (by decide) (xjj _ _ (by decide) 256 fun i hi=>by
  rw[(hZ2 i hi).2];exact xp2 (by decide) (hZ2 i hi).1 (k1 i hi))
 have g2:cbs (tLo S 0) 1<95192:=xkk (by decide) (xjj _ _ (by decide) 256 fun i hi=>by
  have e2:tLo S 0 0 i=lw 95232 (tV S 0 0 i)%8380417:=by rw[←hS];rfl
  rw[e2,(hV2 i hi).2];have:=low_is (by decide) (hV2 i hi).1 (k2 i hi);rw[xmt _ (by omega) (by omega)];omega)
 have g3:cbs (tCl S 0) 1<95232:=xkk (by decide) (xjj _ _ (by decide) 256 fun i hi=>by
  rw[(hCL2 i hi).2];exact xp2 (by decide) (hCL2 i hi).1 (k3 i hi))
 have g4:tot (tHn S 0) 1≤60:=by
  show 0+cnt (tHn S 0 0) 256≤60;omega
 rw[hS];have e2:S.ln=1∧S.kn=1∧S.a=131072∧S.b=95232∧S.t=20∧S.e=2∧S.o=60:=by rw[←hS];exact⟨rfl,rfl,rfl,rfl,rfl,rfl,rfl⟩
 unfold tOk;rw[e2.1,e2.2.1,e2.2.2.1,e2.2.2.2.1,e2.2.2.2.2.1,e2.2.2.2.2.2.1,e2.2.2.2.2.2.2];rw[decide_eq_true (show cbs (tZ S 0) 1<131072-20*2 by omega),decide_eq_true (show cbs (tLo S 0) 1<95232-20*2 by omega),decide_eq_true g3,decide_eq_true (show ((tot (tHn S 0) 1:Nat):Int)≤60 by omega)];rfl
end sigt
namespace kkey
open arr mem polys fldm pols rbita rbitd rbite rbitf rbitg bitp rsdoc mlkm mlkb rkpb rksb rkse
theorem xhp(b:ByteArray)(n:Nat)(h:b.size=n):b.extract 0 n=b:=by
 subst h;apply ByteArray.ext;simp
theorem xm4(a b:ByteArray)(n:Nat)(h:n≤a.size):(a++b).extract 0 n=a.extract 0 n:=by
 rw[ByteArray.extract_append,show n-a.size=0 by omega,xjr,ByteArray.append_empty]
theorem xj5{w:World}{B m:Nat}{v:Value}{p q:Nat→Nat→Int}(h:Holds w B v m p)(e:∀ i,i<m→∀ k,k<256→p i k=q i k):Holds w B v m q:=by
 obtain⟨g,c,hv,h1,h2,h3⟩:=h;exact⟨g,c,hv,h1,h2,fun i hi k hk=>by rw[←e i hi k hk];exact h3 i hi k hk⟩
section
variable (ζ : Nat→Int) (sd:ByteArray) (kn ln:Nat) (e:Int)
theorem xr8:(pHead ζ sd kn ln e).extract 0 32=pRho sd kn ln:=by
 unfold pHead;rw[xm4 _ _ _ (by rw[ByteArray.size_append,xbz,xeg];decide),xm4 _ _ _ (by rw[xbz];decide)];exact xhp _ _ (xbz _ _ _)
end
section
variable (kn ln:Nat) (e:Int) (h:ByteArray) (a b l:Nat→Nat→Int) (hh:h.size=128)
include hh
theorem xvh:(skB kn ln e h a b l).extract 0 128=h:=by
 unfold skB;rw[laidS,xhq _ _ _ _ _ (by rw[xbb,xbb,hh];omega),laidS,xhq _ _ _ _ _ (by rw[xbb,hh];omega),laidS,xhq _ _ _ _ _ (by rw[hh];omega)];exact xhp _ _ hh
theorem xpy(i:Nat)(hi:i<ln):rdU (skB kn ln e h a b l) 128 (lb (e+e).toNat) i=rdU (laidS h a e e ln) 128 (lb (e+e).toNat) i:=by
 have s1:=xbb h a e e ln;have s2:=xbb (laidS h a e e ln) b e e kn;unfold skB;generalize laidS h a e e ln=L1 at s1 s2 ⊢;generalize hL2:laidS L1 b e e kn=L2 at s2 ⊢;rw[laidS,xk1 L2 _ kn 128 _ i ln hi (by omega),←hL2,laidS,xk1 L1 _ kn 128 _ i ln hi (by omega)]
theorem xpz(i:Nat)(hi:i<kn):rdU (skB kn ln e h a b l) (128+32*lb (e+e).toNat*ln) (lb (e+e).toNat) i=rdU (laidS (laidS h a e e ln) b e e kn) (128+32*lb (e+e).toNat*ln) (lb (e+e).toNat) i:=by
 have s1:=xbb h a e e ln;have s2:=xbb (laidS h a e e ln) b e e kn;unfold skB;generalize laidS h a e e ln=L1 at s1 s2 ⊢;generalize laidS L1 b e e kn=L2 at s2 ⊢;rw[laidS,xk1 L2 _ kn _ _ i kn hi (by omega)]
variable (he:e=2∨e=4) (ha:∀ i,i<ln→ins (a i) e e) (hb:∀ i,i<kn→ins (b i) e e) (hl:∀ i,i<kn→ins (l i) 4095 4096)
include he ha hb hl
theorem xel:okK (skB kn ln e h a b l) kn ln e:=by
 refine⟨fun i hi=>?_,fun i hi=>?_,?_⟩
 ·rw[xpy kn ln e h a b l hh i hi,←hh];exact xkn h a e e ln (by omega) ha i hi
 ·rw[xpz kn ln e h a b l hh i hi,←hh,←xbb h a e e ln];exact xkn (laidS h a e e ln) b e e kn (by omega) hb i hi
 ·have h5:=xkn (laidS (laidS h a e e ln) b e e kn) l 4095 4096 kn (by decide) hl;rw[xbb,xbb,hh,xea]at h5;exact h5
variable (ra:∀ i k,0≤a i k∧a i k<8380417) (rb:∀ i k,0≤b i k∧b i k<8380417) (rl:∀ i k,0≤l i k∧l i k<8380417)
include ra rb rl
theorem xvi:(∀ i,i<ln→∀ k,k<256→rdS (skB kn ln e h a b l) 128 (lb (e+e).toNat) e i k=a i k)
 ∧ (∀ i,i<kn→∀ k,k<256→rdS (skB kn ln e h a b l) (128+32*lb (e+e).toNat*ln) (lb (e+e).toNat) e i k=b i k)
 ∧ (∀ i,i<kn→∀ k,k<256→rdS (skB kn ln e h a b l) (128+32*lb (e+e).toNat*ln+32*lb (e+e).toNat*kn) 13 4096 i k=l i k):=by
 refine⟨fun i hi k hk=>?_,fun i hi k hk=>?_,fun i hi k hk=>?_⟩
 ·have h5:=xk0 h a e e ln i (by omega) hi (ha i hi) (fun k=>ra i k) k hk;rw[hh]at h5;rw[rdS,xpy kn ln e h a b l hh i hi];exact h5
 ·have h5:=xk0 (laidS h a e e ln) b e e kn i (by omega) hi (hb i hi) (fun k=>rb i k) k hk;rw[xbb,hh]at h5;rw[rdS,xpz kn ln e h a b l hh i hi];exact h5
 ·have h5:=xk0 (laidS (laidS h a e e ln) b e e kn) l 4095 4096 kn i (by decide) hi (hl i hi) (fun k=>rl i k) k hk;rw[xbb,xbb,hh,xea]at h5;exact h5
end
end kkey
namespace mlsb
open arr mem keca tabt polys fldm spok nttl rbita rbitb rbitd rbite rbith bitp rndm samb saml rsdoc mlkm mlsm kkey pols sigf
open rbitc (bys xao xa0)
theorem zd_is:(fun k=>((zt k:Nat):Int)%8380417)=fun k=>((zt k:Nat):Int):=by
 funext k
 have:zt k<8380417:=tabm.pw_lt _ _;omega
theorem xn1(c x:ByteArray):(msg c x).size=2+c.size+x.size:=by
 unfold msg;rw[ByteArray.size_append,ByteArray.size_append];rfl
theorem xfk(S:Sg)(n:Nat):(tSum S n).size=(S.s / 4).toNat:=samc.xbt _ _ _
theorem xlp(S:Sg)(n:Nat)(ha:S.a=131072∨S.a=524288):(tSig S n).size=(S.s / 4).toNat+32*(lb (S.a-1).toNat+1)*S.ln+(S.o.toNat+S.kn):=by
 have h:=(xga S.a ha).1;unfold mw at h;unfold tSig;rw[ByteArray.size_append,xbb,xfk,h,←xa0,xa0];congr 1
 show (u8s _).toArray.size=_;rw[List.size_toArray,u8s,List.length_map,xd9]
theorem tOk_of{S:Sg}{n:Nat}(h:tOk S n=true):cbs (tZ S n) S.ln<S.a-S.t*S.e∧cbs (tLo S n) S.kn<S.b-S.t*S.e∧cbs (tCl S n) S.kn<S.b∧(tot (tHn S n) S.kn:Int)≤S.o:=by
 unfold tOk at h;simp only[Bool.and_eq_true,decide_eq_true_eq]at h;exact⟨h.1,h.2.1,h.2.2.1,h.2.2.2⟩
theorem xna(g x:Int)(h:g=95232∨g=261888) : 0≤hgh g x∧hgh g x≤(8380416:Int) / (2*g)-1:=by
 rcases h with rfl | rfl
 ·have:=xgk x;rw[show (8380416:Int) / (2*95232)-1=43 from rfl];omega
 ·have:=xgj x;rw[show (8380416:Int) / (2*261888)-1=15 from rfl];omega
theorem hn_01(g z x:Int):hn g z x=0∨hn g z x=1:=by unfold hn;split<;>simp
theorem xm5(x:ByteArray)(a b:Nat)(h:x.size≤a):x.extract a b=ByteArray.empty:=ByteArray.extract_eq_empty_iff.2 (by omega)
theorem xr7(ζ : Nat→Int)(sd:ByteArray)(kn ln:Nat)(e:Int):(pHead ζ sd kn ln e).extract 32 64=pKey sd kn ln:=by
 unfold pHead;rw[ByteArray.extract_append,ByteArray.size_append,xbz,xeg,ByteArray.extract_append,xbz];simp only[Nat.reduceAdd,Nat.reduceSub];rw[xhp _ _ (xeg _ _ _),ByteArray.extract_eq_empty_iff.2 (show min 0 (pTr ζ sd kn ln e).size≤0 by omega),ByteArray.append_empty,xm5 _ _ _ (by rw[xbz];decide),ByteArray.empty_append]
theorem xr9(ζ : Nat→Int)(sd:ByteArray)(kn ln:Nat)(e:Int):(pHead ζ sd kn ln e).extract 64 128=pTr ζ sd kn ln e:=by
 unfold pHead;rw[ByteArray.extract_append,ByteArray.size_append,xbz,xeg];simp only[Nat.reduceAdd,Nat.reduceSub];rw[xhp _ _ (xks _ _ _ _ _),xm5 _ _ _ (by rw[ByteArray.size_append,xbz,xeg];decide),ByteArray.empty_append]
theorem xvc(ζ : Nat→Int)(sd:ByteArray)(kn ln:Nat)(e t a b o s:Int)(A B C:Nat→Nat→Int)(m z:ByteArray):
 sgn ζ kn ln e t a b o s (pHead ζ sd kn ln e) A B C m z=⟨ζ,kn,ln,e,t,a,b,o,s,pRho sd kn ln,out TL RL 2 (pTr ζ sd kn ln e++m) 64,out TL RL 2 (pKey sd kn ln++z++out TL RL 2 (pTr ζ sd kn ln e++m) 64) 64,A,B,C⟩:=by
 unfold sgn;rw[xr7,xr9,xr8]
theorem xvf(sd m z:ByteArray)(hsd:bys sd=seed32)(hm:bys m=[0,1,99,97,98,99])(hz:bys z=List.replicate 32 0):
 tOk (sgn tbf.ζ 1 1 2 20 131072 95232 60 128 (pHead tbf.ζ sd 1 1 2) (qS (pSig sd 1 1) 2) (fun i=>qS (pSig sd 1 1) 2 (1+i)) (pLo tbf.ζ sd 1 1 2) m z) 0=true:=by
 rw[xvc];exact sigt.try_ok sd m z hsd hm hz
theorem cb_cbs(p:Nat→Nat→Int)(n j:Nat)(hj:j<n):cb (p j) 256≤cbs p n:=by
 induction n with
 | zero=>omega
 | succ n ih=>
  rw[cbs];by_cases e:j=n
  ·subst e;omega
  ·have:=ih (by omega);omega
theorem tZ_in{S:Sg}{n:Nat}(h:tOk S n=true)(ht : 1≤S.t)(he : 1≤S.e)(i:Nat)(hi:i<S.ln):ins (tZ S n i) (S.a-1) S.a:=fun k hk=>by
 have h1:=(tOk_of h).1;have h2:=cb_cbs (tZ S n) S.ln i hi;have h3:=cb_ge (tZ S n i) 256 k hk;have h4 : 1*1≤S.t*S.e:=Int.mul_le_mul ht he (by decide) (by omega);omega
end mlsb
section
open Go Go.RowKit helda heldb
variable {P:Program} {ops:Array Oper} {Q:Exit→Act→World→Prop} {S:World→Prop} {b b':Array Bool} {k:Nat} {ks:List Nat} {o:Oper} {rest:List Oper} {a a':Act} {w:World} {v:Value}
theorem zU(hS:S w)(h:HK P ops Q S b' rest ks a' w)(hc:tk ops b k o a=true:=by rw[←HO.out];kernel_rfl)(hQ:∀ c a w,Q (.panic c) (a.put o.dst v) w→Q (.panic c) a w:=by exact fun _ _ _ h=>h)(hy:∀ w,S w→(execOp a.eval o).run P w=.ok (.value v) w:=by intro w9 h9;go_simp;first | done | with_reducible rfl)(hb:b.setIfInBounds k true=b':=by first | (simp only[pa,pb,pc];first | done | rfl) | rfl)(ha:a.put o.dst v=a':=by simp only[Act.put,pa,pb,pc];first | done | rfl):HK P ops Q S b (o::rest) (k::ks) a w:=by
 subst hb ha;exact hk_t hc hQ hy hS h
theorem zD{p:World→Prop}(C:∀ w,S w→p w)(hS:S w)(h:HK P ops Q S b' rest ks a' w)(hc:tk ops b k o a=true:=by rw[←HO.out];kernel_rfl)(hQ:∀ c a w,Q (.panic c) (a.put o.dst v) w→Q (.panic c) a w:=by exact fun _ _ _ h=>h)(hy:∀ w,p w→(execOp a.eval o).run P w=.ok (.value v) w:=by intro w9 hc;go_simp;first | done | with_reducible rfl)(hb:b.setIfInBounds k true=b':=by first | (simp only[pa,pb,pc];first | done | rfl) | rfl)(ha:a.put o.dst v=a':=by simp only[Act.put,pa,pb,pc];first | done | rfl):HK P ops Q S b (o::rest) (k::ks) a w:=by
 subst hb ha;exact hk_t hc hQ (fun w h=>hy w (C w h)) hS h
end
namespace rga
open arr mem stil polys polt pols nttl rndm saml spok rsdoc mlkm mlsm keca kstep rkpb rkrw helda heldb mgd rgd rbita rbitd bitp
theorem xa1{w w':World}(hC:∃ p:Regrown,w'=Go.Sort.grow (redrawn w p.d) p.os):Below w.heap.size w w':=by
 obtain⟨pp,rfl⟩:=hC;exact below_regrown _ _ _
theorem xko{T:Array Value}(Z:Nat→Int)(c:Nat→Int)(n:Nat)(v:Value)(B:Nat)(l:Nat→Nat→Int)(w:World)(hTs:T.size=465)(hT:∀ k,k<256→T[209+k]? = some (.int .i64 (Z k)))(hn : 1≤n∧n≤8)(HV:Holds w B v n l):
 Calls Tryz.prog 75 #[.agg T,.agg (FL .i64 256 c),v] w fun e w'=>(∃ v',e=.returned v'∧w'.ownsRow w.heap.size 109 256 v' n (cq (fun i=>one (fun k=>Z k%8380417) c (l i)) n))∧Below w.heap.size w w':=by
 obtain⟨ζ,hζ⟩:=xaa (fun k=>Z k%8380417);have HTh:Ω (∀ (f:Nat→Int) (w1:World),Calls Tryz.prog 131 #[.agg T,.agg (FL .i64 256 f)] w1 (zB w1 (.agg (FL .i64 256 (thereR ζ 8 f))))):=⟨fun f w1=>by rw[←hζ.out];exact rnthere.xfm T Z f w1 hT⟩;have HBk:Ω (∀ (f:Nat→Int) (w1:World),Calls Tryz.prog 133 #[.agg T,.agg (FL .i64 256 f)] w1 (zB w1 (.agg (FL .i64 256 (fun i=>(backR ζ 8 f i*8347681)%8380417))))):=⟨fun f w1=>by rw[←hζ.out];exact rnback.xfv T Z f w1 hT⟩;have HTm:=ω rntimes.xcs;rw[hζ.out];have HTz:Ω ((Tryz.prog.info? 34).map (·.size)=some T.size):=⟨by rw[hTs];kernel_rfl⟩;obtain⟨hz,hsize⟩:=zero_of_info polt.infoP;obtain⟨z,HZ⟩:=xaa (FL .i64 256 fun _=>0);rw[HZ.out]at hz;have Hzs:=zfs HZ;have Hsize:=ω hsize;obtain⟨g,cv,rfl,hg⟩:=xan HV;have HVv:=ω HV;have HGv:=ω hg;obtain⟨res,hres⟩:=xaa (fun i=>one ζ c (l i));have Hres:Ω (∀ i,one ζ c (l i)=res i):=⟨fun i=>by rw[←hres.out]⟩;rw[hres.out];have HTc:=ω (HTh.out c);obtain⟨th,hth⟩:=xaa (thereR ζ 8 c);obtain⟨Cc,hCc⟩:=xaa (FL .i64 256 c);have Ci:=zri hCc hsize;rw[hth.out]at HTc;obtain⟨D,hD⟩:=xaa (FL .i64 256 th);have Di:=zri hD hsize;have Do:=zro hD;have Dz:=zrz Hzs hD;rw[hCc.out,hD.out]at HTc;rw[hCc.out];obtain⟨W,hW⟩:=zev ((w.alloc (.cells T 34)).alloc (.cells Cc 109));obtain⟨r0,r1,hWs,b0⟩:=two hW;have TB:=ztb r0;have CB:Ω (W.heap[w.heap.size+1]? = some (.cells Cc 109 (0,0))):=⟨r1⟩;have BW:=ω b0;have HWs:=ω hWs;have HW:=ω hW;have hn8:=hn.2;have Hn:=ω hn;clear hW r0 r1 b0 hWs hsize HV hn hres hζ hg hT hTs;go_enter Tryz.func75,Tryz.ntmps75;go_wp2_with (first
  | (rw[HW.out])
  | (refine wpList_load_row rfl 34 _ rfl w.heap.size rfl 34 T (0,0) _ (TB.out _ (Below.refl _ _)) zY rfl HTz.out ?_)
  | (refine wpList_load_row rfl 109 _ rfl (w.heap.size+1) rfl 109 Cc (0,0) _ CB.out zX rfl Ci.out ?_))
 refine(HTc.out _).mono ?_;rintro e w5 ⟨rfl,hb5⟩;obtain⟨W6,hW6⟩:=zev (w5.alloc (.cells D 109));obtain⟨r6,hs6,b6⟩:=one hW6;have D6:Ω (Below W.heap.size W W6):=⟨hb5.trans (b6.mono hb5.size)⟩;have R6:=ω r6;have HW6:=ω hW6;clear hW6 r6 hs6 b6 hb5;go_wp2_with (first
  | (refine xam rfl 109 _ _ rfl D rfl rfl Di.out (by exact Dz.out) Do.out rfl ?_)
  | (rw[HW6.out]))
 go_loopw [16,7] (fun iv sv wr=>∃ r:Nat,r≤n∧iv=.int .i64 (r:Int)∧Ω (wr.ownsRow W6.heap.size 109 256 sv r (cq res r))∧Ω (Below W6.heap.size W6 wr)) (fun iv _ _=>n-(intOf iv).toNat)
 case atStart=>exact⟨0,Nat.zero_le _,rfl,⟨⟨rfl,Or.inl ⟨rfl,rfl⟩⟩⟩,⟨Below.refl _ _⟩⟩
 case round=>
  obtain⟨r,hr,rfl,Oy,Hb⟩:=hrel;have BE:=zbt D6 Hb.out;have BF:=zbt BW BE.out;by_cases hlt:r<n
  ·have hrz:(r:Int)<(n:Int):=by omega
   have hr8:r<8:=by omega
   have hrg:=xax (HVv.out.later BF.out) r hlt;have HT1:=ω (HTh.out (l r));have HT2:=ω (HTm.out th (thereR ζ 8 (l r)));have HT3:Ω (∀ w1:World,Calls Tryz.prog 133 #[.agg T,.agg (FL .i64 256 fun i=>(th i*thereR ζ 8 (l r) i)%8380417)] w1 (zB w1 (.agg (FL .i64 256 (res r))))):=⟨fun w1=>by
    rw[←Hres.out r];have h:=HBk.out (fun i=>(th i*thereR ζ 8 (l r) i)%8380417) w1;rw[←hth.out]at h ⊢;exact h⟩
   obtain⟨F,HF⟩:=xaa (FL .i64 256 (l r));obtain⟨G,HG⟩:=xaa (FL .i64 256 (thereR ζ 8 (l r)));obtain⟨M,HM⟩:=xaa (FL .i64 256 fun i=>(th i*thereR ζ 8 (l r) i)%8380417);obtain⟨E,HE⟩:=xaa (FL .i64 256 (res r));rw[HF.out,HG.out]at HT1;rw[hD.out,HG.out,HM.out]at HT2;rw[HM.out,HE.out]at HT3;obtain⟨o6,ho6⟩:=zev (r*256);rw[HF.out,ho6]at hrg;have Hrg:=ω hrg;have Fs:=zfs HF;have Fo:=zro HF;have Fi:=zsz Fs Hsize.out;have Fz:Ω (z.size=F.size):=⟨by rw[Hzs.out,Fs.out]⟩;have Es:=zfs HE;obtain⟨W11,hW11⟩:=zev (wr.alloc (.cells F 109));obtain⟨r11,hs11,b11⟩:=one hW11;have HW11:=ω hW11;have hob:∀ k,u7.ownBlock=some k→W6.heap.size≤k∧k<wr.heap.size:=fun k hk=>Oy.out.lt k hk
   have O11:Ω (W11.ownsRow W6.heap.size 109 256 u7 r (cq res r)):=⟨xbu Oy.out b11⟩;have BS:Ω (W6.heap.size≤W11.heap.size):=⟨Nat.le_trans Hb.out.size b11.size⟩;have B11:=zbt Hb b11;have Hlt:=ω hlt;have Hob:=ω hob;have R11:=ω r11;have S11:=ω hs11;have hz9:=hz;clear hrg hW11 r11 hs11 b11 Oy HF HG HM hlt hob;go_wp2_with (first
    | ((with_reducible refine wpList_load_mid rfl 109 _ rfl g o6 ?hx F.toList _ Hrg.out zX rfl ?hi ?_);(case hx=>rfl);(case hi=>rw[Array.length_toList];exact Fi.out))
    | (refine xam rfl 109 _ _ rfl F rfl rfl Fi.out (by exact Fz.out) Fo.out rfl ?_)
    | (rw[HW11.out]))
   clear hz9;refine xnb (fun w'=>Below W6.heap.size W11 w'∧w'.heap[wr.heap.size]? = some (.cells F 109 (0,0))) 11 [0,1,2,3,4,5,6,7,8,9,10] (by kernel_rfl) rfl rfl (by decide) (fun ops HO=>?_);simp only[List.filterMap_cons,fa,List.getElem?_cons_succ,List.getElem?_cons_zero];have hS:Below W6.heap.size W11 W11.drew∧W11.drew.heap[wr.heap.size]? = some (.cells F 109 (0,0)):=⟨(Below.refl _ _).drew,R11.out⟩;have TS:∀ w':World,Below W6.heap.size W11 w'→w'.heap[w.heap.size]? = some (.cells T 34 (0,0))∧w'.heap[w5.heap.size]? = some (.cells D 109 (0,0)):=fun w' hb=>by
    have k6:Below W6.heap.size W6 w':=B11.out.trans hb;exact⟨TB.out w' (D6.out.trans (k6.mono D6.out.size)),(k6.block _ (xac R6.out)).trans R6.out⟩
   have hd:Below W11.heap.size W11 W11.drew:=(Below.refl _ _).drew;refine zU hS ?_;refine hk_l (by rw[←HO.out];kernel_rfl) (fun _ _ _ _ h=>h) 34 _ rfl w.heap.size rfl 34 T _ (fun w1 h1=>(TS w1 h1.1).1) zY rfl HTz.out hS ?_;simp only[Act.put,pa,pb,pc];refine hk_l (by rw[←HO.out];kernel_rfl) (fun _ _ _ _ h=>h) 109 _ rfl w5.heap.size rfl 109 D _ (fun w1 h1=>(TS w1 h1.1).2) zX rfl Di.out hS ?_;simp only[Act.put,pa,pb,pc];refine hk_l (by rw[←HO.out];kernel_rfl) (fun _ _ _ _ h=>h) 34 _ rfl w.heap.size rfl 34 T _ (fun w1 h1=>(TS w1 h1.1).1) zY rfl HTz.out hS ?_;simp only[Act.put,pa,pb,pc];refine hk_l (by rw[←HO.out];kernel_rfl) (fun _ _ _ _ h=>h) 109 _ rfl wr.heap.size rfl 109 F _ (fun w1 h1=>h1.2) zX rfl Fi.out hS ?_;simp only[Act.put,pa,pb,pc];refine zS fun K hK=>?_
   go_simp
   refine(HT1.out _).mono ?_;rintro x w7 ⟨rfl,hb7⟩;have h7:=(show Below W6.heap.size W11 w7∧w7.heap[wr.heap.size]? = some (.cells F 109 (0,0)) from ⟨hS.1.trans (hb7.mono (Nat.le_trans BS.out hd.size)),(hb7.block _ (xac hS.2)).trans hS.2⟩);have k7:=zbm hd hb7;refine hK _ _ h7 ?_;clear hK K;try simp only[Act.put,pa,pb,pc]
   refine zS fun K hK=>?_
   go_simp
   refine(HT2.out _).mono ?_;rintro x w8 ⟨rfl,hb8⟩;have h8:=(show Below W6.heap.size W11 w8∧w8.heap[wr.heap.size]? = some (.cells F 109 (0,0)) from ⟨h7.1.trans (hb8.mono (Nat.le_trans BS.out k7.size)),(hb8.block _ (xac h7.2)).trans h7.2⟩);have k8:=zbm k7 hb8;refine hK _ _ h8 ?_;clear hK K;try simp only[Act.put,pa,pb,pc]
   refine zS fun K hK=>?_
   go_simp
   refine(HT3.out _).mono ?_;rintro x w9 ⟨rfl,hb9⟩;have h9:=(show Below W6.heap.size W11 w9∧w9.heap[wr.heap.size]? = some (.cells F 109 (0,0)) from ⟨h8.1.trans (hb9.mono (Nat.le_trans BS.out k8.size)),(hb9.block _ (xac h8.2)).trans h8.2⟩);have k9:=zbm k8 hb9;refine hK _ _ h9 ?_;clear hK K;try simp only[Act.put,pa,pb,pc]
   refine zS fun K hK=>?_
   refine xi1 _ rfl E Es.out rfl ?_;have bz:=(Below.refl W6.heap.size w9).alloc (Nat.le_trans BS.out k9.size) (.cells E 109);have h10:Below W6.heap.size W11 (w9.alloc (.cells E 109))∧(w9.alloc (.cells E 109)).heap[wr.heap.size]? = some (.cells F 109 (0,0)):=⟨h9.1.trans bz,(xaj _ _ _ (xac h9.2)).trans h9.2⟩;refine hK _ _ h10 ?_;clear hK K;try simp only[Act.put,pa,pb,pc]
   refine zS fun K hK=>?_
   refine xi2 _ _ rfl W6.heap.size r _ res E HE.out (by omega) (xbu O11.out k9) rfl rfl (Nat.le_trans BS.out k9.size) ?_;intro v1 w12 hown hbl hfr;have h12:Below W6.heap.size W11 w12∧w12.heap[wr.heap.size]? = some (.cells F 109 (0,0)):=⟨h9.1.trans hbl,(hfr _ (xac h9.2) (fun e=>by have:=(Hob.out _ e).2;omega)).trans h9.2⟩;refine hK _ _ h12 ?_;clear hK K;try simp only[Act.put,pa,pb,pc]
   refine zU h12 ?_;refine zN ?_;have B12:Ω (Below W6.heap.size W6 w12):=⟨B11.out.trans h12.1⟩;have O12:=ω hown;clear hS HO hb7 h7 k7 hb8 h8 k8 hb9 h9 k9 bz h10 h12 hown hbl hfr TS hd;go_wp2_with fail;go_roundw
   case rel=>exact⟨r+1,by have:=Hlt.out;omega,by go_num,O12,B12⟩
   case measure=>have:=Hlt.out;simp[intOf];omega
  ·obtain rfl:r=n:=by omega
   have O9:Ω (wr.ownsRow w.heap.size 109 256 u7 r (cq res r)):=⟨xgf Oy.out (Nat.le_trans BW.out.size D6.out.size)⟩;clear Oy hlt;go_wp2_with fail;go_ret;exact⟨⟨_,rfl,O9.out⟩,BF.out⟩
theorem xc7(n:Nat)(k l e t a b o s:Int)(vw:Value)(B:Nat)(p:Nat→Nat→Int)(w:World)(hb:b=95232∨b=261888)(hn : 1≤n∧n≤8)(HV:Holds w B vw n p):
 Calls Tryz.prog 73 #[.agg (zLt k l e t a b o s),vw] w fun e' w'=>e'=.returned (.string (cat ByteArray.empty (fun i=>packed (fun k=>hgh b (p i k)) (8380416 / (2*b)-1)) n))∧Below w.heap.size w w':=by
 obtain⟨m,hm⟩:∃ m:Int,(8380416:Int) / (2*b)-1=m:=⟨_,rfl⟩;have hm2 : 1≤m∧m<8380417:=by rcases hb with rfl | rfl<;>omega
 obtain⟨X,hX⟩:=xaa (fun i=>packed (fun k=>hgh b (p i k)) m);have HX:Ω (∀ i,i<n→(X i).size≤1000):=⟨fun i _=>by rw[←hX.out,xcr,←hm];rcases hb with rfl | rfl<;>decide +kernel⟩;rw[hm,hX.out];have HCall:Ω (∀ i,i<n→∀ w1:World,Calls Tryz.prog 134 #[.agg (FL .i64 256 fun k=>hgh b (p i k)),.int .i64 m] w1 (zB w1 (.tuple #[.string (X i),.int .i64 0]))):=⟨fun i hi w1=>by
  have h1:=rbitd.xds (fun k=>hgh b (p i k)) m w1 hm2.1 hm2.2;rw[if_pos (show inb (fun k=>hgh b (p i k)) m from fun k _=>by rw[←hm];exact mlsb.xna b _ hb)]at h1;rw[←hX.out];exact h1⟩
 have HHi:Ω (∀ (f:Nat→Int) (w1:World),Calls Tryz.prog 135 #[.agg (FL .i64 256 f),.int .i64 b] w1 (zB w1 (.agg (FL .i64 256 fun i=>hgh b (f i))))):=⟨fun f w1=>r9hi.xc7 f b w1⟩;have hb1 : 95232≤b∧b≤261888:=by omega
 obtain⟨d,hd⟩:∃ d:Int,2*b=d:=⟨_,rfl⟩;have hdw:IntKind.i64.wrap (2*b)=d:=zwi;obtain⟨q,hq⟩:∃ q:Int,(8380416:Int) / d=q:=⟨_,rfl⟩;have hq2 : 1≤q∧q≤100:=by rw[←hq,←hd];rcases hb with rfl | rfl<;>decide
 have hqt:Int.tdiv 8380416 d=q:=by rw[Int.tdiv_eq_ediv_of_nonneg (by decide)];exact hq
 have hqw:IntKind.i64.wrap q=q:=zwi;have hqm:q-1=m:=by rw[←hm,←hq,←hd]
 have hqm2:IntKind.i64.wrap (q-1)=m:=by rw[hqm,IntKind.wrap_i64];omega
 have hd0:(d==0)=false:=by simp;omega
 have hd1:¬ d=0:=by omega
 obtain⟨hz,hsize⟩:=zero_of_info polt.infoP;obtain⟨z,HZ⟩:=xaa (FL .i64 256 fun _=>0);rw[HZ.out]at hz;have Hzs:=zfs HZ;have Hsize:=ω hsize;obtain⟨g,c,hvs,hg⟩:=xan HV;subst hvs;have Hv:=ω HV;have Hg:=ω hg;have Hcs:Ω (∀ r,r≤n→(cat ByteArray.empty X r).size≤1000*r):=⟨fun r hr=>by
  induction r with
  | zero=>exact Nat.zero_le _
  | succ r ih=>
   have h1:=ih (by omega);have h2:=HX.out r (by omega);rw[cat,ByteArray.size_append];omega⟩
 obtain⟨L,HL⟩:=xaa ((zLt k l e t a b o s):Array Value);rw[HL.out];obtain⟨W,hW⟩:=zev (w.alloc (.cells L 37));obtain⟨r0,hWs,b0⟩:=one hW;have C5:Ω (W.cell? ⟨w.heap.size,5,none⟩=some (.int .i64 b)):=⟨xab r0 (by rw[←HL.out];rfl)⟩;have L0:Ω (w.heap.size<W.heap.size):=⟨xac r0⟩;have BW:=ω b0;have HW:=ω hW;have hn8:=hn.2;obtain⟨Rz,HRz⟩:=xaa (cat ByteArray.empty X n);rw[HRz.out];clear HV hsize hg hn hX hb hm hm2 hW r0 hWs b0 hd hq hqm;go_enter Tryz.func73,Tryz.ntmps73;go_wp2_with (rw[HW.out]);go_loopw [12,5] (fun i sv wr=>∃ r:Nat,r≤n∧i=.int .i64 (r:Int)∧sv=.string (cat ByteArray.empty X r)∧Ω (Below W.heap.size W wr)) (fun i _ _=>n-(intOf i).toNat)
 case atStart=>exact⟨0,Nat.zero_le _,rfl,rfl,⟨Below.refl _ _⟩⟩
 case round=>
  obtain⟨r,hr,rfl,rfl,Hbe⟩:=hrel;have BF:=zbt BW Hbe.out;by_cases hlt:r<n
  ·have hrz:(r:Int)<(n:Int):=by omega
   have hr8:r<8:=by omega
   have hrg:=xax (Hv.out.later BF.out) r hlt;have HCa:=ω (HCall.out r hlt);have HHa:Ω (∀ w1:World,Calls Tryz.prog 135 #[.agg (FL .i64 256 (p r)),.int .i64 b] w1 (zB w1 (.agg (FL .i64 256 fun k=>hgh b (p r k))))):=⟨HHi.out (p r)⟩;obtain⟨H,HH⟩:=xaa (FL .i64 256 fun k=>hgh b (p r k));rw[HH.out]at HHa HCa;obtain⟨F,HF⟩:=xaa (FL .i64 256 (p r));obtain⟨o6,ho6⟩:=zev (r*256);rw[HF.out,ho6]at hrg;rw[HF.out]at HHa;have Hrg:=ω hrg;have Fs:=zfs HF;have Fo:=zro HF;have Fi:=zsz Fs Hsize.out;have Fz:Ω (z.size=F.size):=⟨by rw[Hzs.out,Fs.out]⟩;obtain⟨W11,hW11⟩:=zev (wr.alloc (.cells F 109));obtain⟨r11,hs11,b11⟩:=one hW11;have HW11:=ω hW11;have R11:=ω r11;have B11:=zbt Hbe b11;have q5:∀ d os,(Go.Sort.grow (redrawn W11 d) os).cell? ⟨w.heap.size,5,none⟩=some (.int .i64 b):=fun d os=>cell_regrown ((B11.out.cell (p:=⟨w.heap.size,5,none⟩) L0.out).trans C5.out) d os
   have hXs:=HX.out r hlt;have hlen:=Hcs.out r (by omega);have hnext:cat ByteArray.empty X r++X r=cat ByteArray.empty X (r+1):=rfl;obtain⟨Y,HY⟩:=xaa (X r);obtain⟨Cr,HCr⟩:=xaa (cat ByteArray.empty X r);rw[HY.out]at HCa hXs hnext;rw[HCr.out]at hlen hnext ⊢;have hcat:¬ 9223372036854775807<Cr.size+Y.size:=by omega
   have Hlt:=ω hlt;have Hnext:=ω hnext;have hz9:=hz;clear hrg hlt HF HH hXs hlen hnext hW11 r11 hs11 b11;go_wp2_with (first
    | ((with_reducible refine wpList_load_mid rfl 109 _ rfl g o6 ?hx F.toList _ Hrg.out zX rfl ?hi ?_);(case hx=>rfl);(case hi=>rw[Array.length_toList];exact Fi.out))
    | (refine xam rfl 109 _ _ rfl F rfl rfl Fi.out (by exact Fz.out) Fo.out rfl ?_)
    | (rw[HW11.out]))
   clear hz9;refine wp_region_quiet_below (by kernel_rfl) (by kernel_rfl) ?_;refine xa2 rfl 109 _ rfl _ rfl 109 _ _ (fun w' hC=>xaw R11.out hC) zX rfl Fi.out ?_;iterate 2 (quiet_step (skip))
   quiet_step (exact Calls.regrown_of (HHa.out _));iterate 5 (quiet_step (skip))
   quiet_step (exact Calls.regrown_of (HCa.out _));iterate 5 (quiet_step (skip))
   refine wpQuiet_nil ?_;intro w3 hC;have B3:Ω (Below W.heap.size W w3):=⟨B11.out.trans ((xa1 hC).mono B11.out.size)⟩;clear hC q5;go_wp2_with fail;go_roundw
   case rel=>exact⟨r+1,by have:=Hlt.out;omega,by go_num,by rw[Hnext.out],B3⟩
   case measure=>have:=Hlt.out;simp[intOf];omega
  ·obtain rfl:r=n:=by omega
   rw[HRz.out];go_wp2_with fail;go_ret;exact⟨rfl,BF.out⟩
end rga
namespace rgb
open arr mem stil polys polt pols nttl rndm saml spok rsdoc mlkm mlsm keca kstep rkpb rkrw mgd rgd rbith vary varyn varye pvar
theorem xhf(f:Nat→Int)(k:Nat):rbith.cnt f k≤k:=by
 induction k with
 | zero=>exact Nat.le_refl _
 | succ k ih=>rw[rbith.cnt];split<;>omega
theorem tot_le(h:Nat→Nat→Int)(i:Nat):tot h i≤256*i:=by
 induction i with
 | zero=>exact Nat.le_refl _
 | succ i ih=>rw[tot];have:=xhf (h i) 256;omega
def hq(b:Int)(W1 Cb Cl:Nat→Nat→Int)(r:Nat):Nat→Int:=fun k=>hn b ((0-Cl r k)%8380417) (((W1 r k-Cb r k)%8380417+Cl r k)%8380417)
theorem xc8(kn:Nat)(k l e t a b o s:Int)(vw vb vl:Value)(Bw Bb Bl:Nat)(W1 Cb Cl:Nat→Nat→Int)(w:World)(hk : 1≤kn∧kn≤8)(Hw:Holds w Bw vw kn W1)(Hb':Holds w Bb vb kn Cb)(Hl:Holds w Bl vl kn Cl):
 Calls Tryz.prog 80 #[.agg (zLt k l e t a b o s),vw,vb,vl] w fun x w'=>(∃ v',x=.returned (.tuple #[v',.int .i64 ((tot (hq b W1 Cb Cl) kn:Nat):Int)])∧w'.ownsRow w.heap.size 109 256 v' kn (cq (hq b W1 Cb Cl) kn))∧Below w.heap.size w w':=by
 obtain⟨hh,ehh⟩:=xaa (hq b W1 Cb Cl);have H01:Ω (∀ r k,hh r k=0∨hh r k=1):=⟨fun r k=>by rw[←ehh.out];exact mlsb.hn_01 _ _ _⟩;have HNg0:∀ r,∀ w1:World,Calls Tryz.prog 78 #[.agg (FL .i64 256 fun _=>0),.agg (FL .i64 256 (Cl r))] w1 (zB w1 (.agg (FL .i64 256 fun k=>(0-Cl r k)%8380417))):=fun r w1=>r7sb.xfj _ _ w1
 have HSu:=ω (fun r w1=>r7sb.xfj (W1 r) (Cb r) w1);have HAd:=ω (fun r w1=>radd.xcj (fun k=>(W1 r k-Cb r k)%8380417) (Cl r) w1);have HHn0:∀ r,∀ w1:World,Calls Tryz.prog 139 #[.agg (FL .i64 256 fun k=>(0-Cl r k)%8380417),.agg (FL .i64 256 fun k=>((W1 r k-Cb r k)%8380417+Cl r k)%8380417),.int .i64 b] w1 (zB w1 (.agg (FL .i64 256 (hh r)))):=fun r w1=>by rw[←ehh.out];exact r9hn.xj1 _ _ _ w1
 rw[ehh.out];obtain⟨hz,hsize⟩:=zero_of_info polt.infoP;obtain⟨z,HZ⟩:=xaa (FL .i64 256 fun _=>0);rw[HZ.out]at hz;simp only[HZ.out]at HNg0;have HB0:Ω (Tryz.prog.built 109 []=some z):=⟨by rw[←HZ.out];exact pvar.built0⟩;have Hsize:=ω hsize;have HNg:=ω HNg0;have HHn:=ω HHn0;obtain⟨gw,cw,rfl,hgw⟩:=xan Hw;obtain⟨gb,cb,rfl,hgb⟩:=xan Hb';obtain⟨gl,cl,rfl,hgl⟩:=xan Hl;have HWv:=ω Hw;have HBv:=ω Hb';have HLv:=ω Hl;have HGs:=ω (And.intro hgw (And.intro hgb hgl));obtain⟨L,HL⟩:=xaa ((zLt k l e t a b o s):Array Value);rw[HL.out];obtain⟨W,hW⟩:=zev (w.alloc (.cells L 37));obtain⟨r0,hWs,b0⟩:=one hW;have C5:Ω (W.cell? ⟨w.heap.size,5,none⟩=some (.int .i64 b)):=⟨xab r0 (by rw[←HL.out];rfl)⟩;have L0:Ω (w.heap.size<W.heap.size):=⟨xac r0⟩;have BW:=ω b0;have HW:=ω hW;have hkn8:=hk.2;obtain⟨TT,hTT⟩:=zev (tot hh kn);rw[hTT];have HTT:=ω hTT;clear hsize HNg0 HHn0 Hw Hb' Hl hgw hgb hgl hW r0 hWs b0 hk ehh hTT;go_enter Tryz.func80,Tryz.ntmps80;go_wp2_with (rw[HW.out]);have HzA:=ω hz;clear hz;go_loopw [18,10,11] (fun iv sv nv wr=>∃ r:Nat,r≤kn∧iv=.int .i64 (r:Int)∧nv=.int .i64 ((tot hh r:Nat):Int)∧Ω (wr.ownsRow W.heap.size 109 256 sv r (cq hh r))∧Ω (Below W.heap.size W wr)) (fun iv _ _ _=>kn-(intOf iv).toNat)
 case atStart=>exact⟨0,Nat.zero_le _,rfl,rfl,⟨⟨rfl,Or.inl ⟨rfl,rfl⟩⟩⟩,⟨Below.refl _ _⟩⟩
 case round=>
  obtain⟨r,hr,rfl,rfl,Oy,Hb⟩:=hrel;rename World=>wo
  have BF:=zbt BW Hb.out;by_cases hlt:r<kn
  ·have hrz:(r:Int)<(kn:Int):=by omega
   have hr8:r<8:=by omega
   have hrw:=xax (HWv.out.later BF.out) r hlt;have hrb:=xax (HBv.out.later BF.out) r hlt;have hrl:=xax (HLv.out.later BF.out) r hlt;have HNq:=ω (HNg.out r);have HSq:=ω (HSu.out r);have HAq:=ω (HAd.out r);have HHq:=ω (HHn.out r);obtain⟨F,HF⟩:=xaa (FL .i64 256 (W1 r));obtain⟨G,HG⟩:=xaa (FL .i64 256 (Cb r));obtain⟨C,HC⟩:=xaa (FL .i64 256 (Cl r));obtain⟨M,HM⟩:=xaa (FL .i64 256 fun k=>(0-Cl r k)%8380417);obtain⟨V,HV⟩:=xaa (FL .i64 256 fun k=>(W1 r k-Cb r k)%8380417);obtain⟨N,HN⟩:=xaa (FL .i64 256 fun k=>((W1 r k-Cb r k)%8380417+Cl r k)%8380417);have FtE:Ω (Fits Tryz.prog 109 (FL .i64 256 fun _=>0) (FL .i64 256 (hh r))):=⟨fitsP _⟩;have HIx:Ω (∀ k:Nat,k<256→∀ w1:World,(Instr.index 109 (.agg (FL .i64 256 (hh r))) (.int .i64 (k:Int))).run Tryz.prog w1=.ok (.int .i64 (hh r k)) w1):=⟨fun k hk w1=>xd7 (hh r) k hk w1⟩;obtain⟨E,HE⟩:=xaa (FL .i64 256 (hh r));rw[HC.out,HM.out]at HNq;rw[HF.out,HG.out,HV.out]at HSq;rw[HV.out,HC.out,HN.out]at HAq;rw[HM.out,HN.out,HE.out]at HHq;rw[HE.out]at FtE HIx;obtain⟨o6,ho6⟩:=zev (r*256);rw[HF.out,ho6]at hrw;rw[HG.out,ho6]at hrb;rw[HC.out,ho6]at hrl;have Krw:Ω (∀ w':World,Below wo.heap.size wo w'→w'.rangeAt gw o6 F.toList):=⟨fun w' hb=>xa3 hrw (Nat.lt_of_lt_of_le HGs.out.1 BF.out.size) hb⟩;have Krb:Ω (∀ w':World,Below wo.heap.size wo w'→w'.rangeAt gb o6 G.toList):=⟨fun w' hb=>xa3 hrb (Nat.lt_of_lt_of_le HGs.out.2.1 BF.out.size) hb⟩;have Krl:Ω (∀ w':World,Below wo.heap.size wo w'→w'.rangeAt gl o6 C.toList):=⟨fun w' hb=>xa3 hrl (Nat.lt_of_lt_of_le HGs.out.2.2 BF.out.size) hb⟩;have Fi:=zfi HF Hsize.out
   have Gi:=zfi HG Hsize.out;have Ci:=zfi HC Hsize.out;have Es:=zfs HE;have Ei:=zsz Es Hsize.out;have K5:Ω (∀ w':World,Below wo.heap.size wo w'→w'.cell? ⟨w.heap.size,5,none⟩=some (.int .i64 b)):=⟨fun w' hb=>((Hb.out.trans (hb.mono Hb.out.size)).cell (p:=⟨w.heap.size,5,none⟩) L0.out).trans C5.out⟩;have Hlt:=ω hlt;obtain⟨T0,hT0⟩:=zev (tot hh r);rw[hT0];have HT0:=ω hT0;have HT0b:Ω (T0≤2048):=⟨by have:=tot_le hh r;omega⟩;clear hrw hrb hrl hlt HF HG HC HM HV HN hT0;go_wp2_with fail;refine xgq [vrP 23 24 22 13 43] 23 (by kernel_rfl) (by kernel_rfl) (by kernel_rfl) (by kernel_rfl) (by decide) (fun v hv ρ o w1 ho=>by
    simp only[List.mem_cons,List.not_mem_nil,or_false]at hv;subst hv;exact allocP ρ o w1 ho) (by simp[vrP]) (fun ops HO=>?_)
   simp only[List.take_succ_cons,List.take_zero];refine xen rfl (.agg z) (fun w9 _=>xm2 _ rfl _ HB0.out w9) ?_;refine xah rfl (fun K hK=>?_);go_simp
   apply Exists.intro;refine⟨fun w9 hw9=>?_,hK _ ?_⟩;rfl;clear hK K;refine xah rfl (fun K hK=>?_);go_simp
   apply Exists.intro;refine⟨fun w9 hw9=>?_,hK _ ?_⟩;rfl;clear hK K;refine xah rfl (fun K hK=>?_);go_simp
   apply Exists.intro;refine⟨fun w9 hw9=>?_,hK _ ?_⟩;rfl;clear hK K;refine mgd.xg4 rfl 109 _ rfl gl o6 rfl C.toList _ (fun w9 hw9=>Krl.out w9 hw9) zX rfl Ci.out ?_;refine xah rfl (fun K hK=>?_);go_simp
   apply Exists.intro;refine⟨fun w9 hw9=>?_,hK _ ?_⟩;exact HNq.out w9;clear hK K;refine xah rfl (fun K hK=>?_);go_simp
   apply Exists.intro;refine⟨fun w9 hw9=>?_,hK _ ?_⟩;rfl;clear hK K;refine xah rfl (fun K hK=>?_);go_simp
   apply Exists.intro;refine⟨fun w9 hw9=>?_,hK _ ?_⟩;rfl;clear hK K;refine xah rfl (fun K hK=>?_);go_simp
   apply Exists.intro;refine⟨fun w9 hw9=>?_,hK _ ?_⟩;rfl;clear hK K;refine mgd.xg4 rfl 109 _ rfl gw o6 rfl F.toList _ (fun w9 hw9=>Krw.out w9 hw9) zX rfl Fi.out ?_;refine xah rfl (fun K hK=>?_);go_simp
   apply Exists.intro;refine⟨fun w9 hw9=>?_,hK _ ?_⟩;rfl;clear hK K;refine xah rfl (fun K hK=>?_);go_simp
   apply Exists.intro;refine⟨fun w9 hw9=>?_,hK _ ?_⟩;rfl;clear hK K;refine xah rfl (fun K hK=>?_);go_simp
   apply Exists.intro;refine⟨fun w9 hw9=>?_,hK _ ?_⟩;rfl;clear hK K;refine mgd.xg4 rfl 109 _ rfl gb o6 rfl G.toList _ (fun w9 hw9=>Krb.out w9 hw9) zX rfl Gi.out ?_;refine xah rfl (fun K hK=>?_);go_simp
   apply Exists.intro;refine⟨fun w9 hw9=>?_,hK _ ?_⟩;exact HSq.out w9;clear hK K;refine xah rfl (fun K hK=>?_);go_simp
   apply Exists.intro;refine⟨fun w9 hw9=>?_,hK _ ?_⟩;rfl;clear hK K;refine xah rfl (fun K hK=>?_);go_simp
   apply Exists.intro;refine⟨fun w9 hw9=>?_,hK _ ?_⟩;rfl;clear hK K;refine xah rfl (fun K hK=>?_);go_simp
   apply Exists.intro;refine⟨fun w9 hw9=>?_,hK _ ?_⟩;rfl;clear hK K;refine mgd.xg4 rfl 109 _ rfl gl o6 rfl C.toList _ (fun w9 hw9=>Krl.out w9 hw9) zX rfl Ci.out ?_;refine xah rfl (fun K hK=>?_);go_simp
   apply Exists.intro;refine⟨fun w9 hw9=>?_,hK _ ?_⟩;exact HAq.out w9;clear hK K;refine xah rfl (fun K hK=>?_);go_simp
   apply Exists.intro;refine⟨fun w9 hw9=>?_,hK _ ?_⟩;rfl;clear hK K;refine xen rfl (.int .i64 b) (fun w9 hw9=>by have hc:=K5.out w9 hw9;go_simp;first | done | with_reducible rfl) ?_;refine xah rfl (fun K hK=>?_);go_simp
   apply Exists.intro;refine⟨fun w9 hw9=>?_,hK _ ?_⟩;exact HHq.out w9;clear hK K;refine ends1 E rfl FtE.out (fun p1 w6 l1 hb6 r1=>?_);simp only[vrP,Act.put,heldb.pa,heldb.pb,heldb.pc]at r1 ⊢;have E6:Ω (Below wo.heap.size wo w6):=⟨hb6⟩;have R1:=ω r1;have O6:Ω (w6.ownsRow W.heap.size 109 256 u10 r (cq hh r)):=⟨xbu Oy.out hb6⟩;have B6:=zbt Hb hb6;clear HO hb6 r1 l1 Oy Krw Krb Krl K5;go_wp2_with (refine wpList_load_row rfl 109 _ rfl p1 rfl 109 E (0,0) _ R1.out zX rfl Ei.out ?_);go_loopw [45,11] (fun kv nv wv=>∃ j:Nat,j≤256∧kv=.int .i64 (j:Int)∧nv=.int .i64 ((T0+rbith.cnt (hh r) j:Nat):Int)∧w6=wv) (fun kv _ _=>256-(intOf kv).toNat)
   case atStart=>exact⟨0,Nat.zero_le _,rfl,rfl,rfl⟩
   case round=>
    obtain⟨j,hj,rfl,rfl,rfl⟩:=hrel;by_cases hjl:j<256
    ·have hjz:(j:Int)<256:=by omega
     have hix:=HIx.out j hjl;have h01:=H01.out r j;have hcn:rbith.cnt (hh r) (j+1)=rbith.cnt (hh r) j+if hh r j=0 then 0 else 1:=rfl
     have hcl:=xhf (hh r) j;obtain⟨x,hx⟩:=zev (hh r j);rw[hx]at hix h01 hcn;obtain⟨cj,hcj⟩:=zev (rbith.cnt (hh r) j);rw[hcj]at hcn hcl ⊢;obtain⟨N0,hN0⟩:=zev (T0+cj);rw[hN0];have hN1:N0≤4096:=by have:=HT0b.out;omega
     have hadd:(N0:Int)+x=((T0+rbith.cnt (hh r) (j+1):Nat):Int):=by
      rw[hcn];rcases h01 with rfl | rfl
      ·rw[if_pos rfl];omega
      ·rw[if_neg (by decide)];omega
     have Hadd:=ω hadd;have hx0 : 0≤x:=by omega
     have hx1:x≤1:=by omega
     clear hcn hadd h01 hcj hN0 hx hcl;go_wp2_with fail;go_roundw
     case rel=>exact⟨j+1,by omega,by go_num,by rw[←Hadd.out],by trivial⟩
     case measure=>simp[intOf];omega
    ·obtain rfl:j=256:=by omega
     have Htot:Ω (T0+rbith.cnt (hh r) 256=tot hh (r+1)):=⟨by rw[tot,HT0.out]⟩;have hws:Ω (W.heap.size≤w6.heap.size):=⟨B6.out.size⟩;rw[Htot.out];simp only[Int.cast_ofNat_Int];clear hjl hj;go_wp2_with (refine wpList_load_row rfl 109 _ rfl p1 rfl 109 E (0,0) _ R1.out zX rfl Ei.out ?_);refine xi1 _ rfl E Es.out rfl ?_;go_wp2_with (at_builtin;refine xwj rfl _ _ rfl W.heap.size r _ hh E HE.out (by omega) O6.out rfl rfl hws.out ?_);intro v' w8 hown hb8;have B8:Ω (Below W.heap.size W w8):=⟨B6.out.trans hb8⟩;have O8:=ω hown;clear hown hb8;go_wp2_with fail;go_roundw
     case rel=>exact⟨r+1,by have:=Hlt.out;omega,by go_num,rfl,O8,B8⟩
     case measure=>have:=Hlt.out;simp[intOf];omega
  ·obtain rfl:r=kn:=by omega
   have O9:Ω (wo.ownsRow w.heap.size 109 256 u10 r (cq hh r)):=⟨xgf Oy.out BW.out.size⟩;rw[HTT.out];clear Oy hlt;go_wp2_with fail;go_ret2;exact⟨⟨_,rfl,O9.out⟩,BF.out⟩
end rgb
namespace mgr
open mlkm mlkb mlsm mgd rbita rbitb rbith rkse
def fin:Option ByteArray→Value
 | some y=>.tuple #[.string y,.int .i64 0]
 | none=>.tuple #[.string ⟨#[]⟩,.int .i64 17]
theorem xvx(S:Sg)(n:Nat)(h:tOk S n=true)(m:Nat):∀ k,k≤n→n<k+m→(∀ i,k≤i→i<n→tOk S i=false)→tTry S m k=some (tSig S n):=by
 induction m with
 | zero=>intro k h1 h2;omega
 | succ m ih=>
  intro k h1 h2 h3;rw[tTry];by_cases e:k=n
  ·rw[e,if_pos h]
  ·rw[if_neg (by rw[h3 k (Nat.le_refl _) (by omega)];decide)];exact ih (k+1) (by omega) (by omega) fun i hi hn=>h3 i (by omega) hn
theorem xvy(S:Sg)(m:Nat):∀ k,(∀ i,k≤i→i<k+m→tOk S i=false)→tTry S m k=none:=by
 induction m with
 | zero=>intro k _;rfl
 | succ m ih=>
  intro k h;rw[tTry,if_neg (by rw[h k (Nat.le_refl _) (by omega)];decide)];exact ih (k+1) fun i hi hn=>h i (by omega) (by omega)
theorem fin_at(S:Sg)(n:Nat)(hn:n<814)(h:∀ k,k<n→tOk S k=false)(h2:tOk S n=true):fin (tTry S 814 0)=.tuple #[.string (tSig S n),.int .i64 0]:=by
 rw[xvx S n h2 814 0 (by omega) (by omega) fun i _ hi=>h i hi];rfl
theorem xm6(S:Sg)(h:∀ k,k<814→tOk S k=false):fin (tTry S 814 0)=.tuple #[.string ⟨#[]⟩,.int .i64 17]:=by
 rw[xvy S 814 0 fun i _ hi=>h i (by omega)];rfl
theorem xjt(o:Option ByteArray):∃ (x:ByteArray) (c:Int),fin o=.tuple #[.string x,.int .i64 c]:=by
 cases o with
 | none=>exact⟨_,_,rfl⟩
 | some y=>exact⟨_,_,rfl⟩
theorem xh6(S:Sg)(n:Nat):tOk S n=true↔fldm.cbs (tZ S n) S.ln<S.a-S.t*S.e∧fldm.cbs (tLo S n) S.kn<S.b-S.t*S.e∧fldm.cbs (tCl S n) S.kn<S.b∧(tot (tHn S n) S.kn:Int)≤S.o:=by
 unfold tOk;simp only[Bool.and_eq_true,decide_eq_true_eq]
theorem xli(S:Sg)(n:Nat):tSum S n++laidS ByteArray.empty (tZ S n) (S.a-1) S.a S.ln++⟨(u8s (lay (tHn S n) S.o.toNat S.kn S.kn)).toArray⟩=tSig S n:=by
 unfold tSig laidS;rw[xji]
def resM(c x:ByteArray):Value:=if c.size≤255∧x.size≤60000 then .tuple #[.string (msg c x),.int .i64 0] else .tuple #[.string ⟨#[]⟩,.int .i64 5]
def sgk(ζ : Nat→Int)(kn ln:Nat)(e t a b o s:Int)(sk m r:ByteArray):Sg:=
 sgn ζ kn ln e t a b o s (sk.extract 0 128) (rdS sk 128 (lb (e+e).toNat) e) (rdS sk (128+32*lb (e+e).toNat*ln) (lb (e+e).toNat) e) (rdS sk (128+32*lb (e+e).toNat*ln+32*lb (e+e).toNat*kn) 13 4096) m r
open Classical in
noncomputable def resI(ζ : Nat→Int)(kn ln:Nat)(e t a b o s:Int)(sk m r:ByteArray):Value:=
 if r.size=32 then if (sk.size:Int)=sz2 kn ln e∧okK sk kn ln e then fin (tTry (sgk ζ kn ln e t a b o s sk m r) 814 0) else .tuple #[.string ⟨#[]⟩,.int .i64 3] else .tuple #[.string ⟨#[]⟩,.int .i64 1]
def z32:ByteArray:=⟨(List.replicate 32 (0:UInt8)).toArray⟩
noncomputable def resS(ζ : Nat→Int)(kn ln:Nat)(e t a b o s:Int)(sk x c r:ByteArray):Value:=
 if c.size≤255∧x.size≤60000 then resI ζ kn ln e t a b o s sk (msg c x) (if r.size=0 then z32 else r) else .tuple #[.string ⟨#[]⟩,.int .i64 5]
theorem xik(ζ : Nat→Int)(kn ln:Nat)(e t a b o s:Int)(sk m r:ByteArray):∃ (x:ByteArray) (c:Int),resI ζ kn ln e t a b o s sk m r=.tuple #[.string x,.int .i64 c]:=by
 unfold resI;split
 ·split
  ·exact xjt _
  ·exact⟨_,_,rfl⟩
 ·exact⟨_,_,rfl⟩
end mgr
namespace rsuni
open arr mem stil polys polt rbitc samm
theorem xl3{T:Array Value}(b s:ByteArray)(w:World)(hT:(Tryz.prog.info? 34).map (·.size)=some T.size)(hs:s.size=1008)
 (HS:∀ w1:World,Calls Tryz.prog 31 #[.agg T,.int .i64 1,.string b,.int .i64 1008] w1 (zB w1 (.tuple #[.string s,.int .i64 0]))):
 Calls Tryz.prog 69 #[.agg T,.string b] w (zB w (.agg (FL .i64 256 (uni (bys s))))):=by
 obtain⟨hz,hsize⟩:=zero_of_info polt.infoP;obtain⟨z,HZ⟩:=xaa (FL .i64 256 fun _=>0);rw[HZ.out]at hz;have Hzs:=zfs HZ;obtain⟨R,HR⟩:=xaa (FL .i64 256 (uni (bys s)));have Ri:=zri HR hsize;have Ro:=zro HR;have Rz:=zrz Hzs HR;have HRd:Ω (FL .i64 256 (lf (ua (bys s) 336))=R):=HR;have HTz:=ω hT;rw[HR.out];have Hix:Ω (∀ j:Nat,j<1008→∀ w1:World,(Instr.index 9 (.string s) (.int .i64 (j:Int))).run Tryz.prog w1=.ok (.int .u8 ((by' (bys s) j:Nat):Int)) w1):=⟨fun j hj w1=>byte_of s j _ (by omega) rfl w1⟩;obtain⟨W,hW⟩:=zev ((w.alloc (.cells T 34)).alloc (.cells z 109));obtain⟨r0,r1,hWs,b0⟩:=two hW;have T0:Ω (W.heap[w.heap.size]? = some (.cells T 34 (0,0))):=⟨r0⟩;have R0:Ω (W.heap[w.heap.size+1]? = some (.cells z 109 (0,0))):=⟨r1⟩;have BW:=ω b0;have HWs:=ω hWs;have HW:=ω hW;have HSh:=ω HS;clear hW r0 r1 b0 hWs hsize HS hT HR;go_enter Tryz.func69,Tryz.ntmps69;go_wp2_with (first
  | (rw[HW.out])
  | (refine wpList_load_row rfl 34 _ rfl w.heap.size rfl 34 T (0,0) _ T0.out zY rfl HTz.out ?_))
 refine(HSh.out _).mono ?_;rintro e u1 ⟨rfl,hb1⟩;obtain⟨W1,hW1⟩:=zev (u1.alloc (.cells z 109));obtain⟨r1,hs1,b1⟩:=one hW1;have A0:Ω (At u1.heap.size (FL .i64 256 (lf (ua (bys s) 0))) 109 W1 W1):=⟨by rw[ua,xj9,HZ.out];exact At.refl r1⟩;have R1:Ω (W1.heap[w.heap.size+1]? = some (.cells z 109 (0,0))):=⟨((hb1.trans (b1.mono hb1.size)).block _ (by rw[HWs.out];omega)).trans R0.out⟩;have B1:Ω (Below w.heap.size w W1):=⟨BW.out.trans ((hb1.trans (b1.mono hb1.size)).mono (by rw[HWs.out];omega))⟩;have Hlt:Ω (w.heap.size+1<u1.heap.size):=⟨by have:=hb1.size;rw[HWs.out]at this;omega⟩;have HW1:=ω hW1;clear hb1 r1 b1 hs1 hW1 T0 R0 BW;go_wp2_with (rw[HW1.out]);clear hz;go_loopw [8,9] (fun c v wr=>∃ j:Nat,j≤336∧v=.int .i64 ((3*j:Nat):Int)∧c=.int .i64 (((ua (bys s) j).length:Nat):Int)∧Ω (At u1.heap.size (FL .i64 256 (lf (ua (bys s) j))) 109 W1 wr)) (fun _ v _=>1008-(intOf v).toNat)
 case atStart=>exact⟨0,by omega,rfl,rfl,A0⟩
 case round=>
  clear A0;obtain⟨j,hj,rfl,rfl,A0⟩:=hrel;have BE:Ω (Below w.heap.size w wr):=⟨B1.out.trans (A0.out.below B1.out.size (by have:=Hlt.out;omega))⟩;obtain⟨n,hn⟩:=zev ((ua (bys s) j).length);have hn256:=(ua_le (bys s) j).1;rw[hn]at hn256 ⊢;by_cases hgo:j<336∧n<256
  ·obtain⟨hj336,hn2⟩:=hgo;obtain⟨i,hi⟩:=zev (3*j);have hi1:=Hix.out i (by omega);obtain⟨i1,hi1v⟩:=zev (i+1);obtain⟨i2,hi2v⟩:=zev (i+2);have hi2:=Hix.out i1 (by omega);have hi3:=Hix.out i2 (by omega);obtain⟨β0,hβ0⟩:∃ β,by' (bys s) i = β := ⟨_,rfl⟩
   obtain⟨β1,hβ1⟩:∃ β,by' (bys s) i1 = β := ⟨_,rfl⟩
   obtain⟨β2,hβ2⟩:∃ β,by' (bys s) i2 = β := ⟨_,rfl⟩
   have l0 : β0<256:=by rw[←hβ0];exact xb4 s _
   have l1 : β1<256:=by rw[←hβ1];exact xb4 s _
   have l2 : β2<256:=by rw[←hβ2];exact xb4 s _
   obtain⟨γ,hγ⟩:∃ γ,β2%128 = γ := ⟨_,rfl⟩;obtain⟨p,hp⟩:=zev (β1*256);obtain⟨q,hq⟩:=zev (γ * 65536);obtain⟨y,hy⟩:=zev (β0+256 * β1);obtain⟨x,hx⟩:∃ x,β0+256 * β1+65536 * γ = x:=⟨_,rfl⟩;have htri:tri (bys s) i=x:=by unfold tri;rw[hi1v,hi2v,hβ0,hβ1,hβ2,hγ,hx]
   obtain⟨v1,v2⟩:=xoh β0 β1 γ l0 l1 (by omega);rw[hp,hy]at v1;rw[hy,hq,show y+65536 * γ = x by omega]at v2;have va:=xme β2 l2;rw[hγ]at va;rw[hβ0]at hi1;rw[hβ1]at hi2;rw[hβ2]at hi3;have hi3z:(i:Int)+2<1008:=by omega
   have hi3y:(i2:Int)<1008:=by omega
   have fi1:IntKind.i64.wrap ((i:Int)+1)=(i1:Int):=zwi;have fi2:IntKind.i64.wrap ((i:Int)+2)=(i2:Int):=zwi;have fp:(β1:Int)*256=(p:Int):=by omega
   have fpw:IntKind.i64.wrap ((β1:Int)*256)=(p:Int):=by rw[fp,IntKind.wrap_i64];omega
   have fq:(γ : Int)*65536=(q:Int):=by omega
   have fqw:IntKind.i64.wrap ((γ : Int)*65536)=(q:Int):=by rw[fq,IntKind.wrap_i64];omega
   have w0:IntKind.i64.wrap (β0:Int)=(β0:Int):=zwi;have w1:IntKind.i64.wrap (β1:Int)=(β1:Int):=zwi;have w2:IntKind.i64.wrap (γ : Int)=(γ : Int):=zwi;have wp:IntKind.i64.wrap (p:Int)=(p:Int):=zwi;have wq:IntKind.i64.wrap (q:Int)=(q:Int):=zwi;have fi3:IntKind.i64.wrap ((i:Int)+3)=(i:Int)+3:=zwi;have hi1008:i<1008:=by omega
   have hszi:(s.size:Int)=1008:=by omega
   have hn2z:(n:Int)<256:=by omega
   rw[hi];have Hi:=ω hi;have A1:Ω (At u1.heap.size (FL .i64 256 (lf (ua (bys s) j))) 109 W1 wr.drew):=⟨xag A0.out⟩;have Hn:=ω hn;have Htri:=ω htri;clear hβ0 hβ1 hβ2 hγ hp hq hx hy hi hn htri hi1v hi2v;go_wp2_with fail;refine xav (by kernel_rfl) (by kernel_rfl) ?_;repeat still_step
   refine wpStill_nil ?_;clear hi1 hi2 hi3 v1 v2 va fi1 fi2 fp fpw fq fqw w0 w1 w2 wp wq hi3z hi3y A0;by_cases hx:x<8380417
   ·have hxz:(x:Int)<8380417:=by omega
    have Hua:Ω (ua (bys s) (j+1)=ua (bys s) j ++ [x]):=⟨by rw[ua,Hi.out,Htri.out,if_pos ⟨by rw[Hn.out];exact hn2,hx⟩]⟩;have Hset:Ω ((FL .i64 256 (lf (ua (bys s) j))).setIfInBounds n (.int .i64 (x:Int))=FL .i64 256 (lf (ua (bys s) (j+1)))):=⟨by rw[xap,Hua.out,←xka,Hn.out]⟩;clear hx;go_wp2_with ((with_reducible refine xaf A1 rfl _ _ _ rfl rfl ?_);refine⟨_,_,_,rfl,rfl,rfl,(by rw[xad];exact hn2),?_⟩;intro wn HRn;rw[Hset.out]at HRn);go_roundw
    case rel=>exact⟨j+1,by omega,by rw[show ((3*(j+1):Nat):Int)=(i:Int)+3 by have:=Hi.out;omega],by rw[show (ua (bys s) (j+1)).length=n+1 by rw[Hua.out,List.length_append,Hn.out];rfl];go_num,HRn⟩
    case measure=>have:=Hi.out;simp[intOf];omega
   ·have hxz:¬ (x:Int)<8380417:=by omega
    have Hua:Ω (ua (bys s) (j+1)=ua (bys s) j):=⟨by rw[ua,Hi.out,Htri.out,if_neg (fun h=>hx h.2)]⟩;clear hx;go_wp2_with fail;go_roundw
    case rel=>exact⟨j+1,by omega,by rw[show ((3*(j+1):Nat):Int)=(i:Int)+3 by have:=Hi.out;omega],by rw[Hua.out,Hn.out],by rw[Hua.out];exact A1⟩
    case measure=>have:=Hi.out;simp[intOf];omega
  ·have hend:Ω (ua (bys s) j=ua (bys s) 336):=⟨by
    by_cases h:j=336
    ·rw[h]
    ·exact(xqe (bys s) j 336 (by omega) hj).symm⟩
   rw[hend.out,HRd.out]at A0;have Hrow:=ω A0.out.row;have Hres:Ω (wr.heap[w.heap.size+1]? = some (.cells z 109 (0,0))):=⟨A0.out.other (xac R1.out) (by have:=Hlt.out;omega) R1.out⟩;have hszi:(s.size:Int)=1008:=by omega
   clear A0 hn;by_cases h:j<336
   ·have hn256z:¬ (n:Int)<256:=by omega
    have hjz:((3*j:Nat):Int)+2<1008:=by omega
    obtain⟨i,hi⟩:=zev (3*j);rw[hi]at hjz ⊢;have fi2:IntKind.i64.wrap ((i:Int)+2)=(i:Int)+2:=zwi;clear hi hgo hend;go_wp2_with (first
     | (refine wpList_load_row rfl 109 _ rfl u1.heap.size rfl 109 R (0,0) _ Hrow.out zX rfl Ri.out ?_)
     | (refine wpList_store_row rfl 109 _ _ rfl (w.heap.size+1) R rfl rfl 109 _ Hres.out Ri.out Rz.out Ro.out ?_))
    refine bodyPost_ret_by (v:=.agg R) (results_cell_row rfl _ _ (w.heap.size+1) 109 _ (0,0) _ rfl (setRow_heap _ _ _ _ _ _ Hres.out) zX rfl Ri.out) rfl ?_;exact⟨rfl,BE.out.trans (below_setRow _ _ _ (Nat.le_succ _))⟩
   ·obtain rfl:j=336:=by omega
    have e1:((3*336:Nat):Int)=1008:=rfl;rw[e1];clear hgo hend e1;go_wp2_with (first
     | (refine wpList_load_row rfl 109 _ rfl u1.heap.size rfl 109 R (0,0) _ Hrow.out zX rfl Ri.out ?_)
     | (refine wpList_store_row rfl 109 _ _ rfl (w.heap.size+1) R rfl rfl 109 _ Hres.out Ri.out Rz.out Ro.out ?_))
    refine bodyPost_ret_by (v:=.agg R) (results_cell_row rfl _ _ (w.heap.size+1) 109 _ (0,0) _ rfl (setRow_heap _ _ _ _ _ _ Hres.out) zX rfl Ri.out) rfl ?_;exact⟨rfl,BE.out.trans (below_setRow _ _ _ (Nat.le_succ _))⟩
end rsuni
namespace rfright
open arr mem polt rndm
theorem xf5(g:Int)(w:World):Calls Tryz.prog 127 #[.int .i64 g] w (zE w (.bool (okg g))):=by
 unfold okg;cases h1:g==95232
 ·cases h2:g==261888
  ·go_enter Tryz.func127,Tryz.ntmps127;go_wp2_with fail;go_ret;exact⟨rfl,rfl⟩
  ·go_enter Tryz.func127,Tryz.ntmps127;go_wp2_with fail;go_ret;exact⟨rfl,rfl⟩
 ·go_enter Tryz.func127,Tryz.ntmps127;go_wp2_with fail;go_ret;exact⟨rfl,rfl⟩
theorem bt(x:Bool):x=false∨x=true∧True:=by cases x<;>simp
theorem bo(x y:Bool):x=true∧True∨(x=false∧y=true∧True)∨x=false∧y=false:=by cases x<;>cases y<;>simp
theorem b3(x y z:Bool):x=true∨(x=false∧y=true)∨(x=false∧y=false∧z=true)∨x=false∧y=false∧z=false:=by cases x<;>cases y<;>cases z<;>simp
theorem bd(p:Prop):p∧True∨¬ p:=by by_cases h:p<;>simp[h]
theorem xbn(k l e t a b o s:Int)(w:World):Calls Tryz.prog 68 #[.agg (zLt k l e t a b o s)] w (zB w (.bool (latt k l e t a b o s))):=by
 obtain⟨W,hW⟩:=zev (w.alloc (.cells (zLt k l e t a b o s) 37));have HW:=ω hW;have HB:=zba hW;have hrow:W.heap[w.heap.size]? = some (.cells (zLt k l e t a b o s) 37 (0,0)):=by rw[←hW];exact xae _ _ _ rfl
 have c0:W.cell? ⟨w.heap.size,0,none⟩=some (.int .i64 k):=xab hrow rfl;have c1:W.cell? ⟨w.heap.size,1,none⟩=some (.int .i64 l):=xab hrow rfl;have c2:W.cell? ⟨w.heap.size,2,none⟩=some (.int .i64 e):=xab hrow rfl;have c3:W.cell? ⟨w.heap.size,3,none⟩=some (.int .i64 t):=xab hrow rfl;have c4:W.cell? ⟨w.heap.size,4,none⟩=some (.int .i64 a):=xab hrow rfl;have c5:W.cell? ⟨w.heap.size,5,none⟩=some (.int .i64 b):=xab hrow rfl;have c6:W.cell? ⟨w.heap.size,6,none⟩=some (.int .i64 o):=xab hrow rfl;have c7:W.cell? ⟨w.heap.size,7,none⟩=some (.int .i64 s):=xab hrow rfl;clear hrow hW;obtain⟨V,HV⟩:=xaa (latt k l e t a b o s);rw[HV.out];have Ch9:=xf5 b;rcases bd (1≤k) with ⟨h0,g0⟩ | h0
 all_goals try (have z:=g0;clear g0;rcases bd (k≤8) with ⟨h1,g1⟩ | h1)
 all_goals try (have z:=g1;clear g1;rcases bd (1≤l) with ⟨h2,g2⟩ | h2)
 all_goals try (have z:=g2;clear g2;rcases bd (l≤8) with ⟨h3,g3⟩ | h3)
 all_goals try (have z:=g3;clear g3;rcases bo (e==2) (e==4) with ⟨h4,g4⟩ | ⟨h4,h4y,g4⟩ | ⟨h4,h4y⟩)
 all_goals try (have z:=g4;clear g4;rcases bd (1≤t) with ⟨h5,g5⟩ | h5)
 all_goals try (have z:=g5;clear g5;rcases bd (t≤64) with ⟨h6,g6⟩ | h6)
 all_goals try (have z:=g6;clear g6;rcases bo (a==131072) (a==524288) with ⟨h7,g7⟩ | ⟨h7,h7y,g7⟩ | ⟨h7,h7y⟩)
 all_goals try (have z:=g7;clear g7;rcases bt (okg b) with h8 | ⟨h8,g8⟩)
 all_goals try (have z:=g8;clear g8;rcases bd (1≤o) with ⟨h9,g9⟩ | h9)
 all_goals try (have z:=g9;clear g9;rcases bd (o≤100) with ⟨h10,g10⟩ | h10)
 all_goals try (have z:=g10;clear g10;rcases b3 (s==128) (s==192) (s==256) with h11 | ⟨h11,h11y⟩ | ⟨h11,h11y,h11z⟩ | ⟨h11,h11y,h11z⟩)
 all_goals
  try rw[h8]at Ch9
  have HE:=HV.out;clear HV;simp[latt,upto, *]at HE;subst HE;go_enter Tryz.func68,Tryz.ntmps68;simp only[List.append_eq,List.cons_append,List.nil_append];go_wp2_with (rw[HW.out]);repeat ((first | with_reducible refine(Ch9 _).mono ?_);rintro e0 w0 ⟨rfl,rfl⟩;go_wp2_with fail)
  go_ret;exact⟨rfl,HB.out⟩
end rfright
end Go.Proofs.YtgahcabgmfbhdaaGreatDoor
