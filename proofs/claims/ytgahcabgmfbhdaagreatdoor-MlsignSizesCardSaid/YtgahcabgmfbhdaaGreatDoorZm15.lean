/-
  Layer 12's keys as bytes: what the keys of a pair are read as, and what is read of bytes, laid again. No function of a program is named here. Conditions: as each theorem says. Layer 13's plain functions: sizes, bounds, what a message tells, and the set, seed and message whose first try will do. No f
-/
import Derived.Test.YtgahcabgmfbhdaaGreatDoorZm07
import Derived.Test.YtgahcabgmfbhdaaGreatDoorZm14
import Derived.Test.YtgahcabgmfbhdaaGreatDoorZm09
import Derived.Test.YtgahcabgmfbhdaaGreatDoorZm11
import Derived.Test.YtgahcabgmfbhdaaGreatDoorZm01
import Derived.Test.YtgahcabgmfbhdaaGreatDoorZm13
import Derived.Test.YtgahcabgmfbhdaaGreatDoorZm02
import Derived.Test.YtgahcabgmfbhdaaGreatDoorZm10
import Derived.Test.YtgahcabgmfbhdaaGreatDoorZm12
import Derived.Lib.QuietBelow
import Derived.StillTailTactics
set_option maxRecDepth 100000
set_option maxHeartbeats 16000000
namespace Go.Proofs.YtgahcabgmfbhdaaGreatDoor
namespace kkey
open Go Go.RowKit
open arr mem polys fldm pols rbita rbitd rbite rbitf rbitg bitp rsdoc mlkm mlkb rkpb rksb rkse
theorem ext_all (b:ByteArray) (n:Nat) (h:b.size=n):b.extract 0 n=b:=by
 subst h
 apply ByteArray.ext
 simp
theorem ext_app (a b:ByteArray) (n:Nat) (h:n≤a.size):(a++b).extract 0 n=a.extract 0 n:=by
 rw[ByteArray.extract_append,show n-a.size=0 by omega,ext_none,ByteArray.append_empty]
theorem holds_congr {w:World} {B m:Nat} {v:Value} {p q:Nat→Nat→Int} (h:Holds w B v m p) (e:∀ i,i<m→∀ k,k<256→p i k=q i k):Holds w B v m q:=by
 obtain⟨g,c,hv,h1,h2,h3⟩:=h
 exact⟨g,c,hv,h1,h2,fun i hi k hk=>by rw[←e i hi k hk];exact h3 i hi k hk⟩
section
variable (ζ : Nat→Int) (sd:ByteArray) (kn ln:Nat) (e:Int)
theorem head_rho:(pHead ζ sd kn ln e).extract 0 32=pRho sd kn ln:=by
 unfold pHead
 rw[ext_app _ _ _ (by rw[ByteArray.size_append,pRho_size,pKey_size];decide),ext_app _ _ _ (by rw[pRho_size];decide)]
 exact ext_all _ _ (pRho_size _ _ _)
end
section
variable (kn ln:Nat) (e:Int) (h:ByteArray) (a b l:Nat→Nat→Int) (hh:h.size=128)
include hh
theorem sk_head:(skB kn ln e h a b l).extract 0 128=h:=by
 unfold skB
 rw[laidS,ext_left _ _ _ _ _ (by rw[laidS_size,laidS_size,hh];omega),laidS,ext_left _ _ _ _ _ (by rw[laidS_size,hh];omega),laidS,ext_left _ _ _ _ _ (by rw[hh];omega)]
 exact ext_all _ _ hh
theorem sk_rd1 (i:Nat) (hi:i<ln):rdU (skB kn ln e h a b l) 128 (lb (e+e).toNat) i=rdU (laidS h a e e ln) 128 (lb (e+e).toNat) i:=by
 have s1:=laidS_size h a e e ln
 have s2:=laidS_size (laidS h a e e ln) b e e kn
 unfold skB
 generalize laidS h a e e ln=L1 at s1 s2 ⊢
 generalize hL2:laidS L1 b e e kn=L2 at s2 ⊢
 rw[laidS,rd_left L2 _ kn 128 _ i ln hi (by omega),←hL2,laidS,rd_left L1 _ kn 128 _ i ln hi (by omega)]
theorem sk_rd2 (i:Nat) (hi:i<kn):rdU (skB kn ln e h a b l) (128+32*lb (e+e).toNat*ln) (lb (e+e).toNat) i=rdU (laidS (laidS h a e e ln) b e e kn) (128+32*lb (e+e).toNat*ln) (lb (e+e).toNat) i:=by
 have s1:=laidS_size h a e e ln
 have s2:=laidS_size (laidS h a e e ln) b e e kn
 unfold skB
 generalize laidS h a e e ln=L1 at s1 s2 ⊢
 generalize laidS L1 b e e kn=L2 at s2 ⊢
 rw[laidS,rd_left L2 _ kn _ _ i kn hi (by omega)]
variable (he:e=2∨e=4) (ha:∀ i,i<ln→ins (a i) e e) (hb:∀ i,i<kn→ins (b i) e e) (hl:∀ i,i<kn→ins (l i) 4095 4096)
include he ha hb hl
theorem sk_ok:okK (skB kn ln e h a b l) kn ln e:=by
 refine⟨fun i hi=>?_,fun i hi=>?_,?_⟩
 ·rw[sk_rd1 kn ln e h a b l hh i hi,←hh]
  exact ok_laid h a e e ln (by omega) ha i hi
 ·rw[sk_rd2 kn ln e h a b l hh i hi,←hh,←laidS_size h a e e ln]
  exact ok_laid (laidS h a e e ln) b e e kn (by omega) hb i hi
 ·have h5:=ok_laid (laidS (laidS h a e e ln) b e e kn) l 4095 4096 kn (by decide) hl
  rw[laidS_size,laidS_size,hh,lb_low]at h5
  exact h5
variable (ra:∀ i k,0≤a i k∧a i k<8380417) (rb:∀ i k,0≤b i k∧b i k<8380417) (rl:∀ i k,0≤l i k∧l i k<8380417)
include ra rb rl
theorem sk_read:(∀ i,i<ln→∀ k,k<256→rdS (skB kn ln e h a b l) 128 (lb (e+e).toNat) e i k=a i k)
 ∧ (∀ i,i<kn→∀ k,k<256→rdS (skB kn ln e h a b l) (128+32*lb (e+e).toNat*ln) (lb (e+e).toNat) e i k=b i k)
 ∧ (∀ i,i<kn→∀ k,k<256→rdS (skB kn ln e h a b l) (128+32*lb (e+e).toNat*ln+32*lb (e+e).toNat*kn) 13 4096 i k=l i k):=by
 refine⟨fun i hi k hk=>?_,fun i hi k hk=>?_,fun i hi k hk=>?_⟩
 ·have h5:=rd_laid h a e e ln i (by omega) hi (ha i hi) (fun k=>ra i k) k hk
  rw[hh]at h5
  rw[rdS,sk_rd1 kn ln e h a b l hh i hi]
  exact h5
 ·have h5:=rd_laid (laidS h a e e ln) b e e kn i (by omega) hi (hb i hi) (fun k=>rb i k) k hk
  rw[laidS_size,hh]at h5
  rw[rdS,sk_rd2 kn ln e h a b l hh i hi]
  exact h5
 ·have h5:=rd_laid (laidS (laidS h a e e ln) b e e kn) l 4095 4096 kn i (by decide) hi (hl i hi) (fun k=>rl i k) k hk
  rw[laidS_size,laidS_size,hh,lb_low]at h5
  exact h5
end
end kkey
end Go.Proofs.YtgahcabgmfbhdaaGreatDoor
namespace Go.Proofs.YtgahcabgmfbhdaaGreatDoor
namespace mlsb
open Go Go.RowKit
open arr mem keca tabt polys fldm spok nttl rbita rbitb rbitd rbite rbith bitp rndm samb saml rsdoc mlkm mlsm kkey pols sigf
open rbitc (bys bys_lt bys_length)
theorem zd_is:(fun k=>((zt k:Nat):Int)%8380417)=fun k=>((zt k:Nat):Int):=by
 funext k
 have:zt k<8380417:=tabm.pw_lt _ _
 omega
theorem msg_size (c x:ByteArray):(msg c x).size=2+c.size+x.size:=by
 unfold msg
 rw[ByteArray.size_append,ByteArray.size_append]
 rfl
theorem msg_bys (c x:ByteArray) (hc:c.size<256):bys (msg c x)=0 :: c.size :: (bys c++bys x):=by
 unfold msg
 rw[sigt.bys_app,sigt.bys_app]
 show [0,(UInt8.ofNat c.size).toNat]++bys c++bys x=_
 rw[UInt8.toNat_ofNat',Nat.mod_eq_of_lt hc]
 rfl
theorem bys_inj {x y:ByteArray} (h:bys x=bys y):x=y:=by
 have:=congrArg (fun l=>(⟨(u8s l).toArray⟩:ByteArray)) h
 simp only[u8s_bys]at this
 exact this
theorem msg_inj {c x d y:ByteArray} (hc:c.size<256) (hd:d.size<256) (h:msg c x=msg d y):c=d∧x=y:=by
 have e:=congrArg bys h
 rw[msg_bys c x hc,msg_bys d y hd]at e
 have e1:=(List.cons.inj (List.cons.inj e).2).1
 have e2:=(List.cons.inj (List.cons.inj e).2).2
 have e3:=List.append_inj e2 (by rw[bys_length,bys_length];exact e1)
 exact⟨bys_inj e3.1,bys_inj e3.2⟩
theorem tSum_size (S:Sg) (n:Nat):(tSum S n).size=(S.s / 4).toNat:=samc.out_size _ _ _
theorem tSig_size (S:Sg) (n:Nat) (ha:S.a=131072∨S.a=524288):(tSig S n).size=(S.s / 4).toNat+32*(lb (S.a-1).toNat+1)*S.ln+(S.o.toNat+S.kn):=by
 have h:=(mw_two S.a ha).1
 unfold mw at h
 unfold tSig
 rw[ByteArray.size_append,laidS_size,tSum_size,h,←bys_length,bys_length]
 congr 1
 show (u8s _).toArray.size=_
 rw[List.size_toArray,u8s,List.length_map,lay_length]
theorem tTry_some {S:Sg} {x:ByteArray} (m:Nat):∀ n,tTry S m n=some x→∃ i,n≤i∧i<n+m∧tOk S i=true∧x=tSig S i:=by
 induction m with
 | zero=>intro n h;cases h
 | succ m ih=>
  intro n h
  rw[tTry]at h
  split at h
  ·rename_i e
   exact⟨n,Nat.le_refl _,by omega,e,(Option.some.inj h).symm⟩
  ·obtain⟨i,h1,h2,h3⟩:=ih (n+1) h
   exact⟨i,by omega,by omega,h3⟩
theorem tOk_of {S:Sg} {n:Nat} (h:tOk S n=true):cbs (tZ S n) S.ln<S.a-S.t*S.e∧cbs (tLo S n) S.kn<S.b-S.t*S.e∧cbs (tCl S n) S.kn<S.b∧(tot (tHn S n) S.kn:Int)≤S.o:=by
 unfold tOk at h
 simp only[Bool.and_eq_true,decide_eq_true_eq]at h
 exact⟨h.1,h.2.1,h.2.2.1,h.2.2.2⟩
theorem hgh_in (g x:Int) (h:g=95232∨g=261888) : 0≤hgh g x∧hgh g x≤(8380416:Int) / (2*g)-1:=by
 rcases h with rfl | rfl
 ·have:=parts_95232 x
  rw[show (8380416:Int) / (2*95232)-1=43 from rfl]
  omega
 ·have:=parts_261888 x
  rw[show (8380416:Int) / (2*261888)-1=15 from rfl]
  omega
theorem ext_end (x:ByteArray) (a b:Nat) (h:x.size≤a):x.extract a b=ByteArray.empty:=ByteArray.extract_eq_empty_iff.2 (by omega)
theorem head_key (ζ : Nat→Int) (sd:ByteArray) (kn ln:Nat) (e:Int):(pHead ζ sd kn ln e).extract 32 64=pKey sd kn ln:=by
 unfold pHead
 rw[ByteArray.extract_append,ByteArray.size_append,pRho_size,pKey_size,ByteArray.extract_append,pRho_size]
 simp only[Nat.reduceAdd,Nat.reduceSub]
 rw[ext_all _ _ (pKey_size _ _ _),ByteArray.extract_eq_empty_iff.2 (show min 0 (pTr ζ sd kn ln e).size≤0 by omega),ByteArray.append_empty,ext_end _ _ _ (by rw[pRho_size];decide),ByteArray.empty_append]
theorem head_tr (ζ : Nat→Int) (sd:ByteArray) (kn ln:Nat) (e:Int):(pHead ζ sd kn ln e).extract 64 128=pTr ζ sd kn ln e:=by
 unfold pHead
 rw[ByteArray.extract_append,ByteArray.size_append,pRho_size,pKey_size]
 simp only[Nat.reduceAdd,Nat.reduceSub]
 rw[ext_all _ _ (pTr_size _ _ _ _ _),ext_end _ _ _ (by rw[ByteArray.size_append,pRho_size,pKey_size];decide),ByteArray.empty_append]
theorem sgn_key (ζ : Nat→Int) (sd:ByteArray) (kn ln:Nat) (e t a b o s:Int) (A B C:Nat→Nat→Int) (m z:ByteArray):
 sgn ζ kn ln e t a b o s (pHead ζ sd kn ln e) A B C m z=⟨ζ,kn,ln,e,t,a,b,o,s,pRho sd kn ln,out TL RL 2 (pTr ζ sd kn ln e++m) 64,out TL RL 2 (pKey sd kn ln++z++out TL RL 2 (pTr ζ sd kn ln e++m) 64) 64,A,B,C⟩:=by
 unfold sgn
 rw[head_key,head_tr,head_rho]
theorem sign_awake (sd m z:ByteArray) (hsd:bys sd=seed32) (hm:bys m=[0,1,99,97,98,99]) (hz:bys z=List.replicate 32 0):
 tOk (sgn tbf.ζ 1 1 2 20 131072 95232 60 128 (pHead tbf.ζ sd 1 1 2) (qS (pSig sd 1 1) 2) (fun i=>qS (pSig sd 1 1) 2 (1+i)) (pLo tbf.ζ sd 1 1 2) m z) 0=true:=by
 rw[sgn_key]
 exact sigt.try_ok sd m z hsd hm hz
theorem cb_cbs (p:Nat→Nat→Int) (n j:Nat) (hj:j<n):cb (p j) 256≤cbs p n:=by
 induction n with
 | zero=>omega
 | succ n ih=>
  rw[cbs]
  by_cases e:j=n
  ·subst e;omega
  ·have:=ih (by omega);omega
theorem tZ_in {S:Sg} {n:Nat} (h:tOk S n=true) (ht : 1≤S.t) (he : 1≤S.e) (i:Nat) (hi:i<S.ln):ins (tZ S n i) (S.a-1) S.a:=fun k hk=>by
 have h1:=(tOk_of h).1
 have h2:=cb_cbs (tZ S n) S.ln i hi
 have h3:=cb_ge (tZ S n i) 256 k hk
 have h4 : 1*1≤S.t*S.e:=Int.mul_le_mul ht he (by decide) (by omega)
 omega
end mlsb
end Go.Proofs.YtgahcabgmfbhdaaGreatDoor
namespace Go.Proofs.YtgahcabgmfbhdaaGreatDoor.mgb
set_option linter.unusedSimpArgs false
open Go Go.RowKit
open arr mem stil polys polt pols nttl rndm saml spok rsdoc mlkm mlsm keca kstep kturn rkpb rkrw qrow mgd rbita rbitd rbite bitp
theorem cat_list (X:Nat→ByteArray) (n:Nat):(cat ByteArray.empty X (n+1)).data.toList=(cat ByteArray.empty X n).data.toList++(X n).data.toList:=by
 rw[cat,ByteArray.data_append,Array.toList_append]
theorem mk_list (x:ByteArray):(⟨x.data.toList.toArray⟩:ByteArray)=x:=rfl
theorem pack_any (gs n:Nat) (a:Int) (vz:Value) (B:Nat) (p:Nat→Nat→Int) (w:World) (ha:a=131072∨a=524288) (hc:w.cell? ⟨gs,5,none⟩=some (.int .i64 a)) (ls:gs<w.heap.size) (hn : 1≤n∧n≤8) (HV:Holds w B vz n p) (hin:∀ i,i<n→ins (p i) (a-1) a):
 Calls Tryz.prog 65 #[.pointer (some ⟨gs,0,none⟩),vz] w fun e w'=>e=.returned (.string (laidS ByteArray.empty p (a-1) a n))∧Below w.heap.size w w':=by
 unfold laidS
 have hw:IntKind.i64.wrap (a-1)=a-1:=by rw[IntKind.wrap_i64];omega
 obtain⟨X,hX⟩:=ex_eq (fun i=>packed (sg (p i) a) (a-1+a))
 have HX:Away (∀ i,i<n→(X i).size≤1000):=⟨fun i _=>by rw[←hX.out,size_packed];rcases ha with rfl | rfl<;>decide +kernel⟩
 rw[hX.out]
 obtain⟨hz,hsize⟩:=zero_of_info polt.infoP
 have Hsize:=Away.mk hsize
 obtain⟨g,c,hvs,hg⟩:=hd_any HV
 subst hvs
 have Hv:=Away.mk HV
 have Hg:=Away.mk hg
 have Hls:=Away.mk ls
 have Hc:=Away.mk hc
 have HCall:Away (∀ i,i<n→∀ w1:World,Calls Tryz.prog 103 #[.agg (FL .i64 256 (p i)),.int .i64 (a-1),.int .i64 a] w1 fun e w'=>e=.returned (.tuple #[.string (X i),.int .i64 0])∧Below w1.heap.size w1 w'):=⟨fun i hi w1=>by
  have h1:=psig.signed_any (p i) (a-1) a w1 (by omega) (by omega) (by omega) (by omega)
  rw[if_pos (hin i hi)]at h1
  rw[←hX.out]
  exact h1⟩
 obtain⟨a1,ha1⟩:∃ x,a-1=x:=⟨_,rfl⟩
 rw[ha1]at HCall hw
 clear hX hin ha
 rw[←ha1]at hw
 have hw2:IntKind.i64.wrap (a-1)=a1:=by rw[hw,ha1]
 clear hw ha1
 have Hcs:Away (∀ r,r≤n→(cat ByteArray.empty X r).data.toList.length≤1000*r):=⟨fun r hr=>by
  induction r with
  | zero=>exact Nat.zero_le _
  | succ r ih=>
   have h1:=ih (by omega)
   have h2:=HX.out r (by omega)
   rw[cat_list,List.length_append]
   have h3:(X r).data.toList.length=(X r).size:=rfl
   omega⟩
 have hfb:=Lib.fresh_isBuilder 99 5 w
 have Hfb:Away (Lib.IsBuilder 99 5 w.heap.size w.heap.size (Lib.byteCells (cat ByteArray.empty X 0).data.toList) (w.alloc (.cells #[.pointer none,.slice none 0 0] 99))):=⟨hfb⟩
 have hn8:=hn.2
 obtain⟨Rz,HRz⟩:=ex_eq (cat ByteArray.empty X n)
 rw[HRz.out]
 clear HV hz hsize hg ls hfb hn
 go_enter Tryz.func65,Tryz.ntmps65
 go_wp2_with fail
 clear hc
 go_loopw [11] (fun i wr=>∃ r:Nat,r≤n∧i=.int .i64 (r:Int)∧Away (Lib.IsBuilder 99 5 w.heap.size w.heap.size (Lib.byteCells (cat ByteArray.empty X r).data.toList) wr)∧Away (Below w.heap.size w wr)) (fun i _=>n-(intOf i).toNat)
 case atStart=>exact⟨0,Nat.zero_le _,rfl,Hfb,⟨(Below.refl _ _).alloc (Nat.le_refl _) _⟩⟩
 case round=>
  clear Hfb
  obtain⟨r,hr,rfl,Hbd,Hbe⟩:=hrel
  by_cases hlt:r<n
  ·have hrz:(r:Int)<(n:Int):=by omega
   have hr8:r<8:=by omega
   have hrg:=hd_row (Hv.out.later Hbe.out) r hlt
   have HCa:=Away.mk (HCall.out r hlt)
   obtain⟨F,HF⟩:=ex_eq (FL .i64 256 (p r))
   obtain⟨o6,ho6⟩:∃ o6,r*256=o6:=⟨_,rfl⟩
   rw[HF.out,ho6]at hrg
   have Hrg:Away (∀ w':World,Below wr.heap.size wr w'→w'.rangeAt g o6 F.toList):=⟨fun w' hb'=>range_later hrg (Nat.lt_of_lt_of_le Hg.out Hbe.out.size) hb'⟩
   have Fi:Away ((Tryz.prog.info? 109).map (·.size)=some F.toList.length):=⟨by rw[Array.length_toList,←HF.out,fl_size];exact Hsize.out⟩
   have q5:∀ d os,(Go.Sort.grow (redrawn wr d) os).cell? ⟨gs,5,none⟩=some (.int .i64 a):=fun d os=>cell_regrown ((Hbe.out.cell (p:=⟨gs,5,none⟩) Hls.out).trans Hc.out) d os
   rw[HF.out]at HCa
   have hXs:=HX.out r hlt
   have hlen:=Hcs.out r (by omega)
   have hnext:=cat_list X r
   obtain⟨Y,HY⟩:=ex_eq (X r)
   rw[HY.out]at HCa hXs hnext
   have Hlt:=Away.mk hlt
   have Hnext:=Away.mk hnext
   have HXs:=Away.mk hXs
   have Hlen:=Away.mk hlen
   clear hrg hlt HF hXs hlen hnext
   go_wp2_with fail
   refine wp_region_quiet_below (by kernel_rfl) (by kernel_rfl) ?_
   iterate 3 (quiet_step (skip))
   refine wpQuiet_load_mid rfl 109 _ rfl g o6 rfl F.toList _ (fun w' hC=>Hrg.out w' (krw.reg_below hC)) Tryz.underlying109 rfl Fi.out ?_
   iterate 11 (quiet_step (skip))
   quiet_step (exact Calls.regrown_of (HCa.out _))
   iterate 5 (quiet_step (skip))
   refine wpQuiet_nil ?_
   intro w3 hC
   have hb3:Below wr.heap.size wr w3:=krw.reg_below hC
   have Hb3:=Away.mk hb3
   have hz3:w.heap.size≤w3.heap.size:=Nat.le_trans Hbe.out.size hb3.size
   have Hw:Away (Calls Tryz.prog 53 #[.pointer (some ⟨w.heap.size,0,none⟩),.string Y] w3 fun e w'=>e=.returned (.tuple #[.int .i64 Y.size,.nilIface])∧(Lib.BuilderAt 99 5 w.heap.size w.heap.size (.pointer (some ⟨w.heap.size,0,none⟩)) (Lib.byteCells (cat ByteArray.empty X (r+1)).data.toList) w'∧Below w.heap.size w3 w')):=⟨by
    have hh:=shelfr.writeString w.heap.size w.heap.size (Lib.byteCells (cat ByteArray.empty X r).data.toList) Y w3 (shelfr.builder_later Hbd.out hb3) (by
     rw[Lib.byteCells_length]
     have:=HXs.out
     have:=Hlen.out
     omega) hz3
    rw[show Lib.strCells Y=Lib.byteCells Y.data.toList from rfl,←Lib.byteCells_append,←Hnext.out]at hh
    exact hh⟩
   clear hC hb3 q5
   go_wp2_with fail
   refine Hw.out.mono ?_
   rintro e w4 ⟨rfl,hat,hb4⟩
   have Hat:=Away.mk hat
   have D4:Away (Below w.heap.size w w4):=⟨(Hbe.out.trans (Hb3.out.mono Hbe.out.size)).trans hb4⟩
   clear hat hb4
   go_wp2_with fail
   go_roundw
   case rel=>exact⟨r+1,by have:=Hlt.out;omega,by go_num,⟨Or.inr Hat.out⟩,D4⟩
   case measure=>have:=Hlt.out;simp[intOf];omega
  ·obtain rfl:r=n:=by omega
   have Hst:Away (Calls Tryz.prog 55 #[.pointer (some ⟨w.heap.size,0,none⟩)] wr fun e w'=>e=.returned (.string (cat ByteArray.empty X r))∧Below w.heap.size wr w'):=⟨by
    have hh:=shelfr.toText w.heap.size w.heap.size (cat ByteArray.empty X r).data.toList wr Hbd.out Hbe.out.size
    rw[mk_list]at hh
    exact hh⟩
   rw[HRz.out]at Hst
   clear hlt
   go_wp2_with fail
   refine Hst.out.mono ?_
   rintro e w3 ⟨rfl,hb3⟩
   have D3:Away (Below w.heap.size w w3):=⟨Hbe.out.trans hb3⟩
   clear hb3
   go_wp2_with fail
   go_ret
   exact⟨rfl,D3.out⟩
theorem packHigh_any (gs n:Nat) (b:Int) (vw:Value) (B:Nat) (p:Nat→Nat→Int) (w:World) (hb:b=95232∨b=261888) (hc:w.cell? ⟨gs,6,none⟩=some (.int .i64 b)) (ls:gs<w.heap.size) (hn : 1≤n∧n≤8) (HV:Holds w B vw n p):
 Calls Tryz.prog 115 #[.pointer (some ⟨gs,0,none⟩),vw] w fun e w'=>e=.returned (.string (cat ByteArray.empty (fun i=>packed (fun k=>hgh b (p i k)) (8380416 / (2*b)-1)) n))∧Below w.heap.size w w':=by
 obtain⟨m,hm⟩:∃ m:Int,(8380416:Int) / (2*b)-1=m:=⟨_,rfl⟩
 have hm2 : 1≤m∧m<8380417:=by rcases hb with rfl | rfl<;>omega
 obtain⟨X,hX⟩:=ex_eq (fun i=>packed (fun k=>hgh b (p i k)) m)
 have HX:Away (∀ i,i<n→(X i).size≤1000):=⟨fun i _=>by rw[←hX.out,size_packed,←hm];rcases hb with rfl | rfl<;>decide +kernel⟩
 rw[hm,hX.out]
 obtain⟨hz,hsize⟩:=zero_of_info polt.infoP
 have Hsize:=Away.mk hsize
 obtain⟨g,c,hvs,hg⟩:=hd_any HV
 subst hvs
 have Hv:=Away.mk HV
 have Hg:=Away.mk hg
 have Hls:=Away.mk ls
 have Hc:=Away.mk hc
 have HCall:Away (∀ i,i<n→∀ w1:World,Calls Tryz.prog 101 #[.agg (FL .i64 256 fun k=>hgh b (p i k)),.int .i64 m] w1 fun e w'=>e=.returned (.tuple #[.string (X i),.int .i64 0])∧Below w1.heap.size w1 w'):=⟨fun i hi w1=>by
  have h1:=ppack.pack_any (fun k=>hgh b (p i k)) m w1 hm2.1 hm2.2
  rw[if_pos (show inb (fun k=>hgh b (p i k)) m from fun k _=>by rw[←hm];exact mlsb.hgh_in b _ hb)]at h1
  rw[←hX.out]
  exact h1⟩
 have HHi:Away (∀ (f:Nat→Int) (w1:World),Calls Tryz.prog 160 #[.agg (FL .i64 256 f),.int .i64 b] w1 fun e w'=>e=.returned (.agg (FL .i64 256 fun i=>hgh b (f i)))∧Below w1.heap.size w1 w'):=⟨fun f w1=>rhigh.high_any f b w1⟩
 have hb1 : 95232≤b∧b≤261888:=by omega
 obtain⟨d,hd⟩:∃ d:Int,2*b=d:=⟨_,rfl⟩
 have hd1 : 190464≤d:=by omega
 have hd2:d≤523776:=by omega
 have hdw:IntKind.i64.wrap (2*b)=d:=by rw[IntKind.wrap_i64];omega
 obtain⟨q,hq⟩:∃ q:Int,(8380416:Int) / d=q:=⟨_,rfl⟩
 have hqt:Int.tdiv 8380416 d=q:=by rw[Int.tdiv_eq_ediv_of_nonneg (by decide)];exact hq
 have hqm:q-1=m:=by rw[←hm,←hq,←hd]
 have hqw:IntKind.i64.wrap (q-1)=m:=by rw[hqm,IntKind.wrap_i64];omega
 have hq2 : 1≤q∧q≤100:=by rw[←hq,←hd];rcases hb with rfl | rfl<;>decide
 clear hX hb hm hm2
 have Hcs:Away (∀ r,r≤n→(cat ByteArray.empty X r).data.toList.length≤1000*r):=⟨fun r hr=>by
  induction r with
  | zero=>exact Nat.zero_le _
  | succ r ih=>
   have h1:=ih (by omega)
   have h2:=HX.out r (by omega)
   rw[cat_list,List.length_append]
   have h3:(X r).data.toList.length=(X r).size:=rfl
   omega⟩
 have hfb:=Lib.fresh_isBuilder 99 5 w
 have Hfb:Away (Lib.IsBuilder 99 5 w.heap.size w.heap.size (Lib.byteCells (cat ByteArray.empty X 0).data.toList) (w.alloc (.cells #[.pointer none,.slice none 0 0] 99))):=⟨hfb⟩
 have hn8:=hn.2
 obtain⟨Rz,HRz⟩:=ex_eq (cat ByteArray.empty X n)
 rw[HRz.out]
 clear HV hz hsize hg ls hfb hn
 go_enter Tryz.func115,Tryz.ntmps115
 go_wp2_with fail
 clear hc
 go_loopw [20] (fun i wr=>∃ r:Nat,r≤n∧i=.int .i64 (r:Int)∧Away (Lib.IsBuilder 99 5 w.heap.size w.heap.size (Lib.byteCells (cat ByteArray.empty X r).data.toList) wr)∧Away (Below w.heap.size w wr)) (fun i _=>n-(intOf i).toNat)
 case atStart=>exact⟨0,Nat.zero_le _,rfl,Hfb,⟨(Below.refl _ _).alloc (Nat.le_refl _) _⟩⟩
 case round=>
  clear Hfb
  obtain⟨r,hr,rfl,Hbd,Hbe⟩:=hrel
  by_cases hlt:r<n
  ·have hrz:(r:Int)<(n:Int):=by omega
   have hr8:r<8:=by omega
   have hrg:=hd_row (Hv.out.later Hbe.out) r hlt
   have HCa:=Away.mk (HCall.out r hlt)
   have HHa:Away (∀ w1:World,Calls Tryz.prog 160 #[.agg (FL .i64 256 (p r)),.int .i64 b] w1 fun e w'=>e=.returned (.agg (FL .i64 256 fun k=>hgh b (p r k)))∧Below w1.heap.size w1 w'):=⟨HHi.out (p r)⟩
   obtain⟨H,HH⟩:=ex_eq (FL .i64 256 fun k=>hgh b (p r k))
   rw[HH.out]at HHa HCa
   clear HH
   obtain⟨F,HF⟩:=ex_eq (FL .i64 256 (p r))
   obtain⟨o6,ho6⟩:∃ o6,r*256=o6:=⟨_,rfl⟩
   rw[HF.out,ho6]at hrg
   have Hrg:Away (∀ w':World,Below wr.heap.size wr w'→w'.rangeAt g o6 F.toList):=⟨fun w' hb'=>range_later hrg (Nat.lt_of_lt_of_le Hg.out Hbe.out.size) hb'⟩
   have Fi:Away ((Tryz.prog.info? 109).map (·.size)=some F.toList.length):=⟨by rw[Array.length_toList,←HF.out,fl_size];exact Hsize.out⟩
   have q5:∀ d os,(Go.Sort.grow (redrawn wr d) os).cell? ⟨gs,6,none⟩=some (.int .i64 b):=fun d os=>cell_regrown ((Hbe.out.cell (p:=⟨gs,6,none⟩) Hls.out).trans Hc.out) d os
   rw[HF.out]at HHa
   have hXs:=HX.out r hlt
   have hlen:=Hcs.out r (by omega)
   have hnext:=cat_list X r
   obtain⟨Y,HY⟩:=ex_eq (X r)
   rw[HY.out]at HCa hXs hnext
   have Hlt:=Away.mk hlt
   have Hnext:=Away.mk hnext
   have HXs:=Away.mk hXs
   have Hlen:=Away.mk hlen
   clear hrg hlt HF hXs hlen hnext
   go_wp2_with fail
   refine wp_region_quiet_below (by kernel_rfl) (by kernel_rfl) ?_
   iterate 3 (quiet_step (skip))
   refine wpQuiet_load_mid rfl 109 _ rfl g o6 rfl F.toList _ (fun w' hC=>Hrg.out w' (krw.reg_below hC)) Tryz.underlying109 rfl Fi.out ?_
   iterate 5 (quiet_step (skip))
   quiet_step (exact Calls.regrown_of (HHa.out _))
   quiet_step (skip)
   quiet_step (exact Calls.regrown_of (HCa.out _))
   iterate 5 (quiet_step (skip))
   refine wpQuiet_nil ?_
   intro w3 hC
   have hb3:Below wr.heap.size wr w3:=krw.reg_below hC
   have Hb3:=Away.mk hb3
   have hz3:w.heap.size≤w3.heap.size:=Nat.le_trans Hbe.out.size hb3.size
   have Hw:Away (Calls Tryz.prog 53 #[.pointer (some ⟨w.heap.size,0,none⟩),.string Y] w3 fun e w'=>e=.returned (.tuple #[.int .i64 Y.size,.nilIface])∧(Lib.BuilderAt 99 5 w.heap.size w.heap.size (.pointer (some ⟨w.heap.size,0,none⟩)) (Lib.byteCells (cat ByteArray.empty X (r+1)).data.toList) w'∧Below w.heap.size w3 w')):=⟨by
    have hh:=shelfr.writeString w.heap.size w.heap.size (Lib.byteCells (cat ByteArray.empty X r).data.toList) Y w3 (shelfr.builder_later Hbd.out hb3) (by
     rw[Lib.byteCells_length]
     have:=HXs.out
     have:=Hlen.out
     omega) hz3
    rw[show Lib.strCells Y=Lib.byteCells Y.data.toList from rfl,←Lib.byteCells_append,←Hnext.out]at hh
    exact hh⟩
   clear hC hb3 q5
   go_wp2_with fail
   refine Hw.out.mono ?_
   rintro e w4 ⟨rfl,hat,hb4⟩
   have Hat:=Away.mk hat
   have D4:Away (Below w.heap.size w w4):=⟨(Hbe.out.trans (Hb3.out.mono Hbe.out.size)).trans hb4⟩
   clear hat hb4
   go_wp2_with fail
   go_roundw
   case rel=>exact⟨r+1,by have:=Hlt.out;omega,by go_num,⟨Or.inr Hat.out⟩,D4⟩
   case measure=>have:=Hlt.out;simp[intOf];omega
  ·obtain rfl:r=n:=by omega
   have Hst:Away (Calls Tryz.prog 55 #[.pointer (some ⟨w.heap.size,0,none⟩)] wr fun e w'=>e=.returned (.string (cat ByteArray.empty X r))∧Below w.heap.size wr w'):=⟨by
    have hh:=shelfr.toText w.heap.size w.heap.size (cat ByteArray.empty X r).data.toList wr Hbd.out Hbe.out.size
    rw[mk_list]at hh
    exact hh⟩
   rw[HRz.out]at Hst
   clear hlt
   go_wp2_with fail
   refine Hst.out.mono ?_
   rintro e w3 ⟨rfl,hb3⟩
   have D3:Away (Below w.heap.size w w3):=⟨Hbe.out.trans hb3⟩
   clear hb3
   go_wp2_with fail
   go_ret
   exact⟨rfl,D3.out⟩
end Go.Proofs.YtgahcabgmfbhdaaGreatDoor.mgb
namespace Go.Proofs.YtgahcabgmfbhdaaGreatDoor
namespace rsuni
open Go Go.RowKit
open arr mem stil polys polt rbitc samm
theorem uniform_any {T:Array Value} (b s:ByteArray) (w:World) (hT:(Tryz.prog.info? 34).map (·.size)=some T.size) (hs:s.size=1008)
 (HS:∀ w1:World,Calls Tryz.prog 31 #[.agg T,.int .i64 1,.string b,.int .i64 1008] w1 fun e w'=>e=.returned (.tuple #[.string s,.int .i64 0])∧Below w1.heap.size w1 w'):
 Calls Tryz.prog 69 #[.agg T,.string b] w fun e w'=>e=.returned (.agg (FL .i64 256 (uni (bys s))))∧Below w.heap.size w w':=by
 obtain⟨hz,hsize⟩:=zero_of_info polt.infoP
 obtain⟨z,HZ⟩:=ex_eq (FL .i64 256 fun _=>0)
 rw[HZ.out]at hz
 have Hzs:Away (z.size=256):=⟨by rw[←HZ.out];exact fl_size _ _ _⟩
 obtain⟨R,HR⟩:=ex_eq (FL .i64 256 (uni (bys s)))
 have Ri:Away ((Tryz.prog.info? 109).map (·.size)=some R.size):=⟨by rw[←HR.out,fl_size];exact hsize⟩
 have Ro:Away (R.all (·.oneCell')=true):=⟨by rw[←HR.out];exact fl_one _ _ _⟩
 have Rz:Away (z.size=R.size):=⟨by rw[Hzs.out,←HR.out,fl_size]⟩
 have HRd:Away (FL .i64 256 (lf (ua (bys s) 336))=R):=HR
 have HTz:=Away.mk hT
 rw[HR.out]
 have Hix:Away (∀ j:Nat,j<1008→∀ w1:World,(Instr.index 9 (.string s) (.int .i64 (j:Int))).run Tryz.prog w1=.ok (.int .u8 ((by' (bys s) j:Nat):Int)) w1):=⟨fun j hj w1=>byte_of s j _ (by omega) rfl w1⟩
 obtain⟨W,hW⟩:∃ x,(w.alloc (.cells T 34)).alloc (.cells z 109)=x:=⟨_,rfl⟩
 obtain⟨r0,r1,hWs,b0⟩:=two hW
 have T0:Away (W.heap[w.heap.size]? = some (.cells T 34 (0,0))):=⟨r0⟩
 have R0:Away (W.heap[w.heap.size+1]? = some (.cells z 109 (0,0))):=⟨r1⟩
 have BW:=Away.mk b0
 have HWs:=Away.mk hWs
 have HW:=Away.mk hW
 have HSh:=Away.mk HS
 clear hW r0 r1 b0 hWs hsize HS hT HR
 go_enter Tryz.func69,Tryz.ntmps69
 go_wp2_with (first
  | (rw[HW.out])
  | (refine wpList_load_row rfl 34 _ rfl w.heap.size rfl 34 T (0,0) _ T0.out Tryz.underlying34 rfl HTz.out ?_))
 refine(HSh.out _).mono ?_
 rintro e u1 ⟨rfl,hb1⟩
 obtain⟨W1,hW1⟩:∃ x,u1.alloc (.cells z 109)=x:=⟨_,rfl⟩
 obtain⟨r1,hs1,b1⟩:=one hW1
 have A0:Away (At u1.heap.size (FL .i64 256 (lf (ua (bys s) 0))) 109 W1 W1):=⟨by rw[ua,lf_nil,HZ.out];exact At.refl r1⟩
 have R1:Away (W1.heap[w.heap.size+1]? = some (.cells z 109 (0,0))):=⟨((hb1.trans (b1.mono hb1.size)).block _ (by rw[HWs.out];omega)).trans R0.out⟩
 have B1:Away (Below w.heap.size w W1):=⟨BW.out.trans ((hb1.trans (b1.mono hb1.size)).mono (by rw[HWs.out];omega))⟩
 have Hlt:Away (w.heap.size+1<u1.heap.size):=⟨by have:=hb1.size;rw[HWs.out]at this;omega⟩
 have HW1:=Away.mk hW1
 clear hb1 r1 b1 hs1 hW1 T0 R0 BW
 go_wp2_with (rw[HW1.out])
 clear hz
 go_loopw [8,9] (fun c v wr=>∃ j:Nat,j≤336∧v=.int .i64 ((3*j:Nat):Int)∧c=.int .i64 (((ua (bys s) j).length:Nat):Int)∧Away (At u1.heap.size (FL .i64 256 (lf (ua (bys s) j))) 109 W1 wr)) (fun _ v _=>1008-(intOf v).toNat)
 case atStart=>exact⟨0,by omega,rfl,rfl,A0⟩
 case round=>
  clear A0
  obtain⟨j,hj,rfl,rfl,A0⟩:=hrel
  have BE:Away (Below w.heap.size w wr):=⟨B1.out.trans (A0.out.below B1.out.size (by have:=Hlt.out;omega))⟩
  obtain⟨n,hn⟩:∃ n,(ua (bys s) j).length=n:=⟨_,rfl⟩
  have hn256:=(ua_le (bys s) j).1
  rw[hn]at hn256 ⊢
  by_cases hgo:j<336∧n<256
  ·obtain⟨hj336,hn2⟩:=hgo
   obtain⟨i,hi⟩:∃ i,3*j=i:=⟨_,rfl⟩
   have hi1:=Hix.out i (by omega)
   obtain⟨i1,hi1v⟩:∃ i1,i+1=i1:=⟨_,rfl⟩
   obtain⟨i2,hi2v⟩:∃ i2,i+2=i2:=⟨_,rfl⟩
   have hi2:=Hix.out i1 (by omega)
   have hi3:=Hix.out i2 (by omega)
   obtain⟨β0,hβ0⟩:∃ β,by' (bys s) i = β := ⟨_,rfl⟩
   obtain⟨β1,hβ1⟩:∃ β,by' (bys s) i1 = β := ⟨_,rfl⟩
   obtain⟨β2,hβ2⟩:∃ β,by' (bys s) i2 = β := ⟨_,rfl⟩
   have l0 : β0<256:=by rw[←hβ0];exact by_lt s _
   have l1 : β1<256:=by rw[←hβ1];exact by_lt s _
   have l2 : β2<256:=by rw[←hβ2];exact by_lt s _
   obtain⟨γ,hγ⟩:∃ γ,β2%128 = γ := ⟨_,rfl⟩
   obtain⟨p,hp⟩:∃ p,β1*256=p:=⟨_,rfl⟩
   obtain⟨q,hq⟩:∃ q,γ * 65536=q:=⟨_,rfl⟩
   obtain⟨y,hy⟩:∃ y,β0+256 * β1=y:=⟨_,rfl⟩
   obtain⟨x,hx⟩:∃ x,β0+256 * β1+65536 * γ = x:=⟨_,rfl⟩
   have htri:tri (bys s) i=x:=by unfold tri;rw[hi1v,hi2v,hβ0,hβ1,hβ2,hγ,hx]
   obtain⟨v1,v2⟩:=or_tri β0 β1 γ l0 l1 (by omega)
   rw[hp,hy]at v1
   rw[hy,hq,show y+65536 * γ = x by omega]at v2
   have va:=and_127 β2 l2
   rw[hγ]at va
   rw[hβ0]at hi1
   rw[hβ1]at hi2
   rw[hβ2]at hi3
   have hi3z:(i:Int)+2<1008:=by omega
   have hi3y:(i2:Int)<1008:=by omega
   have fi1:IntKind.i64.wrap ((i:Int)+1)=(i1:Int):=by rw[IntKind.wrap_i64];omega
   have fi2:IntKind.i64.wrap ((i:Int)+2)=(i2:Int):=by rw[IntKind.wrap_i64];omega
   have fp:(β1:Int)*256=(p:Int):=by omega
   have fpw:IntKind.i64.wrap ((β1:Int)*256)=(p:Int):=by rw[fp,IntKind.wrap_i64];omega
   have fq:(γ : Int)*65536=(q:Int):=by omega
   have fqw:IntKind.i64.wrap ((γ : Int)*65536)=(q:Int):=by rw[fq,IntKind.wrap_i64];omega
   have w0:IntKind.i64.wrap (β0:Int)=(β0:Int):=by rw[IntKind.wrap_i64];omega
   have w1:IntKind.i64.wrap (β1:Int)=(β1:Int):=by rw[IntKind.wrap_i64];omega
   have w2:IntKind.i64.wrap (γ : Int)=(γ : Int):=by rw[IntKind.wrap_i64];omega
   have wp:IntKind.i64.wrap (p:Int)=(p:Int):=by rw[IntKind.wrap_i64];omega
   have wq:IntKind.i64.wrap (q:Int)=(q:Int):=by rw[IntKind.wrap_i64];omega
   have fi3:IntKind.i64.wrap ((i:Int)+3)=(i:Int)+3:=by rw[IntKind.wrap_i64];omega
   have hi1008:i<1008:=by omega
   have hszi:(s.size:Int)=1008:=by omega
   have hn2z:(n:Int)<256:=by omega
   rw[hi]
   have Hi:=Away.mk hi
   have A1:Away (At u1.heap.size (FL .i64 256 (lf (ua (bys s) j))) 109 W1 wr.drew):=⟨at_drew A0.out⟩
   have Hn:=Away.mk hn
   have Htri:=Away.mk htri
   clear hβ0 hβ1 hβ2 hγ hp hq hx hy hi hn htri hi1v hi2v
   go_wp2_with fail
   refine still_all (by kernel_rfl) (by kernel_rfl) ?_
   repeat still_step
   refine wpStill_nil ?_
   clear hi1 hi2 hi3 v1 v2 va fi1 fi2 fp fpw fq fqw w0 w1 w2 wp wq hi3z hi3y A0
   by_cases hx:x<8380417
   ·have hxz:(x:Int)<8380417:=by omega
    have Hua:Away (ua (bys s) (j+1)=ua (bys s) j ++ [x]):=⟨by rw[ua,Hi.out,Htri.out,if_pos ⟨by rw[Hn.out];exact hn2,hx⟩]⟩
    have Hset:Away ((FL .i64 256 (lf (ua (bys s) j))).setIfInBounds n (.int .i64 (x:Int))=FL .i64 256 (lf (ua (bys s) (j+1)))):=⟨by rw[fl_set,Hua.out,←lf_snoc,Hn.out]⟩
    clear hx
    go_wp2_with ((with_reducible refine wpList_put2 A1 rfl _ _ _ rfl rfl ?_);refine⟨_,_,_,rfl,rfl,rfl,(by rw[fl_size];exact hn2),?_⟩;intro wn HRn;rw[Hset.out]at HRn)
    go_roundw
    case rel=>exact⟨j+1,by omega,by rw[show ((3*(j+1):Nat):Int)=(i:Int)+3 by have:=Hi.out;omega],by rw[show (ua (bys s) (j+1)).length=n+1 by rw[Hua.out,List.length_append,Hn.out];rfl];go_num,HRn⟩
    case measure=>have:=Hi.out;simp[intOf];omega
   ·have hxz:¬ (x:Int)<8380417:=by omega
    have Hua:Away (ua (bys s) (j+1)=ua (bys s) j):=⟨by rw[ua,Hi.out,Htri.out,if_neg (fun h=>hx h.2)]⟩
    clear hx
    go_wp2_with fail
    go_roundw
    case rel=>exact⟨j+1,by omega,by rw[show ((3*(j+1):Nat):Int)=(i:Int)+3 by have:=Hi.out;omega],by rw[Hua.out,Hn.out],by rw[Hua.out];exact A1⟩
    case measure=>have:=Hi.out;simp[intOf];omega
  ·have hend:Away (ua (bys s) j=ua (bys s) 336):=⟨by
    by_cases h:j=336
    ·rw[h]
    ·exact(ua_full (bys s) j 336 (by omega) hj).symm⟩
   rw[hend.out,HRd.out]at A0
   have Hrow:=Away.mk A0.out.row
   have Hres:Away (wr.heap[w.heap.size+1]? = some (.cells z 109 (0,0))):=⟨A0.out.other (lt_of_row R1.out) (by have:=Hlt.out;omega) R1.out⟩
   have hszi:(s.size:Int)=1008:=by omega
   clear A0 hn
   by_cases h:j<336
   ·have hn256z:¬ (n:Int)<256:=by omega
    have hjz:((3*j:Nat):Int)+2<1008:=by omega
    obtain⟨i,hi⟩:∃ i,3*j=i:=⟨_,rfl⟩
    rw[hi]at hjz ⊢
    have fi2:IntKind.i64.wrap ((i:Int)+2)=(i:Int)+2:=by rw[IntKind.wrap_i64];omega
    clear hi hgo hend
    go_wp2_with (first
     | (refine wpList_load_row rfl 109 _ rfl u1.heap.size rfl 109 R (0,0) _ Hrow.out Tryz.underlying109 rfl Ri.out ?_)
     | (refine wpList_store_row rfl 109 _ _ rfl (w.heap.size+1) R rfl rfl 109 _ Hres.out Ri.out Rz.out Ro.out ?_))
    refine bodyPost_ret_by (v:=.agg R) (results_cell_row rfl _ _ (w.heap.size+1) 109 _ (0,0) _ rfl (setRow_heap _ _ _ _ _ _ Hres.out) Tryz.underlying109 rfl Ri.out) rfl ?_
    exact⟨rfl,BE.out.trans (below_setRow _ _ _ (Nat.le_succ _))⟩
   ·obtain rfl:j=336:=by omega
    have e1:((3*336:Nat):Int)=1008:=rfl
    rw[e1]
    clear hgo hend e1
    go_wp2_with (first
     | (refine wpList_load_row rfl 109 _ rfl u1.heap.size rfl 109 R (0,0) _ Hrow.out Tryz.underlying109 rfl Ri.out ?_)
     | (refine wpList_store_row rfl 109 _ _ rfl (w.heap.size+1) R rfl rfl 109 _ Hres.out Ri.out Rz.out Ro.out ?_))
    refine bodyPost_ret_by (v:=.agg R) (results_cell_row rfl _ _ (w.heap.size+1) 109 _ (0,0) _ rfl (setRow_heap _ _ _ _ _ _ Hres.out) Tryz.underlying109 rfl Ri.out) rfl ?_
    exact⟨rfl,BE.out.trans (below_setRow _ _ _ (Nat.le_succ _))⟩
end rsuni
end Go.Proofs.YtgahcabgmfbhdaaGreatDoor
namespace Go.Proofs.YtgahcabgmfbhdaaGreatDoor
namespace rsball
open Go Go.RowKit
open arr mem stil polys polt rbitc samm rsuni
end rsball
end Go.Proofs.YtgahcabgmfbhdaaGreatDoor
namespace Go.Proofs.YtgahcabgmfbhdaaGreatDoor
namespace qbal
open Go Go.RowKit
open arr mem stil polys polt rbitc samm rsuni
theorem sign_any (s:ByteArray) (t:Nat) (ht:t / 8<s.size) (hs:s.size≤544) (w:World):Calls Tryz.prog 177 #[.string s,.int .i64 (t:Int)] w fun e w'=>e=.returned (.int .i64 (sgn (bys s) t))∧w'=w:=by
 obtain⟨d,hd⟩:∃ d,t / 8=d:=⟨_,rfl⟩
 obtain⟨r,hr⟩:∃ r,t%8=r:=⟨_,rfl⟩
 have ht2:t<4352:=by omega
 have hid:∀ w1:World,(Instr.index 9 (.string s) (.int .i64 (d:Int))).run Tryz.prog w1=.ok (.int .u8 ((by' (bys s) d:Nat):Int)) w1:=fun w1=>byte_of s d _ (by omega) rfl w1
 obtain⟨γ,hγ⟩:∃ γ,by' (bys s) d = γ := ⟨_,rfl⟩
 have hγ8 : γ < 256:=by rw[←hγ];exact by_lt s _
 rw[hγ]at hid
 obtain⟨y,hy⟩:∃ y,γ / 2 ^ r=y:=⟨_,rfl⟩
 have hy8:y<256:=by rw[←hy];exact Nat.lt_of_le_of_lt (Nat.div_le_self _ _) hγ8
 have fy:(γ : Int) / 2 ^ r=(y:Int):=by rw[←hy];simp
 have fand:=and_u8 y hy8
 obtain⟨bb,hbb⟩:∃ bb,y%2=bb:=⟨_,rfl⟩
 rw[hbb]at fand
 have fd:(t:Int).tdiv 8=(d:Int):=by rw[Int.tdiv_eq_ediv_of_nonneg (by omega)];omega
 have fd2:(t:Int) / 8=(d:Int):=by omega
 have fdw:IntKind.i64.wrap ((t:Int).tdiv 8)=(d:Int):=by rw[fd,IntKind.wrap_i64];omega
 have fr:(t:Int).tmod 8=(r:Int):=by rw[Int.tmod_eq_emod_of_nonneg (by omega)];omega
 have fr2:(t:Int)%8=(r:Int):=by omega
 have fru:IntKind.u64.wrap (r:Int)=(r:Int):=by rw[IntKind.wrap_u64];omega
 have hr7:r≤7:=by omega
 have hsg:sgn (bys s) t=if bb=1 then 8380416 else 1:=by unfold sgn;rw[hd,hr,hγ,hy,hbb]
 have hds:(d:Int)<(s.size:Int):=by omega
 rw[hsg]
 clear hsg hd hr hγ hy
 by_cases hb1:bb=1
 ·subst hb1
  clear hbb
  go_enter Tryz.func177,Tryz.ntmps177
  go_wp2_with fail
  go_ret
  exact⟨rfl,rfl⟩
 ·obtain rfl:bb=0:=by omega
  clear hbb hb1
  go_enter Tryz.func177,Tryz.ntmps177
  go_wp2_with fail
  go_ret
  exact⟨rfl,rfl⟩
theorem ball_any (s:ByteArray) (tau:Nat) (w:World) (ht1 : 1≤tau) (ht2:tau≤64) (hs:s.size=544):
 Calls Tryz.prog 161 #[.string s,.int .i64 (tau:Int)] w fun x w'=>x=.returned (.agg (FL .i64 256 (bl (bys s) tau tau).1))∧Below w.heap.size w w':=by
 obtain⟨hz,hsize⟩:=zero_of_info polt.infoP
 obtain⟨z,HZ⟩:=ex_eq (FL .i64 256 fun _=>0)
 rw[HZ.out]at hz
 have Hzs:Away (z.size=256):=⟨by rw[←HZ.out];exact fl_size _ _ _⟩
 obtain⟨R,HR⟩:=ex_eq (FL .i64 256 (bl (bys s) tau tau).1)
 have Ri:Away ((Tryz.prog.info? 109).map (·.size)=some R.size):=⟨by rw[←HR.out,fl_size];exact hsize⟩
 have Ro:Away (R.all (·.oneCell')=true):=⟨by rw[←HR.out];exact fl_one _ _ _⟩
 have Rz:Away (z.size=R.size):=⟨by rw[Hzs.out,←HR.out,fl_size]⟩
 have HRd:Away (FL .i64 256 (bl (bys s) tau tau).1=R):=HR
 rw[HR.out]
 have Hix:Away (∀ j:Nat,j<544→∀ w1:World,(Instr.index 9 (.string s) (.int .i64 (j:Int))).run Tryz.prog w1=.ok (.int .u8 ((by' (bys s) j:Nat):Int)) w1):=⟨fun j hj w1=>byte_of s j _ (by omega) rfl w1⟩
 have Hsign:Away (∀ t:Nat,t<64→∀ w1:World,Calls Tryz.prog 177 #[.string s,.int .i64 (t:Int)] w1 fun e w'=>e=.returned (.int .i64 (sgn (bys s) t))∧w'=w1):=⟨fun t ht w1=>sign_any s t (by omega) (by omega) w1⟩
 obtain⟨W1,hW⟩:∃ x,(w.alloc (.cells z 109)).alloc (.cells z 109)=x:=⟨_,rfl⟩
 obtain⟨r0,r1,hWs,b0⟩:=two hW
 have R1:Away (W1.heap[w.heap.size]? = some (.cells z 109 (0,0))):=⟨r0⟩
 have A0:Away (At (w.heap.size+1) (FL .i64 256 (bl (bys s) tau 0).1) 109 W1 W1):=⟨by rw[bl,HZ.out];exact At.refl r1⟩
 have B1:=Away.mk b0
 have HW:=Away.mk hW
 have hszi:(s.size:Int)=544:=by omega
 obtain⟨i0,hi0⟩:∃ i0,256-tau=i0:=⟨_,rfl⟩
 have fi0:IntKind.i64.wrap (256-(tau:Int))=(i0:Int):=by rw[IntKind.wrap_i64];omega
 have fi0' : 256-(tau:Int)=(i0:Int):=by omega
 have Hi0:=Away.mk hi0
 clear hW r0 r1 b0 hWs hsize HR hi0 hs
 go_enter Tryz.func161,Tryz.ntmps161
 go_wp2_with (rw[HW.out])
 clear hz fi0'
 go_loopw [7,8] (fun c v wr=>∃ t a f:Nat,t≤tau∧a≤544∧544≤a+f∧nx (bys s) (i0+t) f a=nx (bys s) (i0+t) 544 (bl (bys s) tau t).2∧c=.int .i64 ((i0+t:Nat):Int)∧v=.int .i64 (a:Int)∧Away (At (w.heap.size+1) (FL .i64 256 (bl (bys s) tau t).1) 109 W1 wr)) (fun _ v _=>544-(intOf v).toNat)
 case atStart=>exact⟨0,8,544,Nat.zero_le _,by decide,by decide,by rw[bl],rfl,rfl,A0⟩
 case round=>
  clear A0
  obtain⟨t,a,f,ht,ha,hf,hnx,rfl,rfl,A0⟩:=hrel
  have BE:Away (Below w.heap.size w wr):=⟨B1.out.trans (A0.out.below B1.out.size (by omega))⟩
  obtain⟨o,hoo⟩:∃ o,(bl (bys s) tau t).1=o:=⟨_,rfl⟩
  obtain⟨a0,ha0⟩:∃ a0,(bl (bys s) tau t).2=a0:=⟨_,rfl⟩
  rw[ha0]at hnx
  obtain⟨i,hi⟩:∃ i,i0+t=i:=⟨_,rfl⟩
  rw[hi]at hnx ⊢
  have Hi:Away (256-tau+t=i):=⟨by rw[Hi0.out];exact hi⟩
  have Hi':=Away.mk hi
  by_cases hgo:a<544∧t<tau
  ·obtain⟨hlt,htt⟩:=hgo
   rw[hoo]at A0
   have Ho:=Away.mk hoo
   have Ha0:=Away.mk ha0
   have hi256:i<256:=by have:=Hi0.out;omega
   have hiz:(i:Int)<256:=by omega
   have haz:(a:Int)<544:=by omega
   have hix:=Hix.out a hlt
   obtain⟨β,hβ⟩:∃ β,by' (bys s) a = β := ⟨_,rfl⟩
   have hβ8 : β < 256:=by rw[←hβ];exact by_lt s _
   rw[hβ]at hix
   have wβ : IntKind.i64.wrap (β : Int)=(β : Int):=by rw[IntKind.wrap_i64];omega
   clear hi hoo ha0
   by_cases hbig:i < β
   ·have hbz:(i:Int)<(β : Int):=by omega
    obtain⟨f,rfl⟩:∃ f',f=f'+1:=⟨f-1,by omega⟩
    rw[nx,if_pos ⟨hlt,by rw[hβ];exact hbig⟩]at hnx
    have Hnx:=Away.mk hnx
    have A1:Away (At (w.heap.size+1) (FL .i64 256 (bl (bys s) tau t).1) 109 W1 wr):=⟨by rw[Ho.out];exact A0.out⟩
    clear hβ hbig hnx A0
    go_wp2_with fail
    go_roundw
    case rel=>exact⟨t,a+1,f,by omega,by omega,by omega,by rw[Hi'.out,Ha0.out];exact Hnx.out,by rw[Hi'.out],by go_num,A1⟩
    case measure=>simp[intOf];omega
   ·have hbz:¬ (i:Int)<(β : Int):=by omega
    rw[nx_stop (bys s) i f a (by rw[hβ];omega)]at hnx
    obtain⟨v,hv⟩:∃ v,o β = v:=⟨_,rfl⟩
    have co:wr.cell? ⟨w.heap.size+1,β,none⟩=some (.int .i64 v):=by rw[←hv];exact fl_at A0.out.row β hβ8
    have fit:(i:Int)-(i0:Int)=(t:Int):=by have:=Hi'.out;omega
    have fitw:IntKind.i64.wrap ((i:Int)-(i0:Int))=(t:Int):=by rw[fit,IntKind.wrap_i64];omega
    obtain⟨g,hg⟩:∃ g,sgn (bys s) t=g:=⟨_,rfl⟩
    have Hsg:=Away.mk (Hsign.out t (by omega))
    rw[hg]at Hsg
    have Hbl:Away (bl (bys s) tau (t+1)=(upd (upd o i v) β g,a+1)):=⟨by
     rw[bl,Hi.out,Ha0.out,←hnx,Ho.out]
     show (if a=544 then _ else _)=_
     rw[if_neg (by omega),hβ,hv,hg]⟩
    have Hs1:Away (upd (upd o i v) β g=(bl (bys s) tau (t+1)).1):=⟨by rw[Hbl.out]⟩
    have Ha1:Away ((bl (bys s) tau (t+1)).2=a+1):=⟨by rw[Hbl.out]⟩
    clear hβ hv hg hnx hbig fit
    go_wp2_with ((with_reducible refine wpList_put2 (by assumption) rfl _ _ _ rfl rfl ?_);refine⟨_,_,_,rfl,rfl,rfl,(by rw[fl_size];omega),?_⟩;intro wn HRn;rw[fl_set]at HRn)
    refine(Hsg.out _).mono ?_
    rintro x wn ⟨rfl,rfl⟩
    go_wp2_with ((with_reducible refine wpList_put2 (by assumption) rfl _ _ _ rfl rfl ?_);refine⟨_,_,_,rfl,rfl,rfl,(by rw[fl_size];omega),?_⟩;intro wn HRm;rw[fl_set]at HRm)
    rw[Hs1.out]at HRm
    go_roundw
    case rel=>exact⟨t+1,a+1,544,by omega,by omega,by omega,by rw[Ha1.out],by rw[show ((i0+(t+1):Nat):Int)=(i:Int)+1 by have:=Hi'.out;omega],by go_num,HRm⟩
    case measure=>simp[intOf];omega
  ·have e1:FL .i64 256 (bl (bys s) tau t).1=R:=by
    rw[←HRd.out]
    by_cases htt:t=tau
    ·rw[htt]
    ·have ha5:a=544:=by omega
     subst ha5
     rw[nx_stop (bys s) i f 544 (by omega)]at hnx
     have hbl:bl (bys s) tau (t+1)=(o,544):=by
      rw[bl,Hi.out,ha0,←hnx,hoo]
      exact if_pos rfl
     rw[bl_end (bys s) tau (t+1) tau (by rw[hbl]) (by omega),hbl,hoo]
   rw[e1]at A0
   have Hrow:=Away.mk A0.out.row
   have Hres:Away (wr.heap[w.heap.size]? = some (.cells z 109 (0,0))):=⟨A0.out.other (lt_of_row R1.out) (by omega) R1.out⟩
   have hi6:i≤256:=by have:=Hi0.out;omega
   by_cases hlt:a<544
   ·have haz:(a:Int)<544:=by omega
    obtain rfl:t=tau:=by omega
    have hii:i=256:=by have:=Hi0.out;omega
    subst hii
    clear hgo A0 hoo ha0 hnx hi e1
    simp only[Int.cast_ofNat_Int]
    go_wp2_with (first
     | (refine wpList_load_row rfl 109 _ rfl (w.heap.size+1) rfl 109 R (0,0) _ Hrow.out Tryz.underlying109 rfl Ri.out ?_)
     | (refine wpList_store_row rfl 109 _ _ rfl w.heap.size R rfl rfl 109 _ Hres.out Ri.out Rz.out Ro.out ?_))
    refine bodyPost_ret_by (v:=.agg R) (results_cell_row rfl _ _ w.heap.size 109 _ (0,0) _ rfl (setRow_heap _ _ _ _ _ _ Hres.out) Tryz.underlying109 rfl Ri.out) rfl ?_
    exact⟨rfl,BE.out.trans (below_setRow _ _ _ (Nat.le_refl _))⟩
   ·obtain rfl:a=544:=by omega
    clear hgo A0 hoo ha0 hnx hi e1
    simp only[Int.cast_ofNat_Int]
    go_wp2_with (first
     | (refine wpList_load_row rfl 109 _ rfl (w.heap.size+1) rfl 109 R (0,0) _ Hrow.out Tryz.underlying109 rfl Ri.out ?_)
     | (refine wpList_store_row rfl 109 _ _ rfl w.heap.size R rfl rfl 109 _ Hres.out Ri.out Rz.out Ro.out ?_))
    refine bodyPost_ret_by (v:=.agg R) (results_cell_row rfl _ _ w.heap.size 109 _ (0,0) _ rfl (setRow_heap _ _ _ _ _ _ Hres.out) Tryz.underlying109 rfl Ri.out) rfl ?_
    exact⟨rfl,BE.out.trans (below_setRow _ _ _ (Nat.le_refl _))⟩
theorem Ball_bad {T:Array Value} (b:ByteArray) (tau:Int) (w:World) (h:¬ (1≤tau∧tau≤64)):
 Calls Tryz.prog 116 #[.agg T,.string b,.int .i64 tau] w fun x w'=>x=.returned (.agg (FL .i64 256 fun _=>0))∧Below w.heap.size w w':=by
 obtain⟨hz,hsize⟩:=zero_of_info polt.infoP
 obtain⟨z,HZ⟩:=ex_eq (FL .i64 256 fun _=>0)
 rw[HZ.out]at hz ⊢
 have Hzs:z.size=256:=by rw[←HZ.out];exact fl_size _ _ _
 have Zi:Away ((Tryz.prog.info? 109).map (·.size)=some z.size):=⟨by rw[Hzs];exact hsize⟩
 have Zo:Away (z.all (·.oneCell')=true):=⟨by rw[←HZ.out];exact fl_one _ _ _⟩
 obtain⟨W,hW⟩:∃ x,(w.alloc (.cells T 34)).alloc (.cells z 109)=x:=⟨_,rfl⟩
 obtain⟨r0,r1,hWs,b0⟩:=two hW
 have R0:Away (W.heap[w.heap.size+1]? = some (.cells z 109 (0,0))):=⟨r1⟩
 have BW:=Away.mk b0
 have HW:=Away.mk hW
 clear hW r0 r1 b0 hWs hsize HZ Hzs
 have h:tau<1∨(¬ tau<1∧64<tau):=by omega
 rcases h with h1 | ⟨h1,h2⟩
 all_goals
  go_enter Tryz.func116,Tryz.ntmps116
  go_wp2_with (first
   | (rw[HW.out])
   | (refine wpList_store_row rfl 109 _ _ rfl (w.heap.size+1) z rfl rfl 109 _ R0.out Zi.out rfl Zo.out ?_))
  refine bodyPost_ret_by (v:=.agg z) (results_cell_row rfl _ _ (w.heap.size+1) 109 _ (0,0) _ rfl (setRow_heap _ _ _ _ _ _ R0.out) Tryz.underlying109 rfl Zi.out) rfl ?_
  exact⟨rfl,BW.out.trans (below_setRow _ _ _ (Nat.le_succ _))⟩
theorem Ball_good {T:Array Value} (b s:ByteArray) (tau:Nat) (w:World) (hT:(Tryz.prog.info? 34).map (·.size)=some T.size) (ht1 : 1≤tau) (ht2:tau≤64) (hs:s.size=544)
 (HS:∀ w1:World,Below w.heap.size w w1→Calls Tryz.prog 90 #[.agg T,.int .i64 2,.string b,.int .i64 544] w1 fun e w'=>e=.returned (.tuple #[.string s,.int .i64 0])∧Below w1.heap.size w1 w'):
 Calls Tryz.prog 116 #[.agg T,.string b,.int .i64 (tau:Int)] w fun x w'=>x=.returned (.agg (FL .i64 256 (bl (bys s) tau tau).1))∧Below w.heap.size w w':=by
 obtain⟨hz,hsize⟩:=zero_of_info polt.infoP
 obtain⟨z,HZ⟩:=ex_eq (FL .i64 256 fun _=>0)
 rw[HZ.out]at hz
 have Hzs:Away (z.size=256):=⟨by rw[←HZ.out];exact fl_size _ _ _⟩
 have HU:Away (∀ w1:World,Calls Tryz.prog 161 #[.string s,.int .i64 (tau:Int)] w1 fun e w'=>e=.returned (.agg (FL .i64 256 (bl (bys s) tau tau).1))∧Below w1.heap.size w1 w'):=⟨fun w1=>ball_any s tau w1 ht1 ht2 hs⟩
 obtain⟨R,HR⟩:=ex_eq (FL .i64 256 (bl (bys s) tau tau).1)
 have Ri:Away ((Tryz.prog.info? 109).map (·.size)=some R.size):=⟨by rw[←HR.out,fl_size];exact hsize⟩
 have Ro:Away (R.all (·.oneCell')=true):=⟨by rw[←HR.out];exact fl_one _ _ _⟩
 have Rz:Away (z.size=R.size):=⟨by rw[Hzs.out,←HR.out,fl_size]⟩
 have HTz:=Away.mk hT
 rw[HR.out]at HU ⊢
 obtain⟨W,hW⟩:∃ x,(w.alloc (.cells T 34)).alloc (.cells z 109)=x:=⟨_,rfl⟩
 obtain⟨r0,r1,hWs,b0⟩:=two hW
 have T0:Away (W.heap[w.heap.size]? = some (.cells T 34 (0,0))):=⟨r0⟩
 have R0:Away (W.heap[w.heap.size+1]? = some (.cells z 109 (0,0))):=⟨r1⟩
 have BW:=Away.mk b0
 have HWs:=Away.mk hWs
 have HW:=Away.mk hW
 have HSh:=Away.mk (HS W b0)
 have g1:¬ (tau:Int)<1:=by omega
 have g2:¬ (64:Int)<(tau:Int):=by omega
 clear hW r0 r1 b0 hWs hsize HS hT HR hs
 go_enter Tryz.func116,Tryz.ntmps116
 go_wp2_with (first
  | (rw[HW.out])
  | (refine wpList_load_row rfl 34 _ rfl w.heap.size rfl 34 T (0,0) _ T0.out Tryz.underlying34 rfl HTz.out ?_))
 refine HSh.out.mono ?_
 rintro e u1 ⟨rfl,hb1⟩
 have R1:Away (u1.heap[w.heap.size+1]? = some (.cells z 109 (0,0))):=⟨(hb1.block _ (by rw[HWs.out];omega)).trans R0.out⟩
 have B1:Away (Below w.heap.size w u1):=⟨BW.out.trans (hb1.mono (by rw[HWs.out];omega))⟩
 have Hlt:Away (w.heap.size+1<u1.heap.size):=⟨lt_of_row R1.out⟩
 clear hb1 hz
 go_wp2_with fail
 refine(HU.out _).mono ?_
 rintro e u2 ⟨rfl,hb2⟩
 have R2:Away (u2.heap[w.heap.size+1]? = some (.cells z 109 (0,0))):=⟨(hb2.block _ Hlt.out).trans R1.out⟩
 have B2:Away (Below w.heap.size w u2):=⟨B1.out.trans (hb2.mono B1.out.size)⟩
 clear hb2
 go_wp2_with (refine wpList_store_row rfl 109 _ _ rfl (w.heap.size+1) R rfl rfl 109 _ R2.out Ri.out Rz.out Ro.out ?_)
 refine bodyPost_ret_by (v:=.agg R) (results_cell_row rfl _ _ (w.heap.size+1) 109 _ (0,0) _ rfl (setRow_heap _ _ _ _ _ _ R2.out) Tryz.underlying109 rfl Ri.out) rfl ?_
 exact⟨rfl,B2.out.trans (below_setRow _ _ _ (Nat.le_succ _))⟩
end qbal
end Go.Proofs.YtgahcabgmfbhdaaGreatDoor
namespace Go.Proofs.YtgahcabgmfbhdaaGreatDoor
namespace qmsk
open Go Go.RowKit
open arr mem stil polys polt rbitb rbitc rndm pols saml qpair qrow
theorem masks_yes {T:Array Value} (ln fn m p:Nat) (k e t a b o s:Int) (sd:ByteArray) (sk:Nat→ByteArray) (q:Nat→Nat→Int) (w:World) (hT:(Tryz.prog.info? 34).map (·.size)=some T.size) (hl : 1≤ln∧ln≤8) (hf:fn≤65000) (hm:m≤64) (hp : 32*m=p) (ha : 1≤a∧a≤524288) (h:latt k (ln:Int) e t a b o s=true) (hsd:sd.size≤1125899906842624)
 (HL:∀ w1:World,Calls Tryz.prog 104 #[.int .i64 (2*a-1)] w1 fun x w'=>x=.returned (.int .i64 (m:Int))∧w'=w1)
 (HS:∀ r:Nat,r<8→∀ w1:World,Below w.heap.size w w1→Calls Tryz.prog 90 #[.agg T,.int .i64 2,.string (tw sd ((fn+r)%256) ((fn+r) / 256)),.int .i64 (p:Int)] w1 fun x w'=>x=.returned (.tuple #[.string (sk r),.int .i64 0])∧Below w1.heap.size w1 w')
 (HU:∀ r:Nat,r<8→∀ w1:World,Calls Tryz.prog 58 #[.string (sk r),.int .i64 (a-1),.int .i64 a] w1 fun x w'=>x=.returned (.tuple #[.agg (FL .i64 256 (q r)),.int .i64 0])∧Below w1.heap.size w1 w'):
 Calls Tryz.prog 114 #[.agg T,.agg #[.int .i64 k,.int .i64 (ln:Int),.int .i64 e,.int .i64 t,.int .i64 a,.int .i64 b,.int .i64 o,.int .i64 s],.string sd,.int .i64 (fn:Int)] w fun x w'=>(∃ v1,x=.returned v1∧Holds w' w.heap.size v1 ln q)∧Below w.heap.size w w':=by
 have HR:Away (∀ w1:World,Calls Tryz.prog 38 #[.agg #[.int .i64 k,.int .i64 (ln:Int),.int .i64 e,.int .i64 t,.int .i64 a,.int .i64 b,.int .i64 o,.int .i64 s]] w1 fun e0 w'=>e0=.returned (.bool true)∧Below w1.heap.size w1 w'):=⟨fun w1=>by rw[←h];exact rright.right_any _ _ e t a b o s w1⟩
 obtain⟨i0,hi,hz0,hz1,hz2⟩:=parts infoPoly
 obtain⟨hz,hsize⟩:=zero_of_info polt.infoP
 obtain⟨z,HZ⟩:=ex_eq (FL .i64 256 fun _=>0)
 rw[HZ.out]at hz hz0
 have HI:=Away.mk (And.intro hi (And.intro hz0 (And.intro hz1 hz2)))
 clear hi hz0 hz1 hz2 hsize
 obtain⟨C,HC⟩:=ex_eq (#[.int .i64 k,.int .i64 (ln:Int),.int .i64 e,.int .i64 t,.int .i64 a,.int .i64 b,.int .i64 o,.int .i64 s]:Array Value)
 rw[HC.out]at HR ⊢
 have HCs:Away ((Tryz.prog.info? 37).map (·.size)=some C.size):=⟨by rw[←HC.out];kernel_rfl⟩
 obtain⟨W,hW⟩:∃ x,(w.alloc (.cells T 34)).alloc (.cells C 37)=x:=⟨_,rfl⟩
 obtain⟨r0,r1,hWs,b0⟩:=two hW
 have T0:Away (W.heap[w.heap.size]? = some (.cells T 34 (0,0))):=⟨r0⟩
 have L0:Away (W.heap[w.heap.size+1]? = some (.cells C 37 (0,0))):=⟨r1⟩
 have BW:=Away.mk b0
 have HWs:=Away.mk hWs
 have HW:=Away.mk hW
 have HSm:=Away.mk HS
 have HUn:=Away.mk HU
 have HLo:=Away.mk HL
 have HTz:=Away.mk hT
 have Hl:=Away.mk hl
 have Hsd:=Away.mk hsd
 have Ha:=Away.mk ha
 have Hm:=Away.mk (And.intro hm hp)
 have g1:¬ (fn:Int)<0:=by omega
 have g2:¬ (65000:Int)<(fn:Int):=by omega
 have Hf:=Away.mk hf
 clear hW r0 r1 b0 h HS HU HL hT hl hsd hWs ha hm hp hf
 go_enter Tryz.func114,Tryz.ntmps114
 go_wp2_with (first
  | (rw[HW.out])
  | (refine wpList_load_row rfl 37 _ rfl (w.heap.size+1) rfl 37 _ (0,0) _ L0.out Tryz.underlying37 rfl HCs.out ?_))
 refine(HR.out _).mono ?_
 rintro x u1 ⟨rfl,hb1⟩
 have B1:Away (Below w.heap.size w u1):=⟨BW.out.trans (hb1.mono (by rw[HWs.out];omega))⟩
 have T1:Away (u1.heap[w.heap.size]? = some (.cells T 34 (0,0))):=⟨(hb1.block _ (by rw[HWs.out];omega)).trans T0.out⟩
 have L1:Away (u1.heap[w.heap.size+1]? = some (.cells C 37 (0,0))):=⟨(hb1.block _ (by rw[HWs.out];omega)).trans L0.out⟩
 have cL:∀ w1:World,Below u1.heap.size u1 w1→w1.cell? ⟨w.heap.size+1,1,none⟩=some (.int .i64 (ln:Int)):=fun w1 hb=>cell_at ((hb.block _ (lt_of_row L1.out)).trans L1.out) (by rw[←HC.out];rfl)
 have cA:∀ w1:World,Below u1.heap.size u1 w1→w1.cell? ⟨w.heap.size+1,4,none⟩=some (.int .i64 a):=fun w1 hb=>cell_at ((hb.block _ (lt_of_row L1.out)).trans L1.out) (by rw[←HC.out];rfl)
 have HcA:=Away.mk cA
 have cA1:=cA u1 (Below.refl _ _)
 have cL1:=cL u1 (Below.refl _ _)
 have fa2:IntKind.i64.wrap (2*a)=2*a:=by rw[IntKind.wrap_i64];have:=Ha.out;omega
 have fa21:IntKind.i64.wrap (2*a-1)=2*a-1:=by rw[IntKind.wrap_i64];have:=Ha.out;omega
 have fm6:IntKind.i64.wrap (256*(m:Int))=256*(m:Int):=by rw[IntKind.wrap_i64];have:=Hm.out;omega
 have fm8:(256*(m:Int)).tdiv 8=(p:Int):=by rw[Int.tdiv_eq_ediv_of_nonneg (by omega)];have:=Hm.out;omega
 have fm9:(256*(m:Int)) / 8=(p:Int):=by have:=Hm.out;omega
 have fmw:IntKind.i64.wrap ((256*(m:Int)).tdiv 8)=(p:Int):=by rw[fm8,IntKind.wrap_i64];have:=Hm.out;omega
 have fpw:IntKind.i64.wrap (p:Int)=(p:Int):=by rw[IntKind.wrap_i64];have:=Hm.out;omega
 clear hb1 cL cA
 go_wp2_with fail
 refine(HLo.out _).mono ?_
 rintro x u1 ⟨rfl,rfl⟩
 have hln8:ln≤8:=Hl.out.2
 go_wp2_with (at_make;refine wpList_make_full _ rfl (.tmp 34) (.tmp 34) 67 rfl u1.heap.size 109 i0 (.agg z) 256 Tryz.underlying67 HI.out.1 HI.out.2.1 HI.out.2.2.1 .i64 .i64 ln ln ln rfl rfl rfl rfl (by rw[HI.out.2.2.2];omega) (by unfold maxLen;omega) (Nat.le_refl _) ?_)
 intro w3 hown hgr
 obtain⟨hrow,hb3⟩:=made_row HZ.out hown hgr
 have B3:Away (Below u1.heap.size u1 w3):=⟨hb3⟩
 have A3:Away (At u1.heap.size (RW ln (fst q 0)) 109 w3 w3):=⟨by rw[fst_zero];exact At.refl hrow⟩
 clear hown hgr hrow hb3 cA1 cL1 fa2 fa21 fm6 fm8 fm9 fmw
 go_wp2_with fail
 go_loopw [38] (fun v wr=>∃ r:Nat,r≤ln∧v=.int .i64 (r:Int)∧Away (At u1.heap.size (RW ln (fst q r)) 109 w3 wr)) (fun v _=>ln-(intOf v).toNat)
 case atStart=>exact⟨0,Nat.zero_le _,rfl,A3⟩
 case round=>
  clear A3
  obtain⟨r,hr,rfl,A0⟩:=hrel
  have BU:Away (Below u1.heap.size u1 wr):=⟨B3.out.trans (A0.out.below B3.out.size (Nat.le_refl _))⟩
  have BE:Away (Below w.heap.size w wr):=⟨B1.out.trans (BU.out.mono B1.out.size)⟩
  by_cases hlt:r<ln
  ·have hltz:(r:Int)<(ln:Int):=by omega
   have hr8:r<8:=by omega
   obtain⟨N,hN⟩:∃ N,fn+r=N:=⟨_,rfl⟩
   obtain⟨xx,hx⟩:∃ xx,N%256=xx:=⟨_,rfl⟩
   obtain⟨yy,hy⟩:∃ yy,N / 256=yy:=⟨_,rfl⟩
   have hN6:N≤65008:=by have:=Hf.out;omega
   have fnr:IntKind.i64.wrap ((fn:Int)+(r:Int))=(N:Int):=by rw[IntKind.wrap_i64];omega
   have f1:(N:Int).tmod 256=(xx:Int):=by rw[Int.tmod_eq_emod_of_nonneg (by omega)];omega
   have f2:(N:Int)%256=(xx:Int):=by omega
   have f3:(N:Int).tdiv 256=(yy:Int):=by rw[Int.tdiv_eq_ediv_of_nonneg (by omega)];omega
   have f4:(N:Int) / 256=(yy:Int):=by omega
   have f5:IntKind.i64.wrap ((N:Int).tdiv 256)=(yy:Int):=by rw[f3,IntKind.wrap_i64];omega
   have f6:IntKind.i64.wrap (yy:Int)=(yy:Int):=by rw[IntKind.wrap_i64];omega
   have T2:Away (wr.heap[w.heap.size]? = some (.cells T 34 (0,0))):=⟨(BU.out.block _ (lt_of_row T1.out)).trans T1.out⟩
   have HPr:Away (∀ w1:World,Calls Tryz.prog 92 #[.int .i64 (xx:Int),.int .i64 (yy:Int)] w1 fun e w'=>e=.returned (.string (x2 xx yy))∧Below w1.heap.size w1 w'):=⟨fun w1=>pair_any xx yy (by omega) (by omega) w1⟩
   have HSr:Away (∀ w1:World,Below w.heap.size w w1→Calls Tryz.prog 90 #[.agg T,.int .i64 2,.string (sd++x2 xx yy),.int .i64 (p:Int)] w1 fun x w'=>x=.returned (.tuple #[.string (sk r),.int .i64 0])∧Below w1.heap.size w1 w'):=⟨fun w1 hb=>by
    have:=HSm.out r hr8 w1 hb
    rw[hN,hx,hy]at this
    exact this⟩
   have HUr:=Away.mk (HUn.out r hr8)
   obtain⟨X,HX⟩:=ex_eq (x2 xx yy)
   rw[HX.out]at HPr HSr
   have hXs:X.size=2:=by rw[←HX.out];rfl
   have hsz:(9223372036854775807<sd.size+2)=False:=by have:=Hsd.out;simp;omega
   obtain⟨S,HSk⟩:=ex_eq (sk r)
   obtain⟨F,HF⟩:=ex_eq (FL .i64 256 (q r))
   rw[HSk.out]at HSr HUr
   rw[HF.out]at HUr
   have fa:IntKind.i64.wrap (a-1)=a-1:=by rw[IntKind.wrap_i64];have:=Ha.out;omega
   obtain⟨o6,ho6⟩:∃ o6,r*256=o6:=⟨_,rfl⟩
   have Ho6:=Away.mk ho6
   have Hlt:=Away.mk hlt
   clear hN hx hy HX
   go_wp2_with fail
   refine wp_region_quiet_below (by kernel_rfl) (by kernel_rfl) ?_
   refine wpQuiet_load rfl 34 _ rfl _ rfl 34 _ _ (fun w' hC=>heap_regrown T2.out hC) Tryz.underlying34 rfl HTz.out ?_
   iterate 5 (quiet_step (skip))
   quiet_step (exact Calls.regrown_of (HPr.out _))
   iterate 2 (quiet_step (skip))
   quiet_step (exact Calls.regrown_of (HSr.out _ (BE.out.trans ((below_regrown _ _ _).mono BE.out.size))))
   iterate 5 (quiet_step (skip))
   refine wpQuiet_nil ?_
   intro wn hC
   have hbn:Below wr.heap.size wr wn:=by
    obtain⟨pp,rfl⟩:=hC
    exact below_regrown _ _ _
   have A5:Away (At u1.heap.size (RW ln (fst q r)) 109 w3 wn):=⟨A0.out.later hbn⟩
   have BN:Away (Below u1.heap.size u1 wn):=⟨BU.out.trans (hbn.mono BU.out.size)⟩
   have cA5:=HcA.out wn BN.out
   clear hC hbn A0 f1 f2 f3 f4 f5 f6 fnr hXs hsz HPr HSr
   go_wp2_with fail
   refine(HUr.out _).mono ?_
   rintro x w6 ⟨rfl,hb6⟩
   have A6:Away (At u1.heap.size (RW ln (fst q r)) 109 w3 w6):=⟨A5.out.later hb6⟩
   clear hb6 cA5 A5
   go_wp2_with ((with_reducible refine wpList_putp A6 HF.out Hlt.out Ho6.out rfl _ _ rfl rfl ?hx ?hy ?_);(case hx=>exact rfl);(case hy=>exact rfl);intro w7 A7;rw[ups_fst]at A7)
   go_roundw
   case rel=>exact⟨r+1,by have:=Hlt.out;omega,by go_num,A7⟩
   case measure=>have:=Hlt.out;simp[intOf];omega
  ·obtain rfl:r=ln:=by omega
   have hH:Away (Holds wr w.heap.size (.slice (some ⟨u1.heap.size,0,none⟩) r r) r q):=⟨row_holds A0.out.row B1.out.size (fun i hi=>fst_lt q r i hi)⟩
   clear A0
   go_wp2_with fail
   go_ret
   exact⟨⟨_,rfl,hH.out⟩,BE.out⟩
end qmsk
end Go.Proofs.YtgahcabgmfbhdaaGreatDoor
namespace Go.Proofs.YtgahcabgmfbhdaaGreatDoor
namespace qdoc
open Go Go.RowKit
open arr mem keca kstep kturn spok polys polt pols rbita rbitc rbitf rbitg rndm samm samb samc saml samr rsdoc
theorem ball {T:Array Value} (b:ByteArray) (tau:Int) (w:World) (hK:KT T TL RL) (hP:Gp w) (hb:b.size≤1125899906842624):
 Calls Tryz.prog 116 #[.agg T,.string b,.int .i64 tau] w fun x w'=>x=.returned (.agg (FL .i64 256 (dB b tau)))∧Below w.heap.size w w':=by
 unfold dB
 by_cases h : 1≤tau∧tau≤64
 ·obtain⟨t,rfl⟩:=Int.eq_ofNat_of_zero_le (a:=tau) (by omega)
  rw[ball_in _ t (by omega) (by omega)]
  exact qbal.Ball_good b _ t w (infoT T hK) (by omega) (by omega) (out_size 2 b 544) (shake 2 b 544 w hK hP (Or.inr rfl) (by decide) hb)
 ·rw[ball_out _ _ h]
  exact qbal.Ball_bad b tau w h
theorem unsigned (s:ByteArray) (a:Int) (w:World) (ha:a=131072∨a=524288) (hs:s.size=32*mw a):
 Calls Tryz.prog 58 #[.string s,.int .i64 (a-1),.int .i64 a] w fun x w'=>x=.returned (.tuple #[.agg (FL .i64 256 (un (up s (mw a)) a)),.int .i64 0])∧Below w.heap.size w w':=by
 obtain⟨h1,h2,h3⟩:=mw_two a ha
 have hin:∀ i,0≤up s (mw a) i∧up s (mw a) i≤a-1+a:=fun i=>by have:=up_lt s (mw a) i;rw[h3]at this;omega
 refine puns.unsigned_good s (a-1) a w (up s (mw a)) (by omega) (by omega) (by omega) (by omega) (fun i _=>hin i) fun w1=>?_
 have h:=punp.unpack_any s (a-1+a) w1 (by omega) (by omega) (by rw[h1];exact hs)
 rw[h1,if_pos (show rbitd.inb (up s (mw a)) (a-1+a) from fun i _=>hin i)]at h
 exact h
theorem masks {T:Array Value} (ln fn:Nat) (k e t a b o s:Int) (sd:ByteArray) (w:World) (hK:KT T TL RL) (hP:Gp w) (hf:fn≤65000) (h:latt k (ln:Int) e t a b o s=true) (hsd:sd.size≤1000):
 Calls Tryz.prog 114 #[.agg T,.agg #[.int .i64 k,.int .i64 (ln:Int),.int .i64 e,.int .i64 t,.int .i64 a,.int .i64 b,.int .i64 o,.int .i64 s],.string sd,.int .i64 (fn:Int)] w fun x w'=>(∃ v1,x=.returned v1∧Holds w' w.heap.size v1 ln (qM sd a fn))∧Below w.heap.size w w':=by
 obtain⟨h1,h2,-,-,ha⟩:=latt_of h
 obtain⟨m1,m2,m3⟩:=mw_two a ha
 refine qmsk.masks_yes ln fn (mw a) (32*mw a) k e t a b o s sd (fun r=>out TL RL 2 (tw sd ((fn+r)%256) ((fn+r) / 256)) (32*mw a)) (qM sd a fn) w (infoT T hK) (by omega) hf m2 rfl (by omega) h (by omega) (fun w1=>?_) (fun r _ w1 hb=>?_) (fun r _ w1=>?_)
 ·have h3:=plong.long_any (2*a-1) (by omega) w1
  rw[show 2*a-1=a-1+a by omega,m1]at h3
  rw[show 2*a-1=a-1+a by omega]
  exact h3
 ·exact shake 2 _ (32*mw a) w hK hP (Or.inr rfl) (by omega) (by rw[tw_size];omega) w1 hb
 ·exact unsigned _ a w1 ha (out_size 2 _ _)
end qdoc
end Go.Proofs.YtgahcabgmfbhdaaGreatDoor
namespace Go.Proofs.YtgahcabgmfbhdaaGreatDoor.mgc
set_option linter.unusedSimpArgs false
open Go Go.RowKit
open arr mem stil polys polt pols nttl rndm saml spok rsdoc mlkm mlsm keca kstep kturn rkpb rkrw qrow helda heldb mgd rbita rbitd rbite bitp
theorem begin_any {T:Array Value} {S:Sg} (Z:Nat→Int) (n gs gt gm cm ga ca gb cb gl cl:Nat) (w:World) (hO:OKS T Z S) (hP:Gp w) (hn:n<814) (H:SGN T S gs gt gm cm ga ca gb cb gl cl w):
 Calls Tryz.prog 62 #[.pointer (some ⟨gs,0,none⟩),.int .i64 (n:Int)] w fun e w'=>(∃ gy cy gw cw,e=.returned (.agg (AT (.slice (some ⟨gy,0,none⟩) S.ln cy) (.slice (some ⟨gw,0,none⟩) S.kn cw) (tSum S n) (thereR S.ζ 8 (tC S n))))∧Holds w' 0 (.slice (some ⟨gy,0,none⟩) S.ln cy) S.ln (tY S n)∧Holds w' 0 (.slice (some ⟨gw,0,none⟩) S.kn cw) S.kn (tW S n))∧Below w.heap.size w w':=by
 obtain⟨hk,hl,-,-,ha,hbb,ho,hs⟩:=oks_all hO
 obtain⟨fn,hfn⟩:∃ fn,n*S.ln=fn:=⟨_,rfl⟩
 have hf1:fn≤65000:=by
  have:n*S.ln≤813*8:=Nat.mul_le_mul (by omega) hl.2
  omega
 have hmul:IntKind.i64.wrap ((S.ln:Int)*(n:Int))=(fn:Int):=by
  rw[show (S.ln:Int)*(n:Int)=((n*S.ln:Nat):Int) by rw[Int.natCast_mul,Int.mul_comm],hfn,IntKind.wrap_i64]
  omega
 obtain⟨lam,hlam⟩:∃ x,(S.s / 4).toNat=x:=⟨_,rfl⟩
 have hl4:(S.s / 4:Int)=(lam:Int):=by omega
 have hl4t:Int.tdiv S.s 4=(lam:Int):=by rw[Int.tdiv_eq_ediv_of_nonneg (by omega)];exact hl4
 have hlam2:lam≤64:=by omega
 have hlw:IntKind.i64.wrap (lam:Int)=(lam:Int):=by rw[IntKind.wrap_i64];omega
 have HMk0:∀ w1:World,Gp w1→Calls Tryz.prog 114 #[.agg T,.agg #[.int .i64 S.kn,.int .i64 S.ln,.int .i64 S.e,.int .i64 S.t,.int .i64 S.a,.int .i64 S.b,.int .i64 S.o,.int .i64 S.s],.string S.ms,.int .i64 (fn:Int)] w1 fun x w'=>(∃ v1,x=.returned v1∧Holds w' w1.heap.size v1 S.ln (tY S n))∧Below w1.heap.size w1 w':=fun w1 hg=>by
  have h:=qdoc.masks S.ln fn S.kn S.e S.t S.a S.b S.o S.s S.ms w1 hO.kt hg hf1 hO.lat (by rw[hO.ms];decide)
  rw[←hfn]at h ⊢
  exact h
 have HRw0:∀ (w1:World) (vv:Value) (B:Nat),MX w1 (.slice (some ⟨gm,0,none⟩) S.kn cm) S.kn (fun _=>S.ln) (qX S.rho)→Holds w1 B vv S.ln (tY S n)→Calls Tryz.prog 42 #[.agg T,.slice (some ⟨gm,0,none⟩) S.kn cm,vv] w1 fun e' w'=>(∃ v',e'=.returned v'∧Holds w' w1.heap.size v' S.kn (tW S n))∧Below w1.heap.size w1 w':=fun w1 vv B h1 h2=>by
  have h3:=krw.rows_any T Z S.kn S.ln (fun _=>S.ln) (qX S.rho) (tY S n) _ vv B w1 hO.zt.size hO.zt hk (fun _ _=>hl.2) hl h1 h2
  simp only[Nat.min_self,←hO.ez]at h3
  exact h3
 obtain⟨Hi,hHi⟩:=ex_eq (cat ByteArray.empty (fun i=>packed (tHi S n i) (8380416 / (2*S.b)-1)) S.kn)
 have HPh0:∀ (w1:World) (vv:Value) (B:Nat),SGN T S gs gt gm cm ga ca gb cb gl cl w1→Holds w1 B vv S.kn (tW S n)→Calls Tryz.prog 115 #[.pointer (some ⟨gs,0,none⟩),vv] w1 fun e w'=>e=.returned (.string Hi)∧Below w1.heap.size w1 w':=fun w1 vv B h1 h2=>by
  rw[←hHi.out]
  exact mgb.packHigh_any gs S.kn S.b vv B (tW S n) w1 hbb (h1.cell 6 _ rfl) h1.lts hk h2
 have hHs:Hi.size≤10000:=by
  rw[←hHi.out]
  have h1:∀ m,(cat ByteArray.empty (fun i=>packed (tHi S n i) (8380416 / (2*S.b)-1)) m).size=32*lb ((8380416:Int) / (2*S.b)-1).toNat*m:=fun m=>by
   rw[cat_size _ _ (32*lb ((8380416:Int) / (2*S.b)-1).toNat) m fun _ _=>size_packed _ _]
   exact Nat.zero_add _
  rw[h1]
  have h2:lb ((8380416:Int) / (2*S.b)-1).toNat≤6:=by rcases hbb with h | h<;>rw[h]<;>decide +kernel
  have h3:=Nat.mul_le_mul (Nat.mul_le_mul (Nat.le_refl 32) h2) hk.2
  omega
 have hsum:out TL RL 2 (S.mu++Hi) lam=tSum S n:=by
  unfold tSum
  rw[←hlam,←hHi.out,cat_nil]
 have HSh0:∀ w1:World,Gp w1→w1.heap[gt]? = some (.cells T 34 (0,0))→Calls Tryz.prog 60 #[.pointer (some ⟨gt,0,none⟩),.string (S.mu++Hi),.int .i64 (lam:Int)] w1 fun x w'=>x=.returned (.string (tSum S n))∧Below w1.heap.size w1 w':=fun w1 hg hr=>by
  rw[←hsum]
  exact mga.shake_any gt _ lam w1 hO.kt hg hr (by omega) (by rw[ByteArray.size_append,hO.mu];omega)
 have hss:(tSum S n).size≤64:=by rw[mlsb.tSum_size,hlam];exact hlam2
 have HBa0:∀ w1:World,Gp w1→Calls Tryz.prog 116 #[.agg T,.string (tSum S n),.int .i64 S.t] w1 fun x w'=>x=.returned (.agg (FL .i64 256 (tC S n)))∧Below w1.heap.size w1 w':=fun w1 hg=>qdoc.ball (tSum S n) S.t w1 hO.kt hg (by omega)
 have HTh0:∀ w1:World,Calls Tryz.prog 95 #[.agg T,.agg (FL .i64 256 (tC S n))] w1 fun e w'=>e=.returned (.agg (FL .i64 256 (thereR S.ζ 8 (tC S n))))∧Below w1.heap.size w1 w':=fun w1=>by rw[hO.ez];exact nthere.there_any T Z _ w1 hO.zt
 have hms:S.mu.size=64:=hO.mu
 have HTz:Away ((Tryz.prog.info? 34).map (·.size)=some T.size):=⟨by rw[hO.zt.size];kernel_rfl⟩
 obtain⟨hz,hsize⟩:=zero_of_info infoAtz
 obtain⟨z,HZ⟩:=ex_eq (AT (.slice none 0 0) (.slice none 0 0) ⟨#[]⟩ fun _=>0)
 rw[HZ.out]at hz
 have Hzs:Away (z.size=259):=⟨by rw[←HZ.out];exact at_size _ _ _ _⟩
 have Hsize:=Away.mk hsize
 obtain⟨W,hW⟩:∃ x,w.alloc (.cells z 116)=x:=⟨_,rfl⟩
 obtain⟨r0,hWs,b0⟩:=one hW
 have HG:Away (∀ w':World,Below W.heap.size W w'→SGN T S gs gt gm cm ga ca gb cb gl cl w'):=⟨fun w' hb=>H.later (b0.trans (hb.mono b0.size))⟩
 have GP:Away (∀ w':World,Below W.heap.size W w'→Gp w'):=⟨fun w' hb=>hP.later (b0.trans (hb.mono b0.size))⟩
 have HP0:=Away.mk hP
 have HH:=Away.mk H
 have R0:=Away.mk r0
 have B0:=Away.mk b0
 have HWs:=Away.mk hWs
 have HW:=Away.mk hW
 have c0:∀ w':World,Below W.heap.size W w'→w'.cell? ⟨gs,0,none⟩=some (.pointer (some ⟨gt,0,none⟩)):=fun w' hb=>(HG.out w' hb).cell 0 _ rfl
 have c2:∀ w':World,Below W.heap.size W w'→w'.cell? ⟨gs,2,none⟩=some (.int .i64 S.ln):=fun w' hb=>(HG.out w' hb).cell 2 _ rfl
 have c4:∀ w':World,Below W.heap.size W w'→w'.cell? ⟨gs,4,none⟩=some (.int .i64 S.t):=fun w' hb=>(HG.out w' hb).cell 4 _ rfl
 have c8:∀ w':World,Below W.heap.size W w'→w'.cell? ⟨gs,8,none⟩=some (.int .i64 S.s):=fun w' hb=>(HG.out w' hb).cell 8 _ rfl
 have c9:∀ w':World,Below W.heap.size W w'→w'.cell? ⟨gs,9,none⟩=some (.slice (some ⟨gm,0,none⟩) S.kn cm):=fun w' hb=>(HG.out w' hb).cell 9 _ rfl
 have c13:∀ w':World,Below W.heap.size W w'→w'.cell? ⟨gs,13,none⟩=some (.string S.mu):=fun w' hb=>(HG.out w' hb).cell 13 _ rfl
 have c14:∀ w':World,Below W.heap.size W w'→w'.cell? ⟨gs,14,none⟩=some (.string S.ms):=fun w' hb=>(HG.out w' hb).cell 14 _ rfl
 obtain⟨C,hC⟩:=ex_eq (#[.int .i64 S.kn,.int .i64 S.ln,.int .i64 S.e,.int .i64 S.t,.int .i64 S.a,.int .i64 S.b,.int .i64 S.o,.int .i64 S.s]:Array Value)
 have CL:Away (∀ w':World,Below W.heap.size W w'→w'.rangeAt gs 1 C.toList):=⟨fun w' hb=>by rw[←hC.out];exact(HG.out w' hb).lat⟩
 have Ci:Away ((Tryz.prog.info? 37).map (·.size)=some C.toList.length):=⟨by rw[←hC.out];kernel_rfl⟩
 rw[hC.out]at HMk0
 obtain⟨Y,hY⟩:=ex_eq (tY S n)
 obtain⟨Wv,hWv⟩:=ex_eq (tW S n)
 obtain⟨sum,hsm⟩:=ex_eq (tSum S n)
 obtain⟨c,hc⟩:=ex_eq (tC S n)
 obtain⟨tc,htc⟩:=ex_eq (thereR S.ζ 8 (tC S n))
 have htc2:thereR S.ζ 8 c=tc:=by rw[←hc.out];exact htc.out
 rw[htc.out]
 simp only[hY.out,hWv.out,hsm.out,hc.out,htc2]at HMk0 HRw0 HPh0 HSh0 HBa0 HTh0 ⊢
 obtain⟨Fc,hFc⟩:=ex_eq (FL .i64 256 c)
 rw[hFc.out]at HBa0 HTh0
 obtain⟨mu,hmu⟩:∃ x,S.mu=x:=⟨_,rfl⟩
 obtain⟨kn,hkn⟩:∃ x,S.kn=x:=⟨_,rfl⟩
 obtain⟨ln,hln⟩:∃ x,S.ln=x:=⟨_,rfl⟩
 obtain⟨sg,hsg⟩:∃ x,S.s=x:=⟨_,rfl⟩
 obtain⟨st,hst⟩:∃ x,S.t=x:=⟨_,rfl⟩
 obtain⟨ms,hmss⟩:∃ x,S.ms=x:=⟨_,rfl⟩
 rw[hmu]at HSh0 c13 hms
 rw[hkn]at HRw0 HPh0 c9 ⊢
 rw[hln]at HMk0 HRw0 c2 hmul ⊢
 rw[hsg]at c8 hl4 hl4t
 rw[hst]at HBa0 c4
 rw[hmss]at HMk0 c14
 have hcat:¬ 9223372036854775807<mu.size+Hi.size:=by omega
 clear hms
 have HMk:=Away.mk HMk0
 have HRw:=Away.mk HRw0
 have HPh:=Away.mk HPh0
 have HSh:=Away.mk HSh0
 have HBa:=Away.mk HBa0
 have HTh:=Away.mk HTh0
 have hlnn : 1≤ln∧ln≤8:=by omega
 have hknn : 1≤kn∧kn≤8:=by omega
 have HMXf:Away (∀ w':World,Below W.heap.size W w'→MX w' (.slice (some ⟨gm,0,none⟩) kn cm) kn (fun _=>ln) (qX S.rho)):=⟨fun w' hb=>by
  have:=(HG.out w' hb).mat
  rw[hkn,hln]at this
  exact this⟩
 clear hsize hW r0 b0 hWs HZ hP H hHi hsum hss hO ha ho hs hbb hk hl hlam hHs hfn hf1 hC hY hWv hsm hc htc htc2 hmu hkn hln hsg hst hmss HMk0 HRw0 HPh0 HSh0 HBa0 HTh0 hlam2
 go_enter Tryz.func62,Tryz.ntmps62
 go_wp2_with (rw[HW.out])
 refine hk_begin (W.heap.size) 23 [0,1,2,3,4,5,6,7,8,9,10,11,12,13,14,15,16,17,18,19,20,21,22] (by kernel_rfl) rfl rfl (by decide) (fun hS ops HO=>?_)
 simp only[List.filterMap_cons,fa,List.getElem?_cons_succ,List.getElem?_cons_zero]
 iterate 3 ((refine hk_t (v:=?_) (by rw[←HO.out];kernel_rfl) (fun _ _ _ h=>h) ?_ hS ?_;rotate_left;focus (intro w9 h9;go_simp;first | done | with_reducible rfl);all_goals skip);simp only[Act.put,pa,pb,pc])
 (refine hk_t (v:=?_) (by rw[←HO.out];kernel_rfl) (fun _ _ _ h=>h) ?_ hS ?_;rotate_left;focus (intro w9 h9;have hc:=c0 w9 h9;go_simp;first | done | with_reducible rfl);all_goals skip)
 simp only[Act.put,pa,pb,pc]
 (refine hk_t (v:=?_) (by rw[←HO.out];kernel_rfl) (fun _ _ _ h=>h) ?_ hS ?_;rotate_left;focus (intro w9 h9;go_simp;first | done | with_reducible rfl);all_goals skip)
 simp only[Act.put,pa,pb,pc]
 refine hk_l (by rw[←HO.out];kernel_rfl) (fun _ _ _ _ h=>h) 34 _ rfl gt rfl 34 T _ (fun w1 h1=>(HG.out w1 h1).tab) Tryz.underlying34 rfl HTz.out hS ?_
 iterate 3 (simp only[Act.put,pa,pb,pc];(refine hk_t (v:=?_) (by rw[←HO.out];kernel_rfl) (fun _ _ _ h=>h) ?_ hS ?_;rotate_left;focus (intro w9 h9;go_simp;first | done | with_reducible rfl);all_goals skip))
 simp only[Act.put,pa,pb,pc]
 refine hk_m (by rw[←HO.out];kernel_rfl) (fun _ _ _ _ h=>h) 37 _ rfl gs 1 rfl C _ CL.out Tryz.underlying37 rfl Ci.out hS ?_
 iterate 3 (simp only[Act.put,pa,pb,pc];(refine hk_t (v:=?_) (by rw[←HO.out];kernel_rfl) (fun _ _ _ h=>h) ?_ hS ?_;rotate_left;focus (intro w9 h9;go_simp;first | done | with_reducible rfl);all_goals skip))
 simp only[Act.put,pa,pb,pc]
 (refine hk_t (v:=?_) (by rw[←HO.out];kernel_rfl) (fun _ _ _ h=>h) ?_ hS ?_;rotate_left;focus (intro w9 h9;have hc:=c14 w9 h9;go_simp;first | done | with_reducible rfl);all_goals skip)
 iterate 4 (simp only[Act.put,pa,pb,pc];(refine hk_t (v:=?_) (by rw[←HO.out];kernel_rfl) (fun _ _ _ h=>h) ?_ hS ?_;rotate_left;focus (intro w9 h9;go_simp;first | done | with_reducible rfl);all_goals skip))
 simp only[Act.put,pa,pb,pc]
 (refine hk_t (v:=?_) (by rw[←HO.out];kernel_rfl) (fun _ _ _ h=>h) ?_ hS ?_;rotate_left;focus (intro w9 h9;have hc:=c2 w9 h9;go_simp;first | done | with_reducible rfl);all_goals skip)
 iterate 2 (simp only[Act.put,pa,pb,pc];(refine hk_t (v:=?_) (by rw[←HO.out];kernel_rfl) (fun _ _ _ h=>h) ?_ hS ?_;rotate_left;focus (intro w9 h9;go_simp;first | done | with_reducible rfl);all_goals skip))
 simp only[Act.put,pa,pb,pc]
 refine hk_s (by rw[←HO.out];kernel_rfl) (fun K hK=>?_)
 go_simp
 refine(HMk.out _ (GP.out _ hS)).mono ?_
 rintro x w2 ⟨⟨vy,rfl,hy⟩,hb2⟩
 have h2:=hS.trans (hb2.mono hS.size)
 obtain⟨gy,cy,rfl,hgy⟩:=hd_any hy
 refine hK _ _ h2 ?_
 clear hK K
 try simp only[Act.put,pa,pb,pc]
 (refine hk_t (v:=?_) (by rw[←HO.out];kernel_rfl) (fun _ _ _ h=>h) ?_ h2 ?_;rotate_left;focus (intro w9 h9;go_simp;first | done | with_reducible rfl);all_goals skip)
 simp only[Act.put,pa,pb,pc]
 refine hk_nil (by rw[←HO.out];kernel_rfl) ?_
 have E2:Away (Below W.heap.size W w2):=⟨h2⟩
 have HY:=Away.mk hy
 have L2:Away (W.heap.size≤w2.heap.size):=⟨h2.size⟩
 clear hS HO hb2 h2 hy hgy
 go_wp2_with fail
 have U0:∀ w':World,Below w2.heap.size w2 w'→Below W.heap.size W w':=fun w' hb=>E2.out.trans (hb.mono L2.out)
 refine hk_begin (w2.heap.size) 13 [0,1,2,3,4,5,6,7,8,9,10,11,12] (by kernel_rfl) rfl rfl (by decide) (fun hS ops HO=>?_)
 simp only[List.filterMap_cons,fa,List.getElem?_cons_succ,List.getElem?_cons_zero]
 iterate 3 ((refine hk_t (v:=?_) (by rw[←HO.out];kernel_rfl) (fun _ _ _ h=>h) ?_ hS ?_;rotate_left;focus (intro w9 h9;go_simp;first | done | with_reducible rfl);all_goals skip);simp only[Act.put,pa,pb,pc])
 (refine hk_t (v:=?_) (by rw[←HO.out];kernel_rfl) (fun _ _ _ h=>h) ?_ hS ?_;rotate_left;focus (intro w9 h9;have hc:=c0 w9 (U0 w9 h9);go_simp;first | done | with_reducible rfl);all_goals skip)
 simp only[Act.put,pa,pb,pc]
 (refine hk_t (v:=?_) (by rw[←HO.out];kernel_rfl) (fun _ _ _ h=>h) ?_ hS ?_;rotate_left;focus (intro w9 h9;go_simp;first | done | with_reducible rfl);all_goals skip)
 simp only[Act.put,pa,pb,pc]
 refine hk_l (by rw[←HO.out];kernel_rfl) (fun _ _ _ _ h=>h) 34 _ rfl gt rfl 34 T _ (fun w1 h1=>(HG.out w1 (U0 w1 h1)).tab) Tryz.underlying34 rfl HTz.out hS ?_
 iterate 3 (simp only[Act.put,pa,pb,pc];(refine hk_t (v:=?_) (by rw[←HO.out];kernel_rfl) (fun _ _ _ h=>h) ?_ hS ?_;rotate_left;focus (intro w9 h9;go_simp;first | done | with_reducible rfl);all_goals skip))
 simp only[Act.put,pa,pb,pc]
 (refine hk_t (v:=?_) (by rw[←HO.out];kernel_rfl) (fun _ _ _ h=>h) ?_ hS ?_;rotate_left;focus (intro w9 h9;have hc:=c9 w9 (U0 w9 h9);go_simp;first | done | with_reducible rfl);all_goals skip)
 simp only[Act.put,pa,pb,pc]
 (refine hk_t (v:=?_) (by rw[←HO.out];kernel_rfl) (fun _ _ _ h=>h) ?_ hS ?_;rotate_left;focus (intro w9 h9;go_simp;first | done | with_reducible rfl);all_goals skip)
 simp only[Act.put,pa,pb,pc]
 refine hk_s (by rw[←HO.out];kernel_rfl) (fun K hK=>?_)
 go_simp
 refine(HRw.out _ _ _ (HMXf.out _ (U0 _ hS)) (HY.out.later hS)).mono ?_
 rintro x w3 ⟨⟨vw,rfl,hw⟩,hb3⟩
 have h3:=hS.trans (hb3.mono hS.size)
 obtain⟨gw,cw,rfl,hgw⟩:=hd_any hw
 refine hK _ _ h3 ?_
 clear hK K
 try simp only[Act.put,pa,pb,pc]
 (refine hk_t (v:=?_) (by rw[←HO.out];kernel_rfl) (fun _ _ _ h=>h) ?_ h3 ?_;rotate_left;focus (intro w9 h9;go_simp;first | done | with_reducible rfl);all_goals skip)
 simp only[Act.put,pa,pb,pc]
 refine hk_nil (by rw[←HO.out];kernel_rfl) ?_
 have E3:Away (Below W.heap.size W w3):=⟨U0 _ h3⟩
 have HYy:=Away.mk (HY.out.later h3)
 have HWw:=Away.mk hw
 have L3:Away (W.heap.size≤w3.heap.size):=⟨E3.out.size⟩
 clear hS HO hb3 h3 hw hgw U0 HY
 go_wp2_with fail
 have U0:∀ w':World,Below w3.heap.size w3 w'→Below W.heap.size W w':=fun w' hb=>E3.out.trans (hb.mono L3.out)
 refine hk_begin (w3.heap.size) 20 [0,1,2,3,4,5,6,7,8,9,12,13,14,15,16,17,10,11,18,19] (by kernel_rfl) rfl rfl (by decide) (fun hS ops HO=>?_)
 simp only[List.filterMap_cons,fa,List.getElem?_cons_succ,List.getElem?_cons_zero]
 iterate 3 ((refine hk_t (v:=?_) (by rw[←HO.out];kernel_rfl) (fun _ _ _ h=>h) ?_ hS ?_;rotate_left;focus (intro w9 h9;go_simp;first | done | with_reducible rfl);all_goals skip);simp only[Act.put,pa,pb,pc])
 (refine hk_t (v:=?_) (by rw[←HO.out];kernel_rfl) (fun _ _ _ h=>h) ?_ hS ?_;rotate_left;focus (intro w9 h9;have hc:=c0 w9 (U0 w9 h9);go_simp;first | done | with_reducible rfl);all_goals skip)
 iterate 3 (simp only[Act.put,pa,pb,pc];(refine hk_t (v:=?_) (by rw[←HO.out];kernel_rfl) (fun _ _ _ h=>h) ?_ hS ?_;rotate_left;focus (intro w9 h9;go_simp;first | done | with_reducible rfl);all_goals skip))
 simp only[Act.put,pa,pb,pc]
 (refine hk_t (v:=?_) (by rw[←HO.out];kernel_rfl) (fun _ _ _ h=>h) ?_ hS ?_;rotate_left;focus (intro w9 h9;have hc:=c13 w9 (U0 w9 h9);go_simp;first | done | with_reducible rfl);all_goals skip)
 iterate 6 (simp only[Act.put,pa,pb,pc];(refine hk_t (v:=?_) (by rw[←HO.out];kernel_rfl) (fun _ _ _ h=>h) ?_ hS ?_;rotate_left;focus (intro w9 h9;go_simp;first | done | with_reducible rfl);all_goals skip))
 simp only[Act.put,pa,pb,pc]
 (refine hk_t (v:=?_) (by rw[←HO.out];kernel_rfl) (fun _ _ _ h=>h) ?_ hS ?_;rotate_left;focus (intro w9 h9;have hc:=c8 w9 (U0 w9 h9);go_simp;first | done | with_reducible rfl);all_goals skip)
 simp only[Act.put,pa,pb,pc]
 (refine hk_t (v:=?_) (by rw[←HO.out];kernel_rfl) (fun _ _ _ h=>h) ?_ hS ?_;rotate_left;focus (intro w9 h9;go_simp;first | done | with_reducible rfl);all_goals skip)
 simp only[Act.put,pa,pb,pc]
 refine hk_s (by rw[←HO.out];kernel_rfl) (fun K hK=>?_)
 go_simp
 refine(HPh.out _ _ _ (HG.out _ (U0 _ hS)) (HWw.out.later hS)).mono ?_
 rintro x w4 ⟨rfl,hb4⟩
 have h4:=hS.trans (hb4.mono hS.size)
 refine hK _ _ h4 ?_
 clear hK K
 try simp only[Act.put,pa,pb,pc]
 (refine hk_t (v:=?_) (by rw[←HO.out];kernel_rfl) (fun _ _ _ h=>h) ?_ h4 ?_;rotate_left;focus (intro w9 h9;go_simp;first | done | with_reducible rfl);all_goals skip)
 simp only[Act.put,pa,pb,pc]
 refine hk_s (by rw[←HO.out];kernel_rfl) (fun K hK=>?_)
 go_simp
 refine(HSh.out _ (GP.out _ (U0 _ h4)) (HG.out _ (U0 _ h4)).tab).mono ?_
 rintro x w5 ⟨rfl,hb5⟩
 have h5:=h4.trans (hb5.mono h4.size)
 refine hK _ _ h5 ?_
 clear hK K
 try simp only[Act.put,pa,pb,pc]
 (refine hk_t (v:=?_) (by rw[←HO.out];kernel_rfl) (fun _ _ _ h=>h) ?_ h5 ?_;rotate_left;focus (intro w9 h9;go_simp;first | done | with_reducible rfl);all_goals skip)
 simp only[Act.put,pa,pb,pc]
 refine hk_nil (by rw[←HO.out];kernel_rfl) ?_
 have E5:Away (Below W.heap.size W w5):=⟨U0 _ h5⟩
 have HY5:=Away.mk (HYy.out.later h5)
 have HW5:=Away.mk (HWw.out.later h5)
 have L5:Away (W.heap.size≤w5.heap.size):=⟨E5.out.size⟩
 clear hS HO hb4 h4 hb5 h5 U0 HYy HWw
 go_wp2_with fail
 have U0:∀ w':World,Below w5.heap.size w5 w'→Below W.heap.size W w':=fun w' hb=>E5.out.trans (hb.mono L5.out)
 refine hk_begin (w.heap.size) 25 [0,1,2,3,4,5,6,7,8,9,10,11,12,13,14,15,16,17,18,19,20,21,22,23,24] (by kernel_rfl) rfl rfl (by decide) (fun hS ops HO=>?_)
 simp only[List.filterMap_cons,fa,List.getElem?_cons_succ,List.getElem?_cons_zero]
 have V0:∀ w':World,Below w.heap.size w5 w'→w'.cell? ⟨gs,0,none⟩=some (.pointer (some ⟨gt,0,none⟩))∧w'.cell? ⟨gs,4,none⟩=some (.int .i64 st)∧w'.heap[gt]? = some (.cells T 34 (0,0)):=fun w' hb=>by
  have h5:=U0 w5 (Below.refl _ _)
  have l1:=HH.out.lts
  have l2:=HH.out.ltt
  exact⟨(hb.cell (p:=⟨gs,0,none⟩) l1).trans (c0 _ h5),(hb.cell (p:=⟨gs,4,none⟩) l1).trans (c4 _ h5),(hb.block _ l2).trans (HG.out _ h5).tab⟩
 iterate 6 ((refine hk_t (v:=?_) (by rw[←HO.out];kernel_rfl) (fun _ _ _ h=>h) ?_ hS ?_;rotate_left;focus (intro w9 h9;go_simp;first | done | with_reducible rfl);all_goals skip);simp only[Act.put,pa,pb,pc])
 (refine hk_t (v:=?_) (by rw[←HO.out];kernel_rfl) (fun _ _ _ h=>h) ?_ hS ?_;rotate_left;focus (intro w9 h9;have hc:=(V0 w9 h9).1;go_simp;first | done | with_reducible rfl);all_goals skip)
 simp only[Act.put,pa,pb,pc]
 (refine hk_t (v:=?_) (by rw[←HO.out];kernel_rfl) (fun _ _ _ h=>h) ?_ hS ?_;rotate_left;focus (intro w9 h9;go_simp;first | done | with_reducible rfl);all_goals skip)
 simp only[Act.put,pa,pb,pc]
 refine hk_l (by rw[←HO.out];kernel_rfl) (fun _ _ _ _ h=>h) 34 _ rfl gt rfl 34 T _ (fun w1 h1=>(V0 w1 h1).2.2) Tryz.underlying34 rfl HTz.out hS ?_
 iterate 3 (simp only[Act.put,pa,pb,pc];(refine hk_t (v:=?_) (by rw[←HO.out];kernel_rfl) (fun _ _ _ h=>h) ?_ hS ?_;rotate_left;focus (intro w9 h9;go_simp;first | done | with_reducible rfl);all_goals skip))
 simp only[Act.put,pa,pb,pc]
 (refine hk_t (v:=?_) (by rw[←HO.out];kernel_rfl) (fun _ _ _ h=>h) ?_ hS ?_;rotate_left;focus (intro w9 h9;have hc:=(V0 w9 h9).1;go_simp;first | done | with_reducible rfl);all_goals skip)
 simp only[Act.put,pa,pb,pc]
 (refine hk_t (v:=?_) (by rw[←HO.out];kernel_rfl) (fun _ _ _ h=>h) ?_ hS ?_;rotate_left;focus (intro w9 h9;go_simp;first | done | with_reducible rfl);all_goals skip)
 simp only[Act.put,pa,pb,pc]
 refine hk_l (by rw[←HO.out];kernel_rfl) (fun _ _ _ _ h=>h) 34 _ rfl gt rfl 34 T _ (fun w1 h1=>(V0 w1 h1).2.2) Tryz.underlying34 rfl HTz.out hS ?_
 iterate 5 (simp only[Act.put,pa,pb,pc];(refine hk_t (v:=?_) (by rw[←HO.out];kernel_rfl) (fun _ _ _ h=>h) ?_ hS ?_;rotate_left;focus (intro w9 h9;go_simp;first | done | with_reducible rfl);all_goals skip))
 simp only[Act.put,pa,pb,pc]
 (refine hk_t (v:=?_) (by rw[←HO.out];kernel_rfl) (fun _ _ _ h=>h) ?_ hS ?_;rotate_left;focus (intro w9 h9;have hc:=(V0 w9 h9).2.1;go_simp;first | done | with_reducible rfl);all_goals skip)
 simp only[Act.put,pa,pb,pc]
 have hwl:w.heap.size≤w5.heap.size:=Nat.le_trans B0.out.size L5.out
 have hd5:Below w5.heap.size w5 w5.drew:=(Below.refl _ _).drew
 refine hk_s (by rw[←HO.out];kernel_rfl) (fun K hK=>?_)
 go_simp
 refine(HBa.out _ (GP.out _ (U0 _ hd5))).mono ?_
 rintro x w6 ⟨rfl,hb6⟩
 have h6:=hS.trans (hb6.mono (Nat.le_trans hwl hS.size))
 have k6:Below w5.heap.size w5 w6:=hd5.trans (hb6.mono hd5.size)
 refine hK _ _ h6 ?_
 clear hK K
 try simp only[Act.put,pa,pb,pc]
 refine hk_s (by rw[←HO.out];kernel_rfl) (fun K hK=>?_)
 go_simp
 refine(HTh.out _).mono ?_
 rintro x w7 ⟨rfl,hb7⟩
 have h7:=h6.trans (hb7.mono (Nat.le_trans hwl h6.size))
 have k7:Below w5.heap.size w5 w7:=k6.trans (hb7.mono k6.size)
 refine hK _ _ h7 ?_
 clear hK K
 try simp only[Act.put,pa,pb,pc]
 refine hk_b (by rw[←HO.out];kernel_rfl) (fun _ _ _ _ h=>h) (.agg (AT (.slice (some ⟨gy,0,none⟩) ln cy) (.slice (some ⟨gw,0,none⟩) kn cw) sum tc)) (fun w1=>exec_build4 _ rfl rfl rfl rfl rfl _ (built_at _ _ _ _ _ _ _ _) w1) h7 ?_
 simp only[Act.put,pa,pb,pc]
 have R7:w7.heap[w.heap.size]? = some (.cells z 116 (0,0)):=(k7.block _ (Nat.lt_of_lt_of_le (lt_of_row R0.out) L5.out)).trans ((E5.out.block _ (lt_of_row R0.out)).trans R0.out)
 obtain⟨R,HR⟩:=ex_eq (AT (.slice (some ⟨gy,0,none⟩) ln cy) (.slice (some ⟨gw,0,none⟩) kn cw) sum tc)
 have Ri:(Tryz.prog.info? 116).map (·.size)=some R.size:=by rw[←HR.out,at_size];exact infoAt
 have Ro:R.all (·.oneCell')=true:=by rw[←HR.out];exact at_one _ _ _ _ _ _ _ _
 have Rz:z.size=R.size:=by rw[Hzs.out,←HR.out,at_size]
 rw[HR.out]
 refine hk_s (by rw[←HO.out];kernel_rfl) (fun K hK=>?_)
 refine wp_store_row 116 _ _ rfl w.heap.size R rfl rfl 116 _ R7 Ri Rz Ro ?_
 have h8:=h7.trans (below_setRow (B:=w.heap.size) w7 w.heap.size R (Nat.le_refl _))
 refine hK _ _ h8 ?_
 clear hK K
 refine hk_nil (by rw[←HO.out];kernel_rfl) ?_
 go_wp2_with fail
 refine bodyPost_ret_by (v:=.agg R) (results_cell_row rfl _ _ w.heap.size 116 _ (0,0) _ rfl (setRow_heap _ _ _ _ _ _ R7) Tryz.underlying116 rfl Ri) rfl ?_
 have q1:=rkse.holds_base (holds_set (HY5.out.later k7) (show w.heap.size<W.heap.size by have:=HWs.out;omega) R)
 have q2:=rkse.holds_base (holds_set (HW5.out.later k7) (Nat.lt_of_lt_of_le (show w.heap.size<W.heap.size by have:=HWs.out;omega) L2.out) R)
 exact⟨⟨gy,cy,gw,cw,by rw[HR.out],q1,q2⟩,(B0.out.trans (E5.out.mono B0.out.size)).trans h8⟩
end Go.Proofs.YtgahcabgmfbhdaaGreatDoor.mgc
