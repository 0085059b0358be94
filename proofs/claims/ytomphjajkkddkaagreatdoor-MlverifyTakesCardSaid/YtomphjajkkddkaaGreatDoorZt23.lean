/-
  What mlverify's Inner returns for a made key and a signature that was made; the law package's own lo
-/
import Derived.Test.YtomphjajkkddkaaGreatDoorZt06
import Derived.Test.YtomphjajkkddkaaGreatDoorZt22
import Derived.Test.YtomphjajkkddkaaGreatDoorZt12
import Derived.Test.YtomphjajkkddkaaGreatDoorZt17
import Derived.Test.YtomphjajkkddkaaGreatDoorZt21
set_option maxRecDepth 100000
set_option maxHeartbeats 16000000
namespace Go.Proofs.YtomphjajkkddkaaGreatDoor.vpw
set_option linter.unusedSimpArgs false
open Go Go.RowKit
open arr mem pols spok keca rsdoc samr saml kaw rbita tabv built kturn rndm mlkm mlkb mlsm mlsb mlkd mlvr mlvm tabm tabt mgr mgi
open kcon (ζd)
open awake14 (d32)
theorem zt_is : ζd=tbf.ζ := mlsb.zd_is
theorem inv_d:nttp.Inv ζd:=by rw[show ζd=nttt.ζ from mlsb.zd_is];exact nttt.inv_doc
theorem sq_d:nttp.Sq ζd nttt.ρ := by rw[show ζd=nttt.ζ from mlsb.zd_is];exact nttt.sq_doc
noncomputable def Sw (kn ln:Nat) (e t a b o s:Int) (sd m r:ByteArray):Sg:=sgn ζd kn ln e t a b o s (pHead ζd sd kn ln e) (qS (pSig sd kn ln) e) (fun i=>qS (pSig sd kn ln) e (ln+i)) (pLo ζd sd kn ln e) m r
theorem inner_made (kn ln:Nat) (e t a b o s:Int) (sd m r m2:ByteArray) (n:Nat) (w:World) (hP:Gp w) (h:latt (kn:Int) (ln:Int) e t a b o s=true) (hok:tOk (Sw kn ln e t a b o s sd m r) n=true) (hm:m2.size≤100000):
 Calls Tryz.prog 11 #[.agg TA,.agg #[.int .i64 (kn:Int),.int .i64 (ln:Int),.int .i64 e,.int .i64 t,.int .i64 a,.int .i64 b,.int .i64 o,.int .i64 s],.string (pPk ζd sd kn ln e),.string m2,.string (tSig (Sw kn ln e t a b o s sd m r) n)] w fun y w'=>y=.returned (.tuple #[.bool (vOk ζd kn ln e t a b s (pRho sd kn ln) (out TL RL 2 (pTr ζd sd kn ln e++m2) 64) (tSum (Sw kn ln e t a b o s sd m r) n) (pHi ζd sd kn ln e) (tZ (Sw kn ln e t a b o s sd m r) n) (tHn (Sw kn ln e t a b o s sd m r) n)),.int .i64 0])∧Below w.heap.size w w':=by
 obtain⟨hk,hl,ht,he,ha⟩:=latt_of h
 obtain⟨-,-,-,-,ho,hs⟩:=rksz.latt_all h
 refine vpi.inner_of _ kn ln e t a b o s _ m2 _ _ _ _ _ _ w kecd.kt_doc zt_doc hP h hm (by rw[pPk_size];omega) (by unfold pRho;rw[ByteArray.size_extract];omega) (by rw[tSum_size];show (s / 4).toNat≤1000;omega) (fun w1=>kcon.pub kn ln e t a b o s sd h w1) fun w1=>?_
 refine(vpc.parse_any kn ln e t a b o s _ w1 h).mono ?_
 rintro y w' ⟨⟨v,rfl,hv⟩,hb⟩
 obtain⟨v1,v2,rfl,q1,q2⟩:=made_parts (Sw kn ln e t a b o s sd m r) n ha (show (1:Int)≤t by omega) (show (1:Int)≤e by omega) (show (0:Int)≤o by omega) (show o≤(255:Int) by omega) hok hv
 exact⟨⟨v1,v2,rfl,rkse.holds_base q1,rkse.holds_base q2⟩,hb⟩
theorem ok_made (kn ln:Nat) (e t a b o s:Int) (sd m r:ByteArray) (n:Nat) (h:latt (kn:Int) (ln:Int) e t a b o s=true) (hok:tOk (Sw kn ln e t a b o s sd m r) n=true):
 vOk ζd kn ln e t a b s (pRho sd kn ln) (out TL RL 2 (pTr ζd sd kn ln e++m) 64) (tSum (Sw kn ln e t a b o s sd m r) n) (pHi ζd sd kn ln e) (tZ (Sw kn ln e t a b o s sd m r) n) (tHn (Sw kn ln e t a b o s sd m r) n)=true:=by
 obtain⟨hk,hl,ht,he,ha⟩:=latt_of h
 have hb:b=95232∨b=261888:=by
  unfold latt okg at h
  simp only[Bool.and_eq_true,Bool.or_eq_true,decide_eq_true_eq,beq_iff_eq]at h
  omega
 obtain⟨tau,rfl⟩:=Int.eq_ofNat_of_zero_le (a:=t) (by omega)
 exact takes ζd _ inv_d sq_d sd m r kn ln tau e a b o s he hb (by omega) n (Sw kn ln e (tau:Int) a b o s sd m r) rfl hok
theorem verify_made (kn ln:Nat) (e t a b o s:Int) (sd m r x c:ByteArray) (n:Nat) (w:World) (hP:Gp w) (h:latt (kn:Int) (ln:Int) e t a b o s=true) (hok:tOk (Sw kn ln e t a b o s sd m r) n=true) (hc:c.size≤255∧x.size≤60000):
 Calls Tryz.prog 9 #[.agg TA,.agg #[.int .i64 (kn:Int),.int .i64 (ln:Int),.int .i64 e,.int .i64 t,.int .i64 a,.int .i64 b,.int .i64 o,.int .i64 s],.string (pPk ζd sd kn ln e),.string x,.string c,.string (tSig (Sw kn ln e t a b o s sd m r) n)] w fun y w'=>y=.returned (.tuple #[.bool (vOk ζd kn ln e t a b s (pRho sd kn ln) (out TL RL 2 (pTr ζd sd kn ln e++msg c x) 64) (tSum (Sw kn ln e t a b o s sd m r) n) (pHi ζd sd kn ln e) (tZ (Sw kn ln e t a b o s sd m r) n) (tHn (Sw kn ln e t a b o s sd m r) n)),.int .i64 0])∧Below w.heap.size w w':=by
 have h1:=vpi.verify_gen (T:=TA) (kn:Int) (ln:Int) e t a b o s (pPk ζd sd kn ln e) x c (tSig (Sw kn ln e t a b o s sd m r) n) w ta_size hP (fun m2=>.tuple #[.bool (vOk ζd kn ln e t a b s (pRho sd kn ln) (out TL RL 2 (pTr ζd sd kn ln e++m2) 64) (tSum (Sw kn ln e t a b o s sd m r) n) (pHi ζd sd kn ln e) (tZ (Sw kn ln e t a b o s sd m r) n) (tHn (Sw kn ln e t a b o s sd m r) n)),.int .i64 0]) (fun m2=>⟨_,_,rfl⟩) fun m2 w2 q1 q2=>inner_made kn ln e t a b o s sd m r m2 n w2 q1 h hok q2
 rw[if_pos hc]at h1
 exact h1
noncomputable def Sa:Sg:=Sw 1 1 2 20 131072 95232 60 128 d32 (msg ⟨#[99]⟩ ⟨#[97,98,99]⟩) z32
theorem sa_ok:tOk Sa 0=true:=by
 have h:=mlsb.sign_awake d32 (msg ⟨#[99]⟩ ⟨#[97,98,99]⟩) z32 (by decide +kernel) (by decide +kernel) (by decide +kernel)
 unfold Sa Sw
 rw[zt_is]
 exact h
theorem lat4:latt ((1:Nat):Int) ((1:Nat):Int) 2 20 131072 95232 60 128=true:=by decide +kernel
theorem sign_a (w:World) (hP:Gp w):Calls Tryz.prog 19 #[.agg TA,.agg set4,.string (pSk ζd d32 1 1 2),.string ⟨#[97,98,99]⟩,.string ⟨#[99]⟩,.string ⟨#[]⟩] w fun e w'=>e=.returned (.tuple #[.string (tSig Sa 0),.int .i64 0])∧Below w.heap.size w w':=by
 have hfin:fin (tTry Sa 814 0)=.tuple #[.string (tSig Sa 0),.int .i64 0]:=fin_at Sa 0 (by decide) (fun k hk=>absurd hk (Nat.not_lt_zero k)) sa_ok
 obtain⟨F,hF⟩:∃ F:ByteArray→ByteArray→Value,∀ m q,F m q=(if q.size=32 then fin (tTry (Sw 1 1 2 20 131072 95232 60 128 d32 m q) 814 0) else .tuple #[.string ⟨#[]⟩,.int .i64 1]):=⟨_,fun _ _=>rfl⟩
 have h:=sign_gen (T:=TA) 1 1 2 20 131072 95232 60 128 (pSk ζd d32 1 1 2) ⟨#[97,98,99]⟩ ⟨#[99]⟩ ⟨#[]⟩ w ta_size hP F
  (fun m q=>by
   rw[hF]
   by_cases hq:q.size=32
   ·rw[if_pos hq];exact fin_two _
   ·rw[if_neg hq];exact⟨_,_,rfl⟩)
  (fun m q w2 h2 h3 hqq=>by
   rw[hF]
   by_cases hq:q.size=32
   ·rw[if_pos hq]
    exact inner_of _ 1 1 2 20 131072 95232 60 128 (pSk ζd d32 1 1 2) (pHead ζd d32 1 1 2) m q _ _ _ w2 kecd.kt_doc zt_doc h2 lat4 h3 hq (pHead_size _ _ _ _ _) (fun w3=>kcon.sec 1 1 2 20 131072 95232 60 128 d32 lat4 w3)
   ·rw[if_neg hq]
    have h9:=inner_any _ 1 1 2 20 131072 95232 60 128 (pSk ζd d32 1 1 2) m q w2 kecd.kt_doc zt_doc h2 lat4 h3
    unfold resI at h9
    rw[if_neg hq]at h9
    exact h9)
 have c1:(⟨#[99]⟩:ByteArray).size≤255∧(⟨#[97,98,99]⟩:ByteArray).size≤60000:=by decide
 have c2:(⟨#[]⟩:ByteArray).size=0:=rfl
 have c3:z32.size=32:=by decide +kernel
 rw[if_pos c1,if_pos c2,hF,if_pos c3]at h
 rw[←hfin]
 exact h
noncomputable def Va (x:ByteArray):Bool:=vOk ζd 1 1 2 20 131072 95232 128 (pRho d32 1 1) (out TL RL 2 (pTr ζd d32 1 1 2++x) 64) (tSum Sa 0) (pHi ζd d32 1 1 2) (tZ Sa 0) (tHn Sa 0)
theorem va_yes:Va (msg ⟨#[99]⟩ ⟨#[97,98,99]⟩)=true:=ok_made 1 1 2 20 131072 95232 60 128 d32 (msg ⟨#[99]⟩ ⟨#[97,98,99]⟩) z32 0 lat4 sa_ok
theorem va_no:Va (msg ⟨#[99]⟩ ⟨#[97,98,100]⟩)=false:=by
 have h2:=refused _ nttt.inv_doc nttt.sq_doc d32 (msg ⟨#[99]⟩ ⟨#[97,98,99]⟩) (msg ⟨#[99]⟩ ⟨#[97,98,100]⟩) z32 (by decide +kernel) (by decide +kernel) (by decide +kernel) (by decide +kernel) Sa (by unfold Sa Sw;rw[zt_is])
 unfold Va
 rw[zt_is]
 exact h2
theorem verify_a (x:ByteArray) (w:World) (hP:Gp w) (hx:x.size≤1000):Calls Tryz.prog 9 #[.agg TA,.agg set4,.string (pPk ζd d32 1 1 2),.string x,.string ⟨#[99]⟩,.string (tSig Sa 0)] w fun y w'=>y=.returned (.tuple #[.bool (Va (msg ⟨#[99]⟩ x)),.int .i64 0])∧Below w.heap.size w w':=
 verify_made 1 1 2 20 131072 95232 60 128 d32 (msg ⟨#[99]⟩ ⟨#[97,98,99]⟩) z32 x ⟨#[99]⟩ 0 w hP lat4 sa_ok ⟨by decide,by omega⟩
theorem awake_any (w:World) (hP:Gp w):Calls Tryz.prog 6 #[] w fun e w'=>e=.returned (.bool true)∧Below w.heap.size w w':=
 awake14.awake_any (pPk ζd d32 1 1 2) (pSk ζd d32 1 1 2) (tSig Sa 0) w hP (fun w1 h1=>kcon.pair 1 1 2 20 131072 95232 60 128 d32 lat4 w1 h1 rfl) sign_a (fun w1 h1=>by rw[←va_yes];exact verify_a _ w1 h1 (by decide)) (fun w1 h1=>by rw[←va_no];exact verify_a _ w1 h1 (by decide))
end Go.Proofs.YtomphjajkkddkaaGreatDoor.vpw
