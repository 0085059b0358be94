/-
  What the reference's Set returns. Conditions: none. The law package's own look at signing ('awake') 
-/
import Derived.Test.YtgahcabgmfbhdaaGreatDoorZt16
import Derived.Test.YtgahcabgmfbhdaaGreatDoorZt02
import Derived.Test.YtgahcabgmfbhdaaGreatDoorZt04
import Derived.Test.YtgahcabgmfbhdaaGreatDoorZt05
import Derived.Test.YtgahcabgmfbhdaaGreatDoorZt22
import Derived.Test.YtgahcabgmfbhdaaGreatDoorZt11
import Derived.Test.YtgahcabgmfbhdaaGreatDoorZt19
import Derived.Test.YtgahcabgmfbhdaaGreatDoorZt18
import Derived.Test.YtgahcabgmfbhdaaGreatDoorProg
import Derived.Test.YtgahcabgmfbhdaaGreatDoorZt01
set_option maxRecDepth 100000
set_option maxHeartbeats 16000000
set_option linter.unusedSimpArgs false
set_option linter.unusedVariables false
open Go Go.RowKit
namespace Go.Proofs.YtgahcabgmfbhdaaGreatDoor
namespace r9st
open arr mem rndm rset
theorem set_1(w:World):Calls Tryz.prog 8 #[.int .i64 1] w (zB w (.tuple #[.agg set1,.int .i64 0])):=by
 obtain⟨hz,hsize⟩:=zero_of_info infoL;have hb:=built1;obtain⟨z,HZ⟩:=xaa set0;rw[HZ.out]at hz;have Zs:Ω (z.size=8):=⟨by rw[←HZ.out];rfl⟩;obtain⟨V,HV⟩:=xaa set1;have Vi:Ω ((Tryz.prog.info? 37).map (·.size)=some V.size):=⟨by rw[←HV.out];exact hsize⟩;have Vz:Ω (z.size=V.size):=⟨by rw[Zs.out,←HV.out];rfl⟩;have Vo:Ω (V.all (·.oneCell')=true):=⟨by rw[←HV.out];simp[set1,Value.oneCell']⟩;rw[HV.out]at hb;rw[HV.out];have Hb:=ω hb;obtain⟨W,hW⟩:=zev (w.alloc (.cells z 37));have HW:=ω hW;have Hres:Ω (W.heap[w.heap.size]? = some (.cells z 37 (0,0))):=⟨by rw[←hW];exact xae w _ _ rfl⟩;have HB:=zba hW;clear hb hsize hW;go_enter Tryz.func8,Tryz.ntmps8;go_wp2_with (first
  | (rw[HW.out])
  | (refine xc4 rfl 37 _ rfl V Hb.out ?_)
  | (refine wpList_store_row rfl 37 _ _ rfl w.heap.size V rfl rfl 37 _ Hres.out Vi.out Vz.out Vo.out ?_))
 refine bodyPost_ret_by (v:=.tuple #[.agg V,.int .i64 0]) (rset.results_cell_tmp rfl _ _ w.heap.size 37 _ (0,0) _ rfl (setRow_heap _ _ _ _ _ _ Hres.out) zZ rfl Vi.out _ rfl) rfl ?_;exact⟨rfl,HB.out.trans (below_setRow _ _ _ (Nat.le_refl _))⟩
theorem set_2(w:World):Calls Tryz.prog 8 #[.int .i64 2] w (zB w (.tuple #[.agg set2,.int .i64 0])):=by
 obtain⟨hz,hsize⟩:=zero_of_info infoL;have hb:=built2;obtain⟨z,HZ⟩:=xaa set0;rw[HZ.out]at hz;have Zs:Ω (z.size=8):=⟨by rw[←HZ.out];rfl⟩;obtain⟨V,HV⟩:=xaa set2;have Vi:Ω ((Tryz.prog.info? 37).map (·.size)=some V.size):=⟨by rw[←HV.out];exact hsize⟩;have Vz:Ω (z.size=V.size):=⟨by rw[Zs.out,←HV.out];rfl⟩;have Vo:Ω (V.all (·.oneCell')=true):=⟨by rw[←HV.out];simp[set2,Value.oneCell']⟩;rw[HV.out]at hb;rw[HV.out];have Hb:=ω hb;obtain⟨W,hW⟩:=zev (w.alloc (.cells z 37));have HW:=ω hW;have Hres:Ω (W.heap[w.heap.size]? = some (.cells z 37 (0,0))):=⟨by rw[←hW];exact xae w _ _ rfl⟩;have HB:=zba hW;clear hb hsize hW;go_enter Tryz.func8,Tryz.ntmps8;go_wp2_with (first
  | (rw[HW.out])
  | (refine xc4 rfl 37 _ rfl V Hb.out ?_)
  | (refine wpList_store_row rfl 37 _ _ rfl w.heap.size V rfl rfl 37 _ Hres.out Vi.out Vz.out Vo.out ?_))
 refine bodyPost_ret_by (v:=.tuple #[.agg V,.int .i64 0]) (rset.results_cell_tmp rfl _ _ w.heap.size 37 _ (0,0) _ rfl (setRow_heap _ _ _ _ _ _ Hres.out) zZ rfl Vi.out _ rfl) rfl ?_;exact⟨rfl,HB.out.trans (below_setRow _ _ _ (Nat.le_refl _))⟩
theorem set_3(w:World):Calls Tryz.prog 8 #[.int .i64 3] w (zB w (.tuple #[.agg set3,.int .i64 0])):=by
 obtain⟨hz,hsize⟩:=zero_of_info infoL;have hb:=built3;obtain⟨z,HZ⟩:=xaa set0;rw[HZ.out]at hz;have Zs:Ω (z.size=8):=⟨by rw[←HZ.out];rfl⟩;obtain⟨V,HV⟩:=xaa set3;have Vi:Ω ((Tryz.prog.info? 37).map (·.size)=some V.size):=⟨by rw[←HV.out];exact hsize⟩;have Vz:Ω (z.size=V.size):=⟨by rw[Zs.out,←HV.out];rfl⟩;have Vo:Ω (V.all (·.oneCell')=true):=⟨by rw[←HV.out];simp[set3,Value.oneCell']⟩;rw[HV.out]at hb;rw[HV.out];have Hb:=ω hb;obtain⟨W,hW⟩:=zev (w.alloc (.cells z 37));have HW:=ω hW;have Hres:Ω (W.heap[w.heap.size]? = some (.cells z 37 (0,0))):=⟨by rw[←hW];exact xae w _ _ rfl⟩;have HB:=zba hW;clear hb hsize hW;go_enter Tryz.func8,Tryz.ntmps8;go_wp2_with (first
  | (rw[HW.out])
  | (refine xc4 rfl 37 _ rfl V Hb.out ?_)
  | (refine wpList_store_row rfl 37 _ _ rfl w.heap.size V rfl rfl 37 _ Hres.out Vi.out Vz.out Vo.out ?_))
 refine bodyPost_ret_by (v:=.tuple #[.agg V,.int .i64 0]) (rset.results_cell_tmp rfl _ _ w.heap.size 37 _ (0,0) _ rfl (setRow_heap _ _ _ _ _ _ Hres.out) zZ rfl Vi.out _ rfl) rfl ?_;exact⟨rfl,HB.out.trans (below_setRow _ _ _ (Nat.le_refl _))⟩
theorem xlg(w:World):Calls Tryz.prog 8 #[.int .i64 4] w (zB w (.tuple #[.agg set4,.int .i64 0])):=by
 obtain⟨hz,hsize⟩:=zero_of_info infoL;have hb:=built4;obtain⟨z,HZ⟩:=xaa set0;rw[HZ.out]at hz;have Zs:Ω (z.size=8):=⟨by rw[←HZ.out];rfl⟩;obtain⟨V,HV⟩:=xaa set4;have Vi:Ω ((Tryz.prog.info? 37).map (·.size)=some V.size):=⟨by rw[←HV.out];exact hsize⟩;have Vz:Ω (z.size=V.size):=⟨by rw[Zs.out,←HV.out];rfl⟩;have Vo:Ω (V.all (·.oneCell')=true):=⟨by rw[←HV.out];simp[set4,Value.oneCell']⟩;rw[HV.out]at hb;rw[HV.out];have Hb:=ω hb;obtain⟨W,hW⟩:=zev (w.alloc (.cells z 37));have HW:=ω hW;have Hres:Ω (W.heap[w.heap.size]? = some (.cells z 37 (0,0))):=⟨by rw[←hW];exact xae w _ _ rfl⟩;have HB:=zba hW;clear hb hsize hW;go_enter Tryz.func8,Tryz.ntmps8;go_wp2_with (first
  | (rw[HW.out])
  | (refine xc4 rfl 37 _ rfl V Hb.out ?_)
  | (refine wpList_store_row rfl 37 _ _ rfl w.heap.size V rfl rfl 37 _ Hres.out Vi.out Vz.out Vo.out ?_))
 refine bodyPost_ret_by (v:=.tuple #[.agg V,.int .i64 0]) (rset.results_cell_tmp rfl _ _ w.heap.size 37 _ (0,0) _ rfl (setRow_heap _ _ _ _ _ _ Hres.out) zZ rfl Vi.out _ rfl) rfl ?_;exact⟨rfl,HB.out.trans (below_setRow _ _ _ (Nat.le_refl _))⟩
end r9st
namespace awake13
open mem arr tabv built kturn polt rndm
def d32:ByteArray:=⟨#[48,49,50,51,52,53,54,55,56,57,48,49,50,51,52,53,54,55,56,57,48,49,50,51,52,53,54,55,56,57,48,49]⟩
theorem xg8(PK SK SG:ByteArray)(n1 n2 n3:Int)(w:World)(hP:Gp w)(h1:(SG.size:Int)=n3)(h2 : 0<n3)
 (HPr:∀ w1:World,Gp w1→Calls Tryz.prog 17 #[.agg TA,.agg set4,.string d32] w1 (zB w1 (.tuple #[.string PK,.string SK,.int .i64 0])))
 (HSg:∀ w1:World,Gp w1→Calls Tryz.prog 9 #[.agg TA,.agg set4,.string SK,.string ⟨#[97,98,99]⟩,.string ⟨#[99]⟩,.string ⟨#[]⟩] w1 (zB w1 (.tuple #[.string SG,.int .i64 0])))
 (HIn:∀ w1:World,Gp w1→Calls Tryz.prog 11 #[.agg TA,.agg set4,.string SK,.string ⟨#[97,98,99]⟩,.string ⟨#[115,104,111,114,116]⟩] w1 (zB w1 (.tuple #[.string ⟨#[]⟩,.int .i64 1])))
 (HMs:∀ w1:World,Calls Tryz.prog 13 #[.string ⟨#[99]⟩,.string ⟨#[97,98]⟩] w1 (zB w1 (.tuple #[.string ⟨#[0,1,99,97,98]⟩,.int .i64 0])))
 (HSz:∀ w1:World,Calls Tryz.prog 18 #[.agg set4] w1 (zB w1 (.tuple #[.int .i64 n1,.int .i64 n2,.int .i64 n3]))):
 Calls Tryz.prog 6 #[] w (zB w (.bool true)):=by
 have HP:=ω hP;obtain⟨hz,hsize⟩:=zero_of_info built.infoT;obtain⟨hzl,hsizel⟩:=zero_of_info rset.infoL;obtain⟨Zl,HZl⟩:=xaa set0;rw[HZl.out]at hzl;have HZls:Ω (Zl.size=8):=⟨by rw[←HZl.out];rfl⟩;have Hsizel:=ω hsizel;obtain⟨Zt,HZt⟩:=xaa TZ;rw[HZt.out]at hz;have HZts:Ω (Zt.size=465):=⟨by rw[←HZt.out];exact xb3⟩;obtain⟨T,HT⟩:=xaa TA;have HTs:Ω (T.size=465):=⟨by rw[←HT.out];exact xdx⟩;have HTo:Ω (T.all (·.oneCell')=true):=⟨by rw[←HT.out];exact xfl⟩;have HTz:Ω ((Tryz.prog.info? 34).map (·.size)=some T.size):=⟨by rw[HTs.out];kernel_rfl⟩;have Hmk:Ω (∀ w1:World,Calls Tryz.prog 15 #[] w1 (zB w1 (.agg T))):=⟨fun w1=>by rw[←HT.out];exact make.xkf w1⟩;obtain⟨C,HC⟩:=xaa set4;have HCs:Ω (C.size=8):=⟨by rw[←HC.out];rfl⟩;have HCo:Ω (C.all (·.oneCell')=true):=⟨by rw[←HC.out];simp[set4,Value.oneCell']⟩;have HCz:=zsz HCs Hsizel.out;have HSet4:Ω (∀ w1:World,Calls Tryz.prog 16 #[.int .i64 4] w1 (zB w1 (.tuple #[.agg C,.int .i64 0]))):=⟨fun w1=>by rw[←HC.out];exact rset.xlg w1⟩;rw[HC.out]at HSz;rw[HC.out,HT.out]at HPr HSg HIn;have HSz:=ω HSz;have HPr:=ω HPr;have HSg:=ω HSg;have HIn:=ω HIn;have HMs:=ω HMs;clear hsize hsizel hP HT HZl HC HZt;go_enter Tryz.func6,Tryz.ntmps6;go_wp2_with fail;refine(Hmk.out _).mono ?_;rintro e w1 ⟨rfl,hb1⟩;obtain⟨W1,hW1⟩:=zev (w1.alloc (.cells T 34));obtain⟨r1,hs1,b1⟩:=one hW1;have HW1:=ω hW1;have B1:Ω (Below w.heap.size w W1):=⟨hb1.trans (b1.mono hb1.size)⟩;have K0:=ztb r1;clear hb1 hW1 r1 hs1 b1;go_wp2_with (first
  | (refine xam rfl 34 _ _ rfl _ rfl rfl HTz.out (by rw[HTs.out];exact HZts.out) HTo.out rfl ?_)
  | (rw[HW1.out]))
 refine(HSet4.out _).mono ?_;rintro e w3 ⟨rfl,hb3⟩;obtain⟨W3,hW3⟩:=zev (w3.alloc (.cells C 37));obtain⟨r3,hs3,b3⟩:=one hW3;have HW3:=ω hW3;have k3:=zbm hb3 b3;have B3:=zbt B1 k3;have KT1:Ω (∀ w':World,Below W3.heap.size W3 w'→w'.heap[w1.heap.size]? = some (.cells T 34 (0,0))):=⟨fun w' hb=>K0.out _ (k3.trans (hb.mono k3.size))⟩;have KC:=ztb r3;have GP:Ω (∀ w':World,Below W3.heap.size W3 w'→Gp w'):=⟨fun w' hb=>HP.out.later (B3.out.trans (hb.mono B3.out.size))⟩;have E3:Ω (Below W3.heap.size W3 W3):=⟨Below.refl _ _⟩;clear hb3 hW3 r3 hs3 b3 k3 K0;go_wp2_with (first
  | (refine xam rfl 37 _ _ rfl _ rfl rfl HCz.out (by rw[HCs.out];exact HZls.out) HCo.out rfl ?_)
  | (rw[HW3.out])
  | (refine wpList_load_row rfl 34 _ rfl w1.heap.size rfl 34 T (0,0) _ (KT1.out _ E3.out) zY rfl HTz.out ?_)
  | (refine wpList_load_row rfl 37 _ rfl w3.heap.size rfl 37 C (0,0) _ (KC.out _ E3.out) zZ rfl HCz.out ?_))
 clear hz hzl;refine(HPr.out _ (GP.out _ E3.out)).mono ?_;rintro e w4 ⟨rfl,hb⟩;have E4:=zbt E3 hb;clear hb;go_wp2_with (first
  | (refine wpList_load_row rfl 34 _ rfl w1.heap.size rfl 34 T (0,0) _ (KT1.out _ E4.out) zY rfl HTz.out ?_)
  | (refine wpList_load_row rfl 37 _ rfl w3.heap.size rfl 37 C (0,0) _ (KC.out _ E4.out) zZ rfl HCz.out ?_))
 refine(HSg.out _ (GP.out _ E4.out)).mono ?_;rintro e w5 ⟨rfl,hb⟩;have E5:=zbt E4 hb;clear hb;go_wp2_with (first
  | (refine wpList_load_row rfl 34 _ rfl w1.heap.size rfl 34 T (0,0) _ (KT1.out _ E5.out) zY rfl HTz.out ?_)
  | (refine wpList_load_row rfl 37 _ rfl w3.heap.size rfl 37 C (0,0) _ (KC.out _ E5.out) zZ rfl HCz.out ?_))
 refine(HIn.out _ (GP.out _ E5.out)).mono ?_;rintro e w6 ⟨rfl,hb⟩;have E6:=zbt E5 hb;clear hb;go_wp2_with (first
  | (refine wpList_load_row rfl 34 _ rfl w1.heap.size rfl 34 T (0,0) _ (KT1.out _ E6.out) zY rfl HTz.out ?_)
  | (refine wpList_load_row rfl 37 _ rfl w3.heap.size rfl 37 C (0,0) _ (KC.out _ E6.out) zZ rfl HCz.out ?_))
 refine(HMs.out _).mono ?_;rintro e w7 ⟨rfl,hb⟩;have E7:=zbt E6 hb;clear hb;go_wp2_with (first
  | (refine wpList_load_row rfl 34 _ rfl w1.heap.size rfl 34 T (0,0) _ (KT1.out _ E7.out) zY rfl HTz.out ?_)
  | (refine wpList_load_row rfl 37 _ rfl w3.heap.size rfl 37 C (0,0) _ (KC.out _ E7.out) zZ rfl HCz.out ?_))
 refine(HSz.out _).mono ?_;rintro e w8 ⟨rfl,hb⟩;have E8:=zbt E7 hb;clear hb;have hgt:decide (n3 > 0)=true:=decide_eq_true h2;go_wp2_with fail;go_ret;exact⟨rfl,B3.out.trans (E8.out.mono B3.out.size)⟩
end awake13
namespace mgw
open arr mem rsdoc samr saml kaw rbita tabv built kturn rndm mlkm mlkb mlsm mlsb mlkd tabm tabt mgr mgi
open kcon (ζd)
open awake13 (d32)
noncomputable def Sa:Sg:=sgn ζd 1 1 2 20 131072 95232 60 128 (pHead ζd d32 1 1 2) (qS (pSig d32 1 1) 2) (fun i=>qS (pSig d32 1 1) 2 (1+i)) (pLo ζd d32 1 1 2) (msg ⟨#[99]⟩ ⟨#[97,98,99]⟩) z32
theorem zt_is : ζd=tbf.ζ := mlsb.zd_is
theorem xlc:tOk Sa 0=true:=by
 have h:=mlsb.xvf d32 (msg ⟨#[99]⟩ ⟨#[97,98,99]⟩) z32 (by decide +kernel) (by decide +kernel) (by decide +kernel);unfold Sa;rw[zt_is];exact h
theorem xva:((tSig Sa 0).size:Int)=669:=by
 have h:=mlsb.xlp Sa 0 (Or.inl rfl);have e1:(Sa.s / 4).toNat+32*(lb (Sa.a-1).toNat+1)*Sa.ln+(Sa.o.toNat+Sa.kn)=669:=by
  show ((128:Int) / 4).toNat+32*(lb ((131072:Int)-1).toNat+1)*1+((60:Int).toNat+1)=669;decide +kernel
 omega
theorem xg8(w:World)(hP:Gp w):Calls Tryz.prog 6 #[] w (zB w (.bool true)):=by
 have hlat:latt ((1:Nat):Int) ((1:Nat):Int) 2 20 131072 95232 60 128=true:=by decide +kernel
 obtain⟨S,hS⟩:∃ S,S=Sa:=⟨_,rfl⟩;have hok:tOk S 0=true:=by rw[hS];exact xlc
 have hfin:fin (tTry S 814 0)=.tuple #[.string (tSig S 0),.int .i64 0]:=fin_at S 0 (by decide) (fun k hk=>absurd hk (Nat.not_lt_zero k)) hok;have hsz:((tSig S 0).size:Int)=669:=by rw[hS];exact xva
 unfold Sa at hS;have hbad:∀ (m q:ByteArray) (w1:World),Gp w1→m.size≤100000→q.size≠32→Calls Tryz.prog 11 #[.agg TA,.agg set4,.string (pSk ζd d32 1 1 2),.string m,.string q] w1 (zB w1 (.tuple #[.string ⟨#[]⟩,.int .i64 1])):=fun m q w1 h1 h2 h3=>by
  have h:=xey _ 1 1 2 20 131072 95232 60 128 (pSk ζd d32 1 1 2) m q w1 kecd.xdo xeq h1 hlat h2;unfold resI at h;rw[if_neg h3]at h;exact h
 refine awake13.xg8 (pPk ζd d32 1 1 2) (pSk ζd d32 1 1 2) (tSig S 0) (sz1 1) (sz2 1 1 2) 669 w hP hsz (by decide) (fun w1 h1=>kcon.pair 1 1 2 20 131072 95232 60 128 d32 hlat w1 h1 rfl) (fun w1 h1=>?_) (fun w1 h1=>hbad _ _ w1 h1 (by decide) (by decide)) (fun w1=>?_) (fun w1=>?_)
 ·obtain⟨F,hF⟩:∃ F:ByteArray→ByteArray→Value,∀ m q,F m q=(if q.size=32 then fin (tTry (sgn ζd 1 1 2 20 131072 95232 60 128 (pHead ζd d32 1 1 2) (qS (pSig d32 1 1) 2) (fun i=>qS (pSig d32 1 1) 2 (1+i)) (pLo ζd d32 1 1 2) m q) 814 0) else .tuple #[.string ⟨#[]⟩,.int .i64 1]):=⟨_,fun _ _=>rfl⟩;have h:=xis (T:=TA) 1 1 2 20 131072 95232 60 128 (pSk ζd d32 1 1 2) ⟨#[97,98,99]⟩ ⟨#[99]⟩ ⟨#[]⟩ w1 xdx h1 F
   (fun m q=>by
    rw[hF];by_cases hq:q.size=32
    ·rw[if_pos hq];exact xjt _
    ·rw[if_neg hq];exact⟨_,_,rfl⟩)
   (fun m q w2 h2 h3 _=>by
    rw[hF];by_cases hq:q.size=32
    ·rw[if_pos hq];exact xhx _ 1 1 2 20 131072 95232 60 128 (pSk ζd d32 1 1 2) (pHead ζd d32 1 1 2) m q _ _ _ w2 kecd.xdo xeq h2 hlat h3 hq (xe5 _ _ _ _ _) (fun w3=>kcon.sec 1 1 2 20 131072 95232 60 128 d32 hlat w3)
    ·rw[if_neg hq];exact hbad m q w2 h2 h3 hq)
  have c1:(⟨#[99]⟩:ByteArray).size≤255∧(⟨#[97,98,99]⟩:ByteArray).size≤60000:=by decide
  have c2:(⟨#[]⟩:ByteArray).size=0:=rfl;have c3:z32.size=32:=by decide +kernel
  rw[if_pos c1,if_pos c2,hF,if_pos c3,←hS,hfin]at h;exact h
 ·have h:=xe4 ⟨#[99]⟩ ⟨#[97,98]⟩ w1 (by decide) (by decide);rw[←show msg ⟨#[99]⟩ ⟨#[97,98]⟩=⟨#[0,1,99,97,98]⟩ by decide +kernel];exact h
 ·have h:=ksz.xfg 1 1 2 20 131072 95232 60 128 w1;unfold rksz.szs at h;rw[if_pos (show latt 1 1 2 20 131072 95232 60 128=true by decide +kernel),show sz3 1 1 131072 60 128=669 by decide +kernel]at h;exact h
end mgw
namespace rtimes
open Go.RowKit
open tabd arr
theorem zrlong:(Tryz.prog.info? 91).map (·.size)=some 8:=by kernel_rfl
theorem xcs(us vs:List Nat)(w:World)(hu:us.length=8)(hv:vs.length=8)(su:Small us)(sv:Small vs):
 Calls Tryz.prog 48 #[.agg (LK .u64 us),.agg (LK .u64 vs)] w (zB w (.agg (LK .u64 (dg 8 (val us*val vs))))):=by
 have Hu:=Lib.hid hu;have Hv:=Lib.hid hv;have Su:=Lib.hid su;have Sv:=Lib.hid sv;clear hu hv su sv;go_enter Tryz.func48,Tryz.ntmps48;go_wp2
 obtain⟨Z,hZ⟩:=zev ((#[.int .u64 0,.int .u64 0,.int .u64 0,.int .u64 0,.int .u64 0,.int .u64 0,.int .u64 0,.int .u64 0]:Array Value));rw[hZ];have HZ:=Lib.hid hZ;clear hZ;have t0:=xp8 us vs;go_loopw [10] (fun i wr=>∃ (k n:Nat) (ds:List Nat),k≤8∧i=.int .i64 k∧Top us vs k ds∧wr=((((w.alloc (.cells (LK .u64 us) 91)).alloc (.cells (LK .u64 vs) 91)).alloc (.cells Z 91)).alloc (.cells (LK .u64 ds) 91)).drewN n) (fun i _=>8-(intOf i).toNat)
 case atStart=>exact⟨0,0,List.replicate 8 0,by decide,rfl,t0,by rw[←HZ.out];rfl⟩
 case round=>
  obtain⟨k,n,ds,hk,rfl,ht,rfl⟩:=hrel;clear t0;by_cases hlt:k<8
  ·obtain⟨N,hN⟩:=zev (val ds);obtain⟨x,hx⟩:=zev (us.getD k 0);have hm0:=xnu vs ds x k ht.1 ht.2.1;have hxl:=xa6 Su.out k;rw[hx]at hxl;rw[hN]at hm0;have Ht:=Lib.hid ht;have HN:=Lib.hid hN;have hgu:=xar .u64 us k (by rw[Hu.out];exact hlt);rw[hx]at hgu;have HX:=Lib.hid hx;clear ht hN hx;go_wp2
   go_loopw [8,7] (fun j c wr=>∃ (m n:Nat) (d:List Nat) (cc:Nat),m≤8-k∧j=.int .i64 m∧c=.int .u64 cc∧Mid vs N x k m d cc∧wr=((((w.alloc (.cells (LK .u64 us) 91)).alloc (.cells (LK .u64 vs) 91)).alloc (.cells Z 91)).alloc (.cells (LK .u64 d) 91)).drewN n) (fun j _ _=>8-(intOf j).toNat)
   case atStart=>exact⟨0,n,ds,0,by omega,rfl,rfl,hm0,rfl⟩
   case round=>
    obtain⟨m,n,d,c,hm,rfl,rfl,hmid,rfl⟩:=hrel;by_cases hlm:m<8-k
    ·have hs:=mid_step hmid hxl Sv.out (by rw[Hv.out];omega) (by omega);have hb:=xnt (j:=m) (k:=k+m) (c:=c) hxl Sv.out hmid.2.1 hmid.2.2.1;have hgv:=xar .u64 vs m (by rw[Hv.out];omega);have hgd:=xar .u64 d (k+m) (by rw[hmid.1];omega);have hlv:=xa6 Sv.out m;have hld:=xa6 hmid.2.1 (k+m);obtain⟨y,hy⟩:=zev (vs.getD m 0);obtain⟨z,hz⟩:=zev (d.getD (k+m) 0);rw[hy]at hs hb hgv hlv;rw[hz]at hs hb hgd hld;have hc:=hmid.2.2.1;have hset:=xcw .u64 d (k+m) ((x*y+z+c)%4294967296) (bits .and .u64 ((z:Int)+(x:Int)*(y:Int)+(c:Int)) 4294967295) (xrm x y z c hb.2.2);clear hy hz hmid hm0;have w1:IntKind.i64.wrap ((k:Int)+(m:Int))=(k:Int)+(m:Int):=IntWalk.i64_in _ (by omega);have w2:((k:Int)+(m:Int)).toNat=k+m:=by omega
     go_wp2_with fail;go_quiet (fail)
     go_wp2_with fail;go_roundw
     case rel=>
      exact⟨m+1,n+nq,d.set (k+m) ((x*y+z+c)%4294967296),(x*y+z+c) / 4294967296,by omega,by go_num,xbi (xro x y z c),hs,rfl⟩
     case measure=>simp[intOf];omega
    ·obtain rfl:m=8-k:=by omega
     have htop:=xp9 (us:=us) (c:=c) (HN.out ▸ Ht.out.2.2) (by rw[Hu.out];exact hlt) hk Hv.out (by rw[HX.out];exact hmid);clear hm0 hmid hgu;go_wp2_with fail;go_roundw
     case rel=>exact⟨k+1,n,d,by omega,by go_num,htop,rfl⟩
     case measure=>simp[intOf];omega
  ·obtain rfl:k=8:=by omega
   have hend:=xp7 Hu.out ht;have hsz:(LK .u64 ds).size=8:=by rw[xak];exact ht.1
   have hzs:Z.size=8:=by rw[←HZ.out];rfl
   obtain⟨X,hX⟩:=zev (((((w.alloc (.cells (LK .u64 us) 91)).alloc (.cells (LK .u64 vs) 91)).alloc (.cells Z 91)).alloc (.cells (LK .u64 ds) 91)).drewN n);have hb:Below w.heap.size w X:=by
    rw[←hX];exact below_drewN (((((Below.refl _ _).alloc (Nat.le_refl _) _).alloc (by simp) _).alloc (by simp;omega) _).alloc (by simp;omega) _) n
   have g5:X.heap[w.heap.size+1+1+1]? = some (.cells (LK .u64 ds) 91 (0,0)):=by
    rw[←hX,xdl,xae _ _ _ (by simp)]
   have g4:X.heap[w.heap.size+1+1]? = some (.cells Z 91 (0,0)):=by
    rw[←hX,xdl,xaj _ _ _ (by simp),xae _ _ _ (by simp)]
   rw[hX];clear hX ht;go_wp2_with (first | (refine wpList_load_row rfl 91 _ rfl _ rfl 91 _ (0,0) _ g5 Tryz.underlying91 rfl (by rw[hsz];exact zrlong) ?_) | (refine wpList_store_row rfl 91 _ _ rfl _ _ rfl rfl 91 _ g4 (by rw[hsz];exact zrlong) (by rw[hsz];exact hzs) (xau _ _) ?_));refine bodyPost_ret_by (v:=.agg (LK .u64 ds)) (results_cell_row rfl _ _ (w.heap.size+1+1) 91 _ (0,0) _ rfl (setRow_heap _ _ _ _ _ _ g4) Tryz.underlying91 rfl (by rw[hsz];exact zrlong)) rfl ?_;exact⟨by rw[hend],hb.trans (below_setRow _ _ _ (by omega))⟩
end rtimes
namespace above
open Go.RowKit
open tabd arr
theorem xuc(us vs:List Nat)(w:World)(hu:us.length=8)(hv:vs.length=8)(su:Small us)(sv:Small vs):
 Calls Tryz.prog 49 #[.agg (LK .u64 us),.agg (LK .u64 vs)] w (zB w (.bool (decide (val vs<val us)))):=by
 have Hu:=Lib.hid hu;have Hv:=Lib.hid hv;have Su:=Lib.hid su;have Sv:=Lib.hid sv;have HS:=Lib.hid (show Same us vs (8-0) from by unfold Same;rw[List.drop_of_length_le (by omega),List.drop_of_length_le (by omega)]);clear hu hv su sv;go_enter Tryz.func49,Tryz.ntmps49;go_wp2
 go_loopw [5] (fun i wr=>∃ (k n:Nat),k≤8∧i=.int .i64 (7-(k:Int))∧Hid (Same us vs (8-k))∧wr=((w.alloc (.cells (LK .u64 us) 91)).alloc (.cells (LK .u64 vs) 91)).drewN n) (fun i _=>(intOf i+1).toNat)
 case atStart=>exact⟨0,0,by decide,rfl,HS,rfl⟩
 case round=>
  obtain⟨k,n,hk,rfl,hs,rfl⟩:=hrel;clear HS;have hbel:∀ n,Below w.heap.size w (((w.alloc (.cells (LK .u64 us) 91)).alloc (.cells (LK .u64 vs) 91)).drewN n):=fun n=>below_drewN (((Below.refl _ _).alloc (Nat.le_refl _) _).alloc (by simp) _) n
  have Hbel:=Lib.hid hbel;clear hbel;by_cases hlt:k<8
  ·have hgu:=xar .u64 us (7-k) (by rw[Hu.out];omega);have hgv:=xar .u64 vs (7-k) (by rw[Hv.out];omega);have e1:(7-(k:Int)).toNat=7-k:=by omega
   have hs':Same us vs (7-k+1):=by rw[show 7-k+1=8-k by omega];exact hs.out
   by_cases he:us.getD (7-k) 0=vs.getD (7-k) 0
   ·have hn:=Lib.hid (xpo hs' (by rw[Hu.out];omega) (by rw[Hv.out];omega) he);rw[he]at hgu;obtain⟨x,hx⟩:=zev (vs.getD (7-k) 0);rw[hx]at hgu hgv;clear he hx hs' hs;go_wp2_with fail;go_quiet (fail)
    go_wp2_with fail;go_roundw
    case rel=>exact⟨k+1,_,by omega,xbi (by omega),by rw[show 8-(k+1)=7-k by omega];exact hn,rfl⟩
    case measure=>simp[intOf];omega
   ·have hg:=Lib.hid (gt_of us vs (7-k) hs' Hu.out Hv.out Su.out Sv.out (by omega) he);obtain⟨x,hx⟩:=zev (us.getD (7-k) 0);obtain⟨y,hy⟩:=zev (vs.getD (7-k) 0);rw[hx,hy]at hg;rw[hx]at hgu;rw[hy]at hgv;rw[hx,hy]at he;have b1:((x:Int)==(y:Int))=false:=beq_eq_false_iff_ne.2 (by omega);have b2:((x:Int) != (y:Int))=true:=by rw[bne_iff_ne];omega
    clear he hx hy hs' hs;iterate 2 (go_wp2_with fail;go_quiet (fail))
    go_wp2_with fail;go_ret;exact⟨xil hg.out,below_drewN (below_drewN (Hbel.out _) _) _⟩
  ·obtain rfl:k=8:=by omega
   have hz:=Lib.hid (xpp hs.out);go_wp2_with fail;go_ret;exact⟨xil (by rw[hz.out];simp),Hbel.out _⟩
theorem xo6(c:Bool)(us vs:List Nat)(w:World)(hu:us.length=8)(hv:vs.length=8)(su:Small us)(sv:Small vs)(hc:decide (val vs<val us)=c):
 Calls Tryz.prog 49 #[.agg (LK .u64 us),.agg (LK .u64 vs)] w (zB w (.bool c)):=by
 subst hc;exact xuc us vs w hu hv su sv
end above
namespace rroot
open Go.RowKit
open tabd arr rtimes above
open Go.Proofs.YtgahcabgmfbhdaaGreatDoor.raised (xjo)
open root (xf8 rootV)
def St(p k:Nat)(w:World)(y:Nat)(wr:World):Prop:=
 wr.heap[w.heap.size]? = some (.cells (LK .u64 (top p k)) 91 (0,0)) ∧
 wr.heap[w.heap.size+1]? = some (.cells (LK .u64 (dg 8 y)) 91 (0,0))∧Below w.heap.size w wr∧w.heap.size+2≤wr.heap.size
theorem xb2{p k:Nat}{w wr w1:World}{n:Nat}(h:St p k w n wr)(hb:Below wr.heap.size wr w1):St p k w n w1:=by
 obtain⟨h1,h2,h4,h5⟩:=h;have hs:=hb.size;exact⟨(hb.block _ (by omega)).trans h1,(hb.block _ (by omega)).trans h2,h4.trans (hb.mono (by omega)),by omega⟩
theorem xem{p k:Nat}{w wr:World}{n t:Nat}(h:St p k w n wr):St p k w t (wr.setRow (w.heap.size+1) (LK .u64 (dg 8 t))):=by
 obtain⟨h1,h2,h4,h5⟩:=h;exact⟨by rw[setRow_other _ _ _ _ (by omega)];exact h1,setRow_heap _ _ _ _ _ _ h2,h4.trans (below_setRow _ _ _ (by omega)),by simpa using h5⟩
theorem xgx(p k:Nat):(LK .u64 (top p k)).size=8:=by rw[xak,xfo]
theorem xew{w:World}{g:Nat}{o:Obj}(h:w.heap[g]? = some o):g<w.heap.size:=by
 by_cases hlt:g<w.heap.size
 ·exact hlt
 ·rw[Array.getElem?_eq_none (by omega)]at h;cases h
theorem xk7(p:Nat)(w:World)(hp:p≤1000):
 Calls Tryz.prog 20 #[.int .i64 p,.int .i64 2] w (zB w (.int .u64 ((rootN p 2%18446744073709551616:Nat):Int))):=by
 have hsd:∀ v,(LK .u64 (dg 8 v)).size=8:=fun v=>by rw[xak,xat]
 have Hsd:=ω hsd;clear hsd;go_enter Tryz.func20,Tryz.ntmps20;go_wp2_with fail;go_loopw [7] (fun i wr=>∃ n y:Nat,n≤70∧i=.int .i64 (69-(n:Int))∧Ω (rt 70 (p*bp (2*2)) 2 n=y)∧St p 2 w y wr) (fun i _=>(intOf i+1).toNat)
 case atStart=>
  refine⟨0,0,by decide,rfl,⟨rfl⟩,?_,?_,?_,?_⟩
  ·rw[xaj _ _ _ (by simp<;>omega),xae _ _ _ rfl];rfl
  ·rw[xae _ _ _ (by simp<;>omega)];rfl
  ·exact((Below.refl _ _).alloc (Nat.le_refl _) _).alloc (by simp<;>omega) _
  ·simp
 case round=>
  obtain⟨n,y,hn,rfl,Hy,hst⟩:=hrel;have g1:=hst.2.1;have Hst:=ω hst;clear hst;by_cases hlt:n<70
  ·obtain⟨k1,k2,k3,k4,k5⟩:=xio (k:=2) (by decide) hp (by decide : 69≤70) (Nat.le_refl 70) hlt Hy.out;have HR:=ω k5;obtain⟨d,hd⟩:=zev ((dg 8 y).getD ((69-n) / 32) 0);have hget:=xar .u64 (dg 8 y) ((69-n) / 32) (by rw[xat];omega);have hdl:=xa6 (xaz 8 y) ((69-n) / 32);rw[hd]at hget hdl;have hbit:=xhh y (69-n) (by omega) k1 k2;rw[hd]at hbit;have Hbit:=ω hbit;have hq8:(69-n) / 32<8:=by omega
   have hr32:(69-n)%32<32:=by omega
   have w36:(69-(n:Int)) / 32=(((69-n) / 32:Nat):Int):=by omega
   have w40:(69-(n:Int))%32=(((69-n)%32:Nat):Int):=by omega
   obtain⟨q,hq⟩:=zev ((69-n) / 32);obtain⟨r,hr⟩:=zev ((69-n)%32);rw[hq]at w36 hget Hbit hq8;rw[hr]at w40 Hbit hr32;obtain⟨t,ht⟩:=zev (y+2 ^ (70-1-n));rw[ht]at k3 k4 HR;have hset:(LK .u64 (dg 8 y)).setIfInBounds q (.int .u64 (bits .or .u64 (d:Int) (IntKind.u64.wrap (2 ^ r))))=LK .u64 (dg 8 t):=by
    rw[xcw .u64 (dg 8 y) q (d ||| 2 ^ r) _ (xoe d r hdl hr32),←ht];exact congrArg (LK .u64) Hbit.out.1
   have K3:=ω k3;have K4:=ω k4;clear hd hbit hq hr ht k1 k2 k3 k4 k5;go_wp2_with (first | (refine wpList_load_row rfl 91 _ rfl _ rfl 91 _ (0,0) _ g1 Tryz.underlying91 rfl (by rw[Hsd.out];exact zrlong) ?_) | (refine xam rfl 91 _ _ rfl _ rfl rfl (by rw[Hsd.out];exact zrlong) (by rw[Hsd.out];rfl) (xau _ _) rfl ?_) | (refine wpList_load_row rfl 91 _ rfl _ rfl 91 _ (0,0) _ (xae _ _ _ rfl) Tryz.underlying91 rfl (by rw[Hsd.out];exact zrlong) ?_));refine(xcs _ _ _ (xat _ _) (xat _ _) (xaz _ _) (xaz _ _)).mono ?_;rintro e w1 ⟨rfl,hb1⟩;rw[K3.out];have hbA:Below wr.heap.size wr w1:=((Below.refl _ _).alloc (Nat.le_refl _) _).trans (hb1.mono (by simp));have g8:=(hb1.block wr.heap.size (by simp)).trans (xae wr _ _ rfl);have Hst1:=ω (xb2 Hst.out hbA);have g5:=Hst1.out.1;have s8:=xew g8;have s5:=xew g5;clear hb1 hbA g1;have KX:Ω (t*t=t ^ 2):=⟨(Nat.pow_two t).symm⟩;obtain⟨c,Hc⟩:=xaa (decide (val (top p 2)<val (dg 8 (t*t))));go_wp2_with (first | (refine xam rfl 91 _ _ rfl _ rfl rfl (by rw[Hsd.out];exact zrlong) (by rw[Hsd.out];rfl) (xau _ _) rfl ?_) | (refine wpList_load_row rfl 91 _ rfl _ rfl 91 _ (0,0) _ (xae _ _ _ rfl) Tryz.underlying91 rfl (by rw[Hsd.out];exact zrlong) ?_) | (refine wpList_load_row rfl 91 _ rfl _ rfl 91 _ (0,0) _ ((xaj _ _ _ s5).trans g5) Tryz.underlying91 rfl (by rw[xgx];exact zrlong) ?_));have HstX:=ω (xb2 Hst1.out ((Below.refl _ _).alloc (Nat.le_refl _) (.cells (LK .u64 (dg 8 (t*t))) 91)));have gX8:=(xaj w1 (.cells (LK .u64 (dg 8 (t*t))) 91) _ s8).trans g8;refine(xo6 c _ _ _ (xat _ _) (xfo _ _) (xaz _ _) (xix _ _ hp) Hc.out).mono ?_
   rintro e w3 ⟨rfl,hb3⟩;have Hst3:=ω (xb2 HstX.out hb3);have g83:=(hb3.block _ (xew gX8)).trans gX8;have g13:=Hst3.out.2.1;clear hb3;rw[KX.out,K4.out,xi0 p 2 (by decide)]at Hc;cases c
   ·have hle:t ^ 2≤p*bp (2*2):=Nat.not_lt.1 (of_decide_eq_false Hc.out);have HR2:=ω (HR.out.trans (if_pos hle));clear hle;go_wp2_with (first | (refine wpList_load_row rfl 91 _ rfl _ rfl 91 _ (0,0) _ g83 Tryz.underlying91 rfl (by rw[Hsd.out];exact zrlong) ?_) | (refine wpList_store_row rfl 91 _ _ rfl _ _ rfl rfl 91 _ g13 (by rw[Hsd.out];exact zrlong) (by rw[Hsd.out,Hsd.out]) (xau _ _) ?_));go_roundw
    case rel=>exact⟨n+1,t,by omega,xbi (by omega),HR2,xem Hst3.out⟩
    case measure=>simp[intOf];omega
   ·have hle:¬ t ^ 2≤p*bp (2*2):=Nat.not_le.2 (of_decide_eq_true Hc.out);have HR2:=ω (HR.out.trans (if_neg hle));clear hle;go_wp2_with fail;go_roundw
    case rel=>exact⟨n+1,y,by omega,xbi (by omega),HR2,Hst3.out⟩
    case measure=>simp[intOf];omega
  ·obtain rfl:n=70:=by omega
   have b1:=xa6 (xaz 8 y) 1;have b0:=xa6 (xaz 8 y) 0;have c1:=xab g1 (xar .u64 (dg 8 y) 1 (by rw[xat];decide));have c0:=xab g1 (xar .u64 (dg 8 y) 0 (by rw[xat];decide));have hj:=xf8 y;generalize (dg 8 y).getD 1 0=a at *;generalize (dg 8 y).getD 0 0=b at *;have Hj:=ω hj;clear hj g1;go_wp2_with fail;go_ret;exact⟨xcd (by rw[Hj.out,←Hy.out,xph p 2 70 hp (by decide) (by decide)]),Hst.out.2.2.1⟩
theorem xk8(p:Nat)(w:World)(hp:p≤1000):
 Calls Tryz.prog 20 #[.int .i64 p,.int .i64 3] w (zB w (.int .u64 ((rootN p 3%18446744073709551616:Nat):Int))):=by
 have hsd:∀ v,(LK .u64 (dg 8 v)).size=8:=fun v=>by rw[xak,xat]
 have Hsd:=ω hsd;clear hsd;go_enter Tryz.func20,Tryz.ntmps20;go_wp2_with fail;go_loopw [7] (fun i wr=>∃ n y:Nat,n≤70∧i=.int .i64 (69-(n:Int))∧Ω (rt 70 (p*bp (2*3)) 3 n=y)∧St p 3 w y wr) (fun i _=>(intOf i+1).toNat)
 case atStart=>
  refine⟨0,0,by decide,rfl,⟨rfl⟩,?_,?_,?_,?_⟩
  ·rw[xaj _ _ _ (by simp<;>omega),xae _ _ _ rfl];rfl
  ·rw[xae _ _ _ (by simp<;>omega)];rfl
  ·exact((Below.refl _ _).alloc (Nat.le_refl _) _).alloc (by simp<;>omega) _
  ·simp
 case round=>
  obtain⟨n,y,hn,rfl,Hy,hst⟩:=hrel;have g1:=hst.2.1;have Hst:=ω hst;clear hst;by_cases hlt:n<70
  ·obtain⟨k1,k2,k3,k4,k5⟩:=xio (k:=3) (by decide) hp (by decide : 69≤70) (Nat.le_refl 70) hlt Hy.out;have HR:=ω k5;obtain⟨d,hd⟩:=zev ((dg 8 y).getD ((69-n) / 32) 0);have hget:=xar .u64 (dg 8 y) ((69-n) / 32) (by rw[xat];omega);have hdl:=xa6 (xaz 8 y) ((69-n) / 32);rw[hd]at hget hdl;have hbit:=xhh y (69-n) (by omega) k1 k2;rw[hd]at hbit;have Hbit:=ω hbit;have hq8:(69-n) / 32<8:=by omega
   have hr32:(69-n)%32<32:=by omega
   have w36:(69-(n:Int)) / 32=(((69-n) / 32:Nat):Int):=by omega
   have w40:(69-(n:Int))%32=(((69-n)%32:Nat):Int):=by omega
   obtain⟨q,hq⟩:=zev ((69-n) / 32);obtain⟨r,hr⟩:=zev ((69-n)%32);rw[hq]at w36 hget Hbit hq8;rw[hr]at w40 Hbit hr32;obtain⟨t,ht⟩:=zev (y+2 ^ (70-1-n));rw[ht]at k3 k4 HR;have hset:(LK .u64 (dg 8 y)).setIfInBounds q (.int .u64 (bits .or .u64 (d:Int) (IntKind.u64.wrap (2 ^ r))))=LK .u64 (dg 8 t):=by
    rw[xcw .u64 (dg 8 y) q (d ||| 2 ^ r) _ (xoe d r hdl hr32),←ht];exact congrArg (LK .u64) Hbit.out.1
   have K3:=ω k3;have K4:=ω k4;clear hd hbit hq hr ht k1 k2 k3 k4 k5;go_wp2_with (first | (refine wpList_load_row rfl 91 _ rfl _ rfl 91 _ (0,0) _ g1 Tryz.underlying91 rfl (by rw[Hsd.out];exact zrlong) ?_) | (refine xam rfl 91 _ _ rfl _ rfl rfl (by rw[Hsd.out];exact zrlong) (by rw[Hsd.out];rfl) (xau _ _) rfl ?_) | (refine wpList_load_row rfl 91 _ rfl _ rfl 91 _ (0,0) _ (xae _ _ _ rfl) Tryz.underlying91 rfl (by rw[Hsd.out];exact zrlong) ?_));refine(xcs _ _ _ (xat _ _) (xat _ _) (xaz _ _) (xaz _ _)).mono ?_;rintro e w1 ⟨rfl,hb1⟩;rw[K3.out];have hbA:Below wr.heap.size wr w1:=((Below.refl _ _).alloc (Nat.le_refl _) _).trans (hb1.mono (by simp));have g8:=(hb1.block wr.heap.size (by simp)).trans (xae wr _ _ rfl);have Hst1:=ω (xb2 Hst.out hbA);have g5:=Hst1.out.1;have s8:=xew g8;have s5:=xew g5;clear hb1 hbA g1;have KX:Ω (t*t*t=t ^ 3):=⟨by rw[Nat.pow_succ,Nat.pow_two]⟩;obtain⟨c,Hc⟩:=xaa (decide (val (top p 3)<val (dg 8 (t*t*t))));go_wp2_with (first | (refine xam rfl 91 _ _ rfl _ rfl rfl (by rw[Hsd.out];exact zrlong) (by rw[Hsd.out];rfl) (xau _ _) rfl ?_) | (refine wpList_load_row rfl 91 _ rfl _ rfl 91 _ (0,0) _ (xae _ _ _ rfl) Tryz.underlying91 rfl (by rw[Hsd.out];exact zrlong) ?_) | (refine wpList_load_row rfl 91 _ rfl _ rfl 91 _ (0,0) _ ((xaj _ _ _ s8).trans g8) Tryz.underlying91 rfl (by rw[Hsd.out];exact zrlong) ?_));refine(xcs _ _ _ (xat _ _) (xat _ _) (xaz _ _) (xaz _ _)).mono ?_;rintro e w2 ⟨rfl,hb2⟩;rw[xjo,K3.out];have hbB:Below w1.heap.size w1 w2:=((Below.refl _ _).alloc (Nat.le_refl _) _).trans (hb2.mono (by simp))
   have g9:=(hb2.block w1.heap.size (by simp)).trans (xae w1 _ _ rfl);have g82:=(hbB.block _ s8).trans g8;have Hst2:=ω (xb2 Hst1.out hbB);have g52:=Hst2.out.1;have e8:wr.heap.size≠w1.heap.size:=by omega
   have e5:w.heap.size≠w1.heap.size:=by omega
   have hb4:=below_setRow (B:=w1.heap.size) w2 w1.heap.size (LK .u64 (dg 8 (t*t*t))) (Nat.le_refl _);have HstX:=ω (xb2 Hst1.out (hbB.trans hb4));have gX8:=(setRow_other w2 w1.heap.size _ (LK .u64 (dg 8 (t*t*t))) e8).trans g82;have gX5:=(setRow_other w2 w1.heap.size _ (LK .u64 (dg 8 (t*t*t))) e5).trans g52;have gX9:=setRow_heap w2 w1.heap.size _ (LK .u64 (dg 8 (t*t*t))) _ _ g9;clear hb2 hbB g8 g5 g82 g52 e8 e5 hb4;go_wp2_with (first | (refine wpList_store_row rfl 91 _ _ rfl _ _ rfl rfl 91 _ g9 (by rw[Hsd.out];exact zrlong) (by rw[Hsd.out,Hsd.out]) (xau _ _) ?_) | (refine wpList_load_row rfl 91 _ rfl _ rfl 91 _ (0,0) _ gX9 Tryz.underlying91 rfl (by rw[Hsd.out];exact zrlong) ?_) | (refine wpList_load_row rfl 91 _ rfl _ rfl 91 _ (0,0) _ gX5 Tryz.underlying91 rfl (by rw[xgx];exact zrlong) ?_));refine(xo6 c _ _ _ (xat _ _) (xfo _ _) (xaz _ _) (xix _ _ hp) Hc.out).mono ?_;rintro e w3 ⟨rfl,hb3⟩;have Hst3:=ω (xb2 HstX.out hb3);have g83:=(hb3.block _ (xew gX8)).trans gX8;have g13:=Hst3.out.2.1;clear hb3;rw[KX.out,K4.out,xi0 p 3 (by decide)]at Hc;cases c
   ·have hle:t ^ 3≤p*bp (2*3):=Nat.not_lt.1 (of_decide_eq_false Hc.out);have HR2:=ω (HR.out.trans (if_pos hle));clear hle;go_wp2_with (first | (refine wpList_load_row rfl 91 _ rfl _ rfl 91 _ (0,0) _ g83 Tryz.underlying91 rfl (by rw[Hsd.out];exact zrlong) ?_) | (refine wpList_store_row rfl 91 _ _ rfl _ _ rfl rfl 91 _ g13 (by rw[Hsd.out];exact zrlong) (by rw[Hsd.out,Hsd.out]) (xau _ _) ?_));go_roundw
    case rel=>exact⟨n+1,t,by omega,xbi (by omega),HR2,xem Hst3.out⟩
    case measure=>simp[intOf];omega
   ·have hle:¬ t ^ 3≤p*bp (2*3):=Nat.not_le.2 (of_decide_eq_true Hc.out);have HR2:=ω (HR.out.trans (if_neg hle));clear hle;go_wp2_with fail;go_roundw
    case rel=>exact⟨n+1,y,by omega,xbi (by omega),HR2,Hst3.out⟩
    case measure=>simp[intOf];omega
  ·obtain rfl:n=70:=by omega
   have b1:=xa6 (xaz 8 y) 1;have b0:=xa6 (xaz 8 y) 0;have c1:=xab g1 (xar .u64 (dg 8 y) 1 (by rw[xat];decide));have c0:=xab g1 (xar .u64 (dg 8 y) 0 (by rw[xat];decide));have hj:=xf8 y;generalize (dg 8 y).getD 1 0=a at *;generalize (dg 8 y).getD 0 0=b at *;have Hj:=ω hj;clear hj g1;go_wp2_with fail;go_ret;exact⟨xcd (by rw[Hj.out,←Hy.out,xph p 3 70 hp (by decide) (by decide)]),Hst.out.2.2.1⟩
theorem xk9(p k:Int)(w:World)(h:p<0∨1000<p∨(k≠2∧k≠3)):
 Calls Tryz.prog 20 #[.int .i64 p,.int .i64 k] w (zB w (.int .u64 0)):=by
 by_cases h1:p<0
 ·clear h;go_enter Tryz.func20,Tryz.ntmps20;go_wp2_with fail;go_ret;exact⟨rfl,Below.refl _ _⟩
 by_cases h2 : 1000<p
 ·clear h;go_enter Tryz.func20,Tryz.ntmps20;go_wp2_with fail;go_ret;exact⟨rfl,Below.refl _ _⟩
 obtain⟨h3,h4⟩:k≠2∧k≠3:=by omega
 have b3:(k != 2)=true:=by rw[bne_iff_ne];exact h3
 have b4:(k != 3)=true:=by rw[bne_iff_ne];exact h4
 clear h h3 h4;go_enter Tryz.func20,Tryz.ntmps20;go_wp2_with fail;go_ret;exact⟨rfl,Below.refl _ _⟩
theorem xgr(p k:Int)(w:World):
 Calls Tryz.prog 20 #[.int .i64 p,.int .i64 k] w (zB w (.int .u64 (rootV p k:Nat))):=by
 unfold rootV;by_cases h:p<0∨1000<p∨(k≠2∧k≠3)
 ·rw[if_pos h];exact xk9 p k w h
 ·rw[if_neg h];obtain⟨a,rfl⟩:=Int.eq_ofNat_of_zero_le (show 0≤p by omega);rw[Int.toNat_natCast];have hk:k=2∨k=3:=by omega
  rcases hk with rfl | rfl
  ·exact xk7 a w (by omega)
  ·exact xk8 a w (by omega)
end rroot
namespace primes
open Go.RowKit
open primm arr
theorem xu0(n:Nat)(h1 : 1≤n)(h2:n≤100)(w:World):
 Calls Tryz.prog 19 #[.int .i64 (n:Int)] w fun e w'=>∃ v,e=.returned v∧Holds w (pr (n:Int)) v w':=by
 obtain⟨i0,hi,hz0,hz1,hz2⟩:=info_parts infoInt;have HI:=ω (And.intro hi (And.intro hz0 (And.intro hz1 hz2)));clear hi hz0 hz1 hz2;have hst:=xex w;rw[←xdu]at hst;have Hst:=ω hst;clear hst;go_enter Tryz.func19,Tryz.ntmps19;go_wp2_with fail;go_loopw [3,4] (fun v i wr=>∃ x:Nat,2≤x∧x≤542∧i=.int .i64 x∧Ω (Holds w (pl x) v wr)∧(pl x).length≤n) (fun _ i _=>542-(intOf i).toNat)
 case atStart=>exact⟨2,by decide,by decide,rfl,Hst,by rw[xdu];exact Nat.zero_le _⟩
 case round=>
  obtain⟨x,hx2,hx5,rfl,hf,hle⟩:=hrel;clear Hst;obtain⟨L,HL⟩:=xaa (pl x).length;rw[HL.out]at hle;by_cases hlt:L<n
  ·have hx:x<542:=xie hx5 (by rw[HL.out];omega);obtain⟨xs,Hxs⟩:=xaa (pl x);have Hpos:Ω (∀ p∈xs,2≤p∧p≤541):=⟨fun p hp=>xid (x:=x) (by rw[Hxs.out];exact hp)⟩;rw[Hxs.out]at hf HL;have hL:=xe9 x;rw[Hxs.out,HL.out]at hL;have hsz:=xhv hf.out;rcases xcl hf.out with ⟨rfl,rfl⟩ | ⟨g,cap,rfl,hg1,hg2,hcap,hcell⟩
   ·have Hnew:Ω (pl (x+1)=[] ++ [x]):=⟨by rw[xfa hx2 hx (by rw[Hxs.out];rfl),Hxs.out]⟩;obtain rfl:L=0:=HL.out.symm;go_wp2_with fail;refine wp_loop_rounds 1 ?_;rw[rounds_succ];go_wp2_with (at_builtin;refine wpList_append_own _ rfl _ _ 54 rfl w.heap.size 3 i0 (.int .i64 0) 1 8 Tryz.underlying54 HI.out.1 HI.out.2.1 HI.out.2.2.1 HI.out.2.2.2 rfl (by decide) _ _ _ rfl (hf.out.1.alloc _) ⟨wr.heap.size,0,none⟩ 1 1 [.int .i64 (x:Int)] rfl rfl xbc (fun u hu=>by simp at hu;subst hu;rfl) (by simp[maxLen]) (by simp) (by simp;omega) ?_);intro v' w1 hown' hgrow _;have R:=xdm hf.out hown' hgrow;rw[←Hnew.out]at R;have HR:=ω R;clear hown' hgrow R;go_wp2_with fail;go_roundw
    case rel=>exact⟨x+1,by omega,by omega,by go_num,HR,by rw[Hnew.out];exact hlt⟩
    case measure=>simp[intOf];omega
   ·rw[HL.out]at hcap hcell ⊢;have Hown:=ω hf.out.1;rw[HL.out]at Hown;have HC:=ω hcell;clear hcell;go_wp2_with fail;go_loop [5,17] (fun b i=>∃ (k:Nat) (c:Bool),k≤L∧i=.int .i64 k∧b=.bool c∧Ω (c = !(dvd (xs.take k) x))) (fun _ i=>L-(intOf i).toNat)
    case atStart=>exact⟨0,true,Nat.zero_le _,rfl,rfl,⟨rfl⟩⟩
    case round=>
     obtain⟨k,c,hk,rfl,rfl,Hc⟩:=hrel;by_cases hkl:k<L
     ·have hcell:=HC.out k hkl;have hb : 2≤xs.getD k 0∧xs.getD k 0≤541:=Hpos.out _ (by
       rw[List.getD_eq_getElem?_getD,List.getElem?_eq_getElem (by rw[HL.out];exact hkl)];exact List.getElem_mem _)
      have Hs:=ω (xiw (l:=xs) (k:=k) (by rw[HL.out];exact hkl));obtain⟨p,hpp⟩:=zev (xs.getD k 0);rw[hpp]at hcell hb Hs;clear hpp;cases c
      ·have Hn2:Ω (false = !(dvd (xs.take (k+1)) x)):=⟨by
        have h:=Hc.out;rw[Hs.out,xd4];revert h
        cases dvd (xs.take k) x<;>simp⟩
       go_wp2_with fail;go_round
       case rel=>exact⟨k+1,false,by omega,by go_num,rfl,Hn2⟩
       case measure=>simp[intOf];omega
      ·by_cases hm:x%p=0
       ·have b1:((x:Int)%(p:Int) != 0)=false:=bne_eq_false_iff_eq.2 (by exact_mod_cast hm);have Hn2:Ω (false = !(dvd (xs.take (k+1)) x)):=⟨by rw[Hs.out,xd4,hm];simp⟩;clear hm;go_wp2_with fail;go_round
        case rel=>exact⟨k+1,false,by omega,by go_num,rfl,Hn2⟩
        case measure=>simp[intOf];omega
       ·have b1:((x:Int)%(p:Int) != 0)=true:=bne_iff_ne.2 (by exact_mod_cast hm);have Hn2:Ω (true = !(dvd (xs.take (k+1)) x)):=⟨by
         have h:=Hc.out;rw[Hs.out,xd4,beq_false_of_ne hm,Bool.or_false];exact h⟩
        clear hm;go_wp2_with fail;go_round
        case rel=>exact⟨k+1,true,by omega,by go_num,rfl,Hn2⟩
        case measure=>simp[intOf];omega
     ·obtain rfl:k=L:=by omega
      have Hd:Ω (c = !(dvd xs x)):=⟨by rw[Hc.out,List.take_of_length_le (by rw[HL.out];exact Nat.le_refl _)]⟩;cases c
      ·have Hnew:Ω (pl (x+1)=xs):=⟨by rw[xic hx2 hx (by rw[Hxs.out];have:=Hd.out;revert this;cases dvd xs x<;>simp),Hxs.out]⟩;rw[HL.out]at hf;have R:=hf.out;rw[←Hnew.out]at R;have HR:=ω R;clear R;go_wp2_with fail;go_roundw
       case rel=>exact⟨x+1,by omega,by omega,by go_num,HR,by rw[Hnew.out,HL.out];exact hle⟩
       case measure=>simp[intOf];omega
      ·have Hnew:Ω (pl (x+1)=xs ++ [x]):=⟨by rw[xfa hx2 hx (by rw[Hxs.out];have:=Hd.out;revert this;cases dvd xs x<;>simp),Hxs.out]⟩;go_wp2_with (at_builtin;refine wpList_append_own _ rfl _ _ 54 rfl w.heap.size 3 i0 (.int .i64 0) 1 8 Tryz.underlying54 HI.out.1 HI.out.2.1 HI.out.2.2.1 HI.out.2.2.2 rfl (by decide) _ _ _ rfl (Hown.out.alloc _) ⟨wr.heap.size,0,none⟩ 1 1 [.int .i64 (x:Int)] rfl rfl xbc (fun u hu=>by simp at hu;subst hu;rfl) (by unfold maxLen;omega) (by omega) (by simp;omega) ?_);intro v' w1 hown' hgrow _;rw[←HL.out]at hown' hgrow;have R:=xdm hf.out hown' hgrow;rw[←Hnew.out]at R;have HR:=ω R;clear hown' hgrow R;go_wp2_with fail;go_roundw
       case rel=>exact⟨x+1,by omega,by omega,by go_num,HR,by rw[Hnew.out,List.length_append,HL.out];exact hlt⟩
       case measure=>simp[intOf];omega
  ·obtain rfl:n=L:=by omega
   have Hpr:Ω (pl x=pr (n:Int)):=⟨xif hx2 hx5 (by intro _;rw[HL.out];simp) (by intro h;rw[HL.out];omega)⟩;rw[Hpr.out]at hf HL;rcases xcl hf.out with ⟨rfl,hnil⟩ | ⟨g,cap,rfl,hg1,hg2,hcap,hcell⟩
   ·have h0:=HL.out;rw[hnil]at h0;simp at h0;omega
   ·rw[HL.out]at hf ⊢;clear hcell hcap;go_wp2_with fail;go_ret;exact⟨_,rfl,hf.out⟩
theorem xu2(n:Int)(h1 : 100<n)(w:World):
 Calls Tryz.prog 19 #[.int .i64 n] w fun e w'=>∃ v,e=.returned v∧Holds w (pr n) v w':=by
 obtain⟨i0,hi,hz0,hz1,hz2⟩:=info_parts infoInt;have HI:=ω (And.intro hi (And.intro hz0 (And.intro hz1 hz2)));clear hi hz0 hz1 hz2;have hst:=xex w;rw[←xdu]at hst;have Hst:=ω hst;clear hst;go_enter Tryz.func19,Tryz.ntmps19;go_wp2_with fail;go_loopw [3,4] (fun v i wr=>∃ x:Nat,2≤x∧x≤542∧i=.int .i64 x∧Ω (Holds w (pl x) v wr)∧(pl x).length≤100) (fun _ i _=>542-(intOf i).toNat)
 case atStart=>exact⟨2,by decide,by decide,rfl,Hst,by rw[xdu];exact Nat.zero_le _⟩
 case round=>
  obtain⟨x,hx2,hx5,rfl,hf,hle⟩:=hrel;clear Hst;obtain⟨L,HL⟩:=xaa (pl x).length;rw[HL.out]at hle;by_cases hlt:L<100
  ·have hx:x<542:=xie hx5 (by rw[HL.out];omega);obtain⟨xs,Hxs⟩:=xaa (pl x);have Hpos:Ω (∀ p∈xs,2≤p∧p≤541):=⟨fun p hp=>xid (x:=x) (by rw[Hxs.out];exact hp)⟩;rw[Hxs.out]at hf HL;have hL:=xe9 x;rw[Hxs.out,HL.out]at hL;have hsz:=xhv hf.out;rcases xcl hf.out with ⟨rfl,rfl⟩ | ⟨g,cap,rfl,hg1,hg2,hcap,hcell⟩
   ·have Hnew:Ω (pl (x+1)=[] ++ [x]):=⟨by rw[xfa hx2 hx (by rw[Hxs.out];rfl),Hxs.out]⟩;obtain rfl:L=0:=HL.out.symm;go_wp2_with fail;refine wp_loop_rounds 1 ?_;rw[rounds_succ];go_wp2_with (at_builtin;refine wpList_append_own _ rfl _ _ 54 rfl w.heap.size 3 i0 (.int .i64 0) 1 8 Tryz.underlying54 HI.out.1 HI.out.2.1 HI.out.2.2.1 HI.out.2.2.2 rfl (by decide) _ _ _ rfl (hf.out.1.alloc _) ⟨wr.heap.size,0,none⟩ 1 1 [.int .i64 (x:Int)] rfl rfl xbc (fun u hu=>by simp at hu;subst hu;rfl) (by simp[maxLen]) (by simp) (by simp;omega) ?_);intro v' w1 hown' hgrow _;have R:=xdm hf.out hown' hgrow;rw[←Hnew.out]at R;have HR:=ω R;clear hown' hgrow R;go_wp2_with fail;go_roundw
    case rel=>exact⟨x+1,by omega,by omega,by go_num,HR,by rw[Hnew.out];exact hlt⟩
    case measure=>simp[intOf];omega
   ·rw[HL.out]at hcap hcell ⊢;have Hown:=ω hf.out.1;rw[HL.out]at Hown;have HC:=ω hcell;clear hcell;go_wp2_with fail;go_loop [5,17] (fun b i=>∃ (k:Nat) (c:Bool),k≤L∧i=.int .i64 k∧b=.bool c∧Ω (c = !(dvd (xs.take k) x))) (fun _ i=>L-(intOf i).toNat)
    case atStart=>exact⟨0,true,Nat.zero_le _,rfl,rfl,⟨rfl⟩⟩
    case round=>
     obtain⟨k,c,hk,rfl,rfl,Hc⟩:=hrel;by_cases hkl:k<L
     ·have hcell:=HC.out k hkl;have hb : 2≤xs.getD k 0∧xs.getD k 0≤541:=Hpos.out _ (by
       rw[List.getD_eq_getElem?_getD,List.getElem?_eq_getElem (by rw[HL.out];exact hkl)];exact List.getElem_mem _)
      have Hs:=ω (xiw (l:=xs) (k:=k) (by rw[HL.out];exact hkl));obtain⟨p,hpp⟩:=zev (xs.getD k 0);rw[hpp]at hcell hb Hs;clear hpp;cases c
      ·have Hn2:Ω (false = !(dvd (xs.take (k+1)) x)):=⟨by
        have h:=Hc.out;rw[Hs.out,xd4];revert h
        cases dvd (xs.take k) x<;>simp⟩
       go_wp2_with fail;go_round
       case rel=>exact⟨k+1,false,by omega,by go_num,rfl,Hn2⟩
       case measure=>simp[intOf];omega
      ·by_cases hm:x%p=0
       ·have b1:((x:Int)%(p:Int) != 0)=false:=bne_eq_false_iff_eq.2 (by exact_mod_cast hm);have Hn2:Ω (false = !(dvd (xs.take (k+1)) x)):=⟨by rw[Hs.out,xd4,hm];simp⟩;clear hm;go_wp2_with fail;go_round
        case rel=>exact⟨k+1,false,by omega,by go_num,rfl,Hn2⟩
        case measure=>simp[intOf];omega
       ·have b1:((x:Int)%(p:Int) != 0)=true:=bne_iff_ne.2 (by exact_mod_cast hm);have Hn2:Ω (true = !(dvd (xs.take (k+1)) x)):=⟨by
         have h:=Hc.out;rw[Hs.out,xd4,beq_false_of_ne hm,Bool.or_false];exact h⟩
        clear hm;go_wp2_with fail;go_round
        case rel=>exact⟨k+1,true,by omega,by go_num,rfl,Hn2⟩
        case measure=>simp[intOf];omega
     ·obtain rfl:k=L:=by omega
      have Hd:Ω (c = !(dvd xs x)):=⟨by rw[Hc.out,List.take_of_length_le (by rw[HL.out];exact Nat.le_refl _)]⟩;cases c
      ·have Hnew:Ω (pl (x+1)=xs):=⟨by rw[xic hx2 hx (by rw[Hxs.out];have:=Hd.out;revert this;cases dvd xs x<;>simp),Hxs.out]⟩;rw[HL.out]at hf;have R:=hf.out;rw[←Hnew.out]at R;have HR:=ω R;clear R;go_wp2_with fail;go_roundw
       case rel=>exact⟨x+1,by omega,by omega,by go_num,HR,by rw[Hnew.out,HL.out];exact hle⟩
       case measure=>simp[intOf];omega
      ·have Hnew:Ω (pl (x+1)=xs ++ [x]):=⟨by rw[xfa hx2 hx (by rw[Hxs.out];have:=Hd.out;revert this;cases dvd xs x<;>simp),Hxs.out]⟩;go_wp2_with (at_builtin;refine wpList_append_own _ rfl _ _ 54 rfl w.heap.size 3 i0 (.int .i64 0) 1 8 Tryz.underlying54 HI.out.1 HI.out.2.1 HI.out.2.2.1 HI.out.2.2.2 rfl (by decide) _ _ _ rfl (Hown.out.alloc _) ⟨wr.heap.size,0,none⟩ 1 1 [.int .i64 (x:Int)] rfl rfl xbc (fun u hu=>by simp at hu;subst hu;rfl) (by unfold maxLen;omega) (by omega) (by simp;omega) ?_);intro v' w1 hown' hgrow _;rw[←HL.out]at hown' hgrow;have R:=xdm hf.out hown' hgrow;rw[←Hnew.out]at R;have HR:=ω R;clear hown' hgrow R;go_wp2_with fail;go_roundw
       case rel=>exact⟨x+1,by omega,by omega,by go_num,HR,by rw[Hnew.out,List.length_append,HL.out];exact hlt⟩
       case measure=>simp[intOf];omega
  ·obtain rfl:L=100:=by omega
   have Hpr:Ω (pl x=pr n):=⟨xif hx2 hx5 (by intro _;rw[HL.out];omega) (by intro h;rw[HL.out])⟩;rw[Hpr.out]at hf HL;rcases xcl hf.out with ⟨rfl,hnil⟩ | ⟨g,cap,rfl,hg1,hg2,hcap,hcell⟩
   ·have h0:=HL.out;rw[hnil]at h0;simp at h0
   ·rw[HL.out]at hf ⊢;clear hcell hcap;go_wp2_with fail;go_ret;exact⟨_,rfl,hf.out⟩
theorem xu1(n:Int)(w:World)(h:n≤0):
 Calls Tryz.prog 19 #[.int .i64 n] w fun e w'=>∃ v,e=.returned v∧Holds w (pr n) v w':=by
 have hp:pr n=[]:=by unfold pr;rw[show n.toNat=0 by omega];rfl
 have hst:=xex w;rw[←hp]at hst;have Hst:=ω hst;clear hst hp;go_enter Tryz.func19,Tryz.ntmps19;go_wp2_with fail;refine wp_loop_rounds 1 ?_;rw[rounds_succ];go_wp2_with fail;go_ret;exact⟨_,rfl,Hst.out⟩
theorem xuz(n:Int)(w:World):
 Calls Tryz.prog 19 #[.int .i64 n] w fun e w'=>∃ v,e=.returned v∧Holds w (pr n) v w':=by
 by_cases h:n≤0
 ·exact xu1 n w h
 by_cases h1 : 100<n
 ·exact xu2 n h1 w
 obtain⟨m,rfl⟩:=Int.eq_ofNat_of_zero_le (show 0≤n by omega);exact xu0 m (by omega) (by omega) w
end primes
namespace power
open Go.RowKit
open tabm
theorem xuy(x n:Nat)(w:World)(hx:x≤9223372036854775807)(hn:n≤9223372036854775807):
 Calls Tryz.prog 23 #[.int .i64 x,.int .i64 n] w fun e w'=>e=.returned (.int .i64 (pw x n))∧w=w':=by
 have hst:=xo4 x n;go_enter Tryz.func23,Tryz.ntmps23;go_wp2
 go_loop [1,5,0] (fun n' r s=>Keeps x n n' r s) (fun n' _ _=>(intOf n').toNat)
 case atStart=>exact⟨n,1,x%8380417,hn,by decide,Nat.mod_lt _ (by decide),rfl,rfl,by first | rfl | exact congrArg (Value.int .i64) (by norm_cast),hst⟩
 case round=>
  obtain⟨m,R,S,hm,hR,hS,rfl,rfl,rfl,hk⟩:=hrel;have hRS:=xec R S hR hS;have hSS:=xec S S hS hS;by_cases h0:m=0
  ·subst h0;go_wp2
   go_ret;exact⟨xcd (congrArg Nat.cast (xo1 x n R S hk hR)),rfl⟩
  ·by_cases h1:m%2=1
   ·have ho:=xo3 x n R S m hk h1;have hb:(bits .and .i64 (m:Int) 1==1)=true:=by rw[xdd m hm];exact beq_iff_eq.2 (by omega)
    clear h1 hk hst;go_wp2
    go_round
    case rel=>exact⟨m / 2,R*S%8380417,S*S%8380417,by omega,Nat.mod_lt _ (by decide),Nat.mod_lt _ (by decide),xha m,xeu R S,xeu S S,ho⟩
    case measure=>simp[intOf];omega
   ·have ho:=xo2 x n R S m hk (by omega);have hb:(bits .and .i64 (m:Int) 1==1)=false:=by rw[xdd m hm];exact beq_eq_false_iff_ne.2 (by omega)
    clear h1 hk hst;go_wp2
    go_round
    case rel=>exact⟨m / 2,R,S*S%8380417,by omega,hR,Nat.mod_lt _ (by decide),xha m,rfl,xeu S S,ho⟩
    case measure=>simp[intOf];omega
end power
namespace rounds
open Go.RowKit
open tabt arr
open power (xdd)
theorem xu3(w:World):
 Calls Tryz.prog 21 #[] w (zB w (.agg (LK .u64 (rl 168)))):=by
 go_enter Tryz.func21,Tryz.ntmps21;go_wp2_with fail;obtain⟨Z,HZ⟩:=xaa (#[.int .u64 0,.int .u64 0,.int .u64 0,.int .u64 0,.int .u64 0,.int .u64 0,.int .u64 0,.int .u64 0,.int .u64 0,.int .u64 0,.int .u64 0,.int .u64 0,.int .u64 0,.int .u64 0,.int .u64 0,.int .u64 0,.int .u64 0,.int .u64 0,.int .u64 0,.int .u64 0,.int .u64 0,.int .u64 0,.int .u64 0,.int .u64 0]:Array Value);rw[HZ.out];have HZ2:Ω (Z=LK .u64 (rl 0)):=⟨HZ.out.symm⟩;clear HZ;go_loopw [2,5] (fun r i wr=>∃ (k n R:Nat) (ds:List Nat),k≤24∧i=.int .i64 k∧r=.int .i64 R∧Ω (lf (7*k)=R)∧Ω (rl (7*k)=ds)∧wr=((w.alloc (.cells Z 30)).alloc (.cells (LK .u64 ds) 30)).drewN n) (fun _ i _=>24-(intOf i).toNat)
 case atStart=>exact⟨0,0,1,rl 0,by decide,rfl,rfl,⟨rfl⟩,⟨rfl⟩,by rw[←HZ2.out];rfl⟩
 case round=>
  obtain⟨k,n,R,ds,hk,rfl,rfl,Hr,Hds,rfl⟩:=hrel;by_cases hlt:k<24
  ·go_wp2_with fail;go_loopw [2,8] (fun r i wr=>∃ (m n R:Nat) (ds:List Nat),m≤7∧i=.int .i64 m∧r=.int .i64 R∧Ω (lf (7*k+m)=R)∧Ω (rl (7*k+m)=ds)∧wr=((w.alloc (.cells Z 30)).alloc (.cells (LK .u64 ds) 30)).drewN n) (fun _ i _=>7-(intOf i).toNat)
   case atStart=>exact⟨0,n,R,ds,by decide,rfl,rfl,Hr,Hds,rfl⟩
   case round=>
    clear Hr Hds;obtain⟨m,n,R,ds,hm,rfl,rfl,Hr,Hds,rfl⟩:=hrel;by_cases hlm:m<7
    ·have hR:=lf_le (7*k+m);have hd:=xpf (7*k+m) k;have hlen:=xc2 (7*k+m);have ho:=xpg (i:=k) hlm;have he:=xpe (t:=7*k+m);have hov:=xnj (t:=7*k+m);have hin:=lf_in (t:=7*k+m);rw[Hr.out]at hR ho he hov hin;rw[Hds.out]at hd hlen ho he;have hxor:=xqj R hR;have hget:=xar .u64 ds k (by rw[hlen];exact hlt);obtain⟨d,hdd⟩:=zev (ds.getD k 0);rw[hdd]at hd hget ho;have HO:=ω ho;have HE:=ω he;have HV:=ω hov;have HN:=ω hin;have Hlen:=ω hlen;clear ho he hov hin hdd hlen;have hset:=xcw .u64 ds k (d ||| 2 ^ (2 ^ m-1)) _ (xog d m hd hlm);by_cases h1:R%2=1
     ·have hb:(bits .and .i64 (R:Int) 1==1)=true:=by rw[xdd R (by omega)];exact beq_iff_eq.2 (by omega)
      have Hn:=ω (HO.out h1);clear h1;by_cases h2 : 255<R*2
      ·have Hv:=ω (HV.out h2);have hov:(bits .and .i64 ((R:Int)*2) 256 != 0)=true:=by rw[xg7 R hR];exact decide_eq_true h2
       iterate 2 (go_wp2_with fail)
       go_roundw
       case rel=>exact⟨m+1,n,_,_,by omega,by go_num,rfl,Hv,Hn,rfl⟩
       case measure=>simp[intOf];omega
      ·have Hv:=ω (HN.out h2);have hov:(bits .and .i64 ((R:Int)*2) 256 != 0)=false:=by rw[xg7 R hR];exact decide_eq_false h2
       iterate 2 (go_wp2_with fail)
       go_roundw
       case rel=>exact⟨m+1,n,_,_,by omega,by go_num,xbi (by omega),Hv,Hn,rfl⟩
       case measure=>simp[intOf];omega
     ·have hb:(bits .and .i64 (R:Int) 1==1)=false:=by rw[xdd R (by omega)];exact beq_eq_false_iff_ne.2 (by omega)
      have Hn:=ω (HE.out h1);clear h1;by_cases h2 : 255<R*2
      ·have Hv:=ω (HV.out h2);have hov:(bits .and .i64 ((R:Int)*2) 256 != 0)=true:=by rw[xg7 R hR];exact decide_eq_true h2
       go_wp2_with fail;go_roundw
       case rel=>exact⟨m+1,n,_,_,by omega,by go_num,rfl,Hv,Hn,rfl⟩
       case measure=>simp[intOf];omega
      ·have Hv:=ω (HN.out h2);have hov:(bits .and .i64 ((R:Int)*2) 256 != 0)=false:=by rw[xg7 R hR];exact decide_eq_false h2
       go_wp2_with fail;go_roundw
       case rel=>exact⟨m+1,n,_,_,by omega,by go_num,xbi (by omega),Hv,Hn,rfl⟩
       case measure=>simp[intOf];omega
    ·obtain rfl:m=7:=by omega
     have Hr2:Ω (lf (7*(k+1))=R):=⟨Hr.out⟩;have Hd2:Ω (rl (7*(k+1))=ds):=⟨Hds.out⟩;go_wp2_with fail;go_roundw
     case rel=>exact⟨k+1,n,R,ds,by omega,by go_num,rfl,Hr2,Hd2,rfl⟩
     case measure=>simp[intOf];omega
  ·obtain rfl:k=24:=by omega
   have Hd2:Ω (ds=rl 168):=⟨Hds.out.symm⟩;have hsz:(LK .u64 ds).size=24:=by rw[xak,Hd2.out,xc2]
   have hzs:Z.size=24:=by rw[HZ2.out,xak,xc2]
   obtain⟨W,hW⟩:=zev (((w.alloc (.cells Z 30)).alloc (.cells (LK .u64 ds) 30)).drewN n);have hb:Below w.heap.size w W:=by rw[←hW];exact below_drewN (((Below.refl _ _).alloc (Nat.le_refl _) _).alloc (by simp) _) n
   have g1:W.heap[w.heap.size+1]? = some (.cells (LK .u64 ds) 30 (0,0)):=by rw[←hW,xdl,xae _ _ _ (by simp)]
   have g0:W.heap[w.heap.size]? = some (.cells Z 30 (0,0)):=by rw[←hW,xdl,xaj _ _ _ (by simp),xae _ _ _ rfl]
   rw[hW];have Hsz:=ω hsz;have Hzs:=ω hzs;clear hW hsz hzs;go_wp2_with (first | (refine wpList_load_row rfl 30 _ rfl _ rfl 30 _ (0,0) _ g1 Tryz.underlying30 rfl (by rw[Hsz.out];exact zrounds) ?_) | (refine wpList_store_row rfl 30 _ _ rfl _ _ rfl rfl 30 _ g0 (by rw[Hsz.out];exact zrounds) (by rw[Hsz.out];exact Hzs.out) (xau _ _) ?_));refine bodyPost_ret_by (v:=.agg (LK .u64 ds)) (results_cell_row rfl _ _ w.heap.size 30 _ (0,0) _ rfl (setRow_heap _ _ _ _ _ _ g0) Tryz.underlying30 rfl (by rw[Hsz.out];exact zrounds)) rfl ?_;exact⟨by rw[Hd2.out],hb.trans (below_setRow _ _ _ (Nat.le_refl _))⟩
end rounds
namespace turns
open Go.RowKit
open tabt arr
theorem xu5(w:World):
 Calls Tryz.prog 22 #[] w (zB w (.agg (LK .i64 (tl 24)))):=by
 go_enter Tryz.func22,Tryz.ntmps22;go_wp2_with fail;obtain⟨Z,HZ⟩:=xaa (#[.int .i64 0,.int .i64 0,.int .i64 0,.int .i64 0,.int .i64 0,.int .i64 0,.int .i64 0,.int .i64 0,.int .i64 0,.int .i64 0,.int .i64 0,.int .i64 0,.int .i64 0,.int .i64 0,.int .i64 0,.int .i64 0,.int .i64 0,.int .i64 0,.int .i64 0,.int .i64 0,.int .i64 0,.int .i64 0,.int .i64 0,.int .i64 0,.int .i64 0]:Array Value);rw[HZ.out];have HZ2:Ω (Z=LK .i64 (tl 0)):=⟨HZ.out.symm⟩;clear HZ;go_loopw [2,3,5] (fun x y i wr=>∃ (k X Y:Nat),k≤24∧i=.int .i64 k∧x=.int .i64 X∧y=.int .i64 Y∧Ω (xy k=(X,Y))∧wr=(w.alloc (.cells Z 31)).alloc (.cells (LK .i64 (tl k)) 31)) (fun _ _ i _=>24-(intOf i).toNat)
 case atStart=>exact⟨0,1,0,by decide,rfl,rfl,rfl,⟨rfl⟩,by rw[←HZ2.out]⟩
 case round=>
  obtain⟨k,X,Y,hk,rfl,rfl,rfl,Hxy,rfl⟩:=hrel;by_cases hlt:k<24
  ·have hb:=xy_lt k;rw[Hxy.out]at hb;have hX:X<5:=hb.1;have hY:Y<5:=hb.2;have hm:=xec k hlt;have e1:((X:Int)+5*(Y:Int)).toNat=X+5*Y:=by omega
   have hget:=xar .i64 (tl k) (X+5*Y) (by rw[xc3];omega);have hset:=xcw .i64 (tl k) (X+5*Y) ((k+1)*(k+2) / 2%64) _ (xn3 k);rw[show (tl k).set (X+5*Y) ((k+1)*(k+2) / 2%64)=tl (k+1) by rw[tl,Hxy.out]]at hset;have Hn:Ω (xy (k+1)=(Y,(2*X+3*Y)%5)):=⟨by rw[xy,Hxy.out]⟩;clear hb;go_wp2_with fail;go_roundw
   case rel=>exact⟨k+1,Y,(2*X+3*Y)%5,by omega,by go_num,rfl,xbi (by omega),Hn,rfl⟩
   case measure=>simp[intOf];omega
  ·obtain rfl:k=24:=by omega
   have hsz:(LK .i64 (tl 24)).size=25:=by rw[xak,xc3]
   have hzs:Z.size=25:=by rw[HZ2.out,xak,xc3]
   obtain⟨W,hW⟩:=zev ((w.alloc (.cells Z 31)).alloc (.cells (LK .i64 (tl 24)) 31));have hb:Below w.heap.size w W:=by rw[←hW];exact((Below.refl _ _).alloc (Nat.le_refl _) _).alloc (by simp) _
   have g1:W.heap[w.heap.size+1]? = some (.cells (LK .i64 (tl 24)) 31 (0,0)):=by rw[←hW,xae _ _ _ (by simp)]
   have g0:W.heap[w.heap.size]? = some (.cells Z 31 (0,0)):=by rw[←hW,xaj _ _ _ (by simp),xae _ _ _ rfl]
   rw[hW];clear hW;have Hsz:=ω hsz;have Hzs:=ω hzs;clear hsz hzs;go_wp2_with (first | (refine wpList_load_row rfl 31 _ rfl _ rfl 31 _ (0,0) _ g1 Tryz.underlying31 rfl (by rw[Hsz.out];exact zturns) ?_) | (refine wpList_store_row rfl 31 _ _ rfl _ _ rfl rfl 31 _ g0 (by rw[Hsz.out];exact zturns) (by rw[Hsz.out];exact Hzs.out) (xau _ _) ?_));refine bodyPost_ret_by (v:=.agg (LK .i64 (tl 24))) (results_cell_row rfl _ _ w.heap.size 31 _ (0,0) _ rfl (setRow_heap _ _ _ _ _ _ g0) Tryz.underlying31 rfl (by rw[Hsz.out];exact zturns)) rfl ?_;exact⟨rfl,hb.trans (below_setRow _ _ _ (Nat.le_refl _))⟩
end turns
namespace zetas
open Go.RowKit
open tabm tabt arr
theorem xs3:∀ n:Nat,n<256→∀ k:Nat,k<8→bits .or .i64 ((rvTo n k:Nat):Int) (wrap64 (bits .and .i64 ((n:Int) / 2 ^ k) 1*2 ^ (7-k)))=((rvTo n (k+1):Nat):Int):=by decide +kernel
theorem xs4(n:Nat)(w:World)(h:n<256):
 Calls Tryz.prog 24 #[.int .i64 n] w fun e w'=>e=.returned (.int .i64 (rv n:Nat))∧w=w':=by
 go_enter Tryz.func24,Tryz.ntmps24;go_wp2_with fail;go_loop [3,5] (fun r i=>∃ (k R:Nat),k≤8∧i=.int .i64 k∧r=.int .i64 R∧Ω (rvTo n k=R)) (fun _ i=>8-(intOf i).toNat)
 case atStart=>exact⟨0,0,by decide,rfl,rfl,⟨rfl⟩⟩
 case round=>
  obtain⟨k,R,hk,rfl,rfl,Hr⟩:=hrel;by_cases hlt:k<8
  ·have ht:=xs3 n h k hlt;rw[Hr.out]at ht;have Hn:Ω (rvTo n (k+1)=rvTo n (k+1)):=⟨rfl⟩;go_wp2_with fail;go_round
   case rel=>exact⟨k+1,rvTo n (k+1),by omega,by go_num,rfl,Hn⟩
   case measure=>simp[intOf];omega
  ·obtain rfl:k=8:=by omega
   go_wp2_with fail;go_ret;exact⟨xcd (congrArg Nat.cast Hr.out.symm),rfl⟩
end zetas
namespace rmake
open Go.RowKit
open tabm tabd primm tabt arr tabv built primes
open make (Pc xh9 xk4 xk5)
open root (rootV)
theorem xs9{w:World}{Z:Array Value}(hZ:Z.size=465):Ms 34 w (w.heap.size+1) (fun _=>False) ((w.alloc (.cells Z 34)).alloc (.cells Z 34)):=by
 have hg:=xae (w.alloc (.cells Z 34)) (.cells Z 34) (w.heap.size+1) (by simp);have hc:∀ i,i<465→((w.alloc (.cells Z 34)).alloc (.cells Z 34)).cell? ⟨w.heap.size+1,i,none⟩=Z[i]? := fun i _=>cell_of_row _ _ i Z _ (0,0) hg
 exact⟨⟨Z,hZ,by rw[xaj _ _ _ (by simp),xae _ _ _ rfl]⟩,fun i hi=>⟨⟨Z[i],by rw[hc i hi,Array.getElem?_eq_getElem (by omega)]⟩,frozen_of_row _ _ i Z _ hg⟩,fun i hi hS=>hS.elim,⟨by omega,by simp⟩,((Below.refl _ _).alloc (Nat.le_refl _) _).alloc (by simp) _⟩
theorem xn0{T:TypeId}{w wr:World}{g:Nat}{S:Nat→Prop}(h:Ms T w g S wr)(o n:Nat)(ho:o+n≤465):wr.there g o n:=fun j hj=>by
 obtain⟨⟨v,hv⟩,hf⟩:=h.th (o+j) (by omega);exact⟨by rw[hv];rfl,hf⟩
theorem rv_all:∀ j (hj:j<(LK .u64 (rl 168)).toList.length),(LK .u64 (rl 168)).toList[j]=tv (160+j):=by
 intro j hj;have hj2:j<24:=by rw[Array.length_toList,xak,xc2]at hj;exact hj
 rw[xnk,xlz j hj2]
theorem uv_all:∀ j (hj:j<(LK .i64 (tl 24)).toList.length),(LK .i64 (tl 24)).toList[j]=tv (184+j):=by
 intro j hj;have hj2:j<25:=by rw[Array.length_toList,xak,xc3]at hj;exact hj
 rw[xnk,xl0 j hj2]
def Q1(k i:Nat):Prop:=(72≤i∧i<72+k)∨(i<64∧i<k)∨(152≤i∧i<160∧i<152+k)∨(64≤i∧i<72∧i<64+k)
def Q2(k i:Nat):Prop:=i<209+k
theorem xkf(w:World):
 Calls Tryz.prog 7 #[] w (zB w (.agg TA)):=by
 obtain⟨hz,hsize⟩:=zero_of_info infoT;obtain⟨Z,HZ⟩:=xaa TZ;rw[HZ.out]at hz;have HZs:Ω (Z.size=465):=⟨by rw[←HZ.out];exact xb3⟩;have Hsize:=ω hsize;clear hsize;obtain⟨R,HR⟩:=xaa (LK .u64 (rl 168));obtain⟨U,HU⟩:=xaa (LK .i64 (tl 24));have Rs:Ω (R.size=24):=⟨by rw[←HR.out,xak,xc2]⟩;have Us:Ω (U.size=25):=⟨by rw[←HU.out,xak,xc3]⟩;have Ro:Ω (R.all (·.oneCell')=true):=⟨by rw[←HR.out];exact xau _ _⟩;have Uo:Ω (U.all (·.oneCell')=true):=⟨by rw[←HU.out];exact xau _ _⟩;have Rv:Ω (∀ j (hj:j<R.toList.length),R.toList[j]=tv (160+j)):=⟨by rw[←HR.out];exact rv_all⟩;have Uv:Ω (∀ j (hj:j<U.toList.length),U.toList[j]=tv (184+j)):=⟨by rw[←HU.out];exact uv_all⟩;have hms:=xs9 (w:=w) HZs.out;have Hms:=ω hms;clear hms;go_enter Tryz.func7,Tryz.ntmps7;go_wp2_with fail;clear hz;refine(xuz 80 _).mono ?_;rintro e w5 ⟨v,rfl,hh⟩;obtain⟨gp,cap,rfl,hpc,hcap⟩:=xh9 (n:=80) (g:=w.heap.size+1) (by decide) (by decide) hh (by simp);have Hms5:Ω (Ms 34 w (w.heap.size+1) (Q1 0) w5):=⟨(Hms.out.call hh.2).mono (by unfold Q1;omega)⟩;have Hpc:=ω hpc;obtain⟨g,Hg⟩:=xaa (w.heap.size+1);rw[Hg.out]at Hms5 Hpc ⊢;clear hh hpc Hms;go_wp2_with fail;go_loopw [7] (fun i wr=>∃ k:Nat,k≤80∧i=.int .i64 k∧Ω (Ms 34 w g (Q1 k) wr)∧Ω (Pc gp 80 g wr)) (fun i _=>80-(intOf i).toNat)
 case atStart=>exact⟨0,by decide,rfl,Hms5,Hpc⟩
 case round=>
  obtain⟨k,hk,rfl,Hm,Hp⟩:=hrel;clear Hms5 Hpc;by_cases hlt:k<80
  ·skip
   have hpk:=Hp.out.cs k hlt;have Hr:=ω (xk5 k);have Hr2:=ω (xk4 k);have V72:=ω (xly k hlt);have V0:=ω (xqc k);have V152:=ω (xqb k);have V64:=ω (xqd k);have hra:=r3_lt k;have hrb:=r2_lt k;obtain⟨q,hq⟩:=zev (ph.getD k 0);rw[hq]at hpk Hr Hr2;obtain⟨a,ha⟩:=zev (r3 k);obtain⟨b,hb⟩:=zev (r2 k);rw[ha]at Hr V72 V0 hra;rw[hb]at Hr2 V152 V64 hrb;clear hq ha hb;go_wp2_with fail;refine(rroot.xgr q 3 _).mono ?_;rintro e w6 ⟨rfl,hb6⟩;rw[Hr.out];have Hm6:=ω (Hm.out.call hb6);have Hp6:=ω ((Hp.out.call hb6).set (72+k) (.int .u64 (a:Int)));obtain⟨⟨old,hold⟩,hfz⟩:=Hm6.out.th (72+k) (by omega);have Hs1:=ω (Hm6.out.set (72+k) (by omega) V72.out.symm);have hn1:=World.cell?_setCell_same w6 ⟨g,72+k,none⟩ (.int .u64 (a:Int)) hold;clear hb6 hpk hlt;by_cases h64:k<64
   ·obtain⟨⟨old2,hold2⟩,hfz2⟩:=Hm6.out.th k (by omega);have hn2:(w6.setCell ⟨g,72+k,none⟩ (.int .u64 (a:Int))).cell? ⟨g,k,none⟩=some old2:=by
     rw[World.cell?_setCell_other _ _ _ _ (by intro e2;injection e2;omega)];exact hold2
    have Hs2:=ω (Hs1.out.set k (by omega) (v:=.int .u32 ((a:Int) / 4294967296)) (by rw[V0.out h64];exact xbi (by omega)));have Hp7:=ω (Hp6.out.set k (.int .u32 ((a:Int) / 4294967296)));by_cases h8:k<8
    ·go_wp2_with fail;refine(rroot.xgr q 2 _).mono ?_;rintro e w7 ⟨rfl,hb7⟩;rw[Hr2.out];have Hm7:=ω (Hs2.out.call hb7);have Hp8:=ω (((Hp7.out.call hb7).set (152+k) (.int .u64 (b:Int))).set (64+k) (.int .u32 ((b:Int) / 4294967296)));clear hold hfz hn1 hold2 hfz2 hn2 hb7;obtain⟨⟨old3,hold3⟩,hfz3⟩:=Hm7.out.th (152+k) (by omega);obtain⟨⟨old4,hold4⟩,hfz4⟩:=Hm7.out.th (64+k) (by omega);have hn3:=World.cell?_setCell_same w7 ⟨g,152+k,none⟩ (.int .u64 (b:Int)) hold3;have hn4:(w7.setCell ⟨g,152+k,none⟩ (.int .u64 (b:Int))).cell? ⟨g,64+k,none⟩=some old4:=by
      rw[World.cell?_setCell_other _ _ _ _ (by intro e2;injection e2;omega)];exact hold4
     have Hs4:=ω ((Hm7.out.set (152+k) (by omega) (V152.out h8).symm).set (64+k) (by omega) (v:=.int .u32 ((b:Int) / 4294967296)) (by rw[V64.out h8];exact xbi (by omega)));go_wp2_with fail;go_roundw
     case rel=>exact⟨k+1,by omega,by go_num,⟨Hs4.out.mono (by unfold Q1;omega)⟩,Hp8⟩
     case measure=>simp[intOf];omega
    ·go_wp2_with fail;go_roundw
     case rel=>exact⟨k+1,by omega,by go_num,⟨Hs2.out.mono (by unfold Q1;omega)⟩,Hp7⟩
     case measure=>simp[intOf];omega
   ·have h8:¬ k<8:=by omega
    go_wp2_with fail;go_roundw
    case rel=>exact⟨k+1,by omega,by go_num,⟨Hs1.out.mono (by unfold Q1;omega)⟩,Hp6⟩
    case measure=>simp[intOf];omega
  ·obtain rfl:k=80:=by omega
   have Hm2:=Hm;clear Hm Hp;go_wp2_with fail;refine(rounds.xu3 _).mono ?_;rintro e w6 ⟨rfl,hb6⟩;rw[HR.out];have Hm6:=ω (Hm2.out.call hb6);have Hs6:=ω (Hm6.out.sets 160 R.toList (by rw[Array.length_toList,Rs.out];decide) Rv.out);have ht6:=xn0 Hm6.out 160 24 (by decide);clear hb6 Hm2;go_wp2_with (refine wpList_store_mid rfl 30 _ _ rfl g 160 R rfl rfl (by rw[Rs.out];exact ht6) (by rw[Rs.out];exact rounds.zrounds) Ro.out ?_);refine(turns.xu5 _).mono ?_;rintro e w7 ⟨rfl,hb7⟩;rw[HU.out];have Hm7:=ω (Hs6.out.call hb7);have Hs7:=ω (Hm7.out.sets 184 U.toList (by rw[Array.length_toList,Us.out];decide) Uv.out);have ht7:=xn0 Hm7.out 184 25 (by decide);rw[show U.toList.length=25 by rw[Array.length_toList,Us.out],show R.toList.length=24 by rw[Array.length_toList,Rs.out]]at Hs7;clear hb7 Hm6 ht6;go_wp2_with (refine wpList_store_mid rfl 31 _ _ rfl g 184 U rfl rfl (by rw[Us.out];exact ht7) (by rw[Us.out];exact turns.zturns) Uo.out ?_);have Hm8:Ω (Ms 34 w g (Q2 0) (w7.setCells g 184 U.toList)):=⟨Hs7.out.mono (by unfold Q1 Q2;omega)⟩;clear Hm7 Hs6 Hs7 ht7;go_loopw [49] (fun i wr=>∃ k:Nat,k≤256∧i=.int .i64 k∧Ω (Ms 34 w g (Q2 k) wr)) (fun i _=>256-(intOf i).toNat)
   case atStart=>exact⟨0,by decide,rfl,Hm8⟩
   case round=>
    clear Hm8;obtain⟨k,hk,rfl,Hm⟩:=hrel;by_cases hlt:k<256
    ·have hrl:=rv_lt k hlt;have hzt:Ω (pw 1753 (rv k)=zt k):=⟨rfl⟩;have hvz:Ω (tv (209+k)=.int .i64 ((zt k:Nat):Int)):=⟨by rw[xl1 k hlt,xqk 256 k hlt (by decide)]⟩;obtain⟨⟨old,hold⟩,hfz⟩:=Hm.out.th (209+k) (by omega);have Hs:=ω (Hm.out.set (209+k) (by omega) hvz.out.symm);obtain⟨r,Hr⟩:=xaa (rv k);rw[Hr.out]at hrl hzt;go_wp2_with fail;refine(zetas.xs4 k _ hlt).mono ?_;rintro e w9 ⟨rfl,rfl⟩;rw[Hr.out];go_wp2_with fail;refine(power.xuy 1753 r _ (by decide) (by omega)).mono ?_;rintro e w9 ⟨rfl,rfl⟩;rw[hzt.out];go_wp2_with fail;go_roundw
     case rel=>exact⟨k+1,by omega,by go_num,⟨Hs.out.mono (by unfold Q2;omega)⟩⟩
     case measure=>simp[intOf];omega
    ·obtain rfl:k=256:=by omega
     have hall:∀ i,i<465→Q2 256 i:=by unfold Q2;omega
     have hrg:=Hm.out.range hall;obtain⟨Z0,hZ0,hz0⟩:=Hm.out.z;have HZ0:=ω hZ0;have Hb:=ω Hm.out.be;obtain⟨T,HT⟩:=xaa TA;have Hts:Ω (T.size=465):=⟨by rw[←HT.out];exact xdx⟩;have Hto:Ω (T.all (·.oneCell')=true):=⟨by rw[←HT.out];exact xfl⟩;rw[HT.out]at hrg;clear hall Hm hZ0;go_wp2_with (first | (refine wpList_load_mid rfl 34 _ rfl g 0 rfl T.toList _ hrg zY rfl (by rw[Array.length_toList,Hts.out];exact Hsize.out) ?_) | (refine wpList_store_row rfl 34 _ _ rfl _ T rfl (by simp[go_sem]) 34 _ hz0 (by rw[Hts.out];exact Hsize.out) (by rw[Hts.out];exact HZ0.out) Hto.out ?_));refine bodyPost_ret_by (v:=.agg T) (results_cell_row rfl _ _ w.heap.size 34 _ (0,0) _ rfl (setRow_heap _ _ _ _ _ _ hz0) zY rfl (by rw[Hts.out];exact Hsize.out)) rfl ?_;exact⟨by rw[HT.out],Hb.out.trans (below_setRow _ _ _ (Nat.le_refl _))⟩
end rmake
end Go.Proofs.YtgahcabgmfbhdaaGreatDoor
