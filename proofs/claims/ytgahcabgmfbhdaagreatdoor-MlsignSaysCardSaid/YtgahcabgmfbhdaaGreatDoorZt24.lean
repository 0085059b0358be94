/-
  The statement MlsignSays (P13.1 to P13.3): what any secret key, also of any bytes, signs of any mess
-/
import Derived.Test.YtgahcabgmfbhdaaGreatDoorZt22
import Derived.Test.YtgahcabgmfbhdaaGreatDoorZt23
import Derived.Test.YtgahcabgmfbhdaaGreatDoorZt03
import Derived.Test.YtgahcabgmfbhdaaGreatDoorZt02
import Derived.Test.YtgahcabgmfbhdaaGreatDoorZt11
set_option maxRecDepth 100000
set_option maxHeartbeats 16000000
set_option linter.unusedSimpArgs false
set_option linter.unusedVariables false
open Go Go.RowKit
namespace Go.Proofs.YtgahcabgmfbhdaaGreatDoor
namespace l13s
open arr mem stil polys polt pols helda heldb kturn mlkm mlsm mlkd tabm tabt tabv built rset mgr mgi
open rndm (latt set0)
theorem xs2(c x:ByteArray)(w:World):Calls Tryz.prog 13 #[.string c,.string x] w (zB w (resM c x)):=by
 unfold resM;by_cases h:c.size≤255∧x.size≤60000
 ·rw[if_pos h];exact xe4 c x w h.1 h.2
 ·rw[if_neg h];refine(xf9 c x w (by omega)).mono ?_;rintro e w' ⟨rfl,rfl⟩;exact⟨rfl,Below.refl _ _⟩
theorem xus(c x:ByteArray)(w:World):Calls Tryz.prog 14 #[.string c,.string x] w (zB w (resM c x)):=by
 unfold resM;by_cases h:c.size≤255∧x.size≤60000
 ·rw[if_pos h];exact r13m.xe4 c x w h.1 h.2
 ·rw[if_neg h];refine(r13m.xf9 c x w (by omega)).mono ?_;rintro e w' ⟨rfl,rfl⟩;exact⟨rfl,Below.refl _ _⟩
theorem far(wh:Int)(sk x c r:ByteArray)(w:World)(h : 500<x.size∨¬ 500<x.size∧400<c.size∨¬ 500<x.size∧¬ 400<c.size∧5000<sk.size∨¬ 500<x.size∧¬ 400<c.size∧¬ 5000<sk.size∧100<r.size)(hP:Gp w):
 Calls Tryz.prog 3 #[.string sk,.agg #[.string x,.string c,.string r],.int .i64 wh] w (zB w (.bool true)):=by
 have hq:(500:Int)<(x.size:Int)∨¬ (500:Int)<(x.size:Int)∧(400:Int)<(c.size:Int)∨¬ (500:Int)<(x.size:Int)∧¬ (400:Int)<(c.size:Int)∧(5000:Int)<(sk.size:Int)∨¬ (500:Int)<(x.size:Int)∧¬ (400:Int)<(c.size:Int)∧¬ (5000:Int)<(sk.size:Int)∧(100:Int)<(r.size:Int):=by omega
 obtain⟨W,hW⟩:=zev (w.alloc (.cells #[.string x,.string c,.string r] 22));obtain⟨r0,hWs,bW⟩:=polt.one hW;have C0:Ω (∀ w',Below W.heap.size W w'→w'.cell? ⟨w.heap.size,0,none⟩=some (.string x)):=⟨fun w' hb=>xab ((hb.block _ (xac r0)).trans r0) rfl⟩;have C1:Ω (∀ w',Below W.heap.size W w'→w'.cell? ⟨w.heap.size,1,none⟩=some (.string c)):=⟨fun w' hb=>xab ((hb.block _ (xac r0)).trans r0) rfl⟩;have C2:Ω (∀ w',Below W.heap.size W w'→w'.cell? ⟨w.heap.size,2,none⟩=some (.string r)):=⟨fun w' hb=>xab ((hb.block _ (xac r0)).trans r0) rfl⟩;have HW:=ω hW;have BW:Ω (Below w.heap.size w W):=⟨bW⟩;have HAw:=ω (fun (w1:World) (hb:Below W.heap.size W w1)=>mgw.xg8 w1 (hP.later (bW.trans (hb.mono bW.size))));clear hW r0 hWs bW hP h;rcases hq with h1 | ⟨h1,h2⟩ | ⟨h1,h2,h3⟩ | ⟨h1,h2,h3,h4⟩
 all_goals
  go_enter Tryz.func3,Tryz.ntmps3;go_wp2_with (rw[HW.out]);refine xbe (W.heap.size) 9 [0,1,2,3,4,5,6,7,8] (by kernel_rfl) rfl rfl (by decide) (fun hS ops HO=>?_);simp only[List.filterMap_cons,fa,List.getElem?_cons_succ,List.getElem?_cons_zero];refine zU hS ?_;refine zD C0.out hS ?_;refine zU hS ?_;refine zD C1.out hS ?_;refine zU hS ?_;refine zD C2.out hS ?_;iterate 3 (refine zU hS ?_)
  refine zN ?_;clear hS HO;go_wp2_with fail;refine(HAw.out _ (Below.refl _ _).drew).mono ?_;rintro e w3 ⟨rfl,hb3⟩;have h3:Below W.heap.size W w3:=(Below.refl _ _).drew.trans hb3;have B3:Below w.heap.size w w3:=BW.out.trans (h3.mono BW.out.size);go_wp2_with fail;go_ret;exact⟨rfl,B3⟩
theorem near(wh:Int)(j kn ln:Nat)(e t a b o s:Int)(sk x c r A1 A2 A3:ByteArray)(e1 e2 e3:Int)(w:World)(hx:x.size≤500)(hc:c.size≤400)(hk:sk.size≤5000)(hr:r.size≤100)(hP:Gp w)(hj:(IntKind.u64.wrap wh).tmod 4=(j:Int))(hj4:j<4)
 (HSt:∀ w1:World,Calls Tryz.prog 8 #[.int .i64 ((j+1:Nat):Int)] w1 (zB w1 (.tuple #[.agg (zLt (kn:Int) (ln:Int) e t a b o s),.int .i64 0])))
 (HS1:∀ w1:World,Gp w1→Calls Tryz.prog 9 #[.agg TA,.agg (zLt (kn:Int) (ln:Int) e t a b o s),.string sk,.string x,.string c,.string r] w1 (zB w1 (.tuple #[.string A1,.int .i64 e1])))
 (HS2:∀ w1:World,Calls Tryz.prog 10 #[.agg TA,.agg (zLt (kn:Int) (ln:Int) e t a b o s),.string sk,.string x,.string c,.string r] w1 (zB w1 (.tuple #[.string A1,.int .i64 e1])))
 (HI1:∀ w1:World,Gp w1→Calls Tryz.prog 11 #[.agg TA,.agg (zLt (kn:Int) (ln:Int) e t a b o s),.string sk,.string x,.string r] w1 (zB w1 (.tuple #[.string A2,.int .i64 e2])))
 (HI2:∀ w1:World,Calls Tryz.prog 12 #[.agg TA,.agg (zLt (kn:Int) (ln:Int) e t a b o s),.string sk,.string x,.string r] w1 (zB w1 (.tuple #[.string A2,.int .i64 e2])))
 (HM1:∀ w1:World,Calls Tryz.prog 13 #[.string c,.string x] w1 (zB w1 (.tuple #[.string A3,.int .i64 e3])))
 (HM2:∀ w1:World,Calls Tryz.prog 14 #[.string c,.string x] w1 (zB w1 (.tuple #[.string A3,.int .i64 e3]))):
 Calls Tryz.prog 3 #[.string sk,.agg #[.string x,.string c,.string r],.int .i64 wh] w (zB w (.bool true)):=by
 have HA:=ω (fun w1 hg=>mgw.xg8 w1 hg);have HP:=ω hP;obtain⟨hz,hsize⟩:=zero_of_info built.infoT;obtain⟨Zt,HZ⟩:=xaa TZ;rw[HZ.out]at hz;have HZs:Ω (Zt.size=465):=⟨by rw[←HZ.out];exact xb3⟩;obtain⟨hzl,hsizel⟩:=zero_of_info rset.infoL;obtain⟨Zl,HZl⟩:=xaa set0;rw[HZl.out]at hzl;have HZls:Ω (Zl.size=8):=⟨by rw[←HZl.out];rfl⟩;obtain⟨T,HT⟩:=xaa TA;simp only[HT.out]at HS1 HS2 HI1 HI2;have HTs:Ω (T.size=465):=⟨by rw[←HT.out];exact xdx⟩;have HTo:Ω (T.all (·.oneCell')=true):=⟨by rw[←HT.out];exact xfl⟩;have HTz:=zsz HTs hsize;have Hmk:Ω (∀ w1:World,Calls Tryz.prog 7 #[] w1 (zB w1 (.agg T))):=⟨fun w1=>by rw[←HT.out];exact rmake.xkf w1⟩;obtain⟨L,HL⟩:=xaa ((zLt (kn:Int) (ln:Int) e t a b o s):Array Value);simp only[HL.out]at HS1 HS2 HI1 HI2 HSt;have HLs:Ω (L.size=8):=⟨by rw[←HL.out];rfl⟩;have HLo:Ω (L.all (·.oneCell')=true):=⟨by rw[←HL.out];simp[zLt,Value.oneCell']⟩;have HLz:=zsz HLs hsizel;have HSet:=ω HSt;have hs1:=ω HS1;have hs2:=ω HS2;have hi1:=ω HI1;have hi2:=ω HI2;have hm1:=ω HM1;have hm2:=ω HM2;have f1:IntKind.i64.wrap (j:Int)=(j:Int):=zwi;have f2:IntKind.i64.wrap (1+(j:Int))=((j+1:Nat):Int):=zwi;have z1:¬ (500:Int)<(x.size:Int):=by omega
 have z2:¬ (400:Int)<(c.size:Int):=by omega
 have z3:¬ (5000:Int)<(sk.size:Int):=by omega
 have z4:¬ (100:Int)<(r.size:Int):=by omega
 obtain⟨W,hW⟩:=zev (w.alloc (.cells #[.string x,.string c,.string r] 22));obtain⟨r0,hWs,bW⟩:=polt.one hW;have C0:Ω (∀ w',Below W.heap.size W w'→w'.cell? ⟨w.heap.size,0,none⟩=some (.string x)):=⟨fun w' hb=>xab ((hb.block _ (xac r0)).trans r0) rfl⟩;have C1:Ω (∀ w',Below W.heap.size W w'→w'.cell? ⟨w.heap.size,1,none⟩=some (.string c)):=⟨fun w' hb=>xab ((hb.block _ (xac r0)).trans r0) rfl⟩;have C2:Ω (∀ w',Below W.heap.size W w'→w'.cell? ⟨w.heap.size,2,none⟩=some (.string r)):=⟨fun w' hb=>xab ((hb.block _ (xac r0)).trans r0) rfl⟩;have HW:=ω hW;have BW:Ω (Below w.heap.size w W):=⟨bW⟩;clear HS1 HS2 HI1 HI2 HM1 HM2 HSt HT HL hsize hsizel HZ HZl hP hx hc hk hr hW r0 hWs bW;go_enter Tryz.func3,Tryz.ntmps3;go_wp2_with (rw[HW.out]);refine xbe (W.heap.size) 9 [0,1,2,3,4,5,6,7,8] (by kernel_rfl) rfl rfl (by decide) (fun hS ops HO=>?_);simp only[List.filterMap_cons,fa,List.getElem?_cons_succ,List.getElem?_cons_zero];refine zU hS ?_;refine zD C0.out hS ?_;refine zU hS ?_;refine zD C1.out hS ?_;refine zU hS ?_;refine zD C2.out hS ?_;iterate 3 (refine zU hS ?_)
 refine zN ?_;clear hS HO;go_wp2_with fail;refine(Hmk.out _).mono ?_;rintro y w1 ⟨rfl,hb1'⟩;have hb1:Below W.heap.size W w1:=(Below.refl _ _).drew.trans hb1';obtain⟨W1,hW1⟩:=zev (w1.alloc (.cells T 34));obtain⟨r1,hs1',b1⟩:=polt.one hW1;have HW1:=ω hW1;have E1:Ω (Below w.heap.size w W1):=⟨BW.out.trans ((hb1.trans (b1.mono hb1.size)).mono BW.out.size)⟩;have R1:=ω r1;clear hb1 hb1' hW1 r1 hs1' b1;go_wp2_with (first
  | (refine xam rfl 34 _ _ rfl _ rfl rfl HTz.out (by rw[HTs.out];exact HZs.out) HTo.out rfl ?_)
  | (rw[HW1.out]))
 refine(HSet.out _).mono ?_;rintro y w2 ⟨rfl,hb2⟩;obtain⟨W2,hW2⟩:=zev (w2.alloc (.cells L 37));obtain⟨r2,hs2',b2⟩:=polt.one hW2;have HW2:=ω hW2;have E2:Ω (Below w.heap.size w W2):=⟨E1.out.trans ((hb2.trans (b2.mono hb2.size)).mono E1.out.size)⟩;have TB:Ω (∀ w':World,Below W2.heap.size W2 w'→w'.heap[w1.heap.size]? = some (.cells T 34 (0,0))):=⟨fun w' hb=>by
  have h1:=zbm hb2 b2;exact((h1.trans (hb.mono h1.size)).block _ (xac R1.out)).trans R1.out⟩
 have LB:=ztb r2;have GP:Ω (∀ w':World,Below W2.heap.size W2 w'→Gp w'):=⟨fun w' hb=>HP.out.later (E2.out.trans (hb.mono E2.out.size))⟩;clear hb2 hW2 r2 hs2' b2;have F2:Ω (Below W2.heap.size W2 W2):=⟨Below.refl _ _⟩;go_wp2_with (first
  | (refine xam rfl 37 _ _ rfl _ rfl rfl HLz.out (by rw[HLs.out];exact HZls.out) HLo.out rfl ?_)
  | (rw[HW2.out])
  | (refine wpList_load_row rfl 34 _ rfl w1.heap.size rfl 34 T (0,0) _ (TB.out _ F2.out) zY rfl HTz.out ?_)
  | (refine wpList_load_row rfl 37 _ rfl w2.heap.size rfl 37 L (0,0) _ (LB.out _ F2.out) zZ rfl HLz.out ?_))
 refine(hs1.out _ (GP.out _ F2.out)).mono ?_;rintro y w3 ⟨rfl,hb3⟩;have F3:=zbt F2 hb3;clear hb3;go_wp2_with (first
  | (refine wpList_load_row rfl 34 _ rfl w1.heap.size rfl 34 T (0,0) _ (TB.out _ F3.out) zY rfl HTz.out ?_)
  | (refine wpList_load_row rfl 37 _ rfl w2.heap.size rfl 37 L (0,0) _ (LB.out _ F3.out) zZ rfl HLz.out ?_))
 refine(hs2.out _).mono ?_;rintro y w4 ⟨rfl,hb4⟩;have F4:=zbt F3 hb4;clear hb4;go_wp2_with (first
  | (refine wpList_load_row rfl 34 _ rfl w1.heap.size rfl 34 T (0,0) _ (TB.out _ F4.out) zY rfl HTz.out ?_)
  | (refine wpList_load_row rfl 37 _ rfl w2.heap.size rfl 37 L (0,0) _ (LB.out _ F4.out) zZ rfl HLz.out ?_))
 refine(hi1.out _ (GP.out _ F4.out)).mono ?_;rintro y w5 ⟨rfl,hb5⟩;have F5:=zbt F4 hb5;clear hb5;go_wp2_with (first
  | (refine wpList_load_row rfl 34 _ rfl w1.heap.size rfl 34 T (0,0) _ (TB.out _ F5.out) zY rfl HTz.out ?_)
  | (refine wpList_load_row rfl 37 _ rfl w2.heap.size rfl 37 L (0,0) _ (LB.out _ F5.out) zZ rfl HLz.out ?_))
 refine(hi2.out _).mono ?_;rintro y w6 ⟨rfl,hb6⟩;have F6:=zbt F5 hb6;clear hb6;go_wp2_with fail;refine(hm1.out _).mono ?_;rintro y w7 ⟨rfl,hb7⟩;have F7:=zbt F6 hb7;clear hb7;go_wp2_with fail;refine(hm2.out _).mono ?_;rintro y w8 ⟨rfl,hb8⟩;have F8:=zbt F7 hb8;clear hb8;have q1:(A1.toList==A1.toList)=true:=BEq.rfl;have q2:(A2.toList==A2.toList)=true:=BEq.rfl;have q3:(A3.toList==A3.toList)=true:=BEq.rfl;go_wp2_with fail;refine(HA.out _ (GP.out _ F8.out)).mono ?_;rintro y w9 ⟨rfl,hb9⟩;have B9:Below w.heap.size w w9:=E2.out.trans ((F8.out.trans (hb9.mono F8.out.size)).mono E2.out.size);go_wp2_with fail;go_ret;exact⟨rfl,B9⟩
theorem at_set(wh:Int)(j kn ln:Nat)(e t a b o s:Int)(sk x c r:ByteArray)(w:World)(hx:x.size≤500)(hc:c.size≤400)(hk:sk.size≤5000)(hr:r.size≤100)(hP:Gp w)(h:latt (kn:Int) (ln:Int) e t a b o s=true)(hj:(IntKind.u64.wrap wh).tmod 4=(j:Int))(hj4:j<4)
 (HSt:∀ w1:World,Calls Tryz.prog 8 #[.int .i64 ((j+1:Nat):Int)] w1 (zB w1 (.tuple #[.agg (zLt (kn:Int) (ln:Int) e t a b o s),.int .i64 0]))):
 Calls Tryz.prog 3 #[.string sk,.agg #[.string x,.string c,.string r],.int .i64 wh] w (zB w (.bool true)):=by
 have HS1:=fun w1 hg=>mgi.xej _ kn ln e t a b o s sk x c r w1 kecd.xdo kaw.xeq hg h
 have HS2:=fun w1=>rgs.xej _ kn ln e t a b o s sk x c r w1 kecd.xdo kaw.xeq h
 have HI1:=fun w1 hg=>mgi.xey _ kn ln e t a b o s sk x r w1 kecd.xdo kaw.xeq hg h (by omega)
 have HI2:=fun w1=>rgi.xey _ kn ln e t a b o s sk x r w1 kecd.xdo kaw.xeq h (by omega)
 have HM1:=fun w1=>xs2 c x w1
 have HM2:=fun w1=>xus c x w1
 obtain⟨A1,e1,q1⟩:∃ (y:ByteArray) (k:Int),resS (fun k=>((zt k:Nat):Int)%8380417) kn ln e t a b o s sk x c r=.tuple #[.string y,.int .i64 k]:=by
  unfold resS;split
  ·exact xik _ _ _ _ _ _ _ _ _ _ _ _
  ·exact⟨_,_,rfl⟩
 obtain⟨A2,e2,q2⟩:=xik (fun k=>((zt k:Nat):Int)%8380417) kn ln e t a b o s sk x r;obtain⟨A3,e3,q3⟩:∃ (y:ByteArray) (k:Int),resM c x=.tuple #[.string y,.int .i64 k]:=by
  unfold resM;split
  ·exact⟨_,_,rfl⟩
  ·exact⟨_,_,rfl⟩
 simp only[q1]at HS1 HS2;simp only[q2]at HI1 HI2;simp only[q3]at HM1 HM2;exact near wh j kn ln e t a b o s sk x c r A1 A2 A3 e1 e2 e3 w hx hc hk hr hP hj hj4 HSt HS1 HS2 HI1 HI2 HM1 HM2
theorem walk(sk x c r:ByteArray)(wh:Int)(w:World)(ww:sk.size≤maxLen)(wi:(Lit.int .i64 wh).wf=true)(hP:Gp w):Calls Tryz.prog 3 #[.string sk,.agg #[.string x,.string c,.string r],.int .i64 wh] w (zB w (.bool true)):=by
 by_cases hx : 500<x.size
 ·exact far wh sk x c r w (Or.inl hx) hP
 by_cases hc : 400<c.size
 ·exact far wh sk x c r w (Or.inr (Or.inl ⟨hx,hc⟩)) hP
 by_cases hk : 5000<sk.size
 ·exact far wh sk x c r w (Or.inr (Or.inr (Or.inl ⟨hx,hc,hk⟩))) hP
 by_cases hr : 100<r.size
 ·exact far wh sk x c r w (Or.inr (Or.inr (Or.inr ⟨hx,hc,hk,hr⟩))) hP
 have h0 : 0≤IntKind.u64.wrap wh:=by rw[IntKind.wrap_u64];omega
 obtain⟨n,hn⟩:=Int.eq_ofNat_of_zero_le (a:=(IntKind.u64.wrap wh).tmod 4) (Int.tmod_nonneg _ h0);have hn4:n<4:=by
  have:=Int.tmod_lt_of_pos (IntKind.u64.wrap wh) (show (0:Int)<4 by decide);omega
 rcases (show n=0∨n=1∨n=2∨n=3 by omega) with rfl | rfl | rfl | rfl
 ·exact at_set wh 0 4 4 2 39 131072 95232 80 128 sk x c r w (by omega) (by omega) (by omega) (by omega) hP (by decide +kernel) hn hn4 (fun w1=>r9st.set_1 w1)
 ·exact at_set wh 1 6 5 4 49 524288 261888 55 192 sk x c r w (by omega) (by omega) (by omega) (by omega) hP (by decide +kernel) hn hn4 (fun w1=>r9st.set_2 w1)
 ·exact at_set wh 2 8 7 2 60 524288 261888 75 256 sk x c r w (by omega) (by omega) (by omega) (by omega) hP (by decide +kernel) hn hn4 (fun w1=>r9st.set_3 w1)
 ·exact at_set wh 3 1 1 2 20 131072 95232 60 128 sk x c r w (by omega) (by omega) (by omega) (by omega) hP (by decide +kernel) hn hn4 (fun w1=>r9st.xlg w1)
end l13s
end Go.Proofs.YtgahcabgmfbhdaaGreatDoor
