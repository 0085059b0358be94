/-
  The statement MlverifyTakes (P14.4): its row and its card. Conditions: none, but what the row lists of three package variables (keccak's places, which is read, and two tables of unicode/utf8, which are not), which the card ties to the program's text; for every input that the form speaks of.
-/
import Derived.Test.YtomphjajkkddkaaGreatDoorZt23
import Derived.Test.YtomphjajkkddkaaGreatDoorZt03
import Derived.Test.YtomphjajkkddkaaGreatDoorZt04
import Derived.Test.YtomphjajkkddkaaGreatDoorRows
import Derived.Test.YtomphjajkkddkaaGreatDoorCards
import Derived.Test.YtomphjajkkddkaaGreatDoorTie
import Derived.Test.YtomphjajkkddkaaGreatDoorZt02
import Derived.Lay
import Derived.LaidMore
import Derived.Stop.Joined
import Derived.SevenTiedAt
import Derived.ShutString
import Derived.ProofKit
import Derived.OpenShut
import Derived.Carry
set_option maxRecDepth 100000
set_option maxHeartbeats 16000000
namespace Go.Proofs.YtomphjajkkddkaaGreatDoor.l14t
set_option linter.unusedSimpArgs false
set_option linter.unusedVariables false
open Go Go.RowKit
open arr mem stil polys polt pols helda heldb kturn mlkm mlsm tabv built rset mgr mgi vpw
open rndm (latt set0)
open kcon (ζd)
theorem try_is (S:Sg):∀ m k,(∃ n,tOk S n=true∧tTry S m k=some (tSig S n))∨tTry S m k=none
 | 0,k=>Or.inr rfl
 | m+1,k=>by
  unfold tTry
  by_cases h:tOk S k=true
  ·rw[if_pos h];exact Or.inl ⟨k,h,rfl⟩
  ·rw[if_neg h];exact try_is S m (k+1)
theorem signs (kn ln:Nat) (e t a b o s:Int) (sd x c r:ByteArray) (h:latt (kn:Int) (ln:Int) e t a b o s=true) (hx:x.size≤500):
 ∃ (A:ByteArray) (ec:Int),(∀ w:World,Gp w→Calls Tryz.prog 19 #[.agg TA,.agg #[.int .i64 (kn:Int),.int .i64 (ln:Int),.int .i64 e,.int .i64 t,.int .i64 a,.int .i64 b,.int .i64 o,.int .i64 s],.string (pSk ζd sd kn ln e),.string x,.string c,.string r] w fun y w'=>y=.returned (.tuple #[.string A,.int .i64 ec])∧Below w.heap.size w w')∧(ec≠0∧A=⟨#[]⟩∨ec=0∧∀ w:World,Gp w→Calls Tryz.prog 9 #[.agg TA,.agg #[.int .i64 (kn:Int),.int .i64 (ln:Int),.int .i64 e,.int .i64 t,.int .i64 a,.int .i64 b,.int .i64 o,.int .i64 s],.string (pPk ζd sd kn ln e),.string x,.string c,.string A] w fun y w'=>y=.returned (.tuple #[.bool true,.int .i64 0])∧Below w.heap.size w w'):=by
 obtain⟨F,hF⟩:∃ F:ByteArray→ByteArray→Value,∀ m q,F m q=(if q.size=32 then fin (tTry (Sw kn ln e t a b o s sd m q) 814 0) else .tuple #[.string ⟨#[]⟩,.int .i64 1]):=⟨_,fun _ _=>rfl⟩
 have h1:=fun w hP=>sign_gen (T:=TA) (kn:Int) (ln:Int) e t a b o s (pSk ζd sd kn ln e) x c r w ta_size hP F
  (fun m q=>by
   rw[hF]
   by_cases hq:q.size=32
   ·rw[if_pos hq];exact fin_two _
   ·rw[if_neg hq];exact⟨_,_,rfl⟩)
  (fun m q w2 h2 h3 hqq=>by
   rw[hF]
   by_cases hq:q.size=32
   ·rw[if_pos hq]
    exact inner_of _ kn ln e t a b o s (pSk ζd sd kn ln e) (pHead ζd sd kn ln e) m q _ _ _ w2 kecd.kt_doc kaw.zt_doc h2 h h3 hq (pHead_size _ _ _ _ _) (fun w3=>kcon.sec kn ln e t a b o s sd h w3)
   ·rw[if_neg hq]
    have h9:=inner_any _ kn ln e t a b o s (pSk ζd sd kn ln e) m q w2 kecd.kt_doc kaw.zt_doc h2 h h3
    unfold resI at h9
    rw[if_neg hq]at h9
    exact h9)
 by_cases hc:c.size≤255
 ·have hcx:c.size≤255∧x.size≤60000:=⟨hc,by omega⟩
  simp only[if_pos hcx,hF]at h1
  obtain⟨q,hq⟩:∃ q,(if r.size=0 then z32 else r)=q:=⟨_,rfl⟩
  simp only[hq]at h1
  by_cases hq2:q.size=32
  ·simp only[if_pos hq2]at h1
   rcases try_is (Sw kn ln e t a b o s sd (msg c x) q) 814 0 with ⟨n,hok,e1⟩ | e1
   ·simp only[e1]at h1
    refine⟨_,0,h1,Or.inr ⟨rfl,fun w1 hg=>?_⟩⟩
    have h2:=verify_made kn ln e t a b o s sd (msg c x) q x c n w1 hg h hok hcx
    rw[ok_made kn ln e t a b o s sd (msg c x) q n h hok]at h2
    exact h2
   ·simp only[e1]at h1
    exact⟨_,17,h1,Or.inl ⟨by decide,rfl⟩⟩
  ·simp only[if_neg hq2]at h1
   exact⟨_,1,h1,Or.inl ⟨by decide,rfl⟩⟩
 ·simp only[if_neg (show ¬ (c.size≤255∧x.size≤60000) from fun q=>hc q.1)]at h1
  exact⟨_,5,h1,Or.inl ⟨by decide,rfl⟩⟩
theorem far (wh:Int) (sd x c r:ByteArray) (w:World) (h:sd.size≠32∨sd.size=32∧500<x.size) (hP:Gp w):
 Calls Tryz.prog 4 #[.string sd,.agg #[.string x,.string c,.string r],.int .i64 wh] w fun e w'=>e=.returned (.bool true)∧Below w.heap.size w w':=by
 have hq:((sd.size:Int) != 32)=true∨((sd.size:Int) != 32)=false∧(500:Int)<(x.size:Int):=by
  rcases h with h | ⟨h1,h2⟩
  ·exact Or.inl (by simp;omega)
  ·exact Or.inr ⟨by rw[h1];rfl,by omega⟩
 obtain⟨W,hW⟩:∃ y,w.alloc (.cells #[.string x,.string c,.string r] 49)=y:=⟨_,rfl⟩
 obtain⟨r0,hWs,bW⟩:=polt.one hW
 have C0:Away (∀ w',Below W.heap.size W w'→w'.cell? ⟨w.heap.size,0,none⟩=some (.string x)):=⟨fun w' hb=>cell_at ((hb.block _ (lt_of_row r0)).trans r0) rfl⟩
 have C1:Away (∀ w',Below W.heap.size W w'→w'.cell? ⟨w.heap.size,1,none⟩=some (.string c)):=⟨fun w' hb=>cell_at ((hb.block _ (lt_of_row r0)).trans r0) rfl⟩
 have C2:Away (∀ w',Below W.heap.size W w'→w'.cell? ⟨w.heap.size,2,none⟩=some (.string r)):=⟨fun w' hb=>cell_at ((hb.block _ (lt_of_row r0)).trans r0) rfl⟩
 have HW:=Away.mk hW
 have BW:Away (Below w.heap.size w W):=⟨bW⟩
 have HAw:=Away.mk (fun (w1:World) (hb:Below W.heap.size W w1)=>vpw.awake_any w1 (hP.later (bW.trans (hb.mono bW.size))))
 clear hW r0 hWs bW hP h
 rcases hq with h1 | ⟨h1,h2⟩
 all_goals
  go_enter Tryz.func4,Tryz.ntmps4
  go_wp2_with (rw[HW.out])
  refine hk_begin (W.heap.size) 9 [0,1,2,3,4,5,6,7,8] (by kernel_rfl) rfl rfl (by decide) (fun hS ops HO=>?_)
  simp only[List.filterMap_cons,fa,List.getElem?_cons_succ,List.getElem?_cons_zero]
  (refine hk_t (v:=?_) (by rw[←HO.out];kernel_rfl) (fun _ _ _ h=>h) ?_ hS ?_;rotate_left;focus (intro w9 h9;go_simp;first | done | with_reducible rfl);all_goals skip)
  simp only[Act.put,pa,pb,pc]
  (refine hk_t (v:=?_) (by rw[←HO.out];kernel_rfl) (fun _ _ _ h=>h) ?_ hS ?_;rotate_left;focus (intro w9 h9;have hc:=C0.out w9 h9;go_simp;first | done | with_reducible rfl);all_goals skip)
  simp only[Act.put,pa,pb,pc]
  (refine hk_t (v:=?_) (by rw[←HO.out];kernel_rfl) (fun _ _ _ h=>h) ?_ hS ?_;rotate_left;focus (intro w9 h9;go_simp;first | done | with_reducible rfl);all_goals skip)
  simp only[Act.put,pa,pb,pc]
  (refine hk_t (v:=?_) (by rw[←HO.out];kernel_rfl) (fun _ _ _ h=>h) ?_ hS ?_;rotate_left;focus (intro w9 h9;have hc:=C1.out w9 h9;go_simp;first | done | with_reducible rfl);all_goals skip)
  simp only[Act.put,pa,pb,pc]
  (refine hk_t (v:=?_) (by rw[←HO.out];kernel_rfl) (fun _ _ _ h=>h) ?_ hS ?_;rotate_left;focus (intro w9 h9;go_simp;first | done | with_reducible rfl);all_goals skip)
  simp only[Act.put,pa,pb,pc]
  (refine hk_t (v:=?_) (by rw[←HO.out];kernel_rfl) (fun _ _ _ h=>h) ?_ hS ?_;rotate_left;focus (intro w9 h9;have hc:=C2.out w9 h9;go_simp;first | done | with_reducible rfl);all_goals skip)
  iterate 3 (simp only[Act.put,pa,pb,pc];(refine hk_t (v:=?_) (by rw[←HO.out];kernel_rfl) (fun _ _ _ h=>h) ?_ hS ?_;rotate_left;focus (intro w9 h9;go_simp;first | done | with_reducible rfl);all_goals skip))
  simp only[Act.put,pa,pb,pc]
  refine hk_nil (by rw[←HO.out];kernel_rfl) ?_
  clear hS HO
  go_wp2_with fail
  refine(HAw.out _ (Below.refl _ _).drew).mono ?_
  rintro e w3 ⟨rfl,hb3⟩
  have h3:Below W.heap.size W w3:=(Below.refl _ _).drew.trans hb3
  have B3:Below w.heap.size w w3:=BW.out.trans (h3.mono BW.out.size)
  go_wp2_with fail
  go_ret
  exact⟨rfl,B3⟩
theorem near (wh:Int) (j kn ln:Nat) (e t a b o s:Int) (sd x c r PK SK A:ByteArray) (ec:Int) (w:World) (hsd:sd.size=32) (hx:x.size≤500) (hP:Gp w) (hj:(IntKind.u64.wrap wh).tmod 4=(j:Int)) (hj4:j<4)
 (HSt:∀ w1:World,Calls Tryz.prog 17 #[.int .i64 ((j+1:Nat):Int)] w1 fun e0 w'=>e0=.returned (.tuple #[.agg #[.int .i64 (kn:Int),.int .i64 (ln:Int),.int .i64 e,.int .i64 t,.int .i64 a,.int .i64 b,.int .i64 o,.int .i64 s],.int .i64 0])∧Below w1.heap.size w1 w')
 (HPr0:∀ w1:World,Gp w1→Calls Tryz.prog 18 #[.agg TA,.agg #[.int .i64 (kn:Int),.int .i64 (ln:Int),.int .i64 e,.int .i64 t,.int .i64 a,.int .i64 b,.int .i64 o,.int .i64 s],.string sd] w1 fun y w'=>y=.returned (.tuple #[.string PK,.string SK,.int .i64 0])∧Below w1.heap.size w1 w')
 (HSg0:∀ w1:World,Gp w1→Calls Tryz.prog 19 #[.agg TA,.agg #[.int .i64 (kn:Int),.int .i64 (ln:Int),.int .i64 e,.int .i64 t,.int .i64 a,.int .i64 b,.int .i64 o,.int .i64 s],.string SK,.string x,.string c,.string r] w1 fun y w'=>y=.returned (.tuple #[.string A,.int .i64 ec])∧Below w1.heap.size w1 w')
 (hres:ec≠0∧A=⟨#[]⟩∨ec=0∧∀ w1:World,Gp w1→Calls Tryz.prog 9 #[.agg TA,.agg #[.int .i64 (kn:Int),.int .i64 (ln:Int),.int .i64 e,.int .i64 t,.int .i64 a,.int .i64 b,.int .i64 o,.int .i64 s],.string PK,.string x,.string c,.string A] w1 fun y w'=>y=.returned (.tuple #[.bool true,.int .i64 0])∧Below w1.heap.size w1 w'):
 Calls Tryz.prog 4 #[.string sd,.agg #[.string x,.string c,.string r],.int .i64 wh] w fun e w'=>e=.returned (.bool true)∧Below w.heap.size w w':=by
 have HA:=Away.mk (fun w1 hg=>vpw.awake_any w1 hg)
 have HP:=Away.mk hP
 obtain⟨hz,hsize⟩:=zero_of_info built.infoT
 obtain⟨Zt,HZ⟩:=ex_eq TZ
 rw[HZ.out]at hz
 have HZs:Away (Zt.size=465):=⟨by rw[←HZ.out];exact tz_size⟩
 obtain⟨hzl,hsizel⟩:=zero_of_info rset.infoL
 obtain⟨Zl,HZl⟩:=ex_eq set0
 rw[HZl.out]at hzl
 have HZls:Away (Zl.size=8):=⟨by rw[←HZl.out];rfl⟩
 obtain⟨T,HT⟩:=ex_eq TA
 simp only[HT.out]at HPr0 HSg0 hres
 have HTs:Away (T.size=465):=⟨by rw[←HT.out];exact ta_size⟩
 have HTo:Away (T.all (·.oneCell')=true):=⟨by rw[←HT.out];exact ta_one⟩
 have HTz:Away ((Tryz.prog.info? 34).map (·.size)=some T.size):=⟨by rw[HTs.out];exact hsize⟩
 have Hmk:Away (∀ w1:World,Calls Tryz.prog 16 #[] w1 fun e w'=>e=.returned (.agg T)∧Below w1.heap.size w1 w'):=⟨fun w1=>by rw[←HT.out];exact make.make_any w1⟩
 obtain⟨L,HL⟩:=ex_eq (#[.int .i64 (kn:Int),.int .i64 (ln:Int),.int .i64 e,.int .i64 t,.int .i64 a,.int .i64 b,.int .i64 o,.int .i64 s]:Array Value)
 simp only[HL.out]at HPr0 HSg0 HSt hres
 have HLs:Away (L.size=8):=⟨by rw[←HL.out];rfl⟩
 have HLo:Away (L.all (·.oneCell')=true):=⟨by rw[←HL.out];simp[Value.oneCell']⟩
 have HLz:Away ((Tryz.prog.info? 37).map (·.size)=some L.size):=⟨by rw[HLs.out];exact hsizel⟩
 have HSet:=Away.mk HSt
 have HPr:=Away.mk HPr0
 have HSg:=Away.mk HSg0
 have HR:=Away.mk hres
 have f1:IntKind.i64.wrap (j:Int)=(j:Int):=by rw[IntKind.wrap_i64];omega
 have f2:IntKind.i64.wrap (1+(j:Int))=((j+1:Nat):Int):=by rw[IntKind.wrap_i64];omega
 have hsz:((sd.size:Int) != 32)=false:=by simp;omega
 have hxz:¬ (500:Int)<(x.size:Int):=by omega
 obtain⟨W,hW⟩:∃ y,w.alloc (.cells #[.string x,.string c,.string r] 49)=y:=⟨_,rfl⟩
 obtain⟨r0,hWs,bW⟩:=polt.one hW
 have C0:Away (∀ w',Below W.heap.size W w'→w'.cell? ⟨w.heap.size,0,none⟩=some (.string x)):=⟨fun w' hb=>cell_at ((hb.block _ (lt_of_row r0)).trans r0) rfl⟩
 have C1:Away (∀ w',Below W.heap.size W w'→w'.cell? ⟨w.heap.size,1,none⟩=some (.string c)):=⟨fun w' hb=>cell_at ((hb.block _ (lt_of_row r0)).trans r0) rfl⟩
 have C2:Away (∀ w',Below W.heap.size W w'→w'.cell? ⟨w.heap.size,2,none⟩=some (.string r)):=⟨fun w' hb=>cell_at ((hb.block _ (lt_of_row r0)).trans r0) rfl⟩
 have HW:=Away.mk hW
 have BW:Away (Below w.heap.size w W):=⟨bW⟩
 clear HPr0 HSg0 HSt HT HL hsize hsizel HZ HZl hP hsd hx hres hW r0 hWs bW
 go_enter Tryz.func4,Tryz.ntmps4
 go_wp2_with (rw[HW.out])
 refine hk_begin (W.heap.size) 9 [0,1,2,3,4,5,6,7,8] (by kernel_rfl) rfl rfl (by decide) (fun hS ops HO=>?_)
 simp only[List.filterMap_cons,fa,List.getElem?_cons_succ,List.getElem?_cons_zero]
 (refine hk_t (v:=?_) (by rw[←HO.out];kernel_rfl) (fun _ _ _ h=>h) ?_ hS ?_;rotate_left;focus (intro w9 h9;go_simp;first | done | with_reducible rfl);all_goals skip)
 simp only[Act.put,pa,pb,pc]
 (refine hk_t (v:=?_) (by rw[←HO.out];kernel_rfl) (fun _ _ _ h=>h) ?_ hS ?_;rotate_left;focus (intro w9 h9;have hc:=C0.out w9 h9;go_simp;first | done | with_reducible rfl);all_goals skip)
 simp only[Act.put,pa,pb,pc]
 (refine hk_t (v:=?_) (by rw[←HO.out];kernel_rfl) (fun _ _ _ h=>h) ?_ hS ?_;rotate_left;focus (intro w9 h9;go_simp;first | done | with_reducible rfl);all_goals skip)
 simp only[Act.put,pa,pb,pc]
 (refine hk_t (v:=?_) (by rw[←HO.out];kernel_rfl) (fun _ _ _ h=>h) ?_ hS ?_;rotate_left;focus (intro w9 h9;have hc:=C1.out w9 h9;go_simp;first | done | with_reducible rfl);all_goals skip)
 simp only[Act.put,pa,pb,pc]
 (refine hk_t (v:=?_) (by rw[←HO.out];kernel_rfl) (fun _ _ _ h=>h) ?_ hS ?_;rotate_left;focus (intro w9 h9;go_simp;first | done | with_reducible rfl);all_goals skip)
 simp only[Act.put,pa,pb,pc]
 (refine hk_t (v:=?_) (by rw[←HO.out];kernel_rfl) (fun _ _ _ h=>h) ?_ hS ?_;rotate_left;focus (intro w9 h9;have hc:=C2.out w9 h9;go_simp;first | done | with_reducible rfl);all_goals skip)
 iterate 3 (simp only[Act.put,pa,pb,pc];(refine hk_t (v:=?_) (by rw[←HO.out];kernel_rfl) (fun _ _ _ h=>h) ?_ hS ?_;rotate_left;focus (intro w9 h9;go_simp;first | done | with_reducible rfl);all_goals skip))
 simp only[Act.put,pa,pb,pc]
 refine hk_nil (by rw[←HO.out];kernel_rfl) ?_
 clear hS HO
 go_wp2_with fail
 refine(Hmk.out _).mono ?_
 rintro y w1 ⟨rfl,hb1'⟩
 have hb1:Below W.heap.size W w1:=(Below.refl _ _).drew.trans hb1'
 obtain⟨W1,hW1⟩:∃ y,w1.alloc (.cells T 34)=y:=⟨_,rfl⟩
 obtain⟨r1,hs1,b1⟩:=polt.one hW1
 have HW1:=Away.mk hW1
 have E1:Away (Below w.heap.size w W1):=⟨BW.out.trans ((hb1.trans (b1.mono hb1.size)).mono BW.out.size)⟩
 have R1:=Away.mk r1
 clear hb1 hb1' hW1 r1 hs1 b1
 go_wp2_with (first
  | (refine wpList_store_new rfl 34 _ _ rfl _ rfl rfl HTz.out (by rw[HTs.out];exact HZs.out) HTo.out rfl ?_)
  | (rw[HW1.out]))
 refine(HSet.out _).mono ?_
 rintro y w2 ⟨rfl,hb2⟩
 obtain⟨W2,hW2⟩:∃ y,w2.alloc (.cells L 37)=y:=⟨_,rfl⟩
 obtain⟨r2,hs2,b2⟩:=polt.one hW2
 have HW2:=Away.mk hW2
 have E2:Away (Below w.heap.size w W2):=⟨E1.out.trans ((hb2.trans (b2.mono hb2.size)).mono E1.out.size)⟩
 have TB:Away (∀ w':World,Below W2.heap.size W2 w'→w'.heap[w1.heap.size]? = some (.cells T 34 (0,0))):=⟨fun w' hb=>by
  have h1:Below W1.heap.size W1 W2:=hb2.trans (b2.mono hb2.size)
  exact((h1.trans (hb.mono h1.size)).block _ (lt_of_row R1.out)).trans R1.out⟩
 have LB:Away (∀ w':World,Below W2.heap.size W2 w'→w'.heap[w2.heap.size]? = some (.cells L 37 (0,0))):=⟨fun w' hb=>(hb.block _ (lt_of_row r2)).trans r2⟩
 have GP:Away (∀ w':World,Below W2.heap.size W2 w'→Gp w'):=⟨fun w' hb=>HP.out.later (E2.out.trans (hb.mono E2.out.size))⟩
 clear hb2 hW2 r2 hs2 b2
 have F2:Away (Below W2.heap.size W2 W2):=⟨Below.refl _ _⟩
 go_wp2_with (first
  | (refine wpList_store_new rfl 37 _ _ rfl _ rfl rfl HLz.out (by rw[HLs.out];exact HZls.out) HLo.out rfl ?_)
  | (rw[HW2.out])
  | (refine wpList_load_row rfl 34 _ rfl w1.heap.size rfl 34 T (0,0) _ (TB.out _ F2.out) Tryz.underlying34 rfl HTz.out ?_)
  | (refine wpList_load_row rfl 37 _ rfl w2.heap.size rfl 37 L (0,0) _ (LB.out _ F2.out) Tryz.underlying37 rfl HLz.out ?_))
 refine(HPr.out _ (GP.out _ F2.out)).mono ?_
 rintro y w3 ⟨rfl,hb3⟩
 have F3:Away (Below W2.heap.size W2 w3):=⟨F2.out.trans (hb3.mono F2.out.size)⟩
 clear hb3
 go_wp2_with (first
  | (refine wpList_load_row rfl 34 _ rfl w1.heap.size rfl 34 T (0,0) _ (TB.out _ F3.out) Tryz.underlying34 rfl HTz.out ?_)
  | (refine wpList_load_row rfl 37 _ rfl w2.heap.size rfl 37 L (0,0) _ (LB.out _ F3.out) Tryz.underlying37 rfl HLz.out ?_))
 refine(HSg.out _ (GP.out _ F3.out)).mono ?_
 rintro y w4 ⟨rfl,hb4⟩
 have F4:Away (Below W2.heap.size W2 w4):=⟨F3.out.trans (hb4.mono F3.out.size)⟩
 clear hb4 hz hzl
 rcases HR.out with ⟨h1,h2⟩ | ⟨h1,h2⟩
 ·have hec:(ec != 0)=true:=bne_iff_ne.2 h1
  have q2:A.toList.isEmpty=true:=by rw[h2,ByteArray.toList,ByteArray.toList.loop,if_neg (by decide)];rfl
  clear h1 h2 HR
  go_wp2_with fail
  refine(HA.out _ (GP.out _ F4.out)).mono ?_
  rintro y w8 ⟨rfl,hb8⟩
  have B8:Below w.heap.size w w8:=E2.out.trans ((F4.out.trans (hb8.mono F4.out.size)).mono E2.out.size)
  go_wp2_with fail
  go_ret
  exact⟨rfl,B8⟩
 ·subst h1
  have HV:=Away.mk h2
  clear h2 HR
  go_wp2_with (first
   | (refine wpList_load_row rfl 34 _ rfl w1.heap.size rfl 34 T (0,0) _ (TB.out _ F4.out) Tryz.underlying34 rfl HTz.out ?_)
   | (refine wpList_load_row rfl 37 _ rfl w2.heap.size rfl 37 L (0,0) _ (LB.out _ F4.out) Tryz.underlying37 rfl HLz.out ?_))
  refine(HV.out _ (GP.out _ F4.out)).mono ?_
  rintro y w5 ⟨rfl,hb5⟩
  have F5:Away (Below W2.heap.size W2 w5):=⟨F4.out.trans (hb5.mono F4.out.size)⟩
  clear hb5
  go_wp2_with fail
  refine(HA.out _ (GP.out _ F5.out)).mono ?_
  rintro y w8 ⟨rfl,hb8⟩
  have B8:Below w.heap.size w w8:=E2.out.trans ((F5.out.trans (hb8.mono F5.out.size)).mono E2.out.size)
  go_wp2_with fail
  go_ret
  exact⟨rfl,B8⟩
theorem at_set (wh:Int) (j kn ln:Nat) (e t a b o s:Int) (sd x c r:ByteArray) (w:World) (hsd:sd.size=32) (hx:x.size≤500) (hP:Gp w) (h:latt (kn:Int) (ln:Int) e t a b o s=true) (hj:(IntKind.u64.wrap wh).tmod 4=(j:Int)) (hj4:j<4)
 (HSt:∀ w1:World,Calls Tryz.prog 17 #[.int .i64 ((j+1:Nat):Int)] w1 fun e0 w'=>e0=.returned (.tuple #[.agg #[.int .i64 (kn:Int),.int .i64 (ln:Int),.int .i64 e,.int .i64 t,.int .i64 a,.int .i64 b,.int .i64 o,.int .i64 s],.int .i64 0])∧Below w1.heap.size w1 w'):
 Calls Tryz.prog 4 #[.string sd,.agg #[.string x,.string c,.string r],.int .i64 wh] w fun e w'=>e=.returned (.bool true)∧Below w.heap.size w w':=by
 obtain⟨A,ec,h1,h2⟩:=signs kn ln e t a b o s sd x c r h hx
 exact near wh j kn ln e t a b o s sd x c r _ _ A ec w hsd hx hP hj hj4 HSt (fun w1 hg=>kcon.pair kn ln e t a b o s sd h w1 hg hsd) h1 h2
theorem walk (sd x c r:ByteArray) (wh:Int) (w:World) (ww:sd.size≤maxLen) (wi:(Lit.int .i64 wh).wf=true) (hP:Gp w):Calls Tryz.prog 4 #[.string sd,.agg #[.string x,.string c,.string r],.int .i64 wh] w fun e w'=>e=.returned (.bool true)∧Below w.heap.size w w':=by
 by_cases h:sd.size=32
 rotate_left
 ·exact far wh sd x c r w (Or.inl h) hP
 by_cases hx : 500<x.size
 ·exact far wh sd x c r w (Or.inr ⟨h,hx⟩) hP
 have h0 : 0≤IntKind.u64.wrap wh:=by rw[IntKind.wrap_u64];omega
 obtain⟨n,hn⟩:=Int.eq_ofNat_of_zero_le (a:=(IntKind.u64.wrap wh).tmod 4) (Int.tmod_nonneg _ h0)
 have hn4:n<4:=by
  have:=Int.tmod_lt_of_pos (IntKind.u64.wrap wh) (show (0:Int)<4 by decide)
  omega
 rcases (show n=0∨n=1∨n=2∨n=3 by omega) with rfl | rfl | rfl | rfl
 ·exact at_set wh 0 4 4 2 39 131072 95232 80 128 sd x c r w h (by omega) hP (by decide +kernel) hn hn4 (fun w1=>rset.set_1 w1)
 ·exact at_set wh 1 6 5 4 49 524288 261888 55 192 sd x c r w h (by omega) hP (by decide +kernel) hn hn4 (fun w1=>rset.set_2 w1)
 ·exact at_set wh 2 8 7 2 60 524288 261888 75 256 sd x c r w h (by omega) hP (by decide +kernel) hn hn4 (fun w1=>rset.set_3 w1)
 ·exact at_set wh 3 1 1 2 20 131072 95232 60 128 sd x c r w h (by omega) hP (by decide +kernel) hn hn4 (fun w1=>rset.set_4 w1)
end Go.Proofs.YtomphjajkkddkaaGreatDoor.l14t
namespace Go.Proofs.YtomphjajkkddkaaGreatDoor.l14tc
open Go Go.ChangeShapes Go.WideShapes Go.ChangeAt Go.RowKit
open Go.ChangeMaps (open_string)
open arr kturn l14t
set_option linter.unusedVariables false
theorem own:ownKnob Tryz.prog.godebug=none:=by kernel_rfl
theorem laidOut:laidOutB Tryz.prog=true:=by kernel_rfl
theorem lifted (os:Os) (started:os.Started) (H:Type) (enc:TypeId × Value→H):
 ReturnsInHanded {} Tryz.checked os 4 .any (fun w args => (Rows.mlverifyTakesSpec.pre enc Tryz.prog Tryz.f4 [] false w args ∧ laidMetH Tryz.prog [("sigil/keccak.places", Rows.laid_sigil_keccak_places), ("unicode/utf8.acceptRanges", Rows.laid_unicode_utf8_acceptRanges), ("unicode/utf8.first", Rows.laid_unicode_utf8_first)] w) ∧ sizedMet enc Tryz.prog Tryz.f4 (OpenSpec.ofChange Rows.mlverifyTakesSpec) false w args)
  (Rows.mlverifyTakesSpec.post enc Tryz.prog Tryz.f4 false true false false):=by
 refine returnsInHanded_of_change_and (C := Tryz.checked) (X := fun w _ => laidMetH Tryz.prog [("sigil/keccak.places", Rows.laid_sigil_keccak_places), ("unicode/utf8.acceptRanges", Rows.laid_unicode_utf8_acceptRanges), ("unicode/utf8.first", Rows.laid_unicode_utf8_first)] w) (fun _ _ _ hh h => h.of_heap hh) own started (by kernel_rfl) Tryz.func4
  (ChangeSpec.witness_shaped (enc := enc) (C := Tryz.checked) (os := os) (X := fun w _ => laidMetH Tryz.prog [("sigil/keccak.places", Rows.laid_sigil_keccak_places), ("unicode/utf8.acceptRanges", Rows.laid_unicode_utf8_acceptRanges), ("unicode/utf8.first", Rows.laid_unicode_utf8_first)] w) false (World.laidAll Tryz.prog os [("sigil/keccak.places", Rows.laid_sigil_keccak_places), ("unicode/utf8.acceptRanges", Rows.laid_unicode_utf8_acceptRanges), ("unicode/utf8.first", Rows.laid_unicode_utf8_first)]) #[.string ByteArray.empty, .agg #[.string ByteArray.empty, .string ByteArray.empty, .string ByteArray.empty], .int .i64 0] 8 (World.laidAll_os _ _ _) (World.shaped_of_ZipB (by kernel_rfl) (by kernel_rfl)) (by kernel_rfl) (by kernel_rfl) (by kernel_rfl)
   (by rw[MakeChecks.laidMetH_plain _ _ _ (by kernel_rfl)];exact laidMet_laidAll _ (by kernel_rfl) (by kernel_rfl))) ?_
 intro W base args ds gs before hval0 hW _ _ hL _
 have hval:∀ (j:Nat) t v,Tryz.f4.params[j]? = some t→args[j]? = some v→Value.okWide Tryz.prog W .any base t v:=hval0
 have hW':=hW
 have hlt:=hW.lt
 obtain⟨p,q,hA0,hV,rfl,hfz,hnd⟩:=hW
 have hA:DataW.TrodAll enc Tryz.prog W 0 (fun _=>true) true Tryz.f4.params.toList args.toList ds p:=hA0
 rw[Tryz.params4]at hA hval
 obtain⟨v0,vs0,d0,ds0,p0,q0,hargs,rfl,rfl,h0,r0⟩:=trodAll_cons hA
 obtain⟨v1,vs1,d1,ds1,p1,q1,rfl,rfl,rfl,h1,r1⟩:=trodAll_cons r0
 obtain⟨v2,vs2,d2,ds2,p2,q2,rfl,rfl,rfl,h2,r2⟩:=trodAll_cons r1
 obtain⟨rfl,rfl,rfl⟩:=trodAll_nil r2
 obtain rfl:args=#[v0,v1,v2]:=by cases args;simp_all
 obtain⟨rfl,rfl⟩:=trodVars_none hV
 obtain⟨a0,rfl,rfl,rfl,w0⟩:=open_string Tryz.underlying9 (hval 0 9 v0 rfl rfl) h0
 obtain⟨a1,b1,c1,rfl,rfl,rfl⟩:=opens.open_strings3 Tryz.underlying49 Tryz.underlying9 (by kernel_rfl) (by kernel_rfl) (hval 1 49 v1 rfl rfl) h1
 obtain⟨a2,rfl,rfl,rfl,w2⟩:=open_int Tryz.underlying3 (hval 2 3 v2 rfl rfl) h2
 have hG:=laid3.gp_of hL
 clear hA0 hval0 hL
 refine(walk a0 a1 b1 c1 a2 W w0 w2 hG).mono fun e W' ⟨he,bel⟩=>?_
 subst he
 exact⟨_,rfl,_,_,_,[],_,[],hW',trodAll_mk1 (shut_bool Tryz.underlying4 _),(trodAll_cons_mk (Below.trod laidOut (by kernel_rfl) (of_decide_eq_true (by kernel_rfl)) h0 bel (fun x hx=>by first | exact absurd hx (by simp) | exact hlt x (by simpa using hx) | exact hlt x (by simp;exact Or.inl hx) | exact hlt x (by simp;exact Or.inr hx) | exact hlt x (by simp;exact Or.inr (Or.inl hx)) | exact hlt x (by simp;exact Or.inr (Or.inr hx)))) (trodAll_cons_mk (Below.trod laidOut (by kernel_rfl) (of_decide_eq_true (by kernel_rfl)) h1 bel (fun x hx=>by first | exact absurd hx (by simp) | exact hlt x (by simpa using hx) | exact hlt x (by simp;exact Or.inl hx) | exact hlt x (by simp;exact Or.inr hx) | exact hlt x (by simp;exact Or.inr (Or.inl hx)) | exact hlt x (by simp;exact Or.inr (Or.inr hx)))) (trodAll_cons_mk (Below.trod laidOut (by kernel_rfl) (of_decide_eq_true (by kernel_rfl)) h2 bel (fun x hx=>by first | exact absurd hx (by simp) | exact hlt x (by simpa using hx) | exact hlt x (by simp;exact Or.inl hx) | exact hlt x (by simp;exact Or.inr hx) | exact hlt x (by simp;exact Or.inr (Or.inl hx)) | exact hlt x (by simp;exact Or.inr (Or.inr hx)))) trodAll_mk0))),rfl,bel.frame _,fun h=>by cases h⟩
theorem over:Rows.MlverifyTakesSaid:=
 OpenClaim.holds_of_wide 4 Tryz.f4 rfl rfl rfl rfl rfl rfl rfl ⟨rfl,rfl,rfl,rfl,rfl⟩ rfl rfl rfl rfl rfl (by kernel_rfl) Tryz.func4 (by kernel_rfl)
  (of_decide_eq_true (by kernel_rfl)) (by unfold Func.isWrapper;first | (rw[if_pos (by decide +kernel)];kernel_rfl) | (rw[if_neg (by decide +kernel)];exact⟨rfl,rfl⟩))
  (fun os started H enc _=>lifted os started H enc)
theorem proved:Rows.MlverifyTakesCardSaid:=
 Claim7.holds_tied_plain_at .later [] [.data,.data,.pinned] true _ false
  over (fun _ h=>by cases h) (by kernel_rfl) (fun _ h=>by cases h) mlverifyTakes_row_tie rfl ⟨rfl,rfl⟩ (by kernel_rfl) rfl
  (fun f fn hf hfn=>by
   obtain rfl : f = 4 := Option.some.inj ((show Tryz.prog.funcNamed "sigil/sigillaw14.MlverifyTakes" = some 4 by kernel_rfl).symm.trans hf) |>.symm
   obtain rfl:fn=Tryz.f4:=(Option.some.inj (Tryz.func4.symm.trans hfn)).symm
   exact⟨by kernel_rfl,fun j t ht=>by
    rw[Tryz.params4]at ht
    have hm:t∈[9,49,3]:=by simpa using Array.mem_of_getElem? ht
    have hall:([9,49,3].all fun u => !Tryz.prog.wantsStandIn u)=true:=by kernel_rfl
    exact(show Tryz.prog.wantsStandIn t=false by simpa using List.all_eq_true.1 hall t hm)⟩)
  (by kernel_rfl)
end Go.Proofs.YtomphjajkkddkaaGreatDoor.l14tc
