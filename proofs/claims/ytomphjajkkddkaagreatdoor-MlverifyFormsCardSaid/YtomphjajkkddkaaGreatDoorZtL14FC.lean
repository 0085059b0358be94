/-
  The statement MlverifyForms (P14.5): its row and its card. Conditions: none, but what the row lists of three package variables (keccak's places, which is read, and two tables of unicode/utf8, which are not), which the card ties to the program's text; for every input that the form speaks of.
-/
import Derived.Test.YtomphjajkkddkaaGreatDoorZt23
import Derived.Test.YtomphjajkkddkaaGreatDoorZt03
import Derived.Test.YtomphjajkkddkaaGreatDoorZt04
import Derived.Test.YtomphjajkkddkaaGreatDoorZt12
import Derived.Test.YtomphjajkkddkaaGreatDoorRows
import Derived.Test.YtomphjajkkddkaaGreatDoorCards
import Derived.Test.YtomphjajkkddkaaGreatDoorTie
import Derived.Lay
import Derived.LaidMore
import Derived.Stop.Joined
import Derived.SevenTiedAt
import Derived.ShutString
import Derived.ProofKit
import Derived.OpenShut
import Derived.Carry
set_option maxRecDepth 100000
set_option maxHeartbeats 16000000
namespace Go.Proofs.YtomphjajkkddkaaGreatDoor.l14f
set_option linter.unusedSimpArgs false
set_option linter.unusedVariables false
open Go Go.RowKit
open arr mem stil polys polt pols helda heldb kturn mlkm mlsm tabv built rset mlvr vpw
open rndm (latt set0 set4)
open kcon (ζd)
open awake14 (d32)
open rbitc (bys bys_length)
noncomputable def PK:ByteArray:=pPk ζd d32 1 1 2
theorem at_608:hAt 1 131072 128=608:=by unfold hAt;decide +kernel
theorem sz_669:szV 1 1 131072 60 128=669:=by unfold szV;rw[at_608];rfl
theorem inner_no (x m:ByteArray) (w:World) (hP:Gp w) (hm:m.size≤100000) (h:¬ okV x 1 1 131072 60 128):
 Calls Tryz.prog 11 #[.agg TA,.agg set4,.string PK,.string m,.string x] w fun y w'=>y=.returned (.tuple #[.bool false,.int .i64 3])∧Below w.heap.size w w':=by
 have h1:=vpi.inner_any _ 1 1 2 20 131072 95232 60 128 PK m x w kecd.kt_doc kaw.zt_doc hP lat4 hm
 unfold resV at h1
 rw[if_neg fun q=>h q.2]at h1
 exact h1
theorem not_ok {x:ByteArray} (h:x.size≠669):¬ okV x 1 1 131072 60 128:=fun q=>h (q.1.trans sz_669)
def chg (x:ByteArray):List UInt8:=((x.data.toList.set 608 5).set 609 5).set 668 2
theorem chg_no {x:ByteArray} (hx:x.size=669):¬ okV ⟨(chg x).toArray⟩ 1 1 131072 60 128:=by
 have hl:x.data.toList.length=669:=hx
 have hs:(⟨(chg x).toArray⟩:ByteArray).size=669:=by
  show (chg x).toArray.size=669
  rw[List.size_toArray];unfold chg
  rw[List.length_set,List.length_set,List.length_set,hl]
 have hb:∀ j,j<61→bV ⟨(chg x).toArray⟩ 1 131072 128 j=((chg x).getD (608+j) 0).toNat:=fun j hj=>by
  unfold bV
  rw[at_608,hs,bys_extract _ _ _ _ (by omega)]
  unfold bys
  show (((chg x).toArray.toList).map (·.toNat)).getD (608+j) 0=_
  rw[List.getD_eq_getElem?_getD,List.getElem?_map,List.getD_eq_getElem?_getD]
  cases (chg x)[608+j]?<;>rfl
 refine hints_no (by decide) ?_ ?_ ?_
 ·rw[hb 0 (by decide)];unfold chg;rw[List.getD_eq_getElem?_getD];simp[List.getElem?_set,hl]
 ·rw[hb 1 (by decide)];unfold chg;rw[List.getD_eq_getElem?_getD];simp[List.getElem?_set,hl]
 ·rw[show (60:Int).toNat=60 from rfl,hb 60 (by decide)];unfold chg;rw[List.getD_eq_getElem?_getD];simp[List.getElem?_set,hl]
def BS (w:World) (g:Nat) (l:List UInt8):Prop:=∀ j (hj:j<l.length),w.cell? ⟨g,j,none⟩=some (.int .u8 (l[j].toNat:Int))∧w.frozen? ⟨g,j,none⟩=false
theorem BS.set {w:World} {g:Nat} {l:List UInt8} (h:BS w g l) (i:Nat) (hi:i<l.length) (v:UInt8):BS (w.setCell ⟨g,i,none⟩ (.int .u8 (v.toNat:Int))) g (l.set i v):=fun j hj=>by
 rw[List.length_set]at hj
 refine⟨?_,by rw[World.frozen?_setCell];exact(h j hj).2⟩
 by_cases e:i=j
 ·subst e
  rw[World.cell?_setCell_same (h:=(h i hi).1),List.getElem_set_self]
 ·rw[World.cell?_setCell_other (h:=by intro q;injection q;omega),(h j hj).1,List.getElem_set_ne e]
theorem bs_new (w:World) (x:ByteArray) (cap:Nat) (t:TypeId):BS (w.drew.alloc (.cells (bytesRow x cap) t ((bytesRow x cap).size,(bytesRow x cap).size+1))) w.heap.size x.data.toList:=fun j hj=>by
 have hr:(w.drew.alloc (.cells (bytesRow x cap) t ((bytesRow x cap).size,(bytesRow x cap).size+1))).heap[w.heap.size]? = some (.cells (bytesRow x cap) t ((bytesRow x cap).size,(bytesRow x cap).size+1)):=heap_at _ _ _ rfl
 have hs:x.data.size≤(bytesRow x cap).size:=by unfold bytesRow;rw[Array.size_append,Array.size_map];omega
 have hj2:j<x.data.size:=by simpa using hj
 constructor
 ·rw[cell_of_row _ _ _ _ _ _ hr]
  unfold bytesRow
  rw[Array.getElem?_append_left (by simpa using hj2),Array.getElem?_map,Array.getElem?_eq_getElem hj2]
  simp
 ·unfold World.frozen?
  rw[hr]
  simp
  omega
theorem bs_conv {w:World} {g cap n:Nat} {l:List UInt8} (h:∀ j (hj:j<l.length),w.cell? ⟨g,j,none⟩=some (.int .u8 (l[j].toNat:Int))) (hn:l.length=n):(convert 57 9 (.slice (some ⟨g,0,none⟩) n cap)).run Tryz.prog w=.ok (.string ⟨l.toArray⟩) w:=by
 subst hn
 exact run_convert_bytes_back w 57 9 5 ⟨g,0,none⟩ cap l Tryz.underlying57 Tryz.underlying5 Tryz.underlying9 fun j hj=>by
  rw[Addr.add_mid,Nat.zero_add]
  exact h j hj
theorem far (ct:Int) (sg mo:ByteArray) (w:World) (h:sg.size≠669∨sg.size=669∧500<mo.size) (hP:Gp w):
 Calls Tryz.prog 5 #[.string sg,.string mo,.int .i64 ct] w fun e w'=>e=.returned (.bool true)∧Below w.heap.size w w':=by
 have hq:((sg.size:Int) != 669)=true∨((sg.size:Int) != 669)=false∧(500:Int)<(mo.size:Int):=by
  rcases h with h | ⟨h1,h2⟩
  ·exact Or.inl (by simp;omega)
  ·exact Or.inr ⟨by rw[h1];rfl,by omega⟩
 have HA:=Away.mk (fun w1 hg=>vpw.awake_any w1 hg)
 have HP:=Away.mk hP
 obtain⟨hzl,hsizel⟩:=zero_of_info rset.infoL
 obtain⟨Zl,HZl⟩:=ex_eq set0
 rw[HZl.out]at hzl
 have HZls:Away (Zl.size=8):=⟨by rw[←HZl.out];rfl⟩
 obtain⟨T,HT⟩:=ex_eq TA
 have Hmk:Away (∀ w1:World,Calls Tryz.prog 16 #[] w1 fun e w'=>e=.returned (.agg T)∧Below w1.heap.size w1 w'):=⟨fun w1=>by rw[←HT.out];exact make.make_any w1⟩
 obtain⟨L,HL⟩:=ex_eq set4
 have HPr:Away (∀ w1:World,Gp w1→Calls Tryz.prog 18 #[.agg T,.agg L,.string d32] w1 fun y w'=>y=.returned (.tuple #[.string PK,.string (pSk ζd d32 1 1 2),.int .i64 0])∧Below w1.heap.size w1 w'):=⟨fun w1 hg=>by rw[←HT.out,←HL.out];exact kcon.pair 1 1 2 20 131072 95232 60 128 d32 lat4 w1 hg rfl⟩
 have HLs:Away (L.size=8):=⟨by rw[←HL.out];rfl⟩
 have HLo:Away (L.all (·.oneCell')=true):=⟨by rw[←HL.out];simp[set4,Value.oneCell']⟩
 have HLz:Away ((Tryz.prog.info? 37).map (·.size)=some L.size):=⟨by rw[HLs.out];exact hsizel⟩
 have HSet:Away (∀ w1:World,Calls Tryz.prog 17 #[.int .i64 4] w1 fun e w'=>e=.returned (.tuple #[.agg L,.int .i64 0])∧Below w1.heap.size w1 w'):=⟨fun w1=>by rw[←HL.out];exact rset.set_4 w1⟩
 have HSz:Away (∀ w1:World,Calls Tryz.prog 20 #[.agg L] w1 fun e w'=>e=.returned (.tuple #[.int .i64 (sz1 1),.int .i64 (sz2 1 1 2),.int .i64 669])∧Below w1.heap.size w1 w'):=⟨fun w1=>by
  have h9:=ksz.sizes_any 1 1 2 20 131072 95232 60 128 w1
  unfold rksz.szs at h9
  rw[if_pos (show latt 1 1 2 20 131072 95232 60 128=true by decide +kernel),show sz3 1 1 131072 60 128=669 by decide +kernel]at h9
  rw[←HL.out]
  exact h9⟩
 have HL6:Away (L[6]? = some (.int .i64 60)):=⟨by rw[←HL.out];rfl⟩
 have HL0:Away (L[0]? = some (.int .i64 1)):=⟨by rw[←HL.out];rfl⟩
 clear hP hsizel HZl HT HL h
 go_enter Tryz.func5,Tryz.ntmps5
 go_wp2_with fail
 refine(HSet.out _).mono ?_
 rintro y w1 ⟨rfl,hb1⟩
 obtain⟨W2,hW2⟩:∃ y,w1.alloc (.cells L 37)=y:=⟨_,rfl⟩
 obtain⟨r2,hs2,b2⟩:=polt.one hW2
 have HW2:=Away.mk hW2
 have E2:Away (Below w.heap.size w W2):=⟨hb1.trans (b2.mono hb1.size)⟩
 have LB:Away (∀ w':World,Below W2.heap.size W2 w'→w'.heap[w1.heap.size]? = some (.cells L 37 (0,0))):=⟨fun w' hb=>(hb.block _ (lt_of_row r2)).trans r2⟩
 have GP:Away (∀ w':World,Below W2.heap.size W2 w'→Gp w'):=⟨fun w' hb=>HP.out.later (E2.out.trans (hb.mono E2.out.size))⟩
 clear hb1 hW2 r2 hs2 b2
 have F2:Away (Below W2.heap.size W2 W2):=⟨Below.refl _ _⟩
 go_wp2_with (first
  | (refine wpList_store_new rfl 37 _ _ rfl _ rfl rfl HLz.out (by rw[HLs.out];exact HZls.out) HLo.out rfl ?_)
  | (rw[HW2.out])
  | (refine wpList_load_row rfl 37 _ rfl w1.heap.size rfl 37 L (0,0) _ (LB.out _ F2.out) Tryz.underlying37 rfl HLz.out ?_))
 refine(HSz.out _).mono ?_
 rintro y w3 ⟨rfl,hb3⟩
 have E3:Away (Below W2.heap.size W2 w3):=⟨hb3⟩
 clear hb3 hzl
 go_wp2_with fail
 refine hk_begin (w3.heap.size) 10 [1,0,2,3,4,5,6,7,8,9] (by kernel_rfl) rfl rfl (by decide) (fun hS ops HO=>?_)
 simp only[List.filterMap_cons,fa,List.getElem?_cons_succ,List.getElem?_cons_zero]
 refine hk_l (by rw[←HO.out];kernel_rfl) (fun _ _ _ _ h=>h) 37 _ rfl w1.heap.size rfl 37 L _ (fun v1 h1=>LB.out v1 (E3.out.trans (h1.mono E3.out.size))) Tryz.underlying37 rfl HLz.out hS ?_
 simp only[Act.put,pa,pb,pc]
 refine hk_s (by rw[←HO.out];kernel_rfl) (fun K hK=>?_)
 go_simp
 refine(Hmk.out _).mono ?_
 rintro x w5 ⟨rfl,hb5⟩
 have h5:=hS.trans (hb5.mono hS.size)
 refine hK _ _ h5 ?_
 clear hK K
 try simp only[Act.put,pa,pb,pc]
 refine hk_s (by rw[←HO.out];kernel_rfl) (fun K hK=>?_)
 go_simp
 refine(HPr.out _ (GP.out _ (E3.out.trans (h5.mono E3.out.size)))).mono ?_
 rintro x w4 ⟨rfl,hb4⟩
 have h4:=h5.trans (hb4.mono h5.size)
 refine hK _ _ h4 ?_
 clear hK K
 try simp only[Act.put,pa,pb,pc]
 iterate 7 ((refine hk_t (v:=?_) (by rw[←HO.out];kernel_rfl) (fun _ _ _ h=>h) ?_ h4 ?_;rotate_left;focus (intro w9 h9;go_simp;first | done | with_reducible rfl);all_goals skip);simp only[Act.put,pa,pb,pc])
 refine hk_nil (by rw[←HO.out];kernel_rfl) ?_
 have E4:Away (Below W2.heap.size W2 w4):=⟨E3.out.trans (h4.mono E3.out.size)⟩
 clear hS HO hb5 h5 hb4 h4
 rcases hq with h1 | ⟨h1,h2⟩
 all_goals
  go_wp2_with fail
  refine(HA.out _ (GP.out _ E4.out)).mono ?_
  rintro y w8 ⟨rfl,hb8⟩
  have B8:Below w.heap.size w w8:=E2.out.trans ((E4.out.trans (hb8.mono E4.out.size)).mono E2.out.size)
  go_wp2_with fail
  go_ret
  exact⟨rfl,B8⟩
theorem near (ct:Int) (sg mo:ByteArray) (w:World) (h:sg.size=669) (hmo:mo.size≤500) (hP:Gp w):
 Calls Tryz.prog 5 #[.string sg,.string mo,.int .i64 ct] w fun e w'=>e=.returned (.bool true)∧Below w.heap.size w w':=by
 have hq1:((sg.size:Int) != 669)=false:=by rw[h];rfl
 have hq2:¬ (500:Int)<(mo.size:Int):=by omega
 obtain⟨k,hk⟩:=Int.eq_ofNat_of_zero_le (a:=(IntKind.u64.wrap ct).tmod 669) (Int.tmod_nonneg _ (by rw[IntKind.wrap_u64];omega))
 have hk4:k<669:=by
  have:=Int.tmod_lt_of_pos (IntKind.u64.wrap ct) (show (0:Int)<669 by decide)
  omega
 have hkw:IntKind.i64.wrap (k:Int)=(k:Int):=by rw[IntKind.wrap_i64];omega
 have HI1:Away (∀ w1:World,Gp w1→Calls Tryz.prog 11 #[.agg TA,.agg set4,.string PK,.string ⟨#[109]⟩,.string (sg.extract 0 k)] w1 fun y w'=>y=.returned (.tuple #[.bool false,.int .i64 3])∧Below w1.heap.size w1 w'):=⟨fun w1 hg=>inner_no _ _ w1 hg (by decide) (not_ok (by rw[size_extract _ _ _ (Nat.zero_le _) (by omega)];omega))⟩
 have HI3:Away (∀ w1:World,Gp w1→Calls Tryz.prog 11 #[.agg TA,.agg set4,.string PK,.string ⟨#[109]⟩,.string ⟨(chg sg).toArray⟩] w1 fun y w'=>y=.returned (.tuple #[.bool false,.int .i64 3])∧Below w1.heap.size w1 w'):=⟨fun w1 hg=>inner_no _ _ w1 hg (by decide) (chg_no h)⟩
 obtain⟨y2,c2,e2⟩:=resV_two (fun k=>((tabt.zt k:Nat):Int)%8380417) 1 1 2 20 131072 95232 60 128 PK ⟨#[109]⟩ (sg++mo)
 have HI2:Away (∀ w1:World,Gp w1→Calls Tryz.prog 11 #[.agg TA,.agg set4,.string PK,.string ⟨#[109]⟩,.string (sg++mo)] w1 fun y w'=>y=.returned (.tuple #[.bool y2,.int .i64 c2])∧Below w1.heap.size w1 w'):=⟨fun w1 hg=>by
  have h1:=vpi.inner_any _ 1 1 2 20 131072 95232 60 128 PK ⟨#[109]⟩ (sg++mo) w1 kecd.kt_doc kaw.zt_doc hg lat4 (by decide)
  rw[e2]at h1
  exact h1⟩
 have hc2:mo.size=0∨0<mo.size∧c2=3:=by
  rcases Nat.eq_zero_or_pos mo.size with q | q
  ·exact Or.inl q
  ·refine Or.inr ⟨q,?_⟩
   unfold resV at e2
   rw[if_neg fun q2=>not_ok (x:=sg++mo) (by rw[ByteArray.size_append];omega) q2.2]at e2
   injection e2 with e2
   have e3:=congrArg (fun (u:Array Value)=>u[1]?) e2
   simp only[List.getElem?_toArray,List.getElem?_cons_succ,List.getElem?_cons_zero,Option.some.injEq,Value.int.injEq,true_and]at e3
   exact e3.symm
 have Hc2:=Away.mk hc2
 have hcat:¬ 9223372036854775807<sg.size+mo.size:=by omega
 obtain⟨X1,HX1⟩:=ex_eq (sg.extract 0 k)
 have hX1:=HX1.out
 rw[hX1]at HI1
 obtain⟨X3,HX3⟩:=ex_eq (⟨(chg sg).toArray⟩:ByteArray)
 rw[HX3.out]at HI3
 have Hsg:=Away.mk h
 have hk5:k≤sg.size:=by omega
 have HA:=Away.mk (fun w1 hg=>vpw.awake_any w1 hg)
 have HP:=Away.mk hP
 obtain⟨hzl,hsizel⟩:=zero_of_info rset.infoL
 obtain⟨Zl,HZl⟩:=ex_eq set0
 rw[HZl.out]at hzl
 have HZls:Away (Zl.size=8):=⟨by rw[←HZl.out];rfl⟩
 obtain⟨T,HT⟩:=ex_eq TA
 have Hmk:Away (∀ w1:World,Calls Tryz.prog 16 #[] w1 fun e w'=>e=.returned (.agg T)∧Below w1.heap.size w1 w'):=⟨fun w1=>by rw[←HT.out];exact make.make_any w1⟩
 obtain⟨L,HL⟩:=ex_eq set4
 have HPr:Away (∀ w1:World,Gp w1→Calls Tryz.prog 18 #[.agg T,.agg L,.string d32] w1 fun y w'=>y=.returned (.tuple #[.string PK,.string (pSk ζd d32 1 1 2),.int .i64 0])∧Below w1.heap.size w1 w'):=⟨fun w1 hg=>by rw[←HT.out,←HL.out];exact kcon.pair 1 1 2 20 131072 95232 60 128 d32 lat4 w1 hg rfl⟩
 have HLs:Away (L.size=8):=⟨by rw[←HL.out];rfl⟩
 have HLo:Away (L.all (·.oneCell')=true):=⟨by rw[←HL.out];simp[set4,Value.oneCell']⟩
 have HLz:Away ((Tryz.prog.info? 37).map (·.size)=some L.size):=⟨by rw[HLs.out];exact hsizel⟩
 have HSet:Away (∀ w1:World,Calls Tryz.prog 17 #[.int .i64 4] w1 fun e w'=>e=.returned (.tuple #[.agg L,.int .i64 0])∧Below w1.heap.size w1 w'):=⟨fun w1=>by rw[←HL.out];exact rset.set_4 w1⟩
 have HSz:Away (∀ w1:World,Calls Tryz.prog 20 #[.agg L] w1 fun e w'=>e=.returned (.tuple #[.int .i64 (sz1 1),.int .i64 (sz2 1 1 2),.int .i64 669])∧Below w1.heap.size w1 w'):=⟨fun w1=>by
  have h9:=ksz.sizes_any 1 1 2 20 131072 95232 60 128 w1
  unfold rksz.szs at h9
  rw[if_pos (show latt 1 1 2 20 131072 95232 60 128=true by decide +kernel),show sz3 1 1 131072 60 128=669 by decide +kernel]at h9
  rw[←HL.out]
  exact h9⟩
 have HL6:Away (L[6]? = some (.int .i64 60)):=⟨by rw[←HL.out];rfl⟩
 have HL0:Away (L[0]? = some (.int .i64 1)):=⟨by rw[←HL.out];rfl⟩
 rw[HT.out,HL.out]at HI1 HI2 HI3
 clear hP hsizel HZl HT HL h hmo hk4 e2 hc2 HX1
 go_enter Tryz.func5,Tryz.ntmps5
 go_wp2_with fail
 refine(HSet.out _).mono ?_
 rintro y w1 ⟨rfl,hb1⟩
 obtain⟨W2,hW2⟩:∃ y,w1.alloc (.cells L 37)=y:=⟨_,rfl⟩
 obtain⟨r2,hs2,b2⟩:=polt.one hW2
 have HW2:=Away.mk hW2
 have E2:Away (Below w.heap.size w W2):=⟨hb1.trans (b2.mono hb1.size)⟩
 have LB:Away (∀ w':World,Below W2.heap.size W2 w'→w'.heap[w1.heap.size]? = some (.cells L 37 (0,0))):=⟨fun w' hb=>(hb.block _ (lt_of_row r2)).trans r2⟩
 have GP:Away (∀ w':World,Below W2.heap.size W2 w'→Gp w'):=⟨fun w' hb=>HP.out.later (E2.out.trans (hb.mono E2.out.size))⟩
 clear hb1 hW2 r2 hs2 b2
 have F2:Away (Below W2.heap.size W2 W2):=⟨Below.refl _ _⟩
 go_wp2_with (first
  | (refine wpList_store_new rfl 37 _ _ rfl _ rfl rfl HLz.out (by rw[HLs.out];exact HZls.out) HLo.out rfl ?_)
  | (rw[HW2.out])
  | (refine wpList_load_row rfl 37 _ rfl w1.heap.size rfl 37 L (0,0) _ (LB.out _ F2.out) Tryz.underlying37 rfl HLz.out ?_))
 refine(HSz.out _).mono ?_
 rintro y w3 ⟨rfl,hb3⟩
 have E3:Away (Below W2.heap.size W2 w3):=⟨hb3⟩
 clear hb3 hzl
 go_wp2_with fail
 refine hk_begin (w3.heap.size) 10 [1,0,2,3,4,5,6,7,8,9] (by kernel_rfl) rfl rfl (by decide) (fun hS ops HO=>?_)
 simp only[List.filterMap_cons,fa,List.getElem?_cons_succ,List.getElem?_cons_zero]
 refine hk_l (by rw[←HO.out];kernel_rfl) (fun _ _ _ _ h=>h) 37 _ rfl w1.heap.size rfl 37 L _ (fun v1 h1=>LB.out v1 (E3.out.trans (h1.mono E3.out.size))) Tryz.underlying37 rfl HLz.out hS ?_
 simp only[Act.put,pa,pb,pc]
 refine hk_s (by rw[←HO.out];kernel_rfl) (fun K hK=>?_)
 go_simp
 refine(Hmk.out _).mono ?_
 rintro x w5 ⟨rfl,hb5⟩
 have h5:=hS.trans (hb5.mono hS.size)
 refine hK _ _ h5 ?_
 clear hK K
 try simp only[Act.put,pa,pb,pc]
 refine hk_s (by rw[←HO.out];kernel_rfl) (fun K hK=>?_)
 go_simp
 refine(HPr.out _ (GP.out _ (E3.out.trans (h5.mono E3.out.size)))).mono ?_
 rintro x w4 ⟨rfl,hb4⟩
 have h4:=h5.trans (hb4.mono h5.size)
 refine hK _ _ h4 ?_
 clear hK K
 try simp only[Act.put,pa,pb,pc]
 iterate 7 ((refine hk_t (v:=?_) (by rw[←HO.out];kernel_rfl) (fun _ _ _ h=>h) ?_ h4 ?_;rotate_left;focus (intro w9 h9;go_simp;first | done | with_reducible rfl);all_goals skip);simp only[Act.put,pa,pb,pc])
 refine hk_nil (by rw[←HO.out];kernel_rfl) ?_
 have E4:Away (Below W2.heap.size W2 w4):=⟨E3.out.trans (h4.mono E3.out.size)⟩
 clear hS HO hb5 h5 hb4 h4
 go_wp2_with fail
 refine hk_begin (w4.heap.size) 12 [1,2,3,4,5,0,6,7,8,9,10,11] (by kernel_rfl) rfl rfl (by decide) (fun hS ops HO=>?_)
 simp only[List.filterMap_cons,fa,List.getElem?_cons_succ,List.getElem?_cons_zero]
 refine hk_l (by rw[←HO.out];kernel_rfl) (fun _ _ _ _ h=>h) 37 _ rfl w1.heap.size rfl 37 L _ (fun v1 h1=>LB.out v1 (E4.out.trans (h1.mono E4.out.size))) Tryz.underlying37 rfl HLz.out hS ?_
 iterate 4 (simp only[Act.put,pa,pb,pc];(refine hk_t (v:=?_) (by rw[←HO.out];kernel_rfl) (fun _ _ _ h=>h) ?_ hS ?_;rotate_left;focus (intro w9 h9;go_simp;first | done | with_reducible rfl);all_goals skip))
 simp only[Act.put,pa,pb,pc]
 refine hk_s (by rw[←HO.out];kernel_rfl) (fun K hK=>?_)
 go_simp
 refine(Hmk.out _).mono ?_
 rintro x wa ⟨rfl,hbm⟩
 have hm:=hS.trans (hbm.mono hS.size)
 refine hK _ _ hm ?_
 clear hK K
 try simp only[Act.put,pa,pb,pc]
 refine hk_s (by rw[←HO.out];kernel_rfl) (fun K hK=>?_)
 go_simp
 refine(HI1.out _ (GP.out _ (E4.out.trans (hm.mono E4.out.size)))).mono ?_
 rintro x w5 ⟨rfl,hbi⟩
 have hi:=hm.trans (hbi.mono hm.size)
 refine hK _ _ hi ?_
 clear hK K
 try simp only[Act.put,pa,pb,pc]
 iterate 5 ((refine hk_t (v:=?_) (by rw[←HO.out];kernel_rfl) (fun _ _ _ h=>h) ?_ hi ?_;rotate_left;focus (intro w9 h9;go_simp;first | done | with_reducible rfl);all_goals skip);simp only[Act.put,pa,pb,pc])
 refine hk_nil (by rw[←HO.out];kernel_rfl) ?_
 have E5:Away (Below W2.heap.size W2 w5):=⟨E4.out.trans (hi.mono E4.out.size)⟩
 clear hS HO hbm hm hbi hi
 go_wp2_with fail
 refine hk_begin (w5.heap.size) 12 [1,2,3,4,5,0,6,7,8,9,10,11] (by kernel_rfl) rfl rfl (by decide) (fun hS ops HO=>?_)
 simp only[List.filterMap_cons,fa,List.getElem?_cons_succ,List.getElem?_cons_zero]
 refine hk_l (by rw[←HO.out];kernel_rfl) (fun _ _ _ _ h=>h) 37 _ rfl w1.heap.size rfl 37 L _ (fun v1 h1=>LB.out v1 (E5.out.trans (h1.mono E5.out.size))) Tryz.underlying37 rfl HLz.out hS ?_
 iterate 4 (simp only[Act.put,pa,pb,pc];(refine hk_t (v:=?_) (by rw[←HO.out];kernel_rfl) (fun _ _ _ h=>h) ?_ hS ?_;rotate_left;focus (intro w9 h9;go_simp;first | done | with_reducible rfl);all_goals skip))
 simp only[Act.put,pa,pb,pc]
 refine hk_s (by rw[←HO.out];kernel_rfl) (fun K hK=>?_)
 go_simp
 refine(Hmk.out _).mono ?_
 rintro x wb ⟨rfl,hbm⟩
 have hm:=hS.trans (hbm.mono hS.size)
 refine hK _ _ hm ?_
 clear hK K
 try simp only[Act.put,pa,pb,pc]
 refine hk_s (by rw[←HO.out];kernel_rfl) (fun K hK=>?_)
 go_simp
 refine(HI2.out _ (GP.out _ (E5.out.trans (hm.mono E5.out.size)))).mono ?_
 rintro x w6 ⟨rfl,hbi⟩
 have hi:=hm.trans (hbi.mono hm.size)
 refine hK _ _ hi ?_
 clear hK K
 try simp only[Act.put,pa,pb,pc]
 iterate 5 ((refine hk_t (v:=?_) (by rw[←HO.out];kernel_rfl) (fun _ _ _ h=>h) ?_ hi ?_;rotate_left;focus (intro w9 h9;go_simp;first | done | with_reducible rfl);all_goals skip);simp only[Act.put,pa,pb,pc])
 refine hk_nil (by rw[←HO.out];kernel_rfl) ?_
 have E6:Away (Below W2.heap.size W2 w6):=⟨E5.out.trans (hi.mono E5.out.size)⟩
 clear hS HO hbm hm hbi hi
 have hcv:=run_bytes_of_string (P:=Tryz.prog) w6 9 57 5 sg Tryz.underlying9 Tryz.underlying57 Tryz.underlying5
 have hbs:=bs_new w6 sg (grownCap w6 sg.size 0 5) 5
 obtain⟨cap,hcap⟩:∃ y,grownCap w6 sg.size 0 5=y:=⟨_,rfl⟩
 rw[hcap,Hsg.out]at hcv
 rw[hcap]at hbs
 obtain⟨W7,hW7⟩:∃ y,w6.drew.alloc (.cells (bytesRow sg cap) 5 ((bytesRow sg cap).size,(bytesRow sg cap).size+1))=y:=⟨_,rfl⟩
 have b7:Below w6.heap.size w6 W7:=by rw[←hW7];exact(Below.refl _ _).drew.alloc (Nat.le_refl _) _
 have l7:w6.heap.size<W7.heap.size:=by rw[←hW7,size_alloc];exact Nat.lt_succ_self _
 rw[hW7]at hcv hbs
 obtain⟨g,hg⟩:∃ y,w6.heap.size=y:=⟨_,rfl⟩
 have hG:W2.heap.size≤g:=by rw[←hg];exact E6.out.size
 rw[hg]at hcv hbs b7 l7
 have hl:sg.data.toList.length=669:=Hsg.out
 have E7:Away (Below W2.heap.size W2 W7):=⟨E6.out.trans (b7.mono hG)⟩
 obtain⟨W8,hW8⟩:∃ y,((W7.setCell ⟨g,608,none⟩ (.int .u8 5)).setCell ⟨g,609,none⟩ (.int .u8 5)).setCell ⟨g,668,none⟩ (.int .u8 2)=y:=⟨_,rfl⟩
 have B8:BS W8 g (chg sg):=by rw[←hW8];exact((hbs.set 608 (by omega) 5).set 609 (by rw[List.length_set];omega) 5).set 668 (by rw[List.length_set,List.length_set];omega) 2
 have l8:g<W8.heap.size:=by rw[←hW8,World.size_setCell,World.size_setCell,World.size_setCell];exact l7
 have E8:Away (Below W2.heap.size W2 W8):=⟨by rw[←hW8];exact((E7.out.setCell hG _).setCell hG _).setCell hG _⟩
 have hln:(chg sg).length=669:=by unfold chg;rw[List.length_set,List.length_set,List.length_set,hl]
 have HCV:Away (∀ w':World,Below W8.heap.size W8 w'→(convert 57 9 (.slice (some ⟨g,0,none⟩) 669 cap)).run Tryz.prog w'=.ok (.string X3) w'):=⟨fun w' hb=>by rw[←HX3.out];exact bs_conv (fun j hj=>(hb.cell (p:=⟨g,j,none⟩) l8).trans (B8 j hj).1) hln⟩
 have c608:=(hbs 608 (by omega)).1
 have f608:=(hbs 608 (by omega)).2
 have c609:=(hbs 609 (by omega)).1
 have f609:=(hbs 609 (by omega)).2
 have c668:=(hbs 668 (by omega)).1
 have f668:=(hbs 668 (by omega)).2
 have c6:W7.cell? ⟨w1.heap.size,6,none⟩=some (.int .i64 60):=cell_at (LB.out _ E7.out) HL6.out
 have c0:W7.cell? ⟨w1.heap.size,0,none⟩=some (.int .i64 1):=cell_at (LB.out _ E7.out) HL0.out
 generalize sg.data.toList[608]=z1 at c608
 generalize sg.data.toList[609]=z2 at c609
 generalize sg.data.toList[668]=z3 at c668
 have HW8:=Away.mk hW8
 clear hbs hcap hW7 b7 l7 hl B8 hln hW8 hG hk5 hX1 hcat
 go_wp2_with fail
 rw[HW8.out]
 clear hcv c608 f608 c609 f609 c668 f668 c6 c0
 refine hk_begin (W8.heap.size) 11 [1,2,3,4,0,5,6,7,8,9,10] (by kernel_rfl) rfl rfl (by decide) (fun hS ops HO=>?_)
 simp only[List.filterMap_cons,fa,List.getElem?_cons_succ,List.getElem?_cons_zero]
 refine hk_l (by rw[←HO.out];kernel_rfl) (fun _ _ _ _ h=>h) 37 _ rfl w1.heap.size rfl 37 L _ (fun v1 h1=>LB.out v1 (E8.out.trans (h1.mono E8.out.size))) Tryz.underlying37 rfl HLz.out hS ?_
 iterate 2 (simp only[Act.put,pa,pb,pc];(refine hk_t (v:=?_) (by rw[←HO.out];kernel_rfl) (fun _ _ _ h=>h) ?_ hS ?_;rotate_left;focus (intro w9 h9;go_simp;first | done | with_reducible rfl);all_goals skip))
 simp only[Act.put,pa,pb,pc]
 (refine hk_t (v:=?_) (by rw[←HO.out];kernel_rfl) (fun _ _ _ h=>h) ?_ hS ?_;rotate_left;focus (intro w9 h9;have hc:=HCV.out w9 h9;go_simp;first | done | with_reducible rfl);all_goals skip)
 simp only[Act.put,pa,pb,pc]
 refine hk_s (by rw[←HO.out];kernel_rfl) (fun K hK=>?_)
 go_simp
 refine(Hmk.out _).mono ?_
 rintro x wm ⟨rfl,hbm⟩
 have hm:=hS.trans (hbm.mono hS.size)
 refine hK _ _ hm ?_
 clear hK K
 try simp only[Act.put,pa,pb,pc]
 refine hk_s (by rw[←HO.out];kernel_rfl) (fun K hK=>?_)
 go_simp
 refine(HI3.out _ (GP.out _ (E8.out.trans (hm.mono E8.out.size)))).mono ?_
 rintro x w9 ⟨rfl,hbi⟩
 have hi:=hm.trans (hbi.mono hm.size)
 refine hK _ _ hi ?_
 clear hK K
 try simp only[Act.put,pa,pb,pc]
 iterate 5 ((refine hk_t (v:=?_) (by rw[←HO.out];kernel_rfl) (fun _ _ _ h=>h) ?_ hi ?_;rotate_left;focus (intro w9 h9;go_simp;first | done | with_reducible rfl);all_goals skip);simp only[Act.put,pa,pb,pc])
 refine hk_nil (by rw[←HO.out];kernel_rfl) ?_
 have E9:Away (Below W2.heap.size W2 w9):=⟨E8.out.trans (hi.mono E8.out.size)⟩
 clear hS HO hbm hm hbi hi
 rcases Hc2.out with q | ⟨q,q3⟩
 ·have q2:mo.toList.isEmpty=true:=by rw[ByteArray.toList,ByteArray.toList.loop,if_neg (by omega)];rfl
  clear q Hc2
  go_wp2_with fail
  refine(HA.out _ (GP.out _ E9.out)).mono ?_
  rintro y wz ⟨rfl,hbz⟩
  have BZ:Below w.heap.size w wz:=E2.out.trans ((E9.out.trans (hbz.mono E9.out.size)).mono E2.out.size)
  go_wp2_with fail
  go_ret
  exact⟨rfl,BZ⟩
 ·have q2:=mgi.not_empty mo q
  subst q3
  clear q Hc2
  go_wp2_with fail
  refine(HA.out _ (GP.out _ E9.out)).mono ?_
  rintro y wz ⟨rfl,hbz⟩
  have BZ:Below w.heap.size w wz:=E2.out.trans ((E9.out.trans (hbz.mono E9.out.size)).mono E2.out.size)
  go_wp2_with fail
  go_ret
  exact⟨rfl,BZ⟩
theorem walk (sg mo:ByteArray) (ct:Int) (w:World) (w1:sg.size≤maxLen) (w2:mo.size≤maxLen) (wi:(Lit.int .i64 ct).wf=true) (hP:Gp w):Calls Tryz.prog 5 #[.string sg,.string mo,.int .i64 ct] w fun e w'=>e=.returned (.bool true)∧Below w.heap.size w w':=by
 by_cases h:sg.size=669
 ·by_cases hm : 500<mo.size
  ·exact far ct sg mo w (Or.inr ⟨h,hm⟩) hP
  ·exact near ct sg mo w h (by omega) hP
 ·exact far ct sg mo w (Or.inl h) hP
end Go.Proofs.YtomphjajkkddkaaGreatDoor.l14f
namespace Go.Proofs.YtomphjajkkddkaaGreatDoor.l14fc
open Go Go.ChangeShapes Go.WideShapes Go.ChangeAt Go.RowKit
open Go.ChangeMaps (open_string)
open arr kturn l14f
set_option linter.unusedVariables false
theorem own:ownKnob Tryz.prog.godebug=none:=by kernel_rfl
theorem laidOut:laidOutB Tryz.prog=true:=by kernel_rfl
theorem lifted (os:Os) (started:os.Started) (H:Type) (enc:TypeId × Value→H):
 ReturnsInHanded {} Tryz.checked os 5 .any (fun w args => (Rows.mlverifyFormsSpec.pre enc Tryz.prog Tryz.f5 [] false w args ∧ laidMetH Tryz.prog [("sigil/keccak.places", Rows.laid_sigil_keccak_places), ("unicode/utf8.acceptRanges", Rows.laid_unicode_utf8_acceptRanges), ("unicode/utf8.first", Rows.laid_unicode_utf8_first)] w) ∧ sizedMet enc Tryz.prog Tryz.f5 (OpenSpec.ofChange Rows.mlverifyFormsSpec) false w args)
  (Rows.mlverifyFormsSpec.post enc Tryz.prog Tryz.f5 false true false false):=by
 refine returnsInHanded_of_change_and (C := Tryz.checked) (X := fun w _ => laidMetH Tryz.prog [("sigil/keccak.places", Rows.laid_sigil_keccak_places), ("unicode/utf8.acceptRanges", Rows.laid_unicode_utf8_acceptRanges), ("unicode/utf8.first", Rows.laid_unicode_utf8_first)] w) (fun _ _ _ hh h => h.of_heap hh) own started (by kernel_rfl) Tryz.func5
  (ChangeSpec.witness_shaped (enc := enc) (C := Tryz.checked) (os := os) (X := fun w _ => laidMetH Tryz.prog [("sigil/keccak.places", Rows.laid_sigil_keccak_places), ("unicode/utf8.acceptRanges", Rows.laid_unicode_utf8_acceptRanges), ("unicode/utf8.first", Rows.laid_unicode_utf8_first)] w) false (World.laidAll Tryz.prog os [("sigil/keccak.places", Rows.laid_sigil_keccak_places), ("unicode/utf8.acceptRanges", Rows.laid_unicode_utf8_acceptRanges), ("unicode/utf8.first", Rows.laid_unicode_utf8_first)]) #[.string ByteArray.empty, .string ByteArray.empty, .int .i64 0] 8 (World.laidAll_os _ _ _) (World.shaped_of_ZipB (by kernel_rfl) (by kernel_rfl)) (by kernel_rfl) (by kernel_rfl) (by kernel_rfl)
   (by rw[MakeChecks.laidMetH_plain _ _ _ (by kernel_rfl)];exact laidMet_laidAll _ (by kernel_rfl) (by kernel_rfl))) ?_
 intro W base args ds gs before hval0 hW _ _ hL _
 have hval:∀ (j:Nat) t v,Tryz.f5.params[j]? = some t→args[j]? = some v→Value.okWide Tryz.prog W .any base t v:=hval0
 have hW':=hW
 have hlt:=hW.lt
 obtain⟨p,q,hA0,hV,rfl,hfz,hnd⟩:=hW
 have hA:DataW.TrodAll enc Tryz.prog W 0 (fun _=>true) true Tryz.f5.params.toList args.toList ds p:=hA0
 rw[Tryz.params5]at hA hval
 obtain⟨v0,vs0,d0,ds0,p0,q0,hargs,rfl,rfl,h0,r0⟩:=trodAll_cons hA
 obtain⟨v1,vs1,d1,ds1,p1,q1,rfl,rfl,rfl,h1,r1⟩:=trodAll_cons r0
 obtain⟨v2,vs2,d2,ds2,p2,q2,rfl,rfl,rfl,h2,r2⟩:=trodAll_cons r1
 obtain⟨rfl,rfl,rfl⟩:=trodAll_nil r2
 obtain rfl:args=#[v0,v1,v2]:=by cases args;simp_all
 obtain⟨rfl,rfl⟩:=trodVars_none hV
 obtain⟨a0,rfl,rfl,rfl,w0⟩:=open_string Tryz.underlying9 (hval 0 9 v0 rfl rfl) h0
 obtain⟨a1,rfl,rfl,rfl,w1⟩:=open_string Tryz.underlying9 (hval 1 9 v1 rfl rfl) h1
 obtain⟨a2,rfl,rfl,rfl,w2⟩:=open_int Tryz.underlying3 (hval 2 3 v2 rfl rfl) h2
 have hG:=laid3.gp_of hL
 clear hA0 hval0 hL
 refine(walk a0 a1 a2 W w0 w1 w2 hG).mono fun e W' ⟨he,bel⟩=>?_
 subst he
 exact⟨_,rfl,_,_,_,[],_,[],hW',trodAll_mk1 (shut_bool Tryz.underlying4 _),(trodAll_cons_mk (Below.trod laidOut (by kernel_rfl) (of_decide_eq_true (by kernel_rfl)) h0 bel (fun x hx=>by first | exact absurd hx (by simp) | exact hlt x (by simpa using hx) | exact hlt x (by simp;exact Or.inl hx) | exact hlt x (by simp;exact Or.inr hx) | exact hlt x (by simp;exact Or.inr (Or.inl hx)) | exact hlt x (by simp;exact Or.inr (Or.inr hx)))) (trodAll_cons_mk (Below.trod laidOut (by kernel_rfl) (of_decide_eq_true (by kernel_rfl)) h1 bel (fun x hx=>by first | exact absurd hx (by simp) | exact hlt x (by simpa using hx) | exact hlt x (by simp;exact Or.inl hx) | exact hlt x (by simp;exact Or.inr hx) | exact hlt x (by simp;exact Or.inr (Or.inl hx)) | exact hlt x (by simp;exact Or.inr (Or.inr hx)))) (trodAll_cons_mk (Below.trod laidOut (by kernel_rfl) (of_decide_eq_true (by kernel_rfl)) h2 bel (fun x hx=>by first | exact absurd hx (by simp) | exact hlt x (by simpa using hx) | exact hlt x (by simp;exact Or.inl hx) | exact hlt x (by simp;exact Or.inr hx) | exact hlt x (by simp;exact Or.inr (Or.inl hx)) | exact hlt x (by simp;exact Or.inr (Or.inr hx)))) trodAll_mk0))),rfl,bel.frame _,fun h=>by cases h⟩
theorem over:Rows.MlverifyFormsSaid:=
 OpenClaim.holds_of_wide 5 Tryz.f5 rfl rfl rfl rfl rfl rfl rfl ⟨rfl,rfl,rfl,rfl,rfl⟩ rfl rfl rfl rfl rfl (by kernel_rfl) Tryz.func5 (by kernel_rfl)
  (of_decide_eq_true (by kernel_rfl)) (by unfold Func.isWrapper;first | (rw[if_pos (by decide +kernel)];kernel_rfl) | (rw[if_neg (by decide +kernel)];exact⟨rfl,rfl⟩))
  (fun os started H enc _=>lifted os started H enc)
theorem proved:Rows.MlverifyFormsCardSaid:=
 Claim7.holds_tied_plain_at .later [] [.data,.data,.pinned] true _ false
  over (fun _ h=>by cases h) (by kernel_rfl) (fun _ h=>by cases h) mlverifyForms_row_tie rfl ⟨rfl,rfl⟩ (by kernel_rfl) rfl
  (fun f fn hf hfn=>by
   obtain rfl : f = 5 := Option.some.inj ((show Tryz.prog.funcNamed "sigil/sigillaw14.MlverifyForms" = some 5 by kernel_rfl).symm.trans hf) |>.symm
   obtain rfl:fn=Tryz.f5:=(Option.some.inj (Tryz.func5.symm.trans hfn)).symm
   exact⟨by kernel_rfl,fun j t ht=>by
    rw[Tryz.params5]at ht
    have hm:t∈[9,9,3]:=by simpa using Array.mem_of_getElem? ht
    have hall:([9,9,3].all fun u => !Tryz.prog.wantsStandIn u)=true:=by kernel_rfl
    exact(show Tryz.prog.wantsStandIn t=false by simpa using List.all_eq_true.1 hall t hm)⟩)
  (by kernel_rfl)
end Go.Proofs.YtomphjajkkddkaaGreatDoor.l14fc
