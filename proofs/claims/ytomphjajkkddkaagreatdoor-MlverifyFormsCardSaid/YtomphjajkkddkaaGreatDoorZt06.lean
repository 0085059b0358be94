/-
  Comparing two values of type api.Tables, or two lists of round constants, by '==': it answers, whate
-/
import Derived.Test.YtomphjajkkddkaaGreatDoorZt05
import Derived.Test.YtomphjajkkddkaaGreatDoorZt02
import Derived.Test.YtomphjajkkddkaaGreatDoorZt03
import Derived.Test.YtomphjajkkddkaaGreatDoorRows
import Derived.Test.YtomphjajkkddkaaGreatDoorZt04
import Derived.Laws.StructEq
import Derived.ChangeKeysEq
import Derived.LaidMore
import Derived.OpenShut
import Derived.Stop.Joined
set_option maxRecDepth 100000
set_option maxHeartbeats 16000000
namespace Go.Proofs.YtomphjajkkddkaaGreatDoor
namespace eqs
open Go.RowKit
open tabv arr
def intAt (xs:Array Value) (i:Nat):Int:=match xs[i]? with
 | some (.int _ a)=>a
 | _=>0
def Nums (k:IntKind) (xs:Array Value) (o n:Nat):Prop:=∀ i,i<n→∃ a,xs[o+i]? = some (.int k a)
section
variable {P:Program}
structure FieldOk (P:Program) (f:Field) (xs:Array Value):Prop where
 nm : (f.name ≠ "_") = True
 ok:∃ n e k i,P.underlying f.type=some (.array n e)∧(P.info? f.type).map (·.size)=some n∧P.info? e=some i∧P.cellsOf e=1∧P.underlying e=some (.int k)∧f.offset+n≤xs.size∧Nums k xs f.offset n
end
def kd (i:Nat):IntKind:=if i<72 then .u32 else if i<184 then .u64 else .i64
def Good (xs:Array Value):Prop:=xs.size=465∧∀ i,i<465→∃ a,xs[i]? = some (.int (kd i) a)
end eqs
namespace words
open Go Go.ChangeShapes Go.WideShapes Go.ChangeAt Go.RowKit
open arr eqs
section
variable {H:Type} {enc:TypeId × Value→H} {P:Program} {w:World} {base:Nat} {spare held:Bool}
end
end words
namespace laids
open Go Go.ChangeShapes Go.WideShapes Go.ChangeAt Go.RowKit
open arr mem kturn
theorem ints_of_laid {P:Program} {w:World} {g n:Nat} {name:String} {t e:TypeId} (ds:List Nat) (h:laidMetH P [(name,.agg (ds.map fun d:Nat=>.lit (.int .i64 (d:Int))))] w) (hg:P.globalNamed name=some g) (ht:(P.globals[g]?).map (·.type)=some t)
 (hu:P.underlying t=some (.array n e)) (he:P.underlying e=some (.int .i64)) (hce:P.cellsOf e=1) (hct:P.cellsOf t=n) (hl:ds.length=n) (hn : 0<n):∃ t,w.heap[g]? = some (.cells (LK .i64 ds) t (0,0)):=by
 rw[MakeChecks.laidMetH_plain _ _ _ (by simp[DataW.handleName?])]at h
 obtain⟨ps,⟨g0,t0,cs,fuel,p,q,hg0,ht0,hv,hd,hq,hps⟩,-,hb⟩:=h
 obtain rfl:=Option.some.inj (hg.symm.trans hg0)
 obtain rfl:=Option.some.inj (ht.symm.trans ht0)
 obtain⟨xs,m,-,hx,hlen,hxs,hel⟩:=DataW.trod_array hu hd
 simp only[Prod.mk.injEq,DataW.agg.injEq]at hx
 have hsz:cs.size=n:=by rw[←hct,←hlen];simp
 have hmem:MemPlace.cell g 0∈ps:=by
  rw[hps]
  refine List.mem_append_left _ (List.mem_append_left _ (MemPlace.mem_row.2 ⟨0,by omega,by simp⟩))
 obtain⟨⟨c,t',hc⟩,-⟩:=hb g 0 hmem
 have hcc:c=cs:=by
  simp only[World.var?,hg,Option.bind_some,hc]at hv
  exact Option.some.inj hv
 subst hcc
 refine⟨t',?_⟩
 rw[hc]
 congr 2
 apply Array.ext (by rw[lk_size,hsz,hl])
 intro i h1 h2
 have h3:=hel i (by omega)
 rw[hce,Nat.mul_one,List.drop_eq_getElem_cons (by simpa using h1),List.take_succ_cons,List.take_zero,List.getElem?_eq_getElem (by omega)]at h3
 obtain⟨a,e1,e2,-⟩:=DataW.trod_int he h3
 have e3:(ds.map fun d:Nat=>(DataW.lit (.int .i64 (d:Int)):DataW Unit))[i]? = (xs.map (·.1))[i]? := by rw[hx.1]
 rw[List.getElem?_map,List.getElem?_map,List.getElem?_eq_getElem (by omega),List.getElem?_eq_getElem (by omega),e2]at e3
 simp only[Option.map_some,Option.some.injEq,DataW.lit.injEq,Lit.int.injEq,true_and]at e3
 simp only[List.cons.injEq,and_true]at e1
 have e4:c[i]=.int .i64 a:=by simpa using e1
 rw[e4,←e3]
 simp[LK]
theorem gp_of {w : World} (h : laidMetH Tryz.prog [("sigil/keccak.places", Rows.laid_sigil_keccak_places)] w) : Gp w :=
 ints_of_laid (n:=25) (t:=31) (e:=3) PL h (by kernel_rfl) (by kernel_rfl) (by kernel_rfl) (by kernel_rfl) (by kernel_rfl) (by kernel_rfl) rfl (by decide)
end laids
namespace kfun
open Go.RowKit
open arr mem kecm kecb kturn kstep
theorem size25 {l:List Nat} (h:l.length=25):(Tryz.prog.info? 162).map (·.size)=some (LK .u64 l).size:=by rw[lk_size,h];exact info25
theorem same25 {l m:List Nat} (h:l.length=25) (hm:m.length=25):(LK .u64 l).size=(LK .u64 m).size:=by rw[lk_size,lk_size,h,hm]
theorem two {w W:World} {x y:Obj} (h:(w.alloc x).alloc y=W):W.heap[w.heap.size]? = some x∧W.heap[w.heap.size+1]? = some y∧W.heap.size=w.heap.size+2∧Below w.heap.size w W:=by
 subst h
 refine⟨?_,heap_at _ _ _ (by rw[size_alloc]),by rw[size_alloc,size_alloc],((Below.refl _ _).alloc (Nat.le_refl _) _).alloc (by rw[size_alloc];omega) _⟩
 rw[heap_past _ _ _ (by rw[size_alloc];omega),heap_at _ _ _ rfl]
theorem three {w W:World} {x y z:Obj} (h:((w.alloc x).alloc y).alloc z=W):W.heap[w.heap.size]? = some x∧W.heap[w.heap.size+1]? = some y∧W.heap[w.heap.size+2]? = some z∧W.heap.size=w.heap.size+3∧Below w.heap.size w W:=by
 obtain⟨h1,h2,h3,h4⟩:=two (w:=w) (x:=x) (y:=y) rfl
 subst h
 refine⟨?_,?_,heap_at _ _ _ h3.symm,by rw[size_alloc,h3],h4.alloc (by rw[h3];omega) _⟩
 ·rw[heap_past _ _ _ (by omega),h1]
 ·rw[heap_past _ _ _ (by omega),h2]
theorem cst_at (rs:List Nat) (k:Nat) (h:k<24):cst rs (k:Int)=rs.getD k 0:=by
 rw[cst,if_pos (by omega),Int.toNat_natCast]
theorem perm_any {T:Array Value} {ts rs:List Nat} (a:List Nat) (w:World) (h:St a) (hK:KT T ts rs) (hP:Gp w):
 Calls Tryz.prog 204 #[.agg T,.agg (LK .u64 a)] w fun e w'=>e=.returned (.agg (LK .u64 (permL (fun i=>ts.getD i 0) (fun i=>rs.getD i 0) a 24)))∧Below w.heap.size w w':=by
 have H:=Away.mk h
 obtain⟨z,HZ⟩:=ex_eq Z
 have HZl:Away (z.length=25):=⟨by rw[←HZ.out];rfl⟩
 have Hz:Away ((#[.int .u64 0,.int .u64 0,.int .u64 0,.int .u64 0,.int .u64 0,.int .u64 0,.int .u64 0,.int .u64 0,.int .u64 0,.int .u64 0,.int .u64 0,.int .u64 0,.int .u64 0,.int .u64 0,.int .u64 0,.int .u64 0,.int .u64 0,.int .u64 0,.int .u64 0,.int .u64 0,.int .u64 0,.int .u64 0,.int .u64 0,.int .u64 0,.int .u64 0]:Array Value)=LK .u64 z):=⟨by rw[←HZ.out];exact z_is⟩
 clear h HZ
 have HK:=Away.mk hK
 have HP:=Away.mk hP
 clear hK hP
 obtain⟨R,HR⟩:=ex_eq (permL (fun i=>ts.getD i 0) (fun i=>rs.getD i 0) a 24)
 have HRl:Away (R.length=25):=⟨by rw[←HR.out];exact(permL_st (fun i=>ts.getD i 0) _ HK.out.br H.out 24).len⟩
 have HRo:=Away.mk (lk_one .u64 R)
 have HRz:=Away.mk (size25 HRl.out)
 rw[HR.out]
 go_enter Tryz.func204,Tryz.ntmps204
 go_wp2_with fail
 rw[Hz.out]
 obtain⟨W,hW⟩:∃ x,((w.alloc (.cells T 34)).alloc (.cells (LK .u64 a) 162)).alloc (.cells (LK .u64 z) 162)=x:=⟨_,rfl⟩
 obtain⟨b0,b1,b2,hWs,hWb⟩:=three hW
 rw[hW]
 clear hW
 have B0:=Away.mk b0
 have B1:=Away.mk b1
 have B2:=Away.mk b2
 have HWs:=Away.mk hWs
 have HWb:=Away.mk hWb
 clear hWs hWb b0 b1 b2
 have P0:Away (Gp W):=⟨HP.out.later HWb.out⟩
 go_loopw [6] (fun i wr=>∃ k:Nat,k≤24∧i=.int .i64 (k:Int)∧Away (At (w.heap.size+1) (LK .u64 (permL (fun i=>ts.getD i 0) (fun i=>rs.getD i 0) a k)) 162 W wr)) (fun i _=>24-(intOf i).toNat)
 case atStart=>exact⟨0,by decide,rfl,⟨At.refl B1.out⟩⟩
 case round=>
  obtain⟨k,hk,rfl,A0⟩:=hrel
  by_cases hlt:k<24
  ·have hkz:(k:Int)<24:=by omega
   go_wp2_with fail
   refine(kstep.step_any (k:Int) w.heap.size (w.heap.size+1) T _ ts rs wr (permL_st (fun i=>ts.getD i 0) _ HK.out.br H.out k) HK.out (Gp.at P0.out A0.out (by have:=gp_lt HP.out;omega)) (A0.out.other (by have:=HWs.out;omega) (by omega) B0.out) A0.out.row (by omega) (by have:=gp_lt HP.out;omega)).mono ?_
   rintro e w1 ⟨rfl,h1⟩
   have A1:Away (At (w.heap.size+1) (LK .u64 (permL (fun i=>ts.getD i 0) (fun i=>rs.getD i 0) a (k+1))) 162 W w1):=⟨by rw[permL,←cst_at rs k hlt];exact A0.out.trans h1⟩
   clear h1
   go_wp2_with fail
   go_roundw
   case rel=>exact⟨k+1,by omega,by go_num,A1⟩
   case measure=>simp[intOf];omega
  ·obtain rfl:k=24:=by omega
   simp only[Int.cast_ofNat_Int]
   have A1:Away (At (w.heap.size+1) (LK .u64 R) 162 W wr):=⟨by rw[←HR.out];exact A0.out⟩
   have Hres:Away (wr.heap[w.heap.size+2]? = some (.cells (LK .u64 z) 162 (0,0))):=⟨A1.out.other (by have:=HWs.out;omega) (by omega) B2.out⟩
   have Hrow:=Away.mk A1.out.row
   have Hb1:Away (Below w.heap.size w wr):=⟨HWb.out.trans (A1.out.below (by have:=HWs.out;omega) (by omega))⟩
   go_wp2_with (first
    | (refine wpList_load_row rfl 162 _ rfl (w.heap.size+1) rfl 162 (LK .u64 R) (0,0) _ Hrow.out Tryz.underlying162 rfl HRz.out ?_)
    | (refine wpList_store_row rfl 162 _ _ rfl (w.heap.size+2) (LK .u64 R) rfl rfl 162 _ Hres.out HRz.out (same25 HZl.out HRl.out) HRo.out ?_))
   refine bodyPost_ret_by (v:=.agg (LK .u64 R)) (results_cell_row rfl _ _ (w.heap.size+2) 162 _ (0,0) _ rfl (setRow_heap _ _ _ _ _ _ Hres.out) Tryz.underlying162 rfl HRz.out) rfl ?_
   exact⟨rfl,Hb1.out.trans (below_setRow _ _ _ (by omega))⟩
end kfun
namespace kecd
open Go.RowKit
open arr mem tabv kecm keca kstep
theorem tl_lt:∀ i,TL.getD i 0<64:=by
 intro i
 by_cases h:i<25
 ·have:∀ i:Fin 25,TL.getD i.val 0<64:=by decide
  exact this ⟨i,h⟩
 ·rw[List.getD_eq_getElem?_getD,List.getElem?_eq_none (by show 25≤i;omega)];decide
theorem rl_lt:∀ i,RL.getD i 0<18446744073709551616:=by
 intro i
 by_cases h:i<24
 ·have:∀ i:Fin 24,RL.getD i.val 0<18446744073709551616:=by decide
  exact this ⟨i,h⟩
 ·rw[List.getD_eq_getElem?_getD,List.getElem?_eq_none (by show 24≤i;omega)];decide
theorem kt_doc:KT TA TL RL:=
 ⟨fun i hi=>by rw[ta_get _ (by omega),tv_turns i hi,tl_is],fun i hi=>by rw[ta_get _ (by omega),tv_rounds i hi,rl_is],fun i=>Nat.lt_of_lt_of_le (tl_lt i) (by decide),rl_lt,ta_size,ta_one⟩
theorem st_of {a:List Nat} (h:a.length=25) (h2:∀ i:Fin 25,g a i.val<18446744073709551616):St a:=⟨h,fun i=>by
 by_cases hi:i<25
 ·exact h2 ⟨i,hi⟩
 ·unfold g;rw[List.getD_eq_getElem?_getD,List.getElem?_eq_none (by omega)];decide⟩
theorem getD_set (l:List Nat) (m v i:Nat):(l.set m v).getD i 0=if i=m∧m<l.length then v else l.getD i 0:=by
 rw[List.getD_eq_getElem?_getD,List.getD_eq_getElem?_getD,List.getElem?_set]
 by_cases h:m=i
 ·subst h
  by_cases h2:m<l.length
  ·simp[h2]
  ·rw[if_pos rfl,if_neg h2,if_neg (by omega),List.getElem?_eq_none (by omega)]
 ·rw[if_neg h,if_neg (by omega)]
theorem one {w W:World} {x:Obj} (h:w.alloc x=W):W.heap[w.heap.size]? = some x∧W.heap.size=w.heap.size+1∧Below w.heap.size w W:=by
 subst h
 exact⟨heap_at _ _ _ rfl,size_alloc _ _,below_alloc _ _⟩
end kecd
end Go.Proofs.YtomphjajkkddkaaGreatDoor
namespace Go.Proofs.YtomphjajkkddkaaGreatDoor.awake14
set_option linter.unusedSimpArgs false
open Go Go.RowKit
open mem arr tabv built kturn polt rndm
def d32:ByteArray:=⟨#[48,49,50,51,52,53,54,55,56,57,48,49,50,51,52,53,54,55,56,57,48,49,50,51,52,53,54,55,56,57,48,49]⟩
theorem awake_any (PK SK SG:ByteArray) (w:World) (hP:Gp w)
 (HPr:∀ w1:World,Gp w1→Calls Tryz.prog 18 #[.agg TA,.agg set4,.string d32] w1 fun e w'=>e=.returned (.tuple #[.string PK,.string SK,.int .i64 0])∧Below w1.heap.size w1 w')
 (HSg:∀ w1:World,Gp w1→Calls Tryz.prog 19 #[.agg TA,.agg set4,.string SK,.string ⟨#[97,98,99]⟩,.string ⟨#[99]⟩,.string ⟨#[]⟩] w1 fun e w'=>e=.returned (.tuple #[.string SG,.int .i64 0])∧Below w1.heap.size w1 w')
 (HV1:∀ w1:World,Gp w1→Calls Tryz.prog 9 #[.agg TA,.agg set4,.string PK,.string ⟨#[97,98,99]⟩,.string ⟨#[99]⟩,.string SG] w1 fun e w'=>e=.returned (.tuple #[.bool true,.int .i64 0])∧Below w1.heap.size w1 w')
 (HV2:∀ w1:World,Gp w1→Calls Tryz.prog 9 #[.agg TA,.agg set4,.string PK,.string ⟨#[97,98,100]⟩,.string ⟨#[99]⟩,.string SG] w1 fun e w'=>e=.returned (.tuple #[.bool false,.int .i64 0])∧Below w1.heap.size w1 w'):
 Calls Tryz.prog 6 #[] w fun e w'=>e=.returned (.bool true)∧Below w.heap.size w w':=by
 have HP:=Away.mk hP
 obtain⟨hz,hsize⟩:=zero_of_info built.infoT
 obtain⟨hzl,hsizel⟩:=zero_of_info rset.infoL
 obtain⟨Zl,HZl⟩:=ex_eq set0
 rw[HZl.out]at hzl
 have HZls:Away (Zl.size=8):=⟨by rw[←HZl.out];rfl⟩
 have Hsizel:=Away.mk hsizel
 obtain⟨Zt,HZt⟩:=ex_eq TZ
 rw[HZt.out]at hz
 have HZts:Away (Zt.size=465):=⟨by rw[←HZt.out];exact tz_size⟩
 obtain⟨T,HT⟩:=ex_eq TA
 have HTs:Away (T.size=465):=⟨by rw[←HT.out];exact ta_size⟩
 have HTo:Away (T.all (·.oneCell')=true):=⟨by rw[←HT.out];exact ta_one⟩
 have HTz:Away ((Tryz.prog.info? 34).map (·.size)=some T.size):=⟨by rw[HTs.out];kernel_rfl⟩
 have Hmk:Away (∀ w1:World,Calls Tryz.prog 16 #[] w1 fun e w'=>e=.returned (.agg T)∧Below w1.heap.size w1 w'):=⟨fun w1=>by rw[←HT.out];exact make.make_any w1⟩
 obtain⟨C,HC⟩:=ex_eq set4
 have HCs:Away (C.size=8):=⟨by rw[←HC.out];rfl⟩
 have HCo:Away (C.all (·.oneCell')=true):=⟨by rw[←HC.out];simp[set4,Value.oneCell']⟩
 have HCz:Away ((Tryz.prog.info? 37).map (·.size)=some C.size):=⟨by rw[HCs.out];exact Hsizel.out⟩
 have HSet4:Away (∀ w1:World,Calls Tryz.prog 17 #[.int .i64 4] w1 fun e w'=>e=.returned (.tuple #[.agg C,.int .i64 0])∧Below w1.heap.size w1 w'):=⟨fun w1=>by rw[←HC.out];exact rset.set_4 w1⟩
 rw[HC.out,HT.out]at HPr HSg HV1 HV2
 have HPr:=Away.mk HPr
 have HSg:=Away.mk HSg
 have HV1:=Away.mk HV1
 have HV2:=Away.mk HV2
 clear hsize hsizel hP HT HZl HC HZt
 go_enter Tryz.func6,Tryz.ntmps6
 go_wp2_with fail
 refine(Hmk.out _).mono ?_
 rintro e w1 ⟨rfl,hb1⟩
 obtain⟨W1,hW1⟩:∃ x,w1.alloc (.cells T 34)=x:=⟨_,rfl⟩
 obtain⟨r1,hs1,b1⟩:=one hW1
 have HW1:=Away.mk hW1
 have B1:Away (Below w.heap.size w W1):=⟨hb1.trans (b1.mono hb1.size)⟩
 have K0:Away (∀ w':World,Below W1.heap.size W1 w'→w'.heap[w1.heap.size]? = some (.cells T 34 (0,0))):=⟨fun w' hb=>(hb.block _ (lt_of_row r1)).trans r1⟩
 clear hb1 hW1 r1 hs1 b1
 go_wp2_with (first
  | (refine wpList_store_new rfl 34 _ _ rfl _ rfl rfl HTz.out (by rw[HTs.out];exact HZts.out) HTo.out rfl ?_)
  | (rw[HW1.out]))
 refine(HSet4.out _).mono ?_
 rintro e w3 ⟨rfl,hb3⟩
 obtain⟨W3,hW3⟩:∃ x,w3.alloc (.cells C 37)=x:=⟨_,rfl⟩
 obtain⟨r3,hs3,b3⟩:=one hW3
 have HW3:=Away.mk hW3
 have k3:Below W1.heap.size W1 W3:=hb3.trans (b3.mono hb3.size)
 have B3:Away (Below w.heap.size w W3):=⟨B1.out.trans (k3.mono B1.out.size)⟩
 have KT1:Away (∀ w':World,Below W3.heap.size W3 w'→w'.heap[w1.heap.size]? = some (.cells T 34 (0,0))):=⟨fun w' hb=>K0.out _ (k3.trans (hb.mono k3.size))⟩
 have KC:Away (∀ w':World,Below W3.heap.size W3 w'→w'.heap[w3.heap.size]? = some (.cells C 37 (0,0))):=⟨fun w' hb=>(hb.block _ (lt_of_row r3)).trans r3⟩
 have GP:Away (∀ w':World,Below W3.heap.size W3 w'→Gp w'):=⟨fun w' hb=>HP.out.later (B3.out.trans (hb.mono B3.out.size))⟩
 have E3:Away (Below W3.heap.size W3 W3):=⟨Below.refl _ _⟩
 clear hb3 hW3 r3 hs3 b3 k3 K0
 go_wp2_with (first
  | (refine wpList_store_new rfl 37 _ _ rfl _ rfl rfl HCz.out (by rw[HCs.out];exact HZls.out) HCo.out rfl ?_)
  | (rw[HW3.out])
  | (refine wpList_load_row rfl 34 _ rfl w1.heap.size rfl 34 T (0,0) _ (KT1.out _ E3.out) Tryz.underlying34 rfl HTz.out ?_)
  | (refine wpList_load_row rfl 37 _ rfl w3.heap.size rfl 37 C (0,0) _ (KC.out _ E3.out) Tryz.underlying37 rfl HCz.out ?_))
 clear hz hzl
 refine(HPr.out _ (GP.out _ E3.out)).mono ?_
 rintro e w4 ⟨rfl,hb⟩
 have E4:Away (Below W3.heap.size W3 w4):=⟨E3.out.trans (hb.mono E3.out.size)⟩
 clear hb
 go_wp2_with (first
  | (refine wpList_load_row rfl 34 _ rfl w1.heap.size rfl 34 T (0,0) _ (KT1.out _ E4.out) Tryz.underlying34 rfl HTz.out ?_)
  | (refine wpList_load_row rfl 37 _ rfl w3.heap.size rfl 37 C (0,0) _ (KC.out _ E4.out) Tryz.underlying37 rfl HCz.out ?_))
 refine(HSg.out _ (GP.out _ E4.out)).mono ?_
 rintro e w5 ⟨rfl,hb⟩
 have E5:Away (Below W3.heap.size W3 w5):=⟨E4.out.trans (hb.mono E4.out.size)⟩
 clear hb
 go_wp2_with (first
  | (refine wpList_load_row rfl 34 _ rfl w1.heap.size rfl 34 T (0,0) _ (KT1.out _ E5.out) Tryz.underlying34 rfl HTz.out ?_)
  | (refine wpList_load_row rfl 37 _ rfl w3.heap.size rfl 37 C (0,0) _ (KC.out _ E5.out) Tryz.underlying37 rfl HCz.out ?_))
 refine(HV1.out _ (GP.out _ E5.out)).mono ?_
 rintro e w6 ⟨rfl,hb⟩
 have E6:Away (Below W3.heap.size W3 w6):=⟨E5.out.trans (hb.mono E5.out.size)⟩
 clear hb
 go_wp2_with (first
  | (refine wpList_load_row rfl 34 _ rfl w1.heap.size rfl 34 T (0,0) _ (KT1.out _ E6.out) Tryz.underlying34 rfl HTz.out ?_)
  | (refine wpList_load_row rfl 37 _ rfl w3.heap.size rfl 37 C (0,0) _ (KC.out _ E6.out) Tryz.underlying37 rfl HCz.out ?_))
 refine(HV2.out _ (GP.out _ E6.out)).mono ?_
 rintro e w7 ⟨rfl,hb⟩
 have E7:Away (Below W3.heap.size W3 w7):=⟨E6.out.trans (hb.mono E6.out.size)⟩
 clear hb
 go_wp2_with fail
 go_ret
 exact⟨rfl,B3.out.trans (E7.out.mono B3.out.size)⟩
end Go.Proofs.YtomphjajkkddkaaGreatDoor.awake14
