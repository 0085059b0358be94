/-
  What round's Set and Right return. Conditions: none. The law package's own look at signing ('awake') returns true. Conditions: keccak's variable 'places' holds what the program's text lays there; what Pair, Sign, Inner, Message and Sizes return is handed in.
-/
import Derived.Test.YtgahcabgmfbhdaaGreatDoorZm02
import Derived.Test.YtgahcabgmfbhdaaGreatDoorZm03
import Derived.Test.YtgahcabgmfbhdaaGreatDoorZm04
set_option maxRecDepth 100000
set_option maxHeartbeats 16000000
namespace Go.Proofs.YtgahcabgmfbhdaaGreatDoor
namespace rset
open Go Go.RowKit
open arr mem polt rndm
theorem infoL:(Tryz.prog.info? 37).map (fun i=>(i.zero,i.size))=some (some (.agg set0),8):=by kernel_rfl
theorem built1:Tryz.prog.built 37 [(0,.int .i64 4),(1,.int .i64 4),(2,.int .i64 2),(3,.int .i64 39),(4,.int .i64 131072),(5,.int .i64 95232),(6,.int .i64 80),(7,.int .i64 128)]=some set1:=by kernel_rfl
theorem built2:Tryz.prog.built 37 [(0,.int .i64 6),(1,.int .i64 5),(2,.int .i64 4),(3,.int .i64 49),(4,.int .i64 524288),(5,.int .i64 261888),(6,.int .i64 55),(7,.int .i64 192)]=some set2:=by kernel_rfl
theorem built3:Tryz.prog.built 37 [(0,.int .i64 8),(1,.int .i64 7),(2,.int .i64 2),(3,.int .i64 60),(4,.int .i64 524288),(5,.int .i64 261888),(6,.int .i64 75),(7,.int .i64 256)]=some set3:=by kernel_rfl
theorem built4:Tryz.prog.built 37 [(0,.int .i64 1),(1,.int .i64 1),(2,.int .i64 2),(3,.int .i64 20),(4,.int .i64 131072),(5,.int .i64 95232),(6,.int .i64 60),(7,.int .i64 128)]=some set4:=by kernel_rfl
theorem wpList_builtL {P:Program} {ops:Array Oper} {rest:List Oper} {o:Oper} {a:Act} {w:World} {Q:Exit→Act→World→Prop} (hg:o.guard=none) (t:TypeId) (l:List (Nat × Operand)) (ho:o.op=.build t l.toArray)
 (C:Array Value) (hC:P.built t (l.map fun x=>(x.1,a.eval x.2))=some C) (h:wpList P ops Q rest (a.put o.dst (.agg C)) w):wpList P ops Q (o :: rest) a w:=
 wpList_builtC hg t _ ho C (by simpa using hC) h
theorem built0:Tryz.prog.built 37 []=some set0:=by kernel_rfl
theorem results_cell_tmp {P:Program} {fn:Func} {p u:Tmp} {ty:TypeId} (h:fn.results=#[.cell p ty,.tmp u]) (tmps:Array Value) (w:World) (g:Nat) (t:TypeId) (cs:Array Value) (fr:Nat × Nat) (d:TypeDesc)
 (hp:tmps.getD p undef=.pointer (some ⟨g,0,none⟩)) (hg:w.heap[g]? = some (.cells cs t fr))
 (hu:P.underlying ty=some d) (hd:(match d with | .struct _ | .array _ _=>true | _=>false)=true) (hi:(P.info? ty).map (·.size)=some cs.size) (v:Value) (hv:tmps.getD u undef=v):
 (results fn tmps).run P w=.ok (.tuple #[.agg cs,v]) w:=by
 have hp':tmps[p]?.getD undef=.pointer (some ⟨g,0,none⟩):=by simpa using hp
 have hv':tmps[u]?.getD undef=v:=by simpa using hv
 simp[results,h,hp',hv',asAddr,run_loadVar_row w g t ty cs fr d hg hu hd hi]
theorem set_1 (w:World):Calls Tryz.prog 16 #[.int .i64 1] w fun e w'=>e=.returned (.tuple #[.agg set1,.int .i64 0])∧Below w.heap.size w w':=by
 obtain⟨hz,hsize⟩:=zero_of_info infoL
 have hb:=built1
 obtain⟨z,HZ⟩:=ex_eq set0
 rw[HZ.out]at hz
 have Zs:Away (z.size=8):=⟨by rw[←HZ.out];rfl⟩
 obtain⟨V,HV⟩:=ex_eq set1
 have Vi:Away ((Tryz.prog.info? 37).map (·.size)=some V.size):=⟨by rw[←HV.out];exact hsize⟩
 have Vz:Away (z.size=V.size):=⟨by rw[Zs.out,←HV.out];rfl⟩
 have Vo:Away (V.all (·.oneCell')=true):=⟨by rw[←HV.out];simp[set1,Value.oneCell']⟩
 rw[HV.out]at hb
 rw[HV.out]
 have Hb:=Away.mk hb
 obtain⟨W,hW⟩:∃ x,w.alloc (.cells z 37)=x:=⟨_,rfl⟩
 have HW:=Away.mk hW
 have Hres:Away (W.heap[w.heap.size]? = some (.cells z 37 (0,0))):=⟨by rw[←hW];exact heap_at w _ _ rfl⟩
 have HB:Away (Below w.heap.size w W):=⟨by rw[←hW];exact below_alloc _ _⟩
 clear hb hsize hW
 go_enter Tryz.func16,Tryz.ntmps16
 go_wp2_with (first
  | (rw[HW.out])
  | (refine wpList_builtL rfl 37 _ rfl V Hb.out ?_)
  | (refine wpList_store_row rfl 37 _ _ rfl w.heap.size V rfl rfl 37 _ Hres.out Vi.out Vz.out Vo.out ?_))
 refine bodyPost_ret_by (v:=.tuple #[.agg V,.int .i64 0]) (results_cell_tmp rfl _ _ w.heap.size 37 _ (0,0) _ rfl (setRow_heap _ _ _ _ _ _ Hres.out) Tryz.underlying37 rfl Vi.out _ rfl) rfl ?_
 exact⟨rfl,HB.out.trans (below_setRow _ _ _ (Nat.le_refl _))⟩
theorem set_2 (w:World):Calls Tryz.prog 16 #[.int .i64 2] w fun e w'=>e=.returned (.tuple #[.agg set2,.int .i64 0])∧Below w.heap.size w w':=by
 obtain⟨hz,hsize⟩:=zero_of_info infoL
 have hb:=built2
 obtain⟨z,HZ⟩:=ex_eq set0
 rw[HZ.out]at hz
 have Zs:Away (z.size=8):=⟨by rw[←HZ.out];rfl⟩
 obtain⟨V,HV⟩:=ex_eq set2
 have Vi:Away ((Tryz.prog.info? 37).map (·.size)=some V.size):=⟨by rw[←HV.out];exact hsize⟩
 have Vz:Away (z.size=V.size):=⟨by rw[Zs.out,←HV.out];rfl⟩
 have Vo:Away (V.all (·.oneCell')=true):=⟨by rw[←HV.out];simp[set2,Value.oneCell']⟩
 rw[HV.out]at hb
 rw[HV.out]
 have Hb:=Away.mk hb
 obtain⟨W,hW⟩:∃ x,w.alloc (.cells z 37)=x:=⟨_,rfl⟩
 have HW:=Away.mk hW
 have Hres:Away (W.heap[w.heap.size]? = some (.cells z 37 (0,0))):=⟨by rw[←hW];exact heap_at w _ _ rfl⟩
 have HB:Away (Below w.heap.size w W):=⟨by rw[←hW];exact below_alloc _ _⟩
 clear hb hsize hW
 go_enter Tryz.func16,Tryz.ntmps16
 go_wp2_with (first
  | (rw[HW.out])
  | (refine wpList_builtL rfl 37 _ rfl V Hb.out ?_)
  | (refine wpList_store_row rfl 37 _ _ rfl w.heap.size V rfl rfl 37 _ Hres.out Vi.out Vz.out Vo.out ?_))
 refine bodyPost_ret_by (v:=.tuple #[.agg V,.int .i64 0]) (results_cell_tmp rfl _ _ w.heap.size 37 _ (0,0) _ rfl (setRow_heap _ _ _ _ _ _ Hres.out) Tryz.underlying37 rfl Vi.out _ rfl) rfl ?_
 exact⟨rfl,HB.out.trans (below_setRow _ _ _ (Nat.le_refl _))⟩
theorem set_3 (w:World):Calls Tryz.prog 16 #[.int .i64 3] w fun e w'=>e=.returned (.tuple #[.agg set3,.int .i64 0])∧Below w.heap.size w w':=by
 obtain⟨hz,hsize⟩:=zero_of_info infoL
 have hb:=built3
 obtain⟨z,HZ⟩:=ex_eq set0
 rw[HZ.out]at hz
 have Zs:Away (z.size=8):=⟨by rw[←HZ.out];rfl⟩
 obtain⟨V,HV⟩:=ex_eq set3
 have Vi:Away ((Tryz.prog.info? 37).map (·.size)=some V.size):=⟨by rw[←HV.out];exact hsize⟩
 have Vz:Away (z.size=V.size):=⟨by rw[Zs.out,←HV.out];rfl⟩
 have Vo:Away (V.all (·.oneCell')=true):=⟨by rw[←HV.out];simp[set3,Value.oneCell']⟩
 rw[HV.out]at hb
 rw[HV.out]
 have Hb:=Away.mk hb
 obtain⟨W,hW⟩:∃ x,w.alloc (.cells z 37)=x:=⟨_,rfl⟩
 have HW:=Away.mk hW
 have Hres:Away (W.heap[w.heap.size]? = some (.cells z 37 (0,0))):=⟨by rw[←hW];exact heap_at w _ _ rfl⟩
 have HB:Away (Below w.heap.size w W):=⟨by rw[←hW];exact below_alloc _ _⟩
 clear hb hsize hW
 go_enter Tryz.func16,Tryz.ntmps16
 go_wp2_with (first
  | (rw[HW.out])
  | (refine wpList_builtL rfl 37 _ rfl V Hb.out ?_)
  | (refine wpList_store_row rfl 37 _ _ rfl w.heap.size V rfl rfl 37 _ Hres.out Vi.out Vz.out Vo.out ?_))
 refine bodyPost_ret_by (v:=.tuple #[.agg V,.int .i64 0]) (results_cell_tmp rfl _ _ w.heap.size 37 _ (0,0) _ rfl (setRow_heap _ _ _ _ _ _ Hres.out) Tryz.underlying37 rfl Vi.out _ rfl) rfl ?_
 exact⟨rfl,HB.out.trans (below_setRow _ _ _ (Nat.le_refl _))⟩
theorem set_4 (w:World):Calls Tryz.prog 16 #[.int .i64 4] w fun e w'=>e=.returned (.tuple #[.agg set4,.int .i64 0])∧Below w.heap.size w w':=by
 obtain⟨hz,hsize⟩:=zero_of_info infoL
 have hb:=built4
 obtain⟨z,HZ⟩:=ex_eq set0
 rw[HZ.out]at hz
 have Zs:Away (z.size=8):=⟨by rw[←HZ.out];rfl⟩
 obtain⟨V,HV⟩:=ex_eq set4
 have Vi:Away ((Tryz.prog.info? 37).map (·.size)=some V.size):=⟨by rw[←HV.out];exact hsize⟩
 have Vz:Away (z.size=V.size):=⟨by rw[Zs.out,←HV.out];rfl⟩
 have Vo:Away (V.all (·.oneCell')=true):=⟨by rw[←HV.out];simp[set4,Value.oneCell']⟩
 rw[HV.out]at hb
 rw[HV.out]
 have Hb:=Away.mk hb
 obtain⟨W,hW⟩:∃ x,w.alloc (.cells z 37)=x:=⟨_,rfl⟩
 have HW:=Away.mk hW
 have Hres:Away (W.heap[w.heap.size]? = some (.cells z 37 (0,0))):=⟨by rw[←hW];exact heap_at w _ _ rfl⟩
 have HB:Away (Below w.heap.size w W):=⟨by rw[←hW];exact below_alloc _ _⟩
 clear hb hsize hW
 go_enter Tryz.func16,Tryz.ntmps16
 go_wp2_with (first
  | (rw[HW.out])
  | (refine wpList_builtL rfl 37 _ rfl V Hb.out ?_)
  | (refine wpList_store_row rfl 37 _ _ rfl w.heap.size V rfl rfl 37 _ Hres.out Vi.out Vz.out Vo.out ?_))
 refine bodyPost_ret_by (v:=.tuple #[.agg V,.int .i64 0]) (results_cell_tmp rfl _ _ w.heap.size 37 _ (0,0) _ rfl (setRow_heap _ _ _ _ _ _ Hres.out) Tryz.underlying37 rfl Vi.out _ rfl) rfl ?_
 exact⟨rfl,HB.out.trans (below_setRow _ _ _ (Nat.le_refl _))⟩
end rset
end Go.Proofs.YtgahcabgmfbhdaaGreatDoor
namespace Go.Proofs.YtgahcabgmfbhdaaGreatDoor.awake13
set_option linter.unusedSimpArgs false
open Go Go.RowKit
open mem arr tabv built kturn polt rndm
def d32:ByteArray:=⟨#[48,49,50,51,52,53,54,55,56,57,48,49,50,51,52,53,54,55,56,57,48,49,50,51,52,53,54,55,56,57,48,49]⟩
theorem awake_any (PK SK SG:ByteArray) (n1 n2 n3:Int) (w:World) (hP:Gp w) (h1:(SG.size:Int)=n3) (h2 : 0<n3)
 (HPr:∀ w1:World,Gp w1→Calls Tryz.prog 17 #[.agg TA,.agg set4,.string d32] w1 fun e w'=>e=.returned (.tuple #[.string PK,.string SK,.int .i64 0])∧Below w1.heap.size w1 w')
 (HSg:∀ w1:World,Gp w1→Calls Tryz.prog 9 #[.agg TA,.agg set4,.string SK,.string ⟨#[97,98,99]⟩,.string ⟨#[99]⟩,.string ⟨#[]⟩] w1 fun e w'=>e=.returned (.tuple #[.string SG,.int .i64 0])∧Below w1.heap.size w1 w')
 (HIn:∀ w1:World,Gp w1→Calls Tryz.prog 11 #[.agg TA,.agg set4,.string SK,.string ⟨#[97,98,99]⟩,.string ⟨#[115,104,111,114,116]⟩] w1 fun e w'=>e=.returned (.tuple #[.string ⟨#[]⟩,.int .i64 1])∧Below w1.heap.size w1 w')
 (HMs:∀ w1:World,Calls Tryz.prog 13 #[.string ⟨#[99]⟩,.string ⟨#[97,98]⟩] w1 fun e w'=>e=.returned (.tuple #[.string ⟨#[0,1,99,97,98]⟩,.int .i64 0])∧Below w1.heap.size w1 w')
 (HSz:∀ w1:World,Calls Tryz.prog 18 #[.agg set4] w1 fun e w'=>e=.returned (.tuple #[.int .i64 n1,.int .i64 n2,.int .i64 n3])∧Below w1.heap.size w1 w'):
 Calls Tryz.prog 6 #[] w fun e w'=>e=.returned (.bool true)∧Below w.heap.size w w':=by
 have HP:=Away.mk hP
 obtain⟨hz,hsize⟩:=zero_of_info built.infoT
 obtain⟨hzl,hsizel⟩:=zero_of_info rset.infoL
 obtain⟨Zl,HZl⟩:=ex_eq set0
 rw[HZl.out]at hzl
 have HZls:Away (Zl.size=8):=⟨by rw[←HZl.out];rfl⟩
 have Hsizel:=Away.mk hsizel
 obtain⟨Zt,HZt⟩:=ex_eq TZ
 rw[HZt.out]at hz
 have HZts:Away (Zt.size=465):=⟨by rw[←HZt.out];exact tz_size⟩
 obtain⟨T,HT⟩:=ex_eq TA
 have HTs:Away (T.size=465):=⟨by rw[←HT.out];exact ta_size⟩
 have HTo:Away (T.all (·.oneCell')=true):=⟨by rw[←HT.out];exact ta_one⟩
 have HTz:Away ((Tryz.prog.info? 34).map (·.size)=some T.size):=⟨by rw[HTs.out];kernel_rfl⟩
 have Hmk:Away (∀ w1:World,Calls Tryz.prog 15 #[] w1 fun e w'=>e=.returned (.agg T)∧Below w1.heap.size w1 w'):=⟨fun w1=>by rw[←HT.out];exact make.make_any w1⟩
 obtain⟨C,HC⟩:=ex_eq set4
 have HCs:Away (C.size=8):=⟨by rw[←HC.out];rfl⟩
 have HCo:Away (C.all (·.oneCell')=true):=⟨by rw[←HC.out];simp[set4,Value.oneCell']⟩
 have HCz:Away ((Tryz.prog.info? 37).map (·.size)=some C.size):=⟨by rw[HCs.out];exact Hsizel.out⟩
 have HSet4:Away (∀ w1:World,Calls Tryz.prog 16 #[.int .i64 4] w1 fun e w'=>e=.returned (.tuple #[.agg C,.int .i64 0])∧Below w1.heap.size w1 w'):=⟨fun w1=>by rw[←HC.out];exact rset.set_4 w1⟩
 rw[HC.out]at HSz
 rw[HC.out,HT.out]at HPr HSg HIn
 have HSz:=Away.mk HSz
 have HPr:=Away.mk HPr
 have HSg:=Away.mk HSg
 have HIn:=Away.mk HIn
 have HMs:=Away.mk HMs
 clear hsize hsizel hP HT HZl HC HZt
 go_enter Tryz.func6,Tryz.ntmps6
 go_wp2_with fail
 refine(Hmk.out _).mono ?_
 rintro e w1 ⟨rfl,hb1⟩
 obtain⟨W1,hW1⟩:∃ x,w1.alloc (.cells T 34)=x:=⟨_,rfl⟩
 obtain⟨r1,hs1,b1⟩:=one hW1
 have HW1:=Away.mk hW1
 have B1:Away (Below w.heap.size w W1):=⟨hb1.trans (b1.mono hb1.size)⟩
 have K0:Away (∀ w':World,Below W1.heap.size W1 w'→w'.heap[w1.heap.size]? = some (.cells T 34 (0,0))):=⟨fun w' hb=>(hb.block _ (lt_of_row r1)).trans r1⟩
 clear hb1 hW1 r1 hs1 b1
 go_wp2_with (first
  | (refine wpList_store_new rfl 34 _ _ rfl _ rfl rfl HTz.out (by rw[HTs.out];exact HZts.out) HTo.out rfl ?_)
  | (rw[HW1.out]))
 refine(HSet4.out _).mono ?_
 rintro e w3 ⟨rfl,hb3⟩
 obtain⟨W3,hW3⟩:∃ x,w3.alloc (.cells C 37)=x:=⟨_,rfl⟩
 obtain⟨r3,hs3,b3⟩:=one hW3
 have HW3:=Away.mk hW3
 have k3:Below W1.heap.size W1 W3:=hb3.trans (b3.mono hb3.size)
 have B3:Away (Below w.heap.size w W3):=⟨B1.out.trans (k3.mono B1.out.size)⟩
 have KT1:Away (∀ w':World,Below W3.heap.size W3 w'→w'.heap[w1.heap.size]? = some (.cells T 34 (0,0))):=⟨fun w' hb=>K0.out _ (k3.trans (hb.mono k3.size))⟩
 have KC:Away (∀ w':World,Below W3.heap.size W3 w'→w'.heap[w3.heap.size]? = some (.cells C 37 (0,0))):=⟨fun w' hb=>(hb.block _ (lt_of_row r3)).trans r3⟩
 have GP:Away (∀ w':World,Below W3.heap.size W3 w'→Gp w'):=⟨fun w' hb=>HP.out.later (B3.out.trans (hb.mono B3.out.size))⟩
 have E3:Away (Below W3.heap.size W3 W3):=⟨Below.refl _ _⟩
 clear hb3 hW3 r3 hs3 b3 k3 K0
 go_wp2_with (first
  | (refine wpList_store_new rfl 37 _ _ rfl _ rfl rfl HCz.out (by rw[HCs.out];exact HZls.out) HCo.out rfl ?_)
  | (rw[HW3.out])
  | (refine wpList_load_row rfl 34 _ rfl w1.heap.size rfl 34 T (0,0) _ (KT1.out _ E3.out) Tryz.underlying34 rfl HTz.out ?_)
  | (refine wpList_load_row rfl 37 _ rfl w3.heap.size rfl 37 C (0,0) _ (KC.out _ E3.out) Tryz.underlying37 rfl HCz.out ?_))
 clear hz hzl
 refine(HPr.out _ (GP.out _ E3.out)).mono ?_
 rintro e w4 ⟨rfl,hb⟩
 have E4:Away (Below W3.heap.size W3 w4):=⟨E3.out.trans (hb.mono E3.out.size)⟩
 clear hb
 go_wp2_with (first
  | (refine wpList_load_row rfl 34 _ rfl w1.heap.size rfl 34 T (0,0) _ (KT1.out _ E4.out) Tryz.underlying34 rfl HTz.out ?_)
  | (refine wpList_load_row rfl 37 _ rfl w3.heap.size rfl 37 C (0,0) _ (KC.out _ E4.out) Tryz.underlying37 rfl HCz.out ?_))
 refine(HSg.out _ (GP.out _ E4.out)).mono ?_
 rintro e w5 ⟨rfl,hb⟩
 have E5:Away (Below W3.heap.size W3 w5):=⟨E4.out.trans (hb.mono E4.out.size)⟩
 clear hb
 go_wp2_with (first
  | (refine wpList_load_row rfl 34 _ rfl w1.heap.size rfl 34 T (0,0) _ (KT1.out _ E5.out) Tryz.underlying34 rfl HTz.out ?_)
  | (refine wpList_load_row rfl 37 _ rfl w3.heap.size rfl 37 C (0,0) _ (KC.out _ E5.out) Tryz.underlying37 rfl HCz.out ?_))
 refine(HIn.out _ (GP.out _ E5.out)).mono ?_
 rintro e w6 ⟨rfl,hb⟩
 have E6:Away (Below W3.heap.size W3 w6):=⟨E5.out.trans (hb.mono E5.out.size)⟩
 clear hb
 go_wp2_with (first
  | (refine wpList_load_row rfl 34 _ rfl w1.heap.size rfl 34 T (0,0) _ (KT1.out _ E6.out) Tryz.underlying34 rfl HTz.out ?_)
  | (refine wpList_load_row rfl 37 _ rfl w3.heap.size rfl 37 C (0,0) _ (KC.out _ E6.out) Tryz.underlying37 rfl HCz.out ?_))
 refine(HMs.out _).mono ?_
 rintro e w7 ⟨rfl,hb⟩
 have E7:Away (Below W3.heap.size W3 w7):=⟨E6.out.trans (hb.mono E6.out.size)⟩
 clear hb
 go_wp2_with (first
  | (refine wpList_load_row rfl 34 _ rfl w1.heap.size rfl 34 T (0,0) _ (KT1.out _ E7.out) Tryz.underlying34 rfl HTz.out ?_)
  | (refine wpList_load_row rfl 37 _ rfl w3.heap.size rfl 37 C (0,0) _ (KC.out _ E7.out) Tryz.underlying37 rfl HCz.out ?_))
 refine(HSz.out _).mono ?_
 rintro e w8 ⟨rfl,hb⟩
 have E8:Away (Below W3.heap.size W3 w8):=⟨E7.out.trans (hb.mono E7.out.size)⟩
 clear hb
 have hgt:decide (n3 > 0)=true:=decide_eq_true h2
 go_wp2_with fail
 go_ret
 exact⟨rfl,B3.out.trans (E8.out.mono B3.out.size)⟩
end Go.Proofs.YtgahcabgmfbhdaaGreatDoor.awake13
