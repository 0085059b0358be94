/-
  What round's Set and Right return. Conditions: none.
-/
import Derived.Test.YtomphjajkkddkaaGreatDoorZt02
set_option maxRecDepth 100000
set_option maxHeartbeats 16000000
namespace Go.Proofs.YtomphjajkkddkaaGreatDoor
namespace rset
open Go Go.RowKit
open arr mem polt rndm
theorem infoL:(Tryz.prog.info? 37).map (fun i=>(i.zero,i.size))=some (some (.agg set0),8):=by kernel_rfl
theorem built1:Tryz.prog.built 37 [(0,.int .i64 4),(1,.int .i64 4),(2,.int .i64 2),(3,.int .i64 39),(4,.int .i64 131072),(5,.int .i64 95232),(6,.int .i64 80),(7,.int .i64 128)]=some set1:=by kernel_rfl
theorem built2:Tryz.prog.built 37 [(0,.int .i64 6),(1,.int .i64 5),(2,.int .i64 4),(3,.int .i64 49),(4,.int .i64 524288),(5,.int .i64 261888),(6,.int .i64 55),(7,.int .i64 192)]=some set2:=by kernel_rfl
theorem built3:Tryz.prog.built 37 [(0,.int .i64 8),(1,.int .i64 7),(2,.int .i64 2),(3,.int .i64 60),(4,.int .i64 524288),(5,.int .i64 261888),(6,.int .i64 75),(7,.int .i64 256)]=some set3:=by kernel_rfl
theorem built4:Tryz.prog.built 37 [(0,.int .i64 1),(1,.int .i64 1),(2,.int .i64 2),(3,.int .i64 20),(4,.int .i64 131072),(5,.int .i64 95232),(6,.int .i64 60),(7,.int .i64 128)]=some set4:=by kernel_rfl
theorem wpList_builtL {P:Program} {ops:Array Oper} {rest:List Oper} {o:Oper} {a:Act} {w:World} {Q:Exit→Act→World→Prop} (hg:o.guard=none) (t:TypeId) (l:List (Nat × Operand)) (ho:o.op=.build t l.toArray)
 (C:Array Value) (hC:P.built t (l.map fun x=>(x.1,a.eval x.2))=some C) (h:wpList P ops Q rest (a.put o.dst (.agg C)) w):wpList P ops Q (o :: rest) a w:=
 wpList_builtC hg t _ ho C (by simpa using hC) h
theorem built0:Tryz.prog.built 37 []=some set0:=by kernel_rfl
theorem results_cell_tmp {P:Program} {fn:Func} {p u:Tmp} {ty:TypeId} (h:fn.results=#[.cell p ty,.tmp u]) (tmps:Array Value) (w:World) (g:Nat) (t:TypeId) (cs:Array Value) (fr:Nat × Nat) (d:TypeDesc)
 (hp:tmps.getD p undef=.pointer (some ⟨g,0,none⟩)) (hg:w.heap[g]? = some (.cells cs t fr))
 (hu:P.underlying ty=some d) (hd:(match d with | .struct _ | .array _ _=>true | _=>false)=true) (hi:(P.info? ty).map (·.size)=some cs.size) (v:Value) (hv:tmps.getD u undef=v):
 (results fn tmps).run P w=.ok (.tuple #[.agg cs,v]) w:=by
 have hp':tmps[p]?.getD undef=.pointer (some ⟨g,0,none⟩):=by simpa using hp
 have hv':tmps[u]?.getD undef=v:=by simpa using hv
 simp[results,h,hp',hv',asAddr,run_loadVar_row w g t ty cs fr d hg hu hd hi]
theorem set_1 (w:World):Calls Tryz.prog 17 #[.int .i64 1] w fun e w'=>e=.returned (.tuple #[.agg set1,.int .i64 0])∧Below w.heap.size w w':=by
 obtain⟨hz,hsize⟩:=zero_of_info infoL
 have hb:=built1
 obtain⟨z,HZ⟩:=ex_eq set0
 rw[HZ.out]at hz
 have Zs:Away (z.size=8):=⟨by rw[←HZ.out];rfl⟩
 obtain⟨V,HV⟩:=ex_eq set1
 have Vi:Away ((Tryz.prog.info? 37).map (·.size)=some V.size):=⟨by rw[←HV.out];exact hsize⟩
 have Vz:Away (z.size=V.size):=⟨by rw[Zs.out,←HV.out];rfl⟩
 have Vo:Away (V.all (·.oneCell')=true):=⟨by rw[←HV.out];simp[set1,Value.oneCell']⟩
 rw[HV.out]at hb
 rw[HV.out]
 have Hb:=Away.mk hb
 obtain⟨W,hW⟩:∃ x,w.alloc (.cells z 37)=x:=⟨_,rfl⟩
 have HW:=Away.mk hW
 have Hres:Away (W.heap[w.heap.size]? = some (.cells z 37 (0,0))):=⟨by rw[←hW];exact heap_at w _ _ rfl⟩
 have HB:Away (Below w.heap.size w W):=⟨by rw[←hW];exact below_alloc _ _⟩
 clear hb hsize hW
 go_enter Tryz.func17,Tryz.ntmps17
 go_wp2_with (first
  | (rw[HW.out])
  | (refine wpList_builtL rfl 37 _ rfl V Hb.out ?_)
  | (refine wpList_store_row rfl 37 _ _ rfl w.heap.size V rfl rfl 37 _ Hres.out Vi.out Vz.out Vo.out ?_))
 refine bodyPost_ret_by (v:=.tuple #[.agg V,.int .i64 0]) (results_cell_tmp rfl _ _ w.heap.size 37 _ (0,0) _ rfl (setRow_heap _ _ _ _ _ _ Hres.out) Tryz.underlying37 rfl Vi.out _ rfl) rfl ?_
 exact⟨rfl,HB.out.trans (below_setRow _ _ _ (Nat.le_refl _))⟩
theorem set_2 (w:World):Calls Tryz.prog 17 #[.int .i64 2] w fun e w'=>e=.returned (.tuple #[.agg set2,.int .i64 0])∧Below w.heap.size w w':=by
 obtain⟨hz,hsize⟩:=zero_of_info infoL
 have hb:=built2
 obtain⟨z,HZ⟩:=ex_eq set0
 rw[HZ.out]at hz
 have Zs:Away (z.size=8):=⟨by rw[←HZ.out];rfl⟩
 obtain⟨V,HV⟩:=ex_eq set2
 have Vi:Away ((Tryz.prog.info? 37).map (·.size)=some V.size):=⟨by rw[←HV.out];exact hsize⟩
 have Vz:Away (z.size=V.size):=⟨by rw[Zs.out,←HV.out];rfl⟩
 have Vo:Away (V.all (·.oneCell')=true):=⟨by rw[←HV.out];simp[set2,Value.oneCell']⟩
 rw[HV.out]at hb
 rw[HV.out]
 have Hb:=Away.mk hb
 obtain⟨W,hW⟩:∃ x,w.alloc (.cells z 37)=x:=⟨_,rfl⟩
 have HW:=Away.mk hW
 have Hres:Away (W.heap[w.heap.size]? = some (.cells z 37 (0,0))):=⟨by rw[←hW];exact heap_at w _ _ rfl⟩
 have HB:Away (Below w.heap.size w W):=⟨by rw[←hW];exact below_alloc _ _⟩
 clear hb hsize hW
 go_enter Tryz.func17,Tryz.ntmps17
 go_wp2_with (first
  | (rw[HW.out])
  | (refine wpList_builtL rfl 37 _ rfl V Hb.out ?_)
  | (refine wpList_store_row rfl 37 _ _ rfl w.heap.size V rfl rfl 37 _ Hres.out Vi.out Vz.out Vo.out ?_))
 refine bodyPost_ret_by (v:=.tuple #[.agg V,.int .i64 0]) (results_cell_tmp rfl _ _ w.heap.size 37 _ (0,0) _ rfl (setRow_heap _ _ _ _ _ _ Hres.out) Tryz.underlying37 rfl Vi.out _ rfl) rfl ?_
 exact⟨rfl,HB.out.trans (below_setRow _ _ _ (Nat.le_refl _))⟩
theorem set_3 (w:World):Calls Tryz.prog 17 #[.int .i64 3] w fun e w'=>e=.returned (.tuple #[.agg set3,.int .i64 0])∧Below w.heap.size w w':=by
 obtain⟨hz,hsize⟩:=zero_of_info infoL
 have hb:=built3
 obtain⟨z,HZ⟩:=ex_eq set0
 rw[HZ.out]at hz
 have Zs:Away (z.size=8):=⟨by rw[←HZ.out];rfl⟩
 obtain⟨V,HV⟩:=ex_eq set3
 have Vi:Away ((Tryz.prog.info? 37).map (·.size)=some V.size):=⟨by rw[←HV.out];exact hsize⟩
 have Vz:Away (z.size=V.size):=⟨by rw[Zs.out,←HV.out];rfl⟩
 have Vo:Away (V.all (·.oneCell')=true):=⟨by rw[←HV.out];simp[set3,Value.oneCell']⟩
 rw[HV.out]at hb
 rw[HV.out]
 have Hb:=Away.mk hb
 obtain⟨W,hW⟩:∃ x,w.alloc (.cells z 37)=x:=⟨_,rfl⟩
 have HW:=Away.mk hW
 have Hres:Away (W.heap[w.heap.size]? = some (.cells z 37 (0,0))):=⟨by rw[←hW];exact heap_at w _ _ rfl⟩
 have HB:Away (Below w.heap.size w W):=⟨by rw[←hW];exact below_alloc _ _⟩
 clear hb hsize hW
 go_enter Tryz.func17,Tryz.ntmps17
 go_wp2_with (first
  | (rw[HW.out])
  | (refine wpList_builtL rfl 37 _ rfl V Hb.out ?_)
  | (refine wpList_store_row rfl 37 _ _ rfl w.heap.size V rfl rfl 37 _ Hres.out Vi.out Vz.out Vo.out ?_))
 refine bodyPost_ret_by (v:=.tuple #[.agg V,.int .i64 0]) (results_cell_tmp rfl _ _ w.heap.size 37 _ (0,0) _ rfl (setRow_heap _ _ _ _ _ _ Hres.out) Tryz.underlying37 rfl Vi.out _ rfl) rfl ?_
 exact⟨rfl,HB.out.trans (below_setRow _ _ _ (Nat.le_refl _))⟩
theorem set_4 (w:World):Calls Tryz.prog 17 #[.int .i64 4] w fun e w'=>e=.returned (.tuple #[.agg set4,.int .i64 0])∧Below w.heap.size w w':=by
 obtain⟨hz,hsize⟩:=zero_of_info infoL
 have hb:=built4
 obtain⟨z,HZ⟩:=ex_eq set0
 rw[HZ.out]at hz
 have Zs:Away (z.size=8):=⟨by rw[←HZ.out];rfl⟩
 obtain⟨V,HV⟩:=ex_eq set4
 have Vi:Away ((Tryz.prog.info? 37).map (·.size)=some V.size):=⟨by rw[←HV.out];exact hsize⟩
 have Vz:Away (z.size=V.size):=⟨by rw[Zs.out,←HV.out];rfl⟩
 have Vo:Away (V.all (·.oneCell')=true):=⟨by rw[←HV.out];simp[set4,Value.oneCell']⟩
 rw[HV.out]at hb
 rw[HV.out]
 have Hb:=Away.mk hb
 obtain⟨W,hW⟩:∃ x,w.alloc (.cells z 37)=x:=⟨_,rfl⟩
 have HW:=Away.mk hW
 have Hres:Away (W.heap[w.heap.size]? = some (.cells z 37 (0,0))):=⟨by rw[←hW];exact heap_at w _ _ rfl⟩
 have HB:Away (Below w.heap.size w W):=⟨by rw[←hW];exact below_alloc _ _⟩
 clear hb hsize hW
 go_enter Tryz.func17,Tryz.ntmps17
 go_wp2_with (first
  | (rw[HW.out])
  | (refine wpList_builtL rfl 37 _ rfl V Hb.out ?_)
  | (refine wpList_store_row rfl 37 _ _ rfl w.heap.size V rfl rfl 37 _ Hres.out Vi.out Vz.out Vo.out ?_))
 refine bodyPost_ret_by (v:=.tuple #[.agg V,.int .i64 0]) (results_cell_tmp rfl _ _ w.heap.size 37 _ (0,0) _ rfl (setRow_heap _ _ _ _ _ _ Hres.out) Tryz.underlying37 rfl Vi.out _ rfl) rfl ?_
 exact⟨rfl,HB.out.trans (below_setRow _ _ _ (Nat.le_refl _))⟩
end rset
end Go.Proofs.YtomphjajkkddkaaGreatDoor
