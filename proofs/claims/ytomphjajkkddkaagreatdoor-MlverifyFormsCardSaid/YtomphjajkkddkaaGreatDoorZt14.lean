/-
  A region that hands back two results which lie in memory ('return a, b'): two whole loads and two wh
-/
import Derived.Test.YtomphjajkkddkaaGreatDoorZt01
import Derived.Test.YtomphjajkkddkaaGreatDoorZt09
import Derived.Test.YtomphjajkkddkaaGreatDoorZt02
import Derived.Test.YtomphjajkkddkaaGreatDoorZt08
import Derived.Test.YtomphjajkkddkaaGreatDoorZt12
import Derived.Test.YtomphjajkkddkaaGreatDoorZt13
import Derived.Great.Frames
import Derived.BigRegion
import Derived.Great.BuildSlice
set_option maxRecDepth 100000
set_option maxHeartbeats 16000000
namespace Go.Proofs.YtomphjajkkddkaaGreatDoor
namespace twor
open Go Go.RowKit
open arr mem
def mks (l:List Nat) (b:Array Bool):Array Bool:=l.foldl (fun b i=>b.setIfInBounds i true) b
def rdy (ops:Array Oper) (l:List Nat):List Nat:=Region.ready .any ops (mks l (Array.replicate ops.size false))
def twoB (ops:Array Oper):Bool:=
 decide (rdy ops []=[0,1]) && decide (rdy ops [0]=[1,2]) && decide (rdy ops [1]=[0]) && decide (rdy ops [0,1]=[2]) && decide (rdy ops [1,0]=[2]) && decide (rdy ops [0,2]=[1]) &&
 decide (rdy ops [0,1,2]=[3]) && decide (rdy ops [1,0,2]=[3]) && decide (rdy ops [0,2,1]=[3]) && decide (rdy ops [0,1,2,3]=[]) && decide (rdy ops [1,0,2,3]=[]) && decide (rdy ops [0,2,1,3]=[])
structure Ld (o:Oper) (ty:TypeId) (x d:Nat):Prop where
 op:o.op=.load ty (.tmp x)
 dst:o.dst=some d
 gd:o.guard=none
structure Sr (o:Oper) (ty:TypeId) (y d:Nat):Prop where
 op:o.op=.store ty (.tmp y) (.tmp d)
 dst:o.dst=none
 gd:o.guard=none
theorem of_want {o:Oper} {y:Nat→Option Bool} {X Y:Prop} (hg:o.guard=none) (h:X):if Region.wanted o y=true then X else Y:=by
 rw[if_pos (by unfold Region.wanted;rw[hg])]
 exact h
structure Two (P:Program) (w:World) (ty:TypeId) (g r:Nat) (A:Array Value):Prop where
 row:∃ t fr,w.heap[g]? = some (.cells A t fr)
 res:∃ t O,w.heap[r]? = some (.cells O t (0,0))∧O.size=A.size
 un:∃ D,P.underlying ty=some D∧(match D with | .struct _ | .array _ _=>true | _=>false)=true
 info:(P.info? ty).map (·.size)=some A.size
 one:A.all (·.oneCell')=true
theorem Two.set {P:Program} {w:World} {ty:TypeId} {g r:Nat} {A:Array Value} (h:Two P w ty g r A) (k:Nat) (C:Array Value) (h1:k≠g) (h2:k≠r):Two P (w.setRow k C) ty g r A:=by
 obtain⟨⟨t,fr,a1⟩,⟨t2,O,b1,b2⟩,c,d,e⟩:=h
 exact⟨⟨t,fr,(setRow_other _ _ _ _ (Ne.symm h1)).trans a1⟩,⟨t2,O,(setRow_other _ _ _ _ (Ne.symm h2)).trans b1,b2⟩,c,d,e⟩
theorem Two.load {P:Program} {w:World} {ty:TypeId} {g r:Nat} {A:Array Value} (h:Two P w ty g r A) {o:Oper} {x d:Nat} (ho:Ld o ty x d) {a:Act} {K:Act→World→Prop} {Q:Exit→Act→World→Prop} (e:a.eval (.tmp x)=.pointer (some ⟨g,0,none⟩)) (hK:K (a.put (some d) (.agg A)) w):o.wp P a w K Q:=by
 obtain⟨⟨t,fr,a1⟩,-,⟨D,c1,c2⟩,i,-⟩:=h
 exact wp_load_row ty _ ho.op g e t A fr D a1 c1 (by cases D<;>first | rfl | exact c2) i (by rw[ho.dst];exact hK)
theorem Two.store {P:Program} {w:World} {ty:TypeId} {g r:Nat} {A:Array Value} (h:Two P w ty g r A) {o:Oper} {y d:Nat} (ho:Sr o ty y d) {a:Act} {K:Act→World→Prop} {Q:Exit→Act→World→Prop} (e:a.eval (.tmp y)=.pointer (some ⟨r,0,none⟩)) (e2:a.eval (.tmp d)=.agg A) (hK:K a (w.setRow r A)):o.wp P a w K Q:=by
 obtain⟨-,⟨t,O,b1,b2⟩,-,i,o1⟩:=h
 exact wp_store_row ty _ _ ho.op r A e e2 t O b1 i b2 o1 (by rw[ho.dst];exact hK)
theorem region_two {P:Program} {id:Nat} {Q:Exit→Act→World→Prop} {a:Act} {w:World} {o0 o1 o2 o3:Oper} (ty0 ty1:TypeId) (x0 x1 y0 y1 d0 d1:Nat) (hm:P.follows .mixedOrders=true) (hB:twoB #[o0,o1,o2,o3]=true)
 (h0:Ld o0 ty0 x0 d0) (h1:Ld o1 ty1 x1 d1) (h2:Sr o2 ty0 y0 d0) (h3:Sr o3 ty1 y1 d1) (hne:(d0≠x1∧d0≠y0∧d0≠y1∧d0≠d1)∧d1≠y0∧d1≠y1∧d1≠x0) (hd:d0<a.tmps.size∧d1<a.tmps.size)
 (g0 g1 r0 r1:Nat) (A B:Array Value) (e0:a.eval (.tmp x0)=.pointer (some ⟨g0,0,none⟩)) (e1:a.eval (.tmp x1)=.pointer (some ⟨g1,0,none⟩)) (f0:a.eval (.tmp y0)=.pointer (some ⟨r0,0,none⟩)) (f1:a.eval (.tmp y1)=.pointer (some ⟨r1,0,none⟩))
 (K0:Two P w.drew ty0 g0 r0 A) (K1:Two P w.drew ty1 g1 r1 B) (n1:r0≠g1) (n2:r0≠r1)
 (h:Q .normal ((a.put (some d0) (.agg A)).put (some d1) (.agg B)) ((w.drew.setRow r0 A).setRow r1 B)):(Code.region id #[o0,o1,o2,o3] true).wp P Q a w:=by
 simp only[twoB,Bool.and_eq_true,decide_eq_true_eq]at hB
 obtain⟨⟨⟨⟨⟨⟨⟨⟨⟨⟨⟨b0,b1⟩,b2⟩,b3⟩,b4⟩,b5⟩,b6⟩,b7⟩,b8⟩,b9⟩,b10⟩,b11⟩:=hB
 obtain⟨⟨m1,m2,m3,m4⟩,m5,m6,m7⟩:=hne
 have s0:d1<(a.put (some d0) (.agg A)).tmps.size:=by show d1<(a.tmps.setIfInBounds d0 _).size;rw[Array.size_setIfInBounds];exact hd.2
 have s1:d0<(a.put (some d1) (.agg B)).tmps.size:=by show d0<(a.tmps.setIfInBounds d1 _).size;rw[Array.size_setIfInBounds];exact hd.1
 obtain⟨p,hp⟩:∃ p,(a.put (some d0) (.agg A)).put (some d1) (.agg B)=p:=⟨_,rfl⟩
 have hp':(a.put (some d1) (.agg B)).put (some d0) (.agg A)=p:=by rw[←hp];exact Act.put_comm a _ _ (fun d hd1 hd2=>m4 (by injection hd1 with hd1;injection hd2 with hd2;omega))
 have ev:∀ t,d0≠t→d1≠t→p.eval (.tmp t)=a.eval (.tmp t):=fun t ht1 ht2=>by rw[←hp,Act.eval_put_ne _ _ _ _ ht2,Act.eval_put_ne _ _ _ _ ht1]
 have v0:p.eval (.tmp d0)=.agg A:=by rw[←hp',Act.eval_put_same _ _ _ s1]
 have v1:p.eval (.tmp d1)=.agg B:=by rw[←hp,Act.eval_put_same _ _ _ s0]
 rw[hp]at h
 have last:∀ {l:Array Bool},Region.ready .any #[o0,o1,o2,o3] l=[3]→Region.ready .any #[o0,o1,o2,o3] (l.setIfInBounds 3 true)=[]→wpAny P .any #[o0,o1,o2,o3] Q 1 l p (w.drew.setRow r0 A):=by
  intro l hr hr2
  refine wpAny_ready hr (by simp) ?_
  refine AllReady.cons rfl (fun K hK=>of_want h3.gd ?_) AllReady.nil
  exact(K1.set r0 A n1 n2).store h3 ((ev y1 m3 m6).trans f1) v1 (hK _ _ ⟨hr2,h⟩)
 refine wp_region_any hm ?_
 show wpAny P .any #[o0,o1,o2,o3] Q 4 (Array.replicate 4 false) a w.drew
 refine wpAny_ready (rs:=[0,1]) b0 (by simp) ?_
 refine AllReady.cons rfl (fun K hK=>of_want h0.gd ?_) (AllReady.cons rfl (fun K hK=>of_want h1.gd ?_) AllReady.nil)
 ·refine K0.load h0 e0 (hK _ _ ?_)
  refine wpAny_ready (rs:=[1,2]) b1 (by simp) ?_
  refine AllReady.cons rfl (fun K hK=>of_want h1.gd ?_) (AllReady.cons rfl (fun K hK=>of_want h2.gd ?_) AllReady.nil)
  ·refine K1.load h1 ((Act.eval_put_ne _ _ _ _ m1).trans e1) (hK _ _ ?_)
   rw[hp]
   refine wpAny_ready (rs:=[2]) b3 (by simp) ?_
   refine AllReady.cons rfl (fun K hK=>of_want h2.gd ?_) AllReady.nil
   refine K0.store h2 ((ev y0 m2 m5).trans f0) v0 (hK _ _ ?_)
   exact last b6 b9
  ·refine K0.store h2 ((Act.eval_put_ne _ _ _ _ m2).trans f0) (Act.eval_put_same _ _ _ hd.1) (hK _ _ ?_)
   refine wpAny_ready (rs:=[1]) b5 (by simp) ?_
   refine AllReady.cons rfl (fun K hK=>of_want h1.gd ?_) AllReady.nil
   refine(K1.set r0 A n1 n2).load h1 ((Act.eval_put_ne _ _ _ _ m1).trans e1) (hK _ _ ?_)
   rw[hp]
   exact last b8 b11
 ·refine K1.load h1 e1 (hK _ _ ?_)
  refine wpAny_ready (rs:=[0]) b2 (by simp) ?_
  refine AllReady.cons rfl (fun K hK=>of_want h0.gd ?_) AllReady.nil
  refine K0.load h0 ((Act.eval_put_ne _ _ _ _ m7).trans e0) (hK _ _ ?_)
  rw[hp']
  refine wpAny_ready (rs:=[2]) b4 (by simp) ?_
  refine AllReady.cons rfl (fun K hK=>of_want h2.gd ?_) AllReady.nil
  refine K0.store h2 ((ev y0 m2 m5).trans f0) v0 (hK _ _ ?_)
  exact last b7 b10
theorem results_cells {P:Program} {fn:Func} {p0 p1:Nat} {ty0 ty1:TypeId} (h:fn.results=#[.cell p0 ty0,.cell p1 ty1]) (tmps:Array Value) (w:World) (r0 r1:Nat) (A B:Array Value)
 (e0:tmps.getD p0 undef=.pointer (some ⟨r0,0,none⟩)) (e1:tmps.getD p1 undef=.pointer (some ⟨r1,0,none⟩)) (t0 t1:TypeId) (f0 f1:Nat × Nat) (k0:w.heap[r0]? = some (.cells A t0 f0)) (k1:w.heap[r1]? = some (.cells B t1 f1))
 (D0 D1:TypeDesc) (u0:P.underlying ty0=some D0) (c0:(match D0 with | .struct _ | .array _ _=>true | _=>false)=true) (u1:P.underlying ty1=some D1) (c1:(match D1 with | .struct _ | .array _ _=>true | _=>false)=true)
 (i0:(P.info? ty0).map (·.size)=some A.size) (i1:(P.info? ty1).map (·.size)=some B.size):(results fn tmps).run P w=.ok (.tuple #[.agg A,.agg B]) w:=by
 have e0':tmps[p0]?.getD undef=.pointer (some ⟨r0,0,none⟩):=by simpa using e0
 have e1':tmps[p1]?.getD undef=.pointer (some ⟨r1,0,none⟩):=by simpa using e1
 simp[results,h,e0',e1',asAddr,run_loadVar_row w r0 t0 ty0 A f0 D0 k0 u0 c0 i0,run_loadVar_row w r1 t1 ty1 B f1 D1 k1 u1 c1 i1]
end twor
end Go.Proofs.YtomphjajkkddkaaGreatDoor
namespace Go.Proofs.YtomphjajkkddkaaGreatDoor
namespace rsplit
open Go Go.RowKit
open arr mem stil polys polt fldm fld1 rndm floa twor
theorem split_any (f:Nat→Int) (w:World):
 Calls Tryz.prog 115 #[.agg (FL .i64 256 f)] w fun e w'=>e=.returned (.tuple #[.agg (FL .i64 256 fun i=>sh (f i)),.agg (FL .i64 256 fun i=>sl (f i)%8380417)])∧Below w.heap.size w w':=by
 obtain⟨hz,hsize⟩:=zero_of_info infoP
 obtain⟨z,HZ⟩:=ex_eq (FL .i64 256 fun _=>0)
 rw[HZ.out]at hz
 have Hzs:Away (z.size=256):=⟨by rw[←HZ.out];exact fl_size _ _ _⟩
 obtain⟨F,HF⟩:∃ F:Nat→Int,Away (F=fun i=>sh (f i)):=⟨_,⟨rfl⟩⟩
 have HFi:Away (∀ i,F i=sh (f i)):=⟨fun i=>by rw[HF.out]⟩
 obtain⟨G,HG⟩:∃ G:Nat→Int,Away (G=fun i=>sl (f i)%8380417):=⟨_,⟨rfl⟩⟩
 have HGi:Away (∀ i,G i=sl (f i)%8380417):=⟨fun i=>by rw[HG.out]⟩
 rw[←HF.out,←HG.out]
 clear HF HG
 have sz:∀ h:Nat→Int,(Tryz.prog.info? 76).map (·.size)=some (FL .i64 256 h).size:=fun h=>by rw[fl_size];exact hsize
 obtain⟨R,HR⟩:=ex_eq (FL .i64 256 F)
 have Ri:Away ((Tryz.prog.info? 76).map (·.size)=some R.size):=⟨by rw[←HR.out];exact sz _⟩
 have Ro:Away (R.all (·.oneCell')=true):=⟨by rw[←HR.out];exact fl_one _ _ _⟩
 have Rz:Away (z.size=R.size):=⟨by rw[Hzs.out,←HR.out,fl_size]⟩
 obtain⟨S,HS⟩:=ex_eq (FL .i64 256 G)
 have Si:Away ((Tryz.prog.info? 76).map (·.size)=some S.size):=⟨by rw[←HS.out];exact sz _⟩
 have So:Away (S.all (·.oneCell')=true):=⟨by rw[←HS.out];exact fl_one _ _ _⟩
 have Sz:Away (z.size=S.size):=⟨by rw[Hzs.out,←HS.out,fl_size]⟩
 obtain⟨I,HI⟩:=ex_eq (FL .i64 256 f)
 have Ii:Away ((Tryz.prog.info? 76).map (·.size)=some I.size):=⟨by rw[←HI.out];exact sz _⟩
 rw[HR.out,HS.out,HI.out]
 clear hsize sz
 have Hix:Away (∀ (i:Nat),i<256→∀ w1:World,(Instr.index 76 (.agg I) (.int .i64 (i:Int))).run Tryz.prog w1=.ok (.int .i64 (f i)) w1):=⟨fun i hi w1=>by rw[←HI.out];exact index_poly f i hi w1⟩
 have Hred:=Away.mk reduce_any
 have Hcen:=Away.mk centre_any
 go_enter Tryz.func115,Tryz.ntmps115
 go_wp2_with fail
 clear hz
 obtain⟨W1,hW1⟩:∃ x,((w.alloc (.cells I 76)).alloc (.cells z 76)).alloc (.cells z 76)=x:=⟨_,rfl⟩
 obtain⟨b0,b1,b2,hWs1,hWb1⟩:=three hW1
 obtain⟨W,hW⟩:∃ x,(W1.alloc (.cells z 76)).alloc (.cells z 76)=x:=⟨_,rfl⟩
 obtain⟨c3,c4,hWs,hWb⟩:=two hW
 rw[hW1,hW]
 rw[hWs1]at c3 c4 hWs
 have B0:Away (W.heap[w.heap.size]? = some (.cells I 76 (0,0))):=⟨(hWb.block _ (by omega)).trans b0⟩
 have B1:Away (W.heap[w.heap.size+1]? = some (.cells z 76 (0,0))):=⟨(hWb.block _ (by omega)).trans b1⟩
 have B2:Away (W.heap[w.heap.size+2]? = some (.cells z 76 (0,0))):=⟨(hWb.block _ (by omega)).trans b2⟩
 have B3:Away (W.heap[w.heap.size+3]? = some (.cells z 76 (0,0))):=⟨c3⟩
 have B4:Away (W.heap[w.heap.size+4]? = some (.cells z 76 (0,0))):=⟨c4⟩
 have HWs:Away (w.heap.size+5≤W.heap.size):=⟨by omega⟩
 have HWB:Away (Below w.heap.size w W):=⟨hWb1.trans (hWb.mono (by omega))⟩
 clear hW hW1 b0 b1 b2 c3 c4 hWs1 hWs hWb1 hWb
 refine wp_load_row 76 _ rfl w.heap.size rfl 76 I (0,0) _ B0.out Tryz.underlying76 rfl Ii.out ?_
 go_wp2_with fail
 go_loopw [10] (fun v wr=>∃ i:Nat,i≤256∧v=.int .i64 (i:Int)∧Away (Below w.heap.size w wr∧wr.heap[w.heap.size+1]? = some (.cells z 76 (0,0))∧wr.heap[w.heap.size+2]? = some (.cells z 76 (0,0)) ∧
  wr.heap[w.heap.size+3]? = some (.cells (FL .i64 256 (pt F (fun _=>0) i)) 76 (0,0))∧wr.heap[w.heap.size+4]? = some (.cells (FL .i64 256 (pt G (fun _=>0) i)) 76 (0,0)))) (fun v _=>256-(intOf v).toNat)
 case atStart=>exact⟨0,Nat.zero_le _,rfl,⟨HWB.out,B1.out,B2.out,by rw[pt_zero,HZ.out];exact B3.out,by rw[pt_zero,HZ.out];exact B4.out⟩⟩
 case round=>
  obtain⟨i,hi,rfl,A0⟩:=hrel
  by_cases hlt:i<256
  ·have hiz:(i:Int)<256:=by omega
   have hx0:=Hix.out i hlt wr
   obtain⟨x,hx⟩:∃ x,f i=x:=⟨_,rfl⟩
   rw[hx]at hx0
   have HV:Away (F i=sh x∧G i=sl x%8380417):=⟨by rw[HFi.out,HGi.out,hx];exact⟨rfl,rfl⟩⟩
   have hb:=sl_bound x
   have hs:=(split_is x)
   have Hr:=Hred.out x
   have Hc:=Hcen.out (x%8380417) 8192
   rw[show ce 8192 (x%8380417)=sl x from rfl]at Hc
   obtain⟨v,hv⟩:=ex_eq (sh x)
   have hvd:(x%8380417-sl x) / 8192=v:=hv.out
   obtain⟨l,hl⟩:=ex_eq (sl x)
   rw[hl.out]at Hc hb hs hvd
   rw[hv.out]at hs
   obtain⟨r,hr⟩:=ex_eq (x%8380417)
   have hrb : 0≤r∧r<8380417:=by rw[←hr.out];omega
   rw[hr.out]at Hr Hc hb hvd hs
   have Hl:=Hred.out l
   obtain⟨u,hu⟩:=ex_eq (l%8380417)
   rw[hu.out]at Hl
   obtain⟨d,hd⟩:∃ d,r-l=d:=⟨_,rfl⟩
   have f1:IntKind.i64.wrap (r-l)=d:=by rw[hd,IntKind.wrap_i64];omega
   rw[hd]at hvd
   have hd0 : 0≤d:=by omega
   have f2:IntKind.i64.wrap (d.tdiv 8192)=v:=by rw[Int.tdiv_eq_ediv_of_nonneg hd0,hvd,IntKind.wrap_i64];omega
   have HU:Away (upd (pt F (fun _=>0) i) i v=pt F (fun _=>0) (i+1)):=⟨pt_upd F _ i v (by rw[HV.out.1,hv.out])⟩
   have HU2:Away (upd (pt G (fun _=>0) i) i u=pt G (fun _=>0) (i+1)):=⟨pt_upd G _ i u (by rw[HV.out.2,hl.out,hu.out])⟩
   clear hx hb hs hd hd0 hvd hrb hr hv hl hu HV
   go_wp2_with fail
   refine(Hr _).mono ?_
   rintro e wx ⟨rfl,rfl⟩
   go_wp2_with fail
   refine(Hc _).mono ?_
   rintro e wy ⟨rfl,rfl⟩
   go_wp2_with fail
   refine any_begin (by kernel_rfl) ?_
   (focus (refine wpAny_take (i:=1) (v:=?_) rfl (by kernel_rfl) (by kernel_rfl) (by kernel_rfl) (fun _ _ _ h=>h) (Or.inl ⟨by rfl,?_⟩) ?_;rotate_left;focus (intro w;go_simp;first | done | with_reducible rfl);all_goals skip))
   refine any_still [0,2,3,4,5,6,7,8] 9 [10,11] rfl (by kernel_rfl) ?_
   simp only[pick,List.filterMap_cons,List.filterMap_nil,List.getElem?_cons_succ,List.getElem?_cons_zero]
   repeat still_step
   still_call (Hl _)
   repeat still_step
   refine wpStill_nil ?_
   have A1:Away (At (w.heap.size+3) (FL .i64 256 (pt F (fun _=>0) i)) 76 wy wy.drew):=⟨at_drew (At.refl A0.out.2.2.2.1)⟩
   with_reducible refine wpList_put2 A1 rfl _ _ _ rfl rfl ?_
   refine⟨_,_,_,rfl,rfl,rfl,by rw[fl_size];exact hlt,?_⟩
   intro w5 A2
   rw[fl_set,HU.out]at A2
   have A3:Away (At (w.heap.size+4) (FL .i64 256 (pt G (fun _=>0) i)) 76 w5 w5):=⟨At.refl (A2.out.other (lt_of_row A0.out.2.2.2.2) (by omega) A0.out.2.2.2.2)⟩
   refine wpList_plain rfl (fun K hK=>?_)
   go_simp
   refine hK _ _ ?_
   clear hK K
   with_reducible refine wpList_put2 A3 rfl _ _ _ rfl rfl ?_
   refine⟨_,_,_,rfl,rfl,rfl,(by rw[fl_size];exact hlt),?_⟩
   intro w6 A4
   rw[fl_set,HU2.out]at A4
   have AE:Away (Below w.heap.size w w6∧w6.heap[w.heap.size+1]? = some (.cells z 76 (0,0))∧w6.heap[w.heap.size+2]? = some (.cells z 76 (0,0)) ∧
    w6.heap[w.heap.size+3]? = some (.cells (FL .i64 256 (pt F (fun _=>0) (i+1))) 76 (0,0))∧w6.heap[w.heap.size+4]? = some (.cells (FL .i64 256 (pt G (fun _=>0) (i+1))) 76 (0,0))):=⟨by
    have s0:=A0.out.1.size
    have s1:=A2.out.size
    have l1:=lt_of_row A0.out.2.1
    have l2:=lt_of_row A0.out.2.2.1
    have l3:=lt_of_row A2.out.row
    exact⟨(A0.out.1.trans (A2.out.below (by omega) (by omega))).trans (A4.out.below (by omega) (by omega)),
     A4.out.other (by omega) (by omega) (A2.out.other l1 (by omega) A0.out.2.1),A4.out.other (by omega) (by omega) (A2.out.other l2 (by omega) A0.out.2.2.1),
     A4.out.other (by omega) (by omega) A2.out.row,A4.out.row⟩⟩
   clear A0 A1 A2 A3 A4
   go_wp2_with fail
   go_roundw
   case rel=>exact⟨i+1,by omega,by go_num,AE⟩
   case measure=>simp[intOf];omega
  ·obtain rfl:i=256:=by omega
   simp only[Int.cast_ofNat_Int]
   rw[fl_all,fl_all,HR.out,HS.out]at A0
   have K0:Two Tryz.prog wr.drew 76 (w.heap.size+3) (w.heap.size+1) R:=⟨⟨_,_,A0.out.2.2.2.1⟩,⟨_,_,A0.out.2.1,Rz.out⟩,⟨_,Tryz.underlying76,rfl⟩,Ri.out,Ro.out⟩
   have K1:Two Tryz.prog wr.drew 76 (w.heap.size+4) (w.heap.size+2) S:=⟨⟨_,_,A0.out.2.2.2.2⟩,⟨_,_,A0.out.2.2.1,Sz.out⟩,⟨_,Tryz.underlying76,rfl⟩,Si.out,So.out⟩
   have HK:=Away.mk (And.intro K0 K1)
   clear K0 K1
   go_wp2_with fail
   refine region_two 76 76 4 5 2 3 29 30 (by kernel_rfl) (by kernel_rfl) ⟨rfl,rfl,rfl⟩ ⟨rfl,rfl,rfl⟩ ⟨rfl,rfl,rfl⟩ ⟨rfl,rfl,rfl⟩ (by decide) ⟨(of_decide_eq_true rfl : 29<31),(of_decide_eq_true rfl : 30<31)⟩ _ _ _ _ R S rfl rfl rfl rfl HK.out.1 HK.out.2 (by omega) (by omega) ?_
   go_wp2_with fail
   have q0:(wr.drew.setRow (w.heap.size+1) R).heap[w.heap.size+1]? = some (.cells R 76 (0,0)):=setRow_heap _ _ _ _ _ _ A0.out.2.1
   have q1:(wr.drew.setRow (w.heap.size+1) R).heap[w.heap.size+2]? = some (.cells z 76 (0,0)):=(setRow_other _ _ _ _ (by omega)).trans A0.out.2.2.1
   refine bodyPost_ret_by (v:=.tuple #[.agg R,.agg S]) (results_cells rfl _ _ (w.heap.size+1) (w.heap.size+2) R S rfl rfl 76 76 (0,0) (0,0) ((setRow_other _ _ _ _ (by omega)).trans q0) (setRow_heap _ _ _ _ _ _ q1) _ _ Tryz.underlying76 rfl Tryz.underlying76 rfl Ri.out Si.out) rfl ?_
   exact⟨rfl,(A0.out.1.drew.trans (below_setRow _ _ _ (by omega))).trans (below_setRow _ _ _ (by omega))⟩
end rsplit
end Go.Proofs.YtomphjajkkddkaaGreatDoor
namespace Go.Proofs.YtomphjajkkddkaaGreatDoor
namespace fork
set_option linter.unusedVariables false
open Go Go.RowKit
open arr mem polys polt pols polb helda
section
variable {P:Program} {ops:Array Oper} {Q:Exit→Act→World→Prop} {S:World→Prop}
end
theorem hk_mid {P:Program} {ops:Array Oper} {Q:Exit→Act→World→Prop} {S:World→Prop} {b:Array Bool} {k:Nat} {ks:List Nat} {o:Oper} {rest:List Oper} {a:Act} {w:World} (hw:Region.wanted o (yielded ops a.tmps)=true) (hs:Region.noSelect ops=true) (hf:Region.free .any ops b k=true) (hr:(Region.ready .any ops b).contains k=true)
 (hQ:∀ v c a w,Q (.panic c) (a.put o.dst v) w→Q (.panic c) a w) (ty:TypeId) (x:Operand) (ho:o.op=.load ty x)
 (g n:Nat) (hx:a.eval x=.pointer (some ⟨g,n,none⟩)) (cs:List Value) (d:TypeDesc) (hC:∀ w,S w→w.rangeAt g n cs)
 (hu:P.underlying ty=some d) (hd:d.isRow=true) (hz:(P.info? ty).map (·.size)=some cs.length) (hS:S w)
 (h:HK P ops Q S (b.setIfInBounds k true) rest ks (a.put o.dst (.agg cs.toArray)) w):HK P ops Q S b (o :: rest) (k :: ks) a w:=
 hk_take hw hs hf hr (hQ _) (fun w hw2=>by
  unfold execOp
  simp only[ho,hx,Instr.loadAt,Instr.sureAddr,Sem.run_bind,Sem.run_pure,Result.andThen_ok,run_loadVar_mid w g n ty cs d (hC w hw2) hu hd hz]) hS h
theorem wpList_buildOne {P:Program} {ops:Array Oper} {rest:List Oper} {o:Oper} {a:Act} {w:World} {Q:Exit→Act→World→Prop} (hg:o.guard=none) (t e:TypeId) (x:Operand) (ho:o.op=.buildSlice t 1 #[(0,x)])
 (F:Array Value) (hF:F.size=256) (ie:TypeInfo) (z:Array Value)
 (hu:P.underlying t=some (.slice e)) (hie:P.info? e=some ie) (hz:ie.zero=some (.agg z)) (hsz:ie.size=256) (hx:a.eval x=.agg F)
 (h:wpList P ops Q rest (a.put o.dst (.slice (some ⟨w.heap.size,0,none⟩) 1 1)) (w.alloc (.cells F e))):wpList P ops Q (o :: rest) a w:=by
 refine wpList_buildSlice hg t e 1 _ ho F ie (.agg z) hu hie hz (by rw[hsz];decide) (by rw[hsz];decide) ?_ h
 have hc:((#[(0,x)]:Array (Nat × Operand)).map fun (i,x)=>(i,a.eval x)).toList=[(0,Value.agg F)]:=by simp[hx]
 rw[hc,hsz]
 exact fill_one F _ hF (by rw[Array.size_map,Array.size_range])
end fork
end Go.Proofs.YtomphjajkkddkaaGreatDoor
namespace Go.Proofs.YtomphjajkkddkaaGreatDoor
namespace qdoc
open Go Go.RowKit
open arr mem keca kstep kturn spok polys polt pols rbita rbitc rbitf rbitg rndm samm samb samc saml samr rsdoc
theorem shake {T:Array Value} (k:Int) (b:ByteArray) (n:Nat) (w:World) (hK:KT T TL RL) (hP:Gp w) (hk:k=1∨k=2) (hn:n≤50000) (hb:b.size≤1125899906842624):
 ∀ w1:World,Below w.heap.size w w1→Calls Tryz.prog 78 #[.agg T,.int .i64 k,.string b,.int .i64 (n:Int)] w1 fun e w'=>e=.returned (.tuple #[.string (out TL RL k b n),.int .i64 0])∧Below w1.heap.size w1 w':=fun w1 h1=>by
 rcases hk with rfl | rfl
 ·exact shake_go 1 b n w1 hK (hP.later h1) (by decide) rfl hn hb
 ·exact shake_go 2 b n w1 hK (hP.later h1) (by decide) rfl hn hb
theorem uniform {T:Array Value} (b:ByteArray) (w:World) (hK:KT T TL RL) (hP:Gp w) (hb:b.size≤1125899906842624):
 Calls Tryz.prog 83 #[.agg T,.string b] w fun e w'=>e=.returned (.agg (FL .i64 256 (dU b)))∧Below w.heap.size w w':=
 quni.Uniform_any b _ w (infoT T hK) (out_size 1 b 1008) (shake 1 b 1008 w hK hP (Or.inl rfl) (by decide) hb)
theorem small {T:Array Value} (b:ByteArray) (e:Int) (w:World) (hK:KT T TL RL) (hP:Gp w) (hb:b.size≤1125899906842624):
 Calls Tryz.prog 114 #[.agg T,.string b,.int .i64 e] w fun x w'=>x=.returned (.agg (FL .i64 256 (dS b e)))∧Below w.heap.size w w':=
 qsma.Small_any b _ e w (infoT T hK) (out_size 2 b 816) (shake 2 b 816 w hK hP (Or.inr rfl) (by decide) hb)
theorem secrets {T:Array Value} (kn ln:Nat) (e t a b o s:Int) (sd:ByteArray) (w:World) (hK:KT T TL RL) (hP:Gp w) (h:latt (kn:Int) (ln:Int) e t a b o s=true) (hsd:sd.size≤1000):
 Calls Tryz.prog 63 #[.agg T,.agg #[.int .i64 (kn:Int),.int .i64 (ln:Int),.int .i64 e,.int .i64 t,.int .i64 a,.int .i64 b,.int .i64 o,.int .i64 s],.string sd] w fun x w'=>(∃ v1 v2,x=.returned (.tuple #[v1,v2])∧Holds w' w.heap.size v1 ln (qS sd e)∧Holds w' w.heap.size v2 kn (fun i=>qS sd e (ln+i)))∧Below w.heap.size w w':=by
 obtain⟨h1,h2,-⟩:=latt_of h
 exact qsec.secrets_yes kn ln e t a b o s sd (qS sd e) w (infoT T hK) (by omega) (by omega) h (by omega) fun r _ w1 hb=>small (tw sd r 0) e w1 hK (hP.later hb) (by rw[tw_size];omega)
theorem matrix {T:Array Value} (kn ln:Nat) (e t a b o s:Int) (sd:ByteArray) (w:World) (hK:KT T TL RL) (hP:Gp w) (h:latt (kn:Int) (ln:Int) e t a b o s=true) (hsd:sd.size≤1000):
 Calls Tryz.prog 33 #[.agg T,.agg #[.int .i64 (kn:Int),.int .i64 (ln:Int),.int .i64 e,.int .i64 t,.int .i64 a,.int .i64 b,.int .i64 o,.int .i64 s],.string sd] w fun x w'=>(∃ v vs,x=.returned v∧w'.ownsRow w.heap.size 44 1 v kn vs∧Rowl w' w.heap.size v.ownBlock vs ln (qX sd))∧Below w.heap.size w w':=by
 obtain⟨h1,h2,-⟩:=latt_of h
 exact qmat.matrix_yes kn ln e t a b o s sd (qX sd) w (infoT T hK) (by omega) (by omega) h (by omega) fun r c _ _ w1 hb=>uniform (tw sd c r) w1 hK (hP.later hb) (by rw[tw_size];omega)
end qdoc
end Go.Proofs.YtomphjajkkddkaaGreatDoor
