/-
  What ntt's reduced returns: each coefficient reduced. Conditions: none. What ntt.Times returns: the products coefficient by coefficient, reduced. Conditions: none. What ntt's split does to the polynomial behind its pointer: the pairs of one block are turned, the rest stays as it was. Conditions: as 
-/
import Derived.Test.YtgahcabgmfbhdaaGreatDoorZm07
import Derived.Test.YtgahcabgmfbhdaaGreatDoorZm02
set_option maxRecDepth 100000
set_option maxHeartbeats 16000000
namespace Go.Proofs.YtgahcabgmfbhdaaGreatDoor
namespace nred
open Go Go.RowKit
open arr mem stil polys polt nttl
theorem reduced_any (f:Nat→Int) (w:World):
 Calls Tryz.prog 146 #[.agg (FL .i64 256 f)] w fun e w'=>e=.returned (.agg (FL .i64 256 (red f)))∧Below w.heap.size w w':=by
 obtain⟨hz,hsize⟩:=zero_of_info infoP
 obtain⟨z,HZ⟩:=ex_eq (FL .i64 256 fun _=>0)
 rw[HZ.out]at hz
 have Hzs:Away (z.size=256):=⟨by rw[←HZ.out];exact fl_size _ _ _⟩
 have hr:(fun i=>(f i*1)%8380417)=red f:=by funext i;unfold red;rw[Int.mul_one]
 obtain⟨F,HF⟩:=ex_eq (FL .i64 256 f)
 obtain⟨R,HR⟩:=ex_eq (FL .i64 256 (red f))
 have Fi:Away ((Tryz.prog.info? 109).map (·.size)=some F.size):=⟨by rw[←HF.out,fl_size];exact hsize⟩
 have Ri:Away ((Tryz.prog.info? 109).map (·.size)=some R.size):=⟨by rw[←HR.out,fl_size];exact hsize⟩
 have Ro:Away (R.all (·.oneCell')=true):=⟨by rw[←HR.out];exact fl_one _ _ _⟩
 have Rz:Away (z.size=R.size):=⟨by rw[Hzs.out,←HR.out,fl_size]⟩
 have H:Away (∀ w1:World,Calls Tryz.prog 149 #[.agg F,.int .i64 1] w1 fun e w'=>e=.returned (.agg R)∧Below w1.heap.size w1 w'):=⟨fun w1=>by
  have h:=fscale.scale_any f 1 w1
  rw[hr,HF.out,HR.out]at h
  exact h⟩
 rw[HF.out,HR.out]
 clear hr HF HR HZ hsize
 go_enter Tryz.func146,Tryz.ntmps146
 go_wp2_with fail
 obtain⟨W,hW⟩:∃ x,(w.alloc (.cells F 109)).alloc (.cells z 109)=x:=⟨_,rfl⟩
 obtain⟨b0,b1,hWs,hWb⟩:=two hW
 rw[hW]
 clear hW
 have B0:=Away.mk b0
 have B1:=Away.mk b1
 have HWb:=Away.mk hWb
 clear hz hWs hWb b0 b1
 go_wp2_with fail
 refine wp_load_row 109 _ rfl w.heap.size rfl 109 F (0,0) _ B0.out Tryz.underlying109 rfl Fi.out ?_
 go_wp2_with fail
 refine(H.out _).mono ?_
 rintro e w1 ⟨rfl,hb⟩
 have B2:Away (w1.heap[w.heap.size+1]? = some (.cells z 109 (0,0))):=⟨(hb.block _ (lt_of_row B1.out)).trans B1.out⟩
 have HB:Away (Below w.heap.size w w1):=⟨HWb.out.trans (hb.mono HWb.out.size)⟩
 clear hb B0 B1 HWb
 go_wp2_with (refine wpList_store_row rfl 109 _ _ rfl (w.heap.size+1) R rfl rfl 109 _ B2.out Ri.out Rz.out Ro.out ?_)
 refine bodyPost_ret_by (v:=.agg R) (results_cell_row rfl _ _ (w.heap.size+1) 109 _ (0,0) _ rfl (setRow_heap _ _ _ _ _ _ B2.out) Tryz.underlying109 rfl Ri.out) rfl ?_
 exact⟨rfl,HB.out.trans (below_setRow _ _ _ (by omega))⟩
end nred
namespace ntimes
open Go Go.RowKit
open arr mem stil polys polt fldm fld1
theorem times_any (f g:Nat→Int) (w:World):
 Calls Tryz.prog 96 #[.agg (FL .i64 256 f),.agg (FL .i64 256 g)] w fun e w'=>e=.returned (.agg (FL .i64 256 fun i=>(f i*g i)%8380417))∧Below w.heap.size w w':=by
 obtain⟨hz,hsize⟩:=zero_of_info infoP
 obtain⟨z,HZ⟩:=ex_eq (FL .i64 256 fun _=>0)
 rw[HZ.out]at hz
 have Hzs:Away (z.size=256):=⟨by rw[←HZ.out];exact fl_size _ _ _⟩
 obtain⟨F,HF⟩:∃ F:Nat→Int,Away (F=fun i=>(f i*g i)%8380417):=⟨_,⟨rfl⟩⟩
 have hFi:∀ i,F i=(fun i=>(f i*g i)%8380417) i:=fun i=>by rw[HF.out]
 have HFi:=Away.mk hFi
 rw[←HF.out]
 clear HF hFi
 obtain⟨R,HR⟩:=ex_eq (FL .i64 256 F)
 have Ri:Away ((Tryz.prog.info? 109).map (·.size)=some R.size):=⟨by rw[←HR.out,fl_size];exact hsize⟩
 have Ro:Away (R.all (·.oneCell')=true):=⟨by rw[←HR.out];exact fl_one _ _ _⟩
 have Rz:Away (z.size=R.size):=⟨by rw[Hzs.out,←HR.out,fl_size]⟩
 rw[HR.out]
 have Hred:=Away.mk reduce_any
 clear hsize
 go_enter Tryz.func96,Tryz.ntmps96
 go_wp2_with fail
 clear hz
 obtain⟨W,hW⟩:∃ x,((w.alloc (.cells (FL .i64 256 f) 109)).alloc (.cells (FL .i64 256 g) 109)).alloc (.cells z 109)=x:=⟨_,rfl⟩
 obtain⟨b0,b1,b2,hWs,hWb⟩:=three hW
 rw[hW]
 clear hW
 have B0:=Away.mk b0
 have B1:=Away.mk b1
 have BR:=Away.mk b2
 have HWs:Away (w.heap.size+3≤W.heap.size):=⟨by omega⟩
 have HWb:=Away.mk hWb
 clear hWs hWb b0 b1 b2
 go_loopw [6] (fun v wr=>∃ i:Nat,i≤256∧v=.int .i64 (i:Int)∧Away (At w.heap.size (FL .i64 256 (pt F f i)) 109 W wr)) (fun v _=>256-(intOf v).toNat)
 case atStart=>exact⟨0,Nat.zero_le _,rfl,⟨by rw[pt_zero];exact At.refl B0.out⟩⟩
 case round=>
  obtain⟨i,hi,rfl,A0⟩:=hrel
  by_cases hlt:i<256
  ·have hiz:(i:Int)<256:=by omega
   obtain⟨x,hx⟩:∃ x,f i=x:=⟨_,rfl⟩
   have ca:wr.cell? ⟨w.heap.size,i,none⟩=some (.int .i64 x):=by
    have h9:=fl_at A0.out.row i hlt
    rw[pt_at,hx]at h9
    exact h9
   obtain⟨y,hy⟩:∃ y,g i=y:=⟨_,rfl⟩
   have cb:wr.cell? ⟨w.heap.size+1,i,none⟩=some (.int .i64 y):=by
    rw[←hy]
    exact fl_at (A0.out.other (by have:=HWs.out;omega) (by omega) B1.out) i hlt
   have HV:Away (F i=(x*y)%8380417):=⟨by rw[HFi.out,hx,hy]⟩
   obtain⟨x1,hx1⟩:=ex_eq (x%8380417)
   obtain⟨y1,hy1⟩:=ex_eq (y%8380417)
   have hxb : 0≤x1∧x1<8380417:=by rw[←hx1.out];omega
   have hyb : 0≤y1∧y1<8380417:=by rw[←hy1.out];omega
   have hp : 0≤x1*y1∧x1*y1≤8380417*8380417:=⟨Int.mul_nonneg hxb.1 hyb.1,Int.le_trans (Int.mul_le_mul_of_nonneg_right (Int.le_of_lt hxb.2) hyb.1) (Int.mul_le_mul_of_nonneg_left (Int.le_of_lt hyb.2) (by decide))⟩
   have hs:IntKind.i64.wrap (x1*y1)=x1*y1:=by rw[IntKind.wrap_i64];omega
   have hmm:=Int.mul_emod x y 8380417
   rw[hx1.out,hy1.out]at hmm
   obtain⟨s,hs1⟩:=ex_eq (x1*y1)
   have hs2:s%8380417=F i:=by rw[HV.out,←hs1.out,hmm]
   obtain⟨v,hv⟩:=ex_eq (s%8380417)
   have Hx:∀ w1:World,Calls Tryz.prog 112 #[.int .i64 x] w1 fun e w'=>e=.returned (.int .i64 x1)∧w'=w1:=fun w1=>by rw[←hx1.out];exact reduce_any x w1
   have Hy:∀ w1:World,Calls Tryz.prog 112 #[.int .i64 y] w1 fun e w'=>e=.returned (.int .i64 y1)∧w'=w1:=fun w1=>by rw[←hy1.out];exact reduce_any y w1
   have Hs:∀ w1:World,Calls Tryz.prog 112 #[.int .i64 (x1*y1)] w1 fun e w'=>e=.returned (.int .i64 v)∧w'=w1:=fun w1=>by rw[hs1.out,←hv.out];exact reduce_any s w1
   have HU:Away (upd (pt F f i) i v=pt F f (i+1)):=⟨pt_upd F f i v (by rw[←hv.out,hs2])⟩
   clear hy hs2 hmm hp hxb hyb
   clear hx
   go_wp2_with fail
   refine still_tail 12 (by kernel_rfl) (by kernel_rfl) ?_
   simp only[List.take_succ_cons,List.take_zero,List.drop_succ_cons,List.drop_zero]
   repeat still_step
   still_call (Hx _)
   repeat still_step
   still_call (Hy _)
   repeat still_step
   still_call (Hs _)
   repeat still_step
   refine wpStill_nil ?_
   clear cb
   clear ca
   have A1:Away (At w.heap.size (FL .i64 256 (pt F f i)) 109 W wr.drew):=⟨at_drew A0.out⟩
   clear A0
   with_reducible refine wpList_put2 A1 rfl _ _ _ rfl rfl ?_
   refine⟨_,_,_,rfl,rfl,rfl,by rw[fl_size];exact hlt,?_⟩
   intro wn HR
   rw[fl_set,HU.out]at HR
   go_wp2_with fail
   go_roundw
   case rel=>exact⟨i+1,by omega,by go_num,HR⟩
   case measure=>simp[intOf];omega
  ·obtain rfl:i=256:=by omega
   simp only[Int.cast_ofNat_Int]
   rw[fl_all,HR.out]at A0
   have Hrow:=Away.mk A0.out.row
   have Hres:Away (wr.heap[w.heap.size+2]? = some (.cells z 109 (0,0))):=⟨A0.out.other (by have:=HWs.out;omega) (by omega) BR.out⟩
   have HB:Away (Below w.heap.size w wr):=⟨HWb.out.trans (A0.out.below (by have:=HWs.out;omega) (Nat.le_refl _))⟩
   clear A0
   go_wp2_with (first
    | (refine wpList_load_row rfl 109 _ rfl w.heap.size rfl 109 R (0,0) _ Hrow.out Tryz.underlying109 rfl Ri.out ?_)
    | (refine wpList_store_row rfl 109 _ _ rfl (w.heap.size+2) R rfl rfl 109 _ Hres.out Ri.out Rz.out Ro.out ?_))
   refine bodyPost_ret_by (v:=.agg R) (results_cell_row rfl _ _ (w.heap.size+2) 109 _ (0,0) _ rfl (setRow_heap _ _ _ _ _ _ Hres.out) Tryz.underlying109 rfl Ri.out) rfl ?_
   exact⟨rfl,HB.out.trans (below_setRow _ _ _ (by omega))⟩
end ntimes
end Go.Proofs.YtgahcabgmfbhdaaGreatDoor
namespace Go.Proofs.YtgahcabgmfbhdaaGreatDoor
namespace nsplit
open Go Go.RowKit
open arr mem stil polys polt fldm fld1 nttm nttl floa
theorem split_any (L:(Nat→Int)→Nat→Int) (g s t b:Nat) (z:Int) (f:Nat→Int) (w:World) (hb:b=2*s*t) (hs:b+2*s≤256) (hz : 0≤z∧z<8380417) (hf:∀ j,0≤f j∧f j<8380417)
 (hL:∀ r,r<s→L f (2*s*t+r)=f (2*s*t+r)+z*f (2*s*t+r+s)∧L f (2*s*t+r+s)=f (2*s*t+r)-z*f (2*s*t+r+s))
 (hA:w.heap[g]? = some (.cells (FL .i64 256 (dn L s f (t*s))) 109 (0,0))):
 Calls Tryz.prog 147 #[.pointer (some ⟨g,0,none⟩),.int .i64 (b:Int),.int .i64 (s:Int),.int .i64 z] w fun e w'=>e=.returned (.tuple #[])∧At g (FL .i64 256 (dn L s f ((t+1)*s))) 109 w w':=by
 have HA:=Away.mk hA
 have HL:=Away.mk hL
 have Hz:=Away.mk hz
 have Hf:=Away.mk hf
 have Hb:=Away.mk hb
 have Hs:=Away.mk hs
 have Hend:Away (t*s+s=(t+1)*s):=⟨by rw[Nat.succ_mul]⟩
 have Hred:=Away.mk reduce_any
 clear hA hL hz hf hb hs
 go_enter Tryz.func147,Tryz.ntmps147
 go_wp2_with fail
 go_loopw [13] (fun v wr=>∃ r:Nat,r≤s∧v=.int .i64 (r:Int)∧Away (At g (FL .i64 256 (dn L s f (t*s+r))) 109 w wr)) (fun v _=>s-(intOf v).toNat)
 case atStart=>exact⟨0,Nat.zero_le _,rfl,⟨At.refl HA.out⟩⟩
 case round=>
  obtain⟨r,hr,rfl,A0⟩:=hrel
  by_cases hlt:r<s
  ·have hrz:(r:Int)<(s:Int):=by omega
   have hr1:(r:Int)<128:=by have:=Hs.out;omega
   obtain⟨lo,hlo⟩:∃ lo,b+r=lo:=⟨_,rfl⟩
   obtain⟨hi,hhi⟩:∃ hi,lo+s=hi:=⟨_,rfl⟩
   have hb:=Hb.out
   have hs:=Hs.out
   have elo : 2*s*t+r=lo:=by omega
   have ehi : 2*s*t+r+s=hi:=by omega
   have hiz:(hi:Int)<256:=by omega
   have loz:(lo:Int)<256:=by omega
   have Hhi:Away (hi<256):=⟨by omega⟩
   have Hlo:Away (lo<256):=⟨by omega⟩
   have f1:IntKind.i64.wrap ((b:Int)+(r:Int))=(lo:Int):=by rw[IntKind.wrap_i64];omega
   have f2:IntKind.i64.wrap ((lo:Int)+(s:Int))=(hi:Int):=by rw[IntKind.wrap_i64];omega
   obtain⟨x,hx⟩:∃ x,f lo=x:=⟨_,rfl⟩
   obtain⟨y,hy⟩:∃ y,f hi=y:=⟨_,rfl⟩
   have hxb : 0≤x∧x<8380417:=by rw[←hx];exact Hf.out lo
   have hyb : 0≤y∧y<8380417:=by rw[←hy];exact Hf.out hi
   have hzb:=Hz.out
   have cx:wr.cell? ⟨g,lo,none⟩=some (.int .i64 x):=by
    have h9:=fl_at A0.out.row lo Hlo.out
    rw[←elo,dn_lo L hlt,elo,hx]at h9
    exact h9
   have cy:wr.cell? ⟨g,hi,none⟩=some (.int .i64 y):=by
    have h9:=fl_at A0.out.row hi Hhi.out
    rw[←ehi,dn_hi L hlt,ehi,hy]at h9
    exact h9
   have hP:=HL.out r hlt
   rw[ehi,elo,hx,hy]at hP
   have hp : 0≤z*y∧z*y≤8380417*8380417:=⟨Int.mul_nonneg hzb.1 hyb.1,Int.le_trans (Int.mul_le_mul_of_nonneg_right (Int.le_of_lt hzb.2) hyb.1) (Int.mul_le_mul_of_nonneg_left (Int.le_of_lt hyb.2) (by decide))⟩
   obtain⟨p,hpe⟩:∃ p,z*y=p:=⟨_,rfl⟩
   rw[hpe]at hp hP
   have f3:IntKind.i64.wrap (z*y)=p:=by rw[hpe,IntKind.wrap_i64];omega
   have f4:IntKind.i64.wrap (x+p)=x+p:=by rw[IntKind.wrap_i64];omega
   have f5:IntKind.i64.wrap (x-p)=x-p:=by rw[IntKind.wrap_i64];omega
   obtain⟨v1,hv1⟩:=ex_eq ((x+p)%8380417)
   obtain⟨v2,hv2⟩:=ex_eq ((x-p)%8380417)
   have H1:∀ w1:World,Calls Tryz.prog 112 #[.int .i64 (x+p)] w1 fun e w'=>e=.returned (.int .i64 v1)∧w'=w1:=fun w1=>by rw[←hv1.out];exact Hred.out _ w1
   have H2:∀ w1:World,Calls Tryz.prog 112 #[.int .i64 (x-p)] w1 fun e w'=>e=.returned (.int .i64 v2)∧w'=w1:=fun w1=>by rw[←hv2.out];exact Hred.out _ w1
   have HU:Away (upd (upd (dn L s f (t*s+r)) lo v1) hi v2=dn L s f (t*s+(r+1))):=⟨by
    have h9:=(dn_step (t:=t) L hlt f v1 v2 (by rw[elo,hP.1];exact hv1.out.symm) (by rw[ehi,hP.2];exact hv2.out.symm)).2
    rw[elo,hhi]at h9
    exact h9⟩
   clear hx hy hxb hyb hzb hP hb hs elo ehi hlo hhi hp hpe
   go_wp2_with fail
   refine any_begin (by kernel_rfl) ?_
   (focus (refine wpAny_take (i:=2) (v:=?_) rfl (by kernel_rfl) (by kernel_rfl) (by kernel_rfl) (fun _ _ _ h=>h) (Or.inl ⟨by rfl,?_⟩) ?_;rotate_left;focus (intro w;go_simp;first | done | with_reducible rfl);all_goals skip))
   (focus (refine wpAny_take (i:=3) (v:=?_) rfl (by kernel_rfl) (by kernel_rfl) (by kernel_rfl) (fun _ _ _ h=>h) (Or.inl ⟨by rfl,?_⟩) ?_;rotate_left;focus (intro w;go_simp;first | done | with_reducible rfl);all_goals skip))
   (focus (refine wpAny_take (i:=23) (v:=?_) rfl (by kernel_rfl) (by kernel_rfl) (by kernel_rfl) (fun _ _ _ h=>h) (Or.inl ⟨by rfl,?_⟩) ?_;rotate_left;focus (intro w;go_simp;first | done | with_reducible rfl);all_goals skip))
   refine any_still [0,1,4,5,6,7,8,9,10,11,12,13,14,15,16,17,18,19,20,21] 22 [24,25] rfl (by kernel_rfl) ?_
   simp only[pick,List.filterMap_cons,List.filterMap_nil,List.getElem?_cons_succ,List.getElem?_cons_zero]
   repeat still_step
   still_call (H1 _)
   repeat still_step
   still_call (H2 _)
   repeat still_step
   refine wpStill_nil ?_
   have A1:Away (At g (FL .i64 256 (dn L s f (t*s+r))) 109 w wr.drew):=⟨at_drew A0.out⟩
   clear A0 cx cy
   with_reducible refine wpList_put2 A1 rfl _ _ _ rfl rfl ?_
   refine⟨_,_,_,rfl,rfl,rfl,by rw[fl_size];exact Hlo.out,?_⟩
   intro w5 A2
   rw[fl_set]at A2
   clear A1
   refine wpList_plain rfl (fun K hK=>?_)
   go_simp
   refine hK _ _ ?_
   clear hK K
   with_reducible refine wpList_put2 A2 rfl _ _ _ rfl rfl ?_
   refine⟨_,_,_,rfl,rfl,rfl,(by rw[fl_size];exact Hhi.out),?_⟩
   intro w6 A3
   rw[fl_set,HU.out]at A3
   clear A2
   go_wp2_with fail
   go_roundw
   case rel=>exact⟨r+1,by omega,by go_num,A3⟩
   case measure=>simp[intOf];omega
  ·obtain rfl:r=s:=by omega
   rw[Hend.out]at A0
   go_wp2_with fail
   refine bodyPost_end (v:=.tuple #[]) (results_none rfl _ _ _) rfl ?_
   exact⟨rfl,A0.out⟩
end nsplit
namespace njoin
open Go Go.RowKit
open arr mem stil polys polt fldm fld1 nttm nttl floa
theorem join_any (L:(Nat→Int)→Nat→Int) (g s t b:Nat) (z:Int) (f:Nat→Int) (w:World) (hb:b=2*s*t) (hs:b+2*s≤256) (hz : 0≤z∧z<8380417) (hf:∀ j,0≤f j∧f j<8380417)
 (hL:∀ r,r<s→L f (2*s*t+r)=f (2*s*t+r)+f (2*s*t+r+s)∧L f (2*s*t+r+s) = -z*(f (2*s*t+r)-f (2*s*t+r+s)))
 (hA:w.heap[g]? = some (.cells (FL .i64 256 (dn L s f (t*s))) 109 (0,0))):
 Calls Tryz.prog 148 #[.pointer (some ⟨g,0,none⟩),.int .i64 (b:Int),.int .i64 (s:Int),.int .i64 z] w fun e w'=>e=.returned (.tuple #[])∧At g (FL .i64 256 (dn L s f ((t+1)*s))) 109 w w':=by
 have HA:=Away.mk hA
 have HL:=Away.mk hL
 have Hz:=Away.mk hz
 have Hf:=Away.mk hf
 have Hb:=Away.mk hb
 have Hs:=Away.mk hs
 have Hend:Away (t*s+s=(t+1)*s):=⟨by rw[Nat.succ_mul]⟩
 have Hred:=Away.mk reduce_any
 clear hA hL hz hf hb hs
 go_enter Tryz.func148,Tryz.ntmps148
 go_wp2_with fail
 go_loopw [14] (fun v wr=>∃ r:Nat,r≤s∧v=.int .i64 (r:Int)∧Away (At g (FL .i64 256 (dn L s f (t*s+r))) 109 w wr)) (fun v _=>s-(intOf v).toNat)
 case atStart=>exact⟨0,Nat.zero_le _,rfl,⟨At.refl HA.out⟩⟩
 case round=>
  obtain⟨r,hr,rfl,A0⟩:=hrel
  by_cases hlt:r<s
  ·have hrz:(r:Int)<(s:Int):=by omega
   have hr1:(r:Int)<128:=by have:=Hs.out;omega
   obtain⟨lo,hlo⟩:∃ lo,b+r=lo:=⟨_,rfl⟩
   obtain⟨hi,hhi⟩:∃ hi,lo+s=hi:=⟨_,rfl⟩
   have hb:=Hb.out
   have hs:=Hs.out
   have elo : 2*s*t+r=lo:=by omega
   have ehi : 2*s*t+r+s=hi:=by omega
   have hiz:(hi:Int)<256:=by omega
   have loz:(lo:Int)<256:=by omega
   have Hhi:Away (hi<256):=⟨by omega⟩
   have Hlo:Away (lo<256):=⟨by omega⟩
   have f1:IntKind.i64.wrap ((b:Int)+(r:Int))=(lo:Int):=by rw[IntKind.wrap_i64];omega
   have f2:IntKind.i64.wrap ((lo:Int)+(s:Int))=(hi:Int):=by rw[IntKind.wrap_i64];omega
   obtain⟨x,hx⟩:∃ x,f lo=x:=⟨_,rfl⟩
   obtain⟨y,hy⟩:∃ y,f hi=y:=⟨_,rfl⟩
   have hxb : 0≤x∧x<8380417:=by rw[←hx];exact Hf.out lo
   have hyb : 0≤y∧y<8380417:=by rw[←hy];exact Hf.out hi
   have hzb:=Hz.out
   have cx:wr.cell? ⟨g,lo,none⟩=some (.int .i64 x):=by
    have h9:=fl_at A0.out.row lo Hlo.out
    rw[←elo,dn_lo L hlt,elo,hx]at h9
    exact h9
   have cy:wr.cell? ⟨g,hi,none⟩=some (.int .i64 y):=by
    have h9:=fl_at A0.out.row hi Hhi.out
    rw[←ehi,dn_hi L hlt,ehi,hy]at h9
    exact h9
   have hP:=HL.out r hlt
   rw[ehi,elo,hx,hy]at hP
   obtain⟨d,hd⟩:∃ d,x-y=d:=⟨_,rfl⟩
   rw[hd]at hP
   have hp : -8380417*(2*8380417) ≤ -z*d ∧ -z*d≤8380417*8380417:=by
    have h0 : 0≤z*(x+8380417-y)∧z*(x+8380417-y)≤8380417*(2*8380417):=⟨Int.mul_nonneg hzb.1 (by omega),Int.le_trans (Int.mul_le_mul_of_nonneg_right (Int.le_of_lt hzb.2) (by omega)) (Int.mul_le_mul_of_nonneg_left (by omega) (by decide))⟩
    have h1:z*(x+8380417-y)=z*d+z*8380417:=by rw[←hd,←Int.mul_add];congr 1;omega
    rw[h1]at h0
    have h2 : -z*d = -(z*d):=Int.neg_mul z d
    rw[h2]
    generalize z*d=q at h0 ⊢
    omega
   obtain⟨p,hpe⟩:∃ p,-z*d=p:=⟨_,rfl⟩
   rw[hpe]at hp hP
   have f3:IntKind.i64.wrap (x+y)=x+y:=by rw[IntKind.wrap_i64];omega
   have f4:IntKind.i64.wrap (x-y)=d:=by rw[IntKind.wrap_i64];omega
   have f6:IntKind.i64.wrap (-z) = -z:=by rw[IntKind.wrap_i64];omega
   have f5:IntKind.i64.wrap (-z*d)=p:=by rw[hpe,IntKind.wrap_i64];omega
   obtain⟨v1,hv1⟩:=ex_eq ((x+y)%8380417)
   obtain⟨v2,hv2⟩:=ex_eq ((p)%8380417)
   have H1:∀ w1:World,Calls Tryz.prog 112 #[.int .i64 (x+y)] w1 fun e w'=>e=.returned (.int .i64 v1)∧w'=w1:=fun w1=>by rw[←hv1.out];exact Hred.out _ w1
   have H2:∀ w1:World,Calls Tryz.prog 112 #[.int .i64 (p)] w1 fun e w'=>e=.returned (.int .i64 v2)∧w'=w1:=fun w1=>by rw[←hv2.out];exact Hred.out _ w1
   have HU:Away (upd (upd (dn L s f (t*s+r)) lo v1) hi v2=dn L s f (t*s+(r+1))):=⟨by
    have h9:=(dn_step (t:=t) L hlt f v1 v2 (by rw[elo,hP.1];exact hv1.out.symm) (by rw[ehi,hP.2];exact hv2.out.symm)).2
    rw[elo,hhi]at h9
    exact h9⟩
   clear hx hy hxb hyb hzb hP hb hs elo ehi hlo hhi hp hd hpe
   go_wp2_with fail
   refine still_all (by kernel_rfl) (by kernel_rfl) ?_
   repeat still_step
   refine wpStill_nil ?_
   go_wp2_with fail
   refine any_begin (by kernel_rfl) ?_
   (focus (refine wpAny_take (i:=2) (v:=?_) rfl (by kernel_rfl) (by kernel_rfl) (by kernel_rfl) (fun _ _ _ h=>h) (Or.inl ⟨by rfl,?_⟩) ?_;rotate_left;focus (intro w;go_simp;first | done | with_reducible rfl);all_goals skip))
   (focus (refine wpAny_take (i:=3) (v:=?_) rfl (by kernel_rfl) (by kernel_rfl) (by kernel_rfl) (fun _ _ _ h=>h) (Or.inl ⟨by rfl,?_⟩) ?_;rotate_left;focus (intro w;go_simp;first | done | with_reducible rfl);all_goals skip))
   (focus (refine wpAny_take (i:=14) (v:=?_) rfl (by kernel_rfl) (by kernel_rfl) (by kernel_rfl) (fun _ _ _ h=>h) (Or.inl ⟨by rfl,?_⟩) ?_;rotate_left;focus (intro w;go_simp;first | done | with_reducible rfl);all_goals skip))
   refine any_still [0,1,4,5,6,7,8,9,10,11,12] 13 [15,16] rfl (by kernel_rfl) ?_
   simp only[pick,List.filterMap_cons,List.filterMap_nil,List.getElem?_cons_succ,List.getElem?_cons_zero]
   repeat still_step
   still_call (H1 _)
   repeat still_step
   still_call (H2 _)
   repeat still_step
   refine wpStill_nil ?_
   have A1:Away (At g (FL .i64 256 (dn L s f (t*s+r))) 109 w wr.drew.drew):=⟨at_drew (at_drew A0.out)⟩
   clear A0 cx cy
   with_reducible refine wpList_put2 A1 rfl _ _ _ rfl rfl ?_
   refine⟨_,_,_,rfl,rfl,rfl,by rw[fl_size];exact Hlo.out,?_⟩
   intro w5 A2
   rw[fl_set]at A2
   clear A1
   refine wpList_plain rfl (fun K hK=>?_)
   go_simp
   refine hK _ _ ?_
   clear hK K
   with_reducible refine wpList_put2 A2 rfl _ _ _ rfl rfl ?_
   refine⟨_,_,_,rfl,rfl,rfl,(by rw[fl_size];exact Hhi.out),?_⟩
   intro w6 A3
   rw[fl_set,HU.out]at A3
   clear A2
   go_wp2_with fail
   go_roundw
   case rel=>exact⟨r+1,by omega,by go_num,A3⟩
   case measure=>simp[intOf];omega
  ·obtain rfl:r=s:=by omega
   rw[Hend.out]at A0
   go_wp2_with fail
   refine bodyPost_end (v:=.tuple #[]) (results_none rfl _ _ _) rfl ?_
   exact⟨rfl,A0.out⟩
end njoin
end Go.Proofs.YtgahcabgmfbhdaaGreatDoor
namespace Go.Proofs.YtgahcabgmfbhdaaGreatDoor
namespace nthere
open Go Go.RowKit
open arr mem stil polys polt nttm nttp nttl
structure ZT (T:Array Value) (Z:Nat→Int):Prop where
 z:∀ k,k<256→T[209+k]? = some (.int .i64 (Z k))
 size:T.size=465
 one:T.all (·.oneCell')=true
theorem infoT:(Tryz.prog.info? 34).map (·.size)=some 465:=by kernel_rfl
theorem pows (m:Nat) (h:m<8) : 0<2 ^ m∧(128:Int) / 2 ^ m=((2 ^ (7-m):Nat):Int)∧IntKind.i64.wrap ((2:Int) ^ m)=((2 ^ m:Nat):Int)∧2 ^ m≤128∧0<2 ^ (7-m):=by
 have key:∀ m:Fin 8,0<2 ^ m.val∧(128:Int) / 2 ^ m.val=((2 ^ (7-m.val):Nat):Int)∧IntKind.i64.wrap ((2:Int) ^ m.val)=((2 ^ m.val:Nat):Int)∧2 ^ m.val≤128∧0<2 ^ (7-m.val):=by decide +kernel
 exact key ⟨m,h⟩
theorem there_any (T:Array Value) (Z:Nat→Int) (f:Nat→Int) (w:World) (hT:ZT T Z):
 Calls Tryz.prog 95 #[.agg T,.agg (FL .i64 256 f)] w fun e w'=>e=.returned (.agg (FL .i64 256 (thereR (fun k=>Z k%8380417) 8 f)))∧Below w.heap.size w w':=by
 obtain⟨ζ,hζ⟩:=ex_eq (fun k=>Z k%8380417)
 have Hζ : Away (∀ k,Z k%8380417 = ζ k):=⟨fun k=>by rw[←hζ.out]⟩
 rw[hζ.out]
 clear hζ
 obtain⟨hz,hsize⟩:=zero_of_info infoP
 obtain⟨z,HZ⟩:=ex_eq (FL .i64 256 fun _=>0)
 rw[HZ.out]at hz
 have Hzs:Away (z.size=256):=⟨by rw[←HZ.out];exact fl_size _ _ _⟩
 obtain⟨F,HF⟩:=ex_eq (FL .i64 256 f)
 obtain⟨R,HR⟩:=ex_eq (FL .i64 256 (thereR ζ 8 f))
 obtain⟨F0,HF0⟩:=ex_eq (FL .i64 256 (red f))
 have Fi:Away ((Tryz.prog.info? 109).map (·.size)=some F.size):=⟨by rw[←HF.out,fl_size];exact hsize⟩
 have Gi:Away ((Tryz.prog.info? 109).map (·.size)=some F0.size):=⟨by rw[←HF0.out,fl_size];exact hsize⟩
 have Go':Away (F0.all (·.oneCell')=true):=⟨by rw[←HF0.out];exact fl_one _ _ _⟩
 have Gz:Away (z.size=F0.size):=⟨by rw[Hzs.out,←HF0.out,fl_size]⟩
 have Ri:Away ((Tryz.prog.info? 109).map (·.size)=some R.size):=⟨by rw[←HR.out,fl_size];exact hsize⟩
 have Ro:Away (R.all (·.oneCell')=true):=⟨by rw[←HR.out];exact fl_one _ _ _⟩
 have Rz:Away (z.size=R.size):=⟨by rw[Hzs.out,←HR.out,fl_size]⟩
 have H:Away (∀ w1:World,Calls Tryz.prog 146 #[.agg F] w1 fun e w'=>e=.returned (.agg F0)∧Below w1.heap.size w1 w'):=⟨fun w1=>by
  have h:=nred.reduced_any f w1
  rw[HF.out,HF0.out]at h
  exact h⟩
 have HT:=Away.mk hT
 have Hred:=Away.mk fld1.reduce_any
 rw[HF.out,HR.out]
 clear HF HZ hsize hT
 go_enter Tryz.func95,Tryz.ntmps95
 go_wp2_with fail
 obtain⟨W,hW⟩:∃ x,((w.alloc (.cells T 34)).alloc (.cells F 109)).alloc (.cells z 109)=x:=⟨_,rfl⟩
 obtain⟨b0,b1,b2,hWs,hWb⟩:=three hW
 rw[hW]
 clear hW
 have B0:=Away.mk b0
 have B1:=Away.mk b1
 have B2:=Away.mk b2
 have HWb:=Away.mk hWb
 have HWs:=Away.mk hWs
 clear hWs hWb b0 b1 b2
 refine wp_load_row 109 _ rfl (w.heap.size+1) rfl 109 F (0,0) _ B1.out Tryz.underlying109 rfl Fi.out ?_
 go_wp2_with fail
 refine(H.out _).mono ?_
 rintro e w1 ⟨rfl,hb⟩
 have C0:Away (w1.heap[w.heap.size]? = some (.cells T 34 (0,0))):=⟨(hb.block _ (lt_of_row B0.out)).trans B0.out⟩
 have C2:Away (w1.heap[w.heap.size+2]? = some (.cells z 109 (0,0))):=⟨(hb.block _ (lt_of_row B2.out)).trans B2.out⟩
 have HB:Away (Below w.heap.size w w1):=⟨HWb.out.trans (hb.mono HWb.out.size)⟩
 have HW1:Away (w.heap.size+3≤w1.heap.size):=⟨by have:=hb.size;have:=HWs.out;omega⟩
 clear hb B0 B1 B2 HWb HWs
 go_wp2_with (refine wpList_store_new rfl 109 _ _ rfl _ rfl rfl Gi.out Gz.out Go'.out rfl ?_)
 obtain⟨V,hV⟩:∃ x,w1.alloc (.cells F0 109)=x:=⟨_,rfl⟩
 obtain⟨b0,hVs,hVb⟩:=one hV
 rw[hV]
 clear hV
 obtain⟨g,hg⟩:=ex_eq w1.heap.size
 rw[hg.out]at b0 hVb
 rw[hg.out]
 have D0:Away (V.heap[w.heap.size]? = some (.cells T 34 (0,0))):=⟨(hVb.block _ (by rw[←hg.out];exact lt_of_row C0.out)).trans C0.out⟩
 have D2:Away (V.heap[w.heap.size+2]? = some (.cells z 109 (0,0))):=⟨(hVb.block _ (by rw[←hg.out];exact lt_of_row C2.out)).trans C2.out⟩
 have HgV:Away (g<V.heap.size∧w.heap.size+3≤g):=⟨by have:=HW1.out;have:=hg.out;omega⟩
 have HVB:Away (Below w.heap.size w V):=⟨HB.out.trans (by rw[←hg.out]at hVb;exact hVb.mono HB.out.size)⟩
 have A0':Away (At g (FL .i64 256 (thereR ζ 0 f)) 109 V V):=⟨At.refl (by show V.heap[g]? = some (.cells (FL .i64 256 (red f)) 109 (0,0));rw[HF0.out];exact b0)⟩
 clear b0 hVs hVb hg C0 C2 HB HW1 hz
 go_loopw [12,6] (fun lv k wr=>∃ m:Nat,m≤8∧lv=.int .i64 (m:Int)∧k=.int .i64 ((2 ^ m-1:Nat):Int)∧Away (At g (FL .i64 256 (thereR ζ m f)) 109 V wr)) (fun lv _ _=>8-(intOf lv).toNat)
 case atStart=>exact⟨0,Nat.zero_le _,rfl,rfl,A0'⟩
 case round=>
  obtain⟨m,hm,rfl,rfl,A0⟩:=hrel
  by_cases hlt:m<8
  ·have hmz:(m:Int)<8:=by omega
   obtain⟨K,hK⟩:∃ K,2 ^ m=K:=⟨_,rfl⟩
   obtain⟨s,hs⟩:∃ s,2 ^ (7-m)=s:=⟨_,rfl⟩
   have h256:=(nttp.size_m m (by omega)).1
   rw[hK,hs]at h256
   have hp:=pows m hlt
   rw[hK,hs]at hp
   obtain⟨hp1,hp2,hp3,hp4,hp5⟩:=hp
   have Hp1:=Away.mk hp1
   have hnext:Away (∀ j,j<256→dn (ly ζ K s) s (thereR ζ m f) (K*s) j=thereR ζ (m+1) f j):=⟨fun j hj=>by
    rw[dn_all (ly ζ K s) K s (by omega) _ j (by omega),←hK,←hs]
    rfl⟩
   have hKn:Away (2 ^ (m+1)-1=K-1+K):=⟨by rw[Nat.pow_succ,hK];omega⟩
   have H256:=Away.mk h256
   obtain⟨h,hh⟩:=ex_eq (thereR ζ m f)
   have Hh:Away (∀ j,0≤h j∧h j<8380417):=⟨fun j=>by rw[←hh.out];exact thereR_red ζ m f j⟩
   rw[hh.out]at hnext A0
   rw[hK]
   have f1:(128:Int) / 2 ^ m=(s:Int):=hp2
   have f2:IntKind.i64.wrap ((2:Int) ^ m)=(K:Int):=hp3
   clear hp1 hp2 hp3 h256 hK hs hh
   have hK128:(K:Int)≤128:=by omega
   obtain⟨q,hq⟩:∃ q,K-1=q:=⟨_,rfl⟩
   have Hq:Away (q+1=K):=⟨by have:=Hp1.out;omega⟩
   rw[hq]at hKn
   rw[hq]
   clear hq hp4 hp5
   go_wp2_with fail
   rename World=>wo
   go_loopw [19,6] (fun j k wr=>∃ t:Nat,t≤K∧j=.int .i64 (t:Int)∧k=.int .i64 ((q+t:Nat):Int)∧Away (At g (FL .i64 256 (dn (ly ζ K s) s h (t*s))) 109 V wr)) (fun j _ _=>K-(intOf j).toNat)
   case atStart=>exact⟨0,Nat.zero_le _,rfl,rfl,⟨by rw[Nat.zero_mul,dn_zero];exact A0.out⟩⟩
   case round=>
    obtain⟨t,ht,rfl,rfl,A1⟩:=hrel
    by_cases hlt2:t<K
    ·have htz:(t:Int)<(K:Int):=by omega
     obtain⟨c,hc⟩:∃ c,q+t=c:=⟨_,rfl⟩
     obtain⟨k,hk⟩:∃ k,K+t=k:=⟨_,rfl⟩
     obtain⟨d,hd⟩:∃ d,2*s=d:=⟨_,rfl⟩
     obtain⟨b,hb⟩:∃ b,d*t=b:=⟨_,rfl⟩
     have h256:=H256.out
     rw[hd]at h256
     have hbd:b+d≤256:=by
      have h1:d*(t+1)≤d*K:=Nat.mul_le_mul_left _ hlt2
      rw[Nat.mul_succ,hb]at h1
      omega
     have hk256:Away (k<256):=⟨by omega⟩
     have hkz:(k:Int)<256:=by omega
     have hck:c+1=k:=by have:=Hq.out;omega
     have f3:IntKind.i64.wrap ((c:Int)+1)=(k:Int):=by rw[IntKind.wrap_i64];omega
     have f4:IntKind.i64.wrap (2*(s:Int))=(d:Int):=by rw[IntKind.wrap_i64];omega
     have hbz:(d:Int)*(t:Int)=(b:Int):=by rw[←hb];exact(Int.natCast_mul d t).symm
     have f5:IntKind.i64.wrap ((d:Int)*(t:Int))=(b:Int):=by rw[hbz,IntKind.wrap_i64];omega
     have E0:wr.heap[w.heap.size]? = some (.cells T 34 (0,0)):=A1.out.other (by have:=HgV.out;omega) (by have:=HgV.out;omega) D0.out
     obtain⟨x,hx⟩:=ex_eq (Z k)
     have cz:wr.cell? ⟨w.heap.size,209+k,none⟩=some (.int .i64 x):=by rw[←hx.out];exact cell_at E0 (HT.out.z k hk256.out)
     have Hx:Away (∀ w1:World,Calls Tryz.prog 112 #[.int .i64 x] w1 fun e w'=>e=.returned (.int .i64 (ζ k))∧w1=w'):=⟨fun w1=>by rw[←Hζ.out k,hx.out];exact(Hred.out x w1).mono fun _ _ h=>⟨h.1,h.2.symm⟩⟩
     have Hζb:Away (0 ≤ ζ k ∧ ζ k<8380417):=⟨by rw[←Hζ.out k];exact⟨Int.emod_nonneg _ (by decide),Int.emod_lt_of_pos _ (by decide)⟩⟩
     have Hsp:Away (∀ w1:World,w1.heap[g]? = some (.cells (FL .i64 256 (dn (ly ζ K s) s h (t*s))) 109 (0,0))→Calls Tryz.prog 147 #[.pointer (some ⟨g,0,none⟩),.int .i64 (b:Int),.int .i64 (s:Int),.int .i64 (ζ k)] w1 fun e w'=>e=.returned (.tuple #[])∧At g (FL .i64 256 (dn (ly ζ K s) s h ((t+1)*s))) 109 w1 w'):=⟨fun w1 hA=>nsplit.split_any (ly ζ K s) g s t b (ζ k) h w1 (by rw[hd];exact hb.symm) (by omega) Hζb.out Hh.out (fun r hr=>by rw[←hk];exact ly_pair ζ K hr h) hA⟩
     have Hck:=Away.mk hck
     have Hc:=Away.mk hc
     rw[hc]
     obtain⟨y,hy⟩:=ex_eq (ζ k)
     rw[hy.out]at Hx Hsp
     clear hc hck hk hd hb hbz h256 hbd E0 hx hy
     go_wp2_with fail
     refine(Hx.out _).mono ?_
     rintro e w3 ⟨rfl,rfl⟩
     go_wp2_with fail
     refine(Hsp.out _ A1.out.row).mono ?_
     rintro e w3 ⟨rfl,hA2⟩
     have A2:Away (At g (FL .i64 256 (dn (ly ζ K s) s h ((t+1)*s))) 109 V w3):=⟨A1.out.trans hA2⟩
     clear hA2 A1 cz
     go_wp2_with fail
     go_roundw
     case rel=>exact⟨t+1,by omega,by go_num,by rw[show q+(t+1)=k by have:=Hck.out;have:=Hc.out;omega],A2⟩
     case measure=>simp[intOf];omega
    ·obtain rfl:t=K:=by omega
     rw[show FL .i64 256 (dn (ly ζ t s) s h (t*s))=FL .i64 256 (thereR ζ (m+1) f) from fl_congr .i64 256 hnext.out]at A1
     go_wp2_with fail
     go_roundw
     case rel=>exact⟨m+1,by omega,by go_num,by rw[hKn.out],A1⟩
     case measure=>simp[intOf];omega
  ·obtain rfl:m=8:=by omega
   simp only[Int.cast_ofNat_Int]
   rw[HR.out]at A0
   have Hrow:=Away.mk A0.out.row
   have Hres:Away (wr.heap[w.heap.size+2]? = some (.cells z 109 (0,0))):=⟨A0.out.other (by have:=HgV.out;omega) (by have:=HgV.out;omega) D2.out⟩
   have HB:Away (Below w.heap.size w wr):=⟨HVB.out.trans (A0.out.below HVB.out.size (by have:=HgV.out;omega))⟩
   clear A0
   go_wp2_with (first
    | (refine wpList_load_row rfl 109 _ rfl g rfl 109 R (0,0) _ Hrow.out Tryz.underlying109 rfl Ri.out ?_)
    | (refine wpList_store_row rfl 109 _ _ rfl (w.heap.size+2) R rfl rfl 109 _ Hres.out Ri.out Rz.out Ro.out ?_))
   refine bodyPost_ret_by (v:=.agg R) (results_cell_row rfl _ _ (w.heap.size+2) 109 _ (0,0) _ rfl (setRow_heap _ _ _ _ _ _ Hres.out) Tryz.underlying109 rfl Ri.out) rfl ?_
   exact⟨rfl,HB.out.trans (below_setRow _ _ _ (by omega))⟩
end nthere
namespace nback
open Go Go.RowKit
open arr mem stil polys polt nttm nttp nttl nthere
theorem back_any (T:Array Value) (Z:Nat→Int) (f:Nat→Int) (w:World) (hT:ZT T Z):
 Calls Tryz.prog 97 #[.agg T,.agg (FL .i64 256 f)] w fun e w'=>e=.returned (.agg (FL .i64 256 (fun i=>(backR (fun k=>Z k%8380417) 8 f i*8347681)%8380417)))∧Below w.heap.size w w':=by
 obtain⟨ζ,hζ⟩:=ex_eq (fun k=>Z k%8380417)
 have Hζ : Away (∀ k,Z k%8380417 = ζ k):=⟨fun k=>by rw[←hζ.out]⟩
 rw[hζ.out]
 clear hζ
 obtain⟨hz,hsize⟩:=zero_of_info infoP
 obtain⟨z,HZ⟩:=ex_eq (FL .i64 256 fun _=>0)
 rw[HZ.out]at hz
 have Hzs:Away (z.size=256):=⟨by rw[←HZ.out];exact fl_size _ _ _⟩
 obtain⟨F,HF⟩:=ex_eq (FL .i64 256 f)
 obtain⟨R,HR⟩:=ex_eq (FL .i64 256 (fun i=>(backR ζ 8 f i*8347681)%8380417))
 obtain⟨F0,HF0⟩:=ex_eq (FL .i64 256 (red f))
 have Fi:Away ((Tryz.prog.info? 109).map (·.size)=some F.size):=⟨by rw[←HF.out,fl_size];exact hsize⟩
 have Gi:Away ((Tryz.prog.info? 109).map (·.size)=some F0.size):=⟨by rw[←HF0.out,fl_size];exact hsize⟩
 have Go':Away (F0.all (·.oneCell')=true):=⟨by rw[←HF0.out];exact fl_one _ _ _⟩
 have Gz:Away (z.size=F0.size):=⟨by rw[Hzs.out,←HF0.out,fl_size]⟩
 have Ri:Away ((Tryz.prog.info? 109).map (·.size)=some R.size):=⟨by rw[←HR.out,fl_size];exact hsize⟩
 have Ro:Away (R.all (·.oneCell')=true):=⟨by rw[←HR.out];exact fl_one _ _ _⟩
 have Rz:Away (z.size=R.size):=⟨by rw[Hzs.out,←HR.out,fl_size]⟩
 have H:Away (∀ w1:World,Calls Tryz.prog 146 #[.agg F] w1 fun e w'=>e=.returned (.agg F0)∧Below w1.heap.size w1 w'):=⟨fun w1=>by
  have h:=nred.reduced_any f w1
  rw[HF.out,HF0.out]at h
  exact h⟩
 have HT:=Away.mk hT
 have Hred:=Away.mk fld1.reduce_any
 rw[HF.out,HR.out]
 clear HF HZ hsize hT
 go_enter Tryz.func97,Tryz.ntmps97
 go_wp2_with fail
 obtain⟨W,hW⟩:∃ x,((w.alloc (.cells T 34)).alloc (.cells F 109)).alloc (.cells z 109)=x:=⟨_,rfl⟩
 obtain⟨b0,b1,b2,hWs,hWb⟩:=three hW
 rw[hW]
 clear hW
 have B0:=Away.mk b0
 have B1:=Away.mk b1
 have B2:=Away.mk b2
 have HWb:=Away.mk hWb
 have HWs:=Away.mk hWs
 clear hWs hWb b0 b1 b2
 refine wp_load_row 109 _ rfl (w.heap.size+1) rfl 109 F (0,0) _ B1.out Tryz.underlying109 rfl Fi.out ?_
 go_wp2_with fail
 refine(H.out _).mono ?_
 rintro e w1 ⟨rfl,hb⟩
 have C0:Away (w1.heap[w.heap.size]? = some (.cells T 34 (0,0))):=⟨(hb.block _ (lt_of_row B0.out)).trans B0.out⟩
 have C2:Away (w1.heap[w.heap.size+2]? = some (.cells z 109 (0,0))):=⟨(hb.block _ (lt_of_row B2.out)).trans B2.out⟩
 have HB:Away (Below w.heap.size w w1):=⟨HWb.out.trans (hb.mono HWb.out.size)⟩
 have HW1:Away (w.heap.size+3≤w1.heap.size):=⟨by have:=hb.size;have:=HWs.out;omega⟩
 clear hb B0 B1 B2 HWb HWs
 go_wp2_with (refine wpList_store_new rfl 109 _ _ rfl _ rfl rfl Gi.out Gz.out Go'.out rfl ?_)
 obtain⟨V,hV⟩:∃ x,w1.alloc (.cells F0 109)=x:=⟨_,rfl⟩
 obtain⟨b0,hVs,hVb⟩:=one hV
 rw[hV]
 clear hV
 obtain⟨g,hg⟩:=ex_eq w1.heap.size
 rw[hg.out]at b0 hVb
 rw[hg.out]
 have D0:Away (V.heap[w.heap.size]? = some (.cells T 34 (0,0))):=⟨(hVb.block _ (by rw[←hg.out];exact lt_of_row C0.out)).trans C0.out⟩
 have D2:Away (V.heap[w.heap.size+2]? = some (.cells z 109 (0,0))):=⟨(hVb.block _ (by rw[←hg.out];exact lt_of_row C2.out)).trans C2.out⟩
 have HgV:Away (g<V.heap.size∧w.heap.size+3≤g):=⟨by have:=HW1.out;have:=hg.out;omega⟩
 have HVB:Away (Below w.heap.size w V):=⟨HB.out.trans (by rw[←hg.out]at hVb;exact hVb.mono HB.out.size)⟩
 have A0':Away (At g (FL .i64 256 (backR ζ 0 f)) 109 V V):=⟨At.refl (by show V.heap[g]? = some (.cells (FL .i64 256 (red f)) 109 (0,0));rw[HF0.out];exact b0)⟩
 clear b0 hVs hVb hg C0 C2 HB HW1 hz
 go_loopw [12,6] (fun lv k wr=>∃ m:Nat,m≤8∧lv=.int .i64 (m:Int)∧k=.int .i64 ((2 ^ (8-m):Nat):Int)∧Away (At g (FL .i64 256 (backR ζ m f)) 109 V wr)) (fun lv _ _=>8-(intOf lv).toNat)
 case atStart=>exact⟨0,Nat.zero_le _,rfl,rfl,A0'⟩
 case round=>
  obtain⟨m,hm,rfl,rfl,A0⟩:=hrel
  by_cases hlt:m<8
  ·have hmz:(m:Int)<8:=by omega
   obtain⟨K,hK⟩:∃ K,2 ^ (7-m)=K:=⟨_,rfl⟩
   obtain⟨s,hs⟩:∃ s,2 ^ m=s:=⟨_,rfl⟩
   have h256:=(nttp.size_m m (by omega)).2
   rw[hK,hs]at h256
   have hp:=pows m hlt
   rw[hK,hs]at hp
   obtain⟨hp1,hp2,hp3,hp4,hp5⟩:=hp
   have Hp1:=Away.mk hp1
   have hnext:Away (∀ j,j<256→dn (bk ζ K s) s (backR ζ m f) (K*s) j=backR ζ (m+1) f j):=⟨fun j hj=>by
    rw[dn_all (bk ζ K s) K s (by omega) _ j (by omega),←hK,←hs]
    rfl⟩
   have hKn:Away (2 ^ (8-(m+1))=K):=⟨by rw[show 8-(m+1)=7-m by omega,hK]⟩
   have hK2 : 2 ^ (8-m)=2*K:=by rw[←hK,show 8-m=7-m+1 by omega,Nat.pow_succ,Nat.mul_comm]
   have H256:=Away.mk h256
   obtain⟨h,hh⟩:=ex_eq (backR ζ m f)
   have Hh:Away (∀ j,0≤h j∧h j<8380417):=⟨fun j=>by rw[←hh.out];exact backR_red ζ m f j⟩
   rw[hh.out]at hnext A0
   rw[hK2]
   have f1:(128:Int) / 2 ^ m=(K:Int):=hp2
   have f2:IntKind.i64.wrap ((2:Int) ^ m)=(s:Int):=hp3
   have hK128:(K:Int)≤128:=by
    have h1 : 1*K≤s*K:=Nat.mul_le_mul_right _ hp1
    rw[Nat.mul_assoc]at h256
    omega
   clear hp1 hp2 hp3 h256 hK hs hh hK2
   have hs128:(s:Int)≤128:=by omega
   obtain⟨q,hq⟩:∃ q,2*K=q:=⟨_,rfl⟩
   have Hq:Away (2*K=q):=⟨hq⟩
   rw[hq]
   clear hq hp4 hp5
   go_wp2_with fail
   rename World=>wo
   go_loopw [19,6] (fun j k wr=>∃ t:Nat,t≤K∧j=.int .i64 (t:Int)∧k=.int .i64 ((q-t:Nat):Int)∧Away (At g (FL .i64 256 (dn (bk ζ K s) s h (t*s))) 109 V wr)) (fun j _ _=>K-(intOf j).toNat)
   case atStart=>exact⟨0,Nat.zero_le _,rfl,rfl,⟨by rw[Nat.zero_mul,dn_zero];exact A0.out⟩⟩
   case round=>
    obtain⟨t,ht,rfl,rfl,A1⟩:=hrel
    by_cases hlt2:t<K
    ·have hqq:=Hq.out
     have htz:(t:Int)<(K:Int):=by omega
     obtain⟨c,hc⟩:∃ c,q-t=c:=⟨_,rfl⟩
     obtain⟨k,hk⟩:∃ k,2*K-1-t=k:=⟨_,rfl⟩
     obtain⟨d,hd⟩:∃ d,2*s=d:=⟨_,rfl⟩
     obtain⟨b,hb⟩:∃ b,d*t=b:=⟨_,rfl⟩
     have h256:=H256.out
     rw[hd]at h256
     have hbd:b+d≤256:=by
      have h1:d*(t+1)≤d*K:=Nat.mul_le_mul_left _ hlt2
      rw[Nat.mul_succ,hb]at h1
      omega
     have hk256:Away (k<256):=⟨by omega⟩
     have hkz:(k:Int)<256:=by omega
     have hck:k+1=c:=by have:=Hq.out;omega
     have f3:IntKind.i64.wrap ((c:Int)-1)=(k:Int):=by rw[IntKind.wrap_i64];omega
     have f4:IntKind.i64.wrap (2*(s:Int))=(d:Int):=by rw[IntKind.wrap_i64];omega
     have hbz:(d:Int)*(t:Int)=(b:Int):=by rw[←hb];exact(Int.natCast_mul d t).symm
     have f5:IntKind.i64.wrap ((d:Int)*(t:Int))=(b:Int):=by rw[hbz,IntKind.wrap_i64];omega
     have E0:wr.heap[w.heap.size]? = some (.cells T 34 (0,0)):=A1.out.other (by have:=HgV.out;omega) (by have:=HgV.out;omega) D0.out
     obtain⟨x,hx⟩:=ex_eq (Z k)
     have cz:wr.cell? ⟨w.heap.size,209+k,none⟩=some (.int .i64 x):=by rw[←hx.out];exact cell_at E0 (HT.out.z k hk256.out)
     have Hx:Away (∀ w1:World,Calls Tryz.prog 112 #[.int .i64 x] w1 fun e w'=>e=.returned (.int .i64 (ζ k))∧w1=w'):=⟨fun w1=>by rw[←Hζ.out k,hx.out];exact(Hred.out x w1).mono fun _ _ h=>⟨h.1,h.2.symm⟩⟩
     have Hζb:Away (0 ≤ ζ k ∧ ζ k<8380417):=⟨by rw[←Hζ.out k];exact⟨Int.emod_nonneg _ (by decide),Int.emod_lt_of_pos _ (by decide)⟩⟩
     have Hsp:Away (∀ w1:World,w1.heap[g]? = some (.cells (FL .i64 256 (dn (bk ζ K s) s h (t*s))) 109 (0,0))→Calls Tryz.prog 148 #[.pointer (some ⟨g,0,none⟩),.int .i64 (b:Int),.int .i64 (s:Int),.int .i64 (ζ k)] w1 fun e w'=>e=.returned (.tuple #[])∧At g (FL .i64 256 (dn (bk ζ K s) s h ((t+1)*s))) 109 w1 w'):=⟨fun w1 hA=>njoin.join_any (bk ζ K s) g s t b (ζ k) h w1 (by rw[hd];exact hb.symm) (by omega) Hζb.out Hh.out (fun r hr=>by rw[←hk];exact bk_pair ζ K hr h) hA⟩
     have Hck:=Away.mk hck
     have Hc:=Away.mk hc
     rw[hc]
     obtain⟨y,hy⟩:=ex_eq (ζ k)
     rw[hy.out]at Hx Hsp
     clear hc hck hk hd hb hbz h256 hbd E0 hx hy hqq
     go_wp2_with fail
     refine(Hx.out _).mono ?_
     rintro e w3 ⟨rfl,rfl⟩
     go_wp2_with fail
     refine(Hsp.out _ A1.out.row).mono ?_
     rintro e w3 ⟨rfl,hA2⟩
     have A2:Away (At g (FL .i64 256 (dn (bk ζ K s) s h ((t+1)*s))) 109 V w3):=⟨A1.out.trans hA2⟩
     clear hA2 A1 cz
     go_wp2_with fail
     go_roundw
     case rel=>exact⟨t+1,by omega,by go_num,by rw[show q-(t+1)=k by have:=Hck.out;have:=Hc.out;omega],A2⟩
     case measure=>simp[intOf];omega
    ·obtain rfl:t=K:=by omega
     rw[show FL .i64 256 (dn (bk ζ t s) s h (t*s))=FL .i64 256 (backR ζ (m+1) f) from fl_congr .i64 256 hnext.out]at A1
     go_wp2_with fail
     go_roundw
     case rel=>exact⟨m+1,by omega,by go_num,by rw[hKn.out,show q-t=t by have:=Hq.out;omega],A1⟩
     case measure=>simp[intOf];omega
  ·obtain rfl:m=8:=by omega
   simp only[Int.cast_ofNat_Int]
   obtain⟨C,hC⟩:=ex_eq (FL .i64 256 (backR ζ 8 f))
   rw[hC.out]at A0
   have Ci:Away ((Tryz.prog.info? 109).map (·.size)=some C.size):=⟨by rw[←hC.out,fl_size];have h1:=Ri.out;rw[←HR.out,fl_size]at h1;exact h1⟩
   have Hsc:Away (∀ w1:World,Calls Tryz.prog 149 #[.agg C,.int .i64 8347681] w1 fun e w'=>e=.returned (.agg R)∧Below w1.heap.size w1 w'):=⟨fun w1=>by
    have h:=fscale.scale_any (backR ζ 8 f) 8347681 w1
    rw[hC.out,HR.out]at h
    exact h⟩
   have Hrow:=Away.mk A0.out.row
   have Hres:Away (wr.heap[w.heap.size+2]? = some (.cells z 109 (0,0))):=⟨A0.out.other (by have:=HgV.out;omega) (by have:=HgV.out;omega) D2.out⟩
   have HB:Away (Below w.heap.size w wr):=⟨HVB.out.trans (A0.out.below HVB.out.size (by have:=HgV.out;omega))⟩
   clear A0 hC
   go_wp2_with fail
   refine wp_load_row 109 _ rfl g rfl 109 C (0,0) _ Hrow.out Tryz.underlying109 rfl Ci.out ?_
   go_wp2_with fail
   refine(Hsc.out _).mono ?_
   rintro e w5 ⟨rfl,hb5⟩
   have Hres5:Away (w5.heap[w.heap.size+2]? = some (.cells z 109 (0,0))):=⟨(hb5.block _ (lt_of_row Hres.out)).trans Hres.out⟩
   have HB5:Away (Below w.heap.size w w5):=⟨HB.out.trans (hb5.mono HB.out.size)⟩
   clear hb5 Hres Hrow HB
   go_wp2_with (refine wpList_store_row rfl 109 _ _ rfl (w.heap.size+2) R rfl rfl 109 _ Hres5.out Ri.out Rz.out Ro.out ?_)
   refine bodyPost_ret_by (v:=.agg R) (results_cell_row rfl _ _ (w.heap.size+2) 109 _ (0,0) _ rfl (setRow_heap _ _ _ _ _ _ Hres5.out) Tryz.underlying109 rfl Ri.out) rfl ?_
   exact⟨rfl,HB5.out.trans (below_setRow _ _ _ (by omega))⟩
end nback
end Go.Proofs.YtgahcabgmfbhdaaGreatDoor
