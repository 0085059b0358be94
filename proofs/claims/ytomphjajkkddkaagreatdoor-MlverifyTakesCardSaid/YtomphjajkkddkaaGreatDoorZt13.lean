/-
  What package bits' load returns: 256 numbers of a fixed width out of bytes. Conditions: the width is
-/
import Derived.Test.YtomphjajkkddkaaGreatDoorZt02
import Derived.Test.YtomphjajkkddkaaGreatDoorZt10
import Derived.Test.YtomphjajkkddkaaGreatDoorZt09
import Derived.Test.YtomphjajkkddkaaGreatDoorZt12
import Derived.Test.YtomphjajkkddkaaGreatDoorZt11
import Derived.Test.YtomphjajkkddkaaGreatDoorZt03
import Derived.Lib.QuietBelow
import Derived.StillTailTactics
set_option maxRecDepth 100000
set_option maxHeartbeats 16000000
namespace Go.Proofs.YtomphjajkkddkaaGreatDoor
namespace pload
open Go Go.RowKit
open arr mem stil bitm bitn polys rbitb rbitc rbitd rbitf
theorem and_mask (h wd k:Nat) (hh:h<4294967296) (hk : 2 ^ wd-1=k) (hk2:k<4294967296):bits .and .i64 (h:Int) (k:Int)=((h%2 ^ wd:Nat):Int):=by
 have h0:h%2 ^ wd≤h:=Nat.mod_le _ _
 show IntKind.i64.wrap ((BitVec.ofInt 64 (h:Int) &&& BitVec.ofInt 64 (k:Int)).toNat:Int)=_
 rw[BitVec.ofInt_natCast,BitVec.ofInt_natCast,BitVec.toNat_and,BitVec.toNat_ofNat,BitVec.toNat_ofNat,Nat.mod_eq_of_lt (by omega),Nat.mod_eq_of_lt (by omega),←hk,Nat.and_two_pow_sub_one_eq_mod,IntKind.wrap_i64]
 omega
theorem load_any (s:ByteArray) (wd:Nat) (w:World) (hw0 : 1≤wd) (hw:wd≤23) (hs:s.size=32*wd):
 Calls Tryz.prog 130 #[.string s,.int .i64 (wd:Int)] w fun e w'=>e=.returned (.agg (FL .i64 256 (up s wd)))∧Below w.heap.size w w':=by
 unfold up
 obtain⟨hz,hsize⟩:=zero_of_info infoP
 obtain⟨z,HZ⟩:=ex_eq (FL .i64 256 fun _=>0)
 rw[HZ.out]at hz
 have Hzs:Away (z.size=256):=⟨by rw[←HZ.out];exact fl_size _ _ _⟩
 obtain⟨N,HN⟩:=ex_eq (pk 8 (bys s))
 rw[HN.out]
 obtain⟨R,HR⟩:=ex_eq (FL .i64 256 fun i=>((bt N wd i wd:Nat):Int))
 have Ri:Away ((Tryz.prog.info? 76).map (·.size)=some R.size):=⟨by rw[←HR.out,fl_size];exact hsize⟩
 have Ro:Away (R.all (·.oneCell')=true):=⟨by rw[←HR.out];exact fl_one _ _ _⟩
 have Rz:Away (z.size=R.size):=⟨by rw[Hzs.out,←HR.out,fl_size]⟩
 rw[HR.out]
 obtain⟨W,hW⟩:∃ x,(w.alloc (.cells z 76)).alloc (.cells z 76)=x:=⟨_,rfl⟩
 have HW:=Away.mk hW
 have hWs:W.heap.size=w.heap.size+2:=by rw[←hW,size_alloc,size_alloc]
 have BW:Away (Below w.heap.size w W):=⟨by rw[←hW];exact((Below.refl _ _).alloc (Nat.le_refl _) _).alloc (by rw[size_alloc];omega) _⟩
 have R0:Away (W.heap[w.heap.size]? = some (.cells z 76 (0,0))):=⟨by rw[←hW,heap_past _ _ _ (by rw[size_alloc];omega)];exact heap_at _ _ _ rfl⟩
 have R1:Away (W.heap[w.heap.size+1]? = some (.cells (FL .i64 256 (pt (fun i=>((bt N wd i wd:Nat):Int)) (fun _=>0) 0)) 76 (0,0))):=⟨by rw[←hW,pt_zero,HZ.out];exact heap_at _ _ _ (by rw[size_alloc])⟩
 have Hby:Away (∀ a,a<32*wd→(bys s).getD a 0=N / 2 ^ (8*a)%2 ^ 8):=⟨fun a ha=>by
  rw[←HN.out,pk_at 8 (bys s) (bys_lt s) a (by rw[bys_length];omega),List.getD_eq_getElem?_getD,List.getElem?_eq_getElem (by rw[bys_length];omega)];rfl⟩
 have pw:=pow_small wd 23 hw
 obtain⟨q,hq⟩:∃ q,2 ^ wd=q:=⟨_,rfl⟩
 have hq0 : 0<q:=by rw[←hq];exact Nat.two_pow_pos _
 rw[hq]at pw
 obtain⟨q1,hq1⟩:∃ q1,q-1=q1:=⟨_,rfl⟩
 have Hq:=Away.mk hq
 have Hq1:Away (2 ^ wd-1=q1):=⟨by rw[hq,hq1]⟩
 have fq:(2:Int) ^ wd=(q:Int):=by rw[←hq,Int.natCast_pow];rfl
 have fqw:IntKind.i64.wrap ((2:Int) ^ wd)=(q:Int):=by rw[fq,IntKind.wrap_i64];omega
 have fqw2:IntKind.i64.wrap (1*(2:Int) ^ wd)=(q:Int):=by rw[Int.one_mul];exact fqw
 have fq1:IntKind.i64.wrap ((q:Int)-1)=(q1:Int):=by rw[IntKind.wrap_i64];omega
 have Hq1b:Away (q1<8388608):=⟨by omega⟩
 have Hfq:=Away.mk fq
 clear hW hsize hq hq1 pw hq0 fq
 go_enter Tryz.func130,Tryz.ntmps130
 go_wp2_with (rw[HW.out])
 clear hz
 go_loopw [6,7,8,10] (fun v k c d wr=>∃ i a h j:Nat,i≤256∧wd*i≤8*a∧a≤32*wd∧N%2 ^ (8*a) / 2 ^ (wd*i)=h∧j+wd*i=8*a∧j<8∧v=.int .i64 (h:Int)∧k=.int .i64 (j:Int)∧c=.int .i64 (a:Int)∧d=.int .i64 (i:Int)∧Away (At (w.heap.size+1) (FL .i64 256 (pt (fun i=>((bt N wd i wd:Nat):Int)) (fun _=>0) i)) 76 W wr)) (fun _ _ _ d _=>256-(intOf d).toNat)
 case atStart=>exact⟨0,0,0,0,Nat.zero_le _,by omega,by omega,by simp[Nat.mod_one],by omega,by omega,rfl,rfl,rfl,rfl,⟨At.refl R1.out⟩⟩
 case round=>
  obtain⟨i,a,h,j,hi,hb1,ha,hh,hj,hj8,rfl,rfl,rfl,rfl,A0⟩:=hrel
  by_cases hlt:i<256
  ·have hiz:(i:Int)<256:=by omega
   obtain⟨m,hm⟩:∃ m,wd*i=m:=⟨_,rfl⟩
   have hmM:m+wd≤256*wd:=by
    have h1:wd*(i+1)≤wd*256:=Nat.mul_le_mul_left _ hlt
    rw[Nat.mul_succ]at h1
    omega
   rw[hm]at hb1 hh hj
   have Hm:=Away.mk (And.intro hm hmM)
   have hjb:j<wd+8:=by omega
   clear hm hmM hj8
   go_wp2_with fail
   go_loopw [6,7,8] (fun v k c wr=>∃ a h j:Nat,m≤8*a∧a≤32*wd∧N%2 ^ (8*a) / 2 ^ m=h∧j+m=8*a∧j<wd+8∧v=.int .i64 (h:Int)∧k=.int .i64 (j:Int)∧c=.int .i64 (a:Int)∧Away (At (w.heap.size+1) (FL .i64 256 (pt (fun i=>((bt N wd i wd:Nat):Int)) (fun _=>0) i)) 76 W wr)) (fun _ k _ _=>wd+8-(intOf k).toNat)
   case atStart=>exact⟨a,h,j,hb1,ha,hh,hj,hjb,rfl,rfl,rfl,A0⟩
   case round=>
    clear A0 hb1 ha hh hj hjb
    obtain⟨a,h,j,hb1,ha,hh,hj,hjb,rfl,rfl,rfl,A0⟩:=hrel
    have hhl:h<2 ^ j:=by rw[←hh,show j=8*a-m by omega];exact held_lt N (8*a) m hb1
    have p31:=pow_small j 31 (by omega)
    have hh31:h<4294967296:=by omega
    by_cases hlt2:j<wd
    ·have hjz:(j:Int)<(wd:Int):=by omega
     have haM:a<32*wd:=by have:=Hm.out.2;omega
     obtain⟨β,hβ⟩:∃ β,(bys s).getD a 0 = β := ⟨_,rfl⟩
     have hβN:=Hby.out a haM
     rw[hβ]at hβN
     have hβ8 : β < 256:=by rw[hβN];exact Nat.mod_lt _ (by decide)
     have hidx:=byte_of s a β (by omega) hβ
     obtain⟨d,hd⟩:∃ d,β * 2 ^ j=d:=⟨_,rfl⟩
     have hor:=or_next N (8*a) m 8 hb1
     rw[hh,←hβN,show 8*a-m=j by omega,hd]at hor
     obtain⟨h',hh'⟩:∃ h',N%2 ^ (8*a+8) / 2 ^ m=h':=⟨_,rfl⟩
     rw[hh']at hor
     have p22:=pow_small j 22 (by omega)
     have hd31:d<4294967296:=by
      rw[←hd]
      have h1 : β * 2 ^ j≤255*2 ^ j:=Nat.mul_le_mul_right _ (by omega)
      omega
     have fd:(β : Int)*2 ^ j=(d:Int):=by rw[←hd,Int.natCast_mul,Int.natCast_pow];rfl
     have fdw:IntKind.i64.wrap ((β : Int)*2 ^ j)=(d:Int):=by rw[fd,IntKind.wrap_i64];omega
     have V:=or_i64 h d (by omega) (by omega)
     rw[hor]at V
     have Hh':Away (N%2 ^ (8*(a+1)) / 2 ^ m=h'):=⟨by rw[Nat.mul_succ];exact hh'⟩
     have hj64:j<64:=by omega
     have fj8:IntKind.i64.wrap ((j:Int)+8)=((j+8:Nat):Int):=by rw[IntKind.wrap_i64];omega
     clear hβ hβN hd hor hh' hhl p31 p22 fd hh hh31 hd31
     go_wp2_with fail
     go_roundw
     case rel=>exact⟨a+1,h',j+8,by omega,by omega,Hh'.out,by omega,by omega,by go_num,by go_num,by go_num,A0⟩
     case measure=>simp[intOf];omega
    ·have hjz:¬ (j:Int)<(wd:Int):=by omega
     obtain⟨u,hu⟩:∃ u,h%2 ^ wd=u:=⟨_,rfl⟩
     have V:=and_mask h wd q1 hh31 Hq1.out (by have:=Hq1b.out;omega)
     rw[hu]at V
     have Hu:Away ((u:Int)=((bt N wd i wd:Nat):Int)):=⟨by
      have e:=mod_div_mod N (8*a) m wd (by omega)
      unfold bt
      rw[Hm.out.1,←e,hh,hu]⟩
     obtain⟨h2,hh2⟩:∃ h2,h / 2 ^ wd=h2:=⟨_,rfl⟩
     have Hh2:Away (N%2 ^ (8*a) / 2 ^ (wd*(i+1))=h2):=⟨by rw[Nat.mul_succ,Hm.out.1,Nat.pow_add,←Nat.div_div_eq_div_mul,hh,hh2]⟩
     have fh2:(h:Int) / 2 ^ wd=(h2:Int):=by rw[←hh2];simp
     have fh3:(h:Int) / (q:Int)=(h2:Int):=by rw[←Hfq.out];exact fh2
     have fjw:IntKind.i64.wrap ((j:Int)-(wd:Int))=((j-wd:Nat):Int):=by rw[IntKind.wrap_i64];omega
     have hwd64:wd<64:=by omega
     clear hu hh2 hh hhl p31
     go_wp2_with ((with_reducible refine wpList_put2 A0 rfl _ _ _ rfl rfl ?_);refine⟨_,_,_,rfl,rfl,rfl,(by rw[fl_size];exact hlt),?_⟩;intro wn HRn;rw[fl_set,pt_upd (fun i=>((bt N wd i wd:Nat):Int)) _ _ _ Hu.out]at HRn)
     go_roundw
     case rel=>exact⟨i+1,a,h2,j-wd,by omega,by rw[Nat.mul_succ,Hm.out.1];omega,ha,Hh2.out,by rw[Nat.mul_succ,Hm.out.1];omega,by omega,by go_num,by go_num,rfl,by go_num,HRn⟩
     case measure=>simp[intOf];omega
  ·obtain rfl:i=256:=by omega
   simp only[Int.cast_ofNat_Int]
   rw[fl_all,HR.out]at A0
   have Hrow:=Away.mk A0.out.row
   have Hres:Away (wr.heap[w.heap.size]? = some (.cells z 76 (0,0))):=⟨A0.out.other (by omega) (by omega) R0.out⟩
   have HB:Away (Below w.heap.size w wr):=⟨BW.out.trans (A0.out.below (by omega) (by omega))⟩
   clear A0 hh
   go_wp2_with (first
    | (refine wpList_load_row rfl 76 _ rfl (w.heap.size+1) rfl 76 R (0,0) _ Hrow.out Tryz.underlying76 rfl Ri.out ?_)
    | (refine wpList_store_row rfl 76 _ _ rfl w.heap.size R rfl rfl 76 _ Hres.out Ri.out Rz.out Ro.out ?_))
   refine bodyPost_ret_by (v:=.agg R) (results_cell_row rfl _ _ w.heap.size 76 _ (0,0) _ rfl (setRow_heap _ _ _ _ _ _ Hres.out) Tryz.underlying76 rfl Ri.out) rfl ?_
   exact⟨rfl,HB.out.trans (below_setRow _ _ _ (Nat.le_refl _))⟩
end pload
namespace punp
open Go Go.RowKit
open arr mem stil bitm polys fldm rbita rbitb rbitc rbitd rbite rbitf
theorem unpack_any (s:ByteArray) (most:Int) (w:World) (h1 : 1≤most) (h2:most<8380417) (hs:s.size=32*lb most.toNat):
 Calls Tryz.prog 75 #[.string s,.int .i64 most] w fun e w'=>e=.returned (if inb (up s (lb most.toNat)) most then .tuple #[.agg (FL .i64 256 (up s (lb most.toNat))),.int .i64 0] else .tuple #[.agg (FL .i64 256 fun _=>0),.int .i64 3])∧Below w.heap.size w w':=by
 obtain⟨hz,hsize⟩:=zero_of_info infoP
 have HM:∀ w1:World,Calls Tryz.prog 128 #[.int .i64 most] w1 fun e w'=>e=.returned (.bool true)∧w'=w1:=fun w1=>by
  have h:=psmall.most_any most w1
  rw[decide_eq_true ⟨h1,h2⟩]at h
  exact h
 have hl:=Away.mk (fun w1=>plong.long_any most (by omega) w1)
 have hl1:=bitp.lb_pos most h1 h2
 have hl23:=lb_small most (by omega)
 obtain⟨wd,hwd⟩:∃ x,lb most.toNat=x:=⟨_,rfl⟩
 rw[hwd]at hs hl hl1 hl23 ⊢
 have HN:=Away.mk (fun w1=>pload.load_any s wd w1 hl1 hl23 hs)
 have HS:=Away.mk (fun w1=>psmall.size_any wd (by omega) w1)
 obtain⟨f,Hf⟩:=ex_eq (up s wd)
 rw[Hf.out]at HN
 rw[Hf.out]
 have Hpos:Away (∀ i,0≤f i):=⟨fun i=>by rw[←Hf.out];exact Int.natCast_nonneg _⟩
 have Hidx:Away (∀ i:Nat,i<256→∀ w1,(Instr.index 76 (.agg (FL .i64 256 f)) (.int .i64 (i:Int))).run Tryz.prog w1=.ok (.int .i64 (f i)) w1):=⟨fun i hi w1=>index_row (P:=Tryz.prog) Tryz.underlying76 (by kernel_rfl) (by kernel_rfl) (by kernel_rfl) _ _ i hi (fl_get .i64 256 f i hi) w1⟩
 obtain⟨z,HZ⟩:=ex_eq (FL .i64 256 fun _=>0)
 rw[HZ.out]at hz ⊢
 have Hzs:Away (z.size=256):=⟨by rw[←HZ.out];exact fl_size _ _ _⟩
 have Zi:Away ((Tryz.prog.info? 76).map (·.size)=some z.size):=⟨by rw[Hzs.out];exact hsize⟩
 have Zo:Away (z.all (·.oneCell')=true):=⟨by rw[←HZ.out];exact fl_one _ _ _⟩
 have Gs:Away ((FL .i64 256 f).size=256):=⟨fl_size _ _ _⟩
 have Go:Away ((FL .i64 256 f).all (·.oneCell')=true):=⟨fl_one _ _ _⟩
 obtain⟨G,HG⟩:=ex_eq (FL .i64 256 f)
 rw[HG.out]at HN Hidx Gs Go ⊢
 have Gi:Away ((Tryz.prog.info? 76).map (·.size)=some G.size):=⟨by rw[Gs.out];exact hsize⟩
 obtain⟨V,HV⟩:=ex_eq (if inb f most then Value.tuple #[.agg G,.int .i64 0] else .tuple #[.agg z,.int .i64 3])
 rw[HV.out]
 obtain⟨W,hW⟩:∃ x,w.alloc (.cells z 76)=x:=⟨_,rfl⟩
 have HW:=Away.mk hW
 have BW:Away (Below w.heap.size w W):=⟨by rw[←hW];exact below_alloc _ _⟩
 have hrow:Away (W.heap[w.heap.size]? = some (.cells z 76 (0,0))):=⟨by rw[←hW];exact heap_at _ _ _ rfl⟩
 have hWs:Away (W.heap.size=w.heap.size+1):=⟨by rw[←hW,size_alloc]⟩
 obtain⟨n,hn⟩:∃ n,32*wd=n:=⟨_,rfl⟩
 rw[hn]at HS
 have fne:((s.size:Int) != (n:Int))=false:=by rw[show (s.size:Int)=(n:Int) by omega];simp
 clear hW hsize hwd hs hn Hf HZ HG h1 h2 hl1
 go_enter Tryz.func75,Tryz.ntmps75
 go_wp2_with (rw[HW.out])
 refine(HM _).mono ?_
 rintro e W ⟨rfl,rfl⟩
 go_wp2_with fail
 refine(hl.out _).mono ?_
 rintro e W ⟨rfl,rfl⟩
 go_wp2_with fail
 refine(HS.out _).mono ?_
 rintro e W ⟨rfl,rfl⟩
 go_wp2_with fail
 refine(hl.out _).mono ?_
 rintro e W ⟨rfl,rfl⟩
 go_wp2_with fail
 refine(HN.out _).mono ?_
 rintro e w2 ⟨rfl,hb2⟩
 have hrow2:Away (w2.heap[w.heap.size]? = some (.cells z 76 (0,0))):=⟨(hb2.block w.heap.size (by rw[hWs.out];omega)).trans hrow.out⟩
 have B2:Away (Below w.heap.size w w2):=⟨BW.out.trans (hb2.mono (by rw[hWs.out];omega))⟩
 have hlt2:w.heap.size<w2.heap.size:=by have:=hb2.size;rw[hWs.out]at this;omega
 obtain⟨W3,hW3⟩:∃ x,w2.alloc (.cells G 76)=x:=⟨_,rfl⟩
 have HW3:=Away.mk hW3
 have r3:Away (W3.heap[w2.heap.size]? = some (.cells G 76 (0,0))):=⟨by rw[←hW3];exact heap_at _ _ _ rfl⟩
 have r0:Away (W3.heap[w.heap.size]? = some (.cells z 76 (0,0))):=⟨by rw[←hW3,heap_past _ _ _ hlt2];exact hrow2.out⟩
 have B3:Away (Below w.heap.size w W3):=⟨by rw[←hW3];exact B2.out.alloc (by omega) _⟩
 clear hb2 hW3 hlt2
 go_wp2_with (first
  | ((with_reducible refine wpList_store_new rfl 76 _ _ rfl G ?hx ?hy ?hi ?ho ?h1 ?hn ?_);(case hx=>rfl);(case hy=>rfl);(case hi=>exact Gi.out);(case ho=>rw[Hzs.out,Gs.out]);(case h1=>exact Go.out);(case hn=>rfl);rw[HW3.out])
  | (refine wpList_load_row rfl 76 _ rfl w2.heap.size rfl 76 G (0,0) _ r3.out Tryz.underlying76 rfl Gi.out ?_))
 go_loopw [26] (fun c wr=>∃ j:Nat,j≤256∧c=.int .i64 (j:Int)∧Away (∀ i,i<j→f i≤most)∧W3=wr) (fun c _=>256-(intOf c).toNat)
 case atStart=>exact⟨0,Nat.zero_le _,rfl,⟨fun i hi=>by omega⟩,rfl⟩
 case round=>
  obtain⟨j,hj,rfl,Hin,rfl⟩:=hrel
  by_cases hlt:j<256
  ·have hjz:(j:Int)<256:=by omega
   have hidx:=Hidx.out j hlt
   obtain⟨x,hx⟩:∃ x,f j=x:=⟨_,rfl⟩
   rw[hx]at hidx
   by_cases hbad:most<x
   ·have hV:Away (V=.tuple #[.agg z,.int .i64 3]):=⟨by rw[←HV.out,if_neg];intro hall;have:=hall j hlt;rw[hx]at this;omega⟩
    clear hx
    go_wp2_with (refine wpList_store_row rfl 76 _ _ rfl w.heap.size z rfl rfl 76 _ r0.out Zi.out rfl Zo.out ?_)
    refine bodyPost_ret_by (v:=.tuple #[.agg z,.int .i64 3]) (rbite.results_cell_tmp rfl _ _ w.heap.size 76 _ (0,0) _ rfl (setRow_heap _ _ _ _ _ _ r0.out) Tryz.underlying76 rfl Zi.out _ rfl) rfl ?_
    exact⟨by rw[hV.out],B3.out.trans (below_setRow _ _ _ (Nat.le_refl _))⟩
   ·have Hin2:Away (∀ i,i<j+1→f i≤most):=⟨fun i hi=>by
     by_cases e:i=j
     ·subst e;rw[hx];omega
     ·exact Hin.out i (by omega)⟩
    clear hx
    go_wp2_with fail
    go_roundw
    case rel=>exact⟨j+1,by omega,by go_num,Hin2,trivial⟩
    case measure=>simp[intOf];omega
  ·obtain rfl:j=256:=by omega
   simp only[Int.cast_ofNat_Int]
   have hV:Away (V=.tuple #[.agg G,.int .i64 0]):=⟨by rw[←HV.out,if_pos];exact fun i hi=>⟨Hpos.out i,Hin.out i hi⟩⟩
   clear hj hlt
   go_wp2_with (first
    | (refine wpList_load_row rfl 76 _ rfl w2.heap.size rfl 76 G (0,0) _ r3.out Tryz.underlying76 rfl Gi.out ?_)
    | (refine wpList_store_row rfl 76 _ _ rfl w.heap.size G rfl rfl 76 _ r0.out Gi.out (by rw[Hzs.out,Gs.out]) Go.out ?_))
   refine bodyPost_ret_by (v:=.tuple #[.agg G,.int .i64 0]) (rbite.results_cell_tmp rfl _ _ w.heap.size 76 _ (0,0) _ rfl (setRow_heap _ _ _ _ _ _ r0.out) Tryz.underlying76 rfl Gi.out _ rfl) rfl ?_
   exact⟨by rw[hV.out],B3.out.trans (below_setRow _ _ _ (Nat.le_refl _))⟩
end punp
namespace puns
open Go Go.RowKit
open arr mem stil bitm polys fldm rbita rbitb rbitc rbitd rbite rbitf fld1 rbitg
theorem unsigned_err (s:ByteArray) (low high:Int) (w:World) (c:Int) (h1 : 0≤low) (h2 : 1≤high) (h3:low<4190208) (h4:high<4190208) (hc:c≠0)
 (hu:∀ w1:World,Calls Tryz.prog 75 #[.string s,.int .i64 (low+high)] w1 fun e w'=>e=.returned (.tuple #[.agg (FL .i64 256 fun _=>0),.int .i64 c])∧Below w1.heap.size w1 w'):
 Calls Tryz.prog 108 #[.string s,.int .i64 low,.int .i64 high] w fun e w'=>e=.returned (.tuple #[.agg (FL .i64 256 fun _=>0),.int .i64 c])∧Below w.heap.size w w':=by
 have HU:=Away.mk hu
 clear hu
 obtain⟨hz,hsize⟩:=zero_of_info infoP
 obtain⟨z,HZ⟩:=ex_eq (FL .i64 256 fun _=>0)
 rw[HZ.out]at hz HU ⊢
 have Hzs:Away (z.size=256):=⟨by rw[←HZ.out];exact fl_size _ _ _⟩
 have Zi:Away ((Tryz.prog.info? 76).map (·.size)=some z.size):=⟨by rw[Hzs.out];exact hsize⟩
 have Zo:Away (z.all (·.oneCell')=true):=⟨by rw[←HZ.out];exact fl_one _ _ _⟩
 obtain⟨W,hW⟩:∃ x,w.alloc (.cells z 76)=x:=⟨_,rfl⟩
 have HW:=Away.mk hW
 have BW:Away (Below w.heap.size w W):=⟨by rw[←hW];exact below_alloc _ _⟩
 have hrow:Away (W.heap[w.heap.size]? = some (.cells z 76 (0,0))):=⟨by rw[←hW];exact heap_at _ _ _ rfl⟩
 have hWs:Away (W.heap.size=w.heap.size+1):=⟨by rw[←hW,size_alloc]⟩
 have HM:∀ w1:World,Calls Tryz.prog 155 #[.int .i64 low,.int .i64 high] w1 fun e w'=>e=.returned (.bool true)∧w'=w1:=fun w1=>by
  have h:=psmall.ends_any low high w1
  rw[decide_eq_true ⟨h1,h3,h2,h4⟩]at h
  exact h
 have fl2:IntKind.i64.wrap (low+high)=low+high:=by rw[IntKind.wrap_i64];omega
 have fc:(c != 0)=true:=by simpa using hc
 clear hW hsize HZ h1 h2 h3 h4 hc
 go_enter Tryz.func108,Tryz.ntmps108
 go_wp2_with (rw[HW.out])
 refine(HM _).mono ?_
 rintro e W ⟨rfl,rfl⟩
 go_wp2_with fail
 refine(HU.out _).mono ?_
 rintro e w2 ⟨rfl,hb2⟩
 have hrow2:Away (w2.heap[w.heap.size]? = some (.cells z 76 (0,0))):=⟨(hb2.block w.heap.size (by rw[hWs.out];omega)).trans hrow.out⟩
 have B2:Away (Below w.heap.size w w2):=⟨BW.out.trans (hb2.mono (by rw[hWs.out];omega))⟩
 have hlt2:w.heap.size<w2.heap.size:=by have:=hb2.size;rw[hWs.out]at this;omega
 obtain⟨W3,hW3⟩:∃ x,w2.alloc (.cells z 76)=x:=⟨_,rfl⟩
 have HW3:=Away.mk hW3
 have r3:Away (W3.heap[w2.heap.size]? = some (.cells z 76 (0,0))):=⟨by rw[←hW3];exact heap_at _ _ _ rfl⟩
 have r0:Away (W3.heap[w.heap.size]? = some (.cells z 76 (0,0))):=⟨by rw[←hW3,heap_past _ _ _ hlt2];exact hrow2.out⟩
 have B3:Away (Below w.heap.size w W3):=⟨by rw[←hW3];exact B2.out.alloc (by omega) _⟩
 clear hb2 hW3 hlt2
 go_wp2_with (first
  | ((with_reducible refine wpList_store_new rfl 76 _ _ rfl z ?hx ?hy ?hi ?ho ?h1 ?hn ?_);(case hx=>rfl);(case hy=>rfl);(case hi=>exact Zi.out);(case ho=>rfl);(case h1=>exact Zo.out);(case hn=>rfl);rw[HW3.out])
  | (refine wpList_load_row rfl 76 _ rfl w2.heap.size rfl 76 z (0,0) _ r3.out Tryz.underlying76 rfl Zi.out ?_)
  | (refine wpList_store_row rfl 76 _ _ rfl w.heap.size z rfl rfl 76 _ r0.out Zi.out rfl Zo.out ?_))
 refine bodyPost_ret_by (v:=.tuple #[.agg z,.int .i64 c]) (rbite.results_cell_tmp rfl _ _ w.heap.size 76 _ (0,0) _ rfl (setRow_heap _ _ _ _ _ _ r0.out) Tryz.underlying76 rfl Zi.out _ rfl) rfl ?_
 exact⟨rfl,B3.out.trans (below_setRow _ _ _ (Nat.le_refl _))⟩
theorem unsigned_good (s:ByteArray) (low high:Int) (w:World) (f:Nat→Int) (h1 : 0≤low) (h2 : 1≤high) (h3:low<4190208) (h4:high<4190208) (hf:∀ i,i<256→0≤f i∧f i≤low+high)
 (hu:∀ w1:World,Calls Tryz.prog 75 #[.string s,.int .i64 (low+high)] w1 fun e w'=>e=.returned (.tuple #[.agg (FL .i64 256 f),.int .i64 0])∧Below w1.heap.size w1 w'):
 Calls Tryz.prog 108 #[.string s,.int .i64 low,.int .i64 high] w fun e w'=>e=.returned (.tuple #[.agg (FL .i64 256 (un f high)),.int .i64 0])∧Below w.heap.size w w':=by
 have HU:=Away.mk hu
 have Hf:=Away.mk hf
 clear hu hf
 have Hidx:Away (∀ i:Nat,i<256→∀ w1,(Instr.index 76 (.agg (FL .i64 256 f)) (.int .i64 (i:Int))).run Tryz.prog w1=.ok (.int .i64 (f i)) w1):=⟨fun i hi w1=>index_row (P:=Tryz.prog) Tryz.underlying76 (by kernel_rfl) (by kernel_rfl) (by kernel_rfl) _ _ i hi (fl_get .i64 256 f i hi) w1⟩
 obtain⟨hz,hsize⟩:=zero_of_info infoP
 obtain⟨z,HZ⟩:=ex_eq (FL .i64 256 fun _=>0)
 rw[HZ.out]at hz
 have Hzs:Away (z.size=256):=⟨by rw[←HZ.out];exact fl_size _ _ _⟩
 have Fs:Away ((FL .i64 256 f).size=256):=⟨fl_size _ _ _⟩
 have Fo:Away ((FL .i64 256 f).all (·.oneCell')=true):=⟨fl_one _ _ _⟩
 have Hpz:Away (FL .i64 256 (pt (un f high) f 0)=FL .i64 256 f):=⟨by rw[pt_zero]⟩
 obtain⟨F,HF⟩:=ex_eq (FL .i64 256 f)
 rw[HF.out]at HU Hidx Fs Fo Hpz
 have Fi:Away ((Tryz.prog.info? 76).map (·.size)=some F.size):=⟨by rw[Fs.out];exact hsize⟩
 have Gs:Away ((FL .i64 256 (un f high)).size=256):=⟨fl_size _ _ _⟩
 have Go:Away ((FL .i64 256 (un f high)).all (·.oneCell')=true):=⟨fl_one _ _ _⟩
 have Hall:Away (FL .i64 256 (pt (un f high) f 256)=FL .i64 256 (un f high)):=⟨fl_all _ _ _ _⟩
 obtain⟨G,HG⟩:=ex_eq (FL .i64 256 (un f high))
 rw[HG.out]at Gs Go Hall ⊢
 have Gi:Away ((Tryz.prog.info? 76).map (·.size)=some G.size):=⟨by rw[Gs.out];exact hsize⟩
 obtain⟨W,hW⟩:∃ x,w.alloc (.cells z 76)=x:=⟨_,rfl⟩
 have HW:=Away.mk hW
 have BW:Away (Below w.heap.size w W):=⟨by rw[←hW];exact below_alloc _ _⟩
 have hrow:Away (W.heap[w.heap.size]? = some (.cells z 76 (0,0))):=⟨by rw[←hW];exact heap_at _ _ _ rfl⟩
 have hWs:Away (W.heap.size=w.heap.size+1):=⟨by rw[←hW,size_alloc]⟩
 have HM:∀ w1:World,Calls Tryz.prog 155 #[.int .i64 low,.int .i64 high] w1 fun e w'=>e=.returned (.bool true)∧w'=w1:=fun w1=>by
  have h:=psmall.ends_any low high w1
  rw[decide_eq_true ⟨h1,h3,h2,h4⟩]at h
  exact h
 have fl2:IntKind.i64.wrap (low+high)=low+high:=by rw[IntKind.wrap_i64];omega
 have HL:=Away.mk (And.intro h1 (And.intro h2 (And.intro h3 h4)))
 clear hW hsize HZ HG HF h1 h2 h3 h4
 go_enter Tryz.func108,Tryz.ntmps108
 go_wp2_with (rw[HW.out])
 refine(HM _).mono ?_
 rintro e W ⟨rfl,rfl⟩
 go_wp2_with fail
 refine(HU.out _).mono ?_
 rintro e w2 ⟨rfl,hb2⟩
 have hrow2:Away (w2.heap[w.heap.size]? = some (.cells z 76 (0,0))):=⟨(hb2.block w.heap.size (by rw[hWs.out];omega)).trans hrow.out⟩
 have B2:Away (Below w.heap.size w w2):=⟨BW.out.trans (hb2.mono (by rw[hWs.out];omega))⟩
 have hlt2:w.heap.size<w2.heap.size:=by have:=hb2.size;rw[hWs.out]at this;omega
 obtain⟨W3,hW3⟩:∃ x,w2.alloc (.cells F 76)=x:=⟨_,rfl⟩
 have HW3:=Away.mk hW3
 have r3:Away (W3.heap[w2.heap.size]? = some (.cells F 76 (0,0))):=⟨by rw[←hW3];exact heap_at _ _ _ rfl⟩
 have r0:Away (W3.heap[w.heap.size]? = some (.cells z 76 (0,0))):=⟨by rw[←hW3,heap_past _ _ _ hlt2];exact hrow2.out⟩
 have B3:Away (Below w.heap.size w W3):=⟨by rw[←hW3];exact B2.out.alloc (by omega) _⟩
 have A0:Away (At w2.heap.size (FL .i64 256 (pt (un f high) f 0)) 76 W3 W3):=⟨by rw[Hpz.out];exact At.refl r3.out⟩
 have Hlt2:=Away.mk hlt2
 clear hb2 hW3 hlt2
 go_wp2_with (first
  | ((with_reducible refine wpList_store_new rfl 76 _ _ rfl F ?hx ?hy ?hi ?ho ?h1 ?hn ?_);(case hx=>rfl);(case hy=>rfl);(case hi=>exact Fi.out);(case ho=>rw[Hzs.out,Fs.out]);(case h1=>exact Fo.out);(case hn=>rfl);rw[HW3.out])
  | (refine wpList_load_row rfl 76 _ rfl w2.heap.size rfl 76 F (0,0) _ r3.out Tryz.underlying76 rfl Fi.out ?_))
 go_loopw [30] (fun c wr=>∃ j:Nat,j≤256∧c=.int .i64 (j:Int)∧Away (At w2.heap.size (FL .i64 256 (pt (un f high) f j)) 76 W3 wr)) (fun c _=>256-(intOf c).toNat)
 case atStart=>exact⟨0,Nat.zero_le _,rfl,A0⟩
 case round=>
  clear A0
  obtain⟨j,hj,rfl,A0⟩:=hrel
  by_cases hlt:j<256
  ·have hjz:(j:Int)<256:=by omega
   have hidx:=Hidx.out j hlt
   have hfj:=Hf.out j hlt
   obtain⟨x,hx⟩:∃ x,f j=x:=⟨_,rfl⟩
   rw[hx]at hidx hfj
   have fs:IntKind.i64.wrap (high-x)=high-x:=by rw[IntKind.wrap_i64];have:=HL.out;omega
   have hun:Away ((high-x)%8380417=un f high j):=⟨by unfold un;rw[hx]⟩
   have Hre:=Away.mk (fun w1=>reduce_any (high-x) w1)
   obtain⟨y,hy⟩:∃ y,(high-x)%8380417=y:=⟨_,rfl⟩
   rw[hy]at hun Hre
   clear hx hy hfj
   go_wp2_with fail
   refine(Hre.out _).mono ?_
   rintro e w5 ⟨rfl,rfl⟩
   clear hidx
   go_wp2_with ((with_reducible refine wpList_put2 A0 rfl _ _ _ rfl rfl ?_);refine⟨_,_,_,rfl,rfl,rfl,(by rw[fl_size];exact hlt),?_⟩;intro wn HR;rw[fl_set,pt_upd _ _ _ _ hun.out]at HR)
   go_roundw
   case rel=>exact⟨j+1,by omega,by go_num,HR⟩
   case measure=>simp[intOf];omega
  ·obtain rfl:j=256:=by omega
   simp only[Int.cast_ofNat_Int]
   rw[Hall.out]at A0
   have rg:=Away.mk A0.out.row
   have rz:Away (wr.heap[w.heap.size]? = some (.cells z 76 (0,0))):=⟨A0.out.other (Array.getElem?_eq_some_iff.1 r0.out).1 (by have:=Hlt2.out;omega) r0.out⟩
   have BE:Away (Below w.heap.size w wr):=⟨B3.out.trans (A0.out.below (by exact B3.out.size) (by have:=Hlt2.out;omega))⟩
   clear A0 hj hlt
   go_wp2_with (first
    | (refine wpList_load_row rfl 76 _ rfl w2.heap.size rfl 76 G (0,0) _ rg.out Tryz.underlying76 rfl Gi.out ?_)
    | (refine wpList_store_row rfl 76 _ _ rfl w.heap.size G rfl rfl 76 _ rz.out Gi.out (by rw[Hzs.out,Gs.out]) Go.out ?_))
   refine bodyPost_ret_by (v:=.tuple #[.agg G,.int .i64 0]) (rbite.results_cell_tmp rfl _ _ w.heap.size 76 _ (0,0) _ rfl (setRow_heap _ _ _ _ _ _ rz.out) Tryz.underlying76 rfl Gi.out _ rfl) rfl ?_
   exact⟨rfl,BE.out.trans (below_setRow _ _ _ (Nat.le_refl _))⟩
end puns
end Go.Proofs.YtomphjajkkddkaaGreatDoor
namespace Go.Proofs.YtomphjajkkddkaaGreatDoor
namespace fadd
open Go Go.RowKit
open arr mem stil polys polt fldm fld1
theorem add_any (f g:Nat→Int) (w:World):
 Calls Tryz.prog 80 #[.agg (FL .i64 256 f),.agg (FL .i64 256 g)] w fun e w'=>e=.returned (.agg (FL .i64 256 fun i=>(f i+g i)%8380417))∧Below w.heap.size w w':=by
 obtain⟨hz,hsize⟩:=zero_of_info infoP
 obtain⟨z,HZ⟩:=ex_eq (FL .i64 256 fun _=>0)
 rw[HZ.out]at hz
 have Hzs:Away (z.size=256):=⟨by rw[←HZ.out];exact fl_size _ _ _⟩
 obtain⟨F,HF⟩:∃ F:Nat→Int,Away (F=fun i=>(f i+g i)%8380417):=⟨_,⟨rfl⟩⟩
 have hFi:∀ i,F i=(fun i=>(f i+g i)%8380417) i:=fun i=>by rw[HF.out]
 have HFi:=Away.mk hFi
 rw[←HF.out]
 clear HF hFi
 obtain⟨R,HR⟩:=ex_eq (FL .i64 256 F)
 have Ri:Away ((Tryz.prog.info? 76).map (·.size)=some R.size):=⟨by rw[←HR.out,fl_size];exact hsize⟩
 have Ro:Away (R.all (·.oneCell')=true):=⟨by rw[←HR.out];exact fl_one _ _ _⟩
 have Rz:Away (z.size=R.size):=⟨by rw[Hzs.out,←HR.out,fl_size]⟩
 rw[HR.out]
 have Hred:=Away.mk reduce_any
 clear hsize
 go_enter Tryz.func80,Tryz.ntmps80
 go_wp2_with fail
 clear hz
 obtain⟨W,hW⟩:∃ x,((w.alloc (.cells (FL .i64 256 f) 76)).alloc (.cells (FL .i64 256 g) 76)).alloc (.cells z 76)=x:=⟨_,rfl⟩
 obtain⟨b0,b1,b2,hWs,hWb⟩:=three hW
 rw[hW]
 clear hW
 have B0:=Away.mk b0
 have B1:=Away.mk b1
 have BR:=Away.mk b2
 have HWs:Away (w.heap.size+3≤W.heap.size):=⟨by omega⟩
 have HWb:=Away.mk hWb
 clear hWs hWb b0 b1 b2
 go_loopw [6] (fun v wr=>∃ i:Nat,i≤256∧v=.int .i64 (i:Int)∧Away (At w.heap.size (FL .i64 256 (pt F f i)) 76 W wr)) (fun v _=>256-(intOf v).toNat)
 case atStart=>exact⟨0,Nat.zero_le _,rfl,⟨by rw[pt_zero];exact At.refl B0.out⟩⟩
 case round=>
  obtain⟨i,hi,rfl,A0⟩:=hrel
  by_cases hlt:i<256
  ·have hiz:(i:Int)<256:=by omega
   obtain⟨x,hx⟩:∃ x,f i=x:=⟨_,rfl⟩
   have ca:wr.cell? ⟨w.heap.size,i,none⟩=some (.int .i64 x):=by
    have h9:=fl_at A0.out.row i hlt
    rw[pt_at,hx]at h9
    exact h9
   obtain⟨y,hy⟩:∃ y,g i=y:=⟨_,rfl⟩
   have cb:wr.cell? ⟨w.heap.size+1,i,none⟩=some (.int .i64 y):=by
    rw[←hy]
    exact fl_at (A0.out.other (by have:=HWs.out;omega) (by omega) B1.out) i hlt
   have HV:Away (F i=(x+y)%8380417):=⟨by rw[HFi.out,hx,hy]⟩
   obtain⟨x1,hx1⟩:=ex_eq (x%8380417)
   obtain⟨y1,hy1⟩:=ex_eq (y%8380417)
   have hs:IntKind.i64.wrap (x1+y1)=x1+y1:=by rw[←hx1.out,←hy1.out,IntKind.wrap_i64];omega
   obtain⟨s,hs1⟩:=ex_eq (x1+y1)
   have hs2:s%8380417=F i:=by rw[HV.out,←hs1.out,←hx1.out,←hy1.out];omega
   obtain⟨v,hv⟩:=ex_eq (s%8380417)
   have Hx:∀ w1:World,Calls Tryz.prog 137 #[.int .i64 x] w1 fun e w'=>e=.returned (.int .i64 x1)∧w'=w1:=fun w1=>by rw[←hx1.out];exact reduce_any x w1
   have Hy:∀ w1:World,Calls Tryz.prog 137 #[.int .i64 y] w1 fun e w'=>e=.returned (.int .i64 y1)∧w'=w1:=fun w1=>by rw[←hy1.out];exact reduce_any y w1
   have Hs:∀ w1:World,Calls Tryz.prog 137 #[.int .i64 (x1+y1)] w1 fun e w'=>e=.returned (.int .i64 v)∧w'=w1:=fun w1=>by rw[hs1.out,←hv.out];exact reduce_any s w1
   have HU:Away (upd (pt F f i) i v=pt F f (i+1)):=⟨pt_upd F f i v (by rw[←hv.out,hs2])⟩
   clear hy hs2
   clear hx
   go_wp2_with fail
   refine still_tail 12 (by kernel_rfl) (by kernel_rfl) ?_
   simp only[List.take_succ_cons,List.take_zero,List.drop_succ_cons,List.drop_zero]
   repeat still_step
   still_call (Hx _)
   repeat still_step
   still_call (Hy _)
   repeat still_step
   still_call (Hs _)
   repeat still_step
   refine wpStill_nil ?_
   clear cb
   clear ca
   have A1:Away (At w.heap.size (FL .i64 256 (pt F f i)) 76 W wr.drew):=⟨at_drew A0.out⟩
   clear A0
   with_reducible refine wpList_put2 A1 rfl _ _ _ rfl rfl ?_
   refine⟨_,_,_,rfl,rfl,rfl,by rw[fl_size];exact hlt,?_⟩
   intro wn HR
   rw[fl_set,HU.out]at HR
   go_wp2_with fail
   go_roundw
   case rel=>exact⟨i+1,by omega,by go_num,HR⟩
   case measure=>simp[intOf];omega
  ·obtain rfl:i=256:=by omega
   simp only[Int.cast_ofNat_Int]
   rw[fl_all,HR.out]at A0
   have Hrow:=Away.mk A0.out.row
   have Hres:Away (wr.heap[w.heap.size+2]? = some (.cells z 76 (0,0))):=⟨A0.out.other (by have:=HWs.out;omega) (by omega) BR.out⟩
   have HB:Away (Below w.heap.size w wr):=⟨HWb.out.trans (A0.out.below (by have:=HWs.out;omega) (Nat.le_refl _))⟩
   clear A0
   go_wp2_with (first
    | (refine wpList_load_row rfl 76 _ rfl w.heap.size rfl 76 R (0,0) _ Hrow.out Tryz.underlying76 rfl Ri.out ?_)
    | (refine wpList_store_row rfl 76 _ _ rfl (w.heap.size+2) R rfl rfl 76 _ Hres.out Ri.out Rz.out Ro.out ?_))
   refine bodyPost_ret_by (v:=.agg R) (results_cell_row rfl _ _ (w.heap.size+2) 76 _ (0,0) _ rfl (setRow_heap _ _ _ _ _ _ Hres.out) Tryz.underlying76 rfl Ri.out) rfl ?_
   exact⟨rfl,HB.out.trans (below_setRow _ _ _ (by omega))⟩
end fadd
end Go.Proofs.YtomphjajkkddkaaGreatDoor
namespace Go.Proofs.YtomphjajkkddkaaGreatDoor
namespace qmat
open Go Go.RowKit
open arr mem stil polys polt rbitb rbitc rndm pols saml samr qpair qrow
theorem infoSl:(Tryz.prog.info? 44).map (fun i=>(i.zero,i.size,i.bytes))=some (some (.slice none 0 0),1,24):=by kernel_rfl
def OU (vs:List Value) (n:Nat):Array Value:=(vs++List.replicate n (Value.slice none 0 0)).toArray
theorem ou_size (vs:List Value) (n:Nat):(OU vs n).size=vs.length+n:=by unfold OU;simp
theorem ou_set (vs:List Value) (n:Nat) (v:Value):(OU vs (n+1)).setIfInBounds vs.length v=OU (vs ++ [v]) n:=by
 unfold OU
 rw[List.setIfInBounds_toArray,List.set_append_right _ _ (Nat.le_refl _),Nat.sub_self,List.replicate_succ,List.set_cons_zero,List.append_assoc]
 rfl
theorem ou_get (vs:List Value) (n i:Nat) (h:i<vs.length):(OU vs n)[i]? = vs[i]? := by
 unfold OU
 rw[List.getElem?_toArray,List.getElem?_append_left h]
theorem ou_last (vs:List Value) (n:Nat) (v:Value):(OU (vs ++ [v]) n)[vs.length]? = some v:=by
 rw[ou_get _ _ _ (by rw[List.length_append];exact Nat.lt_succ_self _),List.getElem?_append_right (Nat.le_refl _),Nat.sub_self]
 rfl
theorem made_ou {w w':World} {B:Nat} {e:TypeId} {n:Nat} (h:w'.ownsRow B e 1 (.slice (some ⟨w.heap.size,0,none⟩) n n) n (madeCells #[Value.slice none 0 0] n).toList) (hg:w.grownBy w' none):
 w'.heap[w.heap.size]? = some (.cells (OU [] n) e (0,0))∧Below w.heap.size w w':=by
 obtain⟨cur,h1,h2⟩:=own_rowP h
 have e0:cur=OU [] n:=by
  apply Array.ext'
  rw[h2,toList_madeCells_one]
  unfold OU
  simp
 rw[e0]at h1
 exact⟨h1,(Below.refl _ _).grown hg (Nat.le_refl _) (fun k hk=>by simp at hk)⟩
theorem rowl_blocks {w w':World} {B gm ln:Nat} {vs:List Value} {p:Nat→Nat→Nat→Int} (h:Rowl w B (some gm) vs ln p) (hs:w.heap.size≤w'.heap.size) (hb:∀ g,g<w.heap.size→g≠gm→w'.heap[g]? = w.heap[g]?):Rowl w' B (some gm) vs ln p:=fun i v hv=>by
 obtain⟨g,c,e,h1,h2,h3,h4⟩:=h i v hv
 refine⟨g,c,e,h1,Nat.lt_of_lt_of_le h2 hs,h3,fun s hs k hk=>?_⟩
 rw[←h4 s hs k hk]
 have e2:=hb g h2 (fun e2=>h3 (by rw[e2]))
 simp only[World.cell?,e2]
theorem matrix_yes {T:Array Value} (kn ln:Nat) (e t a b o s:Int) (sd:ByteArray) (q:Nat→Nat→Nat→Int) (w:World) (hT:(Tryz.prog.info? 34).map (·.size)=some T.size) (hk : 1≤kn∧kn≤8) (hl : 1≤ln∧ln≤8) (h:latt (kn:Int) (ln:Int) e t a b o s=true) (hsd:sd.size≤1125899906842624)
 (HS:∀ r c:Nat,r<8→c<8→∀ w1:World,Below w.heap.size w w1→Calls Tryz.prog 83 #[.agg T,.string (tw sd c r)] w1 fun x w'=>x=.returned (.agg (FL .i64 256 (q r c)))∧Below w1.heap.size w1 w'):
 Calls Tryz.prog 33 #[.agg T,.agg #[.int .i64 (kn:Int),.int .i64 (ln:Int),.int .i64 e,.int .i64 t,.int .i64 a,.int .i64 b,.int .i64 o,.int .i64 s],.string sd] w fun x w'=>(∃ v vs,x=.returned v∧w'.ownsRow w.heap.size 44 1 v kn vs∧Rowl w' w.heap.size v.ownBlock vs ln q)∧Below w.heap.size w w':=by
 have HR:Away (∀ w1:World,Calls Tryz.prog 49 #[.agg #[.int .i64 (kn:Int),.int .i64 (ln:Int),.int .i64 e,.int .i64 t,.int .i64 a,.int .i64 b,.int .i64 o,.int .i64 s]] w1 fun e0 w'=>e0=.returned (.bool true)∧Below w1.heap.size w1 w'):=⟨fun w1=>by rw[←h];exact rright.right_any _ _ e t a b o s w1⟩
 obtain⟨i0,hi,hz0,hz1,hz2⟩:=parts infoPoly
 obtain⟨hz,hsize⟩:=zero_of_info polt.infoP
 obtain⟨z,HZ⟩:=ex_eq (FL .i64 256 fun _=>0)
 rw[HZ.out]at hz hz0
 have HI:=Away.mk (And.intro hi (And.intro hz0 (And.intro hz1 hz2)))
 obtain⟨j0,hj,hy0,hy1,hy2⟩:=parts infoSl
 have HJ:=Away.mk (And.intro hj (And.intro hy0 (And.intro hy1 hy2)))
 clear hj hy0 hy1 hy2
 clear hi hz0 hz1 hz2 hsize
 obtain⟨C,HC⟩:=ex_eq (#[.int .i64 (kn:Int),.int .i64 (ln:Int),.int .i64 e,.int .i64 t,.int .i64 a,.int .i64 b,.int .i64 o,.int .i64 s]:Array Value)
 rw[HC.out]at HR ⊢
 have HCs:Away ((Tryz.prog.info? 37).map (·.size)=some C.size):=⟨by rw[←HC.out];kernel_rfl⟩
 obtain⟨W,hW⟩:∃ x,(w.alloc (.cells T 34)).alloc (.cells C 37)=x:=⟨_,rfl⟩
 obtain⟨r0,r1,hWs,b0⟩:=two hW
 have T0:Away (W.heap[w.heap.size]? = some (.cells T 34 (0,0))):=⟨r0⟩
 have L0:Away (W.heap[w.heap.size+1]? = some (.cells C 37 (0,0))):=⟨r1⟩
 have BW:=Away.mk b0
 have HWs:=Away.mk hWs
 have HW:=Away.mk hW
 have HSm:=Away.mk HS
 have HTz:=Away.mk hT
 have Hk:=Away.mk hk
 have Hl:=Away.mk hl
 have Hsd:=Away.mk hsd
 clear hW r0 r1 b0 h HS hT hk hl hsd hWs
 go_enter Tryz.func33,Tryz.ntmps33
 go_wp2_with (first
  | (rw[HW.out])
  | (refine wpList_load_row rfl 37 _ rfl (w.heap.size+1) rfl 37 _ (0,0) _ L0.out Tryz.underlying37 rfl HCs.out ?_))
 refine(HR.out _).mono ?_
 rintro x u1 ⟨rfl,hb1⟩
 have B1:Away (Below w.heap.size w u1):=⟨BW.out.trans (hb1.mono (by rw[HWs.out];omega))⟩
 have T1:Away (u1.heap[w.heap.size]? = some (.cells T 34 (0,0))):=⟨(hb1.block _ (by rw[HWs.out];omega)).trans T0.out⟩
 have L1:Away (u1.heap[w.heap.size+1]? = some (.cells C 37 (0,0))):=⟨(hb1.block _ (by rw[HWs.out];omega)).trans L0.out⟩
 have HcK:Away (∀ w1:World,Below u1.heap.size u1 w1→w1.cell? ⟨w.heap.size+1,0,none⟩=some (.int .i64 (kn:Int))):=⟨fun w1 hb=>cell_at ((hb.block _ (lt_of_row L1.out)).trans L1.out) (by rw[←HC.out];rfl)⟩
 have HcL:Away (∀ w1:World,Below u1.heap.size u1 w1→w1.cell? ⟨w.heap.size+1,1,none⟩=some (.int .i64 (ln:Int))):=⟨fun w1 hb=>cell_at ((hb.block _ (lt_of_row L1.out)).trans L1.out) (by rw[←HC.out];rfl)⟩
 have hln8:ln≤8:=Hl.out.2
 have hkn8:kn≤8:=Hk.out.2
 have cK1:=HcK.out u1 (Below.refl _ _)
 clear hb1
 go_wp2_with (at_make;refine wpList_make_full _ rfl (.tmp 14) (.tmp 14) 74 rfl u1.heap.size 44 j0 (.slice none 0 0) 1 Tryz.underlying74 HJ.out.1 HJ.out.2.1 HJ.out.2.2.1 .i64 .i64 kn kn kn rfl rfl rfl rfl (by rw[HJ.out.2.2.2];omega) (by unfold maxLen;omega) (Nat.le_refl _) ?_)
 intro w3 hown hgr
 obtain⟨hrow,hb3⟩:=made_ou hown hgr
 obtain⟨gm,hgm⟩:∃ x,u1.heap.size=x:=⟨_,rfl⟩
 rw[hgm]at hrow
 have B3:Away (Below u1.heap.size u1 w3):=⟨hb3⟩
 have Hgm:Away (u1.heap.size=gm):=⟨hgm⟩
 have O3:Away (∃ vs,vs.length=0∧w3.heap[gm]? = some (.cells (OU vs (kn-0)) 44 (0,0))∧Rowl w3 gm (some gm) vs ln q):=⟨[],rfl,hrow,rows_nil _ _ _ _ _⟩
 rw[hgm]
 clear hown hgr hrow hb3 cK1 hgm
 go_wp2_with fail
 go_loopw [18] (fun v wr=>∃ r:Nat,r≤kn∧v=.int .i64 (r:Int)∧Away (∃ vs,vs.length=r∧wr.heap[gm]? = some (.cells (OU vs (kn-r)) 44 (0,0))∧Rowl wr gm (some gm) vs ln q)∧Away (Below u1.heap.size u1 wr)) (fun v _=>kn-(intOf v).toNat)
 case atStart=>exact⟨0,Nat.zero_le _,rfl,O3,B3⟩
 case round=>
  clear O3
  obtain⟨r,hr,rfl,HO,Hb⟩:=hrel
  rename World=>wo
  by_cases hlt:r<kn
  ·have hltz:(r:Int)<(kn:Int):=by omega
   have hr8:r<8:=by omega
   obtain⟨vs,hvl,hov,hrv⟩:=HO.out
   have hgl:gm<wo.heap.size:=lt_of_row hov
   have cL1:=HcL.out wo Hb.out
   have Hov:=Away.mk hov
   have Hrv:=Away.mk hrv
   have Hvl:=Away.mk hvl
   clear hov hrv hvl HO
   go_wp2_with (at_make;refine wpList_make_full _ rfl (.tmp 24) (.tmp 24) 44 rfl wo.heap.size 76 i0 (.agg z) 256 Tryz.underlying44 HI.out.1 HI.out.2.1 HI.out.2.2.1 .i64 .i64 ln ln ln rfl rfl rfl rfl (by rw[HI.out.2.2.2];omega) (by unfold maxLen;omega) (Nat.le_refl _) ?_)
   intro w5 hown hgr
   obtain⟨hrow,hb5⟩:=made_row HZ.out hown hgr
   obtain⟨gr,hgr2⟩:∃ x,wo.heap.size=x:=⟨_,rfl⟩
   rw[hgr2]at hrow hgl ⊢
   have Hgr:Away (wo.heap.size=gr):=⟨hgr2⟩
   have A5:Away (At gm (OU vs (kn-r)) 44 w5 w5):=⟨At.refl ((hb5.block _ (by rw[hgr2];exact hgl)).trans Hov.out)⟩
   have R5:Away (w5.heap[gr]? = some (.cells (RW ln fun _ _=>0) 76 (0,0))):=⟨hrow⟩
   have HB5:Away (Below wo.heap.size wo w5):=⟨hb5⟩
   have Hset:Away ((OU vs (kn-r)).setIfInBounds r (.slice (some ⟨gr,0,none⟩) ln ln)=OU (vs ++ [.slice (some ⟨gr,0,none⟩) ln ln]) (kn-(r+1))):=⟨by
    have:=ou_set vs (kn-(r+1)) (.slice (some ⟨gr,0,none⟩) ln ln)
    rw[Hvl.out,show kn-(r+1)+1=kn-r by omega]at this
    exact this⟩
   have Hin:Away (r<(OU vs (kn-r)).size):=⟨by rw[ou_size,Hvl.out];omega⟩
   clear hown hgr hrow hb5 hgr2 cL1
   go_wp2_with ((with_reducible refine wpList_put A5 rfl _ _ _ rfl r (.slice (some ⟨gr,0,none⟩) ln ln) rfl rfl ?hz rfl Hin.out rfl ?_);(case hz=>kernel_rfl);intro wn A6;rw[Hset.out]at A6;have hcr:wn.cell? ⟨gm,r,none⟩=some (.slice (some ⟨gr,0,none⟩) ln ln):=by rw[A6.out.cell,←Hvl.out];exact ou_last _ _ _)
   have R6:Away (wn.heap[gr]? = some (.cells (RW ln fun _ _=>0) 76 (0,0))):=⟨A6.out.other (lt_of_row R5.out) (by omega) R5.out⟩
   have Hbl:Away (∀ g,g<wo.heap.size→g≠gm→wn.heap[g]? = wo.heap[g]?):=⟨fun g h1 h2=>(A6.out.block g (Nat.lt_of_lt_of_le h1 HB5.out.size) h2).trans (HB5.out.block g h1)⟩
   have BN:Away (Below u1.heap.size u1 wn):=⟨Hb.out.trans ((HB5.out.mono Hb.out.size).trans (A6.out.below (Nat.le_trans Hb.out.size HB5.out.size) (Nat.le_of_eq Hgm.out)))⟩
   have Rm:Away (wn.heap[gm]? = some (.cells (OU (vs ++ [.slice (some ⟨gr,0,none⟩) ln ln]) (kn-(r+1))) 44 (0,0))):=⟨A6.out.row⟩
   have Hws:Away (wo.heap.size≤wn.heap.size):=⟨Nat.le_trans HB5.out.size A6.out.size⟩
   have A7:Away (At gr (RW ln (fst (q r) 0)) 76 wn wn):=⟨by rw[fst_zero];exact At.refl R6.out⟩
   have Hgu:Away (u1.heap.size≤gr):=⟨by have:=Hb.out.size;rw[Hgr.out]at this;exact this⟩
   clear A5 A6 R5 R6 Hset Hin HB5 hcr
   go_loopw [32] (fun v wr=>∃ c:Nat,c≤ln∧v=.int .i64 (c:Int)∧Away (At gr (RW ln (fst (q r) c)) 76 wn wr)) (fun v _=>ln-(intOf v).toNat)
   case atStart=>exact⟨0,Nat.zero_le _,rfl,A7⟩
   case round=>
    clear A7
    obtain⟨c,hc,rfl,A0⟩:=hrel
    have BU:Away (Below u1.heap.size u1 wr):=⟨BN.out.trans (A0.out.below BN.out.size Hgu.out)⟩
    have BE:Away (Below w.heap.size w wr):=⟨B1.out.trans (BU.out.mono B1.out.size)⟩
    by_cases hclt:c<ln
    ·have hcz:(c:Int)<(ln:Int):=by omega
     have hc8:c<8:=by omega
     have T2:Away (wr.heap[w.heap.size]? = some (.cells T 34 (0,0))):=⟨(BU.out.block _ (lt_of_row T1.out)).trans T1.out⟩
     have HPr:Away (∀ w1:World,Calls Tryz.prog 84 #[.int .i64 (c:Int),.int .i64 (r:Int)] w1 fun e w'=>e=.returned (.string (x2 c r))∧Below w1.heap.size w1 w'):=⟨fun w1=>pair_any c r (by omega) (by omega) w1⟩
     have HSr:Away (∀ w1:World,Below w.heap.size w w1→Calls Tryz.prog 83 #[.agg T,.string (sd++x2 c r)] w1 fun x w'=>x=.returned (.agg (FL .i64 256 (q r c)))∧Below w1.heap.size w1 w'):=⟨fun w1 hb=>HSm.out r c hr8 hc8 w1 hb⟩
     have Rw:Away (wr.heap[gm]? = some (.cells (OU (vs ++ [.slice (some ⟨gr,0,none⟩) ln ln]) (kn-(r+1))) 44 (0,0))):=⟨A0.out.other (lt_of_row Rm.out) (by omega) Rm.out⟩
     have cr2:∀ d os,(Go.Sort.grow (redrawn wr d) os).cell? ⟨gm,r,none⟩=some (.slice (some ⟨gr,0,none⟩) ln ln):=fun d os=>cell_at (((below_regrown wr d os).block _ (lt_of_row Rw.out)).trans Rw.out) (by rw[←Hvl.out];exact ou_last _ _ _)
     obtain⟨X,HX⟩:=ex_eq (x2 c r)
     rw[HX.out]at HPr HSr
     have hXs:X.size=2:=by rw[←HX.out];rfl
     have hsz:(9223372036854775807<sd.size+2)=False:=by have:=Hsd.out;simp;omega
     obtain⟨F,HF⟩:=ex_eq (FL .i64 256 (q r c))
     rw[HF.out]at HSr
     obtain⟨o6,ho6⟩:∃ o6,c*256=o6:=⟨_,rfl⟩
     have Ho6:=Away.mk ho6
     have Hclt:=Away.mk hclt
     have Hup:Away (ups (fst (q r) c) c (q r c)=fst (q r) (c+1)):=⟨ups_fst (q r) c⟩
     clear HX
     go_wp2_with fail
     refine qtail.region_below_tail 12 (by kernel_rfl) (by kernel_rfl) ?_
     iterate 5 (quiet_step (skip))
     refine wpQuiet_load rfl 34 _ rfl _ rfl 34 _ _ (fun w' hC=>heap_regrown T2.out hC) Tryz.underlying34 rfl HTz.out ?_
     iterate 3 (quiet_step (skip))
     quiet_step (exact Calls.regrown_of (HPr.out _))
     quiet_step (skip)
     quiet_step (exact Calls.regrown_of (HSr.out _ (BE.out.trans ((below_regrown _ _ _).mono BE.out.size))))
     refine wpQuiet_nil ?_
     intro w8 hC
     have hbn:Below wr.heap.size wr w8:=by
      obtain⟨pp,rfl⟩:=hC
      exact below_regrown _ _ _
     have A8:Away (At gr (RW ln (fst (q r) c)) 76 wn w8):=⟨A0.out.later hbn⟩
     clear hC hbn A0 hXs hsz HPr HSr cr2
     simp only[List.drop_succ_cons,List.drop_zero]
     go_wp2_with ((with_reducible refine wpList_putp A8 HF.out Hclt.out Ho6.out rfl _ _ rfl rfl ?hx ?hy ?_);(case hx=>exact rfl);(case hy=>exact rfl);intro w9 A9;rw[Hup.out]at A9)
     go_roundw
     case rel=>exact⟨c+1,by have:=Hclt.out;omega,by go_num,A9⟩
     case measure=>have:=Hclt.out;simp[intOf];omega
    ·obtain rfl:c=ln:=by omega
     have hbl2:∀ g,g<wo.heap.size→g≠gm→wr.heap[g]? = wo.heap[g]? := fun g h1 h2=>(A0.out.block g (Nat.lt_of_lt_of_le h1 Hws.out) (by have:=Hgr.out;omega)).trans (Hbl.out g h1 h2)
     have Rw:wr.heap[gm]? = some (.cells (OU (vs ++ [.slice (some ⟨gr,0,none⟩) c c]) (kn-(r+1))) 44 (0,0)):=A0.out.other (lt_of_row Rm.out) (by omega) Rm.out
     have hH:Holds wr wo.heap.size (.slice (some ⟨gr,0,none⟩) c c) c (q r):=row_holds A0.out.row (Nat.le_of_eq Hgr.out) (fun i hi=>fst_lt (q r) c i hi)
     have hR1:=rowl_blocks Hrv.out (Nat.le_trans Hws.out A0.out.size) hbl2
     have hR2:=Rowl.snoc (x:=.slice (some ⟨gm,0,none⟩) kn kn) (y:=.slice (some ⟨gr,0,none⟩) c c) hR1 (by rw[Hvl.out];exact hH) (Nat.le_of_lt (by have:=Hgr.out;omega)) (fun k hk=>by
      have e:gm=k:=by injection hk
      have:=Hgr.out
      omega)
     have O8:Away (∃ vs,vs.length=r+1∧wr.heap[gm]? = some (.cells (OU vs (kn-(r+1))) 44 (0,0))∧Rowl wr gm (some gm) vs c q):=⟨_,by rw[List.length_append,Hvl.out];rfl,Rw,hR2⟩
     clear hbl2 Rw hH hR1 hR2 A0
     go_wp2_with fail
     go_roundw
     case rel=>exact⟨r+1,by omega,by go_num,O8,BU⟩
     case measure=>simp[intOf];omega
  ·obtain rfl:r=kn:=by omega
   obtain⟨vs,hvl,hov,hrv⟩:=HO.out
   rw[Nat.sub_self]at hov
   have Fx:Away (wo.ownsRow w.heap.size 44 1 (.slice (some ⟨gm,0,none⟩) r r) r vs):=⟨by omega,Or.inr ⟨gm,r,_,rfl,Nat.le_trans B1.out.size (Nat.le_of_eq Hgm.out),hov,Nat.le_refl _,by unfold maxLen;omega,by rw[ou_size];omega,by unfold OU;rw[List.replicate_zero,List.append_nil];show vs.take (r*1)=vs;exact List.take_of_length_le (by omega)⟩⟩
   have Gx:Away (Rowl wo w.heap.size (some gm) vs ln q):=⟨hrv.base (Nat.le_trans B1.out.size (Nat.le_of_eq Hgm.out))⟩
   clear hov hrv hvl HO
   go_wp2_with fail
   go_ret
   exact⟨⟨_,vs,rfl,Fx.out,Gx.out⟩,B1.out.trans (Hb.out.mono B1.out.size)⟩
end qmat
namespace qsec
open Go Go.RowKit
open arr mem stil polys polt rbitb rbitc rndm pols saml qpair qrow helda
section
variable {P:Program} {ops:Array Oper} {Q:Exit→Act→World→Prop} {S:World→Prop}
theorem hk_two {b:Array Bool} {k1 k2:Nat} {ks:List Nat} {o1 o2:Oper} {rest:List Oper} {a:Act} {w:World} (hw1:Region.wanted o1 (yielded ops a.tmps)=true) (hw2:Region.wanted o2 (yielded ops a.tmps)=true) (hr:Region.ready .any ops b=[k1,k2])
 (h1:∀ K:Act→World→Prop,(∀ a' w',S w'→HK P ops Q S (b.setIfInBounds k1 true) (o2 :: rest) (k2 :: ks) a' w'→K a' w')→o1.wp P a w K Q)
 (h2:∀ K:Act→World→Prop,(∀ a' w',S w'→HK P ops Q S (b.setIfInBounds k2 true) (o1 :: rest) (k1 :: ks) a' w'→K a' w')→o2.wp P a w K Q):HK P ops Q S b (o1 :: o2 :: rest) (k1 :: k2 :: ks) a w:=fun hl=>by
 simp only[List.map_cons,List.cons.injEq]at hl
 obtain⟨e1,e2,e3⟩:=hl
 refine wpAnyH_all hr (by simp) fun j hj=>?_
 simp only[List.mem_cons,List.not_mem_nil,or_false]at hj
 rcases hj with rfl | rfl
 ·unfold Go.wpOp
  simp only[e1,hw1,if_true]
  exact Or.inl (h1 _ fun a' w' hs hh=>⟨hs,hh (by simp only[List.map_cons,e2,e3])⟩)
 ·unfold Go.wpOp
  simp only[e2,hw2,if_true]
  exact Or.inl (h2 _ fun a' w' hs hh=>⟨hs,hh (by simp only[List.map_cons,e1,e3])⟩)
theorem hk_swap {b:Array Bool} {k1 k2:Nat} {ks:List Nat} {o1 o2:Oper} {rest:List Oper} {a:Act} {w:World} (h:HK P ops Q S b (o2 :: o1 :: rest) (k2 :: k1 :: ks) a w):HK P ops Q S b (o1 :: o2 :: rest) (k1 :: k2 :: ks) a w:=fun hl=>by
 simp only[List.map_cons,List.cons.injEq]at hl
 exact h (by simp only[List.map_cons,hl.1,hl.2.1,hl.2.2])
end
theorem secrets_yes {T:Array Value} (kn ln:Nat) (e t a b o s:Int) (sd:ByteArray) (q:Nat→Nat→Int) (w:World) (hT:(Tryz.prog.info? 34).map (·.size)=some T.size) (hk : 1≤kn∧kn≤8) (hl : 1≤ln∧ln≤8) (h:latt (kn:Int) (ln:Int) e t a b o s=true) (hsd:sd.size≤1125899906842624)
 (HS:∀ r:Nat,r<16→∀ w1:World,Below w.heap.size w w1→Calls Tryz.prog 114 #[.agg T,.string (tw sd r 0),.int .i64 e] w1 fun x w'=>x=.returned (.agg (FL .i64 256 (q r)))∧Below w1.heap.size w1 w'):
 Calls Tryz.prog 63 #[.agg T,.agg #[.int .i64 (kn:Int),.int .i64 (ln:Int),.int .i64 e,.int .i64 t,.int .i64 a,.int .i64 b,.int .i64 o,.int .i64 s],.string sd] w fun x w'=>(∃ v1 v2,x=.returned (.tuple #[v1,v2])∧Holds w' w.heap.size v1 ln q∧Holds w' w.heap.size v2 kn (fun i=>q (ln+i)))∧Below w.heap.size w w':=by
 have HR:Away (∀ w1:World,Calls Tryz.prog 49 #[.agg #[.int .i64 (kn:Int),.int .i64 (ln:Int),.int .i64 e,.int .i64 t,.int .i64 a,.int .i64 b,.int .i64 o,.int .i64 s]] w1 fun e0 w'=>e0=.returned (.bool true)∧Below w1.heap.size w1 w'):=⟨fun w1=>by rw[←h];exact rright.right_any _ _ e t a b o s w1⟩
 obtain⟨i0,hi,hz0,hz1,hz2⟩:=parts infoPoly
 obtain⟨hz,hsize⟩:=zero_of_info polt.infoP
 obtain⟨z,HZ⟩:=ex_eq (FL .i64 256 fun _=>0)
 rw[HZ.out]at hz hz0
 have HI:=Away.mk (And.intro hi (And.intro hz0 (And.intro hz1 hz2)))
 have hbytes:i0.bytes=2048:=hz2
 clear hi hz0 hz1 hz2 hsize
 obtain⟨C,HC⟩:=ex_eq (#[.int .i64 (kn:Int),.int .i64 (ln:Int),.int .i64 e,.int .i64 t,.int .i64 a,.int .i64 b,.int .i64 o,.int .i64 s]:Array Value)
 rw[HC.out]at HR ⊢
 have HCs:Away ((Tryz.prog.info? 37).map (·.size)=some C.size):=⟨by rw[←HC.out];kernel_rfl⟩
 obtain⟨W,hW⟩:∃ x,(w.alloc (.cells T 34)).alloc (.cells C 37)=x:=⟨_,rfl⟩
 obtain⟨r0,r1,hWs,b0⟩:=two hW
 have T0:Away (W.heap[w.heap.size]? = some (.cells T 34 (0,0))):=⟨r0⟩
 have L0:Away (W.heap[w.heap.size+1]? = some (.cells C 37 (0,0))):=⟨r1⟩
 have BW:=Away.mk b0
 have HWs:=Away.mk hWs
 have HW:=Away.mk hW
 have HSm:=Away.mk HS
 have HTz:=Away.mk hT
 have Hk:=Away.mk hk
 have Hl:=Away.mk hl
 have Hsd:=Away.mk hsd
 clear hW r0 r1 b0 h HS hT hk hl hsd hWs
 go_enter Tryz.func63,Tryz.ntmps63
 go_wp2_with (first
  | (rw[HW.out])
  | (refine wpList_load_row rfl 37 _ rfl (w.heap.size+1) rfl 37 _ (0,0) _ L0.out Tryz.underlying37 rfl HCs.out ?_))
 refine(HR.out _).mono ?_
 rintro x u1 ⟨rfl,hb1⟩
 have B1:Away (Below w.heap.size w u1):=⟨BW.out.trans (hb1.mono (by rw[HWs.out];omega))⟩
 have T1:Away (u1.heap[w.heap.size]? = some (.cells T 34 (0,0))):=⟨(hb1.block _ (by rw[HWs.out];omega)).trans T0.out⟩
 have L1:Away (u1.heap[w.heap.size+1]? = some (.cells C 37 (0,0))):=⟨(hb1.block _ (by rw[HWs.out];omega)).trans L0.out⟩
 have HcK:Away (∀ w1:World,Below u1.heap.size u1 w1→w1.cell? ⟨w.heap.size+1,0,none⟩=some (.int .i64 (kn:Int))):=⟨fun w1 hb=>cell_at ((hb.block _ (lt_of_row L1.out)).trans L1.out) (by rw[←HC.out];rfl)⟩
 have HcL:Away (∀ w1:World,Below u1.heap.size u1 w1→w1.cell? ⟨w.heap.size+1,1,none⟩=some (.int .i64 (ln:Int))):=⟨fun w1 hb=>cell_at ((hb.block _ (lt_of_row L1.out)).trans L1.out) (by rw[←HC.out];rfl)⟩
 have HcE:Away (∀ w1:World,Below u1.heap.size u1 w1→w1.cell? ⟨w.heap.size+1,2,none⟩=some (.int .i64 e)):=⟨fun w1 hb=>cell_at ((hb.block _ (lt_of_row L1.out)).trans L1.out) (by rw[←HC.out];rfl)⟩
 have hln8:ln≤8:=Hl.out.2
 have hkn8:kn≤8:=Hk.out.2
 clear hb1
 go_wp2_with fail
 obtain⟨B0,hB0⟩:∃ x,u1.heap.size=x:=⟨_,rfl⟩
 refine hk_begin B0 8 [0,1,3,4,2,5,6,7] (by kernel_rfl) rfl rfl (by decide) (fun hS ops HO=>?_)
 simp only[List.filterMap_cons,List.filterMap_nil,List.getElem?_cons_succ,List.getElem?_cons_zero]
 (focus (refine heldb.hk_t (v:=?_) (by rw[←HO.out];kernel_rfl) (fun _ _ _ h=>h) ?_ hS ?_;rotate_left;focus (intro w9 h9;go_simp;first | done | with_reducible rfl);all_goals skip))
 simp only[Act.put,heldb.pa,heldb.pb,heldb.pc]
 (focus (refine heldb.hk_t (v:=?_) (by rw[←HO.out];kernel_rfl) (fun _ _ _ h=>h) ?_ hS ?_;rotate_left;focus (intro w9 h9;have hc:=HcL.out w9 (by rw[hB0];exact h9);go_simp;first | done | with_reducible rfl);all_goals skip))
 simp only[Act.put,heldb.pa,heldb.pb,heldb.pc]
 (focus (refine heldb.hk_t (v:=?_) (by rw[←HO.out];kernel_rfl) (fun _ _ _ h=>h) ?_ hS ?_;rotate_left;focus (intro w9 h9;go_simp;first | done | with_reducible rfl);all_goals skip))
 simp only[Act.put,heldb.pa,heldb.pb,heldb.pc]
 (focus (refine heldb.hk_t (v:=?_) (by rw[←HO.out];kernel_rfl) (fun _ _ _ h=>h) ?_ hS ?_;rotate_left;focus (intro w9 h9;have hc:=HcK.out w9 (by rw[hB0];exact h9);go_simp;first | done | with_reducible rfl);all_goals skip))
 simp only[Act.put,heldb.pa,heldb.pb,heldb.pc]
 refine hk_two (by rw[←HO.out];kernel_rfl) (by rw[←HO.out];kernel_rfl) (by rw[←HO.out];kernel_rfl) (fun K hK=>?_) (fun K hK=>?_)
 ·refine wp_make_full (.tmp 16) (.tmp 16) 44 rfl 76 i0 (.agg z) 256 Tryz.underlying44 HI.out.1 HI.out.2.1 HI.out.2.2.1 .i64 .i64 ln rfl rfl (by rw[HI.out.2.2.2];omega) (by unfold maxLen;omega) ?_
  intro w3 hown hgr
  obtain⟨hrow,hb3⟩:=made_row HZ.out hown hgr
  have h3:Below u1.heap.size u1 w3:=(Below.refl _ _).drew.trans hb3
  refine hK _ _ (by rw[←hB0];exact h3) ?_
  clear hK K
  obtain⟨ga,hga⟩:∃ x,u1.heap.size=x:=⟨_,rfl⟩
  have R1:w3.heap[ga]? = some (.cells (RW ln fun _ _=>0) 76 (0,0)):=by rw[←hga];exact hrow
  have l1:ga<w3.heap.size:=lt_of_row R1
  show HK _ _ _ _ _ _ _ (Act.put _ _ (.slice (some ⟨u1.heap.size,0,none⟩) ln ln)) _
  rw[hga]
  simp only[Act.put,heldb.pa,heldb.pb,heldb.pc]
  refine hk_swap ?_
  (focus (refine heldb.hk_t (v:=?_) (by rw[←HO.out];kernel_rfl) (fun _ _ _ h=>h) ?_ (by rw[←hB0];exact h3) ?_;rotate_left;focus (intro w9 h9;go_simp;first | done | with_reducible rfl);all_goals skip))
  simp only[Act.put,heldb.pa,heldb.pb,heldb.pc]
  refine heldb.hk_s (by rw[←HO.out];kernel_rfl) (fun K hK=>?_)
  refine wp_make_full (.tmp 19) (.tmp 19) 44 rfl 76 i0 (.agg z) 256 Tryz.underlying44 HI.out.1 HI.out.2.1 HI.out.2.2.1 .i64 .i64 kn rfl rfl (by rw[HI.out.2.2.2];omega) (by unfold maxLen;omega) ?_
  intro w4 hown2 hgr2
  obtain⟨hrow2,hb4⟩:=made_row HZ.out hown2 hgr2
  have h4:Below u1.heap.size u1 w4:=h3.trans (hb4.mono h3.size)
  have h5:Below B0 u1 w4:=by rw[←hB0];exact h4
  refine hK _ _ h5 ?_
  clear hK K
  obtain⟨gb,hgb⟩:∃ x,w3.heap.size=x:=⟨_,rfl⟩
  have R2:w4.heap[gb]? = some (.cells (RW kn fun _ _=>0) 76 (0,0)):=by rw[←hgb];exact hrow2
  have R3:w4.heap[ga]? = some (.cells (RW ln fun _ _=>0) 76 (0,0)):=(hb4.block _ l1).trans R1
  rw[hgb]
  simp only[Act.put,heldb.pa,heldb.pb,heldb.pc]
  (focus (refine heldb.hk_t (v:=?_) (by rw[←HO.out];kernel_rfl) (fun _ _ _ h=>h) ?_ h5 ?_;rotate_left;focus (intro w9 h9;go_simp;first | done | with_reducible rfl);all_goals skip))
  simp only[Act.put,heldb.pa,heldb.pb,heldb.pc]
  refine hk_nil (by rw[←HO.out];kernel_rfl) ?_
  have G1:Away (w4.heap[ga]? = some (.cells (RW ln fun _ _=>0) 76 (0,0))):=⟨R3⟩
  have G2:Away (w4.heap[gb]? = some (.cells (RW kn fun _ _=>0) 76 (0,0))):=⟨R2⟩
  have Hg:Away (ga≠gb∧u1.heap.size≤ga∧u1.heap.size≤gb):=⟨by have:=h3.size;refine⟨?_,?_,?_⟩<;>omega⟩
  have B4:=Away.mk h4
  clear hown hgr hrow hb3 h3 hown2 hgr2 hrow2 hb4 h4 R1 R2 R3 l1 HO hS h5 hB0 hga hgb
  go_wp2_with fail
  have Aga:Away (At ga (RW ln (fst q 0)) 76 w4 w4):=⟨by rw[fst_zero];exact At.refl G1.out⟩
  have BXga:=B4
  go_loopw [23] (fun v wr=>∃ r:Nat,r≤ln∧v=.int .i64 (r:Int)∧Away (At ga (RW ln (fst q r)) 76 w4 wr)) (fun v _=>ln-(intOf v).toNat)
  case atStart=>exact⟨0,Nat.zero_le _,rfl,Aga⟩
  case round=>
   clear Aga
   obtain⟨r,hr,rfl,A0⟩:=hrel
   have BU:Away (Below u1.heap.size u1 wr):=⟨BXga.out.trans (A0.out.below BXga.out.size Hg.out.2.1)⟩
   have BE:Away (Below w.heap.size w wr):=⟨B1.out.trans (BU.out.mono B1.out.size)⟩
   by_cases hlt:r<ln
   ·have hltz:(r:Int)<(ln:Int):=by omega
    have hr16:r<16:=by have:=Hk.out;have:=Hl.out;omega
    have T2:Away (wr.heap[w.heap.size]? = some (.cells T 34 (0,0))):=⟨(BU.out.block _ (lt_of_row T1.out)).trans T1.out⟩
    have HPr:Away (∀ w1:World,Calls Tryz.prog 84 #[.int .i64 (r:Int),.int .i64 0] w1 fun e w'=>e=.returned (.string (x2 r 0))∧Below w1.heap.size w1 w'):=⟨fun w1=>pair_any r 0 (by omega) (by omega) w1⟩
    have HSr:Away (∀ w1:World,Below w.heap.size w w1→Calls Tryz.prog 114 #[.agg T,.string (sd++x2 r 0),.int .i64 e] w1 fun x w'=>x=.returned (.agg (FL .i64 256 (q r)))∧Below w1.heap.size w1 w'):=⟨fun w1 hb=>by
     have:=HSm.out r hr16 w1 hb
     first | exact this | (rw[hM];exact this)⟩
    have cE2:∀ d os,(Go.Sort.grow (redrawn wr d) os).cell? ⟨w.heap.size+1,2,none⟩=some (.int .i64 e):=fun d os=>HcE.out _ (BU.out.trans ((below_regrown _ _ _).mono BU.out.size))
    obtain⟨X,HX⟩:=ex_eq (x2 r 0)
    rw[HX.out]at HPr HSr
    have hXs:X.size=2:=by rw[←HX.out];rfl
    have hsz:(9223372036854775807<sd.size+2)=False:=by have:=Hsd.out;simp;omega
    obtain⟨F,HF⟩:=ex_eq (FL .i64 256 (q r))
    rw[HF.out]at HSr
    obtain⟨o6,ho6⟩:∃ o6,r*256=o6:=⟨_,rfl⟩
    have Ho6:=Away.mk ho6
    have Hlt:=Away.mk hlt
    have Hup:Away (ups (fst q r) r (q r)=fst q (r+1)):=⟨ups_fst q r⟩
    clear HX
    go_wp2_with fail
    refine qtail.region_below_tail 10 (by kernel_rfl) (by kernel_rfl) ?_
    iterate 2 (quiet_step (skip))
    refine wpQuiet_load rfl 34 _ rfl _ rfl 34 _ _ (fun w' hC=>heap_regrown T2.out hC) Tryz.underlying34 rfl HTz.out ?_
    iterate 2 (quiet_step (skip))
    quiet_step (exact Calls.regrown_of (HPr.out _))
    iterate 3 (quiet_step (skip))
    quiet_step (exact Calls.regrown_of (HSr.out _ (BE.out.trans ((below_regrown _ _ _).mono BE.out.size))))
    refine wpQuiet_nil ?_
    intro wn hC
    have hbn:Below wr.heap.size wr wn:=by
     obtain⟨pp,rfl⟩:=hC
     exact below_regrown _ _ _
    have A6:Away (At ga (RW ln (fst q r)) 76 w4 wn):=⟨A0.out.later hbn⟩
    clear hC hbn A0 hXs hsz HPr HSr cE2
    simp only[List.drop_succ_cons,List.drop_zero]
    go_wp2_with ((with_reducible refine wpList_putp A6 HF.out Hlt.out Ho6.out rfl _ _ rfl rfl ?hx ?hy ?_);(case hx=>exact rfl);(case hy=>exact rfl);intro w7 A7;rw[Hup.out]at A7)
    go_roundw
    case rel=>exact⟨r+1,by have:=Hlt.out;omega,by go_num,A7⟩
    case measure=>have:=Hlt.out;simp[intOf];omega
   ·obtain rfl:r=ln:=by omega
    rename World=>wo
    have F1:Away (wo.heap[ga]? = some (.cells (RW r (fst q r)) 76 (0,0))):=⟨A0.out.row⟩
    have Agb:Away (At gb (RW kn (fst (fun i=>q (r+i)) 0)) 76 wo wo):=⟨by rw[fst_zero];exact At.refl (A0.out.other (lt_of_row G2.out) (Ne.symm Hg.out.1) G2.out)⟩
    have BXgb:=BU
    clear A0 G1 G2
    go_wp2_with fail
    go_loopw [40] (fun v wr=>∃ r2:Nat,r2≤kn∧v=.int .i64 (r2:Int)∧Away (At gb (RW kn (fst (fun i=>q (r+i)) r2)) 76 wo wr)) (fun v _=>kn-(intOf v).toNat)
    case atStart=>exact⟨0,Nat.zero_le _,rfl,Agb⟩
    case round=>
     clear Agb
     obtain⟨r2,hr,rfl,A0⟩:=hrel
     have BU:Away (Below u1.heap.size u1 wr):=⟨BXgb.out.trans (A0.out.below BXgb.out.size Hg.out.2.2)⟩
     have BE:Away (Below w.heap.size w wr):=⟨B1.out.trans (BU.out.mono B1.out.size)⟩
     by_cases hlt:r2<kn
     ·have hltz:(r2:Int)<(kn:Int):=by omega
      have hr16:(r+r2)<16:=by have:=Hk.out;have:=Hl.out;omega
      obtain⟨M,hM⟩:∃ M,r+r2=M:=⟨_,rfl⟩
      have fM:IntKind.i64.wrap ((r:Int)+(r2:Int))=(M:Int):=by rw[IntKind.wrap_i64];omega
      have cL2:∀ d os,(Go.Sort.grow (redrawn wr d) os).cell? ⟨w.heap.size+1,1,none⟩=some (.int .i64 (r:Int)):=fun d os=>HcL.out _ (BU.out.trans ((below_regrown _ _ _).mono BU.out.size))
      have T2:Away (wr.heap[w.heap.size]? = some (.cells T 34 (0,0))):=⟨(BU.out.block _ (lt_of_row T1.out)).trans T1.out⟩
      have HPr:Away (∀ w1:World,Calls Tryz.prog 84 #[.int .i64 (M:Int),.int .i64 0] w1 fun e w'=>e=.returned (.string (x2 M 0))∧Below w1.heap.size w1 w'):=⟨fun w1=>pair_any M 0 (by omega) (by omega) w1⟩
      have HSr:Away (∀ w1:World,Below w.heap.size w w1→Calls Tryz.prog 114 #[.agg T,.string (sd++x2 M 0),.int .i64 e] w1 fun x w'=>x=.returned (.agg (FL .i64 256 (q (r+r2))))∧Below w1.heap.size w1 w'):=⟨fun w1 hb=>by
       have:=HSm.out (r+r2) hr16 w1 hb
       rw[hM]at this
       first | exact this | (rw[hM];exact this)⟩
      have cE2:∀ d os,(Go.Sort.grow (redrawn wr d) os).cell? ⟨w.heap.size+1,2,none⟩=some (.int .i64 e):=fun d os=>HcE.out _ (BU.out.trans ((below_regrown _ _ _).mono BU.out.size))
      obtain⟨X,HX⟩:=ex_eq (x2 M 0)
      rw[HX.out]at HPr HSr
      have hXs:X.size=2:=by rw[←HX.out];rfl
      have hsz:(9223372036854775807<sd.size+2)=False:=by have:=Hsd.out;simp;omega
      obtain⟨F,HF⟩:=ex_eq (FL .i64 256 (q (r+r2)))
      rw[HF.out]at HSr
      obtain⟨o6,ho6⟩:∃ o6,r2*256=o6:=⟨_,rfl⟩
      have Ho6:=Away.mk ho6
      have Hlt:=Away.mk hlt
      have Hup:Away (ups (fst (fun i=>q (r+i)) r2) r2 (q (r+r2))=fst (fun i=>q (r+i)) (r2+1)):=⟨ups_fst (fun i=>q (r+i)) r2⟩
      clear HX
      go_wp2_with fail
      refine qtail.region_below_tail 13 (by kernel_rfl) (by kernel_rfl) ?_
      iterate 2 (quiet_step (skip))
      refine wpQuiet_load rfl 34 _ rfl _ rfl 34 _ _ (fun w' hC=>heap_regrown T2.out hC) Tryz.underlying34 rfl HTz.out ?_
      iterate 5 (quiet_step (skip))
      quiet_step (exact Calls.regrown_of (HPr.out _))
      iterate 3 (quiet_step (skip))
      quiet_step (exact Calls.regrown_of (HSr.out _ (BE.out.trans ((below_regrown _ _ _).mono BE.out.size))))
      refine wpQuiet_nil ?_
      intro wn hC
      have hbn:Below wr.heap.size wr wn:=by
       obtain⟨pp,rfl⟩:=hC
       exact below_regrown _ _ _
      have A6:Away (At gb (RW kn (fst (fun i=>q (r+i)) r2)) 76 wo wn):=⟨A0.out.later hbn⟩
      clear hC hbn A0 hXs hsz HPr HSr cE2 fM cL2 hM
      simp only[List.drop_succ_cons,List.drop_zero]
      go_wp2_with ((with_reducible refine wpList_putp A6 HF.out Hlt.out Ho6.out rfl _ _ rfl rfl ?hx ?hy ?_);(case hx=>exact rfl);(case hy=>exact rfl);intro w7 A7;rw[Hup.out]at A7)
      go_roundw
      case rel=>exact⟨r2+1,by have:=Hlt.out;omega,by go_num,A7⟩
      case measure=>have:=Hlt.out;simp[intOf];omega
     ·obtain rfl:r2=kn:=by omega
      have H1:Away (Holds wr w.heap.size (.slice (some ⟨ga,0,none⟩) r r) r q):=⟨row_holds (A0.out.other (lt_of_row F1.out) Hg.out.1 F1.out) (Nat.le_trans B1.out.size Hg.out.2.1) (fun i hi=>fst_lt q r i hi)⟩
      have H2:Away (Holds wr w.heap.size (.slice (some ⟨gb,0,none⟩) r2 r2) r2 (fun i=>q (r+i))):=⟨row_holds A0.out.row (Nat.le_trans B1.out.size Hg.out.2.2) (fun i hi=>fst_lt (fun i=>q (r+i)) r2 i hi)⟩
      clear A0 F1
      go_wp2_with fail
      go_ret2
      exact⟨⟨_,_,rfl,H1.out,H2.out⟩,BE.out⟩
 ·refine wp_make_full (.tmp 19) (.tmp 19) 44 rfl 76 i0 (.agg z) 256 Tryz.underlying44 HI.out.1 HI.out.2.1 HI.out.2.2.1 .i64 .i64 kn rfl rfl (by rw[HI.out.2.2.2];omega) (by unfold maxLen;omega) ?_
  intro w3 hown hgr
  obtain⟨hrow,hb3⟩:=made_row HZ.out hown hgr
  have h3:Below u1.heap.size u1 w3:=(Below.refl _ _).drew.trans hb3
  refine hK _ _ (by rw[←hB0];exact h3) ?_
  clear hK K
  obtain⟨gb,hgb⟩:∃ x,u1.heap.size=x:=⟨_,rfl⟩
  have R1:w3.heap[gb]? = some (.cells (RW kn fun _ _=>0) 76 (0,0)):=by rw[←hgb];exact hrow
  have l1:gb<w3.heap.size:=lt_of_row R1
  show HK _ _ _ _ _ _ _ (Act.put _ _ (.slice (some ⟨u1.heap.size,0,none⟩) kn kn)) _
  rw[hgb]
  simp only[Act.put,heldb.pa,heldb.pb,heldb.pc]
  refine heldb.hk_s (by rw[←HO.out];kernel_rfl) (fun K hK=>?_)
  refine wp_make_full (.tmp 16) (.tmp 16) 44 rfl 76 i0 (.agg z) 256 Tryz.underlying44 HI.out.1 HI.out.2.1 HI.out.2.2.1 .i64 .i64 ln rfl rfl (by rw[HI.out.2.2.2];omega) (by unfold maxLen;omega) ?_
  intro w4 hown2 hgr2
  obtain⟨hrow2,hb4⟩:=made_row HZ.out hown2 hgr2
  have h4:Below u1.heap.size u1 w4:=h3.trans (hb4.mono h3.size)
  have h5:Below B0 u1 w4:=by rw[←hB0];exact h4
  refine hK _ _ h5 ?_
  clear hK K
  obtain⟨ga,hga⟩:∃ x,w3.heap.size=x:=⟨_,rfl⟩
  have R2:w4.heap[ga]? = some (.cells (RW ln fun _ _=>0) 76 (0,0)):=by rw[←hga];exact hrow2
  have R3:w4.heap[gb]? = some (.cells (RW kn fun _ _=>0) 76 (0,0)):=(hb4.block _ l1).trans R1
  rw[hga]
  iterate 2 (simp only[Act.put,heldb.pa,heldb.pb,heldb.pc];(focus (refine heldb.hk_t (v:=?_) (by rw[←HO.out];kernel_rfl) (fun _ _ _ h=>h) ?_ h5 ?_;rotate_left;focus (intro w9 h9;go_simp;first | done | with_reducible rfl);all_goals skip)))
  simp only[Act.put,heldb.pa,heldb.pb,heldb.pc]
  refine hk_nil (by rw[←HO.out];kernel_rfl) ?_
  have G1:Away (w4.heap[ga]? = some (.cells (RW ln fun _ _=>0) 76 (0,0))):=⟨R2⟩
  have G2:Away (w4.heap[gb]? = some (.cells (RW kn fun _ _=>0) 76 (0,0))):=⟨R3⟩
  have Hg:Away (ga≠gb∧u1.heap.size≤ga∧u1.heap.size≤gb):=⟨by have:=h3.size;refine⟨?_,?_,?_⟩<;>omega⟩
  have B4:=Away.mk h4
  clear hown hgr hrow hb3 h3 hown2 hgr2 hrow2 hb4 h4 R1 R2 R3 l1 HO hS h5 hB0 hgb hga
  go_wp2_with fail
  have Aga:Away (At ga (RW ln (fst q 0)) 76 w4 w4):=⟨by rw[fst_zero];exact At.refl G1.out⟩
  have BXga:=B4
  go_loopw [23] (fun v wr=>∃ r:Nat,r≤ln∧v=.int .i64 (r:Int)∧Away (At ga (RW ln (fst q r)) 76 w4 wr)) (fun v _=>ln-(intOf v).toNat)
  case atStart=>exact⟨0,Nat.zero_le _,rfl,Aga⟩
  case round=>
   clear Aga
   obtain⟨r,hr,rfl,A0⟩:=hrel
   have BU:Away (Below u1.heap.size u1 wr):=⟨BXga.out.trans (A0.out.below BXga.out.size Hg.out.2.1)⟩
   have BE:Away (Below w.heap.size w wr):=⟨B1.out.trans (BU.out.mono B1.out.size)⟩
   by_cases hlt:r<ln
   ·have hltz:(r:Int)<(ln:Int):=by omega
    have hr16:r<16:=by have:=Hk.out;have:=Hl.out;omega
    have T2:Away (wr.heap[w.heap.size]? = some (.cells T 34 (0,0))):=⟨(BU.out.block _ (lt_of_row T1.out)).trans T1.out⟩
    have HPr:Away (∀ w1:World,Calls Tryz.prog 84 #[.int .i64 (r:Int),.int .i64 0] w1 fun e w'=>e=.returned (.string (x2 r 0))∧Below w1.heap.size w1 w'):=⟨fun w1=>pair_any r 0 (by omega) (by omega) w1⟩
    have HSr:Away (∀ w1:World,Below w.heap.size w w1→Calls Tryz.prog 114 #[.agg T,.string (sd++x2 r 0),.int .i64 e] w1 fun x w'=>x=.returned (.agg (FL .i64 256 (q r)))∧Below w1.heap.size w1 w'):=⟨fun w1 hb=>by
     have:=HSm.out r hr16 w1 hb
     first | exact this | (rw[hM];exact this)⟩
    have cE2:∀ d os,(Go.Sort.grow (redrawn wr d) os).cell? ⟨w.heap.size+1,2,none⟩=some (.int .i64 e):=fun d os=>HcE.out _ (BU.out.trans ((below_regrown _ _ _).mono BU.out.size))
    obtain⟨X,HX⟩:=ex_eq (x2 r 0)
    rw[HX.out]at HPr HSr
    have hXs:X.size=2:=by rw[←HX.out];rfl
    have hsz:(9223372036854775807<sd.size+2)=False:=by have:=Hsd.out;simp;omega
    obtain⟨F,HF⟩:=ex_eq (FL .i64 256 (q r))
    rw[HF.out]at HSr
    obtain⟨o6,ho6⟩:∃ o6,r*256=o6:=⟨_,rfl⟩
    have Ho6:=Away.mk ho6
    have Hlt:=Away.mk hlt
    have Hup:Away (ups (fst q r) r (q r)=fst q (r+1)):=⟨ups_fst q r⟩
    clear HX
    go_wp2_with fail
    refine qtail.region_below_tail 10 (by kernel_rfl) (by kernel_rfl) ?_
    iterate 2 (quiet_step (skip))
    refine wpQuiet_load rfl 34 _ rfl _ rfl 34 _ _ (fun w' hC=>heap_regrown T2.out hC) Tryz.underlying34 rfl HTz.out ?_
    iterate 2 (quiet_step (skip))
    quiet_step (exact Calls.regrown_of (HPr.out _))
    iterate 3 (quiet_step (skip))
    quiet_step (exact Calls.regrown_of (HSr.out _ (BE.out.trans ((below_regrown _ _ _).mono BE.out.size))))
    refine wpQuiet_nil ?_
    intro wn hC
    have hbn:Below wr.heap.size wr wn:=by
     obtain⟨pp,rfl⟩:=hC
     exact below_regrown _ _ _
    have A6:Away (At ga (RW ln (fst q r)) 76 w4 wn):=⟨A0.out.later hbn⟩
    clear hC hbn A0 hXs hsz HPr HSr cE2
    simp only[List.drop_succ_cons,List.drop_zero]
    go_wp2_with ((with_reducible refine wpList_putp A6 HF.out Hlt.out Ho6.out rfl _ _ rfl rfl ?hx ?hy ?_);(case hx=>exact rfl);(case hy=>exact rfl);intro w7 A7;rw[Hup.out]at A7)
    go_roundw
    case rel=>exact⟨r+1,by have:=Hlt.out;omega,by go_num,A7⟩
    case measure=>have:=Hlt.out;simp[intOf];omega
   ·obtain rfl:r=ln:=by omega
    rename World=>wo
    have F1:Away (wo.heap[ga]? = some (.cells (RW r (fst q r)) 76 (0,0))):=⟨A0.out.row⟩
    have Agb:Away (At gb (RW kn (fst (fun i=>q (r+i)) 0)) 76 wo wo):=⟨by rw[fst_zero];exact At.refl (A0.out.other (lt_of_row G2.out) (Ne.symm Hg.out.1) G2.out)⟩
    have BXgb:=BU
    clear A0 G1 G2
    go_wp2_with fail
    go_loopw [40] (fun v wr=>∃ r2:Nat,r2≤kn∧v=.int .i64 (r2:Int)∧Away (At gb (RW kn (fst (fun i=>q (r+i)) r2)) 76 wo wr)) (fun v _=>kn-(intOf v).toNat)
    case atStart=>exact⟨0,Nat.zero_le _,rfl,Agb⟩
    case round=>
     clear Agb
     obtain⟨r2,hr,rfl,A0⟩:=hrel
     have BU:Away (Below u1.heap.size u1 wr):=⟨BXgb.out.trans (A0.out.below BXgb.out.size Hg.out.2.2)⟩
     have BE:Away (Below w.heap.size w wr):=⟨B1.out.trans (BU.out.mono B1.out.size)⟩
     by_cases hlt:r2<kn
     ·have hltz:(r2:Int)<(kn:Int):=by omega
      have hr16:(r+r2)<16:=by have:=Hk.out;have:=Hl.out;omega
      obtain⟨M,hM⟩:∃ M,r+r2=M:=⟨_,rfl⟩
      have fM:IntKind.i64.wrap ((r:Int)+(r2:Int))=(M:Int):=by rw[IntKind.wrap_i64];omega
      have cL2:∀ d os,(Go.Sort.grow (redrawn wr d) os).cell? ⟨w.heap.size+1,1,none⟩=some (.int .i64 (r:Int)):=fun d os=>HcL.out _ (BU.out.trans ((below_regrown _ _ _).mono BU.out.size))
      have T2:Away (wr.heap[w.heap.size]? = some (.cells T 34 (0,0))):=⟨(BU.out.block _ (lt_of_row T1.out)).trans T1.out⟩
      have HPr:Away (∀ w1:World,Calls Tryz.prog 84 #[.int .i64 (M:Int),.int .i64 0] w1 fun e w'=>e=.returned (.string (x2 M 0))∧Below w1.heap.size w1 w'):=⟨fun w1=>pair_any M 0 (by omega) (by omega) w1⟩
      have HSr:Away (∀ w1:World,Below w.heap.size w w1→Calls Tryz.prog 114 #[.agg T,.string (sd++x2 M 0),.int .i64 e] w1 fun x w'=>x=.returned (.agg (FL .i64 256 (q (r+r2))))∧Below w1.heap.size w1 w'):=⟨fun w1 hb=>by
       have:=HSm.out (r+r2) hr16 w1 hb
       rw[hM]at this
       first | exact this | (rw[hM];exact this)⟩
      have cE2:∀ d os,(Go.Sort.grow (redrawn wr d) os).cell? ⟨w.heap.size+1,2,none⟩=some (.int .i64 e):=fun d os=>HcE.out _ (BU.out.trans ((below_regrown _ _ _).mono BU.out.size))
      obtain⟨X,HX⟩:=ex_eq (x2 M 0)
      rw[HX.out]at HPr HSr
      have hXs:X.size=2:=by rw[←HX.out];rfl
      have hsz:(9223372036854775807<sd.size+2)=False:=by have:=Hsd.out;simp;omega
      obtain⟨F,HF⟩:=ex_eq (FL .i64 256 (q (r+r2)))
      rw[HF.out]at HSr
      obtain⟨o6,ho6⟩:∃ o6,r2*256=o6:=⟨_,rfl⟩
      have Ho6:=Away.mk ho6
      have Hlt:=Away.mk hlt
      have Hup:Away (ups (fst (fun i=>q (r+i)) r2) r2 (q (r+r2))=fst (fun i=>q (r+i)) (r2+1)):=⟨ups_fst (fun i=>q (r+i)) r2⟩
      clear HX
      go_wp2_with fail
      refine qtail.region_below_tail 13 (by kernel_rfl) (by kernel_rfl) ?_
      iterate 2 (quiet_step (skip))
      refine wpQuiet_load rfl 34 _ rfl _ rfl 34 _ _ (fun w' hC=>heap_regrown T2.out hC) Tryz.underlying34 rfl HTz.out ?_
      iterate 5 (quiet_step (skip))
      quiet_step (exact Calls.regrown_of (HPr.out _))
      iterate 3 (quiet_step (skip))
      quiet_step (exact Calls.regrown_of (HSr.out _ (BE.out.trans ((below_regrown _ _ _).mono BE.out.size))))
      refine wpQuiet_nil ?_
      intro wn hC
      have hbn:Below wr.heap.size wr wn:=by
       obtain⟨pp,rfl⟩:=hC
       exact below_regrown _ _ _
      have A6:Away (At gb (RW kn (fst (fun i=>q (r+i)) r2)) 76 wo wn):=⟨A0.out.later hbn⟩
      clear hC hbn A0 hXs hsz HPr HSr cE2 fM cL2 hM
      simp only[List.drop_succ_cons,List.drop_zero]
      go_wp2_with ((with_reducible refine wpList_putp A6 HF.out Hlt.out Ho6.out rfl _ _ rfl rfl ?hx ?hy ?_);(case hx=>exact rfl);(case hy=>exact rfl);intro w7 A7;rw[Hup.out]at A7)
      go_roundw
      case rel=>exact⟨r2+1,by have:=Hlt.out;omega,by go_num,A7⟩
      case measure=>have:=Hlt.out;simp[intOf];omega
     ·obtain rfl:r2=kn:=by omega
      have H1:Away (Holds wr w.heap.size (.slice (some ⟨ga,0,none⟩) r r) r q):=⟨row_holds (A0.out.other (lt_of_row F1.out) Hg.out.1 F1.out) (Nat.le_trans B1.out.size Hg.out.2.1) (fun i hi=>fst_lt q r i hi)⟩
      have H2:Away (Holds wr w.heap.size (.slice (some ⟨gb,0,none⟩) r2 r2) r2 (fun i=>q (r+i))):=⟨row_holds A0.out.row (Nat.le_trans B1.out.size Hg.out.2.2) (fun i hi=>fst_lt (fun i=>q (r+i)) r2 i hi)⟩
      clear A0 F1
      go_wp2_with fail
      go_ret2
      exact⟨⟨_,_,rfl,H1.out,H2.out⟩,BE.out⟩
end qsec
end Go.Proofs.YtomphjajkkddkaaGreatDoor
