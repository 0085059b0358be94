/-
  What the document's own Ball of layer 11 returns. Conditions: the tables have their size; what its S
-/
import Derived.Test.YtgahcabgmfbhdaaGreatDoorZt11
import Derived.Test.YtgahcabgmfbhdaaGreatDoorZt02
import Derived.Test.YtgahcabgmfbhdaaGreatDoorZt10
import Derived.Test.YtgahcabgmfbhdaaGreatDoorZt09
import Derived.Test.YtgahcabgmfbhdaaGreatDoorZt13
set_option maxRecDepth 100000
set_option maxHeartbeats 16000000
set_option linter.unusedSimpArgs false
set_option linter.unusedVariables false
open Go Go.RowKit
namespace Go.Proofs.YtgahcabgmfbhdaaGreatDoor
namespace rsball
open arr mem stil polys polt rbitc samm rsuni
theorem xwa(f:Nat→Int)(k:Nat)(x y:Int):upd (upd f k x) k y=upd f k y:=by
 funext j
 unfold upd;by_cases h:j=k
 ·rw[if_pos h,if_pos h]
 ·rw[if_neg h,if_neg h,if_neg h]
theorem xq3{T:Array Value}(b s:ByteArray)(tau:Int)(w:World)(hT:(Tryz.prog.info? 34).map (·.size)=some T.size)(h:¬ (1≤tau∧tau≤64))
 (HS:∀ w1:World,Calls Tryz.prog 31 #[.agg T,.int .i64 2,.string b,.int .i64 544] w1 (zB w1 (.tuple #[.string s,.int .i64 0]))):
 Calls Tryz.prog 74 #[.agg T,.string b,.int .i64 tau] w (zB w (.agg (FL .i64 256 fun _=>0))):=by
 obtain⟨hz,hsize⟩:=zero_of_info polt.infoP;obtain⟨z,HZ⟩:=xaa (FL .i64 256 fun _=>0);rw[HZ.out]at hz ⊢;have Hzs:z.size=256:=by rw[←HZ.out];exact xad _ _ _
 have Zi:Ω ((Tryz.prog.info? 109).map (·.size)=some z.size):=⟨by rw[Hzs];exact hsize⟩;have Zo:=zro HZ;have HTz:=ω hT;obtain⟨W,hW⟩:=zev ((w.alloc (.cells T 34)).alloc (.cells z 109));obtain⟨r0,r1,hWs,b0⟩:=two hW;have T0:Ω (W.heap[w.heap.size]? = some (.cells T 34 (0,0))):=⟨r0⟩;have R0:Ω (W.heap[w.heap.size+1]? = some (.cells z 109 (0,0))):=⟨r1⟩;have BW:=ω b0;have HWs:=ω hWs;have HW:=ω hW;have HSh:=ω HS;clear hW r0 r1 b0 hWs hsize HS hT HZ Hzs;have h:tau<1∨(¬ tau<1∧64<tau):=by omega
 rcases h with h1 | ⟨h1,h2⟩
 all_goals
  go_enter Tryz.func74,Tryz.ntmps74;go_wp2_with (first
   | (rw[HW.out])
   | (refine wpList_load_row rfl 34 _ rfl w.heap.size rfl 34 T (0,0) _ T0.out zY rfl HTz.out ?_))
  refine(HSh.out _).mono ?_;rintro x u1 ⟨rfl,hb1⟩;obtain⟨W1,hW1⟩:=zev (u1.alloc (.cells z 109));obtain⟨r1,hs1,b1⟩:=one hW1;have Rr:Ω (W1.heap[u1.heap.size]? = some (.cells z 109 (0,0))):=⟨r1⟩;have R1:Ω (W1.heap[w.heap.size+1]? = some (.cells z 109 (0,0))):=⟨((hb1.trans (b1.mono hb1.size)).block _ (by rw[HWs.out];omega)).trans R0.out⟩;have B1:Ω (Below w.heap.size w W1):=⟨BW.out.trans ((hb1.trans (b1.mono hb1.size)).mono (by rw[HWs.out];omega))⟩;have HW1:=ω hW1;clear hb1 r1 b1 hs1 hW1;go_wp2_with (first
   | (rw[HW1.out])
   | (refine wpList_load_row rfl 109 _ rfl u1.heap.size rfl 109 z (0,0) _ Rr.out zX rfl Zi.out ?_)
   | (refine wpList_store_row rfl 109 _ _ rfl (w.heap.size+1) z rfl rfl 109 _ R1.out Zi.out rfl Zo.out ?_))
  refine bodyPost_ret_by (v:=.agg z) (results_cell_row rfl _ _ (w.heap.size+1) 109 _ (0,0) _ rfl (setRow_heap _ _ _ _ _ _ R1.out) zX rfl Zi.out) rfl ?_;exact⟨rfl,B1.out.trans (below_setRow _ _ _ (Nat.le_succ _))⟩
theorem xq4{T:Array Value}(b s:ByteArray)(tau:Nat)(w:World)(hT:(Tryz.prog.info? 34).map (·.size)=some T.size)(ht1 : 1≤tau)(ht2:tau≤64)(hs:s.size=544)
 (HS:∀ w1:World,Calls Tryz.prog 31 #[.agg T,.int .i64 2,.string b,.int .i64 544] w1 (zB w1 (.tuple #[.string s,.int .i64 0]))):
 Calls Tryz.prog 74 #[.agg T,.string b,.int .i64 (tau:Int)] w (zB w (.agg (FL .i64 256 (bl (bys s) tau tau).1))):=by
 obtain⟨hz,hsize⟩:=zero_of_info polt.infoP;obtain⟨z,HZ⟩:=xaa (FL .i64 256 fun _=>0);rw[HZ.out]at hz;have Hzs:=zfs HZ;obtain⟨R,HR⟩:=xaa (FL .i64 256 (bl (bys s) tau tau).1);have Ri:=zri HR hsize;have Ro:=zro HR;have Rz:=zrz Hzs HR;have HRd:Ω (FL .i64 256 (bl (bys s) tau tau).1=R):=HR;have HTz:=ω hT;rw[HR.out];have Hix:Ω (∀ j:Nat,j<544→∀ w1:World,(Instr.index 9 (.string s) (.int .i64 (j:Int))).run Tryz.prog w1=.ok (.int .u8 ((by' (bys s) j:Nat):Int)) w1):=⟨fun j hj w1=>byte_of s j _ (by omega) rfl w1⟩;obtain⟨W,hW⟩:=zev ((w.alloc (.cells T 34)).alloc (.cells z 109));obtain⟨r0,r1,hWs,b0⟩:=two hW;have T0:Ω (W.heap[w.heap.size]? = some (.cells T 34 (0,0))):=⟨r0⟩;have R0:Ω (W.heap[w.heap.size+1]? = some (.cells z 109 (0,0))):=⟨r1⟩;have BW:=ω b0;have HWs:=ω hWs;have HW:=ω hW;have HSh:=ω HS;have g1:¬ (tau:Int)<1:=by omega
 have g2:¬ (64:Int)<(tau:Int):=by omega
 obtain⟨i0,hi0⟩:=zev (256-tau);have fi0:IntKind.i64.wrap (256-(tau:Int))=(i0:Int):=zwi;have Hi0:=ω hi0;clear hW r0 r1 b0 hWs hsize HS hT HR hi0;go_enter Tryz.func74,Tryz.ntmps74;go_wp2_with (first
  | (rw[HW.out])
  | (refine wpList_load_row rfl 34 _ rfl w.heap.size rfl 34 T (0,0) _ T0.out zY rfl HTz.out ?_))
 refine(HSh.out _).mono ?_;rintro x u1 ⟨rfl,hb1⟩;obtain⟨W1,hW1⟩:=zev (u1.alloc (.cells z 109));obtain⟨r1,hs1,b1⟩:=one hW1;have A0:Ω (At u1.heap.size (FL .i64 256 (bl (bys s) tau 0).1) 109 W1 W1):=⟨by rw[bl,HZ.out];exact At.refl r1⟩;have R1:Ω (W1.heap[w.heap.size+1]? = some (.cells z 109 (0,0))):=⟨((hb1.trans (b1.mono hb1.size)).block _ (by rw[HWs.out];omega)).trans R0.out⟩;have B1:Ω (Below w.heap.size w W1):=⟨BW.out.trans ((hb1.trans (b1.mono hb1.size)).mono (by rw[HWs.out];omega))⟩;have Hlt:Ω (w.heap.size+1<u1.heap.size):=⟨by have:=hb1.size;rw[HWs.out]at this;omega⟩;have HW1:=ω hW1;have hszi:(s.size:Int)=544:=by omega
 clear hb1 r1 b1 hs1 hW1 T0 R0 BW;go_wp2_with (rw[HW1.out]);clear hz;go_loopw [10,11] (fun c v wr=>∃ t:Nat,t≤tau∧v=.int .i64 ((i0+t:Nat):Int)∧c=.int .i64 (((bl (bys s) tau t).2:Nat):Int)∧Ω (At u1.heap.size (FL .i64 256 (bl (bys s) tau t).1) 109 W1 wr)) (fun _ v _=>256-(intOf v).toNat)
 case atStart=>exact⟨0,by omega,rfl,rfl,A0⟩
 case round=>
  clear A0;obtain⟨t,ht,rfl,rfl,A0⟩:=hrel;have BE:Ω (Below w.heap.size w wr):=⟨B1.out.trans (A0.out.below B1.out.size (by have:=Hlt.out;omega))⟩;obtain⟨o,hoo⟩:=zev ((bl (bys s) tau t).1);obtain⟨a0,ha0⟩:=zev ((bl (bys s) tau t).2);have ha544:=bl_le (bys s) tau t;rw[ha0]at ha544 ⊢;by_cases htt:t<tau
  ·rw[hoo]at A0;obtain⟨i,hi⟩:=zev (i0+t);have hi256:i<256:=by have:=Hi0.out;omega
   have hiz:(i:Int)<256:=by omega
   have Hi:Ω (256-tau+t=i):=⟨by rw[Hi0.out];exact hi⟩;have Hi':=ω hi;rw[hi];have Ho:=ω hoo;have Ha0:=ω ha0;clear hi hoo ha0;go_wp2_with fail;go_loopw [10] (fun v wv=>∃ f a:Nat,544≤a+f∧a≤544∧nx (bys s) i f a=nx (bys s) i 544 a0∧v=.int .i64 (a:Int)∧wr=wv) (fun v _=>544-(intOf v).toNat)
   case atStart=>exact⟨544,a0,by omega,ha544,rfl,rfl,rfl⟩
   case round=>
    obtain⟨f,a,hf,ha,hnx,rfl,rfl⟩:=hrel;by_cases hlt:a<544
    ·have haz:(a:Int)<544:=by omega
     have hix:=Hix.out a hlt;obtain⟨β,hβ⟩:∃ β,by' (bys s) a = β := ⟨_,rfl⟩
     have hβ8 : β < 256:=by rw[←hβ];exact xb4 s _
     rw[hβ]at hix;have wβ : IntKind.i64.wrap (β : Int)=(β : Int):=by rw[IntKind.wrap_i64];omega
     by_cases hbig:i < β
     ·have hbz:(i:Int)<(β : Int):=by omega
      obtain⟨f,rfl⟩:∃ f',f=f'+1:=⟨f-1,by omega⟩;rw[nx,if_pos ⟨hlt,by rw[hβ];exact hbig⟩]at hnx;clear hβ hbig;go_wp2_with fail;go_roundw
      case rel=>exact⟨f,a+1,by omega,by omega,hnx,by go_num,trivial⟩
      case measure=>simp[intOf];omega
     ·have hbz:¬ (i:Int)<(β : Int):=by omega
      rw[xgc (bys s) i f a (by rw[hβ];omega)]at hnx;have hane:((a:Int)==544)=false:=beq_eq_false_iff_ne.2 (by omega);obtain⟨v,hv⟩:∃ v,o β = v:=⟨_,rfl⟩;have co:wr.cell? ⟨u1.heap.size,β,none⟩=some (.int .i64 v):=by rw[←hv];exact xaq A0.out.row β hβ8
      have fit:IntKind.i64.wrap ((i:Int)+(tau:Int))=((i+tau:Nat):Int):=zwi;have fit2:IntKind.i64.wrap ((i:Int)+(tau:Int)-256)=(t:Int):=by have:=Hi.out;rw[IntKind.wrap_i64];omega
      have fit3:(i:Int)+(tau:Int)-256=(t:Int):=by have:=Hi.out;omega
      obtain⟨d,hd⟩:=zev (t / 8);obtain⟨r,hr⟩:=zev (t%8);have hid:=Hix.out d (by omega);obtain⟨γ,hγ⟩:∃ γ,by' (bys s) d = γ := ⟨_,rfl⟩
      have hγ8 : γ < 256:=by rw[←hγ];exact xb4 s _
      rw[hγ]at hid;obtain⟨y,hy⟩:=zev (γ / 2 ^ r);have hy8:y<256:=by rw[←hy];exact Nat.lt_of_le_of_lt (Nat.div_le_self _ _) hγ8
      have fy:(γ : Int) / 2 ^ r=(y:Int):=by rw[←hy];simp
      have fand:=xja y hy8;obtain⟨bb,hbb⟩:=zev (y%2);rw[hbb]at fand;have fd:(t:Int).tdiv 8=(d:Int):=by rw[Int.tdiv_eq_ediv_of_nonneg (by omega)];omega
      have fd2:(t:Int) / 8=(d:Int):=by omega
      have fdw:IntKind.i64.wrap ((t:Int).tdiv 8)=(d:Int):=by rw[fd,IntKind.wrap_i64];omega
      have fr:(t:Int).tmod 8=(r:Int):=by rw[Int.tmod_eq_emod_of_nonneg (by omega)];omega
      have fr2:(t:Int)%8=(r:Int):=by omega
      have fru:IntKind.u64.wrap (r:Int)=(r:Int):=by rw[IntKind.wrap_u64];omega
      have hr7:r≤7:=by omega
      have Hsg:Ω (sgn (bys s) t=if bb=1 then 8380416 else 1):=⟨by unfold sgn;rw[hd,hr,hγ,hy,hbb]⟩;have Hbl:Ω (bl (bys s) tau (t+1)=(upd (upd o i v) β (sgn (bys s) t),a+1)):=⟨by
       rw[bl,Hi.out,Ha0.out,←hnx,Ho.out];show (if a=544 then _ else _)=_;rw[if_neg (by omega),hβ,hv]⟩
      clear hβ hv hd hr hγ hy hnx hbig;by_cases hb1:bb=1
      ·subst hb1;have Hs1:Ω (upd (upd (upd o i v) β 1) β 8380416=(bl (bys s) tau (t+1)).1):=⟨by rw[Hbl.out,xwa,Hsg.out,if_pos rfl]⟩;have Ha1:Ω ((bl (bys s) tau (t+1)).2=a+1):=⟨by rw[Hbl.out]⟩;clear hbb;go_wp2_with ((with_reducible refine xaf (by assumption) rfl _ _ _ rfl rfl ?_);refine⟨_,_,_,rfl,rfl,rfl,(by rw[xad];omega),?_⟩;intro wn HRn;rw[xap]at HRn);rw[Hs1.out]at HRn;go_roundw
       case rel=>exact⟨t+1,by omega,by rw[show ((i0+(t+1):Nat):Int)=(i:Int)+1 by have:=Hi'.out;omega],by rw[Ha1.out];go_num,HRn⟩
       case measure=>simp[intOf];omega
      ·have hb0:bb=0:=by omega
       subst hb0;have Hs1:Ω (upd (upd o i v) β 1=(bl (bys s) tau (t+1)).1):=⟨by rw[Hbl.out,Hsg.out,if_neg (by omega)]⟩;have Ha1:Ω ((bl (bys s) tau (t+1)).2=a+1):=⟨by rw[Hbl.out]⟩;clear hbb hb1;go_wp2_with ((with_reducible refine xaf (by assumption) rfl _ _ _ rfl rfl ?_);refine⟨_,_,_,rfl,rfl,rfl,(by rw[xad];omega),?_⟩;intro wn HRn;rw[xap]at HRn);rw[Hs1.out]at HRn;go_roundw
       case rel=>exact⟨t+1,by omega,by rw[show ((i0+(t+1):Nat):Int)=(i:Int)+1 by have:=Hi'.out;omega],by rw[Ha1.out];go_num,HRn⟩
       case measure=>simp[intOf];omega
    ·obtain rfl:a=544:=by omega
     rw[xgc (bys s) i f 544 (by omega)]at hnx;have hbl:bl (bys s) tau (t+1)=(o,544):=by
      rw[bl,Hi.out,Ha0.out,←hnx,Ho.out];exact if_pos rfl
     have e1:(bl (bys s) tau tau).1=o:=by rw[xmm (bys s) tau (t+1) tau (by rw[hbl]) htt,hbl]
     have hFL:FL .i64 256 o=R:=by rw[←e1];exact HRd.out
     rw[hFL]at A0;have Hrow:=ω A0.out.row;have Hres:Ω (wr.heap[w.heap.size+1]? = some (.cells z 109 (0,0))):=⟨A0.out.other (xac R1.out) (by have:=Hlt.out;omega) R1.out⟩;clear hbl e1 hFL A0 hnx;simp only[Int.cast_ofNat_Int];go_wp2_with (first
      | (refine wpList_load_row rfl 109 _ rfl u1.heap.size rfl 109 R (0,0) _ Hrow.out zX rfl Ri.out ?_)
      | (refine wpList_store_row rfl 109 _ _ rfl (w.heap.size+1) R rfl rfl 109 _ Hres.out Ri.out Rz.out Ro.out ?_))
     refine bodyPost_ret_by (v:=.agg R) (results_cell_row rfl _ _ (w.heap.size+1) 109 _ (0,0) _ rfl (setRow_heap _ _ _ _ _ _ Hres.out) zX rfl Ri.out) rfl ?_;exact⟨rfl,BE.out.trans (below_setRow _ _ _ (Nat.le_succ _))⟩
  ·obtain rfl:t=tau:=by omega
   have hit:((i0+t:Nat):Int)=256:=by have:=Hi0.out;omega
   rw[hit];rw[HRd.out]at A0;have Hrow:=ω A0.out.row;have Hres:Ω (wr.heap[w.heap.size+1]? = some (.cells z 109 (0,0))):=⟨A0.out.other (xac R1.out) (by have:=Hlt.out;omega) R1.out⟩;clear A0 hit hoo ha0;go_wp2_with (first
    | (refine wpList_load_row rfl 109 _ rfl u1.heap.size rfl 109 R (0,0) _ Hrow.out zX rfl Ri.out ?_)
    | (refine wpList_store_row rfl 109 _ _ rfl (w.heap.size+1) R rfl rfl 109 _ Hres.out Ri.out Rz.out Ro.out ?_))
   refine bodyPost_ret_by (v:=.agg R) (results_cell_row rfl _ _ (w.heap.size+1) 109 _ (0,0) _ rfl (setRow_heap _ _ _ _ _ _ Hres.out) zX rfl Ri.out) rfl ?_;exact⟨rfl,BE.out.trans (below_setRow _ _ _ (Nat.le_succ _))⟩
end rsball
namespace rsmsk
open arr mem stil polys polt rbitb rbitc rndm saml
theorem xki{T:Array Value}(ln fn lw m p:Nat)(k e t a b o s:Int)(sd:ByteArray)(sk:Nat→ByteArray)(q:Nat→Nat→Int)(w:World)(hT:(Tryz.prog.info? 34).map (·.size)=some T.size)(hl : 1≤ln∧ln≤8)(hf:fn≤65000)(hlw:lw≤64)(hm:lw+1=m)(hp : 32*m=p)(ha : 1≤a∧a≤1048576)(h:latt k (ln:Int) e t a b o s=true)(hsd:sd.size≤1125899906842624)
 (HL:∀ w1:World,Calls Tryz.prog 125 #[.int .i64 (a-1)] w1 (zE w1 (.int .i64 (lw:Int))))
 (HS:∀ r:Nat,r<8→∀ w1:World,Calls Tryz.prog 31 #[.agg T,.int .i64 2,.string (tw sd ((fn+r)%256) ((fn+r) / 256)),.int .i64 (p:Int)] w1 (zB w1 (.tuple #[.string (sk r),.int .i64 0])))
 (HU:∀ r:Nat,r<8→∀ w1:World,Calls Tryz.prog 126 #[.string (sk r),.int .i64 (a-1),.int .i64 a] w1 (zB w1 (.tuple #[.agg (FL .i64 256 (q r)),.int .i64 0]))):
 Calls Tryz.prog 71 #[.agg T,.agg (zLt k (ln:Int) e t a b o s),.string sd,.int .i64 (fn:Int)] w fun x w'=>(∃ v1,x=.returned v1∧w'.ownsRow w.heap.size 109 256 v1 ln (cq q ln))∧Below w.heap.size w w':=by
 have HR:Ω (∀ w1:World,Calls Tryz.prog 68 #[.agg (zLt k (ln:Int) e t a b o s)] w1 (zB w1 (.bool true))):=⟨fun w1=>by rw[←h];exact rfright.xbn _ _ e t a b o s w1⟩;obtain⟨i0,hi,hz0,hz1,hz2⟩:=parts infoPoly;obtain⟨hz,hsize⟩:=zero_of_info polt.infoP;obtain⟨z,HZ⟩:=xaa (FL .i64 256 fun _=>0);rw[HZ.out]at hz hz0;have HI:=ω (And.intro hi (And.intro hz0 (And.intro hz1 hz2)));have Hzs:=zfs HZ;have Hsize:=ω hsize;clear hi hz0 hz1 hz2 hsize;obtain⟨C,HC⟩:=xaa ((zLt k (ln:Int) e t a b o s):Array Value);rw[HC.out]at HR ⊢;have HCs:Ω ((Tryz.prog.info? 37).map (·.size)=some C.size):=⟨by rw[←HC.out];kernel_rfl⟩;obtain⟨W,hW⟩:=zev ((w.alloc (.cells T 34)).alloc (.cells C 37));obtain⟨r0,r1,hWs,b0⟩:=two hW;have T0:Ω (W.heap[w.heap.size]? = some (.cells T 34 (0,0))):=⟨r0⟩;have L0:Ω (W.heap[w.heap.size+1]? = some (.cells C 37 (0,0))):=⟨r1⟩;have BW:=ω b0;have HWs:=ω hWs;have HW:=ω hW;have HSm:=ω HS;have HUn:=ω HU;have HLo:=ω HL;have HTz:=ω hT;have Hl:=ω hl;have Hsd:=ω hsd;have Ha:=ω ha;have Hlw:=ω hlw;have g1:¬ (fn:Int)<0:=by omega
 have g2:¬ (65000:Int)<(fn:Int):=by omega
 clear hW r0 r1 b0 h HS HU HL hT hl hsd hWs ha hlw;go_enter Tryz.func71,Tryz.ntmps71;go_wp2_with (first
  | (rw[HW.out])
  | (refine wpList_load_row rfl 37 _ rfl (w.heap.size+1) rfl 37 _ (0,0) _ L0.out zZ rfl HCs.out ?_))
 refine(HR.out _).mono ?_;rintro x u1 ⟨rfl,hb1⟩;have B1:Ω (Below w.heap.size w u1):=⟨BW.out.trans (hb1.mono (by rw[HWs.out];omega))⟩;have T1:Ω (u1.heap[w.heap.size]? = some (.cells T 34 (0,0))):=⟨(hb1.block _ (by rw[HWs.out];omega)).trans T0.out⟩;have L1:Ω (u1.heap[w.heap.size+1]? = some (.cells C 37 (0,0))):=⟨(hb1.block _ (by rw[HWs.out];omega)).trans L0.out⟩;have cL:∀ w1:World,Below u1.heap.size u1 w1→w1.cell? ⟨w.heap.size+1,1,none⟩=some (.int .i64 (ln:Int)):=fun w1 hb=>xab ((hb.block _ (xac L1.out)).trans L1.out) (by rw[←HC.out];rfl)
 have cA:∀ w1:World,Below u1.heap.size u1 w1→w1.cell? ⟨w.heap.size+1,4,none⟩=some (.int .i64 a):=fun w1 hb=>xab ((hb.block _ (xac L1.out)).trans L1.out) (by rw[←HC.out];rfl)
 have HcA:=ω cA;have cA1:=cA u1 (Below.refl _ _);have cL1:=cL u1 (Below.refl _ _);have fa:IntKind.i64.wrap (a-1)=a-1:=by rw[IntKind.wrap_i64];have:=Ha.out;omega
 have flw:IntKind.i64.wrap ((lw:Int)+1)=(m:Int):=by rw[IntKind.wrap_i64];have:=Hlw.out;omega
 have fmw:IntKind.i64.wrap (32*(m:Int))=(p:Int):=by rw[IntKind.wrap_i64];have:=Hlw.out;omega
 have fmp : 32*(m:Int)=(p:Int):=by omega
 have hpz:p≤2080:=by have:=Hlw.out;omega
 have hpi:(p:Int)≤2080:=by omega
 clear hm hp;clear hb1 cL cA;go_wp2_with fail;refine(HLo.out _).mono ?_;rintro x u1 ⟨rfl,rfl⟩;go_wp2_with fail;clear cA1 cL1;go_loopw [10,35] (fun x v wr=>∃ r:Nat,r≤ln∧v=.int .i64 (r:Int)∧Ω (wr.ownsRow u1.heap.size 109 256 x r (cq q r))∧Ω (Below u1.heap.size u1 wr)) (fun _ v _=>ln-(intOf v).toNat)
 case atStart=>exact⟨0,Nat.zero_le _,rfl,⟨⟨rfl,Or.inl ⟨rfl,rfl⟩⟩⟩,⟨Below.refl _ _⟩⟩
 case round=>
  obtain⟨r,hr,rfl,Ox,Hb⟩:=hrel;by_cases hlt:r<ln
  ·have hltz:(r:Int)<(ln:Int):=by omega
   have hr8:r<8:=by have:=Hl.out;omega
   obtain⟨n,hn⟩:=zev (fn+r);obtain⟨lo,hlo⟩:=zev (n%256);obtain⟨hi,hhi⟩:=zev (n / 256);have HSr:=HSm.out r hr8;rw[hn,hlo,hhi]at HSr;have fnr:(fn:Int)+(r:Int)=(n:Int):=by omega
   have fnw:IntKind.i64.wrap ((fn:Int)+(r:Int))=(n:Int):=by rw[fnr,IntKind.wrap_i64];omega
   have flo:IntKind.u8.wrap (n:Int)=(lo:Int):=by rw[IntKind.wrap_u8];omega
   have fhi:(n:Int) / 256=(hi:Int):=by omega
   have fhw:IntKind.u8.wrap (hi:Int)=(hi:Int):=by rw[IntKind.wrap_u8];omega
   have T2:Ω (wr.heap[w.heap.size]? = some (.cells T 34 (0,0))):=⟨(Hb.out.block _ (xac T1.out)).trans T1.out⟩;obtain⟨W2,hW2⟩:=zev (wr.alloc (.cells #[.int .u8 (lo:Int),.int .u8 (hi:Int)] 5));obtain⟨r2,hs2,b2⟩:=one hW2;have hcv:=xc6 (t:=5) (l:=[lo,hi]) (cap:=2) (n:=2) rfl (by simp;omega) r2;obtain⟨X,hX⟩:∃ X:ByteArray,⟨(u8s [lo,hi]).toArray⟩=X:=⟨_,rfl⟩;have hXs:X.size=2:=by rw[←hX];rfl
   have hcat:sd++X=tw sd lo hi:=by rw[←hX];rfl
   rw[hX]at hcv;have B2:=zbt Hb b2;have HW2:=ω hW2;have hsd:=Hsd.out;rw[←hcat]at HSr;have HSr:=ω HSr;have Hlt:=ω hlt;clear hX hcat r2 hs2 b2 hW2 hn hlo hhi;go_wp2_with fail;refine wp_load_row 34 _ rfl w.heap.size rfl 34 T (0,0) _ T2.out zY rfl HTz.out ?_;go_wp2_with (rw[HW2.out]);refine(HSr.out _).mono ?_;rintro x1 w3 ⟨rfl,hb3⟩;have B3:=zbt B2 hb3;have D3:Ω (Below wr.heap.size wr w3):=⟨by rw[←HW2.out]at hb3;exact(xbg _ _).trans (hb3.mono (by rw[size_alloc];omega))⟩;have cA3:=HcA.out w3 B3.out;have HUr:=HUn.out r hr8;obtain⟨F,HF⟩:=xaa (FL .i64 256 (q r));have Fs:=zfs HF;have Fo:=zro HF;have Fi:=zsz Fs Hsize.out;have Fz:Ω (z.size=F.size):=⟨by rw[Hzs.out,Fs.out]⟩;rw[HF.out]at HUr;have HUr:=ω HUr;clear hb3 hcv fnr fnw flo fhi fhw fmw fmp hXs;go_wp2_with fail;refine(HUr.out _).mono ?_;rintro x2 w5 ⟨rfl,hb5⟩;have B5:=zbt B3 hb5;have D5:=zbt D3 hb5;obtain⟨W4,hW4⟩:=zev (w5.alloc (.cells F 109));obtain⟨r4,hs4,b4⟩:=one hW4;have B4:=zbt B5 b4;have D4:=zbt D5 b4;have R4:Ω (W4.heap[w5.heap.size]? = some (.cells F 109 (0,0))):=⟨r4⟩;have Oxp:Ω (W4.ownsRow u1.heap.size 109 256 u10 r (cq q r)):=⟨xbu Ox.out D4.out⟩;have HW4:=ω hW4;have hws:u1.heap.size≤W4.heap.size:=B4.out.size;have HF0:Ω (∀ cs:Array Value,cs.size=256→Instr.fill (fun i=>some (i*i0.size,i0.size)) cs [(0,.agg F)]=some F):=⟨fun cs hc=>by rw[HI.out.2.2.1];exact xd5 F cs Fs.out hc⟩;have Hzc:Ω ((Value.agg z).cells.size=256):=⟨Hzs.out⟩;clear hb5 hW4 r4 hs4 b4 Ox cA3;go_wp2_with (first
    | (refine xam rfl 109 _ _ rfl F rfl rfl Fi.out (by exact Fz.out) Fo.out rfl ?_)
    | (rw[HW4.out]))
   refine wp_load_row 109 _ rfl w5.heap.size rfl 109 F (0,0) _ R4.out zX rfl Fi.out ?_;go_wp2_with fail;refine wp_buildSlice 67 109 1 _ rfl F i0 (.agg z) Tryz.underlying67 HI.out.1 HI.out.2.1 (by rw[HI.out.2.2.1];decide) (by rw[HI.out.2.2.1];decide) ?hf ?_
   case hf=>
    go_simp
    exact⟨⟨decide_eq_false (fun h=>h (Fs.out.trans HI.out.2.2.1.symm)),by rw[Fs.out,HI.out.2.2.1];exact Nat.le_refl _⟩,xev F _ Fs.out (by simp[HI.out.2.2.1])⟩
   go_wp2_with (at_builtin;refine wpList_append_own _ rfl _ _ 67 rfl u1.heap.size 109 i0 (.agg z) 256 2048 Tryz.underlying67 HI.out.1 HI.out.2.1 HI.out.2.2.1 HI.out.2.2.2 Hzc.out (by decide) _ _ _ rfl (Oxp.out.alloc _) ⟨W4.heap.size,0,none⟩ 1 1 F.toList rfl (by rw[Array.length_toList,Fs.out]) (fun j u hu=>xdi hu) (fun u hu=>xd1 Fo.out u hu) (by unfold maxLen;omega) (by omega) (by rw[size_alloc];omega) ?_);intro v' w8 hown' hgrow _;have hb8:Below u1.heap.size W4 w8:=((Below.refl u1.heap.size W4).alloc hws _).grown hgrow (by rw[size_alloc];omega) (fun k hk=>(Oxp.out.lt k hk).1);have B8:Ω (Below u1.heap.size u1 w8):=⟨B4.out.trans hb8⟩;have O8:Ω (w8.ownsRow u1.heap.size 109 256 v' (r+1) (cq q (r+1))):=⟨by rw[cq,HF.out];exact hown'⟩;clear hown' hgrow hb8;go_wp2_with fail;go_roundw
   case rel=>exact⟨r+1,by have:=Hlt.out;omega,by go_num,O8,B8⟩
   case measure=>have:=Hlt.out;simp[intOf];omega
  ·obtain rfl:r=ln:=by omega
   have Fx:Ω (wr.ownsRow w.heap.size 109 256 u10 r (cq q r)):=⟨xgf Ox.out B1.out.size⟩;clear Ox;go_wp2_with fail;go_ret;exact⟨⟨_,rfl,Fx.out⟩,B1.out.trans (Hb.out.mono B1.out.size)⟩
end rsmsk
namespace rbitc
open arr mem stil bitm polys rbita rbitb
theorem xtf(s:ByteArray)(wd:Nat)(w:World)(hw:wd≤23)(hs : 32*wd≤s.size):
 Calls Tryz.prog 178 #[.string s,.int .i64 (wd:Int)] w (zB w (.agg (FL .i64 256 fun i=>((bt (pk 8 (bys s)) wd i wd:Nat):Int)))):=by
 obtain⟨hz,hsize⟩:=zero_of_info infoP;obtain⟨z,HZ⟩:=xaa (FL .i64 256 fun _=>0);rw[HZ.out]at hz;have Hzs:=zfs HZ;obtain⟨N,HN⟩:=xaa (pk 8 (bys s));rw[HN.out];obtain⟨R,HR⟩:=xaa (FL .i64 256 fun i=>((bt N wd i wd:Nat):Int));have Ri:=zri HR hsize;have Ro:=zro HR;have Rz:=zrz Hzs HR;rw[HR.out];obtain⟨W,hW⟩:=zev ((w.alloc (.cells z 109)).alloc (.cells z 109));have HW:=ω hW;have hWs:W.heap.size=w.heap.size+2:=by rw[←hW,size_alloc,size_alloc]
 have BW:Ω (Below w.heap.size w W):=⟨by rw[←hW];exact((Below.refl _ _).alloc (Nat.le_refl _) _).alloc (by rw[size_alloc];omega) _⟩;have R0:Ω (W.heap[w.heap.size]? = some (.cells z 109 (0,0))):=⟨by rw[←hW,xaj _ _ _ (by rw[size_alloc];omega)];exact xae _ _ _ rfl⟩;have R1:Ω (W.heap[w.heap.size+1]? = some (.cells (FL .i64 256 (pt (fun i=>((bt N wd i wd:Nat):Int)) (fun _=>0) 0)) 109 (0,0))):=⟨by rw[←hW,xba,HZ.out];exact xae _ _ _ (by rw[size_alloc])⟩;clear hW hsize;go_enter Tryz.func178,Tryz.ntmps178;go_wp2_with (rw[HW.out]);clear hz;go_loopw [9] (fun v wr=>∃ i:Nat,i≤256∧v=.int .i64 (i:Int)∧Ω (At (w.heap.size+1) (FL .i64 256 (pt (fun i=>((bt N wd i wd:Nat):Int)) (fun _=>0) i)) 109 W wr)) (fun v _=>256-(intOf v).toNat)
 case atStart=>exact⟨0,Nat.zero_le _,rfl,⟨At.refl R1.out⟩⟩
 case round=>
  obtain⟨i,hi,rfl,A0⟩:=hrel;by_cases hlt:i<256
  ·have hiz:(i:Int)<256:=by omega
   have hiw:wd*i+wd≤8*s.size:=by
    have h1:wd*(i+1)≤wd*256:=Nat.mul_le_mul_left _ hlt;rw[Nat.mul_succ]at h1;omega
   have hiw3:wd*i≤23*256:=Nat.mul_le_mul hw (by omega);obtain⟨iw,hiw2⟩:=zev (wd*i);have fi:(i:Int)*(wd:Int)=(iw:Int):=by rw[←hiw2,Int.natCast_mul,Int.mul_comm]
   have fiw:IntKind.i64.wrap ((i:Int)*(wd:Int))=(iw:Int):=by rw[fi,IntKind.wrap_i64];omega
   have Hiw:=ω hiw2;rw[hiw2]at hiw hiw3;have A00:Ω (At (w.heap.size+1) (FL .i64 256 (upd (pt (fun i=>((bt N wd i wd:Nat):Int)) (fun _=>0) i) i ((bt N wd i 0:Nat):Int))) 109 W wr):=⟨by
    rw[xdj .i64 256 (h':=pt (fun i=>((bt N wd i wd:Nat):Int)) (fun _=>0) i) (fun j _=>by
     unfold upd pt;by_cases e:j=i
     ·rw[if_pos e,if_neg (by omega)];unfold bt;rw[Nat.pow_zero,Nat.mod_one];rfl
     ·rw[if_neg e])]
    exact A0.out⟩
   clear hiw2 A0;go_wp2_with fail;go_loopw [13] (fun v wr=>∃ k:Nat,k≤wd∧v=.int .i64 (k:Int)∧Ω (At (w.heap.size+1) (FL .i64 256 (upd (pt (fun i=>((bt N wd i wd:Nat):Int)) (fun _=>0) i) i ((bt N wd i k:Nat):Int))) 109 W wr)) (fun v _=>wd-(intOf v).toNat)
   case atStart=>exact⟨0,Nat.zero_le _,rfl,A00⟩
   case round=>
    clear A00;obtain⟨k,hk,rfl,A0⟩:=hrel;by_cases hklt:k<wd
    ·have hkz:(k:Int)<(wd:Int):=by omega
     obtain⟨m,hm⟩:=zev (iw+k);obtain⟨j,hj⟩:=zev (m / 8);obtain⟨r,hr⟩:=zev (m%8);have hjs:j<s.size:=by omega
     obtain⟨β,hβ⟩:∃ β,(bys s).getD j 0 = β := ⟨_,rfl⟩;have hβ8 : β < 256:=by
      rw[←hβ,List.getD_eq_getElem?_getD,List.getElem?_eq_getElem (by rw[xa0];exact hjs)];exact xao s _ (List.getElem_mem _)
     have hidx:=byte_of s j β hjs hβ;obtain⟨y,hy⟩:=zev (β / 2 ^ r);have hyx:y ≤ β := by rw[←hy];exact Nat.div_le_self _ _
     obtain⟨b,hb⟩:=zev (y%2);have hb2:b<2:=by omega
     have hbN:N / 2 ^ m%2=b:=by
      have h9:=xrj s m (by rw[hj];exact hjs);rw[hj,hr,hβ,hy,hb,HN.out]at h9;exact h9.symm
     obtain⟨a,ha⟩:=zev (bt N wd i k);have ha2:a<2 ^ k:=by rw[←ha];exact Nat.mod_lt _ (Nat.two_pow_pos _)
     have hk23 : 2 ^ k≤2 ^ 23:=Nat.pow_le_pow_right (by decide) (by omega);obtain⟨c,hc⟩:=zev (b*2 ^ k);have hcl:c≤2 ^ 23:=by
      rw[←hc];have h2:b*2 ^ k≤1*2 ^ k:=Nat.mul_le_mul_right _ (by omega);omega
     have V:=xge a c (by omega) (by omega);have hac:a ||| c=bt N wd i (k+1):=by
      rw[←hc,xkp a b k ha2,xra,ha,Hiw.out,hm,hbN]
     rw[hac]at V;obtain⟨v,hv⟩:=zev (bt N wd i (k+1));rw[hv]at V;have fm:(iw:Int)+(k:Int)=(m:Int):=by omega
     have fmw:IntKind.i64.wrap ((iw:Int)+(k:Int))=(m:Int):=by rw[fm,IntKind.wrap_i64];omega
     have fj:(m:Int).tdiv 8=(j:Int):=by rw[Int.tdiv_eq_ediv_of_nonneg (by omega)];omega
     have fjw:IntKind.i64.wrap ((m:Int).tdiv 8)=(j:Int):=by rw[fj,IntKind.wrap_i64];omega
     have fjw2:IntKind.i64.wrap (j:Int)=(j:Int):=zwi;have fcw2:IntKind.i64.wrap (c:Int)=(c:Int):=zwi;have fr:(m:Int).tmod 8=(r:Int):=by rw[Int.tmod_eq_emod_of_nonneg (by omega)];omega
     have fku:IntKind.u64.wrap (k:Int)=(k:Int):=by rw[IntKind.wrap_u64];omega
     have fru:IntKind.u64.wrap (r:Int)=(r:Int):=by rw[IntKind.wrap_u64];omega
     have fy:(β : Int) / 2 ^ r=(y:Int):=by rw[←hy];simp
     have fand:=xja y (by omega);rw[hb]at fand;have fbw:IntKind.i64.wrap (b:Int)=(b:Int):=zwi;have fc:(b:Int)*2 ^ k=(c:Int):=by rw[←hc,Int.natCast_mul,Int.natCast_pow];rfl
     have fcw:IntKind.i64.wrap ((b:Int)*2 ^ k)=(c:Int):=by rw[fc,IntKind.wrap_i64];omega
     have ca:wr.cell? ⟨w.heap.size+1,i,none⟩=some (.int .i64 (a:Int)):=by
      rw[←ha];have h9:=xaq A0.out.row i hlt;unfold upd at h9;rw[if_pos rfl]at h9;exact h9
     have hk63:k≤63:=by omega
     have hr63:r≤7:=by omega
     have Hv:=ω hv;clear hm hj hr hy hb hβ hc hv ha hbN hac;go_wp2_with fail;refine xay 18 (by kernel_rfl) (by kernel_rfl) ?_;simp only[List.take_succ_cons,List.take_zero,List.drop_succ_cons,List.drop_zero];repeat still_step
     refine wpStill_nil ?_;have A1:Ω (At (w.heap.size+1) (FL .i64 256 (upd (pt (fun i=>((bt N wd i wd:Nat):Int)) (fun _=>0) i) i ((bt N wd i k:Nat):Int))) 109 W wr.drew):=⟨xag A0.out⟩;clear ca fm fmw fj fjw fjw2 fcw2 fr fku fru fy fand fbw fc fcw V A0 hidx
     with_reducible refine xaf A1 rfl _ _ _ rfl rfl ?_
     refine⟨_,_,_,rfl,rfl,rfl,by rw[xad];exact hlt,?_⟩;intro wn HR;rw[xap,xdj .i64 256 (h':=upd (pt (fun i=>((bt N wd i wd:Nat):Int)) (fun _=>0) i) i ((bt N wd i (k+1):Nat):Int)) (fun j _=>by
      unfold upd;by_cases e:j=i
      ·rw[if_pos e,if_pos e,Hv.out]
      ·rw[if_neg e,if_neg e,if_neg e])]at HR
     go_wp2_with fail;go_roundw
     case rel=>exact⟨k+1,by omega,by go_num,HR⟩
     case measure=>simp[intOf];omega
    ·obtain rfl:k=wd:=by omega
     have A1:Ω (At (w.heap.size+1) (FL .i64 256 (pt (fun i=>((bt N k i k:Nat):Int)) (fun _=>0) (i+1))) 109 W wr):=⟨by
      rw[←xa4 (fun i=>((bt N k i k:Nat):Int)) (fun _=>0) i _ rfl];exact A0.out⟩
     clear A0;go_wp2_with fail;go_roundw
     case rel=>exact⟨i+1,by omega,by go_num,A1⟩
     case measure=>simp[intOf];omega
  ·obtain rfl:i=256:=by omega
   simp only[Int.cast_ofNat_Int];rw[xa8,HR.out]at A0;have Hrow:=ω A0.out.row;have Hres:Ω (wr.heap[w.heap.size]? = some (.cells z 109 (0,0))):=⟨A0.out.other (by omega) (by omega) R0.out⟩;have HB:Ω (Below w.heap.size w wr):=⟨BW.out.trans (A0.out.below (by omega) (by omega))⟩;clear A0;go_wp2_with (first
    | (refine wpList_load_row rfl 109 _ rfl (w.heap.size+1) rfl 109 R (0,0) _ Hrow.out zX rfl Ri.out ?_)
    | (refine wpList_store_row rfl 109 _ _ rfl w.heap.size R rfl rfl 109 _ Hres.out Ri.out Rz.out Ro.out ?_))
   refine bodyPost_ret_by (v:=.agg R) (results_cell_row rfl _ _ w.heap.size 109 _ (0,0) _ rfl (setRow_heap _ _ _ _ _ _ Hres.out) zX rfl Ri.out) rfl ?_;exact⟨rfl,HB.out.trans (below_setRow _ _ _ (Nat.le_refl _))⟩
end rbitc
namespace rbitf
open arr mem stil bitm polys fldm rbita rbitb rbitc rbitd rbite
theorem xgz(s:ByteArray)(most:Int)(w:World)(h1 : 1≤most)(h2:most<8380417)(hs:s.size=32*lb most.toNat):
 Calls Tryz.prog 165 #[.string s,.int .i64 most] w (zB w (if inb (up s (lb most.toNat)) most then .tuple #[.agg (FL .i64 256 (up s (lb most.toNat))),.int .i64 0] else .tuple #[.agg (FL .i64 256 fun _=>0),.int .i64 3])):=by
 obtain⟨hz,hsize⟩:=zero_of_info infoP;have hl:=ω (fun w1=>xcn most (by omega) w1);have hl23:=xe3 most (by omega);obtain⟨wd,hwd⟩:=zev (lb most.toNat);rw[hwd]at hs hl hl23 ⊢;have HN:=ω (fun w1=>xtf s wd w1 hl23 (by omega));obtain⟨f,Hf⟩:=xaa (up s wd);have ef:(fun i=>((bt (pk 8 (bys s)) wd i wd:Nat):Int))=f:=by rw[←Hf.out];rfl
 rw[ef]at HN;rw[Hf.out];have Hpos:Ω (∀ i,0≤f i):=⟨fun i=>by rw[←Hf.out];exact Int.natCast_nonneg _⟩;have Hidx:Ω (∀ i:Nat,i<256→∀ w1,(Instr.index 109 (.agg (FL .i64 256 f)) (.int .i64 (i:Int))).run Tryz.prog w1=.ok (.int .i64 (f i)) w1):=⟨fun i hi w1=>xb5 (P:=Tryz.prog) zX (by kernel_rfl) (by kernel_rfl) (by kernel_rfl) _ _ i hi (xa9 .i64 256 f i hi) w1⟩;obtain⟨z,HZ⟩:=xaa (FL .i64 256 fun _=>0);rw[HZ.out]at hz ⊢;have Hzs:=zfs HZ;have Zi:=zsz Hzs hsize;have Zo:=zro HZ;have Gs:Ω ((FL .i64 256 f).size=256):=⟨xad _ _ _⟩;have Go:Ω ((FL .i64 256 f).all (·.oneCell')=true):=⟨xbf _ _ _⟩;obtain⟨G,HG⟩:=xaa (FL .i64 256 f);rw[HG.out]at HN Hidx Gs Go ⊢;have Gi:=zsz Gs hsize;obtain⟨V,HV⟩:=xaa (if inb f most then Value.tuple #[.agg G,.int .i64 0] else .tuple #[.agg z,.int .i64 3]);rw[HV.out];obtain⟨W,hW⟩:=zev (w.alloc (.cells z 109));have HW:=ω hW;have BW:=zba hW;have hrow:=zhp hW;have hWs:Ω (W.heap.size=w.heap.size+1):=⟨by rw[←hW,size_alloc]⟩;obtain⟨n,hn⟩:=zev (32*wd);have fn:IntKind.i64.wrap (32*(wd:Int))=(n:Int):=zwi;obtain⟨m,hsm⟩:=xaa s.size;have fne:((s.size:Int) != (n:Int))=false:=by rw[show (s.size:Int)=(n:Int) by omega];simp
 have g1:¬ most<1:=by omega
 have g2:¬ 8380417≤most:=by omega
 clear hW hsize hwd hs hn Hf ef HZ HG h1 h2;go_enter Tryz.func165,Tryz.ntmps165;go_wp2_with (rw[HW.out]);iterate 2 (refine(hl.out _).mono ?_;rintro e w1 ⟨rfl,rfl⟩;go_wp2_with fail)
 refine(HN.out _).mono ?_;rintro e w2 ⟨rfl,hb2⟩;have hrow2:Ω (w2.heap[w.heap.size]? = some (.cells z 109 (0,0))):=⟨(hb2.block w.heap.size (by rw[hWs.out];omega)).trans hrow.out⟩;have B2:Ω (Below w.heap.size w w2):=⟨BW.out.trans (hb2.mono (by rw[hWs.out];omega))⟩;have hlt2:w.heap.size<w2.heap.size:=by have:=hb2.size;rw[hWs.out]at this;omega
 obtain⟨W3,hW3⟩:=zev (w2.alloc (.cells G 109));have HW3:=ω hW3;have r3:=zhp hW3;have r0:Ω (W3.heap[w.heap.size]? = some (.cells z 109 (0,0))):=⟨by rw[←hW3,xaj _ _ _ hlt2];exact hrow2.out⟩;have B3:Ω (Below w.heap.size w W3):=⟨by rw[←hW3];exact B2.out.alloc (by omega) _⟩;clear hb2 hW3 hlt2;go_wp2_with (first
  | ((with_reducible refine xam rfl 109 _ _ rfl G ?hx ?hy ?hi ?ho ?h1 ?hn ?_);(case hx=>rfl);(case hy=>rfl);(case hi=>exact Gi.out);(case ho=>rw[Hzs.out,Gs.out]);(case h1=>exact Go.out);(case hn=>rfl);rw[HW3.out])
  | (refine wpList_load_row rfl 109 _ rfl w2.heap.size rfl 109 G (0,0) _ r3.out zX rfl Gi.out ?_))
 go_loopw [29] (fun c wr=>∃ j:Nat,j≤256∧c=.int .i64 (j:Int)∧Ω (∀ i,i<j→f i≤most)∧W3=wr) (fun c _=>256-(intOf c).toNat)
 case atStart=>exact⟨0,Nat.zero_le _,rfl,⟨fun i hi=>by omega⟩,rfl⟩
 case round=>
  obtain⟨j,hj,rfl,Hin,rfl⟩:=hrel;by_cases hlt:j<256
  ·have hjz:(j:Int)<256:=by omega
   have hidx:=Hidx.out j hlt;obtain⟨x,hx⟩:=zev (f j);rw[hx]at hidx;by_cases hbad:most<x
   ·have hV:Ω (V=.tuple #[.agg z,.int .i64 3]):=⟨by rw[←HV.out,if_neg];intro hall;have:=hall j hlt;rw[hx]at this;omega⟩;clear hx;go_wp2_with (refine wpList_store_row rfl 109 _ _ rfl w.heap.size z rfl rfl 109 _ r0.out Zi.out rfl Zo.out ?_);refine bodyPost_ret_by (v:=.tuple #[.agg z,.int .i64 3]) (rbite.results_cell_tmp rfl _ _ w.heap.size 109 _ (0,0) _ rfl (setRow_heap _ _ _ _ _ _ r0.out) zX rfl Zi.out _ rfl) rfl ?_;exact⟨by rw[hV.out],B3.out.trans (below_setRow _ _ _ (Nat.le_refl _))⟩
   ·have Hin2:Ω (∀ i,i<j+1→f i≤most):=⟨fun i hi=>by
     by_cases e:i=j
     ·subst e;rw[hx];omega
     ·exact Hin.out i (by omega)⟩
    clear hx;go_wp2_with fail;go_roundw
    case rel=>exact⟨j+1,by omega,by go_num,Hin2,trivial⟩
    case measure=>simp[intOf];omega
  ·obtain rfl:j=256:=by omega
   simp only[Int.cast_ofNat_Int];have hV:Ω (V=.tuple #[.agg G,.int .i64 0]):=⟨by rw[←HV.out,if_pos];exact fun i hi=>⟨Hpos.out i,Hin.out i hi⟩⟩;clear hj hlt;go_wp2_with (first
    | (refine wpList_load_row rfl 109 _ rfl w2.heap.size rfl 109 G (0,0) _ r3.out zX rfl Gi.out ?_)
    | (refine wpList_store_row rfl 109 _ _ rfl w.heap.size G rfl rfl 109 _ r0.out Gi.out (by rw[Hzs.out,Gs.out]) Go.out ?_))
   refine bodyPost_ret_by (v:=.tuple #[.agg G,.int .i64 0]) (rbite.results_cell_tmp rfl _ _ w.heap.size 109 _ (0,0) _ rfl (setRow_heap _ _ _ _ _ _ r0.out) zX rfl Gi.out _ rfl) rfl ?_;exact⟨by rw[hV.out],B3.out.trans (below_setRow _ _ _ (Nat.le_refl _))⟩
end rbitf
namespace rbitg
open arr mem stil bitm polys fldm rbita rbitb rbitc rbitd rbite rbitf rfld
theorem xl5(s:ByteArray)(low high:Int)(w:World)(c:Int)(h1 : 0≤low)(h2 : 1≤high)(h3:low<4190208)(h4:high<4190208)(hc:c≠0)
 (hu:∀ w1:World,Calls Tryz.prog 165 #[.string s,.int .i64 (low+high)] w1 (zB w1 (.tuple #[.agg (FL .i64 256 fun _=>0),.int .i64 c]))):
 Calls Tryz.prog 126 #[.string s,.int .i64 low,.int .i64 high] w (zB w (.tuple #[.agg (FL .i64 256 fun _=>0),.int .i64 c])):=by
 have HU:=ω hu;clear hu;obtain⟨hz,hsize⟩:=zero_of_info infoP;obtain⟨z,HZ⟩:=xaa (FL .i64 256 fun _=>0);rw[HZ.out]at hz HU ⊢;have Hzs:=zfs HZ;have Zi:=zsz Hzs hsize;have Zo:=zro HZ;obtain⟨W,hW⟩:=zev (w.alloc (.cells z 109));have HW:=ω hW;have BW:=zba hW;have hrow:=zhp hW;have hWs:Ω (W.heap.size=w.heap.size+1):=⟨by rw[←hW,size_alloc]⟩;have g1:¬ low<0:=by omega
 have g2:¬ high<1:=by omega
 have g3:¬ 4190208≤low:=by omega
 have g4:¬ 4190208≤high:=by omega
 have fl2:IntKind.i64.wrap (low+high)=low+high:=zwi;have fc:(c != 0)=true:=by simpa using hc
 clear hW hsize HZ h1 h2 h3 h4 hc;go_enter Tryz.func126,Tryz.ntmps126;go_wp2_with (rw[HW.out]);refine(HU.out _).mono ?_;rintro e w2 ⟨rfl,hb2⟩;have hrow2:Ω (w2.heap[w.heap.size]? = some (.cells z 109 (0,0))):=⟨(hb2.block w.heap.size (by rw[hWs.out];omega)).trans hrow.out⟩;have B2:Ω (Below w.heap.size w w2):=⟨BW.out.trans (hb2.mono (by rw[hWs.out];omega))⟩;have hlt2:w.heap.size<w2.heap.size:=by have:=hb2.size;rw[hWs.out]at this;omega
 obtain⟨W3,hW3⟩:=zev (w2.alloc (.cells z 109));have HW3:=ω hW3;have r3:=zhp hW3;have r0:Ω (W3.heap[w.heap.size]? = some (.cells z 109 (0,0))):=⟨by rw[←hW3,xaj _ _ _ hlt2];exact hrow2.out⟩;have B3:Ω (Below w.heap.size w W3):=⟨by rw[←hW3];exact B2.out.alloc (by omega) _⟩;clear hb2 hW3 hlt2;go_wp2_with (first
  | ((with_reducible refine xam rfl 109 _ _ rfl z ?hx ?hy ?hi ?ho ?h1 ?hn ?_);(case hx=>rfl);(case hy=>rfl);(case hi=>exact Zi.out);(case ho=>rfl);(case h1=>exact Zo.out);(case hn=>rfl);rw[HW3.out])
  | (refine wpList_load_row rfl 109 _ rfl w2.heap.size rfl 109 z (0,0) _ r3.out zX rfl Zi.out ?_)
  | (refine wpList_store_row rfl 109 _ _ rfl w.heap.size z rfl rfl 109 _ r0.out Zi.out rfl Zo.out ?_))
 refine bodyPost_ret_by (v:=.tuple #[.agg z,.int .i64 c]) (rbite.results_cell_tmp rfl _ _ w.heap.size 109 _ (0,0) _ rfl (setRow_heap _ _ _ _ _ _ r0.out) zX rfl Zi.out _ rfl) rfl ?_;exact⟨rfl,B3.out.trans (below_setRow _ _ _ (Nat.le_refl _))⟩
theorem xg0(s:ByteArray)(low high:Int)(w:World)(f:Nat→Int)(h1 : 0≤low)(h2 : 1≤high)(h3:low<4190208)(h4:high<4190208)(hf:∀ i,i<256→0≤f i∧f i≤low+high)
 (hu:∀ w1:World,Calls Tryz.prog 165 #[.string s,.int .i64 (low+high)] w1 (zB w1 (.tuple #[.agg (FL .i64 256 f),.int .i64 0]))):
 Calls Tryz.prog 126 #[.string s,.int .i64 low,.int .i64 high] w (zB w (.tuple #[.agg (FL .i64 256 (un f high)),.int .i64 0])):=by
 have HU:=ω hu;have Hf:=ω hf;clear hu hf;have Hidx:Ω (∀ i:Nat,i<256→∀ w1,(Instr.index 109 (.agg (FL .i64 256 f)) (.int .i64 (i:Int))).run Tryz.prog w1=.ok (.int .i64 (f i)) w1):=⟨fun i hi w1=>xb5 (P:=Tryz.prog) zX (by kernel_rfl) (by kernel_rfl) (by kernel_rfl) _ _ i hi (xa9 .i64 256 f i hi) w1⟩;obtain⟨hz,hsize⟩:=zero_of_info infoP;obtain⟨z,HZ⟩:=xaa (FL .i64 256 fun _=>0);rw[HZ.out]at hz;have Hzs:=zfs HZ;have Fs:Ω ((FL .i64 256 f).size=256):=⟨xad _ _ _⟩;have Fo:Ω ((FL .i64 256 f).all (·.oneCell')=true):=⟨xbf _ _ _⟩;have Hpz:Ω (FL .i64 256 (pt (un f high) f 0)=FL .i64 256 f):=⟨by rw[xba]⟩;obtain⟨F,HF⟩:=xaa (FL .i64 256 f);rw[HF.out]at HU Hidx Fs Fo Hpz;have Fi:=zsz Fs hsize;have Gs:Ω ((FL .i64 256 (un f high)).size=256):=⟨xad _ _ _⟩;have Go:Ω ((FL .i64 256 (un f high)).all (·.oneCell')=true):=⟨xbf _ _ _⟩;have Hall:Ω (FL .i64 256 (pt (un f high) f 256)=FL .i64 256 (un f high)):=⟨xa8 _ _ _ _⟩;obtain⟨G,HG⟩:=xaa (FL .i64 256 (un f high));rw[HG.out]at Gs Go Hall ⊢;have Gi:=zsz Gs hsize;obtain⟨W,hW⟩:=zev (w.alloc (.cells z 109));have HW:=ω hW;have BW:=zba hW;have hrow:=zhp hW;have hWs:Ω (W.heap.size=w.heap.size+1):=⟨by rw[←hW,size_alloc]⟩;have g1:¬ low<0:=by omega
 have g2:¬ high<1:=by omega
 have g3:¬ 4190208≤low:=by omega
 have g4:¬ 4190208≤high:=by omega
 have fl2:IntKind.i64.wrap (low+high)=low+high:=zwi;have HL:=ω (And.intro h1 (And.intro h2 (And.intro h3 h4)));clear hW hsize HZ HG HF h1 h2 h3 h4;go_enter Tryz.func126,Tryz.ntmps126;go_wp2_with (rw[HW.out]);refine(HU.out _).mono ?_;rintro e w2 ⟨rfl,hb2⟩;have hrow2:Ω (w2.heap[w.heap.size]? = some (.cells z 109 (0,0))):=⟨(hb2.block w.heap.size (by rw[hWs.out];omega)).trans hrow.out⟩;have B2:Ω (Below w.heap.size w w2):=⟨BW.out.trans (hb2.mono (by rw[hWs.out];omega))⟩;have hlt2:w.heap.size<w2.heap.size:=by have:=hb2.size;rw[hWs.out]at this;omega
 obtain⟨W3,hW3⟩:=zev (w2.alloc (.cells F 109));have HW3:=ω hW3;have r3:=zhp hW3;have r0:Ω (W3.heap[w.heap.size]? = some (.cells z 109 (0,0))):=⟨by rw[←hW3,xaj _ _ _ hlt2];exact hrow2.out⟩;have B3:Ω (Below w.heap.size w W3):=⟨by rw[←hW3];exact B2.out.alloc (by omega) _⟩;have A0:Ω (At w2.heap.size (FL .i64 256 (pt (un f high) f 0)) 109 W3 W3):=⟨by rw[Hpz.out];exact At.refl r3.out⟩;have Hlt2:=ω hlt2;clear hb2 hW3 hlt2;go_wp2_with (first
  | ((with_reducible refine xam rfl 109 _ _ rfl F ?hx ?hy ?hi ?ho ?h1 ?hn ?_);(case hx=>rfl);(case hy=>rfl);(case hi=>exact Fi.out);(case ho=>rw[Hzs.out,Fs.out]);(case h1=>exact Fo.out);(case hn=>rfl);rw[HW3.out])
  | (refine wpList_load_row rfl 109 _ rfl w2.heap.size rfl 109 F (0,0) _ r3.out zX rfl Fi.out ?_))
 go_loopw [40] (fun c wr=>∃ j:Nat,j≤256∧c=.int .i64 (j:Int)∧Ω (At w2.heap.size (FL .i64 256 (pt (un f high) f j)) 109 W3 wr)) (fun c _=>256-(intOf c).toNat)
 case atStart=>exact⟨0,Nat.zero_le _,rfl,A0⟩
 case round=>
  clear A0;obtain⟨j,hj,rfl,A0⟩:=hrel;by_cases hlt:j<256
  ·have hjz:(j:Int)<256:=by omega
   have hidx:=Hidx.out j hlt;have hfj:=Hf.out j hlt;obtain⟨x,hx⟩:=zev (f j);rw[hx]at hidx hfj;have fs:IntKind.i64.wrap (high-x)=high-x:=by rw[IntKind.wrap_i64];have:=HL.out;omega
   have hun:Ω ((high-x)%8380417=un f high j):=⟨by unfold un;rw[hx]⟩;have Hre:=ω (fun w1=>xai (high-x) w1);obtain⟨y,hy⟩:=zev ((high-x)%8380417);rw[hy]at hun Hre;clear hx hy hfj;go_wp2_with fail;refine(Hre.out _).mono ?_;rintro e w5 ⟨rfl,rfl⟩;clear hidx;go_wp2_with ((with_reducible refine xaf A0 rfl _ _ _ rfl rfl ?_);refine⟨_,_,_,rfl,rfl,rfl,(by rw[xad];exact hlt),?_⟩;intro wn HR;rw[xap,xa4 _ _ _ _ hun.out]at HR);go_roundw
   case rel=>exact⟨j+1,by omega,by go_num,HR⟩
   case measure=>simp[intOf];omega
  ·obtain rfl:j=256:=by omega
   simp only[Int.cast_ofNat_Int];rw[Hall.out]at A0;have rg:=ω A0.out.row;have rz:Ω (wr.heap[w.heap.size]? = some (.cells z 109 (0,0))):=⟨A0.out.other (Array.getElem?_eq_some_iff.1 r0.out).1 (by have:=Hlt2.out;omega) r0.out⟩;have BE:Ω (Below w.heap.size w wr):=⟨B3.out.trans (A0.out.below (by exact B3.out.size) (by have:=Hlt2.out;omega))⟩;clear A0 hj hlt;go_wp2_with (first
    | (refine wpList_load_row rfl 109 _ rfl w2.heap.size rfl 109 G (0,0) _ rg.out zX rfl Gi.out ?_)
    | (refine wpList_store_row rfl 109 _ _ rfl w.heap.size G rfl rfl 109 _ rz.out Gi.out (by rw[Hzs.out,Gs.out]) Go.out ?_))
   refine bodyPost_ret_by (v:=.tuple #[.agg G,.int .i64 0]) (rbite.results_cell_tmp rfl _ _ w.heap.size 109 _ (0,0) _ rfl (setRow_heap _ _ _ _ _ _ rz.out) zX rfl Gi.out _ rfl) rfl ?_;exact⟨rfl,BE.out.trans (below_setRow _ _ _ (Nat.le_refl _))⟩
end rbitg
namespace rsdoc
open arr mem keca kstep spok polys polt rbita rbitc rbitf rbitg rndm samm samb samc saml samr
theorem ball{T:Array Value}(b:ByteArray)(tau:Int)(w:World)(hK:KT T TL RL)(hb:b.size≤1125899906842624):
 Calls Tryz.prog 74 #[.agg T,.string b,.int .i64 tau] w (zB w (.agg (FL .i64 256 (dB b tau)))):=by
 unfold dB;by_cases h : 1≤tau∧tau≤64
 ·obtain⟨t,rfl⟩:=Int.eq_ofNat_of_zero_le (a:=tau) (by omega);rw[xjd _ t (by omega) (by omega)];exact rsball.xq4 b _ t w (infoT T hK) (by omega) (by omega) (xbt 2 b 544) fun w1=>rsph.xff 2 b 544 w1 hK rfl (by decide) hb
 ·rw[xmi _ _ h];exact rsball.xq3 b (out TL RL 2 b 544) tau w (infoT T hK) h fun w1=>rsph.xff 2 b 544 w1 hK rfl (by decide) hb
theorem unsigned(s:ByteArray)(a:Int)(w:World)(ha:a=131072∨a=524288)(hs:s.size=32*mw a):
 Calls Tryz.prog 126 #[.string s,.int .i64 (a-1),.int .i64 a] w (zB w (.tuple #[.agg (FL .i64 256 (un (up s (mw a)) a)),.int .i64 0])):=by
 obtain⟨h1,h2,h3⟩:=xga a ha;have hin:∀ i,0≤up s (mw a) i∧up s (mw a) i≤a-1+a:=fun i=>by have:=up_lt s (mw a) i;rw[h3]at this;omega
 refine rbitg.xg0 s (a-1) a w (up s (mw a)) (by omega) (by omega) (by omega) (by omega) (fun i _=>hin i) fun w1=>?_
 have h:=rbitf.xgz s (a-1+a) w1 (by omega) (by omega) (by rw[h1];exact hs);rw[h1,if_pos (show rbitd.inb (up s (mw a)) (a-1+a) from fun i _=>hin i)]at h;exact h
theorem masks{T:Array Value}(ln fn:Nat)(k e t a b o s:Int)(sd:ByteArray)(w:World)(hK:KT T TL RL)(hf:fn≤65000)(h:latt k (ln:Int) e t a b o s=true)(hsd:sd.size≤1000):
 Calls Tryz.prog 71 #[.agg T,.agg (zLt k (ln:Int) e t a b o s),.string sd,.int .i64 (fn:Int)] w fun x w'=>(∃ v1,x=.returned v1∧w'.ownsRow w.heap.size 109 256 v1 ln (cq (qM sd a fn) ln))∧Below w.heap.size w w':=by
 obtain⟨h1,h2,-,-,ha⟩:=xe1 h;obtain⟨m1,m2,m3⟩:=xga a ha;have hl:lb (a-1).toNat+1=mw a:=rfl;have h64:lb (a-1).toNat≤64:=by omega
 have h50 : 32*mw a≤50000:=by omega
 refine rsmsk.xki ln fn (lb (a-1).toNat) (mw a) (32*mw a) k e t a b o s sd (fun r=>out TL RL 2 (tw sd ((fn+r)%256) ((fn+r) / 256)) (32*mw a)) (qM sd a fn) w (infoT T hK) (by omega) hf h64 hl rfl (by omega) h (by omega) (fun w1=>rbita.xcn (a-1) (by omega) w1) (fun r _ w1=>?_) (fun r _ w1=>?_)
 ·exact rsph.xff 2 _ (32*mw a) w1 hK rfl h50 (by rw[xfp];omega)
 ·exact unsigned _ a w1 ha (xbt 2 _ _)
end rsdoc
namespace rbite
open arr mem stil bitm polys fldm rbita rbitb rbitc rbitd rfld
theorem xit(f:Nat→Int)(low high:Int)(w:World)(h1 : 0≤low)(h2 : 1≤high)(h3:low<4190208)(h4:high<4190208):
 Calls Tryz.prog 81 #[.agg (FL .i64 256 f),.int .i64 low,.int .i64 high] w (zB w (if ins f low high then .tuple #[.string (packed (sg f high) (low+high)),.int .i64 0] else .tuple #[.string ⟨#[]⟩,.int .i64 6])):=by
 have HPk:Ω (ins f low high→∀ w1:World,Calls Tryz.prog 134 #[.agg (FL .i64 256 (sg f high)),.int .i64 (low+high)] w1 (zB w1 (.tuple #[.string (packed (sg f high) (low+high)),.int .i64 0]))):=⟨fun hin w1=>by
  have h9:=xds (sg f high) (low+high) w1 (by omega) (by omega);rw[if_pos (show inb (sg f high) (low+high) from fun i hi=>by have:=hin i hi;unfold sg;omega)]at h9;exact h9⟩
 obtain⟨O,HO⟩:=xaa (packed (sg f high) (low+high));obtain⟨G,HG⟩:=xaa (FL .i64 256 (sg f high));rw[HO.out,HG.out]at HPk;rw[HO.out];obtain⟨V,HV⟩:=xaa (if ins f low high then Value.tuple #[.string O,.int .i64 0] else .tuple #[.string ⟨#[]⟩,.int .i64 6]);rw[HV.out];have Hidx:Ω (∀ i:Nat,i<256→∀ w1,(Instr.index 109 (.agg (FL .i64 256 f)) (.int .i64 (i:Int))).run Tryz.prog w1=.ok (.int .i64 (f i)) w1):=⟨fun i hi w1=>xb5 (P:=Tryz.prog) zX (by kernel_rfl) (by kernel_rfl) (by kernel_rfl) _ _ i hi (xa9 .i64 256 f i hi) w1⟩;have Fi:Ω ((Tryz.prog.info? 109).map (·.size)=some (FL .i64 256 f).size):=⟨by rw[xad];exact sizeP⟩;have Gi:=zri HG sizeP;obtain⟨F,HF⟩:=xaa (FL .i64 256 f);rw[HF.out]at Hidx Fi ⊢;obtain⟨W,hW⟩:=zev (w.alloc (.cells F 109));have HW:=ω hW;have BW:=zba hW;have hrow:=zhp hW;have A0:Ω (At w.heap.size (FL .i64 256 (pt (sg f high) f 0)) 109 W W):=⟨by rw[xba,HF.out];exact At.refl hrow.out⟩;have g1:¬ low<0:=by omega
 have g2:¬ high<1:=by omega
 have g3:¬ 4190208≤low:=by omega
 have g4:¬ 4190208≤high:=by omega
 have fl1:IntKind.i64.wrap (-low) = -low:=zwi;have fl2:IntKind.i64.wrap (low+high)=low+high:=zwi;have HL:=ω (And.intro h1 (And.intro h2 (And.intro h3 h4)));clear hW HF HO h1 h2 h3 h4;go_enter Tryz.func81,Tryz.ntmps81;go_wp2_with (first
  | (rw[HW.out])
  | (refine wpList_load_row rfl 109 _ rfl w.heap.size rfl 109 F (0,0) _ hrow.out zX rfl Fi.out ?_))
 go_loopw [26] (fun c wr=>∃ j:Nat,j≤256∧c=.int .i64 (j:Int)∧Ω (∀ i,i<j → -low≤ce 8380417 (f i)∧ce 8380417 (f i)≤high)∧Ω (At w.heap.size (FL .i64 256 (pt (sg f high) f j)) 109 W wr)) (fun c _=>256-(intOf c).toNat)
 case atStart=>exact⟨0,Nat.zero_le _,rfl,⟨fun i hi=>by omega⟩,A0⟩
 case round=>
  clear A0;obtain⟨j,hj,rfl,Hin,A0⟩:=hrel;have BE:Ω (Below w.heap.size w wr):=⟨BW.out.trans (A0.out.below (by have:=BW.out.size;omega) (Nat.le_refl _))⟩;by_cases hlt:j<256
  ·have hjz:(j:Int)<256:=by omega
   have hidx:=Hidx.out j hlt;have Hce:=ω (fun w1=>xcv (f j) 8380417 w1);obtain⟨c,hc⟩:=zev (ce 8380417 (f j));have hcs:=xmu (f j);rw[hc]at Hce hcs;have Hc:=ω hc;have Hcs:=ω hcs;clear hc hcs;go_wp2_with fail;refine(Hce.out _).mono ?_;rintro e w2 ⟨rfl,rfl⟩;clear hidx;by_cases hbad:c < -low∨high<c
   ·have hV:Ω (V=.tuple #[.string ⟨#[]⟩,.int .i64 6]):=⟨by rw[←HV.out,if_neg];intro hall;have:=hall j hlt;rw[Hc.out]at this;omega⟩;rcases hbad with hb1 | hb1
    ·go_wp2_with fail;go_ret2;exact⟨by rw[hV.out];rfl,BE.out⟩
    ·by_cases hb0:c < -low
     ·go_wp2_with fail;go_ret2;exact⟨by rw[hV.out];rfl,BE.out⟩
     ·go_wp2_with fail;go_ret2;exact⟨by rw[hV.out];rfl,BE.out⟩
   ·have hb0:¬ c < -low:=by omega
    have hb1:¬ high<c:=by omega
    have Hin2:Ω (∀ i,i<j+1 → -low≤ce 8380417 (f i)∧ce 8380417 (f i)≤high):=⟨fun i hi=>by
     by_cases e:i=j
     ·subst e;rw[Hc.out];omega
     ·exact Hin.out i (by omega)⟩
    have fs:IntKind.i64.wrap (high-c)=high-c:=by rw[IntKind.wrap_i64];have:=Hcs.out;have:=HL.out;omega
    have hsg:Ω (high-c=sg f high j):=⟨by unfold sg;rw[Hc.out]⟩;clear hbad;go_wp2_with ((with_reducible refine xaf A0 rfl _ _ _ rfl rfl ?_);refine⟨_,_,_,rfl,rfl,rfl,(by rw[xad];exact hlt),?_⟩;intro wn HR;rw[xap,xa4 _ _ _ _ hsg.out]at HR);go_roundw
    case rel=>exact⟨j+1,by omega,by go_num,Hin2,HR⟩
    case measure=>simp[intOf];omega
  ·obtain rfl:j=256:=by omega
   simp only[Int.cast_ofNat_Int];have hall:ins f low high:=Hin.out;have hV:Ω (V=.tuple #[.string O,.int .i64 0]):=⟨by rw[←HV.out,if_pos hall]⟩;have C1:=ω (HPk.out hall wr);rw[xa8,HG.out]at A0;have Hrow:=ω A0.out.row;clear hall A0;go_wp2_with (refine wpList_load_row rfl 109 _ rfl w.heap.size rfl 109 G (0,0) _ Hrow.out zX rfl Gi.out ?_);refine C1.out.mono ?_;rintro e w6 ⟨rfl,h6⟩;have BF:=zbt BE h6;clear h6;go_wp2_with fail;go_ret2;exact⟨by rw[hV.out];rfl,BF.out⟩
end rbite
namespace rbith
open arr mem stil bitm polys fldm rbita rbitb rbitc rbitd rbite
theorem xc8(h:Nat→Nat→Int)(g o cap m om:Nat)(w:World)(hg:g<w.heap.size)(hm1 : 1≤m)(hm8:m≤8)(ho1 : 1≤om)(ho2:om≤255)(hr:∀ i,i<m→w.rangeAt g (o+256*i) (FL .i64 256 (h i)).toList):
 Calls Tryz.prog 82 #[.slice (some ⟨g,o,none⟩) m cap,.int .i64 (om:Int)] w (zB w (if tot h m≤om then .tuple #[.string ⟨(u8s (lay h om m m)).toArray⟩,.int .i64 0] else .tuple #[.string ⟨#[]⟩,.int .i64 6])):=by
 obtain⟨i0,hi,hz0,hz1,hz2⟩:=parts infoByte;have HI:=ω (And.intro hi (And.intro hz0 (And.intro hz1 hz2)));obtain⟨hz,hsize⟩:=zero_of_info infoP;obtain⟨z,HZ⟩:=xaa (FL .i64 256 fun _=>0);rw[HZ.out]at hz;have Hzs:=zfs HZ;have HR:=ω hr;obtain⟨R,HRe⟩:=xaa (u8s (lay h om m m));obtain⟨V,HV⟩:=xaa (if tot h m≤om then Value.tuple #[.string ⟨R.toArray⟩,.int .i64 0] else .tuple #[.string ⟨#[]⟩,.int .i64 6]);rw[HRe.out,HV.out];obtain⟨M,hM⟩:=zev (om+m);have fM:(om:Int)+(m:Int)=(M:Int):=by omega
 have fMw:IntKind.i64.wrap ((om:Int)+(m:Int))=(M:Int):=by rw[fM,IntKind.wrap_i64];omega
 have g1:¬ (om:Int)<1:=by omega
 have g2:¬ (255:Int)<(om:Int):=by omega
 have g3:¬ (m:Int)<1:=by omega
 have g4:¬ (8:Int)<(m:Int):=by omega
 have HM:=ω hM;clear hi hz0 hz1 hz2 hr HZ hM;go_enter Tryz.func82,Tryz.ntmps82;go_wp2_with (at_make;refine wpList_make_full _ rfl (.tmp 31) (.tmp 31) 49 rfl w.heap.size 5 i0 (.int .u8 0) 1 Tryz.underlying49 HI.out.1 HI.out.2.1 HI.out.2.2.1 .i64 .i64 M M M rfl rfl rfl rfl (by rw[HI.out.2.2.2];omega) (by unfold maxLen;omega) (Nat.le_refl _) ?_);intro w3 hown hgr;have hb3:Below w.heap.size w w3:=(Below.refl _ _).grown hgr (Nat.le_refl _) (fun k hk=>by simp at hk);obtain⟨cur,hcur,hcl⟩:=xkq hown;have e0:cur=LK .u8 (lay h om m 0):=by
  apply Array.ext';rw[hcl,lay,HM.out];simp only[toList_madeCells_one];simp[LK]
 rw[e0]at hcur;have A3:Ω (At w.heap.size (LK .u8 (lay h om m 0)) 5 w3 w3):=⟨At.refl hcur⟩;have HB3:=ω hb3;have h38:=xac hcur;clear hown hgr hb3 hcl e0 hcur fM fMw;go_wp2_with fail;go_loopw [35,7] (fun v c wr=>∃ i:Nat,i≤m∧v=.int .i64 (i:Int)∧c=.int .i64 ((tot h i:Nat):Int)∧tot h i≤om∧Ω (At w.heap.size (LK .u8 (lay h om m i)) 5 w3 wr)) (fun v _ _=>m-(intOf v).toNat)
 case atStart=>exact⟨0,Nat.zero_le _,rfl,rfl,Nat.zero_le _,A3⟩
 case round=>
  clear A3;obtain⟨i,hi,rfl,rfl,hto,A0⟩:=hrel;by_cases hlt:i<m
  ·have hiz:(i:Int)<(m:Int):=by omega
   have BW:Ω (Below w.heap.size w wr):=⟨HB3.out.trans (A0.out.below (by omega) (Nat.le_refl _))⟩;have Hrg:Ω (wr.rangeAt g (o+256*i) (FL .i64 256 (h i)).toList):=⟨fun j v hv=>by rw[BW.out.cell (p:=⟨g,o+256*i+j,none⟩) hg];exact HR.out i hlt j v hv⟩;have Hidx:Ω (∀ k:Nat,k<256→∀ w1,(Instr.index 109 (.agg (FL .i64 256 (h i))) (.int .i64 (k:Int))).run Tryz.prog w1=.ok (.int .i64 (h i k)) w1):=⟨fun k hk w1=>xb5 (P:=Tryz.prog) zX (by kernel_rfl) (by kernel_rfl) (by kernel_rfl) _ _ k hk (xa9 .i64 256 (h i) k hk) w1⟩;have Fs:Ω ((FL .i64 256 (h i)).size=256):=⟨xad _ _ _⟩;have Fo:Ω ((FL .i64 256 (h i)).all (·.oneCell')=true):=⟨xbf _ _ _⟩;obtain⟨F,HF⟩:=xaa (FL .i64 256 (h i));rw[HF.out]at Hrg Hidx Fs Fo;have Fi:=zsz Fs hsize;obtain⟨W4,hW4⟩:=zev (wr.alloc (.cells F 109));have HW4:=ω hW4;have r4:=zhp hW4;have A4:Ω (At w.heap.size (LK .u8 (put (h i) (tot h i) (lay h om m i) 0)) 5 w3 W4):=⟨by rw[put,←hW4];exact A0.out.later (xbg _ _)⟩;obtain⟨i256,hi256⟩:=zev (256*i);rw[hi256]at Hrg;have fi256:i*256=i256:=by omega
   clear hW4 HF hi256;go_wp2_with (first
    | ((with_reducible refine wpList_load_mid rfl 109 _ rfl g (o+i256) ?hx F.toList _ Hrg.out zX rfl ?hi ?_);(case hx=>rfl);(case hi=>rw[Array.length_toList];exact Fi.out))
    | ((with_reducible refine xam rfl 109 _ _ rfl F ?hx ?hy ?hi ?ho ?h1 ?hn ?_);(case hx=>rfl);(case hy=>rfl);(case hi=>exact Fi.out);(case ho=>rw[Hzs.out,Fs.out]);(case h1=>exact Fo.out);(case hn=>rfl);rw[HW4.out])
    | (refine wpList_load_row rfl 109 _ rfl wr.heap.size rfl 109 F (0,0) _ r4.out zX rfl Fi.out ?_))
   have Hi:=ω hlt;clear A0;go_loopw [41,7] (fun v c wr=>∃ k:Nat,k≤256∧v=.int .i64 (k:Int)∧c=.int .i64 ((tot h i+cnt (h i) k:Nat):Int)∧tot h i+cnt (h i) k≤om∧Ω (At w.heap.size (LK .u8 (put (h i) (tot h i) (lay h om m i) k)) 5 w3 wr)) (fun v _ _=>256-(intOf v).toNat)
   case atStart=>exact⟨0,Nat.zero_le _,rfl,rfl,hto,A4⟩
   case round=>
    clear A4;obtain⟨k,hk,rfl,rfl,hto,A0⟩:=hrel;obtain⟨n,hn⟩:=zev (tot h i+cnt (h i) k);rw[hn]at hto ⊢;by_cases hklt:k<256
    ·have hkz:(k:Int)<256:=by omega
     have hidx:=Hidx.out k hklt;by_cases hx:h i k=0
     ·rw[hx]at hidx;have Hn:Ω (tot h i+cnt (h i) (k+1)=n):=⟨by rw[cnt,if_pos hx,←hn];omega⟩;have A1:Ω (At w.heap.size (LK .u8 (put (h i) (tot h i) (lay h om m i) (k+1))) 5 w3 wr):=⟨by rw[put,if_pos hx];exact A0.out⟩;clear A0 hn hx;go_wp2_with fail;go_roundw
      case rel=>exact⟨k+1,by omega,by go_num,by rw[Hn.out],by rw[Hn.out];exact hto,A1⟩
      case measure=>simp[intOf];omega
     ·have Hn:Ω (tot h i+cnt (h i) (k+1)=n+1):=⟨by rw[cnt,if_neg hx,←hn];omega⟩;have Hs:Ω ((put (h i) (tot h i) (lay h om m i) k).set n k=put (h i) (tot h i) (lay h om m i) (k+1)):=⟨by rw[put,if_neg hx,hn]⟩;obtain⟨x,hxx⟩:=zev (h i k);rw[hxx]at hidx hx;have fx:(x != 0)=true:=by simpa using hx
      have fk8:IntKind.u8.wrap (k:Int)=(k:Int):=by rw[IntKind.wrap_u8];omega
      have BE:Ω (Below w.heap.size w wr):=⟨HB3.out.trans (A0.out.below (by omega) (Nat.le_refl _))⟩;clear hx hxx hn;by_cases he:n=om
      ·have hV:Ω (V=.tuple #[.string ⟨#[]⟩,.int .i64 6]):=⟨by
        rw[←HV.out,if_neg];have h1:=xlv h (i+1) m (by have:=Hi.out;omega);have h2:=cnt_mono (h i) (k+1) 256 (by omega);have h3:=Hn.out;rw[tot]at h1;omega⟩
       subst he;go_wp2_with fail;go_ret2;exact⟨by rw[hV.out];rfl,BE.out⟩
      ·have fe:((n:Int)==(om:Int))=false:=by simp only[beq_eq_false_iff_ne,ne_eq];omega
       have hno:n+1≤om:=by omega
       have hnM:(n:Int)<(M:Int):=by have:=HM.out;omega
       have HnM:Ω (n<om+m):=⟨by omega⟩;clear he;go_wp2_with ((with_reducible refine xaf A0 rfl _ _ _ rfl rfl ?_);refine⟨_,_,_,rfl,rfl,rfl,(by rw[xak,xgp,xd9];exact HnM.out),?_⟩;intro wn HRn;rw[xcm,Hs.out]at HRn);go_roundw
       case rel=>exact⟨k+1,by omega,by go_num,by rw[Hn.out];go_num,by rw[Hn.out];exact hno,HRn⟩
       case measure=>simp[intOf];omega
    ·obtain rfl:k=256:=by omega
     simp only[Int.cast_ofNat_Int];have Hn:Ω (tot h (i+1)=n):=⟨by rw[tot,hn]⟩;have Hs:Ω ((put (h i) (tot h i) (lay h om m i) 256).set (om+i) n=lay h om m (i+1)):=⟨by rw[lay,Hn.out]⟩;obtain⟨oi,hoi⟩:=zev (om+i);rw[hoi]at Hs;have foi:(om:Int)+(i:Int)=(oi:Int):=by omega
     have foiw:IntKind.i64.wrap ((om:Int)+(i:Int))=(oi:Int):=by rw[foi,IntKind.wrap_i64];omega
     have fn8:IntKind.u8.wrap (n:Int)=(n:Int):=by rw[IntKind.wrap_u8];omega
     have hnM:(oi:Int)<(M:Int):=by have:=HM.out;have:=Hi.out;omega
     have HnM:Ω (oi<om+m):=⟨by have:=Hi.out;omega⟩;clear hn hoi;go_wp2_with ((with_reducible refine xaf A0 rfl _ _ _ rfl rfl ?_);refine⟨_,_,_,rfl,rfl,rfl,(by rw[xak,xgp,xd9];exact HnM.out),?_⟩;intro wn HRn;rw[xcm,Hs.out]at HRn);go_roundw
     case rel=>exact⟨i+1,by have:=Hi.out;omega,by go_num,by rw[Hn.out],by rw[Hn.out];exact hto,HRn⟩
     case measure=>have:=Hi.out;simp[intOf];omega
  ·obtain rfl:i=m:=by omega
   have hV:Ω (V=.tuple #[.string ⟨R.toArray⟩,.int .i64 0]):=⟨by rw[←HV.out,if_pos hto]⟩;have hcv:=xc6 (cap:=M) (n:=M) (by rw[xd9];exact HM.out) (xnf h om i i (by omega)) A0.out.row;rw[HRe.out]at hcv;have BE:Ω (Below w.heap.size w wr):=⟨HB3.out.trans (A0.out.below (by omega) (Nat.le_refl _))⟩;clear A0;go_wp2_with fail;go_ret2;exact⟨by rw[hV.out];rfl,BE.out⟩
end rbith
end Go.Proofs.YtgahcabgmfbhdaaGreatDoor
