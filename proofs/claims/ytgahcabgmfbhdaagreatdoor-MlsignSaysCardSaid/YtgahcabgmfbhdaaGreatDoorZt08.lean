/-
  What ntt's split does to the polynomial behind its pointer: the pairs of one block are turned, the r
-/
import Derived.Test.YtgahcabgmfbhdaaGreatDoorZt07
import Derived.Test.YtgahcabgmfbhdaaGreatDoorZt02
import Derived.Test.YtgahcabgmfbhdaaGreatDoorZt01
import Derived.Great.Frames
set_option maxRecDepth 100000
set_option maxHeartbeats 16000000
set_option linter.unusedSimpArgs false
set_option linter.unusedVariables false
open Go Go.RowKit
namespace Go.Proofs.YtgahcabgmfbhdaaGreatDoor
namespace nsplit
open arr mem stil polys polt fldm fld1 nttm nttl floa
theorem xfi(L:(Nat→Int)→Nat→Int)(g s t b:Nat)(z:Int)(f:Nat→Int)(w:World)(hb:b=2*s*t)(hs:b+2*s≤256)(hz : 0≤z∧z<8380417)(hf:∀ j,0≤f j∧f j<8380417)
 (hL:∀ r,r<s→L f (2*s*t+r)=f (2*s*t+r)+z*f (2*s*t+r+s)∧L f (2*s*t+r+s)=f (2*s*t+r)-z*f (2*s*t+r+s))
 (hA:w.heap[g]? = some (.cells (FL .i64 256 (dn L s f (t*s))) 109 (0,0))):
 Calls Tryz.prog 147 #[.pointer (some ⟨g,0,none⟩),.int .i64 (b:Int),.int .i64 (s:Int),.int .i64 z] w fun e w'=>e=.returned (.tuple #[])∧At g (FL .i64 256 (dn L s f ((t+1)*s))) 109 w w':=by
 have HA:=ω hA;have HL:=ω hL;have Hz:=ω hz;have Hf:=ω hf;have Hb:=ω hb;have Hs:=ω hs;have Hend:Ω (t*s+s=(t+1)*s):=⟨by rw[Nat.succ_mul]⟩;have Hred:=ω xai;clear hA hL hz hf hb hs;go_enter Tryz.func147,Tryz.ntmps147;go_wp2_with fail;go_loopw [13] (fun v wr=>∃ r:Nat,r≤s∧v=.int .i64 (r:Int)∧Ω (At g (FL .i64 256 (dn L s f (t*s+r))) 109 w wr)) (fun v _=>s-(intOf v).toNat)
 case atStart=>exact⟨0,Nat.zero_le _,rfl,⟨At.refl HA.out⟩⟩
 case round=>
  obtain⟨r,hr,rfl,A0⟩:=hrel;by_cases hlt:r<s
  ·have hrz:(r:Int)<(s:Int):=by omega
   have hr1:(r:Int)<128:=by have:=Hs.out;omega
   obtain⟨lo,hlo⟩:=zev (b+r);obtain⟨hi,hhi⟩:=zev (lo+s);have hb:=Hb.out;have hs:=Hs.out;have elo : 2*s*t+r=lo:=by omega
   have ehi : 2*s*t+r+s=hi:=by omega
   have hiz:(hi:Int)<256:=by omega
   have loz:(lo:Int)<256:=by omega
   have Hhi:Ω (hi<256):=⟨by omega⟩;have Hlo:Ω (lo<256):=⟨by omega⟩;have f1:IntKind.i64.wrap ((b:Int)+(r:Int))=(lo:Int):=zwi;have f2:IntKind.i64.wrap ((lo:Int)+(s:Int))=(hi:Int):=zwi;obtain⟨x,hx⟩:=zev (f lo);obtain⟨y,hy⟩:=zev (f hi);have hxb : 0≤x∧x<8380417:=by rw[←hx];exact Hf.out lo
   have hyb : 0≤y∧y<8380417:=by rw[←hy];exact Hf.out hi
   have hzb:=Hz.out;have cx:wr.cell? ⟨g,lo,none⟩=some (.int .i64 x):=by
    have h9:=xaq A0.out.row lo Hlo.out;rw[←elo,xf4 L hlt,elo,hx]at h9;exact h9
   have cy:wr.cell? ⟨g,hi,none⟩=some (.int .i64 y):=by
    have h9:=xaq A0.out.row hi Hhi.out;rw[←ehi,xf3 L hlt,ehi,hy]at h9;exact h9
   have hP:=HL.out r hlt;rw[ehi,elo,hx,hy]at hP;have hp : 0≤z*y∧z*y≤8380417*8380417:=⟨Int.mul_nonneg hzb.1 hyb.1,Int.le_trans (Int.mul_le_mul_of_nonneg_right (Int.le_of_lt hzb.2) hyb.1) (Int.mul_le_mul_of_nonneg_left (Int.le_of_lt hyb.2) (by decide))⟩;obtain⟨p,hpe⟩:=zev (z*y);rw[hpe]at hp hP;have f3:IntKind.i64.wrap (z*y)=p:=by rw[hpe,IntKind.wrap_i64];omega
   have f4:IntKind.i64.wrap (x+p)=x+p:=zwi;have f5:IntKind.i64.wrap (x-p)=x-p:=zwi;obtain⟨v1,hv1⟩:=xaa ((x+p)%8380417);obtain⟨v2,hv2⟩:=xaa ((x-p)%8380417);have H1:∀ w1:World,Calls Tryz.prog 112 #[.int .i64 (x+p)] w1 (zE w1 (.int .i64 v1)):=fun w1=>by rw[←hv1.out];exact Hred.out _ w1
   have H2:∀ w1:World,Calls Tryz.prog 112 #[.int .i64 (x-p)] w1 (zE w1 (.int .i64 v2)):=fun w1=>by rw[←hv2.out];exact Hred.out _ w1
   have HU:Ω (upd (upd (dn L s f (t*s+r)) lo v1) hi v2=dn L s f (t*s+(r+1))):=⟨by
    have h9:=(xhl (t:=t) L hlt f v1 v2 (by rw[elo,hP.1];exact hv1.out.symm) (by rw[ehi,hP.2];exact hv2.out.symm)).2;rw[elo,hhi]at h9;exact h9⟩
   clear hx hy hxb hyb hzb hP hb hs elo ehi hlo hhi hp hpe;go_wp2_with fail;refine xjb (by kernel_rfl) ?_;refine zA 2 ?_;refine zA 3 ?_;refine zA 23 ?_;refine xjc [0,1,4,5,6,7,8,9,10,11,12,13,14,15,16,17,18,19,20,21] 22 [24,25] rfl (by kernel_rfl) ?_;simp only[pick,List.filterMap_cons,List.filterMap_nil,List.getElem?_cons_succ,List.getElem?_cons_zero];repeat still_step
   still_call (H1 _)
   repeat still_step
   still_call (H2 _)
   repeat still_step
   refine wpStill_nil ?_;have A1:Ω (At g (FL .i64 256 (dn L s f (t*s+r))) 109 w wr.drew):=⟨xag A0.out⟩;clear A0 cx cy
   with_reducible refine xaf A1 rfl _ _ _ rfl rfl ?_
   refine⟨_,_,_,rfl,rfl,rfl,by rw[xad];exact Hlo.out,?_⟩;intro w5 A2;rw[xap]at A2;clear A1;refine wpList_plain rfl (fun K hK=>?_);go_simp
   refine hK _ _ ?_;clear hK K
   with_reducible refine xaf A2 rfl _ _ _ rfl rfl ?_
   refine⟨_,_,_,rfl,rfl,rfl,(by rw[xad];exact Hhi.out),?_⟩;intro w6 A3;rw[xap,HU.out]at A3;clear A2;go_wp2_with fail;go_roundw
   case rel=>exact⟨r+1,by omega,by go_num,A3⟩
   case measure=>simp[intOf];omega
  ·obtain rfl:r=s:=by omega
   rw[Hend.out]at A0;go_wp2_with fail;refine bodyPost_end (v:=.tuple #[]) (results_none rfl _ _ _) rfl ?_;exact⟨rfl,A0.out⟩
end nsplit
namespace njoin
open arr mem stil polys polt fldm fld1 nttm nttl floa
theorem xsl(L:(Nat→Int)→Nat→Int)(g s t b:Nat)(z:Int)(f:Nat→Int)(w:World)(hb:b=2*s*t)(hs:b+2*s≤256)(hz : 0≤z∧z<8380417)(hf:∀ j,0≤f j∧f j<8380417)
 (hL:∀ r,r<s→L f (2*s*t+r)=f (2*s*t+r)+f (2*s*t+r+s)∧L f (2*s*t+r+s) = -z*(f (2*s*t+r)-f (2*s*t+r+s)))
 (hA:w.heap[g]? = some (.cells (FL .i64 256 (dn L s f (t*s))) 109 (0,0))):
 Calls Tryz.prog 148 #[.pointer (some ⟨g,0,none⟩),.int .i64 (b:Int),.int .i64 (s:Int),.int .i64 z] w fun e w'=>e=.returned (.tuple #[])∧At g (FL .i64 256 (dn L s f ((t+1)*s))) 109 w w':=by
 have HA:=ω hA;have HL:=ω hL;have Hz:=ω hz;have Hf:=ω hf;have Hb:=ω hb;have Hs:=ω hs;have Hend:Ω (t*s+s=(t+1)*s):=⟨by rw[Nat.succ_mul]⟩;have Hred:=ω xai;clear hA hL hz hf hb hs;go_enter Tryz.func148,Tryz.ntmps148;go_wp2_with fail;go_loopw [14] (fun v wr=>∃ r:Nat,r≤s∧v=.int .i64 (r:Int)∧Ω (At g (FL .i64 256 (dn L s f (t*s+r))) 109 w wr)) (fun v _=>s-(intOf v).toNat)
 case atStart=>exact⟨0,Nat.zero_le _,rfl,⟨At.refl HA.out⟩⟩
 case round=>
  obtain⟨r,hr,rfl,A0⟩:=hrel;by_cases hlt:r<s
  ·have hrz:(r:Int)<(s:Int):=by omega
   have hr1:(r:Int)<128:=by have:=Hs.out;omega
   obtain⟨lo,hlo⟩:=zev (b+r);obtain⟨hi,hhi⟩:=zev (lo+s);have hb:=Hb.out;have hs:=Hs.out;have elo : 2*s*t+r=lo:=by omega
   have ehi : 2*s*t+r+s=hi:=by omega
   have hiz:(hi:Int)<256:=by omega
   have loz:(lo:Int)<256:=by omega
   have Hhi:Ω (hi<256):=⟨by omega⟩;have Hlo:Ω (lo<256):=⟨by omega⟩;have f1:IntKind.i64.wrap ((b:Int)+(r:Int))=(lo:Int):=zwi;have f2:IntKind.i64.wrap ((lo:Int)+(s:Int))=(hi:Int):=zwi;obtain⟨x,hx⟩:=zev (f lo);obtain⟨y,hy⟩:=zev (f hi);have hxb : 0≤x∧x<8380417:=by rw[←hx];exact Hf.out lo
   have hyb : 0≤y∧y<8380417:=by rw[←hy];exact Hf.out hi
   have hzb:=Hz.out;have cx:wr.cell? ⟨g,lo,none⟩=some (.int .i64 x):=by
    have h9:=xaq A0.out.row lo Hlo.out;rw[←elo,xf4 L hlt,elo,hx]at h9;exact h9
   have cy:wr.cell? ⟨g,hi,none⟩=some (.int .i64 y):=by
    have h9:=xaq A0.out.row hi Hhi.out;rw[←ehi,xf3 L hlt,ehi,hy]at h9;exact h9
   have hP:=HL.out r hlt;rw[ehi,elo,hx,hy]at hP;obtain⟨d,hd⟩:=zev (x-y);rw[hd]at hP;have hp : -8380417*(2*8380417) ≤ -z*d ∧ -z*d≤8380417*8380417:=by
    have h0 : 0≤z*(x+8380417-y)∧z*(x+8380417-y)≤8380417*(2*8380417):=⟨Int.mul_nonneg hzb.1 (by omega),Int.le_trans (Int.mul_le_mul_of_nonneg_right (Int.le_of_lt hzb.2) (by omega)) (Int.mul_le_mul_of_nonneg_left (by omega) (by decide))⟩;have h1:z*(x+8380417-y)=z*d+z*8380417:=by rw[←hd,←Int.mul_add];congr 1;omega
    rw[h1]at h0;have h2 : -z*d = -(z*d):=Int.neg_mul z d;rw[h2];generalize z*d=q at h0 ⊢;omega
   obtain⟨p,hpe⟩:=zev (-z*d);rw[hpe]at hp hP;have f3:IntKind.i64.wrap (x+y)=x+y:=zwi;have f4:IntKind.i64.wrap (x-y)=d:=zwi;have f6:IntKind.i64.wrap (-z) = -z:=zwi;have f5:IntKind.i64.wrap (-z*d)=p:=by rw[hpe,IntKind.wrap_i64];omega
   obtain⟨v1,hv1⟩:=xaa ((x+y)%8380417);obtain⟨v2,hv2⟩:=xaa ((p)%8380417);have H1:∀ w1:World,Calls Tryz.prog 112 #[.int .i64 (x+y)] w1 (zE w1 (.int .i64 v1)):=fun w1=>by rw[←hv1.out];exact Hred.out _ w1
   have H2:∀ w1:World,Calls Tryz.prog 112 #[.int .i64 (p)] w1 (zE w1 (.int .i64 v2)):=fun w1=>by rw[←hv2.out];exact Hred.out _ w1
   have HU:Ω (upd (upd (dn L s f (t*s+r)) lo v1) hi v2=dn L s f (t*s+(r+1))):=⟨by
    have h9:=(xhl (t:=t) L hlt f v1 v2 (by rw[elo,hP.1];exact hv1.out.symm) (by rw[ehi,hP.2];exact hv2.out.symm)).2;rw[elo,hhi]at h9;exact h9⟩
   clear hx hy hxb hyb hzb hP hb hs elo ehi hlo hhi hp hd hpe;go_wp2_with fail;refine xav (by kernel_rfl) (by kernel_rfl) ?_;repeat still_step
   refine wpStill_nil ?_;go_wp2_with fail;refine xjb (by kernel_rfl) ?_;refine zA 2 ?_;refine zA 3 ?_;refine zA 14 ?_;refine xjc [0,1,4,5,6,7,8,9,10,11,12] 13 [15,16] rfl (by kernel_rfl) ?_;simp only[pick,List.filterMap_cons,List.filterMap_nil,List.getElem?_cons_succ,List.getElem?_cons_zero];repeat still_step
   still_call (H1 _)
   repeat still_step
   still_call (H2 _)
   repeat still_step
   refine wpStill_nil ?_;have A1:Ω (At g (FL .i64 256 (dn L s f (t*s+r))) 109 w wr.drew.drew):=⟨xag (xag A0.out)⟩;clear A0 cx cy
   with_reducible refine xaf A1 rfl _ _ _ rfl rfl ?_
   refine⟨_,_,_,rfl,rfl,rfl,by rw[xad];exact Hlo.out,?_⟩;intro w5 A2;rw[xap]at A2;clear A1;refine wpList_plain rfl (fun K hK=>?_);go_simp
   refine hK _ _ ?_;clear hK K
   with_reducible refine xaf A2 rfl _ _ _ rfl rfl ?_
   refine⟨_,_,_,rfl,rfl,rfl,(by rw[xad];exact Hhi.out),?_⟩;intro w6 A3;rw[xap,HU.out]at A3;clear A2;go_wp2_with fail;go_roundw
   case rel=>exact⟨r+1,by omega,by go_num,A3⟩
   case measure=>simp[intOf];omega
  ·obtain rfl:r=s:=by omega
   rw[Hend.out]at A0;go_wp2_with fail;refine bodyPost_end (v:=.tuple #[]) (results_none rfl _ _ _) rfl ?_;exact⟨rfl,A0.out⟩
end njoin
namespace nthere
open arr mem stil polys polt nttm nttp nttl
structure ZT (T:Array Value) (Z:Nat→Int):Prop where
 z:∀ k,k<256→T[209+k]? = some (.int .i64 (Z k))
 size:T.size=465
 one:T.all (·.oneCell')=true
theorem infoT:(Tryz.prog.info? 34).map (·.size)=some 465:=by kernel_rfl
theorem pows(m:Nat)(h:m<8) : 0<2 ^ m∧(128:Int) / 2 ^ m=((2 ^ (7-m):Nat):Int)∧IntKind.i64.wrap ((2:Int) ^ m)=((2 ^ m:Nat):Int)∧2 ^ m≤128∧0<2 ^ (7-m):=by
 have key:∀ m:Fin 8,0<2 ^ m.val∧(128:Int) / 2 ^ m.val=((2 ^ (7-m.val):Nat):Int)∧IntKind.i64.wrap ((2:Int) ^ m.val)=((2 ^ m.val:Nat):Int)∧2 ^ m.val≤128∧0<2 ^ (7-m.val):=by decide +kernel
 exact key ⟨m,h⟩
theorem xfm(T:Array Value)(Z:Nat→Int)(f:Nat→Int)(w:World)(hT:ZT T Z):
 Calls Tryz.prog 95 #[.agg T,.agg (FL .i64 256 f)] w (zB w (.agg (FL .i64 256 (thereR (fun k=>Z k%8380417) 8 f)))):=by
 obtain⟨ζ,hζ⟩:=xaa (fun k=>Z k%8380417);have Hζ : Ω (∀ k,Z k%8380417 = ζ k):=⟨fun k=>by rw[←hζ.out]⟩;rw[hζ.out];clear hζ;obtain⟨hz,hsize⟩:=zero_of_info infoP;obtain⟨z,HZ⟩:=xaa (FL .i64 256 fun _=>0);rw[HZ.out]at hz;have Hzs:=zfs HZ;obtain⟨F,HF⟩:=xaa (FL .i64 256 f);obtain⟨R,HR⟩:=xaa (FL .i64 256 (thereR ζ 8 f));obtain⟨F0,HF0⟩:=xaa (FL .i64 256 (red f));have Fi:=zri HF hsize;have Gi:=zri HF0 hsize;have Go':Ω (F0.all (·.oneCell')=true):=⟨by rw[←HF0.out];exact xbf _ _ _⟩;have Gz:=zrz Hzs HF0;have Ri:=zri HR hsize;have Ro:=zro HR;have Rz:=zrz Hzs HR;have H:Ω (∀ w1:World,Calls Tryz.prog 146 #[.agg F] w1 (zB w1 (.agg F0))):=⟨fun w1=>by
  have h:=nred.xpb f w1;rw[HF.out,HF0.out]at h;exact h⟩
 have HT:=ω hT;have Hred:=ω fld1.xai;rw[HF.out,HR.out];clear HF HZ hsize hT;go_enter Tryz.func95,Tryz.ntmps95;go_wp2_with fail;obtain⟨W,hW⟩:=zev (((w.alloc (.cells T 34)).alloc (.cells F 109)).alloc (.cells z 109));obtain⟨b0,b1,b2,hWs,hWb⟩:=three hW;rw[hW];clear hW;have B0:=ω b0;have B1:=ω b1;have B2:=ω b2;have HWb:=ω hWb;have HWs:=ω hWs;clear hWs hWb b0 b1 b2;refine wp_load_row 109 _ rfl (w.heap.size+1) rfl 109 F (0,0) _ B1.out zX rfl Fi.out ?_;go_wp2_with fail;refine(H.out _).mono ?_;rintro e w1 ⟨rfl,hb⟩;have C0:Ω (w1.heap[w.heap.size]? = some (.cells T 34 (0,0))):=⟨(hb.block _ (xac B0.out)).trans B0.out⟩;have C2:Ω (w1.heap[w.heap.size+2]? = some (.cells z 109 (0,0))):=⟨(hb.block _ (xac B2.out)).trans B2.out⟩;have HB:=zbt HWb hb;have HW1:Ω (w.heap.size+3≤w1.heap.size):=⟨by have:=hb.size;have:=HWs.out;omega⟩;clear hb B0 B1 B2 HWb HWs;go_wp2_with (refine xam rfl 109 _ _ rfl _ rfl rfl Gi.out Gz.out Go'.out rfl ?_);obtain⟨V,hV⟩:=zev (w1.alloc (.cells F0 109));obtain⟨b0,hVs,hVb⟩:=one hV;rw[hV];clear hV;obtain⟨g,hg⟩:=xaa w1.heap.size;rw[hg.out]at b0 hVb;rw[hg.out];have D0:Ω (V.heap[w.heap.size]? = some (.cells T 34 (0,0))):=⟨(hVb.block _ (by rw[←hg.out];exact xac C0.out)).trans C0.out⟩;have D2:Ω (V.heap[w.heap.size+2]? = some (.cells z 109 (0,0))):=⟨(hVb.block _ (by rw[←hg.out];exact xac C2.out)).trans C2.out⟩;have HgV:Ω (g<V.heap.size∧w.heap.size+3≤g):=⟨by have:=HW1.out;have:=hg.out;omega⟩;have HVB:Ω (Below w.heap.size w V):=⟨HB.out.trans (by rw[←hg.out]at hVb;exact hVb.mono HB.out.size)⟩;have A0':Ω (At g (FL .i64 256 (thereR ζ 0 f)) 109 V V):=⟨At.refl (by show V.heap[g]? = some (.cells (FL .i64 256 (red f)) 109 (0,0));rw[HF0.out];exact b0)⟩
 clear b0 hVs hVb hg C0 C2 HB HW1 hz;go_loopw [12,6] (fun lv k wr=>∃ m:Nat,m≤8∧lv=.int .i64 (m:Int)∧k=.int .i64 ((2 ^ m-1:Nat):Int)∧Ω (At g (FL .i64 256 (thereR ζ m f)) 109 V wr)) (fun lv _ _=>8-(intOf lv).toNat)
 case atStart=>exact⟨0,Nat.zero_le _,rfl,rfl,A0'⟩
 case round=>
  obtain⟨m,hm,rfl,rfl,A0⟩:=hrel;by_cases hlt:m<8
  ·have hmz:(m:Int)<8:=by omega
   obtain⟨K,hK⟩:=zev (2 ^ m);obtain⟨s,hs⟩:=zev (2 ^ (7-m));have h256:=(nttp.xpw m (by omega)).1;rw[hK,hs]at h256;have hp:=pows m hlt;rw[hK,hs]at hp;obtain⟨hp1,hp2,hp3,hp4,hp5⟩:=hp;have Hp1:=ω hp1;have hnext:Ω (∀ j,j<256→dn (ly ζ K s) s (thereR ζ m f) (K*s) j=thereR ζ (m+1) f j):=⟨fun j hj=>by
    rw[xhk (ly ζ K s) K s (by omega) _ j (by omega),←hK,←hs];rfl⟩
   have hKn:Ω (2 ^ (m+1)-1=K-1+K):=⟨by rw[Nat.pow_succ,hK];omega⟩;have H256:=ω h256;obtain⟨h,hh⟩:=xaa (thereR ζ m f);have Hh:Ω (∀ j,0≤h j∧h j<8380417):=⟨fun j=>by rw[←hh.out];exact xp5 ζ m f j⟩;rw[hh.out]at hnext A0;rw[hK];have f1:(128:Int) / 2 ^ m=(s:Int):=hp2;have f2:IntKind.i64.wrap ((2:Int) ^ m)=(K:Int):=hp3;clear hp1 hp2 hp3 h256 hK hs hh;have hK128:(K:Int)≤128:=by omega
   obtain⟨q,hq⟩:=zev (K-1);have Hq:Ω (q+1=K):=⟨by have:=Hp1.out;omega⟩;rw[hq]at hKn;rw[hq];clear hq hp4 hp5;go_wp2_with fail;rename World=>wo
   go_loopw [19,6] (fun j k wr=>∃ t:Nat,t≤K∧j=.int .i64 (t:Int)∧k=.int .i64 ((q+t:Nat):Int)∧Ω (At g (FL .i64 256 (dn (ly ζ K s) s h (t*s))) 109 V wr)) (fun j _ _=>K-(intOf j).toNat)
   case atStart=>exact⟨0,Nat.zero_le _,rfl,rfl,⟨by rw[Nat.zero_mul,xhm];exact A0.out⟩⟩
   case round=>
    obtain⟨t,ht,rfl,rfl,A1⟩:=hrel;by_cases hlt2:t<K
    ·have htz:(t:Int)<(K:Int):=by omega
     obtain⟨c,hc⟩:=zev (q+t);obtain⟨k,hk⟩:=zev (K+t);obtain⟨d,hd⟩:=zev (2*s);obtain⟨b,hb⟩:=zev (d*t);have h256:=H256.out;rw[hd]at h256;have hbd:b+d≤256:=by
      have h1:d*(t+1)≤d*K:=Nat.mul_le_mul_left _ hlt2;rw[Nat.mul_succ,hb]at h1;omega
     have hk256:Ω (k<256):=⟨by omega⟩;have hkz:(k:Int)<256:=by omega
     have hck:c+1=k:=by have:=Hq.out;omega
     have f3:IntKind.i64.wrap ((c:Int)+1)=(k:Int):=zwi;have f4:IntKind.i64.wrap (2*(s:Int))=(d:Int):=zwi;have hbz:(d:Int)*(t:Int)=(b:Int):=by rw[←hb];exact(Int.natCast_mul d t).symm
     have f5:IntKind.i64.wrap ((d:Int)*(t:Int))=(b:Int):=by rw[hbz,IntKind.wrap_i64];omega
     have E0:wr.heap[w.heap.size]? = some (.cells T 34 (0,0)):=A1.out.other (by have:=HgV.out;omega) (by have:=HgV.out;omega) D0.out;obtain⟨x,hx⟩:=xaa (Z k);have cz:wr.cell? ⟨w.heap.size,209+k,none⟩=some (.int .i64 x):=by rw[←hx.out];exact xab E0 (HT.out.z k hk256.out)
     have Hx:Ω (∀ w1:World,Calls Tryz.prog 112 #[.int .i64 x] w1 fun e w'=>e=.returned (.int .i64 (ζ k))∧w1=w'):=⟨fun w1=>by rw[←Hζ.out k,hx.out];exact(Hred.out x w1).mono fun _ _ h=>⟨h.1,h.2.symm⟩⟩;have Hζb:Ω (0 ≤ ζ k ∧ ζ k<8380417):=⟨by rw[←Hζ.out k];exact⟨Int.emod_nonneg _ (by decide),Int.emod_lt_of_pos _ (by decide)⟩⟩;have Hsp:Ω (∀ w1:World,w1.heap[g]? = some (.cells (FL .i64 256 (dn (ly ζ K s) s h (t*s))) 109 (0,0))→Calls Tryz.prog 147 #[.pointer (some ⟨g,0,none⟩),.int .i64 (b:Int),.int .i64 (s:Int),.int .i64 (ζ k)] w1 fun e w'=>e=.returned (.tuple #[])∧At g (FL .i64 256 (dn (ly ζ K s) s h ((t+1)*s))) 109 w1 w'):=⟨fun w1 hA=>nsplit.xfi (ly ζ K s) g s t b (ζ k) h w1 (by rw[hd];exact hb.symm) (by omega) Hζb.out Hh.out (fun r hr=>by rw[←hk];exact xnn ζ K hr h) hA⟩;have Hck:=ω hck;have Hc:=ω hc;rw[hc];obtain⟨y,hy⟩:=xaa (ζ k);rw[hy.out]at Hx Hsp;clear hc hck hk hd hb hbz h256 hbd E0 hx hy;go_wp2_with fail;refine(Hx.out _).mono ?_;rintro e w3 ⟨rfl,rfl⟩;go_wp2_with fail;refine(Hsp.out _ A1.out.row).mono ?_;rintro e w3 ⟨rfl,hA2⟩;have A2:Ω (At g (FL .i64 256 (dn (ly ζ K s) s h ((t+1)*s))) 109 V w3):=⟨A1.out.trans hA2⟩;clear hA2 A1 cz;go_wp2_with fail;go_roundw
     case rel=>exact⟨t+1,by omega,by go_num,by rw[show q+(t+1)=k by have:=Hck.out;have:=Hc.out;omega],A2⟩
     case measure=>simp[intOf];omega
    ·obtain rfl:t=K:=by omega
     rw[show FL .i64 256 (dn (ly ζ t s) s h (t*s))=FL .i64 256 (thereR ζ (m+1) f) from xdj .i64 256 hnext.out]at A1;go_wp2_with fail;go_roundw
     case rel=>exact⟨m+1,by omega,by go_num,by rw[hKn.out],A1⟩
     case measure=>simp[intOf];omega
  ·obtain rfl:m=8:=by omega
   simp only[Int.cast_ofNat_Int];rw[HR.out]at A0;have Hrow:=ω A0.out.row;have Hres:Ω (wr.heap[w.heap.size+2]? = some (.cells z 109 (0,0))):=⟨A0.out.other (by have:=HgV.out;omega) (by have:=HgV.out;omega) D2.out⟩;have HB:Ω (Below w.heap.size w wr):=⟨HVB.out.trans (A0.out.below HVB.out.size (by have:=HgV.out;omega))⟩;clear A0;go_wp2_with (first
    | (refine wpList_load_row rfl 109 _ rfl g rfl 109 R (0,0) _ Hrow.out zX rfl Ri.out ?_)
    | (refine wpList_store_row rfl 109 _ _ rfl (w.heap.size+2) R rfl rfl 109 _ Hres.out Ri.out Rz.out Ro.out ?_))
   refine bodyPost_ret_by (v:=.agg R) (results_cell_row rfl _ _ (w.heap.size+2) 109 _ (0,0) _ rfl (setRow_heap _ _ _ _ _ _ Hres.out) zX rfl Ri.out) rfl ?_;exact⟨rfl,HB.out.trans (below_setRow _ _ _ (by omega))⟩
end nthere
namespace nback
open arr mem stil polys polt nttm nttp nttl nthere
theorem xfv(T:Array Value)(Z:Nat→Int)(f:Nat→Int)(w:World)(hT:ZT T Z):
 Calls Tryz.prog 97 #[.agg T,.agg (FL .i64 256 f)] w (zB w (.agg (FL .i64 256 (fun i=>(backR (fun k=>Z k%8380417) 8 f i*8347681)%8380417)))):=by
 obtain⟨ζ,hζ⟩:=xaa (fun k=>Z k%8380417);have Hζ : Ω (∀ k,Z k%8380417 = ζ k):=⟨fun k=>by rw[←hζ.out]⟩;rw[hζ.out];clear hζ;obtain⟨hz,hsize⟩:=zero_of_info infoP;obtain⟨z,HZ⟩:=xaa (FL .i64 256 fun _=>0);rw[HZ.out]at hz;have Hzs:=zfs HZ;obtain⟨F,HF⟩:=xaa (FL .i64 256 f);obtain⟨R,HR⟩:=xaa (FL .i64 256 (fun i=>(backR ζ 8 f i*8347681)%8380417));obtain⟨F0,HF0⟩:=xaa (FL .i64 256 (red f));have Fi:=zri HF hsize;have Gi:=zri HF0 hsize;have Go':Ω (F0.all (·.oneCell')=true):=⟨by rw[←HF0.out];exact xbf _ _ _⟩;have Gz:=zrz Hzs HF0;have Ri:=zri HR hsize;have Ro:=zro HR;have Rz:=zrz Hzs HR;have H:Ω (∀ w1:World,Calls Tryz.prog 146 #[.agg F] w1 (zB w1 (.agg F0))):=⟨fun w1=>by
  have h:=nred.xpb f w1;rw[HF.out,HF0.out]at h;exact h⟩
 have HT:=ω hT;have Hred:=ω fld1.xai;rw[HF.out,HR.out];clear HF HZ hsize hT;go_enter Tryz.func97,Tryz.ntmps97;go_wp2_with fail;obtain⟨W,hW⟩:=zev (((w.alloc (.cells T 34)).alloc (.cells F 109)).alloc (.cells z 109));obtain⟨b0,b1,b2,hWs,hWb⟩:=three hW;rw[hW];clear hW;have B0:=ω b0;have B1:=ω b1;have B2:=ω b2;have HWb:=ω hWb;have HWs:=ω hWs;clear hWs hWb b0 b1 b2;refine wp_load_row 109 _ rfl (w.heap.size+1) rfl 109 F (0,0) _ B1.out zX rfl Fi.out ?_;go_wp2_with fail;refine(H.out _).mono ?_;rintro e w1 ⟨rfl,hb⟩;have C0:Ω (w1.heap[w.heap.size]? = some (.cells T 34 (0,0))):=⟨(hb.block _ (xac B0.out)).trans B0.out⟩;have C2:Ω (w1.heap[w.heap.size+2]? = some (.cells z 109 (0,0))):=⟨(hb.block _ (xac B2.out)).trans B2.out⟩;have HB:=zbt HWb hb;have HW1:Ω (w.heap.size+3≤w1.heap.size):=⟨by have:=hb.size;have:=HWs.out;omega⟩;clear hb B0 B1 B2 HWb HWs;go_wp2_with (refine xam rfl 109 _ _ rfl _ rfl rfl Gi.out Gz.out Go'.out rfl ?_);obtain⟨V,hV⟩:=zev (w1.alloc (.cells F0 109));obtain⟨b0,hVs,hVb⟩:=one hV;rw[hV];clear hV;obtain⟨g,hg⟩:=xaa w1.heap.size;rw[hg.out]at b0 hVb;rw[hg.out];have D0:Ω (V.heap[w.heap.size]? = some (.cells T 34 (0,0))):=⟨(hVb.block _ (by rw[←hg.out];exact xac C0.out)).trans C0.out⟩;have D2:Ω (V.heap[w.heap.size+2]? = some (.cells z 109 (0,0))):=⟨(hVb.block _ (by rw[←hg.out];exact xac C2.out)).trans C2.out⟩;have HgV:Ω (g<V.heap.size∧w.heap.size+3≤g):=⟨by have:=HW1.out;have:=hg.out;omega⟩;have HVB:Ω (Below w.heap.size w V):=⟨HB.out.trans (by rw[←hg.out]at hVb;exact hVb.mono HB.out.size)⟩;have A0':Ω (At g (FL .i64 256 (backR ζ 0 f)) 109 V V):=⟨At.refl (by show V.heap[g]? = some (.cells (FL .i64 256 (red f)) 109 (0,0));rw[HF0.out];exact b0)⟩
 clear b0 hVs hVb hg C0 C2 HB HW1 hz;go_loopw [12,6] (fun lv k wr=>∃ m:Nat,m≤8∧lv=.int .i64 (m:Int)∧k=.int .i64 ((2 ^ (8-m):Nat):Int)∧Ω (At g (FL .i64 256 (backR ζ m f)) 109 V wr)) (fun lv _ _=>8-(intOf lv).toNat)
 case atStart=>exact⟨0,Nat.zero_le _,rfl,rfl,A0'⟩
 case round=>
  obtain⟨m,hm,rfl,rfl,A0⟩:=hrel;by_cases hlt:m<8
  ·have hmz:(m:Int)<8:=by omega
   obtain⟨K,hK⟩:=zev (2 ^ (7-m));obtain⟨s,hs⟩:=zev (2 ^ m);have h256:=(nttp.xpw m (by omega)).2;rw[hK,hs]at h256;have hp:=pows m hlt;rw[hK,hs]at hp;obtain⟨hp1,hp2,hp3,hp4,hp5⟩:=hp;have Hp1:=ω hp1;have hnext:Ω (∀ j,j<256→dn (bk ζ K s) s (backR ζ m f) (K*s) j=backR ζ (m+1) f j):=⟨fun j hj=>by
    rw[xhk (bk ζ K s) K s (by omega) _ j (by omega),←hK,←hs];rfl⟩
   have hKn:Ω (2 ^ (8-(m+1))=K):=⟨by rw[show 8-(m+1)=7-m by omega,hK]⟩;have hK2 : 2 ^ (8-m)=2*K:=by rw[←hK,show 8-m=7-m+1 by omega,Nat.pow_succ,Nat.mul_comm]
   have H256:=ω h256;obtain⟨h,hh⟩:=xaa (backR ζ m f);have Hh:Ω (∀ j,0≤h j∧h j<8380417):=⟨fun j=>by rw[←hh.out];exact xmh ζ m f j⟩;rw[hh.out]at hnext A0;rw[hK2];have f1:(128:Int) / 2 ^ m=(K:Int):=hp2;have f2:IntKind.i64.wrap ((2:Int) ^ m)=(s:Int):=hp3;have hK128:(K:Int)≤128:=by
    have h1 : 1*K≤s*K:=Nat.mul_le_mul_right _ hp1;rw[Nat.mul_assoc]at h256;omega
   clear hp1 hp2 hp3 h256 hK hs hh hK2;have hs128:(s:Int)≤128:=by omega
   obtain⟨q,hq⟩:=zev (2*K);have Hq:Ω (2*K=q):=⟨hq⟩;rw[hq];clear hq hp4 hp5;go_wp2_with fail;rename World=>wo
   go_loopw [19,6] (fun j k wr=>∃ t:Nat,t≤K∧j=.int .i64 (t:Int)∧k=.int .i64 ((q-t:Nat):Int)∧Ω (At g (FL .i64 256 (dn (bk ζ K s) s h (t*s))) 109 V wr)) (fun j _ _=>K-(intOf j).toNat)
   case atStart=>exact⟨0,Nat.zero_le _,rfl,rfl,⟨by rw[Nat.zero_mul,xhm];exact A0.out⟩⟩
   case round=>
    obtain⟨t,ht,rfl,rfl,A1⟩:=hrel;by_cases hlt2:t<K
    ·have hqq:=Hq.out;have htz:(t:Int)<(K:Int):=by omega
     obtain⟨c,hc⟩:=zev (q-t);obtain⟨k,hk⟩:=zev (2*K-1-t);obtain⟨d,hd⟩:=zev (2*s);obtain⟨b,hb⟩:=zev (d*t);have h256:=H256.out;rw[hd]at h256;have hbd:b+d≤256:=by
      have h1:d*(t+1)≤d*K:=Nat.mul_le_mul_left _ hlt2;rw[Nat.mul_succ,hb]at h1;omega
     have hk256:Ω (k<256):=⟨by omega⟩;have hkz:(k:Int)<256:=by omega
     have hck:k+1=c:=by have:=Hq.out;omega
     have f3:IntKind.i64.wrap ((c:Int)-1)=(k:Int):=zwi;have f4:IntKind.i64.wrap (2*(s:Int))=(d:Int):=zwi;have hbz:(d:Int)*(t:Int)=(b:Int):=by rw[←hb];exact(Int.natCast_mul d t).symm
     have f5:IntKind.i64.wrap ((d:Int)*(t:Int))=(b:Int):=by rw[hbz,IntKind.wrap_i64];omega
     have E0:wr.heap[w.heap.size]? = some (.cells T 34 (0,0)):=A1.out.other (by have:=HgV.out;omega) (by have:=HgV.out;omega) D0.out;obtain⟨x,hx⟩:=xaa (Z k);have cz:wr.cell? ⟨w.heap.size,209+k,none⟩=some (.int .i64 x):=by rw[←hx.out];exact xab E0 (HT.out.z k hk256.out)
     have Hx:Ω (∀ w1:World,Calls Tryz.prog 112 #[.int .i64 x] w1 fun e w'=>e=.returned (.int .i64 (ζ k))∧w1=w'):=⟨fun w1=>by rw[←Hζ.out k,hx.out];exact(Hred.out x w1).mono fun _ _ h=>⟨h.1,h.2.symm⟩⟩;have Hζb:Ω (0 ≤ ζ k ∧ ζ k<8380417):=⟨by rw[←Hζ.out k];exact⟨Int.emod_nonneg _ (by decide),Int.emod_lt_of_pos _ (by decide)⟩⟩;have Hsp:Ω (∀ w1:World,w1.heap[g]? = some (.cells (FL .i64 256 (dn (bk ζ K s) s h (t*s))) 109 (0,0))→Calls Tryz.prog 148 #[.pointer (some ⟨g,0,none⟩),.int .i64 (b:Int),.int .i64 (s:Int),.int .i64 (ζ k)] w1 fun e w'=>e=.returned (.tuple #[])∧At g (FL .i64 256 (dn (bk ζ K s) s h ((t+1)*s))) 109 w1 w'):=⟨fun w1 hA=>njoin.xsl (bk ζ K s) g s t b (ζ k) h w1 (by rw[hd];exact hb.symm) (by omega) Hζb.out Hh.out (fun r hr=>by rw[←hk];exact xml ζ K hr h) hA⟩;have Hck:=ω hck;have Hc:=ω hc;rw[hc];obtain⟨y,hy⟩:=xaa (ζ k);rw[hy.out]at Hx Hsp;clear hc hck hk hd hb hbz h256 hbd E0 hx hy hqq;go_wp2_with fail;refine(Hx.out _).mono ?_;rintro e w3 ⟨rfl,rfl⟩;go_wp2_with fail;refine(Hsp.out _ A1.out.row).mono ?_;rintro e w3 ⟨rfl,hA2⟩;have A2:Ω (At g (FL .i64 256 (dn (bk ζ K s) s h ((t+1)*s))) 109 V w3):=⟨A1.out.trans hA2⟩;clear hA2 A1 cz;go_wp2_with fail;go_roundw
     case rel=>exact⟨t+1,by omega,by go_num,by rw[show q-(t+1)=k by have:=Hck.out;have:=Hc.out;omega],A2⟩
     case measure=>simp[intOf];omega
    ·obtain rfl:t=K:=by omega
     rw[show FL .i64 256 (dn (bk ζ t s) s h (t*s))=FL .i64 256 (backR ζ (m+1) f) from xdj .i64 256 hnext.out]at A1;go_wp2_with fail;go_roundw
     case rel=>exact⟨m+1,by omega,by go_num,by rw[hKn.out,show q-t=t by have:=Hq.out;omega],A1⟩
     case measure=>simp[intOf];omega
  ·obtain rfl:m=8:=by omega
   simp only[Int.cast_ofNat_Int];obtain⟨C,hC⟩:=xaa (FL .i64 256 (backR ζ 8 f));rw[hC.out]at A0;have Ci:Ω ((Tryz.prog.info? 109).map (·.size)=some C.size):=⟨by rw[←hC.out,xad];have h1:=Ri.out;rw[←HR.out,xad]at h1;exact h1⟩;have Hsc:Ω (∀ w1:World,Calls Tryz.prog 149 #[.agg C,.int .i64 8347681] w1 (zB w1 (.agg R))):=⟨fun w1=>by
    have h:=fscale.xip (backR ζ 8 f) 8347681 w1;rw[hC.out,HR.out]at h;exact h⟩
   have Hrow:=ω A0.out.row;have Hres:Ω (wr.heap[w.heap.size+2]? = some (.cells z 109 (0,0))):=⟨A0.out.other (by have:=HgV.out;omega) (by have:=HgV.out;omega) D2.out⟩;have HB:Ω (Below w.heap.size w wr):=⟨HVB.out.trans (A0.out.below HVB.out.size (by have:=HgV.out;omega))⟩;clear A0 hC;go_wp2_with fail;refine wp_load_row 109 _ rfl g rfl 109 C (0,0) _ Hrow.out zX rfl Ci.out ?_;go_wp2_with fail;refine(Hsc.out _).mono ?_;rintro e w5 ⟨rfl,hb5⟩;have Hres5:Ω (w5.heap[w.heap.size+2]? = some (.cells z 109 (0,0))):=⟨(hb5.block _ (xac Hres.out)).trans Hres.out⟩;have HB5:=zbt HB hb5;clear hb5 Hres Hrow HB;go_wp2_with (refine wpList_store_row rfl 109 _ _ rfl (w.heap.size+2) R rfl rfl 109 _ Hres5.out Ri.out Rz.out Ro.out ?_);refine bodyPost_ret_by (v:=.agg R) (results_cell_row rfl _ _ (w.heap.size+2) 109 _ (0,0) _ rfl (setRow_heap _ _ _ _ _ _ Hres5.out) zX rfl Ri.out) rfl ?_;exact⟨rfl,HB5.out.trans (below_setRow _ _ _ (by omega))⟩
end nback
namespace vary
open arr mem
section
variable {P:Program} {ops:Array Oper} {md:Region.Mode} {C:World→Prop}
def Mild(P:Program)(C:World→Prop)(o:Oper)(a:Act)(v:Value):Prop:=∀ w,C w→o.quietAt P a (fun w'=>Below w.heap.size w w') w v
def wpMild(P:Program)(ops:Array Oper)(C:World→Prop)(Q:Act→Prop):List Oper→Act→Prop
 | [],a=>Q a
 | o :: rest,a=>if Region.wanted o (yielded ops a.tmps)=true then ∃ v,Mild P C o a v∧wpMild P ops C Q rest (a.put o.dst v) else wpMild P ops C Q rest (a.put o.dst undef)
def mOp(P:Program)(ops:Array Oper)(C:World→Prop)(o:Oper)(K:Act→Prop)(a:Act):Prop:=
 if Region.wanted o (yielded ops a.tmps)=true then ∃ v,Mild P C o a v∧K (a.put o.dst v) else K (a.put o.dst undef)
def anyM(P:Program)(md:Region.Mode)(ops:Array Oper)(C:World→Prop)(Q:Act→Prop):Nat→Array Bool→Act→Prop
 | 0,b,a=>Region.ready md ops b=[]∧Q a
 | f+1,b,a=>(Region.ready md ops b=[]→Q a)∧∀ i o,i∈Region.ready md ops b→ops[i]? = some o→mOp P ops C o (anyM P md ops C Q f (b.setIfInBounds i true)) a
def YieldsM(P:Program)(ops:Array Oper)(C:World→Prop)(o:Oper)(v:Value)(a:Act):Prop:=
 (Region.wanted o (yielded ops a.tmps)=true∧Mild P C o a v)∨(Region.wanted o (yielded ops a.tmps)=false∧v=undef)
theorem YieldsM.mOp{o:Oper}{v:Value}{a:Act}(hy:YieldsM P ops C o v a){K:Act→Prop}(h:K (a.put o.dst v)):mOp P ops C o K a:=by
 unfold vary.mOp;rcases hy with ⟨h1,h2⟩ | ⟨h1,rfl⟩
 ·rw[if_pos h1];exact⟨v,h2,h⟩
 ·rw[if_neg (by rw[h1];decide)];exact h
theorem xi4{o:Oper}{a:Act}{K:Act→Prop}(h:mOp P ops C o K a):∃ v,YieldsM P ops C o v a∧K (a.put o.dst v):=by
 unfold mOp at h;by_cases hw:Region.wanted o (yielded ops a.tmps)=true
 ·rw[if_pos hw]at h;obtain⟨v,h1,h2⟩:=h;exact⟨v,Or.inl ⟨hw,h1⟩,h2⟩
 ·rw[if_neg hw]at h;exact⟨undef,Or.inr ⟨by simpa using hw,rfl⟩,h⟩
theorem xsv{o:Oper}{a:Act}{K K':Act→Prop}(h:∀ a,K a→K' a)(hh:mOp P ops C o K a):mOp P ops C o K' a:=by
 obtain⟨v,h1,h2⟩:=xi4 hh;exact h1.mOp (h _ h2)
theorem YieldsM.put{o:Oper}{v:Value}{a:Act}(hs:∀ cs b,o.op≠.select cs b)(x:Option Tmp)(u:Value)(h:∀ d,x=some d→d ∉ o.looksAt ops)(hy:YieldsM P ops C o v a):YieldsM P ops C o v (a.put x u):=by
 unfold YieldsM Mild Oper.quietAt at *;rw[execOp_put o hs a x u h,wanted_put o a x u h];exact hy
theorem YieldsM.back{o:Oper}{v:Value}{a:Act}(hs:∀ cs b,o.op≠.select cs b)(x:Option Tmp)(u:Value)(h:∀ d,x=some d→d ∉ o.looksAt ops)(hy:YieldsM P ops C o v (a.put x u)):YieldsM P ops C o v a:=by
 unfold YieldsM Mild Oper.quietAt at *;rw[execOp_put o hs a x u h,wanted_put o a x u h]at hy;exact hy
theorem xsw{oi oj:Oper}{v:Value}(hap:oi.apart ops oj=true)(hsi:∀ cs b,oi.op≠.select cs b)(hsj:∀ cs b,oj.op≠.select cs b){K:Act→Prop}{a:Act}
 (hy:YieldsM P ops C oi v a) (h:mOp P ops C oj K (a.put oi.dst v)):mOp P ops C oj (fun a'=>YieldsM P ops C oi v a'∧K (a'.put oi.dst v)) a:=by
 obtain⟨h1,h2,h3⟩:=Oper.apart_spec hap;obtain⟨u,hu,hK⟩:=xi4 h;refine(hu.back hsj oi.dst v h1).mOp ⟨hy.put hsi oj.dst u h3,?_⟩;rw[←Act.put_comm a v u h2];exact hK
theorem xqy{Q:Act→Prop}{i:Nat}{oi:Oper}{v:Value}(hi:ops[i]? = some oi)(hsel:∀ (j:Nat) (o:Oper) cs b,ops[j]? = some o→o.op≠.select cs b)(f:Nat):
 ∀ (b:Array Bool) (a:Act),(∀ j oj,ops[j]? = some oj→j≠i→b.getD j true=false→(∀ e∈oj.after,Region.binds md e=true→e.on≠i)→oi.apart ops oj=true) →
  i∈Region.ready md ops b→YieldsM P ops C oi v a→anyM P md ops C Q f (b.setIfInBounds i true) (a.put oi.dst v)→anyM P md ops C Q (f+1) b a:=by
 induction f with
 | zero=>
  intro b a _ hr hy H;refine⟨fun h=>absurd h (List.ne_nil_of_mem hr),fun j oj hj hoj=>?_⟩;by_cases e:j=i
  ·subst e;obtain rfl:oj=oi:=Option.some.inj (hoj.symm.trans hi);exact hy.mOp H
  ·have:=ready_mono hj e;rw[H.1]at this;cases this
 | succ f ih=>
  intro b a hap hr hy H;refine⟨fun h=>absurd h (List.ne_nil_of_mem hr),fun j oj hj hoj=>?_⟩;by_cases e:j=i
  ·subst e;obtain rfl:oj=oi:=Option.some.inj (hoj.symm.trans hi);exact hy.mOp H
  ·obtain⟨hju,oj',hoj',hall⟩:=mem_ready.1 hj;obtain rfl:oj'=oj:=Option.some.inj (hoj'.symm.trans hoj);have hno:∀ x∈oj'.after,Region.binds md x=true→x.on≠i:=fun x hx hb h=>by
    have h1:=hall x hx hb;have h0:=(mem_ready.1 hr).1;rw[h]at h1;rcases Nat.lt_or_ge i b.size with h' | h'
    ·simp[h']at h0 h1;rw[h0]at h1;cases h1
    ·simp[Array.getElem?_eq_none h']at h1
   have hq:=xsw (hap j oj' hoj e hju hno) (fun cs b=>hsel i oi cs b hi) (fun cs b=>hsel j oj' cs b hoj) hy (H.2 j oj' (ready_mono hj e) hoj);refine xsv (fun a' h3=>ih _ a' (fun k ok hk hki hku hkn=>hap k ok hk hki ?_ hkn) (ready_mono hr (Ne.symm e)) h3.1 ?_) hq
   ·by_cases hjk:j=k
    ·rw[←hjk];exact hju
    ·rwa [getD_set_ne true hjk]at hku
   ·rw[Array.setIfInBounds_comm _ _ e];exact h3.2
def lexIdx(md:Region.Mode)(ops:Array Oper):List Nat→Array Bool→Bool
 | [],b=>(Region.ready md ops b).isEmpty
 | k :: ks,b=>(Region.ready md ops b).contains k && Region.free md ops b k && lexIdx md ops ks (b.setIfInBounds k true)
theorem xmf{Q:Act→Prop}(hsel:Region.noSelect ops=true):∀ (ks:List Nat) (l:List Oper) (b:Array Bool) (a:Act),ks.map (fun k=>ops[k]?)=l.map some→lexIdx md ops ks b=true→wpMild P ops C Q l a→anyM P md ops C Q ks.length b a
 | [],[],b,a,_,hB,h=>⟨by simpa [lexIdx] using hB,h⟩
 | [],_ :: _,_,_,hl,_,_=>by simp at hl
 | _ :: _,[],_,_,hl,_,_=>by simp at hl
 | k :: ks,o :: l,b,a,hl,hB,h=>by
  simp only[List.map_cons,List.cons.injEq]at hl;simp only[lexIdx,Bool.and_eq_true,List.contains_iff_mem]at hB;have hm:mOp P ops C o (wpMild P ops C Q l) a:=h;obtain⟨v,hy,hK⟩:=xi4 hm;exact xqy hl.1 (Region.noSelect_spec hsel) ks.length b a (Region.free_spec hl.1 hB.1.2) hB.1.1 hy (xmf hsel ks l _ _ hl.2 hB.2 hK)
def backB(md:Region.Mode)(ops:Array Oper):Bool:=(List.range ops.size).all fun j=>match ops[j]? with
 | some o=>o.after.all fun e => !Region.binds md e || decide (e.on<j)
 | none=>true
theorem xqv{b:Array Bool}(hb:backB md ops=true)(hz:b.size=ops.size)(hr:Region.ready md ops b=[])(j:Nat):j<ops.size→b.getD j true=true:=by
 induction j using Nat.strongRecOn with
 | _ j ih=>
  intro hj;by_cases hl:b.getD j true=true
  ·exact hl
  ·exfalso
   have hmem:j∈Region.ready md ops b:=mem_ready.2 ⟨by simpa using hl,ops[j],Array.getElem?_eq_getElem hj,fun e he hbd=>by
    have h1:=List.all_eq_true.1 hb j (List.mem_range.2 hj);rw[Array.getElem?_eq_getElem hj]at h1;have h2:=Array.all_eq_true_iff_forall_mem.1 h1 e he;simp only[hbd,Bool.not_true,Bool.false_or,decide_eq_true_eq]at h2;have h3:=ih e.on h2 (by omega);simp only[Array.getD_eq_getD_getElem?]at h3 ⊢;rw[Array.getElem?_eq_getElem (by omega)]at h3 ⊢;exact h3⟩
   rw[hr]at hmem;cases hmem
def varyB(md:Region.Mode)(ops:Array Oper)(m s ke d e:Nat)(ty:TypeId):Bool:=
 Region.noSelect ops && backB md ops && decide (m≠s) && decide (ke≠m) && decide (ke≠s) && decide (d≠e) &&
 (match ops[m]? with
  | some o=>(match o.op with | .alloc t=>t==ty | _=>false) && o.dst==some d && o.guard.isNone
  | none=>false) &&
 (match ops[s]? with
  | some o=>(match o.op with | .store t (.tmp x) (.tmp y)=>t==ty && x==d && y==e | _=>false) && o.dst.isNone && o.guard.isNone &&
   o.after.any (fun x=>Region.binds md x && x.on==m) && o.after.any (fun x=>Region.binds md x && x.on==ke)
  | none=>false) &&
 ((List.range ops.size).all fun j=>match ops[j]? with
  | some o=>(j==m || j==s || (!(o.looksAt ops).contains d && o.dst != some d)) && (j==ke || o.dst != some e)
  | none=>true)
structure VaryOk (md:Region.Mode) (ops:Array Oper) (m s ke d e:Nat) (ty:TypeId):Prop where
 sel:Region.noSelect ops=true
 back:backB md ops=true
 ms:m≠s
 km:ke≠m
 kss:ke≠s
 de:d≠e
 om:∃ o,ops[m]? = some o∧o.op=.alloc ty∧o.dst=some d∧o.guard=none
 os:∃ o,ops[s]? = some o∧o.op=.store ty (.tmp d) (.tmp e)∧o.dst=none∧o.guard=none∧(∃ x∈o.after,Region.binds md x=true∧x.on=m)∧(∃ x∈o.after,Region.binds md x=true∧x.on=ke)
 off:∀ j o,ops[j]? = some o→j≠m→j≠s→d ∉ o.looksAt ops∧o.dst≠some d
 only:∀ j o,ops[j]? = some o→j≠ke→o.dst≠some e
theorem xpd(n i:Nat)(h:i<n):(Array.replicate n false).getD i true=false:=by
 rw[Array.getD_eq_getD_getElem?,Array.getElem?_replicate,if_pos h];rfl
theorem xob{b:Array Bool}{i:Nat}(h:b.getD i false=true):b.getD i true=true:=by
 rcases Nat.lt_or_ge i b.size with h' | h'
 ·simp[h']at h ⊢;exact h
 ·simp[Array.getElem?_eq_none h']at h
theorem xb8{b:Array Bool}{i j:Nat}(h:b.getD j true=true):(b.setIfInBounds i true).getD j true=true:=by
 by_cases e:i=j
 ·subst e;rcases Nat.lt_or_ge i b.size with h' | h'
  ·simp[h']
  ·simp[Array.getElem?_eq_none h']
 ·rw[getD_set_ne true e];exact h
section
variable {P:Program} {md:Region.Mode} {ops:Array Oper} {m s ke d e:Nat} {ty:TypeId} {Z:Array Value} {Q:Exit→Act→World→Prop} {W:World}
def ptr(p:Nat):Value:=.pointer (some ⟨p,0,none⟩)
def Fits(P:Program)(ty:TypeId)(Z cs:Array Value):Prop:=(P.info? ty).map (·.size)=some cs.size∧Z.size=cs.size∧cs.all (·.oneCell')=true
def Ends(P:Program)(d e:Nat)(ty:TypeId)(Z:Array Value)(Q:Exit→Act→World→Prop)(W:World)(a:Act):Prop:=
 ∃ cs,a.eval (.tmp e)=.agg cs∧Fits P ty Z cs∧∀ p w',W.heap.size≤p→Below W.heap.size W w'→w'.heap[p]? = some (.cells cs ty (0,0))→Q .normal (a.put (some d) (ptr p)) w'
end
theorem xah{P:Program}{ops:Array Oper}{C:World→Prop}{Q:Act→Prop}{a:Act}{o:Oper}{rest:List Oper}(hw:Region.wanted o (yielded ops a.tmps)=true)
 (h:∀ K:Act→Prop,(∀ a,wpMild P ops C Q rest a→K a)→∃ v,(∀ w,C w→o.quietAt P a (fun w'=>Below w.heap.size w w') w v)∧K (a.put o.dst v)):wpMild P ops C Q (o :: rest) a:=by
 unfold wpMild;rw[if_pos hw];exact h _ fun _ h=>h
theorem xen{P:Program}{ops:Array Oper}{C:World→Prop}{Q:Act→Prop}{a:Act}{o:Oper}{rest:List Oper}(hw:Region.wanted o (yielded ops a.tmps)=true)(v:Value)
 (hv:∀ w,C w→(execOp a.eval o).run P w=.ok (.value v) w) (h:wpMild P ops C Q rest (a.put o.dst v)):wpMild P ops C Q (o :: rest) a:=
 xah hw fun K hK=>⟨v,fun w hC=>by unfold Oper.quietAt;rw[hv w hC];exact⟨rfl,rfl⟩,hK _ h⟩
theorem xfs{P:Program}{ops:Array Oper}{C:World→Prop}{Q:Act→Prop}{rest:List Oper}{o:Oper}{a:Act}(hw:Region.wanted o (yielded ops a.tmps)=true)(ty:TypeId)(x:Operand)(ho:o.op=.load ty x)
 (g:Nat) (hx:a.eval x=.pointer (some ⟨g,0,none⟩)) (t:TypeId) (cs:Array Value) (d:TypeDesc) (hS:∀ w,C w→w.heap[g]? = some (.cells cs t (0,0)))
 (hu:P.underlying ty=some d) (hd:(match d with | .struct _ | .array _ _=>true | _=>false)=true) (hi:(P.info? ty).map (·.size)=some cs.size)
 (h:wpMild P ops C Q rest (a.put o.dst (.agg cs))):wpMild P ops C Q (o :: rest) a:=
 xen hw (.agg cs) (fun w hC=>by
  unfold execOp;simp only[ho,hx,Instr.loadAt,Instr.sureAddr,Sem.run_bind,Sem.run_pure,Result.andThen_ok,run_loadVar_row w g t ty cs (0,0) d (hS w hC) hu hd hi]) h
end
end vary
namespace varyn
open arr mem vary
structure Vr where
 m:Nat
 s:Nat
 ke:Nat
 d:Nat
 e:Nat
 ty:TypeId
 Z:Array Value
section
variable {P:Program} {md:Region.Mode} {ops:Array Oper} {Q:Exit→Act→World→Prop} {W:World} {V:List Vr}
def puts(V:List Vr)(ps:Nat→Option Nat)(a:Act):Act:=V.foldr (fun v a=>match ps v.d with | some p=>a.put (some v.d) (ptr p) | none=>a) a
def upd(ps:Nat→Option Nat)(d p:Nat):Nat→Option Nat:=fun x=>if x=d then some p else ps x
theorem xt6(a:Act):puts V (fun _=>none) a=a:=by
 induction V with
 | nil=>rfl
 | cons v V ih=>show (match (none:Option Nat) with | some p=>(puts V (fun _=>none) a).put (some v.d) (ptr p) | none=>puts V (fun _=>none) a)=a;exact ih
theorem xt7(ps:Nat→Option Nat)(d p:Nat)(a:Act)(h:∀ v∈V,v.d≠d):puts V (upd ps d p) a=puts V ps a:=by
 induction V with
 | nil=>rfl
 | cons v V ih=>
  have e:upd ps d p v.d=ps v.d:=if_neg (h v (by simp));have ih:=ih fun u hu=>h u (by simp[hu])
  show (match upd ps d p v.d with | some q=>(puts V (upd ps d p) a).put (some v.d) (ptr q) | none=>puts V (upd ps d p) a)=_;rw[e,ih];rfl
theorem xt9(ps:Nat→Option Nat)(v:Vr)(p:Nat)(a:Act)(hv:v∈V)(hn:(V.map (·.d)).Nodup)(hp:ps v.d=none):puts V (upd ps v.d p) a=(puts V ps a).put (some v.d) (ptr p):=by
 induction V with
 | nil=>cases hv
 | cons u V ih=>
  simp only[List.map_cons,List.nodup_cons]at hn;show (match upd ps v.d p u.d with | some q=>(puts V (upd ps v.d p) a).put (some u.d) (ptr q) | none=>puts V (upd ps v.d p) a)=(match ps u.d with | some q=>(puts V ps a).put (some u.d) (ptr q) | none=>puts V ps a).put (some v.d) (ptr p);by_cases e:u.d=v.d
  ·have e1:upd ps v.d p u.d=some p:=if_pos e;rw[e1,e,hp,xt7 ps v.d p a (fun x hx hxe=>hn.1 (by rw[e,←hxe];exact List.mem_map_of_mem hx))]
  ·have e1:upd ps v.d p u.d=ps u.d:=if_neg e;have hv':v∈V:=by
    rcases List.mem_cons.1 hv with h | h
    ·subst h;exact absurd rfl e
    ·exact h
   rw[e1,ih hv' hn.2];cases ps u.d with
   | none=>rfl
   | some q=>exact Act.put_comm _ _ _ (fun d hd=>by injection hd with hd;rw[←hd];intro x;injection x with x;exact e x)
theorem xig(ps:Nat→Option Nat)(a:Act)(x:Option Tmp)(y:Value)(h:∀ v∈V,x≠some v.d):puts V ps (a.put x y)=(puts V ps a).put x y:=by
 induction V with
 | nil=>rfl
 | cons v V ih=>
  have ih:=ih fun u hu=>h u (by simp[hu])
  show (match ps v.d with | some p=>(puts V ps (a.put x y)).put (some v.d) (ptr p) | none=>puts V ps (a.put x y))=(match ps v.d with | some p=>(puts V ps a).put (some v.d) (ptr p) | none=>puts V ps a).put x y;rw[ih];cases ps v.d with
  | none=>rfl
  | some q=>exact Act.put_comm _ _ _ (fun d hd=>by rw[←hd];exact fun e=>h v (by simp) e.symm)
theorem xt8(ps:Nat→Option Nat)(a:Act):(puts V ps a).tmps.size=a.tmps.size:=by
 induction V with
 | nil=>rfl
 | cons v V ih=>
  show (match ps v.d with | some p=>(puts V ps a).put (some v.d) (ptr p) | none=>puts V ps a).tmps.size=_;cases ps v.d with
  | none=>exact ih
  | some q=>rw[Act.size_put];exact ih
theorem xt3(ps:Nat→Option Nat)(a:Act)(e:Nat)(h:∀ v∈V,v.d≠e):(puts V ps a).eval (.tmp e)=a.eval (.tmp e):=by
 induction V with
 | nil=>rfl
 | cons v V ih=>
  have ih:=ih fun u hu=>h u (by simp[hu])
  show (match ps v.d with | some p=>(puts V ps a).put (some v.d) (ptr p) | none=>puts V ps a).eval (.tmp e)=_;cases ps v.d with
  | none=>exact ih
  | some q=>exact(Act.eval_put_ne _ _ _ _ (h v (by simp))).trans ih
theorem xt4(ps:Nat→Option Nat)(a:Act)(v:Vr)(p:Nat)(hv:v∈V)(hn:(V.map (·.d)).Nodup)(hp:ps v.d=some p)(hd:v.d<a.tmps.size):(puts V ps a).eval (.tmp v.d)=ptr p:=by
 induction V with
 | nil=>cases hv
 | cons u V ih=>
  simp only[List.map_cons,List.nodup_cons]at hn;show (match ps u.d with | some p=>(puts V ps a).put (some u.d) (ptr p) | none=>puts V ps a).eval (.tmp v.d)=_;by_cases e:u.d=v.d
  ·rw[e,hp];exact Act.eval_put_same _ _ _ (by rw[xt8];exact hd)
  ·have hv':v∈V:=by
    rcases List.mem_cons.1 hv with h | h
    ·subst h;exact absurd rfl e
    ·exact h
   have ih:=ih hv' hn.2;cases ps u.d with
   | none=>exact ih
   | some q=>exact(Act.eval_put_ne _ _ _ _ e).trans ih
theorem xt5(o:Oper)(hs:∀ cs b,o.op≠.select cs b)(ps:Nat→Option Nat)(a:Act)(h:∀ v∈V,v.d ∉ o.looksAt ops):execOp (puts V ps a).eval o=execOp a.eval o:=by
 induction V with
 | nil=>rfl
 | cons v V ih=>
  have ih:=ih fun u hu=>h u (by simp[hu])
  show execOp (match ps v.d with | some p=>(puts V ps a).put (some v.d) (ptr p) | none=>puts V ps a).eval o=_;cases ps v.d with
  | none=>exact ih
  | some q=>exact(execOp_put o hs _ _ _ (fun d hd=>by injection hd with hd;rw[←hd];exact h v (by simp))).trans ih
theorem xua(o:Oper)(ps:Nat→Option Nat)(a:Act)(h:∀ v∈V,v.d ∉ o.looksAt ops):Region.wanted o (yielded ops (puts V ps a).tmps)=Region.wanted o (yielded ops a.tmps):=by
 induction V with
 | nil=>rfl
 | cons v V ih=>
  have ih:=ih fun u hu=>h u (by simp[hu])
  show Region.wanted o (yielded ops (match ps v.d with | some p=>(puts V ps a).put (some v.d) (ptr p) | none=>puts V ps a).tmps)=_;cases ps v.d with
  | none=>exact ih
  | some q=>exact(wanted_put o _ _ _ (fun d hd=>by injection hd with hd;rw[←hd];exact h v (by simp))).trans ih
theorem xsx{C:World→Prop}{i:Nat}{o:Oper}(hi:ops[i]? = some o)(hs:∀ cs b,o.op≠.select cs b)(ps:Nat→Option Nat)(h1:∀ v∈V,v.d ∉ o.looksAt ops)(h2:∀ v∈V,o.dst≠some v.d)
 {K:Act→Prop} {a:Act} {w:World} (hC:C w) (h:mOp P ops C o K a):wpOp P ops Q i (fun a' w'=>∃ x,a'=puts V ps (a.put o.dst x)∧K (a.put o.dst x)∧Below w.heap.size w w') (puts V ps a) w:=by
 unfold wpOp;simp only[hi];rw[xua o ps a h1];unfold mOp at h;by_cases hw:Region.wanted o (yielded ops a.tmps)=true
 ·rw[if_pos hw]at h ⊢;obtain⟨v,hv,hK⟩:=h;refine Or.inl ?_;have hq:=hv w hC;unfold Oper.quietAt at hq;unfold Oper.wp;rw[xt5 o hs ps a h1];generalize (execOp a.eval o).run P w=r at *;cases r with
  | ok n w'=>
   cases n<;>simp only[Oper.quietUpon]at hq<;>simp only[Oper.upon]
   case value y=>
    obtain⟨e1,e2⟩:=hq;rw[e1,e2];exact⟨v,(xig ps a _ _ h2).symm,hK,Below.refl _ _⟩
   case skip=>
    obtain⟨e1,e2⟩:=hq;rw[e1];exact⟨v,by rw[e2];exact(xig ps a _ _ h2).symm,hK,Below.refl _ _⟩
   case enter f args=>
    obtain⟨e1,hc⟩:=hq;rw[e1];exact hc.mono fun e w'' ⟨he,hb⟩=>by subst he;exact⟨v,(xig ps a _ _ h2).symm,hK,hb⟩
  | halt y w'=>simp only[Oper.quietUpon]at hq
 ·rw[if_neg hw]at h ⊢;exact⟨undef,(xig ps a _ _ h2).symm,h,Below.refl _ _⟩
def varyNB(md:Region.Mode)(ops:Array Oper)(V:List Vr):Bool:=
 Region.noSelect ops && backB md ops && decide ((V.map (·.d)).Nodup) && decide ((V.map (·.m)).Nodup) && decide ((V.map (·.s)).Nodup) &&
 (V.all fun v=>V.all fun u=>decide (v.m≠u.s) && decide (v.ke≠u.m) && decide (v.ke≠u.s) && decide (v.d≠u.e)) &&
 (V.all fun v=>match ops[v.m]? with
  | some o=>(match o.op with | .alloc t=>t==v.ty | _=>false) && o.dst==some v.d && o.guard.isNone
  | none=>false) &&
 (V.all fun v=>match ops[v.s]? with
  | some o=>(match o.op with | .store t (.tmp x) (.tmp y)=>t==v.ty && x==v.d && y==v.e | _=>false) && o.dst.isNone && o.guard.isNone &&
   o.after.any (fun x=>Region.binds md x && x.on==v.m) && o.after.any (fun x=>Region.binds md x && x.on==v.ke)
  | none=>false) &&
 ((List.range ops.size).all fun j=>match ops[j]? with
  | some o=>((V.any fun v=>j==v.m || j==v.s) || (V.all fun v => !(o.looksAt ops).contains v.d && o.dst != some v.d)) && (V.all fun v=>j==v.ke || o.dst != some v.e)
  | none=>true)
structure VN (md:Region.Mode) (ops:Array Oper) (V:List Vr):Prop where
 sel:Region.noSelect ops=true
 back:backB md ops=true
 nd:(V.map (·.d)).Nodup
 nm:(V.map (·.m)).Nodup
 ns:(V.map (·.s)).Nodup
 ms:∀ v∈V,∀ u∈V,v.m≠u.s∧v.ke≠u.m∧v.ke≠u.s∧v.d≠u.e
 om:∀ v∈V,∃ o,ops[v.m]? = some o∧o.op=.alloc v.ty∧o.dst=some v.d∧o.guard=none
 os:∀ v∈V,∃ o,ops[v.s]? = some o∧o.op=.store v.ty (.tmp v.d) (.tmp v.e)∧o.dst=none∧o.guard=none∧(∃ x∈o.after,Region.binds md x=true∧x.on=v.m)∧(∃ x∈o.after,Region.binds md x=true∧x.on=v.ke)
 off:∀ j o,ops[j]? = some o→(∀ v∈V,j≠v.m∧j≠v.s)→∀ v∈V,v.d ∉ o.looksAt ops∧o.dst≠some v.d
 only:∀ j o,ops[j]? = some o→∀ v∈V,j≠v.ke→o.dst≠some v.e
theorem vn_of(h:varyNB md ops V=true):VN md ops V:=by
 simp only[varyNB,Bool.and_eq_true,decide_eq_true_eq]at h;obtain⟨⟨⟨⟨⟨⟨⟨⟨h1,h2⟩,h3⟩,h4⟩,h5⟩,h6⟩,h7⟩,h8⟩,h9⟩:=h;have hall:∀ j o,ops[j]? = some o→((∃ v∈V,j=v.m∨j=v.s)∨(∀ v∈V,v.d ∉ o.looksAt ops∧o.dst≠some v.d))∧(∀ v∈V,j=v.ke∨o.dst≠some v.e):=by
  intro j o hj;have:=List.all_eq_true.1 h9 j (List.mem_range.2 (Array.getElem?_eq_some_iff.1 hj).1);rw[hj]at this;simpa using this
 refine⟨h1,h2,h3,h4,h5,fun v hv u hu=>?_,fun v hv=>?_,fun v hv=>?_,fun j o hj hm v hv=>?_,fun j o hj v hv hk=>((hall j o hj).2 v hv).resolve_left hk⟩
 ·have:=List.all_eq_true.1 (List.all_eq_true.1 h6 v hv) u hu;simp only[Bool.and_eq_true,decide_eq_true_eq]at this;exact⟨this.1.1.1,this.1.1.2,this.1.2,this.2⟩
 ·have h7:=List.all_eq_true.1 h7 v hv;cases ho:ops[v.m]? with
  | none=>rw[ho]at h7;cases h7
  | some o=>
   rw[ho]at h7;simp only[Bool.and_eq_true,beq_iff_eq,Option.isNone_iff_eq_none]at h7;refine⟨o,rfl,?_,h7.1.2,h7.2⟩;have h10:=h7.1.1;split at h10
   ·rename_i t ht;rw[ht,beq_iff_eq.1 h10]
   ·cases h10
 ·have h8:=List.all_eq_true.1 h8 v hv;cases ho:ops[v.s]? with
  | none=>rw[ho]at h8;cases h8
  | some o=>
   rw[ho]at h8;simp only[Bool.and_eq_true,Option.isNone_iff_eq_none]at h8;obtain⟨⟨⟨⟨h10,h11⟩,h12⟩,h13⟩,h14⟩:=h8;refine⟨o,rfl,?_,h11,h12,?_,?_⟩
   ·split at h10
    ·rename_i t x y ht
     simp only[Bool.and_eq_true,beq_iff_eq]at h10;rw[ht,h10.1.1,h10.1.2,h10.2]
    ·cases h10
   ·obtain⟨x,hx,hb⟩:=Array.any_eq_true'.1 h13;simp only[Bool.and_eq_true,beq_iff_eq]at hb;exact⟨x,hx,hb.1,hb.2⟩
   ·obtain⟨x,hx,hb⟩:=Array.any_eq_true'.1 h14;simp only[Bool.and_eq_true,beq_iff_eq]at hb;exact⟨x,hx,hb.1,hb.2⟩
 ·rcases (hall j o hj).1 with ⟨u,hu,h | h⟩ | h
  ·exact absurd h (hm u hu).1
  ·exact absurd h (hm u hu).2
  ·exact h v hv
theorem xfz{k:Vr→Nat}(h:(V.map k).Nodup):∀ u∈V,∀ v∈V,k u=k v→u=v:=by
 induction V with
 | nil=>intro u hu;cases hu
 | cons x V ih=>
  simp only[List.map_cons,List.nodup_cons]at h;intro u hu v hv e;rcases List.mem_cons.1 hu with rfl | hu'<;>rcases List.mem_cons.1 hv with rfl | hv'
  ·rfl
  ·exact absurd (e ▸ List.mem_map_of_mem hv') h.1
  ·exact absurd (e ▸ List.mem_map_of_mem hu') h.1
  ·exact ih h.2 u hu' v hv' e
def marks(V:List Vr)(b:Array Bool):Array Bool:=V.foldr (fun v b=>(b.setIfInBounds v.m true).setIfInBounds v.s true) b
theorem xpq(b:Array Bool)(i j:Nat):(b.setIfInBounds i true).setIfInBounds j true=(b.setIfInBounds j true).setIfInBounds i true:=by
 by_cases e:i=j
 ·subst e;rfl
 ·exact Array.setIfInBounds_comm _ _ e
theorem xkh(b:Array Bool)(i:Nat):marks V (b.setIfInBounds i true)=(marks V b).setIfInBounds i true:=by
 induction V with
 | nil=>rfl
 | cons v V ih=>
  show ((marks V (b.setIfInBounds i true)).setIfInBounds v.m true).setIfInBounds v.s true=(((marks V b).setIfInBounds v.m true).setIfInBounds v.s true).setIfInBounds i true;rw[ih,xpq _ i v.m,xpq _ i v.s]
theorem xnr{b:Array Bool}{j:Nat}(h:b.getD j true=true):(marks V b).getD j true=true:=by
 induction V with
 | nil=>exact h
 | cons v V ih=>exact xb8 (xb8 ih)
theorem xgt(b:Array Bool)(i:Nat):(b.setIfInBounds i true).getD i true=true:=by
 rcases Nat.lt_or_ge i b.size with h' | h'
 ·simp[h']
 ·simp[Array.getElem?_eq_none h']
theorem xnq{b:Array Bool}{v:Vr}(hv:v∈V):(marks V b).getD v.m true=true∧(marks V b).getD v.s true=true:=by
 induction V with
 | nil=>cases hv
 | cons u V ih=>
  rcases List.mem_cons.1 hv with rfl | hv'
  ·exact⟨xb8 (xgt _ _),xgt _ _⟩
  ·exact⟨xb8 (xb8 (ih hv').1),xb8 (xb8 (ih hv').2)⟩
theorem xps{b:Array Bool}{i:Nat}(h:b.getD i true=true):b.setIfInBounds i true=b:=by
 apply Array.ext (by simp);intro j h1 h2;rw[Array.getElem_setIfInBounds];split
 ·rename_i e;subst e;simp[h2]at h;exact h.symm
 ·rfl
theorem xns{b:Array Bool}{i:Nat}(hi:i∈Region.ready md ops b)(h:∀ v∈V,i≠v.m∧i≠v.s):i∈Region.ready md ops (marks V b):=by
 induction V with
 | nil=>exact hi
 | cons v V ih=>exact ready_mono (ready_mono (ih fun u hu=>h u (by simp[hu])) (h v (by simp)).1) (h v (by simp)).2
theorem xtd{b:Array Bool}(h:∀ j,j<ops.size→b.getD j true=true):Region.ready md ops b=[]:=by
 apply List.eq_nil_iff_forall_not_mem.2;intro i hi;obtain⟨hu,o,ho,-⟩:=mem_ready.1 hi;rw[h i (Array.getElem?_eq_some_iff.1 ho).1]at hu;cases hu
theorem xf2{p q:Vr→Bool}(h:∀ x,q x=true→p x=true):V.countP q≤V.countP p:=List.countP_mono_left fun x _=>h x
theorem xmz{p q:Vr→Bool}(h:∀ x,q x=true→p x=true){v:Vr}(hv:v∈V)(hp:p v=true)(hq:q v=false):V.countP q+1≤V.countP p:=by
 induction V with
 | nil=>cases hv
 | cons u V ih=>
  rw[List.countP_cons,List.countP_cons];rcases List.mem_cons.1 hv with rfl | hv'
  ·have:=xf2 (V:=V) h;rw[hp,hq];simp;omega
  ·have:=ih hv';by_cases hqu:q u=true
   ·rw[hqu,h u hqu];simp;omega
   ·rw[if_neg hqu];omega
def cnt(V:List Vr)(b:Array Bool):Nat:=V.countP (fun v => !b.getD v.m true)+V.countP (fun v => !b.getD v.s true)
theorem xfr{b:Array Bool}{i j:Nat}(h:(b.setIfInBounds i true).getD j true=false):b.getD j true=false:=by
 cases h2:b.getD j true with
 | false=>rfl
 | true=>rw[xb8 h2]at h;cases h
theorem xhf(b:Array Bool)(i:Nat):cnt V (b.setIfInBounds i true)≤cnt V b:=
 Nat.add_le_add (xf2 fun x hx=>by simp only[Bool.not_eq_true']at hx ⊢;exact xfr hx) (xf2 fun x hx=>by simp only[Bool.not_eq_true']at hx ⊢;exact xfr hx)
theorem cnt_m{b:Array Bool}{v:Vr}(hv:v∈V)(h:b.getD v.m true=false):cnt V (b.setIfInBounds v.m true)+1≤cnt V b:=by
 have h1:=xmz (V:=V) (p:=fun v => !b.getD v.m true) (q:=fun u => !(b.setIfInBounds v.m true).getD u.m true) (fun x hx=>by simp only[Bool.not_eq_true']at hx ⊢;exact xfr hx) hv (by simp only[h];rfl) (by simp only[xgt];rfl);have h2:=xf2 (V:=V) (p:=fun v => !b.getD v.s true) (q:=fun u => !(b.setIfInBounds v.m true).getD u.s true) (fun x hx=>by simp only[Bool.not_eq_true']at hx ⊢;exact xfr hx);unfold cnt;omega
theorem cnt_s{b:Array Bool}{v:Vr}(hv:v∈V)(h:b.getD v.s true=false):cnt V (b.setIfInBounds v.s true)+1≤cnt V b:=by
 have h1:=xmz (V:=V) (p:=fun v => !b.getD v.s true) (q:=fun u => !(b.setIfInBounds v.s true).getD u.s true) (fun x hx=>by simp only[Bool.not_eq_true']at hx ⊢;exact xfr hx) hv (by simp only[h];rfl) (by simp only[xgt];rfl);have h2:=xf2 (V:=V) (p:=fun v => !b.getD v.m true) (q:=fun u => !(b.setIfInBounds v.s true).getD u.m true) (fun x hx=>by simp only[Bool.not_eq_true']at hx ⊢;exact xfr hx);unfold cnt;omega
def EndsN(P:Program)(V:List Vr)(Q:Exit→Act→World→Prop)(W:World)(a:Act):Prop:=
 (∀ v∈V,∃ cs,a.eval (.tmp v.e)=.agg cs∧Fits P v.ty v.Z cs) ∧
 ∀ ps w',(∀ v∈V,∃ p cs,ps v.d=some p∧W.heap.size≤p∧a.eval (.tmp v.e)=.agg cs∧w'.heap[p]? = some (.cells cs v.ty (0,0)))→(∀ u∈V,∀ v∈V,∀ p,ps u.d=some p→ps v.d=some p→u.d=v.d)→Below W.heap.size W w'→Q .normal (puts V ps a) w'
theorem xr4(H:VN md ops V){C:World→Prop}{v:Vr}(hv:v∈V)(f:Nat):∀ (b:Array Bool) (a:Act),anyM P md ops C (EndsN P V Q W) f b a→b.getD v.ke true=true→∃ cs,a.eval (.tmp v.e)=.agg cs∧Fits P v.ty v.Z cs:=by
 induction f with
 | zero=>intro b a h _;exact h.2.1 v hv
 | succ f ih=>
  intro b a h hk;by_cases hr:Region.ready md ops b=[]
  ·exact(h.1 hr).1 v hv
  ·obtain⟨i,hi⟩:=List.exists_mem_of_ne_nil _ hr;obtain⟨hu,o,ho,-⟩:=mem_ready.1 hi;have hik:i≠v.ke:=fun x=>by rw[x,hk]at hu;cases hu
   obtain⟨x,-,hK⟩:=xi4 (h.2 i o hi ho);obtain⟨cs,h1,h2⟩:=ih _ _ hK (xb8 hk);refine⟨cs,?_,h2⟩;rw[←h1];exact(Act.eval_put fun y hy hye=>H.only i o ho v hv hik (by rw[hy];injection hye with hye;rw[hye])).symm
structure Inv (P:Program) (ops:Array Oper) (V:List Vr) (W:World) (b:Array Bool) (a:Act) (w:World) (ps:Nat→Option Nat):Prop where
 bm:∀ v∈V,(b.getD v.m true=true↔(ps v.d).isSome=true)
 bs:∀ v∈V,ps v.d=none→b.getD v.s true=false
 mem:∀ v∈V,∀ p,ps v.d=some p→W.heap.size≤p∧(b.getD v.s true=false→w.heap[p]? = some (.cells v.Z v.ty (0,0)))∧(b.getD v.s true=true→b.getD v.ke true=true∧∃ cs,a.eval (.tmp v.e)=.agg cs∧w.heap[p]? = some (.cells cs v.ty (0,0)))
 inj:∀ u∈V,∀ v∈V,∀ p,ps u.d=some p→ps v.d=some p→u.d=v.d
 bel:Below W.heap.size W w
 bz:b.size=ops.size
 asz:∀ v∈V,v.d<a.tmps.size
theorem Inv.there{b:Array Bool}{a:Act}{w:World}{ps:Nat→Option Nat}(I:Inv P ops V W b a w ps){v:Vr}(hv:v∈V){p:Nat}(hp:ps v.d=some p):p<w.heap.size:=by
 obtain⟨-,h1,h2⟩:=I.mem v hv p hp;cases h:b.getD v.s true with
 | false=>exact xac (h1 h)
 | true=>obtain⟨-,cs,-,h3⟩:=h2 h;exact xac h3
theorem simN(H:VN md ops V)(HA:∀ v∈V,∀ (ρ : Operand→Value) (o:Oper) (w:World),o.op=.alloc v.ty→(execOp ρ o).run P w=.ok (.value (ptr w.heap.size)) (w.alloc (.cells v.Z v.ty)))(F:Nat):
 ∀ (f:Nat) (b:Array Bool) (a:Act) (w:World) (ps:Nat→Option Nat),f+cnt V b≤F→anyM P md ops (fun w'=>Below W.heap.size W w') (EndsN P V Q W) f (marks V b) a→Inv P ops V W b a w ps→wpAny P md ops Q F b (puts V ps a) w:=by
 have fin:∀ (f:Nat) (b:Array Bool) (a:Act) (w:World) (ps:Nat→Option Nat),Region.ready md ops b=[]→anyM P md ops (fun w'=>Below W.heap.size W w') (EndsN P V Q W) f (marks V b) a→Inv P ops V W b a w ps→Q .normal (puts V ps a) w:=by
  intro f b a w ps h0 h I;have hl:∀ j,j<ops.size→b.getD j true=true:=xqv H.back I.bz h0;have hE:EndsN P V Q W a:=by
   have hr:=xtd (md:=md) (ops:=ops) (b:=marks V b) fun j hj=>xnr (hl j hj)
   cases f with
   | zero=>exact h.2
   | succ f=>exact h.1 hr
  refine hE.2 ps w (fun v hv=>?_) I.inj I.bel;obtain⟨om,hom,-⟩:=H.om v hv;obtain⟨os,hos,-⟩:=H.os v hv;have h1:=(I.bm v hv).1 (hl _ (Array.getElem?_eq_some_iff.1 hom).1);obtain⟨p,hp⟩:=Option.isSome_iff_exists.1 h1;obtain⟨h2,-,h3⟩:=I.mem v hv p hp;obtain⟨-,cs,h4,h5⟩:=h3 (hl _ (Array.getElem?_eq_some_iff.1 hos).1);exact⟨p,cs,hp,h2,h4,h5⟩
 induction F with
 | zero=>
  intro f b a w ps hF h I;have hr:Region.ready md ops b=[]:=by
   apply List.eq_nil_iff_forall_not_mem.2;intro i hi;by_cases hm:∃ v∈V,i=v.m∨i=v.s
   ·obtain⟨v,hv,hx⟩:=hm;have hu:=(mem_ready.1 hi).1;rcases hx with rfl | rfl
    ·have:=cnt_m hv hu;omega
    ·have:=cnt_s hv hu;omega
   ·have:=xns hi (V:=V) fun v hv=>⟨fun x=>hm ⟨v,hv,Or.inl x⟩,fun x=>hm ⟨v,hv,Or.inr x⟩⟩
    obtain rfl:f=0:=by omega
    rw[h.1]at this;cases this
  exact⟨hr,fin f b a w ps hr h I⟩
 | succ F ih=>
  intro f b a w ps hF h I;refine⟨fun h0=>fin f b a w ps h0 h I,fun i hi=>?_⟩;obtain⟨hu,o,ho,hall⟩:=mem_ready.1 hi;by_cases hm:∃ v∈V,i=v.m
  ·obtain⟨v,hv,rfl⟩:=hm;obtain⟨om,hom,hop,hdst,hgd⟩:=H.om v hv;obtain rfl:o=om:=Option.some.inj (ho.symm.trans hom);have hnone:ps v.d=none:=by
    cases hq:ps v.d with
    | none=>rfl
    | some q=>have:=(I.bm v hv).2 (by rw[hq];rfl);rw[hu]at this;cases this
   unfold wpOp;simp only[ho];rw[if_pos (by unfold Region.wanted;rw[hgd])];refine Or.inl ?_;unfold Oper.wp;rw[HA v hv _ o w hop];simp only[Oper.upon,hdst];rw[←xt9 ps v w.heap.size a hv H.nd hnone];have hc:=cnt_m hv hu;refine ih f _ a _ _ (by omega) (by rw[xkh,xps (xnq hv).1];exact h) ?_;have hmz:v.m<b.size:=by rw[I.bz];exact(Array.getElem?_eq_some_iff.1 ho).1
   have old:∀ u∈V,u≠v→upd ps v.d w.heap.size u.d=ps u.d:=fun u hu' huv=>if_neg fun e=>huv (xfz H.nd u hu' v hv e)
   have new:upd ps v.d w.heap.size v.d=some w.heap.size:=if_pos rfl;refine⟨fun u hu'=>?_,fun u hu' hx=>?_,fun u hu' p hp=>?_,fun u hu' x hx p hp hq=>?_,I.bel.alloc I.bel.size _,by simpa using I.bz,I.asz⟩
   ·by_cases e:u=v
    ·subst e;rw[new];simp[hmz]
    ·rw[old u hu' e,getD_set_ne true (fun x=>e (xfz H.nm u hu' v hv x.symm))];exact I.bm u hu'
   ·by_cases e:u=v
    ·subst e;rw[new]at hx;cases hx
    ·rw[old u hu' e]at hx;rw[getD_set_ne true (H.ms v hv u hu').1];exact I.bs u hu' hx
   ·by_cases e:u=v
    ·subst e;rw[new]at hp;obtain rfl:=Option.some.inj hp;refine⟨I.bel.size,fun _=>xae _ _ _ rfl,fun hx=>?_⟩;rw[getD_set_ne true (H.ms u hu' u hu').1,I.bs u hu' hnone]at hx;cases hx
    ·rw[old u hu' e]at hp;have hlt:=I.there hu' hp;obtain⟨h1,h2,h3⟩:=I.mem u hu' p hp;refine⟨h1,fun hx=>?_,fun hx=>?_⟩
     ·rw[getD_set_ne true (H.ms v hv u hu').1]at hx;rw[xaj _ _ _ hlt];exact h2 hx
     ·rw[getD_set_ne true (H.ms v hv u hu').1]at hx;obtain⟨h4,cs,h5,h6⟩:=h3 hx;exact⟨xb8 h4,cs,h5,by rw[xaj _ _ _ hlt];exact h6⟩
   ·by_cases e1:u=v<;>by_cases e2:x=v
    ·rw[e1,e2]
    ·rw[e1,new]at hp;rw[old x hx e2]at hq;have:=I.there hx hq;injection hp with hp
     omega
    ·rw[e2,new]at hq;rw[old u hu' e1]at hp;have:=I.there hu' hp;injection hq with hq
     omega
    ·rw[old u hu' e1]at hp;rw[old x hx e2]at hq;exact I.inj u hu' x hx p hp hq
  ·by_cases hs:∃ v∈V,i=v.s
   ·obtain⟨v,hv,rfl⟩:=hs;obtain⟨os,hos,hop,hdst,hgd,⟨xm,hxm,hbm,honm⟩,⟨xk,hxk,hbk,honk⟩⟩:=H.os v hv;obtain rfl:o=os:=Option.some.inj (ho.symm.trans hos);have hml:b.getD v.m true=true:=xob (honm ▸ hall xm hxm hbm);have hkl:b.getD v.ke true=true:=xob (honk ▸ hall xk hxk hbk);obtain⟨p,hp⟩:=Option.isSome_iff_exists.1 ((I.bm v hv).1 hml);obtain⟨h1,h2,-⟩:=I.mem v hv p hp;obtain⟨cs,hcs,hf⟩:=xr4 H hv f _ _ h (xnr hkl);unfold wpOp;simp only[ho];rw[if_pos (by unfold Region.wanted;rw[hgd])];refine Or.inl (wp_store_row v.ty _ _ hop p cs (xt4 ps a v p hv H.nd hp (I.asz v hv)) ((xt3 ps a v.e (fun u hu'=>(H.ms u hu' v hv).2.2.2)).trans hcs) v.ty v.Z (h2 hu) hf.1 hf.2.1 hf.2.2 ?_);rw[hdst];have hc:=cnt_s hv hu;refine ih f _ a _ _ (by omega) (by rw[xkh,xps (xnq hv).2];exact h) ?_;have hsz:v.s<b.size:=by rw[I.bz];exact(Array.getElem?_eq_some_iff.1 ho).1
    refine⟨fun u hu'=>?_,fun u hu' hx=>?_,fun u hu' q hq=>?_,I.inj,I.bel.trans (below_setRow _ _ _ h1),by simpa using I.bz,I.asz⟩
    ·rw[getD_set_ne true (fun x=>(H.ms u hu' v hv).1 x.symm)];exact I.bm u hu'
    ·have e:u≠v:=fun e=>by rw[e,hp]at hx;cases hx
     rw[getD_set_ne true (fun x=>e (xfz H.ns u hu' v hv x.symm))];exact I.bs u hu' hx
    ·by_cases e:u=v
     ·subst e;rw[hp]at hq;obtain rfl:=Option.some.inj hq;refine⟨h1,fun hx=>?_,fun _=>⟨xb8 hkl,cs,hcs,setRow_heap _ _ _ _ _ _ (h2 hu)⟩⟩;rw[xgt]at hx;cases hx
     ·have hne:q≠p:=fun x=>e (xfz H.nd u hu' v hv (I.inj u hu' v hv p (x ▸ hq) hp))
      obtain⟨h3,h4,h5⟩:=I.mem u hu' q hq;have hsn:v.s≠u.s:=fun x=>e (xfz H.ns u hu' v hv x.symm)
      refine⟨h3,fun hx=>?_,fun hx=>?_⟩
      ·rw[getD_set_ne true hsn]at hx;rw[setRow_other _ _ _ _ hne];exact h4 hx
      ·rw[getD_set_ne true hsn]at hx;obtain⟨h6,cs',h7,h8⟩:=h5 hx;exact⟨xb8 h6,cs',h7,by rw[setRow_other _ _ _ _ hne];exact h8⟩
   ·have hoff:∀ v∈V,i≠v.m∧i≠v.s:=fun v hv=>⟨fun x=>hm ⟨v,hv,x⟩,fun x=>hs ⟨v,hv,x⟩⟩
    have hrm:=xns hi hoff;cases f with
    | zero=>rw[h.1]at hrm;cases hrm
    | succ f=>
     have ho2:=H.off i o ho hoff;refine wpOp_mono ?_ (xsx ho (fun cs b=>Region.noSelect_spec H.sel i o cs b ho) ps (fun v hv=>(ho2 v hv).1) (fun v hv=>(ho2 v hv).2) I.bel (h.2 i o hrm ho));rintro a' w' ⟨x,rfl,hK,hbw⟩;have hc:=xhf (V:=V) b i;refine ih f _ _ _ ps (by omega) (by rw[xkh];exact hK) ?_;refine⟨fun u hu'=>?_,fun u hu' hx=>?_,fun u hu' q hq=>?_,I.inj,I.bel.trans (hbw.mono I.bel.size),by simpa using I.bz,fun u hu'=>by rw[Act.size_put];exact I.asz u hu'⟩
     ·rw[getD_set_ne true (hoff u hu').1];exact I.bm u hu'
     ·rw[getD_set_ne true (hoff u hu').2];exact I.bs u hu' hx
     ·have hlt:=I.there hu' hq;obtain⟨h3,h4,h5⟩:=I.mem u hu' q hq;refine⟨h3,fun hx=>?_,fun hx=>?_⟩
      ·rw[getD_set_ne true (hoff u hu').2]at hx;exact(hbw.block _ hlt).trans (h4 hx)
      ·rw[getD_set_ne true (hoff u hu').2]at hx;obtain⟨h6,cs',h7,h8⟩:=h5 hx;have hik:i≠u.ke:=fun x=>by rw[x,h6]at hu;cases hu
       refine⟨xb8 h6,cs',?_,(hbw.block _ hlt).trans h8⟩;rw[←h7];exact Act.eval_put fun y hy hye=>H.only i o ho u hu' hik (by rw[hy];injection hye with hye;rw[hye])
theorem xug{P:Program}{id:Nat}{Q:Exit→Act→World→Prop}{a:Act}{w:World}{l:List Oper}(V:List Vr)(ks:List Nat)(l':List Oper)(hm:P.follows .mixedOrders=true)
 (hB:varyNB .any l.toArray V=true) (hk:ks.map (fun k=>l.toArray[k]?)=l'.map some) (hx:lexIdx .any l.toArray ks (marks V (Array.replicate l.toArray.size false))=true) (hn:ks.length+(V.length+V.length)≤l.toArray.size)
 (HA:∀ v∈V,∀ (ρ : Operand→Value) (o:Oper) (w:World),o.op=.alloc v.ty→(execOp ρ o).run P w=.ok (.value (ptr w.heap.size)) (w.alloc (.cells v.Z v.ty))) (hd:(V.all fun v=>decide (v.d<a.tmps.size))=true)
 (h:∀ ops:Array Oper,Ω (l.toArray=ops)→wpMild P ops (fun w'=>Below w.heap.size w w') (EndsN P V Q w) l' a):(Code.region id l.toArray true).wp P Q a w:=by
 have H:=vn_of hB;have h1:=xmf (md:=.any) H.sel ks l' _ a hk hx (h _ ⟨rfl⟩);have hc:cnt V (Array.replicate l.toArray.size false)≤V.length+V.length:=Nat.add_le_add List.countP_le_length List.countP_le_length;have hun:∀ v∈V,(Array.replicate l.toArray.size false).getD v.m true=false∧(Array.replicate l.toArray.size false).getD v.s true=false:=fun v hv=>by
  obtain⟨om,hom,-⟩:=H.om v hv;obtain⟨os,hos,-⟩:=H.os v hv;exact⟨xpd _ _ (Array.getElem?_eq_some_iff.1 hom).1,xpd _ _ (Array.getElem?_eq_some_iff.1 hos).1⟩
 have h2:=simN (Q:=Q) H HA l.toArray.size ks.length (Array.replicate l.toArray.size false) a w.drew (fun _=>none) (by omega) h1
  ⟨fun v hv=>by rw[(hun v hv).1];simp,fun v hv _=>(hun v hv).2,fun v hv p hp=>(by cases hp),fun u hu v hv p hp=>(by cases hp),(Below.refl _ _).drew,by simp,fun v hv=>of_decide_eq_true (List.all_eq_true.1 hd v hv)⟩
 rw[xt6]at h2;exact wp_region_any hm h2
end
end varyn
namespace varye
open arr mem vary varyn
theorem ends2{P:Program}{Q:Exit→Act→World→Prop}{W:World}{a:Act}{v1 v2:Vr}(c1 c2:Array Value)(h1:a.eval (.tmp v1.e)=.agg c1)(f1:Fits P v1.ty v1.Z c1)(h2:a.eval (.tmp v2.e)=.agg c2)(f2:Fits P v2.ty v2.Z c2)(n12:v1.d≠v2.d)
 (h:∀ p1 p2 w',W.heap.size≤p1→W.heap.size≤p2→p1≠p2→Below W.heap.size W w'→w'.heap[p1]? = some (.cells c1 v1.ty (0,0))→w'.heap[p2]? = some (.cells c2 v2.ty (0,0))→Q .normal ((a.put (some v2.d) (.pointer (some ⟨p2,0,none⟩))).put (some v1.d) (.pointer (some ⟨p1,0,none⟩))) w'):EndsN P [v1,v2] Q W a:=by
 refine⟨fun v hv=>?_,fun ps w' hm hi hb=>?_⟩
 ·simp only[List.mem_cons,List.not_mem_nil,or_false]at hv;rcases hv with rfl | rfl
  ·exact⟨c1,h1,f1⟩
  ·exact⟨c2,h2,f2⟩
 ·obtain⟨p1,d1,e1,l1,k1,r1⟩:=hm v1 (by simp);obtain⟨p2,d2,e2,l2,k2,r2⟩:=hm v2 (by simp);obtain rfl:d1=c1:=by rw[h1]at k1;injection k1 with k1;exact k1.symm
  obtain rfl:d2=c2:=by rw[h2]at k2;injection k2 with k2;exact k2.symm
  have e:puts [v1,v2] ps a=((a.put (some v2.d) (.pointer (some ⟨p2,0,none⟩))).put (some v1.d) (.pointer (some ⟨p1,0,none⟩))):=by
   simp only[puts,List.foldr_cons,List.foldr_nil,e1,e2];rfl
  rw[e];exact h p1 p2 w' l1 l2 (fun x=>n12 (hi v1 (by simp) v2 (by simp) p1 e1 (x ▸ e2))) hb r1 r2
theorem xgq{P:Program}{id:Nat}{Q:Exit→Act→World→Prop}{a:Act}{w:World}{l:List Oper}(V:List Vr)(n:Nat)(hm:P.follows .mixedOrders=true)
 (hB:varyNB .any l.toArray V=true) (hk:(List.range n).map (fun k=>l.toArray[k]?)=(l.take n).map some) (hx:lexIdx .any l.toArray (List.range n) (marks V (Array.replicate l.toArray.size false))=true) (hn:(List.range n).length+(V.length+V.length)≤l.toArray.size)
 (HA:∀ v∈V,∀ (ρ : Operand→Value) (o:Oper) (w:World),o.op=.alloc v.ty→(execOp ρ o).run P w=.ok (.value (ptr w.heap.size)) (w.alloc (.cells v.Z v.ty))) (hd:(V.all fun v=>decide (v.d<a.tmps.size))=true)
 (h:∀ ops:Array Oper,Ω (l.toArray=ops)→wpMild P ops (fun w'=>Below w.heap.size w w') (EndsN P V Q w) (l.take n) a):(Code.region id l.toArray true).wp P Q a w:=
 xug V _ _ hm hB hk hx hn HA hd h
end varye
end Go.Proofs.YtgahcabgmfbhdaaGreatDoor
