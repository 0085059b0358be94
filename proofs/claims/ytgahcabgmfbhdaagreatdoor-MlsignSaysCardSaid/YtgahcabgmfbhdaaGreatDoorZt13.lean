/-
  A sponge as cells, and what the document's own rate, mark, Right and New of layer 6 return. Conditio
-/
import Derived.Test.YtgahcabgmfbhdaaGreatDoorZt06
import Derived.Test.YtgahcabgmfbhdaaGreatDoorZt12
import Derived.Test.YtgahcabgmfbhdaaGreatDoorZt02
import Derived.Test.YtgahcabgmfbhdaaGreatDoorZt07
import Derived.Test.YtgahcabgmfbhdaaGreatDoorZt11
import Derived.OwnWalk
import Derived.Lib.ConvBytes
set_option maxRecDepth 100000
set_option maxHeartbeats 16000000
set_option linter.unusedSimpArgs false
set_option linter.unusedVariables false
open Go Go.RowKit
namespace Go.Proofs.YtgahcabgmfbhdaaGreatDoor
namespace rspa
open Go.RowKit
open arr mem kecm kecb spgm
theorem xih(k:Int)(w:World):Calls Tryz.prog 166 #[.int .i64 k] w (zE w (.int .i64 ((rate k:Nat):Int))):=by
 unfold rate;by_cases h1:k=1
 ·subst h1;go_enter Tryz.func166,Tryz.ntmps166;go_wp2_with fail;go_ret;exact⟨rfl,rfl⟩
 ·by_cases h2:k=2
  ·subst h2;go_enter Tryz.func166,Tryz.ntmps166;go_wp2_with fail;go_ret;exact⟨rfl,rfl⟩
  ·by_cases h3:k=3
   ·subst h3;go_enter Tryz.func166,Tryz.ntmps166;go_wp2_with fail;go_ret;exact⟨rfl,rfl⟩
   ·by_cases h4:k=4
    ·subst h4;go_enter Tryz.func166,Tryz.ntmps166;go_wp2_with fail;go_ret;exact⟨rfl,rfl⟩
    ·rw[if_neg h1,if_neg h2,if_neg h3,if_neg h4];go_enter Tryz.func166,Tryz.ntmps166;go_wp2_with fail;go_ret;exact⟨rfl,rfl⟩
theorem xs0(k:Int)(w:World):Calls Tryz.prog 169 #[.int .i64 k] w (zE w (.int .u8 ((spgm.mark k:Nat):Int))):=by
 unfold spgm.mark;by_cases h1:k=1
 ·subst h1;go_enter Tryz.func169,Tryz.ntmps169;go_wp2_with fail;go_ret;exact⟨rfl,rfl⟩
 ·by_cases h2:k=2
  ·subst h2;go_enter Tryz.func169,Tryz.ntmps169;go_wp2_with fail;go_ret;exact⟨rfl,rfl⟩
  ·rw[if_neg h1,if_neg h2];have e1:(k==1)=false:=by simpa using h1
   have e2:(k==2)=false:=by simpa using h2
   go_enter Tryz.func169,Tryz.ntmps169;go_wp2_with fail;go_ret;exact⟨rfl,rfl⟩
end rspa
namespace rspb
open Go.RowKit
open arr mem kecm kecb spgm rspa
theorem xur(k a:Int)(o:Bool)(l:List Nat)(r:Nat)(w:World)(hl:l.length=25)(Hr:Ω (∀ w1:World,Calls Tryz.prog 166 #[.int .i64 k] w1 (zE w1 (.int .i64 (r:Int)))))(hr:r=0):
 Calls Tryz.prog 167 #[.agg (SC k l a o)] w (zB w (.bool false)):=by
 obtain⟨W,hW⟩:=zev (w.alloc (.cells (SC k l a o) 165));have HW:=ω hW;have Hb:=zba hW;have hrow:W.heap[w.heap.size]? = some (.cells (SC k l a o) 165 (0,0)):=by rw[←hW];exact xae _ _ _ rfl
 have c0:=xab hrow (xcq k l a o);have ca:=xab hrow (xas k a o hl);have co:=xab hrow (xcf k a o hl);clear hrow hW hl;subst hr;go_enter Tryz.func167,Tryz.ntmps167;go_wp2_with (rw[HW.out]);refine(Hr.out _).mono ?_;rintro e w1 ⟨rfl,rfl⟩;go_wp2_with fail;go_ret;exact⟨rfl,Hb.out⟩
theorem xuq(k a:Int)(o:Bool)(l:List Nat)(r:Nat)(w:World)(hl:l.length=25)(Hr:Ω (∀ w1:World,Calls Tryz.prog 166 #[.int .i64 k] w1 (zE w1 (.int .i64 (r:Int)))))(hr : 0<r)(ha:a<0):
 Calls Tryz.prog 167 #[.agg (SC k l a o)] w (zB w (.bool false)):=by
 obtain⟨W,hW⟩:=zev (w.alloc (.cells (SC k l a o) 165));have HW:=ω hW;have Hb:=zba hW;have hrow:W.heap[w.heap.size]? = some (.cells (SC k l a o) 165 (0,0)):=by rw[←hW];exact xae _ _ _ rfl
 have c0:=xab hrow (xcq k l a o);have ca:=xab hrow (xas k a o hl);have co:=xab hrow (xcf k a o hl);clear hrow hW hl;have h1:(0:Int)<(r:Int):=by omega
 clear hr;go_enter Tryz.func167,Tryz.ntmps167;go_wp2_with (rw[HW.out]);refine(Hr.out _).mono ?_;rintro e w1 ⟨rfl,rfl⟩;go_wp2_with fail;go_ret;exact⟨rfl,Hb.out⟩
theorem xup(k a:Int)(o:Bool)(l:List Nat)(r:Nat)(w:World)(hl:l.length=25)(Hr:Ω (∀ w1:World,Calls Tryz.prog 166 #[.int .i64 k] w1 (zE w1 (.int .i64 (r:Int)))))(ha : 0≤a)(hb:a<(r:Int)):
 Calls Tryz.prog 167 #[.agg (SC k l a o)] w (zB w (.bool true)):=by
 obtain⟨W,hW⟩:=zev (w.alloc (.cells (SC k l a o) 165));have HW:=ω hW;have Hb:=zba hW;have hrow:W.heap[w.heap.size]? = some (.cells (SC k l a o) 165 (0,0)):=by rw[←hW];exact xae _ _ _ rfl
 have c0:=xab hrow (xcq k l a o);have ca:=xab hrow (xas k a o hl);have co:=xab hrow (xcf k a o hl);clear hrow hW hl;have h1:(0:Int)<(r:Int):=by omega
 go_enter Tryz.func167,Tryz.ntmps167;go_wp2_with (rw[HW.out]);refine(Hr.out _).mono ?_;rintro e w1 ⟨rfl,rfl⟩;go_wp2_with fail;go_ret;exact⟨rfl,Hb.out⟩
theorem xuo(k a:Int)(o:Bool)(l:List Nat)(r:Nat)(w:World)(hl:l.length=25)(Hr:Ω (∀ w1:World,Calls Tryz.prog 166 #[.int .i64 k] w1 (zE w1 (.int .i64 (r:Int)))))(hb:(r:Int)<a)(hr : 0<r)(ho:o=true):
 Calls Tryz.prog 167 #[.agg (SC k l a o)] w (zB w (.bool false)):=by
 obtain⟨W,hW⟩:=zev (w.alloc (.cells (SC k l a o) 165));have HW:=ω hW;have Hb:=zba hW;have hrow:W.heap[w.heap.size]? = some (.cells (SC k l a o) 165 (0,0)):=by rw[←hW];exact xae _ _ _ rfl
 have c0:=xab hrow (xcq k l a o);have ca:=xab hrow (xas k a o hl);have co:=xab hrow (xcf k a o hl);clear hrow hW hl;subst ho;have h1:(0:Int)<(r:Int):=by omega
 have h2:(0:Int)≤a:=by omega
 have h3:decide (a<(r:Int))=false:=decide_eq_false (by omega);have h4:(a==(r:Int))=false:=beq_eq_false_iff_ne.2 (by omega);clear hr hb;go_enter Tryz.func167,Tryz.ntmps167;go_wp2_with (rw[HW.out]);refine(Hr.out _).mono ?_;rintro e w1 ⟨rfl,rfl⟩;go_wp2_with fail;go_ret;exact⟨rfl,Hb.out⟩
theorem xun(k a:Int)(o:Bool)(l:List Nat)(r:Nat)(w:World)(hl:l.length=25)(Hr:Ω (∀ w1:World,Calls Tryz.prog 166 #[.int .i64 k] w1 (zE w1 (.int .i64 (r:Int)))))(hb:(r:Int)≤a)(hr : 0<r)(ho:o=false):
 Calls Tryz.prog 167 #[.agg (SC k l a o)] w (zB w (.bool false)):=by
 obtain⟨W,hW⟩:=zev (w.alloc (.cells (SC k l a o) 165));have HW:=ω hW;have Hb:=zba hW;have hrow:W.heap[w.heap.size]? = some (.cells (SC k l a o) 165 (0,0)):=by rw[←hW];exact xae _ _ _ rfl
 have c0:=xab hrow (xcq k l a o);have ca:=xab hrow (xas k a o hl);have co:=xab hrow (xcf k a o hl);clear hrow hW hl;subst ho;have h1:(0:Int)<(r:Int):=by omega
 have h2:(0:Int)≤a:=by omega
 have h3:decide (a<(r:Int))=false:=decide_eq_false (by omega);clear hr hb;go_enter Tryz.func167,Tryz.ntmps167;go_wp2_with (rw[HW.out]);refine(Hr.out _).mono ?_;rintro e w1 ⟨rfl,rfl⟩;go_wp2_with fail;go_ret;exact⟨rfl,Hb.out⟩
theorem xum(k a:Int)(o:Bool)(l:List Nat)(r:Nat)(w:World)(hl:l.length=25)(Hr:Ω (∀ w1:World,Calls Tryz.prog 166 #[.int .i64 k] w1 (zE w1 (.int .i64 (r:Int)))))(hb:a=(r:Int))(hr : 0<r)(ho:o=true):
 Calls Tryz.prog 167 #[.agg (SC k l a o)] w (zB w (.bool true)):=by
 obtain⟨W,hW⟩:=zev (w.alloc (.cells (SC k l a o) 165));have HW:=ω hW;have Hb:=zba hW;have hrow:W.heap[w.heap.size]? = some (.cells (SC k l a o) 165 (0,0)):=by rw[←hW];exact xae _ _ _ rfl
 have c0:=xab hrow (xcq k l a o);have ca:=xab hrow (xas k a o hl);have co:=xab hrow (xcf k a o hl);clear hrow hW hl;subst ho hb;have h1:(0:Int)<(r:Int):=by omega
 clear hr;go_enter Tryz.func167,Tryz.ntmps167;go_wp2_with (rw[HW.out]);refine(Hr.out _).mono ?_;rintro e w1 ⟨rfl,rfl⟩;go_wp2_with fail;go_ret;exact⟨rfl,Hb.out⟩
theorem xbn(k a:Int)(o:Bool)(l:List Nat)(w:World)(hl:l.length=25):
 Calls Tryz.prog 167 #[.agg (SC k l a o)] w (zB w (.bool (ok k a o))):=by
 have Hr:Ω (∀ w1:World,Calls Tryz.prog 166 #[.int .i64 k] w1 (zE w1 (.int .i64 ((rate k:Nat):Int)))):=⟨xih k⟩;show Calls Tryz.prog 167 #[.agg (SC k l a o)] w (zB w (.bool (okr (rate k) a o)));obtain⟨r,hr⟩:=zev (rate k);rw[hr]at Hr ⊢;clear hr;by_cases h0:r=0
 ·have e:okr r a o=false:=by unfold okr;rw[h0];rfl
  rw[e];exact xur k a o l r w hl Hr h0
 ·by_cases h1:a<0
  ·have e:okr r a o=false:=by unfold okr;rw[decide_eq_false (show ¬ 0≤a by omega)];simp
   rw[e];exact xuq k a o l r w hl Hr (by omega) h1
  ·by_cases h2:a<(r:Int)
   ·have e:okr r a o=true:=by unfold okr;rw[decide_eq_true (show 0<r by omega),decide_eq_true (show 0≤a by omega),decide_eq_true h2];rfl
    rw[e];exact xup k a o l r w hl Hr (by omega) h2
   ·cases o with
    | false=>
     have e:okr r a false=false:=by unfold okr;rw[decide_eq_false h2];simp
     rw[e];exact xun k a false l r w hl Hr (by omega) (by omega) rfl
    | true=>
     by_cases h3:a=(r:Int)
     ·have e:okr r a true=true:=by unfold okr;rw[decide_eq_true (show 0<r by omega),decide_eq_true (show 0≤a by omega),decide_eq_true h3];simp
      rw[e];exact xum k a true l r w hl Hr h3 (by omega) rfl
     ·have e:okr r a true=false:=by unfold okr;rw[decide_eq_false h2,decide_eq_false h3];simp
      rw[e];exact xuo k a true l r w hl Hr (by omega) (by omega) rfl
end rspb
namespace rspd
open Go.RowKit
open arr mem kecm kecb kstep kfun spgm rspa rspb rspc
theorem xqu{T:Array Value}{ts rs:List Nat}(k:Int)(a:Nat)(l:List Nat)(b:ByteArray)(w:World)(h:St l)(hK:KT T ts rs)(hok:ok k (a:Int) false=true)(hb:b.size≤1125899906842624):
 Calls Tryz.prog 129 #[.agg T,.agg (SC k l (a:Int) false),.string b] w (zB w (.tuple #[.agg (SC k (abs (PP ts rs) (rate k) ⟨l,a⟩ (bys b)).l ((abs (PP ts rs) (rate k) ⟨l,a⟩ (bys b)).at':Nat) false),.int .i64 0])):=by
 have Hrt:Ω (∀ w1:World,Calls Tryz.prog 167 #[.agg (SC k l (a:Int) false)] w1 (zB w1 (.bool true))):=⟨fun w1=>by have h9:=xbn k (a:Int) false l w1 h.len;rw[hok]at h9;exact h9⟩;have hra:a<rate k∧rate k≤168:=⟨ok_lt k a hok,xii k⟩;have Hrate:Ω (∀ w1:World,Calls Tryz.prog 166 #[.int .i64 k] w1 (zE w1 (.int .i64 ((rate k:Nat):Int)))):=⟨xih k⟩;obtain⟨r,hr⟩:=zev (rate k);rw[hr]at hra Hrate ⊢;have Hra:=ω hra;clear hr hok hra;have H:=ω h;have HK:=ω hK;have HTz:Ω ((Tryz.prog.info? 34).map (·.size)=some T.size):=⟨by rw[hK.size];exact rkeb.sizeT⟩;obtain⟨z,HZ⟩:=xaa Z;have HZl:Ω (z.length=25):=⟨by rw[←HZ.out];rfl⟩;have Hz:Ω ((#[.int .i64 0,.int .u64 0,.int .u64 0,.int .u64 0,.int .u64 0,.int .u64 0,.int .u64 0,.int .u64 0,.int .u64 0,.int .u64 0,.int .u64 0,.int .u64 0,.int .u64 0,.int .u64 0,.int .u64 0,.int .u64 0,.int .u64 0,.int .u64 0,.int .u64 0,.int .u64 0,.int .u64 0,.int .u64 0,.int .u64 0,.int .u64 0,.int .u64 0,.int .u64 0,.int .i64 0,.bool false]:Array Value)=SC 0 z 0 false):=⟨by rw[←HZ.out];exact zs_is⟩;clear h hK HZ;have C1:Ω (∀ (l:List Nat) (w1:World),St l→Calls Tryz.prog 168 #[.agg T,.agg (LK .u64 l)] w1 (zB w1 (.agg (LK .u64 (PP ts rs l))))):=⟨fun l w1 hl=>rperm.xia l w1 hl HK.out⟩;obtain⟨E,HE⟩:=xaa (abs (PP ts rs) r ⟨l,a⟩ (bys b));have HEs:Ω (St E.l):=⟨by rw[←HE.out];exact(xg6 (fun _ h=>xbw HK.out.br h) _ H.out Hra.out.1).1⟩;have HEa:Ω (sa ts rs r l a (bys b) b.size=E):=⟨by rw[←HE.out,sa,List.take_of_length_le (by rw[xa0];exact Nat.le_refl _)]⟩;rw[HE.out];clear HE;go_enter Tryz.func129,Tryz.ntmps129
 obtain⟨W,hW⟩:=zev (((w.alloc (.cells T 34)).alloc (.cells (SC k l (a:Int) false) 165)).alloc (.cells (SC 0 z 0 false) 165));obtain⟨b0,b1,b2,hWs,hWb⟩:=three hW;have B0:=ω b0;have B1:=ω b1;have B2:=ω b2;have HWs:=ω hWs;have HWb:=ω hWb;have HW:=ω hW;have Si:=ω (xdb k (a:Int) false H.out.len);have So:=ω (xdw k l (a:Int) false);have Sz:=ω (xld k 0 (a:Int) 0 false false H.out.len HZl.out);have c3:=xab b1 (xcf k (a:Int) false H.out.len);have c0:=xab b1 (xcq k l (a:Int) false);obtain⟨S,HS⟩:=xaa (SC k l (a:Int) false);rw[HS.out]at B1 Si So Sz HW Hrt;clear hWs hWb hW b0 b1 b2;rw[HS.out];go_wp2_with (first
  | (rw[Hz.out,HW.out])
  | (refine wpList_load_row rfl 165 _ rfl (w.heap.size+1) rfl 165 S (0,0) _ B1.out Tryz.underlying165 rfl Si.out ?_))
 refine(Hrt.out _).mono ?_;rintro e w1 ⟨rfl,hb1⟩;rw[←HS.out]at B1;have A1:Ω (At (w.heap.size+1) (SC k l (a:Int) false) 165 W w1):=⟨(At.refl B1.out).later hb1⟩;have c3':w1.cell? ⟨w.heap.size+1,27,none⟩=some (.bool false):=xab A1.out.row (xcf k (a:Int) false H.out.len);have c0':w1.cell? ⟨w.heap.size+1,0,none⟩=some (.int .i64 k):=xab A1.out.row (xcq k l (a:Int) false);clear hb1 c0 c3 HS Si So Sz Hrt;go_wp2_with fail;refine(Hrate.out _).mono ?_;rintro e w2 ⟨rfl,rfl⟩;go_wp2_with fail;clear c3' c0';go_loopw [22] (fun i wr=>∃ i':Nat,i'≤b.size∧i=.int .i64 (i':Int)∧Ω (At (w.heap.size+1) (SC k (sa ts rs r l a (bys b) i').l ((sa ts rs r l a (bys b) i').at':Nat) false) 165 W wr)) (fun i _=>b.size-(intOf i).toNat)
 case atStart=>exact⟨0,Nat.zero_le _,rfl,A1⟩
 case round=>
  clear A1;obtain⟨i,hi,rfl,A0⟩:=hrel;by_cases hlt:i<b.size
  ·have hiz:(i:Int)<(b.size:Int):=by omega
   obtain⟨s,Hs⟩:=xaa (sa ts rs r l a (bys b) i);have Hso:Ω (St s.l∧s.at'<r):=⟨by rw[←Hs.out];exact xlc HK.out.br H.out Hra.out.1 _ _⟩;rw[Hs.out]at A0;obtain⟨β,hβ⟩:∃ β,(bys b).getD i 0 = β := ⟨_,rfl⟩;have bβ : β < 256:=hβ ▸ xao b i;have hidx:=byte_of b i β hlt hβ;have Hn:Ω (sa ts rs r l a (bys b) (i+1)=ab (PP ts rs) r s β):=⟨by rw[xu9 ts rs r l a (bys b) i β (by rw[xa0];exact hlt) hβ,Hs.out]⟩;obtain⟨sl,p⟩:=s;have h168:=Hra.out.2;have hsl:=Hso.out.1;have hp:=Hso.out.2;simp only at hsl hp A0;obtain⟨q,hq⟩:=zev (p / 8);obtain⟨m,hm⟩:=zev (p%8);obtain⟨c,hc⟩:∃ c,c=8*m:=⟨_,rfl⟩;have fq:(p:Int).tdiv 8=(q:Int):=by rw[Int.tdiv_eq_ediv_of_nonneg (by omega)];omega
   have fqw:IntKind.i64.wrap ((p:Int).tdiv 8)=(q:Int):=by rw[fq,IntKind.wrap_i64];omega
   have fm:(p:Int).tmod 8=(m:Int):=by rw[Int.tmod_eq_emod_of_nonneg (by omega)];omega
   have fq2:(p:Int) / 8=(q:Int):=by omega
   have fq3:IntKind.i64.wrap (q:Int)=(q:Int):=zwi;have fm2:(p:Int)%8=(m:Int):=by omega
   have fc:IntKind.i64.wrap (8*(m:Int))=(c:Int):=zwi;have fu:IntKind.u64.wrap (c:Int)=(c:Int):=by rw[IntKind.wrap_u64];omega
   have hc63:c≤63:=by omega
   have hq25:q<25:=by omega
   have hqz:(q:Int)<25:=by omega
   obtain⟨x,hx⟩:=zev (g sl q);have bx:x<18446744073709551616:=hx ▸ hsl.lt q;obtain⟨y,hy⟩:=zev (β * 2 ^ c%18446744073709551616);have by':y<18446744073709551616:=hy ▸ Nat.mod_lt _ (by decide)
   have fs:=xir β c;rw[hy]at fs;have fb:IntKind.u64.wrap (β : Int)=(β : Int):=by rw[IntKind.wrap_u64];omega
   have fy:IntKind.u64.wrap ((β : Int)*2 ^ c)=(y:Int):=by rw[IntKind.wrap_u64];exact fs
   obtain⟨v,hv⟩:=zev (x ^^^ y);have V:=xor2 x y v bx by' hv
   have Hxb:Ω (sl.set q v=xb sl p β):=⟨by unfold xb;rw[hq,hm,←hc,hx,hy,hv]⟩;have cp:wr.cell? ⟨w.heap.size+1,26,none⟩=some (.int .i64 (p:Int)):=xab A0.out.row (xas k _ false hsl.len);have cx:wr.cell? ⟨w.heap.size+1,1+q,none⟩=some (.int .u64 (x:Int)):=by rw[←hx];exact xab A0.out.row (xce k _ false hsl.len q hq25)
   have Hsl:=ω hsl;have Hp:=ω hp;clear hq hm hc hx hy hv hβ hi hsl hp h168;go_wp2_with fail;refine xay 19 (by kernel_rfl) (by kernel_rfl) ?_;simp only[List.take_succ_cons,List.take_zero,List.drop_succ_cons,List.drop_zero];repeat still_step
   refine wpStill_nil ?_;have hz28:∀ (k a:Int) (o:Bool) {l:List Nat},l.length=25→(SC k l a o).size=28:=fun k a o l h=>xa5 k a o h
   have A1:Ω (At (w.heap.size+1) (SC k sl (p:Int) false) 165 W wr.drew):=⟨xag A0.out⟩;clear cp cx fq fqw fm fq2 fq3 fm2 fc fu fs V A0 fb fy
   with_reducible refine xaf A1 rfl _ _ _ rfl rfl ?_
   refine⟨_,_,_,rfl,rfl,rfl,by rw[hz28 _ _ _ Hsl.out.len];omega,?_⟩;intro wn HR1;rw[xgs k _ false Hsl.out.len q v hq25,Hxb.out]at HR1;obtain⟨xl,Hxl⟩:=xaa (xb sl p β);have HX:Ω (St xl):=⟨by rw[←Hxl.out];exact xci Hsl.out p β⟩;rw[Hxl.out]at HR1;have cp1:wn.cell? ⟨w.heap.size+1,26,none⟩=some (.int .i64 (p:Int)):=xab HR1.out.row (xas k _ false HX.out.len);have hp8:p≤168:=by have:=Hp.out;have:=Hra.out.2;omega
   by_cases he:p+1=r
   ·have hz:((p:Int)+1==(r:Int))=true:=beq_iff_eq.2 (by omega);have Hn2:Ω (sa ts rs r l a (bys b) (i+1)=⟨PP ts rs xl,0⟩):=⟨by rw[Hn.out,ab,if_pos he,Hxl.out]⟩;have HQ:Ω (St (PP ts rs xl)):=⟨xbw HK.out.br HX.out⟩;obtain⟨pl,Hpl⟩:=xaa (PP ts rs xl);rw[Hpl.out]at HQ Hn2;have C2:Ω (∀ w1:World,Calls Tryz.prog 168 #[.agg T,.agg (LK .u64 xl)] w1 (zB w1 (.agg (LK .u64 pl)))):=⟨fun w1=>by rw[←Hpl.out];exact C1.out xl w1 HX.out⟩;have Xz:=ω (show (Tryz.prog.info? 163).map (·.size)=some (LK .u64 xl).toList.length by rw[Array.length_toList];exact size25 HX.out.len);clear he Hn Hxb Hsl Hp A1 hidx bβ;go_wp2_with (first
     | ((with_reducible refine xaf (by assumption) rfl _ _ _ rfl rfl ?_);refine⟨_,_,_,rfl,rfl,rfl,(by rw[hz28 _ _ _ HX.out.len];decide),?_⟩;intro w5 HR2;rw[xbd k _ _ false HX.out.len]at HR2;have cp2:w5.cell? ⟨w.heap.size+1,26,none⟩=some (.int .i64 ((p:Int)+1)):=xab HR2.out.row (xas k _ false HX.out.len);have T5:Ω (w5.heap[w.heap.size]? = some (.cells T 34 (0,0))):=⟨HR2.out.other (by have:=HWs.out;omega) (by omega) B0.out⟩;have L5:=ω (xhy HR2.out.row HX.out.len))
     | (refine wpList_load_row rfl 34 _ rfl w.heap.size rfl 34 T (0,0) _ T5.out zY rfl HTz.out ?_)
     | (refine wpList_load_mid rfl 163 _ rfl (w.heap.size+1) 1 rfl (LK .u64 xl).toList _ L5.out Tryz.underlying163 rfl Xz.out ?_))
    refine(C2.out _).mono ?_;rintro e w6 ⟨rfl,hb6⟩;have HR3:Ω (At (w.heap.size+1) (SC k xl _ false) 165 W w6):=⟨HR2.out.later hb6⟩;clear hb6 cp1 cp2 T5 L5 HR1 HR2;go_wp2_with (first
     | ((with_reducible refine xl9 HR3 HX.out.len HQ.out.len rfl _ _ rfl rfl ?hx ?hy ?_);(case hx=>exact rfl);(case hy=>exact rfl);intro w7 HR4;clear HR3)
     | ((with_reducible refine xaf (by assumption) rfl _ _ _ rfl rfl ?_);refine⟨_,_,_,rfl,rfl,rfl,(by rw[hz28 _ _ _ HQ.out.len];decide),?_⟩;intro w8 HR5;rw[xbd k _ _ false HQ.out.len]at HR5))
    go_roundw
    case rel=>exact⟨i+1,by omega,by go_num,by rw[Hn2.out];exact HR5⟩
    case measure=>simp[intOf];omega
   ·have hz:((p:Int)+1==(r:Int))=false:=beq_eq_false_iff_ne.2 (by omega);have Hn2:Ω (sa ts rs r l a (bys b) (i+1)=⟨xl,p+1⟩):=⟨by rw[Hn.out,ab,if_neg he,Hxl.out]⟩;clear he Hn Hxb Hsl Hp A1 hidx bβ;go_wp2_with ((with_reducible refine xaf (by assumption) rfl _ _ _ rfl rfl ?_);refine⟨_,_,_,rfl,rfl,rfl,(by rw[hz28 _ _ _ HX.out.len];decide),?_⟩;intro w5 HR2;rw[xbd k _ _ false HX.out.len]at HR2;have cp2:w5.cell? ⟨w.heap.size+1,26,none⟩=some (.int .i64 ((p:Int)+1)):=xab HR2.out.row (xas k _ false HX.out.len));go_roundw
    case rel=>exact⟨i+1,by omega,by go_num,by rw[Hn2.out];exact HR2⟩
    case measure=>simp[intOf];omega
  ·obtain rfl:i=b.size:=by omega
   rw[HEa.out]at A0;obtain⟨el,ea⟩:=E;simp only at A0;have hel:=HEs.out.len;simp only at hel;obtain⟨F,HF⟩:=xaa (SC k el (ea:Int) false);have Fi:Ω ((Tryz.prog.info? 165).map (·.size)=some F.size):=⟨by rw[←HF.out];exact xdb k _ _ hel⟩;have Fo:Ω (F.all (·.oneCell')=true):=⟨by rw[←HF.out];exact xdw k el _ _⟩;have Fz:Ω ((SC 0 z 0 false).size=F.size):=⟨by rw[←HF.out];exact xld _ _ _ _ _ _ HZl.out hel⟩;rw[HF.out]at A0;have Hres:Ω (wr.heap[w.heap.size+2]? = some (.cells (SC 0 z 0 false) 165 (0,0))):=⟨A0.out.other (by have:=HWs.out;omega) (by omega) B2.out⟩;have Hrow:=ω A0.out.row;have Hb5:Ω (Below w.heap.size w wr):=⟨HWb.out.trans (A0.out.below (by have:=HWs.out;omega) (by omega))⟩;clear A0 hi hlt hel;go_wp2_with (first
    | (refine wpList_load_row rfl 165 _ rfl (w.heap.size+1) rfl 165 F (0,0) _ Hrow.out Tryz.underlying165 rfl Fi.out ?_)
    | (refine wpList_store_row rfl 165 _ _ rfl (w.heap.size+2) F rfl rfl 165 _ Hres.out Fi.out Fz.out Fo.out ?_))
   refine bodyPost_ret_by (v:=.tuple #[.agg F,.int .i64 0]) (rspc.results_cell_tmp rfl _ _ (w.heap.size+2) 165 _ (0,0) _ rfl (setRow_heap _ _ _ _ _ _ Hres.out) Tryz.underlying165 rfl Fi.out _ rfl) rfl ?_;exact⟨by rw[←HF.out],Hb5.out.trans (below_setRow _ _ _ (by omega))⟩
end rspd
namespace rspe
open Go.RowKit
open arr mem kecm kecb kstep kfun spgm rspa rspb rspc rspd
theorem xtc(k:Int)(w:World)(hr : 0<rate k):Calls Tryz.prog 128 #[.int .i64 k] w (zB w (.tuple #[.agg (SC k Z 0 false),.int .i64 0])):=by
 have Hrate:Ω (∀ w1:World,Calls Tryz.prog 166 #[.int .i64 k] w1 (zE w1 (.int .i64 ((rate k:Nat):Int)))):=⟨xih k⟩;obtain⟨r,hre⟩:=zev (rate k);rw[hre]at hr Hrate;clear hre;have h0:¬ ((r:Int)=0):=by omega
 have h1:((r:Int)==0)=false:=beq_eq_false_iff_ne.2 (by omega);clear hr h0;obtain⟨F,HF⟩:=xaa (SC k Z 0 false);have Fi:Ω ((Tryz.prog.info? 165).map (·.size)=some F.size):=⟨by rw[←HF.out];exact xdb _ _ _ xep⟩;have Fo:Ω (F.all (·.oneCell')=true):=⟨by rw[←HF.out];exact xdw _ _ _ _⟩;have Fz:Ω ((#[.int .i64 0,.int .u64 0,.int .u64 0,.int .u64 0,.int .u64 0,.int .u64 0,.int .u64 0,.int .u64 0,.int .u64 0,.int .u64 0,.int .u64 0,.int .u64 0,.int .u64 0,.int .u64 0,.int .u64 0,.int .u64 0,.int .u64 0,.int .u64 0,.int .u64 0,.int .u64 0,.int .u64 0,.int .u64 0,.int .u64 0,.int .u64 0,.int .u64 0,.int .u64 0,.int .i64 0,.bool false]:Array Value).size=F.size):=⟨by rw[←HF.out,xa5 _ _ _ xep];rfl⟩;have Fb:Ω ((#[.int .i64 k,.int .u64 0,.int .u64 0,.int .u64 0,.int .u64 0,.int .u64 0,.int .u64 0,.int .u64 0,.int .u64 0,.int .u64 0,.int .u64 0,.int .u64 0,.int .u64 0,.int .u64 0,.int .u64 0,.int .u64 0,.int .u64 0,.int .u64 0,.int .u64 0,.int .u64 0,.int .u64 0,.int .u64 0,.int .u64 0,.int .u64 0,.int .u64 0,.int .u64 0,.int .i64 0,.bool false]:Array Value)=F):=⟨by rw[←HF.out];rfl⟩;rw[HF.out];go_enter Tryz.func128,Tryz.ntmps128;go_wp2_with fail;refine(Hrate.out _).mono ?_;rintro e w1 ⟨rfl,rfl⟩;go_wp2_with (first
  | ((with_reducible refine xl8 rfl _ _ rfl #[.int .i64 k,.int .u64 0,.int .u64 0,.int .u64 0,.int .u64 0,.int .u64 0,.int .u64 0,.int .u64 0,.int .u64 0,.int .u64 0,.int .u64 0,.int .u64 0,.int .u64 0,.int .u64 0,.int .u64 0,.int .u64 0,.int .u64 0,.int .u64 0,.int .u64 0,.int .u64 0,.int .u64 0,.int .u64 0,.int .u64 0,.int .u64 0,.int .u64 0,.int .u64 0,.int .i64 0,.bool false] ?hC ?_);(case hC=>kernel_rfl);rw[Fb.out])
  | (refine xam rfl 165 _ _ rfl F rfl rfl Fi.out (by first | exact Fz.out | rfl) Fo.out rfl ?_))
 refine bodyPost_ret_by (v:=.tuple #[.agg F,.int .i64 0]) (rspc.results_cell_tmp rfl _ _ w.heap.size 165 _ (0,0) _ rfl (xae _ _ _ rfl) Tryz.underlying165 rfl Fi.out _ rfl) rfl ?_;exact⟨rfl,xbg _ _⟩
end rspe
namespace rspf
open Go.RowKit
open arr mem kecm kecb kstep kfun spgm rspa rspb rspc rspd
theorem infoByte:(Tryz.prog.info? 5).map (fun i=>(i.zero,i.size,i.bytes))=some (some (.int .u8 0),1,1):=by kernel_rfl
theorem parts{P:Program}{e:TypeId}{z:Value}{s b:Nat}(h:(P.info? e).map (fun i=>(i.zero,i.size,i.bytes))=some (some z,s,b)):∃ i,P.info? e=some i∧i.zero=some z∧i.size=s∧i.bytes=b:=by
 cases hi:P.info? e with
 | none=>rw[hi]at h;cases h
 | some i=>
  rw[hi]at h;simp only[Option.map_some,Option.some.injEq,Prod.mk.injEq]at h;exact⟨i,rfl,h.1,h.2.1,h.2.2⟩
theorem xbv{w w':World}{base:Nat}{e:TypeId}{size:Nat}{v:Value}{n:Nat}{xs:List Value}{g:Nat}{C:Array Value}{t:TypeId}(h:w.ownsRow base e size v n xs)(k:At g C t w w')(hg:g<base):w'.ownsRow base e size v n xs:=
 ⟨h.1,h.2.imp id fun ⟨g',cap,cur,hv,hb,hgr,rest⟩=>⟨g',cap,cur,hv,hb,(k.block g' (xac hgr) (by omega)).trans hgr,rest⟩⟩
theorem xck{g B:Nat}{C:Array Value}{t:TypeId}{a b c:World}(h:At g C t a b)(k:Below B b c)(hB:a.heap.size≤B)(hg:g<B):At g C t a c:=
 ⟨k.os.trans h.os,k.tape.trans h.tape,k.output.trans h.output,Nat.le_trans h.size k.size,(k.block g hg).trans h.row,fun i hi hig=>(k.block i (by omega)).trans (h.block i hi hig)⟩
open spof (u8s)
theorem xfq(l:List Nat)(x:Nat)(hx:x<256):Lib.byteCells (u8s (l ++ [x]))=Lib.byteCells (u8s l) ++ [.int .u8 (x:Int)]:=by
 unfold u8s;rw[List.map_append,Lib.byteCells_append];congr 1
 simp[Lib.byteCells,Nat.mod_eq_of_lt hx]
theorem xbc{w:World}{v:Value}{T:Nat}:∀ j u,[v][j]? = some u→(w.alloc (.cells #[v] T)).cell? ((⟨w.heap.size,0,none⟩:Addr).add j)=some u:=by
 intro j u hj;match j,hj with
 | 0,hj=>
  simp at hj;subst hj;simp[Addr.add]
theorem xbh{w:World}{base:Nat}{e:TypeId}{size:Nat}{v:Value}{n:Nat}{xs:List Value}(h:w.ownsRow base e size v (n+1) xs):∃ g cap,v=.slice (some ⟨g,0,none⟩) (n+1) cap:=by
 rcases h.2 with ⟨-,h0⟩ | ⟨g,cap,cur,hv,-⟩
 ·omega
 ·exact⟨g,cap,hv⟩
theorem xd3{w:World}{base g cap n:Nat}{l:List UInt8}(hn:l.length=n)(h:w.ownsRow base 5 1 (.slice (some ⟨g,0,none⟩) n cap) n (Lib.byteCells l)):
 (convert 49 9 (.slice (some ⟨g,0,none⟩) n cap)).run Tryz.prog w.drew=.ok (.string ⟨l.toArray⟩) w.drew:=by
 subst hn;have h:=World.ownsRow.drew h;refine run_convert_bytes_back (P:=Tryz.prog) w.drew 49 9 5 ⟨g,0,none⟩ cap l Tryz.underlying49 Tryz.underlying5 Tryz.underlying9 (fun j hj=>?_);have:=h.cellAt j (by omega);rw[Addr.add_mid,Nat.zero_add,this];simp[Lib.byteCells,hj]
theorem xgu(x c:Nat):IntKind.u8.wrap ((x:Int) / 2 ^ c)=((x / 2 ^ c%256:Nat):Int):=by
 rw[rols.castd x c,IntKind.wrap_u8];omega
theorem xb9{P:Program}{md:Region.Mode}{l:List Oper}{Q:Exit→Act→World→Prop}{listed:Array Bool}{a:Act}{w:World}(n g:Nat)(hB:Region.seqB md l.toArray g n listed=true)(hg:(l.drop n).length=g)
 (h:wpList P l.toArray Q (l.drop n) a w):wpAny P md l.toArray Q g listed a w:=by
 subst hg;exact wpAny_of_seq (l.drop n) n listed a w (fun j=>by simp[List.getElem?_drop]) hB h
theorem xq0{g:Nat}{C C':Array Value}{t:TypeId}{w w':World}(h:At g C t w w'):At g C' t w (w'.setRow g C'):=
 ⟨h.os,h.tape,h.output,by simpa [World.setRow] using h.size,setRow_heap _ _ _ _ _ _ h.row,fun k hk hg=>(setRow_other w' g k C' hg).trans (h.block k hk hg)⟩
theorem xkl{c:Prop}[Decidable c]{a b:Prop}(hc:c)(h:a):if c then a else b:=by rw[if_pos hc];exact h
end rspf
namespace rspg
open arr mem kecm kecb kstep kfun spgm rspa rspb rspc rspd rspf
open spof (u8s)
theorem xln{T:Array Value}{ts rs:List Nat}(k:Int)(a n:Nat)(l:List Nat)(w:World)(h:St l)(hK:KT T ts rs)(hok:ok k (a:Int) false=true)(hra : 0<rate k∧a<rate k∧rate k≤168)(hn:n≤50000):
 Calls Tryz.prog 130 #[.agg T,.agg (SC k l (a:Int) false),.int .i64 (n:Int)] w (zB w (.tuple #[.agg (SC k (sk (PP ts rs) (rate k) (pad (rate k) (spgm.mark k) ⟨l,a⟩) n).l ((sk (PP ts rs) (rate k) (pad (rate k) (spgm.mark k) ⟨l,a⟩) n).at':Nat) true),.string ⟨(u8s (sq (PP ts rs) (rate k) (pad (rate k) (spgm.mark k) ⟨l,a⟩) n)).toArray⟩,.int .i64 0])):=by
 have Hrt:Ω (∀ w1:World,Calls Tryz.prog 167 #[.agg (SC k l (a:Int) false)] w1 (zB w1 (.bool true))):=⟨fun w1=>by have h9:=xbn k (a:Int) false l w1 h.len;rw[hok]at h9;exact h9⟩;have Hrate:Ω (∀ w1:World,Calls Tryz.prog 166 #[.int .i64 k] w1 (zE w1 (.int .i64 ((rate k:Nat):Int)))):=⟨xih k⟩;obtain⟨r,hr⟩:=zev (rate k);rw[hr]at hra Hrate ⊢;have hf:=xnp k;obtain⟨f,hf2⟩:=zev (spgm.mark k);rw[hf2]at hf ⊢;clear hr hok;have Hra:=ω hra;have H:=ω h;have HK:=ω hK;have HTz:Ω ((Tryz.prog.info? 34).map (·.size)=some T.size):=⟨by rw[hK.size];exact rkeb.sizeT⟩;obtain⟨z,HZ⟩:=xaa Z;have HZl:Ω (z.length=25):=⟨by rw[←HZ.out];rfl⟩;have Hz:Ω ((#[.int .i64 0,.int .u64 0,.int .u64 0,.int .u64 0,.int .u64 0,.int .u64 0,.int .u64 0,.int .u64 0,.int .u64 0,.int .u64 0,.int .u64 0,.int .u64 0,.int .u64 0,.int .u64 0,.int .u64 0,.int .u64 0,.int .u64 0,.int .u64 0,.int .u64 0,.int .u64 0,.int .u64 0,.int .u64 0,.int .u64 0,.int .u64 0,.int .u64 0,.int .u64 0,.int .i64 0,.bool false]:Array Value)=SC 0 z 0 false):=⟨by rw[←HZ.out];exact zs_is⟩;obtain⟨i0,hi,hz0,hz1,hz2⟩:=parts infoByte;have HI:=ω (And.intro hi (And.intro hz0 (And.intro hz1 hz2)));have hz28:∀ (k a:Int) (o:Bool) {l:List Nat},l.length=25→(SC k l a o).size=28:=fun k a o l h=>xa5 k a o h
 clear h hK HZ hi hz0 hz1 hz2 hra;have Hmark:Ω (∀ w1:World,Calls Tryz.prog 169 #[.int .i64 k] w1 (zE w1 (.int .u8 (f:Int)))):=⟨fun w1=>by rw[←hf2];exact xs0 k w1⟩;clear hf2;have hn0:(0:Int)≤(n:Int):=by omega
 have hn1:¬ (50000:Int)<(n:Int):=by omega
 have C1:Ω (∀ (l:List Nat) (w1:World),St l→Calls Tryz.prog 168 #[.agg T,.agg (LK .u64 l)] w1 (zB w1 (.agg (LK .u64 (PP ts rs l))))):=⟨fun l w1 hl=>rperm.xia l w1 hl HK.out⟩;obtain⟨s0,Hs0⟩:=xaa (pad r f ⟨l,a⟩);have Hs0k:Ω (St s0.l∧s0.at'≤r):=⟨by rw[←Hs0.out];exact xh8 H.out⟩;rw[Hs0.out];obtain⟨E,HE⟩:=xaa (sk (PP ts rs) r s0 n);have Hel:Ω (E.l.length=25):=⟨by rw[←HE.out];exact(xel (fun _ h=>xbw HK.out.br h) Hra.out.1 Hs0k.out.1 Hs0k.out.2 n).1.len⟩;rw[HE.out];obtain⟨F,HF⟩:=xaa (SC k E.l (E.at':Int) true);rw[HF.out];obtain⟨bs,Hbs⟩:=xaa (u8s (sq (PP ts rs) r s0 n));have Hbl:Ω (bs.length=n):=⟨by rw[←Hbs.out,u8s,List.length_map,xlm]⟩;rw[Hbs.out];go_enter Tryz.func130,Tryz.ntmps130;obtain⟨W,hW⟩:=zev (((w.alloc (.cells T 34)).alloc (.cells (SC k l (a:Int) false) 165)).alloc (.cells (SC 0 z 0 false) 165));obtain⟨b0,b1,b2,hWs,hWb⟩:=three hW;have B0:=ω b0;have B2:=ω b2;have HWs:=ω hWs;have HWb:=ω hWb;have HW:=ω hW;have B1:=ω b1;have Si:=ω (xdb k (a:Int) false H.out.len);obtain⟨S,HS⟩:=xaa (SC k l (a:Int) false);rw[HS.out]at B1 Si HW Hrt;clear hWs hWb hW b0 b1 b2;rw[HS.out];go_wp2_with (first
  | (rw[Hz.out,HW.out])
  | (refine wpList_load_row rfl 165 _ rfl (w.heap.size+1) rfl 165 S (0,0) _ B1.out Tryz.underlying165 rfl Si.out ?_))
 refine(Hrt.out _).mono ?_;rintro e w1 ⟨rfl,hb1⟩;rw[←HS.out]at B1;have A1:Ω (At (w.heap.size+1) (SC k l (a:Int) false) 165 W w1):=⟨(At.refl B1.out).later hb1⟩;have c3':w1.cell? ⟨w.heap.size+1,27,none⟩=some (.bool false):=xab A1.out.row (xcf k (a:Int) false H.out.len);have c0':w1.cell? ⟨w.heap.size+1,0,none⟩=some (.int .i64 k):=xab A1.out.row (xcq k l (a:Int) false);clear hb1 HS Si Hrt;go_wp2_with fail;refine(Hrate.out _).mono ?_;rintro e w2 ⟨rfl,rfl⟩;have ha8:a<r:=Hra.out.2.1;have h168:r≤168:=Hra.out.2.2;obtain⟨q,hq⟩:=zev (a / 8);obtain⟨m,hm⟩:=zev (a%8);obtain⟨c,hc⟩:∃ c,c=8*m:=⟨_,rfl⟩;have fq:(a:Int).tdiv 8=(q:Int):=by rw[Int.tdiv_eq_ediv_of_nonneg (by omega)];omega
 have fqw:IntKind.i64.wrap ((a:Int).tdiv 8)=(q:Int):=by rw[fq,IntKind.wrap_i64];omega
 have fm:(a:Int).tmod 8=(m:Int):=by rw[Int.tmod_eq_emod_of_nonneg (by omega)];omega
 have fq2:(a:Int) / 8=(q:Int):=by omega
 have fq3:IntKind.i64.wrap (q:Int)=(q:Int):=zwi;have fm2:(a:Int)%8=(m:Int):=by omega
 have fc:IntKind.i64.wrap (8*(m:Int))=(c:Int):=zwi;have fu:IntKind.u64.wrap (c:Int)=(c:Int):=by rw[IntKind.wrap_u64];omega
 have hc63:c≤63:=by omega
 have hq25:q<25:=by omega
 have hqz:(q:Int)<25:=by omega
 obtain⟨x,hx⟩:=zev (g l q);have bx:x<18446744073709551616:=hx ▸ H.out.lt q;obtain⟨y,hy⟩:=zev (f*2 ^ c%18446744073709551616);have by':y<18446744073709551616:=hy ▸ Nat.mod_lt _ (by decide)
 have fs:=xir f c;rw[hy]at fs;have fb:IntKind.u64.wrap (f:Int)=(f:Int):=by rw[IntKind.wrap_u64];omega
 have fy:IntKind.u64.wrap ((f:Int)*2 ^ c)=(y:Int):=by rw[IntKind.wrap_u64];exact fs
 obtain⟨v,hv⟩:=zev (x ^^^ y);have V:=xor2 x y v bx by' hv
 have Hxb:Ω (l.set q v=xb l a f):=⟨by unfold xb;rw[hq,hm,←hc,hx,hy,hv]⟩;have cp:w2.cell? ⟨w.heap.size+1,26,none⟩=some (.int .i64 (a:Int)):=xab A1.out.row (xas k _ false H.out.len);have cx:w2.cell? ⟨w.heap.size+1,1+q,none⟩=some (.int .u64 (x:Int)):=by rw[←hx];exact xab A1.out.row (xce k _ false H.out.len q hq25)
 clear hq hm hc hx hy hv;go_wp2_with fail;refine xay 19 (by kernel_rfl) (by kernel_rfl) ?_;simp only[List.take_succ_cons,List.take_zero,List.drop_succ_cons,List.drop_zero];iterate 8 still_step
 still_call (Hmark.out _)
 repeat still_step
 refine wpStill_nil ?_;have A2:Ω (At (w.heap.size+1) (SC k l (a:Int) false) 165 W w2.drew):=⟨xag A1.out⟩;clear cp cx fq fqw fm fq2 fq3 fm2 fc fu fs V fb fy c3' c0' A1 hqz hc63;obtain⟨r1,hr1⟩:=zev (r-1);obtain⟨q1,hq1⟩:=zev (r1 / 8);obtain⟨m1,hm1⟩:=zev (r1%8);obtain⟨c1,hc1⟩:∃ c,c=8*m1:=⟨_,rfl⟩;have fr1:(r:Int)-1=(r1:Int):=by omega
 have fr1w:IntKind.i64.wrap ((r:Int)-1)=(r1:Int):=zwi;have fq1:(r1:Int).tdiv 8=(q1:Int):=by rw[Int.tdiv_eq_ediv_of_nonneg (by omega)];omega
 have fq1w:IntKind.i64.wrap ((r1:Int).tdiv 8)=(q1:Int):=by rw[fq1,IntKind.wrap_i64];omega
 have fm1:(r1:Int).tmod 8=(m1:Int):=by rw[Int.tmod_eq_emod_of_nonneg (by omega)];omega
 have fq12:(r1:Int) / 8=(q1:Int):=by omega
 have fm12:(r1:Int)%8=(m1:Int):=by omega
 have fc1:(8:Int)*(m1:Int)=(c1:Int):=by omega
 have fc1w:IntKind.i64.wrap (8*(m1:Int))=(c1:Int):=zwi;have fu1:IntKind.u64.wrap (c1:Int)=(c1:Int):=by rw[IntKind.wrap_u64];omega
 have hc163:c1≤63:=by omega
 have hq125:q1<25:=by omega
 have hq1z:(q1:Int)<25:=by omega
 have hr1168:r1≤168:=by omega
 have HX0:Ω (St (xb l a f)):=⟨xci H.out a f⟩;obtain⟨l2,Hl2⟩:=xaa (xb l a f);rw[Hl2.out]at HX0 Hxb;obtain⟨x1,hx1⟩:=zev (g l2 q1);have bx1:x1<18446744073709551616:=hx1 ▸ HX0.out.lt q1;obtain⟨y1,hy1⟩:=zev (128*2 ^ c1%18446744073709551616);have by1:y1<18446744073709551616:=hy1 ▸ Nat.mod_lt _ (by decide);have fs1:((128:Int)*2 ^ c1%18446744073709551616)=(y1:Int):=by have h9:=xir 128 c1;rw[hy1]at h9;exact h9
 have fy1:IntKind.u64.wrap ((128:Int)*2 ^ c1)=(y1:Int):=by rw[IntKind.wrap_u64];exact fs1
 obtain⟨v1,hv1⟩:=zev (x1 ^^^ y1);have V1:=xor2 x1 y1 v1 bx1 by1 hv1;have Hxb1:Ω (l2.set q1 v1=xb l2 r1 128):=⟨by unfold xb;rw[hq1,hm1,←hc1,hx1,hy1,hv1]⟩;have HX1:Ω (St (xb l2 r1 128)):=⟨xci HX0.out r1 128⟩;have Hpad:Ω (s0=⟨xb l2 r1 128,r⟩):=⟨by rw[←Hs0.out,pad,Hl2.out,hr1]⟩;obtain⟨l3,Hl3⟩:=xaa (xb l2 r1 128);rw[Hl3.out]at HX1 Hxb1 Hpad;have Hq25:=ω hq25;have Hq125:=ω hq125;have Hx1:=ω hx1;clear hq1 hm1 hc1 hy1 hv1 hr1 Hl2 Hl3 Hs0 hx1 hq25
 with_reducible refine xaf A2 rfl _ _ _ rfl rfl ?_
 refine⟨_,_,_,rfl,rfl,rfl,(by rw[xa5 k _ false H.out.len];have:=Hq25.out;omega),?_⟩;intro w5 A5;rw[xgs k _ false H.out.len q v Hq25.out,Hxb.out]at A5;have cx1:w5.cell? ⟨w.heap.size+1,1+q1,none⟩=some (.int .u64 (x1:Int)):=by (rw[←Hx1.out];exact xab A5.out.row (xce k _ false HX0.out.len q1 Hq125.out))
 clear A2;go_wp2_with (first
  | ((with_reducible refine xaf A5 rfl _ _ _ rfl rfl ?_);refine⟨_,_,_,rfl,rfl,rfl,(by rw[xa5 k _ false HX0.out.len];have:=Hq125.out;omega),?_⟩;intro w6 A6;rw[xgs k _ false HX0.out.len q1 v1 Hq125.out,Hxb1.out]at A6;clear A5)
  | ((with_reducible refine xg3 A6 rfl _ _ _ rfl 27 (.bool true) rfl rfl ?hi rfl ?hn rfl ?_);(case hi=>rfl);(case hn=>(rw[xa5 k _ false HX1.out.len];decide));intro w7 A7;rw[xle k _ false true HX1.out.len]at A7;clear A6)
  | ((with_reducible refine xaf A7 rfl _ _ _ rfl rfl ?_);refine⟨_,_,_,rfl,rfl,rfl,(by rw[xa5 k _ true HX1.out.len];decide),?_⟩;intro w8 A8;rw[xbd k _ _ true HX1.out.len]at A8;have hbase:W.heap.size≤w8.heap.size:=A8.out.size;clear A7)
  | (at_make;refine wpList_make_own _ rfl _ _ 49 rfl W.heap.size 5 i0 (.int .u8 0) 1 Tryz.underlying49 HI.out.1 HI.out.2.1 HI.out.2.2.1 .i64 .i64 (n:Int) n rfl rfl rfl (by rw[HI.out.2.2.2];omega) (by unfold maxLen;omega) hbase ?_))
 intro w3 hown hgr;have AL:Ω (At (w.heap.size+1) (SC k s0.l (s0.at':Nat) true) 165 W w8):=⟨by rw[Hpad.out];exact A8.out⟩;have hb3:Below w8.heap.size w8 w3:=(Below.refl _ _).grown hgr (Nat.le_refl _) (fun k hk=>by simp at hk);have AM:Ω (At (w.heap.size+1) (SC k s0.l (s0.at':Nat) true) 165 W w3):=⟨AL.out.later hb3⟩;have OW0:=ω hown;clear hown hgr hb3 AL A8 Hxb Hxb1 fr1 fr1w fq1 fq1w fm1 fq12 fm12 fc1 fc1w fu1 hc163 hq125 hq1z hr1168 fs1 fy1 V1 bx1 by1 bx by' cx1
 go_wp2_with fail;go_loopw [10] (fun v wr=>∃ j:Nat,j≤n∧(∃ g cap,v=.slice (some ⟨g,0,none⟩) j cap)∧Ω (wr.ownsRow W.heap.size 5 1 v j (Lib.byteCells (u8s (sq (PP ts rs) r s0 j))))∧Ω (At (w.heap.size+1) (SC k (sk (PP ts rs) r s0 j).l ((sk (PP ts rs) r s0 j).at':Nat) true) 165 W wr)) (fun v _=>n-(match v with | .slice _ m _=>m | _=>0))
 case atStart=>exact⟨0,Nat.zero_le _,⟨_,_,rfl⟩,OW0,AM⟩
 case round=>
  clear OW0 AM;obtain⟨j,hj,⟨gv,cap,rfl⟩,OWN,A0⟩:=hrel;by_cases hlt:j<n
  ·have hjz:(j:Int)<(n:Int):=by omega
   obtain⟨st,Hst⟩:=xaa (sk (PP ts rs) r s0 j);have Hso:Ω (St st.l∧st.at'≤r):=⟨by rw[←Hst.out];exact xel (fun _ h=>xbw HK.out.br h) Hra.out.1 Hs0k.out.1 Hs0k.out.2 j⟩;rw[Hst.out]at A0;have Hnx:Ω (sk (PP ts rs) r s0 (j+1)=nx (PP ts rs) r st∧sq (PP ts rs) r s0 (j+1)=sq (PP ts rs) r s0 j ++ [gb (tn (PP ts rs) r st).l (tn (PP ts rs) r st).at']):=⟨by rw[sk,Hst.out,xiu,sb,Hst.out];exact⟨rfl,rfl⟩⟩;obtain⟨sl,p⟩:=st;have hsl:=Hso.out.1;have hp:=Hso.out.2;simp only at hsl hp A0;have h168:=Hra.out.2.2;have hp8:p≤168:=by omega
   have Hsl:=ω hsl;have Hp:=ω hp;have cp0:wr.cell? ⟨w.heap.size+1,26,none⟩=some (.int .i64 (p:Int)):=xab A0.out.row (xas k _ true hsl.len);have hs1:w.heap.size+1<W.heap.size:=by have:=HWs.out;omega
   have Hs1:=ω hs1;clear hsl hp hj hs1;by_cases he:p=r
   ·have hz:((p:Int)==(r:Int))=true:=beq_iff_eq.2 (by omega);have Htn:Ω (tn (PP ts rs) r ⟨sl,p⟩=⟨PP ts rs sl,0⟩):=⟨by rw[tn,if_pos he]⟩;have HQ:Ω (St (PP ts rs sl)):=⟨xbw HK.out.br Hsl.out⟩;obtain⟨xl,Hpl⟩:=xaa (PP ts rs sl);rw[Hpl.out]at HQ Htn;have C2:Ω (∀ w1:World,Calls Tryz.prog 168 #[.agg T,.agg (LK .u64 sl)] w1 (zB w1 (.agg (LK .u64 xl)))):=⟨fun w1=>by rw[←Hpl.out];exact C1.out sl w1 Hsl.out⟩;have Xz:=ω (show (Tryz.prog.info? 163).map (·.size)=some (LK .u64 sl).toList.length by rw[Array.length_toList];exact size25 Hsl.out.len);have T5:Ω (wr.heap[w.heap.size]? = some (.cells T 34 (0,0))):=⟨A0.out.other (by have:=HWs.out;omega) (by omega) B0.out⟩;have L5:=ω (xhy A0.out.row Hsl.out.len);clear he Hp;go_wp2_with (first
     | (refine wpList_load_row rfl 34 _ rfl w.heap.size rfl 34 T (0,0) _ T5.out zY rfl HTz.out ?_)
     | (refine wpList_load_mid rfl 163 _ rfl (w.heap.size+1) 1 rfl (LK .u64 sl).toList _ L5.out Tryz.underlying163 rfl Xz.out ?_))
    refine(C2.out _).mono ?_;rintro e w6 ⟨rfl,hb6⟩;have HR3:Ω (At (w.heap.size+1) (SC k sl (p:Int) true) 165 wr w6):=⟨(At.refl A0.out.row).later hb6⟩;clear hb6 cp0 T5 L5;go_wp2_with (first
     | ((with_reducible refine xl9 HR3 Hsl.out.len HQ.out.len rfl _ _ rfl rfl ?hx ?hy ?_);(case hx=>exact rfl);(case hy=>exact rfl);intro w7 HR4;clear HR3)
     | ((with_reducible refine xaf (by assumption) rfl _ _ _ rfl rfl ?_);refine⟨_,_,_,rfl,rfl,rfl,(by rw[hz28 _ _ _ HQ.out.len];decide),?_⟩;intro w8 HR5;rw[xbd k _ _ true HQ.out.len]at HR5))
    obtain⟨y,hy⟩:∃ y:Nat,y=0:=⟨0,rfl⟩;have hyr:y<r:=by rw[hy];exact Hra.out.1
    have Htn:Ω (tn (PP ts rs) r ⟨sl,p⟩=⟨xl,y⟩):=⟨by rw[hy];exact Htn.out⟩;have AZ:Ω (At (w.heap.size+1) (SC k xl (y:Int) true) 165 W w8):=⟨A0.out.trans (by rw[hy];exact HR5.out)⟩;have OZ:Ω (w8.ownsRow W.heap.size 5 1 (.slice (some ⟨gv,0,none⟩) j cap) j (Lib.byteCells (u8s (sq (PP ts rs) r s0 j)))):=⟨xbv OWN.out HR5.out Hs1.out⟩;clear A0 OWN HR4 HR5 hz hy C2 Xz Hpl Hsl;obtain⟨q,hq⟩:=zev (y / 8);obtain⟨m,hm⟩:=zev (y%8);obtain⟨c,hc⟩:∃ c,c=8*m:=⟨_,rfl⟩;have fq:(y:Int).tdiv 8=(q:Int):=by rw[Int.tdiv_eq_ediv_of_nonneg (by omega)];omega
    have fqw:IntKind.i64.wrap ((y:Int).tdiv 8)=(q:Int):=by rw[fq,IntKind.wrap_i64];omega
    have fm:(y:Int).tmod 8=(m:Int):=by rw[Int.tmod_eq_emod_of_nonneg (by omega)];omega
    have fq2:(y:Int) / 8=(q:Int):=by omega
    have fq3:IntKind.i64.wrap (q:Int)=(q:Int):=zwi;have fm2:(y:Int)%8=(m:Int):=by omega
    have fc:IntKind.i64.wrap (8*(m:Int))=(c:Int):=zwi;have fu:IntKind.u64.wrap (c:Int)=(c:Int):=by rw[IntKind.wrap_u64];omega
    have hc63:c≤63:=by omega
    have hq25:q<25:=by omega
    have hqz:(q:Int)<25:=by omega
    have hy8:y≤168:=by omega
    obtain⟨x,hx⟩:=zev (g xl q);obtain⟨β,hβ⟩:∃ β,x / 2 ^ c%256 = β := ⟨_,rfl⟩;have bβ : β < 256:=hβ ▸ Nat.mod_lt _ (by decide);have fz:=xgu x c;rw[hβ]at fz;have Hgb:Ω (gb xl y = β):=⟨by rw[gb,hq,hm,←hc,hx,hβ]⟩;have cp1:w8.cell? ⟨w.heap.size+1,26,none⟩=some (.int .i64 (y:Int)):=xab AZ.out.row (xas k _ true HQ.out.len);have cx:w8.cell? ⟨w.heap.size+1,1+q,none⟩=some (.int .u64 (x:Int)):=by rw[←hx];exact xab AZ.out.row (xce k _ true HQ.out.len q hq25)
    have hwx:W.heap.size≤w8.heap.size:=AZ.out.size;have Hyr:=ω hyr;clear hq hm hc hx hβ hyr h168;refine wp_region_any (by kernel_rfl) ?_;change wpAny _ _ _ _ _ _ _ (World.drew _)
    refine zA 0 ?_;refine zA 1 ?_;refine zA 4 ?_;refine zA 7 ?_;refine wpAny_ready (rs:=[2,8]) (by kernel_rfl) (by simp) ?_;refine AllReady.cons rfl (fun K hK=>?_) (AllReady.cons rfl (fun K hK=>?_) AllReady.nil)
    ·(go_simp;refine hK _ _ ?_;clear hK K)
     refine zA 3 ?_;refine zA 5 ?_;refine wpAny_ready (rs:=[6,8]) (by kernel_rfl) (by simp) ?_;refine AllReady.cons rfl (fun K hK=>?_) (AllReady.cons rfl (fun K hK=>?_) AllReady.nil)
     ·(go_simp;refine hK _ _ ?_;clear hK K)
      (refine wpAny_ready (rs:=[8]) (by kernel_rfl) (by simp) ?_;refine AllReady.cons rfl (fun K hK=>?_) AllReady.nil;go_simp;refine hK _ _ ?_;clear hK K)
      refine zA 9 ?_;refine zA 10 ?_;refine zA 11 ?_;refine zA 12 ?_;refine zA 13 ?_;refine xb9 14 3 (by kernel_rfl) (by kernel_rfl) ?_;simp only[List.drop_succ_cons,List.drop_zero];clear cp1 cx fq fqw fm fq2 fq3 fm2 fc fu fz;go_wp2_with (at_builtin;refine wpList_append_own _ rfl _ _ 49 rfl W.heap.size 5 i0 (.int .u8 0) 1 1 Tryz.underlying49 HI.out.1 HI.out.2.1 HI.out.2.2.1 HI.out.2.2.2 rfl (by decide) _ _ _ rfl (OZ.out.drew.alloc _) ⟨w8.heap.size,0,none⟩ 1 1 [.int .u8 (β : Int)] rfl rfl xbc (fun u hu=>by simp at hu;subst hu;rfl) (by unfold maxLen;omega) (by omega) (by simp;omega) ?_);intro v' w4 hown' hgrow _;have hb4:Below W.heap.size w8 w4:=((Below.refl W.heap.size w8).drew.alloc hwx _).grown hgrow (by rw[size_alloc];show W.heap.size≤w8.heap.size+1;omega) (fun k hk=>(OZ.out.lt k hk).1);have AY:Ω (At (w.heap.size+1) (SC k xl (y:Int) true) 165 W w4):=⟨xck AZ.out hb4 (Nat.le_refl _) Hs1.out⟩;have OY:Ω (w4.ownsRow W.heap.size 5 1 v' (j+1) (Lib.byteCells (u8s (sq (PP ts rs) r s0 (j+1))))):=⟨by
       rw[Hnx.out.2,Htn.out,Hgb.out,xfq _ _ bβ];exact hown'⟩
      obtain⟨gv',cap',hv'⟩:=xbh OY.out;have AR:Ω (At (w.heap.size+1) (SC k xl (y:Int) true) 165 w4 w4):=⟨At.refl AY.out.row⟩;have cp2:w4.cell? ⟨w.heap.size+1,26,none⟩=some (.int .i64 (y:Int)):=xab AY.out.row (xas k _ true HQ.out.len);clear hown' hgrow hb4;subst hv';go_wp2_with ((with_reducible refine xaf AR rfl _ _ _ rfl rfl ?_);refine⟨_,_,_,rfl,rfl,rfl,(by rw[hz28 _ _ _ HQ.out.len];decide),?_⟩;intro w9 HR9;rw[xbd k _ _ true HQ.out.len]at HR9);have AN:Ω (At (w.heap.size+1) (SC k (sk (PP ts rs) r s0 (j+1)).l ((sk (PP ts rs) r s0 (j+1)).at':Nat) true) 165 W w9):=⟨by rw[Hnx.out.1,nx,Htn.out];exact AY.out.trans HR9.out⟩;have ON:=ω (xbv OY.out HR9.out Hs1.out);clear HR9 AR cp2 AY OY;go_roundw
      case rel=>exact⟨j+1,by omega,⟨_,_,rfl⟩,ON,AN⟩
      case measure=>simp;omega
     ·(go_simp;refine hK _ _ ?_;clear hK K)
      refine zA 9 ?_;refine zA 10 ?_;refine zA 11 ?_;(refine wpAny_ready (rs:=[6]) (by kernel_rfl) (by simp) ?_;refine AllReady.cons rfl (fun K hK=>?_) AllReady.nil;go_simp;refine hK _ _ ?_;clear hK K)
      refine zA 12 ?_;refine zA 13 ?_;refine xb9 14 3 (by kernel_rfl) (by kernel_rfl) ?_;simp only[List.drop_succ_cons,List.drop_zero];clear cp1 cx fq fqw fm fq2 fq3 fm2 fc fu fz;go_wp2_with (at_builtin;refine wpList_append_own _ rfl _ _ 49 rfl W.heap.size 5 i0 (.int .u8 0) 1 1 Tryz.underlying49 HI.out.1 HI.out.2.1 HI.out.2.2.1 HI.out.2.2.2 rfl (by decide) _ _ _ rfl (OZ.out.drew.alloc _) ⟨w8.heap.size,0,none⟩ 1 1 [.int .u8 (β : Int)] rfl rfl xbc (fun u hu=>by simp at hu;subst hu;rfl) (by unfold maxLen;omega) (by omega) (by simp;omega) ?_);intro v' w4 hown' hgrow _;have hb4:Below W.heap.size w8 w4:=((Below.refl W.heap.size w8).drew.alloc hwx _).grown hgrow (by rw[size_alloc];show W.heap.size≤w8.heap.size+1;omega) (fun k hk=>(OZ.out.lt k hk).1);have AY:Ω (At (w.heap.size+1) (SC k xl (y:Int) true) 165 W w4):=⟨xck AZ.out hb4 (Nat.le_refl _) Hs1.out⟩;have OY:Ω (w4.ownsRow W.heap.size 5 1 v' (j+1) (Lib.byteCells (u8s (sq (PP ts rs) r s0 (j+1))))):=⟨by
       rw[Hnx.out.2,Htn.out,Hgb.out,xfq _ _ bβ];exact hown'⟩
      obtain⟨gv',cap',hv'⟩:=xbh OY.out;have AR:Ω (At (w.heap.size+1) (SC k xl (y:Int) true) 165 w4 w4):=⟨At.refl AY.out.row⟩;have cp2:w4.cell? ⟨w.heap.size+1,26,none⟩=some (.int .i64 (y:Int)):=xab AY.out.row (xas k _ true HQ.out.len);clear hown' hgrow hb4;subst hv';go_wp2_with ((with_reducible refine xaf AR rfl _ _ _ rfl rfl ?_);refine⟨_,_,_,rfl,rfl,rfl,(by rw[hz28 _ _ _ HQ.out.len];decide),?_⟩;intro w9 HR9;rw[xbd k _ _ true HQ.out.len]at HR9);have AN:Ω (At (w.heap.size+1) (SC k (sk (PP ts rs) r s0 (j+1)).l ((sk (PP ts rs) r s0 (j+1)).at':Nat) true) 165 W w9):=⟨by rw[Hnx.out.1,nx,Htn.out];exact AY.out.trans HR9.out⟩;have ON:=ω (xbv OY.out HR9.out Hs1.out);clear HR9 AR cp2 AY OY;go_roundw
      case rel=>exact⟨j+1,by omega,⟨_,_,rfl⟩,ON,AN⟩
      case measure=>simp;omega
    ·(go_simp;refine hK _ _ ?_;clear hK K)
     refine zA 9 ?_;refine zA 10 ?_;refine zA 11 ?_;(refine wpAny_ready (rs:=[2]) (by kernel_rfl) (by simp) ?_;refine AllReady.cons rfl (fun K hK=>?_) AllReady.nil;go_simp;refine hK _ _ ?_;clear hK K)
     refine zA 3 ?_;refine zA 5 ?_;(refine wpAny_ready (rs:=[6]) (by kernel_rfl) (by simp) ?_;refine AllReady.cons rfl (fun K hK=>?_) AllReady.nil;go_simp;refine hK _ _ ?_;clear hK K)
     refine zA 12 ?_;refine zA 13 ?_;refine xb9 14 3 (by kernel_rfl) (by kernel_rfl) ?_;simp only[List.drop_succ_cons,List.drop_zero];clear cp1 cx fq fqw fm fq2 fq3 fm2 fc fu fz;go_wp2_with (at_builtin;refine wpList_append_own _ rfl _ _ 49 rfl W.heap.size 5 i0 (.int .u8 0) 1 1 Tryz.underlying49 HI.out.1 HI.out.2.1 HI.out.2.2.1 HI.out.2.2.2 rfl (by decide) _ _ _ rfl (OZ.out.drew.alloc _) ⟨w8.heap.size,0,none⟩ 1 1 [.int .u8 (β : Int)] rfl rfl xbc (fun u hu=>by simp at hu;subst hu;rfl) (by unfold maxLen;omega) (by omega) (by simp;omega) ?_);intro v' w4 hown' hgrow _;have hb4:Below W.heap.size w8 w4:=((Below.refl W.heap.size w8).drew.alloc hwx _).grown hgrow (by rw[size_alloc];show W.heap.size≤w8.heap.size+1;omega) (fun k hk=>(OZ.out.lt k hk).1);have AY:Ω (At (w.heap.size+1) (SC k xl (y:Int) true) 165 W w4):=⟨xck AZ.out hb4 (Nat.le_refl _) Hs1.out⟩;have OY:Ω (w4.ownsRow W.heap.size 5 1 v' (j+1) (Lib.byteCells (u8s (sq (PP ts rs) r s0 (j+1))))):=⟨by
      rw[Hnx.out.2,Htn.out,Hgb.out,xfq _ _ bβ];exact hown'⟩
     obtain⟨gv',cap',hv'⟩:=xbh OY.out;have AR:Ω (At (w.heap.size+1) (SC k xl (y:Int) true) 165 w4 w4):=⟨At.refl AY.out.row⟩;have cp2:w4.cell? ⟨w.heap.size+1,26,none⟩=some (.int .i64 (y:Int)):=xab AY.out.row (xas k _ true HQ.out.len);clear hown' hgrow hb4;subst hv';go_wp2_with ((with_reducible refine xaf AR rfl _ _ _ rfl rfl ?_);refine⟨_,_,_,rfl,rfl,rfl,(by rw[hz28 _ _ _ HQ.out.len];decide),?_⟩;intro w9 HR9;rw[xbd k _ _ true HQ.out.len]at HR9);have AN:Ω (At (w.heap.size+1) (SC k (sk (PP ts rs) r s0 (j+1)).l ((sk (PP ts rs) r s0 (j+1)).at':Nat) true) 165 W w9):=⟨by rw[Hnx.out.1,nx,Htn.out];exact AY.out.trans HR9.out⟩;have ON:=ω (xbv OY.out HR9.out Hs1.out);clear HR9 AR cp2 AY OY;go_roundw
     case rel=>exact⟨j+1,by omega,⟨_,_,rfl⟩,ON,AN⟩
     case measure=>simp;omega
   ·have hz:((p:Int)==(r:Int))=false:=beq_eq_false_iff_ne.2 (by omega);have Htn:Ω (tn (PP ts rs) r ⟨sl,p⟩=⟨sl,p⟩):=⟨by rw[tn,if_neg he]⟩;have hyr:p<r:=by have:=Hp.out;omega
    have HQ:=Hsl;go_wp2_with fail;have AZ:=A0;have OZ:=OWN;clear A0 OWN hz cp0 he Hp Hsl;obtain⟨q,hq⟩:=zev (p / 8);obtain⟨m,hm⟩:=zev (p%8);obtain⟨c,hc⟩:∃ c,c=8*m:=⟨_,rfl⟩;have fq:(p:Int).tdiv 8=(q:Int):=by rw[Int.tdiv_eq_ediv_of_nonneg (by omega)];omega
    have fqw:IntKind.i64.wrap ((p:Int).tdiv 8)=(q:Int):=by rw[fq,IntKind.wrap_i64];omega
    have fm:(p:Int).tmod 8=(m:Int):=by rw[Int.tmod_eq_emod_of_nonneg (by omega)];omega
    have fq2:(p:Int) / 8=(q:Int):=by omega
    have fq3:IntKind.i64.wrap (q:Int)=(q:Int):=zwi;have fm2:(p:Int)%8=(m:Int):=by omega
    have fc:IntKind.i64.wrap (8*(m:Int))=(c:Int):=zwi;have fu:IntKind.u64.wrap (c:Int)=(c:Int):=by rw[IntKind.wrap_u64];omega
    have hc63:c≤63:=by omega
    have hq25:q<25:=by omega
    have hqz:(q:Int)<25:=by omega
    have hy8:p≤168:=by omega
    obtain⟨x,hx⟩:=zev (g sl q);obtain⟨β,hβ⟩:∃ β,x / 2 ^ c%256 = β := ⟨_,rfl⟩;have bβ : β < 256:=hβ ▸ Nat.mod_lt _ (by decide);have fz:=xgu x c;rw[hβ]at fz;have Hgb:Ω (gb sl p = β):=⟨by rw[gb,hq,hm,←hc,hx,hβ]⟩;have cp1:wr.cell? ⟨w.heap.size+1,26,none⟩=some (.int .i64 (p:Int)):=xab AZ.out.row (xas k _ true HQ.out.len);have cx:wr.cell? ⟨w.heap.size+1,1+q,none⟩=some (.int .u64 (x:Int)):=by rw[←hx];exact xab AZ.out.row (xce k _ true HQ.out.len q hq25)
    have hwx:W.heap.size≤wr.heap.size:=AZ.out.size;have Hyr:=ω hyr;clear hq hm hc hx hβ hyr h168;refine wp_region_any (by kernel_rfl) ?_;change wpAny _ _ _ _ _ _ _ (World.drew _)
    refine zA 0 ?_;refine zA 1 ?_;refine zA 4 ?_;refine zA 7 ?_;refine wpAny_ready (rs:=[2,8]) (by kernel_rfl) (by simp) ?_;refine AllReady.cons rfl (fun K hK=>?_) (AllReady.cons rfl (fun K hK=>?_) AllReady.nil)
    ·(go_simp;refine hK _ _ ?_;clear hK K)
     refine zA 3 ?_;refine zA 5 ?_;refine wpAny_ready (rs:=[6,8]) (by kernel_rfl) (by simp) ?_;refine AllReady.cons rfl (fun K hK=>?_) (AllReady.cons rfl (fun K hK=>?_) AllReady.nil)
     ·(go_simp;refine hK _ _ ?_;clear hK K)
      (refine wpAny_ready (rs:=[8]) (by kernel_rfl) (by simp) ?_;refine AllReady.cons rfl (fun K hK=>?_) AllReady.nil;go_simp;refine hK _ _ ?_;clear hK K)
      refine zA 9 ?_;refine zA 10 ?_;refine zA 11 ?_;refine zA 12 ?_;refine zA 13 ?_;refine xb9 14 3 (by kernel_rfl) (by kernel_rfl) ?_;simp only[List.drop_succ_cons,List.drop_zero];clear cp1 cx fq fqw fm fq2 fq3 fm2 fc fu fz;go_wp2_with (at_builtin;refine wpList_append_own _ rfl _ _ 49 rfl W.heap.size 5 i0 (.int .u8 0) 1 1 Tryz.underlying49 HI.out.1 HI.out.2.1 HI.out.2.2.1 HI.out.2.2.2 rfl (by decide) _ _ _ rfl (OZ.out.drew.alloc _) ⟨wr.heap.size,0,none⟩ 1 1 [.int .u8 (β : Int)] rfl rfl xbc (fun u hu=>by simp at hu;subst hu;rfl) (by unfold maxLen;omega) (by omega) (by simp;omega) ?_);intro v' w4 hown' hgrow _;have hb4:Below W.heap.size wr w4:=((Below.refl W.heap.size wr).drew.alloc hwx _).grown hgrow (by rw[size_alloc];show W.heap.size≤wr.heap.size+1;omega) (fun k hk=>(OZ.out.lt k hk).1);have AY:Ω (At (w.heap.size+1) (SC k sl (p:Int) true) 165 W w4):=⟨xck AZ.out hb4 (Nat.le_refl _) Hs1.out⟩;have OY:Ω (w4.ownsRow W.heap.size 5 1 v' (j+1) (Lib.byteCells (u8s (sq (PP ts rs) r s0 (j+1))))):=⟨by
       rw[Hnx.out.2,Htn.out,Hgb.out,xfq _ _ bβ];exact hown'⟩
      obtain⟨gv',cap',hv'⟩:=xbh OY.out;have AR:Ω (At (w.heap.size+1) (SC k sl (p:Int) true) 165 w4 w4):=⟨At.refl AY.out.row⟩;have cp2:w4.cell? ⟨w.heap.size+1,26,none⟩=some (.int .i64 (p:Int)):=xab AY.out.row (xas k _ true HQ.out.len);clear hown' hgrow hb4;subst hv';go_wp2_with ((with_reducible refine xaf AR rfl _ _ _ rfl rfl ?_);refine⟨_,_,_,rfl,rfl,rfl,(by rw[hz28 _ _ _ HQ.out.len];decide),?_⟩;intro w9 HR9;rw[xbd k _ _ true HQ.out.len]at HR9);have AN:Ω (At (w.heap.size+1) (SC k (sk (PP ts rs) r s0 (j+1)).l ((sk (PP ts rs) r s0 (j+1)).at':Nat) true) 165 W w9):=⟨by rw[Hnx.out.1,nx,Htn.out];exact AY.out.trans HR9.out⟩;have ON:=ω (xbv OY.out HR9.out Hs1.out);clear HR9 AR cp2 AY OY;go_roundw
      case rel=>exact⟨j+1,by omega,⟨_,_,rfl⟩,ON,AN⟩
      case measure=>simp;omega
     ·(go_simp;refine hK _ _ ?_;clear hK K)
      refine zA 9 ?_;refine zA 10 ?_;refine zA 11 ?_;(refine wpAny_ready (rs:=[6]) (by kernel_rfl) (by simp) ?_;refine AllReady.cons rfl (fun K hK=>?_) AllReady.nil;go_simp;refine hK _ _ ?_;clear hK K)
      refine zA 12 ?_;refine zA 13 ?_;refine xb9 14 3 (by kernel_rfl) (by kernel_rfl) ?_;simp only[List.drop_succ_cons,List.drop_zero];clear cp1 cx fq fqw fm fq2 fq3 fm2 fc fu fz;go_wp2_with (at_builtin;refine wpList_append_own _ rfl _ _ 49 rfl W.heap.size 5 i0 (.int .u8 0) 1 1 Tryz.underlying49 HI.out.1 HI.out.2.1 HI.out.2.2.1 HI.out.2.2.2 rfl (by decide) _ _ _ rfl (OZ.out.drew.alloc _) ⟨wr.heap.size,0,none⟩ 1 1 [.int .u8 (β : Int)] rfl rfl xbc (fun u hu=>by simp at hu;subst hu;rfl) (by unfold maxLen;omega) (by omega) (by simp;omega) ?_);intro v' w4 hown' hgrow _;have hb4:Below W.heap.size wr w4:=((Below.refl W.heap.size wr).drew.alloc hwx _).grown hgrow (by rw[size_alloc];show W.heap.size≤wr.heap.size+1;omega) (fun k hk=>(OZ.out.lt k hk).1);have AY:Ω (At (w.heap.size+1) (SC k sl (p:Int) true) 165 W w4):=⟨xck AZ.out hb4 (Nat.le_refl _) Hs1.out⟩;have OY:Ω (w4.ownsRow W.heap.size 5 1 v' (j+1) (Lib.byteCells (u8s (sq (PP ts rs) r s0 (j+1))))):=⟨by
       rw[Hnx.out.2,Htn.out,Hgb.out,xfq _ _ bβ];exact hown'⟩
      obtain⟨gv',cap',hv'⟩:=xbh OY.out;have AR:Ω (At (w.heap.size+1) (SC k sl (p:Int) true) 165 w4 w4):=⟨At.refl AY.out.row⟩;have cp2:w4.cell? ⟨w.heap.size+1,26,none⟩=some (.int .i64 (p:Int)):=xab AY.out.row (xas k _ true HQ.out.len);clear hown' hgrow hb4;subst hv';go_wp2_with ((with_reducible refine xaf AR rfl _ _ _ rfl rfl ?_);refine⟨_,_,_,rfl,rfl,rfl,(by rw[hz28 _ _ _ HQ.out.len];decide),?_⟩;intro w9 HR9;rw[xbd k _ _ true HQ.out.len]at HR9);have AN:Ω (At (w.heap.size+1) (SC k (sk (PP ts rs) r s0 (j+1)).l ((sk (PP ts rs) r s0 (j+1)).at':Nat) true) 165 W w9):=⟨by rw[Hnx.out.1,nx,Htn.out];exact AY.out.trans HR9.out⟩;have ON:=ω (xbv OY.out HR9.out Hs1.out);clear HR9 AR cp2 AY OY;go_roundw
      case rel=>exact⟨j+1,by omega,⟨_,_,rfl⟩,ON,AN⟩
      case measure=>simp;omega
    ·(go_simp;refine hK _ _ ?_;clear hK K)
     refine zA 9 ?_;refine zA 10 ?_;refine zA 11 ?_;(refine wpAny_ready (rs:=[2]) (by kernel_rfl) (by simp) ?_;refine AllReady.cons rfl (fun K hK=>?_) AllReady.nil;go_simp;refine hK _ _ ?_;clear hK K)
     refine zA 3 ?_;refine zA 5 ?_;(refine wpAny_ready (rs:=[6]) (by kernel_rfl) (by simp) ?_;refine AllReady.cons rfl (fun K hK=>?_) AllReady.nil;go_simp;refine hK _ _ ?_;clear hK K)
     refine zA 12 ?_;refine zA 13 ?_;refine xb9 14 3 (by kernel_rfl) (by kernel_rfl) ?_;simp only[List.drop_succ_cons,List.drop_zero];clear cp1 cx fq fqw fm fq2 fq3 fm2 fc fu fz;go_wp2_with (at_builtin;refine wpList_append_own _ rfl _ _ 49 rfl W.heap.size 5 i0 (.int .u8 0) 1 1 Tryz.underlying49 HI.out.1 HI.out.2.1 HI.out.2.2.1 HI.out.2.2.2 rfl (by decide) _ _ _ rfl (OZ.out.drew.alloc _) ⟨wr.heap.size,0,none⟩ 1 1 [.int .u8 (β : Int)] rfl rfl xbc (fun u hu=>by simp at hu;subst hu;rfl) (by unfold maxLen;omega) (by omega) (by simp;omega) ?_);intro v' w4 hown' hgrow _;have hb4:Below W.heap.size wr w4:=((Below.refl W.heap.size wr).drew.alloc hwx _).grown hgrow (by rw[size_alloc];show W.heap.size≤wr.heap.size+1;omega) (fun k hk=>(OZ.out.lt k hk).1);have AY:Ω (At (w.heap.size+1) (SC k sl (p:Int) true) 165 W w4):=⟨xck AZ.out hb4 (Nat.le_refl _) Hs1.out⟩;have OY:Ω (w4.ownsRow W.heap.size 5 1 v' (j+1) (Lib.byteCells (u8s (sq (PP ts rs) r s0 (j+1))))):=⟨by
      rw[Hnx.out.2,Htn.out,Hgb.out,xfq _ _ bβ];exact hown'⟩
     obtain⟨gv',cap',hv'⟩:=xbh OY.out;have AR:Ω (At (w.heap.size+1) (SC k sl (p:Int) true) 165 w4 w4):=⟨At.refl AY.out.row⟩;have cp2:w4.cell? ⟨w.heap.size+1,26,none⟩=some (.int .i64 (p:Int)):=xab AY.out.row (xas k _ true HQ.out.len);clear hown' hgrow hb4;subst hv';go_wp2_with ((with_reducible refine xaf AR rfl _ _ _ rfl rfl ?_);refine⟨_,_,_,rfl,rfl,rfl,(by rw[hz28 _ _ _ HQ.out.len];decide),?_⟩;intro w9 HR9;rw[xbd k _ _ true HQ.out.len]at HR9);have AN:Ω (At (w.heap.size+1) (SC k (sk (PP ts rs) r s0 (j+1)).l ((sk (PP ts rs) r s0 (j+1)).at':Nat) true) 165 W w9):=⟨by rw[Hnx.out.1,nx,Htn.out];exact AY.out.trans HR9.out⟩;have ON:=ω (xbv OY.out HR9.out Hs1.out);clear HR9 AR cp2 AY OY;go_roundw
     case rel=>exact⟨j+1,by omega,⟨_,_,rfl⟩,ON,AN⟩
     case measure=>simp;omega
  ·obtain rfl:j=n:=by omega
   have hel:=Hel.out;rw[HE.out,HF.out]at A0;have Fi:Ω ((Tryz.prog.info? 165).map (·.size)=some F.size):=⟨by rw[←HF.out];exact xdb k _ _ hel⟩;have Fo:Ω (F.all (·.oneCell')=true):=⟨by rw[←HF.out];exact xdw k E.l _ _⟩;have Fz:Ω ((SC 0 z 0 false).size=F.size):=⟨by rw[←HF.out];exact xld _ _ _ _ _ _ HZl.out hel⟩;have hbl:=Hbl.out;rw[Hbs.out]at OWN;have Hcv:=ω (xd3 hbl OWN.out);have Hres:Ω (wr.heap[w.heap.size+2]? = some (.cells (SC 0 z 0 false) 165 (0,0))):=⟨A0.out.other (by have:=HWs.out;omega) (by omega) B2.out⟩;have Hrow:=ω A0.out.row;have Hb5:Ω (Below w.heap.size w wr):=⟨HWb.out.trans (A0.out.below (by have:=HWs.out;omega) (by omega))⟩;have Hcv2:Ω ((convert 49 9 (.slice (some ⟨gv,0,none⟩) j cap)).run Tryz.prog (wr.drew.setRow (w.heap.size+2) F)=.ok (.string ⟨bs.toArray⟩) (wr.drew.setRow (w.heap.size+2) F)):=
    ⟨xd3 hbl (xbv OWN.out (xq0 (C':=F) (At.refl Hres.out)) (by have:=HWs.out;omega))⟩
   clear A0 OWN hj hlt hel hbl;go_wp2_with fail;have hcv:=Hcv.out;refine wp_region_any (by kernel_rfl) ?_;change wpAny _ _ _ _ _ _ _ (World.drew _)
   refine zA 1 ?_;refine wpAny_ready (rs:=[0,2]) (by kernel_rfl) (by simp) ?_;refine AllReady.cons rfl (fun K hK=>?_) (AllReady.cons rfl (fun K hK=>?_) AllReady.nil)
   ·(refine xkl (by rfl) ?_;refine wp_load_row 165 _ rfl (w.heap.size+1) rfl 165 F (0,0) _ Hrow.out Tryz.underlying165 rfl Fi.out (hK _ _ ?_);clear hK K)
    refine wpAny_ready (rs:=[2,3]) (by kernel_rfl) (by simp) ?_;refine AllReady.cons rfl (fun K hK=>?_) (AllReady.cons rfl (fun K hK=>?_) AllReady.nil)
    ·(go_simp;refine hK _ _ ?_;clear hK K)
     refine xb9 3 3 (by kernel_rfl) (by kernel_rfl) ?_;simp only[List.drop_succ_cons,List.drop_zero];refine wpList_store_row rfl 165 _ _ rfl (w.heap.size+2) F rfl rfl 165 _ Hres.out Fi.out Fz.out Fo.out ?_;go_wp2_with fail;refine bodyPost_ret_by (v:=.tuple #[.agg F,.string ⟨bs.toArray⟩,.int .i64 0]) (rspc.xk2 rfl _ _ (w.heap.size+2) 165 _ (0,0) _ rfl (setRow_heap wr.drew _ _ _ _ _ Hres.out) Tryz.underlying165 rfl Fi.out _ _ rfl rfl) rfl ?_;exact⟨rfl,Hb5.out.drew.trans (below_setRow _ _ _ (by omega))⟩
    ·(refine xkl (by rfl) ?_;refine wp_store_row 165 _ _ rfl (w.heap.size+2) F rfl rfl 165 _ Hres.out Fi.out Fz.out Fo.out (hK _ _ ?_);clear hK K)
     have hcv2:=Hcv2.out;refine wpAny_ready (rs:=[2]) (by kernel_rfl) (by simp) ?_;refine AllReady.cons rfl (fun K hK=>?_) AllReady.nil;(go_simp;refine hK _ _ ?_;clear hK K)
     refine xb9 4 2 (by kernel_rfl) (by kernel_rfl) ?_;simp only[List.drop_succ_cons,List.drop_zero];go_wp2_with fail;refine bodyPost_ret_by (v:=.tuple #[.agg F,.string ⟨bs.toArray⟩,.int .i64 0]) (rspc.xk2 rfl _ _ (w.heap.size+2) 165 _ (0,0) _ rfl (setRow_heap wr.drew _ _ _ _ _ Hres.out) Tryz.underlying165 rfl Fi.out _ _ rfl rfl) rfl ?_;exact⟨rfl,Hb5.out.drew.trans (below_setRow _ _ _ (by omega))⟩
   ·(go_simp;refine hK _ _ ?_;clear hK K)
    refine wpAny_ready (rs:=[0]) (by kernel_rfl) (by simp) ?_;refine AllReady.cons rfl (fun K hK=>?_) AllReady.nil;(refine xkl (by rfl) ?_;refine wp_load_row 165 _ rfl (w.heap.size+1) rfl 165 F (0,0) _ Hrow.out Tryz.underlying165 rfl Fi.out (hK _ _ ?_);clear hK K)
    refine xb9 3 3 (by kernel_rfl) (by kernel_rfl) ?_;simp only[List.drop_succ_cons,List.drop_zero];refine wpList_store_row rfl 165 _ _ rfl (w.heap.size+2) F rfl rfl 165 _ Hres.out Fi.out Fz.out Fo.out ?_;go_wp2_with fail;refine bodyPost_ret_by (v:=.tuple #[.agg F,.string ⟨bs.toArray⟩,.int .i64 0]) (rspc.xk2 rfl _ _ (w.heap.size+2) 165 _ (0,0) _ rfl (setRow_heap wr.drew _ _ _ _ _ Hres.out) Tryz.underlying165 rfl Fi.out _ _ rfl rfl) rfl ?_;exact⟨rfl,Hb5.out.drew.trans (below_setRow _ _ _ (by omega))⟩
end rspg
namespace rsph
open arr mem kecm kecb kstep kfun spgm rspa rspb rspc rspd spof spok
theorem ok_in(k:Int)(a:Nat)(h:a<rate k):ok k (a:Int) false=true:=by
 unfold ok;rw[decide_eq_true (show 0<rate k by omega),decide_eq_true (show (0:Int)≤(a:Int) by omega),decide_eq_true (show (a:Int)<(rate k:Int) by omega)];rfl
theorem xoc{T:Array Value}{ts rs:List Nat}(k:Int)(b:ByteArray)(n:Nat)(w:World)(hK:KT T ts rs)(hra : 0<rate k)(hn:n≤50000)(hb:b.size≤1125899906842624):
 Calls Tryz.prog 70 #[.agg T,.int .i64 k,.string b,.int .i64 (n:Int)] w (zB w (.tuple #[.string (out ts rs k b n),.int .i64 0])):=by
 have hPst:∀ l,St l→St (PP ts rs l):=fun _ h=>xbw hK.br h
 have hEo:St (abs (PP ts rs) (rate k) ⟨Z,0⟩ (bys b)).l∧(abs (PP ts rs) (rate k) ⟨Z,0⟩ (bys b)).at'<rate k:=xg6 hPst _ z_st hra;obtain⟨A,HA⟩:=xaa (out ts rs k b n);have C2:Ω (∀ w1:World,Calls Tryz.prog 129 #[.agg T,.agg (SC k Z 0 false),.string b] w1 (zB w1 (.tuple #[.agg (SC k (abs (PP ts rs) (rate k) ⟨Z,0⟩ (bys b)).l ((abs (PP ts rs) (rate k) ⟨Z,0⟩ (bys b)).at':Nat) false),.int .i64 0]))):=⟨fun w1=>rspd.xqu k 0 Z b w1 z_st hK (ok_in k 0 hra) hb⟩;obtain⟨E,HE⟩:=xaa (abs (PP ts rs) (rate k) ⟨Z,0⟩ (bys b));rw[HE.out]at C2 hEo;have HA2:Ω (⟨(u8s (sq (PP ts rs) (rate k) (pad (rate k) (spgm.mark k) ⟨E.l,E.at'⟩) n)).toArray⟩=A):=⟨by rw[←HA.out,←HE.out];rfl⟩;rw[HA.out];have C3:Ω (∀ w1:World,Calls Tryz.prog 130 #[.agg T,.agg (SC k E.l (E.at':Int) false),.int .i64 (n:Int)] w1 (zB w1 (.tuple #[.agg (SC k (sk (PP ts rs) (rate k) (pad (rate k) (spgm.mark k) ⟨E.l,E.at'⟩) n).l ((sk (PP ts rs) (rate k) (pad (rate k) (spgm.mark k) ⟨E.l,E.at'⟩) n).at':Nat) true),.string A,.int .i64 0]))):=⟨fun w1=>by rw[←HA2.out];exact rspg.xln k E.at' n E.l w1 hEo.1 hK (ok_in k _ hEo.2) ⟨hra,hEo.2,xii k⟩ hn⟩;clear HA HA2 HE;have C1:Ω (∀ w1:World,Calls Tryz.prog 128 #[.int .i64 k] w1 (zB w1 (.tuple #[.agg (SC k Z 0 false),.int .i64 0]))):=⟨fun w1=>rspe.xtc k w1 hra⟩;have HTz:Ω ((Tryz.prog.info? 34).map (·.size)=some T.size):=⟨by rw[hK.size];exact rkeb.sizeT⟩;obtain⟨S0,HS0⟩:=xaa (SC k Z 0 false);have i0:Ω ((Tryz.prog.info? 165).map (·.size)=some S0.size):=⟨by rw[←HS0.out];exact xdb _ _ _ xep⟩;have o0:Ω (S0.all (·.oneCell')=true):=⟨by rw[←HS0.out];exact xdw _ _ _ _⟩
 have z0:Ω (S0.size=28):=⟨by rw[←HS0.out];exact xa5 _ _ _ xep⟩;obtain⟨S1,HS1⟩:=xaa (SC k E.l (E.at':Int) false);have i1:Ω ((Tryz.prog.info? 165).map (·.size)=some S1.size):=⟨by rw[←HS1.out];exact xdb _ _ _ hEo.1.len⟩;have o1:Ω (S1.all (·.oneCell')=true):=⟨by rw[←HS1.out];exact xdw _ _ _ _⟩;have z1:Ω (S1.size=28):=⟨by rw[←HS1.out];exact xa5 _ _ _ hEo.1.len⟩;have hsk:=(xel hPst hra (xh8 (r:=rate k) (m:=spgm.mark k) (s:=⟨E.l,E.at'⟩) hEo.1).1 (xh8 (r:=rate k) (m:=spgm.mark k) (s:=⟨E.l,E.at'⟩) hEo.1).2 n).1.len;obtain⟨E2,HE2⟩:=xaa (sk (PP ts rs) (rate k) (pad (rate k) (spgm.mark k) ⟨E.l,E.at'⟩) n);rw[HE2.out]at C3 hsk;obtain⟨S2,HS2⟩:=xaa (SC k E2.l (E2.at':Int) true);have i2:Ω ((Tryz.prog.info? 165).map (·.size)=some S2.size):=⟨by rw[←HS2.out];exact xdb _ _ _ hsk⟩;have o2:Ω (S2.all (·.oneCell')=true):=⟨by rw[←HS2.out];exact xdw _ _ _ _⟩;have z2:Ω (S2.size=28):=⟨by rw[←HS2.out];exact xa5 _ _ _ hsk⟩;rw[HS2.out]at C3;clear hsk HS2 HE2;rw[HS0.out]at C1 C2;rw[HS1.out]at C2 C3;clear hEo hPst HS0 HS1 hK;obtain⟨W,hW⟩:=zev (w.alloc (.cells T 34));have HW:=ω hW;have BW:=zba hW;have GW:=zhp hW;have hzW:W.heap.size=w.heap.size+1:=by rw[←hW];exact size_alloc _ _
 clear hW;go_enter Tryz.func70,Tryz.ntmps70;go_wp2_with (rw[HW.out]);refine(C1.out _).mono ?_;rintro e w2 ⟨rfl,hb2⟩;obtain⟨W3,hW3⟩:=zev (w2.alloc (.cells S0 165));have HW3:=ω hW3;have B3:Ω (Below W.heap.size W W3):=⟨by rw[←hW3];exact hb2.alloc hb2.size _⟩;have G3:Ω (W3.heap[w.heap.size]? = some (.cells T 34 (0,0))):=⟨(B3.out.block _ (by omega)).trans GW.out⟩;have R3:=zhp hW3;have h2W:W.heap.size≤w2.heap.size:=hb2.size;clear hb2 hW3;go_wp2_with (first
  | (refine xam rfl 165 _ _ rfl S0 rfl rfl i0.out (by exact z0.out.symm) o0.out rfl ?_)
  | (rw[HW3.out])
  | (refine wpList_load_row rfl 34 _ rfl w.heap.size rfl 34 T (0,0) _ G3.out zY rfl HTz.out ?_)
  | (refine wpList_load_row rfl 165 _ rfl w2.heap.size rfl 165 S0 (0,0) _ R3.out Tryz.underlying165 rfl i0.out ?_))
 refine(C2.out _).mono ?_;rintro e w4 ⟨rfl,hb4⟩;obtain⟨W5,hW5⟩:=zev (w4.setRow w2.heap.size S1);have HW5:=ω hW5;have R4:Ω (w4.heap[w2.heap.size]? = some (.cells S0 165 (0,0))):=⟨(hb4.block _ (xac R3.out)).trans R3.out⟩;have B5:Ω (Below W.heap.size W W5):=⟨by rw[←hW5];exact(B3.out.trans (hb4.mono B3.out.size)).trans (below_setRow _ _ _ h2W)⟩;have G5:Ω (W5.heap[w.heap.size]? = some (.cells T 34 (0,0))):=⟨(B5.out.block _ (by omega)).trans GW.out⟩;have R5:Ω (W5.heap[w2.heap.size]? = some (.cells S1 165 (0,0))):=⟨by rw[←hW5];exact setRow_heap _ _ _ _ _ _ R4.out⟩;clear hb4 hW5 HW3;go_wp2_with (first
  | (refine wpList_store_row rfl 165 _ _ rfl w2.heap.size S1 rfl rfl 165 _ R4.out i1.out (z0.out.trans z1.out.symm) o1.out ?_)
  | (rw[HW5.out])
  | (refine wpList_load_row rfl 34 _ rfl w.heap.size rfl 34 T (0,0) _ G5.out zY rfl HTz.out ?_)
  | (refine wpList_load_row rfl 165 _ rfl w2.heap.size rfl 165 S1 (0,0) _ R5.out Tryz.underlying165 rfl i1.out ?_))
 refine(C3.out _).mono ?_;rintro e w6 ⟨rfl,hb6⟩;obtain⟨W7,hW7⟩:=zev (w6.alloc (.cells S2 165));have HW7:=ω hW7;have B7:Ω (Below w.heap.size w W7):=⟨by rw[←hW7];exact(BW.out.trans ((B5.out.trans (hb6.mono B5.out.size)).mono BW.out.size)).alloc (Nat.le_trans BW.out.size (Nat.le_trans B5.out.size hb6.size)) _⟩;clear hb6 hW7 HW5;go_wp2_with (first
  | (refine xam rfl 165 _ _ rfl S2 rfl rfl i2.out (by exact z2.out.symm) o2.out rfl ?_)
  | (rw[HW7.out]))
 go_ret2;exact⟨rfl,B7.out⟩
theorem xvd{T:Array Value}{ts rs:List Nat}(k:Int)(b:ByteArray)(n:Nat)(w:World)(hK:KT T ts rs)(h1:k=1)(hn:n≤50000)(hb:b.size≤1125899906842624):
 Calls Tryz.prog 31 #[.agg T,.int .i64 k,.string b,.int .i64 (n:Int)] w (zB w (.tuple #[.string (out ts rs k b n),.int .i64 0])):=by
 have HTz:Ω ((Tryz.prog.info? 34).map (·.size)=some T.size):=⟨by rw[hK.size];exact rkeb.sizeT⟩;have C3:Ω (∀ w1:World,Calls Tryz.prog 70 #[.agg T,.int .i64 k,.string b,.int .i64 (n:Int)] w1 (zB w1 (.tuple #[.string (out ts rs k b n),.int .i64 0]))):=⟨fun w1=>xoc k b n w1 hK (by rw[h1];decide) hn hb⟩;obtain⟨A,HA⟩:=xaa (out ts rs k b n);rw[HA.out]at C3 ⊢;subst h1;clear hn hK HA;obtain⟨W,hW⟩:=zev (w.alloc (.cells T 34));have HW:=ω hW;have BW:=zba hW;have GW:=zhp hW;clear hW;go_enter Tryz.func31,Tryz.ntmps31;go_wp2_with (first
  | (rw[HW.out])
  | (refine wpList_load_row rfl 34 _ rfl w.heap.size rfl 34 T (0,0) _ GW.out zY rfl HTz.out ?_))
 refine(C3.out W).mono ?_;rintro e w3 ⟨rfl,h3⟩;have HB3:=zbt BW h3;clear h3;go_wp2_with fail;go_ret2;exact⟨rfl,HB3.out⟩
theorem xff{T:Array Value}{ts rs:List Nat}(k:Int)(b:ByteArray)(n:Nat)(w:World)(hK:KT T ts rs)(h1:k=2)(hn:n≤50000)(hb:b.size≤1125899906842624):
 Calls Tryz.prog 31 #[.agg T,.int .i64 k,.string b,.int .i64 (n:Int)] w (zB w (.tuple #[.string (out ts rs k b n),.int .i64 0])):=by
 have HTz:Ω ((Tryz.prog.info? 34).map (·.size)=some T.size):=⟨by rw[hK.size];exact rkeb.sizeT⟩;have C3:Ω (∀ w1:World,Calls Tryz.prog 70 #[.agg T,.int .i64 k,.string b,.int .i64 (n:Int)] w1 (zB w1 (.tuple #[.string (out ts rs k b n),.int .i64 0]))):=⟨fun w1=>xoc k b n w1 hK (by rw[h1];decide) hn hb⟩;obtain⟨A,HA⟩:=xaa (out ts rs k b n);rw[HA.out]at C3 ⊢;subst h1;clear hn hK HA;obtain⟨W,hW⟩:=zev (w.alloc (.cells T 34));have HW:=ω hW;have BW:=zba hW;have GW:=zhp hW;clear hW;go_enter Tryz.func31,Tryz.ntmps31;go_wp2_with (first
  | (rw[HW.out])
  | (refine wpList_load_row rfl 34 _ rfl w.heap.size rfl 34 T (0,0) _ GW.out zY rfl HTz.out ?_))
 refine(C3.out W).mono ?_;rintro e w3 ⟨rfl,h3⟩;have HB3:=zbt BW h3;clear h3;go_wp2_with fail;go_ret2;exact⟨rfl,HB3.out⟩
end rsph
namespace rsdoc
open arr mem keca kstep spok polys polt rbita rbitc rbitf rbitg rndm samm samb samc saml samr
theorem uniform{T:Array Value}(b:ByteArray)(w:World)(hK:KT T TL RL)(hb:b.size≤1125899906842624):
 Calls Tryz.prog 69 #[.agg T,.string b] w (zB w (.agg (FL .i64 256 (dU b)))):=
 rsuni.xl3 b _ w (infoT T hK) (xbt 1 b 1008) fun w1=>rsph.xvd 1 b 1008 w1 hK rfl (by decide) hb
theorem matrix{T:Array Value}(kn ln:Nat)(e t a b o s:Int)(sd:ByteArray)(w:World)(hK:KT T TL RL)(h:latt (kn:Int) (ln:Int) e t a b o s=true)(hsd:sd.size≤1000):
 Calls Tryz.prog 30 #[.agg T,.agg (zLt (kn:Int) (ln:Int) e t a b o s),.string sd] w fun x w'=>(∃ v vs,x=.returned v∧w'.ownsRow w.heap.size 67 1 v kn vs∧Rowl w' w.heap.size v.ownBlock vs ln (qX sd))∧Below w.heap.size w w':=by
 obtain⟨h1,h2,-⟩:=xe1 h;exact rsmat.xkj kn ln e t a b o s sd (qX sd) w (infoT T hK) (by omega) (by omega) h (by omega) fun r c _ _ w1=>uniform (tw sd c r) w1 hK (by rw[xfp];omega)
end rsdoc
end Go.Proofs.YtgahcabgmfbhdaaGreatDoor
