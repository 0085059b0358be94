/-
  What package bits' Pack returns. Conditions: none. What package bits' Signed returns. Conditions: no
-/
import Derived.Test.YtomphjajkkddkaaGreatDoorZt10
import Derived.Test.YtomphjajkkddkaaGreatDoorZt09
import Derived.Test.YtomphjajkkddkaaGreatDoorZt02
import Derived.Test.YtomphjajkkddkaaGreatDoorProg
import Derived.Test.YtomphjajkkddkaaGreatDoorZt07
import Derived.Test.YtomphjajkkddkaaGreatDoorZt01
import Derived.Test.YtomphjajkkddkaaGreatDoorZt08
set_option maxRecDepth 100000
set_option maxHeartbeats 16000000
namespace Go.Proofs.YtomphjajkkddkaaGreatDoor
namespace ppack
open Go Go.RowKit
open arr mem stil bitm bitn polys rbita rbitb rbitc rbitd rbitf
theorem ns_get (f:Nat→Int) (h:∀ i,i<256→0≤f i) (i:Nat) (hi:i<256):(((ns f).getD i 0:Nat):Int)=f i:=by
 unfold ns
 rw[List.getD_eq_getElem?_getD,List.getElem?_map,List.getElem?_range hi]
 exact Int.toNat_of_nonneg (h i hi)
theorem ns_length (f:Nat→Int):(ns f).length=256:=by simp[ns]
theorem lb_pos (most:Int) (h1 : 1≤most) (h2:most<8380417) : 1≤lb most.toNat:=
 ((lbf_spec 64 most.toNat (by omega)).2.1 (by omega)).1
theorem ns_lt (f:Nat→Int) (most:Int) (h1 : 1≤most) (h2:most<8380417) (h:inb f most):∀ x∈ns f,x<2 ^ lb most.toNat:=by
 intro x hx
 obtain⟨i,hi,rfl⟩:=List.mem_map.1 hx
 have h3:=h i (List.mem_range.1 hi)
 have h4:=(lbf_spec 64 most.toNat (by omega)).1
 exact Nat.lt_of_le_of_lt (by omega) h4
theorem pack_any (f:Nat→Int) (most:Int) (w:World) (h1 : 1≤most) (h2:most<8380417):
 Calls Tryz.prog 89 #[.agg (FL .i64 256 f),.int .i64 most] w fun e w'=>e=.returned (if inb f most then .tuple #[.string (packed f most),.int .i64 0] else .tuple #[.string ⟨#[]⟩,.int .i64 6])∧Below w.heap.size w w':=by
 have HM:∀ w1:World,Calls Tryz.prog 128 #[.int .i64 most] w1 fun e w'=>e=.returned (.bool true)∧w'=w1:=fun w1=>by
  have h:=psmall.most_any most w1
  rw[decide_eq_true ⟨h1,h2⟩]at h
  exact h
 have HLg:Away (∀ w1:World,Calls Tryz.prog 127 #[.int .i64 most] w1 fun e w'=>e=.returned (.int .i64 ((lb most.toNat:Nat):Int))∧w'=w1):=⟨fun w1=>plong.long_any most (by omega) w1⟩
 have HSt:Away (∀ (g:Nat) (w1:World),inb f most→g<w1.heap.size→(∀ i,i<256→w1.cell? ⟨g,i,none⟩=some (.int .i64 (f i)))→Calls Tryz.prog 141 #[.pointer (some ⟨g,0,none⟩),.int .i64 ((lb most.toNat:Nat):Int)] w1 fun e w'=>e=.returned (.string (packed f most))∧Below w1.heap.size w1 w'):=⟨fun g w1 hin hg hc=>by
  unfold packed
  exact pstore.store_any g (lb most.toNat) (ns f) w1 (ns_length f) (lb_pos most h1 h2) (lb_small most h2) (ns_lt f most h1 h2 hin) hg (fun i hi=>by rw[ns_get f (fun k hk=>(hin k hk).1) i hi];exact hc i hi)⟩
 obtain⟨O,HO⟩:=ex_eq (packed f most)
 obtain⟨wd,hwd⟩:=ex_eq (lb most.toNat)
 rw[HO.out,hwd.out]at HSt
 rw[hwd.out]at HLg
 rw[HO.out]
 have Hidx:Away (∀ i:Nat,i<256→∀ w1,(Instr.index 76 (.agg (FL .i64 256 f)) (.int .i64 (i:Int))).run Tryz.prog w1=.ok (.int .i64 (f i)) w1):=⟨fun i hi w1=>index_row (P:=Tryz.prog) Tryz.underlying76 (by kernel_rfl) (by kernel_rfl) (by kernel_rfl) _ _ i hi (fl_get .i64 256 f i hi) w1⟩
 have Fi:Away ((Tryz.prog.info? 76).map (·.size)=some (FL .i64 256 f).size):=⟨by rw[fl_size];exact sizeP⟩
 obtain⟨V,HV⟩:=ex_eq (if inb f most then Value.tuple #[.string O,.int .i64 0] else .tuple #[.string ⟨#[]⟩,.int .i64 6])
 rw[HV.out]
 have Hcells:Away (∀ (w1:World) (g:Nat),w1.heap[g]? = some (.cells (FL .i64 256 f) 76 (0,0))→∀ i,i<256→w1.cell? ⟨g,i,none⟩=some (.int .i64 (f i))):=⟨fun w1 g h i hi=>fl_at h i hi⟩
 obtain⟨F,HF⟩:=ex_eq (FL .i64 256 f)
 rw[HF.out]at Hidx Fi Hcells ⊢
 obtain⟨W,hW⟩:∃ x,w.alloc (.cells F 76)=x:=⟨_,rfl⟩
 have HW:=Away.mk hW
 have BW:Away (Below w.heap.size w W):=⟨by rw[←hW];exact below_alloc _ _⟩
 have hrow:Away (W.heap[w.heap.size]? = some (.cells F 76 (0,0))):=⟨by rw[←hW];exact heap_at _ _ _ rfl⟩
 have H12:=Away.mk (And.intro h1 h2)
 clear hW HF HO h1 h2
 go_enter Tryz.func89,Tryz.ntmps89
 go_wp2_with (rw[HW.out])
 refine(HM _).mono ?_
 rintro e W ⟨rfl,rfl⟩
 go_wp2_with (refine wpList_load_row rfl 76 _ rfl w.heap.size rfl 76 F (0,0) _ hrow.out Tryz.underlying76 rfl Fi.out ?_)
 go_loopw [12] (fun c wr=>∃ j:Nat,j≤256∧c=.int .i64 (j:Int)∧Away (∀ i,i<j→0≤f i∧f i≤most)∧W=wr) (fun c _=>256-(intOf c).toNat)
 case atStart=>exact⟨0,Nat.zero_le _,rfl,⟨fun i hi=>by omega⟩,rfl⟩
 case round=>
  obtain⟨j,hj,rfl,Hin,rfl⟩:=hrel
  by_cases hlt:j<256
  ·have hjz:(j:Int)<256:=by omega
   have hidx:=Hidx.out j hlt
   obtain⟨x,hx⟩:∃ x,f j=x:=⟨_,rfl⟩
   rw[hx]at hidx
   by_cases hbad:x<0∨most<x
   ·have hV:Away (V=.tuple #[.string ⟨#[]⟩,.int .i64 6]):=⟨by rw[←HV.out,if_neg];intro hall;have:=hall j hlt;rw[hx]at this;omega⟩
    clear hx
    rcases hbad with hb1 | hb1
    ·go_wp2_with fail
     go_ret2
     exact⟨by rw[hV.out];rfl,BW.out⟩
    ·by_cases hb0:x<0
     ·go_wp2_with fail
      go_ret2
      exact⟨by rw[hV.out];rfl,BW.out⟩
     ·go_wp2_with fail
      go_ret2
      exact⟨by rw[hV.out];rfl,BW.out⟩
   ·have hb0:¬ x<0:=by omega
    have hb1:¬ most<x:=by omega
    have Hin2:Away (∀ i,i<j+1→0≤f i∧f i≤most):=⟨fun i hi=>by
     by_cases e:i=j
     ·subst e;rw[hx];omega
     ·exact Hin.out i (by omega)⟩
    clear hx hbad
    go_wp2_with fail
    go_roundw
    case rel=>exact⟨j+1,by omega,by go_num,Hin2,trivial⟩
    case measure=>simp[intOf];omega
  ·obtain rfl:j=256:=by omega
   simp only[Int.cast_ofNat_Int]
   have hall:inb f most:=Hin.out
   have hV:Away (V=.tuple #[.string O,.int .i64 0]):=⟨by rw[←HV.out,if_pos hall]⟩
   have C1:=Away.mk (HSt.out w.heap.size W hall (lt_of_row hrow.out) (Hcells.out W w.heap.size hrow.out))
   clear hall hj hlt
   go_wp2_with fail
   refine(HLg.out _).mono ?_
   rintro e w5 ⟨rfl,rfl⟩
   go_wp2_with fail
   refine C1.out.mono ?_
   rintro e w6 ⟨rfl,h6⟩
   have BF:Away (Below w.heap.size w w6):=⟨BW.out.trans (h6.mono BW.out.size)⟩
   clear h6
   go_wp2_with fail
   go_ret2
   exact⟨by rw[hV.out];rfl,BF.out⟩
end ppack
end Go.Proofs.YtomphjajkkddkaaGreatDoor
namespace Go.Proofs.YtomphjajkkddkaaGreatDoor
namespace psig
open Go Go.RowKit
open arr mem stil bitm bitn polys fldm fld1 rbita rbitb rbitc rbitd rbite
theorem ins_inb (f:Nat→Int) (low high:Int):inb (sg f high) (low+high)↔ins f low high:=by
 unfold inb ins sg
 constructor
 ·intro h i hi;have:=h i hi;omega
 ·intro h i hi;have:=h i hi;omega
theorem signed_any (f:Nat→Int) (low high:Int) (w:World) (h1 : 0≤low) (h3:low<4190208) (h2 : 1≤high) (h4:high<4190208):
 Calls Tryz.prog 119 #[.agg (FL .i64 256 f),.int .i64 low,.int .i64 high] w fun e w'=>e=.returned (if ins f low high then .tuple #[.string (packed (sg f high) (low+high)),.int .i64 0] else .tuple #[.string ⟨#[]⟩,.int .i64 6])∧Below w.heap.size w w':=by
 have HM:∀ w1:World,Calls Tryz.prog 155 #[.int .i64 low,.int .i64 high] w1 fun e w'=>e=.returned (.bool true)∧w'=w1:=fun w1=>by
  have h:=psmall.ends_any low high w1
  rw[decide_eq_true ⟨h1,h3,h2,h4⟩]at h
  exact h
 obtain⟨V,HV⟩:=ex_eq (if ins f low high then Value.tuple #[.string (packed (sg f high) (low+high)),.int .i64 0] else .tuple #[.string ⟨#[]⟩,.int .i64 6])
 obtain⟨v0,v1,hv⟩:∃ v0 v1,V=.tuple #[v0,v1]:=by
  rw[←HV.out]
  by_cases h:ins f low high
  ·rw[if_pos h];exact⟨_,_,rfl⟩
  ·rw[if_neg h];exact⟨_,_,rfl⟩
 have HPk:Away (∀ w1:World,Calls Tryz.prog 89 #[.agg (FL .i64 256 (sg f high)),.int .i64 (low+high)] w1 fun e w'=>e=.returned (.tuple #[v0,v1])∧Below w1.heap.size w1 w'):=⟨fun w1=>by
  have h9:=ppack.pack_any (sg f high) (low+high) w1 (by omega) (by omega)
  rw[show (if inb (sg f high) (low+high) then Value.tuple #[.string (packed (sg f high) (low+high)),.int .i64 0] else .tuple #[.string ⟨#[]⟩,.int .i64 6])=V by
   rw[←HV.out]
   by_cases h:ins f low high
   ·rw[if_pos h,if_pos ((ins_inb f low high).2 h)]
   ·rw[if_neg h,if_neg (fun k=>h ((ins_inb f low high).1 k))],hv]at h9
  exact h9⟩
 rw[HV.out,hv]
 clear HV hv
 obtain⟨G,HG⟩:=ex_eq (FL .i64 256 (sg f high))
 rw[HG.out]at HPk
 have Hidx:Away (∀ i:Nat,i<256→∀ w1,(Instr.index 76 (.agg (FL .i64 256 f)) (.int .i64 (i:Int))).run Tryz.prog w1=.ok (.int .i64 (f i)) w1):=⟨fun i hi w1=>index_row (P:=Tryz.prog) Tryz.underlying76 (by kernel_rfl) (by kernel_rfl) (by kernel_rfl) _ _ i hi (fl_get .i64 256 f i hi) w1⟩
 have Fi:Away ((Tryz.prog.info? 76).map (·.size)=some (FL .i64 256 f).size):=⟨by rw[fl_size];exact sizeP⟩
 have Gi:Away ((Tryz.prog.info? 76).map (·.size)=some G.size):=⟨by rw[←HG.out,fl_size];exact sizeP⟩
 obtain⟨F,HF⟩:=ex_eq (FL .i64 256 f)
 rw[HF.out]at Hidx Fi ⊢
 obtain⟨W,hW⟩:∃ x,w.alloc (.cells F 76)=x:=⟨_,rfl⟩
 have HW:=Away.mk hW
 have BW:Away (Below w.heap.size w W):=⟨by rw[←hW];exact below_alloc _ _⟩
 have hrow:Away (W.heap[w.heap.size]? = some (.cells F 76 (0,0))):=⟨by rw[←hW];exact heap_at _ _ _ rfl⟩
 have A0:Away (At w.heap.size (FL .i64 256 (pt (sg f high) f 0)) 76 W W):=⟨by rw[pt_zero,HF.out];exact At.refl hrow.out⟩
 have fl2:IntKind.i64.wrap (low+high)=low+high:=by rw[IntKind.wrap_i64];omega
 have HL:=Away.mk (And.intro h1 (And.intro h2 (And.intro h3 h4)))
 clear hW HF h1 h2 h3 h4
 go_enter Tryz.func119,Tryz.ntmps119
 go_wp2_with (rw[HW.out])
 refine(HM _).mono ?_
 rintro e W ⟨rfl,rfl⟩
 go_wp2_with (refine wpList_load_row rfl 76 _ rfl w.heap.size rfl 76 F (0,0) _ hrow.out Tryz.underlying76 rfl Fi.out ?_)
 go_loopw [15] (fun c wr=>∃ j:Nat,j≤256∧c=.int .i64 (j:Int)∧Away (At w.heap.size (FL .i64 256 (pt (sg f high) f j)) 76 W wr)) (fun c _=>256-(intOf c).toNat)
 case atStart=>exact⟨0,Nat.zero_le _,rfl,A0⟩
 case round=>
  clear A0
  obtain⟨j,hj,rfl,A0⟩:=hrel
  have BE:Away (Below w.heap.size w wr):=⟨BW.out.trans (A0.out.below (by have:=BW.out.size;omega) (Nat.le_refl _))⟩
  by_cases hlt:j<256
  ·have hjz:(j:Int)<256:=by omega
   have hidx:=Hidx.out j hlt
   have Hce:=Away.mk (fun w1=>centre_any (f j) 8380417 w1)
   obtain⟨c,hc⟩:∃ c,ce 8380417 (f j)=c:=⟨_,rfl⟩
   have hcs:=ce_small (f j)
   rw[hc]at Hce hcs
   have fs:IntKind.i64.wrap (high-c)=high-c:=by rw[IntKind.wrap_i64];have:=HL.out;omega
   have hsg:Away (high-c=sg f high j):=⟨by unfold sg;rw[hc]⟩
   clear hc hcs
   go_wp2_with fail
   refine(Hce.out _).mono ?_
   rintro e w2 ⟨rfl,rfl⟩
   clear hidx
   go_wp2_with ((with_reducible refine wpList_put2 A0 rfl _ _ _ rfl rfl ?_);refine⟨_,_,_,rfl,rfl,rfl,(by rw[fl_size];exact hlt),?_⟩;intro wn HR;rw[fl_set,pt_upd _ _ _ _ hsg.out]at HR)
   go_roundw
   case rel=>exact⟨j+1,by omega,by go_num,HR⟩
   case measure=>simp[intOf];omega
  ·obtain rfl:j=256:=by omega
   simp only[Int.cast_ofNat_Int]
   rw[fl_all,HG.out]at A0
   have Hrow:=Away.mk A0.out.row
   clear A0
   go_wp2_with (refine wpList_load_row rfl 76 _ rfl w.heap.size rfl 76 G (0,0) _ Hrow.out Tryz.underlying76 rfl Gi.out ?_)
   refine(HPk.out _).mono ?_
   rintro e w6 ⟨rfl,h6⟩
   have BF:Away (Below w.heap.size w w6):=⟨BE.out.trans (h6.mono BE.out.size)⟩
   clear h6
   go_wp2_with fail
   go_ret2
   exact⟨rfl,BF.out⟩
end psig
end Go.Proofs.YtomphjajkkddkaaGreatDoor
namespace Go.Proofs.YtomphjajkkddkaaGreatDoor
namespace rpart
open Go Go.RowKit
open arr mem fldm rndm
theorem gamma_any (g:Int) (w:World):Calls Tryz.prog 103 #[.int .i64 g] w fun e w'=>e=.returned (.bool (okg g))∧w'=w:=by
 unfold okg
 cases h1:g==95232
 ·cases h2:g==261888
  ·go_enter Tryz.func103,Tryz.ntmps103
   go_wp2_with fail
   go_ret
   exact⟨rfl,rfl⟩
  ·go_enter Tryz.func103,Tryz.ntmps103
   go_wp2_with fail
   go_ret
   exact⟨rfl,rfl⟩
 ·go_enter Tryz.func103,Tryz.ntmps103
  go_wp2_with fail
  go_ret
  exact⟨rfl,rfl⟩
theorem upto_any (n m:Int) (w:World):Calls Tryz.prog 102 #[.int .i64 n,.int .i64 m] w fun e w'=>e=.returned (.bool (upto n m))∧w'=w:=by
 unfold upto
 by_cases h1 : 1≤n
 ·rw[decide_eq_true h1]
  by_cases h2:n≤m
  ·rw[decide_eq_true h2]
   go_enter Tryz.func102,Tryz.ntmps102
   go_wp2_with fail
   go_ret
   exact⟨rfl,rfl⟩
  ·rw[decide_eq_false h2]
   go_enter Tryz.func102,Tryz.ntmps102
   go_wp2_with fail
   go_ret
   exact⟨rfl,rfl⟩
 ·rw[decide_eq_false h1]
  go_enter Tryz.func102,Tryz.ntmps102
  go_wp2_with fail
  go_ret
  exact⟨rfl,rfl⟩
end rpart
namespace rright
open Go Go.RowKit
open arr mem polt rndm rpart
theorem right_any (k l e t a b o s:Int) (w:World):Calls Tryz.prog 49 #[.agg #[.int .i64 k,.int .i64 l,.int .i64 e,.int .i64 t,.int .i64 a,.int .i64 b,.int .i64 o,.int .i64 s]] w fun e0 w'=>e0=.returned (.bool (latt k l e t a b o s))∧Below w.heap.size w w':=by
 obtain⟨W,hW⟩:∃ x,w.alloc (.cells #[.int .i64 k,.int .i64 l,.int .i64 e,.int .i64 t,.int .i64 a,.int .i64 b,.int .i64 o,.int .i64 s] 37)=x:=⟨_,rfl⟩
 have HW:=Away.mk hW
 have HB:Away (Below w.heap.size w W):=⟨by rw[←hW];exact below_alloc _ _⟩
 have hrow:W.heap[w.heap.size]? = some (.cells #[.int .i64 k,.int .i64 l,.int .i64 e,.int .i64 t,.int .i64 a,.int .i64 b,.int .i64 o,.int .i64 s] 37 (0,0)):=by rw[←hW];exact heap_at _ _ _ rfl
 have c0:W.cell? ⟨w.heap.size,0,none⟩=some (.int .i64 k):=cell_at hrow rfl
 have c1:W.cell? ⟨w.heap.size,1,none⟩=some (.int .i64 l):=cell_at hrow rfl
 have c2:W.cell? ⟨w.heap.size,2,none⟩=some (.int .i64 e):=cell_at hrow rfl
 have c3:W.cell? ⟨w.heap.size,3,none⟩=some (.int .i64 t):=cell_at hrow rfl
 have c4:W.cell? ⟨w.heap.size,4,none⟩=some (.int .i64 a):=cell_at hrow rfl
 have c5:W.cell? ⟨w.heap.size,5,none⟩=some (.int .i64 b):=cell_at hrow rfl
 have c6:W.cell? ⟨w.heap.size,6,none⟩=some (.int .i64 o):=cell_at hrow rfl
 have c7:W.cell? ⟨w.heap.size,7,none⟩=some (.int .i64 s):=cell_at hrow rfl
 clear hrow hW
 cases h1:upto k 8
 ·have Ch1:=upto_any k 8
  rw[h1]at Ch1
  have HE:latt k l e t a b o s=false:=by simp[latt,h1]
  rw[HE]
  clear HE
  go_enter Tryz.func49,Tryz.ntmps49
  go_wp2_with (rw[HW.out])
  refine(Ch1 _).mono ?_
  rintro e0 w0 ⟨rfl,rfl⟩
  go_wp2_with fail
  go_ret
  exact⟨rfl,HB.out⟩
 ·have Ch1:=upto_any k 8
  rw[h1]at Ch1
  cases h2:upto l 8
  ·have Ch2:=upto_any l 8
   rw[h2]at Ch2
   have HE:latt k l e t a b o s=false:=by simp[latt,h1,h2]
   rw[HE]
   clear HE
   go_enter Tryz.func49,Tryz.ntmps49
   go_wp2_with (rw[HW.out])
   refine(Ch1 _).mono ?_
   rintro e0 w0 ⟨rfl,rfl⟩
   go_wp2_with fail
   refine(Ch2 _).mono ?_
   rintro e0 w0 ⟨rfl,rfl⟩
   go_wp2_with fail
   go_ret
   exact⟨rfl,HB.out⟩
  ·have Ch2:=upto_any l 8
   rw[h2]at Ch2
   cases h3:upto t 64
   ·have Ch3:=upto_any t 64
    rw[h3]at Ch3
    have HE:latt k l e t a b o s=false:=by simp[latt,h1,h2,h3]
    rw[HE]
    clear HE
    go_enter Tryz.func49,Tryz.ntmps49
    go_wp2_with (rw[HW.out])
    refine(Ch1 _).mono ?_
    rintro e0 w0 ⟨rfl,rfl⟩
    go_wp2_with fail
    refine(Ch2 _).mono ?_
    rintro e0 w0 ⟨rfl,rfl⟩
    go_wp2_with fail
    refine(Ch3 _).mono ?_
    rintro e0 w0 ⟨rfl,rfl⟩
    go_wp2_with fail
    go_ret
    exact⟨rfl,HB.out⟩
   ·have Ch3:=upto_any t 64
    rw[h3]at Ch3
    cases h4:upto o 100
    ·have Ch4:=upto_any o 100
     rw[h4]at Ch4
     have HE:latt k l e t a b o s=false:=by simp[latt,h1,h2,h3,h4]
     rw[HE]
     clear HE
     go_enter Tryz.func49,Tryz.ntmps49
     go_wp2_with (rw[HW.out])
     refine(Ch1 _).mono ?_
     rintro e0 w0 ⟨rfl,rfl⟩
     go_wp2_with fail
     refine(Ch2 _).mono ?_
     rintro e0 w0 ⟨rfl,rfl⟩
     go_wp2_with fail
     refine(Ch3 _).mono ?_
     rintro e0 w0 ⟨rfl,rfl⟩
     go_wp2_with fail
     refine(Ch4 _).mono ?_
     rintro e0 w0 ⟨rfl,rfl⟩
     go_wp2_with fail
     go_ret
     exact⟨rfl,HB.out⟩
    ·have Ch4:=upto_any o 100
     rw[h4]at Ch4
     cases h5:e==2
     ·cases h6:e==4
      ·have HE:latt k l e t a b o s=false:=by simp[latt,h1,h2,h3,h4,h5,h6]
       rw[HE]
       clear HE
       go_enter Tryz.func49,Tryz.ntmps49
       go_wp2_with (rw[HW.out])
       refine(Ch1 _).mono ?_
       rintro e0 w0 ⟨rfl,rfl⟩
       go_wp2_with fail
       refine(Ch2 _).mono ?_
       rintro e0 w0 ⟨rfl,rfl⟩
       go_wp2_with fail
       refine(Ch3 _).mono ?_
       rintro e0 w0 ⟨rfl,rfl⟩
       go_wp2_with fail
       refine(Ch4 _).mono ?_
       rintro e0 w0 ⟨rfl,rfl⟩
       go_wp2_with fail
       go_ret
       exact⟨rfl,HB.out⟩
      ·cases h7:a==131072
       ·cases h8:a==524288
        ·have HE:latt k l e t a b o s=false:=by simp[latt,h1,h2,h3,h4,h5,h6,h7,h8]
         rw[HE]
         clear HE
         go_enter Tryz.func49,Tryz.ntmps49
         go_wp2_with (rw[HW.out])
         refine(Ch1 _).mono ?_
         rintro e0 w0 ⟨rfl,rfl⟩
         go_wp2_with fail
         refine(Ch2 _).mono ?_
         rintro e0 w0 ⟨rfl,rfl⟩
         go_wp2_with fail
         refine(Ch3 _).mono ?_
         rintro e0 w0 ⟨rfl,rfl⟩
         go_wp2_with fail
         refine(Ch4 _).mono ?_
         rintro e0 w0 ⟨rfl,rfl⟩
         go_wp2_with fail
         go_ret
         exact⟨rfl,HB.out⟩
        ·cases h9:okg b
         ·have Ch9:=gamma_any b
          rw[h9]at Ch9
          have HE:latt k l e t a b o s=false:=by simp[latt,h1,h2,h3,h4,h5,h6,h7,h8,h9]
          rw[HE]
          clear HE
          go_enter Tryz.func49,Tryz.ntmps49
          go_wp2_with (rw[HW.out])
          refine(Ch1 _).mono ?_
          rintro e0 w0 ⟨rfl,rfl⟩
          go_wp2_with fail
          refine(Ch2 _).mono ?_
          rintro e0 w0 ⟨rfl,rfl⟩
          go_wp2_with fail
          refine(Ch3 _).mono ?_
          rintro e0 w0 ⟨rfl,rfl⟩
          go_wp2_with fail
          refine(Ch4 _).mono ?_
          rintro e0 w0 ⟨rfl,rfl⟩
          go_wp2_with fail
          refine(Ch9 _).mono ?_
          rintro e0 w0 ⟨rfl,rfl⟩
          go_wp2_with fail
          go_ret
          exact⟨rfl,HB.out⟩
         ·have Ch9:=gamma_any b
          rw[h9]at Ch9
          cases h10:s==128
          ·cases h11:s==192
           ·cases h12:s==256
            ·have HE:latt k l e t a b o s=false:=by simp[latt,h1,h2,h3,h4,h5,h6,h7,h8,h9,h10,h11,h12]
             rw[HE]
             clear HE
             go_enter Tryz.func49,Tryz.ntmps49
             go_wp2_with (rw[HW.out])
             refine(Ch1 _).mono ?_
             rintro e0 w0 ⟨rfl,rfl⟩
             go_wp2_with fail
             refine(Ch2 _).mono ?_
             rintro e0 w0 ⟨rfl,rfl⟩
             go_wp2_with fail
             refine(Ch3 _).mono ?_
             rintro e0 w0 ⟨rfl,rfl⟩
             go_wp2_with fail
             refine(Ch4 _).mono ?_
             rintro e0 w0 ⟨rfl,rfl⟩
             go_wp2_with fail
             refine(Ch9 _).mono ?_
             rintro e0 w0 ⟨rfl,rfl⟩
             go_wp2_with fail
             go_ret
             exact⟨rfl,HB.out⟩
            ·have HE:latt k l e t a b o s=true:=by simp[latt,h1,h2,h3,h4,h5,h6,h7,h8,h9,h10,h11,h12]
             rw[HE]
             clear HE
             go_enter Tryz.func49,Tryz.ntmps49
             go_wp2_with (rw[HW.out])
             refine(Ch1 _).mono ?_
             rintro e0 w0 ⟨rfl,rfl⟩
             go_wp2_with fail
             refine(Ch2 _).mono ?_
             rintro e0 w0 ⟨rfl,rfl⟩
             go_wp2_with fail
             refine(Ch3 _).mono ?_
             rintro e0 w0 ⟨rfl,rfl⟩
             go_wp2_with fail
             refine(Ch4 _).mono ?_
             rintro e0 w0 ⟨rfl,rfl⟩
             go_wp2_with fail
             refine(Ch9 _).mono ?_
             rintro e0 w0 ⟨rfl,rfl⟩
             go_wp2_with fail
             go_ret
             exact⟨rfl,HB.out⟩
           ·have HE:latt k l e t a b o s=true:=by simp[latt,h1,h2,h3,h4,h5,h6,h7,h8,h9,h10,h11]
            rw[HE]
            clear HE
            go_enter Tryz.func49,Tryz.ntmps49
            go_wp2_with (rw[HW.out])
            refine(Ch1 _).mono ?_
            rintro e0 w0 ⟨rfl,rfl⟩
            go_wp2_with fail
            refine(Ch2 _).mono ?_
            rintro e0 w0 ⟨rfl,rfl⟩
            go_wp2_with fail
            refine(Ch3 _).mono ?_
            rintro e0 w0 ⟨rfl,rfl⟩
            go_wp2_with fail
            refine(Ch4 _).mono ?_
            rintro e0 w0 ⟨rfl,rfl⟩
            go_wp2_with fail
            refine(Ch9 _).mono ?_
            rintro e0 w0 ⟨rfl,rfl⟩
            go_wp2_with fail
            go_ret
            exact⟨rfl,HB.out⟩
          ·have HE:latt k l e t a b o s=true:=by simp[latt,h1,h2,h3,h4,h5,h6,h7,h8,h9,h10]
           rw[HE]
           clear HE
           go_enter Tryz.func49,Tryz.ntmps49
           go_wp2_with (rw[HW.out])
           refine(Ch1 _).mono ?_
           rintro e0 w0 ⟨rfl,rfl⟩
           go_wp2_with fail
           refine(Ch2 _).mono ?_
           rintro e0 w0 ⟨rfl,rfl⟩
           go_wp2_with fail
           refine(Ch3 _).mono ?_
           rintro e0 w0 ⟨rfl,rfl⟩
           go_wp2_with fail
           refine(Ch4 _).mono ?_
           rintro e0 w0 ⟨rfl,rfl⟩
           go_wp2_with fail
           refine(Ch9 _).mono ?_
           rintro e0 w0 ⟨rfl,rfl⟩
           go_wp2_with fail
           go_ret
           exact⟨rfl,HB.out⟩
       ·cases h13:okg b
        ·have Ch13:=gamma_any b
         rw[h13]at Ch13
         have HE:latt k l e t a b o s=false:=by simp[latt,h1,h2,h3,h4,h5,h6,h7,h13]
         rw[HE]
         clear HE
         go_enter Tryz.func49,Tryz.ntmps49
         go_wp2_with (rw[HW.out])
         refine(Ch1 _).mono ?_
         rintro e0 w0 ⟨rfl,rfl⟩
         go_wp2_with fail
         refine(Ch2 _).mono ?_
         rintro e0 w0 ⟨rfl,rfl⟩
         go_wp2_with fail
         refine(Ch3 _).mono ?_
         rintro e0 w0 ⟨rfl,rfl⟩
         go_wp2_with fail
         refine(Ch4 _).mono ?_
         rintro e0 w0 ⟨rfl,rfl⟩
         go_wp2_with fail
         refine(Ch13 _).mono ?_
         rintro e0 w0 ⟨rfl,rfl⟩
         go_wp2_with fail
         go_ret
         exact⟨rfl,HB.out⟩
        ·have Ch13:=gamma_any b
         rw[h13]at Ch13
         cases h14:s==128
         ·cases h15:s==192
          ·cases h16:s==256
           ·have HE:latt k l e t a b o s=false:=by simp[latt,h1,h2,h3,h4,h5,h6,h7,h13,h14,h15,h16]
            rw[HE]
            clear HE
            go_enter Tryz.func49,Tryz.ntmps49
            go_wp2_with (rw[HW.out])
            refine(Ch1 _).mono ?_
            rintro e0 w0 ⟨rfl,rfl⟩
            go_wp2_with fail
            refine(Ch2 _).mono ?_
            rintro e0 w0 ⟨rfl,rfl⟩
            go_wp2_with fail
            refine(Ch3 _).mono ?_
            rintro e0 w0 ⟨rfl,rfl⟩
            go_wp2_with fail
            refine(Ch4 _).mono ?_
            rintro e0 w0 ⟨rfl,rfl⟩
            go_wp2_with fail
            refine(Ch13 _).mono ?_
            rintro e0 w0 ⟨rfl,rfl⟩
            go_wp2_with fail
            go_ret
            exact⟨rfl,HB.out⟩
           ·have HE:latt k l e t a b o s=true:=by simp[latt,h1,h2,h3,h4,h5,h6,h7,h13,h14,h15,h16]
            rw[HE]
            clear HE
            go_enter Tryz.func49,Tryz.ntmps49
            go_wp2_with (rw[HW.out])
            refine(Ch1 _).mono ?_
            rintro e0 w0 ⟨rfl,rfl⟩
            go_wp2_with fail
            refine(Ch2 _).mono ?_
            rintro e0 w0 ⟨rfl,rfl⟩
            go_wp2_with fail
            refine(Ch3 _).mono ?_
            rintro e0 w0 ⟨rfl,rfl⟩
            go_wp2_with fail
            refine(Ch4 _).mono ?_
            rintro e0 w0 ⟨rfl,rfl⟩
            go_wp2_with fail
            refine(Ch13 _).mono ?_
            rintro e0 w0 ⟨rfl,rfl⟩
            go_wp2_with fail
            go_ret
            exact⟨rfl,HB.out⟩
          ·have HE:latt k l e t a b o s=true:=by simp[latt,h1,h2,h3,h4,h5,h6,h7,h13,h14,h15]
           rw[HE]
           clear HE
           go_enter Tryz.func49,Tryz.ntmps49
           go_wp2_with (rw[HW.out])
           refine(Ch1 _).mono ?_
           rintro e0 w0 ⟨rfl,rfl⟩
           go_wp2_with fail
           refine(Ch2 _).mono ?_
           rintro e0 w0 ⟨rfl,rfl⟩
           go_wp2_with fail
           refine(Ch3 _).mono ?_
           rintro e0 w0 ⟨rfl,rfl⟩
           go_wp2_with fail
           refine(Ch4 _).mono ?_
           rintro e0 w0 ⟨rfl,rfl⟩
           go_wp2_with fail
           refine(Ch13 _).mono ?_
           rintro e0 w0 ⟨rfl,rfl⟩
           go_wp2_with fail
           go_ret
           exact⟨rfl,HB.out⟩
         ·have HE:latt k l e t a b o s=true:=by simp[latt,h1,h2,h3,h4,h5,h6,h7,h13,h14]
          rw[HE]
          clear HE
          go_enter Tryz.func49,Tryz.ntmps49
          go_wp2_with (rw[HW.out])
          refine(Ch1 _).mono ?_
          rintro e0 w0 ⟨rfl,rfl⟩
          go_wp2_with fail
          refine(Ch2 _).mono ?_
          rintro e0 w0 ⟨rfl,rfl⟩
          go_wp2_with fail
          refine(Ch3 _).mono ?_
          rintro e0 w0 ⟨rfl,rfl⟩
          go_wp2_with fail
          refine(Ch4 _).mono ?_
          rintro e0 w0 ⟨rfl,rfl⟩
          go_wp2_with fail
          refine(Ch13 _).mono ?_
          rintro e0 w0 ⟨rfl,rfl⟩
          go_wp2_with fail
          go_ret
          exact⟨rfl,HB.out⟩
     ·cases h17:a==131072
      ·cases h18:a==524288
       ·have HE:latt k l e t a b o s=false:=by simp[latt,h1,h2,h3,h4,h5,h17,h18]
        rw[HE]
        clear HE
        go_enter Tryz.func49,Tryz.ntmps49
        go_wp2_with (rw[HW.out])
        refine(Ch1 _).mono ?_
        rintro e0 w0 ⟨rfl,rfl⟩
        go_wp2_with fail
        refine(Ch2 _).mono ?_
        rintro e0 w0 ⟨rfl,rfl⟩
        go_wp2_with fail
        refine(Ch3 _).mono ?_
        rintro e0 w0 ⟨rfl,rfl⟩
        go_wp2_with fail
        refine(Ch4 _).mono ?_
        rintro e0 w0 ⟨rfl,rfl⟩
        go_wp2_with fail
        go_ret
        exact⟨rfl,HB.out⟩
       ·cases h19:okg b
        ·have Ch19:=gamma_any b
         rw[h19]at Ch19
         have HE:latt k l e t a b o s=false:=by simp[latt,h1,h2,h3,h4,h5,h17,h18,h19]
         rw[HE]
         clear HE
         go_enter Tryz.func49,Tryz.ntmps49
         go_wp2_with (rw[HW.out])
         refine(Ch1 _).mono ?_
         rintro e0 w0 ⟨rfl,rfl⟩
         go_wp2_with fail
         refine(Ch2 _).mono ?_
         rintro e0 w0 ⟨rfl,rfl⟩
         go_wp2_with fail
         refine(Ch3 _).mono ?_
         rintro e0 w0 ⟨rfl,rfl⟩
         go_wp2_with fail
         refine(Ch4 _).mono ?_
         rintro e0 w0 ⟨rfl,rfl⟩
         go_wp2_with fail
         refine(Ch19 _).mono ?_
         rintro e0 w0 ⟨rfl,rfl⟩
         go_wp2_with fail
         go_ret
         exact⟨rfl,HB.out⟩
        ·have Ch19:=gamma_any b
         rw[h19]at Ch19
         cases h20:s==128
         ·cases h21:s==192
          ·cases h22:s==256
           ·have HE:latt k l e t a b o s=false:=by simp[latt,h1,h2,h3,h4,h5,h17,h18,h19,h20,h21,h22]
            rw[HE]
            clear HE
            go_enter Tryz.func49,Tryz.ntmps49
            go_wp2_with (rw[HW.out])
            refine(Ch1 _).mono ?_
            rintro e0 w0 ⟨rfl,rfl⟩
            go_wp2_with fail
            refine(Ch2 _).mono ?_
            rintro e0 w0 ⟨rfl,rfl⟩
            go_wp2_with fail
            refine(Ch3 _).mono ?_
            rintro e0 w0 ⟨rfl,rfl⟩
            go_wp2_with fail
            refine(Ch4 _).mono ?_
            rintro e0 w0 ⟨rfl,rfl⟩
            go_wp2_with fail
            refine(Ch19 _).mono ?_
            rintro e0 w0 ⟨rfl,rfl⟩
            go_wp2_with fail
            go_ret
            exact⟨rfl,HB.out⟩
           ·have HE:latt k l e t a b o s=true:=by simp[latt,h1,h2,h3,h4,h5,h17,h18,h19,h20,h21,h22]
            rw[HE]
            clear HE
            go_enter Tryz.func49,Tryz.ntmps49
            go_wp2_with (rw[HW.out])
            refine(Ch1 _).mono ?_
            rintro e0 w0 ⟨rfl,rfl⟩
            go_wp2_with fail
            refine(Ch2 _).mono ?_
            rintro e0 w0 ⟨rfl,rfl⟩
            go_wp2_with fail
            refine(Ch3 _).mono ?_
            rintro e0 w0 ⟨rfl,rfl⟩
            go_wp2_with fail
            refine(Ch4 _).mono ?_
            rintro e0 w0 ⟨rfl,rfl⟩
            go_wp2_with fail
            refine(Ch19 _).mono ?_
            rintro e0 w0 ⟨rfl,rfl⟩
            go_wp2_with fail
            go_ret
            exact⟨rfl,HB.out⟩
          ·have HE:latt k l e t a b o s=true:=by simp[latt,h1,h2,h3,h4,h5,h17,h18,h19,h20,h21]
           rw[HE]
           clear HE
           go_enter Tryz.func49,Tryz.ntmps49
           go_wp2_with (rw[HW.out])
           refine(Ch1 _).mono ?_
           rintro e0 w0 ⟨rfl,rfl⟩
           go_wp2_with fail
           refine(Ch2 _).mono ?_
           rintro e0 w0 ⟨rfl,rfl⟩
           go_wp2_with fail
           refine(Ch3 _).mono ?_
           rintro e0 w0 ⟨rfl,rfl⟩
           go_wp2_with fail
           refine(Ch4 _).mono ?_
           rintro e0 w0 ⟨rfl,rfl⟩
           go_wp2_with fail
           refine(Ch19 _).mono ?_
           rintro e0 w0 ⟨rfl,rfl⟩
           go_wp2_with fail
           go_ret
           exact⟨rfl,HB.out⟩
         ·have HE:latt k l e t a b o s=true:=by simp[latt,h1,h2,h3,h4,h5,h17,h18,h19,h20]
          rw[HE]
          clear HE
          go_enter Tryz.func49,Tryz.ntmps49
          go_wp2_with (rw[HW.out])
          refine(Ch1 _).mono ?_
          rintro e0 w0 ⟨rfl,rfl⟩
          go_wp2_with fail
          refine(Ch2 _).mono ?_
          rintro e0 w0 ⟨rfl,rfl⟩
          go_wp2_with fail
          refine(Ch3 _).mono ?_
          rintro e0 w0 ⟨rfl,rfl⟩
          go_wp2_with fail
          refine(Ch4 _).mono ?_
          rintro e0 w0 ⟨rfl,rfl⟩
          go_wp2_with fail
          refine(Ch19 _).mono ?_
          rintro e0 w0 ⟨rfl,rfl⟩
          go_wp2_with fail
          go_ret
          exact⟨rfl,HB.out⟩
      ·cases h23:okg b
       ·have Ch23:=gamma_any b
        rw[h23]at Ch23
        have HE:latt k l e t a b o s=false:=by simp[latt,h1,h2,h3,h4,h5,h17,h23]
        rw[HE]
        clear HE
        go_enter Tryz.func49,Tryz.ntmps49
        go_wp2_with (rw[HW.out])
        refine(Ch1 _).mono ?_
        rintro e0 w0 ⟨rfl,rfl⟩
        go_wp2_with fail
        refine(Ch2 _).mono ?_
        rintro e0 w0 ⟨rfl,rfl⟩
        go_wp2_with fail
        refine(Ch3 _).mono ?_
        rintro e0 w0 ⟨rfl,rfl⟩
        go_wp2_with fail
        refine(Ch4 _).mono ?_
        rintro e0 w0 ⟨rfl,rfl⟩
        go_wp2_with fail
        refine(Ch23 _).mono ?_
        rintro e0 w0 ⟨rfl,rfl⟩
        go_wp2_with fail
        go_ret
        exact⟨rfl,HB.out⟩
       ·have Ch23:=gamma_any b
        rw[h23]at Ch23
        cases h24:s==128
        ·cases h25:s==192
         ·cases h26:s==256
          ·have HE:latt k l e t a b o s=false:=by simp[latt,h1,h2,h3,h4,h5,h17,h23,h24,h25,h26]
           rw[HE]
           clear HE
           go_enter Tryz.func49,Tryz.ntmps49
           go_wp2_with (rw[HW.out])
           refine(Ch1 _).mono ?_
           rintro e0 w0 ⟨rfl,rfl⟩
           go_wp2_with fail
           refine(Ch2 _).mono ?_
           rintro e0 w0 ⟨rfl,rfl⟩
           go_wp2_with fail
           refine(Ch3 _).mono ?_
           rintro e0 w0 ⟨rfl,rfl⟩
           go_wp2_with fail
           refine(Ch4 _).mono ?_
           rintro e0 w0 ⟨rfl,rfl⟩
           go_wp2_with fail
           refine(Ch23 _).mono ?_
           rintro e0 w0 ⟨rfl,rfl⟩
           go_wp2_with fail
           go_ret
           exact⟨rfl,HB.out⟩
          ·have HE:latt k l e t a b o s=true:=by simp[latt,h1,h2,h3,h4,h5,h17,h23,h24,h25,h26]
           rw[HE]
           clear HE
           go_enter Tryz.func49,Tryz.ntmps49
           go_wp2_with (rw[HW.out])
           refine(Ch1 _).mono ?_
           rintro e0 w0 ⟨rfl,rfl⟩
           go_wp2_with fail
           refine(Ch2 _).mono ?_
           rintro e0 w0 ⟨rfl,rfl⟩
           go_wp2_with fail
           refine(Ch3 _).mono ?_
           rintro e0 w0 ⟨rfl,rfl⟩
           go_wp2_with fail
           refine(Ch4 _).mono ?_
           rintro e0 w0 ⟨rfl,rfl⟩
           go_wp2_with fail
           refine(Ch23 _).mono ?_
           rintro e0 w0 ⟨rfl,rfl⟩
           go_wp2_with fail
           go_ret
           exact⟨rfl,HB.out⟩
         ·have HE:latt k l e t a b o s=true:=by simp[latt,h1,h2,h3,h4,h5,h17,h23,h24,h25]
          rw[HE]
          clear HE
          go_enter Tryz.func49,Tryz.ntmps49
          go_wp2_with (rw[HW.out])
          refine(Ch1 _).mono ?_
          rintro e0 w0 ⟨rfl,rfl⟩
          go_wp2_with fail
          refine(Ch2 _).mono ?_
          rintro e0 w0 ⟨rfl,rfl⟩
          go_wp2_with fail
          refine(Ch3 _).mono ?_
          rintro e0 w0 ⟨rfl,rfl⟩
          go_wp2_with fail
          refine(Ch4 _).mono ?_
          rintro e0 w0 ⟨rfl,rfl⟩
          go_wp2_with fail
          refine(Ch23 _).mono ?_
          rintro e0 w0 ⟨rfl,rfl⟩
          go_wp2_with fail
          go_ret
          exact⟨rfl,HB.out⟩
        ·have HE:latt k l e t a b o s=true:=by simp[latt,h1,h2,h3,h4,h5,h17,h23,h24]
         rw[HE]
         clear HE
         go_enter Tryz.func49,Tryz.ntmps49
         go_wp2_with (rw[HW.out])
         refine(Ch1 _).mono ?_
         rintro e0 w0 ⟨rfl,rfl⟩
         go_wp2_with fail
         refine(Ch2 _).mono ?_
         rintro e0 w0 ⟨rfl,rfl⟩
         go_wp2_with fail
         refine(Ch3 _).mono ?_
         rintro e0 w0 ⟨rfl,rfl⟩
         go_wp2_with fail
         refine(Ch4 _).mono ?_
         rintro e0 w0 ⟨rfl,rfl⟩
         go_wp2_with fail
         refine(Ch23 _).mono ?_
         rintro e0 w0 ⟨rfl,rfl⟩
         go_wp2_with fail
         go_ret
         exact⟨rfl,HB.out⟩
end rright
end Go.Proofs.YtomphjajkkddkaaGreatDoor
namespace Go.Proofs.YtomphjajkkddkaaGreatDoor
namespace rpart
open Go Go.RowKit
open arr mem fldm fld1 rndm
theorem parts_bad (x g:Int) (w:World) (h:okg g=false):Calls Tryz.prog 142 #[.int .i64 x,.int .i64 g] w fun e w'=>e=.returned (.tuple #[.int .i64 0,.int .i64 0])∧w'=w:=by
 have Hg:=gamma_any g
 rw[h]at Hg
 go_enter Tryz.func142,Tryz.ntmps142
 go_wp2_with fail
 refine(Hg _).mono ?_
 rintro e w1 ⟨rfl,rfl⟩
 go_wp2_with fail
 go_ret2
 exact⟨rfl,rfl⟩
theorem parts_95232 (x:Int) (w:World):Calls Tryz.prog 142 #[.int .i64 x,.int .i64 95232] w fun e w'=>e=.returned (.tuple #[.int .i64 (hgh 95232 x),.int .i64 (lw 95232 x)])∧w'=w:=by
 have hb:=pl_95232 x
 have HH:Away (hgh 95232 x=if x%8380417-pl 95232 x=8380416 then 0 else (x%8380417-pl 95232 x) / (2*95232)):=⟨by unfold hgh;rw[if_pos okg_a]⟩
 have HL:Away (lw 95232 x=if x%8380417-pl 95232 x=8380416 then pl 95232 x-1 else pl 95232 x):=⟨by unfold lw;rw[if_pos okg_a]⟩
 obtain⟨hv,Hhv⟩:=ex_eq (hgh 95232 x)
 obtain⟨lv,Hlv⟩:=ex_eq (lw 95232 x)
 rw[Hhv.out]at HH ⊢
 rw[Hlv.out]at HL ⊢
 have Hg:∀ w1:World,Calls Tryz.prog 103 #[.int .i64 95232] w1 fun e w'=>e=.returned (.bool true)∧w'=w1:=fun w1=>by have h:=gamma_any 95232 w1;rw[okg_a]at h;exact h
 have Hr:=reduce_any x
 have Hc:=centre_any (x%8380417) 190464
 rw[show ce 190464 (x%8380417)=pl 95232 x from rfl]at Hc
 obtain⟨l,hl⟩:=ex_eq (pl 95232 x)
 rw[hl.out]at HH HL Hc hb
 have hrb : 0≤x%8380417∧x%8380417<8380417:=by omega
 obtain⟨r,hr⟩:=ex_eq (x%8380417)
 rw[hr.out]at HH HL Hc hb Hr hrb
 obtain⟨d,hd⟩:∃ d,r-l=d:=⟨_,rfl⟩
 have f1:IntKind.i64.wrap (r-l)=d:=by rw[hd,IntKind.wrap_i64];omega
 have f2:IntKind.i64.wrap (l-1)=l-1:=by rw[IntKind.wrap_i64];omega
 rw[hd]at HH HL hb
 have hdb : 0≤d∧d<8480417+95232:=by omega
 clear hd
 by_cases h1:d=8380416
 ·obtain rfl:hv=0:=by rw[HH.out,if_pos h1]
  obtain rfl:lv=l-1:=by rw[HL.out,if_pos h1]
  subst h1
  clear HH HL hb hr hl
  go_enter Tryz.func142,Tryz.ntmps142
  go_wp2_with fail
  refine(Hg _).mono ?_
  rintro e w1 ⟨rfl,rfl⟩
  go_wp2_with fail
  refine(Hr _).mono ?_
  rintro e w1 ⟨rfl,rfl⟩
  go_wp2_with fail
  refine(Hc _).mono ?_
  rintro e w1 ⟨rfl,rfl⟩
  go_wp2_with fail
  go_ret2
  exact⟨rfl,rfl⟩
 ·have hq:d.tdiv 190464=hv:=by rw[HH.out,if_neg h1,Int.tdiv_eq_ediv_of_nonneg hdb.1];rfl
  have hq2:d / 190464=hv:=by rw[HH.out,if_neg h1];rfl
  have hw:IntKind.i64.wrap hv=hv:=by rw[←hq2,IntKind.wrap_i64];omega
  obtain rfl:lv=l:=by rw[HL.out,if_neg h1]
  have h2:(d==8380416)=false:=beq_eq_false_iff_ne.2 h1
  clear HH HL hb hr hl h1
  go_enter Tryz.func142,Tryz.ntmps142
  go_wp2_with fail
  refine(Hg _).mono ?_
  rintro e w1 ⟨rfl,rfl⟩
  go_wp2_with fail
  refine(Hr _).mono ?_
  rintro e w1 ⟨rfl,rfl⟩
  go_wp2_with fail
  refine(Hc _).mono ?_
  rintro e w1 ⟨rfl,rfl⟩
  go_wp2_with fail
  go_ret2
  exact⟨rfl,rfl⟩
theorem parts_261888 (x:Int) (w:World):Calls Tryz.prog 142 #[.int .i64 x,.int .i64 261888] w fun e w'=>e=.returned (.tuple #[.int .i64 (hgh 261888 x),.int .i64 (lw 261888 x)])∧w'=w:=by
 have hb:=pl_261888 x
 have HH:Away (hgh 261888 x=if x%8380417-pl 261888 x=8380416 then 0 else (x%8380417-pl 261888 x) / (2*261888)):=⟨by unfold hgh;rw[if_pos okg_b]⟩
 have HL:Away (lw 261888 x=if x%8380417-pl 261888 x=8380416 then pl 261888 x-1 else pl 261888 x):=⟨by unfold lw;rw[if_pos okg_b]⟩
 obtain⟨hv,Hhv⟩:=ex_eq (hgh 261888 x)
 obtain⟨lv,Hlv⟩:=ex_eq (lw 261888 x)
 rw[Hhv.out]at HH ⊢
 rw[Hlv.out]at HL ⊢
 have Hg:∀ w1:World,Calls Tryz.prog 103 #[.int .i64 261888] w1 fun e w'=>e=.returned (.bool true)∧w'=w1:=fun w1=>by have h:=gamma_any 261888 w1;rw[okg_b]at h;exact h
 have Hr:=reduce_any x
 have Hc:=centre_any (x%8380417) 523776
 rw[show ce 523776 (x%8380417)=pl 261888 x from rfl]at Hc
 obtain⟨l,hl⟩:=ex_eq (pl 261888 x)
 rw[hl.out]at HH HL Hc hb
 have hrb : 0≤x%8380417∧x%8380417<8380417:=by omega
 obtain⟨r,hr⟩:=ex_eq (x%8380417)
 rw[hr.out]at HH HL Hc hb Hr hrb
 obtain⟨d,hd⟩:∃ d,r-l=d:=⟨_,rfl⟩
 have f1:IntKind.i64.wrap (r-l)=d:=by rw[hd,IntKind.wrap_i64];omega
 have f2:IntKind.i64.wrap (l-1)=l-1:=by rw[IntKind.wrap_i64];omega
 rw[hd]at HH HL hb
 have hdb : 0≤d∧d<8480417+261888:=by omega
 clear hd
 by_cases h1:d=8380416
 ·obtain rfl:hv=0:=by rw[HH.out,if_pos h1]
  obtain rfl:lv=l-1:=by rw[HL.out,if_pos h1]
  subst h1
  clear HH HL hb hr hl
  go_enter Tryz.func142,Tryz.ntmps142
  go_wp2_with fail
  refine(Hg _).mono ?_
  rintro e w1 ⟨rfl,rfl⟩
  go_wp2_with fail
  refine(Hr _).mono ?_
  rintro e w1 ⟨rfl,rfl⟩
  go_wp2_with fail
  refine(Hc _).mono ?_
  rintro e w1 ⟨rfl,rfl⟩
  go_wp2_with fail
  go_ret2
  exact⟨rfl,rfl⟩
 ·have hq:d.tdiv 523776=hv:=by rw[HH.out,if_neg h1,Int.tdiv_eq_ediv_of_nonneg hdb.1];rfl
  have hq2:d / 523776=hv:=by rw[HH.out,if_neg h1];rfl
  have hw:IntKind.i64.wrap hv=hv:=by rw[←hq2,IntKind.wrap_i64];omega
  obtain rfl:lv=l:=by rw[HL.out,if_neg h1]
  have h2:(d==8380416)=false:=beq_eq_false_iff_ne.2 h1
  clear HH HL hb hr hl h1
  go_enter Tryz.func142,Tryz.ntmps142
  go_wp2_with fail
  refine(Hg _).mono ?_
  rintro e w1 ⟨rfl,rfl⟩
  go_wp2_with fail
  refine(Hr _).mono ?_
  rintro e w1 ⟨rfl,rfl⟩
  go_wp2_with fail
  refine(Hc _).mono ?_
  rintro e w1 ⟨rfl,rfl⟩
  go_wp2_with fail
  go_ret2
  exact⟨rfl,rfl⟩
theorem parts_any (x g:Int) (w:World):Calls Tryz.prog 142 #[.int .i64 x,.int .i64 g] w fun e w'=>e=.returned (.tuple #[.int .i64 (hgh g x),.int .i64 (lw g x)])∧w'=w:=by
 cases h:okg g
 ·rw[hgh_bad h,lw_bad h];exact parts_bad x g w h
 ·rcases okg_of h with rfl | rfl
  ·exact parts_95232 x w
  ·exact parts_261888 x w
end rpart
end Go.Proofs.YtomphjajkkddkaaGreatDoor
namespace Go.Proofs.YtomphjajkkddkaaGreatDoor
namespace rhigh
open Go Go.RowKit
open arr mem stil polys polt fldm fld1 rndm rpart
theorem high_any (f:Nat→Int) (g:Int) (w:World):
 Calls Tryz.prog 202 #[.agg (FL .i64 256 f),.int .i64 g] w fun e w'=>e=.returned (.agg (FL .i64 256 fun i=>hgh g (f i)))∧Below w.heap.size w w':=by
 obtain⟨hz,hsize⟩:=zero_of_info infoP
 obtain⟨z,HZ⟩:=ex_eq (FL .i64 256 fun _=>0)
 rw[HZ.out]at hz
 have Hzs:Away (z.size=256):=⟨by rw[←HZ.out];exact fl_size _ _ _⟩
 obtain⟨F,HF⟩:∃ F:Nat→Int,Away (F=fun i=>hgh g (f i)):=⟨_,⟨rfl⟩⟩
 have hFi:∀ i,F i=(fun i=>hgh g (f i)) i:=fun i=>by rw[HF.out]
 have HFi:=Away.mk hFi
 rw[←HF.out]
 clear HF hFi
 obtain⟨R,HR⟩:=ex_eq (FL .i64 256 F)
 have Ri:Away ((Tryz.prog.info? 76).map (·.size)=some R.size):=⟨by rw[←HR.out,fl_size];exact hsize⟩
 have Ro:Away (R.all (·.oneCell')=true):=⟨by rw[←HR.out];exact fl_one _ _ _⟩
 have Rz:Away (z.size=R.size):=⟨by rw[Hzs.out,←HR.out,fl_size]⟩
 obtain⟨I,HI⟩:=ex_eq (FL .i64 256 f)
 have Ii:Away ((Tryz.prog.info? 76).map (·.size)=some I.size):=⟨by rw[←HI.out,fl_size];exact hsize⟩
 rw[HR.out,HI.out]
 clear hsize
 have Hix:Away (∀ (i:Nat),i<256→∀ w1:World,(Instr.index 76 (.agg I) (.int .i64 (i:Int))).run Tryz.prog w1=.ok (.int .i64 (f i)) w1):=⟨fun i hi w1=>by rw[←HI.out];exact index_poly f i hi w1⟩
 go_enter Tryz.func202,Tryz.ntmps202
 go_wp2_with fail
 clear hz
 obtain⟨W,hW⟩:∃ x,(w.alloc (.cells I 76)).alloc (.cells z 76)=x:=⟨_,rfl⟩
 obtain⟨b0,b1,hWs,hWb⟩:=two hW
 rw[hW]
 clear hW
 have B0:=Away.mk b0
 have B1:=Away.mk b1
 have HWs:Away (w.heap.size+2≤W.heap.size):=⟨by omega⟩
 have HWb:=Away.mk hWb
 clear hWs hWb b0 b1
 refine wp_load_row 76 _ rfl w.heap.size rfl 76 I (0,0) _ B0.out Tryz.underlying76 rfl Ii.out ?_
 go_wp2_with fail
 go_loopw [8] (fun v wr=>∃ i:Nat,i≤256∧v=.int .i64 (i:Int)∧Away (At w.heap.size (FL .i64 256 (pt F f i)) 76 W wr)) (fun v _=>256-(intOf v).toNat)
 case atStart=>exact⟨0,Nat.zero_le _,rfl,⟨by rw[pt_zero,HI.out];exact At.refl B0.out⟩⟩
 case round=>
  obtain⟨i,hi,rfl,A0⟩:=hrel
  by_cases hlt:i<256
  ·have hiz:(i:Int)<256:=by omega
   have hx0:=Hix.out i hlt wr
   obtain⟨x,hx⟩:∃ x,f i=x:=⟨_,rfl⟩
   rw[hx]at hx0
   have HV:Away (F i=hgh g x):=⟨by rw[HFi.out,hx]⟩
   have Hp:=parts_any x g
   obtain⟨h0,hh0⟩:=ex_eq (hgh g x)
   obtain⟨l0,hl0⟩:=ex_eq (lw g x)
   rw[hh0.out,hl0.out]at Hp
   have HU:Away (upd (pt F f i) i h0=pt F f (i+1)):=⟨pt_upd F f i h0 (by rw[HV.out,hh0.out])⟩
   clear hx
   go_wp2_with fail
   refine(Hp _).mono ?_
   rintro e w1 ⟨rfl,rfl⟩
   go_wp2_with ((with_reducible refine wpList_put2 A0 rfl _ _ _ rfl rfl ?_);refine⟨_,_,_,rfl,rfl,rfl,by rw[fl_size];exact hlt,?_⟩;intro wn HR2;rw[fl_set,HU.out]at HR2)
   go_roundw
   case rel=>exact⟨i+1,by omega,by go_num,HR2⟩
   case measure=>simp[intOf];omega
  ·obtain rfl:i=256:=by omega
   simp only[Int.cast_ofNat_Int]
   rw[fl_all,HR.out]at A0
   have Hrow:=Away.mk A0.out.row
   have Hres:Away (wr.heap[w.heap.size+1]? = some (.cells z 76 (0,0))):=⟨A0.out.other (by have:=HWs.out;omega) (by omega) B1.out⟩
   have HB:Away (Below w.heap.size w wr):=⟨HWb.out.trans (A0.out.below (by have:=HWs.out;omega) (Nat.le_refl _))⟩
   clear A0
   go_wp2_with (first
    | (refine wpList_load_row rfl 76 _ rfl w.heap.size rfl 76 R (0,0) _ Hrow.out Tryz.underlying76 rfl Ri.out ?_)
    | (refine wpList_store_row rfl 76 _ _ rfl (w.heap.size+1) R rfl rfl 76 _ Hres.out Ri.out Rz.out Ro.out ?_))
   refine bodyPost_ret_by (v:=.agg R) (results_cell_row rfl _ _ (w.heap.size+1) 76 _ (0,0) _ rfl (setRow_heap _ _ _ _ _ _ Hres.out) Tryz.underlying76 rfl Ri.out) rfl ?_
   exact⟨rfl,HB.out.trans (below_setRow _ _ _ (by omega))⟩
end rhigh
end Go.Proofs.YtomphjajkkddkaaGreatDoor
namespace Go.Proofs.YtomphjajkkddkaaGreatDoor
namespace kecf
open kstep (Z)
open kecm keca spgm rspd
def st {α : Type} (n:Nat) (k:Nat → α) : α := match n with
 | 0=>k 0
 | m+1=>k m.succ
theorem st_eq {α : Type} (n:Nat) (k:Nat → α):st n k=k n:=by cases n<;>rfl
def sl {α : Type}:List Nat→(List Nat → α) → α
 | [],k=>k []
 | x :: r,k=>st x fun x=>sl r fun r=>k (x :: r)
theorem sl_eq {α : Type} (l:List Nat) (k:List Nat → α):sl l k=k l:=by
 induction l generalizing k with
 | nil=>rfl
 | cons x r ih=>rw[sl,st_eq,ih]
def mixS {α : Type} (k:List Nat → α):List Nat → α
 | [a0,a1,a2,a3,a4,a5,a6,a7,a8,a9,a10,a11,a12,a13,a14,a15,a16,a17,a18,a19,a20,a21,a22,a23,a24]=>
  st (Nat.xor (Nat.xor (Nat.xor (Nat.xor a0 a5) a10) a15) a20) fun c0=>
  st (Nat.xor (Nat.xor (Nat.xor (Nat.xor a1 a6) a11) a16) a21) fun c1=>
  st (Nat.xor (Nat.xor (Nat.xor (Nat.xor a2 a7) a12) a17) a22) fun c2=>
  st (Nat.xor (Nat.xor (Nat.xor (Nat.xor a3 a8) a13) a18) a23) fun c3=>
  st (Nat.xor (Nat.xor (Nat.xor (Nat.xor a4 a9) a14) a19) a24) fun c4=>
  st (Nat.xor c4 (Nat.lor (Nat.mod (Nat.mul c1 2) 18446744073709551616) (Nat.div c1 9223372036854775808))) fun d0=>
  st (Nat.xor c0 (Nat.lor (Nat.mod (Nat.mul c2 2) 18446744073709551616) (Nat.div c2 9223372036854775808))) fun d1=>
  st (Nat.xor c1 (Nat.lor (Nat.mod (Nat.mul c3 2) 18446744073709551616) (Nat.div c3 9223372036854775808))) fun d2=>
  st (Nat.xor c2 (Nat.lor (Nat.mod (Nat.mul c4 2) 18446744073709551616) (Nat.div c4 9223372036854775808))) fun d3=>
  st (Nat.xor c3 (Nat.lor (Nat.mod (Nat.mul c0 2) 18446744073709551616) (Nat.div c0 9223372036854775808))) fun d4=>
  st (Nat.xor a0 d0) fun m0=>
  st (Nat.xor a1 d1) fun m1=>
  st (Nat.xor a2 d2) fun m2=>
  st (Nat.xor a3 d3) fun m3=>
  st (Nat.xor a4 d4) fun m4=>
  st (Nat.xor a5 d0) fun m5=>
  st (Nat.xor a6 d1) fun m6=>
  st (Nat.xor a7 d2) fun m7=>
  st (Nat.xor a8 d3) fun m8=>
  st (Nat.xor a9 d4) fun m9=>
  st (Nat.xor a10 d0) fun m10=>
  st (Nat.xor a11 d1) fun m11=>
  st (Nat.xor a12 d2) fun m12=>
  st (Nat.xor a13 d3) fun m13=>
  st (Nat.xor a14 d4) fun m14=>
  st (Nat.xor a15 d0) fun m15=>
  st (Nat.xor a16 d1) fun m16=>
  st (Nat.xor a17 d2) fun m17=>
  st (Nat.xor a18 d3) fun m18=>
  st (Nat.xor a19 d4) fun m19=>
  st (Nat.xor a20 d0) fun m20=>
  st (Nat.xor a21 d1) fun m21=>
  st (Nat.xor a22 d2) fun m22=>
  st (Nat.xor a23 d3) fun m23=>
  st (Nat.xor a24 d4) fun m24=>
  k [m0,m1,m2,m3,m4,m5,m6,m7,m8,m9,m10,m11,m12,m13,m14,m15,m16,m17,m18,m19,m20,m21,m22,m23,m24]
 | _=>k []
def turnS {α : Type} (k:List Nat → α):List Nat → α
 | [a0,a1,a2,a3,a4,a5,a6,a7,a8,a9,a10,a11,a12,a13,a14,a15,a16,a17,a18,a19,a20,a21,a22,a23,a24]=>
  st (Nat.lor (Nat.mod (Nat.mul a0 1) 18446744073709551616) (Nat.div a0 18446744073709551616)) fun b0=>
  st (Nat.lor (Nat.mod (Nat.mul a6 17592186044416) 18446744073709551616) (Nat.div a6 1048576)) fun b1=>
  st (Nat.lor (Nat.mod (Nat.mul a12 8796093022208) 18446744073709551616) (Nat.div a12 2097152)) fun b2=>
  st (Nat.lor (Nat.mod (Nat.mul a18 2097152) 18446744073709551616) (Nat.div a18 8796093022208)) fun b3=>
  st (Nat.lor (Nat.mod (Nat.mul a24 16384) 18446744073709551616) (Nat.div a24 1125899906842624)) fun b4=>
  st (Nat.lor (Nat.mod (Nat.mul a3 268435456) 18446744073709551616) (Nat.div a3 68719476736)) fun b5=>
  st (Nat.lor (Nat.mod (Nat.mul a9 1048576) 18446744073709551616) (Nat.div a9 17592186044416)) fun b6=>
  st (Nat.lor (Nat.mod (Nat.mul a10 8) 18446744073709551616) (Nat.div a10 2305843009213693952)) fun b7=>
  st (Nat.lor (Nat.mod (Nat.mul a16 35184372088832) 18446744073709551616) (Nat.div a16 524288)) fun b8=>
  st (Nat.lor (Nat.mod (Nat.mul a22 2305843009213693952) 18446744073709551616) (Nat.div a22 8)) fun b9=>
  st (Nat.lor (Nat.mod (Nat.mul a1 2) 18446744073709551616) (Nat.div a1 9223372036854775808)) fun b10=>
  st (Nat.lor (Nat.mod (Nat.mul a7 64) 18446744073709551616) (Nat.div a7 288230376151711744)) fun b11=>
  st (Nat.lor (Nat.mod (Nat.mul a13 33554432) 18446744073709551616) (Nat.div a13 549755813888)) fun b12=>
  st (Nat.lor (Nat.mod (Nat.mul a19 256) 18446744073709551616) (Nat.div a19 72057594037927936)) fun b13=>
  st (Nat.lor (Nat.mod (Nat.mul a20 262144) 18446744073709551616) (Nat.div a20 70368744177664)) fun b14=>
  st (Nat.lor (Nat.mod (Nat.mul a4 134217728) 18446744073709551616) (Nat.div a4 137438953472)) fun b15=>
  st (Nat.lor (Nat.mod (Nat.mul a5 68719476736) 18446744073709551616) (Nat.div a5 268435456)) fun b16=>
  st (Nat.lor (Nat.mod (Nat.mul a11 1024) 18446744073709551616) (Nat.div a11 18014398509481984)) fun b17=>
  st (Nat.lor (Nat.mod (Nat.mul a17 32768) 18446744073709551616) (Nat.div a17 562949953421312)) fun b18=>
  st (Nat.lor (Nat.mod (Nat.mul a23 72057594037927936) 18446744073709551616) (Nat.div a23 256)) fun b19=>
  st (Nat.lor (Nat.mod (Nat.mul a2 4611686018427387904) 18446744073709551616) (Nat.div a2 4)) fun b20=>
  st (Nat.lor (Nat.mod (Nat.mul a8 36028797018963968) 18446744073709551616) (Nat.div a8 512)) fun b21=>
  st (Nat.lor (Nat.mod (Nat.mul a14 549755813888) 18446744073709551616) (Nat.div a14 33554432)) fun b22=>
  st (Nat.lor (Nat.mod (Nat.mul a15 2199023255552) 18446744073709551616) (Nat.div a15 8388608)) fun b23=>
  st (Nat.lor (Nat.mod (Nat.mul a21 4) 18446744073709551616) (Nat.div a21 4611686018427387904)) fun b24=>
  k [b0,b1,b2,b3,b4,b5,b6,b7,b8,b9,b10,b11,b12,b13,b14,b15,b16,b17,b18,b19,b20,b21,b22,b23,b24]
 | _=>k []
def bendS {α : Type} (c:Nat) (k:List Nat → α):List Nat → α
 | [a0,a1,a2,a3,a4,a5,a6,a7,a8,a9,a10,a11,a12,a13,a14,a15,a16,a17,a18,a19,a20,a21,a22,a23,a24]=>
  st (Nat.xor (Nat.xor a0 (Nat.land (Nat.sub 18446744073709551615 a1) a2)) c) fun e0=>
  st (Nat.xor a1 (Nat.land (Nat.sub 18446744073709551615 a2) a3)) fun e1=>
  st (Nat.xor a2 (Nat.land (Nat.sub 18446744073709551615 a3) a4)) fun e2=>
  st (Nat.xor a3 (Nat.land (Nat.sub 18446744073709551615 a4) a0)) fun e3=>
  st (Nat.xor a4 (Nat.land (Nat.sub 18446744073709551615 a0) a1)) fun e4=>
  st (Nat.xor a5 (Nat.land (Nat.sub 18446744073709551615 a6) a7)) fun e5=>
  st (Nat.xor a6 (Nat.land (Nat.sub 18446744073709551615 a7) a8)) fun e6=>
  st (Nat.xor a7 (Nat.land (Nat.sub 18446744073709551615 a8) a9)) fun e7=>
  st (Nat.xor a8 (Nat.land (Nat.sub 18446744073709551615 a9) a5)) fun e8=>
  st (Nat.xor a9 (Nat.land (Nat.sub 18446744073709551615 a5) a6)) fun e9=>
  st (Nat.xor a10 (Nat.land (Nat.sub 18446744073709551615 a11) a12)) fun e10=>
  st (Nat.xor a11 (Nat.land (Nat.sub 18446744073709551615 a12) a13)) fun e11=>
  st (Nat.xor a12 (Nat.land (Nat.sub 18446744073709551615 a13) a14)) fun e12=>
  st (Nat.xor a13 (Nat.land (Nat.sub 18446744073709551615 a14) a10)) fun e13=>
  st (Nat.xor a14 (Nat.land (Nat.sub 18446744073709551615 a10) a11)) fun e14=>
  st (Nat.xor a15 (Nat.land (Nat.sub 18446744073709551615 a16) a17)) fun e15=>
  st (Nat.xor a16 (Nat.land (Nat.sub 18446744073709551615 a17) a18)) fun e16=>
  st (Nat.xor a17 (Nat.land (Nat.sub 18446744073709551615 a18) a19)) fun e17=>
  st (Nat.xor a18 (Nat.land (Nat.sub 18446744073709551615 a19) a15)) fun e18=>
  st (Nat.xor a19 (Nat.land (Nat.sub 18446744073709551615 a15) a16)) fun e19=>
  st (Nat.xor a20 (Nat.land (Nat.sub 18446744073709551615 a21) a22)) fun e20=>
  st (Nat.xor a21 (Nat.land (Nat.sub 18446744073709551615 a22) a23)) fun e21=>
  st (Nat.xor a22 (Nat.land (Nat.sub 18446744073709551615 a23) a24)) fun e22=>
  st (Nat.xor a23 (Nat.land (Nat.sub 18446744073709551615 a24) a20)) fun e23=>
  st (Nat.xor a24 (Nat.land (Nat.sub 18446744073709551615 a20) a21)) fun e24=>
  k [e0,e1,e2,e3,e4,e5,e6,e7,e8,e9,e10,e11,e12,e13,e14,e15,e16,e17,e18,e19,e20,e21,e22,e23,e24]
 | _=>k []
def permS {α : Type} (a:List Nat):List Nat→(List Nat → α) → α
 | [],k=>k a
 | c :: r,k=>mixS (turnS (bendS c fun a=>permS a r k)) a
theorem mixS_eq {α : Type} (k:List Nat → α) (a0 a1 a2 a3 a4 a5 a6 a7 a8 a9 a10 a11 a12 a13 a14 a15 a16 a17 a18 a19 a20 a21 a22 a23 a24:Nat):mixS k [a0,a1,a2,a3,a4,a5,a6,a7,a8,a9,a10,a11,a12,a13,a14,a15,a16,a17,a18,a19,a20,a21,a22,a23,a24]=k (mixL [a0,a1,a2,a3,a4,a5,a6,a7,a8,a9,a10,a11,a12,a13,a14,a15,a16,a17,a18,a19,a20,a21,a22,a23,a24]):=by
 simp only[mixS,st_eq]
 rfl
theorem turnS_eq {α : Type} (k:List Nat → α) (a0 a1 a2 a3 a4 a5 a6 a7 a8 a9 a10 a11 a12 a13 a14 a15 a16 a17 a18 a19 a20 a21 a22 a23 a24:Nat):turnS k [a0,a1,a2,a3,a4,a5,a6,a7,a8,a9,a10,a11,a12,a13,a14,a15,a16,a17,a18,a19,a20,a21,a22,a23,a24]=k (turnL (fun i=>TL.getD i 0) [a0,a1,a2,a3,a4,a5,a6,a7,a8,a9,a10,a11,a12,a13,a14,a15,a16,a17,a18,a19,a20,a21,a22,a23,a24]):=by
 simp only[turnS,st_eq]
 rfl
theorem bendS_eq {α : Type} (c:Nat) (k:List Nat → α) (a0 a1 a2 a3 a4 a5 a6 a7 a8 a9 a10 a11 a12 a13 a14 a15 a16 a17 a18 a19 a20 a21 a22 a23 a24:Nat):bendS c k [a0,a1,a2,a3,a4,a5,a6,a7,a8,a9,a10,a11,a12,a13,a14,a15,a16,a17,a18,a19,a20,a21,a22,a23,a24]=k (iota c (bendL [a0,a1,a2,a3,a4,a5,a6,a7,a8,a9,a10,a11,a12,a13,a14,a15,a16,a17,a18,a19,a20,a21,a22,a23,a24])):=by
 simp only[bendS,st_eq]
 rfl
theorem mix_all {α : Type} (k:List Nat → α) (a:List Nat) (h:a.length=25):mixS k a=k (mixL a):=
 (congrArg (mixS k) (mkS_eta h).symm).trans ((mixS_eq k (g a 0) (g a 1) (g a 2) (g a 3) (g a 4) (g a 5) (g a 6) (g a 7) (g a 8) (g a 9) (g a 10) (g a 11) (g a 12) (g a 13) (g a 14) (g a 15) (g a 16) (g a 17) (g a 18) (g a 19) (g a 20) (g a 21) (g a 22) (g a 23) (g a 24)).trans (congrArg (fun x=>k (mixL x)) (mkS_eta h)))
theorem turn_all {α : Type} (k:List Nat → α) (a:List Nat) (h:a.length=25):turnS k a=k (turnL (fun i=>TL.getD i 0) a):=
 (congrArg (turnS k) (mkS_eta h).symm).trans ((turnS_eq k (g a 0) (g a 1) (g a 2) (g a 3) (g a 4) (g a 5) (g a 6) (g a 7) (g a 8) (g a 9) (g a 10) (g a 11) (g a 12) (g a 13) (g a 14) (g a 15) (g a 16) (g a 17) (g a 18) (g a 19) (g a 20) (g a 21) (g a 22) (g a 23) (g a 24)).trans (congrArg (fun x=>k (turnL (fun i=>TL.getD i 0) x)) (mkS_eta h)))
theorem bend_all {α : Type} (c:Nat) (k:List Nat → α) (a:List Nat) (h:a.length=25):bendS c k a=k (iota c (bendL a)):=
 (congrArg (bendS c k) (mkS_eta h).symm).trans ((bendS_eq c k (g a 0) (g a 1) (g a 2) (g a 3) (g a 4) (g a 5) (g a 6) (g a 7) (g a 8) (g a 9) (g a 10) (g a 11) (g a 12) (g a 13) (g a 14) (g a 15) (g a 16) (g a 17) (g a 18) (g a 19) (g a 20) (g a 21) (g a 22) (g a 23) (g a 24)).trans (congrArg (fun x=>k (iota c (bendL x))) (mkS_eta h)))
theorem round_all {α : Type} (c:Nat) (k:List Nat → α) (a:List Nat) (h:a.length=25):mixS (turnS (bendS c k)) a=k (roundL (fun i=>TL.getD i 0) c a):=by
 rw[mix_all _ a h,turn_all _ (mixL a) (mkS_len _),bend_all _ _ (turnL _ (mixL a)) (mkS_len _)]
 rfl
theorem permS_fold {α : Type} (cs:List Nat) (k:List Nat → α):∀ a:List Nat,a.length=25→permS a cs k=k (cs.foldl (fun a c=>roundL (fun i=>TL.getD i 0) c a) a):=by
 induction cs with
 | nil=>intro a _;rfl
 | cons c r ih=>
  intro a h
  rw[permS,round_all c _ a h,ih (roundL (fun i=>TL.getD i 0) c a) (mkS_len _)]
  rfl
theorem perm_fold (a:List Nat):RL.foldl (fun a c=>roundL (fun i=>TL.getD i 0) c a) a=PP TL RL a:=rfl
theorem permS_eq {α : Type} (k:List Nat → α) (a:List Nat) (h:a.length=25):permS a RL k=k (PP TL RL a):=by rw[permS_fold RL k a h,perm_fold]
theorem perm_len (a:List Nat):(PP TL RL a).length=25:=mkS_len _
def absS {α : Type} (r:Nat) (k:List Nat→Nat → α):List Nat→List Nat→Nat → α
 | [],l,a=>k l a
 | b :: bs,l,a=>if Nat.succ a=r then sl (xb l a b) fun l=>permS l RL fun l=>absS r k bs l 0 else sl (xb l a b) fun l=>st (Nat.succ a) fun a=>absS r k bs l a
theorem xb_len (l:List Nat) (i b:Nat):(xb l i b).length=l.length:=by unfold xb;rw[List.length_set]
theorem absS_eq {α : Type} (r:Nat) (k:List Nat→Nat → α) (bs:List Nat):∀ (l:List Nat) (a:Nat),l.length=25→absS r k bs l a=k (abs (PP TL RL) r ⟨l,a⟩ bs).l (abs (PP TL RL) r ⟨l,a⟩ bs).at':=by
 induction bs with
 | nil=>intro l a _;rfl
 | cons b bs ih=>
  intro l a h
  rw[absS]
  show _=k (abs (PP TL RL) r (ab (PP TL RL) r ⟨l,a⟩ b) bs).l (abs (PP TL RL) r (ab (PP TL RL) r ⟨l,a⟩ b) bs).at'
  unfold ab
  by_cases e:a+1=r
  ·rw[if_pos e,if_pos (show (⟨l,a⟩:Sp).at'+1=r from e),sl_eq,permS_eq _ _ ((xb_len _ _ _).trans h),ih _ _ (perm_len _)]
  ·rw[if_neg e,if_neg (show ¬ (⟨l,a⟩:Sp).at'+1=r from e),sl_eq,st_eq,ih _ _ ((xb_len _ _ _).trans h)]
theorem abs_len (r:Nat) (bs:List Nat):∀ s:Sp,s.l.length=25→(abs (PP TL RL) r s bs).l.length=25:=by
 induction bs with
 | nil=>intro s h;exact h
 | cons b bs ih=>
  intro s h
  refine ih _ ?_
  unfold ab
  split
  ·exact perm_len _
  ·exact(xb_len _ _ _).trans h
def sqS {α : Type} (r:Nat) (k:List Nat → α):Nat→List Nat→Nat→List Nat → α
 | 0,_,_,acc=>k acc.reverse
 | n+1,l,a,acc=>if a=r then permS l RL fun l=>st (gb l 0) fun b=>sqS r k n l 1 (b :: acc) else st (gb l a) fun b=>st (Nat.succ a) fun a=>sqS r k n l a (b :: acc)
theorem sq_one (P:List Nat→List Nat) (r:Nat) (s:Sp) (n:Nat):sq P r s (n+1)=gb (tn P r s).l (tn P r s).at' :: sq P r (nx P r s) n:=by
 rw[Nat.add_comm n 1,sq_add]
 rfl
theorem sqS_eq {α : Type} (r:Nat) (k:List Nat → α) (n:Nat):∀ (l:List Nat) (a:Nat) (acc:List Nat),l.length=25→sqS r k n l a acc=k (acc.reverse++sq (PP TL RL) r ⟨l,a⟩ n):=by
 induction n with
 | zero=>intro l a acc _;rw[sqS];simp[sq]
 | succ n ih=>
  intro l a acc h
  rw[sqS,sq_one]
  unfold nx tn
  by_cases e:a=r
  ·rw[if_pos e,if_pos (show (⟨l,a⟩:Sp).at'=r from e),permS_eq _ _ h,st_eq,ih _ _ _ (perm_len _),List.reverse_cons,List.append_assoc]
   rfl
  ·rw[if_neg e,if_neg (show ¬ (⟨l,a⟩:Sp).at'=r from e),st_eq,st_eq,ih _ _ _ h,List.reverse_cons,List.append_assoc]
   rfl
def outS {α : Type} (r m:Nat) (bs:List Nat) (n:Nat) (k:List Nat → α) : α := absS r (fun l a=>sl (xb (xb l a m) (r-1) 128) fun l=>sqS r k n l r []) bs Z 0
theorem outS_eq {α : Type} (r m:Nat) (bs:List Nat) (n:Nat) (k:List Nat → α):outS r m bs n k=k (sq (PP TL RL) r (pad r m (abs (PP TL RL) r ⟨Z,0⟩ bs)) n):=by
 unfold outS
 rw[absS_eq _ _ _ _ _ (by rfl),sl_eq,sqS_eq _ _ _ _ _ _ ((xb_len _ _ _).trans ((xb_len _ _ _).trans (abs_len r bs ⟨Z,0⟩ rfl)))]
 rfl
end kecf
namespace tbf
open kecf tabt nttm nttl polys
abbrev ζ : Nat→Int:=fun k=>((zt k:Nat):Int)
def hor (h:Nat→Nat):Nat→Nat→Nat
 | 0,acc=>acc
 | n+1,acc=>hor h n (Nat.add (Nat.mul acc 4294967296) (h n))
def horS {α : Type} (h:Nat→Nat) (k:Nat → α):Nat→Nat → α
 | 0,acc=>k acc
 | n+1,acc=>st (Nat.add (Nat.mul acc 4294967296) (h n)) fun acc=>horS h k n acc
theorem horS_eq {α : Type} (h:Nat→Nat) (k:Nat → α) (n:Nat):∀ acc,horS h k n acc=k (hor h n acc):=by
 induction n with
 | zero=>intro acc;rfl
 | succ n ih=>intro acc;rw[horS,st_eq,ih];rfl
def lk (N i:Nat):Nat:=Nat.mod (Nat.div N (Nat.pow 4294967296 i)) 4294967296
theorem lk_eq (N i:Nat):lk N i=N / 4294967296 ^ i%4294967296:=rfl
theorem hor_is (h:Nat→Nat) (hh:∀ i,h i<4294967296) (n:Nat):∀ acc,(∀ i,i<n→lk (hor h n acc) i=h i)∧hor h n acc / 4294967296 ^ n=acc:=by
 induction n with
 | zero=>intro acc;exact⟨fun i hi=>by omega,by rw[Nat.pow_zero,Nat.div_one];rfl⟩
 | succ n ih=>
  intro acc
  obtain⟨h1,h2⟩:=ih (Nat.add (Nat.mul acc 4294967296) (h n))
  have h3:Nat.add (Nat.mul acc 4294967296) (h n)=acc*4294967296+h n:=rfl
  have hn:=hh n
  refine⟨fun i hi=>?_,?_⟩
  ·by_cases e:i=n
   ·subst e
    show lk (hor h i _) i=_
    rw[lk_eq,h2,h3]
    omega
   ·exact h1 i (by omega)
  ·show hor h n _ / _=_
   rw[Nat.pow_succ,←Nat.div_div_eq_div_mul,h2,h3]
   omega
def tabS {α : Type} (h:Nat→Nat) (k:Nat → α) : α := horS h k 256 0
def Rep (N:Nat) (f:Nat→Int):Prop:=∀ i,i<256→lk N i<8380417∧f i=((lk N i:Nat):Int)
theorem tab_any (h:Nat→Nat) (f:Nat→Int) (hh:∀ i,h i<4294967296) (hf:∀ i,i<256→h i<8380417∧f i=((h i:Nat):Int)):∃ M,Rep M f∧∀ (α : Type) (k:Nat → α),tabS h k=k M:=
 ⟨hor h 256 0,fun i hi=>by rw[(hor_is h hh 256 0).1 i hi];exact hf i hi,fun _ k=>horS_eq h k 256 0⟩
def ZN:Nat:=1942532590334862870138974211309491265782479578908875968865029424456053257258072682295166927120764341606327311584658853370499113175525762845358868055875449743865862120561507886266747906148109645887626569421358571458517131955923284862628124089112459955088367321758936870320868432697508840795368302553306576128045551607900627127501794114081202641910877226362801691822840898283887149403998842135480772271410685269676056079915871598662895342995024116405481364306244279332350098942854172493709708276187309139599590708792464483823760789356714193279404756677496017119634944934138036115747230462237986224255331592814367902736981458467519885665679479228037485495093630541964206931915163610275278937739714994470440583037739519371910840303218798742525392799033380093848832106984474065814597511152572022702855167409301633981844629425289715425513189029241545586899000780710272102105091605579804393400213043857482162467923932944277054752633280111701102829033262795617846970374521865188732741696600691505667686329522606287841560781862388665232359322879374208972336199642789727206476734881296178925179289536740450642981295725346851284164001847278084449190324311603069755178077421853116731460280747304127011680652201945786222691228488254713937177263227605494921064947865535581351518083331160300703806453118421938781384978085450686752087458948523818888842204236408802467616937683189706840942690780294699359315222743213794246885800990452437071553815427308310126173523992248163650132523991616829815627658787232798346920794291613469437445387711809729040183677108117453921834875903390132031359687416044245487457771017388506548364564559122569450939338118419555439921574145639048278533533660638873919347394974093323140006350021801255901322034596405010487698490495577798064332243826130425283098122871005726590391144741858660072963970671535934213421572075996539234047661212859541799506727893504164706978268104719884245023518336180989693307757423110033600879176964970190021698534844531069500303801840960678469133619677376783395108800320774455070008267090960784486339862562729884302758202270636416921073981755143887576621683020104146012655817041173986749065132246285408760256952748676034888636562920808961740887799517003060362711331429543967849102906437932290547874354911527571960210570964207077252592611795709619564762124335042772532003782349962352973367387722684668660569565761073551374745677636660694228889934682204568507453807362700949136754277475637722254486777653541592081819221941551105
theorem zn_all:(List.range 256).all (fun i=>Nat.beq (lk ZN i) (zt i))=true:=by decide +kernel
theorem zn_is (i:Nat) (h:i<256) : ζ i=((lk ZN i:Nat):Int):=by
 have:=List.all_eq_true.1 zn_all i (List.mem_range.2 h)
 show ((zt i:Nat):Int)=_
 rw[Nat.eq_of_beq_eq_true this]
def md (x:Nat):Nat:=Nat.mod x 8380417
theorem md_eq (x:Nat):md x=x%8380417:=rfl
def lyN (N K s j:Nat):Nat:=cond (Nat.ble (Nat.succ (Nat.mod j (Nat.mul 2 s))) s) (md (Nat.add (lk N j) (Nat.mul (lk ZN (Nat.add K (Nat.div j (Nat.mul 2 s)))) (lk N (Nat.add j s))))) (md (Nat.add (lk N (Nat.sub j s)) (Nat.sub 8380417 (md (Nat.mul (lk ZN (Nat.add K (Nat.div j (Nat.mul 2 s)))) (lk N j))))))
def bkN (N K s j:Nat):Nat:=cond (Nat.ble (Nat.succ (Nat.mod j (Nat.mul 2 s))) s) (md (Nat.add (lk N j) (lk N (Nat.add j s)))) (md (Nat.mul (lk ZN (Nat.sub (Nat.sub (Nat.mul 2 K) 1) (Nat.div j (Nat.mul 2 s)))) (Nat.add (lk N j) (Nat.sub 8380417 (lk N (Nat.sub j s))))))
theorem cond_if {α : Type} (a b:Nat) (x y : α):cond (Nat.ble (Nat.succ a) b) x y=if a<b then x else y:=by
 by_cases h:a<b
 ·rw[if_pos h,show Nat.ble (Nat.succ a) b=true from Nat.ble_eq_true_of_le h];rfl
 ·rw[if_neg h,show Nat.ble (Nat.succ a) b=false from Bool.eq_false_iff.2 fun e=>h (Nat.le_of_ble_eq_true e)];rfl
theorem lyN_eq (N K s j:Nat):lyN N K s j=if j%(2*s)<s then (lk N j+lk ZN (K+j / (2*s))*lk N (j+s))%8380417 else (lk N (j-s)+(8380417-(lk ZN (K+j / (2*s))*lk N j)%8380417))%8380417:=cond_if _ _ _ _
theorem bkN_eq (N K s j:Nat):bkN N K s j=if j%(2*s)<s then (lk N j+lk N (j+s))%8380417 else (lk ZN (2*K-1-j / (2*s))*(lk N j+(8380417-lk N (j-s))))%8380417:=cond_if _ _ _ _
theorem near (K s j:Nat) (hK : 2*s*K=256) (hj:j<256):j / (2*s)<K∧(j%(2*s)<s→j+s<256):=by
 have h1:j / (2*s)<K:=Nat.div_lt_of_lt_mul (by omega)
 refine⟨h1,fun h=>?_⟩
 have h2:=Nat.div_add_mod j (2*s)
 have h3 : 2*s*(j / (2*s)+1)≤2*s*K:=Nat.mul_le_mul_left _ h1
 rw[Nat.mul_succ]at h3
 omega
theorem ly_is (K s:Nat) (hK : 2*s*K=256) (hs : 0<s) (h128:K≤128) {N:Nat} {f:Nat→Int} (h:Rep N f):∃ M,Rep M (red (ly ζ K s f))∧∀ (α : Type) (k:Nat → α),tabS (lyN N K s) k=k M:=by
 refine tab_any _ _ (fun i=>?_) (fun j hj=>⟨?_,?_⟩)
 ·rw[lyN_eq];split<;>omega
 ·rw[lyN_eq];split<;>omega
 ·obtain⟨h1,h2⟩:=near K s j hK hj
  rw[lyN_eq]
  unfold red ly
  rw[zn_is (K+j / (2*s)) (by omega),(h j hj).2]
  split
  ·rename_i hl
   rw[(h (j+s) (h2 hl)).2,←Int.natCast_mul,←Int.natCast_add]
   exact(Int.natCast_emod _ _).symm
  ·rw[(h (j-s) (by omega)).2,←Int.natCast_mul]
   generalize lk ZN (K+j / (2*s))*lk N j=x
   omega
theorem bk_is (K s:Nat) (hK : 2*s*K=256) (hs : 0<s) (h128:K≤128) {N:Nat} {f:Nat→Int} (h:Rep N f):∃ M,Rep M (red (bk ζ K s f))∧∀ (α : Type) (k:Nat → α),tabS (bkN N K s) k=k M:=by
 refine tab_any _ _ (fun i=>?_) (fun j hj=>⟨?_,?_⟩)
 ·rw[bkN_eq];split<;>omega
 ·rw[bkN_eq];split<;>omega
 ·obtain⟨h1,h2⟩:=near K s j hK hj
  rw[bkN_eq]
  unfold red bk
  rw[(h j hj).2]
  split
  ·rename_i hl
   rw[(h (j+s) (h2 hl)).2,←Int.natCast_add]
   exact(Int.natCast_emod _ _).symm
  ·have hz : 2*K-1-j / (2*s)<256:=by clear h2;generalize j / (2*s)=q at h1;omega
   rw[zn_is (2*K-1-j / (2*s)) hz,(h (j-s) (by omega)).2]
   have ha:=(h (j-s) (by omega)).1
   generalize lk ZN (2*K-1-j / (2*s))=z
   generalize lk N (j-s)=a at ha
   generalize lk N j=b
   have e:(((z*(b+(8380417-a)))%8380417:Nat):Int)=(((z:Int)*b+z*8380417)-z*a)%8380417:=by
    rw[Int.natCast_emod,Int.natCast_mul,Int.natCast_add,Int.natCast_sub (Nat.le_of_lt ha),Int.mul_add,Int.mul_sub,Int.add_sub_assoc]
    rfl
   rw[e,Int.neg_mul,Int.mul_sub]
   generalize (z:Int)*a=x
   generalize (z:Int)*b=y
   omega
theorem red_is {N:Nat} {f:Nat→Int} (h:Rep N f):Rep N (red f):=fun i hi=>⟨(h i hi).1,by unfold red;rw[(h i hi).2];have:=(h i hi).1;omega⟩
def thereS {α : Type} (N:Nat) (k:Nat → α) : α := tabS (lyN N 1 128) fun N=>tabS (lyN N 2 64) fun N=>tabS (lyN N 4 32) fun N=>tabS (lyN N 8 16) fun N=>tabS (lyN N 16 8) fun N=>tabS (lyN N 32 4) fun N=>tabS (lyN N 64 2) fun N=>tabS (lyN N 128 1) k
def backS {α : Type} (N:Nat) (k:Nat → α) : α := tabS (bkN N 128 1) fun N=>tabS (bkN N 64 2) fun N=>tabS (bkN N 32 4) fun N=>tabS (bkN N 16 8) fun N=>tabS (bkN N 8 16) fun N=>tabS (bkN N 4 32) fun N=>tabS (bkN N 2 64) fun N=>tabS (bkN N 1 128) k
theorem there_is {N:Nat} {f:Nat→Int} (h:Rep N f):∃ M,Rep M (thereR ζ 8 f)∧∀ (α : Type) (k:Nat → α),thereS N k=k M:=by
 have h0:Rep N (thereR ζ 0 f):=red_is h
 obtain⟨M1,h1,e1⟩:=ly_is 1 128 rfl (by decide) (by decide) h0
 rw[show red (ly ζ 1 128 (thereR ζ 0 f))=thereR ζ 1 f from rfl]at h1
 obtain⟨M2,h2,e2⟩:=ly_is 2 64 rfl (by decide) (by decide) h1
 rw[show red (ly ζ 2 64 (thereR ζ 1 f))=thereR ζ 2 f from rfl]at h2
 obtain⟨M3,h3,e3⟩:=ly_is 4 32 rfl (by decide) (by decide) h2
 rw[show red (ly ζ 4 32 (thereR ζ 2 f))=thereR ζ 3 f from rfl]at h3
 obtain⟨M4,h4,e4⟩:=ly_is 8 16 rfl (by decide) (by decide) h3
 rw[show red (ly ζ 8 16 (thereR ζ 3 f))=thereR ζ 4 f from rfl]at h4
 obtain⟨M5,h5,e5⟩:=ly_is 16 8 rfl (by decide) (by decide) h4
 rw[show red (ly ζ 16 8 (thereR ζ 4 f))=thereR ζ 5 f from rfl]at h5
 obtain⟨M6,h6,e6⟩:=ly_is 32 4 rfl (by decide) (by decide) h5
 rw[show red (ly ζ 32 4 (thereR ζ 5 f))=thereR ζ 6 f from rfl]at h6
 obtain⟨M7,h7,e7⟩:=ly_is 64 2 rfl (by decide) (by decide) h6
 rw[show red (ly ζ 64 2 (thereR ζ 6 f))=thereR ζ 7 f from rfl]at h7
 obtain⟨M8,h8,e8⟩:=ly_is 128 1 rfl (by decide) (by decide) h7
 rw[show red (ly ζ 128 1 (thereR ζ 7 f))=thereR ζ 8 f from rfl]at h8
 exact⟨M8,h8,fun α k=>by unfold thereS;rw[e1,e2,e3,e4,e5,e6,e7,e8]⟩
theorem back_is {N:Nat} {f:Nat→Int} (h:Rep N f):∃ M,Rep M (backR ζ 8 f)∧∀ (α : Type) (k:Nat → α),backS N k=k M:=by
 have h0:Rep N (backR ζ 0 f):=red_is h
 obtain⟨M1,h1,e1⟩:=bk_is 128 1 rfl (by decide) (by decide) h0
 rw[show red (bk ζ 128 1 (backR ζ 0 f))=backR ζ 1 f from rfl]at h1
 obtain⟨M2,h2,e2⟩:=bk_is 64 2 rfl (by decide) (by decide) h1
 rw[show red (bk ζ 64 2 (backR ζ 1 f))=backR ζ 2 f from rfl]at h2
 obtain⟨M3,h3,e3⟩:=bk_is 32 4 rfl (by decide) (by decide) h2
 rw[show red (bk ζ 32 4 (backR ζ 2 f))=backR ζ 3 f from rfl]at h3
 obtain⟨M4,h4,e4⟩:=bk_is 16 8 rfl (by decide) (by decide) h3
 rw[show red (bk ζ 16 8 (backR ζ 3 f))=backR ζ 4 f from rfl]at h4
 obtain⟨M5,h5,e5⟩:=bk_is 8 16 rfl (by decide) (by decide) h4
 rw[show red (bk ζ 8 16 (backR ζ 4 f))=backR ζ 5 f from rfl]at h5
 obtain⟨M6,h6,e6⟩:=bk_is 4 32 rfl (by decide) (by decide) h5
 rw[show red (bk ζ 4 32 (backR ζ 5 f))=backR ζ 6 f from rfl]at h6
 obtain⟨M7,h7,e7⟩:=bk_is 2 64 rfl (by decide) (by decide) h6
 rw[show red (bk ζ 2 64 (backR ζ 6 f))=backR ζ 7 f from rfl]at h7
 obtain⟨M8,h8,e8⟩:=bk_is 1 128 rfl (by decide) (by decide) h7
 rw[show red (bk ζ 1 128 (backR ζ 7 f))=backR ζ 8 f from rfl]at h8
 exact⟨M8,h8,fun α k=>by unfold backS;rw[e1,e2,e3,e4,e5,e6,e7,e8]⟩
end tbf
end Go.Proofs.YtomphjajkkddkaaGreatDoor
namespace Go.Proofs.YtomphjajkkddkaaGreatDoor
namespace sigf
open kecf tbf
def pkS {α : Type} (k:Nat → α):List Nat→Nat→Nat → α
 | [],acc,_=>k acc
 | x :: r,acc,p=>st (Nat.add acc (Nat.mul p x)) fun acc=>st (Nat.mul p 256) fun p=>pkS k r acc p
def byN (N i:Nat):Nat:=Nat.mod (Nat.div N (Nat.pow 256 i)) 256
def pickS {α : Type} (v:Nat→Nat) (o:Nat→Bool) (k:Nat→Nat → α):Nat→Nat→Nat→Nat → α
 | 0,_,c,a=>k c a
 | f+1,j,c,a=>cond (Nat.ble 256 c) (k c a) (cond (o j) (st (Nat.add a (Nat.mul (v j) (Nat.pow 4294967296 c))) fun a=>st (Nat.succ c) fun c=>st (Nat.succ j) fun j=>pickS v o k f j c a) (st (Nat.succ j) fun j=>pickS v o k f j c a))
def triN (N j:Nat):Nat:=Nat.add (Nat.add (byN N (Nat.mul 3 j)) (Nat.mul 256 (byN N (Nat.add (Nat.mul 3 j) 1)))) (Nat.mul 65536 (Nat.mod (byN N (Nat.add (Nat.mul 3 j) 2)) 128))
def hfN (N j:Nat):Nat:=cond (Nat.beq (Nat.mod j 2) 0) (Nat.mod (byN N (Nat.div j 2)) 16) (Nat.div (byN N (Nat.div j 2)) 16)
def full (k:Nat→Bool) (c a:Nat):Bool:=cond (Nat.beq c 256) (k a) false
def uniS (B:List Nat) (k:Nat→Bool):Bool:=pkS (fun N=>pickS (triN N) (fun j=>Nat.ble (Nat.succ (triN N j)) 8380417) (full k) 336 0 0 0) B 0 1
def smaS (B:List Nat) (k:Nat→Bool):Bool:=pkS (fun N=>pickS (fun j=>md (Nat.sub 8380419 (Nat.mod (hfN N j) 5))) (fun j=>Nat.ble (Nat.succ (hfN N j)) 15) (full k) 1632 0 0 0) B 0 1
def nxS {α : Type} (N i:Nat) (k:Nat → α):Nat→Nat → α
 | 0,a=>k a
 | f+1,a=>cond (Nat.ble (Nat.succ a) 544) (cond (Nat.ble (Nat.succ i) (byN N a)) (st (Nat.succ a) fun a=>nxS N i k f a) (k a)) (k a)
def sgnN (N t:Nat):Nat:=cond (Nat.beq (Nat.mod (Nat.div (byN N (Nat.div t 8)) (Nat.pow 2 (Nat.mod t 8))) 2) 1) 8380416 1
def blS (N tau:Nat) (k:Nat→Bool):Nat→Nat→Nat→Nat→Bool
 | 0,_,_,M=>k M
 | f+1,t,p,M=>st (Nat.add (Nat.sub 256 tau) t) fun i=>nxS N i (fun a=>cond (Nat.beq a 544) false (st (byN N a) fun b=>st (sgnN N t) fun s=>tabS (fun j=>cond (Nat.beq j b) s (cond (Nat.beq j i) (lk M b) (lk M j))) fun M=>st (Nat.succ t) fun t=>st (Nat.succ a) fun a=>blS N tau k f t a M)) 544 p
def ballS (B:List Nat) (tau:Nat) (k:Nat→Bool):Bool:=pkS (fun N=>blS N tau k tau 0 8 0) B 0 1
def horW {α : Type} (w:Nat) (h:Nat→Nat) (k:Nat → α):Nat→Nat → α
 | 0,acc=>k acc
 | n+1,acc=>st (Nat.add (Nat.mul acc (Nat.pow 2 w)) (h n)) fun acc=>horW w h k n acc
def nbS {α : Type} (k:List Nat → α):Nat→Nat→List Nat → α
 | 0,_,acc=>k acc.reverse
 | n+1,N,acc=>st (Nat.mod N 256) fun b=>st (Nat.div N 256) fun N=>nbS k n N (b :: acc)
def packS {α : Type} (w M:Nat) (k:List Nat → α) : α := horW w (lk M) (fun N=>nbS k (Nat.mul 32 w) N []) 256 0
def maskN (N i:Nat):Nat:=md (Nat.sub 8511489 (Nat.mod (Nat.div N (Nat.pow 262144 i)) 262144))
def mulN (M K i:Nat):Nat:=md (Nat.mul (lk M i) (lk K i))
def addN (M K i:Nat):Nat:=md (Nat.add (lk M i) (lk K i))
def subN (M K i:Nat):Nat:=md (Nat.add (lk M i) (Nat.sub 8380417 (lk K i)))
def prodS (M K:Nat) (k:Nat→Bool):Bool:=tabS (mulN M K) fun x=>backS x fun x=>tabS (fun i=>md (Nat.mul (lk x i) 8347681)) k
def shN (x:Nat):Nat:=Nat.div (Nat.add x 4095) 8192
def slN (x:Nat):Nat:=md (Nat.sub (Nat.add x 8380417) (Nat.mul 8192 (shN x)))
def hghN (x:Nat):Nat:=Nat.mod (Nat.div (Nat.add x 95231) 190464) 44
def allS (p:Nat→Bool) (k:Bool):Nat→Bool
 | 0=>k
 | n+1=>cond (p n) (allS p k n) false
def smallN (b x:Nat):Bool:=cond (Nat.ble (Nat.succ x) b) true (Nat.ble (Nat.sub 8380418 b) x)
def lowN (b x:Nat):Bool:=cond (Nat.ble (Nat.succ (Nat.mod x 190464)) b) true (Nat.ble (Nat.sub 190465 b) (Nat.mod x 190464))
def cntS (p:Nat→Bool) (k:Nat→Bool):Nat→Nat→Bool
 | 0,c=>k c
 | n+1,c=>cond (p n) (cntS p k n c) (st (Nat.succ c) fun c=>cntS p k n c)
def keyS (seed:List Nat) (k:List Nat→List Nat→List Nat→Nat→Nat→Nat→Nat→Bool):Bool:=
 outS 136 31 (seed ++ [1,1]) 128 fun S=>sl (S.take 32) fun rho=>sl ((S.drop 32).take 64) fun sg=>sl ((S.drop 96).take 32) fun key=>
 outS 168 31 (rho ++ [0,0]) 1008 fun u=>uniS u fun A=>outS 136 31 (sg ++ [0,0]) 816 fun u=>smaS u fun s1=>outS 136 31 (sg ++ [1,0]) 816 fun u=>smaS u fun s2=>
 thereS s1 fun h1=>prodS A h1 fun x=>tabS (addN x s2) fun T=>tabS (fun i=>shN (lk T i)) fun hi=>packS 10 hi fun pl=>outS 136 31 (rho++pl) 64 fun tr=>k rho key tr A s1 s2 T
def tryS (seed msg:List Nat):Bool:=
 keyS seed fun _ key tr A s1 s2 T=>outS 136 31 (tr++msg) 64 fun mu=>outS 136 31 (key++(List.replicate 32 0++mu)) 64 fun mask=>
 outS 136 31 (mask ++ [0,0]) 576 fun u=>pkS (fun N=>tabS (maskN N) fun y=>thereS y fun hy=>prodS A hy fun w=>tabS (fun i=>hghN (lk w i)) fun hi=>packS 6 hi fun hb=>
 outS 136 31 (mu++hb) 32 fun sum=>outS 136 31 sum 544 fun u=>ballS u 20 fun c=>thereS c fun hc=>thereS s1 fun ha=>prodS hc ha fun ca=>thereS s2 fun hb=>prodS hc hb fun cb=>tabS (fun i=>slN (lk T i)) fun lo=>thereS lo fun hl=>prodS hc hl fun cl=>
 tabS (addN y ca) fun z=>tabS (subN w cb) fun v=>tabS (addN v cl) fun x=>
 allS (fun i=>smallN 131032 (lk z i)) (allS (fun i=>lowN 95191 (lk v i)) (allS (fun i=>smallN 95232 (lk cl i)) (cntS (fun i=>Nat.beq (hghN (lk x i)) (hghN (lk v i))) (fun c=>Nat.ble c 60) 256 0) 256) 256) 256) u 0 1
def seed32:List Nat:=[48,49,50,51,52,53,54,55,56,57,48,49,50,51,52,53,54,55,56,57,48,49,50,51,52,53,54,55,56,57,48,49]
theorem try_is:tryS seed32 [0,1,99,97,98,99]=true:=by decide +kernel
end sigf
end Go.Proofs.YtomphjajkkddkaaGreatDoor
