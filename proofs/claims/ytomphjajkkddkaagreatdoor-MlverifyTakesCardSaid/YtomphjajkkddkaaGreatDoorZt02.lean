/-
  Plain facts on what an argument that is an array looks like when it can be read as data: each elemen
-/
import Derived.Test.YtomphjajkkddkaaGreatDoorProg
import Derived.Test.YtomphjajkkddkaaGreatDoorZt01
import Derived.ProofKit
import Derived.OpenShut
import Derived.ShutString
import Derived.Carry
import Derived.SizedLaws
import Derived.Laws.StructEq
import Derived.ChangeKeysEq
import Derived.StillTailTactics
import Derived.BigQuiet
import Derived.OwnWalk
import Derived.Lib.ConvBytes
import Derived.Great.BuildSlice
import Derived.Deep.MidRow
import Derived.OrdersHeld
import Derived.Lib.Strings
import Derived.Maps.AppendAt
set_option maxRecDepth 100000
set_option maxHeartbeats 16000000
namespace Go.Proofs.YtomphjajkkddkaaGreatDoor
namespace opens
open Go Go.ChangeShapes Go.WideShapes Go.ChangeAt Go.RowKit
section
variable {H:Type} {enc:TypeId × Value→H} {P:Program} {w:World} {base:Nat} {spare held:Bool}
theorem okWide_array {r:Reach} {t e:TypeId} {n:Nat} {v:Value} (ht:P.underlying t=some (.array n e)) (h:Value.okWide P w r base t v):∃ cs,v=.agg cs∧cs.size=P.cellsOf t:=by
 simp only[Value.okWide,ht]at h
 obtain⟨cs,h1,h2,_⟩:=h
 exact⟨cs,h1,h2⟩
theorem open_array_data {r:Reach} {b0 b1:Nat} {sp:Nat→Bool} {hd:Bool} {t e:TypeId} {n:Nat} {v:Value} {d:DataW H} {p:List MemPlace} (ht:P.underlying t=some (.array n e)) (hc:P.cellsOf t=n) (he:P.cellsOf e=1)
 (hv:Value.okWide P w r b0 t v) (h:DataW.Trod enc P w b1 sp hd t v d p):
 ∃ (cs:Array Value) (m:Nat) (xs:List (DataW H × List MemPlace)),v=.agg cs∧cs.size=n∧xs.length=n∧d=.agg (xs.map (·.1))∧p=xs.flatMap (·.2)∧∀ i (hi:i<cs.size),DataW.trod enc P w b1 sp hd m e [cs[i]]=xs[i]? := by
 obtain⟨cs,rfl,hsz⟩:=okWide_array ht hv
 rw[hc]at hsz
 obtain⟨fuel,hf⟩:=h
 obtain⟨xs,m,-,hx,-,hxs,hg⟩:=DataW.trod_array ht hf
 simp only[Prod.mk.injEq]at hx
 refine⟨cs,m,xs,rfl,hsz,hxs,hx.1,hx.2,fun i hi=>?_⟩
 have:=hg i (by omega)
 rw[he,Nat.mul_one]at this
 rw[←this]
 congr 1
 simp only[Value.cells]
 rw[List.drop_eq_getElem_cons (by simpa using hi),List.take_succ_cons,List.take_zero]
 simp
theorem open_strings3 {r:Reach} {b0 b1:Nat} {sp:Nat→Bool} {hd:Bool} {t e:TypeId} {v:Value} {d:DataW H} {p:List MemPlace} (ht:P.underlying t=some (.array 3 e)) (hk:P.underlying e=some .string) (hc:P.cellsOf t=3) (he:P.cellsOf e=1)
 (hv:Value.okWide P w r b0 t v) (h:DataW.Trod enc P w b1 sp hd t v d p):
 ∃ a b c:ByteArray,v=.agg #[.string a,.string b,.string c]∧d=.agg [.lit (.string a.data.toList),.lit (.string b.data.toList),.lit (.string c.data.toList)]∧p=[]:=by
 obtain⟨cs,m,xs,rfl,hsz,hxs,rfl,rfl,hg⟩:=open_array_data ht hc he hv h
 match xs,hxs with
 | [x0,x1,x2],_=>
  have h0:=hg 0 (by omega)
  have h1:=hg 1 (by omega)
  have h2:=hg 2 (by omega)
  simp only[List.getElem?_cons_zero,List.getElem?_cons_succ]at h0 h1 h2
  obtain⟨a,e0,rfl,-⟩:=DataW.trod_string hk h0
  obtain⟨b,e1,rfl,-⟩:=DataW.trod_string hk h1
  obtain⟨c,e2,rfl,-⟩:=DataW.trod_string hk h2
  refine⟨a,b,c,?_,rfl,rfl⟩
  simp only[List.cons.injEq,and_true]at e0 e1 e2
  rw[←e0,←e1,←e2]
  congr 1
  apply Array.ext (by simpa using hsz)
  intro i h1 h2
  match i,h2 with
  | 0,_=>rfl
  | 1,_=>rfl
  | 2,_=>rfl
end
end opens
namespace eqa
open Go Go.RowKit
open arr
def intAt (xs:Array Value) (i:Nat):Int:=match xs[i]? with
 | some (.int _ a)=>a
 | _=>0
def Nums (k:IntKind) (xs:Array Value) (o n:Nat):Prop:=∀ i,i<n→∃ a,xs[o+i]? = some (.int k a)
section
variable {P:Program}
end
end eqa
namespace stil
open Go Go.RowKit
open arr mem
theorem still_tail {P:Program} {id:Nat} {Q:Exit→Act→World→Prop} {a:Act} {w:World} {l:List Oper} (n:Nat) (hm:P.follows .mixedOrders=true) (hB:Region.lexTailB .any l.toArray n=true)
 (h:wpStill P l.toArray w.drew (fun a'=>wpList P l.toArray Q (l.drop n) a' w.drew) (l.take n) a):(Code.region id l.toArray true).wp P Q a w:=wp_region_still_tail n hm hB h
theorem still_all {P:Program} {id:Nat} {Q:Exit→Act→World→Prop} {a:Act} {w:World} {l:List Oper} (hm:P.follows .mixedOrders=true) (hB:Region.lexB .any l.toArray=true)
 (h:wpStill P l.toArray w.drew (fun a'=>Q .normal a' w.drew) l a):(Code.region id l.toArray true).wp P Q a w:=wp_region_still_lit hm hB h
theorem at_put {g:Nat} {C:Array Value} {t:TypeId} {w w':World} (h:At g C t w w') (o:Nat) (v:Value):At g (C.setIfInBounds o v) t w (w'.setCell ⟨g,o,none⟩ v):=
 ⟨h.os,h.tape,h.output,by rw[size_setCell];exact h.size,heap_setCell h.row o v,fun k hk hg=>(Below.heap_setCell w' ⟨g,o,none⟩ v k hg).trans (h.block k hk hg)⟩
theorem at_drew {g:Nat} {C:Array Value} {t:TypeId} {w w':World} (h:At g C t w w'):At g C t w w'.drew:=⟨h.os,h.tape,h.output,h.size,h.row,h.block⟩
theorem run_storeVar_lane {P:Program} (w:World) (g n:Nat) (t ty:TypeId) (C:Array Value) (v:Value) (hg:w.heap[g]? = some (.cells C t (0,0))) (hi:(P.info? ty).map (·.size)=some 1) (h1:v.oneCell'=true) (hn:n<C.size):
 (storeVar ty ⟨g,n,none⟩ v).run P w=.ok () (w.setCell ⟨g,n,none⟩ v):=by
 have hc:v.cells=#[v]:=by cases v<;>first | rfl | cases h1
 cases hq:P.info? ty with
 | none=>simp[hq]at hi
 | some i=>
  have hs:i.size=1:=by simpa [hq] using hi
  have hadd:(⟨g,n,none⟩:Addr).add 0=⟨g,n,none⟩:=by unfold Addr.add;split<;>simp_all
  have hst:(store (⟨g,n,none⟩:Addr) v).run P w=.ok () (w.setCell ⟨g,n,none⟩ v):=by
   rw[run_store P w _ v _ h1,cell_of_row w g n C t (0,0) hg,frozen_of_row w g n C t hg,Array.getElem?_eq_getElem hn]
   rfl
  simp[storeVar,sizeOf,typeInfo,hq,hc,hs,storeCells,hadd,hst]
theorem wpList_put {P:Program} {ops:Array Oper} {Q:Exit→Act→World→Prop} {rest:List Oper} {o:Oper} {a:Act} {w0 w:World} {g:Nat} {C:Array Value} {t:TypeId} (H:Away (At g C t w0 w)) (hgd:o.guard=none) (ty:TypeId) (x y:Operand) (ho:o.op=.store ty x y)
 (n:Nat) (v:Value) (hx:a.eval x=.pointer (some ⟨g,n,none⟩)) (hy:a.eval y=v) (hi:(P.info? ty).map (·.size)=some 1) (h1:v.oneCell'=true) (hn:n<C.size) (hd:o.dst=none)
 (h:∀ w',Away (At g (C.setIfInBounds n v) t w0 w')→wpList P ops Q rest a w'):wpList P ops Q (o :: rest) a w:=
 wpList_plain hgd fun K hK=>by
  unfold Oper.wp execOp
  simp only[ho,hx,hy,Instr.storeAt,Instr.sureAddr,Sem.run_bind,Sem.run_pure,Result.andThen_ok,run_storeVar_lane w g n t ty C v H.out.row hi h1 hn]
  have h2:=hK _ _ (h _ ⟨at_put H.out n v⟩)
  show K (a.put o.dst undef) _
  rw[hd]
  exact h2
theorem wpList_put2 {P:Program} {ops:Array Oper} {Q:Exit→Act→World→Prop} {rest:List Oper} {o:Oper} {a:Act} {w0 w:World} {g:Nat} {C:Array Value} {t:TypeId} (H:Away (At g C t w0 w)) (hgd:o.guard=none) (ty:TypeId) (x y:Operand) (ho:o.op=.store ty x y) (hd:o.dst=none)
 (h:∃ n k z,a.eval x=.pointer (some ⟨g,n,none⟩)∧a.eval y=.int k z∧(P.info? ty).map (·.size)=some 1∧n<C.size∧∀ w',Away (At g (C.setIfInBounds n (.int k z)) t w0 w')→wpList P ops Q rest a w'):wpList P ops Q (o :: rest) a w:=by
 obtain⟨n,k,z,h1,h2,h3,h5,h6⟩:=h
 exact wpList_put H hgd ty x y ho n _ h1 h2 h3 rfl h5 hd h6
end stil
namespace polys
open Go Go.ChangeShapes Go.WideShapes Go.ChangeAt Go.RowKit
open arr mem eqa
def FL (k:IntKind) (n:Nat) (h:Nat→Int):Array Value:=((List.range n).map fun i=>Value.int k (h i)).toArray
theorem fl_size (k:IntKind) (n:Nat) (h:Nat→Int):(FL k n h).size=n:=by simp[FL]
theorem fl_get (k:IntKind) (n:Nat) (h:Nat→Int) (i:Nat) (hi:i<n):(FL k n h)[i]? = some (.int k (h i)):=by
 simp[FL,hi]
theorem fl_one (k:IntKind) (n:Nat) (h:Nat→Int):(FL k n h).all (·.oneCell')=true:=by
 rw[Array.all_eq_true_iff_forall_mem]
 intro v hv
 simp only[FL,List.mem_toArray,List.mem_map]at hv
 obtain⟨i,-,rfl⟩:=hv
 rfl
theorem fl_congr (k:IntKind) (n:Nat) {h h':Nat→Int} (e:∀ i,i<n→h i=h' i):FL k n h=FL k n h':=by
 unfold FL
 congr 1
 exact List.map_congr_left fun i hi=>by rw[e i (List.mem_range.1 hi)]
def upd (h:Nat→Int) (i:Nat) (v:Int):Nat→Int:=fun j=>if j=i then v else h j
theorem fl_set (k:IntKind) (n:Nat) (h:Nat→Int) (i:Nat) (v:Int):(FL k n h).setIfInBounds i (.int k v)=FL k n (upd h i v):=by
 apply Array.ext
 ·rw[Array.size_setIfInBounds,fl_size,fl_size]
 ·intro j h1 h2
  have hj:j<n:=by rw[fl_size]at h2;exact h2
  have e1:((FL k n h).setIfInBounds i (.int k v))[j]? = (FL k n (upd h i v))[j]? := by
   rw[Array.getElem?_setIfInBounds,fl_get k n (upd h i v) j hj,fl_size]
   unfold upd
   by_cases e:i=j
   ·subst e;rw[if_pos rfl,if_pos hj,if_pos rfl]
   ·rw[if_neg e,if_neg (Ne.symm e),fl_get k n h j hj]
  rw[Array.getElem?_eq_getElem h1,Array.getElem?_eq_getElem h2]at e1
  exact Option.some.inj e1
theorem fl_at {k:IntKind} {n:Nat} {h:Nat→Int} {w:World} {g:Nat} {t:TypeId} (hw:w.heap[g]? = some (.cells (FL k n h) t (0,0))) (i:Nat) (hi:i<n):w.cell? ⟨g,i,none⟩=some (.int k (h i)):=cell_at hw (fl_get k n h i hi)
def pt (f d:Nat→Int) (m:Nat):Nat→Int:=fun i=>if i<m then f i else d i
theorem pt_zero (f d:Nat→Int):pt f d 0=d:=by funext i;unfold pt;rw[if_neg (by omega)]
theorem pt_upd (f d:Nat→Int) (m:Nat) (v:Int) (hv:v=f m):upd (pt f d m) m v=pt f d (m+1):=by
 subst hv
 funext j
 unfold upd pt
 by_cases h:j=m
 ·subst h;rw[if_pos rfl,if_pos (by omega)]
 ·rw[if_neg h]
  by_cases h2:j<m
  ·rw[if_pos h2,if_pos (by omega)]
  ·rw[if_neg h2,if_neg (by omega)]
theorem pt_at (f d:Nat→Int) (m:Nat):pt f d m m=d m:=by unfold pt;rw[if_neg (by omega)]
theorem fl_all (k:IntKind) (n:Nat) (f d:Nat→Int):FL k n (pt f d n)=FL k n f:=fl_congr k n fun i hi=>by unfold pt;rw[if_pos hi]
section
variable {H:Type} {enc:TypeId × Value→H} {P:Program} {w:World}
end
end polys
namespace fldm
open Go Go.RowKit
theorem tmod_is (x m:Int) (hm : 0<m):(0≤x.tmod m∧x.tmod m=x%m)∨(x.tmod m<0∧x.tmod m+m=x%m):=by
 by_cases hx : 0≤x
 ·left
  rw[Int.tmod_eq_emod_of_nonneg hx]
  exact⟨Int.emod_nonneg _ (by omega),rfl⟩
 ·have e:x.tmod m = -((-x)%m):=by
   rw[show x = -(-x) by omega,Int.neg_tmod,Int.tmod_eq_emod_of_nonneg (by omega),Int.neg_neg]
  by_cases h0:(-x)%m=0
  ·left
   rw[e,h0]
   refine⟨by omega,?_⟩
   have h1:m ∣ -x:=Int.dvd_of_emod_eq_zero h0
   have h2:m ∣ x:=by have:=Int.dvd_neg.2 h1;rwa [Int.neg_neg]at this
   rw[Int.emod_eq_zero_of_dvd h2];rfl
  ·right
   have h1:=Int.emod_nonneg (-x) (show m≠0 by omega)
   refine⟨by omega,?_⟩
   rw[e]
   clear e
   have h2:=Int.emod_lt_of_pos (-x) hm
   have h3:=Int.emod_add_mul_ediv (-x) m
   generalize (-x)%m=r at h0 h1 h2 h3 ⊢
   generalize (-x) / m=k at h3
   have h6:m*(-k-1) = -(m*k)-m:=by rw[Int.mul_sub,Int.mul_neg,Int.mul_one]
   have h4:x=(-r+m)+m*(-k-1):=by rw[h6];omega
   have h5:x%m=(-r+m)%m:=by
    rw[h4]
    exact Int.add_mul_emod_self_left _ _ _
   rw[h5,Int.emod_eq_of_lt (by omega) (by omega)]
def ce (m x:Int):Int:=if m<1∨1125899906842624<m then 0 else if m / 2<x%m then x%m-m else x%m
theorem ce_bound (x:Int) : -4190208≤ce 8380417 x∧ce 8380417 x≤4190208:=by
 unfold ce
 rw[if_neg (by omega)]
 split<;>omega
def cb (h:Nat→Int):Nat→Int
 | 0=>0
 | n+1=>max (cb h n) (max (ce 8380417 (h n)) (-(ce 8380417 (h n))))
theorem cb_bound (h:Nat→Int) (n:Nat) : 0≤cb h n∧cb h n≤4190208:=by
 induction n with
 | zero=>exact⟨Int.le_refl 0,(by decide:(0:Int)≤4190208)⟩
 | succ n ih=>have:=ce_bound (h n);rw[cb];omega
def cbs (p:Nat→Nat→Int):Nat→Int
 | 0=>0
 | m+1=>max (cbs p m) (cb (p m) 256)
theorem cbs_bound (p:Nat→Nat→Int) (m:Nat) : 0≤cbs p m∧cbs p m≤4190208:=by
 induction m with
 | zero=>exact⟨Int.le_refl 0,(by decide:(0:Int)≤4190208)⟩
 | succ n ih=>have:=cb_bound (p n) 256;rw[cbs];omega
end fldm
namespace rndm
open Go Go.RowKit
open fldm
def okg (g:Int):Bool:=g==95232 || g==261888
theorem okg_of {g:Int} (h:okg g=true):g=95232∨g=261888:=by
 unfold okg at h
 simpa using h
def pl (g x:Int):Int:=ce (2*g) (x%8380417)
def hgh (g x:Int):Int:=if okg g=true then (if x%8380417-pl g x=8380416 then 0 else (x%8380417-pl g x) / (2*g)) else 0
def lw (g x:Int):Int:=if okg g=true then (if x%8380417-pl g x=8380416 then pl g x-1 else pl g x) else 0
theorem ce_is (m r:Int) (h1 : 1≤m) (h2:m≤1125899906842624):ce m r=if m / 2<r%m then r%m-m else r%m:=by
 unfold ce
 rw[if_neg (by omega)]
theorem pl_95232 (x:Int) : -95232<pl 95232 x∧pl 95232 x≤95232∧pl 95232 x≤x%8380417∧(x%8380417-pl 95232 x)%190464=0:=by
 unfold pl
 rw[ce_is _ _ (by decide) (by decide)]
 split<;>omega
theorem pl_261888 (x:Int) : -261888<pl 261888 x∧pl 261888 x≤261888∧pl 261888 x≤x%8380417∧(x%8380417-pl 261888 x)%523776=0:=by
 unfold pl
 rw[ce_is _ _ (by decide) (by decide)]
 split<;>omega
theorem hgh_bad {g:Int} (h:okg g=false) (x:Int):hgh g x=0:=by unfold hgh;rw[if_neg (by rw[h];decide)]
theorem lw_bad {g:Int} (h:okg g=false) (x:Int):lw g x=0:=by unfold lw;rw[if_neg (by rw[h];decide)]
theorem okg_a:okg 95232=true:=by decide
theorem okg_b:okg 261888=true:=by decide
theorem parts_95232 (x:Int) : 0≤hgh 95232 x∧hgh 95232 x<44 ∧ -95232≤lw 95232 x∧lw 95232 x≤95232∧(hgh 95232 x*190464+lw 95232 x)%8380417=x%8380417:=by
 have h:=pl_95232 x
 unfold hgh lw
 rw[if_pos okg_a,if_pos okg_a]
 split<;>omega
theorem parts_261888 (x:Int) : 0≤hgh 261888 x∧hgh 261888 x<16 ∧ -261888≤lw 261888 x∧lw 261888 x≤261888∧(hgh 261888 x*523776+lw 261888 x)%8380417=x%8380417:=by
 have h:=pl_261888 x
 unfold hgh lw
 rw[if_pos okg_b,if_pos okg_b]
 split<;>omega
def sl (x:Int):Int:=ce 8192 (x%8380417)
def sh (x:Int):Int:=(x%8380417-sl x) / 8192
theorem sl_bound (x:Int) : -4096<sl x∧sl x≤4096∧sl x≤x%8380417∧(x%8380417-sl x)%8192=0:=by
 unfold sl
 rw[ce_is _ _ (by decide) (by decide)]
 split<;>omega
theorem split_is (x:Int) : 0≤sh x∧sh x≤1023∧(sh x*8192+sl x)%8380417=x%8380417:=by
 have h:=sl_bound x
 unfold sh
 omega
theorem ce_back (l:Int) (h1 : -4190208≤l) (h2:l≤4190208):ce 8380417 (l%8380417)=l:=by
 rw[ce_is _ _ (by decide) (by decide)]
 split<;>omega
def us (g h x:Int):Int:=if okg g=true then (if h=0 then hgh g x else if 0<lw g x then (hgh g x+1)%(8380416 / (2*g)) else (hgh g x+8380416 / (2*g)-1)%(8380416 / (2*g))) else 0
def hn (g z x:Int):Int:=if hgh g x=hgh g ((x+z)%8380417) then 0 else 1
def upto (n m:Int):Bool:=decide (1≤n) && decide (n≤m)
def latt (k l e t a b o s:Int):Bool:=
 upto k 8 && upto l 8 && upto t 64 && upto o 100 && (e==2 || e==4) && (a==131072 || a==524288) && okg b && (s==128 || s==192 || s==256)
def set1:Array Value:=#[.int .i64 4,.int .i64 4,.int .i64 2,.int .i64 39,.int .i64 131072,.int .i64 95232,.int .i64 80,.int .i64 128]
def set2:Array Value:=#[.int .i64 6,.int .i64 5,.int .i64 4,.int .i64 49,.int .i64 524288,.int .i64 261888,.int .i64 55,.int .i64 192]
def set3:Array Value:=#[.int .i64 8,.int .i64 7,.int .i64 2,.int .i64 60,.int .i64 524288,.int .i64 261888,.int .i64 75,.int .i64 256]
def set4:Array Value:=#[.int .i64 1,.int .i64 1,.int .i64 2,.int .i64 20,.int .i64 131072,.int .i64 95232,.int .i64 60,.int .i64 128]
def set0:Array Value:=#[.int .i64 0,.int .i64 0,.int .i64 0,.int .i64 0,.int .i64 0,.int .i64 0,.int .i64 0,.int .i64 0]
end rndm
namespace bitm
def pk (w:Nat):List Nat→Nat
 | []=>0
 | x :: l=>x+2 ^ w*pk w l
def nb (w:Nat):Nat→Nat→List Nat
 | 0,_=>[]
 | n+1,N=>N%2 ^ w :: nb w n (N / 2 ^ w)
theorem nb_length (w n N:Nat):(nb w n N).length=n:=by
 induction n generalizing N with
 | zero=>rfl
 | succ n ih=>rw[nb,List.length_cons,ih]
theorem nb_get (w n N i:Nat) (h:i<n):(nb w n N)[i]? = some (N / 2 ^ (w*i)%2 ^ w):=by
 induction n generalizing N i with
 | zero=>omega
 | succ n ih=>
  rw[nb]
  cases i with
  | zero=>simp
  | succ i=>
   rw[List.getElem?_cons_succ,ih (N / 2 ^ w) i (by omega),Nat.div_div_eq_div_mul,←Nat.pow_add,Nat.mul_succ,Nat.add_comm w]
theorem nb_lt (w n N:Nat):∀ x∈nb w n N,x<2 ^ w:=by
 induction n generalizing N with
 | zero=>intro x hx;cases hx
 | succ n ih=>
  intro x hx
  rw[nb,List.mem_cons]at hx
  rcases hx with rfl | hx
  ·exact Nat.mod_lt _ (Nat.two_pow_pos _)
  ·exact ih _ x hx
theorem pk_lt (w:Nat) (l:List Nat) (h:∀ x∈l,x<2 ^ w):pk w l<2 ^ (w*l.length):=by
 induction l with
 | nil=>simp[pk]
 | cons x l ih=>
  have h1:=h x (by simp)
  have h2:=ih (fun y hy=>h y (by simp[hy]))
  rw[pk,List.length_cons,Nat.mul_succ,Nat.add_comm (w*l.length),Nat.pow_add]
  calc x+2 ^ w*pk w l<2 ^ w+2 ^ w*pk w l:=by omega
   _=2 ^ w*(pk w l+1):=by rw[Nat.mul_succ,Nat.add_comm]
   _≤2 ^ w*2 ^ (w*l.length):=Nat.mul_le_mul_left _ h2
theorem nb_pk (w:Nat) (l:List Nat) (h:∀ x∈l,x<2 ^ w):nb w l.length (pk w l)=l:=by
 induction l with
 | nil=>rfl
 | cons x l ih=>
  have h1:=h x (by simp)
  rw[List.length_cons,nb,pk,Nat.add_mul_mod_self_left,Nat.mod_eq_of_lt h1,Nat.add_mul_div_left _ _ (Nat.two_pow_pos _),Nat.div_eq_of_lt h1,Nat.zero_add,ih (fun y hy=>h y (by simp[hy]))]
theorem pk_nb (w n N:Nat):pk w (nb w n N)=N%2 ^ (w*n):=by
 induction n generalizing N with
 | zero=>simp[nb,pk,Nat.mod_one]
 | succ n ih=>
  rw[nb,pk,ih,Nat.mul_succ,Nat.add_comm (w*n),Nat.pow_add,Nat.mod_mul]
theorem pk_at (w:Nat) (l:List Nat) (h:∀ x∈l,x<2 ^ w) (i:Nat) (hi:i<l.length):pk w l / 2 ^ (w*i)%2 ^ w=l[i]:=by
 have h1:=nb_get w l.length (pk w l) i hi
 rw[nb_pk w l h,List.getElem?_eq_getElem hi]at h1
 exact(Option.some.inj h1).symm
end bitm
namespace bitn
open bitm
theorem mod_div_mod (N m a c:Nat) (h:a+c≤m):N%2 ^ m / 2 ^ a%2 ^ c=N / 2 ^ a%2 ^ c:=by
 obtain⟨d,rfl⟩:∃ d,m=a+c+d:=⟨m-(a+c),by omega⟩
 rw[Nat.add_assoc,Nat.pow_add,Nat.mod_mul_right_div_self,Nat.pow_add,Nat.mod_mul_right_mod]
theorem held_lt (N m a:Nat) (h:a≤m):N%2 ^ m / 2 ^ a<2 ^ (m-a):=by
 rw[Nat.div_lt_iff_lt_mul (Nat.two_pow_pos _),←Nat.pow_add,Nat.sub_add_cancel h]
 exact Nat.mod_lt _ (Nat.two_pow_pos _)
theorem or_add2 (a b k:Nat) (ha:a<2 ^ k):a ||| b*2 ^ k=a+2 ^ k*b:=by
 rw[Nat.mul_comm,Nat.or_comm,←Nat.two_pow_add_eq_or_of_lt ha,Nat.add_comm]
theorem or_next (N m a c:Nat) (h:a≤m):(N%2 ^ m / 2 ^ a) ||| (N / 2 ^ m%2 ^ c)*2 ^ (m-a)=N%2 ^ (m+c) / 2 ^ a:=by
 rw[or_add2 _ _ _ (held_lt N m a h)]
 obtain⟨d,rfl⟩:∃ d,m=a+d:=⟨m-a,by omega⟩
 rw[Nat.add_sub_cancel_left,Nat.pow_add 2 (a+d) c,Nat.mod_mul,Nat.pow_add 2 a d,Nat.mul_assoc,Nat.add_mul_div_left _ _ (Nat.two_pow_pos _)]
theorem nb_snoc (w b N:Nat):nb w (b+1) N=nb w b N ++ [N / 2 ^ (w*b)%2 ^ w]:=by
 apply List.ext_getElem?
 intro i
 by_cases h:i<b
 ·rw[nb_get w (b+1) N i (by omega),List.getElem?_append_left (by rw[nb_length];exact h),nb_get w b N i h]
 ·by_cases h2:i=b
  ·subst h2
   rw[nb_get w (i+1) N i (by omega),List.getElem?_append_right (by rw[nb_length];omega),nb_length,Nat.sub_self]
   rfl
  ·rw[List.getElem?_eq_none (by rw[nb_length];omega),List.getElem?_eq_none (by rw[List.length_append,nb_length];simp;omega)]
theorem pow_small (k n:Nat) (h:k≤n) : 2 ^ k≤2 ^ n:=Nat.pow_le_pow_right (by decide) h
end bitn
namespace rbita
open Go Go.RowKit
open arr mem
def lbf:Nat→Nat→Nat
 | 0,_=>0
 | f+1,n=>if n=0 then 0 else lbf f (n / 2)+1
def lb (n:Nat):Nat:=lbf 64 n
theorem lbf_spec (f:Nat):∀ n,n<2 ^ f→n<2 ^ lbf f n∧(0<n→0<lbf f n∧2 ^ (lbf f n-1)≤n)∧lbf f n≤f:=by
 induction f with
 | zero=>intro n h;simp[lbf]at *;omega
 | succ f ih=>
  intro n h
  unfold lbf
  by_cases h0:n=0
  ·subst h0;simp
  ·rw[if_neg h0]
   obtain⟨h1,h2,h3⟩:=ih (n / 2) (by rw[Nat.pow_succ]at h;omega)
   refine⟨by rw[Nat.pow_succ];omega,fun _=>⟨by omega,?_⟩,by omega⟩
   rw[Nat.add_sub_cancel]
   by_cases h4 : 0<n / 2
   ·obtain⟨h5,h6⟩:=h2 h4
    rw[show lbf f (n / 2)=(lbf f (n / 2)-1)+1 by omega,Nat.pow_succ]
    omega
   ·have h5:n / 2=0:=by omega
    have h7:∀ f,lbf f 0=0:=fun f=>by cases f<;>simp[lbf]
    rw[h5,h7]
    omega
theorem lbf_more (f:Nat):∀ g n,n<2 ^ f→f≤g→lbf g n=lbf f n:=by
 induction f with
 | zero=>
  intro g n h _
  have:n=0:=by simpa using h
  subst this
  cases g<;>simp[lbf]
 | succ f ih=>
  intro g n h hg
  obtain⟨g,rfl⟩:∃ k,g=k+1:=⟨g-1,by omega⟩
  unfold lbf
  by_cases h0:n=0
  ·rw[if_pos h0,if_pos h0]
  ·rw[if_neg h0,if_neg h0,ih g (n / 2) (by rw[Nat.pow_succ]at h;omega) (by omega)]
end rbita
namespace rbitb
open Go Go.RowKit
open arr mem stil bitm rbita
theorem infoByte:(Tryz.prog.info? 5).map (fun i=>(i.zero,i.size,i.bytes))=some (some (.int .u8 0),1,1):=by kernel_rfl
theorem parts {P:Program} {e:TypeId} {z:Value} {s b:Nat} (h:(P.info? e).map (fun i=>(i.zero,i.size,i.bytes))=some (some z,s,b)):∃ i,P.info? e=some i∧i.zero=some z∧i.size=s∧i.bytes=b:=by
 cases hi:P.info? e with
 | none=>rw[hi]at h;cases h
 | some i=>
  rw[hi]at h
  simp only[Option.map_some,Option.some.injEq,Prod.mk.injEq]at h
  exact⟨i,rfl,h.1,h.2.1,h.2.2⟩
def u8s (l:List Nat):List UInt8:=l.map UInt8.ofNat
theorem conv_lk {w:World} {g cap n:Nat} {t:TypeId} {l:List Nat} (hn:l.length=n) (hl:∀ x∈l,x<256) (h:w.heap[g]? = some (.cells (LK .u8 l) t (0,0))):
 (convert 57 9 (.slice (some ⟨g,0,none⟩) n cap)).run Tryz.prog w=.ok (.string ⟨(u8s l).toArray⟩) w:=by
 subst hn
 have hz:(u8s l).length=l.length:=by simp[u8s]
 have:=run_convert_bytes_back (P:=Tryz.prog) w 57 9 5 ⟨g,0,none⟩ cap (u8s l) Tryz.underlying57 Tryz.underlying5 Tryz.underlying9 (fun j hj=>by
  rw[hz]at hj
  rw[Addr.add_mid,Nat.zero_add,cell_at h (lk_get .u8 l j hj)]
  have hx:=hl l[j] (List.getElem_mem hj)
  simp[u8s,List.getD_eq_getElem?_getD,List.getElem?_eq_getElem hj,Nat.mod_eq_of_lt hx])
 rw[hz]at this
 exact this
theorem own_row {w:World} {base g M:Nat} {e:TypeId} {xs:List Value} (h:w.ownsRow base e 1 (.slice (some ⟨g,0,none⟩) M M) M xs):∃ cur,w.heap[g]? = some (.cells cur e (0,0))∧cur.toList=xs:=by
 rcases h.2 with ⟨h',-⟩ | ⟨g',cap',cur,h',hb,hg,-,hm,hs,htake⟩
 ·simp at h'
 ·simp only[Value.slice.injEq,Option.some.injEq,Addr.mk.injEq,and_true,true_and]at h'
  obtain⟨rfl,rfl⟩:=h'
  refine⟨cur,hg,?_⟩
  rw[←htake,List.take_of_length_le (by rw[Array.length_toList];omega)]
end rbitb
namespace rbitc
open Go Go.RowKit
open arr mem stil bitm polys rbita rbitb
def bys (b:ByteArray):List Nat:=b.data.toList.map (·.toNat)
theorem bys_length (b:ByteArray):(bys b).length=b.size:=by unfold bys;rw[List.length_map];rfl
theorem bys_lt (b:ByteArray):∀ x∈bys b,x<2 ^ 8:=by
 intro x hx
 obtain⟨u,-,rfl⟩:=List.mem_map.1 hx
 exact u.toNat_lt
theorem byte_of (b:ByteArray) (i β : Nat) (hi:i<b.size) (hb:(bys b).getD i 0 = β) (w:World):(Instr.index 9 (.string b) (.int .i64 (i:Int))).run Tryz.prog w=.ok (.int .u8 (β : Int)) w:=by
 subst hb
 rw[run_index_string w 9 b .i64 (i:Int) Tryz.underlying9,dif_pos ⟨by omega,by omega⟩]
 have e:(bys b).getD i 0=(b[i]'hi).toNat:=by
  rw[List.getD_eq_getElem?_getD,List.getElem?_eq_getElem (by rw[bys_length];exact hi)]
  simp only[bys,List.getElem_map,Option.getD_some]
  rfl
 rw[e]
 rfl
theorem infoP:(Tryz.prog.info? 76).map (fun i=>(i.zero,i.size))=some (some (.agg (FL .i64 256 fun _=>0)),256):=by kernel_rfl
def bt (N wd i k:Nat):Nat:=N / 2 ^ (wd*i)%2 ^ k
theorem or_add (a b k:Nat) (ha:a<2 ^ k):a ||| b*2 ^ k=a+2 ^ k*b:=by
 rw[Nat.mul_comm b,Nat.or_comm,←Nat.two_pow_add_eq_or_of_lt ha,Nat.add_comm]
theorem or_i64 (a b:Nat) (ha:a<9223372036854775808) (hb:b<9223372036854775808):bits .or .i64 (a:Int) (b:Int)=((a ||| b:Nat):Int):=by
 have h:=Nat.or_lt_two_pow (n:=63) ha hb
 show IntKind.i64.wrap ((BitVec.ofInt 64 (a:Int) ||| BitVec.ofInt 64 (b:Int)).toNat:Int)=_
 rw[BitVec.ofInt_natCast,BitVec.ofInt_natCast,BitVec.toNat_or,BitVec.toNat_ofNat,BitVec.toNat_ofNat,Nat.mod_eq_of_lt (by omega),Nat.mod_eq_of_lt (by omega),IntKind.wrap_i64]
 omega
theorem and_u8 (y:Nat) (h:y<256):bits .and .u8 (y:Int) 1=((y%2:Nat):Int):=by
 show IntKind.u8.wrap ((BitVec.ofInt 8 (y:Int) &&& BitVec.ofInt 8 1).toNat:Int)=_
 rw[show (1:Int)=((1:Nat):Int) from rfl,BitVec.ofInt_natCast,BitVec.ofInt_natCast,BitVec.toNat_and,BitVec.toNat_ofNat,BitVec.toNat_ofNat,Nat.mod_eq_of_lt (by omega),Nat.mod_eq_of_lt (by decide),Nat.and_one_is_mod,IntKind.wrap_u8]
 omega
end rbitc
namespace rbitd
open Go Go.RowKit
open arr mem stil bitm polys rbita rbitb rbitc
theorem index_row {P:Program} {t e:TypeId} {n:Nat} (hu:P.underlying t=some (.array n e)) (he:P.plainKey e=true) (hi0:(P.info? e).isSome=true) (hc:P.cellsOf e=1) (C:Array Value) (v:Value) (k:Nat) (hk:k<n) (hx:C[k]? = some v) (w:World):
 (Instr.index t (.agg C) (.int .i64 (k:Int))).run P w=.ok v w:=by
 obtain⟨i,hi⟩:=Option.isSome_iff_exists.1 hi0
 have h1:(0:Int)≤(k:Int)∧(k:Int)<(n:Int):=⟨by omega,by omega⟩
 unfold Instr.index
 simp only[asIntOf,Sem.run_bind,Sem.run_pure,run_underlying hu,Result.andThen_ok,if_pos h1,run_sizeOf w hi,hc,Nat.mul_one,Int.toNat_natCast]
 exact run_part_plain w he hx
theorem infoInt:(Tryz.prog.info? 3).map (fun i=>(i.zero,i.size,i.bytes))=some (some (.int .i64 0),1,8):=by kernel_rfl
theorem sizeP:(Tryz.prog.info? 76).map (·.size)=some 256:=by kernel_rfl
theorem news_at {w:World} {v:Value} {T:Nat}:∀ j u,[v][j]? = some u→(w.alloc (.cells #[v] T)).cell? ((⟨w.heap.size,0,none⟩:Addr).add j)=some u:=by
 intro j u hj
 match j,hj with
 | 0,hj=>
  simp at hj
  subst hj
  simp[Addr.add]
theorem owns_some {w:World} {base:Nat} {e:TypeId} {size:Nat} {v:Value} {n:Nat} {xs:List Value} (hn : 0<n) (h:w.ownsRow base e size v n xs):∃ g cap,v=.slice (some ⟨g,0,none⟩) n cap:=by
 rcases h.2 with ⟨-,h0⟩ | ⟨g,cap,cur,hv,-⟩
 ·omega
 ·exact⟨g,cap,hv⟩
def cs (f:Nat→Int) (m:Nat):List Value:=(List.range m).map fun i=>Value.int .i64 (f i)
def ns (f:Nat→Int):List Nat:=(List.range 256).map fun i=>(f i).toNat
def inb (f:Nat→Int) (most:Int):Prop:=∀ i,i<256→0≤f i∧f i≤most
instance (f:Nat→Int) (most:Int):Decidable (inb f most):=by unfold inb;exact inferInstance
def packed (f:Nat→Int) (most:Int):ByteArray:=⟨(u8s (nb 8 (32*lb most.toNat) (pk (lb most.toNat) (ns f)))).toArray⟩
end rbitd
namespace rbite
open Go Go.RowKit
open arr mem stil bitm polys fldm rbita rbitb rbitc rbitd
theorem results_cell_tmp {P:Program} {fn:Func} {p u:Tmp} {ty:TypeId} (h:fn.results=#[.cell p ty,.tmp u]) (tmps:Array Value) (w:World) (g:Nat) (t:TypeId) (cs:Array Value) (fr:Nat × Nat) (d:TypeDesc)
 (hp:tmps.getD p undef=.pointer (some ⟨g,0,none⟩)) (hg:w.heap[g]? = some (.cells cs t fr))
 (hu:P.underlying ty=some d) (hd:(match d with | .struct _ | .array _ _=>true | _=>false)=true) (hi:(P.info? ty).map (·.size)=some cs.size) (v:Value) (hv:tmps.getD u undef=v):
 (results fn tmps).run P w=.ok (.tuple #[.agg cs,v]) w:=by
 have hp':tmps[p]?.getD undef=.pointer (some ⟨g,0,none⟩):=by simpa using hp
 have hv':tmps[u]?.getD undef=v:=by simpa using hv
 simp[results,h,hp',hv',asAddr,run_loadVar_row w g t ty cs fr d hg hu hd hi]
theorem wpList_buildC {P:Program} {ops:Array Oper} {rest:List Oper} {o:Oper} {a:Act} {w:World} {Q:Exit→Act→World→Prop} (hg:o.guard=none) (t:TypeId) (parts:Array (Nat × Operand)) (ho:o.op=.build t parts)
 (C:Array Value) (hC:P.built t (parts.map fun (i,x)=>(i,a.eval x)).toList=some C) (h:wpList P ops Q rest (a.put o.dst (.agg C)) w):wpList P ops Q (o :: rest) a w:=
 wpList_build hg t _ ho (by rw[hC];rfl) (by rw[hC];exact h)
def sg (f:Nat→Int) (high:Int):Nat→Int:=fun i=>high-ce 8380417 (f i)
def ins (f:Nat→Int) (low high:Int):Prop:=∀ i,i<256 → -low≤ce 8380417 (f i)∧ce 8380417 (f i)≤high
instance (f:Nat→Int) (low high:Int):Decidable (ins f low high):=by unfold ins;exact inferInstance
theorem ce_small (x:Int) : -4190208≤ce 8380417 x∧ce 8380417 x≤4190208:=by
 unfold ce
 rw[if_neg (by omega)]
 split<;>omega
end rbite
namespace rbitf
open Go Go.RowKit
open arr mem stil bitm polys fldm rbita rbitb rbitc rbitd rbite
def up (s:ByteArray) (wd:Nat):Nat→Int:=fun i=>((bt (pk 8 (bys s)) wd i wd:Nat):Int)
theorem lb_small (most:Int) (h:most<8380417):lb most.toNat≤23:=by
 have h3:most.toNat<2 ^ 23:=by omega
 have h4:lb most.toNat=lbf 23 most.toNat:=lbf_more 23 64 _ h3 (by decide)
 rw[h4]
 exact(lbf_spec 23 _ h3).2.2
end rbitf
namespace rbitg
open Go Go.RowKit
open arr mem stil bitm polys fldm rbita rbitb rbitc rbitd rbite rbitf
def un (f:Nat→Int) (high:Int):Nat→Int:=fun i=>(high-f i)%8380417
end rbitg
namespace rbith
open Go Go.RowKit
open arr mem stil bitm polys fldm rbita rbitb rbitc rbitd rbite
def cnt (f:Nat→Int):Nat→Nat
 | 0=>0
 | k+1=>cnt f k+if f k=0 then 0 else 1
def tot (h:Nat→Nat→Int):Nat→Nat
 | 0=>0
 | i+1=>tot h i+cnt (h i) 256
def put (f:Nat→Int) (n:Nat) (S:List Nat):Nat→List Nat
 | 0=>S
 | k+1=>if f k=0 then put f n S k else (put f n S k).set (n+cnt f k) k
def lay (h:Nat→Nat→Int) (om m:Nat):Nat→List Nat
 | 0=>List.replicate (om+m) 0
 | i+1=>(put (h i) (tot h i) (lay h om m i) 256).set (om+i) (tot h (i+1))
theorem put_length (f:Nat→Int) (n:Nat) (S:List Nat) (k:Nat):(put f n S k).length=S.length:=by
 induction k with
 | zero=>rfl
 | succ k ih=>rw[put];split<;>simp[ih]
theorem lay_length (h:Nat→Nat→Int) (om m i:Nat):(lay h om m i).length=om+m:=by
 induction i with
 | zero=>simp[lay]
 | succ i ih=>rw[lay,List.length_set,put_length,ih]
theorem cnt_mono (f:Nat→Int) (k j:Nat) (hkj:k≤j):cnt f k≤cnt f j:=by
 induction j with
 | zero=>
  obtain rfl:k=0:=by omega
  exact Nat.le_refl _
 | succ j ih=>
  by_cases e:k=j+1
  ·subst e;exact Nat.le_refl _
  ·have:=ih (by omega)
   rw[cnt];omega
theorem tot_mono (h:Nat→Nat→Int) (i j:Nat) (hij:i≤j):tot h i≤tot h j:=by
 induction j with
 | zero=>
  obtain rfl:i=0:=by omega
  exact Nat.le_refl _
 | succ j ih=>
  by_cases e:i=j+1
  ·subst e;exact Nat.le_refl _
  ·have:=ih (by omega)
   rw[tot];omega
theorem set_lt {L:List Nat} {i v:Nat} (h:∀ x∈L,x<256) (hv:v<256):∀ x∈L.set i v,x<256:=fun x hx=>by
 rcases List.mem_or_eq_of_mem_set hx with h1 | rfl
 ·exact h x h1
 ·exact hv
theorem put_lt (f:Nat→Int) (n:Nat) (S:List Nat) (k:Nat) (hk:k≤256) (h:∀ x∈S,x<256):∀ x∈put f n S k,x<256:=by
 induction k with
 | zero=>exact h
 | succ k ih=>
  rw[put]
  split
  ·exact ih (by omega)
  ·exact set_lt (ih (by omega)) (by omega)
theorem lay_lt (h:Nat→Nat→Int) (om m i:Nat) (ht:tot h i<256):∀ x∈lay h om m i,x<256:=by
 induction i with
 | zero=>
  intro x hx
  rw[lay]at hx
  have:=List.eq_of_mem_replicate hx
  omega
 | succ i ih=>
  rw[lay]
  exact set_lt (put_lt _ _ _ _ (Nat.le_refl _) (ih (by have:=tot_mono h i (i+1) (by omega);omega))) ht
end rbith
namespace rbitu
open Go Go.RowKit
open arr mem qops stil bitm polys fldm rbita rbitb rbitc rbitd rbite
def fr (β : Nat→Nat) (om:Nat):Nat→Nat
 | 0=>0
 | i+1 => β (om+i)
def mk (β : Nat→Nat) (a:Nat):Nat→Nat→Int
 | 0=>fun _=>0
 | t+1=>upd (mk β a t) (β (a+t)) 1
def one (β : Nat→Nat) (om i:Nat):Prop:=fr β om i≤fr β om (i+1)∧fr β om (i+1)≤om∧∀ k,fr β om i<k→k<fr β om (i+1) → β (k-1) < β k
def uok (β : Nat→Nat) (om m:Nat):Prop:=(∀ i,i<m→one β om i)∧∀ k,fr β om m≤k→k<om → β k=0
def ply (β : Nat→Nat) (om i:Nat):Nat→Int:=mk β (fr β om i) (fr β om (i+1)-fr β om i)
def cl (β : Nat→Nat) (om:Nat):Nat→List Value
 | 0=>[]
 | i+1=>cl β om i++(FL .i64 256 (ply β om i)).toList
theorem own_later {w w':World} {B e size n:Nat} {v:Value} {xs:List Value} (h:w.ownsRow B e size v n xs) (hb:Below w.heap.size w w'):w'.ownsRow B e size v n xs:=
 ⟨h.1,h.2.imp id fun ⟨g,cap,cur,hv,hbb,hg,r⟩=>⟨g,cap,cur,hv,hbb,(hb.block g (lt_of_row hg)).trans hg,r⟩⟩
theorem cell_at_new {w:World} {F:Array Value} {T j:Nat} {u:Value} (hu:F.toList[j]? = some u):(w.alloc (.cells F T)).cell? ((⟨w.heap.size,0,none⟩:Addr).add j)=some u:=by
 rw[Addr.add_mid,Nat.zero_add]
 exact cell_at (heap_at _ _ _ rfl) (by simpa using hu)
theorem fill_one (F cells:Array Value) (hF:F.size=256) (hc:cells.size=256):Instr.fill (fun i=>some (i*256,256)) cells [(0,.agg F)]=some F:=by
 have h:=Great.fill_whole (s:=256) (by decide) [Value.agg F] cells (by intro v hv;simp at hv;subst hv;exact hF) (by simp[hc])
 have e:(([Value.agg F].flatMap fun v=>v.cells.toList).toArray)=F:=by simp[Value.cells]
 rw[e]at h
 exact h
theorem infoPoly:(Tryz.prog.info? 76).map (fun i=>(i.zero,i.size,i.bytes))=some (some (.agg (FL .i64 256 fun _=>0)),256,2048):=by kernel_rfl
end rbitu
namespace bitp
open Go Go.RowKit
open arr mem bitm polys fldm rbita rbitb rbitc rbitd rbite rbitf rbitg
theorem bys_u8s (l:List Nat) (h:∀ x∈l,x<2 ^ 8):bys ⟨(u8s l).toArray⟩=l:=by
 unfold bys u8s
 rw[List.map_map]
 conv=>rhs;rw[←List.map_id l]
 refine List.map_congr_left fun x hx=>?_
 have:=h x hx
 show (UInt8.ofNat x).toNat=x
 rw[UInt8.toNat_ofNat']
 omega
theorem lb_lt (most:Int) (h2:most<8380417):most.toNat<2 ^ lb most.toNat:=(lbf_spec 64 most.toNat (by omega)).1
theorem lb_pos (most:Int) (h1 : 1≤most) (h2:most<8380417) : 1≤lb most.toNat:=
 ((lbf_spec 64 most.toNat (by omega)).2.1 (by omega)).1
theorem size_packed (f:Nat→Int) (most:Int):(packed f most).size=32*lb most.toNat:=by
 rw[←bys_length,packed,bys_u8s _ (nb_lt 8 _ _),nb_length]
theorem ns_len (f:Nat→Int):(ns f).length=256:=by simp[ns]
theorem up_packed (f:Nat→Int) (most:Int) (h2:most<8380417) (hin:inb f most) (i:Nat) (hi:i<256):up (packed f most) (lb most.toNat) i=f i:=by
 have hL:∀ x∈ns f,x<2 ^ lb most.toNat:=by
  intro x hx
  obtain⟨j,hj,rfl⟩:=List.mem_map.1 hx
  have h3:=hin j (List.mem_range.1 hj)
  exact Nat.lt_of_le_of_lt (by omega) (lb_lt most h2)
 have hb:=pk_lt (lb most.toNat) (ns f) hL
 rw[ns_len,show lb most.toNat*256=8*(32*lb most.toNat) by omega]at hb
 have hm:=Nat.mod_eq_of_lt hb
 have ha:=pk_at (lb most.toNat) (ns f) hL i (by rw[ns_len];exact hi)
 unfold up packed bt
 rw[bys_u8s _ (nb_lt 8 _ _),pk_nb,hm,ha]
 simp only[ns,List.getElem_map,List.getElem_range]
 exact Int.toNat_of_nonneg (hin i hi).1
theorem un_sg (f:Nat→Int) (high:Int) (i:Nat) (h : 0≤f i∧f i<8380417):un (sg f high) high i=f i:=by
 unfold un sg ce
 rw[if_neg (by omega)]
 split<;>omega
end bitp
namespace helda
open Go Go.RowKit
open mem arr
section
variable {P:Program} {md:Region.Mode} {ops:Array Oper} {Q:Exit→Act→World→Prop} {S:World→Prop}
theorem held_step {i fuel:Nat} {o:Oper} {listed:Array Bool} {a:Act} {w:World} (hr:Region.ready md ops listed=[i]) (hi:ops[i]? = some o) (hw:Region.wanted o (yielded ops a.tmps)=true)
 (h:∀ K:Act→World→Prop,(∀ a' w',S w'→wpAnyH P md ops Q S fuel (listed.setIfInBounds i true) a' w'→K a' w')→o.wp P a w K Q):wpAnyH P md ops Q S (fuel+1) listed a w:=by
 refine wpAnyH_all hr (by simp) fun j hj=>?_
 have e:j=i:=by simpa using hj
 subst e
 unfold Go.wpOp
 simp only[hi,hw,if_true]
 exact Or.inl (h _ fun a' w' hs hh=>⟨hs,hh⟩)
theorem held_begin {id:Nat} {a:Act} {w:World} {l:List Oper} (B:Nat) (hm:P.follows .mixedOrders=true)
 (h:Below B w w.drew→wpAnyH P .any l.toArray Q (fun w'=>Below B w w') l.toArray.size (Array.replicate l.toArray.size false) a w.drew):(Code.region id l.toArray true).wp P Q a w:=
 wp_region_held hm (h ((Below.refl _ _).drew))
def pre (n k:Nat):Array Bool:=(List.replicate k true++List.replicate (n-k) false).toArray
def HL (P:Program) (ops:Array Oper) (Q:Exit→Act→World→Prop) (S:World→Prop) (n:Nat) (l:List Oper) (k:Nat) (a:Act) (w:World):Prop:=
 (∀ j,l[j]? = ops[k+j]?)→wpAnyH P .any ops Q S l.length (pre n k) a w
def HK (P:Program) (ops:Array Oper) (Q:Exit→Act→World→Prop) (S:World→Prop) (b:Array Bool) (l:List Oper) (ks:List Nat) (a:Act) (w:World):Prop:=
 ks.map (fun k=>ops[k]?)=l.map some→wpAnyH P .any ops Q S l.length b a w
theorem hk_take {b:Array Bool} {k:Nat} {ks:List Nat} {o:Oper} {rest:List Oper} {a:Act} {w:World} {v:Value} (hw:Region.wanted o (yielded ops a.tmps)=true) (hs:Region.noSelect ops=true) (hf:Region.free .any ops b k=true) (hr:(Region.ready .any ops b).contains k=true)
 (hQ:∀ c a w,Q (.panic c) (a.put o.dst v) w→Q (.panic c) a w) (hy:∀ w,S w→(execOp a.eval o).run P w=.ok (.value v) w) (hS:S w) (h:HK P ops Q S (b.setIfInBounds k true) rest ks (a.put o.dst v) w):HK P ops Q S b (o :: rest) (k :: ks) a w:=fun hl=>by
 simp only[List.map_cons,List.cons.injEq]at hl
 exact wpAnyH_take hl.1 hs hf hr hQ (Or.inl ⟨hw,hy⟩) hS (h hl.2)
theorem hk_load {b:Array Bool} {k:Nat} {ks:List Nat} {o:Oper} {rest:List Oper} {a:Act} {w:World} (hw:Region.wanted o (yielded ops a.tmps)=true) (hs:Region.noSelect ops=true) (hf:Region.free .any ops b k=true) (hr:(Region.ready .any ops b).contains k=true)
 (hQ:∀ v c a w,Q (.panic c) (a.put o.dst v) w→Q (.panic c) a w) (ty:TypeId) (x:Operand) (ho:o.op=.load ty x)
 (g:Nat) (hx:a.eval x=.pointer (some ⟨g,0,none⟩)) (t:TypeId) (cs:Array Value) (d:TypeDesc) (hC:∀ w,S w→w.heap[g]? = some (.cells cs t (0,0)))
 (hu:P.underlying ty=some d) (hd:(match d with | .struct _ | .array _ _=>true | _=>false)=true) (hz:(P.info? ty).map (·.size)=some cs.size) (hS:S w)
 (h:HK P ops Q S (b.setIfInBounds k true) rest ks (a.put o.dst (.agg cs)) w):HK P ops Q S b (o :: rest) (k :: ks) a w:=
 hk_take hw hs hf hr (hQ _) (fun w hw2=>by
  unfold execOp
  simp only[ho,hx,Instr.loadAt,Instr.sureAddr,Sem.run_bind,Sem.run_pure,Result.andThen_ok,run_loadVar_row w g t ty cs (0,0) d (hC w hw2) hu hd hz]) hS h
theorem hk_step {b:Array Bool} {k:Nat} {ks:List Nat} {o:Oper} {rest:List Oper} {a:Act} {w:World} (hw:Region.wanted o (yielded ops a.tmps)=true) (hr:Region.ready .any ops b=[k])
 (h:∀ K:Act→World→Prop,(∀ a' w',S w'→HK P ops Q S (b.setIfInBounds k true) rest ks a' w'→K a' w')→o.wp P a w K Q):HK P ops Q S b (o :: rest) (k :: ks) a w:=fun hl=>by
 simp only[List.map_cons,List.cons.injEq]at hl
 exact held_step hr hl.1 hw fun K hK=>h K fun a' w' hs hh=>hK a' w' hs (hh hl.2)
theorem hk_nil {b:Array Bool} {a:Act} {w:World} (hr:Region.ready .any ops b=[]) (h:Q .normal a w):HK P ops Q S b [] [] a w:=fun _=>wpAnyH_done hr h _
theorem order_is (l:List Oper) (ks:List Nat) (h:ks.all (fun k=>decide (k<l.length))=true):ks.map (fun k=>l.toArray[k]?)=(ks.filterMap fun k=>l[k]?).map some∧(ks.filterMap fun k=>l[k]?).length=ks.length:=by
 induction ks with
 | nil=>exact⟨rfl,rfl⟩
 | cons k ks ih=>
  rw[List.all_cons,Bool.and_eq_true]at h
  have hk:k<l.length:=of_decide_eq_true h.1
  obtain⟨h1,h2⟩:=ih h.2
  have e:l[k]? = some l[k]:=List.getElem?_eq_getElem hk
  rw[List.filterMap_cons,e,List.map_cons,h1]
  exact⟨by simp[e],by simp[h2]⟩
theorem hk_begin {id:Nat} {a:Act} {w:World} {l:List Oper} (B n:Nat) (ks:List Nat) (hm:P.follows .mixedOrders=true) (hn:l.length=n) (hz:ks.length=n) (hall:ks.all (fun k=>decide (k<n))=true)
 (h:Below B w w.drew→∀ ops:Array Oper,Away (l.toArray=ops)→HK P ops Q (fun w'=>Below B w w') (Array.replicate n false) (ks.filterMap fun k=>l[k]?) ks a w.drew):(Code.region id l.toArray true).wp P Q a w:=by
 subst hn
 obtain⟨h1,h2⟩:=order_is l ks hall
 refine held_begin B hm fun hb=>?_
 have h3:=h hb _ ⟨rfl⟩ h1
 rw[h2,hz]at h3
 exact h3
end
end helda
namespace samm
open Go Go.RowKit
open arr mem polys fldm
def by' (B:List Nat) (i:Nat):Nat:=B.getD i 0
def tri (B:List Nat) (i:Nat):Nat:=by' B i+256*by' B (i+1)+65536*(by' B (i+2)%128)
def ua (B:List Nat):Nat→List Nat
 | 0=>[]
 | j+1=>if (ua B j).length<256∧tri B (3*j)<8380417 then ua B j ++ [tri B (3*j)] else ua B j
theorem ua_le (B:List Nat) (j:Nat):(ua B j).length≤256∧(ua B j).length≤j:=by
 induction j with
 | zero=>simp[ua]
 | succ j ih=>
  rw[ua]
  split
  ·rename_i h;rw[List.length_append];simp;omega
  ·omega
theorem ua_lt (B:List Nat) (j:Nat):∀ x∈ua B j,x<8380417:=by
 induction j with
 | zero=>intro x hx;cases hx
 | succ j ih=>
  intro x hx
  rw[ua]at hx
  split at hx
  ·rename_i h
   rw[List.mem_append]at hx
   rcases hx with hx | hx
   ·exact ih x hx
   ·simp at hx;omega
  ·exact ih x hx
theorem ua_full (B:List Nat) (j k:Nat) (h:(ua B j).length=256) (hk:j≤k):ua B k=ua B j:=by
 induction k with
 | zero=>rw[show j=0 by omega]
 | succ k ih=>
  by_cases e:j=k+1
  ·rw[e]
  ·rw[ua,ih (by omega),if_neg (by omega)]
def lf (l:List Nat) (k:Nat):Int:=((l.getD k 0:Nat):Int)
theorem lf_snoc (l:List Nat) (x:Nat):upd (lf l) l.length (x:Int)=lf (l ++ [x]):=by
 funext k
 unfold upd lf
 by_cases e:k=l.length
 ·subst e
  rw[if_pos rfl,List.getD_eq_getElem?_getD,List.getElem?_append_right (Nat.le_refl _),Nat.sub_self]
  rfl
 ·rw[if_neg e]
  by_cases h:k<l.length
  ·rw[List.getD_eq_getElem?_getD,List.getD_eq_getElem?_getD,List.getElem?_append_left h]
  ·rw[List.getD_eq_getElem?_getD,List.getD_eq_getElem?_getD,List.getElem?_eq_none (by omega),List.getElem?_eq_none (by rw[List.length_append];simp;omega)]
def uni (B:List Nat):Nat→Int:=lf (ua B 336)
theorem lf_nil:lf []=fun _=>0:=by funext k;simp[lf]
def hf (B:List Nat) (j:Nat):Nat:=if j%2=0 then by' B (j / 2)%16 else by' B (j / 2) / 16
def hok (e:Int) (b:Nat):Bool:=if e=2 then decide (b<15) else decide (b<9)
def hv (e:Int) (b:Nat):Int:=if e=2 then (2-((b%5:Nat):Int))%8380417 else (4-(b:Int))%8380417
theorem hv_red (e:Int) (b:Nat) : 0≤hv e b∧hv e b<8380417:=by unfold hv;split<;>omega
def sa (B:List Nat) (e:Int):Nat→List Nat
 | 0=>[]
 | j+1=>if (sa B e j).length<256∧hok e (hf B j)=true then sa B e j ++ [(hv e (hf B j)).toNat] else sa B e j
theorem sa_full (B:List Nat) (e:Int) (j k:Nat) (h:(sa B e j).length=256) (hk:j≤k):sa B e k=sa B e j:=by
 induction k with
 | zero=>rw[show j=0 by omega]
 | succ k ih=>
  by_cases e2:j=k+1
  ·rw[e2]
  ·rw[sa,ih (by omega),if_neg (by omega)]
theorem sa_in (B:List Nat) (e:Int) (j:Nat):∀ x∈sa B e j,∃ b,hok e b=true∧x=(hv e b).toNat:=by
 induction j with
 | zero=>intro x hx;cases hx
 | succ j ih=>
  intro x hx
  rw[sa]at hx
  split at hx
  ·rename_i h
   rw[List.mem_append]at hx
   rcases hx with hx | hx
   ·exact ih x hx
   ·simp at hx;exact⟨_,h.2,hx⟩
  ·exact ih x hx
def sma (B:List Nat) (e:Int):Nat→Int:=lf (sa B e 1632)
def nx (B:List Nat) (i:Nat):Nat→Nat→Nat
 | 0,a=>a
 | f+1,a=>if a<544∧i<by' B a then nx B i f (a+1) else a
theorem nx_stop (B:List Nat) (i f a:Nat) (h:¬ (a<544∧i<by' B a)):nx B i f a=a:=by
 cases f with
 | zero=>rfl
 | succ f=>rw[nx,if_neg h]
theorem nx_end (B:List Nat) (i f a:Nat) (hf : 544≤a+f):¬ (nx B i f a<544∧i<by' B (nx B i f a)):=by
 induction f generalizing a with
 | zero=>rw[nx];omega
 | succ f ih=>
  rw[nx]
  split
  ·exact ih (a+1) (by omega)
  ·assumption
theorem nx_le (B:List Nat) (i f a:Nat) (ha:a≤544):a≤nx B i f a∧nx B i f a≤544:=by
 induction f generalizing a with
 | zero=>exact⟨Nat.le_refl _,ha⟩
 | succ f ih=>
  rw[nx]
  split
  ·have:=ih (a+1) (by omega);omega
  ·exact⟨Nat.le_refl _,ha⟩
def sgn (B:List Nat) (t:Nat):Int:=if by' B (t / 8) / 2 ^ (t%8)%2=1 then 8380416 else 1
def bl (B:List Nat) (tau:Nat):Nat→(Nat→Int) × Nat
 | 0=>(fun _=>0,8)
 | t+1=>
  let a:=nx B (256-tau+t) 544 (bl B tau t).2
  if a=544 then ((bl B tau t).1,544)
  else (upd (upd (bl B tau t).1 (256-tau+t) ((bl B tau t).1 (by' B a))) (by' B a) (sgn B t),a+1)
theorem bl_le (B:List Nat) (tau t:Nat):(bl B tau t).2≤544:=by
 induction t with
 | zero=>exact(by decide : 8≤544)
 | succ t ih=>
  rw[bl]
  have:=nx_le B (256-tau+t) 544 (bl B tau t).2 ih
  split
  ·exact Nat.le_refl _
  ·show nx B (256-tau+t) 544 (bl B tau t).2+1≤544
   omega
theorem bl_end (B:List Nat) (tau t k:Nat) (h:(bl B tau t).2=544) (hk:t≤k):bl B tau k=bl B tau t:=by
 induction k with
 | zero=>rw[show t=0 by omega]
 | succ k ih=>
  by_cases e:t=k+1
  ·rw[e]
  ·have e2:=ih (by omega)
   rw[bl,e2,h]
   have:nx B (256-tau+k) 544 544=544:=nx_stop _ _ _ _ (by omega)
   rw[this,if_pos rfl,←h]
end samm
namespace samb
open Go Go.RowKit
open arr mem polys fldm samm
theorem lf_or (l:List Nat) (i:Nat):lf l i=0∨∃ x∈l,lf l i=(x:Int):=by
 unfold lf
 by_cases h:i<l.length
 ·exact Or.inr ⟨l[i],List.getElem_mem h,by rw[List.getD_eq_getElem?_getD,List.getElem?_eq_getElem h];rfl⟩
 ·exact Or.inl (by rw[List.getD_eq_getElem?_getD,List.getElem?_eq_none (by omega)];rfl)
theorem sma_or (B:List Nat) (e:Int) (i:Nat):sma B e i=0∨∃ b,hok e b=true∧sma B e i=hv e b:=by
 unfold sma
 rcases lf_or (sa B e 1632) i with h | ⟨x,hx,h⟩
 ·exact Or.inl h
 ·obtain⟨b,hb,rfl⟩:=sa_in B e 1632 x hx
  have:=hv_red e b
  exact Or.inr ⟨b,hb,by rw[h];omega⟩
theorem sma_red (B:List Nat) (e:Int) (i:Nat) : 0≤sma B e i∧sma B e i<8380417:=by
 rcases sma_or B e i with h | ⟨b,-,h⟩
 ·rw[h];decide
 ·rw[h];exact hv_red e b
theorem ce_is (x:Int):ce 8380417 x=if 4190208<x%8380417 then x%8380417-8380417 else x%8380417:=by
 unfold ce
 rw[if_neg (by omega)]
 rfl
theorem sma_bound (B:List Nat) (e:Int) (he:e=2∨e=4) (i:Nat) : -e≤ce 8380417 (sma B e i)∧ce 8380417 (sma B e i)≤e:=by
 rw[ce_is]
 rcases sma_or B e i with h | ⟨b,hb,h⟩
 ·rw[h]
  rcases he with rfl | rfl<;>decide
 ·rw[h]
  rcases he with rfl | rfl
  ·have h1:hv 2 b=(2-((b%5:Nat):Int))%8380417:=rfl
   rw[h1]
   split<;>omega
  ·have h1:hv 4 b=(4-(b:Int))%8380417:=rfl
   have h2:b<9:=of_decide_eq_true (show decide (b<9)=true from hb)
   rw[h1]
   split<;>omega
theorem cb_ge (h:Nat→Int) (n i:Nat) (hi:i<n):ce 8380417 (h i)≤cb h n ∧ -(ce 8380417 (h i))≤cb h n:=by
 induction n with
 | zero=>omega
 | succ n ih=>
  rw[cb]
  by_cases e:i=n
  ·subst e;omega
  ·have:=ih (by omega);omega
def nz (h:Nat→Int):Nat→Nat
 | 0=>0
 | n+1=>nz h n+if h n=0 then 0 else 1
theorem nz_zero (n:Nat):nz (fun _=>0) n=0:=by
 induction n with
 | zero=>rfl
 | succ n ih=>rw[nz,ih];rfl
theorem nz_past (h:Nat→Int) (k:Nat) (x:Int) (n:Nat) (hn:n≤k):nz (upd h k x) n=nz h n:=by
 induction n with
 | zero=>rfl
 | succ n ih=>
  rw[nz,nz,ih (by omega)]
  have:upd h k x n=h n:=by unfold upd;rw[if_neg (by omega)]
  rw[this]
theorem nz_upd (h:Nat→Int) (k:Nat) (x:Int) (n:Nat) (hn:k<n):nz (upd h k x) n+(if h k=0 then 0 else 1)=nz h n+(if x=0 then 0 else 1):=by
 induction n with
 | zero=>omega
 | succ n ih=>
  by_cases e:k=n
  ·subst e
   rw[nz,nz,nz_past h k x k (Nat.le_refl _)]
   have:upd h k x k=x:=by unfold upd;rw[if_pos rfl]
   rw[this]
   omega
  ·rw[nz,nz]
   have h1:=ih (by omega)
   have:upd h k x n=h n:=by unfold upd;rw[if_neg (by omega)]
   rw[this]
   omega
theorem sgn_or (B:List Nat) (t:Nat):sgn B t=1∨sgn B t=8380416:=by unfold sgn;split<;>simp
def tre (x:Int):Prop:=x=0∨x=1∨x=8380416
theorem tre_upd {h:Nat→Int} (H:∀ i,tre (h i)) (k:Nat) {x:Int} (hx:tre x) (i:Nat):tre (upd h k x i):=by
 unfold upd
 split
 ·exact hx
 ·exact H i
theorem bl_tre (B:List Nat) (tau t:Nat):∀ i,tre ((bl B tau t).1 i):=by
 induction t with
 | zero=>intro i;exact Or.inl rfl
 | succ t ih=>
  rw[bl]
  split
  ·exact ih
  ·exact tre_upd (tre_upd ih _ (ih _)) _ (Or.inr (sgn_or B t))
theorem bl_rest (B:List Nat) (tau t:Nat) (ht:t≤tau):∀ i,256-tau+t≤i→(bl B tau t).1 i=0:=by
 induction t with
 | zero=>intro i _;rfl
 | succ t ih=>
  intro i hi
  have h1:=ih (by omega)
  rw[bl]
  split
  ·exact h1 i (by omega)
  ·rename_i ha
   have h2:=nx_end B (256-tau+t) 544 (bl B tau t).2 (by omega)
   have h3:=(nx_le B (256-tau+t) 544 (bl B tau t).2 (bl_le B tau t)).2
   show upd (upd (bl B tau t).1 (256-tau+t) _) _ _ i=0
   unfold upd
   rw[if_neg (by omega),if_neg (by omega)]
   exact h1 i (by omega)
theorem bl_step (B:List Nat) (tau t:Nat) (ht:t<tau) (h64:tau≤256):nz (bl B tau (t+1)).1 256=nz (bl B tau t).1 256+if nx B (256-tau+t) 544 (bl B tau t).2=544 then 0 else 1:=by
 have h1:=bl_rest B tau t (by omega) (256-tau+t) (Nat.le_refl _)
 have h2:=nx_end B (256-tau+t) 544 (bl B tau t).2 (by omega)
 have h3:=(nx_le B (256-tau+t) 544 (bl B tau t).2 (bl_le B tau t)).2
 rw[bl]
 obtain⟨a,ha⟩:∃ a,nx B (256-tau+t) 544 (bl B tau t).2=a:=⟨_,rfl⟩
 obtain⟨h,hh⟩:∃ h,(bl B tau t).1=h:=⟨_,rfl⟩
 obtain⟨i,hi⟩:∃ i,256-tau+t=i:=⟨_,rfl⟩
 rw[ha]at h2 h3
 rw[hh,hi]at h1
 rw[hi]at h2
 rw[hi,show nx B i 544 (bl B tau t).2=a by rw[←hi];exact ha,hh]
 by_cases e:a=544
 ·simp only[if_pos e,Nat.add_zero]
 ·simp only[if_neg e]
  obtain⟨k,hk⟩:∃ k,by' B a=k:=⟨_,rfl⟩
  rw[hk]at h2 ⊢
  have u1:=nz_upd h i (h k) 256 (by omega)
  have u2:=nz_upd (upd h i (h k)) k (sgn B t) 256 (by omega)
  have e1:upd h i (h k) k=h k:=by
   unfold upd
   split
   ·rfl
   ·rfl
  have e2:sgn B t≠0:=by rcases sgn_or B t with h | h<;>rw[h]<;>decide
  rw[e1,if_neg e2]at u2
  rw[if_pos h1]at u1
  show nz (upd (upd h i (h k)) k (sgn B t)) 256=nz h 256+1
  omega
theorem bl_nz (B:List Nat) (tau t:Nat) (ht:t≤tau) (h64:tau≤256):nz (bl B tau t).1 256≤t:=by
 induction t with
 | zero=>exact Nat.le_of_eq (nz_zero 256)
 | succ t ih=>
  have:=ih (by omega)
  rw[bl_step B tau t (by omega) h64]
  split<;>omega
def ball (B:List Nat) (tau:Int):Nat→Int:=if 1≤tau∧tau≤64 then (bl B tau.toNat tau.toNat).1 else fun _=>0
theorem ball_in (B:List Nat) (tau:Nat) (h1 : 1≤tau) (h2:tau≤64):ball B (tau:Int)=(bl B tau tau).1:=by
 unfold ball
 rw[if_pos ⟨by omega,by omega⟩,Int.toNat_natCast]
theorem ball_out (B:List Nat) (tau:Int) (h:¬ (1≤tau∧tau≤64)):ball B tau=fun _=>0:=by unfold ball;rw[if_neg h]
theorem ball_tre (B:List Nat) (tau:Int) (i:Nat):tre (ball B tau i):=by
 unfold ball
 split
 ·exact bl_tre _ _ _ i
 ·exact Or.inl rfl
theorem ball_nz (B:List Nat) (tau:Nat) (h2:tau≤64):nz (ball B (tau:Int)) 256≤tau:=by
 by_cases h1 : 1≤tau
 ·rw[ball_in B tau h1 h2];exact bl_nz B tau tau (Nat.le_refl _) (by omega)
 ·rw[ball_out B tau (by omega),nz_zero];omega
end samb
namespace polt
open Go Go.RowKit
open arr mem polys
theorem one {w W:World} {x:Obj} (h:w.alloc x=W):W.heap[w.heap.size]? = some x∧W.heap.size=w.heap.size+1∧Below w.heap.size w W:=by
 subst h
 exact⟨heap_at _ _ _ rfl,size_alloc _ _,below_alloc _ _⟩
theorem two {w W:World} {x y:Obj} (h:(w.alloc x).alloc y=W):W.heap[w.heap.size]? = some x∧W.heap[w.heap.size+1]? = some y∧W.heap.size=w.heap.size+2∧Below w.heap.size w W:=by
 subst h
 refine⟨?_,heap_at _ _ _ (by rw[size_alloc]),by rw[size_alloc,size_alloc],((Below.refl _ _).alloc (Nat.le_refl _) _).alloc (by rw[size_alloc];omega) _⟩
 rw[heap_past _ _ _ (by rw[size_alloc];omega),heap_at _ _ _ rfl]
theorem three {w W:World} {x y z:Obj} (h:((w.alloc x).alloc y).alloc z=W):W.heap[w.heap.size]? = some x∧W.heap[w.heap.size+1]? = some y∧W.heap[w.heap.size+2]? = some z∧W.heap.size=w.heap.size+3∧Below w.heap.size w W:=by
 obtain⟨h1,h2,h3,h4⟩:=two (w:=w) (x:=x) (y:=y) rfl
 subst h
 refine⟨?_,?_,heap_at _ _ _ h3.symm,by rw[size_alloc,h3],h4.alloc (by rw[h3];omega) _⟩
 ·rw[heap_past _ _ _ (by omega),h1]
 ·rw[heap_past _ _ _ (by omega),h2]
theorem own_later {w w':World} {B e size n:Nat} {v:Value} {xs:List Value} (h:w.ownsRow B e size v n xs) (hb:Below w.heap.size w w'):w'.ownsRow B e size v n xs:=
 ⟨h.1,h.2.imp id fun ⟨g,cap,cur,hv,hbb,hg,r⟩=>⟨g,cap,cur,hv,hbb,(hb.block g (lt_of_row hg)).trans hg,r⟩⟩
theorem cell_at_new {w:World} {F:Array Value} {T j:Nat} {u:Value} (hu:F.toList[j]? = some u):(w.alloc (.cells F T)).cell? ((⟨w.heap.size,0,none⟩:Addr).add j)=some u:=by
 rw[Addr.add_mid,Nat.zero_add]
 exact cell_at (heap_at _ _ _ rfl) (by simpa using hu)
theorem fill_one (F cells:Array Value) (hF:F.size=256) (hc:cells.size=256):Instr.fill (fun i=>some (i*256,256)) cells [(0,.agg F)]=some F:=by
 have h:=Great.fill_whole (s:=256) (by decide) [Value.agg F] cells (by intro v hv;simp at hv;subst hv;exact hF) (by simp[hc])
 have e:(([Value.agg F].flatMap fun v=>v.cells.toList).toArray)=F:=by simp[Value.cells]
 rw[e]at h
 exact h
theorem tparts {P:Program} {e:TypeId} {z:Value} {s b:Nat} (h:(P.info? e).map (fun i=>(i.zero,i.size,i.bytes))=some (some z,s,b)):∃ i,P.info? e=some i∧i.zero=some z∧i.size=s∧i.bytes=b:=by
 cases hi:P.info? e with
 | none=>rw[hi]at h;cases h
 | some i=>
  rw[hi]at h
  simp only[Option.map_some,Option.some.injEq,Prod.mk.injEq]at h
  exact⟨i,rfl,h.1,h.2.1,h.2.2⟩
theorem infoP:(Tryz.prog.info? 76).map (fun i=>(i.zero,i.size))=some (some (.agg (FL .i64 256 fun _=>0)),256):=by kernel_rfl
theorem infoPoly:(Tryz.prog.info? 76).map (fun i=>(i.zero,i.size,i.bytes))=some (some (.agg (FL .i64 256 fun _=>0)),256,2048):=by kernel_rfl
def same (n:Nat) (x y:Nat→Int):Bool:=decide (∀ i,i<n→x i=y i)
def p1 (a:Int):Nat→Int:=upd (fun _=>0) 0 a
def p2 (a b:Int):Nat→Int:=upd (upd (fun _=>0) 0 a) 1 b
theorem built1 (a:Int):Tryz.prog.built 76 [(0,.int .i64 a)]=some (FL .i64 256 (p1 a)):=by kernel_rfl
theorem built2 (a b:Int):Tryz.prog.built 76 [(0,.int .i64 a),(1,.int .i64 b)]=some (FL .i64 256 (p2 a b)):=by kernel_rfl
theorem wpList_builtC {P:Program} {ops:Array Oper} {rest:List Oper} {o:Oper} {a:Act} {w:World} {Q:Exit→Act→World→Prop} (hg:o.guard=none) (t:TypeId) (parts:Array (Nat × Operand)) (ho:o.op=.build t parts)
 (C:Array Value) (hC:P.built t (parts.map fun (i,x)=>(i,a.eval x)).toList=some C) (h:wpList P ops Q rest (a.put o.dst (.agg C)) w):wpList P ops Q (o :: rest) a w:=
 wpList_build hg t _ ho (by rw[hC];rfl) (by rw[hC];exact h)
theorem index_cell {P:Program} {t e:TypeId} {n:Nat} (hu:P.underlying t=some (.array n e)) (he:P.plainKey e=true) (hi0:(P.info? e).isSome=true) (hc:P.cellsOf e=1) (C:Array Value) (v:Value) (k:Nat) (hk:k<n) (hx:C[k]? = some v) (w:World):
 (Instr.index t (.agg C) (.int .i64 (k:Int))).run P w=.ok v w:=by
 obtain⟨i,hi⟩:=Option.isSome_iff_exists.1 hi0
 have h1:(0:Int)≤(k:Int)∧(k:Int)<(n:Int):=⟨by omega,by omega⟩
 unfold Instr.index
 simp only[asIntOf,Sem.run_bind,Sem.run_pure,run_underlying hu,Result.andThen_ok,if_pos h1,run_sizeOf w hi,hc,Nat.mul_one,Int.toNat_natCast]
 exact run_part_plain w he hx
theorem index_poly (f:Nat→Int) (k:Nat) (hk:k<256) (w:World):(Instr.index 76 (.agg (FL .i64 256 f)) (.int .i64 (k:Int))).run Tryz.prog w=.ok (.int .i64 (f k)) w:=
 index_cell Tryz.underlying76 (by kernel_rfl) (by kernel_rfl) (by kernel_rfl) _ _ k hk (fl_get .i64 256 f k hk) w
end polt
namespace pols
open Go Go.RowKit
open arr mem polys rbitb rbitc rbitu
def RW (m:Nat) (p:Nat→Nat→Int):Array Value:=FL .i64 (256*m) (fun j=>p (j / 256) (j%256))
theorem rw_size (m:Nat) (p:Nat→Nat→Int):(RW m p).size=256*m:=fl_size _ _ _
theorem rw_set (m:Nat) (p:Nat→Nat→Int) (i b:Nat) (hb:b<256) (v:Int):(RW m p).setIfInBounds (256*i+b) (.int .i64 v)=RW m (fun i'=>if i'=i then upd (p i) b v else p i'):=by
 unfold RW
 rw[fl_set]
 refine fl_congr _ _ fun j _=>?_
 show upd (fun j=>p (j / 256) (j%256)) (256*i+b) v j=(if j / 256=i then upd (p i) b v else p (j / 256)) (j%256)
 unfold upd
 by_cases e:j=256*i+b
 ·subst e
  rw[if_pos rfl,if_pos (by omega)]
  show v=if (256*i+b)%256=b then v else _
  rw[if_pos (by omega)]
 ·rw[if_neg e]
  by_cases e2:j / 256=i
  ·rw[if_pos e2]
   show p (j / 256) (j%256)=if j%256=b then v else _
   rw[if_neg (by omega),e2]
  ·rw[if_neg e2]
theorem rw_cell {w:World} {g:Nat} {t:TypeId} {m:Nat} {p:Nat→Nat→Int} (h:w.heap[g]? = some (.cells (RW m p) t (0,0))) (i k:Nat) (hi:i<m) (hk:k<256):w.cell? ⟨g,256*i+k,none⟩=some (.int .i64 (p i k)):=by
 have h1:=fl_at h (256*i+k) (by omega)
 rw[show (256*i+k) / 256=i by omega,show (256*i+k)%256=k by omega]at h1
 exact h1
theorem made_rw (m:Nat):madeCells (FL .i64 256 fun _=>0) (m*256)=RW m (fun _ _=>0):=by
 apply Array.ext (by rw[size_madeCells,rw_size];omega)
 intro i h1 h2
 have hi:i<256*m:=by rw[rw_size]at h2;exact h2
 have e2:=fl_get .i64 (256*m) (fun _=>0) i hi
 have e3:(RW m (fun _ _=>0))[i]? = some (.int .i64 0):=e2
 rw[Array.getElem?_eq_getElem h2]at e3
 rw[Option.some.inj e3]
 have e4:=fl_get .i64 256 (fun _=>0) (i%256) (by omega)
 simp only[madeCells,Array.getElem_map,Array.getElem_range,fl_size]
 rw[getElem!_def,e4]
def Holds (w:World) (B:Nat) (v:Value) (m:Nat) (p:Nat→Nat→Int):Prop:=
 ∃ g c,v=.slice (some ⟨g,0,none⟩) m c∧B≤g∧g<w.heap.size∧∀ i,i<m→∀ k,k<256→w.cell? ⟨g,256*i+k,none⟩=some (.int .i64 (p i k))
theorem Holds.later {w w':World} {B:Nat} {v:Value} {m:Nat} {p:Nat→Nat→Int} (h:Holds w B v m p) (hb:Below w.heap.size w w'):Holds w' B v m p:=by
 obtain⟨g,c,hv,h1,h2,h3⟩:=h
 exact⟨g,c,hv,h1,Nat.lt_of_lt_of_le h2 hb.size,fun i hi k hk=>(hb.cell (p:=⟨g,256*i+k,none⟩) h2).trans (h3 i hi k hk)⟩
theorem Holds.range {w:World} {g:Nat} {p:Nat→Nat→Int} {i:Nat} (h:∀ k,k<256→w.cell? ⟨g,256*i+k,none⟩=some (.int .i64 (p i k))):w.rangeAt g (256*i) (FL .i64 256 (p i)).toList:=by
 intro j v hv
 have hj:j<256:=by
  have:=(List.getElem?_eq_some_iff.1 hv).1
  rwa [Array.length_toList,fl_size]at this
 have h2:=fl_get .i64 256 (p i) j hj
 have hv2:(FL .i64 256 (p i))[j]? = some v:=by simpa using hv
 rw[h2]at hv2
 rw[h j hj,hv2]
theorem bys_extract (s:ByteArray) (a b j:Nat) (hj:j<b-a):(bys (s.extract a b)).getD j 0=(bys s).getD (a+j) 0:=by
 unfold bys
 rw[Lib.extract_eq]
 simp only[List.getD_eq_getElem?_getD,List.getElem?_map,List.getElem?_take,List.getElem?_drop]
 rw[if_pos hj]
theorem size_extract (s:ByteArray) (a b:Nat) (hab:a≤b) (hb:b≤s.size):(s.extract a b).size=b-a:=by
 rw[ByteArray.size_extract];omega
end pols
namespace polb
open Go Go.RowKit
open arr mem polys pols
def pair (f g:Nat→Int):Nat→Nat→Int:=fun i=>if i=0 then f else g
end polb
namespace saml
open Go Go.RowKit
open arr mem polys rbitb rbitc pols
def cq (q:Nat→Nat→Int):Nat→List Value
 | 0=>[]
 | n+1=>cq q n++(FL .i64 256 (q n)).toList
def tw (b:ByteArray) (x y:Nat):ByteArray:=b++⟨#[UInt8.ofNat x,UInt8.ofNat y]⟩
theorem tw_size (b:ByteArray) (x y:Nat):(tw b x y).size=b.size+2:=by unfold tw;rw[ByteArray.size_append];rfl
end saml
namespace samr
open Go Go.RowKit
open arr mem polys pols saml
def Rowl (w:World) (B:Nat) (skip:Option Nat) (vs:List Value) (ln:Nat) (p:Nat→Nat→Nat→Int):Prop:=
 ∀ i v,vs[i]? = some v→∃ g c,v=.slice (some ⟨g,0,none⟩) ln c∧B≤g∧g<w.heap.size∧some g≠skip∧∀ s,s<ln→∀ k,k<256→w.cell? ⟨g,256*s+k,none⟩=some (.int .i64 (p i s k))
theorem rows_nil (w:World) (B:Nat) (skip:Option Nat) (ln:Nat) (p:Nat→Nat→Nat→Int):Rowl w B skip [] ln p:=fun i v h=>by simp at h
theorem Rowl.grown {w w':World} {B ln:Nat} {skip skip':Option Nat} {vs:List Value} {p:Nat→Nat→Nat→Int} (h:Rowl w B skip vs ln p) (hg:w.grownBy w' skip) (hs:skip'=skip∨skip'=some w.heap.size):Rowl w' B skip' vs ln p:=fun i v hv=>by
 obtain⟨g,c,e,h1,h2,h3,h4⟩:=h i v hv
 refine⟨g,c,e,h1,Nat.lt_of_lt_of_le h2 hg.size,?_,fun s hs k hk=>hg.cell (h4 s hs k hk) h3⟩
 rcases hs with rfl | rfl
 ·exact h3
 ·intro e2;injection e2 with e2;omega
theorem Rowl.later {w w':World} {B ln:Nat} {skip:Option Nat} {vs:List Value} {p:Nat→Nat→Nat→Int} (h:Rowl w B skip vs ln p) (hb:Below w.heap.size w w'):Rowl w' B skip vs ln p:=fun i v hv=>by
 obtain⟨g,c,e,h1,h2,h3,h4⟩:=h i v hv
 exact⟨g,c,e,h1,Nat.lt_of_lt_of_le h2 hb.size,h3,fun s hs k hk=>(hb.cell (p:=⟨g,256*s+k,none⟩) h2).trans (h4 s hs k hk)⟩
theorem Rowl.base {w:World} {B B' ln:Nat} {skip:Option Nat} {vs:List Value} {p:Nat→Nat→Nat→Int} (h:Rowl w B skip vs ln p) (hb:B'≤B):Rowl w B' skip vs ln p:=fun i v hv=>by
 obtain⟨g,c,e,h1,r⟩:=h i v hv
 exact⟨g,c,e,Nat.le_trans hb h1,r⟩
theorem Rowl.snoc {w:World} {B B' ln:Nat} {x y:Value} {vs:List Value} {p:Nat→Nat→Nat→Int} (h:Rowl w B x.ownBlock vs ln p) (hy:Holds w B' y ln (p vs.length)) (hB:B≤B') (hx:∀ k,x.ownBlock=some k→k<B'):Rowl w B x.ownBlock (vs ++ [y]) ln p:=fun i v hv=>by
 by_cases e:i<vs.length
 ·exact h i v (by rwa [List.getElem?_append_left e]at hv)
 ·have e2:i=vs.length:=by
   have:=(List.getElem?_eq_some_iff.1 hv).1
   rw[List.length_append,List.length_singleton]at this
   omega
  subst e2
  rw[List.getElem?_append_right (Nat.le_refl _),Nat.sub_self]at hv
  have e3:y=v:=by simpa using hv
  subst e3
  obtain⟨g,c,e,h1,h2,h3⟩:=hy
  exact⟨g,c,e,by omega,h2,fun e4=>by have:=hx g e4.symm;omega,h3⟩
end samr
namespace floa
open Go Go.RowKit
variable {P:Program} {ops:Array Oper} {md:Region.Mode} {w:World}
def seqD (md:Region.Mode) (ops:Array Oper):List Nat→Array Bool→Bool
 | [],listed=>(Region.ready md ops listed).isEmpty
 | k :: ks,listed=>decide (Region.ready md ops listed=[k]) && seqD md ops ks (listed.setIfInBounds k true)
def lexD (md:Region.Mode) (ops:Array Oper) (tl:List Nat):List Nat→Array Bool→Bool
 | [],listed=>seqD md ops tl listed
 | k :: ks,listed=>(Region.ready md ops listed).contains k && Region.free md ops listed k && lexD md ops tl ks (listed.setIfInBounds k true)
def sinkD (md:Region.Mode) (ops:Array Oper) (hd:List Nat) (t0:Nat):Bool:=
 hd.all fun i=>(t0 :: hd).any fun j=>decide (i<j) && Region.waitsFor md ops j i
def chainD (md:Region.Mode) (ops:Array Oper):Nat→List Nat→Bool
 | _,[]=>true
 | t,u :: us=>Region.waitsFor md ops u t && chainD md ops u us
def closedD (md:Region.Mode) (ops:Array Oper) (listed:Array Bool):Bool:=
 (List.range ops.size).all fun j => !listed.getD j false || match ops[j]? with
  | some o=>o.after.all fun e => !Region.binds md e || listed.getD e.on false
  | none=>true
def partsD (ops:Array Oper) (listed:Array Bool) (hd tl:List Nat):Bool:=
 decide (listed.size=ops.size) && (tl.all fun t => !hd.contains t && !listed.getD t true && decide (t<ops.size)) && (List.range ops.size).all fun j=>hd.contains j || tl.contains j || listed.getD j true
def allD (md:Region.Mode) (ops:Array Oper) (listed:Array Bool) (hd:List Nat) (t0:Nat) (ts:List Nat):Bool:=
 Region.noSelect ops && partsD ops listed hd (t0 :: ts) && closedD md ops listed && sinkD md ops hd t0 && chainD md ops t0 ts && lexD md ops (t0 :: ts) hd listed
structure InvD (md:Region.Mode) (ops:Array Oper) (hd tl:List Nat) (listed:Array Bool):Prop where
 size:listed.size=ops.size
 closed:∀ j oj,ops[j]? = some oj→listed.getD j false=true→∀ e∈oj.after,Region.binds md e=true→listed.getD e.on false=true
 tail:∀ t∈tl,listed.getD t true=false
 all:∀ j,j<ops.size→j∈hd∨j∈tl∨listed.getD j true=true
theorem InvD.set {hd tl:List Nat} {i:Nat} {listed:Array Bool} (inv:InvD md ops hd tl listed) (hi:i∈Region.ready md ops listed) (hin:i ∉ tl):InvD md ops hd tl (listed.setIfInBounds i true):=by
 obtain⟨_,oi,hoi,hall⟩:=mem_ready.1 hi
 have hlt:i<ops.size:=(Array.getElem?_eq_some_iff.1 hoi).1
 refine⟨by simp[inv.size],fun j oj hj hl e he hb=>?_,fun t ht=>?_,fun j hj=>?_⟩
 ·by_cases hij:i=j
  ·subst hij
   obtain rfl:oj=oi:=Option.some.inj (hj.symm.trans hoi)
   exact getD_set_true (hall e he hb)
  ·rw[getD_set_ne false hij]at hl
   exact getD_set_true (inv.closed j oj hj hl e he hb)
 ·have hne:i≠t:=fun h=>hin (by rw[h];exact ht)
  rw[getD_set_ne true hne]
  exact inv.tail t ht
 ·by_cases hij:i=j
  ·subst hij
   refine Or.inr (Or.inr ?_)
   have hs:i<listed.size:=by rw[inv.size];exact hlt
   simp[hs]
  ·rw[getD_set_ne true hij]
   exact inv.all j hj
theorem waits {hd:List Nat} {t0:Nat} {ts:List Nat} {listed:Array Bool} (hs:sinkD md ops hd t0=true) (hc:chainD md ops t0 ts=true) (inv:InvD md ops hd (t0 :: ts) listed) (hhd:∀ j∈hd,j<ops.size):
 ∀ (d i:Nat),i∈hd→ops.size-i=d→listed.getD i true=false→∀ t∈t0 :: ts,t ∉ Region.ready md ops listed:=by
 have notyet:∀ (j i:Nat),Region.waitsFor md ops j i=true→listed.getD i true=false→j ∉ Region.ready md ops listed∧listed.getD j false=false:=by
  intro j i hw hu
  obtain⟨oj,hoj,e,he,hb,hon⟩:=Region.waitsFor_spec hw
  constructor
  ·intro hr
   obtain⟨_,o',ho',hall⟩:=mem_ready.1 hr
   obtain rfl:oj=o':=Option.some.inj (hoj.symm.trans ho')
   have h2:=hall e he hb
   rw[hon,getD_both hu]at h2
   cases h2
  ·cases hl:listed.getD j false with
   | false=>rfl
   | true=>
    have h2:=inv.closed j oj hoj hl e he hb
    rw[hon,getD_both hu]at h2
    cases h2
 have first:∀ (d i:Nat),i∈hd→ops.size-i=d→listed.getD i true=false→t0 ∉ Region.ready md ops listed:=by
  intro d
  induction d using Nat.strongRecOn with
  | _ d ih=>
   intro i hi hd0 hu
   obtain⟨j,hj,hj2⟩:=List.any_eq_true.1 (List.all_eq_true.1 hs i hi)
   simp only[Bool.and_eq_true,decide_eq_true_eq]at hj2
   obtain⟨h1,h2⟩:=notyet j i hj2.2 hu
   rcases List.mem_cons.1 hj with h | h
   ·subst h;exact h1
   ·have hjs:=hhd j h
    exact ih (ops.size-j) (by omega) j h rfl (getD_in (by rw[inv.size];exact hjs) h2)
 intro d i hi hd0 hu t ht
 rcases List.mem_cons.1 ht with h | h
 ·subst h;exact first d i hi hd0 hu
 ·have go:∀ (us:List Nat) (u:Nat),chainD md ops u us=true→listed.getD u true=false→(∀ x∈us,listed.getD x true=false)→∀ x∈us,x ∉ Region.ready md ops listed:=by
   intro us
   induction us with
   | nil=>intro _ _ _ _ x hx;cases hx
   | cons v vs ih=>
    intro u hcu hu' hall x hx
    simp only[chainD,Bool.and_eq_true]at hcu
    rcases List.mem_cons.1 hx with h | h
    ·subst h;exact(notyet x u hcu.1 hu').1
    ·exact ih v hcu.2 (hall v (by simp)) (fun y hy=>hall y (by simp[hy])) x h
  exact go ts t0 hc (inv.tail t0 (by simp)) (fun x hx=>inv.tail x (by simp[hx])) t h
def wpAnyD (P:Program) (md:Region.Mode) (ops:Array Oper) (w:World) (hd:List Nat) (L:Array Bool→Act→Prop):Nat→Array Bool→Act→Prop
 | 0,listed,a=>L listed a
 | f+1,listed,a=>Region.ready md ops listed≠[]∧∀ i∈Region.ready md ops listed,i∈hd∧stOp P ops w i (wpAnyD P md ops w hd L f (listed.setIfInBounds i true)) a
theorem of_headD {hd:List Nat} {g:Nat} {L:Array Bool→Act→Prop} {Q':Exit→Act→World→Prop} (hL:∀ listed a,L listed a→wpAny P md ops Q' g listed a w):
 ∀ (f:Nat) (listed:Array Bool) (a:Act),wpAnyD P md ops w hd L f listed a→wpAny P md ops Q' (f+g) listed a w
 | 0,listed,a,h=>by rw[Nat.zero_add];exact hL _ _ h
 | f+1,listed,a,h=>by
  rw[show f+1+g=(f+g)+1 by omega]
  exact⟨fun h0=>absurd h0 h.1,fun i hi=>wpOp_of_stOp (fun a' h'=>of_headD hL f _ a' h') (h.2 i hi).2⟩
theorem firstD {hd:List Nat} {t0:Nat} {ts:List Nat} {i:Nat} {oi:Oper} {v:Value} {L:Array Bool→Act→Prop} (hi:ops[i]? = some oi) (hsel:∀ (j:Nat) (o:Oper) cs b,ops[j]? = some o→o.op≠.select cs b)
 (hs:sinkD md ops hd t0=true) (hc:chainD md ops t0 ts=true) (hhd:∀ j∈hd,j<ops.size) (hdis:∀ t∈t0 :: ts,t ∉ hd) (hin:i∈hd)
 (hdone:∀ listed a,L listed a→∀ j∈Region.ready md ops listed,j ∉ hd):
 ∀ (f:Nat) (listed:Array Bool) (a:Act),InvD md ops hd (t0 :: ts) listed →
  (∀ j oj,ops[j]? = some oj→j≠i→listed.getD j true=false→(∀ e∈oj.after,Region.binds md e=true→e.on≠i)→oi.apart ops oj=true) →
  i∈Region.ready md ops listed→YieldsAt P ops w oi v a →
  wpAnyD P md ops w hd L f (listed.setIfInBounds i true) (a.put oi.dst v)→wpAnyD P md ops w hd L (f+1) listed a:=by
 have inhd:∀ (listed:Array Bool),InvD md ops hd (t0 :: ts) listed→i∈Region.ready md ops listed→∀ j∈Region.ready md ops listed,j∈hd:=by
  intro listed inv hr j hj
  obtain⟨hju,oj,hoj,_⟩:=mem_ready.1 hj
  rcases inv.all j (Array.getElem?_eq_some_iff.1 hoj).1 with h | h | h
  ·exact h
  ·exact absurd hj (waits hs hc inv hhd _ i hin rfl (mem_ready.1 hr).1 j h)
  ·rw[hju]at h;cases h
 intro f
 induction f with
 | zero=>
  intro listed a inv _ hr hy H
  refine⟨fun h=>(by rw[h]at hr;cases hr),fun j hj=>?_⟩
  have hjh:=inhd listed inv hr j hj
  refine⟨hjh,?_⟩
  by_cases hji:j=i
  ·subst hji;exact hy.stOp hi H
  ·exact absurd hjh (hdone _ _ H j (ready_mono hj hji))
 | succ f ih=>
  intro listed a inv hfree hr hy H
  refine⟨fun h=>(by rw[h]at hr;cases hr),fun j hj=>?_⟩
  have hjh:=inhd listed inv hr j hj
  refine⟨hjh,?_⟩
  by_cases hji:j=i
  ·subst hji;exact hy.stOp hi H
  ·have h1:=(H.2 j (ready_mono hj hji)).2
   obtain⟨hjun,oj,hoj,hall⟩:=mem_ready.1 hj
   have hnot:∀ e∈oj.after,Region.binds md e=true→e.on≠i:=fun e he hb heq=>by
    have h1:=hall e he hb
    rw[heq,getD_both (mem_ready.1 hr).1]at h1
    cases h1
   have h2:=stOp_put hoj (hfree j oj hoj hji hjun hnot) (fun cs b=>hsel i oi cs b hi) (fun cs b=>hsel j oj cs b hoj) hy h1
   have hfree':∀ k ok,ops[k]? = some ok→k≠i→(listed.setIfInBounds j true).getD k true=false →
    (∀ e∈ok.after,Region.binds md e=true→e.on≠i)→oi.apart ops ok=true:=fun k ok hk hki hun hno=>by
    refine hfree k ok hk hki ?_ hno
    by_cases hjk:j=k
    ·subst hjk;exact hjun
    ·rw[getD_set_ne true hjk]at hun;exact hun
   refine stOp_mono (fun a' h3=>ih (listed.setIfInBounds j true) a' (inv.set hj (fun h=>hdis j h hjh)) hfree' (ready_mono hr (Ne.symm hji)) h3.1 ?_) h2
   rw[Array.setIfInBounds_comm _ _ hji]
   exact h3.2
def pick (l:List Oper) (ks:List Nat):List Oper:=ks.filterMap fun k=>l[k]?
theorem lexD_still {hd:List Nat} {t0:Nat} {ts:List Nat} {Lq:Act→Prop} {l:List Oper} (hsel:Region.noSelect l.toArray=true) (hs:sinkD md l.toArray hd t0=true) (hc:chainD md l.toArray t0 ts=true)
 (hhd:∀ j∈hd,j<l.toArray.size) (hdis:∀ t∈t0 :: ts,t ∉ hd):
 ∀ (ks:List Nat) (listed:Array Bool) (a:Act),(∀ k∈ks,k∈hd)→InvD md l.toArray hd (t0 :: ts) listed→lexD md l.toArray (t0 :: ts) ks listed=true→wpStill P l.toArray w Lq (pick l ks) a →
 wpAnyD P md l.toArray w hd (fun listed' a'=>seqD md l.toArray (t0 :: ts) listed'=true∧Lq a') ks.length listed a
 | [],listed,a,_,_,hB,h=>⟨hB,h⟩
 | k :: ks,listed,a,hk,inv,hB,h=>by
  simp only[lexD,Bool.and_eq_true]at hB
  obtain⟨⟨hr,hf⟩,hB'⟩:=hB
  have hr':k∈Region.ready md l.toArray listed:=by simpa using hr
  obtain⟨_,o,ho,_⟩:=mem_ready.1 hr'
  have hkh:k∈hd:=hk k (by simp)
  have ho':l[k]? = some o:=by simpa using ho
  have hst:stOp P l.toArray w k (wpStill P l.toArray w Lq (pick l ks)) a:=by
   unfold stOp
   simp only[ho]
   have e:pick l (k :: ks)=o :: pick l ks:=by unfold pick;rw[List.filterMap_cons,ho']
   rw[e]at h
   exact h
  obtain⟨v,hy,hK⟩:=yieldsAt_of_stOp ho hst
  refine firstD ho (Region.noSelect_spec hsel) hs hc hhd hdis hkh (fun listed' a' hL j hj=>?_) ks.length listed a inv (Region.free_spec ho hf) hr' hy
   (lexD_still hsel hs hc hhd hdis ks _ _ (fun x hx=>hk x (by simp[hx])) (inv.set hr' (fun h=>hdis k h hkh)) hB' hK)
  have h1:=hL.1
  simp only[seqD,Bool.and_eq_true,decide_eq_true_eq]at h1
  rw[h1.1]at hj
  rw[List.mem_singleton.1 hj]
  exact hdis t0 (by simp)
theorem of_seqD {Q':Exit→Act→World→Prop} {l:List Oper}:∀ (ks:List Nat) (listed:Array Bool) (a:Act) (w:World),(∀ k∈ks,k<l.toArray.size) →
 seqD md l.toArray ks listed=true→wpList P l.toArray Q' (pick l ks) a w→wpAny P md l.toArray Q' ks.length listed a w
 | [],listed,a,w,_,hB,h=>⟨by simpa [seqD] using hB,h⟩
 | k :: ks,listed,a,w,hlt,hB,h=>by
  obtain⟨o,ho⟩:∃ o,l.toArray[k]? = some o:=⟨_,Array.getElem?_eq_getElem (hlt k (by simp))⟩
  have ho':l[k]? = some o:=by simpa using ho
  have e:pick l (k :: ks)=o :: pick l ks:=by unfold pick;rw[List.filterMap_cons,ho']
  rw[e]at h
  simp only[seqD,Bool.and_eq_true,decide_eq_true_eq]at hB
  refine⟨fun h1=>(by rw[hB.1]at h1;cases h1),fun i hi=>?_⟩
  rw[hB.1]at hi
  obtain rfl:i=k:=by simpa using hi
  have hw:wpOp P l.toArray Q' i (wpList P l.toArray Q' (pick l ks)) a w:=by unfold wpOp;simp only[ho];exact h
  exact wpOp_mono (fun a' w' h'=>of_seqD ks _ a' w' (fun x hx=>hlt x (by simp[hx])) hB.2 h') hw
theorem any_still {Q:Exit→Act→World→Prop} {l:List Oper} {listed:Array Bool} {a:Act} {n:Nat} (hd:List Nat) (t0:Nat) (ts:List Nat) (hn:n=hd.length+(t0 :: ts).length) (hB:allD md l.toArray listed hd t0 ts=true)
 (h:wpStill P l.toArray w (fun a'=>wpList P l.toArray Q (pick l (t0 :: ts)) a' w) (pick l hd) a):wpAny P md l.toArray Q n listed a w:=by
 subst hn
 simp only[allD,Bool.and_eq_true]at hB
 obtain⟨⟨⟨⟨⟨hsel,hp⟩,hcl⟩,hs⟩,hc⟩,hlex⟩:=hB
 simp only[partsD,Bool.and_eq_true,decide_eq_true_eq]at hp
 obtain⟨⟨hsz,htl⟩,hall⟩:=hp
 have htl':∀ t∈t0 :: ts,t ∉ hd∧listed.getD t true=false∧t<l.toArray.size:=fun t ht=>by
  have h1:=List.all_eq_true.1 htl t ht
  simp only[Bool.and_eq_true,Bool.not_eq_true',decide_eq_true_eq]at h1
  exact⟨by simpa using h1.1.1,h1.1.2,h1.2⟩
 have hhd:∀ j∈hd,j<l.toArray.size:=by
  have go:∀ (ks:List Nat) (listed:Array Bool),lexD md l.toArray (t0 :: ts) ks listed=true→∀ j∈ks,j<l.toArray.size:=by
   intro ks
   induction ks with
   | nil=>intro _ _ j hj;cases hj
   | cons k ks ih=>
    intro listed hB j hj
    simp only[lexD,Bool.and_eq_true]at hB
    rcases List.mem_cons.1 hj with h | h
    ·subst h
     have hr':j∈Region.ready md l.toArray listed:=by simpa using hB.1.1
     obtain⟨_,o,ho,_⟩:=mem_ready.1 hr'
     exact(Array.getElem?_eq_some_iff.1 ho).1
    ·exact ih _ hB.2 j h
  exact go hd listed hlex
 have inv:InvD md l.toArray hd (t0 :: ts) listed:=by
  refine⟨hsz,fun j oj hj hl e he hb=>?_,fun t ht=>(htl' t ht).2.1,fun j hj=>?_⟩
  ·have h1:=List.all_eq_true.1 hcl j (List.mem_range.2 (Array.getElem?_eq_some_iff.1 hj).1)
   simp only[hl,hj,Bool.not_true,Bool.false_or]at h1
   have h2:=(Array.all_eq_true_iff_forall_mem.1 h1) e he
   simpa [hb] using h2
  ·have h1:=List.all_eq_true.1 hall j (List.mem_range.2 hj)
   simp only[Bool.or_eq_true]at h1
   rcases h1 with (h1 | h1) | h1
   ·exact Or.inl (by simpa using h1)
   ·exact Or.inr (Or.inl (by simpa using h1))
   ·exact Or.inr (Or.inr h1)
 have H:=lexD_still (P:=P) (w:=w) hsel hs hc hhd (fun t ht=>(htl' t ht).1) hd listed a (fun k hk=>hk) inv hlex h
 exact of_headD (fun listed' a' hL=>of_seqD (t0 :: ts) listed' a' w (fun t ht=>(htl' t ht).2.2) hL.1 hL.2) hd.length listed a H
theorem any_begin {id:Nat} {Q:Exit→Act→World→Prop} {a:Act} {l:List Oper} (hm:P.follows .mixedOrders=true)
 (h:wpAny P .any l.toArray Q l.toArray.size (Array.replicate l.toArray.size false) a w.drew):(Code.region id l.toArray true).wp P Q a w:=wp_region_any hm h
end floa
namespace rsuni
open Go Go.RowKit
open arr mem polys polt rbitc samm
theorem by_lt (s:ByteArray) (i:Nat):by' (bys s) i<256:=by
 unfold by'
 by_cases hj:i<(bys s).length
 ·rw[List.getD_eq_getElem?_getD,List.getElem?_eq_getElem hj]
  exact bys_lt s _ (List.getElem_mem hj)
 ·rw[List.getD_eq_getElem?_getD,List.getElem?_eq_none (by omega)]
  decide
theorem and_127 (y:Nat) (h:y<256):bits .and .u8 (y:Int) 127=((y%128:Nat):Int):=by
 show IntKind.u8.wrap ((BitVec.ofInt 8 (y:Int) &&& BitVec.ofInt 8 127).toNat:Int)=_
 rw[show (127:Int)=((127:Nat):Int) from rfl,BitVec.ofInt_natCast,BitVec.ofInt_natCast,BitVec.toNat_and,BitVec.toNat_ofNat,BitVec.toNat_ofNat,Nat.mod_eq_of_lt (by omega),Nat.mod_eq_of_lt (by decide),show 127=2 ^ 7-1 from rfl,Nat.and_two_pow_sub_one_eq_mod,IntKind.wrap_u8]
 omega
theorem or_tri (a b c:Nat) (ha:a<256) (hb:b<256) (hc:c<128):bits .or .i64 (a:Int) ((b*256:Nat):Int)=((a+256*b:Nat):Int)∧bits .or .i64 ((a+256*b:Nat):Int) ((c*65536:Nat):Int)=((a+256*b+65536*c:Nat):Int):=by
 have h1:=or_i64 a (b*256) (by omega) (by omega)
 have h2:=or_i64 (a+256*b) (c*65536) (by omega) (by omega)
 rw[show b*256=b*2 ^ 8 from rfl,or_add a b 8 ha]at h1
 rw[show c*65536=c*2 ^ 16 from rfl,or_add (a+256*b) c 16 (by omega)]at h2
 exact⟨h1,h2⟩
end rsuni
namespace rssma
open Go Go.RowKit
theorem and_15 (y:Nat) (h:y<256):bits .and .u8 (y:Int) 15=((y%16:Nat):Int):=by
 show IntKind.u8.wrap ((BitVec.ofInt 8 (y:Int) &&& BitVec.ofInt 8 15).toNat:Int)=_
 rw[show (15:Int)=((15:Nat):Int) from rfl,BitVec.ofInt_natCast,BitVec.ofInt_natCast,BitVec.toNat_and,BitVec.toNat_ofNat,BitVec.toNat_ofNat,Nat.mod_eq_of_lt (by omega),Nat.mod_eq_of_lt (by decide),show 15=2 ^ 4-1 from rfl,Nat.and_two_pow_sub_one_eq_mod,IntKind.wrap_u8]
 omega
end rssma
end Go.Proofs.YtomphjajkkddkaaGreatDoor
