/-
  The tables that the document asks for, as the cells of one block, and what a block keeps while they 
-/
import Derived.Test.YtomphjajkkddkaaGreatDoorProg
import Derived.Test.YtomphjajkkddkaaGreatDoorZt01
import Derived.WalkKit
import Derived.WalkSpells
import Derived.WalkLawsBesides
import Derived.Lib.Hide
import Derived.IntWalk
import Derived.Laws.BitsLemmas
import Derived.RegionTactic
import Derived.BigRegion
set_option maxRecDepth 100000
set_option maxHeartbeats 16000000
namespace Go.Proofs.YtomphjajkkddkaaGreatDoor
namespace tabv
open Go.RowKit
open tabm tabd primm tabt arr
def r3 (j:Nat):Nat:=rootN (ph.getD j 0) 3%18446744073709551616
def r2 (j:Nat):Nat:=rootN (ph.getD j 0) 2%18446744073709551616
def tv (i:Nat):Value:=
 if i<64 then .int .u32 ((r3 i / 4294967296:Nat):Int)
 else if i<72 then .int .u32 ((r2 (i-64) / 4294967296:Nat):Int)
 else if i<152 then .int .u64 ((r3 (i-72):Nat):Int)
 else if i<160 then .int .u64 ((r2 (i-152):Nat):Int)
 else if i<184 then .int .u64 (((rl 168).getD (i-160) 0:Nat):Int)
 else if i<209 then .int .i64 (((tl 24).getD (i-184) 0:Nat):Int)
 else .int .i64 (((zl 256).getD (i-209) 0:Nat):Int)
def TA:Array Value:=((List.range 465).map tv).toArray
theorem ta_size:TA.size=465:=by simp[TA]
theorem ta_get (i:Nat) (h:i<465):TA[i]? = some (tv i):=by simp[TA,h]
theorem tv_one (i:Nat):(tv i).oneCell'=true:=by
 unfold tv
 repeat' split
 all_goals rfl
theorem ta_one:TA.all (·.oneCell')=true:=by
 rw[Array.all_eq_true_iff_forall_mem]
 intro v hv
 simp only[TA,List.mem_toArray,List.mem_map]at hv
 obtain⟨i,-,rfl⟩:=hv
 exact tv_one i
theorem r3_lt (j:Nat):r3 j<18446744073709551616:=Nat.mod_lt _ (by decide)
theorem r2_lt (j:Nat):r2 j<18446744073709551616:=Nat.mod_lt _ (by decide)
theorem tv_small (j:Nat) (h:j<64):tv j=.int .u32 ((r3 j / 4294967296:Nat):Int):=by unfold tv;rw[if_pos h]
theorem tv_sstart (j:Nat) (h:j<8):tv (64+j)=.int .u32 ((r2 j / 4294967296:Nat):Int):=by
 unfold tv;rw[if_neg (by omega),if_pos (by omega),show 64+j-64=j by omega]
theorem tv_large (j:Nat) (h:j<80):tv (72+j)=.int .u64 ((r3 j:Nat):Int):=by
 unfold tv;rw[if_neg (by omega),if_neg (by omega),if_pos (by omega),show 72+j-72=j by omega]
theorem tv_lstart (j:Nat) (h:j<8):tv (152+j)=.int .u64 ((r2 j:Nat):Int):=by
 unfold tv;rw[if_neg (by omega),if_neg (by omega),if_neg (by omega),if_pos (by omega),show 152+j-152=j by omega]
theorem tv_rounds (j:Nat) (h:j<24):tv (160+j)=.int .u64 (((rl 168).getD j 0:Nat):Int):=by
 unfold tv;rw[if_neg (by omega),if_neg (by omega),if_neg (by omega),if_neg (by omega),if_pos (by omega),show 160+j-160=j by omega]
theorem tv_turns (j:Nat) (h:j<25):tv (184+j)=.int .i64 (((tl 24).getD j 0:Nat):Int):=by
 unfold tv;rw[if_neg (by omega),if_neg (by omega),if_neg (by omega),if_neg (by omega),if_neg (by omega),if_pos (by omega),show 184+j-184=j by omega]
theorem tv_zetas (j:Nat) (_h:j<256):tv (209+j)=.int .i64 (((zl 256).getD j 0:Nat):Int):=by
 unfold tv;rw[if_neg (by omega),if_neg (by omega),if_neg (by omega),if_neg (by omega),if_neg (by omega),if_neg (by omega),show 209+j-209=j by omega]
structure Ms (T:TypeId) (w:World) (g:Nat) (S:Nat→Prop) (wr:World):Prop where
 z:∃ Z:Array Value,Z.size=465∧wr.heap[w.heap.size]? = some (.cells Z T (0,0))
 th:∀ i,i<465→(∃ v,wr.cell? ⟨g,i,none⟩=some v)∧wr.frozen? ⟨g,i,none⟩=false
 vs:∀ i,i<465→S i→wr.cell? ⟨g,i,none⟩=some (tv i)
 lt:w.heap.size<g∧g<wr.heap.size
 be:Below w.heap.size w wr
theorem Ms.lt0 {T:TypeId} {w wr:World} {g:Nat} {S:Nat→Prop} (h:Ms T w g S wr):w.heap.size<wr.heap.size:=Nat.lt_trans h.lt.1 h.lt.2
theorem Ms.call {T:TypeId} {w wr w1:World} {g:Nat} {S:Nat→Prop} (h:Ms T w g S wr) (hb:Below wr.heap.size wr w1):Ms T w g S w1:=by
 have h0:=h.lt0
 obtain⟨⟨Z,hz,h1⟩,h2,h3,h4,h5⟩:=h
 have hs:=hb.size
 exact⟨⟨Z,hz,(hb.block _ h0).trans h1⟩,fun i hi=>⟨by rw[hb.cell (p:=⟨g,i,none⟩) h4.2];exact(h2 i hi).1,by rw[hb.frozen (p:=⟨g,i,none⟩) h4.2];exact(h2 i hi).2⟩,
  fun i hi hS=>by rw[hb.cell (p:=⟨g,i,none⟩) h4.2];exact h3 i hi hS,⟨h4.1,by omega⟩,h5.trans (hb.mono (by omega))⟩
theorem Ms.mono {T:TypeId} {w wr:World} {g:Nat} {S S':Nat→Prop} (h:Ms T w g S wr) (hS:∀ i,i<465→S' i→S i):Ms T w g S' wr:=
 ⟨h.z,h.th,fun i hi h'=>h.vs i hi (hS i hi h'),h.lt,h.be⟩
theorem size_setCell (w:World) (a:Addr) (v:Value):(w.setCell a v).heap.size=w.heap.size:=by simp[World.setCell]
theorem Ms.set {T:TypeId} {w wr:World} {g:Nat} {S:Nat→Prop} (h:Ms T w g S wr) (a:Nat) (ha:a<465) {v:Value} (hv:v=tv a):Ms T w g (fun i=>S i∨i=a) (wr.setCell ⟨g,a,none⟩ v):=by
 subst hv
 obtain⟨⟨Z,hz,h1⟩,h2,h3,h4,h5⟩:=h
 obtain⟨⟨old,hold⟩,-⟩:=h2 a ha
 refine⟨⟨Z,hz,by rw[Below.heap_setCell _ _ _ _ (by show w.heap.size≠g;omega)];exact h1⟩,fun i hi=>⟨?_,by rw[World.frozen?_setCell];exact(h2 i hi).2⟩,fun i hi hS=>?_,⟨h4.1,by rw[size_setCell];exact h4.2⟩,h5.setCell (by show w.heap.size≤g;omega) _⟩
 ·by_cases e:a=i
  ·subst e;exact⟨_,World.cell?_setCell_same _ _ _ hold⟩
  ·rw[World.cell?_setCell_other _ _ _ _ (by intro e2;injection e2;omega)];exact(h2 i hi).1
 ·by_cases e:a=i
  ·subst e;exact World.cell?_setCell_same _ _ _ hold
  ·rw[World.cell?_setCell_other _ _ _ _ (by intro e2;injection e2;omega)]
   exact h3 i hi (hS.elim id fun h=>by omega)
theorem size_setCells (b:Nat):∀ (vs:List Value) (o:Nat) (w:World),(w.setCells b o vs).heap.size=w.heap.size
 | [],_,_=>rfl
 | v :: r,o,w=>by rw[World.setCells,size_setCells b r,size_setCell]
theorem Ms.range {T:TypeId} {w wr:World} {g:Nat} {S:Nat→Prop} (h:Ms T w g S wr) (hS:∀ i,i<465→S i):wr.rangeAt g 0 TA.toList:=fun j v hv=>by
 rw[Array.getElem?_toList]at hv
 have hj:j<465:=by
  by_cases hlt:j<465
  ·exact hlt
  ·rw[Array.getElem?_eq_none (by rw[ta_size];omega)]at hv;cases hv
 rw[ta_get j hj]at hv
 rw[Nat.zero_add,h.vs j hj (hS j hj),hv]
end tabv
namespace built
open Go.RowKit
open tabt arr tabv
def put (cs:Array Value) (off:Nat) (vs:Array Value):Array Value:=vs.zipIdx.foldl (fun cs (c,j)=>cs.setIfInBounds (off+j) c) cs
theorem fold_get (off:Nat):∀ (l:List Value) (k:Nat) (cs:Array Value),((l.zipIdx k).foldl (fun cs (c,j)=>cs.setIfInBounds (off+j) c) cs).size=cs.size∧∀ i,i<cs.size→((l.zipIdx k).foldl (fun cs (c,j)=>cs.setIfInBounds (off+j) c) cs)[i]? = if off+k≤i∧i<off+k+l.length then l[i-(off+k)]? else cs[i]?
 | [],k,cs=>⟨rfl,fun i hi=>by rw[if_neg (by simp<;>omega)];rfl⟩
 | v :: r,k,cs=>by
  obtain⟨h1,h2⟩:=fold_get off r (k+1) (cs.setIfInBounds (off+k) v)
  simp only[List.zipIdx_cons,List.foldl_cons]
  refine⟨by rw[h1];simp,fun i hi=>?_⟩
  rw[h2 i (by simpa using hi)]
  simp only[List.length_cons]
  by_cases e:off+k=i
  ·subst e
   rw[if_neg (by omega),if_pos (by omega),Nat.sub_self]
   simp[hi]
  ·by_cases h:off+(k+1)≤i∧i<off+(k+1)+r.length
   ·rw[if_pos h,if_pos (by omega),show i-(off+k)=(i-(off+(k+1)))+1 by omega,List.getElem?_cons_succ]
   ·rw[if_neg h,if_neg (by omega),Array.getElem?_setIfInBounds,if_neg e]
theorem put_size (cs:Array Value) (off:Nat) (vs:Array Value):(put cs off vs).size=cs.size:=by
 unfold put
 rw[←Array.foldl_toList,Array.toList_zipIdx]
 exact(fold_get off vs.toList 0 cs).1
theorem put_get (cs:Array Value) (off:Nat) (vs:Array Value) (i:Nat) (hi:i<cs.size):(put cs off vs)[i]? = if off≤i∧i<off+vs.size then vs[i-off]? else cs[i]? := by
 unfold put
 rw[←Array.foldl_toList,Array.toList_zipIdx,(fold_get off vs.toList 0 cs).2 i hi]
 simp
theorem fill_cons {place:Nat→Option (Nat × Nat)} {cells:Array Value} {i:Nat} {v:Array Value} {rest:List (Nat × Value)} {off size:Nat} (hp:place i=some (off,size)) (hs:v.size=size) (ho:off+size≤cells.size):
 Instr.fill place cells ((i,.agg v) :: rest)=Instr.fill place (put cells off v) rest:=by
 rw[Instr.fill,hp]
 dsimp only
 split
 ·rename_i h
  exfalso
  have h1:(Value.agg v).cells.size=size:=hs
  rw[h1]at h
  simp at h
  omega
 ·rfl
theorem put_one {cs vs:Array Value} {off:Nat} (h1:cs.all (·.oneCell')=true) (h2:vs.all (·.oneCell')=true):(put cs off vs).all (·.oneCell')=true:=by
 rw[Array.all_eq_true_iff_forall_mem]at *
 intro v hv
 obtain⟨i,hi,rfl⟩:=Array.mem_iff_getElem.1 hv
 have hi2:i<cs.size:=by rw[put_size]at hi;exact hi
 have hg:=put_get cs off vs i hi2
 rw[Array.getElem?_eq_getElem hi]at hg
 by_cases e:off≤i∧i<off+vs.size
 ·rw[if_pos e,Array.getElem?_eq_getElem (by omega)]at hg
  rw[Option.some.inj hg]
  exact h2 _ (Array.getElem_mem _)
 ·rw[if_neg e,Array.getElem?_eq_getElem hi2]at hg
  rw[Option.some.inj hg]
  exact h1 _ (Array.getElem_mem _)
def TZ:Array Value:=LK .u32 (List.replicate 72 0)++LK .u64 (List.replicate 112 0)++LK .i64 (List.replicate 281 0)
theorem tz_size:TZ.size=465:=by unfold TZ;rw[Array.size_append,Array.size_append,lk_size,lk_size,lk_size,List.length_replicate,List.length_replicate,List.length_replicate]
theorem tz_one:TZ.all (·.oneCell')=true:=by
 unfold TZ
 rw[Array.all_append,Array.all_append,lk_one,lk_one,lk_one]
 rfl
theorem infoT:(Tryz.prog.info? 34).map (fun i=>(i.zero,i.size))=some (some (.agg TZ),465):=by kernel_rfl
theorem placesT:(Tryz.prog.fieldsOf 34).toList.mapM (fun f=>(Tryz.prog.info? f.type).map fun i=>(f.offset,i.size))=some [(0,64),(64,8),(72,80),(152,8),(160,24),(184,25),(209,256)]:=by kernel_rfl
theorem underT:Tryz.prog.underlying 34=some (.struct (Tryz.prog.fieldsOf 34)):=by kernel_rfl
theorem built_tables (R U Z:Array Value) (hR:R.size=24) (hU:U.size=25) (hZ:Z.size=256) (oR:R.all (·.oneCell')=true) (oU:U.all (·.oneCell')=true) (oZ:Z.all (·.oneCell')=true):
 ∃ C,Tryz.prog.built 34 [(4,.agg R),(5,.agg U),(6,.agg Z)]=some C∧C.size=465∧(∀ j,j<24→C[160+j]? = R[j]?)∧(∀ j,j<25→C[184+j]? = U[j]?)∧(∀ j,j<256→C[209+j]? = Z[j]?)∧C.all (·.oneCell')=true:=by
 refine⟨put (put (put TZ 160 R) 184 U) 209 Z,?_,by simp only[put_size,tz_size],?_,?_,?_,put_one (put_one (put_one tz_one oR) oU) oZ⟩
 ·have hi:=infoT
  cases hq:Tryz.prog.info? 34 with
  | none=>simp[hq]at hi
  | some it=>
   simp only[hq,Option.map_some,Option.some.injEq,Prod.mk.injEq]at hi
   unfold Program.built
   rw[hq,underT]
   simp only[hi.1,placesT]
   rw[show Value.cells (.agg TZ)=TZ from rfl]
   rw[fill_cons (off:=160) (size:=24) rfl hR (by rw[tz_size];decide),fill_cons (off:=184) (size:=25) rfl hU (by rw[put_size,tz_size];decide),fill_cons (off:=209) (size:=256) rfl hZ (by rw[put_size,put_size,tz_size];decide)]
   rfl
 ·intro j hj
  rw[put_get _ _ _ _ (by simp only[put_size,tz_size];omega),if_neg (by omega),put_get _ _ _ _ (by simp only[put_size,tz_size];omega),if_neg (by omega),put_get _ _ _ _ (by rw[tz_size];omega),if_pos (by omega),show 160+j-160=j by omega]
 ·intro j hj
  rw[put_get _ _ _ _ (by simp only[put_size,tz_size];omega),if_neg (by omega),put_get _ _ _ _ (by simp only[put_size,tz_size];omega),if_pos (by omega),show 184+j-184=j by omega]
 ·intro j hj
  rw[put_get _ _ _ _ (by simp only[put_size,tz_size];omega),if_pos (by omega),show 209+j-209=j by omega]
theorem wpList_build3 {P:Program} {ops:Array Oper} {rest:List Oper} {o:Oper} {a:Act} {w:World} {Q:Exit→Act→World→Prop} (hg:o.guard=none) (t:TypeId) (i1 i2 i3:Nat) (x1 x2 x3:Operand) (ho:o.op=.build t #[(i1,x1),(i2,x2),(i3,x3)])
 (v1 v2 v3:Value) (h1:a.eval x1=v1) (h2:a.eval x2=v2) (h3:a.eval x3=v3) (C:Array Value) (hC:P.built t [(i1,v1),(i2,v2),(i3,v3)]=some C)
 (h:wpList P ops Q rest (a.put o.dst (.agg C)) w):wpList P ops Q (o :: rest) a w:=by
 have e:((#[(i1,x1),(i2,x2),(i3,x3)]:Array (Nat × Operand)).map fun (i,x)=>(i,a.eval x)).toList=[(i1,v1),(i2,v2),(i3,v3)]:=by simp[h1,h2,h3]
 exact wpList_build hg t _ ho (by rw[e,hC];rfl) (by rw[e,hC];exact h)
end built
namespace power
open Go.RowKit
open tabm
theorem cast_mm (a b:Nat):Value.int .i64 ((a:Int)*(b:Int)%8380417)=.int .i64 ((a*b%8380417:Nat):Int):=
 congrArg (Value.int .i64) (by rw[Int.natCast_emod,Int.natCast_mul];rfl)
theorem ret_int {k:IntKind} {a b:Int} (h:a=b):Ending.returned (.int k a)=.returned (.int k b):=by rw[h]
theorem cast_half (m:Nat):Value.int .i64 ((m:Int) / 2)=.int .i64 ((m / 2:Nat):Int):=
 congrArg (Value.int .i64) (by omega)
theorem mul_bd (R S:Nat) (hR:R<8380417) (hS:S<8380417):(0:Int)≤(R:Int)*(S:Int)∧(R:Int)*(S:Int)≤70231372333056:=by
 have h1:R*S≤8380416*8380416:=Nat.mul_le_mul (by omega) (by omega)
 have h2:(R:Int)*(S:Int)=((R*S:Nat):Int):=by norm_cast
 rw[h2]
 omega
theorem and_one_i64 (m:Nat) (hm:m≤9223372036854775807):bits .and .i64 (m:Int) 1=(m:Int)%2:=by
 have h:=bits_mask .i64 63 (by decide) (fun n h0 h1=>IntWalk.i64_in n (by omega)) 1 (by decide) (m:Int) (by omega) (by omega)
 simpa using h
def Keeps (x n:Nat) (n' r s:Value):Prop:=∃ m R S:Nat,m≤9223372036854775807∧R<8380417∧S<8380417∧n'=.int .i64 m∧r=.int .i64 R∧s=.int .i64 S∧pwk x n R S m
theorem power_nn (x n:Nat) (w:World) (hx:x≤9223372036854775807) (hn:n≤9223372036854775807):
 Calls Tryz.prog 109 #[.int .i64 x,.int .i64 n] w fun e w'=>e=.returned (.int .i64 (pw x n))∧w=w':=by
 have hst:=pwk_start x n
 go_enter Tryz.func109,Tryz.ntmps109
 go_wp2
 go_loop [1,5,6] (fun n' r s=>Keeps x n n' r s) (fun n' _ _=>(intOf n').toNat)
 case atStart=>exact⟨n,1,x%8380417,hn,by decide,Nat.mod_lt _ (by decide),rfl,rfl,by first | rfl | exact congrArg (Value.int .i64) (by norm_cast),hst⟩
 case round=>
  obtain⟨m,R,S,hm,hR,hS,rfl,rfl,rfl,hk⟩:=hrel
  have hRS:=mul_bd R S hR hS
  have hSS:=mul_bd S S hS hS
  by_cases h0:m=0
  ·subst h0
   go_wp2
   go_ret
   exact⟨ret_int (congrArg Nat.cast (pwk_end x n R S hk hR)),rfl⟩
  ·by_cases h1:m%2=1
   ·have ho:=pwk_odd x n R S m hk h1
    have hb:((m:Int)%2==1)=true:=beq_iff_eq.2 (by omega)
    clear h1 hk hst
    go_wp2
    go_round
    case rel=>exact⟨m / 2,R*S%8380417,S*S%8380417,by omega,Nat.mod_lt _ (by decide),Nat.mod_lt _ (by decide),cast_half m,cast_mm R S,cast_mm S S,ho⟩
    case measure=>simp[intOf];omega
   ·have ho:=pwk_even x n R S m hk (by omega)
    have hb:((m:Int)%2==1)=false:=beq_eq_false_iff_ne.2 (by omega)
    clear h1 hk hst
    go_wp2
    go_round
    case rel=>exact⟨m / 2,R,S*S%8380417,by omega,hR,Nat.mod_lt _ (by decide),cast_half m,rfl,cast_mm S S,ho⟩
    case measure=>simp[intOf];omega
end power
namespace rounds
open Go.RowKit
open tabt arr
open power (and_one_i64)
theorem zrounds:(Tryz.prog.info? 30).map (·.size)=some 24:=by kernel_rfl
theorem rounds_any (w:World):
 Calls Tryz.prog 57 #[] w fun e w'=>e=.returned (.agg (LK .u64 (rl 168)))∧Below w.heap.size w w':=by
 go_enter Tryz.func57,Tryz.ntmps57
 go_wp2_with fail
 obtain⟨Z,HZ⟩:=ex_eq (#[.int .u64 0,.int .u64 0,.int .u64 0,.int .u64 0,.int .u64 0,.int .u64 0,.int .u64 0,.int .u64 0,.int .u64 0,.int .u64 0,.int .u64 0,.int .u64 0,.int .u64 0,.int .u64 0,.int .u64 0,.int .u64 0,.int .u64 0,.int .u64 0,.int .u64 0,.int .u64 0,.int .u64 0,.int .u64 0,.int .u64 0,.int .u64 0]:Array Value)
 rw[HZ.out]
 have HZ2:Away (Z=LK .u64 (rl 0)):=⟨HZ.out.symm⟩
 clear HZ
 go_loopw [2,5] (fun r i wr=>∃ (k n R:Nat) (ds:List Nat),k≤24∧i=.int .i64 k∧r=.int .i64 R∧Away (lf (7*k)=R)∧Away (rl (7*k)=ds)∧wr=((w.alloc (.cells Z 30)).alloc (.cells (LK .u64 ds) 30)).drewN n) (fun _ i _=>24-(intOf i).toNat)
 case atStart=>exact⟨0,0,1,rl 0,by decide,rfl,rfl,⟨rfl⟩,⟨rfl⟩,by rw[←HZ2.out];rfl⟩
 case round=>
  obtain⟨k,n,R,ds,hk,rfl,rfl,Hr,Hds,rfl⟩:=hrel
  by_cases hlt:k<24
  ·go_wp2_with fail
   go_loopw [2,8] (fun r i wr=>∃ (m n R:Nat) (ds:List Nat),m≤7∧i=.int .i64 m∧r=.int .i64 R∧Away (lf (7*k+m)=R)∧Away (rl (7*k+m)=ds)∧wr=((w.alloc (.cells Z 30)).alloc (.cells (LK .u64 ds) 30)).drewN n) (fun _ i _=>7-(intOf i).toNat)
   case atStart=>exact⟨0,n,R,ds,by decide,rfl,rfl,Hr,Hds,rfl⟩
   case round=>
    clear Hr Hds
    obtain⟨m,n,R,ds,hm,rfl,rfl,Hr,Hds,rfl⟩:=hrel
    by_cases hlm:m<7
    ·have hR:=lf_le (7*k+m)
     have hd:=rl_getD_lt (7*k+m) k
     have hlen:=rl_length (7*k+m)
     have ho:=rl_odd (i:=k) hlm
     have he:=rl_even (t:=7*k+m)
     have hov:=lf_over (t:=7*k+m)
     have hin:=lf_in (t:=7*k+m)
     rw[Hr.out]at hR ho he hov hin
     rw[Hds.out]at hd hlen ho he
     have hxor:=xor_tab R hR
     have hget:=lk_get .u64 ds k (by rw[hlen];exact hlt)
     obtain⟨d,hdd⟩:∃ d,ds.getD k 0=d:=⟨_,rfl⟩
     rw[hdd]at hd hget ho
     have HO:=Away.mk ho
     have HE:=Away.mk he
     have HV:=Away.mk hov
     have HN:=Away.mk hin
     have Hlen:=Away.mk hlen
     clear ho he hov hin hdd hlen
     have hset:=lk_setI .u64 ds k (d ||| 2 ^ (2 ^ m-1)) _ (or_shift d m hd hlm)
     by_cases h1:R%2=1
     ·have hb:(bits .and .i64 (R:Int) 1==1)=true:=by rw[and_one_i64 R (by omega)];exact beq_iff_eq.2 (by omega)
      have Hn:=Away.mk (HO.out h1)
      clear h1
      by_cases h2 : 255<R*2
      ·have Hv:=Away.mk (HV.out h2)
       go_wp2_with fail
       go_region
       go_wp2_with fail
       go_roundw
       case rel=>exact⟨m+1,n+1,_,_,by omega,by go_num,rfl,Hv,Hn,rfl⟩
       case measure=>simp[intOf];omega
      ·have Hv:=Away.mk (HN.out h2)
       go_wp2_with fail
       go_region
       go_wp2_with fail
       go_roundw
       case rel=>exact⟨m+1,n+1,_,_,by omega,by go_num,val_int (by omega),Hv,Hn,rfl⟩
       case measure=>simp[intOf];omega
     ·have hb:(bits .and .i64 (R:Int) 1==1)=false:=by rw[and_one_i64 R (by omega)];exact beq_eq_false_iff_ne.2 (by omega)
      have Hn:=Away.mk (HE.out h1)
      clear h1
      by_cases h2 : 255<R*2
      ·have Hv:=Away.mk (HV.out h2)
       go_wp2_with fail
       go_roundw
       case rel=>exact⟨m+1,n,_,_,by omega,by go_num,rfl,Hv,Hn,rfl⟩
       case measure=>simp[intOf];omega
      ·have Hv:=Away.mk (HN.out h2)
       go_wp2_with fail
       go_roundw
       case rel=>exact⟨m+1,n,_,_,by omega,by go_num,val_int (by omega),Hv,Hn,rfl⟩
       case measure=>simp[intOf];omega
    ·obtain rfl:m=7:=by omega
     have Hr2:Away (lf (7*(k+1))=R):=⟨Hr.out⟩
     have Hd2:Away (rl (7*(k+1))=ds):=⟨Hds.out⟩
     go_wp2_with fail
     go_roundw
     case rel=>exact⟨k+1,n,R,ds,by omega,by go_num,rfl,Hr2,Hd2,rfl⟩
     case measure=>simp[intOf];omega
  ·obtain rfl:k=24:=by omega
   have Hd2:Away (ds=rl 168):=⟨Hds.out.symm⟩
   have hsz:(LK .u64 ds).size=24:=by rw[lk_size,Hd2.out,rl_length]
   have hzs:Z.size=24:=by rw[HZ2.out,lk_size,rl_length]
   obtain⟨W,hW⟩:∃ W,((w.alloc (.cells Z 30)).alloc (.cells (LK .u64 ds) 30)).drewN n=W:=⟨_,rfl⟩
   have hb:Below w.heap.size w W:=by rw[←hW];exact below_drewN (((Below.refl _ _).alloc (Nat.le_refl _) _).alloc (by simp) _) n
   have g1:W.heap[w.heap.size+1]? = some (.cells (LK .u64 ds) 30 (0,0)):=by rw[←hW,heap_drewN',heap_at _ _ _ (by simp)]
   have g0:W.heap[w.heap.size]? = some (.cells Z 30 (0,0)):=by rw[←hW,heap_drewN',heap_past _ _ _ (by simp),heap_at _ _ _ rfl]
   rw[hW]
   have Hsz:=Away.mk hsz
   have Hzs:=Away.mk hzs
   clear hW hsz hzs
   go_wp2_with (first | (refine wpList_load_row rfl 30 _ rfl _ rfl 30 _ (0,0) _ g1 Tryz.underlying30 rfl (by rw[Hsz.out];exact zrounds) ?_) | (refine wpList_store_row rfl 30 _ _ rfl _ _ rfl rfl 30 _ g0 (by rw[Hsz.out];exact zrounds) (by rw[Hsz.out];exact Hzs.out) (lk_one _ _) ?_))
   refine bodyPost_ret_by (v:=.agg (LK .u64 ds)) (results_cell_row rfl _ _ w.heap.size 30 _ (0,0) _ rfl (setRow_heap _ _ _ _ _ _ g0) Tryz.underlying30 rfl (by rw[Hsz.out];exact zrounds)) rfl ?_
   exact⟨by rw[Hd2.out],hb.trans (below_setRow _ _ _ (Nat.le_refl _))⟩
end rounds
namespace turns
open Go.RowKit
open tabt arr
theorem zturns:(Tryz.prog.info? 31).map (·.size)=some 25:=by kernel_rfl
theorem mul_bd (k:Nat) (h:k<24):(0:Int)≤((k:Int)+1)*((k:Int)+2)∧((k:Int)+1)*((k:Int)+2)≤650:=by
 have h1:(k+1)*(k+2)≤25*26:=Nat.mul_le_mul (by omega) (by omega)
 have h2:((k:Int)+1)*((k:Int)+2)=(((k+1)*(k+2):Nat):Int):=by norm_cast
 rw[h2];omega
theorem mul_val (k:Nat):((k:Int)+1)*((k:Int)+2) / 2%64=(((k+1)*(k+2) / 2%64:Nat):Int):=by
 have h2:((k:Int)+1)*((k:Int)+2)=(((k+1)*(k+2):Nat):Int):=by norm_cast
 rw[h2];omega
theorem turns_any (w:World):
 Calls Tryz.prog 58 #[] w fun e w'=>e=.returned (.agg (LK .i64 (tl 24)))∧Below w.heap.size w w':=by
 go_enter Tryz.func58,Tryz.ntmps58
 go_wp2_with fail
 obtain⟨Z,HZ⟩:=ex_eq (#[.int .i64 0,.int .i64 0,.int .i64 0,.int .i64 0,.int .i64 0,.int .i64 0,.int .i64 0,.int .i64 0,.int .i64 0,.int .i64 0,.int .i64 0,.int .i64 0,.int .i64 0,.int .i64 0,.int .i64 0,.int .i64 0,.int .i64 0,.int .i64 0,.int .i64 0,.int .i64 0,.int .i64 0,.int .i64 0,.int .i64 0,.int .i64 0,.int .i64 0]:Array Value)
 rw[HZ.out]
 have HZ2:Away (Z=LK .i64 (tl 0)):=⟨HZ.out.symm⟩
 clear HZ
 go_loopw [2,3,5] (fun x y i wr=>∃ (k X Y:Nat),k≤24∧i=.int .i64 k∧x=.int .i64 X∧y=.int .i64 Y∧Away (xy k=(X,Y))∧wr=(w.alloc (.cells Z 31)).alloc (.cells (LK .i64 (tl k)) 31)) (fun _ _ i _=>24-(intOf i).toNat)
 case atStart=>exact⟨0,1,0,by decide,rfl,rfl,rfl,⟨rfl⟩,by rw[←HZ2.out]⟩
 case round=>
  obtain⟨k,X,Y,hk,rfl,rfl,rfl,Hxy,rfl⟩:=hrel
  by_cases hlt:k<24
  ·have hb:=xy_lt k
   rw[Hxy.out]at hb
   have hX:X<5:=hb.1
   have hY:Y<5:=hb.2
   have hm:=mul_bd k hlt
   have e1:((X:Int)+5*(Y:Int)).toNat=X+5*Y:=by omega
   have hget:=lk_get .i64 (tl k) (X+5*Y) (by rw[tl_length];omega)
   have hset:=lk_setI .i64 (tl k) (X+5*Y) ((k+1)*(k+2) / 2%64) _ (mul_val k)
   rw[show (tl k).set (X+5*Y) ((k+1)*(k+2) / 2%64)=tl (k+1) by rw[tl,Hxy.out]]at hset
   have Hn:Away (xy (k+1)=(Y,(2*X+3*Y)%5)):=⟨by rw[xy,Hxy.out]⟩
   clear hb
   go_wp2_with fail
   go_roundw
   case rel=>exact⟨k+1,Y,(2*X+3*Y)%5,by omega,by go_num,rfl,val_int (by omega),Hn,rfl⟩
   case measure=>simp[intOf];omega
  ·obtain rfl:k=24:=by omega
   have hsz:(LK .i64 (tl 24)).size=25:=by rw[lk_size,tl_length]
   have hzs:Z.size=25:=by rw[HZ2.out,lk_size,tl_length]
   obtain⟨W,hW⟩:∃ W,(w.alloc (.cells Z 31)).alloc (.cells (LK .i64 (tl 24)) 31)=W:=⟨_,rfl⟩
   have hb:Below w.heap.size w W:=by rw[←hW];exact((Below.refl _ _).alloc (Nat.le_refl _) _).alloc (by simp) _
   have g1:W.heap[w.heap.size+1]? = some (.cells (LK .i64 (tl 24)) 31 (0,0)):=by rw[←hW,heap_at _ _ _ (by simp)]
   have g0:W.heap[w.heap.size]? = some (.cells Z 31 (0,0)):=by rw[←hW,heap_past _ _ _ (by simp),heap_at _ _ _ rfl]
   rw[hW]
   clear hW
   have Hsz:=Away.mk hsz
   have Hzs:=Away.mk hzs
   clear hsz hzs
   go_wp2_with (first | (refine wpList_load_row rfl 31 _ rfl _ rfl 31 _ (0,0) _ g1 Tryz.underlying31 rfl (by rw[Hsz.out];exact zturns) ?_) | (refine wpList_store_row rfl 31 _ _ rfl _ _ rfl rfl 31 _ g0 (by rw[Hsz.out];exact zturns) (by rw[Hsz.out];exact Hzs.out) (lk_one _ _) ?_))
   refine bodyPost_ret_by (v:=.agg (LK .i64 (tl 24))) (results_cell_row rfl _ _ w.heap.size 31 _ (0,0) _ rfl (setRow_heap _ _ _ _ _ _ g0) Tryz.underlying31 rfl (by rw[Hsz.out];exact zturns)) rfl ?_
   exact⟨rfl,hb.trans (below_setRow _ _ _ (Nat.le_refl _))⟩
end turns
namespace zetas
open Go.RowKit
open tabm tabt arr
theorem rev8_get (n:Nat) (h:n<Lib.rev8tab.size):Lib.rev8 (n:Int)=((Lib.rev8tab[n].toNat:Nat):Int):=by
 unfold Lib.rev8
 rw[Int.toNat_natCast,ByteArray.getElem?_lt' _ _ h]
 rfl
theorem reverse8 (n:Nat) (w:World) (h:n<256):
 Calls Tryz.prog 110 #[.int .u8 n] w fun e w'=>e=.returned (.int .u8 (rv n:Nat))∧w=w':=by
 have hr:=Away.mk (rev8_tab n h)
 go_enter Tryz.func110,Tryz.ntmps110
 go_wp2_with fail
 go_ret
 exact⟨ret_int ((rev8_get n _).symm.trans hr.out),rfl⟩
theorem info37:(Tryz.prog.info? 32).map (fun i=>(i.zero,i.size))=some (some (.agg (LK .i64 (zl 0))),256):=by kernel_rfl
theorem zetas_any (w:World):
 Calls Tryz.prog 59 #[] w fun e w'=>e=.returned (.agg (LK .i64 (zl 256)))∧Below w.heap.size w w':=by
 obtain⟨hz,hsize⟩:=zero_of_info info37
 obtain⟨Z,HZ⟩:=ex_eq (LK .i64 (zl 0))
 rw[HZ.out]at hz
 have Hsize:=Away.mk hsize
 clear hsize
 go_enter Tryz.func59,Tryz.ntmps59
 go_wp2_with fail
 clear hz
 go_loopw [3] (fun i wr=>∃ k:Nat,k≤256∧i=.int .i64 k∧wr=(w.alloc (.cells Z 32)).alloc (.cells (LK .i64 (zl k)) 32)) (fun i _=>256-(intOf i).toNat)
 case atStart=>exact⟨0,by decide,rfl,by rw[HZ.out]⟩
 case round=>
  obtain⟨k,hk,rfl,rfl⟩:=hrel
  by_cases hlt:k<256
  ·have hget:=lk_get .i64 (zl k) k (by rw[zl_length];omega)
   have hset:=lk_set .i64 (zl k) k (zt k)
   rw[show (zl k).set k (zt k)=zl (k+1) from rfl]at hset
   have hrl:=rv_lt k hlt
   have hzt:Away (pw 1753 (rv k)=zt k):=⟨rfl⟩
   obtain⟨r,Hr⟩:=ex_eq (rv k)
   rw[Hr.out]at hrl hzt
   go_wp2_with fail
   refine(reverse8 k _ hlt).mono ?_
   rintro e w1 ⟨rfl,rfl⟩
   rw[Hr.out]
   go_wp2_with fail
   refine(power.power_nn 1753 r _ (by decide) (by omega)).mono ?_
   rintro e w1 ⟨rfl,rfl⟩
   rw[hzt.out]
   go_wp2_with fail
   go_roundw
   case rel=>exact⟨k+1,by omega,by go_num,rfl⟩
   case measure=>simp[intOf];omega
  ·obtain rfl:k=256:=by omega
   have hsz:(LK .i64 (zl 256)).size=256:=by rw[lk_size,zl_length]
   have hzs:Z.size=256:=by rw[←HZ.out,lk_size,zl_length]
   obtain⟨W,hW⟩:∃ W,(w.alloc (.cells Z 32)).alloc (.cells (LK .i64 (zl 256)) 32)=W:=⟨_,rfl⟩
   have hb:Below w.heap.size w W:=by rw[←hW];exact((Below.refl _ _).alloc (Nat.le_refl _) _).alloc (by simp) _
   have g1:W.heap[w.heap.size+1]? = some (.cells (LK .i64 (zl 256)) 32 (0,0)):=by rw[←hW,heap_at _ _ _ (by simp)]
   have g0:W.heap[w.heap.size]? = some (.cells Z 32 (0,0)):=by rw[←hW,heap_past _ _ _ (by simp),heap_at _ _ _ rfl]
   rw[hW]
   have Hsz:=Away.mk hsz
   have Hzs:=Away.mk hzs
   clear hW hsz hzs
   go_wp2_with (first | (refine wpList_load_row rfl 32 _ rfl _ rfl 32 _ (0,0) _ g1 Tryz.underlying32 rfl (by rw[Hsz.out];exact Hsize.out) ?_) | (refine wpList_store_row rfl 32 _ _ rfl _ _ rfl rfl 32 _ g0 (by rw[Hsz.out];exact Hsize.out) (by rw[Hsz.out];exact Hzs.out) (lk_one _ _) ?_))
   refine bodyPost_ret_by (v:=.agg (LK .i64 (zl 256))) (results_cell_row rfl _ _ w.heap.size 32 _ (0,0) _ rfl (setRow_heap _ _ _ _ _ _ g0) Tryz.underlying32 rfl (by rw[Hsz.out];exact Hsize.out)) rfl ?_
   exact⟨rfl,hb.trans (below_setRow _ _ _ (Nat.le_refl _))⟩
end zetas
namespace times
open Go.RowKit
open tabd arr
theorem zlong:(Tryz.prog.info? 132).map (·.size)=some 8:=by kernel_rfl
theorem times_any (us vs:List Nat) (w:World) (hu:us.length=8) (hv:vs.length=8) (su:Small us) (sv:Small vs):
 Calls Tryz.prog 156 #[.agg (LK .u32 us),.agg (LK .u32 vs)] w fun e w'=>e=.returned (.agg (LK .u32 (dg 8 (val us*val vs))))∧Below w.heap.size w w':=by
 have Hu:=Lib.hid hu
 have Hv:=Lib.hid hv
 have Su:=Lib.hid su
 have Sv:=Lib.hid sv
 clear hu hv su sv
 go_enter Tryz.func156,Tryz.ntmps156
 go_wp2
 obtain⟨Z,hZ⟩:∃ Z,(#[.int .u32 0,.int .u32 0,.int .u32 0,.int .u32 0,.int .u32 0,.int .u32 0,.int .u32 0,.int .u32 0]:Array Value)=Z:=⟨_,rfl⟩
 rw[hZ]
 have HZ:=Lib.hid hZ
 clear hZ
 have t0:=top_start us vs
 go_loopw [10] (fun i wr=>∃ (k n:Nat) (ds:List Nat),k≤8∧i=.int .i64 k∧Top us vs k ds∧wr=((((w.alloc (.cells (LK .u32 us) 132)).alloc (.cells (LK .u32 vs) 132)).alloc (.cells Z 132)).alloc (.cells (LK .u32 ds) 132)).drewN n) (fun i _=>8-(intOf i).toNat)
 case atStart=>exact⟨0,0,List.replicate 8 0,by decide,rfl,t0,by rw[←HZ.out];rfl⟩
 case round=>
  obtain⟨k,n,ds,hk,rfl,ht,rfl⟩:=hrel
  clear t0
  by_cases hlt:k<8
  ·obtain⟨N,hN⟩:∃ N,val ds=N:=⟨_,rfl⟩
   obtain⟨x,hx⟩:∃ x,us.getD k 0=x:=⟨_,rfl⟩
   have hm0:=mid_start vs ds x k ht.1 ht.2.1
   have hxl:=getD_small Su.out k
   rw[hx]at hxl
   rw[hN]at hm0
   have Ht:=Lib.hid ht
   have HN:=Lib.hid hN
   have hgu:=lk_get .u32 us k (by rw[Hu.out];exact hlt)
   rw[hx]at hgu
   have HX:=Lib.hid hx
   clear ht hN hx
   go_wp2
   go_loopw [15,7] (fun j c wr=>∃ (m n:Nat) (d:List Nat) (cc:Nat),m≤8-k∧j=.int .i64 m∧c=.int .u64 cc∧Mid vs N x k m d cc∧wr=((((w.alloc (.cells (LK .u32 us) 132)).alloc (.cells (LK .u32 vs) 132)).alloc (.cells Z 132)).alloc (.cells (LK .u32 d) 132)).drewN n) (fun j _ _=>8-(intOf j).toNat)
   case atStart=>exact⟨0,n,ds,0,by omega,rfl,rfl,hm0,rfl⟩
   case round=>
    obtain⟨m,n,d,c,hm,rfl,rfl,hmid,rfl⟩:=hrel
    by_cases hlm:m<8-k
    ·have hs:=mid_step hmid hxl Sv.out (by rw[Hv.out];omega) (by omega)
     have hb:=mid_bd (j:=m) (k:=k+m) (c:=c) hxl Sv.out hmid.2.1 hmid.2.2.1
     have hgv:=lk_get .u32 vs m (by rw[Hv.out];omega)
     have hgd:=lk_get .u32 d (k+m) (by rw[hmid.1];omega)
     have hlv:=getD_small Sv.out m
     have hld:=getD_small hmid.2.1 (k+m)
     obtain⟨y,hy⟩:∃ y,vs.getD m 0=y:=⟨_,rfl⟩
     obtain⟨z,hz⟩:∃ z,d.getD (k+m) 0=z:=⟨_,rfl⟩
     rw[hy]at hs hb hgv hlv
     rw[hz]at hs hb hgd hld
     have hc:=hmid.2.2.1
     have hset:=lk_setI .u32 d (k+m) ((x*y+z+c)%4294967296) (((x:Int)*(y:Int)+(z:Int)+(c:Int))%4294967296) (cast_mod x y z c)
     clear hy hz hmid hm0
     have w1:IntKind.i64.wrap ((k:Int)+(m:Int))=(k:Int)+(m:Int):=IntWalk.i64_in _ (by omega)
     have w2:((k:Int)+(m:Int)).toNat=k+m:=by omega
     go_wp2_with fail
     go_quiet (fail)
     go_wp2_with fail
     go_roundw
     case rel=>
      exact⟨m+1,n+nq,d.set (k+m) ((x*y+z+c)%4294967296),(x*y+z+c) / 4294967296,by omega,by go_num,val_int (cast_div x y z c),hs,rfl⟩
     case measure=>simp[intOf];omega
    ·obtain rfl:m=8-k:=by omega
     have htop:=top_step (us:=us) (c:=c) (HN.out ▸ Ht.out.2.2) (by rw[Hu.out];exact hlt) hk Hv.out (by rw[HX.out];exact hmid)
     clear hm0 hmid hgu
     go_wp2_with fail
     go_roundw
     case rel=>exact⟨k+1,n,d,by omega,by go_num,htop,rfl⟩
     case measure=>simp[intOf];omega
  ·obtain rfl:k=8:=by omega
   have hend:=top_end Hu.out ht
   have hsz:(LK .u32 ds).size=8:=by rw[lk_size];exact ht.1
   have hzs:Z.size=8:=by rw[←HZ.out];rfl
   obtain⟨X,hX⟩:∃ X,((((w.alloc (.cells (LK .u32 us) 132)).alloc (.cells (LK .u32 vs) 132)).alloc (.cells Z 132)).alloc (.cells (LK .u32 ds) 132)).drewN n=X:=⟨_,rfl⟩
   have hb:Below w.heap.size w X:=by
    rw[←hX]
    exact below_drewN (((((Below.refl _ _).alloc (Nat.le_refl _) _).alloc (by simp) _).alloc (by simp;omega) _).alloc (by simp;omega) _) n
   have g5:X.heap[w.heap.size+1+1+1]? = some (.cells (LK .u32 ds) 132 (0,0)):=by
    rw[←hX,heap_drewN',heap_at _ _ _ (by simp)]
   have g4:X.heap[w.heap.size+1+1]? = some (.cells Z 132 (0,0)):=by
    rw[←hX,heap_drewN',heap_past _ _ _ (by simp),heap_at _ _ _ (by simp)]
   rw[hX]
   clear hX ht
   go_wp2_with (first | (refine wpList_load_row rfl 132 _ rfl _ rfl 132 _ (0,0) _ g5 Tryz.underlying132 rfl (by rw[hsz];exact zlong) ?_) | (refine wpList_store_row rfl 132 _ _ rfl _ _ rfl rfl 132 _ g4 (by rw[hsz];exact zlong) (by rw[hsz];exact hzs) (lk_one _ _) ?_))
   refine bodyPost_ret_by (v:=.agg (LK .u32 ds)) (results_cell_row rfl _ _ (w.heap.size+1+1) 132 _ (0,0) _ rfl (setRow_heap _ _ _ _ _ _ g4) Tryz.underlying132 rfl (by rw[hsz];exact zlong)) rfl ?_
   exact⟨by rw[hend],hb.trans (below_setRow _ _ _ (by omega))⟩
end times
namespace raised
open Go.RowKit
open tabd arr times
theorem dg_mulmod (v x:Nat):dg 8 (val (dg 8 v)*x)=dg 8 (v*x):=by
 rw[val_dg,←dg_mod 8 (v%bp 8*x),←dg_mod 8 (v*x),Nat.mod_mul_mod]
theorem dg_self (us:List Nat) (h:us.length=8) (s:Small us):dg 8 (val us)=us:=by
 have:=dg_val us s
 rwa [h]at this
def St (us:List Nat) (w:World) (e:Nat) (wr:World):Prop:=
 wr.heap[w.heap.size]? = some (.cells (LK .u32 us) 132 (0,0))∧(∃ Z:Array Value,Z.size=8∧wr.heap[w.heap.size+1]? = some (.cells Z 132 (0,0))) ∧
 wr.heap[w.heap.size+1+1]? = some (.cells (LK .u32 (dg 8 (val us ^ e))) 132 (0,0))∧Below w.heap.size w wr∧w.heap.size+3≤wr.heap.size
theorem st_call {us:List Nat} {w wr w1:World} {e:Nat} (h:St us w e wr) (hb:Below wr.heap.size wr w1):St us w e w1:=by
 obtain⟨h1,⟨Z,hz,h2⟩,h3,h4,h5⟩:=h
 have hs:=hb.size
 exact⟨(hb.block _ (by omega)).trans h1,⟨Z,hz,(hb.block _ (by omega)).trans h2⟩,(hb.block _ (by omega)).trans h3,h4.trans (hb.mono (by omega)),by omega⟩
theorem st_store {us:List Nat} {w wr:World} {e f:Nat} (h:St us w e wr):St us w f (wr.setRow (w.heap.size+1+1) (LK .u32 (dg 8 (val us ^ f)))):=by
 obtain⟨h1,⟨Z,hz,h2⟩,h3,h4,h5⟩:=h
 exact⟨by rw[setRow_other _ _ _ _ (by omega)];exact h1,⟨Z,hz,by rw[setRow_other _ _ _ _ (by omega)];exact h2⟩,setRow_heap _ _ _ _ _ _ h3,h4.trans (below_setRow _ _ _ (by omega)),by simpa using h5⟩
theorem raised_any (us:List Nat) (p:Nat) (w:World) (hu:us.length=8) (su:Small us) (h1 : 1≤p) (h3:p≤3):
 Calls Tryz.prog 113 #[.agg (LK .u32 us),.int .i64 p] w fun e w'=>e=.returned (.agg (LK .u32 (dg 8 (val us ^ p))))∧Below w.heap.size w w':=by
 have hsz:(LK .u32 us).size=8:=by rw[lk_size];exact hu
 have hsd:∀ v,(LK .u32 (dg 8 v)).size=8:=fun v=>by rw[lk_size,dg_length]
 have Hsz:=Lib.hid hsz
 have Hsd:=Lib.hid hsd
 have Hu:=Lib.hid hu
 have Su:=Lib.hid su
 clear hu su hsz hsd
 go_enter Tryz.func113,Tryz.ntmps113
 go_wp2_with (first | (refine wpList_load_row rfl 132 _ rfl _ rfl 132 (LK .u32 us) (0,0) _ ?_ Tryz.underlying132 rfl (by rw[Hsz.out];exact zlong) ?_;· (rw[heap_past _ _ _ (by simp<;>omega),heap_at _ _ _ (by simp<;>omega)])) | (refine wpList_store_row rfl 132 _ _ rfl _ _ rfl rfl 132 _ (heap_at _ _ _ (by simp<;>omega)) (by rw[Hsz.out];exact zlong) (by rw[Hsz.out];rfl) (lk_one _ _) ?_))
 go_loopw [9] (fun i wr=>∃ k:Nat,k≤p-1∧i=.int .i64 k∧St us w (k+1) wr) (fun i _=>p-(intOf i).toNat)
 case atStart=>
  refine⟨0,by omega,rfl,?_,⟨LK .u32 [0,0,0,0,0,0,0,0],rfl,?_⟩,?_,?_,?_⟩
  ·rw[setRow_other _ _ _ _ (by omega),heap_past _ _ _ (by simp<;>omega),heap_past _ _ _ (by simp<;>omega),heap_at _ _ _ rfl]
  ·rw[setRow_other _ _ _ _ (by omega),heap_past _ _ _ (by simp<;>omega),heap_at _ _ _ (by simp<;>omega)];rfl
  ·rw[Nat.zero_add,Nat.pow_one,dg_self us Hu.out Su.out,setRow_heap _ _ _ _ _ _ (heap_at _ _ _ (by simp<;>omega))]
  ·exact((((Below.refl _ _).alloc (Nat.le_refl _) _).alloc (by simp<;>omega) _).alloc (by simp<;>omega) _).trans (below_setRow _ _ _ (by omega))
  ·simp
 case round=>
  obtain⟨k,hk,rfl,hst⟩:=hrel
  have g0:=hst.1
  have g2:=hst.2.2.1
  by_cases hlt:k<p-1
  ·have Hst:=Lib.hid hst
   clear hst
   go_wp2_with (first | (refine wpList_load_row rfl 132 _ rfl _ rfl 132 _ (0,0) _ g2 Tryz.underlying132 rfl (by rw[Hsd.out];exact zlong) ?_) | (refine wpList_load_row rfl 132 _ rfl _ rfl 132 _ (0,0) _ g0 Tryz.underlying132 rfl (by rw[Hsz.out];exact zlong) ?_))
   refine(times_any _ _ _ (dg_length _ _) Hu.out (dg_small _ _) Su.out).mono ?_
   rintro e w1 ⟨rfl,hb⟩
   rw[dg_mulmod,←Nat.pow_succ]
   have Hs1:=Lib.hid (st_call Hst.out hb)
   have g2':=Hs1.out.2.2.1
   have Hb:=Lib.hid hb
   clear hb g0 g2
   go_wp2_with (refine wpList_store_row rfl 132 _ _ rfl _ _ rfl rfl 132 _ g2' (by rw[Hsd.out];exact zlong) (by rw[Hsd.out,Hsd.out]) (lk_one _ _) ?_)
   go_roundw
   case rel=>exact⟨k+1,by omega,by go_num,st_store Hs1.out⟩
   case measure=>simp[intOf];omega
  ·obtain rfl:p=k+1:=by omega
   obtain⟨-,⟨Z,hz,g1⟩,-,hb,hs⟩:=hst
   have Hz:=Lib.hid hz
   clear hz
   go_wp2_with (first | (refine wpList_load_row rfl 132 _ rfl _ rfl 132 _ (0,0) _ g2 Tryz.underlying132 rfl (by rw[Hsd.out];exact zlong) ?_) | (refine wpList_store_row rfl 132 _ _ rfl _ _ rfl rfl 132 _ g1 (by rw[Hsd.out];exact zlong) (by rw[Hsd.out];exact Hz.out) (lk_one _ _) ?_))
   refine bodyPost_ret_by (v:=.agg (LK .u32 (dg 8 (val us ^ (k+1))))) (results_cell_row rfl _ _ (w.heap.size+1) 132 _ (0,0) _ rfl (setRow_heap _ _ _ _ _ _ g1) Tryz.underlying132 rfl (by rw[Hsd.out];exact zlong)) rfl ?_
   exact⟨rfl,hb.trans (below_setRow _ _ _ (by omega))⟩
end raised
namespace above
open Go.RowKit
open tabd arr
theorem ret_bool {a b:Bool} (h:a=b):Ending.returned (.bool a)=.returned (.bool b):=by rw[h]
theorem gt_of (us vs:List Nat) (k:Nat) (h:Same us vs (k+1)) (hu:us.length=8) (hv:vs.length=8) (su:Small us) (sv:Small vs) (hk:k<8) (hne:us.getD k 0≠vs.getD k 0):
 decide (vs.getD k 0<us.getD k 0)=decide (val vs<val us):=by
 rcases Nat.lt_or_gt_of_ne hne with h1 | h1
 ·have:=same_lt h (by omega) (by omega) su h1
  rw[decide_eq_false (by omega),decide_eq_false (by omega)]
 ·have:=same_lt (a:=vs) (b:=us) (k:=k) h.symm (by omega) (by omega) sv h1
  rw[decide_eq_true (by omega),decide_eq_true (by omega)]
theorem above_any (us vs:List Nat) (w:World) (hu:us.length=8) (hv:vs.length=8) (su:Small us) (sv:Small vs):
 Calls Tryz.prog 112 #[.agg (LK .u32 us),.agg (LK .u32 vs)] w fun e w'=>e=.returned (.bool (decide (val vs<val us)))∧Below w.heap.size w w':=by
 have Hu:=Lib.hid hu
 have Hv:=Lib.hid hv
 have Su:=Lib.hid su
 have Sv:=Lib.hid sv
 have HS:=Lib.hid (show Same us vs (8-0) from by unfold Same;rw[List.drop_of_length_le (by omega),List.drop_of_length_le (by omega)])
 clear hu hv su sv
 go_enter Tryz.func112,Tryz.ntmps112
 go_wp2
 go_loopw [7] (fun i wr=>∃ (k n:Nat),k≤8∧i=.int .i64 k∧Hid (Same us vs (8-k))∧wr=((w.alloc (.cells (LK .u32 us) 132)).alloc (.cells (LK .u32 vs) 132)).drewN n) (fun i _=>8-(intOf i).toNat)
 case atStart=>exact⟨0,0,by decide,rfl,HS,rfl⟩
 case round=>
  obtain⟨k,n,hk,rfl,hs,rfl⟩:=hrel
  clear HS
  have hbel:∀ n,Below w.heap.size w (((w.alloc (.cells (LK .u32 us) 132)).alloc (.cells (LK .u32 vs) 132)).drewN n):=fun n=>below_drewN (((Below.refl _ _).alloc (Nat.le_refl _) _).alloc (by simp) _) n
  have Hbel:=Lib.hid hbel
  clear hbel
  by_cases hlt:k<8
  ·have hgu:=lk_get .u32 us (7-k) (by rw[Hu.out];omega)
   have hgv:=lk_get .u32 vs (7-k) (by rw[Hv.out];omega)
   have e1:(7-(k:Int)).toNat=7-k:=by omega
   have hs':Same us vs (7-k+1):=by rw[show 7-k+1=8-k by omega];exact hs.out
   by_cases he:us.getD (7-k) 0=vs.getD (7-k) 0
   ·have hn:=Lib.hid (same_step hs' (by rw[Hu.out];omega) (by rw[Hv.out];omega) he)
    rw[he]at hgu
    obtain⟨x,hx⟩:∃ x,vs.getD (7-k) 0=x:=⟨_,rfl⟩
    rw[hx]at hgu hgv
    clear he hx hs' hs
    go_wp2_with fail
    go_quiet (fail)
    go_wp2_with fail
    go_roundw
    case rel=>exact⟨k+1,_,by omega,by go_num,by rw[show 8-(k+1)=7-k by omega];exact hn,rfl⟩
    case measure=>simp[intOf];omega
   ·have hg:=Lib.hid (gt_of us vs (7-k) hs' Hu.out Hv.out Su.out Sv.out (by omega) he)
    obtain⟨x,hx⟩:∃ x,us.getD (7-k) 0=x:=⟨_,rfl⟩
    obtain⟨y,hy⟩:∃ y,vs.getD (7-k) 0=y:=⟨_,rfl⟩
    rw[hx,hy]at hg
    rw[hx]at hgu
    rw[hy]at hgv
    rw[hx,hy]at he
    have b1:((x:Int)==(y:Int))=false:=beq_eq_false_iff_ne.2 (by omega)
    have b2:((x:Int) != (y:Int))=true:=by rw[bne_iff_ne];omega
    clear he hx hy hs' hs
    iterate 2 (go_wp2_with fail;go_quiet (fail))
    go_wp2_with fail
    go_ret
    exact⟨ret_bool hg.out,below_drewN (below_drewN (Hbel.out _) _) _⟩
  ·obtain rfl:k=8:=by omega
   have hz:=Lib.hid (same_zero hs.out)
   go_wp2_with fail
   go_ret
   exact⟨ret_bool (by rw[hz.out];simp),Hbel.out _⟩
theorem above_b (c:Bool) (us vs:List Nat) (w:World) (hu:us.length=8) (hv:vs.length=8) (su:Small us) (sv:Small vs) (hc:decide (val vs<val us)=c):
 Calls Tryz.prog 112 #[.agg (LK .u32 us),.agg (LK .u32 vs)] w fun e w'=>e=.returned (.bool c)∧Below w.heap.size w w':=by
 subst hc;exact above_any us vs w hu hv su sv
end above
namespace root
open Go.RowKit
open tabd arr times Go.Proofs.YtomphjajkkddkaaGreatDoor.raised above
def St (p k:Nat) (w:World) (y:Nat) (wr:World):Prop:=
 wr.heap[w.heap.size]? = some (.cells (LK .u32 (top p k)) 132 (0,0)) ∧
 wr.heap[w.heap.size+1]? = some (.cells (LK .u32 (dg 8 y)) 132 (0,0))∧Below w.heap.size w wr∧w.heap.size+2≤wr.heap.size
theorem st_call {p k:Nat} {w wr w1:World} {n:Nat} (h:St p k w n wr) (hb:Below wr.heap.size wr w1):St p k w n w1:=by
 obtain⟨h1,h2,h4,h5⟩:=h
 have hs:=hb.size
 exact⟨(hb.block _ (by omega)).trans h1,(hb.block _ (by omega)).trans h2,h4.trans (hb.mono (by omega)),by omega⟩
theorem st_store {p k:Nat} {w wr:World} {n t:Nat} (h:St p k w n wr):St p k w t (wr.setRow (w.heap.size+1) (LK .u32 (dg 8 t))):=by
 obtain⟨h1,h2,h4,h5⟩:=h
 exact⟨by rw[setRow_other _ _ _ _ (by omega)];exact h1,setRow_heap _ _ _ _ _ _ h2,h4.trans (below_setRow _ _ _ (by omega)),by simpa using h5⟩
theorem top_size (p k:Nat):(LK .u32 (top p k)).size=8:=by rw[lk_size,top_length]
theorem join_parts (y:Nat):bits .or .u64 ((((dg 8 y).getD 1 0:Nat):Int)*4294967296) (((dg 8 y).getD 0 0:Nat):Int)=((y%18446744073709551616:Nat):Int):=by
 have h1:=getD_small (dg_small 8 y) 1
 have h0:=getD_small (dg_small 8 y) 0
 rw[←low_parts y]
 generalize (dg 8 y).getD 1 0=a at *
 generalize (dg 8 y).getD 0 0=b at *
 rw[show (a:Int)*4294967296=((a*4294967296:Nat):Int) by omega,u64_or_nat _ _ (by omega) (by omega)]
 have h:=Nat.shiftLeft_add_eq_or_of_lt (i:=32) (b:=b) (by omega) a
 rw[Nat.shiftLeft_eq]at h
 exact congrArg Nat.cast h.symm
theorem root_in2 (p:Nat) (w:World) (hp:p≤1000):
 Calls Tryz.prog 61 #[.int .i64 p,.int .i64 2] w fun e w'=>e=.returned (.int .u64 ((rootN p 2%18446744073709551616:Nat):Int))∧Below w.heap.size w w':=by
 have hsd:∀ v,(LK .u32 (dg 8 v)).size=8:=fun v=>by rw[lk_size,dg_length]
 have Hsd:=Away.mk hsd
 clear hsd
 go_enter Tryz.func61,Tryz.ntmps61
 go_wp2_with fail
 go_loopw [29] (fun i wr=>∃ n y:Nat,n≤69∧i=.int .i64 n∧Away (rt 69 (p*bp (2*2)) 2 n=y)∧St p 2 w y wr) (fun i _=>69-(intOf i).toNat)
 case atStart=>
  refine⟨0,0,by decide,rfl,⟨rfl⟩,?_,?_,?_,?_⟩
  ·rw[heap_past _ _ _ (by simp<;>omega),heap_at _ _ _ rfl];rfl
  ·rw[heap_at _ _ _ (by simp<;>omega)];rfl
  ·exact((Below.refl _ _).alloc (Nat.le_refl _) _).alloc (by simp<;>omega) _
  ·simp
 case round=>
  obtain⟨n,y,hn,rfl,Hy,hst⟩:=hrel
  have g1:=hst.2.1
  have Hst:=Away.mk hst
  clear hst
  by_cases hlt:n<69
  ·obtain⟨k1,k2,k3,k4,k5⟩:=rt_round (k:=2) (by decide) hp (Nat.le_refl 69) (by decide) hlt Hy.out
   have HR:=Away.mk k5
   obtain⟨d,hd⟩:∃ d,(dg 8 y).getD ((68-n) / 32) 0=d:=⟨_,rfl⟩
   have hget:=lk_get .u32 (dg 8 y) ((68-n) / 32) (by rw[dg_length];omega)
   have hdl:=getD_small (dg_small 8 y) ((68-n) / 32)
   rw[hd]at hget hdl
   have hbit:=dg_bit y (68-n) (by omega) k1 k2
   rw[hd]at hbit
   have Hbit:=Away.mk hbit
   have hq8:(68-n) / 32<8:=by omega
   have hr32:(68-n)%32<32:=by omega
   have w36:IntKind.i64.wrap ((68-(n:Int)).tdiv 32)=(((68-n) / 32:Nat):Int):=by
    rw[Int.tdiv_eq_ediv_of_nonneg (by omega),IntWalk.i64_in _ (by omega)];omega
   have w40:(68-(n:Int)).tmod 32=(((68-n)%32:Nat):Int):=by
    rw[Int.tmod_eq_emod_of_nonneg (by omega)];omega
   obtain⟨q,hq⟩:∃ q,(68-n) / 32=q:=⟨_,rfl⟩
   obtain⟨r,hr⟩:∃ r,(68-n)%32=r:=⟨_,rfl⟩
   rw[hq]at w36 hget Hbit hq8
   rw[hr]at w40 Hbit hr32
   obtain⟨t,ht⟩:∃ t,y+2 ^ (69-1-n)=t:=⟨_,rfl⟩
   rw[ht]at k3 k4 HR
   have hset:(LK .u32 (dg 8 y)).setIfInBounds q (.int .u32 (bits .or .u32 (d:Int) (2 ^ r%4294967296)))=LK .u32 (dg 8 t):=by
    rw[lk_setI .u32 (dg 8 y) q (d ||| 2 ^ r) _ (or_bit32 d r hdl hr32),←ht]
    exact congrArg (LK .u32) Hbit.out.1
   have K3:=Away.mk k3
   have K4:=Away.mk k4
   clear hd hbit hq hr ht k1 k2 k3 k4 k5
   go_wp2_with (first | (refine wpList_load_row rfl 132 _ rfl _ rfl 132 _ (0,0) _ g1 Tryz.underlying132 rfl (by rw[Hsd.out];exact zlong) ?_) | (refine wpList_store_new rfl 132 _ _ rfl _ rfl rfl (by rw[Hsd.out];exact zlong) (by rw[Hsd.out];rfl) (lk_one _ _) rfl ?_))
   go_region
   go_wp2_with fail
   obtain⟨W,hW⟩:∃ W,(wr.alloc (.cells (LK .u32 (dg 8 t)) 132)).drew=W:=⟨_,rfl⟩
   have gt:W.heap[wr.heap.size]? = some (.cells (LK .u32 (dg 8 t)) 132 (0,0)):=by
    rw[←hW];exact heap_at _ _ _ rfl
   have hbW:Below wr.heap.size wr W:=by rw[←hW];exact((Below.refl _ _).alloc (Nat.le_refl _) _).drew
   have Hst2:=Away.mk (st_call Hst.out hbW)
   have g02:=Hst2.out.1
   rw[hW]
   clear hW hbW g1
   obtain⟨c,Hc⟩:=ex_eq (decide (val (top p 2)<val (dg 8 (val (dg 8 t) ^ 2))))
   refine wp_region_quiet_below (by kernel_rfl) (by kernel_rfl) ?_
   refine wpQuiet_load rfl 132 _ rfl _ rfl 132 _ _ (fun w' hC=>heap_regrown gt hC) Tryz.underlying132 rfl (by rw[Hsd.out];exact zlong) ?_
   quiet_step (skip)
   quiet_step (exact Calls.regrown_of (raised_any _ 2 _ (dg_length _ _) (dg_small _ _) (by decide) (by decide)))
   refine wpQuiet_load rfl 132 _ rfl _ rfl 132 _ _ (fun w' hC=>heap_regrown g02 hC) Tryz.underlying132 rfl (by rw[top_size];exact zlong) ?_
   quiet_step (exact Calls.regrown_of (above_b c _ _ _ (dg_length _ _) (top_length _ _) (dg_small _ _) (top_small _ _ hp) Hc.out))
   quiet_step (skip)
   refine wpQuiet_nil ?_
   intro w3 hC
   have hb3:Below W.heap.size W w3:=by
    obtain⟨pp,rfl⟩:=hC
    exact below_regrown _ _ _
   have Hst3:=Away.mk (st_call Hst2.out hb3)
   have gt3:=heap_regrown gt hC
   have g13:=Hst3.out.2.1
   clear hb3 hC gt g02
   rw[K3.out,K4.out,val_top p 2 (by decide)]at Hc
   cases c
   ·have hle:t ^ 2≤p*bp (2*2):=Nat.not_lt.1 (of_decide_eq_false Hc.out)
    have HR2:=Away.mk (HR.out.trans (if_pos hle))
    clear hle
    go_wp2_with (first | (refine wpList_load_row rfl 132 _ rfl _ rfl 132 _ (0,0) _ gt3 Tryz.underlying132 rfl (by rw[Hsd.out];exact zlong) ?_) | (refine wpList_store_row rfl 132 _ _ rfl _ _ rfl rfl 132 _ g13 (by rw[Hsd.out];exact zlong) (by rw[Hsd.out,Hsd.out]) (lk_one _ _) ?_))
    go_roundw
    case rel=>exact⟨n+1,t,by omega,by go_num,HR2,st_store Hst3.out⟩
    case measure=>simp[intOf];omega
   ·have hle:¬ t ^ 2≤p*bp (2*2):=Nat.not_le.2 (of_decide_eq_true Hc.out)
    have HR2:=Away.mk (HR.out.trans (if_neg hle))
    clear hle
    go_wp2_with fail
    go_roundw
    case rel=>exact⟨n+1,y,by omega,by go_num,HR2,Hst3.out⟩
    case measure=>simp[intOf];omega
  ·obtain rfl:n=69:=by omega
   have b1:=getD_small (dg_small 8 y) 1
   have b0:=getD_small (dg_small 8 y) 0
   have c1:=cell_at g1 (lk_get .u32 (dg 8 y) 1 (by rw[dg_length];decide))
   have c0:=cell_at g1 (lk_get .u32 (dg 8 y) 0 (by rw[dg_length];decide))
   have hj:=join_parts y
   generalize (dg 8 y).getD 1 0=a at *
   generalize (dg 8 y).getD 0 0=b at *
   have Hj:=Away.mk hj
   clear hj g1
   go_wp2_with fail
   go_ret
   exact⟨ret_int (by rw[Hj.out,←Hy.out];rfl),Hst.out.2.2.1⟩
theorem root_in3 (p:Nat) (w:World) (hp:p≤1000):
 Calls Tryz.prog 61 #[.int .i64 p,.int .i64 3] w fun e w'=>e=.returned (.int .u64 ((rootN p 3%18446744073709551616:Nat):Int))∧Below w.heap.size w w':=by
 have hsd:∀ v,(LK .u32 (dg 8 v)).size=8:=fun v=>by rw[lk_size,dg_length]
 have Hsd:=Away.mk hsd
 clear hsd
 go_enter Tryz.func61,Tryz.ntmps61
 go_wp2_with fail
 go_loopw [29] (fun i wr=>∃ n y:Nat,n≤69∧i=.int .i64 n∧Away (rt 69 (p*bp (2*3)) 3 n=y)∧St p 3 w y wr) (fun i _=>69-(intOf i).toNat)
 case atStart=>
  refine⟨0,0,by decide,rfl,⟨rfl⟩,?_,?_,?_,?_⟩
  ·rw[heap_past _ _ _ (by simp<;>omega),heap_at _ _ _ rfl];rfl
  ·rw[heap_at _ _ _ (by simp<;>omega)];rfl
  ·exact((Below.refl _ _).alloc (Nat.le_refl _) _).alloc (by simp<;>omega) _
  ·simp
 case round=>
  obtain⟨n,y,hn,rfl,Hy,hst⟩:=hrel
  have g1:=hst.2.1
  have Hst:=Away.mk hst
  clear hst
  by_cases hlt:n<69
  ·obtain⟨k1,k2,k3,k4,k5⟩:=rt_round (k:=3) (by decide) hp (Nat.le_refl 69) (by decide) hlt Hy.out
   have HR:=Away.mk k5
   obtain⟨d,hd⟩:∃ d,(dg 8 y).getD ((68-n) / 32) 0=d:=⟨_,rfl⟩
   have hget:=lk_get .u32 (dg 8 y) ((68-n) / 32) (by rw[dg_length];omega)
   have hdl:=getD_small (dg_small 8 y) ((68-n) / 32)
   rw[hd]at hget hdl
   have hbit:=dg_bit y (68-n) (by omega) k1 k2
   rw[hd]at hbit
   have Hbit:=Away.mk hbit
   have hq8:(68-n) / 32<8:=by omega
   have hr32:(68-n)%32<32:=by omega
   have w36:IntKind.i64.wrap ((68-(n:Int)).tdiv 32)=(((68-n) / 32:Nat):Int):=by
    rw[Int.tdiv_eq_ediv_of_nonneg (by omega),IntWalk.i64_in _ (by omega)];omega
   have w40:(68-(n:Int)).tmod 32=(((68-n)%32:Nat):Int):=by
    rw[Int.tmod_eq_emod_of_nonneg (by omega)];omega
   obtain⟨q,hq⟩:∃ q,(68-n) / 32=q:=⟨_,rfl⟩
   obtain⟨r,hr⟩:∃ r,(68-n)%32=r:=⟨_,rfl⟩
   rw[hq]at w36 hget Hbit hq8
   rw[hr]at w40 Hbit hr32
   obtain⟨t,ht⟩:∃ t,y+2 ^ (69-1-n)=t:=⟨_,rfl⟩
   rw[ht]at k3 k4 HR
   have hset:(LK .u32 (dg 8 y)).setIfInBounds q (.int .u32 (bits .or .u32 (d:Int) (2 ^ r%4294967296)))=LK .u32 (dg 8 t):=by
    rw[lk_setI .u32 (dg 8 y) q (d ||| 2 ^ r) _ (or_bit32 d r hdl hr32),←ht]
    exact congrArg (LK .u32) Hbit.out.1
   have K3:=Away.mk k3
   have K4:=Away.mk k4
   clear hd hbit hq hr ht k1 k2 k3 k4 k5
   go_wp2_with (first | (refine wpList_load_row rfl 132 _ rfl _ rfl 132 _ (0,0) _ g1 Tryz.underlying132 rfl (by rw[Hsd.out];exact zlong) ?_) | (refine wpList_store_new rfl 132 _ _ rfl _ rfl rfl (by rw[Hsd.out];exact zlong) (by rw[Hsd.out];rfl) (lk_one _ _) rfl ?_))
   go_region
   go_wp2_with fail
   obtain⟨W,hW⟩:∃ W,(wr.alloc (.cells (LK .u32 (dg 8 t)) 132)).drew=W:=⟨_,rfl⟩
   have gt:W.heap[wr.heap.size]? = some (.cells (LK .u32 (dg 8 t)) 132 (0,0)):=by
    rw[←hW];exact heap_at _ _ _ rfl
   have hbW:Below wr.heap.size wr W:=by rw[←hW];exact((Below.refl _ _).alloc (Nat.le_refl _) _).drew
   have Hst2:=Away.mk (st_call Hst.out hbW)
   have g02:=Hst2.out.1
   rw[hW]
   clear hW hbW g1
   obtain⟨c,Hc⟩:=ex_eq (decide (val (top p 3)<val (dg 8 (val (dg 8 t) ^ 3))))
   refine wp_region_quiet_below (by kernel_rfl) (by kernel_rfl) ?_
   refine wpQuiet_load rfl 132 _ rfl _ rfl 132 _ _ (fun w' hC=>heap_regrown gt hC) Tryz.underlying132 rfl (by rw[Hsd.out];exact zlong) ?_
   quiet_step (skip)
   quiet_step (exact Calls.regrown_of (raised_any _ 3 _ (dg_length _ _) (dg_small _ _) (by decide) (by decide)))
   refine wpQuiet_load rfl 132 _ rfl _ rfl 132 _ _ (fun w' hC=>heap_regrown g02 hC) Tryz.underlying132 rfl (by rw[top_size];exact zlong) ?_
   quiet_step (exact Calls.regrown_of (above_b c _ _ _ (dg_length _ _) (top_length _ _) (dg_small _ _) (top_small _ _ hp) Hc.out))
   quiet_step (skip)
   refine wpQuiet_nil ?_
   intro w3 hC
   have hb3:Below W.heap.size W w3:=by
    obtain⟨pp,rfl⟩:=hC
    exact below_regrown _ _ _
   have Hst3:=Away.mk (st_call Hst2.out hb3)
   have gt3:=heap_regrown gt hC
   have g13:=Hst3.out.2.1
   clear hb3 hC gt g02
   rw[K3.out,K4.out,val_top p 3 (by decide)]at Hc
   cases c
   ·have hle:t ^ 3≤p*bp (2*3):=Nat.not_lt.1 (of_decide_eq_false Hc.out)
    have HR2:=Away.mk (HR.out.trans (if_pos hle))
    clear hle
    go_wp2_with (first | (refine wpList_load_row rfl 132 _ rfl _ rfl 132 _ (0,0) _ gt3 Tryz.underlying132 rfl (by rw[Hsd.out];exact zlong) ?_) | (refine wpList_store_row rfl 132 _ _ rfl _ _ rfl rfl 132 _ g13 (by rw[Hsd.out];exact zlong) (by rw[Hsd.out,Hsd.out]) (lk_one _ _) ?_))
    go_roundw
    case rel=>exact⟨n+1,t,by omega,by go_num,HR2,st_store Hst3.out⟩
    case measure=>simp[intOf];omega
   ·have hle:¬ t ^ 3≤p*bp (2*3):=Nat.not_le.2 (of_decide_eq_true Hc.out)
    have HR2:=Away.mk (HR.out.trans (if_neg hle))
    clear hle
    go_wp2_with fail
    go_roundw
    case rel=>exact⟨n+1,y,by omega,by go_num,HR2,Hst3.out⟩
    case measure=>simp[intOf];omega
  ·obtain rfl:n=69:=by omega
   have b1:=getD_small (dg_small 8 y) 1
   have b0:=getD_small (dg_small 8 y) 0
   have c1:=cell_at g1 (lk_get .u32 (dg 8 y) 1 (by rw[dg_length];decide))
   have c0:=cell_at g1 (lk_get .u32 (dg 8 y) 0 (by rw[dg_length];decide))
   have hj:=join_parts y
   generalize (dg 8 y).getD 1 0=a at *
   generalize (dg 8 y).getD 0 0=b at *
   have Hj:=Away.mk hj
   clear hj g1
   go_wp2_with fail
   go_ret
   exact⟨ret_int (by rw[Hj.out,←Hy.out];rfl),Hst.out.2.2.1⟩
def rootV (p k:Int):Nat:=if p<0∨1000<p∨(k≠2∧k≠3) then 0 else rootN p.toNat k.toNat%18446744073709551616
theorem root_out (p k:Int) (w:World) (h:p<0∨1000<p∨(k≠2∧k≠3)):
 Calls Tryz.prog 61 #[.int .i64 p,.int .i64 k] w fun e w'=>e=.returned (.int .u64 0)∧Below w.heap.size w w':=by
 by_cases h1:p<0
 ·clear h
  go_enter Tryz.func61,Tryz.ntmps61
  go_wp2_with fail
  go_ret
  exact⟨rfl,Below.refl _ _⟩
 by_cases h2 : 1000<p
 ·clear h
  go_enter Tryz.func61,Tryz.ntmps61
  go_wp2_with fail
  go_ret
  exact⟨rfl,Below.refl _ _⟩
 obtain⟨h3,h4⟩:k≠2∧k≠3:=by omega
 have b3:(k != 2)=true:=by rw[bne_iff_ne];exact h3
 have b4:(k != 3)=true:=by rw[bne_iff_ne];exact h4
 clear h h3 h4
 go_enter Tryz.func61,Tryz.ntmps61
 go_wp2_with fail
 go_ret
 exact⟨rfl,Below.refl _ _⟩
theorem root_any (p k:Int) (w:World):
 Calls Tryz.prog 61 #[.int .i64 p,.int .i64 k] w fun e w'=>e=.returned (.int .u64 (rootV p k:Nat))∧Below w.heap.size w w':=by
 unfold rootV
 by_cases h:p<0∨1000<p∨(k≠2∧k≠3)
 ·rw[if_pos h]
  exact root_out p k w h
 ·rw[if_neg h]
  obtain⟨a,rfl⟩:=Int.eq_ofNat_of_zero_le (show 0≤p by omega)
  rw[Int.toNat_natCast]
  have hk:k=2∨k=3:=by omega
  rcases hk with rfl | rfl
  ·exact root_in2 a w (by omega)
  ·exact root_in3 a w (by omega)
end root
namespace divided
open Go.RowKit
open primm arr
theorem divided_nil (x:Nat) (w:World):
 Calls Tryz.prog 111 #[.int .i64 x,.slice none 0 0] w fun e w'=>e=.returned (.bool false)∧w=w':=by
 go_enter Tryz.func111,Tryz.ntmps111
 go_wp2_with fail
 refine wp_loop_rounds 1 ?_
 rw[rounds_succ]
 go_wp2_with fail
 go_ret
 exact⟨rfl,rfl⟩
theorem divided_some (x g cap:Nat) (xs:List Nat) (w:World) (hx:x≤1000) (hl:xs.length≤100) (hp:∀ p∈xs,2≤p∧p≤541)
 (hc:∀ j,j<xs.length→w.cell? ⟨g,j,none⟩=some (.int .i64 (xs.getD j 0:Nat))):
 Calls Tryz.prog 111 #[.int .i64 x,.slice (some ⟨g,0,none⟩) xs.length cap] w fun e w'=>e=.returned (.bool (dvd xs x))∧w=w':=by
 have Hp:=Away.mk hp
 have Hc:=Away.mk hc
 clear hp hc
 obtain⟨n,Hn⟩:=ex_eq xs.length
 rw[Hn.out]at hl ⊢
 go_enter Tryz.func111,Tryz.ntmps111
 go_wp2_with fail
 go_loop [9] (fun i=>∃ k:Nat,k≤n∧i=.int .i64 k∧Away (dvd (xs.take k) x=false)) (fun i=>n-(intOf i).toNat)
 case atStart=>exact⟨0,Nat.zero_le _,rfl,⟨rfl⟩⟩
 case round=>
  obtain⟨k,hk,rfl,Hd⟩:=hrel
  by_cases hlt:k<n
  ·have hcell:=Hc.out k (by rw[Hn.out];exact hlt)
   have hb : 2≤xs.getD k 0∧xs.getD k 0≤541:=Hp.out _ (by
    rw[List.getD_eq_getElem?_getD,List.getElem?_eq_getElem (by rw[Hn.out];exact hlt)];exact List.getElem_mem _)
   have Hs:=Away.mk (take_snoc (l:=xs) (k:=k) (by rw[Hn.out];exact hlt))
   have hit:=dvd_hit (l:=xs) (k:=k) (x:=x) (by rw[Hn.out];exact hlt)
   obtain⟨p,hpp⟩:∃ p,xs.getD k 0=p:=⟨_,rfl⟩
   rw[hpp]at hcell hb Hs hit
   clear hpp
   by_cases hm:x%p=0
   ·have Hh:=Away.mk (hit hm)
    have b1:((x:Int)%(p:Int)==0)=true:=beq_iff_eq.2 (by exact_mod_cast hm)
    clear hit hm
    go_wp2_with fail
    go_ret
    exact⟨ret_b Hh.out.symm,rfl⟩
   ·have b1:((x:Int)%(p:Int)==0)=false:=beq_eq_false_iff_ne.2 (by exact_mod_cast hm)
    have Hn2:Away (dvd (xs.take (k+1)) x=false):=⟨by rw[Hs.out,dvd_snoc,Hd.out];simpa using hm⟩
    clear hit hm
    go_wp2_with fail
    go_round
    case rel=>exact⟨k+1,by omega,by go_num,Hn2⟩
    case measure=>simp[intOf];omega
  ·obtain rfl:k=n:=by omega
   have Hh:Away (dvd xs x=false):=⟨by rw[←Hd.out,List.take_of_length_le (by rw[Hn.out];exact Nat.le_refl _)]⟩
   go_wp2_with fail
   go_ret
   exact⟨ret_b Hh.out.symm,rfl⟩
end divided
namespace primes
open Go.RowKit
open primm arr divided
def pv (p:Nat):Value:=.int .i64 (p:Int)
def Holds (w:World) (xs:List Nat) (v:Value) (wr:World):Prop:=
 wr.ownsRow w.heap.size 3 1 v xs.length (xs.map pv)∧Below w.heap.size w wr
theorem holds_start (w:World):Holds w [] (.slice none 0 0) w:=⟨World.ownsRow_nil _ _ _ _,Below.refl _ _⟩
theorem holds_open {w wr:World} {xs:List Nat} {v:Value} (h:Holds w xs v wr):
 (v=.slice none 0 0∧xs=[])∨∃ g cap,v=.slice (some ⟨g,0,none⟩) xs.length cap∧w.heap.size≤g∧g<wr.heap.size∧xs.length≤cap∧∀ j,j<xs.length→wr.cell? ⟨g,j,none⟩=some (.int .i64 (xs.getD j 0:Nat)):=by
 obtain⟨⟨h1,h2⟩,h3⟩:=h
 rcases h2 with ⟨rfl,h0⟩ | ⟨g,cap,cur,rfl,hb,hg,hn,hm,hs,ht⟩
 ·exact .inl ⟨rfl,List.length_eq_zero_iff.1 h0⟩
 ·refine .inr ⟨g,cap,rfl,hb,?_,hn,fun j hj=>?_⟩
  ·by_cases hlt:g<wr.heap.size
   ·exact hlt
   ·rw[Array.getElem?_eq_none (by omega)]at hg;cases hg
  ·rw[cell_of_row wr g j cur _ (0,0) hg]
   have e:cur[j]? = (cur.toList.take (xs.length*1))[j]? := by
    rw[List.getElem?_take_of_lt (by omega)];simp
   rw[e,ht,List.getElem?_map,List.getElem?_eq_getElem hj,List.getD_eq_getElem?_getD,List.getElem?_eq_getElem hj]
   rfl
theorem holds_new {w wr w1:World} {xs:List Nat} {v v':Value} {x:Nat} {o:Obj} (h:Holds w xs v wr) (hown:w1.ownsRow w.heap.size 3 1 v' (xs.length+1) (xs.map pv ++ [.int .i64 (x:Int)])) (hg:(wr.alloc o).grownBy w1 v.ownBlock):
 Holds w (xs ++ [x]) v' w1:=by
 refine⟨?_,?_⟩
 ·rw[List.length_append,List.map_append];exact hown
 ·have hs:=h.2.size
  exact(h.2.alloc hs o).grown hg (by rw[size_alloc];omega) (fun k hk=>(h.1.lt k hk).1)
theorem holds_lt {w wr:World} {xs:List Nat} {v:Value} (h:Holds w xs v wr):w.heap.size≤wr.heap.size:=h.2.size
theorem infoInt:(Tryz.prog.info? 3).map (fun i=>(i.zero,i.size,i.bytes))=some (some (.int .i64 0),1,8):=by kernel_rfl
theorem news_at {w:World} {v:Value} {T:Nat}:∀ j u,[v][j]? = some u→(w.alloc (.cells #[v] T)).cell? ((⟨w.heap.size,0,none⟩:Addr).add j)=some u:=by
 intro j u hj
 match j,hj with
 | 0,hj=>
  simp at hj
  subst hj
  simp[Addr.add]
theorem primes_in (n:Nat) (h1 : 1≤n) (h2:n≤100) (w:World):
 Calls Tryz.prog 60 #[.int .i64 (n:Int)] w fun e w'=>∃ v,e=.returned v∧Holds w (pr (n:Int)) v w':=by
 obtain⟨i0,hi,hz0,hz1,hz2⟩:=info_parts infoInt
 have HI:=Away.mk (And.intro hi (And.intro hz0 (And.intro hz1 hz2)))
 clear hi hz0 hz1 hz2
 have hst:=holds_start w
 rw[←pl_two]at hst
 have Hst:=Away.mk hst
 clear hst
 go_enter Tryz.func60,Tryz.ntmps60
 go_wp2_with fail
 go_loopw [3,4] (fun v i wr=>∃ x:Nat,2≤x∧x≤542∧i=.int .i64 x∧Away (Holds w (pl x) v wr)∧(pl x).length≤n) (fun _ i _=>542-(intOf i).toNat)
 case atStart=>exact⟨2,by decide,by decide,rfl,Hst,by rw[pl_two];exact Nat.zero_le _⟩
 case round=>
  obtain⟨x,hx2,hx5,rfl,hf,hle⟩:=hrel
  clear Hst
  obtain⟨L,HL⟩:=ex_eq (pl x).length
  rw[HL.out]at hle
  by_cases hlt:L<n
  ·have hx:x<542:=pl_room hx5 (by rw[HL.out];omega)
   obtain⟨xs,Hxs⟩:=ex_eq (pl x)
   have Hpos:Away (∀ p∈xs,2≤p∧p≤541):=⟨fun p hp=>pl_pos (x:=x) (by rw[Hxs.out];exact hp)⟩
   rw[Hxs.out]at hf HL
   cases hd:dvd xs x
   ·have Hnew:Away (pl (x+1)=xs ++ [x]):=⟨by rw[pl_new hx2 hx (by rw[Hxs.out];exact hd),Hxs.out]⟩
    have HD:=Away.mk hd
    clear hd
    have hsz:=holds_lt hf.out
    rcases holds_open hf.out with ⟨rfl,rfl⟩ | ⟨g,cap,rfl,hg1,hg2,hcap,hcell⟩
    ·obtain rfl:L=0:=HL.out.symm
     go_wp2_with fail
     refine(divided_nil _ _).mono ?_
     rintro e w0 ⟨rfl,rfl⟩
     go_wp2_with (at_builtin;refine wpList_append_own _ rfl _ _ 59 rfl w.heap.size 3 i0 (.int .i64 0) 1 8 Tryz.underlying59 HI.out.1 HI.out.2.1 HI.out.2.2.1 HI.out.2.2.2 rfl (by decide) _ _ _ rfl (hf.out.1.alloc _) ⟨wr.heap.size,0,none⟩ 1 1 [.int .i64 (x:Int)] rfl rfl news_at (fun u hu=>by simp at hu;subst hu;rfl) (by simp[maxLen]) (by simp) (by simp;omega) ?_)
     intro v' w1 hown' hgrow _
     have R:=holds_new hf.out hown' hgrow
     rw[←Hnew.out]at R
     have HR:=Away.mk R
     clear hown' hgrow R
     go_wp2_with fail
     go_roundw
     case rel=>exact⟨x+1,by omega,by omega,by go_num,HR,by rw[Hnew.out];exact hlt⟩
     case measure=>simp[intOf];omega
    ·rw[HL.out]at hcap hcell ⊢
     have Hown:=Away.mk hf.out.1
     rw[HL.out]at Hown
     have HC:=Away.mk hcell
     clear hcell
     have hL:=pl_le x
     rw[Hxs.out,HL.out]at hL
     go_wp2_with fail
     rw[←HL.out]
     refine(divided_some x g cap xs _ (by omega) (by rw[HL.out];exact hL) Hpos.out (by rw[HL.out];exact HC.out)).mono ?_
     rintro e w0 ⟨rfl,rfl⟩
     rw[HD.out,HL.out]
     go_wp2_with (at_builtin;refine wpList_append_own _ rfl _ _ 59 rfl w.heap.size 3 i0 (.int .i64 0) 1 8 Tryz.underlying59 HI.out.1 HI.out.2.1 HI.out.2.2.1 HI.out.2.2.2 rfl (by decide) _ _ _ rfl (Hown.out.alloc _) ⟨wr.heap.size,0,none⟩ 1 1 [.int .i64 (x:Int)] rfl rfl news_at (fun u hu=>by simp at hu;subst hu;rfl) (by unfold maxLen;omega) (by omega) (by simp;omega) ?_)
     intro v' w1 hown' hgrow _
     rw[←HL.out]at hown' hgrow
     have R:=holds_new hf.out hown' hgrow
     rw[←Hnew.out]at R
     have HR:=Away.mk R
     clear hown' hgrow R
     go_wp2_with fail
     go_roundw
     case rel=>exact⟨x+1,by omega,by omega,by go_num,HR,by rw[Hnew.out,List.length_append,HL.out];exact hlt⟩
     case measure=>simp[intOf];omega
   ·have Hnew:Away (pl (x+1)=xs):=⟨by rw[pl_hit hx2 hx (by rw[Hxs.out];exact hd),Hxs.out]⟩
    have HD:=Away.mk hd
    clear hd
    rcases holds_open hf.out with ⟨rfl,rfl⟩ | ⟨g,cap,rfl,hg1,hg2,hcap,hcell⟩
    ·exact absurd HD.out (by simp[dvd])
    ·rw[HL.out]at hcap hcell hf ⊢
     have HC:=Away.mk hcell
     clear hcell
     have hL:=pl_le x
     rw[Hxs.out,HL.out]at hL
     go_wp2_with fail
     rw[←HL.out]
     refine(divided_some x g cap xs _ (by omega) (by rw[HL.out];exact hL) Hpos.out (by rw[HL.out];exact HC.out)).mono ?_
     rintro e w0 ⟨rfl,rfl⟩
     rw[HD.out,HL.out]
     have R:=hf.out
     rw[←Hnew.out]at R
     have HR:=Away.mk R
     clear R
     go_wp2_with fail
     go_roundw
     case rel=>exact⟨x+1,by omega,by omega,by go_num,HR,by rw[Hnew.out,HL.out];exact hle⟩
     case measure=>simp[intOf];omega
  ·obtain rfl:n=L:=by omega
   have Hpr:Away (pl x=pr (n:Int)):=⟨pr_of hx2 hx5 (by intro _;rw[HL.out];simp) (by intro h;rw[HL.out];omega)⟩
   rw[Hpr.out]at hf HL
   rcases holds_open hf.out with ⟨rfl,hnil⟩ | ⟨g,cap,rfl,hg1,hg2,hcap,hcell⟩
   ·have h0:=HL.out
    rw[hnil]at h0
    simp at h0
    omega
   ·rw[HL.out]at hf ⊢
    clear hcell hcap
    go_wp2_with fail
    go_ret
    exact⟨_,rfl,hf.out⟩
theorem primes_over (n:Int) (h1 : 100<n) (w:World):
 Calls Tryz.prog 60 #[.int .i64 n] w fun e w'=>∃ v,e=.returned v∧Holds w (pr n) v w':=by
 obtain⟨i0,hi,hz0,hz1,hz2⟩:=info_parts infoInt
 have HI:=Away.mk (And.intro hi (And.intro hz0 (And.intro hz1 hz2)))
 clear hi hz0 hz1 hz2
 have hst:=holds_start w
 rw[←pl_two]at hst
 have Hst:=Away.mk hst
 clear hst
 go_enter Tryz.func60,Tryz.ntmps60
 go_wp2_with fail
 go_loopw [3,4] (fun v i wr=>∃ x:Nat,2≤x∧x≤542∧i=.int .i64 x∧Away (Holds w (pl x) v wr)∧(pl x).length≤100) (fun _ i _=>542-(intOf i).toNat)
 case atStart=>exact⟨2,by decide,by decide,rfl,Hst,by rw[pl_two];exact Nat.zero_le _⟩
 case round=>
  obtain⟨x,hx2,hx5,rfl,hf,hle⟩:=hrel
  clear Hst
  obtain⟨L,HL⟩:=ex_eq (pl x).length
  rw[HL.out]at hle
  by_cases hlt:L<100
  ·have hx:x<542:=pl_room hx5 (by rw[HL.out];omega)
   obtain⟨xs,Hxs⟩:=ex_eq (pl x)
   have Hpos:Away (∀ p∈xs,2≤p∧p≤541):=⟨fun p hp=>pl_pos (x:=x) (by rw[Hxs.out];exact hp)⟩
   rw[Hxs.out]at hf HL
   cases hd:dvd xs x
   ·have Hnew:Away (pl (x+1)=xs ++ [x]):=⟨by rw[pl_new hx2 hx (by rw[Hxs.out];exact hd),Hxs.out]⟩
    have HD:=Away.mk hd
    clear hd
    have hsz:=holds_lt hf.out
    rcases holds_open hf.out with ⟨rfl,rfl⟩ | ⟨g,cap,rfl,hg1,hg2,hcap,hcell⟩
    ·obtain rfl:L=0:=HL.out.symm
     go_wp2_with fail
     refine(divided_nil _ _).mono ?_
     rintro e w0 ⟨rfl,rfl⟩
     go_wp2_with (at_builtin;refine wpList_append_own _ rfl _ _ 59 rfl w.heap.size 3 i0 (.int .i64 0) 1 8 Tryz.underlying59 HI.out.1 HI.out.2.1 HI.out.2.2.1 HI.out.2.2.2 rfl (by decide) _ _ _ rfl (hf.out.1.alloc _) ⟨wr.heap.size,0,none⟩ 1 1 [.int .i64 (x:Int)] rfl rfl news_at (fun u hu=>by simp at hu;subst hu;rfl) (by simp[maxLen]) (by simp) (by simp;omega) ?_)
     intro v' w1 hown' hgrow _
     have R:=holds_new hf.out hown' hgrow
     rw[←Hnew.out]at R
     have HR:=Away.mk R
     clear hown' hgrow R
     go_wp2_with fail
     go_roundw
     case rel=>exact⟨x+1,by omega,by omega,by go_num,HR,by rw[Hnew.out];exact hlt⟩
     case measure=>simp[intOf];omega
    ·rw[HL.out]at hcap hcell ⊢
     have Hown:=Away.mk hf.out.1
     rw[HL.out]at Hown
     have HC:=Away.mk hcell
     clear hcell
     have hL:=pl_le x
     rw[Hxs.out,HL.out]at hL
     go_wp2_with fail
     rw[←HL.out]
     refine(divided_some x g cap xs _ (by omega) (by rw[HL.out];exact hL) Hpos.out (by rw[HL.out];exact HC.out)).mono ?_
     rintro e w0 ⟨rfl,rfl⟩
     rw[HD.out,HL.out]
     go_wp2_with (at_builtin;refine wpList_append_own _ rfl _ _ 59 rfl w.heap.size 3 i0 (.int .i64 0) 1 8 Tryz.underlying59 HI.out.1 HI.out.2.1 HI.out.2.2.1 HI.out.2.2.2 rfl (by decide) _ _ _ rfl (Hown.out.alloc _) ⟨wr.heap.size,0,none⟩ 1 1 [.int .i64 (x:Int)] rfl rfl news_at (fun u hu=>by simp at hu;subst hu;rfl) (by unfold maxLen;omega) (by omega) (by simp;omega) ?_)
     intro v' w1 hown' hgrow _
     rw[←HL.out]at hown' hgrow
     have R:=holds_new hf.out hown' hgrow
     rw[←Hnew.out]at R
     have HR:=Away.mk R
     clear hown' hgrow R
     go_wp2_with fail
     go_roundw
     case rel=>exact⟨x+1,by omega,by omega,by go_num,HR,by rw[Hnew.out,List.length_append,HL.out];exact hlt⟩
     case measure=>simp[intOf];omega
   ·have Hnew:Away (pl (x+1)=xs):=⟨by rw[pl_hit hx2 hx (by rw[Hxs.out];exact hd),Hxs.out]⟩
    have HD:=Away.mk hd
    clear hd
    rcases holds_open hf.out with ⟨rfl,rfl⟩ | ⟨g,cap,rfl,hg1,hg2,hcap,hcell⟩
    ·exact absurd HD.out (by simp[dvd])
    ·rw[HL.out]at hcap hcell hf ⊢
     have HC:=Away.mk hcell
     clear hcell
     have hL:=pl_le x
     rw[Hxs.out,HL.out]at hL
     go_wp2_with fail
     rw[←HL.out]
     refine(divided_some x g cap xs _ (by omega) (by rw[HL.out];exact hL) Hpos.out (by rw[HL.out];exact HC.out)).mono ?_
     rintro e w0 ⟨rfl,rfl⟩
     rw[HD.out,HL.out]
     have R:=hf.out
     rw[←Hnew.out]at R
     have HR:=Away.mk R
     clear R
     go_wp2_with fail
     go_roundw
     case rel=>exact⟨x+1,by omega,by omega,by go_num,HR,by rw[Hnew.out,HL.out];exact hle⟩
     case measure=>simp[intOf];omega
  ·obtain rfl:L=100:=by omega
   have Hpr:Away (pl x=pr n):=⟨pr_of hx2 hx5 (by intro _;rw[HL.out];omega) (by intro h;rw[HL.out])⟩
   rw[Hpr.out]at hf HL
   rcases holds_open hf.out with ⟨rfl,hnil⟩ | ⟨g,cap,rfl,hg1,hg2,hcap,hcell⟩
   ·have h0:=HL.out
    rw[hnil]at h0
    simp at h0
   ·rw[HL.out]at hf ⊢
    clear hcell hcap
    go_wp2_with fail
    go_ret
    exact⟨_,rfl,hf.out⟩
theorem primes_low (n:Int) (w:World) (h:n≤0):
 Calls Tryz.prog 60 #[.int .i64 n] w fun e w'=>∃ v,e=.returned v∧Holds w (pr n) v w':=by
 have hp:pr n=[]:=by unfold pr;rw[show n.toNat=0 by omega];rfl
 have hst:=holds_start w
 rw[←hp]at hst
 have Hst:=Away.mk hst
 clear hst hp
 go_enter Tryz.func60,Tryz.ntmps60
 go_wp2_with fail
 refine wp_loop_rounds 1 ?_
 rw[rounds_succ]
 go_wp2_with fail
 go_ret
 exact⟨_,rfl,Hst.out⟩
theorem primes_any (n:Int) (w:World):
 Calls Tryz.prog 60 #[.int .i64 n] w fun e w'=>∃ v,e=.returned v∧Holds w (pr n) v w':=by
 by_cases h:n≤0
 ·exact primes_low n w h
 by_cases h1 : 100<n
 ·exact primes_over n h1 w
 obtain⟨m,rfl⟩:=Int.eq_ofNat_of_zero_le (show 0≤n by omega)
 exact primes_in m (by omega) (by omega) w
end primes
namespace make
open Go.RowKit
open tabd primm tabt arr tabv built root primes
structure Pc (gp n g:Nat) (wr:World):Prop where
 cs:∀ j,j<n→wr.cell? ⟨gp,j,none⟩=some (.int .i64 (ph.getD j 0:Nat))
 ne:gp≠g
 lt:gp<wr.heap.size
theorem Pc.call {gp n g:Nat} {wr w1:World} (h:Pc gp n g wr) (hb:Below wr.heap.size wr w1):Pc gp n g w1:=
 ⟨fun j hj=>(hb.cell (p:=⟨gp,j,none⟩) h.lt).trans (h.cs j hj),h.ne,Nat.lt_of_lt_of_le h.lt hb.size⟩
theorem Pc.set {gp n g:Nat} {wr:World} (h:Pc gp n g wr) (a:Nat) (v:Value):Pc gp n g (wr.setCell ⟨g,a,none⟩ v):=
 ⟨fun j hj=>by rw[World.cell?_setCell_other _ _ _ _ (by intro e;injection e with e1;exact h.ne e1.symm)];exact h.cs j hj,h.ne,by rw[size_setCell];exact h.lt⟩
theorem ph_get_le (j:Nat):ph.getD j 0≤541:=by
 rw[List.getD_eq_getElem?_getD]
 by_cases h:j<ph.length
 ·rw[List.getElem?_eq_getElem h];exact(ph_pos _ (List.getElem_mem h)).2
 ·rw[List.getElem?_eq_none (by omega)];decide
theorem rootV_at (j:Nat) (k:Nat) (hk:k=2∨k=3):rootV ((ph.getD j 0:Nat):Int) (k:Int)=rootN (ph.getD j 0) k%18446744073709551616:=by
 have:=ph_get_le j
 unfold rootV
 rw[if_neg (by omega),Int.toNat_natCast,Int.toNat_natCast]
theorem rootV_3 (j:Nat):rootV ((ph.getD j 0:Nat):Int) 3=r3 j:=rootV_at j 3 (.inr rfl)
theorem rootV_2 (j:Nat):rootV ((ph.getD j 0:Nat):Int) 2=r2 j:=rootV_at j 2 (.inl rfl)
theorem pc_of {w wr:World} {n:Nat} {v:Value} {g:Nat} (hn:n≤100) (h0 : 0<n) (h:Holds w (pr (n:Int)) v wr) (hg:g<w.heap.size):∃ gp cap,v=.slice (some ⟨gp,0,none⟩) n cap∧Pc gp n g wr∧n≤cap:=by
 have hl:(pr (n:Int)).length=n:=by unfold pr;rw[Int.toNat_natCast,List.length_take,ph_length];omega
 rcases holds_open h with ⟨-,h1⟩ | ⟨gp,cap,rfl,h1,h2,h3,h4⟩
 ·rw[h1]at hl;simp at hl;omega
 ·rw[hl]at h3 h4 ⊢
  refine⟨gp,cap,rfl,⟨fun j hj=>?_,by omega,h2⟩,h3⟩
  rw[h4 j hj]
  unfold pr
  rw[Int.toNat_natCast,List.getD_eq_getElem?_getD,List.getElem?_take_of_lt hj,←List.getD_eq_getElem?_getD]
theorem ms_start {w w3:World} {C Z:Array Value} (hZ:Z.size=465) (hz:w3.heap[w.heap.size]? = some (.cells Z 34 (0,0))) (hlt:w.heap.size<w3.heap.size) (hb:Below w.heap.size w w3) (hC:C.size=465)
 (c1:∀ j,j<24→C[160+j]? = (LK .u64 (rl 168))[j]?) (c2:∀ j,j<25→C[184+j]? = (LK .i64 (tl 24))[j]?) (c3:∀ j,j<256→C[209+j]? = (LK .i64 (zl 256))[j]?):
 Ms 34 w w3.heap.size (fun i=>160≤i) (w3.alloc (.cells C 34)):=by
 have hg:=heap_at w3 (.cells C 34) _ rfl
 have hc:∀ i,i<465→(w3.alloc (.cells C 34)).cell? ⟨w3.heap.size,i,none⟩=C[i]? := fun i _=>cell_of_row _ _ i C _ (0,0) hg
 refine⟨⟨Z,hZ,by rw[heap_past _ _ _ hlt];exact hz⟩,fun i hi=>⟨⟨C[i],by rw[hc i hi,Array.getElem?_eq_getElem (by omega)]⟩,frozen_of_row _ _ i C _ hg⟩,fun i hi hS=>?_,⟨hlt,by simp⟩,hb.alloc (by omega) _⟩
 rw[hc i hi]
 by_cases h1:i<184
 ·obtain⟨j,rfl⟩:∃ j,i=160+j:=⟨i-160,by omega⟩
  rw[c1 j (by omega),tv_rounds j (by omega),lk_get _ _ _ (by rw[rl_length];omega)]
 by_cases h2:i<209
 ·obtain⟨j,rfl⟩:∃ j,i=184+j:=⟨i-184,by omega⟩
  rw[c2 j (by omega),tv_turns j (by omega),lk_get _ _ _ (by rw[tl_length];omega)]
 ·obtain⟨j,rfl⟩:∃ j,i=209+j:=⟨i-209,by omega⟩
  rw[c3 j (by omega),tv_zetas j (by omega),lk_get _ _ _ (by rw[zl_length];omega)]
def S1 (k i:Nat):Prop:=160≤i∨(72≤i∧i<72+k)
def S2 (k i:Nat):Prop:=160≤i∨(72≤i∧i<152)∨i<k
def S3 (k i:Nat):Prop:=160≤i∨(72≤i∧i<152)∨i<64∨(152≤i∧i<152+k)∨(64≤i∧i<64+k)
theorem make_any (w:World):
 Calls Tryz.prog 16 #[] w fun e w'=>e=.returned (.agg TA)∧Below w.heap.size w w':=by
 obtain⟨hz,hsize⟩:=zero_of_info infoT
 obtain⟨Z,HZ⟩:=ex_eq TZ
 rw[HZ.out]at hz
 have HZs:Away (Z.size=465):=⟨by rw[←HZ.out];exact tz_size⟩
 have Hsize:=Away.mk hsize
 clear hsize
 obtain⟨R,HR⟩:=ex_eq (LK .u64 (rl 168))
 obtain⟨U,HU⟩:=ex_eq (LK .i64 (tl 24))
 obtain⟨V,HV⟩:=ex_eq (LK .i64 (zl 256))
 obtain⟨C,hC,hCs,c1,c2,c3,hC1⟩:=built_tables R U V (by rw[←HR.out,lk_size,rl_length]) (by rw[←HU.out,lk_size,tl_length]) (by rw[←HV.out,lk_size,zl_length]) (by rw[←HR.out];exact lk_one _ _) (by rw[←HU.out];exact lk_one _ _) (by rw[←HV.out];exact lk_one _ _)
 have HC:=Away.mk hC
 have HCs:=Away.mk hCs
 have HCC:=Away.mk (And.intro c1 (And.intro c2 c3))
 have HC1:=Away.mk hC1
 clear hC hCs c1 c2 c3 hC1
 go_enter Tryz.func16,Tryz.ntmps16
 go_wp2_with fail
 refine(rounds.rounds_any _).mono ?_
 rintro e w1 ⟨rfl,hb1⟩
 rw[HR.out]
 go_wp2_with fail
 refine(turns.turns_any _).mono ?_
 rintro e w2 ⟨rfl,hb2⟩
 rw[HU.out]
 go_wp2_with fail
 refine(zetas.zetas_any _).mono ?_
 rintro e w3 ⟨rfl,hb3⟩
 rw[HV.out]
 have hbA:Below (w.alloc (.cells Z 34)).heap.size (w.alloc (.cells Z 34)) w3:=(hb1.trans (hb2.mono hb1.size)).trans (hb3.mono (Nat.le_trans hb1.size hb2.size))
 have hz3:=(hbA.block w.heap.size (by simp)).trans (heap_at w (.cells Z 34) _ rfl)
 have hlt3:w.heap.size<w3.heap.size:=by have:=hbA.size;simp at this;omega
 have hb4:Below w.heap.size w w3:=((Below.refl _ _).alloc (Nat.le_refl _) _).trans (hbA.mono (by simp))
 have Hms:=Away.mk (ms_start HZs.out hz3 hlt3 hb4 HCs.out (by rw[HR.out];exact HCC.out.1) (by rw[HU.out];exact HCC.out.2.1) (by rw[HV.out];exact HCC.out.2.2))
 clear hb1 hb2 hb3 hbA hz3 hb4 HCC
 go_wp2_with (first | (refine wpList_build3 rfl 34 4 5 6 _ _ _ rfl (.agg R) (.agg U) (.agg V) rfl rfl rfl C HC.out ?_) | (refine wpList_store_new rfl 34 _ _ rfl _ rfl rfl (by rw[HCs.out];exact Hsize.out) (by rw[HCs.out];exact HZs.out) HC1.out rfl ?_))
 clear hz
 refine(primes_any 80 _).mono ?_
 rintro e w5 ⟨v,rfl,hh⟩
 obtain⟨gp,cap,rfl,hpc,hcap⟩:=pc_of (n:=80) (g:=w3.heap.size) (by decide) (by decide) hh (by simp)
 have Hms5:Away (Ms 34 w w3.heap.size (S1 0) w5):=⟨(Hms.out.call hh.2).mono (by unfold S1;omega)⟩
 have Hpc:=Away.mk hpc
 obtain⟨g,Hg⟩:=ex_eq w3.heap.size
 rw[Hg.out]at Hms5 Hpc hlt3 ⊢
 clear hh hpc Hms HC HCs HC1
 go_wp2_with fail
 go_loopw [13] (fun i wr=>∃ k:Nat,k≤80∧i=.int .i64 k∧Away (Ms 34 w g (S1 k) wr)∧Away (Pc gp 80 g wr)) (fun i _=>80-(intOf i).toNat)
 case atStart=>exact⟨0,by decide,rfl,Hms5,Hpc⟩
 case round=>
  obtain⟨k,hk,rfl,Hm,Hp⟩:=hrel
  clear Hms5 Hpc
  by_cases hlt:k<80
  ·have hpk:=Hp.out.cs k hlt
   have Hr:=Away.mk (rootV_3 k)
   obtain⟨q,hq⟩:∃ q,ph.getD k 0=q:=⟨_,rfl⟩
   rw[hq]at hpk Hr
   clear hq
   go_wp2_with fail
   refine(root_any q 3 _).mono ?_
   rintro e w6 ⟨rfl,hb6⟩
   rw[Hr.out]
   have Hm6:=Away.mk (Hm.out.call hb6)
   have Hp6:=Away.mk (Hp.out.call hb6)
   obtain⟨⟨old,hold⟩,hfz⟩:=Hm6.out.th (72+k) (by omega)
   have Hset:=Away.mk (Hm6.out.set (72+k) (by omega) (tv_large k hlt).symm)
   clear hb6 hpk
   go_wp2_with fail
   go_roundw
   case rel=>exact⟨k+1,by omega,by go_num,⟨Hset.out.mono (by unfold S1;omega)⟩,⟨Hp6.out.set _ _⟩⟩
   case measure=>simp[intOf];omega
  ·obtain rfl:k=80:=by omega
   have Hm2:Away (Ms 34 w g (S2 0) wr):=⟨Hm.out.mono (by unfold S1 S2;omega)⟩
   clear Hm Hp
   go_wp2_with fail
   go_loopw [24] (fun i wr=>∃ k:Nat,k≤64∧i=.int .i64 k∧Away (Ms 34 w g (S2 k) wr)) (fun i _=>64-(intOf i).toNat)
   case atStart=>exact⟨0,by decide,rfl,Hm2⟩
   case round=>
    obtain⟨k,hk,rfl,Hm⟩:=hrel
    clear Hm2
    by_cases hlt:k<64
    ·have hread:=Hm.out.vs (72+k) (by omega) (by unfold S2;omega)
     rw[tv_large k (by omega)]at hread
     obtain⟨⟨old,hold⟩,hfz⟩:=Hm.out.th k (by omega)
     have Hset:=Away.mk (Hm.out.set k (by omega) (v:=.int .u32 (((r3 k:Nat):Int) / 4294967296)) (by rw[tv_small k hlt];exact val_int (by omega)))
     have hr:=r3_lt k
     obtain⟨a,ha⟩:∃ a,r3 k=a:=⟨_,rfl⟩
     rw[ha]at hread Hset hr
     clear ha
     go_wp2_with fail
     go_roundw
     case rel=>exact⟨k+1,by omega,by go_num,⟨Hset.out.mono (by unfold S2;omega)⟩⟩
     case measure=>simp[intOf];omega
    ·obtain rfl:k=64:=by omega
     go_wp2_with fail
     refine(primes_any 8 _).mono ?_
     rintro e w5 ⟨v,rfl,hh⟩
     obtain⟨gp,cap,rfl,hpc,hcap⟩:=pc_of (n:=8) (g:=g) (by decide) (by decide) hh Hm.out.lt.2
     have Hms5:Away (Ms 34 w g (S3 0) w5):=⟨(Hm.out.call hh.2).mono (by unfold S2 S3;omega)⟩
     have Hpc:=Away.mk hpc
     clear hh hpc Hm
     go_wp2_with fail
     go_loopw [39] (fun i wr=>∃ k:Nat,k≤8∧i=.int .i64 k∧Away (Ms 34 w g (S3 k) wr)∧Away (Pc gp 8 g wr)) (fun i _=>8-(intOf i).toNat)
     case atStart=>exact⟨0,by decide,rfl,Hms5,Hpc⟩
     case round=>
      obtain⟨k,hk,rfl,Hm,Hp⟩:=hrel
      clear Hms5 Hpc
      by_cases hlt:k<8
      ·have hpk:=Hp.out.cs k hlt
       have Hr:=Away.mk (rootV_2 k)
       obtain⟨q,hq⟩:∃ q,ph.getD k 0=q:=⟨_,rfl⟩
       rw[hq]at hpk Hr
       clear hq
       go_wp2_with fail
       refine(root_any q 2 _).mono ?_
       rintro e w6 ⟨rfl,hb6⟩
       rw[Hr.out]
       have Hm6:=Away.mk (Hm.out.call hb6)
       have Hp6:=Away.mk (Hp.out.call hb6)
       obtain⟨⟨old,hold⟩,hfz⟩:=Hm6.out.th (152+k) (by omega)
       obtain⟨⟨old2,hold2⟩,hfz2⟩:=Hm6.out.th (64+k) (by omega)
       have Hset:=Away.mk ((Hm6.out.set (152+k) (by omega) (tv_lstart k hlt).symm).set (64+k) (by omega) (v:=.int .u32 (((r2 k:Nat):Int) / 4294967296)) (by rw[tv_sstart k hlt];exact val_int (by omega)))
       have hr:=r2_lt k
       obtain⟨a,ha⟩:∃ a,r2 k=a:=⟨_,rfl⟩
       rw[ha]at Hset hr ⊢
       have hn:=World.cell?_setCell_same w6 ⟨g,152+k,none⟩ (.int .u64 (a:Int)) hold
       have hn2:(w6.setCell ⟨g,152+k,none⟩ (.int .u64 (a:Int))).cell? ⟨g,64+k,none⟩=some old2:=by
        rw[World.cell?_setCell_other _ _ _ _ (by intro e2;injection e2;omega)];exact hold2
       clear hb6 hpk ha
       go_wp2_with fail
       go_roundw
       case rel=>exact⟨k+1,by omega,by go_num,⟨Hset.out.mono (by unfold S3;omega)⟩,⟨(Hp6.out.set _ _).set _ _⟩⟩
       case measure=>simp[intOf];omega
      ·obtain rfl:k=8:=by omega
       have hall:∀ i,i<465→S3 8 i:=by unfold S3;omega
       have hrg:=Hm.out.range hall
       obtain⟨Z0,hZ0,hz0⟩:=Hm.out.z
       have HZ0:=Away.mk hZ0
       have Hb:=Away.mk Hm.out.be
       obtain⟨T,HT⟩:=ex_eq TA
       have Hts:Away (T.size=465):=⟨by rw[←HT.out];exact ta_size⟩
       have Hto:Away (T.all (·.oneCell')=true):=⟨by rw[←HT.out];exact ta_one⟩
       rw[HT.out]at hrg
       clear hall Hm Hp hZ0
       go_wp2_with (first | (refine wpList_load_mid rfl 34 _ rfl g 0 rfl T.toList _ hrg Tryz.underlying34 rfl (by rw[Array.length_toList,Hts.out];exact Hsize.out) ?_) | (refine wpList_store_row rfl 34 _ _ rfl _ T rfl (by simp[go_sem]) 34 _ hz0 (by rw[Hts.out];exact Hsize.out) (by rw[Hts.out];exact HZ0.out) Hto.out ?_))
       refine bodyPost_ret_by (v:=.agg T) (results_cell_row rfl _ _ w.heap.size 34 _ (0,0) _ rfl (setRow_heap _ _ _ _ _ _ hz0) Tryz.underlying34 rfl (by rw[Hts.out];exact Hsize.out)) rfl ?_
       exact⟨by rw[HT.out],Hb.out.trans (below_setRow _ _ _ (Nat.le_refl _))⟩
end make
end Go.Proofs.YtomphjajkkddkaaGreatDoor
