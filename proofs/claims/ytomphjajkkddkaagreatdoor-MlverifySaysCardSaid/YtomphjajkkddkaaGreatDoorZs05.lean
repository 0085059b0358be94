/-
  The tables that the document asks for, as the cells of one block, and what a block keeps while they 
-/
import Derived.Test.YtomphjajkkddkaaGreatDoorProg
import Derived.Test.YtomphjajkkddkaaGreatDoorZs01
import Derived.Test.YtomphjajkkddkaaGreatDoorZs02
import Derived.Test.YtomphjajkkddkaaGreatDoorZs04
import Derived.WalkKit
import Derived.WalkSpells
import Derived.WalkLawsBesides
import Derived.Lib.Hide
import Derived.IntWalk
import Derived.Laws.BitsLemmas
import Derived.RegionTactic
import Derived.BigRegion
set_option maxRecDepth 100000
set_option maxHeartbeats 16000000
set_option linter.unusedSimpArgs false
set_option linter.unusedVariables false
open Go Go.RowKit
open Go renaming World->G,Calls->aD,Value->aE,TypeId->aH,Program->aI
open Go.RowKit renaming Below->aF,intOf->aG
open Go.Value renaming int->O,agg->I,slice->aB
open Go.IntKind renaming i64->J
open Go.Obj renaming cells->Y
open Go.Proofs.Tryz renaming prog->aO
namespace Go.Proofs.YtomphjajkkddkaaGreatDoor
abbrev jC:=@Go.results_cell_row
abbrev jI:=@Go.Calls.regrown_of
abbrev kH:=@Go.wpList_append_own
abbrev kY:=@Go.wpQuiet_nil
abbrev lS:=@Go.Lib.hid
abbrev mE:=@Go.wpList_load_mid
abbrev mZ:=@Go.World.cell?_setCell_other
abbrev nQ:=@Go.World.cell?_setCell_same
abbrev oN:=@Go.below_drewN
namespace tabv
open Go.RowKit
open tabm tabd primm fB arr
def r3(j:Nat):Nat:=rootN (ph.getD j 0) 3%18446744073709551616
def r2(j:Nat):Nat:=rootN (ph.getD j 0) 2%18446744073709551616
def tv(i:Nat):aE:=
 if i<64 then O .u32 ((r3 i / 4294967296:Nat):Int)
 else if i<72 then O .u32 ((r2 (i-64) / 4294967296:Nat):Int)
 else if i<152 then O .u64 ((r3 (i-72):Nat):Int)
 else if i<160 then O .u64 ((r2 (i-152):Nat):Int)
 else if i<184 then O .u64 (((rl 168).getD (i-160) 0:Nat):Int)
 else if i<209 then O J (((tl 24).getD (i-184) 0:Nat):Int)
 else O J (((zl 256).getD (i-209) 0:Nat):Int)
def TA:Array aE:=((List.range 465).map tv).toArray
theorem xdn:TA.size=465:=by simp[TA]
theorem xju(i:Nat)(h:i<465):TA[i]? = some (tv i):=by simp[TA,h]
theorem tv_one(i:Nat):(tv i).oneCell'=true:=by
 unfold tv;repeat' split
 all_goals rfl
theorem xgd:TA.all (·.oneCell')=true:=by
 rw[kM];intro v hv;simp only[TA,List.mem_toArray,nY]at hv;obtain⟨i,-,rfl⟩:=hv;exact tv_one i
theorem r3_lt(j:Nat):r3 j<18446744073709551616:=kB _ (by decide)
theorem r2_lt(j:Nat):r2 j<18446744073709551616:=kB _ (by decide)
theorem xr9(j:Nat)(h:j<64):tv j=O .u32 ((r3 j / 4294967296:Nat):Int):=by unfold tv;rw[iP h]
theorem xsa(j:Nat)(h:j<8):tv (64+j)=O .u32 ((r2 j / 4294967296:Nat):Int):=by
 unfold tv;rw[iQ (by omega),iP (by omega),show 64+j-64=j by omega]
theorem xm4(j:Nat)(h:j<80):tv (72+j)=O .u64 ((r3 j:Nat):Int):=by
 unfold tv;rw[iQ (by omega),iQ (by omega),iP (by omega),show 72+j-72=j by omega]
theorem xr8(j:Nat)(h:j<8):tv (152+j)=O .u64 ((r2 j:Nat):Int):=by
 unfold tv;rw[iQ (by omega),iQ (by omega),iQ (by omega),iP (by omega),show 152+j-152=j by omega]
theorem xm5(j:Nat)(h:j<24):tv (160+j)=O .u64 (((rl 168).getD j 0:Nat):Int):=by
 unfold tv;rw[iQ (by omega),iQ (by omega),iQ (by omega),iQ (by omega),iP (by omega),show 160+j-160=j by omega]
theorem xm6(j:Nat)(h:j<25):tv (184+j)=O J (((tl 24).getD j 0:Nat):Int):=by
 unfold tv;rw[iQ (by omega),iQ (by omega),iQ (by omega),iQ (by omega),iQ (by omega),iP (by omega),show 184+j-184=j by omega]
theorem xm7(j:Nat)(_h:j<256):tv (209+j)=O J (((zl 256).getD j 0:Nat):Int):=by
 unfold tv;rw[iQ (by omega),iQ (by omega),iQ (by omega),iQ (by omega),iQ (by omega),iQ (by omega),show 209+j-209=j by omega]
structure Ms (T:aH) (w:G) (g:Nat) (S:Nat->Prop) (wr:G):Prop where
 z:∃ Z:Array aE,Z.size=465/\wr.heap[w.heap.size]? = some (Y Z T (0,0))
 th:∀ i,i<465->(∃ v,wr.cell? ⟨g,i,none⟩=some v)/\wr.frozen? ⟨g,i,none⟩=false
 vs:∀ i,i<465->S i->wr.cell? ⟨g,i,none⟩=some (tv i)
 lt:w.heap.size<g/\g<wr.heap.size
 be:zb w wr
theorem Ms.lt0{T:aH}{w wr:G}{g:Nat}{S:Nat->Prop}(h:Ms T w g S wr):w.heap.size<wr.heap.size:=nP h.lt.1 h.lt.2
theorem Ms.call{T:aH}{w wr w1:G}{g:Nat}{S:Nat->Prop}(h:Ms T w g S wr)(hb:zb wr w1):Ms T w g S w1:=by
 have h0:=h.lt0;obtain⟨⟨Z,hz,h1⟩,h2,h3,h4,h5⟩:=h;have hs:=hb.size;exact⟨⟨Z,hz,(hb.block _ h0).trans h1⟩,fun i hi=>⟨by rw[hb.cell (p:=⟨g,i,none⟩) h4.2];exact(h2 i hi).1,by rw[hb.frozen (p:=⟨g,i,none⟩) h4.2];exact(h2 i hi).2⟩,
  fun i hi hS=>by rw[hb.cell (p:=⟨g,i,none⟩) h4.2];exact h3 i hi hS,⟨h4.1,by omega⟩,h5.trans (hb.mono (by omega))⟩
theorem Ms.mono{T:aH}{w wr:G}{g:Nat}{S S':Nat->Prop}(h:Ms T w g S wr)(hS:∀ i,i<465->S' i->S i):Ms T w g S' wr:=
 ⟨h.z,h.th,fun i hi h'=>h.vs i hi (hS i hi h'),h.lt,h.be⟩
theorem size_setCell(w:G)(a:Addr)(v:aE):(w.setCell a v).heap.size=w.heap.size:=by simp[World.setCell]
theorem Ms.set{T:aH}{w wr:G}{g:Nat}{S:Nat->Prop}(h:Ms T w g S wr)(a:Nat)(ha:a<465){v:aE}(hv:v=tv a):Ms T w g (fun i=>S i\/i=a) (wr.setCell ⟨g,a,none⟩ v):=by
 subst hv;obtain⟨⟨Z,hz,h1⟩,h2,h3,h4,h5⟩:=h;obtain⟨⟨old,hold⟩,-⟩:=h2 a ha;refine⟨⟨Z,hz,by rw[Below.heap_setCell _ _ _ _ (by show w.heap.size≠g;omega)];exact h1⟩,fun i hi=>⟨?_,by rw[World.frozen?_setCell];exact(h2 i hi).2⟩,fun i hi hS=>?_,⟨h4.1,by rw[size_setCell];exact h4.2⟩,h5.setCell (by show w.heap.size<=g;omega) _⟩
 ·by_cases e:a=i
  ·subst e;exact⟨_,nQ _ _ _ hold⟩
  ·rw[mZ _ _ _ _ (by intro e2;injection e2;omega)];exact(h2 i hi).1
 ·by_cases e:a=i
  ·subst e;exact nQ _ _ _ hold
  ·rw[mZ _ _ _ _ (by intro e2;injection e2;omega)];exact h3 i hi (hS.elim id fun h=>by omega)
theorem size_setCells(b:Nat):∀ (vs:List aE) (o:Nat) (w:G),(w.setCells b o vs).heap.size=w.heap.size
 | [],_,_=>rfl
 | v :: r,o,w=>by rw[World.setCells,size_setCells b r,size_setCell]
theorem below_setCells{B b:Nat}(hB:B<=b):∀ (vs:List aE) (o:Nat) (w:G),aF B w (w.setCells b o vs)
 | [],_,w=>iR _ _
 | v :: r,o,w=>by
  rw[World.setCells];exact((iR B w).setCell (p:=⟨b,o,none⟩) hB v).trans (below_setCells hB r _ _)
theorem Ms.sets{T:aH}{w wr:G}{g:Nat}{S:Nat->Prop}(h:Ms T w g S wr)(o:Nat)(vs:List aE)(ho:o+vs.length<=465)(hv:∀ j (hj:j<vs.length),vs[j]=tv (o+j)):
 Ms T w g (fun i=>S i\/(o<=i/\i<o+vs.length)) (wr.setCells g o vs):=by
 obtain⟨⟨Z,hz,h1⟩,h2,h3,h4,h5⟩:=h;have hin:=fun j hj=>World.cell?_setCells_in g vs o wr (fun i hi=>by obtain⟨⟨v,hv⟩,-⟩:=h2 (o+i) (by omega);rw[hv];rfl) j hj
 have hout:∀ i,i<o\/o+vs.length<=i->(wr.setCells g o vs).cell? ⟨g,i,none⟩=wr.cell? ⟨g,i,none⟩:=fun i hi=>World.cell?_setCells_out g vs o wr ⟨g,i,none⟩ (fun _ _=>hi)
 refine⟨⟨Z,hz,by rw[(below_setCells (B:=g) (iM _) vs o wr).block _ h4.1];exact h1⟩,fun i hi=>⟨?_,by rw[World.frozen?_setCells];exact(h2 i hi).2⟩,fun i hi hS=>?_,⟨h4.1,by rw[size_setCells];exact h4.2⟩,h5.trans (below_setCells (by omega) vs o wr)⟩
 ·by_cases e:o<=i/\i<o+vs.length
  ·have:=hin (i-o) (by omega);rw[show o+(i-o)=i by omega]at this;exact⟨_,this⟩
  ·rw[hout i (by omega)];exact(h2 i hi).1
 ·by_cases e:o<=i/\i<o+vs.length
  ·have:=hin (i-o) (by omega);rw[hv (i-o) (by omega),show o+(i-o)=i by omega]at this;exact this
  ·rw[hout i (by omega)];exact h3 i hi (hS.elim id fun h=>by omega)
theorem xo2(k:IntKind)(ds:List Nat)(j:Nat)(hj:j<(LK k ds).toList.length):(LK k ds).toList[j]=.int k (ds.getD j 0:Nat):=by
 have hd:j<ds.length:=by simpa [LK] using hj
 simp only[LK,List.getElem_map,iO,iT hd,Option.getD_some]
theorem Ms.range{T:aH}{w wr:G}{g:Nat}{S:Nat->Prop}(h:Ms T w g S wr)(hS:∀ i,i<465->S i):wr.rangeAt g 0 TA.toList:=fun j v hv=>by
 rw[Array.getElem?_toList]at hv;have hj:j<465:=by
  by_cases hlt:j<465
  ·exact hlt
  ·rw[lH (by rw[xdn];omega)]at hv;cases hv
 rw[xju j hj]at hv;rw[kP,h.vs j hj (hS j hj),hv]
end tabv
namespace built
open Go.RowKit
open fB arr tabv
def put(cs:Array aE)(off:Nat)(vs:Array aE):Array aE:=vs.zipIdx.foldl (fun cs (c,j)=>cs.setIfInBounds (off+j) c) cs
theorem xk4(off:Nat):∀ (l:List aE) (k:Nat) (cs:Array aE),((l.zipIdx k).foldl (fun cs (c,j)=>cs.setIfInBounds (off+j) c) cs).size=cs.size/\∀ i,i<cs.size->((l.zipIdx k).foldl (fun cs (c,j)=>cs.setIfInBounds (off+j) c) cs)[i]? = if off+k<=i/\i<off+k+l.length then l[i-(off+k)]? else cs[i]?
 | [],k,cs=>⟨rfl,fun i hi=>by rw[iQ (by simp<;>omega)];rfl⟩
 | v :: r,k,cs=>by
  obtain⟨h1,h2⟩:=xk4 off r (k+1) (cs.setIfInBounds (off+k) v);simp only[List.zipIdx_cons,List.foldl_cons];refine⟨by rw[h1];simp,fun i hi=>?_⟩;rw[h2 i (by simpa using hi)];simp only[mF];by_cases e:off+k=i
  ·subst e;rw[iQ (by omega),iP (by omega),mW];simp[hi]
  ·by_cases h:off+(k+1)<=i/\i<off+(k+1)+r.length
   ·rw[iP h,iP (by omega),show i-(off+k)=(i-(off+(k+1)))+1 by omega,jF]
   ·rw[iQ h,iQ (by omega),Array.getElem?_setIfInBounds,iQ e]
theorem xc6(cs:Array aE)(off:Nat)(vs:Array aE):(put cs off vs).size=cs.size:=by
 unfold put;rw[<-Array.foldl_toList,Array.toList_zipIdx];exact(xk4 off vs.toList 0 cs).1
theorem xe6(cs:Array aE)(off:Nat)(vs:Array aE)(i:Nat)(hi:i<cs.size):(put cs off vs)[i]? = if off<=i/\i<off+vs.size then vs[i-off]? else cs[i]? := by
 unfold put;rw[<-Array.foldl_toList,Array.toList_zipIdx,(xk4 off vs.toList 0 cs).2 i hi];simp
theorem xk2{place:Nat->Option (Nat × Nat)}{cells:Array aE}{i:Nat}{v:Array aE}{rest:List (Nat × aE)}{off size:Nat}(hp:place i=some (off,size))(hs:v.size=size)(ho:off+size<=cells.size):
 Instr.fill place cells ((i,I v) :: rest)=Instr.fill place (put cells off v) rest:=by
 rw[Instr.fill,hp];dsimp only
 split
 ·rename_i h
  exfalso
  have h1:(Value.agg v).cells.size=size:=hs;rw[h1]at h;simp at h;omega
 ·rfl
theorem xmc{cs vs:Array aE}{off:Nat}(h1:cs.all (·.oneCell')=true)(h2:vs.all (·.oneCell')=true):(put cs off vs).all (·.oneCell')=true:=by
 rw[kM]at *;intro v hv;obtain⟨i,hi,rfl⟩:=Array.mem_iff_getElem.1 hv;have hi2:i<cs.size:=by rw[xc6]at hi;exact hi
 have hg:=xe6 cs off vs i hi2;rw[kC hi]at hg;by_cases e:off<=i/\i<off+vs.size
 ·rw[iP e,kC (by omega)]at hg;rw[kF hg];exact h2 _ (Array.getElem_mem _)
 ·rw[iQ e,kC hi2]at hg;rw[kF hg];exact h1 _ (Array.getElem_mem _)
def TZ:Array aE:=LK .u32 (List.replicate 72 0)++LK .u64 (List.replicate 112 0)++LK J (List.replicate 281 0)
theorem xcc:TZ.size=465:=by unfold TZ;rw[Array.size_append,Array.size_append,fE,fE,fE,List.length_replicate,List.length_replicate,List.length_replicate]
theorem tz_one:TZ.all (·.oneCell')=true:=by
 unfold TZ;rw[Array.all_append,Array.all_append,gV,gV,gV];rfl
theorem dI:(aO.info? 34).map (fun i=>(i.zero,i.size))=some (some (I TZ),465):=by kernel_rfl
theorem placesT:(aO.fieldsOf 34).toList.mapM (fun f=>(aO.info? f.type).map fun i=>(f.offset,i.size))=some [(0,64),(64,8),(72,80),(152,8),(160,24),(184,25),(209,256)]:=by kernel_rfl
theorem underT:aO.underlying 34=some (.struct (aO.fieldsOf 34)):=by kernel_rfl
theorem xtq(R Uq Z:Array aE)(hR:R.size=24)(hU:Uq.size=25)(hZ:Z.size=256)(oR:R.all (·.oneCell')=true)(oU:Uq.all (·.oneCell')=true)(oZ:Z.all (·.oneCell')=true):
 ∃ C,aO.built 34 [(4,I R),(5,I Uq),(6,I Z)]=some C/\C.size=465/\(∀ j,j<24->C[160+j]? = R[j]?)/\(∀ j,j<25->C[184+j]? = Uq[j]?)/\(∀ j,j<256->C[209+j]? = Z[j]?)/\C.all (·.oneCell')=true:=by
 refine⟨put (put (put TZ 160 R) 184 Uq) 209 Z,?_,by simp only[xc6,xcc],?_,?_,?_,xmc (xmc (xmc tz_one oR) oU) oZ⟩
 ·have hi:=dI;cases hq:aO.info? 34 with
  | none=>simp[hq]at hi
  | some it=>
   simp only[hq,nU,mT,Prod.mk.injEq]at hi;unfold Program.built;rw[hq,underT];simp only[hi.1,placesT];rw[show Value.cells (I TZ)=TZ from rfl];rw[xk2 (off:=160) (size:=24) rfl hR (by rw[xcc];decide),xk2 (off:=184) (size:=25) rfl hU (by rw[xc6,xcc];decide),xk2 (off:=209) (size:=256) rfl hZ (by rw[xc6,xc6,xcc];decide)];rfl
 ·intro j hj;rw[xe6 _ _ _ _ (by simp only[xc6,xcc];omega),iQ (by omega),xe6 _ _ _ _ (by simp only[xc6,xcc];omega),iQ (by omega),xe6 _ _ _ _ (by rw[xcc];omega),iP (by omega),show 160+j-160=j by omega]
 ·intro j hj;rw[xe6 _ _ _ _ (by simp only[xc6,xcc];omega),iQ (by omega),xe6 _ _ _ _ (by simp only[xc6,xcc];omega),iP (by omega),show 184+j-184=j by omega]
 ·intro j hj;rw[xe6 _ _ _ _ (by simp only[xc6,xcc];omega),iP (by omega),show 209+j-209=j by omega]
theorem yac{P:aI}{ops:Array Oper}{rest:List Oper}{o:Oper}{a:Act}{w:G}{Q:Exit->Act->G->Prop}(hg:o.guard=none)(t:aH)(i1 i2 i3:Nat)(x1 x2 x3:Operand)(ho:o.op=.build t #[(i1,x1),(i2,x2),(i3,x3)])
 (v1 v2 v3:aE) (h1:a.eval x1=v1) (h2:a.eval x2=v2) (h3:a.eval x3=v3) (C:Array aE) (hC:P.built t [(i1,v1),(i2,v2),(i3,v3)]=some C)
 (h:wpList P ops Q rest (a.put o.dst (I C)) w):wpList P ops Q (o :: rest) a w:=by
 have e:((#[(i1,x1),(i2,x2),(i3,x3)]:Array (Nat × Operand)).map fun (i,x)=>(i,a.eval x)).toList=[(i1,v1),(i2,v2),(i3,v3)]:=by simp[h1,h2,h3]
 exact wpList_build hg t _ ho (by rw[e,hC];rfl) (by rw[e,hC];exact h)
end built
namespace power
open Go.RowKit
open tabm
theorem xfj(a b:Nat):Value.int J ((a:Int)*(b:Int)%8380417)=O J ((a*b%8380417:Nat):Int):=
 lD (Value.int J) (by rw[oE,kV];rfl)
theorem xcm{k:IntKind}{a b:Int}(h:a=b):Ending.returned (.int k a)=.returned (.int k b):=by rw[h]
theorem xh8(m:Nat):Value.int J ((m:Int) / 2)=O J ((m / 2:Nat):Int):=
 lD (Value.int J) (by omega)
theorem xe0(R S:Nat)(hR:R<8380417)(hS:S<8380417):(0:Int)<=(R:Int)*(S:Int)/\(R:Int)*(S:Int)<=70231372333056:=by
 have h1:R*S<=8380416*8380416:=lA (by omega) (by omega);have h2:(R:Int)*(S:Int)=((R*S:Nat):Int):=by norm_cast
 rw[h2];omega
theorem xds(m:Nat)(hm:m<=9223372036854775807):bits .and J (m:Int) 1=(m:Int)%2:=by
 have h:=bits_mask J 63 (by decide) (fun n h0 h1=>IntWalk.i64_in n (by omega)) 1 (by decide) (m:Int) (by omega) (by omega);simpa using h
def Keeps(x n:Nat)(n' r s:aE):Prop:=∃ m R S:Nat,m<=9223372036854775807/\R<8380417/\S<8380417/\n'=O J m/\r=O J R/\s=O J S/\pwk x n R S m
theorem xw4(x n:Nat)(w:G)(hx:x<=9223372036854775807)(hn:n<=9223372036854775807):
 aD aO 109 #[O J x,O J n] w fun e w'=>e=.returned (O J (pw x n))/\w=w':=by
 have hst:=xqp x n;go_enter Tryz.func109,Tryz.ntmps109;go_wp2
 go_loop [1,5,6] (fun n' r s=>Keeps x n n' r s) (fun n' _ _=>(aG n').toNat)
 case atStart=>exact⟨n,1,x%8380417,hn,by decide,kB _ (by decide),rfl,rfl,by first | rfl | exact lD (Value.int J) (by norm_cast),hst⟩
 case round=>
  obtain⟨m,R,S,hm,hR,hS,rfl,rfl,rfl,hk⟩:=hrel;have hRS:=xe0 R S hR hS;have hSS:=xe0 S S hS hS;by_cases h0:m=0
  ·subst h0;go_wp2
   go_ret;exact⟨xcm (lD Nat.cast (xqm x n R S hk hR)),rfl⟩
  ·by_cases h1:m%2=1
   ·have ho:=xqo x n R S m hk h1;have hb:((m:Int)%2==1)=true:=lL.2 (by omega);clear h1 hk hst;go_wp2
    go_round
    case rel=>exact⟨m / 2,R*S%8380417,S*S%8380417,by omega,kB _ (by decide),kB _ (by decide),xh8 m,xfj R S,xfj S S,ho⟩
    case measure=>simp[aG];omega
   ·have ho:=xqn x n R S m hk (by omega);have hb:((m:Int)%2==1)=false:=jV.2 (by omega);clear h1 hk hst;go_wp2
    go_round
    case rel=>exact⟨m / 2,R,S*S%8380417,by omega,hR,kB _ (by decide),xh8 m,rfl,xfj S S,ho⟩
    case measure=>simp[aG];omega
end power
namespace rounds
open Go.RowKit
open fB arr
open power (xds)
theorem fR:(aO.info? 30).map (·.size)=some 24:=by kernel_rfl
theorem xx7(w:G):
 aD aO 57 #[] w (zB w (I (LK .u64 (rl 168)))):=by
 go_enter Tryz.func57,Tryz.ntmps57;go_wp2_with fail;obtain⟨Z,HZ⟩:=aQ (#[O .u64 0,O .u64 0,O .u64 0,O .u64 0,O .u64 0,O .u64 0,O .u64 0,O .u64 0,O .u64 0,O .u64 0,O .u64 0,O .u64 0,O .u64 0,O .u64 0,O .u64 0,O .u64 0,O .u64 0,O .u64 0,O .u64 0,O .u64 0,O .u64 0,O .u64 0,O .u64 0,O .u64 0]:Array aE);rw[HZ.o];have HZ2:U (Z=LK .u64 (rl 0)):=⟨HZ.o.symm⟩;clear HZ;go_loopw [2,5] (fun r i wr=>∃ (k n R:Nat) (ds:List Nat),k<=24/\i=O J k/\r=O J R/\U (lf (7*k)=R)/\U (rl (7*k)=ds)/\wr=((w.alloc (Y Z 30)).alloc (Y (LK .u64 ds) 30)).drewN n) (fun _ i _=>24-(aG i).toNat)
 case atStart=>exact⟨0,0,1,rl 0,by decide,rfl,rfl,⟨rfl⟩,⟨rfl⟩,by rw[<-HZ2.o];rfl⟩
 case round=>
  obtain⟨k,n,R,ds,hk,rfl,rfl,Hr,Hds,rfl⟩:=hrel;by_cases hlt:k<24
  ·go_wp2_with fail;go_loopw [2,8] (fun r i wr=>∃ (m n R:Nat) (ds:List Nat),m<=7/\i=O J m/\r=O J R/\U (lf (7*k+m)=R)/\U (rl (7*k+m)=ds)/\wr=((w.alloc (Y Z 30)).alloc (Y (LK .u64 ds) 30)).drewN n) (fun _ i _=>7-(aG i).toNat)
   case atStart=>exact⟨0,n,R,ds,by decide,rfl,rfl,Hr,Hds,rfl⟩
   case round=>
    clear Hr Hds;obtain⟨m,n,R,ds,hm,rfl,rfl,Hr,Hds,rfl⟩:=hrel;by_cases hlm:m<7
    ·have hR:=lf_le (7*k+m);have hd:=xqy (7*k+m) k;have hlen:=xc7 (7*k+m);have ho:=xqz (i:=k) hlm;have he:=xqx (t:=7*k+m);have hov:=xo1 (t:=7*k+m);have hin:=lf_in (t:=7*k+m);rw[Hr.o]at hR ho he hov hin;rw[Hds.o]at hd hlen ho he;have hxor:=xsl R hR;have hget:=gC .u64 ds k (by rw[hlen];exact hlt);obtain⟨d,hdd⟩:=aP (ds.getD k 0);rw[hdd]at hd hget ho;have HO:=D ho;have HE:=D he;have HV:=D hov;have HN:=D hin;have Hlen:=D hlen;clear ho he hov hin hdd hlen;have hset:=xc2 .u64 ds k (d ||| 2 ^ (2 ^ m-1)) _ (xp2 d m hd hlm);by_cases h1:R%2=1
     ·have hb:(bits .and J (R:Int) 1==1)=true:=by rw[xds R (by omega)];exact lL.2 (by omega)
      have Hn:=D (HO.o h1);clear h1;by_cases h2 : 255<R*2
      ·have Hv:=D (HV.o h2);go_wp2_with fail;go_region
       go_wp2_with fail;go_roundw
       case rel=>exact⟨m+1,n+1,_,_,by omega,by go_num,rfl,Hv,Hn,rfl⟩
       case measure=>simp[aG];omega
      ·have Hv:=D (HN.o h2);go_wp2_with fail;go_region
       go_wp2_with fail;go_roundw
       case rel=>exact⟨m+1,n+1,_,_,by omega,by go_num,xbw (by omega),Hv,Hn,rfl⟩
       case measure=>simp[aG];omega
     ·have hb:(bits .and J (R:Int) 1==1)=false:=by rw[xds R (by omega)];exact jV.2 (by omega)
      have Hn:=D (HE.o h1);clear h1;by_cases h2 : 255<R*2
      ·have Hv:=D (HV.o h2);go_wp2_with fail;go_roundw
       case rel=>exact⟨m+1,n,_,_,by omega,by go_num,rfl,Hv,Hn,rfl⟩
       case measure=>simp[aG];omega
      ·have Hv:=D (HN.o h2);go_wp2_with fail;go_roundw
       case rel=>exact⟨m+1,n,_,_,by omega,by go_num,xbw (by omega),Hv,Hn,rfl⟩
       case measure=>simp[aG];omega
    ·obtain rfl:m=7:=by omega
     have Hr2:U (lf (7*(k+1))=R):=⟨Hr.o⟩;have Hd2:U (rl (7*(k+1))=ds):=⟨Hds.o⟩;go_wp2_with fail;go_roundw
     case rel=>exact⟨k+1,n,R,ds,by omega,by go_num,rfl,Hr2,Hd2,rfl⟩
     case measure=>simp[aG];omega
  ·obtain rfl:k=24:=by omega
   have Hd2:U (ds=rl 168):=⟨Hds.o.symm⟩;have hsz:(LK .u64 ds).size=24:=by rw[fE,Hd2.o,xc7]
   have hzs:Z.size=24:=by rw[HZ2.o,fE,xc7]
   obtain⟨W,hW⟩:=aP (((w.alloc (Y Z 30)).alloc (Y (LK .u64 ds) 30)).drewN n);have hb:zb w W:=by rw[<-hW];exact oN (((iR _ _).alloc (iM _) _).alloc (by simp) _) n
   have g1:W.heap[w.heap.size+1]? = some (Y (LK .u64 ds) 30 (0,0)):=by rw[<-hW,xdy,cM _ _ _ (by simp)]
   have g0:W.heap[w.heap.size]? = some (Y Z 30 (0,0)):=by rw[<-hW,xdy,fF _ _ _ (by simp),cM _ _ _ rfl]
   rw[hW];have Hsz:=D hsz;have Hzs:=D hzs;clear hW hsz hzs;go_wp2_with (first | (refine iL rfl 30 _ rfl _ rfl 30 _ (0,0) _ g1 Tryz.underlying30 rfl (by rw[Hsz.o];exact fR) ?_) | (refine iS rfl 30 _ _ rfl _ _ rfl rfl 30 _ g0 (by rw[Hsz.o];exact fR) (by rw[Hsz.o];exact Hzs.o) (gV _ _) ?_));refine iV (v:=I (LK .u64 ds)) (jC rfl _ _ w.heap.size 30 _ (0,0) _ rfl (jD _ _ _ _ _ _ g0) Tryz.underlying30 rfl (by rw[Hsz.o];exact fR)) rfl ?_;exact⟨by rw[Hd2.o],hb.trans (below_setRow _ _ _ (iM _))⟩
end rounds
namespace turns
open Go.RowKit
open fB arr
theorem iF:(aO.info? 31).map (·.size)=some 25:=by kernel_rfl
theorem xe0(k:Nat)(h:k<24):(0:Int)<=((k:Int)+1)*((k:Int)+2)/\((k:Int)+1)*((k:Int)+2)<=650:=by
 have h1:(k+1)*(k+2)<=25*26:=lA (by omega) (by omega);have h2:((k:Int)+1)*((k:Int)+2)=(((k+1)*(k+2):Nat):Int):=by norm_cast
 rw[h2];omega
theorem xpo(k:Nat):((k:Int)+1)*((k:Int)+2) / 2%64=(((k+1)*(k+2) / 2%64:Nat):Int):=by
 have h2:((k:Int)+1)*((k:Int)+2)=(((k+1)*(k+2):Nat):Int):=by norm_cast
 rw[h2];omega
theorem xzx(w:G):
 aD aO 58 #[] w (zB w (I (LK J (tl 24)))):=by
 go_enter Tryz.func58,Tryz.ntmps58;go_wp2_with fail;obtain⟨Z,HZ⟩:=aQ (#[O J 0,O J 0,O J 0,O J 0,O J 0,O J 0,O J 0,O J 0,O J 0,O J 0,O J 0,O J 0,O J 0,O J 0,O J 0,O J 0,O J 0,O J 0,O J 0,O J 0,O J 0,O J 0,O J 0,O J 0,O J 0]:Array aE);rw[HZ.o];have HZ2:U (Z=LK J (tl 0)):=⟨HZ.o.symm⟩;clear HZ;go_loopw [2,3,5] (fun x y i wr=>∃ (k X Yq:Nat),k<=24/\i=O J k/\x=O J X/\y=O J Yq/\U (xy k=(X,Yq))/\wr=(w.alloc (Y Z 31)).alloc (Y (LK J (tl k)) 31)) (fun _ _ i _=>24-(aG i).toNat)
 case atStart=>exact⟨0,1,0,by decide,rfl,rfl,rfl,⟨rfl⟩,by rw[<-HZ2.o]⟩
 case round=>
  obtain⟨k,X,Yq,hk,rfl,rfl,rfl,Hxy,rfl⟩:=hrel;by_cases hlt:k<24
  ·have hb:=xy_lt k;rw[Hxy.o]at hb;have hX:X<5:=hb.1;have hY:Yq<5:=hb.2;have hm:=xe0 k hlt;have e1:((X:Int)+5*(Yq:Int)).toNat=X+5*Yq:=by omega
   have hget:=gC J (tl k) (X+5*Yq) (by rw[xc9];omega);have hset:=xc2 J (tl k) (X+5*Yq) ((k+1)*(k+2) / 2%64) _ (xpo k);rw[show (tl k).set (X+5*Yq) ((k+1)*(k+2) / 2%64)=tl (k+1) by rw[tl,Hxy.o]]at hset;have Hn:U (xy (k+1)=(Yq,(2*X+3*Yq)%5)):=⟨by rw[xy,Hxy.o]⟩;clear hb;go_wp2_with fail;go_roundw
   case rel=>exact⟨k+1,Yq,(2*X+3*Yq)%5,by omega,by go_num,rfl,xbw (by omega),Hn,rfl⟩
   case measure=>simp[aG];omega
  ·obtain rfl:k=24:=by omega
   have hsz:(LK J (tl 24)).size=25:=by rw[fE,xc9]
   have hzs:Z.size=25:=by rw[HZ2.o,fE,xc9]
   obtain⟨W,hW⟩:=aP ((w.alloc (Y Z 31)).alloc (Y (LK J (tl 24)) 31));have hb:zb w W:=by rw[<-hW];exact((iR _ _).alloc (iM _) _).alloc (by simp) _
   have g1:W.heap[w.heap.size+1]? = some (Y (LK J (tl 24)) 31 (0,0)):=by rw[<-hW,cM _ _ _ (by simp)]
   have g0:W.heap[w.heap.size]? = some (Y Z 31 (0,0)):=by rw[<-hW,fF _ _ _ (by simp),cM _ _ _ rfl]
   rw[hW];clear hW;have Hsz:=D hsz;have Hzs:=D hzs;clear hsz hzs;go_wp2_with (first | (refine iL rfl 31 _ rfl _ rfl 31 _ (0,0) _ g1 Tryz.underlying31 rfl (by rw[Hsz.o];exact iF) ?_) | (refine iS rfl 31 _ _ rfl _ _ rfl rfl 31 _ g0 (by rw[Hsz.o];exact iF) (by rw[Hsz.o];exact Hzs.o) (gV _ _) ?_));refine iV (v:=I (LK J (tl 24))) (jC rfl _ _ w.heap.size 31 _ (0,0) _ rfl (jD _ _ _ _ _ _ g0) Tryz.underlying31 rfl (by rw[Hsz.o];exact iF)) rfl ?_;exact⟨rfl,hb.trans (below_setRow _ _ _ (iM _))⟩
end turns
namespace zetas
open Go.RowKit
open tabm fB arr
theorem xxw(n:Nat)(h:n<Lib.rev8tab.size):Lib.rev8 (n:Int)=((Lib.rev8tab[n].toNat:Nat):Int):=by
 unfold Lib.rev8;rw[kL,ByteArray.getElem?_lt' _ _ h];rfl
theorem reverse8(n:Nat)(w:G)(h:n<256):
 aD aO 110 #[O .u8 n] w fun e w'=>e=.returned (O .u8 (rv n:Nat))/\w=w':=by
 have hr:=D (xxx n h);go_enter Tryz.func110,Tryz.ntmps110;go_wp2_with fail;go_ret;exact⟨xcm ((xxw n _).symm.trans hr.o),rfl⟩
theorem info37:(aO.info? 32).map (fun i=>(i.zero,i.size))=some (some (I (LK J (zl 0))),256):=by kernel_rfl
theorem yak(w:G):
 aD aO 59 #[] w (zB w (I (LK J (zl 256)))):=by
 obtain⟨hz,hsize⟩:=iY info37;obtain⟨Z,HZ⟩:=aQ (LK J (zl 0));rw[HZ.o]at hz;have Hsize:=D hsize;clear hsize;go_enter Tryz.func59,Tryz.ntmps59;go_wp2_with fail;clear hz;go_loopw [3] (fun i wr=>∃ k:Nat,k<=256/\i=O J k/\wr=(w.alloc (Y Z 32)).alloc (Y (LK J (zl k)) 32)) (fun i _=>256-(aG i).toNat)
 case atStart=>exact⟨0,by decide,rfl,by rw[HZ.o]⟩
 case round=>
  obtain⟨k,hk,rfl,rfl⟩:=hrel;by_cases hlt:k<256
  ·have hget:=gC J (zl k) k (by rw[xgi];omega);have hset:=xdh J (zl k) k (zt k);rw[show (zl k).set k (zt k)=zl (k+1) from rfl]at hset;have hrl:=rv_lt k hlt;have hzt:U (pw 1753 (rv k)=zt k):=⟨rfl⟩;obtain⟨r,Hr⟩:=aQ (rv k);rw[Hr.o]at hrl hzt;go_wp2_with fail;refine(reverse8 k _ hlt).mono ?_;rintro e w1 ⟨rfl,rfl⟩;rw[Hr.o];go_wp2_with fail;refine(power.xw4 1753 r _ (by decide) (by omega)).mono ?_;rintro e w1 ⟨rfl,rfl⟩;rw[hzt.o];go_wp2_with fail;go_roundw
   case rel=>exact⟨k+1,by omega,by go_num,rfl⟩
   case measure=>simp[aG];omega
  ·obtain rfl:k=256:=by omega
   have hsz:(LK J (zl 256)).size=256:=by rw[fE,xgi]
   have hzs:Z.size=256:=by rw[<-HZ.o,fE,xgi]
   obtain⟨W,hW⟩:=aP ((w.alloc (Y Z 32)).alloc (Y (LK J (zl 256)) 32));have hb:zb w W:=by rw[<-hW];exact((iR _ _).alloc (iM _) _).alloc (by simp) _
   have g1:W.heap[w.heap.size+1]? = some (Y (LK J (zl 256)) 32 (0,0)):=by rw[<-hW,cM _ _ _ (by simp)]
   have g0:W.heap[w.heap.size]? = some (Y Z 32 (0,0)):=by rw[<-hW,fF _ _ _ (by simp),cM _ _ _ rfl]
   rw[hW];have Hsz:=D hsz;have Hzs:=D hzs;clear hW hsz hzs;go_wp2_with (first | (refine iL rfl 32 _ rfl _ rfl 32 _ (0,0) _ g1 Tryz.underlying32 rfl (by rw[Hsz.o];exact Hsize.o) ?_) | (refine iS rfl 32 _ _ rfl _ _ rfl rfl 32 _ g0 (by rw[Hsz.o];exact Hsize.o) (by rw[Hsz.o];exact Hzs.o) (gV _ _) ?_));refine iV (v:=I (LK J (zl 256))) (jC rfl _ _ w.heap.size 32 _ (0,0) _ rfl (jD _ _ _ _ _ _ g0) Tryz.underlying32 rfl (by rw[Hsz.o];exact Hsize.o)) rfl ?_;exact⟨rfl,hb.trans (below_setRow _ _ _ (iM _))⟩
end zetas
namespace times
open Go.RowKit
open tabd arr
theorem dF:(aO.info? 132).map (·.size)=some 8:=by kernel_rfl
theorem xcp(us vs:List Nat)(w:G)(hu:us.length=8)(hv:vs.length=8)(su:cH us)(sv:cH vs):
 aD aO 156 #[I (LK .u32 us),I (LK .u32 vs)] w (zB w (I (LK .u32 (dg 8 (val us*val vs))))):=by
 have Hu:=lS hu;have Hv:=lS hv;have Su:=lS su;have Sv:=lS sv;clear hu hv su sv;go_enter Tryz.func156,Tryz.ntmps156;go_wp2
 obtain⟨Z,hZ⟩:=aP ((#[O .u32 0,O .u32 0,O .u32 0,O .u32 0,O .u32 0,O .u32 0,O .u32 0,O .u32 0]:Array aE));rw[hZ];have HZ:=lS hZ;clear hZ;have t0:=xr4 us vs;go_loopw [10] (fun i wr=>∃ (k n:Nat) (ds:List Nat),k<=8/\i=O J k/\Top us vs k ds/\wr=((((w.alloc (Y (LK .u32 us) 132)).alloc (Y (LK .u32 vs) 132)).alloc (Y Z 132)).alloc (Y (LK .u32 ds) 132)).drewN n) (fun i _=>8-(aG i).toNat)
 case atStart=>exact⟨0,0,List.replicate 8 0,by decide,rfl,t0,by rw[<-HZ.out];rfl⟩
 case round=>
  obtain⟨k,n,ds,hk,rfl,ht,rfl⟩:=hrel;clear t0;by_cases hlt:k<8
  ·obtain⟨N,hN⟩:=aP (val ds);obtain⟨x,hx⟩:=aP (us.getD k 0);have hm0:=xph vs ds x k ht.1 ht.2.1;have hxl:=xa7 Su.out k;rw[hx]at hxl;rw[hN]at hm0;have Ht:=lS ht;have HN:=lS hN;have hgu:=gC .u32 us k (by rw[Hu.out];exact hlt);rw[hx]at hgu;have HX:=lS hx;clear ht hN hx;go_wp2
   go_loopw [15,7] (fun j c wr=>∃ (m n:Nat) (d:List Nat) (cc:Nat),m<=8-k/\j=O J m/\c=O .u64 cc/\Mid vs N x k m d cc/\wr=((((w.alloc (Y (LK .u32 us) 132)).alloc (Y (LK .u32 vs) 132)).alloc (Y Z 132)).alloc (Y (LK .u32 d) 132)).drewN n) (fun j _ _=>8-(aG j).toNat)
   case atStart=>exact⟨0,n,ds,0,by omega,rfl,rfl,hm0,rfl⟩
   case round=>
    obtain⟨m,n,d,c,hm,rfl,rfl,hmid,rfl⟩:=hrel;by_cases hlm:m<8-k
    ·have hs:=mid_step hmid hxl Sv.out (by rw[Hv.out];omega) (by omega);have hb:=xpg (j:=m) (k:=k+m) (c:=c) hxl Sv.out hmid.2.1 hmid.2.2.1;have hgv:=gC .u32 vs m (by rw[Hv.out];omega);have hgd:=gC .u32 d (k+m) (by rw[hmid.1];omega);have hlv:=xa7 Sv.out m;have hld:=xa7 hmid.2.1 (k+m);obtain⟨y,hy⟩:=aP (vs.getD m 0);obtain⟨z,hz⟩:=aP (d.getD (k+m) 0);rw[hy]at hs hb hgv hlv;rw[hz]at hs hb hgd hld;have hc:=hmid.2.2.1;have hset:=xc2 .u32 d (k+m) ((x*y+z+c)%4294967296) (((x:Int)*(y:Int)+(z:Int)+(c:Int))%4294967296) (xtx x y z c);clear hy hz hmid hm0;have w1:J.wrap ((k:Int)+(m:Int))=(k:Int)+(m:Int):=IntWalk.i64_in _ (by omega);have w2:((k:Int)+(m:Int)).toNat=k+m:=by omega
     go_wp2_with fail;go_quiet (fail)
     go_wp2_with fail;go_roundw
     case rel=>
      exact⟨m+1,n+nq,d.set (k+m) ((x*y+z+c)%4294967296),(x*y+z+c) / 4294967296,by omega,by go_num,xbw (xtv x y z c),hs,rfl⟩
     case measure=>simp[aG];omega
    ·obtain rfl:m=8-k:=by omega
     have htop:=xr5 (us:=us) (c:=c) (HN.out ▸ Ht.out.2.2) (by rw[Hu.out];exact hlt) hk Hv.out (by rw[HX.out];exact hmid);clear hm0 hmid hgu;go_wp2_with fail;go_roundw
     case rel=>exact⟨k+1,n,d,by omega,by go_num,htop,rfl⟩
     case measure=>simp[aG];omega
  ·obtain rfl:k=8:=by omega
   have hend:=xr3 Hu.out ht;have hsz:(LK .u32 ds).size=8:=by rw[fE];exact ht.1
   have hzs:Z.size=8:=by rw[<-HZ.out];rfl
   obtain⟨X,hX⟩:=aP (((((w.alloc (Y (LK .u32 us) 132)).alloc (Y (LK .u32 vs) 132)).alloc (Y Z 132)).alloc (Y (LK .u32 ds) 132)).drewN n);have hb:zb w X:=by
    rw[<-hX];exact oN (((((iR _ _).alloc (iM _) _).alloc (by simp) _).alloc (by simp;omega) _).alloc (by simp;omega) _) n
   have g5:X.heap[w.heap.size+1+1+1]? = some (Y (LK .u32 ds) 132 (0,0)):=by
    rw[<-hX,xdy,cM _ _ _ (by simp)]
   have g4:X.heap[w.heap.size+1+1]? = some (Y Z 132 (0,0)):=by
    rw[<-hX,xdy,fF _ _ _ (by simp),cM _ _ _ (by simp)]
   rw[hX];clear hX ht;go_wp2_with (first | (refine iL rfl 132 _ rfl _ rfl 132 _ (0,0) _ g5 Tryz.underlying132 rfl (by rw[hsz];exact dF) ?_) | (refine iS rfl 132 _ _ rfl _ _ rfl rfl 132 _ g4 (by rw[hsz];exact dF) (by rw[hsz];exact hzs) (gV _ _) ?_));refine iV (v:=I (LK .u32 ds)) (jC rfl _ _ (w.heap.size+1+1) 132 _ (0,0) _ rfl (jD _ _ _ _ _ _ g4) Tryz.underlying132 rfl (by rw[hsz];exact dF)) rfl ?_;exact⟨by rw[hend],hb.trans (below_setRow _ _ _ (by omega))⟩
end times
namespace raised
open Go.RowKit
open tabd arr times
theorem xku(v x:Nat):dg 8 (val (dg 8 v)*x)=dg 8 (v*x):=by
 rw[xhw,<-xkt 8 (v%bp 8*x),<-xkt 8 (v*x),Nat.mod_mul_mod]
theorem xt8(us:List Nat)(h:us.length=8)(s:cH us):dg 8 (val us)=us:=by
 have:=xie us s;rwa [h]at this
def St(us:List Nat)(w:G)(e:Nat)(wr:G):Prop:=
 wr.heap[w.heap.size]? = some (Y (LK .u32 us) 132 (0,0))/\(∃ Z:Array aE,Z.size=8/\wr.heap[w.heap.size+1]? = some (Y Z 132 (0,0))) /\
 wr.heap[w.heap.size+1+1]? = some (Y (LK .u32 (dg 8 (val us ^ e))) 132 (0,0))/\zb w wr/\w.heap.size+3<=wr.heap.size
theorem xcb{us:List Nat}{w wr w1:G}{e:Nat}(h:St us w e wr)(hb:zb wr w1):St us w e w1:=by
 obtain⟨h1,⟨Z,hz,h2⟩,h3,h4,h5⟩:=h;have hs:=hb.size;exact⟨(hb.block _ (by omega)).trans h1,⟨Z,hz,(hb.block _ (by omega)).trans h2⟩,(hb.block _ (by omega)).trans h3,h4.trans (hb.mono (by omega)),by omega⟩
theorem xfb{us:List Nat}{w wr:G}{e f:Nat}(h:St us w e wr):St us w f (wr.setRow (w.heap.size+1+1) (LK .u32 (dg 8 (val us ^ f)))):=by
 obtain⟨h1,⟨Z,hz,h2⟩,h3,h4,h5⟩:=h;exact⟨by rw[lW _ _ _ _ (by omega)];exact h1,⟨Z,hz,by rw[lW _ _ _ _ (by omega)];exact h2⟩,jD _ _ _ _ _ _ h3,h4.trans (below_setRow _ _ _ (by omega)),by simpa using h5⟩
theorem xqs(us:List Nat)(p:Nat)(w:G)(hu:us.length=8)(su:cH us)(h1 : 1<=p)(h3:p<=3):
 aD aO 113 #[I (LK .u32 us),O J p] w (zB w (I (LK .u32 (dg 8 (val us ^ p))))):=by
 have hsz:(LK .u32 us).size=8:=by rw[fE];exact hu
 have hsd:∀ v,(LK .u32 (dg 8 v)).size=8:=fun v=>by rw[fE,gR]
 have Hsz:=lS hsz;have Hsd:=lS hsd;have Hu:=lS hu;have Su:=lS su;clear hu su hsz hsd;go_enter Tryz.func113,Tryz.ntmps113;go_wp2_with (first | (refine iL rfl 132 _ rfl _ rfl 132 (LK .u32 us) (0,0) _ ?_ Tryz.underlying132 rfl (by rw[Hsz.out];exact dF) ?_;· (rw[fF _ _ _ (by simp<;>omega),cM _ _ _ (by simp<;>omega)])) | (refine iS rfl 132 _ _ rfl _ _ rfl rfl 132 _ (cM _ _ _ (by simp<;>omega)) (by rw[Hsz.out];exact dF) (by rw[Hsz.out];rfl) (gV _ _) ?_));go_loopw [9] (fun i wr=>∃ k:Nat,k<=p-1/\i=O J k/\St us w (k+1) wr) (fun i _=>p-(aG i).toNat)
 case atStart=>
  refine⟨0,by omega,rfl,?_,⟨LK .u32 [0,0,0,0,0,0,0,0],rfl,?_⟩,?_,?_,?_⟩
  ·rw[lW _ _ _ _ (by omega),fF _ _ _ (by simp<;>omega),fF _ _ _ (by simp<;>omega),cM _ _ _ rfl]
  ·rw[lW _ _ _ _ (by omega),fF _ _ _ (by simp<;>omega),cM _ _ _ (by simp<;>omega)];rfl
  ·rw[kP,Nat.pow_one,xt8 us Hu.out Su.out,jD _ _ _ _ _ _ (cM _ _ _ (by simp<;>omega))]
  ·exact((((iR _ _).alloc (iM _) _).alloc (by simp<;>omega) _).alloc (by simp<;>omega) _).trans (below_setRow _ _ _ (by omega))
  ·simp
 case round=>
  obtain⟨k,hk,rfl,hst⟩:=hrel;have g0:=hst.1;have g2:=hst.2.2.1;by_cases hlt:k<p-1
  ·have Hst:=lS hst;clear hst;go_wp2_with (first | (refine iL rfl 132 _ rfl _ rfl 132 _ (0,0) _ g2 Tryz.underlying132 rfl (by rw[Hsd.out];exact dF) ?_) | (refine iL rfl 132 _ rfl _ rfl 132 _ (0,0) _ g0 Tryz.underlying132 rfl (by rw[Hsz.out];exact dF) ?_));refine(xcp _ _ _ (gR _ _) Hu.out (xa0 _ _) Su.out).mono ?_;rintro e w1 ⟨rfl,hb⟩;rw[xku,<-mG];have Hs1:=lS (xcb Hst.out hb);have g2':=Hs1.out.2.2.1;have Hb:=lS hb;clear hb g0 g2;go_wp2_with (refine iS rfl 132 _ _ rfl _ _ rfl rfl 132 _ g2' (by rw[Hsd.out];exact dF) (by rw[Hsd.out,Hsd.out]) (gV _ _) ?_);go_roundw
   case rel=>exact⟨k+1,by omega,by go_num,xfb Hs1.out⟩
   case measure=>simp[aG];omega
  ·obtain rfl:p=k+1:=by omega
   obtain⟨-,⟨Z,hz,g1⟩,-,hb,hs⟩:=hst;have Hz:=lS hz;clear hz;go_wp2_with (first | (refine iL rfl 132 _ rfl _ rfl 132 _ (0,0) _ g2 Tryz.underlying132 rfl (by rw[Hsd.out];exact dF) ?_) | (refine iS rfl 132 _ _ rfl _ _ rfl rfl 132 _ g1 (by rw[Hsd.out];exact dF) (by rw[Hsd.out];exact Hz.out) (gV _ _) ?_));refine iV (v:=I (LK .u32 (dg 8 (val us ^ (k+1))))) (jC rfl _ _ (w.heap.size+1) 132 _ (0,0) _ rfl (jD _ _ _ _ _ _ g1) Tryz.underlying132 rfl (by rw[Hsd.out];exact dF)) rfl ?_;exact⟨rfl,hb.trans (below_setRow _ _ _ (by omega))⟩
end raised
namespace above
open Go.RowKit
open tabd arr
theorem xjn{a b:Bool}(h:a=b):Ending.returned (.bool a)=.returned (.bool b):=by rw[h]
theorem gt_of(us vs:List Nat)(k:Nat)(h:Same us vs (k+1))(hu:us.length=8)(hv:vs.length=8)(su:cH us)(sv:cH vs)(hk:k<8)(hne:us.getD k 0≠vs.getD k 0):
 decide (vs.getD k 0<us.getD k 0)=decide (val vs<val us):=by
 rcases Nat.lt_or_gt_of_ne hne with h1 | h1
 ·have:=xq8 h (by omega) (by omega) su h1;rw[jN (by omega),jN (by omega)]
 ·have:=xq8 (a:=vs) (b:=us) (k:=k) h.symm (by omega) (by omega) sv h1;rw[jP (by omega),jP (by omega)]
theorem xsr(us vs:List Nat)(w:G)(hu:us.length=8)(hv:vs.length=8)(su:cH us)(sv:cH vs):
 aD aO 112 #[I (LK .u32 us),I (LK .u32 vs)] w (zB w (.bool (decide (val vs<val us)))):=by
 have Hu:=lS hu;have Hv:=lS hv;have Su:=lS su;have Sv:=lS sv;have HS:=lS (show Same us vs (8-0) from by unfold Same;rw[nL (by omega),nL (by omega)]);clear hu hv su sv;go_enter Tryz.func112,Tryz.ntmps112;go_wp2
 go_loopw [7] (fun i wr=>∃ (k n:Nat),k<=8/\i=O J k/\Hid (Same us vs (8-k))/\wr=((w.alloc (Y (LK .u32 us) 132)).alloc (Y (LK .u32 vs) 132)).drewN n) (fun i _=>8-(aG i).toNat)
 case atStart=>exact⟨0,0,by decide,rfl,HS,rfl⟩
 case round=>
  obtain⟨k,n,hk,rfl,hs,rfl⟩:=hrel;clear HS;have hbel:∀ n,zb w (((w.alloc (Y (LK .u32 us) 132)).alloc (Y (LK .u32 vs) 132)).drewN n):=fun n=>oN (((iR _ _).alloc (iM _) _).alloc (by simp) _) n
  have Hbel:=lS hbel;clear hbel;by_cases hlt:k<8
  ·have hgu:=gC .u32 us (7-k) (by rw[Hu.out];omega);have hgv:=gC .u32 vs (7-k) (by rw[Hv.out];omega);have e1:(7-(k:Int)).toNat=7-k:=by omega
   have hs':Same us vs (7-k+1):=by rw[show 7-k+1=8-k by omega];exact hs.out
   by_cases he:us.getD (7-k) 0=vs.getD (7-k) 0
   ·have hn:=lS (xq9 hs' (by rw[Hu.out];omega) (by rw[Hv.out];omega) he);rw[he]at hgu;obtain⟨x,hx⟩:=aP (vs.getD (7-k) 0);rw[hx]at hgu hgv;clear he hx hs' hs;go_wp2_with fail;go_quiet (fail)
    go_wp2_with fail;go_roundw
    case rel=>exact⟨k+1,_,by omega,by go_num,by rw[show 8-(k+1)=7-k by omega];exact hn,rfl⟩
    case measure=>simp[aG];omega
   ·have hg:=lS (gt_of us vs (7-k) hs' Hu.out Hv.out Su.out Sv.out (by omega) he);obtain⟨x,hx⟩:=aP (us.getD (7-k) 0);obtain⟨y,hy⟩:=aP (vs.getD (7-k) 0);rw[hx,hy]at hg;rw[hx]at hgu;rw[hy]at hgv;rw[hx,hy]at he;have b1:((x:Int)==(y:Int))=false:=jV.2 (by omega);have b2:((x:Int) != (y:Int))=true:=by rw[bne_iff_ne];omega
    clear he hx hy hs' hs;iterate 2 (go_wp2_with fail;go_quiet (fail))
    go_wp2_with fail;go_ret;exact⟨xjn hg.out,oN (oN (Hbel.out _) _) _⟩
  ·obtain rfl:k=8:=by omega
   have hz:=lS (xra hs.out);go_wp2_with fail;go_ret;exact⟨xjn (by rw[hz.out];simp),Hbel.out _⟩
theorem xnk(c:Bool)(us vs:List Nat)(w:G)(hu:us.length=8)(hv:vs.length=8)(su:cH us)(sv:cH vs)(hc:decide (val vs<val us)=c):
 aD aO 112 #[I (LK .u32 us),I (LK .u32 vs)] w (zB w (.bool c)):=by
 subst hc;exact xsr us vs w hu hv su sv
end above
namespace root
open Go.RowKit
open tabd arr times Go.Proofs.YtomphjajkkddkaaGreatDoor.raised above
def St(p k:Nat)(w:G)(y:Nat)(wr:G):Prop:=
 wr.heap[w.heap.size]? = some (Y (LK .u32 (top p k)) 132 (0,0)) /\
 wr.heap[w.heap.size+1]? = some (Y (LK .u32 (dg 8 y)) 132 (0,0))/\zb w wr/\w.heap.size+2<=wr.heap.size
theorem xcb{p k:Nat}{w wr w1:G}{n:Nat}(h:St p k w n wr)(hb:zb wr w1):St p k w n w1:=by
 obtain⟨h1,h2,h4,h5⟩:=h;have hs:=hb.size;exact⟨(hb.block _ (by omega)).trans h1,(hb.block _ (by omega)).trans h2,h4.trans (hb.mono (by omega)),by omega⟩
theorem xfb{p k:Nat}{w wr:G}{n t:Nat}(h:St p k w n wr):St p k w t (wr.setRow (w.heap.size+1) (LK .u32 (dg 8 t))):=by
 obtain⟨h1,h2,h4,h5⟩:=h;exact⟨by rw[lW _ _ _ _ (by omega)];exact h1,jD _ _ _ _ _ _ h2,h4.trans (below_setRow _ _ _ (by omega)),by simpa using h5⟩
theorem xht(p k:Nat):(LK .u32 (top p k)).size=8:=by rw[fE,xge]
theorem xg0(y:Nat):bits .or .u64 ((((dg 8 y).getD 1 0:Nat):Int)*4294967296) (((dg 8 y).getD 0 0:Nat):Int)=((y%18446744073709551616:Nat):Int):=by
 have h1:=xa7 (xa0 8 y) 1;have h0:=xa7 (xa0 8 y) 0;rw[<-xvk y];generalize (dg 8 y).getD 1 0=a at *;generalize (dg 8 y).getD 0 0=b at *;rw[show (a:Int)*4294967296=((a*4294967296:Nat):Int) by omega,oF _ _ (by omega) (by omega)];have h:=Nat.shiftLeft_add_eq_or_of_lt (i:=32) (b:=b) (by omega) a;rw[Nat.shiftLeft_eq]at h;exact lD Nat.cast h.symm
theorem xmj(p:Nat)(w:G)(hp:p<=1000):
 aD aO 61 #[O J p,O J 2] w (zB w (O .u64 ((rootN p 2%18446744073709551616:Nat):Int))):=by
 have hsd:∀ v,(LK .u32 (dg 8 v)).size=8:=fun v=>by rw[fE,gR]
 have Hsd:=D hsd;clear hsd;go_enter Tryz.func61,Tryz.ntmps61;go_wp2_with fail;go_loopw [29] (fun i wr=>∃ n y:Nat,n<=69/\i=O J n/\U (rt 69 (p*bp (2*2)) 2 n=y)/\St p 2 w y wr) (fun i _=>69-(aG i).toNat)
 case atStart=>
  refine⟨0,0,by decide,rfl,⟨rfl⟩,?_,?_,?_,?_⟩
  ·rw[fF _ _ _ (by simp<;>omega),cM _ _ _ rfl];rfl
  ·rw[cM _ _ _ (by simp<;>omega)];rfl
  ·exact((iR _ _).alloc (iM _) _).alloc (by simp<;>omega) _
  ·simp
 case round=>
  obtain⟨n,y,hn,rfl,Hy,hst⟩:=hrel;have g1:=hst.2.1;have Hst:=D hst;clear hst;by_cases hlt:n<69
  ·obtain⟨k1,k2,k3,k4,k5⟩:=xjp (k:=2) (by decide) hp (iM 69) (by decide) hlt Hy.o;have HR:=D k5;obtain⟨d,hd⟩:=aP ((dg 8 y).getD ((68-n) / 32) 0);have hget:=gC .u32 (dg 8 y) ((68-n) / 32) (by rw[gR];omega);have hdl:=xa7 (xa0 8 y) ((68-n) / 32);rw[hd]at hget hdl;have hbit:=xid y (68-n) (by omega) k1 k2;rw[hd]at hbit;have Hbit:=D hbit;have hq8:(68-n) / 32<8:=by omega
   have hr32:(68-n)%32<32:=by omega
   have w36:J.wrap ((68-(n:Int)).tdiv 32)=(((68-n) / 32:Nat):Int):=by
    rw[iU (by omega),IntWalk.i64_in _ (by omega)];omega
   have w40:(68-(n:Int)).tmod 32=(((68-n)%32:Nat):Int):=by
    rw[jB (by omega)];omega
   obtain⟨q,hq⟩:=aP ((68-n) / 32);obtain⟨r,hr⟩:=aP ((68-n)%32);rw[hq]at w36 hget Hbit hq8;rw[hr]at w40 Hbit hr32;obtain⟨t,ht⟩:=aP (y+2 ^ (69-1-n));rw[ht]at k3 k4 HR;have hset:(LK .u32 (dg 8 y)).setIfInBounds q (O .u32 (bits .or .u32 (d:Int) (2 ^ r%4294967296)))=LK .u32 (dg 8 t):=by
    rw[xc2 .u32 (dg 8 y) q (d ||| 2 ^ r) _ (xpz d r hdl hr32),<-ht];exact lD (LK .u32) Hbit.o.1
   have K3:=D k3;have K4:=D k4;clear hd hbit hq hr ht k1 k2 k3 k4 k5;go_wp2_with (first | (refine iL rfl 132 _ rfl _ rfl 132 _ (0,0) _ g1 Tryz.underlying132 rfl (by rw[Hsd.o];exact dF) ?_) | (refine fV rfl 132 _ _ rfl _ rfl rfl (by rw[Hsd.o];exact dF) (by rw[Hsd.o];rfl) (gV _ _) rfl ?_));go_region
   go_wp2_with fail;obtain⟨W,hW⟩:=aP ((wr.alloc (Y (LK .u32 (dg 8 t)) 132)).drew);have gt:W.heap[wr.heap.size]? = some (Y (LK .u32 (dg 8 t)) 132 (0,0)):=by
    rw[<-hW];exact cM _ _ _ rfl
   have hbW:zb wr W:=by rw[<-hW];exact((iR _ _).alloc (iM _) _).drew
   have Hst2:=D (xcb Hst.o hbW);have g02:=Hst2.o.1;rw[hW];clear hW hbW g1;obtain⟨c,Hc⟩:=aQ (decide (val (top p 2)<val (dg 8 (val (dg 8 t) ^ 2))));refine mA (by kernel_rfl) (by kernel_rfl) ?_;refine xa2 rfl 132 _ rfl _ rfl 132 _ _ (fun w' hC=>gM gt hC) Tryz.underlying132 rfl (by rw[Hsd.o];exact dF) ?_;quiet_step (skip);quiet_step (exact jI (xqs _ 2 _ (gR _ _) (xa0 _ _) (by decide) (by decide)));refine xa2 rfl 132 _ rfl _ rfl 132 _ _ (fun w' hC=>gM g02 hC) Tryz.underlying132 rfl (by rw[xht];exact dF) ?_;quiet_step (exact jI (xnk c _ _ _ (gR _ _) (xge _ _) (xa0 _ _) (xjw _ _ hp) Hc.o));quiet_step (skip);refine kY ?_;intro w3 hC;have hb3:zb W w3:=by
    obtain⟨pp,rfl⟩:=hC;exact jX _ _ _
   have Hst3:=D (xcb Hst2.o hb3);have gt3:=gM gt hC;have g13:=Hst3.o.2.1;clear hb3 hC gt g02;rw[K3.o,K4.o,xj2 p 2 (by decide)]at Hc;cases c
   ·have hle:t ^ 2<=p*bp (2*2):=Nat.not_lt.1 (of_decide_eq_false Hc.o);have HR2:=D (HR.o.trans (iP hle));clear hle;go_wp2_with (first | (refine iL rfl 132 _ rfl _ rfl 132 _ (0,0) _ gt3 Tryz.underlying132 rfl (by rw[Hsd.o];exact dF) ?_) | (refine iS rfl 132 _ _ rfl _ _ rfl rfl 132 _ g13 (by rw[Hsd.o];exact dF) (by rw[Hsd.o,Hsd.o]) (gV _ _) ?_));go_roundw
    case rel=>exact⟨n+1,t,by omega,by go_num,HR2,xfb Hst3.o⟩
    case measure=>simp[aG];omega
   ·have hle:¬ t ^ 2<=p*bp (2*2):=Nat.not_le.2 (lZ Hc.o);have HR2:=D (HR.o.trans (iQ hle));clear hle;go_wp2_with fail;go_roundw
    case rel=>exact⟨n+1,y,by omega,by go_num,HR2,Hst3.o⟩
    case measure=>simp[aG];omega
  ·obtain rfl:n=69:=by omega
   have b1:=xa7 (xa0 8 y) 1;have b0:=xa7 (xa0 8 y) 0;have c1:=aZ g1 (gC .u32 (dg 8 y) 1 (by rw[gR];decide));have c0:=aZ g1 (gC .u32 (dg 8 y) 0 (by rw[gR];decide));have hj:=xg0 y;generalize (dg 8 y).getD 1 0=a at *;generalize (dg 8 y).getD 0 0=b at *;have Hj:=D hj;clear hj g1;go_wp2_with fail;go_ret;exact⟨xcm (by rw[Hj.o,<-Hy.o];rfl),Hst.o.2.2.1⟩
theorem xmk(p:Nat)(w:G)(hp:p<=1000):
 aD aO 61 #[O J p,O J 3] w (zB w (O .u64 ((rootN p 3%18446744073709551616:Nat):Int))):=by
 have hsd:∀ v,(LK .u32 (dg 8 v)).size=8:=fun v=>by rw[fE,gR]
 have Hsd:=D hsd;clear hsd;go_enter Tryz.func61,Tryz.ntmps61;go_wp2_with fail;go_loopw [29] (fun i wr=>∃ n y:Nat,n<=69/\i=O J n/\U (rt 69 (p*bp (2*3)) 3 n=y)/\St p 3 w y wr) (fun i _=>69-(aG i).toNat)
 case atStart=>
  refine⟨0,0,by decide,rfl,⟨rfl⟩,?_,?_,?_,?_⟩
  ·rw[fF _ _ _ (by simp<;>omega),cM _ _ _ rfl];rfl
  ·rw[cM _ _ _ (by simp<;>omega)];rfl
  ·exact((iR _ _).alloc (iM _) _).alloc (by simp<;>omega) _
  ·simp
 case round=>
  obtain⟨n,y,hn,rfl,Hy,hst⟩:=hrel;have g1:=hst.2.1;have Hst:=D hst;clear hst;by_cases hlt:n<69
  ·obtain⟨k1,k2,k3,k4,k5⟩:=xjp (k:=3) (by decide) hp (iM 69) (by decide) hlt Hy.o;have HR:=D k5;obtain⟨d,hd⟩:=aP ((dg 8 y).getD ((68-n) / 32) 0);have hget:=gC .u32 (dg 8 y) ((68-n) / 32) (by rw[gR];omega);have hdl:=xa7 (xa0 8 y) ((68-n) / 32);rw[hd]at hget hdl;have hbit:=xid y (68-n) (by omega) k1 k2;rw[hd]at hbit;have Hbit:=D hbit;have hq8:(68-n) / 32<8:=by omega
   have hr32:(68-n)%32<32:=by omega
   have w36:J.wrap ((68-(n:Int)).tdiv 32)=(((68-n) / 32:Nat):Int):=by
    rw[iU (by omega),IntWalk.i64_in _ (by omega)];omega
   have w40:(68-(n:Int)).tmod 32=(((68-n)%32:Nat):Int):=by
    rw[jB (by omega)];omega
   obtain⟨q,hq⟩:=aP ((68-n) / 32);obtain⟨r,hr⟩:=aP ((68-n)%32);rw[hq]at w36 hget Hbit hq8;rw[hr]at w40 Hbit hr32;obtain⟨t,ht⟩:=aP (y+2 ^ (69-1-n));rw[ht]at k3 k4 HR;have hset:(LK .u32 (dg 8 y)).setIfInBounds q (O .u32 (bits .or .u32 (d:Int) (2 ^ r%4294967296)))=LK .u32 (dg 8 t):=by
    rw[xc2 .u32 (dg 8 y) q (d ||| 2 ^ r) _ (xpz d r hdl hr32),<-ht];exact lD (LK .u32) Hbit.o.1
   have K3:=D k3;have K4:=D k4;clear hd hbit hq hr ht k1 k2 k3 k4 k5;go_wp2_with (first | (refine iL rfl 132 _ rfl _ rfl 132 _ (0,0) _ g1 Tryz.underlying132 rfl (by rw[Hsd.o];exact dF) ?_) | (refine fV rfl 132 _ _ rfl _ rfl rfl (by rw[Hsd.o];exact dF) (by rw[Hsd.o];rfl) (gV _ _) rfl ?_));go_region
   go_wp2_with fail;obtain⟨W,hW⟩:=aP ((wr.alloc (Y (LK .u32 (dg 8 t)) 132)).drew);have gt:W.heap[wr.heap.size]? = some (Y (LK .u32 (dg 8 t)) 132 (0,0)):=by
    rw[<-hW];exact cM _ _ _ rfl
   have hbW:zb wr W:=by rw[<-hW];exact((iR _ _).alloc (iM _) _).drew
   have Hst2:=D (xcb Hst.o hbW);have g02:=Hst2.o.1;rw[hW];clear hW hbW g1;obtain⟨c,Hc⟩:=aQ (decide (val (top p 3)<val (dg 8 (val (dg 8 t) ^ 3))));refine mA (by kernel_rfl) (by kernel_rfl) ?_;refine xa2 rfl 132 _ rfl _ rfl 132 _ _ (fun w' hC=>gM gt hC) Tryz.underlying132 rfl (by rw[Hsd.o];exact dF) ?_;quiet_step (skip);quiet_step (exact jI (xqs _ 3 _ (gR _ _) (xa0 _ _) (by decide) (by decide)));refine xa2 rfl 132 _ rfl _ rfl 132 _ _ (fun w' hC=>gM g02 hC) Tryz.underlying132 rfl (by rw[xht];exact dF) ?_;quiet_step (exact jI (xnk c _ _ _ (gR _ _) (xge _ _) (xa0 _ _) (xjw _ _ hp) Hc.o));quiet_step (skip);refine kY ?_;intro w3 hC;have hb3:zb W w3:=by
    obtain⟨pp,rfl⟩:=hC;exact jX _ _ _
   have Hst3:=D (xcb Hst2.o hb3);have gt3:=gM gt hC;have g13:=Hst3.o.2.1;clear hb3 hC gt g02;rw[K3.o,K4.o,xj2 p 3 (by decide)]at Hc;cases c
   ·have hle:t ^ 3<=p*bp (2*3):=Nat.not_lt.1 (of_decide_eq_false Hc.o);have HR2:=D (HR.o.trans (iP hle));clear hle;go_wp2_with (first | (refine iL rfl 132 _ rfl _ rfl 132 _ (0,0) _ gt3 Tryz.underlying132 rfl (by rw[Hsd.o];exact dF) ?_) | (refine iS rfl 132 _ _ rfl _ _ rfl rfl 132 _ g13 (by rw[Hsd.o];exact dF) (by rw[Hsd.o,Hsd.o]) (gV _ _) ?_));go_roundw
    case rel=>exact⟨n+1,t,by omega,by go_num,HR2,xfb Hst3.o⟩
    case measure=>simp[aG];omega
   ·have hle:¬ t ^ 3<=p*bp (2*3):=Nat.not_le.2 (lZ Hc.o);have HR2:=D (HR.o.trans (iQ hle));clear hle;go_wp2_with fail;go_roundw
    case rel=>exact⟨n+1,y,by omega,by go_num,HR2,Hst3.o⟩
    case measure=>simp[aG];omega
  ·obtain rfl:n=69:=by omega
   have b1:=xa7 (xa0 8 y) 1;have b0:=xa7 (xa0 8 y) 0;have c1:=aZ g1 (gC .u32 (dg 8 y) 1 (by rw[gR];decide));have c0:=aZ g1 (gC .u32 (dg 8 y) 0 (by rw[gR];decide));have hj:=xg0 y;generalize (dg 8 y).getD 1 0=a at *;generalize (dg 8 y).getD 0 0=b at *;have Hj:=D hj;clear hj g1;go_wp2_with fail;go_ret;exact⟨xcm (by rw[Hj.o,<-Hy.o];rfl),Hst.o.2.2.1⟩
def hI(p k:Int):Nat:=if p<0\/1000<p\/(k≠2/\k≠3) then 0 else rootN p.toNat k.toNat%18446744073709551616
theorem xml(p k:Int)(w:G)(h:p<0\/1000<p\/(k≠2/\k≠3)):
 aD aO 61 #[O J p,O J k] w (zB w (O .u64 0)):=by
 by_cases h1:p<0
 ·clear h;go_enter Tryz.func61,Tryz.ntmps61;go_wp2_with fail;go_ret;exact⟨rfl,iR _ _⟩
 by_cases h2 : 1000<p
 ·clear h;go_enter Tryz.func61,Tryz.ntmps61;go_wp2_with fail;go_ret;exact⟨rfl,iR _ _⟩
 obtain⟨h3,h4⟩:k≠2/\k≠3:=by omega
 have b3:(k != 2)=true:=by rw[bne_iff_ne];exact h3
 have b4:(k != 3)=true:=by rw[bne_iff_ne];exact h4
 clear h h3 h4;go_enter Tryz.func61,Tryz.ntmps61;go_wp2_with fail;go_ret;exact⟨rfl,iR _ _⟩
theorem xhf(p k:Int)(w:G):
 aD aO 61 #[O J p,O J k] w (zB w (O .u64 (hI p k:Nat))):=by
 unfold hI;by_cases h:p<0\/1000<p\/(k≠2/\k≠3)
 ·rw[iP h];exact xml p k w h
 ·rw[iQ h];obtain⟨a,rfl⟩:=kR (show 0<=p by omega);rw[kL];have hk:k=2\/k=3:=by omega
  rcases hk with rfl | rfl
  ·exact xmj a w (by omega)
  ·exact xmk a w (by omega)
end root
namespace divided
open Go.RowKit
open primm arr
theorem xof(x:Nat)(w:G):
 aD aO 111 #[O J x,aB none 0 0] w fun e w'=>e=.returned (.bool false)/\w=w':=by
 go_enter Tryz.func111,Tryz.ntmps111;go_wp2_with fail;refine wp_loop_rounds 1 ?_;rw[rounds_succ];go_wp2_with fail;go_ret;exact⟨rfl,rfl⟩
theorem xif(x g cap:Nat)(xs:List Nat)(w:G)(hx:x<=1000)(hl:xs.length<=100)(hp:∀ p∈xs,2<=p/\p<=541)
 (hc:∀ j,j<xs.length->w.cell? ⟨g,j,none⟩=some (O J (xs.getD j 0:Nat))):
 aD aO 111 #[O J x,aB (some ⟨g,0,none⟩) xs.length cap] w fun e w'=>e=.returned (.bool (iG xs x))/\w=w':=by
 have Hp:=D hp;have Hc:=D hc;clear hp hc;obtain⟨n,Hn⟩:=aQ xs.length;rw[Hn.o]at hl ⊢;go_enter Tryz.func111,Tryz.ntmps111;go_wp2_with fail;go_loop [9] (fun i=>∃ k:Nat,k<=n/\i=O J k/\U (iG (xs.take k) x=false)) (fun i=>n-(aG i).toNat)
 case atStart=>exact⟨0,iX _,rfl,⟨rfl⟩⟩
 case round=>
  obtain⟨k,hk,rfl,Hd⟩:=hrel;by_cases hlt:k<n
  ·have hcell:=Hc.o k (by rw[Hn.o];exact hlt);have hb : 2<=xs.getD k 0/\xs.getD k 0<=541:=Hp.o _ (by
    rw[iO,iT (by rw[Hn.o];exact hlt)];exact kZ _)
   have Hs:=D (xjv (l:=xs) (k:=k) (by rw[Hn.o];exact hlt));have hit:=xua (l:=xs) (k:=k) (x:=x) (by rw[Hn.o];exact hlt);obtain⟨p,hpp⟩:=aP (xs.getD k 0);rw[hpp]at hcell hb Hs hit;clear hpp;by_cases hm:x%p=0
   ·have Hh:=D (hit hm);have b1:((x:Int)%(p:Int)==0)=true:=lL.2 (by exact_mod_cast hm);clear hit hm;go_wp2_with fail;go_ret;exact⟨ret_b Hh.o.symm,rfl⟩
   ·have b1:((x:Int)%(p:Int)==0)=false:=jV.2 (by exact_mod_cast hm);have Hn2:U (iG (xs.take (k+1)) x=false):=⟨by rw[Hs.o,xeq,Hd.o];simpa using hm⟩;clear hit hm;go_wp2_with fail;go_round
    case rel=>exact⟨k+1,by omega,by go_num,Hn2⟩
    case measure=>simp[aG];omega
  ·obtain rfl:k=n:=by omega
   have Hh:U (iG xs x=false):=⟨by rw[<-Hd.o,lG (by rw[Hn.o];exact iM _)]⟩;go_wp2_with fail;go_ret;exact⟨ret_b Hh.o.symm,rfl⟩
end divided
namespace primes
open Go.RowKit
open primm arr divided
def pv(p:Nat):aE:=O J (p:Int)
def Holds(w:G)(xs:List Nat)(v:aE)(wr:G):Prop:=
 wr.ownsRow w.heap.size 3 1 v xs.length (xs.map pv)/\zb w wr
theorem xfv(w:G):Holds w [] (aB none 0 0) w:=⟨World.ownsRow_nil _ _ _ _,iR _ _⟩
theorem xcs{w wr:G}{xs:List Nat}{v:aE}(h:Holds w xs v wr):
 (v=aB none 0 0/\xs=[])\/∃ g cap,v=aB (some ⟨g,0,none⟩) xs.length cap/\w.heap.size<=g/\g<wr.heap.size/\xs.length<=cap/\∀ j,j<xs.length->wr.cell? ⟨g,j,none⟩=some (O J (xs.getD j 0:Nat)):=by
 obtain⟨⟨h1,h2⟩,h3⟩:=h;rcases h2 with ⟨rfl,h0⟩ | ⟨g,cap,cur,rfl,hb,hg,hn,hm,hs,ht⟩
 ·exact .inl ⟨rfl,List.length_eq_zero_iff.1 h0⟩
 ·refine .inr ⟨g,cap,rfl,hb,?_,hn,fun j hj=>?_⟩
  ·by_cases hlt:g<wr.heap.size
   ·exact hlt
   ·rw[lH (by omega)]at hg;cases hg
  ·rw[cell_of_row wr g j cur _ (0,0) hg];have e:cur[j]? = (cur.toList.take (xs.length*1))[j]? := by
    rw[List.getElem?_take_of_lt (by omega)];simp
   rw[e,ht,mU,iT hj,iO,iT hj];rfl
theorem xdz{w wr w1:G}{xs:List Nat}{v v':aE}{x:Nat}{o:Obj}(h:Holds w xs v wr)(hown:w1.ownsRow w.heap.size 3 1 v' (xs.length+1) (xs.map pv ++ [O J (x:Int)]))(hg:(wr.alloc o).grownBy w1 v.ownBlock):
 Holds w (xs ++ [x]) v' w1:=by
 refine⟨?_,?_⟩
 ·rw[kK,List.map_append];exact hown
 ·have hs:=h.2.size;exact(h.2.alloc hs o).grown hg (by rw[size_alloc];omega) (fun k hk=>(h.1.lt k hk).1)
theorem xio{w wr:G}{xs:List Nat}{v:aE}(h:Holds w xs v wr):w.heap.size<=wr.heap.size:=h.2.size
theorem gL:(aO.info? 3).map (fun i=>(i.zero,i.size,i.bytes))=some (some (O J 0),1,8):=by kernel_rfl
theorem xbg{w:G}{v:aE}{T:Nat}:∀ j u,[v][j]? = some u->(w.alloc (Y #[v] T)).cell? ((⟨w.heap.size,0,none⟩:Addr).add j)=some u:=by
 intro j u hj;match j,hj with
 | 0,hj=>
  simp at hj;subst hj;simp[Addr.add]
theorem xw6(n:Nat)(h1 : 1<=n)(h2:n<=100)(w:G):
 aD aO 60 #[O J (n:Int)] w fun e w'=>∃ v,e=.returned v/\Holds w (pr (n:Int)) v w':=by
 obtain⟨i0,hi,hz0,hz1,hz2⟩:=info_parts gL;have HI:=D (jA hi (jA hz0 (jA hz1 hz2)));clear hi hz0 hz1 hz2;have hst:=xfv w;rw[<-xec]at hst;have Hst:=D hst;clear hst;go_enter Tryz.func60,Tryz.ntmps60;go_wp2_with fail;go_loopw [3,4] (fun v i wr=>∃ x:Nat,2<=x/\x<=542/\i=O J x/\U (Holds w (pl x) v wr)/\(pl x).length<=n) (fun _ i _=>542-(aG i).toNat)
 case atStart=>exact⟨2,by decide,by decide,rfl,Hst,by rw[xec];exact iX _⟩
 case round=>
  obtain⟨x,hx2,hx5,rfl,hf,hle⟩:=hrel;clear Hst;obtain⟨L,HL⟩:=aQ (pl x).length;rw[HL.o]at hle;by_cases hlt:L<n
  ·have hx:x<542:=xjc hx5 (by rw[HL.o];omega);obtain⟨xs,Hxs⟩:=aQ (pl x);have Hpos:U (∀ p∈xs,2<=p/\p<=541):=⟨fun p hp=>xjb (x:=x) (by rw[Hxs.o];exact hp)⟩;rw[Hxs.o]at hf HL;cases hd:iG xs x
   ·have Hnew:U (pl (x+1)=xs ++ [x]):=⟨by rw[xf4 hx2 hx (by rw[Hxs.o];exact hd),Hxs.o]⟩;have HD:=D hd;clear hd;have hsz:=xio hf.o;rcases xcs hf.o with ⟨rfl,rfl⟩ | ⟨g,cap,rfl,hg1,hg2,hcap,hcell⟩
    ·obtain rfl:L=0:=HL.o.symm;go_wp2_with fail;refine(xof _ _).mono ?_;rintro e w0 ⟨rfl,rfl⟩;go_wp2_with (at_builtin;refine kH _ rfl _ _ 59 rfl w.heap.size 3 i0 (O J 0) 1 8 Tryz.underlying59 HI.o.1 HI.o.2.1 HI.o.2.2.1 HI.o.2.2.2 rfl (by decide) _ _ _ rfl (hf.o.1.alloc _) ⟨wr.heap.size,0,none⟩ 1 1 [O J (x:Int)] rfl rfl xbg (fun u hu=>by simp at hu;subst hu;rfl) (by simp[maxLen]) (by simp) (by simp;omega) ?_);intro v' w1 hown' hgrow _;have R:=xdz hf.o hown' hgrow;rw[<-Hnew.o]at R;have HR:=D R;clear hown' hgrow R;go_wp2_with fail;go_roundw
     case rel=>exact⟨x+1,by omega,by omega,by go_num,HR,by rw[Hnew.o];exact hlt⟩
     case measure=>simp[aG];omega
    ·rw[HL.o]at hcap hcell ⊢;have Hown:=D hf.o.1;rw[HL.o]at Hown;have HC:=D hcell;clear hcell;have hL:=xf3 x;rw[Hxs.o,HL.o]at hL;go_wp2_with fail;rw[<-HL.o];refine(xif x g cap xs _ (by omega) (by rw[HL.o];exact hL) Hpos.o (by rw[HL.o];exact HC.o)).mono ?_;rintro e w0 ⟨rfl,rfl⟩;rw[HD.o,HL.o];go_wp2_with (at_builtin;refine kH _ rfl _ _ 59 rfl w.heap.size 3 i0 (O J 0) 1 8 Tryz.underlying59 HI.o.1 HI.o.2.1 HI.o.2.2.1 HI.o.2.2.2 rfl (by decide) _ _ _ rfl (Hown.o.alloc _) ⟨wr.heap.size,0,none⟩ 1 1 [O J (x:Int)] rfl rfl xbg (fun u hu=>by simp at hu;subst hu;rfl) (by unfold maxLen;omega) (by omega) (by simp;omega) ?_);intro v' w1 hown' hgrow _;rw[<-HL.o]at hown' hgrow;have R:=xdz hf.o hown' hgrow;rw[<-Hnew.o]at R;have HR:=D R;clear hown' hgrow R;go_wp2_with fail;go_roundw
     case rel=>exact⟨x+1,by omega,by omega,by go_num,HR,by rw[Hnew.o,kK,HL.o];exact hlt⟩
     case measure=>simp[aG];omega
   ·have Hnew:U (pl (x+1)=xs):=⟨by rw[xja hx2 hx (by rw[Hxs.o];exact hd),Hxs.o]⟩;have HD:=D hd;clear hd;rcases xcs hf.o with ⟨rfl,rfl⟩ | ⟨g,cap,rfl,hg1,hg2,hcap,hcell⟩
    ·exact absurd HD.o (by simp[iG])
    ·rw[HL.o]at hcap hcell hf ⊢;have HC:=D hcell;clear hcell;have hL:=xf3 x;rw[Hxs.o,HL.o]at hL;go_wp2_with fail;rw[<-HL.o];refine(xif x g cap xs _ (by omega) (by rw[HL.o];exact hL) Hpos.o (by rw[HL.o];exact HC.o)).mono ?_;rintro e w0 ⟨rfl,rfl⟩;rw[HD.o,HL.o];have R:=hf.o;rw[<-Hnew.o]at R;have HR:=D R;clear R;go_wp2_with fail;go_roundw
     case rel=>exact⟨x+1,by omega,by omega,by go_num,HR,by rw[Hnew.o,HL.o];exact hle⟩
     case measure=>simp[aG];omega
  ·obtain rfl:n=L:=by omega
   have Hpr:U (pl x=pr (n:Int)):=⟨xjd hx2 hx5 (by intro _;rw[HL.o];simp) (by intro h;rw[HL.o];omega)⟩;rw[Hpr.o]at hf HL;rcases xcs hf.o with ⟨rfl,hnil⟩ | ⟨g,cap,rfl,hg1,hg2,hcap,hcell⟩
   ·have h0:=HL.o;rw[hnil]at h0;simp at h0;omega
   ·rw[HL.o]at hf ⊢;clear hcell hcap;go_wp2_with fail;go_ret;exact⟨_,rfl,hf.o⟩
theorem xw8(n:Int)(h1 : 100<n)(w:G):
 aD aO 60 #[O J n] w fun e w'=>∃ v,e=.returned v/\Holds w (pr n) v w':=by
 obtain⟨i0,hi,hz0,hz1,hz2⟩:=info_parts gL;have HI:=D (jA hi (jA hz0 (jA hz1 hz2)));clear hi hz0 hz1 hz2;have hst:=xfv w;rw[<-xec]at hst;have Hst:=D hst;clear hst;go_enter Tryz.func60,Tryz.ntmps60;go_wp2_with fail;go_loopw [3,4] (fun v i wr=>∃ x:Nat,2<=x/\x<=542/\i=O J x/\U (Holds w (pl x) v wr)/\(pl x).length<=100) (fun _ i _=>542-(aG i).toNat)
 case atStart=>exact⟨2,by decide,by decide,rfl,Hst,by rw[xec];exact iX _⟩
 case round=>
  obtain⟨x,hx2,hx5,rfl,hf,hle⟩:=hrel;clear Hst;obtain⟨L,HL⟩:=aQ (pl x).length;rw[HL.o]at hle;by_cases hlt:L<100
  ·have hx:x<542:=xjc hx5 (by rw[HL.o];omega);obtain⟨xs,Hxs⟩:=aQ (pl x);have Hpos:U (∀ p∈xs,2<=p/\p<=541):=⟨fun p hp=>xjb (x:=x) (by rw[Hxs.o];exact hp)⟩;rw[Hxs.o]at hf HL;cases hd:iG xs x
   ·have Hnew:U (pl (x+1)=xs ++ [x]):=⟨by rw[xf4 hx2 hx (by rw[Hxs.o];exact hd),Hxs.o]⟩;have HD:=D hd;clear hd;have hsz:=xio hf.o;rcases xcs hf.o with ⟨rfl,rfl⟩ | ⟨g,cap,rfl,hg1,hg2,hcap,hcell⟩
    ·obtain rfl:L=0:=HL.o.symm;go_wp2_with fail;refine(xof _ _).mono ?_;rintro e w0 ⟨rfl,rfl⟩;go_wp2_with (at_builtin;refine kH _ rfl _ _ 59 rfl w.heap.size 3 i0 (O J 0) 1 8 Tryz.underlying59 HI.o.1 HI.o.2.1 HI.o.2.2.1 HI.o.2.2.2 rfl (by decide) _ _ _ rfl (hf.o.1.alloc _) ⟨wr.heap.size,0,none⟩ 1 1 [O J (x:Int)] rfl rfl xbg (fun u hu=>by simp at hu;subst hu;rfl) (by simp[maxLen]) (by simp) (by simp;omega) ?_);intro v' w1 hown' hgrow _;have R:=xdz hf.o hown' hgrow;rw[<-Hnew.o]at R;have HR:=D R;clear hown' hgrow R;go_wp2_with fail;go_roundw
     case rel=>exact⟨x+1,by omega,by omega,by go_num,HR,by rw[Hnew.o];exact hlt⟩
     case measure=>simp[aG];omega
    ·rw[HL.o]at hcap hcell ⊢;have Hown:=D hf.o.1;rw[HL.o]at Hown;have HC:=D hcell;clear hcell;have hL:=xf3 x;rw[Hxs.o,HL.o]at hL;go_wp2_with fail;rw[<-HL.o];refine(xif x g cap xs _ (by omega) (by rw[HL.o];exact hL) Hpos.o (by rw[HL.o];exact HC.o)).mono ?_;rintro e w0 ⟨rfl,rfl⟩;rw[HD.o,HL.o];go_wp2_with (at_builtin;refine kH _ rfl _ _ 59 rfl w.heap.size 3 i0 (O J 0) 1 8 Tryz.underlying59 HI.o.1 HI.o.2.1 HI.o.2.2.1 HI.o.2.2.2 rfl (by decide) _ _ _ rfl (Hown.o.alloc _) ⟨wr.heap.size,0,none⟩ 1 1 [O J (x:Int)] rfl rfl xbg (fun u hu=>by simp at hu;subst hu;rfl) (by unfold maxLen;omega) (by omega) (by simp;omega) ?_);intro v' w1 hown' hgrow _;rw[<-HL.o]at hown' hgrow;have R:=xdz hf.o hown' hgrow;rw[<-Hnew.o]at R;have HR:=D R;clear hown' hgrow R;go_wp2_with fail;go_roundw
     case rel=>exact⟨x+1,by omega,by omega,by go_num,HR,by rw[Hnew.o,kK,HL.o];exact hlt⟩
     case measure=>simp[aG];omega
   ·have Hnew:U (pl (x+1)=xs):=⟨by rw[xja hx2 hx (by rw[Hxs.o];exact hd),Hxs.o]⟩;have HD:=D hd;clear hd;rcases xcs hf.o with ⟨rfl,rfl⟩ | ⟨g,cap,rfl,hg1,hg2,hcap,hcell⟩
    ·exact absurd HD.o (by simp[iG])
    ·rw[HL.o]at hcap hcell hf ⊢;have HC:=D hcell;clear hcell;have hL:=xf3 x;rw[Hxs.o,HL.o]at hL;go_wp2_with fail;rw[<-HL.o];refine(xif x g cap xs _ (by omega) (by rw[HL.o];exact hL) Hpos.o (by rw[HL.o];exact HC.o)).mono ?_;rintro e w0 ⟨rfl,rfl⟩;rw[HD.o,HL.o];have R:=hf.o;rw[<-Hnew.o]at R;have HR:=D R;clear R;go_wp2_with fail;go_roundw
     case rel=>exact⟨x+1,by omega,by omega,by go_num,HR,by rw[Hnew.o,HL.o];exact hle⟩
     case measure=>simp[aG];omega
  ·obtain rfl:L=100:=by omega
   have Hpr:U (pl x=pr n):=⟨xjd hx2 hx5 (by intro _;rw[HL.o];omega) (by intro h;rw[HL.o])⟩;rw[Hpr.o]at hf HL;rcases xcs hf.o with ⟨rfl,hnil⟩ | ⟨g,cap,rfl,hg1,hg2,hcap,hcell⟩
   ·have h0:=HL.o;rw[hnil]at h0;simp at h0
   ·rw[HL.o]at hf ⊢;clear hcell hcap;go_wp2_with fail;go_ret;exact⟨_,rfl,hf.o⟩
theorem xw7(n:Int)(w:G)(h:n<=0):
 aD aO 60 #[O J n] w fun e w'=>∃ v,e=.returned v/\Holds w (pr n) v w':=by
 have hp:pr n=[]:=by unfold pr;rw[show n.toNat=0 by omega];rfl
 have hst:=xfv w;rw[<-hp]at hst;have Hst:=D hst;clear hst hp;go_enter Tryz.func60,Tryz.ntmps60;go_wp2_with fail;refine wp_loop_rounds 1 ?_;rw[rounds_succ];go_wp2_with fail;go_ret;exact⟨_,rfl,Hst.o⟩
theorem xql(n:Int)(w:G):
 aD aO 60 #[O J n] w fun e w'=>∃ v,e=.returned v/\Holds w (pr n) v w':=by
 by_cases h:n<=0
 ·exact xw7 n w h
 by_cases h1 : 100<n
 ·exact xw8 n h1 w
 obtain⟨m,rfl⟩:=kR (show 0<=n by omega);exact xw6 m (by omega) (by omega) w
end primes
namespace make
open Go.RowKit
open tabd primm fB arr tabv built root primes
structure Pc (gp n g:Nat) (wr:G):Prop where
 cs:∀ j,j<n->wr.cell? ⟨gp,j,none⟩=some (O J (ph.getD j 0:Nat))
 ne:gp≠g
 lt:gp<wr.heap.size
theorem Pc.call{gp n g:Nat}{wr w1:G}(h:Pc gp n g wr)(hb:zb wr w1):Pc gp n g w1:=
 ⟨fun j hj=>(hb.cell (p:=⟨gp,j,none⟩) h.lt).trans (h.cs j hj),h.ne,iZ h.lt hb.size⟩
theorem Pc.set{gp n g:Nat}{wr:G}(h:Pc gp n g wr)(a:Nat)(v:aE):Pc gp n g (wr.setCell ⟨g,a,none⟩ v):=
 ⟨fun j hj=>by rw[mZ _ _ _ _ (by intro e;injection e with e1;exact h.ne e1.symm)];exact h.cs j hj,h.ne,by rw[size_setCell];exact h.lt⟩
theorem xwu(j:Nat):ph.getD j 0<=541:=by
 rw[iO];by_cases h:j<ph.length
 ·rw[iT h];exact(xqe _ (kZ h)).2
 ·rw[jY (by omega)];decide
theorem xq1(j:Nat)(k:Nat)(hk:k=2\/k=3):hI ((ph.getD j 0:Nat):Int) (k:Int)=rootN (ph.getD j 0) k%18446744073709551616:=by
 have:=xwu j;unfold hI;rw[iQ (by omega),kL,kL]
theorem xmh(j:Nat):hI ((ph.getD j 0:Nat):Int) 3=r3 j:=xq1 j 3 (.inr rfl)
theorem xmg(j:Nat):hI ((ph.getD j 0:Nat):Int) 2=r2 j:=xq1 j 2 (.inl rfl)
theorem xi8{w wr:G}{n:Nat}{v:aE}{g:Nat}(hn:n<=100)(h0 : 0<n)(h:Holds w (pr (n:Int)) v wr)(hg:g<w.heap.size):∃ gp cap,v=aB (some ⟨gp,0,none⟩) n cap/\Pc gp n g wr/\n<=cap:=by
 have hl:(pr (n:Int)).length=n:=by unfold pr;rw[kL,List.length_take,xhc];omega
 rcases xcs h with ⟨-,h1⟩ | ⟨gp,cap,rfl,h1,h2,h3,h4⟩
 ·rw[h1]at hl;simp at hl;omega
 ·rw[hl]at h3 h4 ⊢;refine⟨gp,cap,rfl,⟨fun j hj=>?_,by omega,h2⟩,h3⟩;rw[h4 j hj];unfold pr;rw[kL,iO,List.getElem?_take_of_lt hj,<-iO]
theorem xv0{w w3:G}{C Z:Array aE}(hZ:Z.size=465)(hz:w3.heap[w.heap.size]? = some (Y Z 34 (0,0)))(hlt:w.heap.size<w3.heap.size)(hb:zb w w3)(hC:C.size=465)
 (c1:∀ j,j<24->C[160+j]? = (LK .u64 (rl 168))[j]?) (c2:∀ j,j<25->C[184+j]? = (LK J (tl 24))[j]?) (c3:∀ j,j<256->C[209+j]? = (LK J (zl 256))[j]?):
 Ms 34 w w3.heap.size (fun i=>160<=i) (w3.alloc (Y C 34)):=by
 have hg:=cM w3 (Y C 34) _ rfl;have hc:∀ i,i<465->(w3.alloc (Y C 34)).cell? ⟨w3.heap.size,i,none⟩=C[i]? := fun i _=>cell_of_row _ _ i C _ (0,0) hg
 refine⟨⟨Z,hZ,by rw[fF _ _ _ hlt];exact hz⟩,fun i hi=>⟨⟨C[i],by rw[hc i hi,kC (by omega)]⟩,frozen_of_row _ _ i C _ hg⟩,fun i hi hS=>?_,⟨hlt,by simp⟩,hb.alloc (by omega) _⟩;rw[hc i hi];by_cases h1:i<184
 ·obtain⟨j,rfl⟩:∃ j,i=160+j:=⟨i-160,by omega⟩;rw[c1 j (by omega),xm5 j (by omega),gC _ _ _ (by rw[xc7];omega)]
 by_cases h2:i<209
 ·obtain⟨j,rfl⟩:∃ j,i=184+j:=⟨i-184,by omega⟩;rw[c2 j (by omega),xm6 j (by omega),gC _ _ _ (by rw[xc9];omega)]
 ·obtain⟨j,rfl⟩:∃ j,i=209+j:=⟨i-209,by omega⟩;rw[c3 j (by omega),xm7 j (by omega),gC _ _ _ (by rw[xgi];omega)]
def S1(k i:Nat):Prop:=160<=i\/(72<=i/\i<72+k)
def S2(k i:Nat):Prop:=160<=i\/(72<=i/\i<152)\/i<k
def S3(k i:Nat):Prop:=160<=i\/(72<=i/\i<152)\/i<64\/(152<=i/\i<152+k)\/(64<=i/\i<64+k)
theorem xln(w:G):
 aD aO 16 #[] w (zB w (I TA)):=by
 obtain⟨hz,hsize⟩:=iY dI;obtain⟨Z,HZ⟩:=aQ TZ;rw[HZ.o]at hz;have HZs:U (Z.size=465):=⟨by rw[<-HZ.o];exact xcc⟩;have Hsize:=D hsize;clear hsize;obtain⟨R,HR⟩:=aQ (LK .u64 (rl 168));obtain⟨Uq,HU⟩:=aQ (LK J (tl 24));obtain⟨V,HV⟩:=aQ (LK J (zl 256));obtain⟨C,hC,hCs,c1,c2,c3,hC1⟩:=xtq R Uq V (by rw[<-HR.o,fE,xc7]) (by rw[<-HU.o,fE,xc9]) (by rw[<-HV.o,fE,xgi]) (by rw[<-HR.o];exact gV _ _) (by rw[<-HU.o];exact gV _ _) (by rw[<-HV.o];exact gV _ _);have HC:=D hC;have HCs:=D hCs;have HCC:=D (jA c1 (jA c2 c3));have HC1:=D hC1;clear hC hCs c1 c2 c3 hC1;go_enter Tryz.func16,Tryz.ntmps16;go_wp2_with fail;refine(rounds.xx7 _).mono ?_;rintro e w1 ⟨rfl,hb1⟩;rw[HR.o];go_wp2_with fail;refine(turns.xzx _).mono ?_;rintro e w2 ⟨rfl,hb2⟩;rw[HU.o];go_wp2_with fail;refine(zetas.yak _).mono ?_;rintro e w3 ⟨rfl,hb3⟩;rw[HV.o];have hbA:aF (w.alloc (Y Z 34)).heap.size (w.alloc (Y Z 34)) w3:=(hb1.trans (hb2.mono hb1.size)).trans (hb3.mono (jJ hb1.size hb2.size));have hz3:=(hbA.block w.heap.size (by simp)).trans (cM w (Y Z 34) _ rfl);have hlt3:w.heap.size<w3.heap.size:=by have:=hbA.size;simp at this;omega
 have hb4:zb w w3:=((iR _ _).alloc (iM _) _).trans (hbA.mono (by simp));have Hms:=D (xv0 HZs.o hz3 hlt3 hb4 HCs.o (by rw[HR.o];exact HCC.o.1) (by rw[HU.o];exact HCC.o.2.1) (by rw[HV.o];exact HCC.o.2.2));clear hb1 hb2 hb3 hbA hz3 hb4 HCC;go_wp2_with (first | (refine yac rfl 34 4 5 6 _ _ _ rfl (I R) (I Uq) (I V) rfl rfl rfl C HC.o ?_) | (refine fV rfl 34 _ _ rfl _ rfl rfl (by rw[HCs.o];exact Hsize.o) (by rw[HCs.o];exact HZs.o) HC1.o rfl ?_));clear hz;refine(xql 80 _).mono ?_;rintro e w5 ⟨v,rfl,hh⟩;obtain⟨gp,cap,rfl,hpc,hcap⟩:=xi8 (n:=80) (g:=w3.heap.size) (by decide) (by decide) hh (by simp);have Hms5:U (Ms 34 w w3.heap.size (S1 0) w5):=⟨(Hms.o.call hh.2).mono (by unfold S1;omega)⟩;have Hpc:=D hpc;obtain⟨g,Hg⟩:=aQ w3.heap.size;rw[Hg.o]at Hms5 Hpc hlt3 ⊢;clear hh hpc Hms HC HCs HC1;go_wp2_with fail;go_loopw [13] (fun i wr=>∃ k:Nat,k<=80/\i=O J k/\U (Ms 34 w g (S1 k) wr)/\U (Pc gp 80 g wr)) (fun i _=>80-(aG i).toNat)
 case atStart=>exact⟨0,by decide,rfl,Hms5,Hpc⟩
 case round=>
  obtain⟨k,hk,rfl,Hm,Hp⟩:=hrel;clear Hms5 Hpc;by_cases hlt:k<80
  ·have hpk:=Hp.o.cs k hlt;have Hr:=D (xmh k);obtain⟨q,hq⟩:=aP (ph.getD k 0);rw[hq]at hpk Hr;clear hq;go_wp2_with fail;refine(xhf q 3 _).mono ?_;rintro e w6 ⟨rfl,hb6⟩;rw[Hr.o];have Hm6:=D (Hm.o.call hb6);have Hp6:=D (Hp.o.call hb6);obtain⟨⟨old,hold⟩,hfz⟩:=Hm6.o.th (72+k) (by omega);have Hset:=D (Hm6.o.set (72+k) (by omega) (xm4 k hlt).symm);clear hb6 hpk;go_wp2_with fail;go_roundw
   case rel=>exact⟨k+1,by omega,by go_num,⟨Hset.o.mono (by unfold S1;omega)⟩,⟨Hp6.o.set _ _⟩⟩
   case measure=>simp[aG];omega
  ·obtain rfl:k=80:=by omega
   have Hm2:U (Ms 34 w g (S2 0) wr):=⟨Hm.o.mono (by unfold S1 S2;omega)⟩;clear Hm Hp;go_wp2_with fail;go_loopw [24] (fun i wr=>∃ k:Nat,k<=64/\i=O J k/\U (Ms 34 w g (S2 k) wr)) (fun i _=>64-(aG i).toNat)
   case atStart=>exact⟨0,by decide,rfl,Hm2⟩
   case round=>
    obtain⟨k,hk,rfl,Hm⟩:=hrel;clear Hm2;by_cases hlt:k<64
    ·have hread:=Hm.o.vs (72+k) (by omega) (by unfold S2;omega);rw[xm4 k (by omega)]at hread;obtain⟨⟨old,hold⟩,hfz⟩:=Hm.o.th k (by omega);have Hset:=D (Hm.o.set k (by omega) (v:=O .u32 (((r3 k:Nat):Int) / 4294967296)) (by rw[xr9 k hlt];exact xbw (by omega)));have hr:=r3_lt k;obtain⟨a,ha⟩:=aP (r3 k);rw[ha]at hread Hset hr;clear ha;go_wp2_with fail;go_roundw
     case rel=>exact⟨k+1,by omega,by go_num,⟨Hset.o.mono (by unfold S2;omega)⟩⟩
     case measure=>simp[aG];omega
    ·obtain rfl:k=64:=by omega
     go_wp2_with fail;refine(xql 8 _).mono ?_;rintro e w5 ⟨v,rfl,hh⟩;obtain⟨gp,cap,rfl,hpc,hcap⟩:=xi8 (n:=8) (g:=g) (by decide) (by decide) hh Hm.o.lt.2;have Hms5:U (Ms 34 w g (S3 0) w5):=⟨(Hm.o.call hh.2).mono (by unfold S2 S3;omega)⟩;have Hpc:=D hpc;clear hh hpc Hm;go_wp2_with fail;go_loopw [39] (fun i wr=>∃ k:Nat,k<=8/\i=O J k/\U (Ms 34 w g (S3 k) wr)/\U (Pc gp 8 g wr)) (fun i _=>8-(aG i).toNat)
     case atStart=>exact⟨0,by decide,rfl,Hms5,Hpc⟩
     case round=>
      obtain⟨k,hk,rfl,Hm,Hp⟩:=hrel;clear Hms5 Hpc;by_cases hlt:k<8
      ·have hpk:=Hp.o.cs k hlt;have Hr:=D (xmg k);obtain⟨q,hq⟩:=aP (ph.getD k 0);rw[hq]at hpk Hr;clear hq;go_wp2_with fail;refine(xhf q 2 _).mono ?_;rintro e w6 ⟨rfl,hb6⟩;rw[Hr.o];have Hm6:=D (Hm.o.call hb6);have Hp6:=D (Hp.o.call hb6);obtain⟨⟨old,hold⟩,hfz⟩:=Hm6.o.th (152+k) (by omega);obtain⟨⟨old2,hold2⟩,hfz2⟩:=Hm6.o.th (64+k) (by omega);have Hset:=D ((Hm6.o.set (152+k) (by omega) (xr8 k hlt).symm).set (64+k) (by omega) (v:=O .u32 (((r2 k:Nat):Int) / 4294967296)) (by rw[xsa k hlt];exact xbw (by omega)));have hr:=r2_lt k;obtain⟨a,ha⟩:=aP (r2 k);rw[ha]at Hset hr ⊢;have hn:=nQ w6 ⟨g,152+k,none⟩ (O .u64 (a:Int)) hold;have hn2:(w6.setCell ⟨g,152+k,none⟩ (O .u64 (a:Int))).cell? ⟨g,64+k,none⟩=some old2:=by
        rw[mZ _ _ _ _ (by intro e2;injection e2;omega)];exact hold2
       clear hb6 hpk ha;go_wp2_with fail;go_roundw
       case rel=>exact⟨k+1,by omega,by go_num,⟨Hset.o.mono (by unfold S3;omega)⟩,⟨(Hp6.o.set _ _).set _ _⟩⟩
       case measure=>simp[aG];omega
      ·obtain rfl:k=8:=by omega
       have hall:∀ i,i<465->S3 8 i:=by unfold S3;omega
       have hrg:=Hm.o.range hall;obtain⟨Z0,hZ0,hz0⟩:=Hm.o.z;have HZ0:=D hZ0;have Hb:=D Hm.o.be;obtain⟨T,HT⟩:=aQ TA;have Hts:U (T.size=465):=⟨by rw[<-HT.o];exact xdn⟩;have Hto:U (T.all (·.oneCell')=true):=⟨by rw[<-HT.o];exact xgd⟩;rw[HT.o]at hrg;clear hall Hm Hp hZ0;go_wp2_with (first | (refine mE rfl 34 _ rfl g 0 rfl T.toList _ hrg zY rfl (by rw[jM,Hts.o];exact Hsize.o) ?_) | (refine iS rfl 34 _ _ rfl _ T rfl (by simp[go_sem]) 34 _ hz0 (by rw[Hts.o];exact Hsize.o) (by rw[Hts.o];exact HZ0.o) Hto.o ?_));refine iV (v:=I T) (jC rfl _ _ w.heap.size 34 _ (0,0) _ rfl (jD _ _ _ _ _ _ hz0) zY rfl (by rw[Hts.o];exact Hsize.o)) rfl ?_;exact⟨by rw[HT.o],Hb.o.trans (below_setRow _ _ _ (iM _))⟩
end make
end Go.Proofs.YtomphjajkkddkaaGreatDoor
