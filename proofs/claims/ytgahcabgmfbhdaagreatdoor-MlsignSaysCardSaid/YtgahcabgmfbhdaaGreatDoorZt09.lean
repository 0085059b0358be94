/-
  A signer and an attempt in memory, and plain facts for the walks of mlsign. No function of a program
-/
import Derived.Test.YtgahcabgmfbhdaaGreatDoorZt07
import Derived.Test.YtgahcabgmfbhdaaGreatDoorZt05
import Derived.Test.YtgahcabgmfbhdaaGreatDoorZt08
import Derived.Test.YtgahcabgmfbhdaaGreatDoorZt03
import Derived.Test.YtgahcabgmfbhdaaGreatDoorZt02
import Derived.Test.YtgahcabgmfbhdaaGreatDoorZt01
import Derived.Test.YtgahcabgmfbhdaaGreatDoorProg
import Derived.Lib.QuietBelow
import Derived.Great.BuildSlice
import Derived.OwnWalk
set_option maxRecDepth 100000
set_option maxHeartbeats 16000000
set_option linter.unusedSimpArgs false
set_option linter.unusedVariables false
open Go Go.RowKit
namespace Go.Proofs.YtgahcabgmfbhdaaGreatDoor
namespace mgd
open arr mem keca kstep polys polt pols nttl rndm spok rsdoc mlkm mlsm rkrw helda heldb vary varyn
def SG(gt:Nat)(k l e t a b o s:Int)(vm va vb vl:Value)(mu ms:ByteArray):Array Value:=#[.pointer (some ⟨gt,0,none⟩),.int .i64 k,.int .i64 l,.int .i64 e,.int .i64 t,.int .i64 a,.int .i64 b,.int .i64 o,.int .i64 s,vm,va,vb,vl,.string mu,.string ms]
def AT(vy vw:Value)(h:ByteArray)(c:Nat→Int):Array Value:=(vy :: vw :: Value.string h :: (FL .i64 256 c).toList).toArray
structure SGN (T:Array Value) (S:Sg) (gs gt gm cm ga ca gb cb gl cl:Nat) (w:World):Prop where
 row:w.heap[gs]? = some (.cells (SG gt S.kn S.ln S.e S.t S.a S.b S.o S.s (.slice (some ⟨gm,0,none⟩) S.kn cm) (.slice (some ⟨ga,0,none⟩) S.ln ca) (.slice (some ⟨gb,0,none⟩) S.kn cb) (.slice (some ⟨gl,0,none⟩) S.kn cl) S.mu S.ms) 69 (0,0))
 tab:w.heap[gt]? = some (.cells T 34 (0,0))
 mat:MX w (.slice (some ⟨gm,0,none⟩) S.kn cm) S.kn (fun _=>S.ln) (qX S.rho)
 ha:Holds w 0 (.slice (some ⟨ga,0,none⟩) S.ln ca) S.ln (fun i=>thereR S.ζ 8 (S.A i))
 hb:Holds w 0 (.slice (some ⟨gb,0,none⟩) S.kn cb) S.kn (fun i=>thereR S.ζ 8 (S.B i))
 hl:Holds w 0 (.slice (some ⟨gl,0,none⟩) S.kn cl) S.kn (fun i=>thereR S.ζ 8 (S.C i))
structure OKS (T:Array Value) (Z:Nat→Int) (S:Sg):Prop where
 lat:latt (S.kn:Int) (S.ln:Int) S.e S.t S.a S.b S.o S.s=true
 zt:nthere.ZT T Z
 kt:KT T TL RL
 ez:S.ζ = fun k=>Z k%8380417
 mu:S.mu.size=64
 ms:S.ms.size=64
 rho:S.rho.size=32
theorem xgd{T:Array Value}{Z:Nat→Int}{S:Sg}(h:OKS T Z S):(1≤S.kn∧S.kn≤8)∧(1≤S.ln∧S.ln≤8)∧(S.e=2∨S.e=4)∧(1≤S.t∧S.t≤64)∧(S.a=131072∨S.a=524288)∧(S.b=95232∨S.b=261888)∧(1≤S.o∧S.o≤100)∧(S.s=128∨S.s=192∨S.s=256):=by
 have h:=h.lat;unfold latt upto okg at h;simp only[Bool.and_eq_true,Bool.or_eq_true,decide_eq_true_eq,beq_iff_eq]at h;omega
section
variable {T:Array Value} {S:Sg} {gs gt gm cm ga ca gb cb gl cl:Nat} {w:World}
theorem xh4{w w':World}{v:Value}{R:Nat}{n:Nat→Nat}{x:Nat→Nat→Nat→Int}(h:MX w v R n x)(hb:Below w.heap.size w w'):MX w' v R n x:=by
 obtain⟨G,C,e,h1,h2⟩:=h;refine⟨G,C,e,Nat.lt_of_lt_of_le h1 hb.size,fun r hr=>?_⟩;obtain⟨g,c,h3,h4,h5⟩:=h2 r hr;exact⟨g,c,(hb.cell (p:=⟨G,r,none⟩) h1).trans h3,Nat.lt_of_lt_of_le h4 hb.size,fun j hj k hk=>(hb.cell (p:=⟨g,256*j+k,none⟩) h4).trans (h5 j hj k hk)⟩
theorem SGN.later{w':World}(h:SGN T S gs gt gm cm ga ca gb cb gl cl w)(hb:Below w.heap.size w w'):SGN T S gs gt gm cm ga ca gb cb gl cl w':=
 ⟨(hb.block _ (xac h.row)).trans h.row,(hb.block _ (xac h.tab)).trans h.tab,xh4 h.mat hb,h.ha.later hb,h.hb.later hb,h.hl.later hb⟩
theorem SGN.cell(h:SGN T S gs gt gm cm ga ca gb cb gl cl w)(i:Nat)(v:Value)(hv:(SG gt S.kn S.ln S.e S.t S.a S.b S.o S.s (.slice (some ⟨gm,0,none⟩) S.kn cm) (.slice (some ⟨ga,0,none⟩) S.ln ca) (.slice (some ⟨gb,0,none⟩) S.kn cb) (.slice (some ⟨gl,0,none⟩) S.kn cl) S.mu S.ms)[i]? = some v):w.cell? ⟨gs,i,none⟩=some v:=xab h.row hv
theorem SGN.lts(h:SGN T S gs gt gm cm ga ca gb cb gl cl w):gs<w.heap.size:=xac h.row
theorem SGN.ltt(h:SGN T S gs gt gm cm ga ca gb cb gl cl w):gt<w.heap.size:=xac h.tab
theorem SGN.lat(h:SGN T S gs gt gm cm ga ca gb cb gl cl w):w.rangeAt gs 1 [.int .i64 S.kn,.int .i64 S.ln,.int .i64 S.e,.int .i64 S.t,.int .i64 S.a,.int .i64 S.b,.int .i64 S.o,.int .i64 S.s]:=fun j v hv=>by
 rcases (show j=0∨j=1∨j=2∨j=3∨j=4∨j=5∨j=6∨j=7 by
  have h1:j<8:=by
   rcases Nat.lt_or_ge j 8 with h2 | h2
   ·exact h2
   ·rw[List.getElem?_eq_none (by simpa using h2)]at hv;cases hv
  omega) with rfl | rfl | rfl | rfl | rfl | rfl | rfl | rfl<;>(injection hv with hv;subst hv;exact h.cell _ _ rfl)
end
theorem xer(vy vw:Value)(h:ByteArray)(c:Nat→Int):(AT vy vw h c).size=259:=by simp[AT,xad]
theorem xmg{w:World}{g:Nat}{t:TypeId}{vy vw:Value}{h:ByteArray}{c:Nat→Int}(hr:w.heap[g]? = some (.cells (AT vy vw h c) t (0,0))):w.rangeAt g 3 (FL .i64 256 c).toList:=fun j v hv=>by
 refine xab hr ?_;unfold AT;rw[List.getElem?_toArray,show 3+j=j+1+1+1 by omega,List.getElem?_cons_succ,List.getElem?_cons_succ,List.getElem?_cons_succ];exact hv
theorem at_one(p q:Option Addr)(n1 c1 n2 c2:Nat)(h:ByteArray)(c:Nat→Int):(AT (.slice p n1 c1) (.slice q n2 c2) h c).all (·.oneCell')=true:=by
 have h1:=xbf .i64 256 c;rw[Array.all_eq_true_iff_forall_mem]at h1 ⊢;intro x hx;unfold AT at hx;rw[List.mem_toArray]at hx;simp only[List.mem_cons]at hx;rcases hx with rfl | rfl | rfl | hx
 ·rfl
 ·rfl
 ·rfl
 ·exact h1 x (by simpa using hx)
theorem xpt(gt:Nat)(k l e t a b o s:Int)(p1 p2 p3 p4:Option Addr)(n1 n2 n3 n4 c1 c2 c3 c4:Nat)(mu ms:ByteArray):(SG gt k l e t a b o s (.slice p1 n1 c1) (.slice p2 n2 c2) (.slice p3 n3 c3) (.slice p4 n4 c4) mu ms).all (·.oneCell')=true:=by simp[SG,Value.oneCell']
theorem infoSg:(Tryz.prog.info? 69).map (·.size)=some 15:=by kernel_rfl
theorem infoAtz:(Tryz.prog.info? 116).map (fun i=>(i.zero,i.size))=some (some (.agg (AT (.slice none 0 0) (.slice none 0 0) ⟨#[]⟩ fun _=>0)),259):=by kernel_rfl
theorem infoSgz:(Tryz.prog.info? 69).map (fun i=>(i.zero,i.size))=some (some (.agg #[.pointer none,.int .i64 0,.int .i64 0,.int .i64 0,.int .i64 0,.int .i64 0,.int .i64 0,.int .i64 0,.int .i64 0,.slice none 0 0,.slice none 0 0,.slice none 0 0,.slice none 0 0,.string ⟨#[]⟩,.string ⟨#[]⟩]),15):=by kernel_rfl
theorem infoAt:(Tryz.prog.info? 116).map (·.size)=some 259:=by kernel_rfl
theorem xrf(gt:Nat)(k l e t a b o s:Int)(p1 p2 p3 p4:Option Addr)(n1 n2 n3 n4 c1 c2 c3 c4:Nat)(mu ms:ByteArray):Tryz.prog.built 69 [(0,.pointer (some ⟨gt,0,none⟩)),(1,.agg (zLt k l e t a b o s)),(2,.slice p1 n1 c1),(3,.slice p2 n2 c2),(4,.slice p3 n3 c3),(5,.slice p4 n4 c4),(6,.string mu),(7,.string ms)]=some (SG gt k l e t a b o s (.slice p1 n1 c1) (.slice p2 n2 c2) (.slice p3 n3 c3) (.slice p4 n4 c4) mu ms):=by kernel_rfl
theorem xrc(p q:Option Addr)(n1 c1 n2 c2:Nat)(h:ByteArray)(c:Nat→Int):Tryz.prog.built 116 [(0,.slice p n1 c1),(1,.slice q n2 c2),(2,.string h),(3,.agg (FL .i64 256 c))]=some (AT (.slice p n1 c1) (.slice q n2 c2) h c):=by kernel_rfl
theorem xf7{w:World}{B m k:Nat}{v:Value}{p:Nat→Nat→Int}(h:Holds w B v m p)(hk:k<B)(R:Array Value):Holds (w.setRow k R) B v m p:=by
 obtain⟨g,c,e,h1,h2,h3⟩:=h;refine⟨g,c,e,h1,by simpa [World.setRow] using h2,fun i hi j hj=>?_⟩;rw[←h3 i hi j hj];have hb:(w.setRow k R).heap[g]? = w.heap[g]? := setRow_other _ _ _ _ (by omega);unfold World.cell?;simp only[hb]
def mul(ζ : Nat→Int)(c f:Nat→Int):Nat→Int:=fun k=>(backR ζ 8 (fun i=>(c i*f i)%8380417) k*8347681)%8380417
theorem mul_one(ζ : Nat→Int)(c f:Nat→Int):mul ζ (thereR ζ 8 c) (thereR ζ 8 f)=one ζ c f:=rfl
theorem xg4{P:Program}{ops:Array Oper}{C:World→Prop}{Q:Act→Prop}{rest:List Oper}{o:Oper}{a:Act}(hw:Region.wanted o (yielded ops a.tmps)=true)(ty:TypeId)(x:Operand)(ho:o.op=.load ty x)
 (b n:Nat) (hx:a.eval x=.pointer (some ⟨b,n,none⟩)) (cs:List Value) (d:TypeDesc) (hS:∀ w,C w→w.rangeAt b n cs)
 (hu:P.underlying ty=some d) (hd:d.isRow=true) (hi:(P.info? ty).map (·.size)=some cs.length)
 (h:wpMild P ops C Q rest (a.put o.dst (.agg cs.toArray))):wpMild P ops C Q (o :: rest) a:=
 xen hw (.agg cs.toArray) (fun w hC=>by
  unfold execOp;simp only[ho,hx,Instr.loadAt,Instr.sureAddr,Sem.run_bind,Sem.run_pure,Result.andThen_ok,run_loadVar_mid w b n ty cs d (hS w hC) hu hd hi]) h
theorem ends1{P:Program}{Q:Exit→Act→World→Prop}{W:World}{a:Act}{v1:Vr}(c1:Array Value)(h1:a.eval (.tmp v1.e)=.agg c1)(f1:Fits P v1.ty v1.Z c1)
 (h:∀ p1 w',W.heap.size≤p1→Below W.heap.size W w'→w'.heap[p1]? = some (.cells c1 v1.ty (0,0))→Q .normal (a.put (some v1.d) (.pointer (some ⟨p1,0,none⟩))) w'):EndsN P [v1] Q W a:=by
 refine⟨fun v hv=>?_,fun ps w' hm hi hb=>?_⟩
 ·simp only[List.mem_cons,List.not_mem_nil,or_false]at hv;subst hv;exact⟨c1,h1,f1⟩
 ·obtain⟨p1,d1,e1,l1,k1,r1⟩:=hm v1 (by simp);obtain rfl:d1=c1:=by rw[h1]at k1;injection k1 with k1;exact k1.symm
  have e:puts [v1] ps a=a.put (some v1.d) (.pointer (some ⟨p1,0,none⟩)):=by
   simp only[puts,List.foldr_cons,List.foldr_nil,e1];rfl
  rw[e];exact h p1 w' l1 hb r1
theorem xwk{P:Program}{ops:Array Oper}{C:World→Prop}{Q:Act→Prop}{rest:List Oper}{o:Oper}{a:Act}(hw:Region.wanted o (yielded ops a.tmps)=true)(v:Value)(hv:∀ w,(execOp a.eval o).run P w=.ok (.value v) w)
 (h:wpQuiet P ops C Q rest (a.put o.dst v)):wpQuiet P ops C Q (o :: rest) a:=by
 refine wpQuiet_step fun K hK=>?_
 rw[if_pos hw];exact⟨v,fun w _=>by unfold Oper.quietAt;rw[hv w];exact⟨rfl,rfl⟩,hK _ h⟩
theorem xho{P:Program}{ev:Operand→Value}{o:Oper}(t:TypeId)(parts:Array (Nat × Operand))(ho:o.op=.build t parts)(C:Array Value)(hC:P.built t (parts.map fun (i,x)=>(i,ev x)).toList=some C)(w:World):(execOp ev o).run P w=.ok (.value (.agg C)) w:=by
 unfold execOp;simp only[ho,Sem.run_bind,run_build w t _ C hC,Result.andThen_ok,Sem.run_pure]
theorem xr0{P:Program}{ev:Operand→Value}{o:Oper}(t:TypeId){x0 x1 x2 x3:Operand}{v0 v1 v2 v3:Value}(ho:o.op=.build t #[(0,x0),(1,x1),(2,x2),(3,x3)])(h0:ev x0=v0)(h1:ev x1=v1)(h2:ev x2=v2)(h3:ev x3=v3)(C:Array Value)(hC:P.built t [(0,v0),(1,v1),(2,v2),(3,v3)]=some C)(w:World):(execOp ev o).run P w=.ok (.value (.agg C)) w:=
 xho t _ ho C (by simpa only[List.map_toArray,List.map_cons,List.map_nil,h0,h1,h2,h3] using hC) w
theorem xr1{P:Program}{ev:Operand→Value}{o:Oper}(t:TypeId){x0 x1 x2 x3 x4 x5 x6 x7:Operand}{v0 v1 v2 v3 v4 v5 v6 v7:Value}(ho:o.op=.build t #[(0,x0),(1,x1),(2,x2),(3,x3),(4,x4),(5,x5),(6,x6),(7,x7)])(h0:ev x0=v0)(h1:ev x1=v1)(h2:ev x2=v2)(h3:ev x3=v3)(h4:ev x4=v4)(h5:ev x5=v5)(h6:ev x6=v6)(h7:ev x7=v7)(C:Array Value)(hC:P.built t [(0,v0),(1,v1),(2,v2),(3,v3),(4,v4),(5,v5),(6,v6),(7,v7)]=some C)(w:World):(execOp ev o).run P w=.ok (.value (.agg C)) w:=
 xho t _ ho C (by simpa only[List.map_toArray,List.map_cons,List.map_nil,h0,h1,h2,h3,h4,h5,h6,h7] using hC) w
theorem xm2{P:Program}{ev:Operand→Value}{o:Oper}(t:TypeId)(ho:o.op=.build t #[])(C:Array Value)(hC:P.built t []=some C)(w:World):(execOp ev o).run P w=.ok (.value (.agg C)) w:=
 xho t _ ho C (by simpa only[List.map_toArray,List.map_nil] using hC) w
theorem xr2{ev:Operand→Value}{op:Oper}{x0 x1 x2 x3 x4 x5 x6 x7:Operand}{gt:Nat}{k l e t a b o s:Int}{p1 p2 p3 p4:Option Addr}{n1 n2 n3 n4 c1 c2 c3 c4:Nat}{mu ms:ByteArray}(ho:op.op=.build 69 #[(0,x0),(1,x1),(2,x2),(3,x3),(4,x4),(5,x5),(6,x6),(7,x7)])
 (h0:ev x0=.pointer (some ⟨gt,0,none⟩)) (h1:ev x1=.agg (zLt k l e t a b o s)) (h2:ev x2=.slice p1 n1 c1) (h3:ev x3=.slice p2 n2 c2) (h4:ev x4=.slice p3 n3 c3) (h5:ev x5=.slice p4 n4 c4) (h6:ev x6=.string mu) (h7:ev x7=.string ms) (w:World):
 (execOp ev op).run Tryz.prog w=.ok (.value (.agg (SG gt k l e t a b o s (.slice p1 n1 c1) (.slice p2 n2 c2) (.slice p3 n3 c3) (.slice p4 n4 c4) mu ms))) w:=
 xr1 _ ho h0 h1 h2 h3 h4 h5 h6 h7 _ (xrf _ _ _ _ _ _ _ _ _ _ _ _ _ _ _ _ _ _ _ _ _ _ _) w
def resH(S:Sg)(n:Nat):Value:=if fldm.cbs (tLo S n) S.kn<S.b-S.t*S.e∧fldm.cbs (tCl S n) S.kn<S.b∧(rbith.tot (tHn S n) S.kn:Int)≤S.o then .tuple #[.string ⟨(rbitb.u8s (rbith.lay (tHn S n) S.o.toNat S.kn S.kn)).toArray⟩,.bool true] else .tuple #[.string ⟨#[]⟩,.bool false]
theorem xhd(p:Nat→Nat→Int)(x:Int)(hx : 0<x)(n:Nat):fldm.cbs p n<x↔∀ i,i<n→fldm.cb (p i) 256<x:=by
 induction n with
 | zero=>exact⟨fun _ i hi=>by omega,fun _=>hx⟩
 | succ n ih=>
  rw[fldm.cbs];constructor
  ·intro h i hi;by_cases e:i=n
   ·rw[e];omega
   ·exact ih.1 (by omega) i (by omega)
  ·intro h;have h1:=ih.2 fun i hi=>h i (by omega)
   have h2:=h n (by omega);omega
theorem xrp(f:Nat→Int):fldm.cbs (fun _=>f) 1=fldm.cb f 256:=by
 have:=(fldm.xhc f 256).1;show max 0 (fldm.cb f 256)=_;omega
end mgd
namespace fork
open arr mem polys polt pols polb helda
section
variable {P:Program} {ops:Array Oper} {Q:Exit→Act→World→Prop} {S:World→Prop}
end
theorem xhu{P:Program}{ops:Array Oper}{Q:Exit→Act→World→Prop}{S:World→Prop}{b:Array Bool}{k:Nat}{ks:List Nat}{o:Oper}{rest:List Oper}{a:Act}{w:World}(hw:Region.wanted o (yielded ops a.tmps)=true)(hs:Region.noSelect ops=true)(hf:Region.free .any ops b k=true)(hr:(Region.ready .any ops b).contains k=true)
 (hQ:∀ v c a w,Q (.panic c) (a.put o.dst v) w→Q (.panic c) a w) (ty:TypeId) (x:Operand) (ho:o.op=.load ty x)
 (g n:Nat) (hx:a.eval x=.pointer (some ⟨g,n,none⟩)) (cs:List Value) (d:TypeDesc) (hC:∀ w,S w→w.rangeAt g n cs)
 (hu:P.underlying ty=some d) (hd:d.isRow=true) (hz:(P.info? ty).map (·.size)=some cs.length) (hS:S w)
 (h:HK P ops Q S (b.setIfInBounds k true) rest ks (a.put o.dst (.agg cs.toArray)) w):HK P ops Q S b (o :: rest) (k :: ks) a w:=
 xj3 hw hs hf hr (hQ _) (fun w hw2=>by
  unfold execOp;simp only[ho,hx,Instr.loadAt,Instr.sureAddr,Sem.run_bind,Sem.run_pure,Result.andThen_ok,run_loadVar_mid w g n ty cs d (hC w hw2) hu hd hz]) hS h
theorem xwf{P:Program}{ops:Array Oper}{rest:List Oper}{o:Oper}{a:Act}{w:World}{Q:Exit→Act→World→Prop}(hg:o.guard=none)(t e:TypeId)(x:Operand)(ho:o.op=.buildSlice t 1 #[(0,x)])
 (F:Array Value) (hF:F.size=256) (ie:TypeInfo) (z:Array Value)
 (hu:P.underlying t=some (.slice e)) (hie:P.info? e=some ie) (hz:ie.zero=some (.agg z)) (hsz:ie.size=256) (hx:a.eval x=.agg F)
 (h:wpList P ops Q rest (a.put o.dst (.slice (some ⟨w.heap.size,0,none⟩) 1 1)) (w.alloc (.cells F e))):wpList P ops Q (o :: rest) a w:=by
 refine wpList_buildSlice hg t e 1 _ ho F ie (.agg z) hu hie hz (by rw[hsz];decide) (by rw[hsz];decide) ?_ h;have hc:((#[(0,x)]:Array (Nat × Operand)).map fun (i,x)=>(i,a.eval x)).toList=[(0,Value.agg F)]:=by simp[hx]
 rw[hc,hsz];exact xd5 F _ hF (by rw[Array.size_map,Array.size_range])
end fork
namespace rgd
open arr mem keca polys polt pols saml helda heldb mgd
theorem xnb{P:Program}{Q:Exit→Act→World→Prop}{id:Nat}{a:Act}{w:World}{l:List Oper}(S:World→Prop)(n:Nat)(ks:List Nat)(hm:P.follows .mixedOrders=true)(hn:l.length=n)(hz:ks.length=n)(hall:ks.all (fun k=>decide (k<n))=true)
 (h:∀ ops:Array Oper,Ω (l.toArray=ops)→HK P ops Q S (Array.replicate n false) (ks.filterMap fun k=>l[k]?) ks a w.drew):(Code.region id l.toArray true).wp P Q a w:=by
 subst hn;obtain⟨h1,h2⟩:=xoi l ks hall;refine wp_region_held (S:=S) hm ?_;have h3:=h _ ⟨rfl⟩ h1;rw[h2,hz]at h3;exact h3
theorem xi1{o:Oper}{a:Act}{w:World}{K:Act→World→Prop}{Q:Exit→Act→World→Prop}(x:Operand)(ho:o.op=.buildSlice 67 1 #[(0,x)])(F:Array Value)(hF:F.size=256)(hx:a.eval x=.agg F)
 (h:K (a.put o.dst (.slice (some ⟨w.heap.size,0,none⟩) 1 1)) (w.alloc (.cells F 109))):o.wp Tryz.prog a w K Q:=by
 obtain⟨i0,hi,hz0,hz1,hz2⟩:=tparts infoPoly;refine wp_buildSlice 67 109 1 _ ho F i0 (.agg (FL .i64 256 fun _=>0)) Tryz.underlying67 hi hz0 (by rw[hz1];decide) (by rw[hz1];decide) ?_ h;have hc:((#[(0,x)]:Array (Nat × Operand)).map fun (i,x)=>(i,a.eval x)).toList=[(0,Value.agg F)]:=by simp[hx]
 rw[hc,hz1];exact xd5 F _ hF (by rw[Array.size_map,Array.size_range])
theorem xi2{o:Oper}{a:Act}{w:World}{K:Act→World→Prop}{Q:Exit→Act→World→Prop}(s x:Operand)(ho:o.op=.call { callee:=.builtin .append,args:=#[s,x],argTypes:=#[67,67] })(B n:Nat)(v:Value)(q:Nat→Nat→Int)(F:Array Value)(hF:FL .i64 256 (q n)=F)(hn:n≤1000)
 (hown:w.ownsRow B 109 256 v n (cq q n)) (hs:a.eval s=v) (hx:a.eval x=.slice (some ⟨w.heap.size,0,none⟩) 1 1) (hB:B≤w.heap.size)
 (h:∀ v' w',w'.ownsRow B 109 256 v' (n+1) (cq q (n+1))→Below B w w'→(∀ k,k<w.heap.size→v.ownBlock≠some k→w'.heap[k]? = w.heap[k]?)→K (a.put o.dst v') w'):o.wp Tryz.prog a (w.alloc (.cells F 109)) K Q:=by
 obtain⟨i0,hi,hz0,hz1,hz2⟩:=tparts infoPoly;have hFs:F.size=256:=by rw[←hF];exact xad _ _ _
 have hFo:F.all (·.oneCell')=true:=by rw[←hF];exact xbf _ _ _
 refine wp_append_own _ s x 67 ho B 109 i0 (.agg (FL .i64 256 fun _=>0)) 256 2048 Tryz.underlying67 hi hz0 hz1 hz2 (xad _ _ _) (by decide) v n (cq q n) hs (hown.alloc _) ⟨w.heap.size,0,none⟩ 1 1 F.toList hx (by rw[Array.length_toList,hFs]) (fun j u hu=>xdi hu) (fun u hu=>xd1 hFo u hu) (by unfold maxLen;omega) (by omega) (by rw[size_alloc];omega) ?_;intro v' w' h1 h2 _;refine h v' w' (by rw[cq,hF];exact h1) (((Below.refl B w).alloc hB _).grown h2 (by rw[size_alloc];omega) (fun k hk=>(hown.lt k hk).1)) fun k hk hne=>?_
 rw[h2.block k (by rw[size_alloc];omega) (fun e=>hne e.symm)];exact xaj _ _ _ hk
theorem xwj{ops:Array Oper}{rest:List Oper}{o:Oper}{a:Act}{w:World}{Q:Exit→Act→World→Prop}(hgd:o.guard=none)(s x:Operand)(ho:o.op=.call { callee:=.builtin .append,args:=#[s,x],argTypes:=#[67,67] })(B n:Nat)(v:Value)(q:Nat→Nat→Int)(F:Array Value)(hF:FL .i64 256 (q n)=F)(hn:n≤1000)
 (hown:w.ownsRow B 109 256 v n (cq q n)) (hs:a.eval s=v) (hx:a.eval x=.slice (some ⟨w.heap.size,0,none⟩) 1 1) (hB:B≤w.heap.size)
 (h:∀ v' w',w'.ownsRow B 109 256 v' (n+1) (cq q (n+1))→Below B w w'→wpList Tryz.prog ops Q rest (a.put o.dst v') w'):wpList Tryz.prog ops Q (o :: rest) a (w.alloc (.cells F 109)):=
 wpList_plain hgd fun _ hK=>xi2 s x ho B n v q F hF hn hown hs hx hB fun v' w' h1 h2 _=>hK _ _ (h v' w' h1 h2)
def RG(k l e t a b o s:Int)(vm va vb vl:Value)(mu ms:ByteArray):Array Value:=#[.int .i64 k,.int .i64 l,.int .i64 e,.int .i64 t,.int .i64 a,.int .i64 b,.int .i64 o,.int .i64 s,vm,va,vb,vl,.string mu,.string ms]
theorem infoRg:(Tryz.prog.info? 74).map (fun i=>(i.zero,i.size))=some (some (.agg #[.int .i64 0,.int .i64 0,.int .i64 0,.int .i64 0,.int .i64 0,.int .i64 0,.int .i64 0,.int .i64 0,.slice none 0 0,.slice none 0 0,.slice none 0 0,.slice none 0 0,.string ⟨#[]⟩,.string ⟨#[]⟩]),14):=by kernel_rfl
theorem rg_one(k l e t a b o s:Int)(p1 p2 p3 p4:Option Addr)(n1 n2 n3 n4 c1 c2 c3 c4:Nat)(mu ms:ByteArray):(RG k l e t a b o s (.slice p1 n1 c1) (.slice p2 n2 c2) (.slice p3 n3 c3) (.slice p4 n4 c4) mu ms).all (·.oneCell')=true:=by simp[RG,Value.oneCell']
theorem xre(k l e t a b o s:Int)(p1 p2 p3 p4:Option Addr)(n1 n2 n3 n4 c1 c2 c3 c4:Nat):Tryz.prog.built 74 [(0,.agg (zLt k l e t a b o s)),(1,.slice p1 n1 c1),(2,.slice p2 n2 c2),(3,.slice p3 n3 c3),(4,.slice p4 n4 c4)]=some (RG k l e t a b o s (.slice p1 n1 c1) (.slice p2 n2 c2) (.slice p3 n3 c3) (.slice p4 n4 c4) ⟨#[]⟩ ⟨#[]⟩):=by kernel_rfl
theorem xm3{ev:Operand→Value}{op:Oper}{x0 x1 x2 x3 x4:Operand}{k l e t a b o s:Int}{p1 p2 p3 p4:Option Addr}{n1 n2 n3 n4 c1 c2 c3 c4:Nat}(ho:op.op=.build 74 #[(0,x0),(1,x1),(2,x2),(3,x3),(4,x4)])
 (h0:ev x0=.agg (zLt k l e t a b o s)) (h1:ev x1=.slice p1 n1 c1) (h2:ev x2=.slice p2 n2 c2) (h3:ev x3=.slice p3 n3 c3) (h4:ev x4=.slice p4 n4 c4) (w:World):
 (execOp ev op).run Tryz.prog w=.ok (.value (.agg (RG k l e t a b o s (.slice p1 n1 c1) (.slice p2 n2 c2) (.slice p3 n3 c3) (.slice p4 n4 c4) ⟨#[]⟩ ⟨#[]⟩))) w:=
 xho _ _ ho _ (by simpa only[List.map_toArray,List.map_cons,List.map_nil,h0,h1,h2,h3,h4] using xre _ _ _ _ _ _ _ _ _ _ _ _ _ _ _ _ _ _ _ _) w
end rgd
namespace rfld
open arr mem fldm
theorem xai(x:Int)(w:World):Calls Tryz.prog 136 #[.int .i64 x] w (zE w (.int .i64 (x%8380417))):=by
 obtain⟨z,hz⟩:=zev (x%8380417);obtain⟨y,hy⟩:=zev (x.tmod 8380417);have h:=xlt x 8380417 (by decide);have hb : 0≤z∧z<8380417:=by omega
 rw[hz,hy]at h;rw[hz];rcases h with ⟨h1,h2⟩ | ⟨h1,h2⟩
 ·subst h2;have h3:¬ y<0:=by omega
  clear hz hb;go_enter Tryz.func136,Tryz.ntmps136;go_wp2_with fail;go_ret;exact⟨rfl,rfl⟩
 ·have hw:IntKind.i64.wrap (y+8380417)=z:=zwi;have h2':=ω h2;clear hz hb h2;go_enter Tryz.func136,Tryz.ntmps136;go_wp2_with fail;go_ret;exact⟨by first | rfl | rw[←h2'.out],rfl⟩
end rfld
namespace radd
open arr mem stil polys polt fldm rfld
theorem xcj(f g:Nat→Int)(w:World):
 Calls Tryz.prog 76 #[.agg (FL .i64 256 f),.agg (FL .i64 256 g)] w (zB w (.agg (FL .i64 256 fun i=>(f i+g i)%8380417))):=by
 obtain⟨hz,hsize⟩:=zero_of_info infoP;obtain⟨z,HZ⟩:=xaa (FL .i64 256 fun _=>0);rw[HZ.out]at hz;have Hzs:=zfs HZ;obtain⟨F,HF⟩:∃ F:Nat→Int,Ω (F=fun i=>(f i+g i)%8380417):=⟨_,⟨rfl⟩⟩;have hFi:∀ i,F i=(fun i=>(f i+g i)%8380417) i:=fun i=>by rw[HF.out]
 have HFi:=ω hFi;rw[←HF.out];clear HF hFi;obtain⟨R,HR⟩:=xaa (FL .i64 256 F);have Ri:=zri HR hsize;have Ro:=zro HR;have Rz:=zrz Hzs HR;rw[HR.out];have Hred:=ω xai;clear hsize;go_enter Tryz.func76,Tryz.ntmps76;go_wp2_with fail;clear hz;obtain⟨W,hW⟩:=zev (((w.alloc (.cells (FL .i64 256 f) 109)).alloc (.cells (FL .i64 256 g) 109)).alloc (.cells z 109));obtain⟨b0,b1,b2,hWs,hWb⟩:=three hW;rw[hW];clear hW;have B0:=ω b0;have B1:=ω b1;have BR:=ω b2;have HWs:Ω (w.heap.size+3≤W.heap.size):=⟨by omega⟩;have HWb:=ω hWb;clear hWs hWb b0 b1 b2;go_loopw [6] (fun v wr=>∃ i:Nat,i≤256∧v=.int .i64 (i:Int)∧Ω (At w.heap.size (FL .i64 256 (pt F f i)) 109 W wr)) (fun v _=>256-(intOf v).toNat)
 case atStart=>exact⟨0,Nat.zero_le _,rfl,⟨by rw[xba];exact At.refl B0.out⟩⟩
 case round=>
  obtain⟨i,hi,rfl,A0⟩:=hrel;by_cases hlt:i<256
  ·have hiz:(i:Int)<256:=by omega
   obtain⟨x,hx⟩:=zev (f i);have ca:wr.cell? ⟨w.heap.size,i,none⟩=some (.int .i64 x):=by
    have h9:=xaq A0.out.row i hlt;rw[xc0,hx]at h9;exact h9
   obtain⟨y,hy⟩:=zev (g i);have cb:wr.cell? ⟨w.heap.size+1,i,none⟩=some (.int .i64 y):=by
    rw[←hy];exact xaq (A0.out.other (by have:=HWs.out;omega) (by omega) B1.out) i hlt
   have HV:Ω (F i=(x+y)%8380417):=⟨by rw[HFi.out,hx,hy]⟩;obtain⟨x1,hx1⟩:=xaa (x%8380417);obtain⟨y1,hy1⟩:=xaa (y%8380417);have hs:IntKind.i64.wrap (x1+y1)=x1+y1:=by rw[←hx1.out,←hy1.out,IntKind.wrap_i64];omega
   obtain⟨s,hs1⟩:=xaa (x1+y1);have hs2:s%8380417=F i:=by rw[HV.out,←hs1.out,←hx1.out,←hy1.out];omega
   obtain⟨v,hv⟩:=xaa (s%8380417);have Hx:∀ w1:World,Calls Tryz.prog 136 #[.int .i64 x] w1 (zE w1 (.int .i64 x1)):=fun w1=>by rw[←hx1.out];exact xai x w1
   have Hy:∀ w1:World,Calls Tryz.prog 136 #[.int .i64 y] w1 (zE w1 (.int .i64 y1)):=fun w1=>by rw[←hy1.out];exact xai y w1
   have Hs:∀ w1:World,Calls Tryz.prog 136 #[.int .i64 (x1+y1)] w1 (zE w1 (.int .i64 v)):=fun w1=>by rw[hs1.out,←hv.out];exact xai s w1
   have HU:Ω (upd (pt F f i) i v=pt F f (i+1)):=⟨xa4 F f i v (by rw[←hv.out,hs2])⟩;clear hy hs2;clear hx;go_wp2_with fail;refine xay 12 (by kernel_rfl) (by kernel_rfl) ?_;simp only[List.take_succ_cons,List.take_zero,List.drop_succ_cons,List.drop_zero];repeat still_step
   still_call (Hx _)
   repeat still_step
   still_call (Hy _)
   repeat still_step
   still_call (Hs _)
   repeat still_step
   refine wpStill_nil ?_;clear cb;clear ca;have A1:Ω (At w.heap.size (FL .i64 256 (pt F f i)) 109 W wr.drew):=⟨xag A0.out⟩;clear A0
   with_reducible refine xaf A1 rfl _ _ _ rfl rfl ?_
   refine⟨_,_,_,rfl,rfl,rfl,by rw[xad];exact hlt,?_⟩;intro wn HR;rw[xap,HU.out]at HR;go_wp2_with fail;go_roundw
   case rel=>exact⟨i+1,by omega,by go_num,HR⟩
   case measure=>simp[intOf];omega
  ·obtain rfl:i=256:=by omega
   simp only[Int.cast_ofNat_Int];rw[xa8,HR.out]at A0;have Hrow:=ω A0.out.row;have Hres:Ω (wr.heap[w.heap.size+2]? = some (.cells z 109 (0,0))):=⟨A0.out.other (by have:=HWs.out;omega) (by omega) BR.out⟩;have HB:Ω (Below w.heap.size w wr):=⟨HWb.out.trans (A0.out.below (by have:=HWs.out;omega) (Nat.le_refl _))⟩;clear A0;go_wp2_with (first
    | (refine wpList_load_row rfl 109 _ rfl w.heap.size rfl 109 R (0,0) _ Hrow.out zX rfl Ri.out ?_)
    | (refine wpList_store_row rfl 109 _ _ rfl (w.heap.size+2) R rfl rfl 109 _ Hres.out Ri.out Rz.out Ro.out ?_))
   refine bodyPost_ret_by (v:=.agg R) (results_cell_row rfl _ _ (w.heap.size+2) 109 _ (0,0) _ rfl (setRow_heap _ _ _ _ _ _ Hres.out) zX rfl Ri.out) rfl ?_;exact⟨rfl,HB.out.trans (below_setRow _ _ _ (by omega))⟩
end radd
namespace rscale
open arr mem stil polys polt fldm rfld
theorem xip(f:Nat→Int)(n:Int)(w:World):
 Calls Tryz.prog 170 #[.agg (FL .i64 256 f),.int .i64 n] w (zB w (.agg (FL .i64 256 fun i=>(f i*n)%8380417))):=by
 obtain⟨hz,hsize⟩:=zero_of_info infoP;obtain⟨z,HZ⟩:=xaa (FL .i64 256 fun _=>0);rw[HZ.out]at hz;have Hzs:=zfs HZ;obtain⟨F,HF⟩:∃ F:Nat→Int,Ω (F=fun i=>(f i*n)%8380417):=⟨_,⟨rfl⟩⟩;have hFi:∀ i,F i=(fun i=>(f i*n)%8380417) i:=fun i=>by rw[HF.out]
 have HFi:=ω hFi;rw[←HF.out];clear HF hFi;obtain⟨R,HR⟩:=xaa (FL .i64 256 F);have Ri:=zri HR hsize;have Ro:=zro HR;have Rz:=zrz Hzs HR;rw[HR.out];have Hred:=ω xai;have Hn:Ω (0≤n%8380417∧n%8380417<8380417):=⟨by omega⟩;clear hsize;go_enter Tryz.func170,Tryz.ntmps170;go_wp2_with fail;clear hz;refine(xai n _).mono ?_;rintro e w1 ⟨rfl,hw1⟩;subst hw1;obtain⟨c,hc⟩:=xaa (n%8380417);rw[hc.out];have hcb : 0≤c∧c<8380417:=by have:=Hn.out;rw[hc.out]at this;exact this
 clear Hn;go_wp2_with fail;obtain⟨W,hW⟩:=zev ((w.alloc (.cells (FL .i64 256 f) 109)).alloc (.cells z 109));obtain⟨b0,b1,hWs,hWb⟩:=two hW;rw[hW];clear hW;have B0:=ω b0;have BR:=ω b1;have HWs:Ω (w.heap.size+2≤W.heap.size):=⟨by omega⟩;have HWb:=ω hWb;clear hWs hWb b0 b1;go_loopw [8] (fun v wr=>∃ i:Nat,i≤256∧v=.int .i64 (i:Int)∧Ω (At w.heap.size (FL .i64 256 (pt F f i)) 109 W wr)) (fun v _=>256-(intOf v).toNat)
 case atStart=>exact⟨0,Nat.zero_le _,rfl,⟨by rw[xba];exact At.refl B0.out⟩⟩
 case round=>
  obtain⟨i,hi,rfl,A0⟩:=hrel;by_cases hlt:i<256
  ·have hiz:(i:Int)<256:=by omega
   obtain⟨x,hx⟩:=zev (f i);have ca:wr.cell? ⟨w.heap.size,i,none⟩=some (.int .i64 x):=by
    have h9:=xaq A0.out.row i hlt;rw[xc0,hx]at h9;exact h9
   have HV:Ω (F i=(x*c)%8380417):=⟨by rw[HFi.out,hx,←hc.out,Int.mul_emod,Int.mul_emod x (n%8380417),Int.emod_emod]⟩;obtain⟨x1,hx1⟩:=xaa (x%8380417);have hxb : 0≤x1∧x1<8380417:=by rw[←hx1.out];omega
   have hp : 0≤x1*c∧x1*c≤8380417*8380417:=⟨Int.mul_nonneg hxb.1 hcb.1,Int.le_trans (Int.mul_le_mul_of_nonneg_right (Int.le_of_lt hxb.2) hcb.1) (Int.mul_le_mul_of_nonneg_left (Int.le_of_lt hcb.2) (by decide))⟩;have hs:IntKind.i64.wrap (x1*c)=x1*c:=zwi;have hs2:(x1*c)%8380417=F i:=by rw[HV.out,←hx1.out,Int.mul_emod,Int.emod_emod,←Int.mul_emod]
   obtain⟨v,hv⟩:=xaa ((x1*c)%8380417);have Hx:∀ w1:World,Calls Tryz.prog 136 #[.int .i64 x] w1 fun e w'=>e=.returned (.int .i64 x1)∧w1=w':=fun w1=>by rw[←hx1.out];exact(xai x w1).mono fun _ _ h=>⟨h.1,h.2.symm⟩
   have Hs:∀ w1:World,Calls Tryz.prog 136 #[.int .i64 (x1*c)] w1 fun e w'=>e=.returned (.int .i64 v)∧w1=w':=fun w1=>by rw[←hv.out];exact(xai _ w1).mono fun _ _ h=>⟨h.1,h.2.symm⟩
   have HU:Ω (upd (pt F f i) i v=pt F f (i+1)):=⟨xa4 F f i v (by rw[←hv.out,hs2])⟩;clear hs2 hp hxb;clear hx;go_wp2_with fail;refine(Hx _).mono ?_;rintro e w3 ⟨rfl,hw3⟩;subst hw3;go_wp2_with fail;refine(Hs _).mono ?_;rintro e w3 ⟨rfl,hw3⟩;subst hw3;clear ca;have A1:Ω (At w.heap.size (FL .i64 256 (pt F f i)) 109 W wr):=A0;clear A0;go_wp2_with ((with_reducible refine xaf A1 rfl _ _ _ rfl rfl ?_);refine⟨_,_,_,rfl,rfl,rfl,(by rw[xad];exact hlt),?_⟩;intro wn HR;rw[xap,HU.out]at HR);go_roundw
   case rel=>exact⟨i+1,by omega,by go_num,HR⟩
   case measure=>simp[intOf];omega
  ·obtain rfl:i=256:=by omega
   simp only[Int.cast_ofNat_Int];rw[xa8,HR.out]at A0;have Hrow:=ω A0.out.row;have Hres:Ω (wr.heap[w.heap.size+1]? = some (.cells z 109 (0,0))):=⟨A0.out.other (by have:=HWs.out;omega) (by omega) BR.out⟩;have HB:Ω (Below w.heap.size w wr):=⟨HWb.out.trans (A0.out.below (by have:=HWs.out;omega) (Nat.le_refl _))⟩;clear A0;go_wp2_with (first
    | (refine wpList_load_row rfl 109 _ rfl w.heap.size rfl 109 R (0,0) _ Hrow.out zX rfl Ri.out ?_)
    | (refine wpList_store_row rfl 109 _ _ rfl (w.heap.size+1) R rfl rfl 109 _ Hres.out Ri.out Rz.out Ro.out ?_))
   refine bodyPost_ret_by (v:=.agg R) (results_cell_row rfl _ _ (w.heap.size+1) 109 _ (0,0) _ rfl (setRow_heap _ _ _ _ _ _ Hres.out) zX rfl Ri.out) rfl ?_;exact⟨rfl,HB.out.trans (below_setRow _ _ _ (by omega))⟩
end rscale
namespace rntimes
open arr mem stil polys polt fldm rfld
theorem xcs(f g:Nat→Int)(w:World):
 Calls Tryz.prog 132 #[.agg (FL .i64 256 f),.agg (FL .i64 256 g)] w (zB w (.agg (FL .i64 256 fun i=>(f i*g i)%8380417))):=by
 obtain⟨hz,hsize⟩:=zero_of_info infoP;obtain⟨z,HZ⟩:=xaa (FL .i64 256 fun _=>0);rw[HZ.out]at hz;have Hzs:=zfs HZ;obtain⟨F,HF⟩:∃ F:Nat→Int,Ω (F=fun i=>(f i*g i)%8380417):=⟨_,⟨rfl⟩⟩;have hFi:∀ i,F i=(fun i=>(f i*g i)%8380417) i:=fun i=>by rw[HF.out]
 have HFi:=ω hFi;rw[←HF.out];clear HF hFi;obtain⟨R,HR⟩:=xaa (FL .i64 256 F);have Ri:=zri HR hsize;have Ro:=zro HR;have Rz:=zrz Hzs HR;rw[HR.out];have Hred:=ω xai;clear hsize;go_enter Tryz.func132,Tryz.ntmps132;go_wp2_with fail;clear hz;obtain⟨W,hW⟩:=zev (((w.alloc (.cells (FL .i64 256 f) 109)).alloc (.cells (FL .i64 256 g) 109)).alloc (.cells z 109));obtain⟨b0,b1,b2,hWs,hWb⟩:=three hW;rw[hW];clear hW;have B0:=ω b0;have B1:=ω b1;have BR:=ω b2;have HWs:Ω (w.heap.size+3≤W.heap.size):=⟨by omega⟩;have HWb:=ω hWb;clear hWs hWb b0 b1 b2;go_loopw [6] (fun v wr=>∃ i:Nat,i≤256∧v=.int .i64 (i:Int)∧Ω (At w.heap.size (FL .i64 256 (pt F f i)) 109 W wr)) (fun v _=>256-(intOf v).toNat)
 case atStart=>exact⟨0,Nat.zero_le _,rfl,⟨by rw[xba];exact At.refl B0.out⟩⟩
 case round=>
  obtain⟨i,hi,rfl,A0⟩:=hrel;by_cases hlt:i<256
  ·have hiz:(i:Int)<256:=by omega
   obtain⟨x,hx⟩:=zev (f i);have ca:wr.cell? ⟨w.heap.size,i,none⟩=some (.int .i64 x):=by
    have h9:=xaq A0.out.row i hlt;rw[xc0,hx]at h9;exact h9
   obtain⟨y,hy⟩:=zev (g i);have cb:wr.cell? ⟨w.heap.size+1,i,none⟩=some (.int .i64 y):=by
    rw[←hy];exact xaq (A0.out.other (by have:=HWs.out;omega) (by omega) B1.out) i hlt
   have HV:Ω (F i=(x*y)%8380417):=⟨by rw[HFi.out,hx,hy]⟩;obtain⟨x1,hx1⟩:=xaa (x%8380417);obtain⟨y1,hy1⟩:=xaa (y%8380417);have hxb : 0≤x1∧x1<8380417:=by rw[←hx1.out];omega
   have hyb : 0≤y1∧y1<8380417:=by rw[←hy1.out];omega
   have hp : 0≤x1*y1∧x1*y1≤8380417*8380417:=⟨Int.mul_nonneg hxb.1 hyb.1,Int.le_trans (Int.mul_le_mul_of_nonneg_right (Int.le_of_lt hxb.2) hyb.1) (Int.mul_le_mul_of_nonneg_left (Int.le_of_lt hyb.2) (by decide))⟩;have hs0:IntKind.i64.wrap (x1*y1)=x1*y1:=zwi;have hmm:=Int.mul_emod x y 8380417;rw[hx1.out,hy1.out]at hmm;obtain⟨s,hs1⟩:=xaa (x1*y1);have hs2:s%8380417=F i:=by rw[HV.out,←hs1.out,hmm]
   obtain⟨v,hv⟩:=xaa (s%8380417);have hs:IntKind.i64.wrap (x1*y1)=s:=by rw[hs0];exact hs1.out
   have hsn : 0≤s:=by rw[←hs1.out];exact hp.1
   have hst:s.tmod 8380417=v:=by rw[Int.tmod_eq_emod_of_nonneg hsn];exact hv.out
   have hsv:s%8380417=v:=hv.out;have Hx:∀ w1:World,Calls Tryz.prog 136 #[.int .i64 x] w1 (zE w1 (.int .i64 x1)):=fun w1=>by rw[←hx1.out];exact xai x w1
   have Hy:∀ w1:World,Calls Tryz.prog 136 #[.int .i64 y] w1 (zE w1 (.int .i64 y1)):=fun w1=>by rw[←hy1.out];exact xai y w1
   have HU:Ω (upd (pt F f i) i v=pt F f (i+1)):=⟨xa4 F f i v (by rw[←hv.out,hs2])⟩;clear hy hs2 hmm hp hxb hyb hs0;clear hx;go_wp2_with fail;refine xay 12 (by kernel_rfl) (by kernel_rfl) ?_;simp only[List.take_succ_cons,List.take_zero,List.drop_succ_cons,List.drop_zero];repeat still_step
   still_call (Hx _)
   repeat still_step
   still_call (Hy _)
   repeat still_step
   refine wpStill_nil ?_;clear cb;clear ca;have A1:Ω (At w.heap.size (FL .i64 256 (pt F f i)) 109 W wr.drew):=⟨xag A0.out⟩;clear A0
   with_reducible refine xaf A1 rfl _ _ _ rfl rfl ?_
   refine⟨_,_,_,rfl,rfl,rfl,by rw[xad];exact hlt,?_⟩;intro wn HR;rw[xap,HU.out]at HR;go_wp2_with fail;go_roundw
   case rel=>exact⟨i+1,by omega,by go_num,HR⟩
   case measure=>simp[intOf];omega
  ·obtain rfl:i=256:=by omega
   simp only[Int.cast_ofNat_Int];rw[xa8,HR.out]at A0;have Hrow:=ω A0.out.row;have Hres:Ω (wr.heap[w.heap.size+2]? = some (.cells z 109 (0,0))):=⟨A0.out.other (by have:=HWs.out;omega) (by omega) BR.out⟩;have HB:Ω (Below w.heap.size w wr):=⟨HWb.out.trans (A0.out.below (by have:=HWs.out;omega) (Nat.le_refl _))⟩;clear A0;go_wp2_with (first
    | (refine wpList_load_row rfl 109 _ rfl w.heap.size rfl 109 R (0,0) _ Hrow.out zX rfl Ri.out ?_)
    | (refine wpList_store_row rfl 109 _ _ rfl (w.heap.size+2) R rfl rfl 109 _ Hres.out Ri.out Rz.out Ro.out ?_))
   refine bodyPost_ret_by (v:=.agg R) (results_cell_row rfl _ _ (w.heap.size+2) 109 _ (0,0) _ rfl (setRow_heap _ _ _ _ _ _ Hres.out) zX rfl Ri.out) rfl ?_;exact⟨rfl,HB.out.trans (below_setRow _ _ _ (by omega))⟩
end rntimes
namespace rnthere
open arr mem stil polys polt nttm nttp nttl
theorem infoT:(Tryz.prog.info? 34).map (·.size)=some 465:=by kernel_rfl
theorem halves(m:Nat)(h:m<8) : 1≤128 / 2 ^ m∧128 / 2 ^ m=2 ^ (7-m)∧128 / 2 ^ m / 2=128 / 2 ^ (m+1)∧2*(128 / 2 ^ m)*2 ^ m=256∧2 ^ m≤128∧1≤2 ^ m∧128 / 2 ^ m≤128:=by
 have key:∀ m:Fin 8,1≤128 / 2 ^ m.val∧128 / 2 ^ m.val=2 ^ (7-m.val)∧128 / 2 ^ m.val / 2=128 / 2 ^ (m.val+1)∧2*(128 / 2 ^ m.val)*2 ^ m.val=256∧2 ^ m.val≤128∧1≤2 ^ m.val∧128 / 2 ^ m.val≤128:=by decide +kernel
 exact key ⟨m,h⟩
theorem xn2{z y:Int}(hz : 0≤z∧z<8380417)(hy : 0≤y∧y<8380417):IntKind.i64.wrap (z*y)=z*y∧0≤z*y:=by
 have hp : 0≤z*y∧z*y≤8380417*8380417:=⟨Int.mul_nonneg hz.1 hy.1,Int.le_trans (Int.mul_le_mul_of_nonneg_right (Int.le_of_lt hz.2) hy.1) (Int.mul_le_mul_of_nonneg_left (Int.le_of_lt hy.2) (by decide))⟩;exact⟨by rw[IntKind.wrap_i64];omega,hp.1⟩
theorem xfm(T:Array Value)(Z:Nat→Int)(f:Nat→Int)(w:World)(hT:∀ k,k<256→T[209+k]? = some (.int .i64 (Z k))):
 Calls Tryz.prog 131 #[.agg T,.agg (FL .i64 256 f)] w (zB w (.agg (FL .i64 256 (thereR (fun k=>Z k%8380417) 8 f)))):=by
 obtain⟨ζ,hζ⟩:=xaa (fun k=>Z k%8380417);have Hζ : Ω (∀ k,Z k%8380417 = ζ k):=⟨fun k=>by rw[←hζ.out]⟩;rw[hζ.out];clear hζ;obtain⟨hz,hsize⟩:=zero_of_info infoP;obtain⟨z,HZ⟩:=xaa (FL .i64 256 fun _=>0);rw[HZ.out]at hz;have Hzs:=zfs HZ;obtain⟨R,HR⟩:=xaa (FL .i64 256 (thereR ζ 8 f));have Ri:=zri HR hsize;have Ro:=zro HR;have Rz:=zrz Hzs HR;have HT:=ω hT;have Hred:=ω rfld.xai;rw[HR.out];obtain⟨F,HF⟩:=xaa (FL .i64 256 f);rw[HF.out];obtain⟨V,hV⟩:=zev (((w.alloc (.cells T 34)).alloc (.cells F 109)).alloc (.cells z 109));obtain⟨b0,b1,b2,hVs,hVb⟩:=three hV;have D0:=ω b0;have D2:=ω b2;have HVB:=ω hVb;have HVs:=ω hVs;have HV:=ω hV;obtain⟨r,hr⟩:∃ r:Nat→Int,Ω (r=red f):=⟨_,⟨rfl⟩⟩;have Hr:Ω (∀ i,r i=f i%8380417):=⟨fun i=>by rw[hr.out];rfl⟩;have Hr0:Ω (FL .i64 256 r=FL .i64 256 (thereR ζ 0 f)):=⟨by rw[hr.out];rfl⟩;have A00:Ω (At (w.heap.size+1) (FL .i64 256 (pt r f 0)) 109 V V):=⟨by rw[xba,HF.out];exact At.refl b1⟩;clear b0 b1 b2 hVs hVb hV HZ hsize hT HF hr;go_enter Tryz.func131,Tryz.ntmps131;go_wp2_with (rw[HV.out]);clear hz;go_loopw [12] (fun v wr=>∃ i:Nat,i≤256∧v=.int .i64 (i:Int)∧Ω (At (w.heap.size+1) (FL .i64 256 (pt r f i)) 109 V wr)) (fun v _=>256-(intOf v).toNat)
 case atStart=>exact⟨0,Nat.zero_le _,rfl,A00⟩
 case round=>
  clear A00;obtain⟨i,hi,rfl,A0⟩:=hrel;by_cases hlt:i<256
  ·have hiz:(i:Int)<256:=by omega
   obtain⟨x,hx⟩:=zev (f i);have ca:wr.cell? ⟨w.heap.size+1,i,none⟩=some (.int .i64 x):=by
    have h9:=xaq A0.out.row i hlt;rw[xc0,hx]at h9;exact h9
   obtain⟨x1,hx1⟩:=xaa (x%8380417);have Hx:∀ w1:World,Calls Tryz.prog 136 #[.int .i64 x] w1 (zE w1 (.int .i64 x1)):=fun w1=>by rw[←hx1.out];exact Hred.out x w1
   have HU:Ω (upd (pt r f i) i x1=pt r f (i+1)):=⟨xa4 r f i x1 (by rw[Hr.out,hx,hx1.out])⟩;have Hx:=ω Hx;clear hx hx1;go_wp2_with fail;refine(Hx.out _).mono ?_;rintro e wr ⟨rfl,rfl⟩;clear ca;go_wp2_with ((with_reducible refine xaf A0 rfl _ _ _ rfl rfl ?_);refine⟨_,_,_,rfl,rfl,rfl,(by rw[xad];exact hlt),?_⟩;intro wn HRn;rw[xap,HU.out]at HRn);go_roundw
   case rel=>exact⟨i+1,by omega,by go_num,HRn⟩
   case measure=>simp[intOf];omega
  ·obtain rfl:i=256:=by omega
   simp only[Int.cast_ofNat_Int];rw[xa8,Hr0.out]at A0;go_wp2_with fail;rename World=>w2
   go_loopw [7,6] (fun sv k wr=>∃ m:Nat,m≤8∧sv=.int .i64 ((128 / 2 ^ m:Nat):Int)∧k=.int .i64 ((2 ^ m-1:Nat):Int)∧Ω (At (w.heap.size+1) (FL .i64 256 (thereR ζ m f)) 109 V wr)) (fun sv _ _=>(intOf sv).toNat)
   case atStart=>exact⟨0,Nat.zero_le _,rfl,rfl,A0⟩
   case round=>
    clear A0;obtain⟨m,hm,rfl,rfl,A0⟩:=hrel;by_cases hlt:m<8
    ·obtain⟨h1,h2,h3,h4,h5,h6,h7⟩:=halves m hlt;obtain⟨s',hs'⟩:∃ s',128 / 2 ^ (m+1)=s':=⟨_,rfl⟩;obtain⟨s,hs⟩:=zev (128 / 2 ^ m);rw[hs',hs]at h3;rw[hs]at h1 h2 h4 h7 ⊢;have hnext:Ω (∀ j,j<256→dn (ly ζ (2 ^ m) s) s (thereR ζ m f) (2 ^ m*s) j=thereR ζ (m+1) f j):=⟨fun j hj=>by
      rw[xhk (ly ζ (2 ^ m) s) (2 ^ m) s (by omega) _ j (by omega),h2];rfl⟩
     have hKn:Ω (2 ^ (m+1)-1=2 ^ m-1+2 ^ m):=⟨by rw[Nat.pow_succ];omega⟩;obtain⟨K,hK⟩:=zev (2 ^ m);rw[hK]at hnext hKn h4 h5 h6 ⊢;obtain⟨h,hh⟩:=xaa (thereR ζ m f);have Hh:Ω (∀ j,0≤h j∧h j<8380417):=⟨fun j=>by rw[←hh.out];exact xp5 ζ m f j⟩;rw[hh.out]at hnext A0;obtain⟨q,hq⟩:=zev (K-1);have Hq:Ω (q+1=K):=⟨by omega⟩;rw[hq]at hKn ⊢;have hsz:(1:Int)≤(s:Int):=by omega
     have H4:=ω h4;have Hs:=ω hs';have H3:=ω h3;have Hm:=ω hlt;have Hsb:=ω (And.intro h1 h7);have HK:=ω (And.intro h6 h5);clear h1 h2 h3 h4 h5 h6 h7 hs hs' hK hh hq hlt;go_wp2_with fail;rename World=>w3
     go_loopw [8,6] (fun fv k wr=>∃ t:Nat,t≤K∧fv=.int .i64 ((2*s*t:Nat):Int)∧k=.int .i64 ((q+t:Nat):Int)∧Ω (At (w.heap.size+1) (FL .i64 256 (dn (ly ζ K s) s h (t*s))) 109 V wr)) (fun fv _ _=>256-(intOf fv).toNat)
     case atStart=>exact⟨0,Nat.zero_le _,by rw[Nat.mul_zero];rfl,rfl,⟨by rw[Nat.zero_mul,xhm];exact A0.out⟩⟩
     case round=>
      clear A0;obtain⟨t,ht,rfl,rfl,A1⟩:=hrel;by_cases hlt2:t<K
      ·have h256:=H4.out;obtain⟨d,hd⟩:=zev (2*s);obtain⟨b,hb⟩:=zev (2*s*t);have hbd:b+d≤256:=by
        have h1:d*(t+1)≤d*K:=Nat.mul_le_mul_left _ hlt2;rw[Nat.mul_succ,←hd,hb]at h1;omega
       have hbd2:b+d=2*s*(t+1):=by rw[Nat.mul_succ,hb,hd]
       rw[hb];obtain⟨k,hk⟩:=zev (K+t);obtain⟨c,hc⟩:=zev (q+t);rw[hc];have hck:c+1=k:=by have:=Hq.out;omega
       have hk256:Ω (k<256):=⟨by have:=HK.out;omega⟩;have hkz:(k:Int)<256:=by have:=hk256.out;omega
       have hbz:(b:Int)<256:=by have:=Hsb.out;omega
       have f1:IntKind.i64.wrap ((c:Int)+1)=(k:Int):=by rw[IntKind.wrap_i64];have:=hk256.out;omega
       have f4:IntKind.i64.wrap (2*(s:Int))=(d:Int):=by rw[IntKind.wrap_i64];have:=Hsb.out;omega
       have f5:IntKind.i64.wrap ((b:Int)+(d:Int))=((b+d:Nat):Int):=zwi;obtain⟨bd,hbdn⟩:=zev (b+d);rw[hbdn]at f5 hbd2;obtain⟨bs,hbs⟩:=zev (b+s);have f6:IntKind.i64.wrap ((b:Int)+(s:Int))=(bs:Int):=by rw[IntKind.wrap_i64];have:=Hsb.out;omega
       have E0:wr.heap[w.heap.size]? = some (.cells T 34 (0,0)):=A1.out.other (xac D0.out) (by omega) D0.out;obtain⟨x,hx⟩:=xaa (Z k);have cz:wr.cell? ⟨w.heap.size,209+k,none⟩=some (.int .i64 x):=by rw[←hx.out];exact xab E0 (HT.out k hk256.out)
       have Hx:Ω (∀ w1:World,Calls Tryz.prog 136 #[.int .i64 x] w1 fun e w'=>e=.returned (.int .i64 (ζ k))∧w1=w'):=⟨fun w1=>by rw[←Hζ.out k,hx.out];exact(Hred.out x w1).mono fun _ _ h=>⟨h.1,h.2.symm⟩⟩;obtain⟨y,hy⟩:=xaa (ζ k);have Hyb:Ω (0≤y∧y<8380417):=⟨by rw[←hy.out,←Hζ.out k];exact⟨Int.emod_nonneg _ (by decide),Int.emod_lt_of_pos _ (by decide)⟩⟩;rw[hy.out]at Hx;have Hly:Ω (∀ p,p<s→ly ζ K s h (2*s*t+p)=h (b+p)+y*h (b+p+s)∧ly ζ K s h (2*s*t+p+s)=h (b+p)-y*h (b+p+s)):=⟨fun p hp=>by
        have h9:=xnn ζ K (t:=t) hp h;rw[hk,hy.out,hb]at h9;rw[hb];exact h9⟩
       have Hb:=ω hb;have Hbd:=ω hbd2;have Hle:Ω (bd≤256∧bs=b+s∧bd=b+d∧d=2*s):=⟨by omega⟩;have Hk:=ω (show q+(t+1)=k by omega);have Ht:=ω hlt2;clear hd hb hbd hbd2 hbdn hbs hk hc hck E0 hx hy h256 hlt2;go_wp2_with fail;refine(Hx.out _).mono ?_;rintro e w5 ⟨rfl,rfl⟩;clear cz;go_wp2_with fail;rename World=>w4
       go_loopw [10] (fun iv wr=>∃ p:Nat,p≤s∧iv=.int .i64 ((b+p:Nat):Int)∧Ω (At (w.heap.size+1) (FL .i64 256 (dn (ly ζ K s) s h (t*s+p))) 109 V wr)) (fun iv _=>256-(intOf iv).toNat)
       case atStart=>exact⟨0,Nat.zero_le _,rfl,A1⟩
       case round=>
        clear A1;obtain⟨p,hp,rfl,A2⟩:=hrel;obtain⟨lo,hlo⟩:=zev (b+p);rw[hlo];by_cases hlt3:p<s
        ·have hle:=Hle.out;obtain⟨hi,hhi⟩:=zev (lo+s);have hloz:(lo:Int)<(bs:Int):=by omega
         have elo : 2*s*t+p=lo:=by rw[Hb.out];exact hlo
         have ehi : 2*s*t+p+s=hi:=by rw[elo];exact hhi
         have hiz:(hi:Int)<256:=by omega
         have loz:(lo:Int)<256:=by omega
         have Hhi:Ω (hi<256):=⟨by omega⟩;have Hlo:Ω (lo<256):=⟨by omega⟩;have g2:IntKind.i64.wrap ((lo:Int)+(s:Int))=(hi:Int):=zwi;obtain⟨a0,ha⟩:=zev (h lo);obtain⟨c0,hcc⟩:=zev (h hi);have hab : 0≤a0∧a0<8380417:=by rw[←ha];exact Hh.out lo
         have hcb : 0≤c0∧c0<8380417:=by rw[←hcc];exact Hh.out hi
         have cx:wr.cell? ⟨w.heap.size+1,lo,none⟩=some (.int .i64 a0):=by
          have h9:=xaq A2.out.row lo Hlo.out;rw[←elo,xf4 (ly ζ K s) hlt3,elo,ha]at h9;exact h9
         have cy:wr.cell? ⟨w.heap.size+1,hi,none⟩=some (.int .i64 c0):=by
          have h9:=xaq A2.out.row hi Hhi.out;rw[←ehi,xf3 (ly ζ K s) hlt3,ehi,hcc]at h9;exact h9
         have hP:=Hly.out p hlt3;rw[ehi,elo,hlo,hhi,ha,hcc]at hP;obtain⟨g3,g3n⟩:=xn2 Hyb.out hcb;obtain⟨pr,hpr⟩:=zev (y*c0);rw[hpr]at g3 g3n hP;have g3':IntKind.i64.wrap (y*c0)=pr:=by rw[hpr];exact g3
         obtain⟨xx,hxx⟩:=zev (pr%8380417);have hxb : 0≤xx∧xx<8380417:=by omega
         have g4:pr.tmod 8380417=xx:=by rw[Int.tmod_eq_emod_of_nonneg g3n];exact hxx
         have g5:IntKind.i64.wrap (a0+xx)=a0+xx:=zwi;have g6:IntKind.i64.wrap (a0-xx)=a0-xx:=zwi;obtain⟨v1,hv1⟩:=xaa ((a0+xx)%8380417);obtain⟨v2,hv2⟩:=xaa ((a0-xx)%8380417);have H1:Ω (∀ w1:World,Calls Tryz.prog 136 #[.int .i64 (a0+xx)] w1 (zE w1 (.int .i64 v1))):=⟨fun w1=>by rw[←hv1.out];exact Hred.out _ w1⟩;have H2:Ω (∀ w1:World,Calls Tryz.prog 136 #[.int .i64 (a0-xx)] w1 (zE w1 (.int .i64 v2))):=⟨fun w1=>by rw[←hv2.out];exact Hred.out _ w1⟩;have HU:Ω (upd (upd (dn (ly ζ K s) s h (t*s+p)) hi v2) lo v1=dn (ly ζ K s) s h (t*s+(p+1))):=⟨by
          have h9:=(xhl (t:=t) (ly ζ K s) hlt3 h v1 v2 (by rw[elo,hP.1,←hv1.out];omega) (by rw[ehi,hP.2,←hv2.out];omega)).1;rw[elo,hhi]at h9;exact h9⟩
         have HUlo:Ω (upd (dn (ly ζ K s) s h (t*s+p)) hi v2 lo=a0):=⟨by
          unfold upd;rw[if_neg (by omega),←elo,xf4 (ly ζ K s) hlt3,elo,ha]⟩
         have Hp:=ω hlt3;have Hlo2:=ω hlo;clear ha hcc hab hcb hP hpr hxx hxb hv1 hv2 elo ehi hlo hhi hle g3 g3n hlt3;go_wp2_with fail;refine(H2.out _).mono ?_;rintro e wr ⟨rfl,rfl⟩;clear cx cy;go_wp2_with ((with_reducible refine xaf A2 rfl _ _ _ rfl rfl ?_);refine⟨_,_,_,rfl,rfl,rfl,(by rw[xad];exact Hhi.out),?_⟩;intro wn A3;rw[xap]at A3;have cx:wn.cell? ⟨w.heap.size+1,lo,none⟩=some (.int .i64 a0):=by rw[xaq A3.out.row lo Hlo.out,HUlo.out]);refine(H1.out _).mono ?_;rintro e wn ⟨rfl,rfl⟩;clear cx;go_wp2_with ((with_reducible refine xaf A3 rfl _ _ _ rfl rfl ?_);refine⟨_,_,_,rfl,rfl,rfl,(by rw[xad];exact Hlo.out),?_⟩;intro wm A4;rw[xap,HU.out]at A4);go_roundw
         case rel=>exact⟨p+1,by have:=Hp.out;omega,by rw[show ((b+(p+1):Nat):Int)=(lo:Int)+1 by have:=Hlo2.out;omega],A4⟩
         case measure=>have:=Hlo.out;simp[intOf];omega
        ·obtain rfl:p=s:=by omega
         have hloz:¬ (lo:Int)<(bs:Int):=by have:=Hle.out;omega
         have A3:Ω (At (w.heap.size+1) (FL .i64 256 (dn (ly ζ K p) p h ((t+1)*p))) 109 V wr):=⟨by rw[Nat.succ_mul];exact A2.out⟩;clear A2 hlo;go_wp2_with fail;go_roundw
         case rel=>exact⟨t+1,by have:=Ht.out;omega,by rw[Hbd.out],by rw[Hk.out],A3⟩
         case measure=>have:=Hle.out;have:=Hsb.out;simp[intOf];omega
      ·obtain rfl:t=K:=by omega
       have h256:=H4.out;rw[h256];rw[show FL .i64 256 (dn (ly ζ t s) s h (t*s))=FL .i64 256 (thereR ζ (m+1) f) from xdj .i64 256 hnext.out]at A1;have d1:(s:Int).tdiv 2=(s':Int):=by rw[Int.tdiv_eq_ediv_of_nonneg (by omega)];have:=H3.out;omega
       have d2:(s:Int) / 2=(s':Int):=by have:=H3.out;omega
       have d3:IntKind.i64.wrap ((s:Int).tdiv 2)=(s':Int):=by rw[d1,IntKind.wrap_i64];have:=Hsb.out;have:=H3.out;omega
       have d4:IntKind.i64.wrap (s':Int)=(s':Int):=by rw[IntKind.wrap_i64];have:=Hsb.out;have:=H3.out;omega
       go_wp2_with fail;go_roundw
       case rel=>exact⟨m+1,by have:=Hm.out;omega,by rw[Hs.out],by rw[hKn.out],A1⟩
       case measure=>have:=Hsb.out;have:=H3.out;simp[intOf];omega
    ·obtain rfl:m=8:=by omega
     rw[HR.out]at A0;have Hrow:=ω A0.out.row;have Hres:Ω (wr.heap[w.heap.size+2]? = some (.cells z 109 (0,0))):=⟨A0.out.other (xac D2.out) (by omega) D2.out⟩;have HB:Ω (Below w.heap.size w wr):=⟨HVB.out.trans (A0.out.below (by have:=HVs.out;omega) (by omega))⟩;clear A0;have e0:((128 / 2 ^ 8:Nat):Int)=0:=by decide
     rw[e0];go_wp2_with (first
      | (refine wpList_load_row rfl 109 _ rfl (w.heap.size+1) rfl 109 R (0,0) _ Hrow.out zX rfl Ri.out ?_)
      | (refine wpList_store_row rfl 109 _ _ rfl (w.heap.size+2) R rfl rfl 109 _ Hres.out Ri.out Rz.out Ro.out ?_))
     refine bodyPost_ret_by (v:=.agg R) (results_cell_row rfl _ _ (w.heap.size+2) 109 _ (0,0) _ rfl (setRow_heap _ _ _ _ _ _ Hres.out) zX rfl Ri.out) rfl ?_;exact⟨rfl,HB.out.trans (below_setRow _ _ _ (by omega))⟩
end rnthere
namespace rnback
open arr mem stil polys polt nttm nttp nttl rnthere
theorem doubles(m:Nat)(h:m<8) : 2*2 ^ m=2 ^ (m+1)∧2*2 ^ m*2 ^ (7-m)=256∧2 ^ m≤128∧1≤2 ^ m∧1≤2 ^ (7-m)∧2 ^ (7-m)≤128∧2 ^ (8-m)=2*2 ^ (7-m)∧2 ^ (8-(m+1))=2 ^ (7-m):=by
 have key:∀ m:Fin 8,2*2 ^ m.val=2 ^ (m.val+1)∧2*2 ^ m.val*2 ^ (7-m.val)=256∧2 ^ m.val≤128∧1≤2 ^ m.val∧1≤2 ^ (7-m.val)∧2 ^ (7-m.val)≤128∧2 ^ (8-m.val)=2*2 ^ (7-m.val)∧2 ^ (8-(m.val+1))=2 ^ (7-m.val):=by decide +kernel
 exact key ⟨m,h⟩
theorem xfv(T:Array Value)(Z:Nat→Int)(f:Nat→Int)(w:World)(hT:∀ k,k<256→T[209+k]? = some (.int .i64 (Z k))):
 Calls Tryz.prog 133 #[.agg T,.agg (FL .i64 256 f)] w (zB w (.agg (FL .i64 256 (fun i=>(backR (fun k=>Z k%8380417) 8 f i*8347681)%8380417)))):=by
 obtain⟨ζ,hζ⟩:=xaa (fun k=>Z k%8380417);have Hζ : Ω (∀ k,Z k%8380417 = ζ k):=⟨fun k=>by rw[←hζ.out]⟩;rw[hζ.out];clear hζ;obtain⟨hz,hsize⟩:=zero_of_info infoP;obtain⟨z,HZ⟩:=xaa (FL .i64 256 fun _=>0);rw[HZ.out]at hz;have Hzs:=zfs HZ;obtain⟨R,HR⟩:=xaa (FL .i64 256 (fun i=>(backR ζ 8 f i*8347681)%8380417));obtain⟨B,HB0⟩:=xaa (FL .i64 256 (backR ζ 8 f));have Bi:=zri HB0 hsize;have HSc:Ω (∀ w1:World,Calls Tryz.prog 170 #[.agg B,.int .i64 8347681] w1 (zB w1 (.agg R))):=⟨fun w1=>by
  have h:=rscale.xip (backR ζ 8 f) 8347681 w1;rw[HB0.out,HR.out]at h;exact h⟩
 have Ri:=zri HR hsize;have Ro:=zro HR;have Rz:=zrz Hzs HR;have HT:=ω hT;have Hred:=ω rfld.xai;rw[HR.out];obtain⟨F,HF⟩:=xaa (FL .i64 256 f);rw[HF.out];obtain⟨V,hV⟩:=zev (((w.alloc (.cells T 34)).alloc (.cells F 109)).alloc (.cells z 109));obtain⟨b0,b1,b2,hVs,hVb⟩:=three hV;have D0:=ω b0;have D2:=ω b2;have HVB:=ω hVb;have HVs:=ω hVs;have HV:=ω hV;obtain⟨r,hr⟩:∃ r:Nat→Int,Ω (r=red f):=⟨_,⟨rfl⟩⟩;have Hr:Ω (∀ i,r i=f i%8380417):=⟨fun i=>by rw[hr.out];rfl⟩;have Hr0:Ω (FL .i64 256 r=FL .i64 256 (backR ζ 0 f)):=⟨by rw[hr.out];rfl⟩;have A00:Ω (At (w.heap.size+1) (FL .i64 256 (pt r f 0)) 109 V V):=⟨by rw[xba,HF.out];exact At.refl b1⟩;clear b0 b1 b2 hVs hVb hV HZ hsize hT HF hr;go_enter Tryz.func133,Tryz.ntmps133;go_wp2_with (rw[HV.out]);clear hz;go_loopw [12] (fun v wr=>∃ i:Nat,i≤256∧v=.int .i64 (i:Int)∧Ω (At (w.heap.size+1) (FL .i64 256 (pt r f i)) 109 V wr)) (fun v _=>256-(intOf v).toNat)
 case atStart=>exact⟨0,Nat.zero_le _,rfl,A00⟩
 case round=>
  clear A00;obtain⟨i,hi,rfl,A0⟩:=hrel;by_cases hlt:i<256
  ·have hiz:(i:Int)<256:=by omega
   obtain⟨x,hx⟩:=zev (f i);have ca:wr.cell? ⟨w.heap.size+1,i,none⟩=some (.int .i64 x):=by
    have h9:=xaq A0.out.row i hlt;rw[xc0,hx]at h9;exact h9
   obtain⟨x1,hx1⟩:=xaa (x%8380417);have Hx:∀ w1:World,Calls Tryz.prog 136 #[.int .i64 x] w1 (zE w1 (.int .i64 x1)):=fun w1=>by rw[←hx1.out];exact Hred.out x w1
   have HU:Ω (upd (pt r f i) i x1=pt r f (i+1)):=⟨xa4 r f i x1 (by rw[Hr.out,hx,hx1.out])⟩;have Hx:=ω Hx;clear hx hx1;go_wp2_with fail;refine(Hx.out _).mono ?_;rintro e wr ⟨rfl,rfl⟩;clear ca;go_wp2_with ((with_reducible refine xaf A0 rfl _ _ _ rfl rfl ?_);refine⟨_,_,_,rfl,rfl,rfl,(by rw[xad];exact hlt),?_⟩;intro wn HRn;rw[xap,HU.out]at HRn);go_roundw
   case rel=>exact⟨i+1,by omega,by go_num,HRn⟩
   case measure=>simp[intOf];omega
  ·obtain rfl:i=256:=by omega
   simp only[Int.cast_ofNat_Int];rw[xa8,Hr0.out]at A0;go_wp2_with fail;rename World=>w2
   go_loopw [7,6] (fun sv k wr=>∃ m:Nat,m≤8∧sv=.int .i64 ((2 ^ m:Nat):Int)∧k=.int .i64 ((2 ^ (8-m):Nat):Int)∧Ω (At (w.heap.size+1) (FL .i64 256 (backR ζ m f)) 109 V wr)) (fun sv _ _=>256-(intOf sv).toNat)
   case atStart=>exact⟨0,Nat.zero_le _,rfl,rfl,A0⟩
   case round=>
    clear A0;obtain⟨m,hm,rfl,rfl,A0⟩:=hrel;by_cases hlt:m<8
    ·obtain⟨h1,h2,h3,h4,h5,h6,h7,h8⟩:=doubles m hlt;have hnext:Ω (∀ j,j<256→dn (bk ζ (2 ^ (7-m)) (2 ^ m)) (2 ^ m) (backR ζ m f) (2 ^ (7-m)*2 ^ m) j=backR ζ (m+1) f j):=⟨fun j hj=>by
      rw[xhk (bk ζ (2 ^ (7-m)) (2 ^ m)) (2 ^ (7-m)) (2 ^ m) (by omega) _ j (by omega)];rfl⟩
     obtain⟨s',hs'⟩:∃ s',2 ^ (m+1)=s':=⟨_,rfl⟩;obtain⟨s,hs⟩:=zev (2 ^ m);obtain⟨K,hK⟩:=zev (2 ^ (7-m));rw[hs',hs]at h1;rw[hs,hK]at h2 hnext;rw[hs]at h3 h4 ⊢;rw[hK]at h5 h6 h7 h8;rw[h7];obtain⟨h,hh⟩:=xaa (backR ζ m f);have Hh:Ω (∀ j,0≤h j∧h j<8380417):=⟨fun j=>by rw[←hh.out];exact xmh ζ m f j⟩;rw[hh.out]at hnext A0;obtain⟨q,hq⟩:=zev (2*K);have Hq:Ω (q=2*K):=⟨hq.symm⟩;rw[hq];have hsz:(s:Int)≤128:=by omega
     have H4:=ω h2;have Hs:=ω hs';have H3:=ω h1;have Hm:=ω hlt;have Hsb:=ω (And.intro h4 h3);have HK:=ω (And.intro h5 h6);have H8:=ω h8;clear h1 h2 h3 h4 h5 h6 h7 h8 hs hs' hK hh hq hlt;go_wp2_with fail;rename World=>w3
     go_loopw [8,6] (fun fv k wr=>∃ t:Nat,t≤K∧fv=.int .i64 ((2*s*t:Nat):Int)∧k=.int .i64 ((q-t:Nat):Int)∧Ω (At (w.heap.size+1) (FL .i64 256 (dn (bk ζ K s) s h (t*s))) 109 V wr)) (fun fv _ _=>256-(intOf fv).toNat)
     case atStart=>exact⟨0,Nat.zero_le _,by rw[Nat.mul_zero];rfl,rfl,⟨by rw[Nat.zero_mul,xhm];exact A0.out⟩⟩
     case round=>
      clear A0;obtain⟨t,ht,rfl,rfl,A1⟩:=hrel;by_cases hlt2:t<K
      ·have h256:=H4.out;obtain⟨d,hd⟩:=zev (2*s);obtain⟨b,hb⟩:=zev (2*s*t);have hbd:b+d≤256:=by
        have h1:d*(t+1)≤d*K:=Nat.mul_le_mul_left _ hlt2;rw[Nat.mul_succ,←hd,hb]at h1;omega
       have hbd2:b+d=2*s*(t+1):=by rw[Nat.mul_succ,hb,hd]
       rw[hb];obtain⟨k,hk⟩:=zev (2*K-1-t);obtain⟨c,hc⟩:=zev (q-t);rw[hc];have hck:k+1=c:=by have:=Hq.out;omega
       have hk256:Ω (k<256):=⟨by have:=HK.out;omega⟩;have hkz:(k:Int)<256:=by have:=hk256.out;omega
       have hbz:(b:Int)<256:=by have:=Hsb.out;omega
       have f1:IntKind.i64.wrap ((c:Int)-1)=(k:Int):=by rw[IntKind.wrap_i64];have:=hk256.out;omega
       have f4:IntKind.i64.wrap (2*(s:Int))=(d:Int):=by rw[IntKind.wrap_i64];have:=Hsb.out;omega
       have f5:IntKind.i64.wrap ((b:Int)+(d:Int))=((b+d:Nat):Int):=zwi;obtain⟨bd,hbdn⟩:=zev (b+d);rw[hbdn]at f5 hbd2;obtain⟨bs,hbs⟩:=zev (b+s);have f6:IntKind.i64.wrap ((b:Int)+(s:Int))=(bs:Int):=by rw[IntKind.wrap_i64];have:=Hsb.out;omega
       have E0:wr.heap[w.heap.size]? = some (.cells T 34 (0,0)):=A1.out.other (xac D0.out) (by omega) D0.out;obtain⟨x,hx⟩:=xaa (Z k);have cz:wr.cell? ⟨w.heap.size,209+k,none⟩=some (.int .i64 x):=by rw[←hx.out];exact xab E0 (HT.out k hk256.out)
       obtain⟨y0,hy0⟩:=xaa (ζ k);have Hx:Ω (∀ w1:World,Calls Tryz.prog 136 #[.int .i64 x] w1 fun e w'=>e=.returned (.int .i64 y0)∧w1=w'):=⟨fun w1=>by rw[←hy0.out,←Hζ.out k,hx.out];exact(Hred.out x w1).mono fun _ _ h=>⟨h.1,h.2.symm⟩⟩;have hy0b : 0≤y0∧y0<8380417:=by rw[←hy0.out,←Hζ.out k];exact⟨Int.emod_nonneg _ (by decide),Int.emod_lt_of_pos _ (by decide)⟩
       have f9:IntKind.i64.wrap (-y0) = -y0:=zwi;obtain⟨y,hy⟩:=xaa ((-y0)%8380417);have Hyb:Ω (0≤y∧y<8380417):=⟨by rw[←hy.out];exact⟨Int.emod_nonneg _ (by decide),Int.emod_lt_of_pos _ (by decide)⟩⟩;have Hx2:Ω (∀ w1:World,Calls Tryz.prog 136 #[.int .i64 (-y0)] w1 fun e w'=>e=.returned (.int .i64 y)∧w1=w'):=⟨fun w1=>by rw[←hy.out];exact(Hred.out _ w1).mono fun _ _ h=>⟨h.1,h.2.symm⟩⟩;have Hly:Ω (∀ p,p<s→bk ζ K s h (2*s*t+p)=h (b+p)+h (b+p+s)∧∀ d,d=(h (b+p)-h (b+p+s))%8380417→(y*d)%8380417=bk ζ K s h (2*s*t+p+s)%8380417):=⟨fun p hp=>by
        have h9:=xml ζ K (t:=t) hp h;rw[hk,hy0.out,hb]at h9;refine⟨by rw[hb];exact h9.1,fun d hd=>?_⟩;rw[hb,h9.2,hd,←hy.out,←Int.mul_emod]⟩
       have Hb:=ω hb;have Hbd:=ω hbd2;have Hle:Ω (bd≤256∧bs=b+s∧bd=b+d∧d=2*s):=⟨by omega⟩;have Hk:=ω (show q-(t+1)=k by omega);have Ht:=ω hlt2;clear hd hb hbd hbd2 hbdn hbs hk hc hck E0 hx hy hy0 hy0b h256 hlt2;go_wp2_with fail;refine(Hx.out _).mono ?_;rintro e w5 ⟨rfl,rfl⟩;clear cz;go_wp2_with fail;refine(Hx2.out _).mono ?_;rintro e w5 ⟨rfl,rfl⟩;clear f9;go_wp2_with fail;rename World=>w4
       go_loopw [10] (fun iv wr=>∃ p:Nat,p≤s∧iv=.int .i64 ((b+p:Nat):Int)∧Ω (At (w.heap.size+1) (FL .i64 256 (dn (bk ζ K s) s h (t*s+p))) 109 V wr)) (fun iv _=>256-(intOf iv).toNat)
       case atStart=>exact⟨0,Nat.zero_le _,rfl,A1⟩
       case round=>
        clear A1;obtain⟨p,hp,rfl,A2⟩:=hrel;obtain⟨lo,hlo⟩:=zev (b+p);rw[hlo];by_cases hlt3:p<s
        ·have hle:=Hle.out;obtain⟨hi,hhi⟩:=zev (lo+s);have hloz:(lo:Int)<(bs:Int):=by omega
         have elo : 2*s*t+p=lo:=by rw[Hb.out];exact hlo
         have ehi : 2*s*t+p+s=hi:=by rw[elo];exact hhi
         have hiz:(hi:Int)<256:=by omega
         have loz:(lo:Int)<256:=by omega
         have Hhi:Ω (hi<256):=⟨by omega⟩;have Hlo:Ω (lo<256):=⟨by omega⟩;have g2:IntKind.i64.wrap ((lo:Int)+(s:Int))=(hi:Int):=zwi;obtain⟨a0,ha⟩:=zev (h lo);obtain⟨c0,hcc⟩:=zev (h hi);have hab : 0≤a0∧a0<8380417:=by rw[←ha];exact Hh.out lo
         have hcb : 0≤c0∧c0<8380417:=by rw[←hcc];exact Hh.out hi
         have cx:wr.cell? ⟨w.heap.size+1,lo,none⟩=some (.int .i64 a0):=by
          have h9:=xaq A2.out.row lo Hlo.out;rw[←elo,xf4 (bk ζ K s) hlt3,elo,ha]at h9;exact h9
         have cy:wr.cell? ⟨w.heap.size+1,hi,none⟩=some (.int .i64 c0):=by
          have h9:=xaq A2.out.row hi Hhi.out;rw[←ehi,xf3 (bk ζ K s) hlt3,ehi,hcc]at h9;exact h9
         have hP:=Hly.out p hlt3;rw[ehi,elo,hlo,hhi,ha,hcc]at hP;obtain⟨dd,hdd⟩:=xaa ((a0-c0)%8380417);have hdb : 0≤dd∧dd<8380417:=by rw[←hdd.out];omega
         obtain⟨g3,g3n⟩:=xn2 Hyb.out hdb;have hP2:=hP.2 dd hdd.out.symm;obtain⟨pr,hpr⟩:=zev (y*dd);rw[hpr]at g3 g3n hP2;have g3':IntKind.i64.wrap (y*dd)=pr:=by rw[hpr];exact g3
         obtain⟨v2,hv2⟩:=zev (pr%8380417);have g4:pr.tmod 8380417=v2:=by rw[Int.tmod_eq_emod_of_nonneg g3n];exact hv2
         have g5:IntKind.i64.wrap (a0+c0)=a0+c0:=zwi;have g6:IntKind.i64.wrap (a0-c0)=a0-c0:=zwi;obtain⟨v1,hv1⟩:=xaa ((a0+c0)%8380417);have H1:Ω (∀ w1:World,Calls Tryz.prog 136 #[.int .i64 (a0+c0)] w1 (zE w1 (.int .i64 v1))):=⟨fun w1=>by rw[←hv1.out];exact Hred.out _ w1⟩;have H2:Ω (∀ w1:World,Calls Tryz.prog 136 #[.int .i64 (a0-c0)] w1 (zE w1 (.int .i64 dd))):=⟨fun w1=>by rw[←hdd.out];exact Hred.out _ w1⟩;have HU:Ω (upd (upd (dn (bk ζ K s) s h (t*s+p)) lo v1) hi v2=dn (bk ζ K s) s h (t*s+(p+1))):=⟨by
          have h9:=(xhl (t:=t) (bk ζ K s) hlt3 h v1 v2 (by rw[elo,hP.1,←hv1.out]) (by rw[ehi,←hP2,hv2])).2;rw[elo,hhi]at h9;exact h9⟩
         have HUhi:Ω (upd (dn (bk ζ K s) s h (t*s+p)) lo v1 hi=c0):=⟨by
          unfold upd;rw[if_neg (by omega),←ehi,xf3 (bk ζ K s) hlt3,ehi,hcc]⟩
         have Hp:=ω hlt3;have Hlo2:=ω hlo;clear ha hcc hab hcb hP hP2 hpr hdb hdd hv1 hv2 elo ehi hlo hhi hle g3 g3n hlt3;go_wp2_with fail;refine(H1.out _).mono ?_;rintro e wr ⟨rfl,rfl⟩;clear cx cy;go_wp2_with ((with_reducible refine xaf A2 rfl _ _ _ rfl rfl ?_);refine⟨_,_,_,rfl,rfl,rfl,(by rw[xad];exact Hlo.out),?_⟩;intro wn A3;rw[xap]at A3;have cy:wn.cell? ⟨w.heap.size+1,hi,none⟩=some (.int .i64 c0):=by rw[xaq A3.out.row hi Hhi.out,HUhi.out]);refine(H2.out _).mono ?_;rintro e wn ⟨rfl,rfl⟩;clear cy;go_wp2_with ((with_reducible refine xaf A3 rfl _ _ _ rfl rfl ?_);refine⟨_,_,_,rfl,rfl,rfl,(by rw[xad];exact Hhi.out),?_⟩;intro wm A4;rw[xap,HU.out]at A4);go_roundw
         case rel=>exact⟨p+1,by have:=Hp.out;omega,by rw[show ((b+(p+1):Nat):Int)=(lo:Int)+1 by have:=Hlo2.out;omega],A4⟩
         case measure=>have:=Hlo.out;simp[intOf];omega
        ·obtain rfl:p=s:=by omega
         have hloz:¬ (lo:Int)<(bs:Int):=by have:=Hle.out;omega
         have A3:Ω (At (w.heap.size+1) (FL .i64 256 (dn (bk ζ K p) p h ((t+1)*p))) 109 V wr):=⟨by rw[Nat.succ_mul];exact A2.out⟩;clear A2 hlo;go_wp2_with fail;go_roundw
         case rel=>exact⟨t+1,by have:=Ht.out;omega,by rw[Hbd.out],by rw[Hk.out],A3⟩
         case measure=>have:=Hle.out;have:=Hsb.out;simp[intOf];omega
      ·obtain rfl:t=K:=by omega
       have h256:=H4.out;rw[h256];rw[show FL .i64 256 (dn (bk ζ t s) s h (t*s))=FL .i64 256 (backR ζ (m+1) f) from xdj .i64 256 hnext.out]at A1;have d1:IntKind.i64.wrap ((s:Int)*2)=(s':Int):=by rw[IntKind.wrap_i64];have:=Hsb.out;have:=H3.out;omega
       have hKq:Ω ((q-t:Nat)=2 ^ (8-(m+1))):=⟨by rw[H8.out];have:=Hq.out;omega⟩;go_wp2_with fail;go_roundw
       case rel=>exact⟨m+1,by have:=Hm.out;omega,by rw[Hs.out],by rw[hKq.out],A1⟩
       case measure=>have:=Hsb.out;have:=H3.out;simp[intOf];omega
    ·obtain rfl:m=8:=by omega
     rw[HB0.out]at A0;have Hrow:=ω A0.out.row;have Hres:Ω (wr.heap[w.heap.size+2]? = some (.cells z 109 (0,0))):=⟨A0.out.other (xac D2.out) (by omega) D2.out⟩;have HB:Ω (Below w.heap.size w wr):=⟨HVB.out.trans (A0.out.below (by have:=HVs.out;omega) (by omega))⟩;clear A0;have e0:((2 ^ 8:Nat):Int)=256:=by decide
     rw[e0];go_wp2_with (refine wpList_load_row rfl 109 _ rfl (w.heap.size+1) rfl 109 B (0,0) _ Hrow.out zX rfl Bi.out ?_);refine(HSc.out _).mono ?_;rintro e w9 ⟨rfl,hb9⟩;have Hres9:Ω (w9.heap[w.heap.size+2]? = some (.cells z 109 (0,0))):=⟨(hb9.block _ (xac Hres.out)).trans Hres.out⟩;have HB9:=zbt HB hb9;clear hb9;go_wp2_with (refine wpList_store_row rfl 109 _ _ rfl (w.heap.size+2) R rfl rfl 109 _ Hres9.out Ri.out Rz.out Ro.out ?_);refine bodyPost_ret_by (v:=.agg R) (results_cell_row rfl _ _ (w.heap.size+2) 109 _ (0,0) _ rfl (setRow_heap _ _ _ _ _ _ Hres9.out) zX rfl Ri.out) rfl ?_;exact⟨rfl,HB9.out.trans (below_setRow _ _ _ (by omega))⟩
end rnback
namespace rkrw
open arr mem stil polys polt pols rbitb nttl saml mlkm rkpb
theorem xin(T:Array Value)(Z:Nat→Int)(R nv:Nat)(n:Nat→Nat)(x:Nat→Nat→Nat→Int)(y:Nat→Nat→Int)(v vv:Value)(B:Nat)(w:World)(hTs:T.size=465)(hT:∀ k,k<256→T[209+k]? = some (.int .i64 (Z k)))(hR:R≤8)(hn:∀ r,r<R→n r≤8)(hv : 1≤nv∧nv≤8)
 (HM:MX w v R n x) (HV:Holds w B vv nv y):
 Calls Tryz.prog 72 #[.agg T,v,vv] w fun e w'=>(∃ v',e=.returned v'∧w'.ownsRow w.heap.size 109 256 v' R (cq (fun r=>rowv (fun k=>Z k%8380417) (x r) y (min (n r) nv)) R))∧Below w.heap.size w w':=by
 obtain⟨ζ,hζ⟩:=xaa (fun k=>Z k%8380417);have HTh:Ω (∀ (f:Nat→Int) (w1:World),Calls Tryz.prog 131 #[.agg T,.agg (FL .i64 256 f)] w1 (zB w1 (.agg (FL .i64 256 (thereR ζ 8 f))))):=⟨fun f w1=>by rw[←hζ.out];exact rnthere.xfm T Z f w1 hT⟩;have HBk:Ω (∀ (f:Nat→Int) (w1:World),Calls Tryz.prog 133 #[.agg T,.agg (FL .i64 256 f)] w1 (zB w1 (.agg (FL .i64 256 (fun i=>(backR ζ 8 f i*8347681)%8380417))))):=⟨fun f w1=>by rw[←hζ.out];exact rnback.xfv T Z f w1 hT⟩;have HTm:=ω rntimes.xcs;have HAd:=ω radd.xcj;rw[hζ.out];have HTz:Ω ((Tryz.prog.info? 34).map (·.size)=some T.size):=⟨by rw[hTs];kernel_rfl⟩;obtain⟨i0,hi,hz0,hz1,hz2⟩:=parts infoPoly;obtain⟨hz,hsize⟩:=zero_of_info polt.infoP;obtain⟨z,HZ⟩:=xaa (FL .i64 256 fun _=>0);rw[HZ.out]at hz hz0;have HI:=ω (And.intro hi (And.intro hz0 (And.intro hz1 hz2)));have Hzs:=zfs HZ;have Hzc:Ω ((Value.agg z).cells.size=256):=⟨Hzs.out⟩;have Hsize:=ω hsize;obtain⟨G,C,rfl,hG,hrows⟩:=HM;obtain⟨gv,cv,rfl,hgv⟩:=xan HV;have HRows:=ω hrows;have HVv:=ω HV;have HGv:=ω (And.intro hG hgv);have Hn:=ω hn;have Hv:=ω hv;have HR:=ω hR;obtain⟨th,hth⟩:=xaa (fun j=>thereR ζ 8 (y j));have Hth:Ω (∀ j,thereR ζ 8 (y j)=th j):=⟨fun j=>by rw[←hth.out]⟩;obtain⟨res,hres⟩:=xaa (fun r=>rowv ζ (x r) y (min (n r) nv));have Hres:Ω (∀ r k,(backR ζ 8 (rsum (x r) th (min (n r) nv)) k*8347681)%8380417=res r k):=⟨fun r k=>by rw[←hres.out,←hth.out];rfl⟩;rw[hres.out];obtain⟨W,hW⟩:=zev (w.alloc (.cells T 34));obtain⟨r0,hWs,b0⟩:=one hW;have T0:Ω (W.heap[w.heap.size]? = some (.cells T 34 (0,0))):=⟨r0⟩;have BW:=ω b0;have HWs:=ω hWs
 have HW:=ω hW;clear hW r0 b0 hWs hi hz0 hz1 hz2 hsize hrows HV hn hv hR hth hres hζ hG hgv hT hTs;go_enter Tryz.func72,Tryz.ntmps72;go_wp2_with (rw[HW.out]);go_loopw [18,7] (fun iv sv wr=>∃ r:Nat,r≤nv∧iv=.int .i64 (r:Int)∧Ω (wr.ownsRow W.heap.size 109 256 sv r (cq th r))∧Ω (Below W.heap.size W wr)) (fun iv _ _=>nv-(intOf iv).toNat)
 case atStart=>exact⟨0,Nat.zero_le _,rfl,⟨⟨rfl,Or.inl ⟨rfl,rfl⟩⟩⟩,⟨Below.refl _ _⟩⟩
 case round=>
  obtain⟨r,hr,rfl,Oy,Hb⟩:=hrel;have BE:=zbt BW Hb.out;by_cases hlt:r<nv
  ·have hrz:(r:Int)<(nv:Int):=by omega
   have hr8:r<8:=by have:=Hv.out;omega
   have hrg:=xax (HVv.out.later BE.out) r hlt;obtain⟨F,HF⟩:=xaa (FL .i64 256 (y r));obtain⟨o6,ho6⟩:=zev (r*256);rw[HF.out,ho6]at hrg;have Hrg:=ω hrg;have Fs:=zfs HF;have Fo:=zro HF;have Fi:=zsz Fs Hsize.out;have Fz:Ω (z.size=F.size):=⟨by rw[Hzs.out,Fs.out]⟩;obtain⟨W11,hW11⟩:=zev (wr.alloc (.cells F 109));obtain⟨r11,hs11,b11⟩:=one hW11;have HW11:=ω hW11;have R11:=ω r11;have D11:=zbt Hb b11;have T11:Ω (W11.heap[w.heap.size]? = some (.cells T 34 (0,0))):=⟨(D11.out.block _ (xac T0.out)).trans T0.out⟩;have O11:Ω (W11.ownsRow W.heap.size 109 256 u7 r (cq th r)):=⟨xbu Oy.out b11⟩;have Hlt:=ω hlt;have HTr:Ω (∀ w1:World,Calls Tryz.prog 131 #[.agg T,.agg F] w1 (zB w1 (.agg (FL .i64 256 (th r))))):=⟨fun w1=>by rw[←HF.out,←Hth.out];exact HTh.out (y r) w1⟩;obtain⟨E,HE⟩:=xaa (FL .i64 256 (th r));rw[HE.out]at HTr;have Es:=zfs HE;have Eo:=zro HE;clear hrg hW11 r11 hs11 b11 Oy;go_wp2_with (first
    | ((with_reducible refine wpList_load_mid rfl 109 _ rfl gv o6 ?hx F.toList _ Hrg.out zX rfl ?hi ?_);(case hx=>rfl);(case hi=>rw[Array.length_toList];exact Fi.out))
    | (refine xam rfl 109 _ _ rfl F rfl rfl Fi.out (by exact Fz.out) Fo.out rfl ?_)
    | (rw[HW11.out])
    | (refine wpList_load_row rfl 34 _ rfl w.heap.size rfl 34 T (0,0) _ T11.out zY rfl HTz.out ?_)
    | (refine wpList_load_row rfl 109 _ rfl wr.heap.size rfl 109 F (0,0) _ R11.out zX rfl Fi.out ?_))
   refine(HTr.out _).mono ?_;rintro e w5 ⟨rfl,hb5⟩;have D5:=zbt D11 hb5;have O5:Ω (w5.ownsRow W.heap.size 109 256 u7 r (cq th r)):=⟨xbu O11.out hb5⟩;have hws:W.heap.size≤w5.heap.size:=D5.out.size;clear hb5;go_wp2_with fail;refine wp_buildSlice 67 109 1 _ rfl E i0 (.agg z) Tryz.underlying67 HI.out.1 HI.out.2.1 (by rw[HI.out.2.2.1];decide) (by rw[HI.out.2.2.1];decide) ?hf ?_
   case hf=>
    go_simp
    exact⟨⟨decide_eq_false (fun h=>h (Es.out.trans HI.out.2.2.1.symm)),by rw[Es.out,HI.out.2.2.1];exact Nat.le_refl _⟩,xev E _ Es.out (by simp[HI.out.2.2.1])⟩
   go_wp2_with (at_builtin;refine wpList_append_own _ rfl _ _ 67 rfl W.heap.size 109 i0 (.agg z) 256 2048 Tryz.underlying67 HI.out.1 HI.out.2.1 HI.out.2.2.1 HI.out.2.2.2 Hzc.out (by decide) _ _ _ rfl (O5.out.alloc _) ⟨w5.heap.size,0,none⟩ 1 1 E.toList rfl (by rw[Array.length_toList,Es.out]) (fun j u hu=>xdi hu) (fun u hu=>xd1 Eo.out u hu) (by unfold maxLen;omega) (by omega) (by rw[size_alloc];omega) ?_);intro v' w8 hown' hgrow _;have hb8:Below W.heap.size w5 w8:=((Below.refl W.heap.size w5).alloc hws _).grown hgrow (by rw[size_alloc];omega) (fun k hk=>(O5.out.lt k hk).1);have B8:Ω (Below W.heap.size W w8):=⟨D5.out.trans hb8⟩;have O8:Ω (w8.ownsRow W.heap.size 109 256 v' (r+1) (cq th (r+1))):=⟨by rw[cq,HE.out];exact hown'⟩;clear hown' hgrow hb8;go_wp2_with fail;go_roundw
   case rel=>exact⟨r+1,by have:=Hlt.out;omega,by go_num,O8,B8⟩
   case measure=>have:=Hlt.out;simp[intOf];omega
  ·obtain rfl:r=nv:=by omega
   rename World=>w2
   have hH:=saml.xcc Hv.out.1 Oy.out;obtain⟨gt,ct,hu7,hgt⟩:=xan hH;subst hu7;have HTt:=ω hH;have Hgt:=ω hgt;clear hH Oy hgt hlt;go_wp2_with fail;go_loopw [31,10] (fun iv sv wr=>∃ i:Nat,i≤R∧iv=.int .i64 (i:Int)∧Ω (wr.ownsRow w2.heap.size 109 256 sv i (cq res i))∧Ω (Below w2.heap.size w2 wr)) (fun iv _ _=>R-(intOf iv).toNat)
   case atStart=>exact⟨0,Nat.zero_le _,rfl,⟨⟨rfl,Or.inl ⟨rfl,rfl⟩⟩⟩,⟨Below.refl _ _⟩⟩
   case round=>
    obtain⟨i,hi,rfl,Oy,Hc⟩:=hrel;rename World=>w3
    have B3:=zbt BE Hc.out;by_cases hlt:i<R
    ·have hiz:(i:Int)<(R:Int):=by omega
     have hi8:i<8:=by have:=HR.out;omega
     obtain⟨g,c,hcell,hg,hpol⟩:=HRows.out i hlt;have hc0:w3.cell? ⟨G,i,none⟩=some (.slice (some ⟨g,0,none⟩) (n i) c):=(B3.out.cell (p:=⟨G,i,none⟩) HGv.out.1).trans hcell;have Hpol:=ω hpol;have Hg:=ω hg;have Hni:=ω (Hn.out i hlt);obtain⟨N,hN⟩:=zev (n i);rw[hN]at hc0 Hpol Hni;obtain⟨W4,hW4⟩:=zev (w3.alloc (.cells z 109));obtain⟨r4,hs4,b4⟩:=one hW4;have HW4:=ω hW4;have A4:Ω (At w3.heap.size (FL .i64 256 (rsum (x i) th (min 0 r))) 109 W4 W4):=⟨by rw[Nat.zero_min,rsum,HZ.out];exact At.refl r4⟩;have D4:Ω (Below w3.heap.size w3 W4):=⟨b4⟩;have B4:=zbt B3 b4;have Hlt:=ω hlt;have HN:=ω hN;clear hcell hg hpol hW4 r4 hs4 b4 hlt hN;go_wp2_with (rw[HW4.out]);clear hc0;go_loopw [37] (fun jv wr=>∃ j:Nat,j≤N∧jv=.int .i64 (j:Int)∧Ω (At w3.heap.size (FL .i64 256 (rsum (x i) th (min j r))) 109 W4 wr)) (fun jv _=>N-(intOf jv).toNat)
     case atStart=>exact⟨0,Nat.zero_le _,rfl,A4⟩
     case round=>
      clear A4;obtain⟨j,hj,rfl,A5⟩:=hrel;have D5:Ω (Below w3.heap.size w3 wr):=⟨D4.out.trans (A5.out.below D4.out.size (Nat.le_refl _))⟩;have B5:=zbt B3 D5.out;by_cases hjlt:j<N
      ·have hjz:(j:Int)<(N:Int):=by omega
       have hj8:j<8:=by have:=Hni.out;omega
       have hrg:=xo8 (m:=j) (fun k hk=>(B5.out.cell (p:=⟨g,256*j+k,none⟩) Hg.out).trans (Hpol.out j hjlt k hk));obtain⟨F,HF⟩:=xaa (FL .i64 256 (x i j));obtain⟨o6,ho6⟩:=zev (j*256);rw[HF.out,ho6]at hrg;have Hrg:=ω hrg;have Fs:=zfs HF;have Fo:=zro HF;have Fi:=zsz Fs Hsize.out;have Fz:Ω (z.size=F.size):=⟨by rw[Hzs.out,Fs.out]⟩;obtain⟨W11,hW11⟩:=zev (wr.alloc (.cells F 109));obtain⟨r11,hs11,b11⟩:=one hW11;have HW11:=ω hW11;have R11:=ω r11;have A6:Ω (At w3.heap.size (FL .i64 256 (rsum (x i) th (min j r))) 109 W4 W11):=⟨A5.out.later b11⟩;have D6:=zbt D5 b11;have Hjlt:=ω hjlt;clear hrg hW11 r11 hs11 b11 A5 hjlt;by_cases hjr:j<r
       ·have hjrz:(j:Int)<(r:Int):=by omega
        have hm1:min j r=j:=by omega
        have hm2:Ω (min (j+1) r=j+1):=⟨by omega⟩;rw[hm1]at A6;have hrt:=xa3 (xax HTt.out j hjr) Hgt.out (Hc.out.trans (D6.out.mono Hc.out.size));rw[ho6]at hrt;have Hrt:=ω hrt;obtain⟨E,HE⟩:=xaa (FL .i64 256 (th j));rw[HE.out]at Hrt;have Es:=zfs HE;have Ei:Ω ((Tryz.prog.info? 109).map (·.size)=some E.toList.length):=⟨by rw[Array.length_toList,Es.out];exact Hsize.out⟩;have H1:Ω (∀ w1:World,Calls Tryz.prog 132 #[.agg F,.agg E] w1 (zB w1 (.agg (FL .i64 256 fun k=>(x i j k*th j k)%8380417)))):=⟨fun w1=>by rw[←HF.out,←HE.out];exact HTm.out (x i j) (th j) w1⟩;have H2:Ω (∀ w1:World,Calls Tryz.prog 76 #[.agg (FL .i64 256 (rsum (x i) th j)),.agg (FL .i64 256 fun k=>(x i j k*th j k)%8380417)] w1 (zB w1 (.agg (FL .i64 256 (rsum (x i) th (j+1)))))):=⟨fun w1=>HAd.out _ _ w1⟩;obtain⟨S,HS⟩:=xaa (FL .i64 256 (rsum (x i) th j));obtain⟨P,HP⟩:=xaa (FL .i64 256 fun k=>(x i j k*th j k)%8380417);obtain⟨S2,HS2⟩:=xaa (FL .i64 256 (rsum (x i) th (j+1)));rw[HS.out]at A6 H2;rw[HP.out]at H1 H2;rw[HS2.out]at H2;have Si:=zri HS Hsize.out;have Si2:=zri HS2 Hsize.out;have So2:=zro HS2;have Sz2:Ω (S.size=S2.size):=⟨by rw[←HS.out,←HS2.out,xad,xad]⟩;clear hrt hm1 hjr HF HE HS HP;go_wp2_with (first
         | ((with_reducible refine wpList_load_mid rfl 109 _ rfl g o6 ?hx F.toList _ Hrg.out zX rfl ?hi ?_);(case hx=>rfl);(case hi=>rw[Array.length_toList];exact Fi.out))
         | (refine xam rfl 109 _ _ rfl F rfl rfl Fi.out (by exact Fz.out) Fo.out rfl ?_)
         | (rw[HW11.out]))
        refine qtail.xb0 8 (by kernel_rfl) (by kernel_rfl) ?_;refine xa2 rfl 109 _ rfl _ rfl 109 _ _ (fun w' hC=>xaw A6.out.row hC) zX rfl Si.out ?_;refine xa2 rfl 109 _ rfl _ rfl 109 _ _ (fun w' hC=>xaw R11.out hC) zX rfl Fi.out ?_;iterate 3 (quiet_step (skip))
        refine xch rfl 109 _ rfl gt o6 rfl E.toList _ (fun w' hC=>by
         obtain⟨pp,rfl⟩:=hC;exact xa3 Hrt.out (Nat.lt_of_lt_of_le Hgt.out (Nat.le_trans Hc.out.size D6.out.size)) (below_regrown _ _ _)) zX rfl Ei.out ?_
        quiet_step (exact Calls.regrown_of (H1.out _));quiet_step (exact Calls.regrown_of (H2.out _));refine wpQuiet_nil ?_;intro w8 hC;have hbn:Below W11.heap.size W11 w8:=by
         obtain⟨pp,rfl⟩:=hC;exact below_regrown _ _ _
        have A7:Ω (At w3.heap.size S 109 W4 w8):=⟨A6.out.later hbn⟩;obtain⟨w9,hw9⟩:=zev (w8.setRow w3.heap.size S2);have A8:Ω (At w3.heap.size (FL .i64 256 (rsum (x i) th (min (j+1) r))) 109 W4 w9):=⟨by
         rw[hm2.out,HS2.out,←hw9];exact⟨A7.out.os,A7.out.tape,A7.out.output,by simpa [World.setRow] using A7.out.size,setRow_heap _ _ _ _ _ _ A7.out.row,fun k hk hkg=>(setRow_other _ _ _ _ hkg).trans (A7.out.block k hk hkg)⟩⟩
        have HW9:=ω hw9;clear hC hbn A6 hw9 hjrz;simp only[List.drop_succ_cons,List.drop_zero];refine wpList_store_row rfl 109 _ _ rfl w3.heap.size S2 rfl rfl 109 _ A7.out.row Si2.out Sz2.out So2.out ?_;rw[HW9.out];go_wp2_with fail;go_roundw
        case rel=>exact⟨j+1,by have:=Hjlt.out;omega,by go_num,A8⟩
        case measure=>have:=Hjlt.out;simp[intOf];omega
       ·have hjrz:¬ (j:Int)<(r:Int):=by omega
        have A8:Ω (At w3.heap.size (FL .i64 256 (rsum (x i) th (min (j+1) r))) 109 W4 W11):=⟨by rw[show min (j+1) r=min j r by omega];exact A6.out⟩;clear A6 hjr;go_wp2_with (first
         | ((with_reducible refine wpList_load_mid rfl 109 _ rfl g o6 ?hx F.toList _ Hrg.out zX rfl ?hi ?_);(case hx=>rfl);(case hi=>rw[Array.length_toList];exact Fi.out))
         | (refine xam rfl 109 _ _ rfl F rfl rfl Fi.out (by exact Fz.out) Fo.out rfl ?_)
         | (rw[HW11.out]))
        go_roundw
        case rel=>exact⟨j+1,by have:=Hjlt.out;omega,by go_num,A8⟩
        case measure=>have:=Hjlt.out;simp[intOf];omega
      ·obtain rfl:j=N:=by omega
       have Hb9:Ω (∀ w1:World,Calls Tryz.prog 133 #[.agg T,.agg (FL .i64 256 (rsum (x i) th (min j r)))] w1 (zB w1 (.agg (FL .i64 256 (res i))))):=⟨fun w1=>by
        have h:=HBk.out (rsum (x i) th (min j r)) w1;rw[show (fun k=>(backR ζ 8 (rsum (x i) th (min j r)) k*8347681)%8380417)=res i from funext fun k=>by rw[←HN.out];exact Hres.out i k]at h;exact h⟩
       obtain⟨S,HS⟩:=xaa (FL .i64 256 (rsum (x i) th (min j r)));rw[HS.out]at A5 Hb9;have Si:=zri HS Hsize.out;have T5:Ω (wr.heap[w.heap.size]? = some (.cells T 34 (0,0))):=⟨by
        have h:=Hb.out.trans ((Hc.out.mono Hb.out.size).trans (D5.out.mono (Nat.le_trans Hb.out.size Hc.out.size)));exact(h.block _ (xac T0.out)).trans T0.out⟩
       have R5:=ω A5.out.row;have O5:Ω (wr.ownsRow w2.heap.size 109 256 u10 i (cq res i)):=⟨xbu Oy.out D5.out⟩;obtain⟨E,HE⟩:=xaa (FL .i64 256 (res i));rw[HE.out]at Hb9;have Es:=zfs HE;have Eo:=zro HE;have BX:=zbt Hc D5.out;clear A5 hjlt;go_wp2_with (first
        | (refine wpList_load_row rfl 34 _ rfl w.heap.size rfl 34 T (0,0) _ T5.out zY rfl HTz.out ?_)
        | (refine wpList_load_row rfl 109 _ rfl w3.heap.size rfl 109 S (0,0) _ R5.out zX rfl Si.out ?_))
       refine(Hb9.out _).mono ?_;rintro e w6 ⟨rfl,hb6⟩;have BY:=zbt BX hb6;have O6:Ω (w6.ownsRow w2.heap.size 109 256 u10 i (cq res i)):=⟨xbu O5.out hb6⟩;have hws:w2.heap.size≤w6.heap.size:=BY.out.size;clear hb6;go_wp2_with fail;refine wp_buildSlice 67 109 1 _ rfl E i0 (.agg z) Tryz.underlying67 HI.out.1 HI.out.2.1 (by rw[HI.out.2.2.1];decide) (by rw[HI.out.2.2.1];decide) ?hf ?_
       case hf=>
        go_simp
        exact⟨⟨decide_eq_false (fun h=>h (Es.out.trans HI.out.2.2.1.symm)),by rw[Es.out,HI.out.2.2.1];exact Nat.le_refl _⟩,xev E _ Es.out (by simp[HI.out.2.2.1])⟩
       go_wp2_with (at_builtin;refine wpList_append_own _ rfl _ _ 67 rfl w2.heap.size 109 i0 (.agg z) 256 2048 Tryz.underlying67 HI.out.1 HI.out.2.1 HI.out.2.2.1 HI.out.2.2.2 Hzc.out (by decide) _ _ _ rfl (O6.out.alloc _) ⟨w6.heap.size,0,none⟩ 1 1 E.toList rfl (by rw[Array.length_toList,Es.out]) (fun j u hu=>xdi hu) (fun u hu=>xd1 Eo.out u hu) (by unfold maxLen;omega) (by omega) (by rw[size_alloc];omega) ?_);intro v' w8 hown' hgrow _;have hb8:Below w2.heap.size w6 w8:=((Below.refl w2.heap.size w6).alloc hws _).grown hgrow (by rw[size_alloc];omega) (fun k hk=>(O6.out.lt k hk).1);have B8:Ω (Below w2.heap.size w2 w8):=⟨BY.out.trans hb8⟩;have O8:Ω (w8.ownsRow w2.heap.size 109 256 v' (i+1) (cq res (i+1))):=⟨by rw[cq,HE.out];exact hown'⟩;clear hown' hgrow hb8;go_wp2_with fail;go_roundw
       case rel=>exact⟨i+1,by have:=Hlt.out;omega,by go_num,O8,B8⟩
       case measure=>have:=Hlt.out;simp[intOf];omega
    ·obtain rfl:i=R:=by omega
     have Fx:Ω (w3.ownsRow w.heap.size 109 256 u10 i (cq res i)):=⟨xgf Oy.out BE.out.size⟩;clear Oy;go_wp2_with fail;go_ret;exact⟨⟨_,rfl,Fx.out⟩,B3.out⟩
end rkrw
end Go.Proofs.YtgahcabgmfbhdaaGreatDoor
