/-
  What package sample's pair returns: two bytes. Conditions: both numbers are below 256. Polynomials in a row: one of them written as a whole; a row that was just made; two makes in either order. No function of a program is named here. Conditions: as each theorem says. What package sample's uniform an
-/
import Derived.Test.YtgahcabgmfbhdaaGreatDoorZm02
import Derived.Test.YtgahcabgmfbhdaaGreatDoorZm07
import Derived.Test.YtgahcabgmfbhdaaGreatDoorProg
import Derived.Great.BuildSlice
import Derived.WalkMore
set_option maxRecDepth 100000
set_option maxHeartbeats 16000000
namespace Go.Proofs.YtgahcabgmfbhdaaGreatDoor
namespace qpair
open Go Go.RowKit
open arr mem polt rbitb rbitc saml
def x2 (a b:Nat):ByteArray:=⟨#[UInt8.ofNat a,UInt8.ofNat b]⟩
theorem pair_any (a b:Nat) (ha:a<256) (hb:b<256) (w:World):Calls Tryz.prog 92 #[.int .i64 (a:Int),.int .i64 (b:Int)] w fun e w'=>e=.returned (.string (x2 a b))∧Below w.heap.size w w':=by
 obtain⟨W,hW⟩:∃ x,w.alloc (.cells #[.int .u8 (a:Int),.int .u8 (b:Int)] 5)=x:=⟨_,rfl⟩
 obtain⟨r2,hs2,b2⟩:=one hW
 have hcv:=conv_lk (t:=5) (l:=[a,b]) (cap:=2) (n:=2) rfl (by simp;omega) r2
 obtain⟨X,hX⟩:∃ X:ByteArray,⟨(u8s [a,b]).toArray⟩=X:=⟨_,rfl⟩
 have hx2:X=x2 a b:=by rw[←hX];rfl
 rw[hX]at hcv
 rw[←hx2]
 have fa:IntKind.u8.wrap (a:Int)=(a:Int):=by rw[IntKind.wrap_u8];omega
 have fb:IntKind.u8.wrap (b:Int)=(b:Int):=by rw[IntKind.wrap_u8];omega
 have HW:=Away.mk hW
 have B2:=Away.mk b2
 clear hX hx2 r2 hs2 b2 hW
 go_enter Tryz.func92,Tryz.ntmps92
 go_wp2_with (rw[HW.out])
 go_ret
 exact⟨rfl,B2.out⟩
end qpair
namespace qrow
open Go Go.RowKit
open arr mem polys polt rbitc pols saml
def ups (p:Nat→Nat→Int) (i:Nat) (f:Nat→Int):Nat→Nat→Int:=fun i'=>if i'=i then f else p i'
def fst (q:Nat→Nat→Int) (n:Nat):Nat→Nat→Int:=fun i=>if i<n then q i else fun _=>0
theorem fst_zero (q:Nat→Nat→Int):fst q 0=fun _ _=>0:=by funext i;unfold fst;rw[if_neg (by omega)]
theorem ups_fst (q:Nat→Nat→Int) (n:Nat):ups (fst q n) n (q n)=fst q (n+1):=by
 funext i
 unfold ups fst
 by_cases e:i=n
 ·subst e;rw[if_pos rfl,if_pos (by omega)]
 ·rw[if_neg e]
  by_cases h:i<n
  ·rw[if_pos h,if_pos (by omega)]
  ·rw[if_neg h,if_neg (by omega)]
theorem sp_size (o:Nat) (vs:List Value) (C:Array Value):(sp C o vs).size=C.size:=by
 induction vs generalizing o C with
 | nil=>rfl
 | cons v r ih=>rw[sp,ih,Array.size_setIfInBounds]
theorem sp_get (vs:List Value):∀ (o:Nat) (C:Array Value) (j:Nat),j<C.size→(sp C o vs)[j]? = if o≤j∧j<o+vs.length then vs[j-o]? else C[j]? := by
 induction vs with
 | nil=>intro o C j _;rw[sp,if_neg (by rw[List.length_nil];omega)]
 | cons v r ih=>
  intro o C j hj
  rw[sp,ih (o+1) _ j (by rw[Array.size_setIfInBounds];exact hj),Array.getElem?_setIfInBounds,List.length_cons]
  by_cases e:j=o
  ·subst e
   rw[if_neg (by omega),if_pos rfl,if_pos hj,if_pos (by omega),Nat.sub_self]
   rfl
  ·by_cases h:o+1≤j∧j<o+1+r.length
   ·rw[if_pos h,if_pos (by omega),show j-o=(j-(o+1))+1 by omega]
    rfl
   ·rw[if_neg h,if_neg (by omega),if_neg (by omega)]
theorem sp_rw (m:Nat) (p:Nat→Nat→Int) (i:Nat) (f:Nat→Int):sp (RW m p) (256*i) (FL .i64 256 f).toList=RW m (ups p i f):=by
 apply Array.ext (by rw[sp_size,rw_size,rw_size])
 intro j h1 h2
 rw[sp_size,rw_size]at h1
 apply Option.some.inj
 rw[←Array.getElem?_eq_getElem,←Array.getElem?_eq_getElem,sp_get _ _ _ j (by rw[rw_size];exact h1),Array.length_toList,fl_size]
 have e2:(RW m (ups p i f))[j]? = some (.int .i64 (ups p i f (j / 256) (j%256))):=fl_get .i64 (256*m) _ j h1
 have e3:(RW m p)[j]? = some (.int .i64 (p (j / 256) (j%256))):=fl_get .i64 (256*m) _ j h1
 rw[e2,e3]
 unfold ups
 by_cases h : 256*i≤j∧j<256*i+256
 ·rw[if_pos h,if_pos (by omega),Array.getElem?_toList,fl_get .i64 256 f _ (by omega)]
  rw[show j-256*i=j%256 by omega]
 ·rw[if_neg h,if_neg (by omega)]
theorem wpList_putp {ops:Array Oper} {Q:Exit→Act→World→Prop} {rest:List Oper} {op:Oper} {ac:Act} {w0 w:World} {g m i o:Nat} {t:TypeId} {p:Nat→Nat→Int} {f:Nat→Int} {F:Array Value} (H:Away (At g (RW m p) t w0 w)) (hF:FL .i64 256 f=F) (hi:i<m) (hoi:i*256=o)
 (hgd:op.guard=none) (x y:Operand) (ho:op.op=.store 109 x y) (hd:op.dst=none) (hx:ac.eval x=.pointer (some ⟨g,o,none⟩)) (hy:ac.eval y=.agg F)
 (h:∀ w',Away (At g (RW m (ups p i f)) t w0 w')→wpList Tryz.prog ops Q rest ac w'):wpList Tryz.prog ops Q (op :: rest) ac w:=by
 subst hF
 obtain⟨hz,hsize⟩:=zero_of_info polt.infoP
 refine wpList_store_mid hgd _ x y ho g o (FL .i64 256 f) hx hy (fun j hj=>?_) (by rw[fl_size];exact hsize) (fl_one _ _ _) ?_
 ·rw[fl_size]at hj
  rw[H.out.cell,H.out.frozen]
  have e3:(RW m p)[o+j]? = some (.int .i64 (p ((o+j) / 256) ((o+j)%256))):=fl_get .i64 (256*m) _ (o+j) (by omega)
  rw[e3]
  exact⟨rfl,rfl⟩
 ·rw[hd]
  refine h _ ⟨?_⟩
  have h1:At g (sp (RW m p) (256*i) (FL .i64 256 f).toList) t w (w.setCells g (256*i) (FL .i64 256 f).toList):=At.set H.out.row H.out.lt (Below.refl _ _)
  rw[sp_rw m p i f]at h1
  rw[show o=256*i by omega]
  exact H.out.trans h1
theorem own_rowP {w:World} {base g M size:Nat} {e:TypeId} {xs:List Value} (h:w.ownsRow base e size (.slice (some ⟨g,0,none⟩) M M) M xs):∃ cur,w.heap[g]? = some (.cells cur e (0,0))∧cur.toList=xs:=by
 rcases h.2 with ⟨h',-⟩ | ⟨g',cap',cur,h',hb,hg,-,hm,hs,htake⟩
 ·simp at h'
 ·simp only[Value.slice.injEq,Option.some.injEq,Addr.mk.injEq,and_true,true_and]at h'
  obtain⟨rfl,rfl⟩:=h'
  refine⟨cur,hg,?_⟩
  rw[←htake,List.take_of_length_le (by rw[Array.length_toList];omega)]
theorem made_row {w w':World} {B:Nat} {z:Array Value} {e:TypeId} {n:Nat} (hz:FL .i64 256 (fun _=>0)=z) (h:w'.ownsRow B e 256 (.slice (some ⟨w.heap.size,0,none⟩) n n) n (madeCells (Value.agg z).cells (n*256)).toList) (hg:w.grownBy w' none):
 w'.heap[w.heap.size]? = some (.cells (RW n fun _ _=>0) e (0,0))∧Below w.heap.size w w':=by
 obtain⟨cur,h1,h2⟩:=own_rowP h
 have e0:cur=RW n fun _ _=>0:=by
  apply Array.ext'
  rw[h2,←hz]
  exact congrArg Array.toList (made_rw n)
 rw[e0]at h1
 exact⟨h1,(Below.refl _ _).grown hg (Nat.le_refl _) (fun k hk=>by simp at hk)⟩
theorem wp_make_full {P:Program} {w:World} {o:Oper} {a:Act} {K:Act→World→Prop} {Q:Exit→Act→World→Prop} (l c:Operand) (t:TypeId) (hop:o.op=Op.makeSlice t l c)
 (e:TypeId) (i:TypeInfo) (z:Value) (size:Nat) (h1:P.underlying t=some (.slice e)) (h2:P.info? e=some i) (h3:i.zero=some z) (h4:i.size=size)
 (kl kc:IntKind) (n:Nat) (hl:a.eval l=.int kl (n:Int)) (hc:a.eval c=.int kc (n:Int)) (b2:i.bytes*n≤281474976710656) (b3:n≤maxLen)
 (hK:∀ w',w'.ownsRow w.heap.size e size (.slice (some ⟨w.heap.size,0,none⟩) n n) n (madeCells z.cells (n*size)).toList→w.grownBy w' none→K (a.put o.dst (.slice (some ⟨w.heap.size,0,none⟩) n n)) w'):
 o.wp P a w K Q:=by
 obtain⟨w',hrun,r1,r2⟩:=run_make_full (P:=P) w w.heap.size t e i z size h1 h2 h3 h4 kl kc n b2 b3 (Nat.le_refl _)
 unfold Oper.wp
 simp[execOp,hop,hl,hc,hrun,Result.andThen]
 exact hK w' r1 r2
theorem row_holds {w:World} {B g m c:Nat} {t:TypeId} {p q:Nat→Nat→Int} (h:w.heap[g]? = some (.cells (RW m p) t (0,0))) (hB:B≤g) (hp:∀ i,i<m→p i=q i):Holds w B (.slice (some ⟨g,0,none⟩) m c) m q:=
 ⟨g,c,rfl,hB,lt_of_row h,fun i hi k hk=>by rw[rw_cell h i k hi hk,hp i hi]⟩
theorem fst_lt (q:Nat→Nat→Int) (n i:Nat) (h:i<n):fst q n i=q i:=by unfold fst;rw[if_pos h]
end qrow
namespace quni
open Go Go.RowKit
open arr mem stil polys polt rbitc samm rsuni
def tl (s:ByteArray) (i:Nat):ByteArray:=s.extract i s.size
theorem tl_size (s:ByteArray) (i:Nat) (h:i≤s.size):(tl s i).size=s.size-i:=pols.size_extract s i s.size h (Nat.le_refl _)
theorem tl_tl (s:ByteArray) (i k:Nat) (h:i+k≤s.size):(tl s i).extract k (tl s i).size=tl s (i+k):=by
 rw[tl_size s i (by omega)]
 unfold tl
 rw[ByteArray.extract_extract]
 congr 1
 omega
theorem tl_zero (s:ByteArray):tl s 0=s:=by unfold tl;simp
theorem tl_by (s:ByteArray) (i k:Nat) (h:i+k<s.size):by' (bys (tl s i)) k=by' (bys s) (i+k):=pols.bys_extract s i s.size k (by omega)
def strLen:Value→Nat
 | .string b=>b.size
 | _=>0
theorem uniform_any (s:ByteArray) (w:World) (hs:s.size=1008):
 Calls Tryz.prog 150 #[.string s] w fun e w'=>e=.returned (.agg (FL .i64 256 (uni (bys s))))∧Below w.heap.size w w':=by
 obtain⟨hz,hsize⟩:=zero_of_info polt.infoP
 obtain⟨z,HZ⟩:=ex_eq (FL .i64 256 fun _=>0)
 rw[HZ.out]at hz
 have Hzs:Away (z.size=256):=⟨by rw[←HZ.out];exact fl_size _ _ _⟩
 obtain⟨R,HR⟩:=ex_eq (FL .i64 256 (uni (bys s)))
 have Ri:Away ((Tryz.prog.info? 109).map (·.size)=some R.size):=⟨by rw[←HR.out,fl_size];exact hsize⟩
 have Ro:Away (R.all (·.oneCell')=true):=⟨by rw[←HR.out];exact fl_one _ _ _⟩
 have Rz:Away (z.size=R.size):=⟨by rw[Hzs.out,←HR.out,fl_size]⟩
 have HRd:Away (FL .i64 256 (lf (ua (bys s) 336))=R):=HR
 rw[HR.out]
 obtain⟨W1,hW⟩:∃ x,(w.alloc (.cells z 109)).alloc (.cells z 109)=x:=⟨_,rfl⟩
 obtain⟨r0,r1,hWs,b0⟩:=two hW
 have R1:Away (W1.heap[w.heap.size]? = some (.cells z 109 (0,0))):=⟨r0⟩
 have A0:Away (At (w.heap.size+1) (FL .i64 256 (lf (ua (bys s) 0))) 109 W1 W1):=⟨by rw[ua,lf_nil,HZ.out];exact At.refl r1⟩
 have B1:=Away.mk b0
 have HW:=Away.mk hW
 have Htl:Away (tl s (3*0)=s):=⟨tl_zero s⟩
 have Hs:=Away.mk hs
 clear hW r0 r1 b0 hWs hsize HR hs
 go_enter Tryz.func150,Tryz.ntmps150
 go_wp2_with (rw[HW.out])
 clear hz
 go_loopw [0,4] (fun b c wr=>∃ j:Nat,j≤336∧b=.string (tl s (3*j))∧c=.int .i64 (((ua (bys s) j).length:Nat):Int)∧Away (At (w.heap.size+1) (FL .i64 256 (lf (ua (bys s) j))) 109 W1 wr)) (fun b _ _=>strLen b)
 case atStart=>exact⟨0,by omega,by rw[Htl.out],rfl,A0⟩
 case round=>
  clear A0
  obtain⟨j,hj,rfl,rfl,A0⟩:=hrel
  have BE:Away (Below w.heap.size w wr):=⟨B1.out.trans (A0.out.below B1.out.size (by omega))⟩
  obtain⟨n,hn⟩:∃ n,(ua (bys s) j).length=n:=⟨_,rfl⟩
  have hn256:=(ua_le (bys s) j).1
  rw[hn]at hn256 ⊢
  obtain⟨X,hX⟩:∃ X,tl s (3*j)=X:=⟨_,rfl⟩
  have hXs:X.size=1008-3*j:=by rw[←hX,tl_size s (3*j) (by rw[Hs.out];omega),Hs.out]
  obtain⟨m,hm⟩:∃ m,X.size=m:=⟨_,rfl⟩
  rw[hm]at hXs
  have hmi:(X.size:Int)=(m:Int):=by omega
  rw[hX]
  by_cases hgo:j<336∧n<256
  ·obtain⟨hj336,hn2⟩:=hgo
   have hm3:(3:Int)≤(m:Int):=by omega
   have hsl : 3≤X.size:=by omega
   have hn2z:(n:Int)<256:=by omega
   have hix:∀ k:Nat,k<3→∀ w1:World,(Instr.index 9 (.string X) (.int .i64 (k:Int))).run Tryz.prog w1=.ok (.int .u8 ((by' (bys s) (3*j+k):Nat):Int)) w1:=fun k hk w1=>by
    refine byte_of X k _ (by omega) ?_ w1
    rw[←hX]
    exact tl_by s (3*j) k (by rw[Hs.out];omega)
   obtain⟨β0,hβ0⟩:∃ β,by' (bys s) (3*j) = β := ⟨_,rfl⟩
   obtain⟨β1,hβ1⟩:∃ β,by' (bys s) (3*j+1) = β := ⟨_,rfl⟩
   obtain⟨β2,hβ2⟩:∃ β,by' (bys s) (3*j+2) = β := ⟨_,rfl⟩
   have hi1:∀ w1:World,(Instr.index 9 (.string X) (.int .i64 0)).run Tryz.prog w1=.ok (.int .u8 (β0:Int)) w1:=by have:=hix 0 (by omega);rwa [Nat.add_zero,hβ0]at this
   have hi2:∀ w1:World,(Instr.index 9 (.string X) (.int .i64 1)).run Tryz.prog w1=.ok (.int .u8 (β1:Int)) w1:=by have:=hix 1 (by omega);rwa [hβ1]at this
   have hi3:∀ w1:World,(Instr.index 9 (.string X) (.int .i64 2)).run Tryz.prog w1=.ok (.int .u8 (β2:Int)) w1:=by have:=hix 2 (by omega);rwa [hβ2]at this
   have l0 : β0<256:=by rw[←hβ0];exact by_lt s _
   have l1 : β1<256:=by rw[←hβ1];exact by_lt s _
   have l2 : β2<256:=by rw[←hβ2];exact by_lt s _
   obtain⟨γ,hγ⟩:∃ γ,β2%128 = γ := ⟨_,rfl⟩
   obtain⟨p,hp⟩:∃ p,β1*256=p:=⟨_,rfl⟩
   obtain⟨q,hq⟩:∃ q,γ * 65536=q:=⟨_,rfl⟩
   obtain⟨y,hy⟩:∃ y,β0+256 * β1=y:=⟨_,rfl⟩
   obtain⟨x,hx⟩:∃ x,β0+256 * β1+65536 * γ = x:=⟨_,rfl⟩
   have htri:tri (bys s) (3*j)=x:=by unfold tri;rw[hβ0,hβ1,hβ2,hγ,hx]
   obtain⟨v1,v2⟩:=or_tri β0 β1 γ l0 l1 (by omega)
   rw[hp,hy]at v1
   rw[hy,hq,show y+65536 * γ = x by omega]at v2
   have va:=and_127 β2 l2
   rw[hγ]at va
   have fp:(β1:Int)*256=(p:Int):=by omega
   have fpw:IntKind.i64.wrap ((β1:Int)*256)=(p:Int):=by rw[fp,IntKind.wrap_i64];omega
   have fq:(γ : Int)*65536=(q:Int):=by omega
   have fqw:IntKind.i64.wrap ((γ : Int)*65536)=(q:Int):=by rw[fq,IntKind.wrap_i64];omega
   have w0:IntKind.i64.wrap (β0:Int)=(β0:Int):=by rw[IntKind.wrap_i64];omega
   have w1:IntKind.i64.wrap (β1:Int)=(β1:Int):=by rw[IntKind.wrap_i64];omega
   have w2:IntKind.i64.wrap (γ : Int)=(γ : Int):=by rw[IntKind.wrap_i64];omega
   have wp:IntKind.i64.wrap (p:Int)=(p:Int):=by rw[IntKind.wrap_i64];omega
   have wq:IntKind.i64.wrap (q:Int)=(q:Int):=by rw[IntKind.wrap_i64];omega
   have hnext:Away (X.extract 3 X.size=tl s (3*(j+1))):=⟨by rw[←hX,tl_tl s (3*j) 3 (by rw[Hs.out];omega)];rfl⟩
   have hless:Away ((tl s (3*(j+1))).size<X.size):=⟨by rw[tl_size s _ (by rw[Hs.out];omega),Hs.out];omega⟩
   have A1:Away (At (w.heap.size+1) (FL .i64 256 (lf (ua (bys s) j))) 109 W1 wr.drew):=⟨at_drew A0.out⟩
   have Hn:=Away.mk hn
   have Htri:=Away.mk htri
   clear hβ0 hβ1 hβ2 hγ hp hq hx hy hn htri hix hX hXs hm
   go_wp2_with fail
   refine still_all (by kernel_rfl) (by kernel_rfl) ?_
   repeat still_step
   refine wpStill_nil ?_
   clear hi1 hi2 hi3 v1 v2 va fp fpw fq fqw w0 w1 w2 wp wq A0
   by_cases hx:x<8380417
   ·have hxz:(x:Int)<8380417:=by omega
    have Hua:Away (ua (bys s) (j+1)=ua (bys s) j ++ [x]):=⟨by rw[ua,Htri.out,if_pos ⟨by rw[Hn.out];exact hn2,hx⟩]⟩
    have Hset:Away ((FL .i64 256 (lf (ua (bys s) j))).setIfInBounds n (.int .i64 (x:Int))=FL .i64 256 (lf (ua (bys s) (j+1)))):=⟨by rw[fl_set,Hua.out,←lf_snoc,Hn.out]⟩
    clear hx
    go_wp2_with ((with_reducible refine wpList_put2 A1 rfl _ _ _ rfl rfl ?_);refine⟨_,_,_,rfl,rfl,rfl,(by rw[fl_size];exact hn2),?_⟩;intro wn HRn;rw[Hset.out]at HRn)
    go_roundw
    case rel=>exact⟨j+1,by omega,by rw[hnext.out],by rw[show (ua (bys s) (j+1)).length=n+1 by rw[Hua.out,List.length_append,Hn.out];rfl];go_num,HRn⟩
    case measure=>show (X.extract 3 X.size).size<X.size;rw[hnext.out];exact hless.out
   ·have hxz:¬ (x:Int)<8380417:=by omega
    have Hua:Away (ua (bys s) (j+1)=ua (bys s) j):=⟨by rw[ua,Htri.out,if_neg (fun h=>hx h.2)]⟩
    clear hx
    go_wp2_with fail
    go_roundw
    case rel=>exact⟨j+1,by omega,by rw[hnext.out],by rw[Hua.out,Hn.out],by rw[Hua.out];exact A1⟩
    case measure=>show (X.extract 3 X.size).size<X.size;rw[hnext.out];exact hless.out
  ·have hend:Away (ua (bys s) j=ua (bys s) 336):=⟨by
    by_cases h:j=336
    ·rw[h]
    ·exact(ua_full (bys s) j 336 (by omega) hj).symm⟩
   rw[hend.out,HRd.out]at A0
   have Hrow:=Away.mk A0.out.row
   have Hres:Away (wr.heap[w.heap.size]? = some (.cells z 109 (0,0))):=⟨A0.out.other (lt_of_row R1.out) (by omega) R1.out⟩
   clear A0 hn hX
   by_cases h:j<336
   ·have hm3:(3:Int)≤(m:Int):=by omega
    have hn256z:¬ (n:Int)<256:=by omega
    clear hgo hend hXs hm
    go_wp2_with (first
     | (refine wpList_load_row rfl 109 _ rfl (w.heap.size+1) rfl 109 R (0,0) _ Hrow.out Tryz.underlying109 rfl Ri.out ?_)
     | (refine wpList_store_row rfl 109 _ _ rfl w.heap.size R rfl rfl 109 _ Hres.out Ri.out Rz.out Ro.out ?_))
    refine bodyPost_ret_by (v:=.agg R) (results_cell_row rfl _ _ w.heap.size 109 _ (0,0) _ rfl (setRow_heap _ _ _ _ _ _ Hres.out) Tryz.underlying109 rfl Ri.out) rfl ?_
    exact⟨rfl,BE.out.trans (below_setRow _ _ _ (Nat.le_refl _))⟩
   ·have hm3:¬ (3:Int)≤(m:Int):=by omega
    clear hgo hend hXs hm
    go_wp2_with (first
     | (refine wpList_load_row rfl 109 _ rfl (w.heap.size+1) rfl 109 R (0,0) _ Hrow.out Tryz.underlying109 rfl Ri.out ?_)
     | (refine wpList_store_row rfl 109 _ _ rfl w.heap.size R rfl rfl 109 _ Hres.out Ri.out Rz.out Ro.out ?_))
    refine bodyPost_ret_by (v:=.agg R) (results_cell_row rfl _ _ w.heap.size 109 _ (0,0) _ rfl (setRow_heap _ _ _ _ _ _ Hres.out) Tryz.underlying109 rfl Ri.out) rfl ?_
    exact⟨rfl,BE.out.trans (below_setRow _ _ _ (Nat.le_refl _))⟩
theorem Uniform_any {T:Array Value} (b s:ByteArray) (w:World) (hT:(Tryz.prog.info? 34).map (·.size)=some T.size) (hs:s.size=1008)
 (HS:∀ w1:World,Below w.heap.size w w1→Calls Tryz.prog 90 #[.agg T,.int .i64 1,.string b,.int .i64 1008] w1 fun e w'=>e=.returned (.tuple #[.string s,.int .i64 0])∧Below w1.heap.size w1 w'):
 Calls Tryz.prog 98 #[.agg T,.string b] w fun e w'=>e=.returned (.agg (FL .i64 256 (uni (bys s))))∧Below w.heap.size w w':=by
 obtain⟨hz,hsize⟩:=zero_of_info polt.infoP
 obtain⟨z,HZ⟩:=ex_eq (FL .i64 256 fun _=>0)
 rw[HZ.out]at hz
 have Hzs:Away (z.size=256):=⟨by rw[←HZ.out];exact fl_size _ _ _⟩
 have HU:Away (∀ w1:World,Calls Tryz.prog 150 #[.string s] w1 fun e w'=>e=.returned (.agg (FL .i64 256 (uni (bys s))))∧Below w1.heap.size w1 w'):=⟨fun w1=>uniform_any s w1 hs⟩
 obtain⟨R,HR⟩:=ex_eq (FL .i64 256 (uni (bys s)))
 have Ri:Away ((Tryz.prog.info? 109).map (·.size)=some R.size):=⟨by rw[←HR.out,fl_size];exact hsize⟩
 have Ro:Away (R.all (·.oneCell')=true):=⟨by rw[←HR.out];exact fl_one _ _ _⟩
 have Rz:Away (z.size=R.size):=⟨by rw[Hzs.out,←HR.out,fl_size]⟩
 have HTz:=Away.mk hT
 rw[HR.out]at HU ⊢
 obtain⟨W,hW⟩:∃ x,(w.alloc (.cells T 34)).alloc (.cells z 109)=x:=⟨_,rfl⟩
 obtain⟨r0,r1,hWs,b0⟩:=two hW
 have T0:Away (W.heap[w.heap.size]? = some (.cells T 34 (0,0))):=⟨r0⟩
 have R0:Away (W.heap[w.heap.size+1]? = some (.cells z 109 (0,0))):=⟨r1⟩
 have BW:=Away.mk b0
 have HWs:=Away.mk hWs
 have HW:=Away.mk hW
 have HSh:=Away.mk (HS W b0)
 clear hW r0 r1 b0 hWs hsize HS hT HR hs
 go_enter Tryz.func98,Tryz.ntmps98
 go_wp2_with (first
  | (rw[HW.out])
  | (refine wpList_load_row rfl 34 _ rfl w.heap.size rfl 34 T (0,0) _ T0.out Tryz.underlying34 rfl HTz.out ?_))
 refine HSh.out.mono ?_
 rintro e u1 ⟨rfl,hb1⟩
 have R1:Away (u1.heap[w.heap.size+1]? = some (.cells z 109 (0,0))):=⟨(hb1.block _ (by rw[HWs.out];omega)).trans R0.out⟩
 have B1:Away (Below w.heap.size w u1):=⟨BW.out.trans (hb1.mono (by rw[HWs.out];omega))⟩
 have Hlt:Away (w.heap.size+1<u1.heap.size):=⟨lt_of_row R1.out⟩
 clear hb1 hz
 go_wp2_with fail
 refine(HU.out _).mono ?_
 rintro e u2 ⟨rfl,hb2⟩
 have R2:Away (u2.heap[w.heap.size+1]? = some (.cells z 109 (0,0))):=⟨(hb2.block _ Hlt.out).trans R1.out⟩
 have B2:Away (Below w.heap.size w u2):=⟨B1.out.trans (hb2.mono B1.out.size)⟩
 clear hb2
 go_wp2_with (refine wpList_store_row rfl 109 _ _ rfl (w.heap.size+1) R rfl rfl 109 _ R2.out Ri.out Rz.out Ro.out ?_)
 refine bodyPost_ret_by (v:=.agg R) (results_cell_row rfl _ _ (w.heap.size+1) 109 _ (0,0) _ rfl (setRow_heap _ _ _ _ _ _ R2.out) Tryz.underlying109 rfl Ri.out) rfl ?_
 exact⟨rfl,B2.out.trans (below_setRow _ _ _ (Nat.le_succ _))⟩
end quni
namespace qsma
open Go Go.RowKit
open arr mem stil polys polt rbitc rbitd samm rsuni rssma
def cv (e:Int) (b:Nat):Int:=if hok e b=true then (if e=2 then 2-((b%5:Nat):Int) else 4-(b:Int)) else 0
theorem cv_red (e:Int) (b:Nat) (h:hok e b=true):cv e b%8380417=hv e b:=by
 unfold cv hv
 rw[if_pos h]
 split<;>rfl
theorem cv_lt (e:Int) (b:Nat) (hb:b<16) : -16≤cv e b∧cv e b≤16:=by
 unfold cv
 split
 ·split<;>omega
 ·omega
theorem smallOf_any (b:Nat) (hb:b<16) (e:Int) (w:World):Calls Tryz.prog 174 #[.int .i64 (b:Int),.int .i64 e] w fun x w'=>x=.returned (.tuple #[.int .i64 (cv e b),.bool (hok e b)])∧w'=w:=by
 by_cases he:e=2
 ·subst he
  by_cases h:b<15
  ·have ho:hok 2 b=true:=by unfold hok;rw[if_pos rfl];exact decide_eq_true h
   obtain⟨r,hr⟩:∃ r,b%5=r:=⟨_,rfl⟩
   have hc:cv 2 b=2-(r:Int):=by unfold cv;rw[if_pos ho,if_pos rfl,hr]
   rw[hc,ho]
   have hz:(b:Int)<15:=by omega
   have fr:(b:Int).tmod 5=(r:Int):=by rw[Int.tmod_eq_emod_of_nonneg (by omega)];omega
   have fr2:(b:Int)%5=(r:Int):=by omega
   have fw:IntKind.i64.wrap (2-(r:Int))=2-(r:Int):=by rw[IntKind.wrap_i64];omega
   clear hc hr ho
   go_enter Tryz.func174,Tryz.ntmps174
   go_wp2_with fail
   go_ret2
   exact⟨by first | rfl | simp_all,rfl⟩
  ·have ho:hok 2 b=false:=by unfold hok;rw[if_pos rfl];exact decide_eq_false h
   have hc:cv 2 b=0:=by unfold cv;rw[ho];rfl
   rw[hc,ho]
   have hz:¬ (b:Int)<15:=by omega
   clear hc ho
   go_enter Tryz.func174,Tryz.ntmps174
   go_wp2_with fail
   go_ret2
   exact⟨by first | rfl | simp_all,rfl⟩
 ·have fe:(e==2)=false:=beq_eq_false_iff_ne.2 he
  have fe2:(e != 2)=true:=by simpa using he
  by_cases h:b<9
  ·have ho:hok e b=true:=by unfold hok;rw[if_neg he];exact decide_eq_true h
   have hc:cv e b=4-(b:Int):=by unfold cv;rw[if_pos ho,if_neg he]
   rw[hc,ho]
   have hz:(b:Int)<9:=by omega
   have fw:IntKind.i64.wrap (4-(b:Int))=4-(b:Int):=by rw[IntKind.wrap_i64];omega
   clear hc ho he
   go_enter Tryz.func174,Tryz.ntmps174
   go_wp2_with fail
   go_ret2
   exact⟨by first | rfl | simp_all,rfl⟩
  ·have ho:hok e b=false:=by unfold hok;rw[if_neg he];exact decide_eq_false h
   have hc:cv e b=0:=by unfold cv;rw[ho];rfl
   rw[hc,ho]
   have hz:¬ (b:Int)<9:=by omega
   clear hc ho he
   go_enter Tryz.func174,Tryz.ntmps174
   go_wp2_with fail
   go_ret2
   exact⟨by first | rfl | simp_all,rfl⟩
theorem small_any (s:ByteArray) (e:Int) (w:World) (hs:s.size=816):
 Calls Tryz.prog 144 #[.string s,.int .i64 e] w fun x w'=>x=.returned (.agg (FL .i64 256 (sma (bys s) e)))∧Below w.heap.size w w':=by
 obtain⟨hz,hsize⟩:=zero_of_info polt.infoP
 obtain⟨z,HZ⟩:=ex_eq (FL .i64 256 fun _=>0)
 rw[HZ.out]at hz
 have Hzs:Away (z.size=256):=⟨by rw[←HZ.out];exact fl_size _ _ _⟩
 obtain⟨R,HR⟩:=ex_eq (FL .i64 256 (sma (bys s) e))
 have Ri:Away ((Tryz.prog.info? 109).map (·.size)=some R.size):=⟨by rw[←HR.out,fl_size];exact hsize⟩
 have Ro:Away (R.all (·.oneCell')=true):=⟨by rw[←HR.out];exact fl_one _ _ _⟩
 have Rz:Away (z.size=R.size):=⟨by rw[Hzs.out,←HR.out,fl_size]⟩
 have HRd:Away (FL .i64 256 (lf (sa (bys s) e 1632))=R):=HR
 rw[HR.out]
 have Hix:Away (∀ j:Nat,j<816→∀ w1:World,(Instr.index 9 (.string s) (.int .i64 (j:Int))).run Tryz.prog w1=.ok (.int .u8 ((by' (bys s) j:Nat):Int)) w1):=⟨fun j hj w1=>byte_of s j _ (by omega) rfl w1⟩
 obtain⟨W1,hW⟩:∃ x,(w.alloc (.cells z 109)).alloc (.cells z 109)=x:=⟨_,rfl⟩
 obtain⟨r0,r1,hWs,b0⟩:=two hW
 have R1:Away (W1.heap[w.heap.size]? = some (.cells z 109 (0,0))):=⟨r0⟩
 have A0:Away (At (w.heap.size+1) (FL .i64 256 (lf (sa (bys s) e (2*0)))) 109 W1 W1):=⟨by rw[Nat.mul_zero,sa,lf_nil,HZ.out];exact At.refl r1⟩
 have B1:=Away.mk b0
 have HW:=Away.mk hW
 have hszi:(s.size:Int)=816:=by omega
 clear hW r0 r1 b0 hWs hsize HR hs
 go_enter Tryz.func144,Tryz.ntmps144
 iterate 2 (go_wp2_with (rw[HW.out]);go_step3)
 go_wp2_with fail
 clear hz
 go_loopw [14,6] (fun v c wr=>∃ j:Nat,j≤816∧v=.int .i64 (j:Int)∧c=.int .i64 (((sa (bys s) e (2*j)).length:Nat):Int)∧(sa (bys s) e (2*j)).length<256∧Away (At (w.heap.size+1) (FL .i64 256 (lf (sa (bys s) e (2*j)))) 109 W1 wr)) (fun v _ _=>816-(intOf v).toNat)
 case atStart=>exact⟨0,by omega,rfl,rfl,by rw[Nat.mul_zero,sa];decide,A0⟩
 case round=>
  clear A0
  obtain⟨j,hj,rfl,rfl,hn2,A0⟩:=hrel
  have BE:Away (Below w.heap.size w wr):=⟨B1.out.trans (A0.out.below B1.out.size (by omega))⟩
  obtain⟨n,hn⟩:∃ n,(sa (bys s) e (2*j)).length=n:=⟨_,rfl⟩
  rw[hn]at hn2 ⊢
  by_cases hj816:j<816
  ·have hjz:(j:Int)<816:=by omega
   have hn2z:(n:Int)<256:=by omega
   have hi1:=Hix.out j hj816
   obtain⟨β,hβ⟩:∃ β,by' (bys s) j = β := ⟨_,rfl⟩
   have l0 : β < 256:=by rw[←hβ];exact by_lt s _
   obtain⟨lo,hlo⟩:∃ lo,β % 16=lo:=⟨_,rfl⟩
   obtain⟨hi,hhi⟩:∃ hi,β / 16=hi:=⟨_,rfl⟩
   have va:=and_15 β l0
   rw[hlo]at va
   rw[hβ]at hi1
   have fh:(β : Int) / 16=(hi:Int):=by omega
   have Hhf:Away (∀ k,k<2→hf (bys s) (2*j+k)=if k=0 then lo else hi):=⟨fun k hk=>by
    unfold hf
    rw[show (2*j+k) / 2=j by omega,hβ,hlo,hhi]
    by_cases h:k=0
    ·rw[if_pos h,if_pos (by omega)]
    ·rw[if_neg h,if_neg (by omega)]⟩
   have Hl16:Away (lo<16∧hi<16):=⟨by omega⟩
   have Hk2:Away (∀ k:Nat,k<2→∀ w1:World,(Instr.index 195 (.agg #[.int .u8 (lo:Int),.int .u8 (hi:Int)]) (.int .i64 (k:Int))).run Tryz.prog w1=.ok (.int .u8 (((if k=0 then lo else hi):Nat):Int)) w1):=⟨fun k hk w1=>by
    refine index_row (P:=Tryz.prog) Tryz.underlying195 (by kernel_rfl) (by kernel_rfl) (by kernel_rfl) _ _ k hk ?_ w1
    rcases (show k=0∨k=1 by omega) with rfl | rfl
    ·rfl
    ·rfl⟩
   have Hn:=Away.mk hn
   have A2:Away (At (w.heap.size+1) (FL .i64 256 (lf (sa (bys s) e (2*j+0)))) 109 W1 wr.drew):=⟨at_drew A0.out⟩
   clear hβ hlo hhi hn
   go_wp2_with fail
   refine still_all (by kernel_rfl) (by kernel_rfl) ?_
   repeat still_step
   refine wpStill_nil ?_
   have Hn0:Away ((sa (bys s) e (2*j+0)).length=n):=⟨by rw[Nat.add_zero];exact Hn.out⟩
   clear va hi1 fh A0
   go_wp2_with fail
   go_loopw [26,6] (fun v c wv=>∃ k:Nat,k≤2∧v=.int .i64 (k:Int)∧c=.int .i64 (((sa (bys s) e (2*j+k)).length:Nat):Int)∧(sa (bys s) e (2*j+k)).length<256∧Away (At (w.heap.size+1) (FL .i64 256 (lf (sa (bys s) e (2*j+k)))) 109 W1 wv)) (fun v _ _=>2-(intOf v).toNat)
   case atStart=>exact⟨0,by omega,rfl,by rw[Hn0.out],by rw[Hn0.out];exact hn2,A2⟩
   case round=>
    rename World=>wv
    clear A2
    obtain⟨k,hk,rfl,rfl,hn6,A0⟩:=hrel
    obtain⟨n',hn'⟩:∃ n',(sa (bys s) e (2*j+k)).length=n':=⟨_,rfl⟩
    rw[hn']at hn6 ⊢
    have Hn':=Away.mk hn'
    clear hn'
    by_cases hk2:k<2
    ·have hkz:(k:Int)<2:=by omega
     have hix:=Hk2.out k hk2
     obtain⟨h,hh⟩:∃ h,(if k=0 then lo else hi)=h:=⟨_,rfl⟩
     have hhf:=Hhf.out k hk2
     rw[hh]at hhf hix
     have hh16:h<16:=by have:=Hl16.out;rw[←hh];split<;>omega
     have HH:=Away.mk (fun w1=>smallOf_any h hh16 e w1)
     have hvr:=hv_red e h
     have hcl:=cv_lt e h hh16
     have fh64:IntKind.i64.wrap (h:Int)=(h:Int):=by rw[IntKind.wrap_i64];omega
     obtain⟨V,hV⟩:∃ V:Nat,hv e h=(V:Int):=⟨(hv e h).toNat,by omega⟩
     have HRd2:Away (hok e h=true→∀ w1:World,Calls Tryz.prog 112 #[.int .i64 (cv e h)] w1 fun x w'=>x=.returned (.int .i64 (V:Int))∧w'=w1):=⟨fun ho w1=>by
      have:=fld1.reduce_any (cv e h) w1
      rwa [cv_red e h ho,hV]at this⟩
     obtain⟨c,hc⟩:∃ c,cv e h=c:=⟨_,rfl⟩
     rw[hc]at HH HRd2
     have Hok:Away (hok e (hf (bys s) (2*j+k))=hok e h):=⟨by rw[hhf]⟩
     have HV:Away ((hv e (hf (bys s) (2*j+k))).toNat=V):=⟨by rw[hhf,hV];rfl⟩
     by_cases ho:hok e h=true
     ·have Hred:=Away.mk (HRd2.out ho)
      rw[ho]at HH Hok
      have Hsa:Away (sa (bys s) e (2*j+(k+1))=sa (bys s) e (2*j+k) ++ [V]):=⟨by
       rw[show 2*j+(k+1)=(2*j+k)+1 by omega,sa,if_pos ⟨by rw[Hn'.out];exact hn6,Hok.out⟩,HV.out]⟩
      have Hset:Away ((FL .i64 256 (lf (sa (bys s) e (2*j+k)))).setIfInBounds n' (.int .i64 (V:Int))=FL .i64 256 (lf (sa (bys s) e (2*j+(k+1))))):=⟨by rw[fl_set,Hsa.out,←lf_snoc,Hn'.out]⟩
      have Hlen:Away ((sa (bys s) e (2*j+(k+1))).length=n'+1):=⟨by rw[Hsa.out,List.length_append,Hn'.out];rfl⟩
      have fn1:IntKind.i64.wrap ((n':Int)+1)=(n':Int)+1:=by rw[IntKind.wrap_i64];omega
      have hn6z:(n':Int)<256:=by omega
      clear hh hhf hvr hV hc hcl ho HRd2 Hok HV
      go_wp2_with fail
      refine(HH.out _).mono ?_
      rintro x wv ⟨rfl,rfl⟩
      by_cases hfull:n'=255
      ·have HRR:Away (FL .i64 256 (lf (sa (bys s) e (2*j+(k+1))))=R):=⟨by
        rw[←HRd.out,sa_full (bys s) e (2*j+(k+1)) 1632 (by rw[Hlen.out];omega) (by omega)]⟩
       rw[HRR.out]at Hset
       have fne:((n':Int)+1==256)=true:=beq_iff_eq.2 (by omega)
       clear hfull
       go_wp2_with fail
       refine(Hred.out _).mono ?_
       rintro x wv ⟨rfl,rfl⟩
       go_wp2_with ((with_reducible refine wpList_put2 A0 rfl _ _ _ rfl rfl ?_);refine⟨_,_,_,rfl,rfl,rfl,(by rw[fl_size];exact hn6),?_⟩;intro wn HRn;rw[Hset.out]at HRn;have Hrow:=Away.mk HRn.out.row;have Hres:Away (wn.heap[w.heap.size]? = some (.cells z 109 (0,0))):=⟨HRn.out.other (lt_of_row R1.out) (by omega) R1.out⟩;have BF:Away (Below w.heap.size w wn):=⟨B1.out.trans (HRn.out.below B1.out.size (by omega))⟩)
       refine wp_load_row 109 _ rfl (w.heap.size+1) rfl 109 R (0,0) _ Hrow.out Tryz.underlying109 rfl Ri.out ?_
       go_wp2_with (refine wpList_store_row rfl 109 _ _ rfl w.heap.size R rfl rfl 109 _ Hres.out Ri.out Rz.out Ro.out ?_)
       rw[Exit.noGoto_ret]
       refine bodyPost_ret_by (v:=.agg R) (results_cell_row rfl _ _ w.heap.size 109 _ (0,0) _ rfl (setRow_heap _ _ _ _ _ _ Hres.out) Tryz.underlying109 rfl Ri.out) rfl ?_
       exact⟨rfl,BF.out.trans (below_setRow _ _ _ (Nat.le_refl _))⟩
      ·have fne:((n':Int)+1==256)=false:=beq_eq_false_iff_ne.2 (by omega)
       go_wp2_with fail
       refine(Hred.out _).mono ?_
       rintro x wv ⟨rfl,rfl⟩
       go_wp2_with ((with_reducible refine wpList_put2 A0 rfl _ _ _ rfl rfl ?_);refine⟨_,_,_,rfl,rfl,rfl,(by rw[fl_size];exact hn6),?_⟩;intro wn HRn;rw[Hset.out]at HRn)
       go_roundw
       case rel=>exact⟨k+1,by omega,by go_num,by rw[Hlen.out];go_num,by rw[Hlen.out];omega,HRn⟩
       case measure=>simp[intOf];omega
     ·have hof:hok e h=false:=by simpa using ho
      rw[hof]at HH Hok
      have Hsa:Away (sa (bys s) e (2*j+(k+1))=sa (bys s) e (2*j+k)):=⟨by
       rw[show 2*j+(k+1)=(2*j+k)+1 by omega,sa,if_neg (by rw[Hok.out];exact fun h=>by simpa using h.2)]⟩
      have A1:Away (At (w.heap.size+1) (FL .i64 256 (lf (sa (bys s) e (2*j+(k+1))))) 109 W1 wv):=⟨by rw[Hsa.out];exact A0.out⟩
      have Hl:Away ((sa (bys s) e (2*j+(k+1))).length=n'):=⟨by rw[Hsa.out,Hn'.out]⟩
      clear hh hhf hvr hV hc hcl ho HRd2 Hok HV hof A0
      go_wp2_with fail
      refine(HH.out _).mono ?_
      rintro x wv ⟨rfl,rfl⟩
      go_wp2_with fail
      go_roundw
      case rel=>exact⟨k+1,by omega,by go_num,by rw[Hl.out],by rw[Hl.out];exact hn6,A1⟩
      case measure=>simp[intOf];omega
    ·obtain rfl:k=2:=by omega
     have A1:Away (At (w.heap.size+1) (FL .i64 256 (lf (sa (bys s) e (2*(j+1))))) 109 W1 wv):=⟨A0.out⟩
     have Hl:Away ((sa (bys s) e (2*(j+1))).length=n'):=Hn'
     clear A0
     simp only[Int.cast_ofNat_Int]
     go_wp2_with fail
     go_roundw
     case rel=>exact⟨j+1,by omega,by go_num,by rw[Hl.out],by rw[Hl.out];exact hn6,A1⟩
     case measure=>simp[intOf];omega
  ·obtain rfl:j=816:=by omega
   rw[HRd.out]at A0
   have Hrow:=Away.mk A0.out.row
   have Hres:Away (wr.heap[w.heap.size]? = some (.cells z 109 (0,0))):=⟨A0.out.other (lt_of_row R1.out) (by omega) R1.out⟩
   clear A0 hn
   simp only[Int.cast_ofNat_Int]
   go_wp2_with (first
    | (refine wpList_load_row rfl 109 _ rfl (w.heap.size+1) rfl 109 R (0,0) _ Hrow.out Tryz.underlying109 rfl Ri.out ?_)
    | (refine wpList_store_row rfl 109 _ _ rfl w.heap.size R rfl rfl 109 _ Hres.out Ri.out Rz.out Ro.out ?_))
   rw[Exit.noGoto_ret]
   refine bodyPost_ret_by (v:=.agg R) (results_cell_row rfl _ _ w.heap.size 109 _ (0,0) _ rfl (setRow_heap _ _ _ _ _ _ Hres.out) Tryz.underlying109 rfl Ri.out) rfl ?_
   exact⟨rfl,BE.out.trans (below_setRow _ _ _ (Nat.le_refl _))⟩
theorem Small_any {T:Array Value} (b s:ByteArray) (e:Int) (w:World) (hT:(Tryz.prog.info? 34).map (·.size)=some T.size) (hs:s.size=816)
 (HS:∀ w1:World,Below w.heap.size w w1→Calls Tryz.prog 90 #[.agg T,.int .i64 2,.string b,.int .i64 816] w1 fun x w'=>x=.returned (.tuple #[.string s,.int .i64 0])∧Below w1.heap.size w1 w'):
 Calls Tryz.prog 91 #[.agg T,.string b,.int .i64 e] w fun x w'=>x=.returned (.agg (FL .i64 256 (sma (bys s) e)))∧Below w.heap.size w w':=by
 obtain⟨hz,hsize⟩:=zero_of_info polt.infoP
 obtain⟨z,HZ⟩:=ex_eq (FL .i64 256 fun _=>0)
 rw[HZ.out]at hz
 have Hzs:Away (z.size=256):=⟨by rw[←HZ.out];exact fl_size _ _ _⟩
 have HU:Away (∀ w1:World,Calls Tryz.prog 144 #[.string s,.int .i64 e] w1 fun x w'=>x=.returned (.agg (FL .i64 256 (sma (bys s) e)))∧Below w1.heap.size w1 w'):=⟨fun w1=>small_any s e w1 hs⟩
 obtain⟨R,HR⟩:=ex_eq (FL .i64 256 (sma (bys s) e))
 have Ri:Away ((Tryz.prog.info? 109).map (·.size)=some R.size):=⟨by rw[←HR.out,fl_size];exact hsize⟩
 have Ro:Away (R.all (·.oneCell')=true):=⟨by rw[←HR.out];exact fl_one _ _ _⟩
 have Rz:Away (z.size=R.size):=⟨by rw[Hzs.out,←HR.out,fl_size]⟩
 have HTz:=Away.mk hT
 rw[HR.out]at HU ⊢
 obtain⟨W,hW⟩:∃ x,(w.alloc (.cells T 34)).alloc (.cells z 109)=x:=⟨_,rfl⟩
 obtain⟨r0,r1,hWs,b0⟩:=two hW
 have T0:Away (W.heap[w.heap.size]? = some (.cells T 34 (0,0))):=⟨r0⟩
 have R0:Away (W.heap[w.heap.size+1]? = some (.cells z 109 (0,0))):=⟨r1⟩
 have BW:=Away.mk b0
 have HWs:=Away.mk hWs
 have HW:=Away.mk hW
 have HSh:=Away.mk (HS W b0)
 clear hW r0 r1 b0 hWs hsize HS hT HR hs
 go_enter Tryz.func91,Tryz.ntmps91
 go_wp2_with (first
  | (rw[HW.out])
  | (refine wpList_load_row rfl 34 _ rfl w.heap.size rfl 34 T (0,0) _ T0.out Tryz.underlying34 rfl HTz.out ?_))
 refine HSh.out.mono ?_
 rintro x u1 ⟨rfl,hb1⟩
 have R1:Away (u1.heap[w.heap.size+1]? = some (.cells z 109 (0,0))):=⟨(hb1.block _ (by rw[HWs.out];omega)).trans R0.out⟩
 have B1:Away (Below w.heap.size w u1):=⟨BW.out.trans (hb1.mono (by rw[HWs.out];omega))⟩
 have Hlt:Away (w.heap.size+1<u1.heap.size):=⟨lt_of_row R1.out⟩
 clear hb1 hz
 go_wp2_with fail
 refine(HU.out _).mono ?_
 rintro x u2 ⟨rfl,hb2⟩
 have R2:Away (u2.heap[w.heap.size+1]? = some (.cells z 109 (0,0))):=⟨(hb2.block _ Hlt.out).trans R1.out⟩
 have B2:Away (Below w.heap.size w u2):=⟨B1.out.trans (hb2.mono B1.out.size)⟩
 clear hb2
 go_wp2_with (refine wpList_store_row rfl 109 _ _ rfl (w.heap.size+1) R rfl rfl 109 _ R2.out Ri.out Rz.out Ro.out ?_)
 refine bodyPost_ret_by (v:=.agg R) (results_cell_row rfl _ _ (w.heap.size+1) 109 _ (0,0) _ rfl (setRow_heap _ _ _ _ _ _ R2.out) Tryz.underlying109 rfl Ri.out) rfl ?_
 exact⟨rfl,B2.out.trans (below_setRow _ _ _ (Nat.le_succ _))⟩
end qsma
end Go.Proofs.YtgahcabgmfbhdaaGreatDoor
namespace Go.Proofs.YtgahcabgmfbhdaaGreatDoor
namespace rpart
open Go Go.RowKit
open arr mem fldm rndm
theorem gamma_any (g:Int) (w:World):Calls Tryz.prog 89 #[.int .i64 g] w fun e w'=>e=.returned (.bool (okg g))∧w'=w:=by
 unfold okg
 cases h1:g==95232
 ·cases h2:g==261888
  ·go_enter Tryz.func89,Tryz.ntmps89
   go_wp2_with fail
   go_ret
   exact⟨rfl,rfl⟩
  ·go_enter Tryz.func89,Tryz.ntmps89
   go_wp2_with fail
   go_ret
   exact⟨rfl,rfl⟩
 ·go_enter Tryz.func89,Tryz.ntmps89
  go_wp2_with fail
  go_ret
  exact⟨rfl,rfl⟩
theorem upto_any (n m:Int) (w:World):Calls Tryz.prog 88 #[.int .i64 n,.int .i64 m] w fun e w'=>e=.returned (.bool (upto n m))∧w'=w:=by
 unfold upto
 by_cases h1 : 1≤n
 ·rw[decide_eq_true h1]
  by_cases h2:n≤m
  ·rw[decide_eq_true h2]
   go_enter Tryz.func88,Tryz.ntmps88
   go_wp2_with fail
   go_ret
   exact⟨rfl,rfl⟩
  ·rw[decide_eq_false h2]
   go_enter Tryz.func88,Tryz.ntmps88
   go_wp2_with fail
   go_ret
   exact⟨rfl,rfl⟩
 ·rw[decide_eq_false h1]
  go_enter Tryz.func88,Tryz.ntmps88
  go_wp2_with fail
  go_ret
  exact⟨rfl,rfl⟩
end rpart
namespace rright
open Go Go.RowKit
open arr mem polt rndm rpart
theorem right_any (k l e t a b o s:Int) (w:World):Calls Tryz.prog 38 #[.agg #[.int .i64 k,.int .i64 l,.int .i64 e,.int .i64 t,.int .i64 a,.int .i64 b,.int .i64 o,.int .i64 s]] w fun e0 w'=>e0=.returned (.bool (latt k l e t a b o s))∧Below w.heap.size w w':=by
 obtain⟨W,hW⟩:∃ x,w.alloc (.cells #[.int .i64 k,.int .i64 l,.int .i64 e,.int .i64 t,.int .i64 a,.int .i64 b,.int .i64 o,.int .i64 s] 37)=x:=⟨_,rfl⟩
 have HW:=Away.mk hW
 have HB:Away (Below w.heap.size w W):=⟨by rw[←hW];exact below_alloc _ _⟩
 have hrow:W.heap[w.heap.size]? = some (.cells #[.int .i64 k,.int .i64 l,.int .i64 e,.int .i64 t,.int .i64 a,.int .i64 b,.int .i64 o,.int .i64 s] 37 (0,0)):=by rw[←hW];exact heap_at _ _ _ rfl
 have c0:W.cell? ⟨w.heap.size,0,none⟩=some (.int .i64 k):=cell_at hrow rfl
 have c1:W.cell? ⟨w.heap.size,1,none⟩=some (.int .i64 l):=cell_at hrow rfl
 have c2:W.cell? ⟨w.heap.size,2,none⟩=some (.int .i64 e):=cell_at hrow rfl
 have c3:W.cell? ⟨w.heap.size,3,none⟩=some (.int .i64 t):=cell_at hrow rfl
 have c4:W.cell? ⟨w.heap.size,4,none⟩=some (.int .i64 a):=cell_at hrow rfl
 have c5:W.cell? ⟨w.heap.size,5,none⟩=some (.int .i64 b):=cell_at hrow rfl
 have c6:W.cell? ⟨w.heap.size,6,none⟩=some (.int .i64 o):=cell_at hrow rfl
 have c7:W.cell? ⟨w.heap.size,7,none⟩=some (.int .i64 s):=cell_at hrow rfl
 clear hrow hW
 cases h1:upto k 8
 ·have Ch1:=upto_any k 8
  rw[h1]at Ch1
  have HE:latt k l e t a b o s=false:=by simp[latt,h1]
  rw[HE]
  clear HE
  go_enter Tryz.func38,Tryz.ntmps38
  go_wp2_with (rw[HW.out])
  refine(Ch1 _).mono ?_
  rintro e0 w0 ⟨rfl,rfl⟩
  go_wp2_with fail
  go_ret
  exact⟨rfl,HB.out⟩
 ·have Ch1:=upto_any k 8
  rw[h1]at Ch1
  cases h2:upto l 8
  ·have Ch2:=upto_any l 8
   rw[h2]at Ch2
   have HE:latt k l e t a b o s=false:=by simp[latt,h1,h2]
   rw[HE]
   clear HE
   go_enter Tryz.func38,Tryz.ntmps38
   go_wp2_with (rw[HW.out])
   refine(Ch1 _).mono ?_
   rintro e0 w0 ⟨rfl,rfl⟩
   go_wp2_with fail
   refine(Ch2 _).mono ?_
   rintro e0 w0 ⟨rfl,rfl⟩
   go_wp2_with fail
   go_ret
   exact⟨rfl,HB.out⟩
  ·have Ch2:=upto_any l 8
   rw[h2]at Ch2
   cases h3:upto t 64
   ·have Ch3:=upto_any t 64
    rw[h3]at Ch3
    have HE:latt k l e t a b o s=false:=by simp[latt,h1,h2,h3]
    rw[HE]
    clear HE
    go_enter Tryz.func38,Tryz.ntmps38
    go_wp2_with (rw[HW.out])
    refine(Ch1 _).mono ?_
    rintro e0 w0 ⟨rfl,rfl⟩
    go_wp2_with fail
    refine(Ch2 _).mono ?_
    rintro e0 w0 ⟨rfl,rfl⟩
    go_wp2_with fail
    refine(Ch3 _).mono ?_
    rintro e0 w0 ⟨rfl,rfl⟩
    go_wp2_with fail
    go_ret
    exact⟨rfl,HB.out⟩
   ·have Ch3:=upto_any t 64
    rw[h3]at Ch3
    cases h4:upto o 100
    ·have Ch4:=upto_any o 100
     rw[h4]at Ch4
     have HE:latt k l e t a b o s=false:=by simp[latt,h1,h2,h3,h4]
     rw[HE]
     clear HE
     go_enter Tryz.func38,Tryz.ntmps38
     go_wp2_with (rw[HW.out])
     refine(Ch1 _).mono ?_
     rintro e0 w0 ⟨rfl,rfl⟩
     go_wp2_with fail
     refine(Ch2 _).mono ?_
     rintro e0 w0 ⟨rfl,rfl⟩
     go_wp2_with fail
     refine(Ch3 _).mono ?_
     rintro e0 w0 ⟨rfl,rfl⟩
     go_wp2_with fail
     refine(Ch4 _).mono ?_
     rintro e0 w0 ⟨rfl,rfl⟩
     go_wp2_with fail
     go_ret
     exact⟨rfl,HB.out⟩
    ·have Ch4:=upto_any o 100
     rw[h4]at Ch4
     cases h5:e==2
     ·cases h6:e==4
      ·have HE:latt k l e t a b o s=false:=by simp[latt,h1,h2,h3,h4,h5,h6]
       rw[HE]
       clear HE
       go_enter Tryz.func38,Tryz.ntmps38
       go_wp2_with (rw[HW.out])
       refine(Ch1 _).mono ?_
       rintro e0 w0 ⟨rfl,rfl⟩
       go_wp2_with fail
       refine(Ch2 _).mono ?_
       rintro e0 w0 ⟨rfl,rfl⟩
       go_wp2_with fail
       refine(Ch3 _).mono ?_
       rintro e0 w0 ⟨rfl,rfl⟩
       go_wp2_with fail
       refine(Ch4 _).mono ?_
       rintro e0 w0 ⟨rfl,rfl⟩
       go_wp2_with fail
       go_ret
       exact⟨rfl,HB.out⟩
      ·cases h7:a==131072
       ·cases h8:a==524288
        ·have HE:latt k l e t a b o s=false:=by simp[latt,h1,h2,h3,h4,h5,h6,h7,h8]
         rw[HE]
         clear HE
         go_enter Tryz.func38,Tryz.ntmps38
         go_wp2_with (rw[HW.out])
         refine(Ch1 _).mono ?_
         rintro e0 w0 ⟨rfl,rfl⟩
         go_wp2_with fail
         refine(Ch2 _).mono ?_
         rintro e0 w0 ⟨rfl,rfl⟩
         go_wp2_with fail
         refine(Ch3 _).mono ?_
         rintro e0 w0 ⟨rfl,rfl⟩
         go_wp2_with fail
         refine(Ch4 _).mono ?_
         rintro e0 w0 ⟨rfl,rfl⟩
         go_wp2_with fail
         go_ret
         exact⟨rfl,HB.out⟩
        ·cases h9:okg b
         ·have Ch9:=gamma_any b
          rw[h9]at Ch9
          have HE:latt k l e t a b o s=false:=by simp[latt,h1,h2,h3,h4,h5,h6,h7,h8,h9]
          rw[HE]
          clear HE
          go_enter Tryz.func38,Tryz.ntmps38
          go_wp2_with (rw[HW.out])
          refine(Ch1 _).mono ?_
          rintro e0 w0 ⟨rfl,rfl⟩
          go_wp2_with fail
          refine(Ch2 _).mono ?_
          rintro e0 w0 ⟨rfl,rfl⟩
          go_wp2_with fail
          refine(Ch3 _).mono ?_
          rintro e0 w0 ⟨rfl,rfl⟩
          go_wp2_with fail
          refine(Ch4 _).mono ?_
          rintro e0 w0 ⟨rfl,rfl⟩
          go_wp2_with fail
          refine(Ch9 _).mono ?_
          rintro e0 w0 ⟨rfl,rfl⟩
          go_wp2_with fail
          go_ret
          exact⟨rfl,HB.out⟩
         ·have Ch9:=gamma_any b
          rw[h9]at Ch9
          cases h10:s==128
          ·cases h11:s==192
           ·cases h12:s==256
            ·have HE:latt k l e t a b o s=false:=by simp[latt,h1,h2,h3,h4,h5,h6,h7,h8,h9,h10,h11,h12]
             rw[HE]
             clear HE
             go_enter Tryz.func38,Tryz.ntmps38
             go_wp2_with (rw[HW.out])
             refine(Ch1 _).mono ?_
             rintro e0 w0 ⟨rfl,rfl⟩
             go_wp2_with fail
             refine(Ch2 _).mono ?_
             rintro e0 w0 ⟨rfl,rfl⟩
             go_wp2_with fail
             refine(Ch3 _).mono ?_
             rintro e0 w0 ⟨rfl,rfl⟩
             go_wp2_with fail
             refine(Ch4 _).mono ?_
             rintro e0 w0 ⟨rfl,rfl⟩
             go_wp2_with fail
             refine(Ch9 _).mono ?_
             rintro e0 w0 ⟨rfl,rfl⟩
             go_wp2_with fail
             go_ret
             exact⟨rfl,HB.out⟩
            ·have HE:latt k l e t a b o s=true:=by simp[latt,h1,h2,h3,h4,h5,h6,h7,h8,h9,h10,h11,h12]
             rw[HE]
             clear HE
             go_enter Tryz.func38,Tryz.ntmps38
             go_wp2_with (rw[HW.out])
             refine(Ch1 _).mono ?_
             rintro e0 w0 ⟨rfl,rfl⟩
             go_wp2_with fail
             refine(Ch2 _).mono ?_
             rintro e0 w0 ⟨rfl,rfl⟩
             go_wp2_with fail
             refine(Ch3 _).mono ?_
             rintro e0 w0 ⟨rfl,rfl⟩
             go_wp2_with fail
             refine(Ch4 _).mono ?_
             rintro e0 w0 ⟨rfl,rfl⟩
             go_wp2_with fail
             refine(Ch9 _).mono ?_
             rintro e0 w0 ⟨rfl,rfl⟩
             go_wp2_with fail
             go_ret
             exact⟨rfl,HB.out⟩
           ·have HE:latt k l e t a b o s=true:=by simp[latt,h1,h2,h3,h4,h5,h6,h7,h8,h9,h10,h11]
            rw[HE]
            clear HE
            go_enter Tryz.func38,Tryz.ntmps38
            go_wp2_with (rw[HW.out])
            refine(Ch1 _).mono ?_
            rintro e0 w0 ⟨rfl,rfl⟩
            go_wp2_with fail
            refine(Ch2 _).mono ?_
            rintro e0 w0 ⟨rfl,rfl⟩
            go_wp2_with fail
            refine(Ch3 _).mono ?_
            rintro e0 w0 ⟨rfl,rfl⟩
            go_wp2_with fail
            refine(Ch4 _).mono ?_
            rintro e0 w0 ⟨rfl,rfl⟩
            go_wp2_with fail
            refine(Ch9 _).mono ?_
            rintro e0 w0 ⟨rfl,rfl⟩
            go_wp2_with fail
            go_ret
            exact⟨rfl,HB.out⟩
          ·have HE:latt k l e t a b o s=true:=by simp[latt,h1,h2,h3,h4,h5,h6,h7,h8,h9,h10]
           rw[HE]
           clear HE
           go_enter Tryz.func38,Tryz.ntmps38
           go_wp2_with (rw[HW.out])
           refine(Ch1 _).mono ?_
           rintro e0 w0 ⟨rfl,rfl⟩
           go_wp2_with fail
           refine(Ch2 _).mono ?_
           rintro e0 w0 ⟨rfl,rfl⟩
           go_wp2_with fail
           refine(Ch3 _).mono ?_
           rintro e0 w0 ⟨rfl,rfl⟩
           go_wp2_with fail
           refine(Ch4 _).mono ?_
           rintro e0 w0 ⟨rfl,rfl⟩
           go_wp2_with fail
           refine(Ch9 _).mono ?_
           rintro e0 w0 ⟨rfl,rfl⟩
           go_wp2_with fail
           go_ret
           exact⟨rfl,HB.out⟩
       ·cases h13:okg b
        ·have Ch13:=gamma_any b
         rw[h13]at Ch13
         have HE:latt k l e t a b o s=false:=by simp[latt,h1,h2,h3,h4,h5,h6,h7,h13]
         rw[HE]
         clear HE
         go_enter Tryz.func38,Tryz.ntmps38
         go_wp2_with (rw[HW.out])
         refine(Ch1 _).mono ?_
         rintro e0 w0 ⟨rfl,rfl⟩
         go_wp2_with fail
         refine(Ch2 _).mono ?_
         rintro e0 w0 ⟨rfl,rfl⟩
         go_wp2_with fail
         refine(Ch3 _).mono ?_
         rintro e0 w0 ⟨rfl,rfl⟩
         go_wp2_with fail
         refine(Ch4 _).mono ?_
         rintro e0 w0 ⟨rfl,rfl⟩
         go_wp2_with fail
         refine(Ch13 _).mono ?_
         rintro e0 w0 ⟨rfl,rfl⟩
         go_wp2_with fail
         go_ret
         exact⟨rfl,HB.out⟩
        ·have Ch13:=gamma_any b
         rw[h13]at Ch13
         cases h14:s==128
         ·cases h15:s==192
          ·cases h16:s==256
           ·have HE:latt k l e t a b o s=false:=by simp[latt,h1,h2,h3,h4,h5,h6,h7,h13,h14,h15,h16]
            rw[HE]
            clear HE
            go_enter Tryz.func38,Tryz.ntmps38
            go_wp2_with (rw[HW.out])
            refine(Ch1 _).mono ?_
            rintro e0 w0 ⟨rfl,rfl⟩
            go_wp2_with fail
            refine(Ch2 _).mono ?_
            rintro e0 w0 ⟨rfl,rfl⟩
            go_wp2_with fail
            refine(Ch3 _).mono ?_
            rintro e0 w0 ⟨rfl,rfl⟩
            go_wp2_with fail
            refine(Ch4 _).mono ?_
            rintro e0 w0 ⟨rfl,rfl⟩
            go_wp2_with fail
            refine(Ch13 _).mono ?_
            rintro e0 w0 ⟨rfl,rfl⟩
            go_wp2_with fail
            go_ret
            exact⟨rfl,HB.out⟩
           ·have HE:latt k l e t a b o s=true:=by simp[latt,h1,h2,h3,h4,h5,h6,h7,h13,h14,h15,h16]
            rw[HE]
            clear HE
            go_enter Tryz.func38,Tryz.ntmps38
            go_wp2_with (rw[HW.out])
            refine(Ch1 _).mono ?_
            rintro e0 w0 ⟨rfl,rfl⟩
            go_wp2_with fail
            refine(Ch2 _).mono ?_
            rintro e0 w0 ⟨rfl,rfl⟩
            go_wp2_with fail
            refine(Ch3 _).mono ?_
            rintro e0 w0 ⟨rfl,rfl⟩
            go_wp2_with fail
            refine(Ch4 _).mono ?_
            rintro e0 w0 ⟨rfl,rfl⟩
            go_wp2_with fail
            refine(Ch13 _).mono ?_
            rintro e0 w0 ⟨rfl,rfl⟩
            go_wp2_with fail
            go_ret
            exact⟨rfl,HB.out⟩
          ·have HE:latt k l e t a b o s=true:=by simp[latt,h1,h2,h3,h4,h5,h6,h7,h13,h14,h15]
           rw[HE]
           clear HE
           go_enter Tryz.func38,Tryz.ntmps38
           go_wp2_with (rw[HW.out])
           refine(Ch1 _).mono ?_
           rintro e0 w0 ⟨rfl,rfl⟩
           go_wp2_with fail
           refine(Ch2 _).mono ?_
           rintro e0 w0 ⟨rfl,rfl⟩
           go_wp2_with fail
           refine(Ch3 _).mono ?_
           rintro e0 w0 ⟨rfl,rfl⟩
           go_wp2_with fail
           refine(Ch4 _).mono ?_
           rintro e0 w0 ⟨rfl,rfl⟩
           go_wp2_with fail
           refine(Ch13 _).mono ?_
           rintro e0 w0 ⟨rfl,rfl⟩
           go_wp2_with fail
           go_ret
           exact⟨rfl,HB.out⟩
         ·have HE:latt k l e t a b o s=true:=by simp[latt,h1,h2,h3,h4,h5,h6,h7,h13,h14]
          rw[HE]
          clear HE
          go_enter Tryz.func38,Tryz.ntmps38
          go_wp2_with (rw[HW.out])
          refine(Ch1 _).mono ?_
          rintro e0 w0 ⟨rfl,rfl⟩
          go_wp2_with fail
          refine(Ch2 _).mono ?_
          rintro e0 w0 ⟨rfl,rfl⟩
          go_wp2_with fail
          refine(Ch3 _).mono ?_
          rintro e0 w0 ⟨rfl,rfl⟩
          go_wp2_with fail
          refine(Ch4 _).mono ?_
          rintro e0 w0 ⟨rfl,rfl⟩
          go_wp2_with fail
          refine(Ch13 _).mono ?_
          rintro e0 w0 ⟨rfl,rfl⟩
          go_wp2_with fail
          go_ret
          exact⟨rfl,HB.out⟩
     ·cases h17:a==131072
      ·cases h18:a==524288
       ·have HE:latt k l e t a b o s=false:=by simp[latt,h1,h2,h3,h4,h5,h17,h18]
        rw[HE]
        clear HE
        go_enter Tryz.func38,Tryz.ntmps38
        go_wp2_with (rw[HW.out])
        refine(Ch1 _).mono ?_
        rintro e0 w0 ⟨rfl,rfl⟩
        go_wp2_with fail
        refine(Ch2 _).mono ?_
        rintro e0 w0 ⟨rfl,rfl⟩
        go_wp2_with fail
        refine(Ch3 _).mono ?_
        rintro e0 w0 ⟨rfl,rfl⟩
        go_wp2_with fail
        refine(Ch4 _).mono ?_
        rintro e0 w0 ⟨rfl,rfl⟩
        go_wp2_with fail
        go_ret
        exact⟨rfl,HB.out⟩
       ·cases h19:okg b
        ·have Ch19:=gamma_any b
         rw[h19]at Ch19
         have HE:latt k l e t a b o s=false:=by simp[latt,h1,h2,h3,h4,h5,h17,h18,h19]
         rw[HE]
         clear HE
         go_enter Tryz.func38,Tryz.ntmps38
         go_wp2_with (rw[HW.out])
         refine(Ch1 _).mono ?_
         rintro e0 w0 ⟨rfl,rfl⟩
         go_wp2_with fail
         refine(Ch2 _).mono ?_
         rintro e0 w0 ⟨rfl,rfl⟩
         go_wp2_with fail
         refine(Ch3 _).mono ?_
         rintro e0 w0 ⟨rfl,rfl⟩
         go_wp2_with fail
         refine(Ch4 _).mono ?_
         rintro e0 w0 ⟨rfl,rfl⟩
         go_wp2_with fail
         refine(Ch19 _).mono ?_
         rintro e0 w0 ⟨rfl,rfl⟩
         go_wp2_with fail
         go_ret
         exact⟨rfl,HB.out⟩
        ·have Ch19:=gamma_any b
         rw[h19]at Ch19
         cases h20:s==128
         ·cases h21:s==192
          ·cases h22:s==256
           ·have HE:latt k l e t a b o s=false:=by simp[latt,h1,h2,h3,h4,h5,h17,h18,h19,h20,h21,h22]
            rw[HE]
            clear HE
            go_enter Tryz.func38,Tryz.ntmps38
            go_wp2_with (rw[HW.out])
            refine(Ch1 _).mono ?_
            rintro e0 w0 ⟨rfl,rfl⟩
            go_wp2_with fail
            refine(Ch2 _).mono ?_
            rintro e0 w0 ⟨rfl,rfl⟩
            go_wp2_with fail
            refine(Ch3 _).mono ?_
            rintro e0 w0 ⟨rfl,rfl⟩
            go_wp2_with fail
            refine(Ch4 _).mono ?_
            rintro e0 w0 ⟨rfl,rfl⟩
            go_wp2_with fail
            refine(Ch19 _).mono ?_
            rintro e0 w0 ⟨rfl,rfl⟩
            go_wp2_with fail
            go_ret
            exact⟨rfl,HB.out⟩
           ·have HE:latt k l e t a b o s=true:=by simp[latt,h1,h2,h3,h4,h5,h17,h18,h19,h20,h21,h22]
            rw[HE]
            clear HE
            go_enter Tryz.func38,Tryz.ntmps38
            go_wp2_with (rw[HW.out])
            refine(Ch1 _).mono ?_
            rintro e0 w0 ⟨rfl,rfl⟩
            go_wp2_with fail
            refine(Ch2 _).mono ?_
            rintro e0 w0 ⟨rfl,rfl⟩
            go_wp2_with fail
            refine(Ch3 _).mono ?_
            rintro e0 w0 ⟨rfl,rfl⟩
            go_wp2_with fail
            refine(Ch4 _).mono ?_
            rintro e0 w0 ⟨rfl,rfl⟩
            go_wp2_with fail
            refine(Ch19 _).mono ?_
            rintro e0 w0 ⟨rfl,rfl⟩
            go_wp2_with fail
            go_ret
            exact⟨rfl,HB.out⟩
          ·have HE:latt k l e t a b o s=true:=by simp[latt,h1,h2,h3,h4,h5,h17,h18,h19,h20,h21]
           rw[HE]
           clear HE
           go_enter Tryz.func38,Tryz.ntmps38
           go_wp2_with (rw[HW.out])
           refine(Ch1 _).mono ?_
           rintro e0 w0 ⟨rfl,rfl⟩
           go_wp2_with fail
           refine(Ch2 _).mono ?_
           rintro e0 w0 ⟨rfl,rfl⟩
           go_wp2_with fail
           refine(Ch3 _).mono ?_
           rintro e0 w0 ⟨rfl,rfl⟩
           go_wp2_with fail
           refine(Ch4 _).mono ?_
           rintro e0 w0 ⟨rfl,rfl⟩
           go_wp2_with fail
           refine(Ch19 _).mono ?_
           rintro e0 w0 ⟨rfl,rfl⟩
           go_wp2_with fail
           go_ret
           exact⟨rfl,HB.out⟩
         ·have HE:latt k l e t a b o s=true:=by simp[latt,h1,h2,h3,h4,h5,h17,h18,h19,h20]
          rw[HE]
          clear HE
          go_enter Tryz.func38,Tryz.ntmps38
          go_wp2_with (rw[HW.out])
          refine(Ch1 _).mono ?_
          rintro e0 w0 ⟨rfl,rfl⟩
          go_wp2_with fail
          refine(Ch2 _).mono ?_
          rintro e0 w0 ⟨rfl,rfl⟩
          go_wp2_with fail
          refine(Ch3 _).mono ?_
          rintro e0 w0 ⟨rfl,rfl⟩
          go_wp2_with fail
          refine(Ch4 _).mono ?_
          rintro e0 w0 ⟨rfl,rfl⟩
          go_wp2_with fail
          refine(Ch19 _).mono ?_
          rintro e0 w0 ⟨rfl,rfl⟩
          go_wp2_with fail
          go_ret
          exact⟨rfl,HB.out⟩
      ·cases h23:okg b
       ·have Ch23:=gamma_any b
        rw[h23]at Ch23
        have HE:latt k l e t a b o s=false:=by simp[latt,h1,h2,h3,h4,h5,h17,h23]
        rw[HE]
        clear HE
        go_enter Tryz.func38,Tryz.ntmps38
        go_wp2_with (rw[HW.out])
        refine(Ch1 _).mono ?_
        rintro e0 w0 ⟨rfl,rfl⟩
        go_wp2_with fail
        refine(Ch2 _).mono ?_
        rintro e0 w0 ⟨rfl,rfl⟩
        go_wp2_with fail
        refine(Ch3 _).mono ?_
        rintro e0 w0 ⟨rfl,rfl⟩
        go_wp2_with fail
        refine(Ch4 _).mono ?_
        rintro e0 w0 ⟨rfl,rfl⟩
        go_wp2_with fail
        refine(Ch23 _).mono ?_
        rintro e0 w0 ⟨rfl,rfl⟩
        go_wp2_with fail
        go_ret
        exact⟨rfl,HB.out⟩
       ·have Ch23:=gamma_any b
        rw[h23]at Ch23
        cases h24:s==128
        ·cases h25:s==192
         ·cases h26:s==256
          ·have HE:latt k l e t a b o s=false:=by simp[latt,h1,h2,h3,h4,h5,h17,h23,h24,h25,h26]
           rw[HE]
           clear HE
           go_enter Tryz.func38,Tryz.ntmps38
           go_wp2_with (rw[HW.out])
           refine(Ch1 _).mono ?_
           rintro e0 w0 ⟨rfl,rfl⟩
           go_wp2_with fail
           refine(Ch2 _).mono ?_
           rintro e0 w0 ⟨rfl,rfl⟩
           go_wp2_with fail
           refine(Ch3 _).mono ?_
           rintro e0 w0 ⟨rfl,rfl⟩
           go_wp2_with fail
           refine(Ch4 _).mono ?_
           rintro e0 w0 ⟨rfl,rfl⟩
           go_wp2_with fail
           refine(Ch23 _).mono ?_
           rintro e0 w0 ⟨rfl,rfl⟩
           go_wp2_with fail
           go_ret
           exact⟨rfl,HB.out⟩
          ·have HE:latt k l e t a b o s=true:=by simp[latt,h1,h2,h3,h4,h5,h17,h23,h24,h25,h26]
           rw[HE]
           clear HE
           go_enter Tryz.func38,Tryz.ntmps38
           go_wp2_with (rw[HW.out])
           refine(Ch1 _).mono ?_
           rintro e0 w0 ⟨rfl,rfl⟩
           go_wp2_with fail
           refine(Ch2 _).mono ?_
           rintro e0 w0 ⟨rfl,rfl⟩
           go_wp2_with fail
           refine(Ch3 _).mono ?_
           rintro e0 w0 ⟨rfl,rfl⟩
           go_wp2_with fail
           refine(Ch4 _).mono ?_
           rintro e0 w0 ⟨rfl,rfl⟩
           go_wp2_with fail
           refine(Ch23 _).mono ?_
           rintro e0 w0 ⟨rfl,rfl⟩
           go_wp2_with fail
           go_ret
           exact⟨rfl,HB.out⟩
         ·have HE:latt k l e t a b o s=true:=by simp[latt,h1,h2,h3,h4,h5,h17,h23,h24,h25]
          rw[HE]
          clear HE
          go_enter Tryz.func38,Tryz.ntmps38
          go_wp2_with (rw[HW.out])
          refine(Ch1 _).mono ?_
          rintro e0 w0 ⟨rfl,rfl⟩
          go_wp2_with fail
          refine(Ch2 _).mono ?_
          rintro e0 w0 ⟨rfl,rfl⟩
          go_wp2_with fail
          refine(Ch3 _).mono ?_
          rintro e0 w0 ⟨rfl,rfl⟩
          go_wp2_with fail
          refine(Ch4 _).mono ?_
          rintro e0 w0 ⟨rfl,rfl⟩
          go_wp2_with fail
          refine(Ch23 _).mono ?_
          rintro e0 w0 ⟨rfl,rfl⟩
          go_wp2_with fail
          go_ret
          exact⟨rfl,HB.out⟩
        ·have HE:latt k l e t a b o s=true:=by simp[latt,h1,h2,h3,h4,h5,h17,h23,h24]
         rw[HE]
         clear HE
         go_enter Tryz.func38,Tryz.ntmps38
         go_wp2_with (rw[HW.out])
         refine(Ch1 _).mono ?_
         rintro e0 w0 ⟨rfl,rfl⟩
         go_wp2_with fail
         refine(Ch2 _).mono ?_
         rintro e0 w0 ⟨rfl,rfl⟩
         go_wp2_with fail
         refine(Ch3 _).mono ?_
         rintro e0 w0 ⟨rfl,rfl⟩
         go_wp2_with fail
         refine(Ch4 _).mono ?_
         rintro e0 w0 ⟨rfl,rfl⟩
         go_wp2_with fail
         refine(Ch23 _).mono ?_
         rintro e0 w0 ⟨rfl,rfl⟩
         go_wp2_with fail
         go_ret
         exact⟨rfl,HB.out⟩
end rright
end Go.Proofs.YtgahcabgmfbhdaaGreatDoor
