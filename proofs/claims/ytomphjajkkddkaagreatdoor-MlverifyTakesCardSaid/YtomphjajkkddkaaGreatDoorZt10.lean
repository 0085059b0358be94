/-
  A region that draws its order and makes a variable for a result ('x, err := f(..)' with x a struct o
-/
import Derived.Test.YtomphjajkkddkaaGreatDoorZt01
import Derived.Test.YtomphjajkkddkaaGreatDoorZt09
import Derived.Test.YtomphjajkkddkaaGreatDoorZt06
import Derived.Test.YtomphjajkkddkaaGreatDoorZt03
import Derived.Test.YtomphjajkkddkaaGreatDoorZt02
import Derived.Test.YtomphjajkkddkaaGreatDoorProg
import Derived.Great.Frames
import Derived.Lib.QuietBelow
import Derived.Shelf.Strings.Repeat
import Derived.Shelf.Strings.Builder1
import Derived.Shelf.Strings.Builder2
import Derived.Shelf.Strconv.Itoa0
set_option maxRecDepth 100000
set_option maxHeartbeats 16000000
namespace Go.Proofs.YtomphjajkkddkaaGreatDoor
namespace vary
set_option linter.unusedSimpArgs false
open Go Go.RowKit
open arr mem
section
variable {P:Program} {ops:Array Oper} {md:Region.Mode} {C:World→Prop}
def Mild (P:Program) (C:World→Prop) (o:Oper) (a:Act) (v:Value):Prop:=∀ w,C w→o.quietAt P a (fun w'=>Below w.heap.size w w') w v
def wpMild (P:Program) (ops:Array Oper) (C:World→Prop) (Q:Act→Prop):List Oper→Act→Prop
 | [],a=>Q a
 | o :: rest,a=>if Region.wanted o (yielded ops a.tmps)=true then ∃ v,Mild P C o a v∧wpMild P ops C Q rest (a.put o.dst v) else wpMild P ops C Q rest (a.put o.dst undef)
def mOp (P:Program) (ops:Array Oper) (C:World→Prop) (o:Oper) (K:Act→Prop) (a:Act):Prop:=
 if Region.wanted o (yielded ops a.tmps)=true then ∃ v,Mild P C o a v∧K (a.put o.dst v) else K (a.put o.dst undef)
def anyM (P:Program) (md:Region.Mode) (ops:Array Oper) (C:World→Prop) (Q:Act→Prop):Nat→Array Bool→Act→Prop
 | 0,b,a=>Region.ready md ops b=[]∧Q a
 | f+1,b,a=>(Region.ready md ops b=[]→Q a)∧∀ i o,i∈Region.ready md ops b→ops[i]? = some o→mOp P ops C o (anyM P md ops C Q f (b.setIfInBounds i true)) a
def YieldsM (P:Program) (ops:Array Oper) (C:World→Prop) (o:Oper) (v:Value) (a:Act):Prop:=
 (Region.wanted o (yielded ops a.tmps)=true∧Mild P C o a v)∨(Region.wanted o (yielded ops a.tmps)=false∧v=undef)
theorem YieldsM.mOp {o:Oper} {v:Value} {a:Act} (hy:YieldsM P ops C o v a) {K:Act→Prop} (h:K (a.put o.dst v)):mOp P ops C o K a:=by
 unfold vary.mOp
 rcases hy with ⟨h1,h2⟩ | ⟨h1,rfl⟩
 ·rw[if_pos h1];exact⟨v,h2,h⟩
 ·rw[if_neg (by rw[h1];decide)];exact h
theorem yieldsM_of {o:Oper} {a:Act} {K:Act→Prop} (h:mOp P ops C o K a):∃ v,YieldsM P ops C o v a∧K (a.put o.dst v):=by
 unfold mOp at h
 by_cases hw:Region.wanted o (yielded ops a.tmps)=true
 ·rw[if_pos hw]at h
  obtain⟨v,h1,h2⟩:=h
  exact⟨v,Or.inl ⟨hw,h1⟩,h2⟩
 ·rw[if_neg hw]at h
  exact⟨undef,Or.inr ⟨by simpa using hw,rfl⟩,h⟩
theorem mOp_mono {o:Oper} {a:Act} {K K':Act→Prop} (h:∀ a,K a→K' a) (hh:mOp P ops C o K a):mOp P ops C o K' a:=by
 obtain⟨v,h1,h2⟩:=yieldsM_of hh
 exact h1.mOp (h _ h2)
theorem YieldsM.put {o:Oper} {v:Value} {a:Act} (hs:∀ cs b,o.op≠.select cs b) (x:Option Tmp) (u:Value) (h:∀ d,x=some d→d ∉ o.looksAt ops) (hy:YieldsM P ops C o v a):YieldsM P ops C o v (a.put x u):=by
 unfold YieldsM Mild Oper.quietAt at *
 rw[execOp_put o hs a x u h,wanted_put o a x u h]
 exact hy
theorem YieldsM.back {o:Oper} {v:Value} {a:Act} (hs:∀ cs b,o.op≠.select cs b) (x:Option Tmp) (u:Value) (h:∀ d,x=some d→d ∉ o.looksAt ops) (hy:YieldsM P ops C o v (a.put x u)):YieldsM P ops C o v a:=by
 unfold YieldsM Mild Oper.quietAt at *
 rw[execOp_put o hs a x u h,wanted_put o a x u h]at hy
 exact hy
theorem mOp_put {oi oj:Oper} {v:Value} (hap:oi.apart ops oj=true) (hsi:∀ cs b,oi.op≠.select cs b) (hsj:∀ cs b,oj.op≠.select cs b) {K:Act→Prop} {a:Act}
 (hy:YieldsM P ops C oi v a) (h:mOp P ops C oj K (a.put oi.dst v)):mOp P ops C oj (fun a'=>YieldsM P ops C oi v a'∧K (a'.put oi.dst v)) a:=by
 obtain⟨h1,h2,h3⟩:=Oper.apart_spec hap
 obtain⟨u,hu,hK⟩:=yieldsM_of h
 refine(hu.back hsj oi.dst v h1).mOp ⟨hy.put hsi oj.dst u h3,?_⟩
 rw[←Act.put_comm a v u h2]
 exact hK
theorem anyM_first {Q:Act→Prop} {i:Nat} {oi:Oper} {v:Value} (hi:ops[i]? = some oi) (hsel:∀ (j:Nat) (o:Oper) cs b,ops[j]? = some o→o.op≠.select cs b) (f:Nat):
 ∀ (b:Array Bool) (a:Act),(∀ j oj,ops[j]? = some oj→j≠i→b.getD j true=false→(∀ e∈oj.after,Region.binds md e=true→e.on≠i)→oi.apart ops oj=true) →
  i∈Region.ready md ops b→YieldsM P ops C oi v a→anyM P md ops C Q f (b.setIfInBounds i true) (a.put oi.dst v)→anyM P md ops C Q (f+1) b a:=by
 induction f with
 | zero=>
  intro b a _ hr hy H
  refine⟨fun h=>absurd h (List.ne_nil_of_mem hr),fun j oj hj hoj=>?_⟩
  by_cases e:j=i
  ·subst e
   obtain rfl:oj=oi:=Option.some.inj (hoj.symm.trans hi)
   exact hy.mOp H
  ·have:=ready_mono hj e
   rw[H.1]at this
   cases this
 | succ f ih=>
  intro b a hap hr hy H
  refine⟨fun h=>absurd h (List.ne_nil_of_mem hr),fun j oj hj hoj=>?_⟩
  by_cases e:j=i
  ·subst e
   obtain rfl:oj=oi:=Option.some.inj (hoj.symm.trans hi)
   exact hy.mOp H
  ·obtain⟨hju,oj',hoj',hall⟩:=mem_ready.1 hj
   obtain rfl:oj'=oj:=Option.some.inj (hoj'.symm.trans hoj)
   have hno:∀ x∈oj'.after,Region.binds md x=true→x.on≠i:=fun x hx hb h=>by
    have h1:=hall x hx hb
    have h0:=(mem_ready.1 hr).1
    rw[h]at h1
    rcases Nat.lt_or_ge i b.size with h' | h'
    ·simp[h']at h0 h1;rw[h0]at h1;cases h1
    ·simp[Array.getElem?_eq_none h']at h1
   have hq:=mOp_put (hap j oj' hoj e hju hno) (fun cs b=>hsel i oi cs b hi) (fun cs b=>hsel j oj' cs b hoj) hy (H.2 j oj' (ready_mono hj e) hoj)
   refine mOp_mono (fun a' h3=>ih _ a' (fun k ok hk hki hku hkn=>hap k ok hk hki ?_ hkn) (ready_mono hr (Ne.symm e)) h3.1 ?_) hq
   ·by_cases hjk:j=k
    ·rw[←hjk];exact hju
    ·rwa [getD_set_ne true hjk]at hku
   ·rw[Array.setIfInBounds_comm _ _ e];exact h3.2
def lexIdx (md:Region.Mode) (ops:Array Oper):List Nat→Array Bool→Bool
 | [],b=>(Region.ready md ops b).isEmpty
 | k :: ks,b=>(Region.ready md ops b).contains k && Region.free md ops b k && lexIdx md ops ks (b.setIfInBounds k true)
theorem anyM_lex {Q:Act→Prop} (hsel:Region.noSelect ops=true):∀ (ks:List Nat) (l:List Oper) (b:Array Bool) (a:Act),ks.map (fun k=>ops[k]?)=l.map some→lexIdx md ops ks b=true→wpMild P ops C Q l a→anyM P md ops C Q ks.length b a
 | [],[],b,a,_,hB,h=>⟨by simpa [lexIdx] using hB,h⟩
 | [],_ :: _,_,_,hl,_,_=>by simp at hl
 | _ :: _,[],_,_,hl,_,_=>by simp at hl
 | k :: ks,o :: l,b,a,hl,hB,h=>by
  simp only[List.map_cons,List.cons.injEq]at hl
  simp only[lexIdx,Bool.and_eq_true,List.contains_iff_mem]at hB
  have hm:mOp P ops C o (wpMild P ops C Q l) a:=h
  obtain⟨v,hy,hK⟩:=yieldsM_of hm
  exact anyM_first hl.1 (Region.noSelect_spec hsel) ks.length b a (Region.free_spec hl.1 hB.1.2) hB.1.1 hy (anyM_lex hsel ks l _ _ hl.2 hB.2 hK)
def backB (md:Region.Mode) (ops:Array Oper):Bool:=(List.range ops.size).all fun j=>match ops[j]? with
 | some o=>o.after.all fun e => !Region.binds md e || decide (e.on<j)
 | none=>true
theorem all_listed {b:Array Bool} (hb:backB md ops=true) (hz:b.size=ops.size) (hr:Region.ready md ops b=[]) (j:Nat):j<ops.size→b.getD j true=true:=by
 induction j using Nat.strongRecOn with
 | _ j ih=>
  intro hj
  by_cases hl:b.getD j true=true
  ·exact hl
  ·exfalso
   have hmem:j∈Region.ready md ops b:=mem_ready.2 ⟨by simpa using hl,ops[j],Array.getElem?_eq_getElem hj,fun e he hbd=>by
    have h1:=List.all_eq_true.1 hb j (List.mem_range.2 hj)
    rw[Array.getElem?_eq_getElem hj]at h1
    have h2:=Array.all_eq_true_iff_forall_mem.1 h1 e he
    simp only[hbd,Bool.not_true,Bool.false_or,decide_eq_true_eq]at h2
    have h3:=ih e.on h2 (by omega)
    simp only[Array.getD_eq_getD_getElem?]at h3 ⊢
    rw[Array.getElem?_eq_getElem (by omega)]at h3 ⊢
    exact h3⟩
   rw[hr]at hmem
   cases hmem
def varyB (md:Region.Mode) (ops:Array Oper) (m s ke d e:Nat) (ty:TypeId):Bool:=
 Region.noSelect ops && backB md ops && decide (m≠s) && decide (ke≠m) && decide (ke≠s) && decide (d≠e) &&
 (match ops[m]? with
  | some o=>(match o.op with | .alloc t=>t==ty | _=>false) && o.dst==some d && o.guard.isNone
  | none=>false) &&
 (match ops[s]? with
  | some o=>(match o.op with | .store t (.tmp x) (.tmp y)=>t==ty && x==d && y==e | _=>false) && o.dst.isNone && o.guard.isNone &&
   o.after.any (fun x=>Region.binds md x && x.on==m) && o.after.any (fun x=>Region.binds md x && x.on==ke)
  | none=>false) &&
 ((List.range ops.size).all fun j=>match ops[j]? with
  | some o=>(j==m || j==s || (!(o.looksAt ops).contains d && o.dst != some d)) && (j==ke || o.dst != some e)
  | none=>true)
structure VaryOk (md:Region.Mode) (ops:Array Oper) (m s ke d e:Nat) (ty:TypeId):Prop where
 sel:Region.noSelect ops=true
 back:backB md ops=true
 ms:m≠s
 km:ke≠m
 kss:ke≠s
 de:d≠e
 om:∃ o,ops[m]? = some o∧o.op=.alloc ty∧o.dst=some d∧o.guard=none
 os:∃ o,ops[s]? = some o∧o.op=.store ty (.tmp d) (.tmp e)∧o.dst=none∧o.guard=none∧(∃ x∈o.after,Region.binds md x=true∧x.on=m)∧(∃ x∈o.after,Region.binds md x=true∧x.on=ke)
 off:∀ j o,ops[j]? = some o→j≠m→j≠s→d ∉ o.looksAt ops∧o.dst≠some d
 only:∀ j o,ops[j]? = some o→j≠ke→o.dst≠some e
theorem rep_un (n i:Nat) (h:i<n):(Array.replicate n false).getD i true=false:=by
 rw[Array.getD_eq_getD_getElem?,Array.getElem?_replicate,if_pos h]
 rfl
theorem on_true {b:Array Bool} {i:Nat} (h:b.getD i false=true):b.getD i true=true:=by
 rcases Nat.lt_or_ge i b.size with h' | h'
 ·simp[h']at h ⊢;exact h
 ·simp[Array.getElem?_eq_none h']at h
theorem set_on {b:Array Bool} {i j:Nat} (h:b.getD j true=true):(b.setIfInBounds i true).getD j true=true:=by
 by_cases e:i=j
 ·subst e
  rcases Nat.lt_or_ge i b.size with h' | h'
  ·simp[h']
  ·simp[Array.getElem?_eq_none h']
 ·rw[getD_set_ne true e];exact h
section
variable {P:Program} {md:Region.Mode} {ops:Array Oper} {m s ke d e:Nat} {ty:TypeId} {Z:Array Value} {Q:Exit→Act→World→Prop} {W:World}
def ptr (p:Nat):Value:=.pointer (some ⟨p,0,none⟩)
def Fits (P:Program) (ty:TypeId) (Z cs:Array Value):Prop:=(P.info? ty).map (·.size)=some cs.size∧Z.size=cs.size∧cs.all (·.oneCell')=true
def Ends (P:Program) (d e:Nat) (ty:TypeId) (Z:Array Value) (Q:Exit→Act→World→Prop) (W:World) (a:Act):Prop:=
 ∃ cs,a.eval (.tmp e)=.agg cs∧Fits P ty Z cs∧∀ p w',W.heap.size≤p→Below W.heap.size W w'→w'.heap[p]? = some (.cells cs ty (0,0))→Q .normal (a.put (some d) (ptr p)) w'
end
theorem wpMild_step {P:Program} {ops:Array Oper} {C:World→Prop} {Q:Act→Prop} {a:Act} {o:Oper} {rest:List Oper} (hw:Region.wanted o (yielded ops a.tmps)=true)
 (h:∀ K:Act→Prop,(∀ a,wpMild P ops C Q rest a→K a)→∃ v,(∀ w,C w→o.quietAt P a (fun w'=>Below w.heap.size w w') w v)∧K (a.put o.dst v)):wpMild P ops C Q (o :: rest) a:=by
 unfold wpMild
 rw[if_pos hw]
 exact h _ fun _ h=>h
theorem wpMild_pure {P:Program} {ops:Array Oper} {C:World→Prop} {Q:Act→Prop} {a:Act} {o:Oper} {rest:List Oper} (hw:Region.wanted o (yielded ops a.tmps)=true) (v:Value)
 (hv:∀ w,C w→(execOp a.eval o).run P w=.ok (.value v) w) (h:wpMild P ops C Q rest (a.put o.dst v)):wpMild P ops C Q (o :: rest) a:=
 wpMild_step hw fun K hK=>⟨v,fun w hC=>by unfold Oper.quietAt;rw[hv w hC];exact⟨rfl,rfl⟩,hK _ h⟩
theorem wpMild_load {P:Program} {ops:Array Oper} {C:World→Prop} {Q:Act→Prop} {rest:List Oper} {o:Oper} {a:Act} (hw:Region.wanted o (yielded ops a.tmps)=true) (ty:TypeId) (x:Operand) (ho:o.op=.load ty x)
 (g:Nat) (hx:a.eval x=.pointer (some ⟨g,0,none⟩)) (t:TypeId) (cs:Array Value) (d:TypeDesc) (hS:∀ w,C w→w.heap[g]? = some (.cells cs t (0,0)))
 (hu:P.underlying ty=some d) (hd:(match d with | .struct _ | .array _ _=>true | _=>false)=true) (hi:(P.info? ty).map (·.size)=some cs.size)
 (h:wpMild P ops C Q rest (a.put o.dst (.agg cs))):wpMild P ops C Q (o :: rest) a:=
 wpMild_pure hw (.agg cs) (fun w hC=>by
  unfold execOp
  simp only[ho,hx,Instr.loadAt,Instr.sureAddr,Sem.run_bind,Sem.run_pure,Result.andThen_ok,run_loadVar_row w g t ty cs (0,0) d (hS w hC) hu hd hi]) h
end
end vary
namespace varyn
set_option linter.unusedSimpArgs false
set_option linter.unusedVariables false
open Go Go.RowKit
open arr mem vary
structure Vr where
 m:Nat
 s:Nat
 ke:Nat
 d:Nat
 e:Nat
 ty:TypeId
 Z:Array Value
section
variable {P:Program} {md:Region.Mode} {ops:Array Oper} {Q:Exit→Act→World→Prop} {W:World} {V:List Vr}
def puts (V:List Vr) (ps:Nat→Option Nat) (a:Act):Act:=V.foldr (fun v a=>match ps v.d with | some p=>a.put (some v.d) (ptr p) | none=>a) a
def upd (ps:Nat→Option Nat) (d p:Nat):Nat→Option Nat:=fun x=>if x=d then some p else ps x
theorem puts_none (a:Act):puts V (fun _=>none) a=a:=by
 induction V with
 | nil=>rfl
 | cons v V ih=>show (match (none:Option Nat) with | some p=>(puts V (fun _=>none) a).put (some v.d) (ptr p) | none=>puts V (fun _=>none) a)=a;exact ih
theorem puts_out (ps:Nat→Option Nat) (d p:Nat) (a:Act) (h:∀ v∈V,v.d≠d):puts V (upd ps d p) a=puts V ps a:=by
 induction V with
 | nil=>rfl
 | cons v V ih=>
  have e:upd ps d p v.d=ps v.d:=if_neg (h v (by simp))
  have ih:=ih fun u hu=>h u (by simp[hu])
  show (match upd ps d p v.d with | some q=>(puts V (upd ps d p) a).put (some v.d) (ptr q) | none=>puts V (upd ps d p) a)=_
  rw[e,ih]
  rfl
theorem puts_upd (ps:Nat→Option Nat) (v:Vr) (p:Nat) (a:Act) (hv:v∈V) (hn:(V.map (·.d)).Nodup) (hp:ps v.d=none):puts V (upd ps v.d p) a=(puts V ps a).put (some v.d) (ptr p):=by
 induction V with
 | nil=>cases hv
 | cons u V ih=>
  simp only[List.map_cons,List.nodup_cons]at hn
  show (match upd ps v.d p u.d with | some q=>(puts V (upd ps v.d p) a).put (some u.d) (ptr q) | none=>puts V (upd ps v.d p) a)=(match ps u.d with | some q=>(puts V ps a).put (some u.d) (ptr q) | none=>puts V ps a).put (some v.d) (ptr p)
  by_cases e:u.d=v.d
  ·have e1:upd ps v.d p u.d=some p:=if_pos e
   rw[e1,e,hp,puts_out ps v.d p a (fun x hx hxe=>hn.1 (by rw[e,←hxe];exact List.mem_map_of_mem hx))]
  ·have e1:upd ps v.d p u.d=ps u.d:=if_neg e
   have hv':v∈V:=by
    rcases List.mem_cons.1 hv with h | h
    ·subst h;exact absurd rfl e
    ·exact h
   rw[e1,ih hv' hn.2]
   cases ps u.d with
   | none=>rfl
   | some q=>exact Act.put_comm _ _ _ (fun d hd=>by injection hd with hd;rw[←hd];intro x;injection x with x;exact e x)
theorem puts_put (ps:Nat→Option Nat) (a:Act) (x:Option Tmp) (y:Value) (h:∀ v∈V,x≠some v.d):puts V ps (a.put x y)=(puts V ps a).put x y:=by
 induction V with
 | nil=>rfl
 | cons v V ih=>
  have ih:=ih fun u hu=>h u (by simp[hu])
  show (match ps v.d with | some p=>(puts V ps (a.put x y)).put (some v.d) (ptr p) | none=>puts V ps (a.put x y))=(match ps v.d with | some p=>(puts V ps a).put (some v.d) (ptr p) | none=>puts V ps a).put x y
  rw[ih]
  cases ps v.d with
  | none=>rfl
  | some q=>exact Act.put_comm _ _ _ (fun d hd=>by rw[←hd];exact fun e=>h v (by simp) e.symm)
theorem puts_size (ps:Nat→Option Nat) (a:Act):(puts V ps a).tmps.size=a.tmps.size:=by
 induction V with
 | nil=>rfl
 | cons v V ih=>
  show (match ps v.d with | some p=>(puts V ps a).put (some v.d) (ptr p) | none=>puts V ps a).tmps.size=_
  cases ps v.d with
  | none=>exact ih
  | some q=>rw[Act.size_put];exact ih
theorem puts_eval (ps:Nat→Option Nat) (a:Act) (e:Nat) (h:∀ v∈V,v.d≠e):(puts V ps a).eval (.tmp e)=a.eval (.tmp e):=by
 induction V with
 | nil=>rfl
 | cons v V ih=>
  have ih:=ih fun u hu=>h u (by simp[hu])
  show (match ps v.d with | some p=>(puts V ps a).put (some v.d) (ptr p) | none=>puts V ps a).eval (.tmp e)=_
  cases ps v.d with
  | none=>exact ih
  | some q=>exact(Act.eval_put_ne _ _ _ _ (h v (by simp))).trans ih
theorem puts_eval_at (ps:Nat→Option Nat) (a:Act) (v:Vr) (p:Nat) (hv:v∈V) (hn:(V.map (·.d)).Nodup) (hp:ps v.d=some p) (hd:v.d<a.tmps.size):(puts V ps a).eval (.tmp v.d)=ptr p:=by
 induction V with
 | nil=>cases hv
 | cons u V ih=>
  simp only[List.map_cons,List.nodup_cons]at hn
  show (match ps u.d with | some p=>(puts V ps a).put (some u.d) (ptr p) | none=>puts V ps a).eval (.tmp v.d)=_
  by_cases e:u.d=v.d
  ·rw[e,hp]
   exact Act.eval_put_same _ _ _ (by rw[puts_size];exact hd)
  ·have hv':v∈V:=by
    rcases List.mem_cons.1 hv with h | h
    ·subst h;exact absurd rfl e
    ·exact h
   have ih:=ih hv' hn.2
   cases ps u.d with
   | none=>exact ih
   | some q=>exact(Act.eval_put_ne _ _ _ _ e).trans ih
theorem puts_exec (o:Oper) (hs:∀ cs b,o.op≠.select cs b) (ps:Nat→Option Nat) (a:Act) (h:∀ v∈V,v.d ∉ o.looksAt ops):execOp (puts V ps a).eval o=execOp a.eval o:=by
 induction V with
 | nil=>rfl
 | cons v V ih=>
  have ih:=ih fun u hu=>h u (by simp[hu])
  show execOp (match ps v.d with | some p=>(puts V ps a).put (some v.d) (ptr p) | none=>puts V ps a).eval o=_
  cases ps v.d with
  | none=>exact ih
  | some q=>exact(execOp_put o hs _ _ _ (fun d hd=>by injection hd with hd;rw[←hd];exact h v (by simp))).trans ih
theorem puts_wanted (o:Oper) (ps:Nat→Option Nat) (a:Act) (h:∀ v∈V,v.d ∉ o.looksAt ops):Region.wanted o (yielded ops (puts V ps a).tmps)=Region.wanted o (yielded ops a.tmps):=by
 induction V with
 | nil=>rfl
 | cons v V ih=>
  have ih:=ih fun u hu=>h u (by simp[hu])
  show Region.wanted o (yielded ops (match ps v.d with | some p=>(puts V ps a).put (some v.d) (ptr p) | none=>puts V ps a).tmps)=_
  cases ps v.d with
  | none=>exact ih
  | some q=>exact(wanted_put o _ _ _ (fun d hd=>by injection hd with hd;rw[←hd];exact h v (by simp))).trans ih
theorem mOp_reals {C:World→Prop} {i:Nat} {o:Oper} (hi:ops[i]? = some o) (hs:∀ cs b,o.op≠.select cs b) (ps:Nat→Option Nat) (h1:∀ v∈V,v.d ∉ o.looksAt ops) (h2:∀ v∈V,o.dst≠some v.d)
 {K:Act→Prop} {a:Act} {w:World} (hC:C w) (h:mOp P ops C o K a):wpOp P ops Q i (fun a' w'=>∃ x,a'=puts V ps (a.put o.dst x)∧K (a.put o.dst x)∧Below w.heap.size w w') (puts V ps a) w:=by
 unfold wpOp
 simp only[hi]
 rw[puts_wanted o ps a h1]
 unfold mOp at h
 by_cases hw:Region.wanted o (yielded ops a.tmps)=true
 ·rw[if_pos hw]at h ⊢
  obtain⟨v,hv,hK⟩:=h
  refine Or.inl ?_
  have hq:=hv w hC
  unfold Oper.quietAt at hq
  unfold Oper.wp
  rw[puts_exec o hs ps a h1]
  generalize (execOp a.eval o).run P w=r at *
  cases r with
  | ok n w'=>
   cases n<;>simp only[Oper.quietUpon]at hq<;>simp only[Oper.upon]
   case value y=>
    obtain⟨e1,e2⟩:=hq
    rw[e1,e2]
    exact⟨v,(puts_put ps a _ _ h2).symm,hK,Below.refl _ _⟩
   case skip=>
    obtain⟨e1,e2⟩:=hq
    rw[e1]
    exact⟨v,by rw[e2];exact(puts_put ps a _ _ h2).symm,hK,Below.refl _ _⟩
   case enter f args=>
    obtain⟨e1,hc⟩:=hq
    rw[e1]
    exact hc.mono fun e w'' ⟨he,hb⟩=>by subst he;exact⟨v,(puts_put ps a _ _ h2).symm,hK,hb⟩
  | halt y w'=>simp only[Oper.quietUpon]at hq
 ·rw[if_neg hw]at h ⊢
  exact⟨undef,(puts_put ps a _ _ h2).symm,h,Below.refl _ _⟩
def varyNB (md:Region.Mode) (ops:Array Oper) (V:List Vr):Bool:=
 Region.noSelect ops && backB md ops && decide ((V.map (·.d)).Nodup) && decide ((V.map (·.m)).Nodup) && decide ((V.map (·.s)).Nodup) &&
 (V.all fun v=>V.all fun u=>decide (v.m≠u.s) && decide (v.ke≠u.m) && decide (v.ke≠u.s) && decide (v.d≠u.e)) &&
 (V.all fun v=>match ops[v.m]? with
  | some o=>(match o.op with | .alloc t=>t==v.ty | _=>false) && o.dst==some v.d && o.guard.isNone
  | none=>false) &&
 (V.all fun v=>match ops[v.s]? with
  | some o=>(match o.op with | .store t (.tmp x) (.tmp y)=>t==v.ty && x==v.d && y==v.e | _=>false) && o.dst.isNone && o.guard.isNone &&
   o.after.any (fun x=>Region.binds md x && x.on==v.m) && o.after.any (fun x=>Region.binds md x && x.on==v.ke)
  | none=>false) &&
 ((List.range ops.size).all fun j=>match ops[j]? with
  | some o=>((V.any fun v=>j==v.m || j==v.s) || (V.all fun v => !(o.looksAt ops).contains v.d && o.dst != some v.d)) && (V.all fun v=>j==v.ke || o.dst != some v.e)
  | none=>true)
structure VN (md:Region.Mode) (ops:Array Oper) (V:List Vr):Prop where
 sel:Region.noSelect ops=true
 back:backB md ops=true
 nd:(V.map (·.d)).Nodup
 nm:(V.map (·.m)).Nodup
 ns:(V.map (·.s)).Nodup
 ms:∀ v∈V,∀ u∈V,v.m≠u.s∧v.ke≠u.m∧v.ke≠u.s∧v.d≠u.e
 om:∀ v∈V,∃ o,ops[v.m]? = some o∧o.op=.alloc v.ty∧o.dst=some v.d∧o.guard=none
 os:∀ v∈V,∃ o,ops[v.s]? = some o∧o.op=.store v.ty (.tmp v.d) (.tmp v.e)∧o.dst=none∧o.guard=none∧(∃ x∈o.after,Region.binds md x=true∧x.on=v.m)∧(∃ x∈o.after,Region.binds md x=true∧x.on=v.ke)
 off:∀ j o,ops[j]? = some o→(∀ v∈V,j≠v.m∧j≠v.s)→∀ v∈V,v.d ∉ o.looksAt ops∧o.dst≠some v.d
 only:∀ j o,ops[j]? = some o→∀ v∈V,j≠v.ke→o.dst≠some v.e
theorem vn_of (h:varyNB md ops V=true):VN md ops V:=by
 simp only[varyNB,Bool.and_eq_true,decide_eq_true_eq]at h
 obtain⟨⟨⟨⟨⟨⟨⟨⟨h1,h2⟩,h3⟩,h4⟩,h5⟩,h6⟩,h7⟩,h8⟩,h9⟩:=h
 have hall:∀ j o,ops[j]? = some o→((∃ v∈V,j=v.m∨j=v.s)∨(∀ v∈V,v.d ∉ o.looksAt ops∧o.dst≠some v.d))∧(∀ v∈V,j=v.ke∨o.dst≠some v.e):=by
  intro j o hj
  have:=List.all_eq_true.1 h9 j (List.mem_range.2 (Array.getElem?_eq_some_iff.1 hj).1)
  rw[hj]at this
  simpa using this
 refine⟨h1,h2,h3,h4,h5,fun v hv u hu=>?_,fun v hv=>?_,fun v hv=>?_,fun j o hj hm v hv=>?_,fun j o hj v hv hk=>((hall j o hj).2 v hv).resolve_left hk⟩
 ·have:=List.all_eq_true.1 (List.all_eq_true.1 h6 v hv) u hu
  simp only[Bool.and_eq_true,decide_eq_true_eq]at this
  exact⟨this.1.1.1,this.1.1.2,this.1.2,this.2⟩
 ·have h7:=List.all_eq_true.1 h7 v hv
  cases ho:ops[v.m]? with
  | none=>rw[ho]at h7;cases h7
  | some o=>
   rw[ho]at h7
   simp only[Bool.and_eq_true,beq_iff_eq,Option.isNone_iff_eq_none]at h7
   refine⟨o,rfl,?_,h7.1.2,h7.2⟩
   have h10:=h7.1.1
   split at h10
   ·rename_i t ht;rw[ht,beq_iff_eq.1 h10]
   ·cases h10
 ·have h8:=List.all_eq_true.1 h8 v hv
  cases ho:ops[v.s]? with
  | none=>rw[ho]at h8;cases h8
  | some o=>
   rw[ho]at h8
   simp only[Bool.and_eq_true,Option.isNone_iff_eq_none]at h8
   obtain⟨⟨⟨⟨h10,h11⟩,h12⟩,h13⟩,h14⟩:=h8
   refine⟨o,rfl,?_,h11,h12,?_,?_⟩
   ·split at h10
    ·rename_i t x y ht
     simp only[Bool.and_eq_true,beq_iff_eq]at h10
     rw[ht,h10.1.1,h10.1.2,h10.2]
    ·cases h10
   ·obtain⟨x,hx,hb⟩:=Array.any_eq_true'.1 h13
    simp only[Bool.and_eq_true,beq_iff_eq]at hb
    exact⟨x,hx,hb.1,hb.2⟩
   ·obtain⟨x,hx,hb⟩:=Array.any_eq_true'.1 h14
    simp only[Bool.and_eq_true,beq_iff_eq]at hb
    exact⟨x,hx,hb.1,hb.2⟩
 ·rcases (hall j o hj).1 with ⟨u,hu,h | h⟩ | h
  ·exact absurd h (hm u hu).1
  ·exact absurd h (hm u hu).2
  ·exact h v hv
theorem by_key {k:Vr→Nat} (h:(V.map k).Nodup):∀ u∈V,∀ v∈V,k u=k v→u=v:=by
 induction V with
 | nil=>intro u hu;cases hu
 | cons x V ih=>
  simp only[List.map_cons,List.nodup_cons]at h
  intro u hu v hv e
  rcases List.mem_cons.1 hu with rfl | hu'<;>rcases List.mem_cons.1 hv with rfl | hv'
  ·rfl
  ·exact absurd (e ▸ List.mem_map_of_mem hv') h.1
  ·exact absurd (e ▸ List.mem_map_of_mem hu') h.1
  ·exact ih h.2 u hu' v hv' e
def marks (V:List Vr) (b:Array Bool):Array Bool:=V.foldr (fun v b=>(b.setIfInBounds v.m true).setIfInBounds v.s true) b
theorem set_comm (b:Array Bool) (i j:Nat):(b.setIfInBounds i true).setIfInBounds j true=(b.setIfInBounds j true).setIfInBounds i true:=by
 by_cases e:i=j
 ·subst e;rfl
 ·exact Array.setIfInBounds_comm _ _ e
theorem marks_set (b:Array Bool) (i:Nat):marks V (b.setIfInBounds i true)=(marks V b).setIfInBounds i true:=by
 induction V with
 | nil=>rfl
 | cons v V ih=>
  show ((marks V (b.setIfInBounds i true)).setIfInBounds v.m true).setIfInBounds v.s true=(((marks V b).setIfInBounds v.m true).setIfInBounds v.s true).setIfInBounds i true
  rw[ih,set_comm _ i v.m,set_comm _ i v.s]
theorem marks_on {b:Array Bool} {j:Nat} (h:b.getD j true=true):(marks V b).getD j true=true:=by
 induction V with
 | nil=>exact h
 | cons v V ih=>exact set_on (set_on ih)
theorem set_at (b:Array Bool) (i:Nat):(b.setIfInBounds i true).getD i true=true:=by
 rcases Nat.lt_or_ge i b.size with h' | h'
 ·simp[h']
 ·simp[Array.getElem?_eq_none h']
theorem marks_at {b:Array Bool} {v:Vr} (hv:v∈V):(marks V b).getD v.m true=true∧(marks V b).getD v.s true=true:=by
 induction V with
 | nil=>cases hv
 | cons u V ih=>
  rcases List.mem_cons.1 hv with rfl | hv'
  ·exact⟨set_on (set_at _ _),set_at _ _⟩
  ·exact⟨set_on (set_on (ih hv').1),set_on (set_on (ih hv').2)⟩
theorem set_same {b:Array Bool} {i:Nat} (h:b.getD i true=true):b.setIfInBounds i true=b:=by
 apply Array.ext (by simp)
 intro j h1 h2
 rw[Array.getElem_setIfInBounds]
 split
 ·rename_i e;subst e;simp[h2]at h;exact h.symm
 ·rfl
theorem marks_ready {b:Array Bool} {i:Nat} (hi:i∈Region.ready md ops b) (h:∀ v∈V,i≠v.m∧i≠v.s):i∈Region.ready md ops (marks V b):=by
 induction V with
 | nil=>exact hi
 | cons v V ih=>exact ready_mono (ready_mono (ih fun u hu=>h u (by simp[hu])) (h v (by simp)).1) (h v (by simp)).2
theorem none_ready {b:Array Bool} (h:∀ j,j<ops.size→b.getD j true=true):Region.ready md ops b=[]:=by
 apply List.eq_nil_iff_forall_not_mem.2
 intro i hi
 obtain⟨hu,o,ho,-⟩:=mem_ready.1 hi
 rw[h i (Array.getElem?_eq_some_iff.1 ho).1]at hu
 cases hu
theorem countP_le {p q:Vr→Bool} (h:∀ x,q x=true→p x=true):V.countP q≤V.countP p:=List.countP_mono_left fun x _=>h x
theorem countP_lt {p q:Vr→Bool} (h:∀ x,q x=true→p x=true) {v:Vr} (hv:v∈V) (hp:p v=true) (hq:q v=false):V.countP q+1≤V.countP p:=by
 induction V with
 | nil=>cases hv
 | cons u V ih=>
  rw[List.countP_cons,List.countP_cons]
  rcases List.mem_cons.1 hv with rfl | hv'
  ·have:=countP_le (V:=V) h
   rw[hp,hq]
   simp
   omega
  ·have:=ih hv'
   by_cases hqu:q u=true
   ·rw[hqu,h u hqu];simp;omega
   ·rw[if_neg hqu];omega
def cnt (V:List Vr) (b:Array Bool):Nat:=V.countP (fun v => !b.getD v.m true)+V.countP (fun v => !b.getD v.s true)
theorem un_set {b:Array Bool} {i j:Nat} (h:(b.setIfInBounds i true).getD j true=false):b.getD j true=false:=by
 cases h2:b.getD j true with
 | false=>rfl
 | true=>rw[set_on h2]at h;cases h
theorem cnt_le (b:Array Bool) (i:Nat):cnt V (b.setIfInBounds i true)≤cnt V b:=
 Nat.add_le_add (countP_le fun x hx=>by simp only[Bool.not_eq_true']at hx ⊢;exact un_set hx) (countP_le fun x hx=>by simp only[Bool.not_eq_true']at hx ⊢;exact un_set hx)
theorem cnt_m {b:Array Bool} {v:Vr} (hv:v∈V) (h:b.getD v.m true=false):cnt V (b.setIfInBounds v.m true)+1≤cnt V b:=by
 have h1:=countP_lt (V:=V) (p:=fun v => !b.getD v.m true) (q:=fun u => !(b.setIfInBounds v.m true).getD u.m true) (fun x hx=>by simp only[Bool.not_eq_true']at hx ⊢;exact un_set hx) hv (by simp only[h];rfl) (by simp only[set_at];rfl)
 have h2:=countP_le (V:=V) (p:=fun v => !b.getD v.s true) (q:=fun u => !(b.setIfInBounds v.m true).getD u.s true) (fun x hx=>by simp only[Bool.not_eq_true']at hx ⊢;exact un_set hx)
 unfold cnt
 omega
theorem cnt_s {b:Array Bool} {v:Vr} (hv:v∈V) (h:b.getD v.s true=false):cnt V (b.setIfInBounds v.s true)+1≤cnt V b:=by
 have h1:=countP_lt (V:=V) (p:=fun v => !b.getD v.s true) (q:=fun u => !(b.setIfInBounds v.s true).getD u.s true) (fun x hx=>by simp only[Bool.not_eq_true']at hx ⊢;exact un_set hx) hv (by simp only[h];rfl) (by simp only[set_at];rfl)
 have h2:=countP_le (V:=V) (p:=fun v => !b.getD v.m true) (q:=fun u => !(b.setIfInBounds v.s true).getD u.m true) (fun x hx=>by simp only[Bool.not_eq_true']at hx ⊢;exact un_set hx)
 unfold cnt
 omega
def EndsN (P:Program) (V:List Vr) (Q:Exit→Act→World→Prop) (W:World) (a:Act):Prop:=
 (∀ v∈V,∃ cs,a.eval (.tmp v.e)=.agg cs∧Fits P v.ty v.Z cs) ∧
 ∀ ps w',(∀ v∈V,∃ p cs,ps v.d=some p∧W.heap.size≤p∧a.eval (.tmp v.e)=.agg cs∧w'.heap[p]? = some (.cells cs v.ty (0,0)))→(∀ u∈V,∀ v∈V,∀ p,ps u.d=some p→ps v.d=some p→u.d=v.d)→Below W.heap.size W w'→Q .normal (puts V ps a) w'
theorem fin_valueN (H:VN md ops V) {C:World→Prop} {v:Vr} (hv:v∈V) (f:Nat):∀ (b:Array Bool) (a:Act),anyM P md ops C (EndsN P V Q W) f b a→b.getD v.ke true=true→∃ cs,a.eval (.tmp v.e)=.agg cs∧Fits P v.ty v.Z cs:=by
 induction f with
 | zero=>intro b a h _;exact h.2.1 v hv
 | succ f ih=>
  intro b a h hk
  by_cases hr:Region.ready md ops b=[]
  ·exact(h.1 hr).1 v hv
  ·obtain⟨i,hi⟩:=List.exists_mem_of_ne_nil _ hr
   obtain⟨hu,o,ho,-⟩:=mem_ready.1 hi
   have hik:i≠v.ke:=fun x=>by rw[x,hk]at hu;cases hu
   obtain⟨x,-,hK⟩:=yieldsM_of (h.2 i o hi ho)
   obtain⟨cs,h1,h2⟩:=ih _ _ hK (set_on hk)
   refine⟨cs,?_,h2⟩
   rw[←h1]
   exact(Act.eval_put fun y hy hye=>H.only i o ho v hv hik (by rw[hy];injection hye with hye;rw[hye])).symm
structure Inv (P:Program) (ops:Array Oper) (V:List Vr) (W:World) (b:Array Bool) (a:Act) (w:World) (ps:Nat→Option Nat):Prop where
 bm:∀ v∈V,(b.getD v.m true=true↔(ps v.d).isSome=true)
 bs:∀ v∈V,ps v.d=none→b.getD v.s true=false
 mem:∀ v∈V,∀ p,ps v.d=some p→W.heap.size≤p∧(b.getD v.s true=false→w.heap[p]? = some (.cells v.Z v.ty (0,0)))∧(b.getD v.s true=true→b.getD v.ke true=true∧∃ cs,a.eval (.tmp v.e)=.agg cs∧w.heap[p]? = some (.cells cs v.ty (0,0)))
 inj:∀ u∈V,∀ v∈V,∀ p,ps u.d=some p→ps v.d=some p→u.d=v.d
 bel:Below W.heap.size W w
 bz:b.size=ops.size
 asz:∀ v∈V,v.d<a.tmps.size
theorem Inv.there {b:Array Bool} {a:Act} {w:World} {ps:Nat→Option Nat} (I:Inv P ops V W b a w ps) {v:Vr} (hv:v∈V) {p:Nat} (hp:ps v.d=some p):p<w.heap.size:=by
 obtain⟨-,h1,h2⟩:=I.mem v hv p hp
 cases h:b.getD v.s true with
 | false=>exact lt_of_row (h1 h)
 | true=>obtain⟨-,cs,-,h3⟩:=h2 h;exact lt_of_row h3
theorem simN (H:VN md ops V) (HA:∀ v∈V,∀ (ρ : Operand→Value) (o:Oper) (w:World),o.op=.alloc v.ty→(execOp ρ o).run P w=.ok (.value (ptr w.heap.size)) (w.alloc (.cells v.Z v.ty))) (F:Nat):
 ∀ (f:Nat) (b:Array Bool) (a:Act) (w:World) (ps:Nat→Option Nat),f+cnt V b≤F→anyM P md ops (fun w'=>Below W.heap.size W w') (EndsN P V Q W) f (marks V b) a→Inv P ops V W b a w ps→wpAny P md ops Q F b (puts V ps a) w:=by
 have fin:∀ (f:Nat) (b:Array Bool) (a:Act) (w:World) (ps:Nat→Option Nat),Region.ready md ops b=[]→anyM P md ops (fun w'=>Below W.heap.size W w') (EndsN P V Q W) f (marks V b) a→Inv P ops V W b a w ps→Q .normal (puts V ps a) w:=by
  intro f b a w ps h0 h I
  have hl:∀ j,j<ops.size→b.getD j true=true:=all_listed H.back I.bz h0
  have hE:EndsN P V Q W a:=by
   have hr:=none_ready (md:=md) (ops:=ops) (b:=marks V b) fun j hj=>marks_on (hl j hj)
   cases f with
   | zero=>exact h.2
   | succ f=>exact h.1 hr
  refine hE.2 ps w (fun v hv=>?_) I.inj I.bel
  obtain⟨om,hom,-⟩:=H.om v hv
  obtain⟨os,hos,-⟩:=H.os v hv
  have h1:=(I.bm v hv).1 (hl _ (Array.getElem?_eq_some_iff.1 hom).1)
  obtain⟨p,hp⟩:=Option.isSome_iff_exists.1 h1
  obtain⟨h2,-,h3⟩:=I.mem v hv p hp
  obtain⟨-,cs,h4,h5⟩:=h3 (hl _ (Array.getElem?_eq_some_iff.1 hos).1)
  exact⟨p,cs,hp,h2,h4,h5⟩
 induction F with
 | zero=>
  intro f b a w ps hF h I
  have hr:Region.ready md ops b=[]:=by
   apply List.eq_nil_iff_forall_not_mem.2
   intro i hi
   by_cases hm:∃ v∈V,i=v.m∨i=v.s
   ·obtain⟨v,hv,hx⟩:=hm
    have hu:=(mem_ready.1 hi).1
    rcases hx with rfl | rfl
    ·have:=cnt_m hv hu;omega
    ·have:=cnt_s hv hu;omega
   ·have:=marks_ready hi (V:=V) fun v hv=>⟨fun x=>hm ⟨v,hv,Or.inl x⟩,fun x=>hm ⟨v,hv,Or.inr x⟩⟩
    obtain rfl:f=0:=by omega
    rw[h.1]at this
    cases this
  exact⟨hr,fin f b a w ps hr h I⟩
 | succ F ih=>
  intro f b a w ps hF h I
  refine⟨fun h0=>fin f b a w ps h0 h I,fun i hi=>?_⟩
  obtain⟨hu,o,ho,hall⟩:=mem_ready.1 hi
  by_cases hm:∃ v∈V,i=v.m
  ·obtain⟨v,hv,rfl⟩:=hm
   obtain⟨om,hom,hop,hdst,hgd⟩:=H.om v hv
   obtain rfl:o=om:=Option.some.inj (ho.symm.trans hom)
   have hnone:ps v.d=none:=by
    cases hq:ps v.d with
    | none=>rfl
    | some q=>have:=(I.bm v hv).2 (by rw[hq];rfl);rw[hu]at this;cases this
   unfold wpOp
   simp only[ho]
   rw[if_pos (by unfold Region.wanted;rw[hgd])]
   refine Or.inl ?_
   unfold Oper.wp
   rw[HA v hv _ o w hop]
   simp only[Oper.upon,hdst]
   rw[←puts_upd ps v w.heap.size a hv H.nd hnone]
   have hc:=cnt_m hv hu
   refine ih f _ a _ _ (by omega) (by rw[marks_set,set_same (marks_at hv).1];exact h) ?_
   have hmz:v.m<b.size:=by rw[I.bz];exact(Array.getElem?_eq_some_iff.1 ho).1
   have old:∀ u∈V,u≠v→upd ps v.d w.heap.size u.d=ps u.d:=fun u hu' huv=>if_neg fun e=>huv (by_key H.nd u hu' v hv e)
   have new:upd ps v.d w.heap.size v.d=some w.heap.size:=if_pos rfl
   refine⟨fun u hu'=>?_,fun u hu' hx=>?_,fun u hu' p hp=>?_,fun u hu' x hx p hp hq=>?_,I.bel.alloc I.bel.size _,by simpa using I.bz,I.asz⟩
   ·by_cases e:u=v
    ·subst e;rw[new];simp[hmz]
    ·rw[old u hu' e,getD_set_ne true (fun x=>e (by_key H.nm u hu' v hv x.symm))];exact I.bm u hu'
   ·by_cases e:u=v
    ·subst e;rw[new]at hx;cases hx
    ·rw[old u hu' e]at hx
     rw[getD_set_ne true (H.ms v hv u hu').1];exact I.bs u hu' hx
   ·by_cases e:u=v
    ·subst e
     rw[new]at hp
     obtain rfl:=Option.some.inj hp
     refine⟨I.bel.size,fun _=>heap_at _ _ _ rfl,fun hx=>?_⟩
     rw[getD_set_ne true (H.ms u hu' u hu').1,I.bs u hu' hnone]at hx
     cases hx
    ·rw[old u hu' e]at hp
     have hlt:=I.there hu' hp
     obtain⟨h1,h2,h3⟩:=I.mem u hu' p hp
     refine⟨h1,fun hx=>?_,fun hx=>?_⟩
     ·rw[getD_set_ne true (H.ms v hv u hu').1]at hx
      rw[heap_past _ _ _ hlt];exact h2 hx
     ·rw[getD_set_ne true (H.ms v hv u hu').1]at hx
      obtain⟨h4,cs,h5,h6⟩:=h3 hx
      exact⟨set_on h4,cs,h5,by rw[heap_past _ _ _ hlt];exact h6⟩
   ·by_cases e1:u=v<;>by_cases e2:x=v
    ·rw[e1,e2]
    ·rw[e1,new]at hp
     rw[old x hx e2]at hq
     have:=I.there hx hq
     injection hp with hp
     omega
    ·rw[e2,new]at hq
     rw[old u hu' e1]at hp
     have:=I.there hu' hp
     injection hq with hq
     omega
    ·rw[old u hu' e1]at hp
     rw[old x hx e2]at hq
     exact I.inj u hu' x hx p hp hq
  ·by_cases hs:∃ v∈V,i=v.s
   ·obtain⟨v,hv,rfl⟩:=hs
    obtain⟨os,hos,hop,hdst,hgd,⟨xm,hxm,hbm,honm⟩,⟨xk,hxk,hbk,honk⟩⟩:=H.os v hv
    obtain rfl:o=os:=Option.some.inj (ho.symm.trans hos)
    have hml:b.getD v.m true=true:=on_true (honm ▸ hall xm hxm hbm)
    have hkl:b.getD v.ke true=true:=on_true (honk ▸ hall xk hxk hbk)
    obtain⟨p,hp⟩:=Option.isSome_iff_exists.1 ((I.bm v hv).1 hml)
    obtain⟨h1,h2,-⟩:=I.mem v hv p hp
    obtain⟨cs,hcs,hf⟩:=fin_valueN H hv f _ _ h (marks_on hkl)
    unfold wpOp
    simp only[ho]
    rw[if_pos (by unfold Region.wanted;rw[hgd])]
    refine Or.inl (wp_store_row v.ty _ _ hop p cs (puts_eval_at ps a v p hv H.nd hp (I.asz v hv)) ((puts_eval ps a v.e (fun u hu'=>(H.ms u hu' v hv).2.2.2)).trans hcs) v.ty v.Z (h2 hu) hf.1 hf.2.1 hf.2.2 ?_)
    rw[hdst]
    have hc:=cnt_s hv hu
    refine ih f _ a _ _ (by omega) (by rw[marks_set,set_same (marks_at hv).2];exact h) ?_
    have hsz:v.s<b.size:=by rw[I.bz];exact(Array.getElem?_eq_some_iff.1 ho).1
    refine⟨fun u hu'=>?_,fun u hu' hx=>?_,fun u hu' q hq=>?_,I.inj,I.bel.trans (below_setRow _ _ _ h1),by simpa using I.bz,I.asz⟩
    ·rw[getD_set_ne true (fun x=>(H.ms u hu' v hv).1 x.symm)];exact I.bm u hu'
    ·have e:u≠v:=fun e=>by rw[e,hp]at hx;cases hx
     rw[getD_set_ne true (fun x=>e (by_key H.ns u hu' v hv x.symm))];exact I.bs u hu' hx
    ·by_cases e:u=v
     ·subst e
      rw[hp]at hq
      obtain rfl:=Option.some.inj hq
      refine⟨h1,fun hx=>?_,fun _=>⟨set_on hkl,cs,hcs,setRow_heap _ _ _ _ _ _ (h2 hu)⟩⟩
      rw[set_at]at hx
      cases hx
     ·have hne:q≠p:=fun x=>e (by_key H.nd u hu' v hv (I.inj u hu' v hv p (x ▸ hq) hp))
      obtain⟨h3,h4,h5⟩:=I.mem u hu' q hq
      have hsn:v.s≠u.s:=fun x=>e (by_key H.ns u hu' v hv x.symm)
      refine⟨h3,fun hx=>?_,fun hx=>?_⟩
      ·rw[getD_set_ne true hsn]at hx
       rw[setRow_other _ _ _ _ hne];exact h4 hx
      ·rw[getD_set_ne true hsn]at hx
       obtain⟨h6,cs',h7,h8⟩:=h5 hx
       exact⟨set_on h6,cs',h7,by rw[setRow_other _ _ _ _ hne];exact h8⟩
   ·have hoff:∀ v∈V,i≠v.m∧i≠v.s:=fun v hv=>⟨fun x=>hm ⟨v,hv,x⟩,fun x=>hs ⟨v,hv,x⟩⟩
    have hrm:=marks_ready hi hoff
    cases f with
    | zero=>rw[h.1]at hrm;cases hrm
    | succ f=>
     have ho2:=H.off i o ho hoff
     refine wpOp_mono ?_ (mOp_reals ho (fun cs b=>Region.noSelect_spec H.sel i o cs b ho) ps (fun v hv=>(ho2 v hv).1) (fun v hv=>(ho2 v hv).2) I.bel (h.2 i o hrm ho))
     rintro a' w' ⟨x,rfl,hK,hbw⟩
     have hc:=cnt_le (V:=V) b i
     refine ih f _ _ _ ps (by omega) (by rw[marks_set];exact hK) ?_
     refine⟨fun u hu'=>?_,fun u hu' hx=>?_,fun u hu' q hq=>?_,I.inj,I.bel.trans (hbw.mono I.bel.size),by simpa using I.bz,fun u hu'=>by rw[Act.size_put];exact I.asz u hu'⟩
     ·rw[getD_set_ne true (hoff u hu').1];exact I.bm u hu'
     ·rw[getD_set_ne true (hoff u hu').2];exact I.bs u hu' hx
     ·have hlt:=I.there hu' hq
      obtain⟨h3,h4,h5⟩:=I.mem u hu' q hq
      refine⟨h3,fun hx=>?_,fun hx=>?_⟩
      ·rw[getD_set_ne true (hoff u hu').2]at hx
       exact(hbw.block _ hlt).trans (h4 hx)
      ·rw[getD_set_ne true (hoff u hu').2]at hx
       obtain⟨h6,cs',h7,h8⟩:=h5 hx
       have hik:i≠u.ke:=fun x=>by rw[x,h6]at hu;cases hu
       refine⟨set_on h6,cs',?_,(hbw.block _ hlt).trans h8⟩
       rw[←h7]
       exact Act.eval_put fun y hy hye=>H.only i o ho u hu' hik (by rw[hy];injection hye with hye;rw[hye])
theorem region_varyN {P:Program} {id:Nat} {Q:Exit→Act→World→Prop} {a:Act} {w:World} {l:List Oper} (V:List Vr) (ks:List Nat) (l':List Oper) (hm:P.follows .mixedOrders=true)
 (hB:varyNB .any l.toArray V=true) (hk:ks.map (fun k=>l.toArray[k]?)=l'.map some) (hx:lexIdx .any l.toArray ks (marks V (Array.replicate l.toArray.size false))=true) (hn:ks.length+(V.length+V.length)≤l.toArray.size)
 (HA:∀ v∈V,∀ (ρ : Operand→Value) (o:Oper) (w:World),o.op=.alloc v.ty→(execOp ρ o).run P w=.ok (.value (ptr w.heap.size)) (w.alloc (.cells v.Z v.ty))) (hd:(V.all fun v=>decide (v.d<a.tmps.size))=true)
 (h:∀ ops:Array Oper,Away (l.toArray=ops)→wpMild P ops (fun w'=>Below w.heap.size w w') (EndsN P V Q w) l' a):(Code.region id l.toArray true).wp P Q a w:=by
 have H:=vn_of hB
 have h1:=anyM_lex (md:=.any) H.sel ks l' _ a hk hx (h _ ⟨rfl⟩)
 have hc:cnt V (Array.replicate l.toArray.size false)≤V.length+V.length:=Nat.add_le_add List.countP_le_length List.countP_le_length
 have hun:∀ v∈V,(Array.replicate l.toArray.size false).getD v.m true=false∧(Array.replicate l.toArray.size false).getD v.s true=false:=fun v hv=>by
  obtain⟨om,hom,-⟩:=H.om v hv
  obtain⟨os,hos,-⟩:=H.os v hv
  exact⟨rep_un _ _ (Array.getElem?_eq_some_iff.1 hom).1,rep_un _ _ (Array.getElem?_eq_some_iff.1 hos).1⟩
 have h2:=simN (Q:=Q) H HA l.toArray.size ks.length (Array.replicate l.toArray.size false) a w.drew (fun _=>none) (by omega) h1
  ⟨fun v hv=>by rw[(hun v hv).1];simp,fun v hv _=>(hun v hv).2,fun v hv p hp=>(by cases hp),fun u hu v hv p hp=>(by cases hp),(Below.refl _ _).drew,by simp,fun v hv=>of_decide_eq_true (List.all_eq_true.1 hd v hv)⟩
 rw[puts_none]at h2
 exact wp_region_any hm h2
end
end varyn
namespace varye
set_option linter.unusedSimpArgs false
set_option linter.unusedVariables false
open Go Go.RowKit
open arr mem vary varyn
theorem ends2 {P:Program} {Q:Exit→Act→World→Prop} {W:World} {a:Act} {v1 v2:Vr} (c1 c2:Array Value) (h1:a.eval (.tmp v1.e)=.agg c1) (f1:Fits P v1.ty v1.Z c1) (h2:a.eval (.tmp v2.e)=.agg c2) (f2:Fits P v2.ty v2.Z c2) (n12:v1.d≠v2.d)
 (h:∀ p1 p2 w',W.heap.size≤p1→W.heap.size≤p2→p1≠p2→Below W.heap.size W w'→w'.heap[p1]? = some (.cells c1 v1.ty (0,0))→w'.heap[p2]? = some (.cells c2 v2.ty (0,0))→Q .normal ((a.put (some v2.d) (.pointer (some ⟨p2,0,none⟩))).put (some v1.d) (.pointer (some ⟨p1,0,none⟩))) w'):EndsN P [v1,v2] Q W a:=by
 refine⟨fun v hv=>?_,fun ps w' hm hi hb=>?_⟩
 ·simp only[List.mem_cons,List.not_mem_nil,or_false]at hv
  rcases hv with rfl | rfl
  ·exact⟨c1,h1,f1⟩
  ·exact⟨c2,h2,f2⟩
 ·obtain⟨p1,d1,e1,l1,k1,r1⟩:=hm v1 (by simp)
  obtain⟨p2,d2,e2,l2,k2,r2⟩:=hm v2 (by simp)
  obtain rfl:d1=c1:=by rw[h1]at k1;injection k1 with k1;exact k1.symm
  obtain rfl:d2=c2:=by rw[h2]at k2;injection k2 with k2;exact k2.symm
  have e:puts [v1,v2] ps a=((a.put (some v2.d) (.pointer (some ⟨p2,0,none⟩))).put (some v1.d) (.pointer (some ⟨p1,0,none⟩))):=by
   simp only[puts,List.foldr_cons,List.foldr_nil,e1,e2]
   rfl
  rw[e]
  exact h p1 p2 w' l1 l2 (fun x=>n12 (hi v1 (by simp) v2 (by simp) p1 e1 (x ▸ e2))) hb r1 r2
theorem region_vary_take {P:Program} {id:Nat} {Q:Exit→Act→World→Prop} {a:Act} {w:World} {l:List Oper} (V:List Vr) (n:Nat) (hm:P.follows .mixedOrders=true)
 (hB:varyNB .any l.toArray V=true) (hk:(List.range n).map (fun k=>l.toArray[k]?)=(l.take n).map some) (hx:lexIdx .any l.toArray (List.range n) (marks V (Array.replicate l.toArray.size false))=true) (hn:(List.range n).length+(V.length+V.length)≤l.toArray.size)
 (HA:∀ v∈V,∀ (ρ : Operand→Value) (o:Oper) (w:World),o.op=.alloc v.ty→(execOp ρ o).run P w=.ok (.value (ptr w.heap.size)) (w.alloc (.cells v.Z v.ty))) (hd:(V.all fun v=>decide (v.d<a.tmps.size))=true)
 (h:∀ ops:Array Oper,Away (l.toArray=ops)→wpMild P ops (fun w'=>Below w.heap.size w w') (EndsN P V Q w) (l.take n) a):(Code.region id l.toArray true).wp P Q a w:=
 region_varyN V _ _ hm hB hk hx hn HA hd h
end varye
end Go.Proofs.YtomphjajkkddkaaGreatDoor
namespace Go.Proofs.YtomphjajkkddkaaGreatDoor.mgd
set_option linter.unusedSimpArgs false
open Go Go.RowKit
open arr mem keca kstep polys polt pols nttl rndm spok rsdoc mlkm mlsm rkrw helda heldb vary varyn
def SG (gt:Nat) (k l e t a b o s:Int) (vm va vb vl:Value) (mu ms:ByteArray):Array Value:=#[.pointer (some ⟨gt,0,none⟩),.int .i64 k,.int .i64 l,.int .i64 e,.int .i64 t,.int .i64 a,.int .i64 b,.int .i64 o,.int .i64 s,vm,va,vb,vl,.string mu,.string ms]
def AT (vy vw:Value) (h:ByteArray) (c:Nat→Int):Array Value:=(vy :: vw :: Value.string h :: (FL .i64 256 c).toList).toArray
structure SGN (T:Array Value) (S:Sg) (gs gt gm cm ga ca gb cb gl cl:Nat) (w:World):Prop where
 row:w.heap[gs]? = some (.cells (SG gt S.kn S.ln S.e S.t S.a S.b S.o S.s (.slice (some ⟨gm,0,none⟩) S.kn cm) (.slice (some ⟨ga,0,none⟩) S.ln ca) (.slice (some ⟨gb,0,none⟩) S.kn cb) (.slice (some ⟨gl,0,none⟩) S.kn cl) S.mu S.ms) 149 (0,0))
 tab:w.heap[gt]? = some (.cells T 34 (0,0))
 mat:MX w (.slice (some ⟨gm,0,none⟩) S.kn cm) S.kn (fun _=>S.ln) (qX S.rho)
 ha:Holds w 0 (.slice (some ⟨ga,0,none⟩) S.ln ca) S.ln (fun i=>thereR S.ζ 8 (S.A i))
 hb:Holds w 0 (.slice (some ⟨gb,0,none⟩) S.kn cb) S.kn (fun i=>thereR S.ζ 8 (S.B i))
 hl:Holds w 0 (.slice (some ⟨gl,0,none⟩) S.kn cl) S.kn (fun i=>thereR S.ζ 8 (S.C i))
structure OKS (T:Array Value) (Z:Nat→Int) (S:Sg):Prop where
 lat:latt (S.kn:Int) (S.ln:Int) S.e S.t S.a S.b S.o S.s=true
 zt:nthere.ZT T Z
 kt:KT T TL RL
 ez:S.ζ = fun k=>Z k%8380417
 mu:S.mu.size=64
 ms:S.ms.size=64
 rho:S.rho.size=32
theorem oks_all {T:Array Value} {Z:Nat→Int} {S:Sg} (h:OKS T Z S):(1≤S.kn∧S.kn≤8)∧(1≤S.ln∧S.ln≤8)∧(S.e=2∨S.e=4)∧(1≤S.t∧S.t≤64)∧(S.a=131072∨S.a=524288)∧(S.b=95232∨S.b=261888)∧(1≤S.o∧S.o≤100)∧(S.s=128∨S.s=192∨S.s=256):=by
 have h:=h.lat
 unfold latt upto okg at h
 simp only[Bool.and_eq_true,Bool.or_eq_true,decide_eq_true_eq,beq_iff_eq]at h
 omega
section
variable {T:Array Value} {S:Sg} {gs gt gm cm ga ca gb cb gl cl:Nat} {w:World}
theorem mx_later {w w':World} {v:Value} {R:Nat} {n:Nat→Nat} {x:Nat→Nat→Nat→Int} (h:MX w v R n x) (hb:Below w.heap.size w w'):MX w' v R n x:=by
 obtain⟨G,C,e,h1,h2⟩:=h
 refine⟨G,C,e,Nat.lt_of_lt_of_le h1 hb.size,fun r hr=>?_⟩
 obtain⟨g,c,h3,h4,h5⟩:=h2 r hr
 exact⟨g,c,(hb.cell (p:=⟨G,r,none⟩) h1).trans h3,Nat.lt_of_lt_of_le h4 hb.size,fun j hj k hk=>(hb.cell (p:=⟨g,256*j+k,none⟩) h4).trans (h5 j hj k hk)⟩
theorem SGN.later {w':World} (h:SGN T S gs gt gm cm ga ca gb cb gl cl w) (hb:Below w.heap.size w w'):SGN T S gs gt gm cm ga ca gb cb gl cl w':=
 ⟨(hb.block _ (lt_of_row h.row)).trans h.row,(hb.block _ (lt_of_row h.tab)).trans h.tab,mx_later h.mat hb,h.ha.later hb,h.hb.later hb,h.hl.later hb⟩
theorem SGN.cell (h:SGN T S gs gt gm cm ga ca gb cb gl cl w) (i:Nat) (v:Value) (hv:(SG gt S.kn S.ln S.e S.t S.a S.b S.o S.s (.slice (some ⟨gm,0,none⟩) S.kn cm) (.slice (some ⟨ga,0,none⟩) S.ln ca) (.slice (some ⟨gb,0,none⟩) S.kn cb) (.slice (some ⟨gl,0,none⟩) S.kn cl) S.mu S.ms)[i]? = some v):w.cell? ⟨gs,i,none⟩=some v:=cell_at h.row hv
theorem SGN.lts (h:SGN T S gs gt gm cm ga ca gb cb gl cl w):gs<w.heap.size:=lt_of_row h.row
theorem SGN.ltt (h:SGN T S gs gt gm cm ga ca gb cb gl cl w):gt<w.heap.size:=lt_of_row h.tab
theorem SGN.lat (h:SGN T S gs gt gm cm ga ca gb cb gl cl w):w.rangeAt gs 1 [.int .i64 S.kn,.int .i64 S.ln,.int .i64 S.e,.int .i64 S.t,.int .i64 S.a,.int .i64 S.b,.int .i64 S.o,.int .i64 S.s]:=fun j v hv=>by
 rcases (show j=0∨j=1∨j=2∨j=3∨j=4∨j=5∨j=6∨j=7 by
  have h1:j<8:=by
   rcases Nat.lt_or_ge j 8 with h2 | h2
   ·exact h2
   ·rw[List.getElem?_eq_none (by simpa using h2)]at hv;cases hv
  omega) with rfl | rfl | rfl | rfl | rfl | rfl | rfl | rfl<;>(injection hv with hv;subst hv;exact h.cell _ _ rfl)
end
theorem at_size (vy vw:Value) (h:ByteArray) (c:Nat→Int):(AT vy vw h c).size=259:=by simp[AT,fl_size]
theorem at_poly {w:World} {g:Nat} {t:TypeId} {vy vw:Value} {h:ByteArray} {c:Nat→Int} (hr:w.heap[g]? = some (.cells (AT vy vw h c) t (0,0))):w.rangeAt g 3 (FL .i64 256 c).toList:=fun j v hv=>by
 refine cell_at hr ?_
 unfold AT
 rw[List.getElem?_toArray,show 3+j=j+1+1+1 by omega,List.getElem?_cons_succ,List.getElem?_cons_succ,List.getElem?_cons_succ]
 exact hv
theorem at_one (p q:Option Addr) (n1 c1 n2 c2:Nat) (h:ByteArray) (c:Nat→Int):(AT (.slice p n1 c1) (.slice q n2 c2) h c).all (·.oneCell')=true:=by
 have h1:=fl_one .i64 256 c
 rw[Array.all_eq_true_iff_forall_mem]at h1 ⊢
 intro x hx
 unfold AT at hx
 rw[List.mem_toArray]at hx
 simp only[List.mem_cons]at hx
 rcases hx with rfl | rfl | rfl | hx
 ·rfl
 ·rfl
 ·rfl
 ·exact h1 x (by simpa using hx)
theorem sg_one (gt:Nat) (k l e t a b o s:Int) (p1 p2 p3 p4:Option Addr) (n1 n2 n3 n4 c1 c2 c3 c4:Nat) (mu ms:ByteArray):(SG gt k l e t a b o s (.slice p1 n1 c1) (.slice p2 n2 c2) (.slice p3 n3 c3) (.slice p4 n4 c4) mu ms).all (·.oneCell')=true:=by simp[SG,Value.oneCell']
theorem infoSg:(Tryz.prog.info? 149).map (·.size)=some 15:=by kernel_rfl
theorem infoAtz:(Tryz.prog.info? 185).map (fun i=>(i.zero,i.size))=some (some (.agg (AT (.slice none 0 0) (.slice none 0 0) ⟨#[]⟩ fun _=>0)),259):=by kernel_rfl
theorem infoSgz:(Tryz.prog.info? 149).map (fun i=>(i.zero,i.size))=some (some (.agg #[.pointer none,.int .i64 0,.int .i64 0,.int .i64 0,.int .i64 0,.int .i64 0,.int .i64 0,.int .i64 0,.int .i64 0,.slice none 0 0,.slice none 0 0,.slice none 0 0,.slice none 0 0,.string ⟨#[]⟩,.string ⟨#[]⟩]),15):=by kernel_rfl
theorem infoAt:(Tryz.prog.info? 185).map (·.size)=some 259:=by kernel_rfl
theorem built_sg (gt:Nat) (k l e t a b o s:Int) (p1 p2 p3 p4:Option Addr) (n1 n2 n3 n4 c1 c2 c3 c4:Nat) (mu ms:ByteArray):Tryz.prog.built 149 [(0,.pointer (some ⟨gt,0,none⟩)),(1,.agg #[.int .i64 k,.int .i64 l,.int .i64 e,.int .i64 t,.int .i64 a,.int .i64 b,.int .i64 o,.int .i64 s]),(2,.slice p1 n1 c1),(3,.slice p2 n2 c2),(4,.slice p3 n3 c3),(5,.slice p4 n4 c4),(6,.string mu),(7,.string ms)]=some (SG gt k l e t a b o s (.slice p1 n1 c1) (.slice p2 n2 c2) (.slice p3 n3 c3) (.slice p4 n4 c4) mu ms):=by kernel_rfl
theorem built_at (p q:Option Addr) (n1 c1 n2 c2:Nat) (h:ByteArray) (c:Nat→Int):Tryz.prog.built 185 [(0,.slice p n1 c1),(1,.slice q n2 c2),(2,.string h),(3,.agg (FL .i64 256 c))]=some (AT (.slice p n1 c1) (.slice q n2 c2) h c):=by kernel_rfl
theorem holds_set {w:World} {B m k:Nat} {v:Value} {p:Nat→Nat→Int} (h:Holds w B v m p) (hk:k<B) (R:Array Value):Holds (w.setRow k R) B v m p:=by
 obtain⟨g,c,e,h1,h2,h3⟩:=h
 refine⟨g,c,e,h1,by simpa [World.setRow] using h2,fun i hi j hj=>?_⟩
 rw[←h3 i hi j hj]
 have hb:(w.setRow k R).heap[g]? = w.heap[g]? := setRow_other _ _ _ _ (by omega)
 unfold World.cell?
 simp only[hb]
def mul (ζ : Nat→Int) (c f:Nat→Int):Nat→Int:=fun k=>(backR ζ 8 (fun i=>(c i*f i)%8380417) k*8347681)%8380417
theorem mul_one (ζ : Nat→Int) (c f:Nat→Int):mul ζ (thereR ζ 8 c) (thereR ζ 8 f)=one ζ c f:=rfl
theorem wpMild_load_mid {P:Program} {ops:Array Oper} {C:World→Prop} {Q:Act→Prop} {rest:List Oper} {o:Oper} {a:Act} (hw:Region.wanted o (yielded ops a.tmps)=true) (ty:TypeId) (x:Operand) (ho:o.op=.load ty x)
 (b n:Nat) (hx:a.eval x=.pointer (some ⟨b,n,none⟩)) (cs:List Value) (d:TypeDesc) (hS:∀ w,C w→w.rangeAt b n cs)
 (hu:P.underlying ty=some d) (hd:d.isRow=true) (hi:(P.info? ty).map (·.size)=some cs.length)
 (h:wpMild P ops C Q rest (a.put o.dst (.agg cs.toArray))):wpMild P ops C Q (o :: rest) a:=
 wpMild_pure hw (.agg cs.toArray) (fun w hC=>by
  unfold execOp
  simp only[ho,hx,Instr.loadAt,Instr.sureAddr,Sem.run_bind,Sem.run_pure,Result.andThen_ok,run_loadVar_mid w b n ty cs d (hS w hC) hu hd hi]) h
theorem ends1 {P:Program} {Q:Exit→Act→World→Prop} {W:World} {a:Act} {v1:Vr} (c1:Array Value) (h1:a.eval (.tmp v1.e)=.agg c1) (f1:Fits P v1.ty v1.Z c1)
 (h:∀ p1 w',W.heap.size≤p1→Below W.heap.size W w'→w'.heap[p1]? = some (.cells c1 v1.ty (0,0))→Q .normal (a.put (some v1.d) (.pointer (some ⟨p1,0,none⟩))) w'):EndsN P [v1] Q W a:=by
 refine⟨fun v hv=>?_,fun ps w' hm hi hb=>?_⟩
 ·simp only[List.mem_cons,List.not_mem_nil,or_false]at hv
  subst hv
  exact⟨c1,h1,f1⟩
 ·obtain⟨p1,d1,e1,l1,k1,r1⟩:=hm v1 (by simp)
  obtain rfl:d1=c1:=by rw[h1]at k1;injection k1 with k1;exact k1.symm
  have e:puts [v1] ps a=a.put (some v1.d) (.pointer (some ⟨p1,0,none⟩)):=by
   simp only[puts,List.foldr_cons,List.foldr_nil,e1]
   rfl
  rw[e]
  exact h p1 w' l1 hb r1
theorem wpQuiet_val {P:Program} {ops:Array Oper} {C:World→Prop} {Q:Act→Prop} {rest:List Oper} {o:Oper} {a:Act} (hw:Region.wanted o (yielded ops a.tmps)=true) (v:Value) (hv:∀ w,(execOp a.eval o).run P w=.ok (.value v) w)
 (h:wpQuiet P ops C Q rest (a.put o.dst v)):wpQuiet P ops C Q (o :: rest) a:=by
 refine wpQuiet_step fun K hK=>?_
 rw[if_pos hw]
 exact⟨v,fun w _=>by unfold Oper.quietAt;rw[hv w];exact⟨rfl,rfl⟩,hK _ h⟩
theorem exec_build {P:Program} {ev:Operand→Value} {o:Oper} (t:TypeId) (parts:Array (Nat × Operand)) (ho:o.op=.build t parts) (C:Array Value) (hC:P.built t (parts.map fun (i,x)=>(i,ev x)).toList=some C) (w:World):(execOp ev o).run P w=.ok (.value (.agg C)) w:=by
 unfold execOp
 simp only[ho,Sem.run_bind,run_build w t _ C hC,Result.andThen_ok,Sem.run_pure]
theorem exec_build4 {P:Program} {ev:Operand→Value} {o:Oper} (t:TypeId) {x0 x1 x2 x3:Operand} {v0 v1 v2 v3:Value} (ho:o.op=.build t #[(0,x0),(1,x1),(2,x2),(3,x3)]) (h0:ev x0=v0) (h1:ev x1=v1) (h2:ev x2=v2) (h3:ev x3=v3) (C:Array Value) (hC:P.built t [(0,v0),(1,v1),(2,v2),(3,v3)]=some C) (w:World):(execOp ev o).run P w=.ok (.value (.agg C)) w:=
 exec_build t _ ho C (by simpa only[List.map_toArray,List.map_cons,List.map_nil,h0,h1,h2,h3] using hC) w
theorem exec_build8 {P:Program} {ev:Operand→Value} {o:Oper} (t:TypeId) {x0 x1 x2 x3 x4 x5 x6 x7:Operand} {v0 v1 v2 v3 v4 v5 v6 v7:Value} (ho:o.op=.build t #[(0,x0),(1,x1),(2,x2),(3,x3),(4,x4),(5,x5),(6,x6),(7,x7)]) (h0:ev x0=v0) (h1:ev x1=v1) (h2:ev x2=v2) (h3:ev x3=v3) (h4:ev x4=v4) (h5:ev x5=v5) (h6:ev x6=v6) (h7:ev x7=v7) (C:Array Value) (hC:P.built t [(0,v0),(1,v1),(2,v2),(3,v3),(4,v4),(5,v5),(6,v6),(7,v7)]=some C) (w:World):(execOp ev o).run P w=.ok (.value (.agg C)) w:=
 exec_build t _ ho C (by simpa only[List.map_toArray,List.map_cons,List.map_nil,h0,h1,h2,h3,h4,h5,h6,h7] using hC) w
theorem exec_build0 {P:Program} {ev:Operand→Value} {o:Oper} (t:TypeId) (ho:o.op=.build t #[]) (C:Array Value) (hC:P.built t []=some C) (w:World):(execOp ev o).run P w=.ok (.value (.agg C)) w:=
 exec_build t _ ho C (by simpa only[List.map_toArray,List.map_nil] using hC) w
theorem exec_sg {ev:Operand→Value} {op:Oper} {x0 x1 x2 x3 x4 x5 x6 x7:Operand} {gt:Nat} {k l e t a b o s:Int} {p1 p2 p3 p4:Option Addr} {n1 n2 n3 n4 c1 c2 c3 c4:Nat} {mu ms:ByteArray} (ho:op.op=.build 149 #[(0,x0),(1,x1),(2,x2),(3,x3),(4,x4),(5,x5),(6,x6),(7,x7)])
 (h0:ev x0=.pointer (some ⟨gt,0,none⟩)) (h1:ev x1=.agg #[.int .i64 k,.int .i64 l,.int .i64 e,.int .i64 t,.int .i64 a,.int .i64 b,.int .i64 o,.int .i64 s]) (h2:ev x2=.slice p1 n1 c1) (h3:ev x3=.slice p2 n2 c2) (h4:ev x4=.slice p3 n3 c3) (h5:ev x5=.slice p4 n4 c4) (h6:ev x6=.string mu) (h7:ev x7=.string ms) (w:World):
 (execOp ev op).run Tryz.prog w=.ok (.value (.agg (SG gt k l e t a b o s (.slice p1 n1 c1) (.slice p2 n2 c2) (.slice p3 n3 c3) (.slice p4 n4 c4) mu ms))) w:=
 exec_build8 _ ho h0 h1 h2 h3 h4 h5 h6 h7 _ (built_sg _ _ _ _ _ _ _ _ _ _ _ _ _ _ _ _ _ _ _ _ _ _ _) w
def resH (S:Sg) (n:Nat):Value:=if fldm.cbs (tLo S n) S.kn<S.b-S.t*S.e∧fldm.cbs (tCl S n) S.kn<S.b∧(rbith.tot (tHn S n) S.kn:Int)≤S.o then .tuple #[.string ⟨(rbitb.u8s (rbith.lay (tHn S n) S.o.toNat S.kn S.kn)).toArray⟩,.bool true] else .tuple #[.string ⟨#[]⟩,.bool false]
theorem cbs_all (p:Nat→Nat→Int) (x:Int) (hx : 0<x) (n:Nat):fldm.cbs p n<x↔∀ i,i<n→fldm.cb (p i) 256<x:=by
 induction n with
 | zero=>exact⟨fun _ i hi=>by omega,fun _=>hx⟩
 | succ n ih=>
  rw[fldm.cbs]
  constructor
  ·intro h i hi
   by_cases e:i=n
   ·rw[e];omega
   ·exact ih.1 (by omega) i (by omega)
  ·intro h
   have h1:=ih.2 fun i hi=>h i (by omega)
   have h2:=h n (by omega)
   omega
theorem cbs_one (f:Nat→Int):fldm.cbs (fun _=>f) 1=fldm.cb f 256:=by
 have:=(fldm.cb_bound f 256).1
 show max 0 (fldm.cb f 256)=_
 omega
end Go.Proofs.YtomphjajkkddkaaGreatDoor.mgd
namespace Go.Proofs.YtomphjajkkddkaaGreatDoor
namespace shelfr
open Go.Shelf
def lays105_ren:Go.Shelf.Ren:=⟨fun | 99=>121 | 105=>67 | 165=>122 | 166=>91 | 169=>86 | 170=>123 | 206=>160 | 212=>120 | 240=>143 | 241=>161 | 263=>158 | 264=>159 | 276=>173 | 277=>183 | n=>n,fun | 0=>0 | 3=>3 | 4=>4 | 5=>5 | 9=>9 | 20=>20 | 37=>57 | 46=>62 | 51=>24 | 53=>27 | 70=>115 | 72=>117 | 75=>120 | 76=>121 | 80=>118 | 109=>141 | 127=>160 | 146=>178 | 148=>180 | 164=>197 | n=>n,fun | n=>n⟩
theorem lays105:Go.Proofs.Lays.n105 Tryz.prog lays105_ren:={
 mixed:=by kernel_rfl
 f99:=Tryz.func121.trans (congrArg some (by kernel_rfl))
 f105:=Tryz.func67.trans (congrArg some (by kernel_rfl))
 f165:=Tryz.func122.trans (congrArg some (by kernel_rfl))
 f166:=Tryz.func91.trans (congrArg some (by kernel_rfl))
 f169:=Tryz.func86.trans (congrArg some (by kernel_rfl))
 f170:=Tryz.func123.trans (congrArg some (by kernel_rfl))
 f206:=Tryz.func160.trans (congrArg some (by kernel_rfl))
 f212:=Tryz.func120.trans (congrArg some (by kernel_rfl))
 f240:=Tryz.func143.trans (congrArg some (by kernel_rfl))
 f241:=Tryz.func161.trans (congrArg some (by kernel_rfl))
 f263:=Tryz.func158.trans (congrArg some (by kernel_rfl))
 f264:=Tryz.func159.trans (congrArg some (by kernel_rfl))
 f276:=Tryz.func173.trans (congrArg some (by kernel_rfl))
 f277:=Tryz.func183.trans (congrArg some (by kernel_rfl))
 t0:=Tryz.underlying0
 a0:=Tryz.isAgg0
 z0:=Tryz.sizeOf0
 v0:=Tryz.zeroValue0
 t3:=Tryz.underlying3
 a3:=Tryz.isAgg3
 z3:=Tryz.sizeOf3
 v3:=Tryz.zeroValue3
 t4:=Tryz.underlying4
 a4:=Tryz.isAgg4
 z4:=Tryz.sizeOf4
 v4:=Tryz.zeroValue4
 t5:=Tryz.underlying5
 a5:=Tryz.isAgg5
 z5:=Tryz.sizeOf5
 v5:=Tryz.zeroValue5
 t9:=Tryz.underlying9
 a9:=Tryz.isAgg9
 z9:=Tryz.sizeOf9
 v9:=Tryz.zeroValue9
 t20:=Tryz.underlying20
 a20:=Tryz.isAgg20
 z20:=Tryz.sizeOf20
 v20:=Tryz.zeroValue20
 t37:=Tryz.underlying57
 a37:=Tryz.isAgg57
 z37:=Tryz.sizeOf57
 v37:=Tryz.zeroValue57
 t46:=Tryz.underlying62
 a46:=Tryz.isAgg62
 z46:=Tryz.sizeOf62
 v46:=Tryz.zeroValue62
 t51:=Tryz.underlying24
 a51:=Tryz.isAgg24
 z51:=Tryz.sizeOf24
 v51:=Tryz.zeroValue24
 t53:=Tryz.underlying27
 a53:=Tryz.isAgg27
 z53:=Tryz.sizeOf27
 v53:=Tryz.zeroValue27
 t70:=Tryz.underlying115
 a70:=Tryz.isAgg115
 z70:=Tryz.sizeOf115
 v70:=Tryz.zeroValue115
 t72:=Tryz.underlying117
 a72:=Tryz.isAgg117
 z72:=Tryz.sizeOf117
 v72:=Tryz.zeroValue117
 t75:=Tryz.underlying120
 a75:=Tryz.isAgg120
 z75:=Tryz.sizeOf120
 v75:=Tryz.zeroValue120
 t76:=Tryz.underlying121
 a76:=Tryz.isAgg121
 z76:=Tryz.sizeOf121
 v76:=Tryz.zeroValue121
 t109:=Tryz.underlying141
 a109:=Tryz.isAgg141
 z109:=Tryz.sizeOf141
 v109:=Tryz.zeroValue141
 t127:=Tryz.underlying160
 a127:=Tryz.isAgg160
 z127:=Tryz.sizeOf160
 v127:=Tryz.zeroValue160
 t146:=Tryz.underlying178
 a146:=Tryz.isAgg178
 z146:=Tryz.sizeOf178
 v146:=Tryz.zeroValue178
 t148:=Tryz.underlying180
 a148:=Tryz.isAgg180
 z148:=Tryz.sizeOf180
 v148:=Tryz.zeroValue180
 t164:=Tryz.underlying197
 a164:=Tryz.isAgg197
 z164:=Tryz.sizeOf197
 v164:=Tryz.zeroValue197 }
theorem extra105:Builder.Extra Tryz.prog lays105_ren:={
 sizeBuilder:=by kernel_rfl
 liesBuilder:=by kernel_rfl
 t5:=Tryz.underlying5
 a5:=Tryz.isAgg5
 z5:=Tryz.sizeOf5
 v5:=Tryz.zeroValue5
 infoByte:=by kernel_rfl
 cellsByte:=by kernel_rfl
 sizeByte:=by kernel_rfl
 neB5:=by decide }
open Go.RowKit in
theorem repeated (s:ByteArray) (c:Nat) (w:World) (hc:c≤9223372036854775807) (hlen:s.size*c≤140737488355328):
 Calls Tryz.prog 67 #[.string s,.int .i64 c] w fun e w'=>e=.returned (.string ⟨(Lib.repeatL s.data.toList c).toArray⟩)∧Below w.heap.size w w':=Any.strings_Repeat lays105 extra105 s c w hc hlen
open Go.RowKit in
theorem writeString (B b:Nat) (bs:List Value) (s:ByteArray) (w:World) (h:Lib.IsBuilder 117 5 B b bs w) (hlen:bs.length+s.size≤140737488355328) (hBw:B≤w.heap.size):
 Calls Tryz.prog 91 #[.pointer (some ⟨b,0,none⟩),.string s] w fun e w'=>e=.returned (.tuple #[.int .i64 s.size,.nilIface])∧(Lib.BuilderAt 117 5 B b (.pointer (some ⟨b,0,none⟩)) (bs++Lib.strCells s) w'∧Below B w w'):=Any.Builder_WriteString (ρ := lays105_ren) { lays105 with } extra105 B b bs s w h hlen hBw
open Go.RowKit in
theorem toText (B b:Nat) (l:List UInt8) (w:World) (h:Lib.IsBuilder 117 5 B b (Lib.byteCells l) w) (hBw:B≤w.heap.size):
 Calls Tryz.prog 86 #[.pointer (some ⟨b,0,none⟩)] w fun e w'=>e=.returned (.string ⟨l.toArray⟩)∧Below B w w':=Any.Builder_String_any (ρ := lays105_ren) { lays105 with } extra105 B b l w h hBw
open Go.RowKit
open mem
theorem builder_later {T e:TypeId} {B b:Nat} {bs:List Value} {w w':World} (h:Lib.IsBuilder T e B b bs w) (k:Below w.heap.size w w'):Lib.IsBuilder T e B b bs w':=by
 have key:∀ p,Lib.BuilderAt T e B b p bs w→Lib.BuilderAt T e B b p bs w':=by
  intro p h
  have hl:=h.lt
  obtain⟨hB,v,hbk,hown,hne⟩:=h
  refine⟨hB,v,(k.block b hl).trans hbk,⟨hown.1,?_⟩,hne⟩
  rcases hown.2 with h0 | ⟨g,cap,cur,h1,h2,hg,h3⟩
  ·exact Or.inl h0
  ·exact Or.inr ⟨g,cap,cur,h1,h2,(k.block g (lt_of_row hg)).trans hg,h3⟩
 rcases h with h | h
 ·exact Or.inl (key _ h)
 ·exact Or.inr (key _ h)
end shelfr
end Go.Proofs.YtomphjajkkddkaaGreatDoor
namespace Go.Proofs.YtomphjajkkddkaaGreatDoor
namespace shelf
open Go.Shelf
def lays129_ren:Go.Shelf.Ren:=⟨fun | 129=>193 | n=>n,fun | 3=>3 | 4=>4 | 5=>5 | 9=>9 | 46=>62 | 53=>27 | n=>n,fun | n=>n⟩
theorem lays129:Go.Proofs.Lays.n129 Tryz.prog lays129_ren:={
 mixed:=by kernel_rfl
 f129:=Tryz.func193.trans (congrArg some (by kernel_rfl))
 t3:=Tryz.underlying3
 a3:=Tryz.isAgg3
 z3:=Tryz.sizeOf3
 v3:=Tryz.zeroValue3
 t4:=Tryz.underlying4
 a4:=Tryz.isAgg4
 z4:=Tryz.sizeOf4
 v4:=Tryz.zeroValue4
 t5:=Tryz.underlying5
 a5:=Tryz.isAgg5
 z5:=Tryz.sizeOf5
 v5:=Tryz.zeroValue5
 t9:=Tryz.underlying9
 a9:=Tryz.isAgg9
 z9:=Tryz.sizeOf9
 v9:=Tryz.zeroValue9
 t46:=Tryz.underlying62
 a46:=Tryz.isAgg62
 z46:=Tryz.sizeOf62
 v46:=Tryz.zeroValue62
 t53:=Tryz.underlying27
 a53:=Tryz.isAgg27
 z53:=Tryz.sizeOf27
 v53:=Tryz.zeroValue27 }
open Go.RowKit in
theorem len64 (x:Int) (w:World) (h0 : 0≤x) (h1:x≤18446744073709551615):
 Calls Tryz.prog 193 #[.int .u64 x] w fun e w'=>e=.returned (.int .i64 (Lib.bitLen x.toNat))∧w'=w:=Any.bits_Len64 lays129 x w h0 h1
end shelf
namespace plong
open Go Go.RowKit
open arr mem rbita
theorem lbf_len (f:Nat):∀ n,Lib.bitLenAux f n=lbf f n:=by
 induction f with
 | zero=>intro n;rfl
 | succ f ih=>
  intro n
  rw[Lib.bitLenAux,lbf,ih]
  by_cases h:n=0
  ·rw[if_pos h,if_pos h]
  ·rw[if_neg h,if_neg h];omega
theorem len_any (x:Int) (h0 : 0≤x) (h1:x≤18446744073709551615) (w:World):Calls Tryz.prog 169 #[.int .u64 x] w fun e w'=>e=.returned (.int .i64 ((lb x.toNat:Nat):Int))∧w'=w:=by
 have H:∀ w1:World,Calls Tryz.prog 193 #[.int .u64 x] w1 fun e w'=>e=.returned (.int .i64 ((lb x.toNat:Nat):Int))∧w'=w1:=fun w1=>by
  have h:=shelf.len64 x w1 h0 h1
  rw[show Lib.bitLen x.toNat=lb x.toNat from lbf_len 64 _]at h
  exact h
 go_enter Tryz.func169,Tryz.ntmps169
 go_wp2_with fail
 refine(H _).mono ?_
 rintro e w1 ⟨rfl,rfl⟩
 go_wp2_with fail
 go_ret
 exact⟨rfl,rfl⟩
theorem long_any (n:Int) (hn:n<9223372036854775808) (w:World):Calls Tryz.prog 127 #[.int .i64 n] w fun e w'=>e=.returned (.int .i64 ((lb n.toNat:Nat):Int))∧w'=w:=by
 by_cases h0 : 0≤n
 ·have H:=fun w1=>len_any n h0 (by omega) w1
  have hmx:max n 0=n:=by omega
  have fu:IntKind.u64.wrap n=n:=by rw[IntKind.wrap_u64];omega
  go_enter Tryz.func127,Tryz.ntmps127
  go_wp2_with fail
  refine(H _).mono ?_
  rintro e w1 ⟨rfl,rfl⟩
  go_wp2_with fail
  go_ret
  exact⟨rfl,rfl⟩
 ·have H:=fun w1=>len_any 0 (by decide) (by decide) w1
  have hz:n.toNat=(0:Int).toNat:=by omega
  rw[hz]
  have hmx:max n 0=0:=by omega
  have fu:IntKind.u64.wrap 0=0:=by decide
  go_enter Tryz.func127,Tryz.ntmps127
  go_wp2_with fail
  refine(H _).mono ?_
  rintro e w1 ⟨rfl,rfl⟩
  go_wp2_with fail
  go_ret
  exact⟨rfl,rfl⟩
end plong
namespace psmall
open Go Go.RowKit
open arr mem
theorem most_any (m:Int) (w:World):Calls Tryz.prog 128 #[.int .i64 m] w fun e w'=>e=.returned (.bool (decide (1≤m∧m<8380417)))∧w'=w:=by
 by_cases c0 : 1≤m
 rotate_left
 ·rw[decide_eq_false (fun h=>c0 h.1)]
  go_enter Tryz.func128,Tryz.ntmps128
  go_wp2_with fail
  go_ret
  exact⟨rfl,rfl⟩
 by_cases c1:m<8380417
 rotate_left
 ·rw[decide_eq_false (fun h=>c1 h.2)]
  go_enter Tryz.func128,Tryz.ntmps128
  go_wp2_with fail
  go_ret
  exact⟨rfl,rfl⟩
 rw[decide_eq_true ⟨c0,c1⟩]
 go_enter Tryz.func128,Tryz.ntmps128
 go_wp2_with fail
 go_ret
 exact⟨rfl,rfl⟩
theorem size_any (wd:Nat) (h:wd≤64) (w:World):Calls Tryz.prog 129 #[.int .i64 (wd:Int)] w fun e w'=>e=.returned (.int .i64 ((32*wd:Nat):Int))∧w'=w:=by
 obtain⟨M,hM⟩:=ex_eq (32*wd)
 have f1:IntKind.i64.wrap (256*(wd:Int))=256*(wd:Int):=by rw[IntKind.wrap_i64];omega
 have f2:(256*(wd:Int)).tdiv 8=(M:Int):=by rw[Int.tdiv_eq_ediv_of_nonneg (by omega)];have:=hM.out;omega
 have f3 : 256*(wd:Int) / 8=(M:Int):=by have:=hM.out;omega
 rw[hM.out]
 go_enter Tryz.func129,Tryz.ntmps129
 go_wp2_with fail
 go_ret
 exact⟨by first | rfl | (congr 2;have:=hM.out;omega),rfl⟩
end psmall
namespace psmall
open Go Go.RowKit
open arr mem
theorem ends_any (l h:Int) (w:World):Calls Tryz.prog 155 #[.int .i64 l,.int .i64 h] w fun e w'=>e=.returned (.bool (decide (0≤l∧l<4190208∧1≤h∧h<4190208)))∧w'=w:=by
 by_cases c0 : 0≤l
 rotate_left
 ·rw[decide_eq_false (fun k=>c0 k.1)]
  go_enter Tryz.func155,Tryz.ntmps155
  go_wp2_with fail
  go_ret
  exact⟨rfl,rfl⟩
 by_cases c1:l<4190208
 rotate_left
 ·rw[decide_eq_false (fun k=>c1 k.2.1)]
  go_enter Tryz.func155,Tryz.ntmps155
  go_wp2_with fail
  go_ret
  exact⟨rfl,rfl⟩
 by_cases c2 : 1≤h
 rotate_left
 ·rw[decide_eq_false (fun k=>c2 k.2.2.1)]
  go_enter Tryz.func155,Tryz.ntmps155
  go_wp2_with fail
  go_ret
  exact⟨rfl,rfl⟩
 by_cases c3:h<4190208
 rotate_left
 ·rw[decide_eq_false (fun k=>c3 k.2.2.2)]
  go_enter Tryz.func155,Tryz.ntmps155
  go_wp2_with fail
  go_ret
  exact⟨rfl,rfl⟩
 rw[decide_eq_true ⟨c0,c1,c2,c3⟩]
 go_enter Tryz.func155,Tryz.ntmps155
 go_wp2_with fail
 go_ret
 exact⟨rfl,rfl⟩
end psmall
end Go.Proofs.YtomphjajkkddkaaGreatDoor
namespace Go.Proofs.YtomphjajkkddkaaGreatDoor
namespace pstore
open Go Go.RowKit
open arr mem stil bitm bitn polys rbitb rbitc rbitd
def us (l:List Nat):List Value:=l.map fun (x:Nat)=>Value.int .u8 (x:Int)
theorem us_snoc (l:List Nat) (x:Nat):us (l ++ [x])=us l ++ [.int .u8 (x:Int)]:=by simp[us]
theorem conv_own {w:World} {base g cap n:Nat} {l:List Nat} (hn:l.length=n) (hl:∀ x∈l,x<256) (h:w.ownsRow base 5 1 (.slice (some ⟨g,0,none⟩) n cap) n (us l)):
 (convert 57 9 (.slice (some ⟨g,0,none⟩) n cap)).run Tryz.prog w=.ok (.string ⟨(u8s l).toArray⟩) w:=by
 subst hn
 have hz:(u8s l).length=l.length:=by simp[u8s]
 have:=run_convert_bytes_back (P:=Tryz.prog) w 57 9 5 ⟨g,0,none⟩ cap (u8s l) Tryz.underlying57 Tryz.underlying5 Tryz.underlying9 (fun j hj=>by
  rw[hz]at hj
  rw[Addr.add_mid,Nat.zero_add,h.cellAt j (by rw[Nat.mul_one];exact hj)]
  have hx:=hl l[j] (List.getElem_mem hj)
  simp[us,u8s,List.getElem?_eq_getElem hj,Nat.mod_eq_of_lt hx])
 rw[hz]at this
 exact this
theorem store_any (g wd:Nat) (L:List Nat) (w:World) (hl:L.length=256) (hw0 : 1≤wd) (hw:wd≤23) (hL:∀ x∈L,x<2 ^ wd) (hg:g<w.heap.size) (hcell:∀ i,i<256→w.cell? ⟨g,i,none⟩=some (.int .i64 ((L.getD i 0:Nat):Int))):
 Calls Tryz.prog 141 #[.pointer (some ⟨g,0,none⟩),.int .i64 (wd:Int)] w fun e w'=>e=.returned (.string ⟨(u8s (nb 8 (32*wd) (pk wd L))).toArray⟩)∧Below w.heap.size w w':=by
 obtain⟨i0,hi,hz0,hz1,hz2⟩:=parts infoByte
 have HI:=Away.mk (And.intro hi (And.intro hz0 (And.intro hz1 hz2)))
 obtain⟨M,hM⟩:=ex_eq (32*wd)
 have HS:∀ w1:World,Calls Tryz.prog 129 #[.int .i64 (wd:Int)] w1 fun e w'=>e=.returned (.int .i64 (M:Int))∧w'=w1:=fun w1=>by rw[←hM.out];exact psmall.size_any wd (by omega) w1
 have hMb:M≤736:=by rw[←hM.out];omega
 obtain⟨N,hN⟩:=ex_eq (pk wd L)
 have HNi:Away (∀ i,i<256→L.getD i 0=N / 2 ^ (wd*i)%2 ^ wd):=⟨fun i hi=>by
  rw[←hN.out,pk_at wd L hL i (by rw[hl];exact hi),List.getD_eq_getElem?_getD,List.getElem?_eq_getElem (by rw[hl];exact hi)];rfl⟩
 have Hcell:=Away.mk hcell
 obtain⟨R,HR⟩:=ex_eq (u8s (nb 8 M N))
 rw[hM.out,hN.out,HR.out]
 clear hi hz0 hz1 hz2 hcell hL hl
 go_enter Tryz.func141,Tryz.ntmps141
 go_wp2_with fail
 refine(HS _).mono ?_
 rintro e w ⟨rfl,rfl⟩
 go_wp2_with (at_make;refine wpList_make_own _ rfl _ _ 57 rfl w.heap.size 5 i0 (.int .u8 0) 1 Tryz.underlying57 HI.out.1 HI.out.2.1 HI.out.2.2.1 .i64 .i64 _ M rfl rfl rfl (by rw[HI.out.2.2.2];omega) (by unfold maxLen;omega) (Nat.le_refl _) ?_)
 intro w3 hown hgr
 have B3:Away (Below w.heap.size w w3):=⟨(Below.refl _ _).grown hgr (Nat.le_refl _) (fun k hk=>by simp at hk)⟩
 have O3:Away (w3.ownsRow w.heap.size 5 1 (.slice (some ⟨w.heap.size,0,none⟩) 0 M) 0 (us (nb 8 0 N))):=⟨hown⟩
 clear hown hgr
 go_wp2_with fail
 go_loopw [5,6,7,14] (fun v a k c wr=>∃ i b h j:Nat,i≤256∧8*b≤wd*i∧wd*i<8*b+8∧N%2 ^ (wd*i) / 2 ^ (8*b)=h∧j+8*b=wd*i∧v=.slice (some ⟨w.heap.size,0,none⟩) b M∧a=.int .i64 (h:Int)∧k=.int .i64 (j:Int)∧c=.int .i64 (i:Int)∧Away (wr.ownsRow w.heap.size 5 1 (.slice (some ⟨w.heap.size,0,none⟩) b M) b (us (nb 8 b N)))∧Away (Below w.heap.size w wr)) (fun _ _ _ c _=>256-(intOf c).toNat)
 case atStart=>exact⟨0,0,0,0,Nat.zero_le _,by omega,by omega,by simp[Nat.mod_one],by omega,rfl,rfl,rfl,rfl,O3,B3⟩
 case round=>
  clear O3 B3
  obtain⟨i,b,h,j,hi,hb1,hb2,hh,hj,rfl,rfl,rfl,rfl,Ow,Bw⟩:=hrel
  by_cases hlt:i<256
  ·have hiz:(i:Int)<256:=by omega
   have cx:=(Bw.out.cell (p:=⟨g,i,none⟩) hg).trans (Hcell.out i hlt)
   obtain⟨x,hx⟩:∃ x,L.getD i 0=x:=⟨_,rfl⟩
   have hxN:=HNi.out i hlt
   rw[hx]at hxN cx
   have hxl:x<2 ^ wd:=by rw[hxN];exact Nat.mod_lt _ (Nat.two_pow_pos _)
   obtain⟨m,hm⟩:∃ m,wd*i=m:=⟨_,rfl⟩
   have hm2:wd*(i+1)=m+wd:=by rw[Nat.mul_succ,hm]
   have hmM:m+wd≤8*M:=by
    have h1:wd*(i+1)≤wd*256:=Nat.mul_le_mul_left _ hlt
    have:=hM.out
    omega
   rw[hm]at hb1 hb2 hh hj hxN
   obtain⟨d,hd⟩:∃ d,x*2 ^ j=d:=⟨_,rfl⟩
   have hj7:j≤7:=by omega
   have hor:=or_next N m (8*b) wd hb1
   rw[hh,←hxN,show m-8*b=j by omega,hd]at hor
   obtain⟨h',hh'⟩:∃ h',N%2 ^ (m+wd) / 2 ^ (8*b)=h':=⟨_,rfl⟩
   rw[hh']at hor
   have hhl:h<2 ^ j:=by rw[←hh,show j=m-8*b by omega];exact held_lt N m (8*b) hb1
   have hj30:j+wd≤30:=by omega
   have hh'l:h'<2 ^ (j+wd):=by rw[←hh',show j+wd=m+wd-8*b by omega];exact held_lt N (m+wd) (8*b) (by omega)
   have p7:=pow_small j 7 hj7
   have p23:=pow_small wd 23 hw
   have p30:=pow_small (j+wd) 30 hj30
   have hd30:d<2 ^ 30:=by
    rw[←hd]
    have h1:x*2 ^ j<2 ^ wd*2 ^ j:=Nat.mul_lt_mul_of_lt_of_le hxl (Nat.le_refl _) (Nat.two_pow_pos _)
    rw[←Nat.pow_add,Nat.add_comm wd]at h1
    omega
   have hh30:h'<2 ^ 30:=by omega
   have hh7:h<2 ^ 30:=by omega
   have fd:(x:Int)*2 ^ j=(d:Int):=by rw[←hd,Int.natCast_mul,Int.natCast_pow];rfl
   have fdw:IntKind.i64.wrap ((x:Int)*2 ^ j)=(d:Int):=by rw[fd,IntKind.wrap_i64];omega
   have V:=or_i64 h d (by omega) (by omega)
   rw[hor]at V
   have fjw:IntKind.i64.wrap ((j:Int)+(wd:Int))=((j+wd:Nat):Int):=by rw[IntKind.wrap_i64];omega
   have hxi:x<8388608:=by omega
   have Hh:=Away.mk hh'
   have Hm:=Away.mk (And.intro hm2 hmM)
   clear hx hxN hxl hm hm2 hb2 hh hd hor hh' hhl hh'l p7 p23 p30 hmM fd
   have hb8 : 8*b≤m+wd:=by omega
   have hj64:j<64:=by omega
   clear hb1 hj30 hd30 hxi
   go_wp2_with fail
   clear V fdw fjw cx hj7 hj64
   obtain⟨m',hm'⟩:∃ m',m+wd=m':=⟨_,rfl⟩
   rw[hm']at hb8 Hh Hm
   go_loopw [5,6,7] (fun v a k wr=>∃ b h j:Nat,8*b≤m'∧h<2 ^ 30∧N%2 ^ m' / 2 ^ (8*b)=h∧j+8*b=m'∧v=.slice (some ⟨w.heap.size,0,none⟩) b M∧a=.int .i64 (h:Int)∧k=.int .i64 (j:Int)∧Away (wr.ownsRow w.heap.size 5 1 (.slice (some ⟨w.heap.size,0,none⟩) b M) b (us (nb 8 b N)))∧Away (Below w.heap.size w wr)) (fun _ _ k _=>(intOf k).toNat)
   case atStart=>exact⟨b,h',j+wd,hb8,hh30,Hh.out,by omega,rfl,rfl,by go_num,Ow,Bw⟩
   case round=>
    clear Ow Bw Hh hb8 hh30 hh7 hj hm'
    obtain⟨b,h,j,hb8,hh30,hh,hj,rfl,rfl,rfl,Ow,Bw⟩:=hrel
    by_cases h8 : 8≤j
    ·have hj8:(8:Int)≤(j:Int):=by omega
     obtain⟨β,hβ⟩:∃ β,h%256 = β := ⟨_,rfl⟩
     obtain⟨h2,hh2⟩:∃ h2,h / 256=h2:=⟨_,rfl⟩
     have Hn:Away (us (nb 8 (b+1) N)=us (nb 8 b N) ++ [.int .u8 (β : Int)]):=⟨by
      have e:=mod_div_mod N m' (8*b) 8 (by omega)
      rw[hh]at e
      rw[nb_snoc,us_snoc,←e,←hβ]⟩
     have Hh2:Away (N%2 ^ m' / 2 ^ (8*(b+1))=h2):=⟨by rw[←hh2,←hh,Nat.mul_succ,Nat.pow_add,Nat.div_div_eq_div_mul]⟩
     have fβ : (h:Int)%256=(β : Int):=by omega
     have fβw:IntKind.u8.wrap (h:Int)=(β : Int):=by rw[IntKind.wrap_u8];omega
     have fh2:(h:Int) / 256=(h2:Int):=by omega
     have hh23:h2<2 ^ 30:=by omega
     have fj8:IntKind.i64.wrap ((j:Int)-8)=((j-8:Nat):Int):=by have:=Hm.out.2;rw[IntKind.wrap_i64];omega
     have hbM:b+1≤M:=by have:=Hm.out.2;omega
     have hbM':b≤M:=by omega
     have hwx:=Bw.out.size
     clear hβ hh2 hh
     go_wp2_with (at_builtin;refine wpList_append_fits _ rfl _ _ 57 rfl w.heap.size 5 i0 1 Tryz.underlying57 HI.out.1 HI.out.2.2.1 w.heap.size b M _ rfl (Ow.out.alloc _) ⟨wr.heap.size,0,none⟩ 1 1 [.int .u8 (β : Int)] rfl rfl news_at (fun u hu=>by simp at hu;subst hu;rfl) hbM ?_)
     intro w4 hown' hgrow
     have hb4:Below w.heap.size wr w4:=((Below.refl w.heap.size wr).alloc hwx _).grown hgrow (by rw[size_alloc];omega) (fun k hk=>by simp at hk;omega)
     have HB4:Away (Below w.heap.size w w4):=⟨Bw.out.trans hb4⟩
     have OY:Away (w4.ownsRow w.heap.size 5 1 (.slice (some ⟨w.heap.size,0,none⟩) (b+1) M) (b+1) (us (nb 8 (b+1) N))):=⟨by rw[Hn.out];exact hown'⟩
     clear hown' hgrow hb4 Ow Bw
     go_wp2_with fail
     go_roundw
     case rel=>exact⟨b+1,h2,j-8,by omega,hh23,Hh2.out,by omega,rfl,by go_num,by go_num,OY,HB4⟩
     case measure=>simp[intOf];omega
    ·have hj8:¬ (8:Int)≤(j:Int):=by omega
     go_wp2_with fail
     go_roundw
     case rel=>exact⟨i+1,b,h,j,by omega,by rw[Hm.out.1];exact hb8,by rw[Hm.out.1];omega,by rw[Hm.out.1];exact hh,by rw[Hm.out.1];exact hj,rfl,rfl,rfl,by go_num,Ow,Bw⟩
     case measure=>simp[intOf];omega
  ·obtain rfl:i=256:=by omega
   simp only[Int.cast_ofNat_Int]
   obtain rfl:b=M:=by have:=hM.out;omega
   have hcv:=conv_own (nb_length 8 b N) (fun x hx=>nb_lt 8 b N x hx) Ow.out
   rw[HR.out]at hcv
   clear hh
   go_wp2_with fail
   go_ret
   exact⟨rfl,Bw.out⟩
end pstore
end Go.Proofs.YtomphjajkkddkaaGreatDoor
