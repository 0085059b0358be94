/-
  A region that draws its order and makes a variable for a result ('x, err := f(..)' with x a struct o
-/
import Derived.Test.YtomphjajkkddkaaGreatDoorZs01
import Derived.Test.YtomphjajkkddkaaGreatDoorZs04
import Derived.Great.Frames
set_option maxRecDepth 100000
set_option maxHeartbeats 16000000
set_option linter.unusedSimpArgs false
set_option linter.unusedVariables false
open Go Go.RowKit
open Go renaming World->G,Value->aE,TypeId->aH,Program->aI
open Go.Region renaming ready->aK,wanted->aL
open Go.Value renaming agg->I,pointer->aC
open Go.Obj renaming cells->Y
namespace Go.Proofs.YtomphjajkkddkaaGreatDoor
abbrev nI:=@Go.Act.eval_put_ne
abbrev oV:=@Go.Act.eval_put_same
namespace vary
open arr mem
section
variable {P:aI} {ops:Array Oper} {md:Region.Mode} {C:G->Prop}
def Mild(P:aI)(C:G->Prop)(o:Oper)(a:Act)(v:aE):Prop:=∀ w,C w->o.quietAt P a (fun w'=>zb w w') w v
def dE(P:aI)(ops:Array Oper)(C:G->Prop)(Q:Act->Prop):List Oper->Act->Prop
 | [],a=>Q a
 | o :: rest,a=>if aL o (yielded ops a.tmps)=true then ∃ v,Mild P C o a v/\dE P ops C Q rest (a.put o.dst v) else dE P ops C Q rest (a.put o.dst undef)
def mOp(P:aI)(ops:Array Oper)(C:G->Prop)(o:Oper)(K:Act->Prop)(a:Act):Prop:=
 if aL o (yielded ops a.tmps)=true then ∃ v,Mild P C o a v/\K (a.put o.dst v) else K (a.put o.dst undef)
def anyM(P:aI)(md:Region.Mode)(ops:Array Oper)(C:G->Prop)(Q:Act->Prop):Nat->Array Bool->Act->Prop
 | 0,b,a=>aK md ops b=[]/\Q a
 | f+1,b,a=>(aK md ops b=[]->Q a)/\∀ i o,i∈aK md ops b->ops[i]? = some o->mOp P ops C o (anyM P md ops C Q f (b.setIfInBounds i true)) a
def dC(P:aI)(ops:Array Oper)(C:G->Prop)(o:Oper)(v:aE)(a:Act):Prop:=
 (aL o (yielded ops a.tmps)=true/\Mild P C o a v)\/(aL o (yielded ops a.tmps)=false/\v=undef)
theorem dC.mOp{o:Oper}{v:aE}{a:Act}(hy:dC P ops C o v a){K:Act->Prop}(h:K (a.put o.dst v)):mOp P ops C o K a:=by
 unfold vary.mOp;rcases hy with ⟨h1,h2⟩ | ⟨h1,rfl⟩
 ·rw[iP h1];exact⟨v,h2,h⟩
 ·rw[iQ (by rw[h1];decide)];exact h
theorem xh2{o:Oper}{a:Act}{K:Act->Prop}(h:mOp P ops C o K a):∃ v,dC P ops C o v a/\K (a.put o.dst v):=by
 unfold mOp at h;by_cases hw:aL o (yielded ops a.tmps)=true
 ·rw[iP hw]at h;obtain⟨v,h1,h2⟩:=h;exact⟨v,kW ⟨hw,h1⟩,h2⟩
 ·rw[iQ hw]at h;exact⟨undef,kO ⟨by simpa using hw,rfl⟩,h⟩
theorem xvn{o:Oper}{a:Act}{K K':Act->Prop}(h:∀ a,K a->K' a)(hh:mOp P ops C o K a):mOp P ops C o K' a:=by
 obtain⟨v,h1,h2⟩:=xh2 hh;exact h1.mOp (h _ h2)
theorem dC.put{o:Oper}{v:aE}{a:Act}(hs:∀ cs b,o.op≠.select cs b)(x:Option Tmp)(u:aE)(h:∀ d,x=some d->d ∉ o.looksAt ops)(hy:dC P ops C o v a):dC P ops C o v (a.put x u):=by
 unfold dC Mild Oper.quietAt at *;rw[execOp_put o hs a x u h,wanted_put o a x u h];exact hy
theorem dC.back{o:Oper}{v:aE}{a:Act}(hs:∀ cs b,o.op≠.select cs b)(x:Option Tmp)(u:aE)(h:∀ d,x=some d->d ∉ o.looksAt ops)(hy:dC P ops C o v (a.put x u)):dC P ops C o v a:=by
 unfold dC Mild Oper.quietAt at *;rw[execOp_put o hs a x u h,wanted_put o a x u h]at hy;exact hy
theorem xvo{oi oj:Oper}{v:aE}(hap:oi.apart ops oj=true)(hsi:∀ cs b,oi.op≠.select cs b)(hsj:∀ cs b,oj.op≠.select cs b){K:Act->Prop}{a:Act}
 (hy:dC P ops C oi v a) (h:mOp P ops C oj K (a.put oi.dst v)):mOp P ops C oj (fun a'=>dC P ops C oi v a'/\K (a'.put oi.dst v)) a:=by
 obtain⟨h1,h2,h3⟩:=Oper.apart_spec hap;obtain⟨u,hu,hK⟩:=xh2 h;refine(hu.back hsj oi.dst v h1).mOp ⟨hy.put hsi oj.dst u h3,?_⟩;rw[<-Act.put_comm a v u h2];exact hK
theorem xs0{Q:Act->Prop}{i:Nat}{oi:Oper}{v:aE}(hi:ops[i]? = some oi)(hsel:∀ (j:Nat) (o:Oper) cs b,ops[j]? = some o->o.op≠.select cs b)(f:Nat):
 ∀ (b:Array Bool) (a:Act),(∀ j oj,ops[j]? = some oj->j≠i->b.getD j true=false->(∀ e∈oj.after,Region.binds md e=true->e.on≠i)->oi.apart ops oj=true) ->
  i∈aK md ops b->dC P ops C oi v a->anyM P md ops C Q f (b.setIfInBounds i true) (a.put oi.dst v)->anyM P md ops C Q (f+1) b a:=by
 induction f with
 | zero=>
  intro b a _ hr hy H;refine⟨fun h=>absurd h (List.ne_nil_of_mem hr),fun j oj hj hoj=>?_⟩;by_cases e:j=i
  ·subst e;obtain rfl:oj=oi:=kF (hoj.symm.trans hi);exact hy.mOp H
  ·have:=nB hj e;rw[H.1]at this;cases this
 | succ f ih=>
  intro b a hap hr hy H;refine⟨fun h=>absurd h (List.ne_nil_of_mem hr),fun j oj hj hoj=>?_⟩;by_cases e:j=i
  ·subst e;obtain rfl:oj=oi:=kF (hoj.symm.trans hi);exact hy.mOp H
  ·obtain⟨hju,oj',hoj',hall⟩:=mD.1 hj;obtain rfl:oj'=oj:=kF (hoj'.symm.trans hoj);have hno:∀ x∈oj'.after,Region.binds md x=true->x.on≠i:=fun x hx hb h=>by
    have h1:=hall x hx hb;have h0:=(mD.1 hr).1;rw[h]at h1;rcases Nat.lt_or_ge i b.size with h' | h'
    ·simp[h']at h0 h1;rw[h0]at h1;cases h1
    ·simp[lH h']at h1
   have hq:=xvo (hap j oj' hoj e hju hno) (fun cs b=>hsel i oi cs b hi) (fun cs b=>hsel j oj' cs b hoj) hy (H.2 j oj' (nB hj e) hoj);refine xvn (fun a' h3=>ih _ a' (fun k ok hk hki hku hkn=>hap k ok hk hki ?_ hkn) (nB hr (Ne.symm e)) h3.1 ?_) hq
   ·by_cases hjk:j=k
    ·rw[<-hjk];exact hju
    ·rwa [lM true hjk]at hku
   ·rw[mP _ _ e];exact h3.2
def gH(md:Region.Mode)(ops:Array Oper):List Nat->Array Bool->Bool
 | [],b=>(aK md ops b).isEmpty
 | k :: ks,b=>(aK md ops b).contains k && Region.free md ops b k && gH md ops ks (b.setIfInBounds k true)
theorem xka{Q:Act->Prop}(hsel:Region.noSelect ops=true):∀ (ks:List Nat) (l:List Oper) (b:Array Bool) (a:Act),ks.map (fun k=>ops[k]?)=l.map some->gH md ops ks b=true->dE P ops C Q l a->anyM P md ops C Q ks.length b a
 | [],[],b,a,_,hB,h=>⟨by simpa [gH] using hB,h⟩
 | [],_ :: _,_,_,hl,_,_=>by simp at hl
 | _ :: _,[],_,_,hl,_,_=>by simp at hl
 | k :: ks,o :: l,b,a,hl,hB,h=>by
  simp only[lT,nV]at hl;simp only[gH,jQ,List.contains_iff_mem]at hB;have hm:mOp P ops C o (dE P ops C Q l) a:=h;obtain⟨v,hy,hK⟩:=xh2 hm;exact xs0 hl.1 (nJ hsel) ks.length b a (Region.free_spec hl.1 hB.1.2) hB.1.1 hy (xka hsel ks l _ _ hl.2 hB.2 hK)
theorem xlm{Q:Exit->Act->G->Prop}{i:Nat}{o:Oper}(hi:ops[i]? = some o)(hs:∀ cs b,o.op≠.select cs b)(x:Option Tmp)(u:aE)(h1:∀ d,x=some d->d ∉ o.looksAt ops)(h2:∀ d,x=some d->o.dst≠some d)
 {K:Act->Prop} {a:Act} {w:G} (hC:C w) (h:mOp P ops C o K a):wpOp P ops Q i (fun a' w'=>∃ v,a'=(a.put o.dst v).put x u/\K (a.put o.dst v)/\zb w w') (a.put x u) w:=by
 unfold wpOp;simp only[hi];rw[wanted_put o a x u h1];unfold mOp at h;by_cases hw:aL o (yielded ops a.tmps)=true
 ·rw[iP hw]at h ⊢;obtain⟨v,hv,hK⟩:=h;refine kW ?_;have hq:=hv w hC;unfold Oper.quietAt at hq;unfold Oper.wp;rw[execOp_put o hs a x u h1];generalize (execOp a.eval o).run P w=r at *;cases r with
  | ok n w'=>
   cases n<;>simp only[Oper.quietUpon]at hq<;>simp only[Oper.upon]
   case value y=>
    obtain⟨e1,e2⟩:=hq;rw[e1,e2];exact⟨v,Act.put_comm a u v h2,hK,iR _ _⟩
   case skip=>
    obtain⟨e1,e2⟩:=hq;rw[e1];exact⟨v,by rw[e2];exact Act.put_comm a u undef h2,hK,iR _ _⟩
   case enter f args=>
    obtain⟨e1,hc⟩:=hq;rw[e1];exact hc.mono fun e w'' ⟨he,hb⟩=>by subst he;exact⟨v,Act.put_comm a u v h2,hK,hb⟩
  | halt y w'=>simp only[Oper.quietUpon]at hq
 ·rw[iQ hw]at h ⊢;exact⟨undef,Act.put_comm a u undef h2,h,iR _ _⟩
def backB(md:Region.Mode)(ops:Array Oper):Bool:=(List.range ops.size).all fun j=>match ops[j]? with
 | some o=>o.after.all fun e => !Region.binds md e || decide (e.on<j)
 | none=>true
theorem xgj{b:Array Bool}(hb:backB md ops=true)(hz:b.size=ops.size)(hr:aK md ops b=[])(j:Nat):j<ops.size->b.getD j true=true:=by
 induction j using Nat.strongRecOn with
 | _ j ih=>
  intro hj;by_cases hl:b.getD j true=true
  ·exact hl
  ·exfalso
   have hmem:j∈aK md ops b:=mD.2 ⟨by simpa using hl,ops[j],kC hj,fun e he hbd=>by
    have h1:=lN.1 hb j (lV.2 hj);rw[kC hj]at h1;have h2:=kM.1 h1 e he;simp only[hbd,Bool.not_true,Bool.false_or,kN]at h2;have h3:=ih e.on h2 (by omega);simp only[Array.getD_eq_getD_getElem?]at h3 ⊢;rw[kC (by omega)]at h3 ⊢;exact h3⟩
   rw[hr]at hmem;cases hmem
def varyB(md:Region.Mode)(ops:Array Oper)(m s ke d e:Nat)(ty:aH):Bool:=
 Region.noSelect ops && backB md ops && decide (m≠s) && decide (ke≠m) && decide (ke≠s) && decide (d≠e) &&
 (match ops[m]? with
  | some o=>(match o.op with | .alloc t=>t==ty | _=>false) && o.dst==some d && o.guard.isNone
  | none=>false) &&
 (match ops[s]? with
  | some o=>(match o.op with | .store t (.tmp x) (.tmp y)=>t==ty && x==d && y==e | _=>false) && o.dst.isNone && o.guard.isNone &&
   o.after.any (fun x=>Region.binds md x && x.on==m) && o.after.any (fun x=>Region.binds md x && x.on==ke)
  | none=>false) &&
 ((List.range ops.size).all fun j=>match ops[j]? with
  | some o=>(j==m || j==s || (!(o.looksAt ops).contains d && o.dst != some d)) && (j==ke || o.dst != some e)
  | none=>true)
structure VaryOk (md:Region.Mode) (ops:Array Oper) (m s ke d e:Nat) (ty:aH):Prop where
 sel:Region.noSelect ops=true
 back:backB md ops=true
 ms:m≠s
 km:ke≠m
 kss:ke≠s
 de:d≠e
 om:∃ o,ops[m]? = some o/\o.op=.alloc ty/\o.dst=some d/\o.guard=none
 os:∃ o,ops[s]? = some o/\o.op=.store ty (.tmp d) (.tmp e)/\o.dst=none/\o.guard=none/\(∃ x∈o.after,Region.binds md x=true/\x.on=m)/\(∃ x∈o.after,Region.binds md x=true/\x.on=ke)
 off:∀ j o,ops[j]? = some o->j≠m->j≠s->d ∉ o.looksAt ops/\o.dst≠some d
 only:∀ j o,ops[j]? = some o->j≠ke->o.dst≠some e
theorem xz8{md:Region.Mode}{ops:Array Oper}{m s ke d e:Nat}{ty:aH}(h:varyB md ops m s ke d e ty=true):VaryOk md ops m s ke d e ty:=by
 simp only[varyB,jQ,kN]at h;obtain⟨⟨⟨⟨⟨⟨⟨⟨h1,h2⟩,h3⟩,h4⟩,h5⟩,h6⟩,h7⟩,h8⟩,h9⟩:=h;have hall:∀ j o,ops[j]? = some o->(j=m\/j=s\/(d ∉ o.looksAt ops/\o.dst≠some d))/\(j=ke\/o.dst≠some e):=by
  intro j o hj;have:=lN.1 h9 j (lV.2 (jW.1 hj).1);rw[hj]at this;simpa [or_assoc] using this
 refine⟨h1,h2,h3,h4,h5,h6,?_,?_,fun j o hj hm hs=>((hall j o hj).1.resolve_left hm).resolve_left hs,fun j o hj hk=>(hall j o hj).2.resolve_left hk⟩
 ·cases ho:ops[m]? with
  | none=>rw[ho]at h7;cases h7
  | some o=>
   rw[ho]at h7;simp only[jQ,lL,oK]at h7;refine⟨o,rfl,?_,h7.1.2,h7.2⟩;have h10:=h7.1.1;split at h10
   ·rename_i t ht;rw[ht,lL.1 h10]
   ·cases h10
 ·cases ho:ops[s]? with
  | none=>rw[ho]at h8;cases h8
  | some o=>
   rw[ho]at h8;simp only[jQ,oK]at h8;obtain⟨⟨⟨⟨h10,h11⟩,h12⟩,h13⟩,h14⟩:=h8;refine⟨o,rfl,?_,h11,h12,?_,?_⟩
   ·split at h10
    ·rename_i t x y ht
     simp only[jQ,lL]at h10;rw[ht,h10.1.1,h10.1.2,h10.2]
    ·cases h10
   ·obtain⟨x,hx,hb⟩:=Array.any_eq_true'.1 h13;simp only[jQ,lL]at hb;exact⟨x,hx,hb.1,hb.2⟩
   ·obtain⟨x,hx,hb⟩:=Array.any_eq_true'.1 h14;simp only[jQ,lL]at hb;exact⟨x,hx,hb.1,hb.2⟩
theorem xsd{b:Array Bool}{i:Nat}(h:b.getD i true=false):b.getD i false=false:=by
 rcases Nat.lt_or_ge i b.size with h' | h'
 ·simp[h']at h ⊢;exact h
 ·simp[lH h']at h
theorem xjl(n i:Nat)(h:i<n):(Array.replicate n false).getD i true=false:=by
 rw[Array.getD_eq_getD_getElem?,Array.getElem?_replicate,iP h];rfl
theorem xi4{b:Array Bool}{i:Nat}(h:b.getD i false=true):b.getD i true=true:=by
 rcases Nat.lt_or_ge i b.size with h' | h'
 ·simp[h']at h ⊢;exact h
 ·simp[lH h']at h
theorem xbb{b:Array Bool}{i j:Nat}(h:b.getD j true=true):(b.setIfInBounds i true).getD j true=true:=by
 by_cases e:i=j
 ·subst e;rcases Nat.lt_or_ge i b.size with h' | h'
  ·simp[h']
  ·simp[lH h']
 ·rw[lM true e];exact h
section
variable {P:aI} {md:Region.Mode} {ops:Array Oper} {m s ke d e:Nat} {ty:aH} {Z:Array aE} {Q:Exit->Act->G->Prop} {W:G}
def ptr(p:Nat):aE:=aC (some ⟨p,0,none⟩)
def Fits(P:aI)(ty:aH)(Z cs:Array aE):Prop:=(P.info? ty).map (·.size)=some cs.size/\Z.size=cs.size/\cs.all (·.oneCell')=true
def Ends(P:aI)(d e:Nat)(ty:aH)(Z:Array aE)(Q:Exit->Act->G->Prop)(W:G)(a:Act):Prop:=
 ∃ cs,a.eval (.tmp e)=I cs/\Fits P ty Z cs/\∀ p w',W.heap.size<=p->zb W w'->w'.heap[p]? = some (Y cs ty (0,0))->Q .normal (a.put (some d) (ptr p)) w'
theorem xog(H:VaryOk md ops m s ke d e ty){C:G->Prop}(f:Nat):∀ (b:Array Bool) (a:Act),anyM P md ops C (Ends P d e ty Z Q W) f b a->b.getD ke true=true->∃ cs,a.eval (.tmp e)=I cs/\Fits P ty Z cs:=by
 induction f with
 | zero=>intro b a h _;obtain⟨cs,h1,h2,-⟩:=h.2;exact⟨cs,h1,h2⟩
 | succ f ih=>
  intro b a h hk;by_cases hr:aK md ops b=[]
  ·obtain⟨cs,h1,h2,-⟩:=h.1 hr;exact⟨cs,h1,h2⟩
  ·obtain⟨i,hi⟩:=List.exists_mem_of_ne_nil _ hr;obtain⟨hu,o,ho,-⟩:=mD.1 hi;have hik:i≠ke:=fun x=>by rw[x,hk]at hu;cases hu
   obtain⟨v,-,hK⟩:=xh2 (h.2 i o hi ho);obtain⟨cs,h1,h2⟩:=ih _ _ hK (xbb hk);refine⟨cs,?_,h2⟩;rw[<-h1];exact(Act.eval_put fun x hx hxe=>H.only i o ho hik (by rw[hx];injection hxe with hxe;rw[hxe])).symm
theorem simD(H:VaryOk md ops m s ke d e ty)(p:Nat)(cs:Array aE)(hp:W.heap.size<=p)(F:Nat):∀ (b:Array Bool) (a:Act) (w:G),anyM P md ops (fun w'=>zb W w') (Ends P d e ty Z Q W) F b a ->
 b.getD m true=true->b.getD s true=true->b.getD ke true=true->a.eval (.tmp e)=I cs->zb W w->w.heap[p]? = some (Y cs ty (0,0))->wpAny P md ops Q F b (a.put (some d) (ptr p)) w:=by
 have fin:∀ (a:Act) (w:G),Ends P d e ty Z Q W a->a.eval (.tmp e)=I cs->zb W w->w.heap[p]? = some (Y cs ty (0,0))->Q .normal (a.put (some d) (ptr p)) w:=by
  rintro a w ⟨cs',h1,-,h3⟩ he hb hg;obtain rfl:cs'=cs:=by rw[he]at h1;injection h1 with h1;exact h1.symm
  exact h3 p w hp hb hg
 induction F with
 | zero=>intro b a w h _ _ _ he hb hg;exact⟨h.1,fin a w h.2 he hb hg⟩
 | succ F ih=>
  intro b a w h hm hs hk he hb hg;refine⟨fun h0=>fin a w (h.1 h0) he hb hg,fun i hi=>?_⟩;obtain⟨hu,o,ho,-⟩:=mD.1 hi;have him:i≠m:=fun x=>by rw[x,hm]at hu;cases hu
  have his:i≠s:=fun x=>by rw[x,hs]at hu;cases hu
  have hik:i≠ke:=fun x=>by rw[x,hk]at hu;cases hu
  have ho2:=H.off i o ho him his;refine wpOp_mono ?_ (xlm ho (fun cs b=>nJ H.sel i o cs b ho) (some d) (ptr p) (fun x hx=>by injection hx with hx;rw[<-hx];exact ho2.1) (fun x hx=>by injection hx with hx;rw[<-hx];exact ho2.2) hb (h.2 i o hi ho));rintro a' w' ⟨v,rfl,hK,hbw⟩;refine ih _ _ _ hK (xbb hm) (xbb hs) (xbb hk) ?_ (hb.trans (hbw.mono hb.size)) ((hbw.block p (bI hg)).trans hg);rw[<-he];exact Act.eval_put fun x hx hxe=>H.only i o ho hik (by rw[hx];injection hxe with hxe;rw[hxe])
theorem simZ(H:VaryOk md ops m s ke d e ty)(p:Nat)(hp:W.heap.size<=p)(f:Nat):∀ (b:Array Bool) (a:Act) (w:G),anyM P md ops (fun w'=>zb W w') (Ends P d e ty Z Q W) f (b.setIfInBounds s true) a ->
 b.getD m true=true->b.getD s true=false->b.size=ops.size->d<a.tmps.size->zb W w->w.heap[p]? = some (Y Z ty (0,0))->wpAny P md ops Q (f+1) b (a.put (some d) (ptr p)) w:=by
 obtain⟨os,hos,hop,hdst,hgd,hwm,hwk⟩:=H.os;have hsz:s<ops.size:=(jW.1 hos).1;induction f with
 | zero=>
  intro b a w h hm hs hbz hd hb hg;refine⟨fun h0=>absurd (xgj H.back hbz h0 s hsz) (by rw[hs];decide),fun i hi=>?_⟩;by_cases e1:i=s
  ·subst e1;obtain⟨-,o,ho,hall⟩:=mD.1 hi;obtain rfl:o=os:=kF (ho.symm.trans hos);obtain⟨x,hx,hxb,hxk⟩:=hwk;have hkl:=xi4 (hxk ▸ hall x hx hxb);obtain⟨cs,hcs,hf⟩:=xog H 0 _ _ h (xbb hkl);unfold wpOp;simp only[hos];rw[iP (by unfold aL;rw[hgd])];refine kW (wp_store_row ty _ _ hop p cs (oV a d _ hd) ((nI a d e _ H.de).trans hcs) ty Z hg hf.1 hf.2.1 hf.2.2 ?_);rw[hdst];exact simD H p cs hp 0 _ _ _ h (xbb hm) (by simp[hbz,hsz]) (xbb hkl) hcs (hb.trans (below_setRow _ _ _ hp)) (jD _ _ _ _ _ _ hg)
  ·have:=nB hi e1;rw[h.1]at this;cases this
 | succ f ih=>
  intro b a w h hm hs hbz hd hb hg;refine⟨fun h0=>absurd (xgj H.back hbz h0 s hsz) (by rw[hs];decide),fun i hi=>?_⟩;by_cases e1:i=s
  ·subst e1;obtain⟨-,o,ho,hall⟩:=mD.1 hi;obtain rfl:o=os:=kF (ho.symm.trans hos);obtain⟨x,hx,hxb,hxk⟩:=hwk;have hkl:=xi4 (hxk ▸ hall x hx hxb);obtain⟨cs,hcs,hf⟩:=xog H (f+1) _ _ h (xbb hkl);unfold wpOp;simp only[hos];rw[iP (by unfold aL;rw[hgd])];refine kW (wp_store_row ty _ _ hop p cs (oV a d _ hd) ((nI a d e _ H.de).trans hcs) ty Z hg hf.1 hf.2.1 hf.2.2 ?_);rw[hdst];exact simD H p cs hp (f+1) _ _ _ h (xbb hm) (by simp[hbz,hsz]) (xbb hkl) hcs (hb.trans (below_setRow _ _ _ hp)) (jD _ _ _ _ _ _ hg)
  ·obtain⟨hu,o,ho,-⟩:=mD.1 hi;have him:i≠m:=fun x=>by rw[x,hm]at hu;cases hu
   have ho2:=H.off i o ho him e1;refine wpOp_mono ?_ (xlm ho (fun cs b=>nJ H.sel i o cs b ho) (some d) (ptr p) (fun x hx=>by injection hx with hx;rw[<-hx];exact ho2.1) (fun x hx=>by injection hx with hx;rw[<-hx];exact ho2.2) hb (h.2 i o (nB hi e1) ho));rintro a' w' ⟨v,rfl,hK,hbw⟩;refine ih _ _ _ ?_ (xbb hm) (by rw[lM true e1];exact hs) (by simpa using hbz) (by rw[Act.size_put];exact hd) (hb.trans (hbw.mono hb.size)) ((hbw.block p (bI hg)).trans hg);rw[mP _ _ e1];exact hK
theorem sim0(H:VaryOk md ops m s ke d e ty)(HA:∀ (ρ : Operand->aE) (o:Oper) (w:G),o.op=.alloc ty->(execOp ρ o).run P w=.ok (.value (ptr w.heap.size)) (w.alloc (Y Z ty)))(f:Nat):∀ (b:Array Bool) (a:Act) (w:G),
 anyM P md ops (fun w'=>zb W w') (Ends P d e ty Z Q W) f ((b.setIfInBounds m true).setIfInBounds s true) a ->
 b.getD m true=false->b.getD s true=false->b.size=ops.size->d<a.tmps.size->zb W w->wpAny P md ops Q (f+2) b a w:=by
 obtain⟨om,hom,hop,hdst,hgd⟩:=H.om;have hmz:m<ops.size:=(jW.1 hom).1;induction f with
 | zero=>
  intro b a w h hm hs hbz hd hb;refine⟨fun h0=>absurd (xgj H.back hbz h0 m hmz) (by rw[hm];decide),fun i hi=>?_⟩;by_cases e1:i=m
  ·subst e1;unfold wpOp;simp only[hom];rw[iP (by unfold aL;rw[hgd])];refine kW ?_;unfold Oper.wp;rw[HA _ om w hop];simp only[Oper.upon,hdst];exact simZ H w.heap.size hb.size 0 _ _ _ h (by simp[hbz,hmz]) (by rw[lM true H.ms];exact hs) (by simpa using hbz) hd (hb.alloc hb.size _) (cM _ _ _ rfl)
  ·by_cases e2:i=s
   ·subst e2;obtain⟨os,hos,-,-,-,⟨x,hx,hxb,hxm⟩,-⟩:=H.os;obtain⟨-,o,ho,hall⟩:=mD.1 hi;obtain rfl:o=os:=kF (ho.symm.trans hos);have h1:=hall x hx hxb;rw[hxm,xsd hm]at h1;cases h1
   ·have:=nB (nB hi e1) e2;rw[h.1]at this;cases this
 | succ f ih=>
  intro b a w h hm hs hbz hd hb;refine⟨fun h0=>absurd (xgj H.back hbz h0 m hmz) (by rw[hm];decide),fun i hi=>?_⟩;by_cases e1:i=m
  ·subst e1;unfold wpOp;simp only[hom];rw[iP (by unfold aL;rw[hgd])];refine kW ?_;unfold Oper.wp;rw[HA _ om w hop];simp only[Oper.upon,hdst];exact simZ H w.heap.size hb.size (f+1) _ _ _ h (by simp[hbz,hmz]) (by rw[lM true H.ms];exact hs) (by simpa using hbz) hd (hb.alloc hb.size _) (cM _ _ _ rfl)
  ·by_cases e2:i=s
   ·subst e2;obtain⟨os,hos,-,-,-,⟨x,hx,hxb,hxm⟩,-⟩:=H.os;obtain⟨-,o,ho,hall⟩:=mD.1 hi;obtain rfl:o=os:=kF (ho.symm.trans hos);have h1:=hall x hx hxb;rw[hxm,xsd hm]at h1;cases h1
   ·obtain⟨hu,o,ho,-⟩:=mD.1 hi;refine wpOp_mono ?_ (xlm (a:=a) ho (fun cs b=>nJ H.sel i o cs b ho) none undef (fun x hx=>by cases hx) (fun x hx=>by cases hx) hb (h.2 i o (nB (nB hi e1) e2) ho));rintro a' w' ⟨v,rfl,hK,hbw⟩;refine ih _ _ _ ?_ (by rw[lM true e1];exact hm) (by rw[lM true e2];exact hs) (by simpa using hbz) (by rw[Act.size_put,Act.size_put];exact hd) (hb.trans (hbw.mono hb.size));rw[mP _ _ e1,mP _ _ e2];exact hK
end
theorem xxp{P:aI}{id:Nat}{Q:Exit->Act->G->Prop}{a:Act}{w:G}{l:List Oper}(m s ke d e:Nat)(ty:aH)(Z:Array aE)(ks:List Nat)(l':List Oper)(hm:P.follows .mixedOrders=true)
 (hB:varyB .any l.toArray m s ke d e ty=true) (hk:ks.map (fun k=>l.toArray[k]?)=l'.map some) (hx:gH .any l.toArray ks (((Array.replicate l.toArray.size false).setIfInBounds m true).setIfInBounds s true)=true) (hn:ks.length+2=l.toArray.size)
 (HA:∀ (ρ : Operand->aE) (o:Oper) (w:G),o.op=.alloc ty->(execOp ρ o).run P w=.ok (.value (ptr w.heap.size)) (w.alloc (Y Z ty))) (hd:d<a.tmps.size)
 (h:∀ ops:Array Oper,U (l.toArray=ops)->dE P ops (fun w'=>zb w w') (Ends P d e ty Z Q w) l' a):(Code.region id l.toArray true).wp P Q a w:=by
 have H:=xz8 hB;have hms:m<l.toArray.size:=by obtain⟨o,ho,-⟩:=H.om;exact(jW.1 ho).1
 have hss:s<l.toArray.size:=by obtain⟨o,ho,-⟩:=H.os;exact(jW.1 ho).1
 have h1:=xka (md:=.any) H.sel ks l' _ a hk hx (h _ ⟨rfl⟩);have h2:=sim0 H HA ks.length (Array.replicate l.toArray.size false) a w.drew h1 (xjl _ _ hms) (xjl _ _ hss) (by simp) hd (iR _ _).drew;rw[hn]at h2;exact oC hm h2
theorem xxr{P:aI}{id:Nat}{Q:Exit->Act->G->Prop}{a:Act}{w:G}{l:List Oper}(m s ke d e:Nat)(ty:aH)(Z:Array aE)(hm:P.follows .mixedOrders=true)
 (hB:varyB .any l.toArray m s ke d e ty=true) (hk:(((List.range l.length).eraseIdx s).eraseIdx m).map (fun k=>l.toArray[k]?)=((l.eraseIdx s).eraseIdx m).map some)
 (hx:gH .any l.toArray (((List.range l.length).eraseIdx s).eraseIdx m) (((Array.replicate l.toArray.size false).setIfInBounds m true).setIfInBounds s true)=true) (hn:(((List.range l.length).eraseIdx s).eraseIdx m).length+2=l.toArray.size)
 (HA:∀ (ρ : Operand->aE) (o:Oper) (w:G),o.op=.alloc ty->(execOp ρ o).run P w=.ok (.value (ptr w.heap.size)) (w.alloc (Y Z ty))) (hd:d<a.tmps.size)
 (h:∀ ops:Array Oper,U (l.toArray=ops)->dE P ops (fun w'=>zb w w') (Ends P d e ty Z Q w) ((l.eraseIdx s).eraseIdx m) a):(Code.region id l.toArray true).wp P Q a w:=
 xxp m s ke d e ty Z _ _ hm hB hk hx hn HA hd h
theorem cX{P:aI}{ops:Array Oper}{C:G->Prop}{Q:Act->Prop}{a:Act}{o:Oper}{rest:List Oper}(hw:aL o (yielded ops a.tmps)=true)
 (h:∀ K:Act->Prop,(∀ a,dE P ops C Q rest a->K a)->∃ v,(∀ w,C w->o.quietAt P a (fun w'=>zb w w') w v)/\K (a.put o.dst v)):dE P ops C Q (o :: rest) a:=by
 unfold dE;rw[iP hw];exact h _ fun _ h=>h
theorem xdq{P:aI}{ops:Array Oper}{C:G->Prop}{Q:Act->Prop}{a:Act}{o:Oper}{rest:List Oper}(hw:aL o (yielded ops a.tmps)=true)(v:aE)
 (hv:∀ w,C w->(execOp a.eval o).run P w=.ok (.value v) w) (h:dE P ops C Q rest (a.put o.dst v)):dE P ops C Q (o :: rest) a:=
 cX hw fun K hK=>⟨v,fun w hC=>by unfold Oper.quietAt;rw[hv w hC];exact⟨rfl,rfl⟩,hK _ h⟩
theorem xcd{P:aI}{ops:Array Oper}{C:G->Prop}{Q:Act->Prop}{rest:List Oper}{o:Oper}{a:Act}(hw:aL o (yielded ops a.tmps)=true)(ty:aH)(x:Operand)(ho:o.op=.load ty x)
 (g:Nat) (hx:a.eval x=aC (some ⟨g,0,none⟩)) (t:aH) (cs:Array aE) (d:TypeDesc) (hS:∀ w,C w->w.heap[g]? = some (Y cs t (0,0)))
 (hu:P.underlying ty=some d) (hd:(match d with | .struct _ | .array _ _=>true | _=>false)=true) (hi:(P.info? ty).map (·.size)=some cs.size)
 (h:dE P ops C Q rest (a.put o.dst (I cs))):dE P ops C Q (o :: rest) a:=
 xdq hw (I cs) (fun w hC=>by
  unfold execOp;simp only[ho,hx,Instr.loadAt,Instr.sureAddr,lQ,mR,kQ,nM w g t ty cs (0,0) d (hS w hC) hu hd hi]) h
end
end vary
namespace varyn
open arr mem vary
structure Vr where
 m:Nat
 s:Nat
 ke:Nat
 d:Nat
 e:Nat
 ty:aH
 Z:Array aE
section
variable {P:aI} {md:Region.Mode} {ops:Array Oper} {Q:Exit->Act->G->Prop} {W:G} {V:List Vr}
def cS(V:List Vr)(ps:Nat->Option Nat)(a:Act):Act:=V.foldr (fun v a=>match ps v.d with | some p=>a.put (some v.d) (ptr p) | none=>a) a
def upd(ps:Nat->Option Nat)(d p:Nat):Nat->Option Nat:=fun x=>if x=d then some p else ps x
theorem xxf(a:Act):cS V (fun _=>none) a=a:=by
 induction V with
 | nil=>rfl
 | cons v V ih=>show (match (none:Option Nat) with | some p=>(cS V (fun _=>none) a).put (some v.d) (ptr p) | none=>cS V (fun _=>none) a)=a;exact ih
theorem xxg(ps:Nat->Option Nat)(d p:Nat)(a:Act)(h:∀ v∈V,v.d≠d):cS V (upd ps d p) a=cS V ps a:=by
 induction V with
 | nil=>rfl
 | cons v V ih=>
  have e:upd ps d p v.d=ps v.d:=iQ (h v (by simp));have ih:=ih fun u hu=>h u (by simp[hu])
  show (match upd ps d p v.d with | some q=>(cS V (upd ps d p) a).put (some v.d) (ptr q) | none=>cS V (upd ps d p) a)=_;rw[e,ih];rfl
theorem xxi(ps:Nat->Option Nat)(v:Vr)(p:Nat)(a:Act)(hv:v∈V)(hn:(V.map (·.d)).Nodup)(hp:ps v.d=none):cS V (upd ps v.d p) a=(cS V ps a).put (some v.d) (ptr p):=by
 induction V with
 | nil=>cases hv
 | cons u V ih=>
  simp only[lT,List.nodup_cons]at hn;show (match upd ps v.d p u.d with | some q=>(cS V (upd ps v.d p) a).put (some u.d) (ptr q) | none=>cS V (upd ps v.d p) a)=(match ps u.d with | some q=>(cS V ps a).put (some u.d) (ptr q) | none=>cS V ps a).put (some v.d) (ptr p);by_cases e:u.d=v.d
  ·have e1:upd ps v.d p u.d=some p:=iP e;rw[e1,e,hp,xxg ps v.d p a (fun x hx hxe=>hn.1 (by rw[e,<-hxe];exact List.mem_map_of_mem hx))]
  ·have e1:upd ps v.d p u.d=ps u.d:=iQ e;have hv':v∈V:=by
    rcases kT.1 hv with h | h
    ·subst h;exact absurd rfl e
    ·exact h
   rw[e1,ih hv' hn.2];cases ps u.d with
   | none=>rfl
   | some q=>exact Act.put_comm _ _ _ (fun d hd=>by injection hd with hd;rw[<-hd];intro x;injection x with x;exact e x)
theorem xjf(ps:Nat->Option Nat)(a:Act)(x:Option Tmp)(y:aE)(h:∀ v∈V,x≠some v.d):cS V ps (a.put x y)=(cS V ps a).put x y:=by
 induction V with
 | nil=>rfl
 | cons v V ih=>
  have ih:=ih fun u hu=>h u (by simp[hu])
  show (match ps v.d with | some p=>(cS V ps (a.put x y)).put (some v.d) (ptr p) | none=>cS V ps (a.put x y))=(match ps v.d with | some p=>(cS V ps a).put (some v.d) (ptr p) | none=>cS V ps a).put x y;rw[ih];cases ps v.d with
  | none=>rfl
  | some q=>exact Act.put_comm _ _ _ (fun d hd=>by rw[<-hd];exact fun e=>h v (by simp) e.symm)
theorem xxh(ps:Nat->Option Nat)(a:Act):(cS V ps a).tmps.size=a.tmps.size:=by
 induction V with
 | nil=>rfl
 | cons v V ih=>
  show (match ps v.d with | some p=>(cS V ps a).put (some v.d) (ptr p) | none=>cS V ps a).tmps.size=_;cases ps v.d with
  | none=>exact ih
  | some q=>rw[Act.size_put];exact ih
theorem xxc(ps:Nat->Option Nat)(a:Act)(e:Nat)(h:∀ v∈V,v.d≠e):(cS V ps a).eval (.tmp e)=a.eval (.tmp e):=by
 induction V with
 | nil=>rfl
 | cons v V ih=>
  have ih:=ih fun u hu=>h u (by simp[hu])
  show (match ps v.d with | some p=>(cS V ps a).put (some v.d) (ptr p) | none=>cS V ps a).eval (.tmp e)=_;cases ps v.d with
  | none=>exact ih
  | some q=>exact(nI _ _ _ _ (h v (by simp))).trans ih
theorem xxd(ps:Nat->Option Nat)(a:Act)(v:Vr)(p:Nat)(hv:v∈V)(hn:(V.map (·.d)).Nodup)(hp:ps v.d=some p)(hd:v.d<a.tmps.size):(cS V ps a).eval (.tmp v.d)=ptr p:=by
 induction V with
 | nil=>cases hv
 | cons u V ih=>
  simp only[lT,List.nodup_cons]at hn;show (match ps u.d with | some p=>(cS V ps a).put (some u.d) (ptr p) | none=>cS V ps a).eval (.tmp v.d)=_;by_cases e:u.d=v.d
  ·rw[e,hp];exact oV _ _ _ (by rw[xxh];exact hd)
  ·have hv':v∈V:=by
    rcases kT.1 hv with h | h
    ·subst h;exact absurd rfl e
    ·exact h
   have ih:=ih hv' hn.2;cases ps u.d with
   | none=>exact ih
   | some q=>exact(nI _ _ _ _ e).trans ih
theorem xxe(o:Oper)(hs:∀ cs b,o.op≠.select cs b)(ps:Nat->Option Nat)(a:Act)(h:∀ v∈V,v.d ∉ o.looksAt ops):execOp (cS V ps a).eval o=execOp a.eval o:=by
 induction V with
 | nil=>rfl
 | cons v V ih=>
  have ih:=ih fun u hu=>h u (by simp[hu])
  show execOp (match ps v.d with | some p=>(cS V ps a).put (some v.d) (ptr p) | none=>cS V ps a).eval o=_;cases ps v.d with
  | none=>exact ih
  | some q=>exact(execOp_put o hs _ _ _ (fun d hd=>by injection hd with hd;rw[<-hd];exact h v (by simp))).trans ih
theorem xxj(o:Oper)(ps:Nat->Option Nat)(a:Act)(h:∀ v∈V,v.d ∉ o.looksAt ops):aL o (yielded ops (cS V ps a).tmps)=aL o (yielded ops a.tmps):=by
 induction V with
 | nil=>rfl
 | cons v V ih=>
  have ih:=ih fun u hu=>h u (by simp[hu])
  show aL o (yielded ops (match ps v.d with | some p=>(cS V ps a).put (some v.d) (ptr p) | none=>cS V ps a).tmps)=_;cases ps v.d with
  | none=>exact ih
  | some q=>exact(wanted_put o _ _ _ (fun d hd=>by injection hd with hd;rw[<-hd];exact h v (by simp))).trans ih
theorem xvp{C:G->Prop}{i:Nat}{o:Oper}(hi:ops[i]? = some o)(hs:∀ cs b,o.op≠.select cs b)(ps:Nat->Option Nat)(h1:∀ v∈V,v.d ∉ o.looksAt ops)(h2:∀ v∈V,o.dst≠some v.d)
 {K:Act->Prop} {a:Act} {w:G} (hC:C w) (h:mOp P ops C o K a):wpOp P ops Q i (fun a' w'=>∃ x,a'=cS V ps (a.put o.dst x)/\K (a.put o.dst x)/\zb w w') (cS V ps a) w:=by
 unfold wpOp;simp only[hi];rw[xxj o ps a h1];unfold mOp at h;by_cases hw:aL o (yielded ops a.tmps)=true
 ·rw[iP hw]at h ⊢;obtain⟨v,hv,hK⟩:=h;refine kW ?_;have hq:=hv w hC;unfold Oper.quietAt at hq;unfold Oper.wp;rw[xxe o hs ps a h1];generalize (execOp a.eval o).run P w=r at *;cases r with
  | ok n w'=>
   cases n<;>simp only[Oper.quietUpon]at hq<;>simp only[Oper.upon]
   case value y=>
    obtain⟨e1,e2⟩:=hq;rw[e1,e2];exact⟨v,(xjf ps a _ _ h2).symm,hK,iR _ _⟩
   case skip=>
    obtain⟨e1,e2⟩:=hq;rw[e1];exact⟨v,by rw[e2];exact(xjf ps a _ _ h2).symm,hK,iR _ _⟩
   case enter f args=>
    obtain⟨e1,hc⟩:=hq;rw[e1];exact hc.mono fun e w'' ⟨he,hb⟩=>by subst he;exact⟨v,(xjf ps a _ _ h2).symm,hK,hb⟩
  | halt y w'=>simp only[Oper.quietUpon]at hq
 ·rw[iQ hw]at h ⊢;exact⟨undef,(xjf ps a _ _ h2).symm,h,iR _ _⟩
def varyNB(md:Region.Mode)(ops:Array Oper)(V:List Vr):Bool:=
 Region.noSelect ops && backB md ops && decide ((V.map (·.d)).Nodup) && decide ((V.map (·.m)).Nodup) && decide ((V.map (·.s)).Nodup) &&
 (V.all fun v=>V.all fun u=>decide (v.m≠u.s) && decide (v.ke≠u.m) && decide (v.ke≠u.s) && decide (v.d≠u.e)) &&
 (V.all fun v=>match ops[v.m]? with
  | some o=>(match o.op with | .alloc t=>t==v.ty | _=>false) && o.dst==some v.d && o.guard.isNone
  | none=>false) &&
 (V.all fun v=>match ops[v.s]? with
  | some o=>(match o.op with | .store t (.tmp x) (.tmp y)=>t==v.ty && x==v.d && y==v.e | _=>false) && o.dst.isNone && o.guard.isNone &&
   o.after.any (fun x=>Region.binds md x && x.on==v.m) && o.after.any (fun x=>Region.binds md x && x.on==v.ke)
  | none=>false) &&
 ((List.range ops.size).all fun j=>match ops[j]? with
  | some o=>((V.any fun v=>j==v.m || j==v.s) || (V.all fun v => !(o.looksAt ops).contains v.d && o.dst != some v.d)) && (V.all fun v=>j==v.ke || o.dst != some v.e)
  | none=>true)
structure VN (md:Region.Mode) (ops:Array Oper) (V:List Vr):Prop where
 sel:Region.noSelect ops=true
 back:backB md ops=true
 nd:(V.map (·.d)).Nodup
 nm:(V.map (·.m)).Nodup
 ns:(V.map (·.s)).Nodup
 ms:∀ v∈V,∀ u∈V,v.m≠u.s/\v.ke≠u.m/\v.ke≠u.s/\v.d≠u.e
 om:∀ v∈V,∃ o,ops[v.m]? = some o/\o.op=.alloc v.ty/\o.dst=some v.d/\o.guard=none
 os:∀ v∈V,∃ o,ops[v.s]? = some o/\o.op=.store v.ty (.tmp v.d) (.tmp v.e)/\o.dst=none/\o.guard=none/\(∃ x∈o.after,Region.binds md x=true/\x.on=v.m)/\(∃ x∈o.after,Region.binds md x=true/\x.on=v.ke)
 off:∀ j o,ops[j]? = some o->(∀ v∈V,j≠v.m/\j≠v.s)->∀ v∈V,v.d ∉ o.looksAt ops/\o.dst≠some v.d
 only:∀ j o,ops[j]? = some o->∀ v∈V,j≠v.ke->o.dst≠some v.e
theorem vn_of(h:varyNB md ops V=true):VN md ops V:=by
 simp only[varyNB,jQ,kN]at h;obtain⟨⟨⟨⟨⟨⟨⟨⟨h1,h2⟩,h3⟩,h4⟩,h5⟩,h6⟩,h7⟩,h8⟩,h9⟩:=h;have hall:∀ j o,ops[j]? = some o->((∃ v∈V,j=v.m\/j=v.s)\/(∀ v∈V,v.d ∉ o.looksAt ops/\o.dst≠some v.d))/\(∀ v∈V,j=v.ke\/o.dst≠some v.e):=by
  intro j o hj;have:=lN.1 h9 j (lV.2 (jW.1 hj).1);rw[hj]at this;simpa using this
 refine⟨h1,h2,h3,h4,h5,fun v hv u hu=>?_,fun v hv=>?_,fun v hv=>?_,fun j o hj hm v hv=>?_,fun j o hj v hv hk=>((hall j o hj).2 v hv).resolve_left hk⟩
 ·have:=lN.1 (lN.1 h6 v hv) u hu;simp only[jQ,kN]at this;exact⟨this.1.1.1,this.1.1.2,this.1.2,this.2⟩
 ·have h7:=lN.1 h7 v hv;cases ho:ops[v.m]? with
  | none=>rw[ho]at h7;cases h7
  | some o=>
   rw[ho]at h7;simp only[jQ,lL,oK]at h7;refine⟨o,rfl,?_,h7.1.2,h7.2⟩;have h10:=h7.1.1;split at h10
   ·rename_i t ht;rw[ht,lL.1 h10]
   ·cases h10
 ·have h8:=lN.1 h8 v hv;cases ho:ops[v.s]? with
  | none=>rw[ho]at h8;cases h8
  | some o=>
   rw[ho]at h8;simp only[jQ,oK]at h8;obtain⟨⟨⟨⟨h10,h11⟩,h12⟩,h13⟩,h14⟩:=h8;refine⟨o,rfl,?_,h11,h12,?_,?_⟩
   ·split at h10
    ·rename_i t x y ht
     simp only[jQ,lL]at h10;rw[ht,h10.1.1,h10.1.2,h10.2]
    ·cases h10
   ·obtain⟨x,hx,hb⟩:=Array.any_eq_true'.1 h13;simp only[jQ,lL]at hb;exact⟨x,hx,hb.1,hb.2⟩
   ·obtain⟨x,hx,hb⟩:=Array.any_eq_true'.1 h14;simp only[jQ,lL]at hb;exact⟨x,hx,hb.1,hb.2⟩
 ·rcases (hall j o hj).1 with ⟨u,hu,h | h⟩ | h
  ·exact absurd h (hm u hu).1
  ·exact absurd h (hm u hu).2
  ·exact h v hv
theorem xgo{k:Vr->Nat}(h:(V.map k).Nodup):∀ u∈V,∀ v∈V,k u=k v->u=v:=by
 induction V with
 | nil=>intro u hu;cases hu
 | cons x V ih=>
  simp only[lT,List.nodup_cons]at h;intro u hu v hv e;rcases kT.1 hu with rfl | hu'<;>rcases kT.1 hv with rfl | hv'
  ·rfl
  ·exact absurd (e ▸ List.mem_map_of_mem hv') h.1
  ·exact absurd (e ▸ List.mem_map_of_mem hu') h.1
  ·exact ih h.2 u hu' v hv' e
def marks(V:List Vr)(b:Array Bool):Array Bool:=V.foldr (fun v b=>(b.setIfInBounds v.m true).setIfInBounds v.s true) b
theorem xrc(b:Array Bool)(i j:Nat):(b.setIfInBounds i true).setIfInBounds j true=(b.setIfInBounds j true).setIfInBounds i true:=by
 by_cases e:i=j
 ·subst e;rfl
 ·exact mP _ _ e
theorem xlo(b:Array Bool)(i:Nat):marks V (b.setIfInBounds i true)=(marks V b).setIfInBounds i true:=by
 induction V with
 | nil=>rfl
 | cons v V ih=>
  show ((marks V (b.setIfInBounds i true)).setIfInBounds v.m true).setIfInBounds v.s true=(((marks V b).setIfInBounds v.m true).setIfInBounds v.s true).setIfInBounds i true;rw[ih,xrc _ i v.m,xrc _ i v.s]
theorem xpd{b:Array Bool}{j:Nat}(h:b.getD j true=true):(marks V b).getD j true=true:=by
 induction V with
 | nil=>exact h
 | cons v V ih=>exact xbb (xbb ih)
theorem xhl(b:Array Bool)(i:Nat):(b.setIfInBounds i true).getD i true=true:=by
 rcases Nat.lt_or_ge i b.size with h' | h'
 ·simp[h']
 ·simp[lH h']
theorem xpc{b:Array Bool}{v:Vr}(hv:v∈V):(marks V b).getD v.m true=true/\(marks V b).getD v.s true=true:=by
 induction V with
 | nil=>cases hv
 | cons u V ih=>
  rcases kT.1 hv with rfl | hv'
  ·exact⟨xbb (xhl _ _),xhl _ _⟩
  ·exact⟨xbb (xbb (ih hv').1),xbb (xbb (ih hv').2)⟩
theorem xre{b:Array Bool}{i:Nat}(h:b.getD i true=true):b.setIfInBounds i true=b:=by
 apply Array.ext (by simp);intro j h1 h2;rw[Array.getElem_setIfInBounds];split
 ·rename_i e;subst e;simp[h2]at h;exact h.symm
 ·rfl
theorem xpe{b:Array Bool}{i:Nat}(hi:i∈aK md ops b)(h:∀ v∈V,i≠v.m/\i≠v.s):i∈aK md ops (marks V b):=by
 induction V with
 | nil=>exact hi
 | cons v V ih=>exact nB (nB (ih fun u hu=>h u (by simp[hu])) (h v (by simp)).1) (h v (by simp)).2
theorem xv6{b:Array Bool}(h:∀ j,j<ops.size->b.getD j true=true):aK md ops b=[]:=by
 apply List.eq_nil_iff_forall_not_mem.2;intro i hi;obtain⟨hu,o,ho,-⟩:=mD.1 hi;rw[h i (jW.1 ho).1]at hu;cases hu
theorem xgr{p q:Vr->Bool}(h:∀ x,q x=true->p x=true):V.countP q<=V.countP p:=List.countP_mono_left fun x _=>h x
theorem xoc{p q:Vr->Bool}(h:∀ x,q x=true->p x=true){v:Vr}(hv:v∈V)(hp:p v=true)(hq:q v=false):V.countP q+1<=V.countP p:=by
 induction V with
 | nil=>cases hv
 | cons u V ih=>
  rw[List.countP_cons,List.countP_cons];rcases kT.1 hv with rfl | hv'
  ·have:=xgr (V:=V) h;rw[hp,hq];simp;omega
  ·have:=ih hv';by_cases hqu:q u=true
   ·rw[hqu,h u hqu];simp;omega
   ·rw[iQ hqu];omega
def cnt(V:List Vr)(b:Array Bool):Nat:=V.countP (fun v => !b.getD v.m true)+V.countP (fun v => !b.getD v.s true)
theorem xgg{b:Array Bool}{i j:Nat}(h:(b.setIfInBounds i true).getD j true=false):b.getD j true=false:=by
 cases h2:b.getD j true with
 | false=>rfl
 | true=>rw[xbb h2]at h;cases h
theorem cnt_le(b:Array Bool)(i:Nat):cnt V (b.setIfInBounds i true)<=cnt V b:=
 Nat.add_le_add (xgr fun x hx=>by simp only[nT]at hx ⊢;exact xgg hx) (xgr fun x hx=>by simp only[nT]at hx ⊢;exact xgg hx)
theorem cnt_m{b:Array Bool}{v:Vr}(hv:v∈V)(h:b.getD v.m true=false):cnt V (b.setIfInBounds v.m true)+1<=cnt V b:=by
 have h1:=xoc (V:=V) (p:=fun v => !b.getD v.m true) (q:=fun u => !(b.setIfInBounds v.m true).getD u.m true) (fun x hx=>by simp only[nT]at hx ⊢;exact xgg hx) hv (by simp only[h];rfl) (by simp only[xhl];rfl);have h2:=xgr (V:=V) (p:=fun v => !b.getD v.s true) (q:=fun u => !(b.setIfInBounds v.m true).getD u.s true) (fun x hx=>by simp only[nT]at hx ⊢;exact xgg hx);unfold cnt;omega
theorem cnt_s{b:Array Bool}{v:Vr}(hv:v∈V)(h:b.getD v.s true=false):cnt V (b.setIfInBounds v.s true)+1<=cnt V b:=by
 have h1:=xoc (V:=V) (p:=fun v => !b.getD v.s true) (q:=fun u => !(b.setIfInBounds v.s true).getD u.s true) (fun x hx=>by simp only[nT]at hx ⊢;exact xgg hx) hv (by simp only[h];rfl) (by simp only[xhl];rfl);have h2:=xgr (V:=V) (p:=fun v => !b.getD v.m true) (q:=fun u => !(b.setIfInBounds v.s true).getD u.m true) (fun x hx=>by simp only[nT]at hx ⊢;exact xgg hx);unfold cnt;omega
def EndsN(P:aI)(V:List Vr)(Q:Exit->Act->G->Prop)(W:G)(a:Act):Prop:=
 (∀ v∈V,∃ cs,a.eval (.tmp v.e)=I cs/\Fits P v.ty v.Z cs) /\
 ∀ ps w',(∀ v∈V,∃ p cs,ps v.d=some p/\W.heap.size<=p/\a.eval (.tmp v.e)=I cs/\w'.heap[p]? = some (Y cs v.ty (0,0)))->(∀ u∈V,∀ v∈V,∀ p,ps u.d=some p->ps v.d=some p->u.d=v.d)->zb W w'->Q .normal (cS V ps a) w'
theorem xul(H:VN md ops V){C:G->Prop}{v:Vr}(hv:v∈V)(f:Nat):∀ (b:Array Bool) (a:Act),anyM P md ops C (EndsN P V Q W) f b a->b.getD v.ke true=true->∃ cs,a.eval (.tmp v.e)=I cs/\Fits P v.ty v.Z cs:=by
 induction f with
 | zero=>intro b a h _;exact h.2.1 v hv
 | succ f ih=>
  intro b a h hk;by_cases hr:aK md ops b=[]
  ·exact(h.1 hr).1 v hv
  ·obtain⟨i,hi⟩:=List.exists_mem_of_ne_nil _ hr;obtain⟨hu,o,ho,-⟩:=mD.1 hi;have hik:i≠v.ke:=fun x=>by rw[x,hk]at hu;cases hu
   obtain⟨x,-,hK⟩:=xh2 (h.2 i o hi ho);obtain⟨cs,h1,h2⟩:=ih _ _ hK (xbb hk);refine⟨cs,?_,h2⟩;rw[<-h1];exact(Act.eval_put fun y hy hye=>H.only i o ho v hv hik (by rw[hy];injection hye with hye;rw[hye])).symm
structure Inv (P:aI) (ops:Array Oper) (V:List Vr) (W:G) (b:Array Bool) (a:Act) (w:G) (ps:Nat->Option Nat):Prop where
 bm:∀ v∈V,(b.getD v.m true=true↔(ps v.d).isSome=true)
 bs:∀ v∈V,ps v.d=none->b.getD v.s true=false
 mem:∀ v∈V,∀ p,ps v.d=some p->W.heap.size<=p/\(b.getD v.s true=false->w.heap[p]? = some (Y v.Z v.ty (0,0)))/\(b.getD v.s true=true->b.getD v.ke true=true/\∃ cs,a.eval (.tmp v.e)=I cs/\w.heap[p]? = some (Y cs v.ty (0,0)))
 inj:∀ u∈V,∀ v∈V,∀ p,ps u.d=some p->ps v.d=some p->u.d=v.d
 bel:zb W w
 bz:b.size=ops.size
 asz:∀ v∈V,v.d<a.tmps.size
theorem Inv.there{b:Array Bool}{a:Act}{w:G}{ps:Nat->Option Nat}(Iq:Inv P ops V W b a w ps){v:Vr}(hv:v∈V){p:Nat}(hp:ps v.d=some p):p<w.heap.size:=by
 obtain⟨-,h1,h2⟩:=Iq.mem v hv p hp;cases h:b.getD v.s true with
 | false=>exact bI (h1 h)
 | true=>obtain⟨-,cs,-,h3⟩:=h2 h;exact bI h3
theorem simN(H:VN md ops V)(HA:∀ v∈V,∀ (ρ : Operand->aE) (o:Oper) (w:G),o.op=.alloc v.ty->(execOp ρ o).run P w=.ok (.value (ptr w.heap.size)) (w.alloc (Y v.Z v.ty)))(F:Nat):
 ∀ (f:Nat) (b:Array Bool) (a:Act) (w:G) (ps:Nat->Option Nat),f+cnt V b<=F->anyM P md ops (fun w'=>zb W w') (EndsN P V Q W) f (marks V b) a->Inv P ops V W b a w ps->wpAny P md ops Q F b (cS V ps a) w:=by
 have fin:∀ (f:Nat) (b:Array Bool) (a:Act) (w:G) (ps:Nat->Option Nat),aK md ops b=[]->anyM P md ops (fun w'=>zb W w') (EndsN P V Q W) f (marks V b) a->Inv P ops V W b a w ps->Q .normal (cS V ps a) w:=by
  intro f b a w ps h0 h Iq;have hl:∀ j,j<ops.size->b.getD j true=true:=xgj H.back Iq.bz h0;have hE:EndsN P V Q W a:=by
   have hr:=xv6 (md:=md) (ops:=ops) (b:=marks V b) fun j hj=>xpd (hl j hj)
   cases f with
   | zero=>exact h.2
   | succ f=>exact h.1 hr
  refine hE.2 ps w (fun v hv=>?_) Iq.inj Iq.bel;obtain⟨om,hom,-⟩:=H.om v hv;obtain⟨os,hos,-⟩:=H.os v hv;have h1:=(Iq.bm v hv).1 (hl _ (jW.1 hom).1);obtain⟨p,hp⟩:=nR.1 h1;obtain⟨h2,-,h3⟩:=Iq.mem v hv p hp;obtain⟨-,cs,h4,h5⟩:=h3 (hl _ (jW.1 hos).1);exact⟨p,cs,hp,h2,h4,h5⟩
 induction F with
 | zero=>
  intro f b a w ps hF h Iq;have hr:aK md ops b=[]:=by
   apply List.eq_nil_iff_forall_not_mem.2;intro i hi;by_cases hm:∃ v∈V,i=v.m\/i=v.s
   ·obtain⟨v,hv,hx⟩:=hm;have hu:=(mD.1 hi).1;rcases hx with rfl | rfl
    ·have:=cnt_m hv hu;omega
    ·have:=cnt_s hv hu;omega
   ·have:=xpe hi (V:=V) fun v hv=>⟨fun x=>hm ⟨v,hv,kW x⟩,fun x=>hm ⟨v,hv,kO x⟩⟩
    obtain rfl:f=0:=by omega
    rw[h.1]at this;cases this
  exact⟨hr,fin f b a w ps hr h Iq⟩
 | succ F ih=>
  intro f b a w ps hF h Iq;refine⟨fun h0=>fin f b a w ps h0 h Iq,fun i hi=>?_⟩;obtain⟨hu,o,ho,hall⟩:=mD.1 hi;by_cases hm:∃ v∈V,i=v.m
  ·obtain⟨v,hv,rfl⟩:=hm;obtain⟨om,hom,hop,hdst,hgd⟩:=H.om v hv;obtain rfl:o=om:=kF (ho.symm.trans hom);have hnone:ps v.d=none:=by
    cases hq:ps v.d with
    | none=>rfl
    | some q=>have:=(Iq.bm v hv).2 (by rw[hq];rfl);rw[hu]at this;cases this
   unfold wpOp;simp only[ho];rw[iP (by unfold aL;rw[hgd])];refine kW ?_;unfold Oper.wp;rw[HA v hv _ o w hop];simp only[Oper.upon,hdst];rw[<-xxi ps v w.heap.size a hv H.nd hnone];have hc:=cnt_m hv hu;refine ih f _ a _ _ (by omega) (by rw[xlo,xre (xpc hv).1];exact h) ?_;have hmz:v.m<b.size:=by rw[Iq.bz];exact(jW.1 ho).1
   have old:∀ u∈V,u≠v->upd ps v.d w.heap.size u.d=ps u.d:=fun u hu' huv=>iQ fun e=>huv (xgo H.nd u hu' v hv e)
   have new:upd ps v.d w.heap.size v.d=some w.heap.size:=iP rfl;refine⟨fun u hu'=>?_,fun u hu' hx=>?_,fun u hu' p hp=>?_,fun u hu' x hx p hp hq=>?_,Iq.bel.alloc Iq.bel.size _,by simpa using Iq.bz,Iq.asz⟩
   ·by_cases e:u=v
    ·subst e;rw[new];simp[hmz]
    ·rw[old u hu' e,lM true (fun x=>e (xgo H.nm u hu' v hv x.symm))];exact Iq.bm u hu'
   ·by_cases e:u=v
    ·subst e;rw[new]at hx;cases hx
    ·rw[old u hu' e]at hx;rw[lM true (H.ms v hv u hu').1];exact Iq.bs u hu' hx
   ·by_cases e:u=v
    ·subst e;rw[new]at hp;obtain rfl:=kF hp;refine⟨Iq.bel.size,fun _=>cM _ _ _ rfl,fun hx=>?_⟩;rw[lM true (H.ms u hu' u hu').1,Iq.bs u hu' hnone]at hx;cases hx
    ·rw[old u hu' e]at hp;have hlt:=Iq.there hu' hp;obtain⟨h1,h2,h3⟩:=Iq.mem u hu' p hp;refine⟨h1,fun hx=>?_,fun hx=>?_⟩
     ·rw[lM true (H.ms v hv u hu').1]at hx;rw[fF _ _ _ hlt];exact h2 hx
     ·rw[lM true (H.ms v hv u hu').1]at hx;obtain⟨h4,cs,h5,h6⟩:=h3 hx;exact⟨xbb h4,cs,h5,by rw[fF _ _ _ hlt];exact h6⟩
   ·by_cases e1:u=v<;>by_cases e2:x=v
    ·rw[e1,e2]
    ·rw[e1,new]at hp;rw[old x hx e2]at hq;have:=Iq.there hx hq;injection hp with hp
     omega
    ·rw[e2,new]at hq;rw[old u hu' e1]at hp;have:=Iq.there hu' hp;injection hq with hq
     omega
    ·rw[old u hu' e1]at hp;rw[old x hx e2]at hq;exact Iq.inj u hu' x hx p hp hq
  ·by_cases hs:∃ v∈V,i=v.s
   ·obtain⟨v,hv,rfl⟩:=hs;obtain⟨os,hos,hop,hdst,hgd,⟨xm,hxm,hbm,honm⟩,⟨xk,hxk,hbk,honk⟩⟩:=H.os v hv;obtain rfl:o=os:=kF (ho.symm.trans hos);have hml:b.getD v.m true=true:=xi4 (honm ▸ hall xm hxm hbm);have hkl:b.getD v.ke true=true:=xi4 (honk ▸ hall xk hxk hbk);obtain⟨p,hp⟩:=nR.1 ((Iq.bm v hv).1 hml);obtain⟨h1,h2,-⟩:=Iq.mem v hv p hp;obtain⟨cs,hcs,hf⟩:=xul H hv f _ _ h (xpd hkl);unfold wpOp;simp only[ho];rw[iP (by unfold aL;rw[hgd])];refine kW (wp_store_row v.ty _ _ hop p cs (xxd ps a v p hv H.nd hp (Iq.asz v hv)) ((xxc ps a v.e (fun u hu'=>(H.ms u hu' v hv).2.2.2)).trans hcs) v.ty v.Z (h2 hu) hf.1 hf.2.1 hf.2.2 ?_);rw[hdst];have hc:=cnt_s hv hu;refine ih f _ a _ _ (by omega) (by rw[xlo,xre (xpc hv).2];exact h) ?_;have hsz:v.s<b.size:=by rw[Iq.bz];exact(jW.1 ho).1
    refine⟨fun u hu'=>?_,fun u hu' hx=>?_,fun u hu' q hq=>?_,Iq.inj,Iq.bel.trans (below_setRow _ _ _ h1),by simpa using Iq.bz,Iq.asz⟩
    ·rw[lM true (fun x=>(H.ms u hu' v hv).1 x.symm)];exact Iq.bm u hu'
    ·have e:u≠v:=fun e=>by rw[e,hp]at hx;cases hx
     rw[lM true (fun x=>e (xgo H.ns u hu' v hv x.symm))];exact Iq.bs u hu' hx
    ·by_cases e:u=v
     ·subst e;rw[hp]at hq;obtain rfl:=kF hq;refine⟨h1,fun hx=>?_,fun _=>⟨xbb hkl,cs,hcs,jD _ _ _ _ _ _ (h2 hu)⟩⟩;rw[xhl]at hx;cases hx
     ·have hne:q≠p:=fun x=>e (xgo H.nd u hu' v hv (Iq.inj u hu' v hv p (x ▸ hq) hp))
      obtain⟨h3,h4,h5⟩:=Iq.mem u hu' q hq;have hsn:v.s≠u.s:=fun x=>e (xgo H.ns u hu' v hv x.symm)
      refine⟨h3,fun hx=>?_,fun hx=>?_⟩
      ·rw[lM true hsn]at hx;rw[lW _ _ _ _ hne];exact h4 hx
      ·rw[lM true hsn]at hx;obtain⟨h6,cs',h7,h8⟩:=h5 hx;exact⟨xbb h6,cs',h7,by rw[lW _ _ _ _ hne];exact h8⟩
   ·have hoff:∀ v∈V,i≠v.m/\i≠v.s:=fun v hv=>⟨fun x=>hm ⟨v,hv,x⟩,fun x=>hs ⟨v,hv,x⟩⟩
    have hrm:=xpe hi hoff;cases f with
    | zero=>rw[h.1]at hrm;cases hrm
    | succ f=>
     have ho2:=H.off i o ho hoff;refine wpOp_mono ?_ (xvp ho (fun cs b=>nJ H.sel i o cs b ho) ps (fun v hv=>(ho2 v hv).1) (fun v hv=>(ho2 v hv).2) Iq.bel (h.2 i o hrm ho));rintro a' w' ⟨x,rfl,hK,hbw⟩;have hc:=cnt_le (V:=V) b i;refine ih f _ _ _ ps (by omega) (by rw[xlo];exact hK) ?_;refine⟨fun u hu'=>?_,fun u hu' hx=>?_,fun u hu' q hq=>?_,Iq.inj,Iq.bel.trans (hbw.mono Iq.bel.size),by simpa using Iq.bz,fun u hu'=>by rw[Act.size_put];exact Iq.asz u hu'⟩
     ·rw[lM true (hoff u hu').1];exact Iq.bm u hu'
     ·rw[lM true (hoff u hu').2];exact Iq.bs u hu' hx
     ·have hlt:=Iq.there hu' hq;obtain⟨h3,h4,h5⟩:=Iq.mem u hu' q hq;refine⟨h3,fun hx=>?_,fun hx=>?_⟩
      ·rw[lM true (hoff u hu').2]at hx;exact(hbw.block _ hlt).trans (h4 hx)
      ·rw[lM true (hoff u hu').2]at hx;obtain⟨h6,cs',h7,h8⟩:=h5 hx;have hik:i≠u.ke:=fun x=>by rw[x,h6]at hu;cases hu
       refine⟨xbb h6,cs',?_,(hbw.block _ hlt).trans h8⟩;rw[<-h7];exact Act.eval_put fun y hy hye=>H.only i o ho u hu' hik (by rw[hy];injection hye with hye;rw[hye])
theorem xxq{P:aI}{id:Nat}{Q:Exit->Act->G->Prop}{a:Act}{w:G}{l:List Oper}(V:List Vr)(ks:List Nat)(l':List Oper)(hm:P.follows .mixedOrders=true)
 (hB:varyNB .any l.toArray V=true) (hk:ks.map (fun k=>l.toArray[k]?)=l'.map some) (hx:gH .any l.toArray ks (marks V (Array.replicate l.toArray.size false))=true) (hn:ks.length+(V.length+V.length)<=l.toArray.size)
 (HA:∀ v∈V,∀ (ρ : Operand->aE) (o:Oper) (w:G),o.op=.alloc v.ty->(execOp ρ o).run P w=.ok (.value (ptr w.heap.size)) (w.alloc (Y v.Z v.ty))) (hd:(V.all fun v=>decide (v.d<a.tmps.size))=true)
 (h:∀ ops:Array Oper,U (l.toArray=ops)->dE P ops (fun w'=>zb w w') (EndsN P V Q w) l' a):(Code.region id l.toArray true).wp P Q a w:=by
 have H:=vn_of hB;have h1:=xka (md:=.any) H.sel ks l' _ a hk hx (h _ ⟨rfl⟩);have hc:cnt V (Array.replicate l.toArray.size false)<=V.length+V.length:=Nat.add_le_add List.countP_le_length List.countP_le_length;have hun:∀ v∈V,(Array.replicate l.toArray.size false).getD v.m true=false/\(Array.replicate l.toArray.size false).getD v.s true=false:=fun v hv=>by
  obtain⟨om,hom,-⟩:=H.om v hv;obtain⟨os,hos,-⟩:=H.os v hv;exact⟨xjl _ _ (jW.1 hom).1,xjl _ _ (jW.1 hos).1⟩
 have h2:=simN (Q:=Q) H HA l.toArray.size ks.length (Array.replicate l.toArray.size false) a w.drew (fun _=>none) (by omega) h1
  ⟨fun v hv=>by rw[(hun v hv).1];simp,fun v hv _=>(hun v hv).2,fun v hv p hp=>(by cases hp),fun u hu v hv p hp=>(by cases hp),(iR _ _).drew,by simp,fun v hv=>lZ (lN.1 hd v hv)⟩
 rw[xxf]at h2;exact oC hm h2
end
end varyn
namespace varye
open arr mem vary varyn
theorem ends2{P:aI}{Q:Exit->Act->G->Prop}{W:G}{a:Act}{v1 v2:Vr}(c1 c2:Array aE)(h1:a.eval (.tmp v1.e)=I c1)(f1:Fits P v1.ty v1.Z c1)(h2:a.eval (.tmp v2.e)=I c2)(f2:Fits P v2.ty v2.Z c2)(n12:v1.d≠v2.d)
 (h:∀ p1 p2 w',W.heap.size<=p1->W.heap.size<=p2->p1≠p2->zb W w'->w'.heap[p1]? = some (Y c1 v1.ty (0,0))->w'.heap[p2]? = some (Y c2 v2.ty (0,0))->Q .normal ((a.put (some v2.d) (aC (some ⟨p2,0,none⟩))).put (some v1.d) (aC (some ⟨p1,0,none⟩))) w'):EndsN P [v1,v2] Q W a:=by
 refine⟨fun v hv=>?_,fun ps w' hm hi hb=>?_⟩
 ·simp only[kT,mK,or_false]at hv;rcases hv with rfl | rfl
  ·exact⟨c1,h1,f1⟩
  ·exact⟨c2,h2,f2⟩
 ·obtain⟨p1,d1,e1,l1,k1,r1⟩:=hm v1 (by simp);obtain⟨p2,d2,e2,l2,k2,r2⟩:=hm v2 (by simp);obtain rfl:d1=c1:=by rw[h1]at k1;injection k1 with k1;exact k1.symm
  obtain rfl:d2=c2:=by rw[h2]at k2;injection k2 with k2;exact k2.symm
  have e:cS [v1,v2] ps a=((a.put (some v2.d) (aC (some ⟨p2,0,none⟩))).put (some v1.d) (aC (some ⟨p1,0,none⟩))):=by
   simp only[cS,List.foldr_cons,List.foldr_nil,e1,e2];rfl
  rw[e];exact h p1 p2 w' l1 l2 (fun x=>n12 (hi v1 (by simp) v2 (by simp) p1 e1 (x ▸ e2))) hb r1 r2
theorem xed{P:aI}{id:Nat}{Q:Exit->Act->G->Prop}{a:Act}{w:G}{l:List Oper}(V:List Vr)(n:Nat)(hm:P.follows .mixedOrders=true)
 (hB:varyNB .any l.toArray V=true) (hk:(List.range n).map (fun k=>l.toArray[k]?)=(l.take n).map some) (hx:gH .any l.toArray (List.range n) (marks V (Array.replicate l.toArray.size false))=true) (hn:(List.range n).length+(V.length+V.length)<=l.toArray.size)
 (HA:∀ v∈V,∀ (ρ : Operand->aE) (o:Oper) (w:G),o.op=.alloc v.ty->(execOp ρ o).run P w=.ok (.value (ptr w.heap.size)) (w.alloc (Y v.Z v.ty))) (hd:(V.all fun v=>decide (v.d<a.tmps.size))=true)
 (h:∀ ops:Array Oper,U (l.toArray=ops)->dE P ops (fun w'=>zb w w') (EndsN P V Q w) (l.take n) a):(Code.region id l.toArray true).wp P Q a w:=
 xxq V _ _ hm hB hk hx hn HA hd h
end varye
end Go.Proofs.YtomphjajkkddkaaGreatDoor
