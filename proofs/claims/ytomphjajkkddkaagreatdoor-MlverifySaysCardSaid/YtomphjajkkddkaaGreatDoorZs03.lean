/-
  HeldA's steps with their looks in one. No program is named here. Conditions: as each theorem says. P
-/
import Derived.Test.YtomphjajkkddkaaGreatDoorZs02
import Derived.Test.YtomphjajkkddkaaGreatDoorZs01
import Derived.Test.YtomphjajkkddkaaGreatDoorProg
import Derived.StillTailTactics
import Derived.BigQuiet
import Derived.ChangeKeysEq
set_option maxRecDepth 100000
set_option maxHeartbeats 16000000
set_option linter.unusedSimpArgs false
set_option linter.unusedVariables false
open Go Go.RowKit
open Go renaming World->G,Calls->aD,Value->aE,TypeId->aH,Program->aI
open Go.Region renaming ready->aK,wanted->aL
open Go.Act renaming put->aM
open Go.Instr renaming index->aN
open Go.Value renaming int->O,agg->I,pointer->aC
open Go.IntKind renaming i64->J
open Go.Obj renaming cells->Y
open Go.Proofs.Tryz renaming prog->aO
namespace Go.Proofs.YtomphjajkkddkaaGreatDoor
namespace aR
open cV
def tk(ops:Array Oper)(b:Array Bool)(k:Nat)(o:Oper)(a:Act):Bool:=aL o (yielded ops a.tmps) && (Region.noSelect ops && (Region.free .any ops b k && (aK .any ops b).contains k))
def st(ops:Array Oper)(b:Array Bool)(k:Nat)(o:Oper)(a:Act):Bool:=aL o (yielded ops a.tmps) && (aK .any ops b == [k])
section
variable {P:aI} {ops:Array Oper} {Q:Exit->Act->G->Prop} {S:G->Prop}
theorem tk_is{b:Array Bool}{k:Nat}{o:Oper}{a:Act}(h:tk ops b k o a=true):aL o (yielded ops a.tmps)=true/\Region.noSelect ops=true/\Region.free .any ops b k=true/\(aK .any ops b).contains k=true:=by
 unfold tk at h;rw[jQ,jQ,jQ]at h;exact h
theorem fY{b:Array Bool}{k:Nat}{ks:List Nat}{o:Oper}{rest:List Oper}{a:Act}{w:G}{v:aE}(hc:tk ops b k o a=true)
 (hQ:∀ c a w,Q (.panic c) (a.put o.dst v) w->Q (.panic c) a w) (hy:∀ w,S w->(execOp a.eval o).run P w=.ok (.value v) w) (hS:S w) (h:HK P ops Q S (b.setIfInBounds k true) rest ks (a.put o.dst v) w):HK P ops Q S b (o :: rest) (k :: ks) a w:=by
 obtain⟨h1,h2,h3,h4⟩:=tk_is hc;exact xlb h1 h2 h3 h4 hQ hy hS h
theorem gP{b:Array Bool}{k:Nat}{ks:List Nat}{o:Oper}{rest:List Oper}{a:Act}{w:G}(hc:tk ops b k o a=true)
 (hQ:∀ v c a w,Q (.panic c) (a.put o.dst v) w->Q (.panic c) a w) (ty:aH) (x:Operand) (ho:o.op=.load ty x)
 (g:Nat) (hx:a.eval x=aC (some ⟨g,0,none⟩)) (t:aH) (cs:Array aE) (d:TypeDesc) (hC:∀ w,S w->w.heap[g]? = some (Y cs t (0,0)))
 (hu:P.underlying ty=some d) (hd:(match d with | .struct _ | .array _ _=>true | _=>false)=true) (hz:(P.info? ty).map (·.size)=some cs.size) (hS:S w)
 (h:HK P ops Q S (b.setIfInBounds k true) rest ks (a.put o.dst (I cs)) w):HK P ops Q S b (o :: rest) (k :: ks) a w:=by
 obtain⟨h1,h2,h3,h4⟩:=tk_is hc;exact xu0 h1 h2 h3 h4 hQ ty x ho g hx t cs d hC hu hd hz hS h
theorem hk_m{b:Array Bool}{k:Nat}{ks:List Nat}{o:Oper}{rest:List Oper}{a:Act}{w:G}(hc:tk ops b k o a=true)
 (hQ:∀ v c a w,Q (.panic c) (a.put o.dst v) w->Q (.panic c) a w) (ty:aH) (x:Operand) (ho:o.op=.load ty x)
 (g n:Nat) (hx:a.eval x=aC (some ⟨g,n,none⟩)) (cs:Array aE) (d:TypeDesc) (hC:∀ w,S w->w.rangeAt g n cs.toList)
 (hu:P.underlying ty=some d) (hd:d.isRow=true) (hz:(P.info? ty).map (·.size)=some cs.toList.length) (hS:S w)
 (h:HK P ops Q S (b.setIfInBounds k true) rest ks (a.put o.dst (I cs)) w):HK P ops Q S b (o :: rest) (k :: ks) a w:=by
 refine fY hc (hQ _) (fun w hw2=>?_) hS h;unfold execOp;simp only[ho,hx,run_loadAt_mid w g n ty cs.toList d (hC w hw2) hu hd hz,lQ,mR,kQ]
theorem hk_b{b:Array Bool}{k:Nat}{ks:List Nat}{o:Oper}{rest:List Oper}{a:Act}{w:G}(hc:tk ops b k o a=true)
 (hQ:∀ v c a w,Q (.panic c) (a.put o.dst v) w->Q (.panic c) a w) (v:aE) (hy:∀ w,(execOp a.eval o).run P w=.ok (.value v) w) (hS:S w)
 (h:HK P ops Q S (b.setIfInBounds k true) rest ks (a.put o.dst v) w):HK P ops Q S b (o :: rest) (k :: ks) a w:=fY hc (hQ _) (fun w _=>hy w) hS h
theorem hk_s{b:Array Bool}{k:Nat}{ks:List Nat}{o:Oper}{rest:List Oper}{a:Act}{w:G}(hc:st ops b k o a=true)
 (h:∀ K:Act->G->Prop,(∀ a' w',S w'->HK P ops Q S (b.setIfInBounds k true) rest ks a' w'->K a' w')->o.wp P a w K Q):HK P ops Q S b (o :: rest) (k :: ks) a w:=by
 unfold st at hc;rw[jQ,lL]at hc;exact xu1 hc.1 hc.2 h
theorem pa{α : Type}(l:List α)(i:Nat)(a : α):l.toArray.setIfInBounds i a=(l.set i a).toArray:=mV ..
theorem pb{α : Type}(x a : α)(xs:List α):(x :: xs).set 0 a=a :: xs:=rfl
theorem pc{α : Type}(x a : α)(xs:List α)(n:Nat):(x :: xs).set (n+1) a=x :: xs.set n a:=rfl
theorem fa{α β : Type}(f : α -> Option β):List.filterMap f []=[]:=rfl
end
end aR
section
open Go Go.RowKit cV aR
section
variable {P:aI} {ops:Array Oper} {Q:Exit->Act->G->Prop} {S:G->Prop} {b b':Array Bool} {k:Nat} {ks:List Nat} {o:Oper} {rest:List Oper} {a a':Act} {w:G} {v:aE}
theorem zT(hS:S w)(h:HK P ops Q S b' rest ks a' w)(hc:tk ops b k o a=true:=by rw[<-HO.o];kernel_rfl)(hQ:∀ c a w,Q (.panic c) (a.put o.dst v) w->Q (.panic c) a w:=by exact fun _ _ _ h=>h)(hy:∀ w,S w->(execOp a.eval o).run P w=.ok (.value v) w:=by intro w9 h9;go_simp;first | done | with_reducible rfl)(hb:b.setIfInBounds k true=b':=by simp only[pa,pb,pc];first | done | rfl)(ha:a.put o.dst v=a':=by simp only[aM,pa,pb,pc];first | done | rfl):HK P ops Q S b (o::rest) (k::ks) a w:=by
 subst hb ha;exact fY hc hQ hy hS h
theorem zC{p:G->Prop}(C:∀ w,S w->p w)(hS:S w)(h:HK P ops Q S b' rest ks a' w)(hc:tk ops b k o a=true:=by rw[<-HO.o];kernel_rfl)(hQ:∀ c a w,Q (.panic c) (a.put o.dst v) w->Q (.panic c) a w:=by exact fun _ _ _ h=>h)(hy:∀ w,p w->(execOp a.eval o).run P w=.ok (.value v) w:=by intro w9 hc;go_simp;first | done | with_reducible rfl)(hb:b.setIfInBounds k true=b':=by simp only[pa,pb,pc];first | done | rfl)(ha:a.put o.dst v=a':=by simp only[aM,pa,pb,pc];first | done | rfl):HK P ops Q S b (o::rest) (k::ks) a w:=by
 subst hb ha;exact fY hc hQ (fun w h=>hy w (C w h)) hS h
theorem zS(h:∀ K:Act->G->Prop,(∀ a' w',S w'->HK P ops Q S (b.setIfInBounds k true) rest ks a' w'->K a' w')->o.wp P a w K Q)(hc:st ops b k o a=true:=by rw[<-HO.o];kernel_rfl):HK P ops Q S b (o::rest) (k::ks) a w:=hk_s hc h
theorem zN(h:Q .normal a w)(hr:aK .any ops b=[]:=by rw[<-HO.o];kernel_rfl):HK P ops Q S b [] [] a w:=hk_nil hr h
end
end
namespace bJ
open Go.RowKit
open arr
def rol(x k:Nat):Nat:=x*2 ^ k%18446744073709551616 ||| x / 2 ^ (64-k)
theorem xnu(x i:Nat)(hx:x<18446744073709551616)(hi : 64<=i):x.testBit i=false:=
 Nat.testBit_lt_two_pow (iZ hx (kS (n:=2) (by decide) hi))
theorem xee(x k:Nat)(hx:x<18446744073709551616):rol x k<18446744073709551616:=
 oS (n:=64) (kB _ (by decide)) (mM (Nat.div_le_self _ _) hx)
theorem xud(x y:Nat)(hx:x<18446744073709551616)(hy:y<18446744073709551616)(h:∀ i,i<64->x.testBit i=y.testBit i):x=y:=by
 apply Nat.eq_of_testBit_eq;intro i;by_cases hi:i<64
 ·exact h i hi
 ·rw[xnu x i hx (by omega),xnu y i hy (by omega)]
theorem xbx(x y:Nat)(hx:x<18446744073709551616)(hy:y<18446744073709551616):x ^^^ y<18446744073709551616:=Nat.xor_lt_two_pow (n:=64) hx hy
theorem xj8(x y:Nat)(hx:x<18446744073709551616):x &&& y<18446744073709551616:=mM Nat.and_le_left hx
theorem xx4(x:Nat)(hx:x<18446744073709551616):rol x 0=x:=by
 unfold rol;rw[Nat.pow_zero,oA,jO hx,lI hx,Nat.or_zero]
def pc(x:Nat):Nat:=((List.range 64).map fun i=>(x.testBit i).toNat).sum
def g(a:List Nat)(i:Nat):Nat:=a.getD i 0
structure St (a:List Nat):Prop where
 len:a.length=25
 lt:∀ i,g a i<18446744073709551616
def mkS(f:Nat->Nat):List Nat:=(List.range 25).map f
theorem xcl(f:Nat->Nat):(mkS f).length=25:=by simp[mkS]
theorem xc4(f:Nat->Nat)(i:Nat)(h:i<25):g (mkS f) i=f i:=by simp[g,mkS,iO,h]
theorem xvz(f:Nat->Nat)(i:Nat)(h : 25<=i):g (mkS f) i=0:=by simp[g,mkS,iO,h]
theorem xiz(f:Nat->Nat)(h:∀ i,i<25->f i<18446744073709551616):St (mkS f):=⟨xcl f,fun i=>by
 by_cases hi:i<25
 ·rw[xc4 f i hi];exact h i hi
 ·rw[xvz f i (by omega)];decide⟩
theorem xhp{a b:List Nat}(ha:a.length=25)(hb:b.length=25)(h:∀ i,i<25->g a i=g b i):a=b:=by
 apply List.ext_getElem (ha.trans hb.symm);intro i h1 h2;have:=h i (by omega);simpa [g,iO,iT h1,iT h2] using this
theorem xcu{a:List Nat}(ha:a.length=25):mkS (g a)=a:=xhp (xcl _) ha fun i hi=>xc4 _ i hi
def kc(a:List Nat)(x:Nat):Nat:=g a x ^^^ g a (x+5) ^^^ g a (x+10) ^^^ g a (x+15) ^^^ g a (x+20)
theorem xb3{a:List Nat}(h:St a)(x:Nat):kc a x<18446744073709551616:=xbx _ _ (xbx _ _ (xbx _ _ (xbx _ _ (h.lt _) (h.lt _)) (h.lt _)) (h.lt _)) (h.lt _)
def kd(a:List Nat)(x:Nat):Nat:=kc a ((x+4)%5) ^^^ rol (kc a ((x+1)%5)) 1
theorem xex{a:List Nat}(h:St a)(x:Nat):kd a x<18446744073709551616:=xbx _ _ (xb3 h _) (xee _ _ (xb3 h _))
def cO(a:List Nat):List Nat:=mkS fun i=>g a i ^^^ kd a i
def src(j:Nat):Nat:=(3*(j / 5)+j%5)%5+5*(j%5)
def dst(i:Nat):Nat:=i / 5+5*((2*(i%5)+3*(i / 5))%5)
theorem xmx(j:Nat)(h:j<25):src j<25:=by unfold src;omega
theorem dst_lt(i:Nat)(h:i<25):dst i<25:=by unfold dst;omega
theorem xy6:∀ i:Fin 25,src (dst i.val)=i.val:=by decide
theorem xkv:∀ i:Fin 25,dst (src i.val)=i.val:=by decide
def cW(t:Nat->Nat)(a:List Nat):List Nat:=mkS fun j=>rol (g a (src j)) (t (src j)%64)
def eS(x:Nat):Nat:=18446744073709551615-x
def dH(a:List Nat):List Nat:=mkS fun i=>g a i ^^^ (eS (g a ((i%5+1)%5+5*(i / 5))) &&& g a ((i%5+2)%5+5*(i / 5)))
def gU(c:Nat)(a:List Nat):List Nat:=mkS fun i=>if i=0 then g a 0 ^^^ c else g a i
def cR(t:Nat->Nat)(c:Nat)(a:List Nat):List Nat:=gU c (dH (cW t (cO a)))
def fC(t r:Nat->Nat)(a:List Nat):Nat->List Nat
 | 0=>a
 | k+1=>cR t (r k) (fC t r a k)
theorem xb4{a:List Nat}(h:St a):St (cO a):=xiz _ fun i _=>xbx _ _ (h.lt i) (xex h i)
theorem xeg{a:List Nat}(t:Nat->Nat)(h:St a):St (cW t a):=xiz _ fun i _=>xee _ _ (h.lt _)
theorem xgl{a:List Nat}(h:St a):St (dH a):=xiz _ fun i _=>xbx _ _ (h.lt i) (xj8 _ _ (by unfold eS;omega))
theorem xu9{a:List Nat}(c:Nat)(hc:c<18446744073709551616)(h:St a):St (gU c a):=xiz _ fun i _=>by
 split
 ·exact xbx _ _ (h.lt _) hc
 ·exact h.lt _
theorem xx5{a:List Nat}(t:Nat->Nat)(c:Nat)(hc:c<18446744073709551616)(h:St a):St (cR t c a):=xu9 c hc (xgl (xeg t (xb4 h)))
theorem xhb{a:List Nat}(t r:Nat->Nat)(hr:∀ k,r k<18446744073709551616)(h:St a)(k:Nat):St (fC t r a k):=by
 induction k with
 | zero=>exact h
 | succ k ih=>exact xx5 t _ (hr k) ih
theorem xov{a:List Nat}(h:a.length=25):gU 0 a=a:=by
 refine xhp (xcl _) h fun i hi=>?_
 rw[gU,xc4 _ i hi];split
 ·rename_i e;subst e;exact Nat.xor_zero _
 ·rfl
def xs(a b:List Nat):List Nat:=mkS fun i=>g a i ^^^ g b i
theorem x4(a b c d:Nat):(a ^^^ b) ^^^ (c ^^^ d)=(a ^^^ c) ^^^ (b ^^^ d):=by
 rw[Nat.xor_assoc,<-Nat.xor_assoc b c d,Nat.xor_comm b c,Nat.xor_assoc c b d,<-Nat.xor_assoc]
def pcs(a:List Nat):Nat:=((List.range 25).map fun i=>pc (g a i)).sum
def part(ord f d:Nat->Nat)(m:Nat):List Nat:=mkS fun i=>if ord i<m then f i else d i
theorem xcw(ord f d:Nat->Nat)(m:Nat):(part ord f d m).length=25:=xcl _
theorem xha(ord f d:Nat->Nat):part ord f d 0=mkS d:=by simp[part]
theorem xg8(ord f d:Nat->Nat)(n:Nat)(h:∀ i,i<25->ord i<n):part ord f d n=mkS f:=
 xhp (xcl _) (xcl _) fun i hi=>by rw[part,xc4 _ i hi,xc4 _ i hi,iP (h i hi)]
theorem xg9(ord f d:Nat->Nat)(m i:Nat)(hi:i<25)(h:m<=ord i):g (part ord f d m) i=d i:=by rw[part,xc4 _ i hi,iQ (by omega)]
theorem xwr(ord f d:Nat->Nat)(m i0:Nat)(h0:i0<25)(hm:ord i0=m)(hi:∀ i,i<25->ord i=m->i=i0):(part ord f d m).set i0 (f i0)=part ord f d (m+1):=by
 refine xhp (by rw[nN,xcw]) (xcw _ _ _ _) fun i h=>?_
 rw[part,part,xc4 _ i h];unfold g;rw[iO,nS];by_cases e:i0=i
 ·subst e;rw[iP rfl,iP (by rw[xcl];exact h),iP (by omega)];rfl
 ·rw[iQ e,<-iO];show g (mkS _) i=_;rw[xc4 _ i h];by_cases h2:ord i<m
  ·rw[iP h2,iP (by omega)]
  ·rw[iQ h2,iQ (fun h3=>e (hi i h (by omega)).symm)]
def ck(a:List Nat):Nat->List Nat
 | 0=>[0,0,0,0,0]
 | k+1=>(ck a k).set (k%5) ((ck a k).getD (k%5) 0 ^^^ g a k)
theorem xpp(x:Nat)(hx:x<18446744073709551616):bits .xor .u64 18446744073709551615 (x:Int)=((eS x:Nat):Int):=by
 have h:=u64_xor_nat 18446744073709551615 x (by decide) hx;rw[show ((18446744073709551615:Nat):Int)=18446744073709551615 from rfl]at h;rw[h];congr 1
 refine xud _ _ (xbx _ _ (by decide) hx) (by unfold eS;omega) fun i hi=>?_
 rw[Nat.testBit_xor,eS,show 18446744073709551615-x=2 ^ 64-(x+1) by omega,Nat.testBit_two_pow_sub_succ hx,show 18446744073709551615=2 ^ 64-1 from rfl,Nat.testBit_two_pow_sub_one];simp[hi]
end bJ
namespace cZ
open bJ
def TL:List Nat:=[0,1,62,28,27,36,44,6,55,20,3,10,43,25,39,41,45,15,21,8,18,2,61,56,14]
def RL:List Nat:=[1,32898,9223372036854808714,9223372039002292224,32907,2147483649,9223372039002292353,9223372036854808585,138,136,2147516425,2147483658,2147516555,9223372036854775947,9223372036854808713,9223372036854808579,9223372036854808578,9223372036854775936,32778,9223372039002259466,9223372039002292353,9223372036854808704,2147483649,9223372039002292232]
theorem tl_is:fB.tl 24=TL:=by decide +kernel
theorem rl_is:fB.rl 168=RL:=by decide +kernel
theorem s0:cR (fun i=>TL.getD i 0) 1 [0,0,0,0,0,0,0,0,0,0,0,0,0,0,0,0,0,0,0,0,0,0,0,0,0]=[1,0,0,0,0,0,0,0,0,0,0,0,0,0,0,0,0,0,0,0,0,0,0,0,0]:=by decide +kernel
theorem s1:cR (fun i=>TL.getD i 0) 32898 [1,0,0,0,0,0,0,0,0,0,0,0,0,0,0,0,0,0,0,0,0,0,0,0,0]=[32899,17592186044416,32768,1,17592186077184,0,35184374185984,0,35184372088832,2097152,2,512,0,514,0,268436480,0,1024,268435456,0,1099511627776,0,1099511627780,0,4]:=by decide +kernel
theorem s2:cR (fun i=>TL.getD i 0) 9223372036854808714 [32899,17592186044416,32768,1,17592186077184,0,35184374185984,0,35184372088832,2097152,2,512,0,514,0,268436480,0,1024,268435456,0,1099511627776,0,1099511627780,0,4]=[9236970796698600460,4092250545529553158,626057523912327425,2306538108895626371,1173341635645358336,1293304092434976,1266393375296193026,4612686711565066480,3572814934320349200,6918386853474468034,181437471070544,17451689225912448,14123431978033217603,9612137362626578,14131171423402623105,109225863298950544,4469910934709993472,291608492588557700,4143342752895270928,722898250671538564,9260980282462904729,14339470011802853602,37581858268459548,4683770000893804961,432358761588732518]:=by decide +kernel
theorem s3:cR (fun i=>TL.getD i 0) 9223372039002292224 [9236970796698600460,4092250545529553158,626057523912327425,2306538108895626371,1173341635645358336,1293304092434976,1266393375296193026,4612686711565066480,3572814934320349200,6918386853474468034,181437471070544,17451689225912448,14123431978033217603,9612137362626578,14131171423402623105,109225863298950544,4469910934709993472,291608492588557700,4143342752895270928,722898250671538564,9260980282462904729,14339470011802853602,37581858268459548,4683770000893804961,432358761588732518]=[592319258926211651,14940587067404002452,6163873250186209783,9133172271835791495,13983250434949586883,10037245043040796116,14625807227073111006,9517639169617348992,10802803781493464979,1170967630360556906,4833658608200494670,14411270558251773425,10413092914151648788,6324505867985343017,15456637871614865798,15961727220218474669,12219779720573097889,13453918774002596887,11249665490274026413,16763947842887530834,9348458261315236693,11269932799224724130,5725669273397430228,16793563075160212879,7296601056617420707]:=by decide +kernel
theorem s4:cR (fun i=>TL.getD i 0) 32907 [592319258926211651,14940587067404002452,6163873250186209783,9133172271835791495,13983250434949586883,10037245043040796116,14625807227073111006,9517639169617348992,10802803781493464979,1170967630360556906,4833658608200494670,14411270558251773425,10413092914151648788,6324505867985343017,15456637871614865798,15961727220218474669,12219779720573097889,13453918774002596887,11249665490274026413,16763947842887530834,9348458261315236693,11269932799224724130,5725669273397430228,16793563075160212879,7296601056617420707]=[7638250137956199023,17990125325728205105,7906499215270811140,10861036725959346835,11195520138696188958,8358174899797462070,8135952663530915624,1143978644753002443,15662404937588594201,16535557756827863490,2821756897662528488,12114361851460063201,8845673958919045506,13942698502943567537,11656387723772272466,13322614738909770079,2086432298574777049,17543636310180418713,1178364895537752846,10832164025006223835,2030143342952750111,12360607886846421348,10479039689777663018,16563260862735374768,7279885679800479721]:=by decide +kernel
theorem s5:cR (fun i=>TL.getD i 0) 2147483649 [7638250137956199023,17990125325728205105,7906499215270811140,10861036725959346835,11195520138696188958,8358174899797462070,8135952663530915624,1143978644753002443,15662404937588594201,16535557756827863490,2821756897662528488,12114361851460063201,8845673958919045506,13942698502943567537,11656387723772272466,13322614738909770079,2086432298574777049,17543636310180418713,1178364895537752846,10832164025006223835,2030143342952750111,12360607886846421348,10479039689777663018,16563260862735374768,7279885679800479721]=[4891766363406797400,15439122233753343804,13823342620960621853,11746433691194652646,4017314498112237324,815207819430446539,4967747420293129338,3818588911347179217,12982395987346120149,8831006501622048216,3273200702990303769,11925911941096385939,11818410238024184151,6855937196075990472,6813782227838587502,5749709705375199086,198532287281302992,3986921420170929948,2084732521627207926,3955984847012879536,17540298648724239738,14973796877054370773,9207394463793105740,13336242423054526618,2223831538796077986]:=by decide +kernel
theorem s8:cR (fun i=>TL.getD i 0) 138 [16652500485267009945,10958849981877258258,8853714237097736841,2003963211515332167,18104358148906917239,11379445100294208094,10437317241808364805,8212908831415405867,9091928497337800534,14059751231478270153,15001885449949867721,6759228644865529140,11075707692260412524,3034373526708073059,4872532784904879032,4459999803740524546,41374170015054282,7214229506690688943,13879932992727109603,15786098323946766905,12482833305138999423,7737943208738395468,10835449165856946809,6784889229701620112,2508743159882295470]=[3501041463853948136,10866310098799002248,13309280585677824928,8654994258840324854,6845067337239913332,10088136376365509866,8098513356096791269,6638350475764314625,16001711104195941451,10607400498603605150,5131225480281754274,5160469520704435485,15018657285952792984,16484085553422753372,5931322006392875968,3577803676181472141,4870467447592949037,5364253307864407449,3089172411618606127,16799288664504418060,17410098619877022889,17855808120993975832,4231817637990851498,8355222551094640687,5005734266266153514]:=by decide +kernel
end cZ
namespace rols
open Go.RowKit
open arr bJ
theorem castm(x m M:Nat):(x:Int)*2 ^ m%(M:Int)=((x*2 ^ m%M:Nat):Int):=by push_cast;rfl
theorem castd(x n:Nat):(x:Int) / 2 ^ n=((x / 2 ^ n:Nat):Int):=by push_cast;rfl
theorem orl(x n m:Nat)(hm:m=64-n)(hx:x<18446744073709551616):bits .or .u64 ((x:Int)*2 ^ n%18446744073709551616) ((x:Int) / 2 ^ m)=((rol x n:Nat):Int):=by
 subst hm;have e:=castm x n 18446744073709551616;have e2:=castd x (64-n);rw[e2,show (x:Int)*2 ^ n%18446744073709551616=((x*2 ^ n%18446744073709551616:Nat):Int) from e];rw[oF _ _ (kB _ (by decide)) (mM (Nat.div_le_self _ _) hx)];rfl
theorem mask(k:Nat)(hk:k<9223372036854775808):bits .and .u64 (k:Int) 63=((k%64:Nat):Int):=by
 have:=u64_and_nat k 63 (by omega) (by decide);rw[show ((63:Nat):Int)=63 from rfl]at this;rw[this,nat_mask6]
theorem xq3(x k:Nat)(w:G)(hx:x<18446744073709551616)(hk:k<9223372036854775808):
 aD aO 215 #[O .u64 (x:Int),O J (k:Int)] w (zE w (O .u64 ((rol x (k%64):Nat):Int))):=by
 have hq:=mask k hk;have hw:IntKind.u64.wrap (k:Int)=(k:Int):=by rw[kA];omega
 obtain⟨n,hn⟩:=aP (k%64);rw[hn]at hq ⊢;have hn63:n<=63:=by omega
 clear hn;go_enter Tryz.func215,Tryz.ntmps215;go_wp2_with fail;go_ret;exact⟨xcm (orl x n (64-n) rfl hx),rfl⟩
end rols
namespace dL
open arr mem bJ
theorem gZ{P:aI}{id:Nat}{Q:Exit->Act->G->Prop}{a:Act}{w:G}{l:List Oper}(n:Nat)(hm:P.follows .mixedOrders=true)(hB:Region.lexTailB .any l.toArray n=true)
 (h:wpStill P l.toArray w.drew (fun a'=>wpList P l.toArray Q (l.drop n) a' w.drew) (l.take n) a):(Code.region id l.toArray true).wp P Q a w:=wp_region_still_tail n hm hB h
theorem xav{P:aI}{id:Nat}{Q:Exit->Act->G->Prop}{a:Act}{w:G}{l:List Oper}(hm:P.follows .mixedOrders=true)(hB:Region.lexB .any l.toArray=true)
 (h:wpStill P l.toArray w.drew (fun a'=>Q .normal a' w.drew) l a):(Code.region id l.toArray true).wp P Q a w:=wp_region_still_lit hm hB h
theorem xcz{g:Nat}{C:Array aE}{t:aH}{w w':G}(h:At g C t w w')(o:Nat)(v:aE):At g (C.setIfInBounds o v) t w (w'.setCell ⟨g,o,none⟩ v):=
 ⟨h.os,h.tape,h.output,by rw[size_setCell];exact h.size,heap_setCell h.row o v,fun k hk hg=>(Below.heap_setCell w' ⟨g,o,none⟩ v k hg).trans (h.block k hk hg)⟩
theorem eN{g:Nat}{C:Array aE}{t:aH}{w w':G}(h:At g C t w w'):At g C t w w'.drew:=⟨h.os,h.tape,h.output,h.size,h.row,h.block⟩
theorem xct{P:aI}{t e:aH}{n:Nat}(hu:P.underlying t=some (.array n e))(he:P.plainKey e=true)(hi0:(P.info? e).isSome=true)(hc:P.cellsOf e=1)(C:Array aE)(v:aE)(k:Nat)(hk:k<n)(hx:C[k]? = some v)(w:G):
 (aN t (I C) (O J (k:Int))).run P w=.ok v w:=by
 obtain⟨i,hi⟩:=nR.1 hi0;have h1:(0:Int)<=(k:Int)/\(k:Int)<(n:Int):=⟨by omega,by omega⟩;unfold aN;simp only[asIntOf,lQ,mR,run_underlying hu,kQ,iP h1,run_sizeOf w hi,hc,oA,kL];exact run_part_plain w he hx
theorem xmo{P:aI}(w:G)(g n:Nat)(t ty:aH)(C:Array aE)(v:aE)(hg:w.heap[g]? = some (Y C t (0,0)))(hi:(P.info? ty).map (·.size)=some 1)(h1:v.oneCell'=true)(hn:n<C.size):
 (storeVar ty ⟨g,n,none⟩ v).run P w=.ok () (w.setCell ⟨g,n,none⟩ v):=by
 have hc:v.cells=#[v]:=by cases v<;>first | rfl | cases h1
 cases hq:P.info? ty with
 | none=>simp[hq]at hi
 | some i=>
  have hs:i.size=1:=by simpa [hq] using hi
  have hadd:(⟨g,n,none⟩:Addr).add 0=⟨g,n,none⟩:=by unfold Addr.add;split<;>simp_all
  have hst:(store (⟨g,n,none⟩:Addr) v).run P w=.ok () (w.setCell ⟨g,n,none⟩ v):=by
   rw[run_store P w _ v _ h1,cell_of_row w g n C t (0,0) hg,frozen_of_row w g n C t hg,kC hn];rfl
  simp[storeVar,sizeOf,typeInfo,hq,hc,hs,storeCells,hadd,hst]
theorem xhy{P:aI}{ops:Array Oper}{Q:Exit->Act->G->Prop}{rest:List Oper}{o:Oper}{a:Act}{w0 w:G}{g:Nat}{C:Array aE}{t:aH}(H:U (At g C t w0 w))(hgd:o.guard=none)(ty:aH)(x y:Operand)(ho:o.op=.store ty x y)
 (n:Nat) (v:aE) (hx:a.eval x=aC (some ⟨g,n,none⟩)) (hy:a.eval y=v) (hi:(P.info? ty).map (·.size)=some 1) (h1:v.oneCell'=true) (hn:n<C.size) (hd:o.dst=none)
 (h:∀ w',U (At g (C.setIfInBounds n v) t w0 w')->wpList P ops Q rest a w'):wpList P ops Q (o :: rest) a w:=
 wpList_plain hgd fun K hK=>by
  unfold Oper.wp execOp;simp only[ho,hx,hy,Instr.storeAt,Instr.sureAddr,lQ,mR,kQ,xmo w g n t ty C v H.o.row hi h1 hn];have h2:=hK _ _ (h _ ⟨xcz H.o n v⟩);show K (a.put o.dst undef) _;rw[hd];exact h2
theorem xyj{P:aI}(n:Nat)(hn:n<18446744073709551616)(w:G):(Op.unary .xor (O .u64 (n:Int))).run P w=.ok (O .u64 ((eS n:Nat):Int)) w:=by
 have h:=xpp n hn;have e:(if IntKind.u64.signed then -1 else IntKind.u64.max:Int)=18446744073709551615:=rfl;rw[unary_xor,e,intBits_xor,h];rfl
theorem xhx{P:aI}{ops:Array Oper}{Q:Exit->Act->G->Prop}{rest:List Oper}{o:Oper}{a:Act}{w:G}(n:Nat)(hn:n<18446744073709551616)(hgd:o.guard=none)(ty:aH)(x:Operand)(ho:o.op=.unOp .xor ty x)
 (hx:a.eval x=O .u64 (n:Int)) (h:wpList P ops Q rest (a.put o.dst (O .u64 ((eS n:Nat):Int))) w):wpList P ops Q (o :: rest) a w:=
 wpList_plain hgd fun K hK=>by
  have h2:=hK _ _ h;unfold Oper.wp execOp;simp only[ho,hx,lQ,xyj n hn,kQ];exact h2
theorem bendz(x y z r:Nat)(hx:x<18446744073709551616)(hz:z<18446744073709551616)(h:x ^^^ (eS y &&& z)=r):
 bits .xor .u64 (x:Int) (bits .and .u64 ((eS y:Nat):Int) (z:Int))=(r:Int):=by
 subst h;have hn:eS y<18446744073709551616:=by unfold eS;omega
 rw[u64_and_nat _ z hn hz,u64_xor_nat x _ hx (xj8 _ _ hn)]
theorem cU{P:aI}{ops:Array Oper}{Q:Exit->Act->G->Prop}{rest:List Oper}{o:Oper}{a:Act}{w0 w:G}{g:Nat}{C:Array aE}{t:aH}(H:U (At g C t w0 w))(hgd:o.guard=none)(ty:aH)(x y:Operand)(ho:o.op=.store ty x y)(hd:o.dst=none)
 (h:∃ n k z,a.eval x=aC (some ⟨g,n,none⟩)/\a.eval y=.int k z/\(P.info? ty).map (·.size)=some 1/\n<C.size/\∀ w',U (At g (C.setIfInBounds n (.int k z)) t w0 w')->wpList P ops Q rest a w'):wpList P ops Q (o :: rest) a w:=by
 obtain⟨n,k,z,h1,h2,h3,h5,h6⟩:=h;exact xhy H hgd ty x y ho n _ h1 h2 h3 rfl h5 hd h6
theorem lk25(l:List Nat)(h:l.length=25):(LK .u64 l).size=25:=by rw[fE,h]
theorem xd2{a:List Nat}(h:a.length=25)(i:Nat)(hi:i<25):(LK .u64 a)[i]? = some (O .u64 ((g a i:Nat):Int)):=gC _ _ _ (by omega)
theorem fH{a:List Nat}{ga:Nat}{t:aH}{w:G}(h:a.length=25)(hw:w.heap[ga]? = some (Y (LK .u64 a) t (0,0)))(i x:Nat)(hi:i<25)(hx:g a i=x):w.cell? ⟨ga,i,none⟩=some (O .u64 (x:Int)):=by
 subst hx;exact aZ hw (xd2 h i hi)
theorem xch{ord f d:Nat->Nat}{m:Nat}(i0 v:Nat)(h0:i0<25)(hm:ord i0=m)(hi:∀ i,i<25->ord i=m->i=i0)(hv:f i0=v):
 (LK .u64 (bJ.part ord f d m)).setIfInBounds i0 (O .u64 (v:Int))=LK .u64 (bJ.part ord f d (m+1)):=by
 subst hv;rw[xdh,xwr ord f d m i0 h0 hm hi]
theorem fN(a b c:Nat)(ha:a<18446744073709551616)(hb:b<18446744073709551616)(h:a ^^^ b=c):bits .xor .u64 (a:Int) (b:Int)=(c:Int):=by
 subst h;exact u64_xor_nat a b ha hb
theorem xor5(a b c d e r:Nat)(ha:a<18446744073709551616)(hb:b<18446744073709551616)(hc:c<18446744073709551616)(hd:d<18446744073709551616)(he:e<18446744073709551616)(h:a ^^^ b ^^^ c ^^^ d ^^^ e=r):
 bits .xor .u64 (bits .xor .u64 (bits .xor .u64 (bits .xor .u64 (a:Int) (b:Int)) (c:Int)) (d:Int)) (e:Int)=(r:Int):=by
 subst h;rw[u64_xor_nat a b ha hb,u64_xor_nat _ c (xbx _ _ ha hb) hc,u64_xor_nat _ d (xbx _ _ (xbx _ _ ha hb) hc) hd,u64_xor_nat _ e (xbx _ _ (xbx _ _ (xbx _ _ ha hb) hc) hd) he]
theorem bend3(x y z r:Nat)(hx:x<18446744073709551616)(hy:y<18446744073709551616)(hz:z<18446744073709551616)(h:x ^^^ (eS y &&& z)=r):
 bits .xor .u64 (x:Int) (bits .and .u64 (bits .xor .u64 18446744073709551615 (y:Int)) (z:Int))=(r:Int):=by
 subst h;have hn:eS y<18446744073709551616:=by unfold eS;omega
 rw[xpp y hy,u64_and_nat _ z hn hz,u64_xor_nat x _ hx (xj8 _ _ hn)]
theorem xfx(a:List Nat)(i j:Nat)(h:i%5=j%5):kd a i=kd a j:=by
 unfold kd;rw[show (i+4)%5=(j+4)%5 by omega,show (i+1)%5=(j+1)%5 by omega]
theorem xfw(a:List Nat)(j p q c d r:Nat)(hp:(j+4)%5=p)(hq:(j+1)%5=q)(hc:kc a p=c)(hd:rol (kc a q) 1=d)(hr:kd a j=r):c ^^^ d=r:=by
 rw[<-hr,kd,hp,hq,hc,hd]
end dL
end Go.Proofs.YtomphjajkkddkaaGreatDoor
