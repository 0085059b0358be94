/-
  What package bits' Unhints returns. Conditions: none. What the document's own Uniform of layer 11 re
-/
import Derived.Test.YtomphjajkkddkaaGreatDoorZt02
import Derived.Test.YtomphjajkkddkaaGreatDoorZt18
import Derived.Test.YtomphjajkkddkaaGreatDoorZt12
import Derived.Test.YtomphjajkkddkaaGreatDoorZt11
import Derived.Test.YtomphjajkkddkaaGreatDoorZt14
import Derived.Test.YtomphjajkkddkaaGreatDoorZt10
import Derived.Test.YtomphjajkkddkaaGreatDoorZt13
import Derived.Test.YtomphjajkkddkaaGreatDoorZt16
import Derived.Test.YtomphjajkkddkaaGreatDoorZt17
import Derived.Test.YtomphjajkkddkaaGreatDoorZt15
import Derived.Test.YtomphjajkkddkaaGreatDoorZt03
import Derived.Test.YtomphjajkkddkaaGreatDoorZt09
import Derived.Lib.QuietBelow
import Derived.StillTailTactics
set_option maxRecDepth 100000
set_option maxHeartbeats 16000000
namespace Go.Proofs.YtomphjajkkddkaaGreatDoor
namespace punh
open Go Go.RowKit
open arr mem stil polys rbitb rbitc rbitd rbitu pols pinc
def PM (β : Nat→Nat) (om i t:Nat):Nat→Nat→Int:=fun i'=>if i'<i then ply β om i' else if i'=i then mk β (fr β om i) t else fun _=>0
theorem pm_zero (β : Nat→Nat) (om:Nat):PM β om 0 0=fun _ _=>0:=by
 funext i'
 unfold PM
 rw[if_neg (by omega)]
 by_cases e:i'=0
 ·rw[if_pos e];rfl
 ·rw[if_neg e]
theorem pm_step (β : Nat→Nat) (om i t:Nat):(fun i'=>if i'=i then upd (PM β om i t i) (β (fr β om i+t)) 1 else PM β om i t i')=PM β om i (t+1):=by
 funext i'
 unfold PM
 by_cases e:i'=i
 ·subst e
  rw[if_pos rfl,if_neg (by omega),if_pos rfl,if_neg (by omega),if_pos rfl]
  rfl
 ·rw[if_neg e,if_neg e,if_neg e]
theorem pm_next (β : Nat→Nat) (om i:Nat):PM β om i (fr β om (i+1)-fr β om i)=PM β om (i+1) 0:=by
 funext i'
 unfold PM
 by_cases h1:i'<i
 ·rw[if_pos h1,if_pos (by omega)]
 ·rw[if_neg h1]
  by_cases h2:i'=i
  ·subst h2
   rw[if_pos rfl,if_pos (by omega)]
   rfl
  ·rw[if_neg h2,if_neg (by omega)]
   by_cases h3:i'=i+1
   ·rw[if_pos h3];rfl
   ·rw[if_neg h3]
theorem inc_part (s:ByteArray) (n tz:Nat) (h1:n≤tz) (h2:tz≤s.size):incs (s.extract n tz)↔∀ k,n<k→k<tz→(bys s).getD (k-1) 0<(bys s).getD k 0:=by
 unfold incs
 rw[size_extract s n tz h1 h2]
 constructor
 ·intro h k hk1 hk2
  have:=h (k-n) (by omega) (by omega)
  rw[bys_extract s n tz _ (by omega),bys_extract s n tz _ (by omega),show n+(k-n-1)=k-1 by omega,show n+(k-n)=k by omega]at this
  exact this
 ·intro h k hk1 hk2
  have:=h (n+k) (by omega) (by omega)
  rw[bys_extract s n tz _ (by omega),bys_extract s n tz _ (by omega),show n+(k-1)=n+k-1 by omega]
  exact this
theorem zero_part (s:ByteArray) (n om:Nat) (h1:n≤om) (h2:om≤s.size):(∀ b∈(s.extract n om).data.toList,b=0)↔∀ k,n≤k→k<om→(bys s).getD k 0=0:=by
 have hl:(s.extract n om).data.toList.length=om-n:=by rw[←Lib.size_eq,size_extract s n om h1 h2]
 have hg:∀ j,j<om-n→(bys (s.extract n om)).getD j 0=((s.extract n om).data.toList[j]?.map (·.toNat)).getD 0:=fun j _=>by
  unfold bys
  rw[List.getD_eq_getElem?_getD,List.getElem?_map]
 constructor
 ·intro h k hk1 hk2
  have e:=bys_extract s n om (k-n) (by omega)
  rw[show n+(k-n)=k by omega]at e
  rw[←e,hg _ (by omega),List.getElem?_eq_getElem (by omega)]
  have:=h _ (List.getElem_mem (by omega:k-n<(s.extract n om).data.toList.length))
  simp only[Option.map_some,Option.getD_some]
  rw[this]
  rfl
 ·intro h b hb
  obtain⟨j,hj,rfl⟩:=List.getElem_of_mem hb
  have e:=bys_extract s n om j (by omega)
  rw[h (n+j) (by omega) (by omega),hg j (by omega),List.getElem?_eq_getElem hj]at e
  have e2:((s.extract n om).data.toList[j]).toNat=0:=e
  exact UInt8.toNat_inj.1 (by rw[e2];rfl)
theorem own_rowS {w:World} {base g M size:Nat} {e:TypeId} {xs:List Value} (h:w.ownsRow base e size (.slice (some ⟨g,0,none⟩) M M) M xs):∃ cur,w.heap[g]? = some (.cells cur e (0,0))∧cur.toList=xs:=by
 rcases h.2 with ⟨h',-⟩ | ⟨g',cap',cur,h',hb,hg,-,hm,hs,htake⟩
 ·simp at h'
 ·simp only[Value.slice.injEq,Option.some.injEq,Addr.mk.injEq,and_true,true_and]at h'
  obtain⟨rfl,rfl⟩:=h'
  refine⟨cur,hg,?_⟩
  rw[←htake,List.take_of_length_le (by rw[Array.length_toList];omega)]
theorem unhints_any (s:ByteArray) (m om:Nat) (w:World) (hm1 : 1≤m) (hm8:m≤8) (ho1 : 1≤om) (ho2:om≤255) (hs:s.size=om+m):
 Calls Tryz.prog 50 #[.string s,.int .i64 (om:Int),.int .i64 (m:Int)] w fun e w'=>((uok (fun j=>(bys s).getD j 0) om m∧∃ v,e=.returned (.tuple #[v,.int .i64 0])∧Holds w' w.heap.size v m (ply (fun j=>(bys s).getD j 0) om))∨(¬ uok (fun j=>(bys s).getD j 0) om m∧e=.returned (.tuple #[.slice none 0 0,.int .i64 3])))∧Below w.heap.size w w':=by
 obtain⟨i0,hi,hz0,hz1,hz2⟩:=parts infoPoly
 have HM:∀ w1:World,Calls Tryz.prog 104 #[.int .i64 (om:Int),.int .i64 (m:Int)] w1 fun e w'=>e=.returned (.bool true)∧w'=w1:=fun w1=>by
  have h:=psmall.hints_any (om:Int) (m:Int) w1
  rw[decide_eq_true (by omega)]at h
  exact h
 have HInc:Away (∀ n tz,n≤tz→tz≤om→∀ w1:World,Calls Tryz.prog 105 #[.string (s.extract n tz)] w1 fun e w'=>e=.returned (.bool (decide (incs (s.extract n tz))))∧Below w1.heap.size w1 w'):=⟨fun n tz h1 h2 w1=>pinc.inc_any (s.extract n tz) (tz-n) (size_extract s n tz h1 (by omega)) (by omega) w1⟩
 have HIff:Away (∀ n tz,n≤tz→tz≤om→(incs (s.extract n tz)↔∀ k,n<k→k<tz→(bys s).getD (k-1) 0<(bys s).getD k 0)):=⟨fun n tz h1 h2=>inc_part s n tz h1 (by omega)⟩
 have HTr:Away (∀ n,n≤om→∀ w1:World,Calls Tryz.prog 106 #[.string (s.extract n om),.string ⟨#[0]⟩] w1 fun e w'=>e=.returned (.string ⟨(Lib.trimB (s.extract n om).data.toList 0).toArray⟩)∧Below w1.heap.size w1 w'):=⟨fun n h1 w1=>trims.trim_any (s.extract n om) (by rw[size_extract s n om h1 (by omega)];omega) w1⟩
 have HZr:Away (∀ n,n≤om→((∀ b∈(s.extract n om).data.toList,b=0)↔∀ k,n≤k→k<om→(bys s).getD k 0=0)):=⟨fun n h1=>zero_part s n om h1 (by omega)⟩
 obtain⟨β,Hβ⟩:=ex_eq (fun j=>(bys s).getD j 0)
 have Hβ':Away (∀ k,(bys s).getD k 0 = β k):=⟨fun k=>by rw[←Hβ.out]⟩
 rw[Hβ.out]
 have Hix:Away (∀ j,j<om+m→∀ w1:World,(Instr.index 9 (.string s) (.int .i64 (j:Int))).run Tryz.prog w1=.ok (.int .u8 ((β j:Nat):Int)) w1):=⟨fun j hj w1=>byte_of s j _ (by omega) (Hβ'.out j) w1⟩
 have Hb8:Away (∀ j,β j<256):=⟨fun j=>by rw[←Hβ'.out];exact pinc.byte_lt s j⟩
 obtain⟨z,HZ⟩:=ex_eq (FL .i64 256 fun _=>0)
 rw[HZ.out]at hz0
 have HI:=Away.mk (And.intro hi (And.intro hz0 (And.intro hz1 hz2)))
 obtain⟨M,hM⟩:∃ M,om+m=M:=⟨_,rfl⟩
 have fM:(om:Int)+(m:Int)=(M:Int):=by omega
 have fMw:IntKind.i64.wrap ((om:Int)+(m:Int))=(M:Int):=by rw[fM,IntKind.wrap_i64];omega
 have fne:((s.size:Int) != (M:Int))=false:=by rw[show (s.size:Int)=(M:Int) by omega];simp
 have HsM:Away (s.size=M):=⟨by omega⟩
 clear hi hz0 hz1 hz2 hM
 go_enter Tryz.func50,Tryz.ntmps50
 go_wp2_with fail
 refine(HM _).mono ?_
 rintro e w ⟨rfl,rfl⟩
 go_wp2_with (at_make;refine wpList_make_full _ rfl (.tmp 25) (.tmp 25) 44 rfl w.heap.size 76 i0 (.agg z) 256 Tryz.underlying44 HI.out.1 HI.out.2.1 HI.out.2.2.1 .i64 .i64 m m m rfl rfl rfl rfl (by rw[HI.out.2.2.2];omega) (by unfold maxLen;omega) (Nat.le_refl _) ?_)
 intro w3 hown hgr
 have B3:Away (Below w.heap.size w w3):=⟨(Below.refl _ _).grown hgr (Nat.le_refl _) (fun k hk=>by simp at hk)⟩
 obtain⟨cur,hcur,hcl⟩:=own_rowS hown
 have e0:cur=RW m (PM β om 0 0):=by
  apply Array.ext'
  rw[hcl,pm_zero,←made_rw,HZ.out]
 rw[e0]at hcur
 have hg3:Away (w.heap.size<w3.heap.size):=⟨lt_of_row hcur⟩
 have A3:Away (At w.heap.size (RW m (PM β om 0 0)) 76 w3 w3):=⟨At.refl hcur⟩
 clear hown hgr hcl e0 hcur fM fMw fne HM
 go_wp2_with fail
 go_loopw [9,29] (fun c v wr=>∃ i:Nat,i≤m∧v=.int .i64 (i:Int)∧c=.int .i64 ((fr β om i:Nat):Int)∧fr β om i≤om∧Away (∀ j,j<i→one β om j)∧Away (At w.heap.size (RW m (PM β om i 0)) 76 w3 wr)) (fun _ v _=>m-(intOf v).toNat)
 case atStart=>exact⟨0,Nat.zero_le _,rfl,rfl,Nat.zero_le _,⟨fun j hj=>by omega⟩,A3⟩
 case round=>
  clear A3
  obtain⟨i,hi,rfl,rfl,hno,Hall,A0⟩:=hrel
  have BE:Away (Below w.heap.size w wr):=⟨B3.out.trans (A0.out.below (Nat.le_of_lt hg3.out) (Nat.le_refl _))⟩
  by_cases hlt:i<m
  ·have hiz:(i:Int)<(m:Int):=by omega
   have Hi:=Away.mk hlt
   obtain⟨n,hn⟩:∃ n,fr β om i=n:=⟨_,rfl⟩
   obtain⟨tz,hto⟩:∃ tz,β (om+i)=tz:=⟨_,rfl⟩
   have Hto:Away (fr β om (i+1)=tz):=⟨hto⟩
   have hto8:tz<256:=by rw[←hto];exact Hb8.out _
   have hidx0:=Hix.out (om+i) (by omega)
   obtain⟨oi,hoi⟩:∃ oi,om+i=oi:=⟨_,rfl⟩
   rw[hto,hoi]at hidx0
   rw[hn]at hno ⊢
   have Hn:=Away.mk hn
   have foi:(om:Int)+(i:Int)=(oi:Int):=by omega
   have foiw:IntKind.i64.wrap ((om:Int)+(i:Int))=(oi:Int):=by rw[foi,IntKind.wrap_i64];omega
   have fto:IntKind.i64.wrap (tz:Int)=(tz:Int):=by rw[IntKind.wrap_i64];omega
   clear hn hto hoi foi
   by_cases hnt:tz<n
   ·have hc:(tz:Int)<(n:Int):=by omega
    have hno2:Away (¬ uok β om m):=⟨fun h=>by have:=(h.1 i Hi.out).1;rw[Hn.out,Hto.out]at this;omega⟩
    go_wp2_with fail
    go_ret2
    exact⟨Or.inr ⟨hno2.out,rfl⟩,BE.out⟩
   ·by_cases hto3:om<tz
    ·have hc:¬ (tz:Int)<(n:Int):=by omega
     have hc2:(om:Int)<(tz:Int):=by omega
     have hno2:Away (¬ uok β om m):=⟨fun h=>by have:=(h.1 i Hi.out).2.1;rw[Hto.out]at this;omega⟩
     go_wp2_with fail
     go_ret2
     exact⟨Or.inr ⟨hno2.out,rfl⟩,BE.out⟩
    ·have hc:¬ (tz:Int)<(n:Int):=by omega
     have hc2:¬ (om:Int)<(tz:Int):=by omega
     have hinc:=HInc.out n tz (by omega) (by omega)
     have hiff:=HIff.out n tz (by omega) (by omega)
     by_cases hin:incs (s.extract n tz)
     ·rw[decide_eq_true hin]at hinc
      have hin2:=hiff.1 hin
      have Hone:Away (one β om i):=⟨by
       unfold one
       rw[Hn.out,Hto.out]
       refine⟨by omega,by omega,fun k h1 h2=>?_⟩
       rw[←Hβ'.out,←Hβ'.out]
       exact hin2 k h1 h2⟩
      have Hinc:=Away.mk hinc
      have hsl:tz≤s.size:=by omega
      clear hin hin2 hiff hinc
      go_wp2_with fail
      refine(Hinc.out _).mono ?_
      rintro e w5 ⟨rfl,hb5⟩
      have A5:Away (At w.heap.size (RW m (PM β om i (n-n))) 76 w3 w5):=⟨by rw[Nat.sub_self];exact A0.out.later hb5⟩
      clear hb5 A0 BE hidx0 foiw fto hsl Hinc
      go_wp2_with fail
      go_loopw [12] (fun v wr=>∃ k:Nat,n≤k∧k≤tz∧v=.int .i64 (k:Int)∧Away (At w.heap.size (RW m (PM β om i (k-n))) 76 w3 wr)) (fun v _=>tz-(intOf v).toNat)
      case atStart=>exact⟨n,Nat.le_refl _,by omega,rfl,A5⟩
      case round=>
       clear A5
       obtain⟨k,hnk,hkt,rfl,A0⟩:=hrel
       by_cases hklt:k<tz
       ·have hkz:(k:Int)<(tz:Int):=by omega
        have hidx:=Hix.out k (by omega)
        obtain⟨b,hb⟩:∃ b,β k=b:=⟨_,rfl⟩
        have hb8:b<256:=by rw[←hb];exact Hb8.out k
        have hb256:(b:Int)<256:=by omega
        rw[hb]at hidx
        have Hset:Away ((RW m (PM β om i (k-n))).setIfInBounds (256*i+b) (.int .i64 1)=RW m (PM β om i (k+1-n))):=⟨by
         rw[rw_set m _ i b hb8 1,show k+1-n=(k-n)+1 by omega,←pm_step,Hn.out,show n+(k-n)=k by omega,hb]⟩
        have Hlt:Away (256*i+b<(RW m (PM β om i (k-n))).size):=⟨by rw[rw_size];have:=Hi.out;omega⟩
        obtain⟨o,ho⟩:∃ o,i*256=o:=⟨_,rfl⟩
        rw[show 256*i=o by omega]at Hset Hlt
        have hiz2:(i:Int)<(m:Int):=by have:=Hi.out;omega
        have A1:Away (At w.heap.size (RW m (PM β om i (k-n))) 76 w3 wr.drew):=⟨at_drew A0.out⟩
        clear hb
        go_wp2_with fail
        refine still_tail 7 (by kernel_rfl) (by kernel_rfl) ?_
        simp only[List.take_succ_cons,List.take_zero,List.drop_succ_cons,List.drop_zero]
        repeat still_step
        refine wpStill_nil ?_
        clear A0 hidx
        with_reducible refine wpList_put2 A1 rfl _ _ _ rfl rfl ?_
        refine⟨_,_,_,rfl,rfl,rfl,Hlt.out,?_⟩
        intro wn HR
        rw[Hset.out]at HR
        go_wp2_with fail
        go_roundw
        case rel=>exact⟨k+1,by omega,by omega,by go_num,HR⟩
        case measure=>simp[intOf];omega
       ·obtain rfl:k=tz:=by omega
        have A6:Away (At w.heap.size (RW m (PM β om (i+1) 0)) 76 w3 wr):=⟨by rw[←pm_next,Hto.out,Hn.out];exact A0.out⟩
        have Hall2:Away (∀ j,j<i+1→one β om j):=⟨fun j hj=>by
         by_cases e:j=i
         ·subst e;exact Hone.out
         ·exact Hall.out j (by omega)⟩
        clear A0
        go_wp2_with fail
        go_roundw
        case rel=>exact⟨i+1,by have:=Hi.out;omega,by go_num,by rw[Hto.out],by rw[Hto.out];omega,Hall2,A6⟩
        case measure=>have:=Hi.out;simp[intOf];omega
     ·rw[decide_eq_false hin]at hinc
      have hno2:Away (¬ uok β om m):=⟨fun h=>by
       have:=(h.1 i Hi.out).2.2
       rw[Hn.out,Hto.out]at this
       exact hin (hiff.2 fun k h1 h2=>by rw[Hβ'.out,Hβ'.out];exact this k h1 h2)⟩
      have Hinc:=Away.mk hinc
      have hsl:tz≤s.size:=by omega
      clear hin hiff hinc
      go_wp2_with fail
      refine(Hinc.out _).mono ?_
      rintro e w5 ⟨rfl,hb5⟩
      have BF:Away (Below w.heap.size w w5):=⟨BE.out.trans (hb5.mono BE.out.size)⟩
      clear hb5 A0
      go_wp2_with fail
      go_ret2
      exact⟨Or.inr ⟨hno2.out,rfl⟩,BF.out⟩
  ·obtain rfl:i=m:=by omega
   obtain⟨n,hn⟩:∃ n,fr β om i=n:=⟨_,rfl⟩
   rw[hn]at hno ⊢
   have Hn:=Away.mk hn
   have htr:=HTr.out n hno
   have hzr:=HZr.out n hno
   have hsl:om≤s.size:=by omega
   clear hn
   by_cases hall:∀ b∈(s.extract n om).data.toList,b=0
   ·rw[trims.trim_nil _ hall]at htr
    have hz:=hzr.1 hall
    have hyes:Away (uok β om i):=⟨Hall.out,fun k h1 h2=>by rw[Hn.out]at h1;rw[←Hβ'.out];exact hz k h1 h2⟩
    have Htr:=Away.mk htr
    clear hall hz hzr htr
    go_wp2_with fail
    refine(Htr.out _).mono ?_
    rintro e w5 ⟨rfl,hb5⟩
    have BF:Away (Below w.heap.size w w5):=⟨BE.out.trans (hb5.mono BE.out.size)⟩
    have AF:Away (At w.heap.size (RW i (PM β om i 0)) 76 w3 w5):=⟨A0.out.later hb5⟩
    clear hb5 A0
    go_wp2_with fail
    go_ret2
    refine⟨Or.inl ⟨hyes.out,_,rfl,_,_,rfl,Nat.le_refl _,lt_of_row AF.out.row,fun j hj k hk=>?_⟩,BF.out⟩
    have:=rw_cell AF.out.row j k hj hk
    unfold PM at this
    rw[if_pos hj]at this
    exact this
   ·have hne:=trims.trim_not _ hall
    have hno2:Away (¬ uok β om i):=⟨fun h=>hall (hzr.2 fun k h1 h2=>by rw[Hβ'.out];exact h.2 k (by rw[Hn.out];exact h1) h2)⟩
    obtain⟨t,ht⟩:∃ t:ByteArray,(⟨(Lib.trimB (s.extract n om).data.toList 0).toArray⟩:ByteArray)=t:=⟨_,rfl⟩
    have htl:¬ t.toList=[]:=by rw[Lib.toList_data,←ht];simpa using hne
    have hte:t.toList.isEmpty=false:=by simpa using htl
    rw[ht]at htr
    have Htr:=Away.mk htr
    clear hall hne hzr htr ht A0
    go_wp2_with fail
    refine(Htr.out _).mono ?_
    rintro e w5 ⟨rfl,hb5⟩
    have BF:Away (Below w.heap.size w w5):=⟨BE.out.trans (hb5.mono BE.out.size)⟩
    clear hb5
    go_wp2_with fail
    go_ret2
    exact⟨Or.inr ⟨hno2.out,rfl⟩,BF.out⟩
end punh
end Go.Proofs.YtomphjajkkddkaaGreatDoor
namespace Go.Proofs.YtomphjajkkddkaaGreatDoor
namespace rsuni
open Go Go.RowKit
open arr mem stil polys polt rbitc samm
theorem uniform_any {T:Array Value} (b s:ByteArray) (w:World) (hT:(Tryz.prog.info? 34).map (·.size)=some T.size) (hs:s.size=1008)
 (HS:∀ w1:World,Calls Tryz.prog 38 #[.agg T,.int .i64 1,.string b,.int .i64 1008] w1 fun e w'=>e=.returned (.tuple #[.string s,.int .i64 0])∧Below w1.heap.size w1 w'):
 Calls Tryz.prog 98 #[.agg T,.string b] w fun e w'=>e=.returned (.agg (FL .i64 256 (uni (bys s))))∧Below w.heap.size w w':=by
 obtain⟨hz,hsize⟩:=zero_of_info polt.infoP
 obtain⟨z,HZ⟩:=ex_eq (FL .i64 256 fun _=>0)
 rw[HZ.out]at hz
 have Hzs:Away (z.size=256):=⟨by rw[←HZ.out];exact fl_size _ _ _⟩
 obtain⟨R,HR⟩:=ex_eq (FL .i64 256 (uni (bys s)))
 have Ri:Away ((Tryz.prog.info? 76).map (·.size)=some R.size):=⟨by rw[←HR.out,fl_size];exact hsize⟩
 have Ro:Away (R.all (·.oneCell')=true):=⟨by rw[←HR.out];exact fl_one _ _ _⟩
 have Rz:Away (z.size=R.size):=⟨by rw[Hzs.out,←HR.out,fl_size]⟩
 have HRd:Away (FL .i64 256 (lf (ua (bys s) 336))=R):=HR
 have HTz:=Away.mk hT
 rw[HR.out]
 have Hix:Away (∀ j:Nat,j<1008→∀ w1:World,(Instr.index 9 (.string s) (.int .i64 (j:Int))).run Tryz.prog w1=.ok (.int .u8 ((by' (bys s) j:Nat):Int)) w1):=⟨fun j hj w1=>byte_of s j _ (by omega) rfl w1⟩
 obtain⟨W,hW⟩:∃ x,(w.alloc (.cells T 34)).alloc (.cells z 76)=x:=⟨_,rfl⟩
 obtain⟨r0,r1,hWs,b0⟩:=two hW
 have T0:Away (W.heap[w.heap.size]? = some (.cells T 34 (0,0))):=⟨r0⟩
 have R0:Away (W.heap[w.heap.size+1]? = some (.cells z 76 (0,0))):=⟨r1⟩
 have BW:=Away.mk b0
 have HWs:=Away.mk hWs
 have HW:=Away.mk hW
 have HSh:=Away.mk HS
 clear hW r0 r1 b0 hWs hsize HS hT HR
 go_enter Tryz.func98,Tryz.ntmps98
 go_wp2_with (first
  | (rw[HW.out])
  | (refine wpList_load_row rfl 34 _ rfl w.heap.size rfl 34 T (0,0) _ T0.out Tryz.underlying34 rfl HTz.out ?_))
 refine(HSh.out _).mono ?_
 rintro e u1 ⟨rfl,hb1⟩
 obtain⟨W1,hW1⟩:∃ x,u1.alloc (.cells z 76)=x:=⟨_,rfl⟩
 obtain⟨r1,hs1,b1⟩:=one hW1
 have A0:Away (At u1.heap.size (FL .i64 256 (lf (ua (bys s) 0))) 76 W1 W1):=⟨by rw[ua,lf_nil,HZ.out];exact At.refl r1⟩
 have R1:Away (W1.heap[w.heap.size+1]? = some (.cells z 76 (0,0))):=⟨((hb1.trans (b1.mono hb1.size)).block _ (by rw[HWs.out];omega)).trans R0.out⟩
 have B1:Away (Below w.heap.size w W1):=⟨BW.out.trans ((hb1.trans (b1.mono hb1.size)).mono (by rw[HWs.out];omega))⟩
 have Hlt:Away (w.heap.size+1<u1.heap.size):=⟨by have:=hb1.size;rw[HWs.out]at this;omega⟩
 have HW1:=Away.mk hW1
 clear hb1 r1 b1 hs1 hW1 T0 R0 BW
 go_wp2_with (rw[HW1.out])
 clear hz
 go_loopw [8,9] (fun c v wr=>∃ j:Nat,j≤336∧v=.int .i64 ((3*j:Nat):Int)∧c=.int .i64 (((ua (bys s) j).length:Nat):Int)∧Away (At u1.heap.size (FL .i64 256 (lf (ua (bys s) j))) 76 W1 wr)) (fun _ v _=>1008-(intOf v).toNat)
 case atStart=>exact⟨0,by omega,rfl,rfl,A0⟩
 case round=>
  clear A0
  obtain⟨j,hj,rfl,rfl,A0⟩:=hrel
  have BE:Away (Below w.heap.size w wr):=⟨B1.out.trans (A0.out.below B1.out.size (by have:=Hlt.out;omega))⟩
  obtain⟨n,hn⟩:∃ n,(ua (bys s) j).length=n:=⟨_,rfl⟩
  have hn256:=(ua_le (bys s) j).1
  rw[hn]at hn256 ⊢
  by_cases hgo:j<336∧n<256
  ·obtain⟨hj336,hn2⟩:=hgo
   obtain⟨i,hi⟩:∃ i,3*j=i:=⟨_,rfl⟩
   have hi1:=Hix.out i (by omega)
   obtain⟨i1,hi1v⟩:∃ i1,i+1=i1:=⟨_,rfl⟩
   obtain⟨i2,hi2v⟩:∃ i2,i+2=i2:=⟨_,rfl⟩
   have hi2:=Hix.out i1 (by omega)
   have hi3:=Hix.out i2 (by omega)
   obtain⟨β0,hβ0⟩:∃ β,by' (bys s) i = β := ⟨_,rfl⟩
   obtain⟨β1,hβ1⟩:∃ β,by' (bys s) i1 = β := ⟨_,rfl⟩
   obtain⟨β2,hβ2⟩:∃ β,by' (bys s) i2 = β := ⟨_,rfl⟩
   have l0 : β0<256:=by rw[←hβ0];exact by_lt s _
   have l1 : β1<256:=by rw[←hβ1];exact by_lt s _
   have l2 : β2<256:=by rw[←hβ2];exact by_lt s _
   obtain⟨γ,hγ⟩:∃ γ,β2%128 = γ := ⟨_,rfl⟩
   obtain⟨p,hp⟩:∃ p,β1*256=p:=⟨_,rfl⟩
   obtain⟨q,hq⟩:∃ q,γ * 65536=q:=⟨_,rfl⟩
   obtain⟨y,hy⟩:∃ y,β0+256 * β1=y:=⟨_,rfl⟩
   obtain⟨x,hx⟩:∃ x,β0+256 * β1+65536 * γ = x:=⟨_,rfl⟩
   have htri:tri (bys s) i=x:=by unfold tri;rw[hi1v,hi2v,hβ0,hβ1,hβ2,hγ,hx]
   obtain⟨v1,v2⟩:=or_tri β0 β1 γ l0 l1 (by omega)
   rw[hp,hy]at v1
   rw[hy,hq,show y+65536 * γ = x by omega]at v2
   have va:=and_127 β2 l2
   rw[hγ]at va
   rw[hβ0]at hi1
   rw[hβ1]at hi2
   rw[hβ2]at hi3
   have hi3z:(i:Int)+2<1008:=by omega
   have hi3y:(i2:Int)<1008:=by omega
   have fi1:IntKind.i64.wrap ((i:Int)+1)=(i1:Int):=by rw[IntKind.wrap_i64];omega
   have fi2:IntKind.i64.wrap ((i:Int)+2)=(i2:Int):=by rw[IntKind.wrap_i64];omega
   have fp:(β1:Int)*256=(p:Int):=by omega
   have fpw:IntKind.i64.wrap ((β1:Int)*256)=(p:Int):=by rw[fp,IntKind.wrap_i64];omega
   have fq:(γ : Int)*65536=(q:Int):=by omega
   have fqw:IntKind.i64.wrap ((γ : Int)*65536)=(q:Int):=by rw[fq,IntKind.wrap_i64];omega
   have w0:IntKind.i64.wrap (β0:Int)=(β0:Int):=by rw[IntKind.wrap_i64];omega
   have w1:IntKind.i64.wrap (β1:Int)=(β1:Int):=by rw[IntKind.wrap_i64];omega
   have w2:IntKind.i64.wrap (γ : Int)=(γ : Int):=by rw[IntKind.wrap_i64];omega
   have wp:IntKind.i64.wrap (p:Int)=(p:Int):=by rw[IntKind.wrap_i64];omega
   have wq:IntKind.i64.wrap (q:Int)=(q:Int):=by rw[IntKind.wrap_i64];omega
   have fi3:IntKind.i64.wrap ((i:Int)+3)=(i:Int)+3:=by rw[IntKind.wrap_i64];omega
   have hi1008:i<1008:=by omega
   have hszi:(s.size:Int)=1008:=by omega
   have hn2z:(n:Int)<256:=by omega
   rw[hi]
   have Hi:=Away.mk hi
   have A1:Away (At u1.heap.size (FL .i64 256 (lf (ua (bys s) j))) 76 W1 wr.drew):=⟨at_drew A0.out⟩
   have Hn:=Away.mk hn
   have Htri:=Away.mk htri
   clear hβ0 hβ1 hβ2 hγ hp hq hx hy hi hn htri hi1v hi2v
   go_wp2_with fail
   refine still_all (by kernel_rfl) (by kernel_rfl) ?_
   repeat still_step
   refine wpStill_nil ?_
   clear hi1 hi2 hi3 v1 v2 va fi1 fi2 fp fpw fq fqw w0 w1 w2 wp wq hi3z hi3y A0
   by_cases hx:x<8380417
   ·have hxz:(x:Int)<8380417:=by omega
    have Hua:Away (ua (bys s) (j+1)=ua (bys s) j ++ [x]):=⟨by rw[ua,Hi.out,Htri.out,if_pos ⟨by rw[Hn.out];exact hn2,hx⟩]⟩
    have Hset:Away ((FL .i64 256 (lf (ua (bys s) j))).setIfInBounds n (.int .i64 (x:Int))=FL .i64 256 (lf (ua (bys s) (j+1)))):=⟨by rw[fl_set,Hua.out,←lf_snoc,Hn.out]⟩
    clear hx
    go_wp2_with ((with_reducible refine wpList_put2 A1 rfl _ _ _ rfl rfl ?_);refine⟨_,_,_,rfl,rfl,rfl,(by rw[fl_size];exact hn2),?_⟩;intro wn HRn;rw[Hset.out]at HRn)
    go_roundw
    case rel=>exact⟨j+1,by omega,by rw[show ((3*(j+1):Nat):Int)=(i:Int)+3 by have:=Hi.out;omega],by rw[show (ua (bys s) (j+1)).length=n+1 by rw[Hua.out,List.length_append,Hn.out];rfl];go_num,HRn⟩
    case measure=>have:=Hi.out;simp[intOf];omega
   ·have hxz:¬ (x:Int)<8380417:=by omega
    have Hua:Away (ua (bys s) (j+1)=ua (bys s) j):=⟨by rw[ua,Hi.out,Htri.out,if_neg (fun h=>hx h.2)]⟩
    clear hx
    go_wp2_with fail
    go_roundw
    case rel=>exact⟨j+1,by omega,by rw[show ((3*(j+1):Nat):Int)=(i:Int)+3 by have:=Hi.out;omega],by rw[Hua.out,Hn.out],by rw[Hua.out];exact A1⟩
    case measure=>have:=Hi.out;simp[intOf];omega
  ·have hend:Away (ua (bys s) j=ua (bys s) 336):=⟨by
    by_cases h:j=336
    ·rw[h]
    ·exact(ua_full (bys s) j 336 (by omega) hj).symm⟩
   rw[hend.out,HRd.out]at A0
   have Hrow:=Away.mk A0.out.row
   have Hres:Away (wr.heap[w.heap.size+1]? = some (.cells z 76 (0,0))):=⟨A0.out.other (lt_of_row R1.out) (by have:=Hlt.out;omega) R1.out⟩
   have hszi:(s.size:Int)=1008:=by omega
   clear A0 hn
   by_cases h:j<336
   ·have hn256z:¬ (n:Int)<256:=by omega
    have hjz:((3*j:Nat):Int)+2<1008:=by omega
    obtain⟨i,hi⟩:∃ i,3*j=i:=⟨_,rfl⟩
    rw[hi]at hjz ⊢
    have fi2:IntKind.i64.wrap ((i:Int)+2)=(i:Int)+2:=by rw[IntKind.wrap_i64];omega
    clear hi hgo hend
    go_wp2_with (first
     | (refine wpList_load_row rfl 76 _ rfl u1.heap.size rfl 76 R (0,0) _ Hrow.out Tryz.underlying76 rfl Ri.out ?_)
     | (refine wpList_store_row rfl 76 _ _ rfl (w.heap.size+1) R rfl rfl 76 _ Hres.out Ri.out Rz.out Ro.out ?_))
    refine bodyPost_ret_by (v:=.agg R) (results_cell_row rfl _ _ (w.heap.size+1) 76 _ (0,0) _ rfl (setRow_heap _ _ _ _ _ _ Hres.out) Tryz.underlying76 rfl Ri.out) rfl ?_
    exact⟨rfl,BE.out.trans (below_setRow _ _ _ (Nat.le_succ _))⟩
   ·obtain rfl:j=336:=by omega
    have e1:((3*336:Nat):Int)=1008:=rfl
    rw[e1]
    clear hgo hend e1
    go_wp2_with (first
     | (refine wpList_load_row rfl 76 _ rfl u1.heap.size rfl 76 R (0,0) _ Hrow.out Tryz.underlying76 rfl Ri.out ?_)
     | (refine wpList_store_row rfl 76 _ _ rfl (w.heap.size+1) R rfl rfl 76 _ Hres.out Ri.out Rz.out Ro.out ?_))
    refine bodyPost_ret_by (v:=.agg R) (results_cell_row rfl _ _ (w.heap.size+1) 76 _ (0,0) _ rfl (setRow_heap _ _ _ _ _ _ Hres.out) Tryz.underlying76 rfl Ri.out) rfl ?_
    exact⟨rfl,BE.out.trans (below_setRow _ _ _ (Nat.le_succ _))⟩
end rsuni
end Go.Proofs.YtomphjajkkddkaaGreatDoor
namespace Go.Proofs.YtomphjajkkddkaaGreatDoor
namespace rsball
open Go Go.RowKit
open arr mem stil polys polt rbitc samm rsuni
end rsball
end Go.Proofs.YtomphjajkkddkaaGreatDoor
namespace Go.Proofs.YtomphjajkkddkaaGreatDoor
namespace qbal
open Go Go.RowKit
open arr mem stil polys polt rbitc samm rsuni
theorem sign_any (s:ByteArray) (t:Nat) (ht:t / 8<s.size) (hs:s.size≤544) (w:World):Calls Tryz.prog 140 #[.string s,.int .i64 (t:Int)] w fun e w'=>e=.returned (.int .i64 (sgn (bys s) t))∧w'=w:=by
 obtain⟨d,hd⟩:∃ d,t / 8=d:=⟨_,rfl⟩
 obtain⟨r,hr⟩:∃ r,t%8=r:=⟨_,rfl⟩
 have ht2:t<4352:=by omega
 have hid:∀ w1:World,(Instr.index 9 (.string s) (.int .i64 (d:Int))).run Tryz.prog w1=.ok (.int .u8 ((by' (bys s) d:Nat):Int)) w1:=fun w1=>byte_of s d _ (by omega) rfl w1
 obtain⟨γ,hγ⟩:∃ γ,by' (bys s) d = γ := ⟨_,rfl⟩
 have hγ8 : γ < 256:=by rw[←hγ];exact by_lt s _
 rw[hγ]at hid
 obtain⟨y,hy⟩:∃ y,γ / 2 ^ r=y:=⟨_,rfl⟩
 have hy8:y<256:=by rw[←hy];exact Nat.lt_of_le_of_lt (Nat.div_le_self _ _) hγ8
 have fy:(γ : Int) / 2 ^ r=(y:Int):=by rw[←hy];simp
 have fand:=and_u8 y hy8
 obtain⟨bb,hbb⟩:∃ bb,y%2=bb:=⟨_,rfl⟩
 rw[hbb]at fand
 have fd:(t:Int).tdiv 8=(d:Int):=by rw[Int.tdiv_eq_ediv_of_nonneg (by omega)];omega
 have fd2:(t:Int) / 8=(d:Int):=by omega
 have fdw:IntKind.i64.wrap ((t:Int).tdiv 8)=(d:Int):=by rw[fd,IntKind.wrap_i64];omega
 have fr:(t:Int).tmod 8=(r:Int):=by rw[Int.tmod_eq_emod_of_nonneg (by omega)];omega
 have fr2:(t:Int)%8=(r:Int):=by omega
 have fru:IntKind.u64.wrap (r:Int)=(r:Int):=by rw[IntKind.wrap_u64];omega
 have hr7:r≤7:=by omega
 have hsg:sgn (bys s) t=if bb=1 then 8380416 else 1:=by unfold sgn;rw[hd,hr,hγ,hy,hbb]
 have hds:(d:Int)<(s.size:Int):=by omega
 rw[hsg]
 clear hsg hd hr hγ hy
 by_cases hb1:bb=1
 ·subst hb1
  clear hbb
  go_enter Tryz.func140,Tryz.ntmps140
  go_wp2_with fail
  go_ret
  exact⟨rfl,rfl⟩
 ·obtain rfl:bb=0:=by omega
  clear hbb hb1
  go_enter Tryz.func140,Tryz.ntmps140
  go_wp2_with fail
  go_ret
  exact⟨rfl,rfl⟩
theorem ball_any (s:ByteArray) (tau:Nat) (w:World) (ht1 : 1≤tau) (ht2:tau≤64) (hs:s.size=544):
 Calls Tryz.prog 85 #[.string s,.int .i64 (tau:Int)] w fun x w'=>x=.returned (.agg (FL .i64 256 (bl (bys s) tau tau).1))∧Below w.heap.size w w':=by
 obtain⟨hz,hsize⟩:=zero_of_info polt.infoP
 obtain⟨z,HZ⟩:=ex_eq (FL .i64 256 fun _=>0)
 rw[HZ.out]at hz
 have Hzs:Away (z.size=256):=⟨by rw[←HZ.out];exact fl_size _ _ _⟩
 obtain⟨R,HR⟩:=ex_eq (FL .i64 256 (bl (bys s) tau tau).1)
 have Ri:Away ((Tryz.prog.info? 76).map (·.size)=some R.size):=⟨by rw[←HR.out,fl_size];exact hsize⟩
 have Ro:Away (R.all (·.oneCell')=true):=⟨by rw[←HR.out];exact fl_one _ _ _⟩
 have Rz:Away (z.size=R.size):=⟨by rw[Hzs.out,←HR.out,fl_size]⟩
 have HRd:Away (FL .i64 256 (bl (bys s) tau tau).1=R):=HR
 rw[HR.out]
 have Hix:Away (∀ j:Nat,j<544→∀ w1:World,(Instr.index 9 (.string s) (.int .i64 (j:Int))).run Tryz.prog w1=.ok (.int .u8 ((by' (bys s) j:Nat):Int)) w1):=⟨fun j hj w1=>byte_of s j _ (by omega) rfl w1⟩
 have Hsign:Away (∀ t:Nat,t<64→∀ w1:World,Calls Tryz.prog 140 #[.string s,.int .i64 (t:Int)] w1 fun e w'=>e=.returned (.int .i64 (sgn (bys s) t))∧w'=w1):=⟨fun t ht w1=>sign_any s t (by omega) (by omega) w1⟩
 obtain⟨W1,hW⟩:∃ x,(w.alloc (.cells z 76)).alloc (.cells z 76)=x:=⟨_,rfl⟩
 obtain⟨r0,r1,hWs,b0⟩:=two hW
 have R1:Away (W1.heap[w.heap.size]? = some (.cells z 76 (0,0))):=⟨r0⟩
 have A0:Away (At (w.heap.size+1) (FL .i64 256 (bl (bys s) tau 0).1) 76 W1 W1):=⟨by rw[bl,HZ.out];exact At.refl r1⟩
 have B1:=Away.mk b0
 have HW:=Away.mk hW
 have hszi:(s.size:Int)=544:=by omega
 obtain⟨i0,hi0⟩:∃ i0,256-tau=i0:=⟨_,rfl⟩
 have fi0:IntKind.i64.wrap (256-(tau:Int))=(i0:Int):=by rw[IntKind.wrap_i64];omega
 have fi0' : 256-(tau:Int)=(i0:Int):=by omega
 have Hi0:=Away.mk hi0
 clear hW r0 r1 b0 hWs hsize HR hi0 hs
 go_enter Tryz.func85,Tryz.ntmps85
 go_wp2_with (rw[HW.out])
 clear hz fi0'
 go_loopw [7,8] (fun c v wr=>∃ t a f:Nat,t≤tau∧a≤544∧544≤a+f∧nx (bys s) (i0+t) f a=nx (bys s) (i0+t) 544 (bl (bys s) tau t).2∧c=.int .i64 ((i0+t:Nat):Int)∧v=.int .i64 (a:Int)∧Away (At (w.heap.size+1) (FL .i64 256 (bl (bys s) tau t).1) 76 W1 wr)) (fun _ v _=>544-(intOf v).toNat)
 case atStart=>exact⟨0,8,544,Nat.zero_le _,by decide,by decide,by rw[bl],rfl,rfl,A0⟩
 case round=>
  clear A0
  obtain⟨t,a,f,ht,ha,hf,hnx,rfl,rfl,A0⟩:=hrel
  have BE:Away (Below w.heap.size w wr):=⟨B1.out.trans (A0.out.below B1.out.size (by omega))⟩
  obtain⟨o,hoo⟩:∃ o,(bl (bys s) tau t).1=o:=⟨_,rfl⟩
  obtain⟨a0,ha0⟩:∃ a0,(bl (bys s) tau t).2=a0:=⟨_,rfl⟩
  rw[ha0]at hnx
  obtain⟨i,hi⟩:∃ i,i0+t=i:=⟨_,rfl⟩
  rw[hi]at hnx ⊢
  have Hi:Away (256-tau+t=i):=⟨by rw[Hi0.out];exact hi⟩
  have Hi':=Away.mk hi
  by_cases hgo:a<544∧t<tau
  ·obtain⟨hlt,htt⟩:=hgo
   rw[hoo]at A0
   have Ho:=Away.mk hoo
   have Ha0:=Away.mk ha0
   have hi256:i<256:=by have:=Hi0.out;omega
   have hiz:(i:Int)<256:=by omega
   have haz:(a:Int)<544:=by omega
   have hix:=Hix.out a hlt
   obtain⟨β,hβ⟩:∃ β,by' (bys s) a = β := ⟨_,rfl⟩
   have hβ8 : β < 256:=by rw[←hβ];exact by_lt s _
   rw[hβ]at hix
   have wβ : IntKind.i64.wrap (β : Int)=(β : Int):=by rw[IntKind.wrap_i64];omega
   clear hi hoo ha0
   by_cases hbig:i < β
   ·have hbz:(i:Int)<(β : Int):=by omega
    obtain⟨f,rfl⟩:∃ f',f=f'+1:=⟨f-1,by omega⟩
    rw[nx,if_pos ⟨hlt,by rw[hβ];exact hbig⟩]at hnx
    have Hnx:=Away.mk hnx
    have A1:Away (At (w.heap.size+1) (FL .i64 256 (bl (bys s) tau t).1) 76 W1 wr):=⟨by rw[Ho.out];exact A0.out⟩
    clear hβ hbig hnx A0
    go_wp2_with fail
    go_roundw
    case rel=>exact⟨t,a+1,f,by omega,by omega,by omega,by rw[Hi'.out,Ha0.out];exact Hnx.out,by rw[Hi'.out],by go_num,A1⟩
    case measure=>simp[intOf];omega
   ·have hbz:¬ (i:Int)<(β : Int):=by omega
    rw[nx_stop (bys s) i f a (by rw[hβ];omega)]at hnx
    obtain⟨v,hv⟩:∃ v,o β = v:=⟨_,rfl⟩
    have co:wr.cell? ⟨w.heap.size+1,β,none⟩=some (.int .i64 v):=by rw[←hv];exact fl_at A0.out.row β hβ8
    have fit:(i:Int)-(i0:Int)=(t:Int):=by have:=Hi'.out;omega
    have fitw:IntKind.i64.wrap ((i:Int)-(i0:Int))=(t:Int):=by rw[fit,IntKind.wrap_i64];omega
    obtain⟨g,hg⟩:∃ g,sgn (bys s) t=g:=⟨_,rfl⟩
    have Hsg:=Away.mk (Hsign.out t (by omega))
    rw[hg]at Hsg
    have Hbl:Away (bl (bys s) tau (t+1)=(upd (upd o i v) β g,a+1)):=⟨by
     rw[bl,Hi.out,Ha0.out,←hnx,Ho.out]
     show (if a=544 then _ else _)=_
     rw[if_neg (by omega),hβ,hv,hg]⟩
    have Hs1:Away (upd (upd o i v) β g=(bl (bys s) tau (t+1)).1):=⟨by rw[Hbl.out]⟩
    have Ha1:Away ((bl (bys s) tau (t+1)).2=a+1):=⟨by rw[Hbl.out]⟩
    clear hβ hv hg hnx hbig fit
    go_wp2_with ((with_reducible refine wpList_put2 (by assumption) rfl _ _ _ rfl rfl ?_);refine⟨_,_,_,rfl,rfl,rfl,(by rw[fl_size];omega),?_⟩;intro wn HRn;rw[fl_set]at HRn)
    refine(Hsg.out _).mono ?_
    rintro x wn ⟨rfl,rfl⟩
    go_wp2_with ((with_reducible refine wpList_put2 (by assumption) rfl _ _ _ rfl rfl ?_);refine⟨_,_,_,rfl,rfl,rfl,(by rw[fl_size];omega),?_⟩;intro wn HRm;rw[fl_set]at HRm)
    rw[Hs1.out]at HRm
    go_roundw
    case rel=>exact⟨t+1,a+1,544,by omega,by omega,by omega,by rw[Ha1.out],by rw[show ((i0+(t+1):Nat):Int)=(i:Int)+1 by have:=Hi'.out;omega],by go_num,HRm⟩
    case measure=>simp[intOf];omega
  ·have e1:FL .i64 256 (bl (bys s) tau t).1=R:=by
    rw[←HRd.out]
    by_cases htt:t=tau
    ·rw[htt]
    ·have ha5:a=544:=by omega
     subst ha5
     rw[nx_stop (bys s) i f 544 (by omega)]at hnx
     have hbl:bl (bys s) tau (t+1)=(o,544):=by
      rw[bl,Hi.out,ha0,←hnx,hoo]
      exact if_pos rfl
     rw[bl_end (bys s) tau (t+1) tau (by rw[hbl]) (by omega),hbl,hoo]
   rw[e1]at A0
   have Hrow:=Away.mk A0.out.row
   have Hres:Away (wr.heap[w.heap.size]? = some (.cells z 76 (0,0))):=⟨A0.out.other (lt_of_row R1.out) (by omega) R1.out⟩
   have hi6:i≤256:=by have:=Hi0.out;omega
   by_cases hlt:a<544
   ·have haz:(a:Int)<544:=by omega
    obtain rfl:t=tau:=by omega
    have hii:i=256:=by have:=Hi0.out;omega
    subst hii
    clear hgo A0 hoo ha0 hnx hi e1
    simp only[Int.cast_ofNat_Int]
    go_wp2_with (first
     | (refine wpList_load_row rfl 76 _ rfl (w.heap.size+1) rfl 76 R (0,0) _ Hrow.out Tryz.underlying76 rfl Ri.out ?_)
     | (refine wpList_store_row rfl 76 _ _ rfl w.heap.size R rfl rfl 76 _ Hres.out Ri.out Rz.out Ro.out ?_))
    refine bodyPost_ret_by (v:=.agg R) (results_cell_row rfl _ _ w.heap.size 76 _ (0,0) _ rfl (setRow_heap _ _ _ _ _ _ Hres.out) Tryz.underlying76 rfl Ri.out) rfl ?_
    exact⟨rfl,BE.out.trans (below_setRow _ _ _ (Nat.le_refl _))⟩
   ·obtain rfl:a=544:=by omega
    clear hgo A0 hoo ha0 hnx hi e1
    simp only[Int.cast_ofNat_Int]
    go_wp2_with (first
     | (refine wpList_load_row rfl 76 _ rfl (w.heap.size+1) rfl 76 R (0,0) _ Hrow.out Tryz.underlying76 rfl Ri.out ?_)
     | (refine wpList_store_row rfl 76 _ _ rfl w.heap.size R rfl rfl 76 _ Hres.out Ri.out Rz.out Ro.out ?_))
    refine bodyPost_ret_by (v:=.agg R) (results_cell_row rfl _ _ w.heap.size 76 _ (0,0) _ rfl (setRow_heap _ _ _ _ _ _ Hres.out) Tryz.underlying76 rfl Ri.out) rfl ?_
    exact⟨rfl,BE.out.trans (below_setRow _ _ _ (Nat.le_refl _))⟩
theorem Ball_bad {T:Array Value} (b:ByteArray) (tau:Int) (w:World) (h:¬ (1≤tau∧tau≤64)):
 Calls Tryz.prog 34 #[.agg T,.string b,.int .i64 tau] w fun x w'=>x=.returned (.agg (FL .i64 256 fun _=>0))∧Below w.heap.size w w':=by
 obtain⟨hz,hsize⟩:=zero_of_info polt.infoP
 obtain⟨z,HZ⟩:=ex_eq (FL .i64 256 fun _=>0)
 rw[HZ.out]at hz ⊢
 have Hzs:z.size=256:=by rw[←HZ.out];exact fl_size _ _ _
 have Zi:Away ((Tryz.prog.info? 76).map (·.size)=some z.size):=⟨by rw[Hzs];exact hsize⟩
 have Zo:Away (z.all (·.oneCell')=true):=⟨by rw[←HZ.out];exact fl_one _ _ _⟩
 obtain⟨W,hW⟩:∃ x,(w.alloc (.cells T 34)).alloc (.cells z 76)=x:=⟨_,rfl⟩
 obtain⟨r0,r1,hWs,b0⟩:=two hW
 have R0:Away (W.heap[w.heap.size+1]? = some (.cells z 76 (0,0))):=⟨r1⟩
 have BW:=Away.mk b0
 have HW:=Away.mk hW
 clear hW r0 r1 b0 hWs hsize HZ Hzs
 have h:tau<1∨(¬ tau<1∧64<tau):=by omega
 rcases h with h1 | ⟨h1,h2⟩
 all_goals
  go_enter Tryz.func34,Tryz.ntmps34
  go_wp2_with (first
   | (rw[HW.out])
   | (refine wpList_store_row rfl 76 _ _ rfl (w.heap.size+1) z rfl rfl 76 _ R0.out Zi.out rfl Zo.out ?_))
  refine bodyPost_ret_by (v:=.agg z) (results_cell_row rfl _ _ (w.heap.size+1) 76 _ (0,0) _ rfl (setRow_heap _ _ _ _ _ _ R0.out) Tryz.underlying76 rfl Zi.out) rfl ?_
  exact⟨rfl,BW.out.trans (below_setRow _ _ _ (Nat.le_succ _))⟩
theorem Ball_good {T:Array Value} (b s:ByteArray) (tau:Nat) (w:World) (hT:(Tryz.prog.info? 34).map (·.size)=some T.size) (ht1 : 1≤tau) (ht2:tau≤64) (hs:s.size=544)
 (HS:∀ w1:World,Below w.heap.size w w1→Calls Tryz.prog 78 #[.agg T,.int .i64 2,.string b,.int .i64 544] w1 fun e w'=>e=.returned (.tuple #[.string s,.int .i64 0])∧Below w1.heap.size w1 w'):
 Calls Tryz.prog 34 #[.agg T,.string b,.int .i64 (tau:Int)] w fun x w'=>x=.returned (.agg (FL .i64 256 (bl (bys s) tau tau).1))∧Below w.heap.size w w':=by
 obtain⟨hz,hsize⟩:=zero_of_info polt.infoP
 obtain⟨z,HZ⟩:=ex_eq (FL .i64 256 fun _=>0)
 rw[HZ.out]at hz
 have Hzs:Away (z.size=256):=⟨by rw[←HZ.out];exact fl_size _ _ _⟩
 have HU:Away (∀ w1:World,Calls Tryz.prog 85 #[.string s,.int .i64 (tau:Int)] w1 fun e w'=>e=.returned (.agg (FL .i64 256 (bl (bys s) tau tau).1))∧Below w1.heap.size w1 w'):=⟨fun w1=>ball_any s tau w1 ht1 ht2 hs⟩
 obtain⟨R,HR⟩:=ex_eq (FL .i64 256 (bl (bys s) tau tau).1)
 have Ri:Away ((Tryz.prog.info? 76).map (·.size)=some R.size):=⟨by rw[←HR.out,fl_size];exact hsize⟩
 have Ro:Away (R.all (·.oneCell')=true):=⟨by rw[←HR.out];exact fl_one _ _ _⟩
 have Rz:Away (z.size=R.size):=⟨by rw[Hzs.out,←HR.out,fl_size]⟩
 have HTz:=Away.mk hT
 rw[HR.out]at HU ⊢
 obtain⟨W,hW⟩:∃ x,(w.alloc (.cells T 34)).alloc (.cells z 76)=x:=⟨_,rfl⟩
 obtain⟨r0,r1,hWs,b0⟩:=two hW
 have T0:Away (W.heap[w.heap.size]? = some (.cells T 34 (0,0))):=⟨r0⟩
 have R0:Away (W.heap[w.heap.size+1]? = some (.cells z 76 (0,0))):=⟨r1⟩
 have BW:=Away.mk b0
 have HWs:=Away.mk hWs
 have HW:=Away.mk hW
 have HSh:=Away.mk (HS W b0)
 have g1:¬ (tau:Int)<1:=by omega
 have g2:¬ (64:Int)<(tau:Int):=by omega
 clear hW r0 r1 b0 hWs hsize HS hT HR hs
 go_enter Tryz.func34,Tryz.ntmps34
 go_wp2_with (first
  | (rw[HW.out])
  | (refine wpList_load_row rfl 34 _ rfl w.heap.size rfl 34 T (0,0) _ T0.out Tryz.underlying34 rfl HTz.out ?_))
 refine HSh.out.mono ?_
 rintro e u1 ⟨rfl,hb1⟩
 have R1:Away (u1.heap[w.heap.size+1]? = some (.cells z 76 (0,0))):=⟨(hb1.block _ (by rw[HWs.out];omega)).trans R0.out⟩
 have B1:Away (Below w.heap.size w u1):=⟨BW.out.trans (hb1.mono (by rw[HWs.out];omega))⟩
 have Hlt:Away (w.heap.size+1<u1.heap.size):=⟨lt_of_row R1.out⟩
 clear hb1 hz
 go_wp2_with fail
 refine(HU.out _).mono ?_
 rintro e u2 ⟨rfl,hb2⟩
 have R2:Away (u2.heap[w.heap.size+1]? = some (.cells z 76 (0,0))):=⟨(hb2.block _ Hlt.out).trans R1.out⟩
 have B2:Away (Below w.heap.size w u2):=⟨B1.out.trans (hb2.mono B1.out.size)⟩
 clear hb2
 go_wp2_with (refine wpList_store_row rfl 76 _ _ rfl (w.heap.size+1) R rfl rfl 76 _ R2.out Ri.out Rz.out Ro.out ?_)
 refine bodyPost_ret_by (v:=.agg R) (results_cell_row rfl _ _ (w.heap.size+1) 76 _ (0,0) _ rfl (setRow_heap _ _ _ _ _ _ R2.out) Tryz.underlying76 rfl Ri.out) rfl ?_
 exact⟨rfl,B2.out.trans (below_setRow _ _ _ (Nat.le_succ _))⟩
end qbal
end Go.Proofs.YtomphjajkkddkaaGreatDoor
namespace Go.Proofs.YtomphjajkkddkaaGreatDoor
namespace qmsk
open Go Go.RowKit
open arr mem stil polys polt rbitb rbitc rndm pols saml qpair qrow
theorem masks_yes {T:Array Value} (ln fn m p:Nat) (k e t a b o s:Int) (sd:ByteArray) (sk:Nat→ByteArray) (q:Nat→Nat→Int) (w:World) (hT:(Tryz.prog.info? 34).map (·.size)=some T.size) (hl : 1≤ln∧ln≤8) (hf:fn≤65000) (hm:m≤64) (hp : 32*m=p) (ha : 1≤a∧a≤524288) (h:latt k (ln:Int) e t a b o s=true) (hsd:sd.size≤1125899906842624)
 (HL:∀ w1:World,Calls Tryz.prog 127 #[.int .i64 (2*a-1)] w1 fun x w'=>x=.returned (.int .i64 (m:Int))∧w'=w1)
 (HS:∀ r:Nat,r<8→∀ w1:World,Below w.heap.size w w1→Calls Tryz.prog 78 #[.agg T,.int .i64 2,.string (tw sd ((fn+r)%256) ((fn+r) / 256)),.int .i64 (p:Int)] w1 fun x w'=>x=.returned (.tuple #[.string (sk r),.int .i64 0])∧Below w1.heap.size w1 w')
 (HU:∀ r:Nat,r<8→∀ w1:World,Calls Tryz.prog 108 #[.string (sk r),.int .i64 (a-1),.int .i64 a] w1 fun x w'=>x=.returned (.tuple #[.agg (FL .i64 256 (q r)),.int .i64 0])∧Below w1.heap.size w1 w'):
 Calls Tryz.prog 184 #[.agg T,.agg #[.int .i64 k,.int .i64 (ln:Int),.int .i64 e,.int .i64 t,.int .i64 a,.int .i64 b,.int .i64 o,.int .i64 s],.string sd,.int .i64 (fn:Int)] w fun x w'=>(∃ v1,x=.returned v1∧Holds w' w.heap.size v1 ln q)∧Below w.heap.size w w':=by
 have HR:Away (∀ w1:World,Calls Tryz.prog 49 #[.agg #[.int .i64 k,.int .i64 (ln:Int),.int .i64 e,.int .i64 t,.int .i64 a,.int .i64 b,.int .i64 o,.int .i64 s]] w1 fun e0 w'=>e0=.returned (.bool true)∧Below w1.heap.size w1 w'):=⟨fun w1=>by rw[←h];exact rright.right_any _ _ e t a b o s w1⟩
 obtain⟨i0,hi,hz0,hz1,hz2⟩:=parts infoPoly
 obtain⟨hz,hsize⟩:=zero_of_info polt.infoP
 obtain⟨z,HZ⟩:=ex_eq (FL .i64 256 fun _=>0)
 rw[HZ.out]at hz hz0
 have HI:=Away.mk (And.intro hi (And.intro hz0 (And.intro hz1 hz2)))
 clear hi hz0 hz1 hz2 hsize
 obtain⟨C,HC⟩:=ex_eq (#[.int .i64 k,.int .i64 (ln:Int),.int .i64 e,.int .i64 t,.int .i64 a,.int .i64 b,.int .i64 o,.int .i64 s]:Array Value)
 rw[HC.out]at HR ⊢
 have HCs:Away ((Tryz.prog.info? 37).map (·.size)=some C.size):=⟨by rw[←HC.out];kernel_rfl⟩
 obtain⟨W,hW⟩:∃ x,(w.alloc (.cells T 34)).alloc (.cells C 37)=x:=⟨_,rfl⟩
 obtain⟨r0,r1,hWs,b0⟩:=two hW
 have T0:Away (W.heap[w.heap.size]? = some (.cells T 34 (0,0))):=⟨r0⟩
 have L0:Away (W.heap[w.heap.size+1]? = some (.cells C 37 (0,0))):=⟨r1⟩
 have BW:=Away.mk b0
 have HWs:=Away.mk hWs
 have HW:=Away.mk hW
 have HSm:=Away.mk HS
 have HUn:=Away.mk HU
 have HLo:=Away.mk HL
 have HTz:=Away.mk hT
 have Hl:=Away.mk hl
 have Hsd:=Away.mk hsd
 have Ha:=Away.mk ha
 have Hm:=Away.mk (And.intro hm hp)
 have g1:¬ (fn:Int)<0:=by omega
 have g2:¬ (65000:Int)<(fn:Int):=by omega
 have Hf:=Away.mk hf
 clear hW r0 r1 b0 h HS HU HL hT hl hsd hWs ha hm hp hf
 go_enter Tryz.func184,Tryz.ntmps184
 go_wp2_with (first
  | (rw[HW.out])
  | (refine wpList_load_row rfl 37 _ rfl (w.heap.size+1) rfl 37 _ (0,0) _ L0.out Tryz.underlying37 rfl HCs.out ?_))
 refine(HR.out _).mono ?_
 rintro x u1 ⟨rfl,hb1⟩
 have B1:Away (Below w.heap.size w u1):=⟨BW.out.trans (hb1.mono (by rw[HWs.out];omega))⟩
 have T1:Away (u1.heap[w.heap.size]? = some (.cells T 34 (0,0))):=⟨(hb1.block _ (by rw[HWs.out];omega)).trans T0.out⟩
 have L1:Away (u1.heap[w.heap.size+1]? = some (.cells C 37 (0,0))):=⟨(hb1.block _ (by rw[HWs.out];omega)).trans L0.out⟩
 have cL:∀ w1:World,Below u1.heap.size u1 w1→w1.cell? ⟨w.heap.size+1,1,none⟩=some (.int .i64 (ln:Int)):=fun w1 hb=>cell_at ((hb.block _ (lt_of_row L1.out)).trans L1.out) (by rw[←HC.out];rfl)
 have cA:∀ w1:World,Below u1.heap.size u1 w1→w1.cell? ⟨w.heap.size+1,4,none⟩=some (.int .i64 a):=fun w1 hb=>cell_at ((hb.block _ (lt_of_row L1.out)).trans L1.out) (by rw[←HC.out];rfl)
 have HcA:=Away.mk cA
 have cA1:=cA u1 (Below.refl _ _)
 have cL1:=cL u1 (Below.refl _ _)
 have fa2:IntKind.i64.wrap (2*a)=2*a:=by rw[IntKind.wrap_i64];have:=Ha.out;omega
 have fa21:IntKind.i64.wrap (2*a-1)=2*a-1:=by rw[IntKind.wrap_i64];have:=Ha.out;omega
 have fm6:IntKind.i64.wrap (256*(m:Int))=256*(m:Int):=by rw[IntKind.wrap_i64];have:=Hm.out;omega
 have fm8:(256*(m:Int)).tdiv 8=(p:Int):=by rw[Int.tdiv_eq_ediv_of_nonneg (by omega)];have:=Hm.out;omega
 have fm9:(256*(m:Int)) / 8=(p:Int):=by have:=Hm.out;omega
 have fmw:IntKind.i64.wrap ((256*(m:Int)).tdiv 8)=(p:Int):=by rw[fm8,IntKind.wrap_i64];have:=Hm.out;omega
 have fpw:IntKind.i64.wrap (p:Int)=(p:Int):=by rw[IntKind.wrap_i64];have:=Hm.out;omega
 clear hb1 cL cA
 go_wp2_with fail
 refine(HLo.out _).mono ?_
 rintro x u1 ⟨rfl,rfl⟩
 have hln8:ln≤8:=Hl.out.2
 go_wp2_with (at_make;refine wpList_make_full _ rfl (.tmp 34) (.tmp 34) 44 rfl u1.heap.size 76 i0 (.agg z) 256 Tryz.underlying44 HI.out.1 HI.out.2.1 HI.out.2.2.1 .i64 .i64 ln ln ln rfl rfl rfl rfl (by rw[HI.out.2.2.2];omega) (by unfold maxLen;omega) (Nat.le_refl _) ?_)
 intro w3 hown hgr
 obtain⟨hrow,hb3⟩:=made_row HZ.out hown hgr
 have B3:Away (Below u1.heap.size u1 w3):=⟨hb3⟩
 have A3:Away (At u1.heap.size (RW ln (fst q 0)) 76 w3 w3):=⟨by rw[fst_zero];exact At.refl hrow⟩
 clear hown hgr hrow hb3 cA1 cL1 fa2 fa21 fm6 fm8 fm9 fmw
 go_wp2_with fail
 go_loopw [38] (fun v wr=>∃ r:Nat,r≤ln∧v=.int .i64 (r:Int)∧Away (At u1.heap.size (RW ln (fst q r)) 76 w3 wr)) (fun v _=>ln-(intOf v).toNat)
 case atStart=>exact⟨0,Nat.zero_le _,rfl,A3⟩
 case round=>
  clear A3
  obtain⟨r,hr,rfl,A0⟩:=hrel
  have BU:Away (Below u1.heap.size u1 wr):=⟨B3.out.trans (A0.out.below B3.out.size (Nat.le_refl _))⟩
  have BE:Away (Below w.heap.size w wr):=⟨B1.out.trans (BU.out.mono B1.out.size)⟩
  by_cases hlt:r<ln
  ·have hltz:(r:Int)<(ln:Int):=by omega
   have hr8:r<8:=by omega
   obtain⟨N,hN⟩:∃ N,fn+r=N:=⟨_,rfl⟩
   obtain⟨xx,hx⟩:∃ xx,N%256=xx:=⟨_,rfl⟩
   obtain⟨yy,hy⟩:∃ yy,N / 256=yy:=⟨_,rfl⟩
   have hN6:N≤65008:=by have:=Hf.out;omega
   have fnr:IntKind.i64.wrap ((fn:Int)+(r:Int))=(N:Int):=by rw[IntKind.wrap_i64];omega
   have f1:(N:Int).tmod 256=(xx:Int):=by rw[Int.tmod_eq_emod_of_nonneg (by omega)];omega
   have f2:(N:Int)%256=(xx:Int):=by omega
   have f3:(N:Int).tdiv 256=(yy:Int):=by rw[Int.tdiv_eq_ediv_of_nonneg (by omega)];omega
   have f4:(N:Int) / 256=(yy:Int):=by omega
   have f5:IntKind.i64.wrap ((N:Int).tdiv 256)=(yy:Int):=by rw[f3,IntKind.wrap_i64];omega
   have f6:IntKind.i64.wrap (yy:Int)=(yy:Int):=by rw[IntKind.wrap_i64];omega
   have T2:Away (wr.heap[w.heap.size]? = some (.cells T 34 (0,0))):=⟨(BU.out.block _ (lt_of_row T1.out)).trans T1.out⟩
   have HPr:Away (∀ w1:World,Calls Tryz.prog 84 #[.int .i64 (xx:Int),.int .i64 (yy:Int)] w1 fun e w'=>e=.returned (.string (x2 xx yy))∧Below w1.heap.size w1 w'):=⟨fun w1=>pair_any xx yy (by omega) (by omega) w1⟩
   have HSr:Away (∀ w1:World,Below w.heap.size w w1→Calls Tryz.prog 78 #[.agg T,.int .i64 2,.string (sd++x2 xx yy),.int .i64 (p:Int)] w1 fun x w'=>x=.returned (.tuple #[.string (sk r),.int .i64 0])∧Below w1.heap.size w1 w'):=⟨fun w1 hb=>by
    have:=HSm.out r hr8 w1 hb
    rw[hN,hx,hy]at this
    exact this⟩
   have HUr:=Away.mk (HUn.out r hr8)
   obtain⟨X,HX⟩:=ex_eq (x2 xx yy)
   rw[HX.out]at HPr HSr
   have hXs:X.size=2:=by rw[←HX.out];rfl
   have hsz:(9223372036854775807<sd.size+2)=False:=by have:=Hsd.out;simp;omega
   obtain⟨S,HSk⟩:=ex_eq (sk r)
   obtain⟨F,HF⟩:=ex_eq (FL .i64 256 (q r))
   rw[HSk.out]at HSr HUr
   rw[HF.out]at HUr
   have fa:IntKind.i64.wrap (a-1)=a-1:=by rw[IntKind.wrap_i64];have:=Ha.out;omega
   obtain⟨o6,ho6⟩:∃ o6,r*256=o6:=⟨_,rfl⟩
   have Ho6:=Away.mk ho6
   have Hlt:=Away.mk hlt
   clear hN hx hy HX
   go_wp2_with fail
   refine wp_region_quiet_below (by kernel_rfl) (by kernel_rfl) ?_
   refine wpQuiet_load rfl 34 _ rfl _ rfl 34 _ _ (fun w' hC=>heap_regrown T2.out hC) Tryz.underlying34 rfl HTz.out ?_
   iterate 5 (quiet_step (skip))
   quiet_step (exact Calls.regrown_of (HPr.out _))
   iterate 2 (quiet_step (skip))
   quiet_step (exact Calls.regrown_of (HSr.out _ (BE.out.trans ((below_regrown _ _ _).mono BE.out.size))))
   iterate 5 (quiet_step (skip))
   refine wpQuiet_nil ?_
   intro wn hC
   have hbn:Below wr.heap.size wr wn:=by
    obtain⟨pp,rfl⟩:=hC
    exact below_regrown _ _ _
   have A5:Away (At u1.heap.size (RW ln (fst q r)) 76 w3 wn):=⟨A0.out.later hbn⟩
   have BN:Away (Below u1.heap.size u1 wn):=⟨BU.out.trans (hbn.mono BU.out.size)⟩
   have cA5:=HcA.out wn BN.out
   clear hC hbn A0 f1 f2 f3 f4 f5 f6 fnr hXs hsz HPr HSr
   go_wp2_with fail
   refine(HUr.out _).mono ?_
   rintro x w6 ⟨rfl,hb6⟩
   have A6:Away (At u1.heap.size (RW ln (fst q r)) 76 w3 w6):=⟨A5.out.later hb6⟩
   clear hb6 cA5 A5
   go_wp2_with ((with_reducible refine wpList_putp A6 HF.out Hlt.out Ho6.out rfl _ _ rfl rfl ?hx ?hy ?_);(case hx=>exact rfl);(case hy=>exact rfl);intro w7 A7;rw[ups_fst]at A7)
   go_roundw
   case rel=>exact⟨r+1,by have:=Hlt.out;omega,by go_num,A7⟩
   case measure=>have:=Hlt.out;simp[intOf];omega
  ·obtain rfl:r=ln:=by omega
   have hH:Away (Holds wr w.heap.size (.slice (some ⟨u1.heap.size,0,none⟩) r r) r q):=⟨row_holds A0.out.row B1.out.size (fun i hi=>fst_lt q r i hi)⟩
   clear A0
   go_wp2_with fail
   go_ret
   exact⟨⟨_,rfl,hH.out⟩,BE.out⟩
end qmsk
end Go.Proofs.YtomphjajkkddkaaGreatDoor
namespace Go.Proofs.YtomphjajkkddkaaGreatDoor
namespace qdoc
open Go Go.RowKit
open arr mem keca kstep kturn spok polys polt pols rbita rbitc rbitf rbitg rndm samm samb samc saml samr rsdoc
theorem ball {T:Array Value} (b:ByteArray) (tau:Int) (w:World) (hK:KT T TL RL) (hP:Gp w) (hb:b.size≤1125899906842624):
 Calls Tryz.prog 34 #[.agg T,.string b,.int .i64 tau] w fun x w'=>x=.returned (.agg (FL .i64 256 (dB b tau)))∧Below w.heap.size w w':=by
 unfold dB
 by_cases h : 1≤tau∧tau≤64
 ·obtain⟨t,rfl⟩:=Int.eq_ofNat_of_zero_le (a:=tau) (by omega)
  rw[ball_in _ t (by omega) (by omega)]
  exact qbal.Ball_good b _ t w (infoT T hK) (by omega) (by omega) (out_size 2 b 544) (shake 2 b 544 w hK hP (Or.inr rfl) (by decide) hb)
 ·rw[ball_out _ _ h]
  exact qbal.Ball_bad b tau w h
theorem unsigned (s:ByteArray) (a:Int) (w:World) (ha:a=131072∨a=524288) (hs:s.size=32*mw a):
 Calls Tryz.prog 108 #[.string s,.int .i64 (a-1),.int .i64 a] w fun x w'=>x=.returned (.tuple #[.agg (FL .i64 256 (un (up s (mw a)) a)),.int .i64 0])∧Below w.heap.size w w':=by
 obtain⟨h1,h2,h3⟩:=mw_two a ha
 have hin:∀ i,0≤up s (mw a) i∧up s (mw a) i≤a-1+a:=fun i=>by have:=up_lt s (mw a) i;rw[h3]at this;omega
 refine puns.unsigned_good s (a-1) a w (up s (mw a)) (by omega) (by omega) (by omega) (by omega) (fun i _=>hin i) fun w1=>?_
 have h:=punp.unpack_any s (a-1+a) w1 (by omega) (by omega) (by rw[h1];exact hs)
 rw[h1,if_pos (show rbitd.inb (up s (mw a)) (a-1+a) from fun i _=>hin i)]at h
 exact h
theorem masks {T:Array Value} (ln fn:Nat) (k e t a b o s:Int) (sd:ByteArray) (w:World) (hK:KT T TL RL) (hP:Gp w) (hf:fn≤65000) (h:latt k (ln:Int) e t a b o s=true) (hsd:sd.size≤1000):
 Calls Tryz.prog 184 #[.agg T,.agg #[.int .i64 k,.int .i64 (ln:Int),.int .i64 e,.int .i64 t,.int .i64 a,.int .i64 b,.int .i64 o,.int .i64 s],.string sd,.int .i64 (fn:Int)] w fun x w'=>(∃ v1,x=.returned v1∧Holds w' w.heap.size v1 ln (qM sd a fn))∧Below w.heap.size w w':=by
 obtain⟨h1,h2,-,-,ha⟩:=latt_of h
 obtain⟨m1,m2,m3⟩:=mw_two a ha
 refine qmsk.masks_yes ln fn (mw a) (32*mw a) k e t a b o s sd (fun r=>out TL RL 2 (tw sd ((fn+r)%256) ((fn+r) / 256)) (32*mw a)) (qM sd a fn) w (infoT T hK) (by omega) hf m2 rfl (by omega) h (by omega) (fun w1=>?_) (fun r _ w1 hb=>?_) (fun r _ w1=>?_)
 ·have h3:=plong.long_any (2*a-1) (by omega) w1
  rw[show 2*a-1=a-1+a by omega,m1]at h3
  rw[show 2*a-1=a-1+a by omega]
  exact h3
 ·exact shake 2 _ (32*mw a) w hK hP (Or.inr rfl) (by omega) (by rw[tw_size];omega) w1 hb
 ·exact unsigned _ a w1 ha (out_size 2 _ _)
end qdoc
end Go.Proofs.YtomphjajkkddkaaGreatDoor
namespace Go.Proofs.YtomphjajkkddkaaGreatDoor.vpc
set_option linter.unusedSimpArgs false
open Go Go.RowKit
open arr mem stil polys polt pols nttl rndm saml rsdoc mlkm mlkb helda heldb rbita rbitb rbitc rbitd rbite rbitf rbitg rbitu rksz mlvr
theorem results_tmp4 {fn:Func} {t u v x:Tmp} (h:fn.results=#[.tmp t,.tmp u,.tmp v,.tmp x]) (tmps:Array Value) (P:Program) (w:World):
 (results fn tmps).run P w=.ok (.tuple #[tmps.getD t undef,tmps.getD u undef,tmps.getD v undef,tmps.getD x undef]) w:=by
 simp[results,h]
theorem parse_any (kn ln:Nat) (e t a b o s:Int) (x:ByteArray) (w:World) (h:latt (kn:Int) (ln:Int) e t a b o s=true):
 Calls Tryz.prog 13 #[.agg #[.int .i64 (kn:Int),.int .i64 (ln:Int),.int .i64 e,.int .i64 t,.int .i64 a,.int .i64 b,.int .i64 o,.int .i64 s],.string x] w fun r w'=>(∃ v,r=.returned v∧PV w' w.heap.size x kn ln a o s v)∧Below w.heap.size w w':=by
 obtain⟨hk,hl,-,ha,ho,hs⟩:=latt_all h
 have hk : 1≤kn∧kn≤8:=by omega
 have hl : 1≤ln∧ln≤8:=by omega
 have hmw:=(mw_two a ha).2.1
 obtain⟨om,rfl⟩:=Int.eq_ofNat_of_zero_le (a:=o) (by omega)
 have hom : 1≤om∧om≤100:=by omega
 obtain⟨l4,hl4⟩:∃ l4,(s / 4).toNat=l4:=⟨_,rfl⟩
 have hl4e:s / 4=(l4:Int):=by omega
 have hl4t:s.tdiv 4=(l4:Int):=by rw[Int.tdiv_eq_ediv_of_nonneg (by omega)];exact hl4e
 have hl4z:l4≤64:=by omega
 obtain⟨wd,hwd⟩:∃ wd,32*mw a=wd:=⟨_,rfl⟩
 have hwz:wd≤2048:=by omega
 obtain⟨tt,htt⟩:∃ tt,hAt ln a s=tt:=⟨_,rfl⟩
 have htt2:l4+wd*ln=tt:=by rw[←htt,←hl4,←hwd];rfl
 have htz:wd*ln≤16384:=Nat.le_trans (Nat.mul_le_mul hwz hl.2) (by decide)
 obtain⟨n3,hn3⟩:∃ y,sz3 kn ln a om s=y:=⟨_,rfl⟩
 have hn3e:n3=((tt+(om+kn):Nat):Int):=by
  rw[←hn3,sz_is h]
  unfold szV
  rw[htt,Int.toNat_natCast]
 have HRi:Away (∀ w1:World,Calls Tryz.prog 49 #[.agg #[.int .i64 (kn:Int),.int .i64 (ln:Int),.int .i64 e,.int .i64 t,.int .i64 a,.int .i64 b,.int .i64 (om:Int),.int .i64 s]] w1 fun e0 w'=>e0=.returned (.bool true)∧Below w1.heap.size w1 w'):=⟨fun w1=>by have h1:=rright.right_any kn ln e t a b om s w1;rw[h]at h1;exact h1⟩
 obtain⟨n1,hn1⟩:∃ y,sz1 kn=y:=⟨_,rfl⟩
 obtain⟨n2,hn2⟩:∃ y,sz2 kn ln e=y:=⟨_,rfl⟩
 have HSz:Away (∀ w1:World,Calls Tryz.prog 20 #[.agg #[.int .i64 (kn:Int),.int .i64 (ln:Int),.int .i64 e,.int .i64 t,.int .i64 a,.int .i64 b,.int .i64 (om:Int),.int .i64 s]] w1 fun e0 w'=>e0=.returned (.tuple #[.int .i64 n1,.int .i64 n2,.int .i64 n3])∧Below w1.heap.size w1 w'):=⟨fun w1=>by
  have h1:=ksz.sizes_any kn ln e t a b om s w1
  unfold szs at h1
  rw[if_pos h,hn1,hn2,hn3]at h1
  exact h1⟩
 obtain⟨L,HL⟩:=ex_eq (#[.int .i64 (kn:Int),.int .i64 (ln:Int),.int .i64 e,.int .i64 t,.int .i64 a,.int .i64 b,.int .i64 (om:Int),.int .i64 s]:Array Value)
 have HAn:Away (x.size=tt+(om+kn)→∀ w1:World,Calls Tryz.prog 52 #[.agg L,.string (x.extract l4 tt)] w1 fun r w'=>(∃ v,r=.returned v∧Holds w' w1.heap.size v ln (vZ x a s))∧Below w1.heap.size w1 w'):=⟨fun hx w1=>by
  rw[←HL.out]
  refine vpa.answers_of (kn:Int) ln wd e t a b om s _ _ w1 hl ha (by rw[size_extract _ _ _ (by omega) (by omega),Nat.mul_comm ln wd];omega) (by omega) fun i hi w2=>?_
  rw[kpu.part_of x l4 wd ln i hi (by omega) tt (Or.inr (by omega))]
  have h1:=qdoc.unsigned (x.extract (l4+wd*i) (l4+wd*i+wd)) a w2 ha (by
   have h2:=Nat.mul_le_mul_left wd (show i+1≤ln from hi)
   rw[Nat.mul_succ]at h2
   rw[size_extract _ _ _ (by omega) (by omega),hwd]
   omega)
  unfold vZ rdS rdU
  rw[hl4,hwd]
  exact h1⟩
 have HUh:Away (x.size=tt+(om+kn)→∀ w1:World,Calls Tryz.prog 50 #[.string (x.extract tt x.size),.int .i64 (om:Int),.int .i64 (kn:Int)] w1 fun e0 w'=>((okV x kn ln a om s∧∃ v,e0=.returned (.tuple #[v,.int .i64 0])∧Holds w' w1.heap.size v kn (vH x ln a om s))∨(¬ okV x kn ln a om s∧e0=.returned (.tuple #[.slice none 0 0,.int .i64 3])))∧Below w1.heap.size w1 w'):=⟨fun hx w1=>by
  have h1:=punh.unhints_any (x.extract tt x.size) kn om w1 hk.1 hk.2 hom.1 (by omega) (by rw[size_extract _ _ _ (by omega) (Nat.le_refl _)];omega)
  have e1:okV x kn ln a om s↔uok (fun j=>(bys (x.extract tt x.size)).getD j 0) om kn:=by
   unfold okV bV szV
   rw[htt,Int.toNat_natCast]
   exact⟨fun h=>h.2,fun h=>⟨hx,h⟩⟩
  have e2:vH x ln a om s=ply (fun j=>(bys (x.extract tt x.size)).getD j 0) om:=by
   unfold vH bV
   rw[htt,Int.toNat_natCast]
  rw[e1,e2]
  exact h1⟩
 have HCl:Away (∀ w1:World,Calls Tryz.prog 51 #[.string (x.extract 0 l4)] w1 fun e0 w'=>e0=.returned (.string (x.extract 0 l4))∧Below w1.heap.size w1 w'):=⟨fun w1=>pcut.sclone _ w1 (by rw[ByteArray.size_extract];omega)⟩
 have HS1:Away (vS x s=x.extract 0 l4):=⟨by unfold vS;rw[hl4]⟩
 rw[HL.out]at HRi HSz ⊢
 have HLs:Away ((Tryz.prog.info? 37).map (·.size)=some L.size):=⟨by rw[←HL.out];kernel_rfl⟩
 obtain⟨W,hW⟩:∃ y,w.alloc (.cells L 37)=y:=⟨_,rfl⟩
 obtain⟨r0,hWs,b0⟩:=one hW
 have LB:Away (∀ w':World,Below W.heap.size W w'→w'.heap[w.heap.size]? = some (.cells L 37 (0,0))):=⟨fun w' hb=>(hb.block _ (lt_of_row r0)).trans r0⟩
 have C7:∀ w':World,Below W.heap.size W w'→w'.cell? ⟨w.heap.size,7,none⟩=some (.int .i64 s):=fun w' hb=>cell_at (LB.out w' hb) (by rw[←HL.out];rfl)
 have C6:∀ w':World,Below W.heap.size W w'→w'.cell? ⟨w.heap.size,6,none⟩=some (.int .i64 (om:Int)):=fun w' hb=>cell_at (LB.out w' hb) (by rw[←HL.out];rfl)
 have C0:∀ w':World,Below W.heap.size W w'→w'.cell? ⟨w.heap.size,0,none⟩=some (.int .i64 (kn:Int)):=fun w' hb=>cell_at (LB.out w' hb) (by rw[←HL.out];rfl)
 have HC7:=Away.mk C7
 have HC6:=Away.mk C6
 have HC0:=Away.mk C0
 have BW:=Away.mk b0
 have HW:=Away.mk hW
 have Hno:Away (x.size≠tt+(om+kn)→¬ okV x kn ln a om s):=⟨fun hne hh=>hne (by have h1:=hh.1;unfold szV at h1;rw[htt,Int.toNat_natCast]at h1;exact h1)⟩
 have Hn3:=Away.mk hn3e
 have Htt2:=Away.mk htt2
 have Htb:Away (tt≤20000∧l4≤64):=⟨by omega⟩
 clear h hs ha hk hl hmw hl4 hl4z hwd hwz htt htz hn3 hn1 hn2 hn3e htt2 hW r0 hWs b0 C7 C6 C0 ho
 go_enter Tryz.func13,Tryz.ntmps13
 go_wp2_with (first
  | (rw[HW.out])
  | (refine wpList_load_row rfl 37 _ rfl w.heap.size rfl 37 _ (0,0) _ (LB.out _ (Below.refl _ _)) Tryz.underlying37 rfl HLs.out ?_))
 refine(HRi.out _).mono ?_
 rintro y u1 ⟨rfl,hb1⟩
 have E1:Away (Below W.heap.size W u1):=⟨hb1⟩
 clear hb1
 go_wp2_with (refine wpList_load_row rfl 37 _ rfl w.heap.size rfl 37 _ (0,0) _ (LB.out _ E1.out) Tryz.underlying37 rfl HLs.out ?_)
 refine(HSz.out _).mono ?_
 rintro y u2 ⟨rfl,hb2⟩
 have E2:Away (Below W.heap.size W u2):=⟨E1.out.trans (hb2.mono E1.out.size)⟩
 have D2:Away (Below w.heap.size w u2):=⟨BW.out.trans (E2.out.mono BW.out.size)⟩
 clear hb2
 by_cases hx:x.size=tt+(om+kn)
 ·have hne:((x.size:Int) != n3)=false:=by rw[Hn3.out,hx];simp
  have f1:IntKind.i64.wrap ((x.size:Int)-(om:Int))=((tt+kn:Nat):Int):=by rw[IntKind.wrap_i64];have:=Htb.out;omega
  obtain⟨q1,hq1⟩:∃ q1,tt+kn=q1:=⟨_,rfl⟩
  have f2:IntKind.i64.wrap ((q1:Int)-(kn:Int))=(tt:Int):=by rw[IntKind.wrap_i64];have:=Htb.out;omega
  rw[hq1]at f1
  have g1:tt≤x.size:=by omega
  have g2:l4≤tt:=by have:=Htt2.out;omega
  have g3:l4≤x.size:=by omega
  have f3:IntKind.i64.wrap (l4:Int)=(l4:Int):=by rw[IntKind.wrap_i64];have:=Htb.out;omega
  have HAq:=Away.mk (HAn.out hx)
  have HUq:=Away.mk (HUh.out hx)
  obtain⟨X1,HX1⟩:=ex_eq (x.extract tt x.size)
  obtain⟨X2,HX2⟩:=ex_eq (x.extract l4 tt)
  obtain⟨X3,HX3⟩:=ex_eq (x.extract 0 l4)
  have hX1:=HX1.out
  have hX2:=HX2.out
  have hX3:=HX3.out
  rw[hX1]at HUq
  rw[hX2]at HAq
  rw[hX3]at HCl HS1
  clear hx hq1
  go_wp2_with fail
  refine hk_begin (u2.heap.size) 13 [0,1,2,3,4,5,6,7,8,9,10,11,12] (by kernel_rfl) rfl rfl (by decide) (fun hS ops HO=>?_)
  simp only[List.filterMap_cons,fa,List.getElem?_cons_succ,List.getElem?_cons_zero]
  (refine hk_t (v:=?_) (by rw[←HO.out];kernel_rfl) (fun _ _ _ h=>h) ?_ hS ?_;rotate_left;focus (intro w9 h9;go_simp;first | done | with_reducible rfl);all_goals skip)
  simp only[Act.put,pa,pb,pc]
  (refine hk_t (v:=?_) (by rw[←HO.out];kernel_rfl) (fun _ _ _ h=>h) ?_ hS ?_;rotate_left;focus (intro w9 h9;have hc:=(fun w9 h9=>HC7.out w9 (E2.out.trans (h9.mono E2.out.size))) w9 h9;go_simp;first | done | with_reducible rfl);all_goals skip)
  iterate 4 (simp only[Act.put,pa,pb,pc];(refine hk_t (v:=?_) (by rw[←HO.out];kernel_rfl) (fun _ _ _ h=>h) ?_ hS ?_;rotate_left;focus (intro w9 h9;go_simp;first | done | with_reducible rfl);all_goals skip))
  simp only[Act.put,pa,pb,pc]
  (refine hk_t (v:=?_) (by rw[←HO.out];kernel_rfl) (fun _ _ _ h=>h) ?_ hS ?_;rotate_left;focus (intro w9 h9;have hc:=(fun w9 h9=>HC6.out w9 (E2.out.trans (h9.mono E2.out.size))) w9 h9;go_simp;first | done | with_reducible rfl);all_goals skip)
  iterate 2 (simp only[Act.put,pa,pb,pc];(refine hk_t (v:=?_) (by rw[←HO.out];kernel_rfl) (fun _ _ _ h=>h) ?_ hS ?_;rotate_left;focus (intro w9 h9;go_simp;first | done | with_reducible rfl);all_goals skip))
  simp only[Act.put,pa,pb,pc]
  (refine hk_t (v:=?_) (by rw[←HO.out];kernel_rfl) (fun _ _ _ h=>h) ?_ hS ?_;rotate_left;focus (intro w9 h9;have hc:=(fun w9 h9=>HC0.out w9 (E2.out.trans (h9.mono E2.out.size))) w9 h9;go_simp;first | done | with_reducible rfl);all_goals skip)
  iterate 3 (simp only[Act.put,pa,pb,pc];(refine hk_t (v:=?_) (by rw[←HO.out];kernel_rfl) (fun _ _ _ h=>h) ?_ hS ?_;rotate_left;focus (intro w9 h9;go_simp;first | done | with_reducible rfl);all_goals skip))
  simp only[Act.put,pa,pb,pc]
  refine hk_nil (by rw[←HO.out];kernel_rfl) ?_
  have E3:Away (Below W.heap.size W u2.drew):=⟨E2.out.trans (hS.mono E2.out.size)⟩
  have D3:Away (Below w.heap.size w u2.drew):=⟨D2.out.trans (hS.mono D2.out.size)⟩
  obtain⟨u3,hu3⟩:∃ y,u2.drew=y:=⟨_,rfl⟩
  rw[hu3]at E3 D3 ⊢
  clear hS HO hu3
  go_wp2_with fail
  refine hk_begin (u3.heap.size) 13 [0,1,2,3,4,5,6,7,8,9,10,11,12] (by kernel_rfl) rfl rfl (by decide) (fun hS ops HO=>?_)
  simp only[List.filterMap_cons,fa,List.getElem?_cons_succ,List.getElem?_cons_zero]
  iterate 4 ((refine hk_t (v:=?_) (by rw[←HO.out];kernel_rfl) (fun _ _ _ h=>h) ?_ hS ?_;rotate_left;focus (intro w9 h9;go_simp;first | done | with_reducible rfl);all_goals skip);simp only[Act.put,pa,pb,pc])
  (refine hk_t (v:=?_) (by rw[←HO.out];kernel_rfl) (fun _ _ _ h=>h) ?_ hS ?_;rotate_left;focus (intro w9 h9;have hc:=(fun w9 h9=>HC6.out w9 (E3.out.trans (h9.mono E3.out.size))) w9 h9;go_simp;first | done | with_reducible rfl);all_goals skip)
  simp only[Act.put,pa,pb,pc]
  (refine hk_t (v:=?_) (by rw[←HO.out];kernel_rfl) (fun _ _ _ h=>h) ?_ hS ?_;rotate_left;focus (intro w9 h9;go_simp;first | done | with_reducible rfl);all_goals skip)
  simp only[Act.put,pa,pb,pc]
  (refine hk_t (v:=?_) (by rw[←HO.out];kernel_rfl) (fun _ _ _ h=>h) ?_ hS ?_;rotate_left;focus (intro w9 h9;have hc:=(fun w9 h9=>HC0.out w9 (E3.out.trans (h9.mono E3.out.size))) w9 h9;go_simp;first | done | with_reducible rfl);all_goals skip)
  simp only[Act.put,pa,pb,pc]
  refine hk_s (by rw[←HO.out];kernel_rfl) (fun K hK=>?_)
  go_simp
  refine(HUq.out _).mono ?_
  rintro y w2 ⟨⟨hok,v,rfl,hv⟩ | ⟨hok,rfl⟩,hb2⟩
  ·have h2:=hS.trans (hb2.mono hS.size)
   refine hK _ _ h2 ?_
   clear hK K
   try simp only[Act.put,pa,pb,pc]
   iterate 5 ((refine hk_t (v:=?_) (by rw[←HO.out];kernel_rfl) (fun _ _ _ h=>h) ?_ h2 ?_;rotate_left;focus (intro w9 h9;go_simp;first | done | with_reducible rfl);all_goals skip);simp only[Act.put,pa,pb,pc])
   refine hk_nil (by rw[←HO.out];kernel_rfl) ?_
   have E4:Away (Below W.heap.size W w2):=⟨E3.out.trans (h2.mono E3.out.size)⟩
   have D4:Away (Below w.heap.size w w2):=⟨D3.out.trans (h2.mono D3.out.size)⟩
   have Hok:=Away.mk hok
   have Hv:Away (Holds w2 w.heap.size v kn (vH x ln a om s)):=⟨let ⟨g9,c9,e9,l9,m9,n9⟩:=hv;⟨g9,c9,e9,Nat.le_trans (Nat.le_trans D3.out.size hS.size) l9,m9,n9⟩⟩
   clear hS HO hb2 h2 hok hv
   go_wp2_with fail
   refine hk_begin (w2.heap.size) 15 [0,1,2,4,5,6,7,8,10,3,9,11,12,13,14] (by kernel_rfl) rfl rfl (by decide) (fun hS ops HO=>?_)
   simp only[List.filterMap_cons,fa,List.getElem?_cons_succ,List.getElem?_cons_zero]
   iterate 3 ((refine hk_t (v:=?_) (by rw[←HO.out];kernel_rfl) (fun _ _ _ h=>h) ?_ hS ?_;rotate_left;focus (intro w9 h9;go_simp;first | done | with_reducible rfl);all_goals skip);simp only[Act.put,pa,pb,pc])
   refine hk_l (by rw[←HO.out];kernel_rfl) (fun _ _ _ _ h=>h) 37 _ rfl w.heap.size rfl 37 L _ (fun w1 h1=>LB.out w1 (E4.out.trans (h1.mono E4.out.size))) Tryz.underlying37 rfl HLs.out hS ?_
   iterate 5 (simp only[Act.put,pa,pb,pc];(refine hk_t (v:=?_) (by rw[←HO.out];kernel_rfl) (fun _ _ _ h=>h) ?_ hS ?_;rotate_left;focus (intro w9 h9;go_simp;first | done | with_reducible rfl);all_goals skip))
   simp only[Act.put,pa,pb,pc]
   refine hk_s (by rw[←HO.out];kernel_rfl) (fun K hK=>?_)
   go_simp
   refine(HCl.out _).mono ?_
   rintro x w5 ⟨rfl,hb5⟩
   have h5:=hS.trans (hb5.mono hS.size)
   refine hK _ _ h5 ?_
   clear hK K
   try simp only[Act.put,pa,pb,pc]
   refine hk_s (by rw[←HO.out];kernel_rfl) (fun K hK=>?_)
   go_simp
   refine(HAq.out _).mono ?_
   rintro x w6 ⟨⟨v6,rfl,hv6⟩,hb6⟩
   have h6:=h5.trans (hb6.mono h5.size)
   refine hK _ _ h6 ?_
   clear hK K
   try simp only[Act.put,pa,pb,pc]
   iterate 4 ((refine hk_t (v:=?_) (by rw[←HO.out];kernel_rfl) (fun _ _ _ h=>h) ?_ h6 ?_;rotate_left;focus (intro w9 h9;go_simp;first | done | with_reducible rfl);all_goals skip);simp only[Act.put,pa,pb,pc])
   refine hk_nil (by rw[←HO.out];kernel_rfl) ?_
   have D6:Away (Below w.heap.size w w6):=⟨D4.out.trans (h6.mono D4.out.size)⟩
   have Hv6:Away (Holds w6 w.heap.size v6 ln (vZ x a s)):=⟨let ⟨g9,c9,e9,l9,m9,n9⟩:=hv6;⟨g9,c9,e9,Nat.le_trans (Nat.le_trans D4.out.size h5.size) l9,m9,n9⟩⟩
   have Hv7:Away (Holds w6 w.heap.size v kn (vH x ln a om s)):=⟨Hv.out.later h6⟩
   clear hS HO hb5 h5 hb6 h6 hv6
   go_wp2_with fail
   refine bodyPost_ret (results_tmp4 rfl _ _ _) rfl ?_
   exact⟨⟨_,rfl,Or.inl ⟨Hok.out,_,_,by rw[HS1.out];rfl,Hv6.out,Hv7.out⟩⟩,D6.out⟩
  ·have h2:=hS.trans (hb2.mono hS.size)
   refine hK _ _ h2 ?_
   clear hK K
   try simp only[Act.put,pa,pb,pc]
   iterate 5 ((refine hk_t (v:=?_) (by rw[←HO.out];kernel_rfl) (fun _ _ _ h=>h) ?_ h2 ?_;rotate_left;focus (intro w9 h9;go_simp;first | done | with_reducible rfl);all_goals skip);simp only[Act.put,pa,pb,pc])
   refine hk_nil (by rw[←HO.out];kernel_rfl) ?_
   have E4:Away (Below W.heap.size W w2):=⟨E3.out.trans (h2.mono E3.out.size)⟩
   have D4:Away (Below w.heap.size w w2):=⟨D3.out.trans (h2.mono D3.out.size)⟩
   have Hok:=Away.mk hok
   clear hS HO hb2 h2 hok
   go_wp2_with fail
   refine bodyPost_ret (results_tmp4 rfl _ _ _) rfl ?_
   exact⟨⟨_,rfl,Or.inr ⟨Hok.out,rfl⟩⟩,D4.out⟩
 ·have hne:((x.size:Int) != n3)=true:=by rw[Hn3.out];simp;omega
  have Hno2:=Away.mk (Hno.out hx)
  clear hx
  go_wp2_with fail
  refine bodyPost_ret (results_tmp4 rfl _ _ _) rfl ?_
  exact⟨⟨_,rfl,Or.inr ⟨Hno2.out,rfl⟩⟩,D2.out⟩
end Go.Proofs.YtomphjajkkddkaaGreatDoor.vpc
namespace Go.Proofs.YtomphjajkkddkaaGreatDoor
namespace fsize
open Go Go.RowKit
open arr mem stil polys polt fldm fld1
theorem one_any (g o:Nat) (h:Nat→Int) (w:World) (hc:∀ i,i<256→w.cell? ⟨g,o+i,none⟩=some (.int .i64 (h i))):
 Calls Tryz.prog 77 #[.pointer (some ⟨g,o,none⟩)] w fun e w'=>e=.returned (.int .i64 (cb h 256))∧w'=w:=by
 have Hc:=Away.mk hc
 clear hc
 go_enter Tryz.func77,Tryz.ntmps77
 go_wp2_with fail
 go_loopw [7,3] (fun v m wr=>∃ i:Nat,i≤256∧v=.int .i64 (i:Int)∧m=.int .i64 (cb h i)∧w=wr) (fun v _ _=>256-(intOf v).toNat)
 case atStart=>exact⟨0,Nat.zero_le _,rfl,rfl,rfl⟩
 case round=>
  obtain⟨i,hi,rfl,rfl,rfl⟩:=hrel
  by_cases hlt:i<256
  ·have hiz:(i:Int)<256:=by omega
   have cc:=Hc.out i hlt
   obtain⟨x,hx⟩:∃ x,h i=x:=⟨_,rfl⟩
   rw[hx]at cc
   obtain⟨m,hm⟩:∃ m,cb h i=m:=⟨_,rfl⟩
   have hmb:=cb_bound h i
   rw[hm]at hmb ⊢
   obtain⟨c,hcc⟩:=ex_eq (ce 8380417 x)
   have hcb:=ce_bound x
   rw[hcc.out]at hcb
   obtain⟨k,hk⟩:=ex_eq (-c)
   have Hs:Away (cb h (i+1)=max m (max c k)):=⟨by rw[cb,hm,hx,hcc.out,hk.out]⟩
   have Hx:∀ w1:World,Calls Tryz.prog 131 #[.int .i64 x,.int .i64 8380417] w1 fun e w'=>e=.returned (.int .i64 c)∧w'=w1:=fun w1=>by rw[←hcc.out];exact centre_any x 8380417 w1
   have hw:IntKind.i64.wrap (-c)=k:=by rw[IntKind.wrap_i64];have:=hk.out;omega
   clear hx hm
   go_wp2_with fail
   refine(Hx _).mono ?_
   rintro e w3 ⟨rfl,hw3⟩
   subst hw3
   go_wp2_with fail
   all_goals go_roundw
   case rel=>exact⟨i+1,by omega,by go_num,by rw[Hs.out];try congr 1<;>omega,by first | trivial | rfl⟩
   case measure=>simp[intOf];omega
  ·obtain rfl:i=256:=by omega
   simp only[Int.cast_ofNat_Int]
   go_wp2_with fail
   go_ret
   exact⟨rfl,rfl⟩
theorem size_any (g n c:Nat) (p:Nat→Nat→Int) (w:World) (hn:n≤1000000000000) (hc:∀ j,j<n→∀ i,i<256→w.cell? ⟨g,j*256+i,none⟩=some (.int .i64 (p j i))):
 Calls Tryz.prog 30 #[.slice (some ⟨g,0,none⟩) n c] w fun e w'=>e=.returned (.int .i64 (cbs p n))∧w'=w:=by
 have Hc:Away (∀ j,j<n→∀ w1:World,w=w1→Calls Tryz.prog 77 #[.pointer (some ⟨g,j*256,none⟩)] w1 fun e w'=>e=.returned (.int .i64 (cb (p j) 256))∧w1=w'):=⟨fun j hj w1 hw=>by subst hw;exact(one_any g (j*256) (p j) w (hc j hj)).mono fun _ _ h=>⟨h.1,h.2.symm⟩⟩
 clear hc
 go_enter Tryz.func30,Tryz.ntmps30
 go_wp2_with fail
 go_loopw [7,3] (fun v m wr=>∃ i:Nat,i≤n∧v=.int .i64 (i:Int)∧m=.int .i64 (cbs p i)∧w=wr) (fun v _ _=>n-(intOf v).toNat)
 case atStart=>exact⟨0,Nat.zero_le _,rfl,rfl,rfl⟩
 case round=>
  obtain⟨i,hi,rfl,rfl,rfl⟩:=hrel
  by_cases hlt:i<n
  ·have hiz:(i:Int)<(n:Int):=by omega
   have hcall:=Hc.out i hlt
   obtain⟨m,hm⟩:∃ m,cbs p i=m:=⟨_,rfl⟩
   have hmb:=cbs_bound p i
   rw[hm]at hmb ⊢
   obtain⟨b,hb⟩:∃ b,cb (p i) 256=b:=⟨_,rfl⟩
   have Hs:Away (cbs p (i+1)=max m b):=⟨by rw[cbs,hm,hb]⟩
   rw[hb]at hcall
   clear hm hb
   go_wp2_with fail
   refine(hcall _ rfl).mono ?_
   rintro e w3 ⟨rfl,hw3⟩
   subst hw3
   go_wp2_with fail
   all_goals go_roundw
   case rel=>exact⟨i+1,by omega,by go_num,by rw[Hs.out];try congr 1<;>omega,by first | trivial | rfl⟩
   case measure=>simp[intOf];omega
  ·obtain rfl:i=n:=by omega
   go_wp2_with fail
   go_ret
   exact⟨rfl,rfl⟩
end fsize
end Go.Proofs.YtomphjajkkddkaaGreatDoor
