/-
  The statement MlsignMessage (P13.1): its row and its card. Conditions: none, but what the row lists of keccak's variable 'places', which the card ties to the program's text; for every input that the form speaks of.
-/
import Derived.Test.YtgahcabgmfbhdaaGreatDoorZm18
import Derived.Test.YtgahcabgmfbhdaaGreatDoorZm02
import Derived.Test.YtgahcabgmfbhdaaGreatDoorRows
import Derived.Test.YtgahcabgmfbhdaaGreatDoorCards
import Derived.Test.YtgahcabgmfbhdaaGreatDoorTie
import Derived.Test.YtgahcabgmfbhdaaGreatDoorZm04
import Derived.ShutString
import Derived.ProofKit
import Derived.OpenShut
import Derived.Carry
import Derived.SevenTiedAt
set_option maxRecDepth 100000
set_option maxHeartbeats 16000000
namespace Go.Proofs.YtgahcabgmfbhdaaGreatDoor.l13m
set_option linter.unusedSimpArgs false
open Go Go.RowKit
open arr mem polys polt pols kturn rndm mlsm mgr mgi
section
variable {P:Program}
theorem run_part_str (w:World) {e:TypeId} (he:P.underlying e=some .string) {xs:Array Value} {i:Nat} {v:Value} (hx:xs[i]? = some v):(part e xs i).run P w=.ok v w:=by
 have h:(isAgg e).run P w=.ok false w:=by
  unfold isAgg
  rw[Sem.run_bind,run_underlying he w]
  simp
 unfold part
 simp[Sem.run_bind,h,hx]
theorem run_eq_two (w:World) (d:Nat) {t e:TypeId} {i:TypeInfo} (ht:P.underlying t=some (.array 2 e)) (hi:P.info? e=some i) (hc:P.cellsOf e=1) (he:P.underlying e=some .string) (x y z u:ByteArray):
 (Op.equalIn (d+2) t (.agg #[.string x,.string y]) (.agg #[.string z,.string u])).run P w=.ok (x.toList==z.toList && y.toList==u.toList) w:=by
 rw[run_equalIn_array w (d+1) _ _ ht hi,hc]
 have h0:∀ a b:ByteArray,(part e #[Value.string a,.string b] 0).run P w=.ok (.string a) w:=fun a b=>run_part_str w he rfl
 have h1:∀ a b:ByteArray,(part e #[Value.string a,.string b] 1).run P w=.ok (.string b) w:=fun a b=>run_part_str w he rfl
 have hr:List.range 2=[0,1]:=rfl
 rw[hr]
 simp only[Op.eqItems,Nat.mul_one,Nat.zero_mul,Nat.one_mul,Sem.run_bind,h0,h1,Result.andThen_ok,run_equalIn_string w d e _ _ he]
 cases hab:(x.toList==z.toList)
 ·simp
 ·cases hcd:(y.toList==u.toList)
  ·simp[Sem.run_bind,h1,Result.andThen_ok,run_equalIn_string w d e _ _ he,hcd]
  ·simp[Sem.run_bind,h1,Result.andThen_ok,run_equalIn_string w d e _ _ he,hcd]
end
theorem infoS:(Tryz.prog.info? 9).map (·.size)=some 1:=by kernel_rfl
theorem eq_two (x y z u:ByteArray) (w:World):(Op.equalIn 10000 46 (.agg #[.string x,.string y]) (.agg #[.string z,.string u])).run Tryz.prog w=.ok (x.toList==z.toList && y.toList==u.toList) w:=by
 obtain⟨i,hi⟩:=eqa.info_of infoS
 exact run_eq_two w 9998 Tryz.underlying46 hi (by kernel_rfl) Tryz.underlying9 x y z u
theorem loop_is (bs:ByteArray):∀ (k i:Nat) (r:List UInt8),bs.size-i=k→ByteArray.toList.loop bs i r=r.reverse++bs.data.toList.drop i
 | 0,i,r,h=>by
  rw[ByteArray.toList.loop,if_neg (by omega),List.drop_eq_nil_of_le (by show bs.data.size≤i;have:bs.size=bs.data.size:=rfl;omega),List.append_nil]
 | k+1,i,r,h=>by
  have hi:i<bs.data.toList.length:=by show i<bs.data.size;have:bs.size=bs.data.size:=rfl;omega
  rw[ByteArray.toList.loop,if_pos (by omega),loop_is bs k (i+1) _ (by omega),List.reverse_cons,List.append_assoc,List.drop_eq_getElem_cons hi]
  have e:bs.get! i=bs.data.toList[i]:=by
   show bs.data[i]! = _
   rw[getElem!_pos bs.data i hi]
   rfl
  rw[e]
  rfl
theorem ne_list {x y:ByteArray} (h:x≠y):(x.toList==y.toList)=false:=by
 have e:∀ b:ByteArray,b.toList=b.data.toList:=fun b=>by rw[ByteArray.toList,loop_is b b.size 0 [] rfl];rfl
 rw[e,e]
 exact beq_false_of_ne fun h2=>h (ByteArray.ext (Array.ext' h2))
theorem message_any (c x:ByteArray) (w:World):Calls Tryz.prog 13 #[.string c,.string x] w fun e w'=>e=.returned (resM c x)∧Below w.heap.size w w':=by
 unfold resM
 by_cases h:c.size≤255∧x.size≤60000
 ·rw[if_pos h]
  exact message_good c x w h.1 h.2
 ·rw[if_neg h]
  refine(message_bad c x w (by omega)).mono ?_
  rintro e w' ⟨rfl,rfl⟩
  exact⟨rfl,Below.refl _ _⟩
theorem near (a0 a1 b0 b1 ma mb:ByteArray) (ca cb:Int) (w:World) (hP:Gp w) (HA:∀ w1:World,Calls Tryz.prog 13 #[.string a0,.string a1] w1 fun e w'=>e=.returned (.tuple #[.string ma,.int .i64 ca])∧Below w1.heap.size w1 w') (HB:∀ w1:World,Calls Tryz.prog 13 #[.string b0,.string b1] w1 fun e w'=>e=.returned (.tuple #[.string mb,.int .i64 cb])∧Below w1.heap.size w1 w')
 (h:(ca != 0)=true∨(ca != 0)=false∧(cb != 0)=true∨(ca != 0)=false∧(cb != 0)=false∧(ma=mb↔a0=b0∧a1=b1)):
 Calls Tryz.prog 5 #[.agg #[.string a0,.string a1],.agg #[.string b0,.string b1]] w fun e w'=>e=.returned (.bool true)∧Below w.heap.size w w':=by
 have HA:=Away.mk HA
 have HB:=Away.mk HB
 obtain⟨W,hW⟩:∃ x,(w.alloc (.cells #[.string a0,.string a1] 46)).alloc (.cells #[.string b0,.string b1] 46)=x:=⟨_,rfl⟩
 obtain⟨r0,r1,hWs,bW⟩:=two hW
 have HW:=Away.mk hW
 have BW:Away (Below w.heap.size w W):=⟨bW⟩
 have F0:Away (∀ w':World,Below W.heap.size W w'→w'.heap[w.heap.size]? = some (.cells #[.string a0,.string a1] 46 (0,0))∧w'.cell? ⟨w.heap.size,0,none⟩=some (.string a0)∧w'.cell? ⟨w.heap.size,1,none⟩=some (.string a1)):=⟨fun w' hb=>by
  have h1:=(hb.block _ (lt_of_row r0)).trans r0
  exact⟨h1,cell_at h1 rfl,cell_at h1 rfl⟩⟩
 have F1:Away (∀ w':World,Below W.heap.size W w'→w'.heap[w.heap.size+1]? = some (.cells #[.string b0,.string b1] 46 (0,0))∧w'.cell? ⟨w.heap.size+1,0,none⟩=some (.string b0)∧w'.cell? ⟨w.heap.size+1,1,none⟩=some (.string b1)):=⟨fun w' hb=>by
  have h1:=(hb.block _ (lt_of_row r1)).trans r1
  exact⟨h1,cell_at h1 rfl,cell_at h1 rfl⟩⟩
 have GP:Away (∀ w':World,Below W.heap.size W w'→Gp w'):=⟨fun w' hb=>hP.later (bW.trans (hb.mono bW.size))⟩
 clear hW r0 r1 hWs bW hP
 have c0:=(F0.out W (Below.refl _ _)).2.1
 have c1:=(F0.out W (Below.refl _ _)).2.2
 go_enter Tryz.func5,Tryz.ntmps5
 go_wp2_with (rw[HW.out])
 refine(HA.out _).mono ?_
 rintro e w1 ⟨rfl,hb1⟩
 have E1:Away (Below W.heap.size W w1):=⟨hb1⟩
 have c2:=(F1.out w1 hb1).2.1
 have c3:=(F1.out w1 hb1).2.2
 clear hb1 c0 c1
 go_wp2_with fail
 refine(HB.out _).mono ?_
 rintro e w2 ⟨rfl,hb2⟩
 have E2:Away (Below W.heap.size W w2):=⟨E1.out.trans (hb2.mono E1.out.size)⟩
 clear hb2 c2 c3
 have HAw:=Away.mk (mgw.awake_any w2 (GP.out _ E2.out))
 have R0:=(F0.out w2 E2.out).1
 have R1:=(F1.out w2 E2.out).1
 have d0:=(F0.out w2 E2.out).2.1
 have d1:=(F0.out w2 E2.out).2.2
 have d2:=(F1.out w2 E2.out).2.1
 have d3:=(F1.out w2 E2.out).2.2
 have q0:=eq_two a0 a1 b0 b1 w2
 clear R0 R1
 rcases h with h1 | ⟨h1,h2⟩ | ⟨h1,h2,h3⟩
 ·go_wp2_with fail
  refine HAw.out.mono ?_
  rintro e w3 ⟨rfl,hb3⟩
  have B3:Below w.heap.size w w3:=BW.out.trans ((E2.out.trans (hb3.mono E2.out.size)).mono BW.out.size)
  go_wp2_with fail
  go_ret
  exact⟨rfl,B3⟩
 ·go_wp2_with fail
  refine HAw.out.mono ?_
  rintro e w3 ⟨rfl,hb3⟩
  have B3:Below w.heap.size w w3:=BW.out.trans ((E2.out.trans (hb3.mono E2.out.size)).mono BW.out.size)
  go_wp2_with fail
  go_ret
  exact⟨rfl,B3⟩
 ·by_cases e0:a0=b0
  ·subst e0
   by_cases e1:a1=b1
   ·subst e1
    have em:ma=mb:=h3.2 ⟨rfl,rfl⟩
    subst em
    have q1:∀ x:ByteArray,(x.toList==x.toList)=true:=fun x=>BEq.rfl
    rw[q1,q1,Bool.and_self]at q0
    have q2:=q1 ma
    clear q1 h3
    go_wp2_with fail
    refine HAw.out.mono ?_
    rintro e w3 ⟨rfl,hb3⟩
    have B3:Below w.heap.size w w3:=BW.out.trans ((E2.out.trans (hb3.mono E2.out.size)).mono BW.out.size)
    go_wp2_with fail
    go_ret
    exact⟨rfl,B3⟩
   ·have q1:=ne_list e1
    have q2:=ne_list (fun em=>e1 (h3.1 em).2)
    rw[q1,Bool.and_false]at q0
    go_wp2_with fail
    refine HAw.out.mono ?_
    rintro e w3 ⟨rfl,hb3⟩
    have B3:Below w.heap.size w w3:=BW.out.trans ((E2.out.trans (hb3.mono E2.out.size)).mono BW.out.size)
    go_wp2_with fail
    go_ret
    exact⟨rfl,B3⟩
  ·have q1:=ne_list e0
   have q2:=ne_list (fun em=>e0 (h3.1 em).1)
   rw[q1,Bool.false_and]at q0
   go_wp2_with fail
   refine HAw.out.mono ?_
   rintro e w3 ⟨rfl,hb3⟩
   have B3:Below w.heap.size w w3:=BW.out.trans ((E2.out.trans (hb3.mono E2.out.size)).mono BW.out.size)
   go_wp2_with fail
   go_ret
   exact⟨rfl,B3⟩
theorem res_two (c x:ByteArray):∃ (m:ByteArray) (k:Int),resM c x=.tuple #[.string m,.int .i64 k]:=by
 unfold resM
 split
 ·exact⟨_,_,rfl⟩
 ·exact⟨_,_,rfl⟩
theorem walk (a0 a1 b0 b1:ByteArray) (w:World) (hP:Gp w):Calls Tryz.prog 5 #[.agg #[.string a0,.string a1],.agg #[.string b0,.string b1]] w fun e w'=>e=.returned (.bool true)∧Below w.heap.size w w':=by
 have h0:=fun w1=>message_any a0 a1 w1
 have h1:=fun w1=>message_any b0 b1 w1
 by_cases ha:a0.size≤255∧a1.size≤60000
 ·have ea:resM a0 a1=.tuple #[.string (msg a0 a1),.int .i64 0]:=if_pos ha
  rw[ea]at h0
  by_cases hb:b0.size≤255∧b1.size≤60000
  ·have eb:resM b0 b1=.tuple #[.string (msg b0 b1),.int .i64 0]:=if_pos hb
   rw[eb]at h1
   exact near a0 a1 b0 b1 _ _ 0 0 w hP h0 h1 (Or.inr (Or.inr ⟨rfl,rfl,fun e=>mlsb.msg_inj (by omega) (by omega) e,fun e=>by rw[e.1,e.2]⟩))
  ·have eb:resM b0 b1=.tuple #[.string ⟨#[]⟩,.int .i64 5]:=if_neg hb
   rw[eb]at h1
   exact near a0 a1 b0 b1 _ _ 0 5 w hP h0 h1 (Or.inr (Or.inl ⟨rfl,rfl⟩))
 ·have ea:resM a0 a1=.tuple #[.string ⟨#[]⟩,.int .i64 5]:=if_neg ha
  rw[ea]at h0
  obtain⟨mb,cb,eb⟩:=res_two b0 b1
  rw[eb]at h1
  exact near a0 a1 b0 b1 _ _ 5 cb w hP h0 h1 (Or.inl rfl)
end Go.Proofs.YtgahcabgmfbhdaaGreatDoor.l13m
namespace Go.Proofs.YtgahcabgmfbhdaaGreatDoor.l13mc
open Go Go.ChangeShapes Go.WideShapes Go.ChangeAt Go.RowKit
open Go.ChangeMaps (open_string)
open arr kturn laids l13m
set_option linter.unusedVariables false
theorem own:ownKnob Tryz.prog.godebug=none:=by kernel_rfl
theorem laidOut:laidOutB Tryz.prog=true:=by kernel_rfl
theorem lifted (os:Os) (started:os.Started) (H:Type) (enc:TypeId × Value→H):
 ReturnsInHanded {} Tryz.checked os 5 .any (fun w args => (Rows.mlsignMessageSpec.pre enc Tryz.prog Tryz.f5 [] false w args ∧ laidMetH Tryz.prog [("sigil/keccak.places", Rows.laid_sigil_keccak_places)] w) ∧ sizedMet enc Tryz.prog Tryz.f5 (OpenSpec.ofChange Rows.mlsignMessageSpec) false w args)
  (Rows.mlsignMessageSpec.post enc Tryz.prog Tryz.f5 false true false false):=by
 refine returnsInHanded_of_change_and (C := Tryz.checked) (X := fun w _ => laidMetH Tryz.prog [("sigil/keccak.places", Rows.laid_sigil_keccak_places)] w) (fun _ _ _ hh h => h.of_heap hh) own started (by kernel_rfl) Tryz.func5
  (ChangeSpec.witness_shaped (enc := enc) (C := Tryz.checked) (os := os) (X := fun w _ => laidMetH Tryz.prog [("sigil/keccak.places", Rows.laid_sigil_keccak_places)] w) false (World.doorLaid Tryz.prog 400 os) #[.agg #[.string ByteArray.empty, .string ByteArray.empty], .agg #[.string ByteArray.empty, .string ByteArray.empty]] 8 rfl (World.shaped_of_RefB (by kernel_rfl) (by kernel_rfl)) (by kernel_rfl) (by kernel_rfl) (by kernel_rfl) (laids.door_met os _)) ?_
 intro W base args ds gs before hval0 hW _ _ hL _
 have hval:∀ (j:Nat) t v,Tryz.f5.params[j]? = some t→args[j]? = some v→Value.okWide Tryz.prog W .any base t v:=hval0
 have hW':=hW
 have hlt:=hW.lt
 obtain⟨p,q,hA0,hV,rfl,hfz,hnd⟩:=hW
 have hA:DataW.TrodAll enc Tryz.prog W 0 (fun _=>true) true Tryz.f5.params.toList args.toList ds p:=hA0
 rw[Tryz.params5]at hA hval
 obtain⟨v0,vs0,d0,ds0,p0,q0,hargs,rfl,rfl,h0,r0⟩:=trodAll_cons hA
 obtain⟨v1,vs1,d1,ds1,p1,q1,rfl,rfl,rfl,h1,r1⟩:=trodAll_cons r0
 obtain⟨rfl,rfl,rfl⟩:=trodAll_nil r1
 obtain rfl:args=#[v0,v1]:=by cases args;simp_all
 obtain⟨rfl,rfl⟩:=trodVars_none hV
 obtain⟨a0,b0,rfl,rfl,rfl⟩:=optws.open_strings2 Tryz.underlying46 Tryz.underlying9 (by kernel_rfl) (by kernel_rfl) (hval 0 46 v0 rfl rfl) h0
 obtain⟨a1,b1,rfl,rfl,rfl⟩:=optws.open_strings2 Tryz.underlying46 Tryz.underlying9 (by kernel_rfl) (by kernel_rfl) (hval 1 46 v1 rfl rfl) h1
 have hG:=laids.gp_of hL
 clear hA0 hval0 hL
 refine(walk a0 b0 a1 b1 W  hG).mono fun e W' ⟨he,bel⟩=>?_
 subst he
 exact⟨_,rfl,_,_,_,[],_,[],hW',trodAll_mk1 (shut_bool Tryz.underlying4 _),(trodAll_cons_mk (Below.trod laidOut (by kernel_rfl) (of_decide_eq_true (by kernel_rfl)) h0 bel (fun x hx=>by first | exact absurd hx (by simp) | exact hlt x (by simpa using hx) | exact hlt x (by simp;exact Or.inl hx) | exact hlt x (by simp;exact Or.inr hx) | exact hlt x (by simp;exact Or.inr (Or.inl hx)) | exact hlt x (by simp;exact Or.inr (Or.inr hx)))) (trodAll_cons_mk (Below.trod laidOut (by kernel_rfl) (of_decide_eq_true (by kernel_rfl)) h1 bel (fun x hx=>by first | exact absurd hx (by simp) | exact hlt x (by simpa using hx) | exact hlt x (by simp;exact Or.inl hx) | exact hlt x (by simp;exact Or.inr hx) | exact hlt x (by simp;exact Or.inr (Or.inl hx)) | exact hlt x (by simp;exact Or.inr (Or.inr hx)))) trodAll_mk0)),rfl,bel.frame _,fun h=>by cases h⟩
theorem over:Rows.MlsignMessageSaid:=
 OpenClaim.holds_of_wide 5 Tryz.f5 rfl rfl rfl rfl rfl rfl rfl ⟨rfl,rfl,rfl,rfl,rfl⟩ rfl rfl rfl rfl rfl (by kernel_rfl) Tryz.func5 (by kernel_rfl)
  (of_decide_eq_true (by kernel_rfl)) (by unfold Func.isWrapper;first | (rw[if_pos (by decide +kernel)];kernel_rfl) | (rw[if_neg (by decide +kernel)];exact⟨rfl,rfl⟩))
  (fun os started H enc _=>lifted os started H enc)
theorem proved:Rows.MlsignMessageCardSaid:=
 Claim7.holds_tied_plain_at .later [] [.data] true _ false
  over (fun _ h=>by cases h) (by kernel_rfl) (fun _ h=>by cases h) mlsignMessage_row_tie rfl ⟨rfl,rfl⟩ (by kernel_rfl) rfl
  (fun f fn hf hfn=>by
   obtain rfl : f = 5 := Option.some.inj ((show Tryz.prog.funcNamed "sigil/sigillaw13.MlsignMessage" = some 5 by kernel_rfl).symm.trans hf) |>.symm
   obtain rfl:fn=Tryz.f5:=(Option.some.inj (Tryz.func5.symm.trans hfn)).symm
   exact⟨by kernel_rfl,fun j t ht=>by
    rw[Tryz.params5]at ht
    have hm:t∈[46,46]:=by simpa using Array.mem_of_getElem? ht
    have hall:([46,46].all fun u => !Tryz.prog.wantsStandIn u)=true:=by kernel_rfl
    exact(show Tryz.prog.wantsStandIn t=false by simpa using List.all_eq_true.1 hall t hm)⟩)
  (by kernel_rfl)
end Go.Proofs.YtgahcabgmfbhdaaGreatDoor.l13mc
