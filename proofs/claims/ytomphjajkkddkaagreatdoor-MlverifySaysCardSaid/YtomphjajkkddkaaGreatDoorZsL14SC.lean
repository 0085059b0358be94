/-
  The statement MlverifySays (P14.1 to P14.3): its row and its card. Conditions: none, but what the row lists of three package variables (keccak's places, which is read, and two tables of unicode/utf8, which are not), which the card ties to the program's text; for every input that the form speaks of.
-/
import Derived.Test.YtomphjajkkddkaaGreatDoorRows
import Derived.Test.YtomphjajkkddkaaGreatDoorCards
import Derived.Test.YtomphjajkkddkaaGreatDoorTie
import Derived.Test.YtomphjajkkddkaaGreatDoorZs04
import Derived.Test.YtomphjajkkddkaaGreatDoorZs32
import Derived.Test.YtomphjajkkddkaaGreatDoorZs01
import Derived.Lay
import Derived.LaidMore
import Derived.Stop.Joined
import Derived.SevenTiedAt
import Derived.ShutString
import Derived.ProofKit
import Derived.OpenShut
import Derived.Carry
set_option maxRecDepth 100000
set_option maxHeartbeats 16000000
set_option linter.unusedSimpArgs false
set_option linter.unusedVariables false
open Go Go.RowKit
open Go renaming Value->aE,TypeId->aH
open Go.Proofs.Tryz renaming prog->aO
namespace Go.Proofs.YtomphjajkkddkaaGreatDoor
namespace l14sc
open Go Go.ChangeShapes Go.WideShapes Go.ChangeAt Go.RowKit
open Go.ChangeMaps (open_string)
open arr bT l14s
theorem own:ownKnob aO.godebug=none:=by kernel_rfl
theorem laidOut:laidOutB aO=true:=by kernel_rfl
theorem lifted(os:Os)(started:os.Started)(H:Type)(enc:aH × aE->H):
 ReturnsInHanded {} Tryz.checked os 3 .any (fun w args => (Rows.mlverifySaysSpec.pre enc aO Tryz.f3 [] false w args /\ laidMetH aO [("sigil/keccak.places", Rows.laid_sigil_keccak_places), ("unicode/utf8.acceptRanges", Rows.laid_unicode_utf8_acceptRanges), ("unicode/utf8.first", Rows.laid_unicode_utf8_first)] w) /\ sizedMet enc aO Tryz.f3 (OpenSpec.ofChange Rows.mlverifySaysSpec) false w args)
  (Rows.mlverifySaysSpec.post enc aO Tryz.f3 false true false false):=by
 refine returnsInHanded_of_change_and (C := Tryz.checked) (X := fun w _ => laidMetH aO [("sigil/keccak.places", Rows.laid_sigil_keccak_places), ("unicode/utf8.acceptRanges", Rows.laid_unicode_utf8_acceptRanges), ("unicode/utf8.first", Rows.laid_unicode_utf8_first)] w) (fun _ _ _ hh h => h.of_heap hh) own started (by kernel_rfl) Tryz.func3
  (ChangeSpec.witness_shaped (enc := enc) (C := Tryz.checked) (os := os) (X := fun w _ => laidMetH aO [("sigil/keccak.places", Rows.laid_sigil_keccak_places), ("unicode/utf8.acceptRanges", Rows.laid_unicode_utf8_acceptRanges), ("unicode/utf8.first", Rows.laid_unicode_utf8_first)] w) false (World.laidAll aO os [("sigil/keccak.places", Rows.laid_sigil_keccak_places), ("unicode/utf8.acceptRanges", Rows.laid_unicode_utf8_acceptRanges), ("unicode/utf8.first", Rows.laid_unicode_utf8_first)]) #[.agg #[.string ByteArray.empty, .string ByteArray.empty, .string ByteArray.empty, .string ByteArray.empty], .int .i64 0, .int .i64 0] 8 (World.laidAll_os _ _ _) (World.shaped_of_ZipB (by kernel_rfl) (by kernel_rfl)) (by kernel_rfl) (by kernel_rfl) (by kernel_rfl)
   (by rw[MakeChecks.laidMetH_plain _ _ _ (by kernel_rfl)];exact laidMet_laidAll _ (by kernel_rfl) (by kernel_rfl))) ?_
 intro W base args ds gs before hval0 hW _ _ hL _;have hval:∀ (j:Nat) t v,Tryz.f3.params[j]? = some t->args[j]? = some v->Value.okWide aO W .any base t v:=hval0;have hW':=hW;have hlt:=hW.lt;obtain⟨p,q,hA0,hV,rfl,hfz,hnd⟩:=hW;have hA:DataW.TrodAll enc aO W 0 (fun _=>true) true Tryz.f3.params.toList args.toList ds p:=hA0;rw[Tryz.params3]at hA hval;obtain⟨v0,vs0,d0,ds0,p0,q0,hargs,rfl,rfl,h0,r0⟩:=trodAll_cons hA;obtain⟨v1,vs1,d1,ds1,p1,q1,rfl,rfl,rfl,h1,r1⟩:=trodAll_cons r0;obtain⟨v2,vs2,d2,ds2,p2,q2,rfl,rfl,rfl,h2,r2⟩:=trodAll_cons r1;obtain⟨rfl,rfl,rfl⟩:=trodAll_nil r2;obtain rfl:args=#[v0,v1,v2]:=by cases args;simp_all
 obtain⟨rfl,rfl⟩:=trodVars_none hV;obtain⟨a0,b0,c0,d0,rfl,rfl,rfl⟩:=opfs.xwg Tryz.underlying22 Tryz.underlying9 (by kernel_rfl) (by kernel_rfl) (hval 0 22 v0 rfl rfl) h0;obtain⟨a1,rfl,rfl,rfl,w1⟩:=open_int Tryz.underlying3 (hval 1 3 v1 rfl rfl) h1;obtain⟨a2,rfl,rfl,rfl,w2⟩:=open_int Tryz.underlying3 (hval 2 3 v2 rfl rfl) h2;have hG:=laid3.gp_of hL;clear hA0 hval0 hL;refine(walk a0 b0 c0 d0 a1 a2 W w1 w2 hG).mono fun e W' ⟨he,bel⟩=>?_
 subst he;exact⟨_,rfl,_,_,_,[],_,[],hW',trodAll_mk1 (shut_bool Tryz.underlying4 _),(trodAll_cons_mk (Below.trod laidOut (by kernel_rfl) (lZ (by kernel_rfl)) h0 bel (fun x hx=>by first | exact absurd hx (by simp) | exact hlt x (by simpa using hx) | exact hlt x (by simp;exact kW hx) | exact hlt x (by simp;exact kO hx) | exact hlt x (by simp;exact kO (kW hx)) | exact hlt x (by simp;exact kO (kO hx)))) (trodAll_cons_mk (Below.trod laidOut (by kernel_rfl) (lZ (by kernel_rfl)) h1 bel (fun x hx=>by first | exact absurd hx (by simp) | exact hlt x (by simpa using hx) | exact hlt x (by simp;exact kW hx) | exact hlt x (by simp;exact kO hx) | exact hlt x (by simp;exact kO (kW hx)) | exact hlt x (by simp;exact kO (kO hx)))) (trodAll_cons_mk (Below.trod laidOut (by kernel_rfl) (lZ (by kernel_rfl)) h2 bel (fun x hx=>by first | exact absurd hx (by simp) | exact hlt x (by simpa using hx) | exact hlt x (by simp;exact kW hx) | exact hlt x (by simp;exact kO hx) | exact hlt x (by simp;exact kO (kW hx)) | exact hlt x (by simp;exact kO (kO hx)))) trodAll_mk0))),rfl,bel.frame _,fun h=>by cases h⟩
theorem over:Rows.MlverifySaysSaid:=
 OpenClaim.holds_of_wide 3 Tryz.f3 rfl rfl rfl rfl rfl rfl rfl ⟨rfl,rfl,rfl,rfl,rfl⟩ rfl rfl rfl rfl rfl (by kernel_rfl) Tryz.func3 (by kernel_rfl)
  (lZ (by kernel_rfl)) (by unfold Func.isWrapper;first | (rw[iP (by decide +kernel)];kernel_rfl) | (rw[iQ (by decide +kernel)];exact⟨rfl,rfl⟩))
  (fun os started H enc _=>lifted os started H enc)
theorem proved:Rows.MlverifySaysCardSaid:=
 Claim7.holds_tied_plain_at .later [] [.data,.data,.pinned] true _ false
  over (fun _ h=>by cases h) (by kernel_rfl) (fun _ h=>by cases h) mlverifySays_row_tie rfl ⟨rfl,rfl⟩ (by kernel_rfl) rfl
  (fun f fn hf hfn=>by
   obtain rfl : f = 3 := kF ((show aO.funcNamed "sigil/sigillaw14.MlverifySays" = some 3 by kernel_rfl).symm.trans hf) |>.symm
   obtain rfl:fn=Tryz.f3:=(kF (Tryz.func3.symm.trans hfn)).symm;exact⟨by kernel_rfl,fun j t ht=>by
    rw[Tryz.params3]at ht;have hm:t∈[22,3,3]:=by simpa using Array.mem_of_getElem? ht
    have hall:([22,3,3].all fun u => !Tryz.prog.wantsStandIn u)=true:=by kernel_rfl
    exact(show aO.wantsStandIn t=false by simpa using lN.1 hall t hm)⟩)
  (by kernel_rfl)
end l14sc
end Go.Proofs.YtomphjajkkddkaaGreatDoor
