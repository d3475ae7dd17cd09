/- BundleForms: for every input the law returns true, and what it is handed reads as it did. No condition. -/
import Derived.Test.YtpbjkgpdkopgmaaGreatDoorRows
import Derived.Test.YtpbjkgpdkopgmaaGreatDoorCards
import Derived.Test.YtpbjkgpdkopgmaaGreatDoorTie
import Derived.Test.YtpbjkgpdkopgmaaGreatDoorG29
import Derived.Test.YtpbjkgpdkopgmaaGreatDoorShelf
import Derived.Test.YtpbjkgpdkopgmaaGreatDoorG00
import Derived.Test.YtpbjkgpdkopgmaaGreatDoorG33
import Derived.WalkKit
import Derived.ProofKit
import Derived.OpenShut
import Derived.ShutString
import Derived.ChangeOld
import Derived.Below
import Derived.LaidMore
import Derived.Lay
import Derived.SevenTiedAt
import Derived.Stop.Joined
set_option linter.unusedVariables false
set_option linter.unusedSimpArgs false
set_option linter.unnecessarySimpa false
namespace Go.Proofs.YtpbjkgpdkopgmaaGreatDoor.bundleForms
open Go.ChangeShapes Go.WideShapes Go.ChangeAt Go.RowKit
open Go.ChangeMaps (open_string shut_string)
theorem own:ownKnob Tryz.prog.godebug=none:=by kernel_rfl
theorem laidOut:laidOutB Tryz.prog=true:=by kernel_rfl
set_option maxRecDepth 100000 in
theorem lifted (os:Os) (started:os.Started) (H:Type) (enc:TypeId×Value→H) :
  ReturnsInHanded {} Tryz.checked os 7 .any (fun w args=>(Rows.bundleFormsSpec.pre enc Tryz.prog Tryz.f7 Rows.bundleFormsRow.domain false w args∧laidMetH Tryz.prog Rows.bundleFormsRow.laid w)∧sizedMet enc Tryz.prog Tryz.f7 (OpenSpec.ofChange Rows.bundleFormsSpec) false w args)
   (Rows.bundleFormsSpec.post enc Tryz.prog Tryz.f7 false true false false):=by
 refine returnsInHanded_laid_shaped (C:=Tryz.checked) (X:=fun w _=>laidMetH Tryz.prog Rows.bundleFormsRow.laid w) (fun _ _ _ hh h=>h.of_heap hh) own started (by kernel_rfl) Tryz.func7
  (ChangeSpec.witness_shaped (enc:=enc) (C:=Tryz.checked) (os:=os) (X:=fun w _=>laidMetH Tryz.prog Rows.bundleFormsRow.laid w) false (World.laidAll Tryz.prog os Rows.bundleFormsRow.laid) #[] 8 (World.laidAll_os _ _ _)
   (World.shaped_of_ZipB (by kernel_rfl) (by kernel_rfl)) (by kernel_rfl) (by kernel_rfl) (by kernel_rfl)
   (by rw [MakeChecks.laidMetH_plain _ _ _ (by kernel_rfl)];exact laidMet_laidAll _ (by kernel_rfl) (by kernel_rfl))) ?_
 intro W base args ds gs before hval0 hW hcnd hsh hL _
 have hTab:TabK W:=tabk_of_laid hL
 have hMax:MaxC W:=Tryz.laysM145.s1_3 W hsh
 have hval:∀ (j:Nat) t v,Tryz.f7.params[j]? = some t→args[j]? = some v→Value.okWide Tryz.prog W .any base t v:=hval0
 have hW':=hW
 obtain ⟨p,q,hA0,hV,rfl,hfz,hnd⟩:=hW
 have hA:DataW.TrodAll enc Tryz.prog W 0 (fun _=>true) true Tryz.f7.params.toList args.toList ds p:=hA0
 rw [Tryz.params7] at hA hval
 obtain ⟨hargs,rfl,rfl⟩:=trodAll_nil hA
 obtain rfl:args=#[]:=by cases args;simp_all
 obtain ⟨rfl,rfl⟩:=trodVars_none hV
 clear hA0 hval0
 refine (BundleForms_walk W hTab hMax ).mono fun e W' ⟨he,bel⟩=>?_
 subst he
 exact ⟨_,rfl,_,_,_,[],_,[],hW',trodAll_mk1 (shut_bool Tryz.underlying4 _),trodAll_mk0,rfl,bel.frame _,fun h=>by cases h⟩
theorem over:Rows.bundleFormsRow.holds Tryz.pinned (OpenSpec.ofChange Rows.bundleFormsSpec) :=
 OpenClaim.holds_of_wide 7 Tryz.f7 rfl rfl rfl rfl rfl rfl rfl ⟨rfl,rfl,rfl,rfl,rfl⟩ rfl rfl rfl rfl rfl (by kernel_rfl) Tryz.func7 (by kernel_rfl)
  (of_decide_eq_true (by kernel_rfl)) (by unfold Func.isWrapper;first | (rw [if_pos (by decide +kernel)];kernel_rfl) | (rw [if_neg (by decide +kernel)];exact ⟨rfl,rfl⟩))
  (fun os started H enc _=>lifted os started H enc)
end Go.Proofs.YtpbjkgpdkopgmaaGreatDoor.bundleForms
namespace Go.Proofs.YtpbjkgpdkopgmaaGreatDoor
theorem BundleForms_proved:Rows.BundleFormsCardSaid :=
 Claim7.holds_tied_plain_at .later [] [.data,.data,.pinned] true Rows.bundleFormsCard.stood.harness false bundleForms.over (fun _ h=>by cases h) (by kernel_rfl) (fun _ h=>by cases h) bundleForms_row_tie rfl ⟨rfl,rfl⟩ (by kernel_rfl) rfl
  (fun f fn hf hfn=>by
   obtain rfl : f = 7 := Option.some.inj ((show Tryz.prog.funcNamed "assayer/assayerlaw9.BundleForms" = some 7 by kernel_rfl).symm.trans hf) |>.symm
   obtain rfl:fn = Tryz.f7:=(Option.some.inj (Tryz.func7.symm.trans hfn)).symm
   exact ⟨by kernel_rfl,fun j t ht=>by
    rw [Tryz.params7] at ht
    simp at ht⟩)
  (by kernel_rfl)
#print axioms BundleForms_proved
end Go.Proofs.YtpbjkgpdkopgmaaGreatDoor
