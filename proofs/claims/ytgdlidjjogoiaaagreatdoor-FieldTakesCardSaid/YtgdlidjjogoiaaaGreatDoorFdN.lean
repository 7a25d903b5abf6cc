/-
  field's When, at the two texts of the document's examples. No conditions.
-/
import Derived.Test.YtgdlidjjogoiaaaGreatDoorFdM
import Derived.Deep.QuietTactic
import Derived.BigQuiet
import Derived.Laws.Cover1
namespace Go.Proofs.YtgdlidjjogoiaaaGreatDoor
open Go.RowKit
open Fdd
set_option linter.unusedVariables false
set_option maxRecDepth 20000 in
set_option maxHeartbeats 1000000 in
theorem when_yes (w : World) : Calls Tryz.prog 14 #[.string ⟨#[48, 50, 50, 57, 50, 51, 53, 57, 53, 57]⟩] w fun e w' => e = .returned (.bool true) ∧ Turn nowhere w w' := by
  have how := only_walk [48, 50, 50, 57, 50, 51, 53, 57, 53, 57] dec (by decide) dec_ascii w
  rw [show onlyOf [48, 50, 50, 57, 50, 51, 53, 57, 53, 57] dec = true from by decide] at how
  have e0 : (ByteArray.mk #[48, 50, 50, 57, 50, 51, 53, 57, 53, 57]).extract 0 2 = ByteArray.mk #[48, 50] := by kernel_rfl
  have e1 : (ByteArray.mk #[48, 50, 50, 57, 50, 51, 53, 57, 53, 57]).extract 2 4 = ByteArray.mk #[50, 57] := by kernel_rfl
  have e2 : (ByteArray.mk #[48, 50, 50, 57, 50, 51, 53, 57, 53, 57]).extract 4 6 = ByteArray.mk #[50, 51] := by kernel_rfl
  have e3 : (ByteArray.mk #[48, 50, 50, 57, 50, 51, 53, 57, 53, 57]).extract 6 8 = ByteArray.mk #[53, 57] := by kernel_rfl
  have e4 : (ByteArray.mk #[48, 50, 50, 57, 50, 51, 53, 57, 53, 57]).extract 8 10 = ByteArray.mk #[53, 57] := by kernel_rfl
  go_enter Tryz.func14, Tryz.ntmps14
  go_upto_region 3 with (go_at_call 29; refine how.mono ?_; rintro e w1 ⟨rfl, ht⟩)
  go_quiet (fail)
  clear e0 e1 e2 e3 e4 how
  go_wp2
  go_ret
  exact ⟨rfl, ht.drewN nq⟩

set_option maxRecDepth 20000 in
set_option maxHeartbeats 1000000 in
theorem when_no (w : World) : Calls Tryz.prog 14 #[.string ⟨#[48, 50, 51, 48, 48, 48, 48, 48, 48, 48]⟩] w fun e w' => e = .returned (.bool false) ∧ Turn nowhere w w' := by
  have how := only_walk [48, 50, 51, 48, 48, 48, 48, 48, 48, 48] dec (by decide) dec_ascii w
  rw [show onlyOf [48, 50, 51, 48, 48, 48, 48, 48, 48, 48] dec = true from by decide] at how
  have e0 : (ByteArray.mk #[48, 50, 51, 48, 48, 48, 48, 48, 48, 48]).extract 0 2 = ByteArray.mk #[48, 50] := by kernel_rfl
  have e1 : (ByteArray.mk #[48, 50, 51, 48, 48, 48, 48, 48, 48, 48]).extract 2 4 = ByteArray.mk #[51, 48] := by kernel_rfl
  have e2 : (ByteArray.mk #[48, 50, 51, 48, 48, 48, 48, 48, 48, 48]).extract 4 6 = ByteArray.mk #[48, 48] := by kernel_rfl
  have e3 : (ByteArray.mk #[48, 50, 51, 48, 48, 48, 48, 48, 48, 48]).extract 6 8 = ByteArray.mk #[48, 48] := by kernel_rfl
  have e4 : (ByteArray.mk #[48, 50, 51, 48, 48, 48, 48, 48, 48, 48]).extract 8 10 = ByteArray.mk #[48, 48] := by kernel_rfl
  go_enter Tryz.func14, Tryz.ntmps14
  go_upto_region 3 with (go_at_call 29; refine how.mono ?_; rintro e w1 ⟨rfl, ht⟩)
  go_quiet (fail)
  clear e0 e1 e2 e3 e4 how
  go_wp2
  go_ret
  exact ⟨rfl, ht.drewN nq⟩

end Go.Proofs.YtgdlidjjogoiaaaGreatDoor
