/-
  Sessions (chapter 17): a line that is a sentence.
-/
import Derived.Test.YtpfdjmffgbbmdaaGreatDoorSess
namespace Go.Proofs.YtpfdjmffgbbmdaaGreatDoor
open Go.RowKit
set_option linter.unusedVariables false
set_option maxRecDepth 100000
theorem pre_dollar (x : ByteArray) : Lib.hasPrefix x.data.toList [36] = decide ((S.lst x).head? = some 36) := by
  show Lib.hasPrefix (S.lst x) [36] = _
  cases S.lst x with
  | nil => rfl
  | cons b t =>
    by_cases h : b = 36
    · subst h; simp [Lib.hasPrefix]
    · have h' : ¬ (36 : UInt8) = b := fun e => h e.symm
      have : ((36 : UInt8) == b) = false := beq_eq_false_iff_ne.2 h'
      simp [Lib.hasPrefix, h, List.isPrefixOf, this]
theorem exec_fix (b : Nat) (x : ByteArray) (w : World) (hx : (S.lst x).head? = some 36) (r : Value) (R : World → Prop) (h : Calls Tryz.prog 43 #[.pointer (some ⟨b, 0, none⟩), .string x] w fun e w' => e = .returned r ∧ R w') : Calls Tryz.prog 24 #[.pointer (some ⟨b, 0, none⟩), .string x] w fun e w' => e = .returned r ∧ R w' := by
  have P := Tryz.strings_HasPrefix x { data := #[36] } w
  rw [show ({ data := #[36] } : ByteArray).data.toList = [36] from rfl, pre_dollar, decide_eq_true hx] at P
  have HP := Lib.hid P
  have HH := Lib.hid h
  clear P h hx
  go_enter Tryz.func24, Tryz.ntmps24
  go_wp2_with fail
  refine HP.out.mono ?_
  rintro e w1 ⟨rfl, rfl⟩
  go_wp2_with fail
  refine HH.out.mono ?_
  rintro e w2 ⟨rfl, hR⟩
  go_wp2
  go_ret
  exact ⟨rfl, hR⟩
end Go.Proofs.YtpfdjmffgbbmdaaGreatDoor
