/-
  Two sessions that are known line by line (chapter 17). No program is read here.
-/
import Derived.Test.YtpfdjmffgbbmdaaGreatDoorP1
import Derived.KernelRfl
namespace Go.Proofs.YtpfdjmffgbbmdaaGreatDoor
open Go.Lib
set_option linter.unusedVariables false
/-- A session without a fix. -/
def alarmT : List ByteArray := [{ data := #[97, 115, 107, 32, 51] }, { data := #[119, 97, 105, 116, 32, 53, 48] }, { data := #[97, 115, 107, 32, 51] }, { data := #[100, 97, 116, 101] }, { data := #[108, 101, 118, 101, 108] }]
theorem alarm_out : outT alarmT = [97, 108, 97, 114, 109, 10, 111, 107, 10, 97, 108, 97, 114, 109, 10, 49, 57, 56, 48, 45, 48, 49, 45, 48, 54, 10, 48, 10] := by kernel_rfl
/-- The sentence of a fix of day 100. -/
def fixS : ByteArray := X.ff (X.fy 8640000 5) (X.fm 8640000 5) (X.fd 8640000 5) (X.fs 8640000 5) (X.fn 8640000 5)
def fixT : List ByteArray := [{ data := #[108, 101, 118, 101, 108] }, fixS, { data := #[108, 101, 118, 101, 108] }, { data := #[97, 115, 107, 32, 49] }, { data := #[119, 97, 105, 116, 32, 49, 48, 48] }, { data := #[108, 101, 118, 101, 108] }]
theorem fix_out : outT fixT = [48, 10, 111, 107, 10, 50, 10, 56, 54, 52, 48, 48, 48, 48, 32, 49, 48, 48, 10, 111, 107, 10, 49, 10] := by kernel_rfl
end Go.Proofs.YtpfdjmffgbbmdaaGreatDoor
