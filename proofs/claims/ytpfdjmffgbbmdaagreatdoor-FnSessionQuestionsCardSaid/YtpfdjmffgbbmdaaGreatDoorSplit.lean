/-
  The search for sentences, by the program and by the model: both return a list of the call's own with the texts that the search finds, and change nothing that was there.
-/
import Derived.Test.YtpfdjmffgbbmdaaGreatDoorRead
import Derived.Deep.AppendLies
import Derived.WalkSpells
namespace Go.Proofs.YtpfdjmffgbbmdaaGreatDoor
open Go.RowKit
set_option linter.unusedVariables false
set_option maxRecDepth 100000
theorem str_info : (Tryz.prog.info? 9).map (fun i => (i.zero, i.size, i.bytes)) = some (some (.string ByteArray.empty), 1, 16) := by kernel_rfl
def strs (T : List ByteArray) : List Value := T.map Value.string
theorem strs_len (T : List ByteArray) : (strs T).length = T.length := by simp [strs]
theorem strs_snoc (T : List ByteArray) (x : ByteArray) : strs T ++ [.string x] = strs (T ++ [x]) := by simp [strs]
/-- What the search returns. -/
def Spl (s : ByteArray) (T : List ByteArray) : Prop := (s.size ≤ 300 ∧ S.Run s 0 [] T) ∨ (300 < s.size ∧ T = [])
theorem Spl.same {s : ByteArray} {T T' : List ByteArray} (h : Spl s T) (h' : Spl s T') : T = T' := by
  rcases h with ⟨a, b⟩ | ⟨a, b⟩ <;> rcases h' with ⟨a', b'⟩ | ⟨a', b'⟩
  · exact b.same b'
  · omega
  · omega
  · rw [b, b']
theorem Spl.len {s : ByteArray} {T : List ByteArray} (h : Spl s T) : T.length ≤ 8 := by
  rcases h with ⟨a, b⟩ | ⟨a, b⟩
  · exact b.le.2 (by simp)
  · rw [b]; simp
def Texts (B : Nat) (w : World) (a : Option Addr) (c : Nat) (T : List ByteArray) : Prop := w.ownsRow B 9 1 (.slice a T.length c) T.length (strs T)
theorem Texts.keep {B : Nat} {w w' : World} {a : Option Addr} {c : Nat} {T : List ByteArray} (h : Texts B w a c T) (hb : Below w.heap.size w w') : Texts B w' a c T :=
  World.ownsRow.kept (row := none) h ⟨hb.os, hb.tape, hb.output, hb.size, fun j hj _ => hb.block j hj⟩ (by cases a <;> simp [Value.ownBlock])
theorem Texts.more {B B' : Nat} {w : World} {a : Option Addr} {c : Nat} {T : List ByteArray} (h : Texts B w a c T) (hB : B' ≤ B) : Texts B' w a c T := by
  refine ⟨h.1, ?_⟩
  rcases h.2 with hn | ⟨g, cap, cur, hv, hb, rest⟩
  · exact .inl hn
  · exact .inr ⟨g, cap, cur, hv, by omega, rest⟩
def Found (s : ByteArray) (w : World) (e : Ending) (w' : World) : Prop := ∃ a c T, e = .returned (.slice a T.length c) ∧ Spl s T ∧ Texts w.heap.size w' a c T ∧ Below w.heap.size w w'
/-- Two lists with the same texts. -/
theorem Texts.at_ {B : Nat} {w : World} {a : Option Addr} {c : Nat} {T : List ByteArray} (h : Texts B w a c T) (i : Nat) (hi : i < T.length) :
    ∃ g x, a = some ⟨g, 0, none⟩ ∧ B ≤ g ∧ g < w.heap.size ∧ T[i]? = some x ∧ w.cell? ⟨g, i, none⟩ = some (.string x) := by
  rcases h.2 with ⟨hv, hn⟩ | ⟨g, cap, cur, hv, hb, hgg, hle, hcap, hcs, htk⟩
  · omega
  · injection hv with e1 e2 e3
    subst e1
    refine ⟨g, T[i], rfl, hb, (Array.getElem?_eq_some_iff.1 hgg).1, List.getElem?_eq_getElem hi, ?_⟩
    have := World.ownsRow.cells h (g := g) rfl i (.string T[i]) (by unfold strs; rw [List.getElem?_map, List.getElem?_eq_getElem hi]; rfl)
    rw [show (Addr.add ⟨g, 0, none⟩ i) = ⟨g, i, none⟩ from by unfold Addr.add; split <;> simp_all] at this
    exact this
end Go.Proofs.YtpfdjmffgbbmdaaGreatDoor
