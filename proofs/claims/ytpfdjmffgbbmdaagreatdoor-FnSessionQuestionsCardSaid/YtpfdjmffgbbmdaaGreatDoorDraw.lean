/-
  What the generators of inputs return: a number in a range, and nothing that was there has changed. Condition: the code has at most 1048576 bytes.
-/
import Derived.Test.YtpfdjmffgbbmdaaGreatDoorReader
namespace Go.Proofs.YtpfdjmffgbbmdaaGreatDoor
open Go.RowKit
set_option linter.unusedVariables false
theorem code_of {w : World} {a : Option Addr} {len cap : Nat} {zs : List Int} (h : IsRow .u8 w a len cap zs) (hl : len ≤ 1048576) : Code w a len ∧ len ≤ cap := by
  refine ⟨⟨hl, ?_, fun n hn => h.codes n hn⟩, ?_⟩
  · rcases h with ⟨_, h, _⟩ | ⟨x, h, _⟩
    · exact fun _ => h
    · exact fun e => by rw [h] at e; cases e
  · rcases h with ⟨_, h, h', _⟩ | ⟨x, _, h, _⟩ <;> omega
/-- Numbers of moderate size. -/
def Ints (lo hi : Int) : List Value → Prop
  | [] => True
  | .int .i64 z :: r => (lo ≤ z ∧ z ≤ hi) ∧ Ints lo hi r
  | _ => False
theorem ints_at (lo hi : Int) : ∀ (l : List Value), Ints lo hi l → ∀ i, i < l.length → ∃ z : Int, lo ≤ z ∧ z ≤ hi ∧ l[i]? = some (.int .i64 z)
  | [], _, i, hi' => absurd hi' (by simp)
  | .int .i64 z :: r, h, 0, _ => ⟨z, h.1.1, h.1.2, rfl⟩
  | .int .i64 z :: r, h, i + 1, hi' => ints_at lo hi r h.2 i (by simpa using hi')
/-- The cells of a list that was just made. -/
theorem made_cells (w : World) (c : Array Value) (t : TypeId) (n : Nat) (lo hi : Int) (hn : c.size = n) (h : Ints lo hi c.toList) :
    ∀ i, i < n → ∃ z : Int, lo ≤ z ∧ z ≤ hi ∧ (w.alloc (.cells c t)).cell? ⟨w.heap.size, i, none⟩ = some (.int .i64 z) := by
  intro i hi'
  obtain ⟨z, z0, z1, hz⟩ := ints_at lo hi c.toList h i (by simpa [hn] using hi')
  exact ⟨z, z0, z1, by rw [World.cell?_alloc_new]; simpa using hz⟩
theorem Rdr.later {B : Nat} {w w' : World} {r m : Nat} (h : Rdr B w r m) (hb : Below w.heap.size w w') : Rdr B w' r m :=
  h.keep hb.size (fun b o hlt => hb.cell (p := ⟨b, o, none⟩) hlt) (hb.frozen (p := ⟨r, 1, none⟩) h.top)
def W : Int := 10000000000
/-- A number that was drawn, of moderate size. -/
abbrev Drawn (B : Nat) (w : World) (r m : Nat) : Ending → World → Prop := Num B w r m (-10000000000) 10000000000
def FromCode (w : World) (e : Ending) (w' : World) : Prop := ∃ z : Int, e = .returned (.int .i64 z) ∧ -10000000000 ≤ z ∧ z ≤ 10000000000 ∧ Below w.heap.size w w'
/-- Two numbers, three numbers. -/
def FromCode2 (w : World) (e : Ending) (w' : World) : Prop := ∃ y z : Int, e = .returned (.tuple #[.int .i64 y, .int .i64 z]) ∧ (-10000000000 ≤ y ∧ y ≤ 10000000000) ∧ (-10000000000 ≤ z ∧ z ≤ 10000000000) ∧ Below w.heap.size w w'
def FromCode3 (w : World) (e : Ending) (w' : World) : Prop := ∃ x y z : Int, e = .returned (.tuple #[.int .i64 x, .int .i64 y, .int .i64 z]) ∧ (-10000000000 ≤ x ∧ x ≤ 10000000000) ∧ (-10000000000 ≤ y ∧ y ≤ 10000000000) ∧ (-10000000000 ≤ z ∧ z ≤ 10000000000) ∧ Below w.heap.size w w'
end Go.Proofs.YtpfdjmffgbbmdaaGreatDoor
