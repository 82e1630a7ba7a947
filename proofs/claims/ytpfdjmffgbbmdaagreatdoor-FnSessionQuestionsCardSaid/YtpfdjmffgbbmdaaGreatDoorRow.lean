/-
  A reader of codes, and a list of structs of numbers of the call's own beside it.
-/
import Derived.Test.YtpfdjmffgbbmdaaGreatDoorDraw
import Derived.Test.YtpfdjmffgbbmdaaGreatDoorP3
import Derived.Deep.AppendLies
import Derived.WalkSpells
namespace Go.Proofs.YtpfdjmffgbbmdaaGreatDoor
open Go.RowKit
set_option linter.unusedVariables false
theorem own_farR {w w' : World} {base : Nat} {t : TypeId} {k n r : Nat} {v : Value} {xs : List Value} (h : w.ownsRow base t k v n xs) (f : Far w r w') (hr : r < base) : w'.ownsRow base t k v n xs := by
  refine ⟨h.1, ?_⟩
  rcases h.2 with hn | ⟨g, cap, cur, rfl, hb, hgg, rest⟩
  · exact .inl hn
  · refine .inr ⟨g, cap, cur, rfl, hb, ?_, rest⟩
    rw [f.block g (Array.getElem?_eq_some_iff.1 hgg).1 (by omega)]
    exact hgg
theorem Rdr.grownR {B r m : Nat} {w w' : World} {row : Option Nat} (h : Rdr B w r m) (hg : w.grownBy w' row) (hr : ∀ g, row = some g → r < g) : Rdr B w' r m := by
  have hne : ∀ b, b ≤ r → some b ≠ row := fun b hb e => by have := hr b e.symm; omega
  have hc : ∀ b o, b ≤ r → w'.cell? ⟨b, o, none⟩ = w.cell? ⟨b, o, none⟩ := fun b o hb =>
    World.cell?_of_block (w := w) (a := ⟨b, o, none⟩) (hg.block b (by have := h.top; omega) (hne b hb))
  obtain ⟨a, b, c, ⟨p, hp, hp2⟩, x, len, cap, hx, hl, hcode⟩ := h
  refine ⟨a, by have := hg.size; omega, (World.frozen?_of_block (w := w) (a := ⟨r, 1, none⟩) (hg.block r b (hne r (Nat.le_refl _)))).trans c, ⟨p, hp, (hc r 1 (Nat.le_refl _)).trans hp2⟩, x, len, cap, (hc r 0 (Nat.le_refl _)).trans hx, hl, ?_⟩
  rcases hcode with h0 | ⟨cb, off, rfl, hb, hall⟩
  · exact .inl h0
  · refine .inr ⟨cb, off, rfl, hb, fun i hi => ?_⟩
    obtain ⟨n, h0, h1, h2⟩ := hall i hi
    exact ⟨n, h0, h1, (hc _ _ (by omega)).trans h2⟩
/-- A reader, and a list of n structs of K cells beside it, that lies at base or behind. -/
structure Rq (T : TypeId) (K : Nat) (B : Nat) (w0 w : World) (r m base : Nat) (v : Value) (n : Nat) (xs : List Value) : Prop where
  rdr : Rdr B w r m
  far : Far w0 r w
  bel : Below B w0 w
  own : w.ownsRow base T K v n xs
  lo : r < base
  hi : base ≤ w.heap.size
section
variable {T : TypeId} {K B r m m' base n n' : Nat} {w0 w w' : World} {v v' : Value} {xs xs' : List Value}
theorem Rq.next (h : Rq T K B w0 w r m base v n xs) (rd : Rdr B w' r m') (bl : Below B w w') (fr : Far w r w') : Rq T K B w0 w' r m' base v n xs :=
  ⟨rd, h.far.trans fr, h.bel.trans bl, own_farR h.own fr h.lo, h.lo, Nat.le_trans h.hi fr.size⟩
theorem Rq.step (h : Rq T K B w0 w r m base v n xs) (st : Step B w r m' w') : Rq T K B w0 w' r m' base v n xs := h.next st.rdr st.bel st.far
theorem Rq.alloc (h : Rq T K B w0 w r m base v n xs) (c : Array Value) (t : TypeId) : Rq T K B w0 (w.alloc (.cells c t)) r m base v n xs :=
  h.next (h.rdr.alloc c t) ((Below.refl _ _).alloc h.rdr.le _) ((Far.refl _ _).alloc _)
theorem Rq.drew (h : Rq T K B w0 w r m base v n xs) : Rq T K B w0 w.drew r m base v n xs :=
  h.next h.rdr.drew ((Below.refl _ _).drew) ⟨Nat.le_refl _, fun _ _ _ => rfl⟩
theorem Rq.mono (h : Rq T K B w0 w r m base v n xs) (hm : m ≤ m') : Rq T K B w0 w r m' base v n xs := { h with rdr := h.rdr.mono hm }
theorem Rq.grown (h : Rq T K B w0 w r m base v n xs) (own : w'.ownsRow base T K v' n' xs') (hg : w.grownBy w' v.ownBlock) (h0 : w0.heap.size ≤ base) : Rq T K B w0 w' r m base v' n' xs' := by
  have hrow : ∀ k, v.ownBlock = some k → base ≤ k := fun k hk => (h.own.lt k hk).1
  refine ⟨h.rdr.grownR hg (fun g hg' => by have := hrow g hg'; have := h.lo; omega), ⟨Nat.le_trans h.far.size hg.size, fun b hb hr => ?_⟩, h.bel.grown hg h.rdr.le (fun k hk => by have := hrow k hk; have := h.rdr.low; have := h.lo; omega), own, h.lo, Nat.le_trans h.hi hg.size⟩
  rw [hg.block b (Nat.lt_of_lt_of_le hb h.far.size) (fun e => by have := hrow b e.symm; omega)]
  exact h.far.block b hb hr
theorem Rq.size (h : Rq T K B w0 w r m base v n xs) : w0.heap.size ≤ w.heap.size := h.far.size
end
end Go.Proofs.YtpfdjmffgbbmdaaGreatDoor
