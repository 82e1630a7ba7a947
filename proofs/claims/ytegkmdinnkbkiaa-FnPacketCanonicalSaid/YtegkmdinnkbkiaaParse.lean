/-
  Packets (chapter 10): the packet of bytes; the program's and the model's functions. (Written by wip/tools/gen_parse.py.)
-/
import Derived.Test.YtegkmdinnkbkiaaFormat
import Derived.Deep.Cut
namespace Go.Proofs.Ytegkmdinnkbkiaa
open Go.RowKit
set_option linter.unusedVariables false
set_option maxRecDepth 100000
/-- A block of numbers that can be written. -/
structure CN (w : World) (E : Nat) (l : List Int) : Prop where
  at_ : ∀ i, i < l.length → w.cell? ⟨E, i, none⟩ = some (.int .i64 (l.getD i 0)) ∧ w.frozen? ⟨E, i, none⟩ = false
theorem CN.new (w : World) (t : TypeId) : CN (w.alloc (.cells #[.int .i64 0, .int .i64 0, .int .i64 0, .int .i64 0, .int .i64 0, .int .i64 0, .int .i64 0, .int .i64 0] t)) w.heap.size [0, 0, 0, 0, 0, 0, 0, 0] := ⟨fun i hi => by
  rcases (by simp at hi; omega : i = 0 ∨ i = 1 ∨ i = 2 ∨ i = 3 ∨ i = 4 ∨ i = 5 ∨ i = 6 ∨ i = 7) with rfl | rfl | rfl | rfl | rfl | rfl | rfl | rfl <;> exact ⟨by simp, by simp⟩⟩
theorem CN.same {w w' : World} {E : Nat} {l : List Int} (h : CN w E l) (q : Same w w') : CN w' E l := by obtain ⟨k, rfl⟩ := q; exact ⟨h.at_⟩
theorem CN.bl {w w' : World} {E B : Nat} {l : List Int} (h : CN w E l) (hb : Below B w w') (hE : E < B) : CN w' E l := ⟨fun i hi => ⟨(hb.cell (p := ⟨E, i, none⟩) hE).trans (h.at_ i hi).1, (hb.frozen (p := ⟨E, i, none⟩) hE).trans (h.at_ i hi).2⟩⟩
theorem CN.set {w : World} {E : Nat} {l : List Int} (h : CN w E l) (j : Nat) (hj : j < l.length) (x : Int) : CN (w.setCell ⟨E, j, none⟩ (.int .i64 x)) E (l.set j x) := by
  refine ⟨fun i hi => ⟨?_, by simpa using (h.at_ i (by simpa using hi)).2⟩⟩
  rw [List.length_set] at hi
  by_cases e : i = j
  · subst e
    rw [World.cell?_setCell_same _ _ _ (h.at_ i hi).1, List.getD_eq_getElem?_getD, List.getElem?_set_self hi]; rfl
  · rw [World.cell?_setCell_other _ _ _ _ (fun k => e (by injection k with _ k _; exact k.symm)), (h.at_ i hi).1, List.getD_eq_getElem?_getD, List.getD_eq_getElem?_getD, List.getElem?_set_ne (fun k => e k.symm)]
namespace D
def pa (f : Nat → Int) : Int := f 0 / 64
def pb (f : Nat → Int) : Int := f 0 % 8
def pc (f : Nat → Int) : Int := f 1
def pd (f : Nat → Int) : Int := f 2
def pe (f : Nat → Int) : Int := num (fun i => f (3 + i)) 2
def pf (f : Nat → Int) : Int := num (fun i => f (5 + i)) 6
def pg (f : Nat → Int) : Int := num (fun i => f (11 + i)) 6
def ph (f : Nat → Int) : Int := num (fun i => f (17 + i)) 6
def Pok (n : Nat) (f : Nat → Int) : Prop := n = 23 ∧ f 0 / 8 % 8 = 4 ∧ vp (pa f) (pb f) (pc f) (pd f) (pe f) (pf f) (pg f) (ph f) = true
instance (n : Nat) (f : Nat → Int) : Decidable (Pok n f) := by unfold Pok; infer_instance
def pr (n : Nat) (f : Nat → Int) : Value := if Pok n f then .tuple #[.agg #[.int .i64 (pa f), .int .i64 (pb f), .int .i64 (pc f), .int .i64 (pd f), .int .i64 (pe f), .int .i64 (pf f), .int .i64 (pg f), .int .i64 (ph f)], .bool true] else .tuple #[.agg #[.int .i64 0, .int .i64 0, .int .i64 0, .int .i64 0, .int .i64 0, .int .i64 0, .int .i64 0, .int .i64 0], .bool false]
theorem pr_yes {n : Nat} {f : Nat → Int} (h : Pok n f) : pr n f = .tuple #[.agg #[.int .i64 (pa f), .int .i64 (pb f), .int .i64 (pc f), .int .i64 (pd f), .int .i64 (pe f), .int .i64 (pf f), .int .i64 (pg f), .int .i64 (ph f)], .bool true] := if_pos h
theorem pr_no {n : Nat} {f : Nat → Int} (h : ¬ Pok n f) : pr n f = .tuple #[.agg #[.int .i64 0, .int .i64 0, .int .i64 0, .int .i64 0, .int .i64 0, .int .i64 0, .int .i64 0, .int .i64 0], .bool false] := if_neg h
end D
theorem and7 (x : Int) (h : 0 ≤ x ∧ x < 256) : bits BinOp.and IntKind.u8 x 7 = x % 8 := by
  obtain ⟨n, rfl⟩ := Int.eq_ofNat_of_zero_le h.1
  show IntKind.u8.wrap ((BitVec.ofInt 8 (n : Int) &&& BitVec.ofInt 8 ((7 : Nat) : Int)).toNat : Int) = _
  rw [BitVec.ofInt_natCast, BitVec.ofInt_natCast, BitVec.toNat_and, BitVec.toNat_ofNat, BitVec.toNat_ofNat, Nat.mod_eq_of_lt (show n < 2 ^ 8 by omega), show 7 % 2 ^ 8 = 2 ^ 3 - 1 from rfl, Nat.and_two_pow_sub_one_eq_mod, u8_wrap]
  omega
set_option maxHeartbeats 1000000 in
theorem num_spec (B n cap : Nat) (a : Option Addr) (f : Nat → Int) (w : World) (h : Bts B w a n f) (hn : n ≤ 6) (hf : ∀ i, 0 ≤ f i ∧ f i < 256) :
    Calls Try.prog 24 #[.slice a n cap] w fun e w' => e = .returned (.int .i64 (D.num f n)) ∧ Same w w' := by
  go_enter Try.func24, Try.ntmps24
  go_wp2
  go_loopw [3, 4] (fun x y wr => ∃ k : Nat, k ≤ n ∧ x = .int .i64 (D.num f k) ∧ y = .int .i64 k ∧ Same w wr) (fun _ y _ => n - (intOf y).toNat)
  case atStart => exact ⟨0, Nat.zero_le _, rfl, rfl, Same.refl _⟩
  case round =>
    obtain ⟨k, hk, rfl, rfl, hs⟩ := hrel
    by_cases hlt : k < n
    · obtain ⟨b, off, rfl, hb, hc⟩ := (h.same hs).at_ k hlt
      have ck := hc k hlt
      have hb1 := D.num_bd hf k
      have hfk := hf k
      have hp : (256 : Int) ^ k ≤ 256 ^ 5 := by
        rcases (by omega : k = 0 ∨ k = 1 ∨ k = 2 ∨ k = 3 ∨ k = 4 ∨ k = 5) with rfl | rfl | rfl | rfl | rfl | rfl <;> decide
      have e1 : IntKind.i64.wrap (256 * D.num f k) = 256 * D.num f k := IntWalk.i64_in _ (by omega)
      have e2 : IntKind.i64.wrap (256 * D.num f k + f k) = 256 * D.num f k + f k := IntWalk.i64_in _ (by omega)
      have e3 : IntKind.i64.wrap (f k) = f k := IntWalk.i64_in _ (by omega)
      have HD := Lib.hid (show 256 * D.num f k + f k = D.num f (k + 1) from rfl)
      clear hc hb1 hp
      go_wp2
      go_roundw
      case rel => exact ⟨k + 1, by omega, by rw [← HD.out], by go_num, hs⟩
      case measure => simp [intOf]; omega
    · obtain rfl : k = n := by omega
      go_wp2
      go_ret
      exact ⟨rfl, hs⟩
theorem nm_impl_pc (V w : World) (b off cp : Nat) (f : Nat → Int) (hV : Bts V.heap.size V (some ⟨b, off, none⟩) 23 f) (hf : ∀ i, 0 ≤ f i ∧ f i < 256) (bW : Below V.heap.size V w) :
    Calls Try.prog 22 #[.slice (some ⟨b, off + 1, none⟩) 1 cp] w fun e w' => e = .returned (.int .i64 (D.pc f)) ∧ Same w w' :=
  (num_impl V.heap.size 1 cp _ (fun i => f (1 + i)) w ((hV.part 1 1 (by omega)).below bW) (by omega) (fun i => hf _)).mono (fun _ _ h => ⟨h.1.trans (by rw [show D.num (fun i => f (1 + i)) 1 = D.pc f from by simp [D.num, D.pc]]), h.2⟩)
theorem nm_impl_pd (V w : World) (b off cp : Nat) (f : Nat → Int) (hV : Bts V.heap.size V (some ⟨b, off, none⟩) 23 f) (hf : ∀ i, 0 ≤ f i ∧ f i < 256) (bW : Below V.heap.size V w) :
    Calls Try.prog 22 #[.slice (some ⟨b, off + 2, none⟩) 1 cp] w fun e w' => e = .returned (.int .i64 (D.pd f)) ∧ Same w w' :=
  (num_impl V.heap.size 1 cp _ (fun i => f (2 + i)) w ((hV.part 2 1 (by omega)).below bW) (by omega) (fun i => hf _)).mono (fun _ _ h => ⟨h.1.trans (by rw [show D.num (fun i => f (2 + i)) 1 = D.pd f from by simp [D.num, D.pd]]), h.2⟩)
theorem nm_impl_pe (V w : World) (b off cp : Nat) (f : Nat → Int) (hV : Bts V.heap.size V (some ⟨b, off, none⟩) 23 f) (hf : ∀ i, 0 ≤ f i ∧ f i < 256) (bW : Below V.heap.size V w) :
    Calls Try.prog 22 #[.slice (some ⟨b, off + 3, none⟩) 2 cp] w fun e w' => e = .returned (.int .i64 (D.pe f)) ∧ Same w w' :=
  (num_impl V.heap.size 2 cp _ (fun i => f (3 + i)) w ((hV.part 3 2 (by omega)).below bW) (by omega) (fun i => hf _)).mono (fun _ _ h => ⟨h.1.trans (by rw [show D.num (fun i => f (3 + i)) 2 = D.pe f from by simp [D.num, D.pe]]), h.2⟩)
theorem nm_impl_pf (V w : World) (b off cp : Nat) (f : Nat → Int) (hV : Bts V.heap.size V (some ⟨b, off, none⟩) 23 f) (hf : ∀ i, 0 ≤ f i ∧ f i < 256) (bW : Below V.heap.size V w) :
    Calls Try.prog 22 #[.slice (some ⟨b, off + 5, none⟩) 6 cp] w fun e w' => e = .returned (.int .i64 (D.pf f)) ∧ Same w w' :=
  (num_impl V.heap.size 6 cp _ (fun i => f (5 + i)) w ((hV.part 5 6 (by omega)).below bW) (by omega) (fun i => hf _)).mono (fun _ _ h => ⟨h.1.trans (by rw [show D.num (fun i => f (5 + i)) 6 = D.pf f from by simp [D.num, D.pf]]), h.2⟩)
theorem nm_impl_pg (V w : World) (b off cp : Nat) (f : Nat → Int) (hV : Bts V.heap.size V (some ⟨b, off, none⟩) 23 f) (hf : ∀ i, 0 ≤ f i ∧ f i < 256) (bW : Below V.heap.size V w) :
    Calls Try.prog 22 #[.slice (some ⟨b, off + 11, none⟩) 6 cp] w fun e w' => e = .returned (.int .i64 (D.pg f)) ∧ Same w w' :=
  (num_impl V.heap.size 6 cp _ (fun i => f (11 + i)) w ((hV.part 11 6 (by omega)).below bW) (by omega) (fun i => hf _)).mono (fun _ _ h => ⟨h.1.trans (by rw [show D.num (fun i => f (11 + i)) 6 = D.pg f from by simp [D.num, D.pg]]), h.2⟩)
theorem nm_impl_ph (V w : World) (b off cp : Nat) (f : Nat → Int) (hV : Bts V.heap.size V (some ⟨b, off, none⟩) 23 f) (hf : ∀ i, 0 ≤ f i ∧ f i < 256) (bW : Below V.heap.size V w) :
    Calls Try.prog 22 #[.slice (some ⟨b, off + 17, none⟩) 6 cp] w fun e w' => e = .returned (.int .i64 (D.ph f)) ∧ Same w w' :=
  (num_impl V.heap.size 6 cp _ (fun i => f (17 + i)) w ((hV.part 17 6 (by omega)).below bW) (by omega) (fun i => hf _)).mono (fun _ _ h => ⟨h.1.trans (by rw [show D.num (fun i => f (17 + i)) 6 = D.ph f from by simp [D.num, D.ph]]), h.2⟩)
theorem nm_spec_pc (V w : World) (b off cp : Nat) (f : Nat → Int) (hV : Bts V.heap.size V (some ⟨b, off, none⟩) 23 f) (hf : ∀ i, 0 ≤ f i ∧ f i < 256) (bW : Below V.heap.size V w) :
    Calls Try.prog 24 #[.slice (some ⟨b, off + 1, none⟩) 1 cp] w fun e w' => e = .returned (.int .i64 (D.pc f)) ∧ Same w w' :=
  (num_spec V.heap.size 1 cp _ (fun i => f (1 + i)) w ((hV.part 1 1 (by omega)).below bW) (by omega) (fun i => hf _)).mono (fun _ _ h => ⟨h.1.trans (by rw [show D.num (fun i => f (1 + i)) 1 = D.pc f from by simp [D.num, D.pc]]), h.2⟩)
theorem nm_spec_pd (V w : World) (b off cp : Nat) (f : Nat → Int) (hV : Bts V.heap.size V (some ⟨b, off, none⟩) 23 f) (hf : ∀ i, 0 ≤ f i ∧ f i < 256) (bW : Below V.heap.size V w) :
    Calls Try.prog 24 #[.slice (some ⟨b, off + 2, none⟩) 1 cp] w fun e w' => e = .returned (.int .i64 (D.pd f)) ∧ Same w w' :=
  (num_spec V.heap.size 1 cp _ (fun i => f (2 + i)) w ((hV.part 2 1 (by omega)).below bW) (by omega) (fun i => hf _)).mono (fun _ _ h => ⟨h.1.trans (by rw [show D.num (fun i => f (2 + i)) 1 = D.pd f from by simp [D.num, D.pd]]), h.2⟩)
theorem nm_spec_pe (V w : World) (b off cp : Nat) (f : Nat → Int) (hV : Bts V.heap.size V (some ⟨b, off, none⟩) 23 f) (hf : ∀ i, 0 ≤ f i ∧ f i < 256) (bW : Below V.heap.size V w) :
    Calls Try.prog 24 #[.slice (some ⟨b, off + 3, none⟩) 2 cp] w fun e w' => e = .returned (.int .i64 (D.pe f)) ∧ Same w w' :=
  (num_spec V.heap.size 2 cp _ (fun i => f (3 + i)) w ((hV.part 3 2 (by omega)).below bW) (by omega) (fun i => hf _)).mono (fun _ _ h => ⟨h.1.trans (by rw [show D.num (fun i => f (3 + i)) 2 = D.pe f from by simp [D.num, D.pe]]), h.2⟩)
theorem nm_spec_pf (V w : World) (b off cp : Nat) (f : Nat → Int) (hV : Bts V.heap.size V (some ⟨b, off, none⟩) 23 f) (hf : ∀ i, 0 ≤ f i ∧ f i < 256) (bW : Below V.heap.size V w) :
    Calls Try.prog 24 #[.slice (some ⟨b, off + 5, none⟩) 6 cp] w fun e w' => e = .returned (.int .i64 (D.pf f)) ∧ Same w w' :=
  (num_spec V.heap.size 6 cp _ (fun i => f (5 + i)) w ((hV.part 5 6 (by omega)).below bW) (by omega) (fun i => hf _)).mono (fun _ _ h => ⟨h.1.trans (by rw [show D.num (fun i => f (5 + i)) 6 = D.pf f from by simp [D.num, D.pf]]), h.2⟩)
theorem nm_spec_pg (V w : World) (b off cp : Nat) (f : Nat → Int) (hV : Bts V.heap.size V (some ⟨b, off, none⟩) 23 f) (hf : ∀ i, 0 ≤ f i ∧ f i < 256) (bW : Below V.heap.size V w) :
    Calls Try.prog 24 #[.slice (some ⟨b, off + 11, none⟩) 6 cp] w fun e w' => e = .returned (.int .i64 (D.pg f)) ∧ Same w w' :=
  (num_spec V.heap.size 6 cp _ (fun i => f (11 + i)) w ((hV.part 11 6 (by omega)).below bW) (by omega) (fun i => hf _)).mono (fun _ _ h => ⟨h.1.trans (by rw [show D.num (fun i => f (11 + i)) 6 = D.pg f from by simp [D.num, D.pg]]), h.2⟩)
theorem nm_spec_ph (V w : World) (b off cp : Nat) (f : Nat → Int) (hV : Bts V.heap.size V (some ⟨b, off, none⟩) 23 f) (hf : ∀ i, 0 ≤ f i ∧ f i < 256) (bW : Below V.heap.size V w) :
    Calls Try.prog 24 #[.slice (some ⟨b, off + 17, none⟩) 6 cp] w fun e w' => e = .returned (.int .i64 (D.ph f)) ∧ Same w w' :=
  (num_spec V.heap.size 6 cp _ (fun i => f (17 + i)) w ((hV.part 17 6 (by omega)).below bW) (by omega) (fun i => hf _)).mono (fun _ _ h => ⟨h.1.trans (by rw [show D.num (fun i => f (17 + i)) 6 = D.ph f from by simp [D.num, D.ph]]), h.2⟩)
end Go.Proofs.Ytegkmdinnkbkiaa
