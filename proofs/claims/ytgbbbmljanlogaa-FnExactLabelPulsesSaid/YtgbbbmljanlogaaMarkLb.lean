/-
  Marks on lists of labels of one's own; a copy that is known as one's own.
-/
import Derived.Test.YtgbbbmljanlogaaOwnL
import Derived.Test.YtgbbbmljanlogaaCopyLb
import Derived.Test.YtgbbbmljanlogaaMarkM
namespace Go.Proofs.Ytgbbbmljanlogaa
open Go.RowKit Go.ChangeShapes Go.WideShapes Go.Deep
set_option linter.unusedVariables false
set_option maxRecDepth 100000
/-- The labels' cells can be marked. -/
def MkV (w : World) (B : Nat) (a : Option Addr) (n c : Nat) : Prop := (a = none ∧ n = 0 ∧ c = 0) ∨ ∃ g, a = some ⟨g, 0, none⟩ ∧ B ≤ g ∧ g < w.heap.size ∧ ∀ i, i < n * 2 → (∃ x, w.cell? ⟨g, i, none⟩ = some (.int .i64 x)) ∧ w.frozen? ⟨g, i, none⟩ = false
theorem Prs.mkV {B : Nat} {w : World} {a : Option Addr} {c : Nat} {l : List (Int × Int)} (h : Prs 34 B w a c l) : MkV w B a l.length c := by
  rcases h.2 with ⟨hv, hn⟩ | ⟨g, cap, cur, hv, hb, hgg, rest⟩
  · injection hv with e1 e2 e3
    exact .inl ⟨e1, hn, e3⟩
  · injection hv with e1 e2 e3
    subst e1
    refine .inr ⟨g, rfl, hb, (Array.getElem?_eq_some_iff.1 hgg).1, fun i hi => ⟨?_, World.ownsRow.frozenAt h i⟩⟩
    have hv := v2_get l (i / 2) (by omega)
    rcases (by omega : i % 2 = 0 ∨ i % 2 = 1) with e | e
    · have := World.ownsRow.cellAt h i (by omega)
      have hh := hv.1
      rw [show i / 2 * 2 = i by omega] at hh
      rw [hh] at this
      exact ⟨_, this⟩
    · have := World.ownsRow.cellAt h i (by omega)
      have hh := hv.2
      rw [show i / 2 * 2 + 1 = i by omega] at hh
      rw [hh] at this
      exact ⟨_, this⟩
theorem MkV.keep {w w' : World} {B n c : Nat} {a : Option Addr} (h : MkV w B a n c) (hb : Below w.heap.size w w') : MkV w' B a n c := by
  rcases h with h | ⟨g, e, h1, h2, h3⟩
  · exact .inl h
  · exact .inr ⟨g, e, h1, Nat.lt_of_lt_of_le h2 hb.size, fun i hi => ⟨by obtain ⟨x, hx⟩ := (h3 i hi).1; exact ⟨x, (hb.cell (p := ⟨g, i, none⟩) h2).trans hx⟩, (hb.frozen (p := ⟨g, i, none⟩) h2).trans (h3 i hi).2⟩⟩
/-- The list a has been marked. -/
def WmV (w w' : World) (a : Option Addr) (n : Nat) : Prop := (a = none ∧ n = 0 ∧ Same w w') ∨ ∃ g, a = some ⟨g, 0, none⟩ ∧ g < w.heap.size ∧ Wi w w' g (n * 2)
theorem WmV.lst {w w' : World} {a : Option Addr} {n B : Nat} {a' : Option Addr} {n' : Nat} {l' : List Int} (h : WmV w w' a n) (k : Lst B w a' n' l') (hne : ∀ x g, a' = some x → a = some g → x.block ≠ g.block) : Lst B w' a' n' l' := by
  rcases h with ⟨_, _, q⟩ | ⟨g, rfl, _, hw⟩
  · exact k.same q
  · exact hw.lst k (fun x hx => hne x _ hx rfl)
theorem WmV.below {w w' : World} {a : Option Addr} {n B : Nat} (h : WmV w w' a n) (hB : ∀ g, a = some g → B ≤ g.block) : Below B w w' := by
  rcases h with ⟨_, _, q⟩ | ⟨g, rfl, _, hw⟩
  · exact q.below
  · exact hw.bel B (hB _ rfl)
theorem WmV.size {w w' : World} {a : Option Addr} {n : Nat} (h : WmV w w' a n) : w'.heap.size = w.heap.size := by
  rcases h with ⟨_, _, ⟨p, rfl⟩⟩ | ⟨g, rfl, _, hw⟩
  · rfl
  · exact hw.size
theorem WmV.mk {w w' : World} {a : Option Addr} {n B c m : Nat} {a' : Option Addr} (h : WmV w w' a n) (k : Mk w B a' m c) (hne : ∀ x g, a' = some x → a = some g → x.block ≠ g.block) : Mk w' B a' m c := by
  rcases h with ⟨_, _, q⟩ | ⟨g, rfl, _, hw⟩
  · exact k.same q
  · rcases k with k | ⟨g', rfl, h1, h2, h3⟩
    · exact .inl k
    · have hn : g' ≠ g := hne _ _ rfl rfl
      exact .inr ⟨g', rfl, h1, by rw [hw.size]; exact h2, fun i hi => ⟨by obtain ⟨x, hx⟩ := (h3 i hi).1; exact ⟨x, (hw.oth g' i (.inl hn)).trans hx⟩, (hw.fro g' i).trans (h3 i hi).2⟩⟩
set_option maxHeartbeats 2000000 in
theorem toLabelS_own (n c : Nat) (a : Option Addr) (l : List (Int × Int)) (w : World) (h : Sps w.heap.size w a n l) : Calls Try.prog 22 #[.slice a n c] w fun e w' => e = .returned (.slice (some ⟨w.heap.size, 0, none⟩) n n) ∧ Prs 34 w.heap.size w' (some ⟨w.heap.size, 0, none⟩) n l ∧ Below w.heap.size w w' := by
  obtain ⟨i0, hi0, hz0, hz1, hz2⟩ := info_parts label_info
  obtain ⟨w1, hrun, own1, hg1⟩ := run_make_full (P := Try.prog) w w.heap.size 28 34 i0 (.agg #[.int .i64 0, .int .i64 0]) 2 Try.underlying28 hi0 hz0 hz1 .i64 .i64 n (by have := h.2.1; rw [hz2]; omega) (by have := h.2.1; unfold maxLen; omega) (Nat.le_refl _)
  have hl := h.1
  have hn := h.2.1
  rw [show (Value.agg #[.int .i64 0, .int .i64 0]).cells = #[.int .i64 0, .int .i64 0] from rfl, made2] at own1
  have own1 : w1.ownsRow w.heap.size 34 2 (.slice (some ⟨w.heap.size, 0, none⟩) n n) n (v2 (part2 l 0)) := by rw [part2_zero, hl]; exact own1
  have hb1 : Below w.heap.size w w1 := (Below.refl _ _).grown hg1 (Nat.le_refl _) (fun k hk => by cases hk)
  have HL := Lib.hid hl
  have HO := Lib.hid own1
  have H1 := h.below hb1
  have HB := Lib.hid hb1
  clear hl own1 hi0 hz0 hz1 hz2 hg1 hb1
  go_enter Try.func22, Try.ntmps22
  go_wp2
  go_loopw [4] (fun i wr => ∃ k : Nat, k ≤ n ∧ i = .int .i64 k ∧ wr.ownsRow w.heap.size 34 2 (.slice (some ⟨w.heap.size, 0, none⟩) n n) n (v2 (part2 l k)) ∧ Sps w.heap.size wr a n l ∧ Below w.heap.size w wr) (fun i _ => n - (intOf i).toNat)
  case atStart => exact ⟨0, Nat.zero_le _, rfl, HO.out, H1, HB.out⟩
  case round =>
    obtain ⟨k, hk, rfl, own, hL, hb⟩ := hrel
    have hbs := hb.size
    by_cases hlt : k < n
    · obtain ⟨b, off, rfl, hbb, hc⟩ := hL.at_ k hlt
      have c0 := (hc k hlt).1
      have c1 := (hc k hlt).2
      have HQ := Lib.hid (And.intro own (And.intro hL hb))
      clear hc own hL hb
      go_wp2_with fail
      refine (toLabel_any _ _ _).mono ?_
      rintro e w2 ⟨rfl, b2⟩
      have own2 : w2.ownsRow w.heap.size 34 2 (.slice (some ⟨w.heap.size, 0, none⟩) n n) n (v2 (part2 l k)) := World.ownsRow.kept (row := none) HQ.out.1 ⟨b2.os, b2.tape, b2.output, b2.size, fun j hj _ => b2.block j hj⟩ (by simp [Value.ownBlock])
      have hln := HL.out
      have hg := v2_get (part2 l k) k (by rw [part2_len _ _ (by omega)]; omega)
      have d0 := own2.cellAt (k * 2) (by omega)
      have d1 := own2.cellAt (k * 2 + 1) (by omega)
      rw [hg.1] at d0
      rw [hg.2] at d1
      have f0 := own2.frozenAt (k * 2)
      have f1 := own2.frozenAt (k * 2 + 1)
      have s0 := own2.stored (k * 2) (.int .i64 (V.lo l k))
      have s1 := s0.1.stored (k * 2 + 1) (.int .i64 (V.hi l k))
      have s2 := s1.1
      rw [v2_set, part2_set _ _ (by omega)] at s2
      have q2 : Below w.heap.size wr ((w2.setCell ⟨w.heap.size, k * 2, none⟩ (.int .i64 (V.lo l k))).setCell ⟨w.heap.size, k * 2 + 1, none⟩ (.int .i64 (V.hi l k))) := ((b2.mono hbs).setCell (Nat.le_refl _) _).setCell (Nat.le_refl _) _
      have HS := Lib.hid (And.intro s2 (And.intro (HQ.out.2.1.below q2) (HQ.out.2.2.trans q2)))
      clear own2 s0 s1 s2 q2 hg b2 hln
      go_wp2
      go_roundw
      case rel => exact ⟨k + 1, by omega, by go_num, HS.out⟩
      case measure => simp [intOf]; omega
    · obtain rfl : k = n := by omega
      have hfin : Prs 34 w.heap.size wr (some ⟨w.heap.size, 0, none⟩) k l := by
        unfold Prs
        have hp : part2 l k = l := by have := HL.out; subst this; exact part2_all l
        rw [hp] at own
        rw [HL.out]
        exact own
      have HF := Lib.hid (And.intro hfin hb)
      clear hfin own hL
      go_wp2
      go_ret
      exact ⟨rfl, HF.out⟩
set_option maxHeartbeats 4000000 in
theorem markV (E n cap : Nat) (w : World) (hn : n ≤ 1048576) (hc : ∀ i, i < n * 2 → (∃ x, w.cell? ⟨E, i, none⟩ = some (.int .i64 x)) ∧ w.frozen? ⟨E, i, none⟩ = false) :
    Calls Try.prog 26 #[.slice (some ⟨E, 0, none⟩) n cap, .int .i64 1] w fun e w' => e = .returned (.int .i64 ((n : Int) * 2 + 1)) ∧ Wi w w' E (n * 2) := by
  have HC := Lib.hid hc
  clear hc
  go_enter Try.func26, Try.ntmps26
  go_wp2
  go_loopw [1, 5] (fun x y wr => ∃ (k t : Nat), k ≤ n ∧ t = k * 2 ∧ x = .int .i64 ((t : Int) + 1) ∧ y = .int .i64 k ∧ Wi w wr E t) (fun _ y _ => n - (intOf y).toNat)
  case atStart => exact ⟨0, 0, Nat.zero_le _, rfl, by go_num, rfl, Wi.refl _ _⟩
  case round =>
    obtain ⟨k, t, hk, ht, rfl, rfl, hW⟩ := hrel
    by_cases hlt : k < n
    · obtain ⟨⟨x0, hx0⟩, hf0⟩ := HC.out t (by omega)
      obtain ⟨⟨x1, hx1⟩, hf1⟩ := HC.out (t + 1) (by omega)
      have a0 := (hW.oth E t (by omega)).trans hx0
      have s0 := hW.step a0
      have a1 := (s0.oth E (t + 1) (by omega)).trans hx1
      have s1 := s0.step a1
      have f0 := (hW.fro E t).trans hf0
      have f1 := (hW.fro E (t + 1)).trans hf1
      have b1 := (hW.oth E (t + 1) (by omega)).trans hx1
      rw [show ((t + 1 : Nat) : Int) + 1 = (t : Int) + 1 + 1 by omega] at s1
      have e0 : k * 2 = t := ht.symm
      have HS := Lib.hid s1
      have HT := Lib.hid ht
      have htb : t ≤ 2097152 := by omega
      clear hW s0 s1 a1 hx0 hx1 hf0 hf1 ht
      go_wp2
      go_roundw
      case rel => exact ⟨k + 1, t + 1 + 1, by omega, by have := HT.out; omega, by go_num, by go_num, HS.out⟩
      case measure => simp [intOf]; omega
    · obtain rfl : k = n := by omega
      have hr : (t : Int) + 1 = (k : Int) * 2 + 1 := by omega
      have HR := Lib.hid hr
      rw [ht] at hW
      have HW := Lib.hid hW
      clear hW hr ht
      go_wp2
      go_ret
      exact ⟨by rw [← HR.out]; rfl, HW.out⟩
theorem markV0 (w : World) : Calls Try.prog 26 #[.slice none 0 0, .int .i64 1] w fun e w' => e = .returned (.int .i64 1) ∧ Same w w' := by
  go_enter Try.func26, Try.ntmps26
  go_wp2
  go_loopw [1, 5] (fun x y wr => x = .int .i64 1 ∧ y = .int .i64 0 ∧ wr = w) (fun _ _ _ => 0)
  case atStart => exact ⟨rfl, rfl, rfl⟩
  case round =>
    obtain ⟨rfl, rfl, rfl⟩ := hrel
    go_wp2
    go_ret
    exact ⟨rfl, Same.refl _⟩
theorem markV_any (w : World) (B n c : Nat) (a : Option Addr) (h : MkV w B a n c) (hn : n ≤ 1048576) : Calls Try.prog 26 #[.slice a n c, .int .i64 1] w fun e w' => e = .returned (.int .i64 ((n : Int) * 2 + 1)) ∧ WmV w w' a n := by
  rcases h with ⟨rfl, rfl, rfl⟩ | ⟨g, rfl, h1, h2, h3⟩
  · exact (markV0 w).mono fun e w' ⟨he, q⟩ => ⟨he, .inl ⟨rfl, rfl, q⟩⟩
  · exact (markV g n c w hn h3).mono fun e w' ⟨he, q⟩ => ⟨he, .inr ⟨g, rfl, h2, q⟩⟩
end Go.Proofs.Ytgbbbmljanlogaa
