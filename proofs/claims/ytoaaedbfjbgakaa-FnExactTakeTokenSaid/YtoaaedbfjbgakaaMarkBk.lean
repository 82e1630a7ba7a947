/-
  Marks on lists of buckets of one's own; a copy that is known as one's own.
-/
import Derived.Test.YtoaaedbfjbgakaaOwnBk
import Derived.Test.YtoaaedbfjbgakaaCopyBk
import Derived.Test.YtoaaedbfjbgakaaMarkI
namespace Go.Proofs.Ytoaaedbfjbgakaa
open Go.RowKit
set_option linter.unusedVariables false
set_option maxRecDepth 100000
/-- The buckets' cells can be marked. -/
def MkQ (w : World) (B : Nat) (a : Option Addr) (n c : Nat) : Prop := (a = none ∧ n = 0 ∧ c = 0) ∨ ∃ g, a = some ⟨g, 0, none⟩ ∧ B ≤ g ∧ g < w.heap.size ∧ ∀ i, i < n * 3 → (∃ x, w.cell? ⟨g, i, none⟩ = some (.int .i64 x)) ∧ w.frozen? ⟨g, i, none⟩ = false
theorem OwQ.mk {B : Nat} {w : World} {a : Option Addr} {c : Nat} {l : List Q.Sm} (h : OwQ B w a c l) : MkQ w B a l.length c := by
  rcases h.2 with ⟨hv, hn⟩ | ⟨g, cap, cur, hv, hb, hgg, rest⟩
  · injection hv with e1 e2 e3
    exact .inl ⟨e1, hn, e3⟩
  · injection hv with e1 e2 e3
    subst e1
    refine .inr ⟨g, rfl, hb, (Array.getElem?_eq_some_iff.1 hgg).1, fun i hi => ⟨?_, World.ownsRow.frozenAt h i⟩⟩
    have hv := v3_get l (i / 3) (by omega)
    rcases (by omega : i % 3 = 0 ∨ i % 3 = 1 ∨ i % 3 = 2) with e | e | e
    · have := World.ownsRow.cellAt h i (by omega)
      have hh := hv.1
      rw [show i / 3 * 3 = i by omega] at hh
      rw [hh] at this
      exact ⟨_, this⟩
    · have := World.ownsRow.cellAt h i (by omega)
      have hh := hv.2.1
      rw [show i / 3 * 3 + 1 = i by omega] at hh
      rw [hh] at this
      exact ⟨_, this⟩
    · have := World.ownsRow.cellAt h i (by omega)
      have hh := hv.2.2
      rw [show i / 3 * 3 + 2 = i by omega] at hh
      rw [hh] at this
      exact ⟨_, this⟩
/-- The list in memory, however long. -/
theorem OwQ.sms' {B : Nat} {w : World} {a : Option Addr} {c : Nat} {l : List Q.Sm} (h : OwQ B w a c l) (hk : l.length ≤ 1048576) : Sms w.heap.size w a l.length l := by
  rcases h.2 with ⟨hv, hn⟩ | ⟨g, cap, cur, hv, hb, hgg, hle, hcap, hcs, htk⟩
  · exact ⟨rfl, hk, .inl hn⟩
  · injection hv with e1 e2 e3
    subst e1 e3
    refine ⟨rfl, hk, .inr ⟨g, 0, rfl, (Array.getElem?_eq_some_iff.1 hgg).1, fun i hi => ?_⟩⟩
    have hc := h.cells (g := g) rfl
    have h0 := hc (i * 3) _ (v3_get l i hi).1
    have h1 := hc (i * 3 + 1) _ (v3_get l i hi).2.1
    have h2 := hc (i * 3 + 2) _ (v3_get l i hi).2.2
    have ad : ∀ j, (Addr.add ⟨g, 0, none⟩ j) = ⟨g, 0 + j, none⟩ := fun j => by unfold Addr.add; split <;> simp_all
    rw [ad] at h0 h1 h2
    exact ⟨h0, h1, h2⟩
theorem MkQ.keep {w w' : World} {B n c : Nat} {a : Option Addr} (h : MkQ w B a n c) (hb : Below w.heap.size w w') : MkQ w' B a n c := by
  rcases h with h | ⟨g, e, h1, h2, h3⟩
  · exact .inl h
  · exact .inr ⟨g, e, h1, Nat.lt_of_lt_of_le h2 hb.size, fun i hi => ⟨by obtain ⟨x, hx⟩ := (h3 i hi).1; exact ⟨x, (hb.cell (p := ⟨g, i, none⟩) h2).trans hx⟩, (hb.frozen (p := ⟨g, i, none⟩) h2).trans (h3 i hi).2⟩⟩
/-- The numbers from 1 on, three in a sample. -/
def qups (n : Nat) : List Q.Sm := (List.range n).map (fun i : Nat => ((i : Int) * 3 + 1, (i : Int) * 3 + 2, (i : Int) * 3 + 3))
theorem qups_len (n : Nat) : (qups n).length = n := by simp [qups]
theorem qups_at {n i : Nat} (h : i < n) : Q.of (qups n) i = (i : Int) * 3 + 1 ∧ Q.de (qups n) i = (i : Int) * 3 + 2 ∧ Q.tm (qups n) i = (i : Int) * 3 + 3 := by
  unfold Q.of Q.de Q.tm qups
  rw [List.getD_eq_getElem?_getD, List.getElem?_map, List.getElem?_range h]; exact ⟨rfl, rfl, rfl⟩
/-- The list a has been marked. -/
def WmQ (w w' : World) (a : Option Addr) (n : Nat) : Prop := (a = none ∧ n = 0 ∧ Same w w') ∨ ∃ g, a = some ⟨g, 0, none⟩ ∧ g < w.heap.size ∧ Wi w w' g (n * 3)
theorem Wi.sms {w w' : World} {E k B : Nat} {a : Option Addr} {n : Nat} {l : List Q.Sm} (hW : Wi w w' E k) (h : Sms B w a n l) (hne : ∀ x, a = some x → x.block ≠ E) : Sms B w' a n l := by
  refine ⟨h.1, h.2.1, h.2.2.imp_right fun ⟨b, off, e, hb, hc⟩ => ⟨b, off, e, hb, fun i hi => ?_⟩⟩
  have := hne _ e
  exact ⟨(hW.oth b _ (.inl this)).trans (hc i hi).1, (hW.oth b _ (.inl this)).trans (hc i hi).2.1, (hW.oth b _ (.inl this)).trans (hc i hi).2.2⟩
theorem WmQ.sms {w w' : World} {a : Option Addr} {n B : Nat} {a' : Option Addr} {n' : Nat} {l' : List Q.Sm} (h : WmQ w w' a n) (k : Sms B w a' n' l') (hne : ∀ x g, a' = some x → a = some g → x.block ≠ g.block) : Sms B w' a' n' l' := by
  rcases h with ⟨_, _, q⟩ | ⟨g, rfl, _, hw⟩
  · exact k.same q
  · exact hw.sms k (fun x hx => hne x _ hx rfl)
theorem WmQ.below {w w' : World} {a : Option Addr} {n B : Nat} (h : WmQ w w' a n) (hB : ∀ g, a = some g → B ≤ g.block) : Below B w w' := by
  rcases h with ⟨_, _, q⟩ | ⟨g, rfl, _, hw⟩
  · exact q.below
  · exact hw.bel B (hB _ rfl)
theorem WmQ.size {w w' : World} {a : Option Addr} {n : Nat} (h : WmQ w w' a n) : w'.heap.size = w.heap.size := by
  rcases h with ⟨_, _, ⟨p, rfl⟩⟩ | ⟨g, rfl, _, hw⟩
  · rfl
  · exact hw.size
theorem WmQ.mk {w w' : World} {a : Option Addr} {n B c m : Nat} {a' : Option Addr} (h : WmQ w w' a n) (k : MkQ w B a' m c) (hne : ∀ x g, a' = some x → a = some g → x.block ≠ g.block) : MkQ w' B a' m c := by
  rcases h with ⟨_, _, q⟩ | ⟨g, rfl, _, hw⟩
  · exact k.keep q.below
  · rcases k with k | ⟨g', rfl, h1, h2, h3⟩
    · exact .inl k
    · have hn : g' ≠ g := hne _ _ rfl rfl
      exact .inr ⟨g', rfl, h1, by rw [hw.size]; exact h2, fun i hi => ⟨by obtain ⟨x, hx⟩ := (h3 i hi).1; exact ⟨x, (hw.oth g' i (.inl hn)).trans hx⟩, (hw.fro g' i).trans (h3 i hi).2⟩⟩
theorem WmQ.ups {w w' : World} {a : Option Addr} {n : Nat} (h : WmQ w w' a n) (hn : n ≤ 1048576) : Sms w'.heap.size w' a n (qups n) := by
  rcases h with ⟨_, rfl, _⟩ | ⟨g, rfl, hg, hw⟩
  · exact ⟨rfl, by omega, .inl rfl⟩
  · refine ⟨qups_len n, hn, .inr ⟨g, 0, rfl, by rw [hw.size]; exact hg, fun i hi => ?_⟩⟩
    rw [(qups_at hi).1, (qups_at hi).2.1, (qups_at hi).2.2, Nat.zero_add]
    have p0 := hw.put (i * 3) (by omega)
    have p1 := hw.put (i * 3 + 1) (by omega)
    have p2 := hw.put (i * 3 + 2) (by omega)
    rw [show ((i * 3 : Nat) : Int) + 1 = (i : Int) * 3 + 1 by omega] at p0
    rw [show ((i * 3 + 1 : Nat) : Int) + 1 = (i : Int) * 3 + 2 by omega] at p1
    rw [show ((i * 3 + 2 : Nat) : Int) + 1 = (i : Int) * 3 + 3 by omega] at p2
    exact ⟨p0, p1, p2⟩
set_option maxHeartbeats 2000000 in
theorem toBucketS_own (n c : Nat) (a : Option Addr) (l : List Q.Sm) (w : World) (h : Sms w.heap.size w a n l) : Calls Try.prog 18 #[.slice a n c] w fun e w' => e = .returned (.slice (some ⟨w.heap.size, 0, none⟩) n n) ∧ OwQ w.heap.size w' (some ⟨w.heap.size, 0, none⟩) n l ∧ Below w.heap.size w w' := by
  obtain ⟨i0, hi0, hz0, hz1, hz2⟩ := info_parts bucket_info2
  obtain ⟨w1, hrun, own1, hg1⟩ := run_make_full (P := Try.prog) w w.heap.size 25 37 i0 (.agg #[.int .i64 0, .int .i64 0, .int .i64 0]) 3 Try.underlying25 hi0 hz0 hz1 .i64 .i64 n (by have := h.2.1; rw [hz2]; omega) (by have := h.2.1; unfold maxLen; omega) (Nat.le_refl _)
  have hl := h.1
  have hn := h.2.1
  rw [show (Value.agg #[.int .i64 0, .int .i64 0, .int .i64 0]).cells = #[.int .i64 0, .int .i64 0, .int .i64 0] from rfl, made3] at own1
  have own1 : w1.ownsRow w.heap.size 37 3 (.slice (some ⟨w.heap.size, 0, none⟩) n n) n (k3 (part3 l 0)) := by rw [part3_zero, hl]; exact own1
  have hb1 : Below w.heap.size w w1 := (Below.refl _ _).grown hg1 (Nat.le_refl _) (fun k hk => by cases hk)
  have HL := Lib.hid hl
  have HO := Lib.hid own1
  have H1 := h.below hb1
  have HB := Lib.hid hb1
  clear hl own1 hi0 hz0 hz1 hz2 hg1 hb1
  go_enter Try.func18, Try.ntmps18
  go_wp2
  go_loopw [4] (fun i wr => ∃ k : Nat, k ≤ n ∧ i = .int .i64 k ∧ wr.ownsRow w.heap.size 37 3 (.slice (some ⟨w.heap.size, 0, none⟩) n n) n (k3 (part3 l k)) ∧ Sms w.heap.size wr a n l ∧ Below w.heap.size w wr) (fun i _ => n - (intOf i).toNat)
  case atStart => exact ⟨0, Nat.zero_le _, rfl, HO.out, H1, HB.out⟩
  case round =>
    obtain ⟨k, hk, rfl, own, hL, hb⟩ := hrel
    have hbs := hb.size
    by_cases hlt : k < n
    · obtain ⟨b, off, rfl, hbb, hc⟩ := hL.at_ k hlt
      obtain ⟨c0, c1, c2⟩ := hc k hlt
      have HQ := Lib.hid (And.intro own (And.intro hL hb))
      clear hc own hL hb
      go_wp2_with fail
      refine (toBucket_any _ _ _ _).mono ?_
      rintro e w2 ⟨rfl, b2⟩
      have own2 : w2.ownsRow w.heap.size 37 3 (.slice (some ⟨w.heap.size, 0, none⟩) n n) n (k3 (part3 l k)) := World.ownsRow.kept (row := none) HQ.out.1 ⟨b2.os, b2.tape, b2.output, b2.size, fun j hj _ => b2.block j hj⟩ (by simp [Value.ownBlock])
      have hln := HL.out
      have hg := k3_get (part3 l k) k (by rw [part3_len _ _ (by omega)]; omega)
      have d0 := own2.cellAt (k * 3) (by omega)
      have d1 := own2.cellAt (k * 3 + 1) (by omega)
      have d2 := own2.cellAt (k * 3 + 2) (by omega)
      rw [hg.1] at d0
      rw [hg.2.1] at d1
      rw [hg.2.2] at d2
      have f0 := own2.frozenAt (k * 3)
      have f1 := own2.frozenAt (k * 3 + 1)
      have f2 := own2.frozenAt (k * 3 + 2)
      have s0 := own2.stored (k * 3) (.int .i64 (Q.of l k))
      have s1 := s0.1.stored (k * 3 + 1) (.int .i64 (Q.de l k))
      have s3 := s1.1.stored (k * 3 + 2) (.int .i64 (Q.tm l k))
      have s2 := s3.1
      rw [k3_set, part3_set _ _ (by omega)] at s2
      have q2 : Below w.heap.size wr (((w2.setCell ⟨w.heap.size, k * 3, none⟩ (.int .i64 (Q.of l k))).setCell ⟨w.heap.size, k * 3 + 1, none⟩ (.int .i64 (Q.de l k))).setCell ⟨w.heap.size, k * 3 + 2, none⟩ (.int .i64 (Q.tm l k))) := (((b2.mono hbs).setCell (Nat.le_refl _) _).setCell (Nat.le_refl _) _).setCell (Nat.le_refl _) _
      have HS := Lib.hid (And.intro s2 (And.intro (HQ.out.2.1.below q2) (HQ.out.2.2.trans q2)))
      clear own2 s0 s1 s2 s3 q2 hg b2 hln
      go_wp2
      go_roundw
      case rel => exact ⟨k + 1, by omega, by go_num, HS.out⟩
      case measure => simp [intOf]; omega
    · obtain rfl : k = n := by omega
      have hfin : OwQ w.heap.size wr (some ⟨w.heap.size, 0, none⟩) k l := by
        unfold OwQ
        have hp : part3 l k = l := by have := HL.out; subst this; exact part3_all l
        rw [hp] at own
        rw [HL.out]
        exact own
      have HF := Lib.hid (And.intro hfin hb)
      clear hfin own hL
      go_wp2
      go_ret
      exact ⟨rfl, HF.out⟩
set_option maxHeartbeats 4000000 in
theorem markQ (E n cap : Nat) (w : World) (hn : n ≤ 1048576) (hc : ∀ i, i < n * 3 → (∃ x, w.cell? ⟨E, i, none⟩ = some (.int .i64 x)) ∧ w.frozen? ⟨E, i, none⟩ = false) :
    Calls Try.prog 27 #[.slice (some ⟨E, 0, none⟩) n cap, .int .i64 1] w fun e w' => e = .returned (.int .i64 ((n : Int) * 3 + 1)) ∧ Wi w w' E (n * 3) := by
  have HC := Lib.hid hc
  clear hc
  go_enter Try.func27, Try.ntmps27
  go_wp2
  go_loopw [1, 5] (fun x y wr => ∃ (k t : Nat), k ≤ n ∧ t = k * 3 ∧ x = .int .i64 ((t : Int) + 1) ∧ y = .int .i64 k ∧ Wi w wr E t) (fun _ y _ => n - (intOf y).toNat)
  case atStart => exact ⟨0, 0, Nat.zero_le _, rfl, by go_num, rfl, Wi.refl _ _⟩
  case round =>
    obtain ⟨k, t, hk, ht, rfl, rfl, hW⟩ := hrel
    by_cases hlt : k < n
    · obtain ⟨⟨x0, hx0⟩, hf0⟩ := HC.out t (by omega)
      obtain ⟨⟨x1, hx1⟩, hf1⟩ := HC.out (t + 1) (by omega)
      obtain ⟨⟨x2, hx2⟩, hf2⟩ := HC.out (t + 2) (by omega)
      have a0 := (hW.oth E t (by omega)).trans hx0
      have s0 := hW.step a0
      have a1 := (s0.oth E (t + 1) (by omega)).trans hx1
      have s1 := s0.step a1
      have a2 := (s1.oth E (t + 2) (by omega)).trans hx2
      have s2 := s1.step a2
      have f0 := (hW.fro E t).trans hf0
      have f1 := (hW.fro E (t + 1)).trans hf1
      have f2 := (hW.fro E (t + 2)).trans hf2
      have b1 := (hW.oth E (t + 1) (by omega)).trans hx1
      have b2 := (hW.oth E (t + 2) (by omega)).trans hx2
      rw [show ((t + 1 : Nat) : Int) + 1 = (t : Int) + 1 + 1 by omega] at s2
      rw [show ((t + 1 + 1 : Nat) : Int) + 1 = (t : Int) + 1 + 1 + 1 by omega] at s2
      have e0 : k * 3 = t := ht.symm
      have HS := Lib.hid s2
      have HT := Lib.hid ht
      have htb : t ≤ 3145728 := by omega
      clear hW s0 s1 s2 a1 a2 hx0 hx1 hx2 hf0 hf1 hf2 ht
      go_wp2
      go_roundw
      case rel => exact ⟨k + 1, t + 1 + 1 + 1, by omega, by have := HT.out; omega, by go_num, by go_num, HS.out⟩
      case measure => simp [intOf]; omega
    · obtain rfl : k = n := by omega
      have hr : (t : Int) + 1 = (k : Int) * 3 + 1 := by omega
      have HR := Lib.hid hr
      rw [ht] at hW
      have HW := Lib.hid hW
      clear hW hr ht
      go_wp2
      go_ret
      exact ⟨by rw [← HR.out]; rfl, HW.out⟩
theorem markQ0 (w : World) : Calls Try.prog 27 #[.slice none 0 0, .int .i64 1] w fun e w' => e = .returned (.int .i64 1) ∧ Same w w' := by
  go_enter Try.func27, Try.ntmps27
  go_wp2
  go_loopw [1, 5] (fun x y wr => x = .int .i64 1 ∧ y = .int .i64 0 ∧ wr = w) (fun _ _ _ => 0)
  case atStart => exact ⟨rfl, rfl, rfl⟩
  case round =>
    obtain ⟨rfl, rfl, rfl⟩ := hrel
    go_wp2
    go_ret
    exact ⟨rfl, Same.refl _⟩
theorem markQ_any (w : World) (B n c : Nat) (a : Option Addr) (h : MkQ w B a n c) (hn : n ≤ 1048576) : Calls Try.prog 27 #[.slice a n c, .int .i64 1] w fun e w' => e = .returned (.int .i64 ((n : Int) * 3 + 1)) ∧ WmQ w w' a n := by
  rcases h with ⟨rfl, rfl, rfl⟩ | ⟨g, rfl, h1, h2, h3⟩
  · exact (markQ0 w).mono fun e w' ⟨he, q⟩ => ⟨he, .inl ⟨rfl, rfl, q⟩⟩
  · exact (markQ g n c w hn h3).mono fun e w' ⟨he, q⟩ => ⟨he, .inr ⟨g, rfl, h2, q⟩⟩
set_option maxHeartbeats 4000000 in
theorem heldQ (B n cap : Nat) (a : Option Addr) (w : World) (h : Sms B w a n (qups n)) (hn : n ≤ 1048576) :
    Calls Try.prog 28 #[.slice a n cap, .int .i64 1] w fun e w' => e = .returned (.int .i64 ((n : Int) * 3 + 1)) ∧ Same w w' := by
  go_enter Try.func28, Try.ntmps28
  go_wp2
  go_loopw [1, 5] (fun x y wr => ∃ (k : Nat) (t : Int), k ≤ n ∧ t = (k : Int) * 3 + 1 ∧ x = .int .i64 t ∧ y = .int .i64 k ∧ Same w wr) (fun _ y _ => n - (intOf y).toNat)
  case atStart => exact ⟨0, 1, Nat.zero_le _, by omega, rfl, rfl, Same.refl _⟩
  case round =>
    obtain ⟨k, t, hk, ht, rfl, rfl, hs⟩ := hrel
    by_cases hlt : k < n
    · obtain ⟨b, off, rfl, hb, hc⟩ := (h.same hs).at_ k hlt
      obtain ⟨c0, c1, c2⟩ := hc k hlt
      rw [(qups_at hlt).1] at c0
      rw [(qups_at hlt).2.1] at c1
      rw [(qups_at hlt).2.2] at c2
      rw [show (k : Int) * 3 + 1 = t from ht.symm] at c0
      rw [show (k : Int) * 3 + 2 = t + 1 by omega] at c1
      rw [show (k : Int) * 3 + 3 = t + 1 + 1 by omega] at c2
      have ht1 : 1 ≤ t := by omega
      have ht2 : t ≤ 3145729 := by omega
      have HT := Lib.hid ht
      clear hc ht
      go_wp2
      go_roundw
      case rel => exact ⟨k + 1, t + 1 + 1 + 1, by omega, by have := HT.out; omega, by first | rfl | go_num, by go_num, hs⟩
      case measure => simp [intOf]; omega
    · obtain rfl : k = n := by omega
      have HT := Lib.hid ht
      clear ht
      go_wp2
      go_ret
      exact ⟨by rw [← HT.out]; rfl, hs⟩
end Go.Proofs.Ytoaaedbfjbgakaa
