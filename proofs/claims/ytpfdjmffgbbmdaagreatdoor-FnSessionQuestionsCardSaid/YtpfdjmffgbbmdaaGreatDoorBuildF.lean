/-
  strings.Builder's WriteString and WriteByte, once more: what they leave as it was: every block that is neither a builder nor bytes.
-/
import Derived.Test.YtpfdjmffgbbmdaaGreatDoorBuild
namespace Go.Proofs.YtpfdjmffgbbmdaaGreatDoor
open Go.RowKit
set_option linter.unusedVariables false
set_option maxRecDepth 100000
/-- Blocks that hold neither bytes nor a builder are as they were. -/
def Fr (w w' : World) : Prop := ∀ (k : Nat) (cs : Array Value) (t : TypeId) (m : Nat × Nat), w.heap[k]? = some (.cells cs t m) → t ≠ 5 → t ≠ 50 → w'.heap[k]? = w.heap[k]?
theorem Fr.refl (w : World) : Fr w w := fun _ _ _ _ _ _ _ => rfl
theorem Fr.trans {a b c : World} (h : Fr a b) (h' : Fr b c) : Fr a c := fun k cs t m e n1 n2 => by
  have e1 := h k cs t m e n1 n2
  exact (h' k cs t m (e1.trans e) n1 n2).trans e1
theorem own_ty {B : Nat} {w : World} {v : Value} {n : Nat} {xs : List Value} (h : w.ownsRow B 5 1 v n xs) : ∀ g, v.ownBlock = some g → ∃ cs m, w.heap[g]? = some (.cells cs 5 m) := by
  intro g hg
  rcases h.2 with ⟨rfl, _⟩ | ⟨g', cap, cur, rfl, _, hh, _⟩
  · simp [Value.ownBlock] at hg
  · simp [Value.ownBlock] at hg
    subst hg
    exact ⟨_, _, hh⟩
theorem Fr.more {w w1 w2 : World} {b : Nat} {v : Value} (h : Fr w w1) (hb : ∃ cs, w1.heap[b]? = some (.cells cs 50 (0, 0))) (hg : w1.grownBy w2 v.ownBlock) (ho : ∀ g, v.ownBlock = some g → ∃ cs m, w1.heap[g]? = some (.cells cs 5 m)) (i : Nat) (u : Value) (_ : 0 ≤ 0) : Fr w (w2.setCell ⟨b, i, none⟩ u) := by
  refine h.trans fun k cs t m e n1 n2 => ?_
  have hk : k < w1.heap.size := by
    rcases Nat.lt_or_ge k w1.heap.size with q | q
    · exact q
    · rw [Array.getElem?_eq_none q] at e; cases e
  have kb : k ≠ b := fun q => by
    obtain ⟨cs', hb⟩ := hb
    rw [q, hb] at e
    injection e with e; injection e with _ e _
    exact n2 e.symm
  have kg : some k ≠ v.ownBlock := fun q => by
    obtain ⟨cs', m', hh⟩ := ho k q.symm
    rw [hh] at e
    injection e with e; injection e with _ e _
    exact n1 e.symm
  exact (Below.heap_setCell _ _ _ _ kb).trans (hg.block k hk kg)
theorem Fr.moreA {w w1 w2 : World} {b : Nat} {v : Value} {o : Obj} (h : Fr w w1) (hb : ∃ cs, w1.heap[b]? = some (.cells cs 50 (0, 0))) (hg : (w1.alloc o).grownBy w2 v.ownBlock) (ho : ∀ g, v.ownBlock = some g → ∃ cs m, w1.heap[g]? = some (.cells cs 5 m)) (i : Nat) (u : Value) : Fr w (w2.setCell ⟨b, i, none⟩ u) := by
  have hlt : ∀ k x, w1.heap[k]? = some x → (w1.alloc o).heap[k]? = some x := fun k x e => by
    have hk : k < w1.heap.size := by
      rcases Nat.lt_or_ge k w1.heap.size with q | q
      · exact q
      · rw [Array.getElem?_eq_none q] at e; cases e
    exact (Lib.alloc_old w1 _ k hk).trans e
  have f2 : Fr w1 (w1.alloc o) := fun k cs t m e _ _ => (hlt k _ e).trans e.symm
  exact (h.trans f2).more (hb.imp fun cs e => hlt _ _ e) hg (fun g q => by obtain ⟨cs, m, e⟩ := ho g q; exact ⟨cs, m, hlt _ _ e⟩) i u (Nat.le_refl _)
theorem ccf_any (B b : Nat) (bs : List Value) (w : World) (h : Lib.IsBuilder 50 5 B b bs w) :
    Calls Tryz.prog 41 #[.pointer (some ⟨b, 0, none⟩)] w fun e w' => e = .returned (.tuple #[]) ∧ (Lib.BuilderAt 50 5 B b (.pointer (some ⟨b, 0, none⟩)) bs w' ∧ Below B w w' ∧ Fr w w') := by
  rcases h with h | h
  · refine (cc_fresh b w h.cell0 h.shape h.frozen0).mono ?_
    rintro e w' ⟨rfl, rfl⟩
    obtain ⟨hB, v, hbk, hown, hne⟩ := id h
    exact ⟨rfl, h.used _, (Below.refl B w).setCell (p := ⟨b, 0, none⟩) h.1 _, (Fr.refl w).more (v := .int .i64 0) ⟨_, hbk⟩ (World.grownBy.mk rfl rfl rfl (Nat.le_refl _) fun _ _ _ => rfl) (fun g q => by simp [Value.ownBlock] at q) 0 _ (Nat.le_refl _)⟩
  · refine (cc_used b w h.cell0).mono ?_
    rintro e w' ⟨rfl, rfl⟩
    exact ⟨rfl, h, Below.refl B _, Fr.refl _⟩
set_option maxHeartbeats 2000000 in
theorem wsf_any (B b : Nat) (bs : List Value) (s : ByteArray) (w : World) (h : Lib.IsBuilder 50 5 B b bs w) (hlen : bs.length + s.size ≤ 140737488355328) (hBw : B ≤ w.heap.size) :
    Calls Tryz.prog 23 #[.pointer (some ⟨b, 0, none⟩), .string s] w fun e w' => e = .returned (.tuple #[.int .i64 s.size, .nilIface]) ∧ (Lib.BuilderAt 50 5 B b (.pointer (some ⟨b, 0, none⟩)) (bs ++ Lib.strCells s) w' ∧ Below B w w' ∧ Fr w w') := by
  obtain ⟨i0, hi, hz0, hz1, hz2⟩ := info_parts bld_byte
  go_enter Tryz.func23, Tryz.ntmps23
  go_wp2_with (go_at_call 41; refine (ccf_any B b bs _ h).mono ?_)
  rintro e w1 ⟨rfl, h1, hb1, hf1⟩
  obtain ⟨hB, v, hbk, hown, hne⟩ := h1
  have hbT : ∃ cs, w1.heap[b]? = some (.cells cs 50 (0, 0)) := ⟨_, hbk⟩
  have HF1 := Lib.hid (And.intro hf1 (And.intro hbT (own_ty hown)))
  clear hf1 hbT
  have c0 : w1.cell? ⟨b, 0, none⟩ = some (.pointer (some ⟨b, 0, none⟩)) := by rw [Lib.cell_of_heap hbk]; rfl
  have c1 : w1.cell? ⟨b, 1, none⟩ = some v := by rw [Lib.cell_of_heap hbk]; rfl
  go_wp2_with (at_builtin; refine Lib.wpList_append_own_string _ rfl _ _ 22 9 rfl B 5 i0 Tryz.underlying22 Tryz.underlying9 hi hz0 hz1 hz2 _ _ _ rfl hown s rfl ?c3 ?c4 ?c5 ?_)
  case c3 => unfold maxLen; omega
  case c4 => omega
  case c5 => have := hb1.size; omega
  intro v' w2 hown' hgrow _
  have hlt : b < w1.heap.size := by
    rcases Nat.lt_or_ge b w1.heap.size with h' | h'
    · exact h'
    · simp [Array.getElem?_eq_none h'] at hbk
  have hb2 : w2.heap[b]? = some (.cells #[.pointer (some ⟨b, 0, none⟩), v] 50 (0, 0)) := by
    rw [hgrow.block b hlt (fun e => hne e.symm)]
    exact hbk
  have d0 : w2.cell? ⟨b, 0, none⟩ = some (.pointer (some ⟨b, 0, none⟩)) := by rw [Lib.cell_of_heap hb2]; rfl
  have d1 : w2.cell? ⟨b, 1, none⟩ = some v := by rw [Lib.cell_of_heap hb2]; rfl
  have f1 : w2.frozen? ⟨b, 1, none⟩ = false := Lib.frozen_of_heap hb2 1
  obtain ⟨ao, n', cap, rfl⟩ : ∃ ao n' cap, v' = .slice ao n' cap := by
    rcases hown'.2 with ⟨hv, _⟩ | ⟨g, cap, cur, hv, _⟩
    · exact ⟨_, _, _, hv⟩
    · exact ⟨_, _, _, hv⟩
  go_wp2
  go_ret2
  refine ⟨rfl, ?_, ?_⟩
  · exact Lib.BuilderAt.put (T := 50) (e := 5) hB hb2 (bs' := bs ++ Lib.strCells s) (by simpa [Lib.strCells_length] using hown') bld_ne
  · refine ⟨(hb1.grown hgrow (by have := hb1.size; omega) (fun k hk => (hown.lt k hk).1)).setCell (p := ⟨b, 1, none⟩) hB _, ?_⟩
    exact HF1.out.1.more HF1.out.2.1 hgrow HF1.out.2.2 _ _ (Nat.le_refl _)
set_option maxHeartbeats 2000000 in
theorem wbf_any (B b : Nat) (bs : List Value) (c : Int) (w : World) (h : Lib.IsBuilder 50 5 B b bs w) (hlen : bs.length + 1 ≤ 140737488355328) (hBw : B ≤ w.heap.size) :
    Calls Tryz.prog 25 #[.pointer (some ⟨b, 0, none⟩), .int .u8 c] w fun e w' => e = .returned .nilIface ∧ (Lib.BuilderAt 50 5 B b (.pointer (some ⟨b, 0, none⟩)) (bs ++ [.int .u8 c]) w' ∧ Below B w w' ∧ Fr w w') := by
  obtain ⟨i0, hi, hz0, hz1, hz2⟩ := info_parts bld_byte
  go_enter Tryz.func25, Tryz.ntmps25
  go_wp2_with (go_at_call 41; refine (ccf_any B b bs _ h).mono ?_)
  rintro e w1 ⟨rfl, h1, hb1, hf1⟩
  obtain ⟨hB, v, hbk, hown, hne⟩ := h1
  have hbT : ∃ cs, w1.heap[b]? = some (.cells cs 50 (0, 0)) := ⟨_, hbk⟩
  have HF1 := Lib.hid (And.intro hf1 (And.intro hbT (own_ty hown)))
  clear hf1 hbT
  have c0 : w1.cell? ⟨b, 0, none⟩ = some (.pointer (some ⟨b, 0, none⟩)) := by rw [Lib.cell_of_heap hbk]; rfl
  have c1 : w1.cell? ⟨b, 1, none⟩ = some v := by rw [Lib.cell_of_heap hbk]; rfl
  go_wp2_with (at_builtin; refine wpList_append_own _ rfl _ _ 22 rfl B 5 i0 (.int .u8 0) 1 1 Tryz.underlying22 hi hz0 hz1 hz2 rfl (by decide) _ _ _ rfl (hown.alloc _) ⟨w1.heap.size, 0, none⟩ 1 1 [.int .u8 c] rfl rfl ?c1 ?c2 ?c3 ?c4 ?c5 ?_)
  case c1 =>
    intro j u hj
    match j, hj with
    | 0, hj => simp at hj; subst hj; simp [Addr.add]
  case c2 => intro u hu; simp at hu; subst hu; rfl
  case c3 => unfold maxLen; omega
  case c4 => omega
  case c5 => have := hb1.size; simp; omega
  intro v' w2 hown' hgrow _
  have hlt : b < w1.heap.size := by
    rcases Nat.lt_or_ge b w1.heap.size with h' | h'
    · exact h'
    · simp [Array.getElem?_eq_none h'] at hbk
  have hb2 : w2.heap[b]? = some (.cells #[.pointer (some ⟨b, 0, none⟩), v] 50 (0, 0)) := by
    rw [hgrow.block b (by simp; omega) (fun e => hne e.symm), Lib.alloc_old w1 _ b hlt]
    exact hbk
  have d0 : w2.cell? ⟨b, 0, none⟩ = some (.pointer (some ⟨b, 0, none⟩)) := by rw [Lib.cell_of_heap hb2]; rfl
  have d1 : w2.cell? ⟨b, 1, none⟩ = some v := by rw [Lib.cell_of_heap hb2]; rfl
  have f1 : w2.frozen? ⟨b, 1, none⟩ = false := Lib.frozen_of_heap hb2 1
  obtain ⟨ao, n', cap, rfl⟩ : ∃ ao n' cap, v' = .slice ao n' cap := by
    rcases hown'.2 with ⟨hv, _⟩ | ⟨g, cap, cur, hv, _⟩
    · exact ⟨_, _, _, hv⟩
    · exact ⟨_, _, _, hv⟩
  go_wp2
  go_ret
  refine ⟨rfl, ?_, ?_⟩
  · exact Lib.BuilderAt.put (T := 50) (e := 5) hB hb2 (bs' := bs ++ [.int .u8 c]) (by simpa [Lib.strCells_length] using hown') bld_ne
  · refine ⟨((hb1.alloc (by have := hb1.size; omega) _).grown hgrow (by have := hb1.size; simp; omega) (fun k hk => (hown.lt k hk).1)).setCell (p := ⟨b, 1, none⟩) hB _, ?_⟩
    exact HF1.out.1.moreA HF1.out.2.1 hgrow HF1.out.2.2 _ _
end Go.Proofs.YtpfdjmffgbbmdaaGreatDoor
