/-
  The model's sort: a list of the call's own, the same numbers in ascending order.
-/
import Derived.Test.YtcbahomohlaakaaNums
import Derived.Deep.QuietTactic
import Derived.BigQuiet
namespace Go.Proofs.Ytcbahomohlaakaa
open Go.RowKit
set_option linter.unusedVariables false
/-- The numbers in ascending order. -/
def srt (l : List Int) : List Int := l.mergeSort fun x y => decide (x ≤ y)
theorem srt_perm (l : List Int) : (srt l).Perm l := List.mergeSort_perm _ _
theorem srt_asc (l : List Int) : (srt l).Pairwise (· ≤ ·) := by
  have := List.pairwise_mergeSort (le := fun x y : Int => decide (x ≤ y)) (fun a b c h1 h2 => by simp at *; omega) (fun a b => by simp; omega) l
  exact this.imp (fun h => by simpa using h)
theorem srt_of {l m : List Int} (h : m.Perm l) (k : m.Pairwise (· ≤ ·)) : m = srt l := List.Perm.eq_of_pairwise (fun a b _ _ h1 h2 => by omega) k (srt_asc l) (h.trans (srt_perm l).symm)
theorem srt_len (l : List Int) : (srt l).length = l.length := (srt_perm l).length_eq
/-- A number on its way to its place: A, the number, B; A and B are the sorted list without it. -/
structure Ins (X : List Int) (x : Int) (A B : List Int) : Prop where
  eq : X = A ++ B
  lt : ∀ b, b ∈ B → x < b
theorem Ins.done {X : List Int} {x : Int} {A B : List Int} (h : Ins X x A B) (hX : X.Pairwise (· ≤ ·)) (hA : ∀ y, A.getLast? = some y → y ≤ x) : (A ++ x :: B).Pairwise (· ≤ ·) := by
  rw [h.eq] at hX
  obtain ⟨a1, a2, a3⟩ := List.pairwise_append.1 hX
  have hAx : ∀ a, a ∈ A → a ≤ x := by
    intro a ha
    rcases List.eq_nil_or_concat A with e | ⟨A', y, e⟩
    · rw [e] at ha; cases ha
    · have hy := hA y (by rw [e]; simp)
      rw [e] at ha a1
      simp only [List.concat_eq_append] at ha a1
      rcases List.mem_append.1 ha with c | c
      · have := (List.pairwise_append.1 a1).2.2 a c y (by simp)
        omega
      · simp at c; omega
  refine List.pairwise_append.2 ⟨a1, List.pairwise_cons.2 ⟨fun b hb => by have := h.lt b hb; omega, a2⟩, fun a ha b hb => ?_⟩
  rcases List.mem_cons.1 hb with e | e
  · rw [e]; exact hAx a ha
  · exact a3 a ha b e
theorem g_app_lt (A B : List Int) (i : Nat) (h : i < A.length) : L.g (A ++ B) i = L.g A i := by
  unfold L.g; rw [List.getD_eq_getElem?_getD, List.getD_eq_getElem?_getD, List.getElem?_append_left h]
theorem g_app_at (A B : List Int) (x : Int) : L.g (A ++ x :: B) A.length = x := by
  unfold L.g; rw [List.getD_eq_getElem?_getD, List.getElem?_append_right (Nat.le_refl _)]; simp
theorem set_swap (A B : List Int) (x y : Int) : ((A ++ y :: x :: B).set (A.length + 1) y).set A.length x = A ++ x :: y :: B := by
  simp
theorem valsC_set (l : List Int) (j : Nat) (x : Int) : (valsC l).set j (.int .i64 x) = valsC (l.set j x) := by unfold valsC; rw [List.map_set]
theorem nums_of {B n : Nat} {w : World} {a : Option Addr} {c : Nat} {l : List Int} (h : w.ownsRow B 3 1 (.slice a n c) n (valsC l)) (e : l.length = n) : Nums B w a c l := by subst e; exact h
set_option maxHeartbeats 4000000 in
theorem sorted_spec (B n c : Nat) (a : Option Addr) (l : List Int) (w : World) (h : Lst B w a n l) (hB : B ≤ w.heap.size) (hn8 : n ≤ 100) : Calls Try.prog 54 #[.slice a n c] w fun e w' => ∃ a' c', e = .returned (.slice a' (srt l).length c') ∧ Nums w.heap.size w' a' c' (srt l) ∧ Below w.heap.size w w' := by
  obtain ⟨i0, hi0, hz0, hz1, hz2⟩ := info_parts intC_info
  have hI := Lib.hid hi0
  have hZ0 := Lib.hid hz0
  have hZ1 := Lib.hid hz1
  have hZ2 := Lib.hid hz2
  clear hi0 hz0 hz1 hz2
  obtain ⟨hl, hn, _⟩ := id h
  have HL := Lib.hid hl
  have HS0 := Lib.hid (h.more hB)
  have own0 : Nums w.heap.size (w.alloc (.cells #[] 3)) (some ⟨w.heap.size, 0, none⟩) 0 [] := World.ownsRow_made w #[] 0 (Nat.le_refl _) (by unfold maxLen; omega) rfl
  have HO := Lib.hid (And.intro own0 ((Below.refl w.heap.size w).alloc (Nat.le_refl _) (Obj.cells #[] 3)))
  clear hl own0 h
  go_enter Try.func54, Try.ntmps54
  go_wp2
  go_loopw [3, 4] (fun o i wr => ∃ (a' : Option Addr) (c' k : Nat) (X : List Int), k ≤ n ∧ i = .int .i64 k ∧ o = .slice a' k c' ∧ X.length = k ∧ X.Perm (l.take k) ∧ X.Pairwise (· ≤ ·) ∧ Nums w.heap.size wr a' c' X ∧ Below w.heap.size w wr) (fun _ i _ => n - (intOf i).toNat)
  case atStart => exact ⟨_, 0, 0, [], Nat.zero_le _, rfl, rfl, rfl, by simp, List.Pairwise.nil, HO.out.1, HO.out.2⟩
  case round =>
    obtain ⟨a', c', k, X, hk, rfl, rfl, hXl, hXp, hXs, hN, hb⟩ := hrel
    clear HO
    have hbs := hb.size
    have HX := Lib.hid (And.intro hXp (And.intro hXs hXl))
    by_cases hlt : k < n
    · obtain ⟨b, off, rfl, hbb, hc⟩ := (HS0.out.below hb).at_ k hlt
      have ck := hc k hlt
      have hNl : wr.ownsRow w.heap.size 3 1 (.slice a' k c') k (valsC X) := by have := hN; unfold Nums at this; rwa [hXl] at this
      have HN := Lib.hid (And.intro hNl hb)
      clear hXp hXs hXl hc hN hb hNl
      go_wp2_with (at_builtin; refine wpList_append_lies _ rfl _ _ 58 rfl w.heap.size 3 i0 (.int .i64 0) 1 8 Try.underlying58 hI.out hZ0.out hZ1.out hZ2.out rfl (by decide) (.slice a' k c') k (valsC X) rfl (World.ownsRow.alloc HN.out.1 _) ⟨wr.heap.size, 0, none⟩ 1 1 [.int .i64 (L.g l k)] rfl rfl (cell_one_new _ _ _) (by intro u hu; simp at hu; subst hu; rfl) (by decide) (by unfold maxLen; omega) (by omega) (by simp; omega) _ rfl ?_)
      intro g cap w3 own3 hg3 hat3 hlt3
      have q3 : Below w.heap.size w w3 := HN.out.2.trans (((Below.refl w.heap.size wr).alloc hbs _).grown hg3 (by simp; omega) (fun j hj => (World.ownsRow.lt HN.out.1 j hj).1))
      rw [valsC_snoc] at own3
      have HW := Lib.hid (And.intro own3 (And.intro q3 hlt3))
      clear own3 q3 hg3 hat3 hlt3 HN
      have hXl := HX.out.2.2
      go_wp2
      go_loopw [5] (fun i wq => ∃ (A B : List Int) (j : Nat), A.length = j ∧ j ≤ k ∧ i = .int .i64 j ∧ Ins X (L.g l k) A B ∧ wq.ownsRow w.heap.size 3 1 (.slice (some ⟨g, 0, none⟩) (k + 1) cap) (k + 1) (valsC (A ++ L.g l k :: B)) ∧ Below w.heap.size w wq) (fun i _ => (intOf i).toNat)
      case atStart => exact ⟨X, [], k, hXl, Nat.le_refl _, by go_num, ⟨by simp, fun b hb => by cases hb⟩, HW.out.1, HW.out.2.1⟩
      case round =>
        obtain ⟨A, B, j, hA, hjk, rfl, hI2, own, hb⟩ := hrel
        have HI2 := Lib.hid hI2
        clear HW hI2
        rcases Nat.eq_zero_or_pos j with hj | hj
        · subst hj
          have hA0 : A = [] := List.length_eq_zero_iff.1 hA
          have hlen : (A ++ L.g l k :: B).length = k + 1 := by have := congrArg List.length HI2.out.eq; simp at this ⊢; omega
          have hperm : (A ++ L.g l k :: B).Perm (l.take (k + 1)) := by
            have e : l.take (k + 1) = l.take k ++ [L.g l k] := by rw [List.take_add_one, L.g_get l k (by have := HL.out; omega)]; rfl
            rw [e]
            have h1 := HX.out.1
            rw [HI2.out.eq] at h1
            exact (List.perm_middle.trans (List.Perm.cons _ h1)).trans (List.perm_append_singleton _ _).symm
          have hsor := HI2.out.done HX.out.2.1 (fun y hy => by rw [hA0] at hy; cases hy)
          have N2 := nums_of own hlen
          have HF := Lib.hid (And.intro hlen (And.intro hperm (And.intro hsor (And.intro N2 hb))))
          clear own hb hlen hperm hsor N2 hA0 hA hXl
          generalize A ++ L.g l k :: B = Y at *
          go_wp2_with fail
          go_quiet (fail)
          go_wp2
          go_roundw
          case rel => exact ⟨some ⟨g, 0, none⟩, cap, k + 1, Y, by omega, by go_num, rfl, HF.out.1, HF.out.2.1, HF.out.2.2.1, HF.out.2.2.2.1.drewN _, below_drewN HF.out.2.2.2.2 _⟩
          case measure => simp [intOf]; omega
        · obtain ⟨m, rfl⟩ : ∃ m, j = m + 1 := ⟨j - 1, by omega⟩
          obtain ⟨A', y, hAe⟩ : ∃ A' y, A = A' ++ [y] := by
            rcases List.eq_nil_or_concat A with e | ⟨A', y, e⟩
            · rw [e] at hA; cases hA
            · exact ⟨A', y, by rw [e, List.concat_eq_append]⟩
          subst hAe
          have hm : A'.length = m := by simp at hA; omega
          have hL2 : A' ++ [y] ++ L.g l k :: B = A' ++ y :: L.g l k :: B := by simp
          have hlen : (A' ++ y :: L.g l k :: B).length = k + 1 := by have := congrArg List.length HI2.out.eq; simp at this ⊢; omega
          rw [hL2] at own
          have g0 : L.g (A' ++ y :: L.g l k :: B) m = y := by rw [← hm]; exact g_app_at _ _ _
          have g1 : L.g (A' ++ y :: L.g l k :: B) (m + 1) = L.g l k := by
            have := g_app_at (A' ++ [y]) B (L.g l k)
            rw [hL2] at this
            rw [← hm]; simpa using this
          have q0 := own.cellAt m (by omega)
          rw [valsC_get _ m (by omega), g0] at q0
          have q1 := own.cellAt (m + 1) (by omega)
          rw [valsC_get _ (m + 1) (by omega), g1] at q1
          have f0 := own.frozenAt m
          have f1 := own.frozenAt (m + 1)
          by_cases hxy : L.g l k < y
          · have s0 := (own).stored (m + 1) (.int .i64 y)
            have s1 := s0.1.stored m (.int .i64 (L.g l k))
            have s2 := s1.1
            rw [valsC_set, valsC_set] at s2
            have hsw := set_swap A' B (L.g l k) y
            rw [hm] at hsw
            rw [hsw] at s2
            have hI3 : Ins X (L.g l k) A' (y :: B) := ⟨by rw [HI2.out.eq]; simp, fun b hb => by
              rcases List.mem_cons.1 hb with e | e
              · rw [e]; exact hxy
              · exact HI2.out.lt b e⟩
            have hgB : w.heap.size ≤ g := (World.ownsRow.lt own g rfl).1
            have HF := Lib.hid (And.intro hm (And.intro hI3 (And.intro s2 (And.intro hb hgB))))
            clear own s0 s1 s2 hsw hI3 hlen g0 g1 hL2 hA hb hm
            generalize L.g l k = x at *
            go_wp2_with fail
            go_quiet (fail)
            go_wp2
            go_roundw
            case rel => exact ⟨A', y :: B, m, HF.out.1, by omega, by go_num, HF.out.2.1, HF.out.2.2.1, below_drewN ((HF.out.2.2.2.1.setCell (show w.heap.size ≤ g from HF.out.2.2.2.2) _).setCell (show w.heap.size ≤ g from HF.out.2.2.2.2) _) _⟩
            case measure => (first | (simp [intOf]; done) | (simp [intOf]; omega))
          · have hxy' : decide (L.g l k < y) = false := decide_eq_false hxy
            have hperm : (A' ++ y :: L.g l k :: B).Perm (l.take (k + 1)) := by
              have e : l.take (k + 1) = l.take k ++ [L.g l k] := by rw [List.take_add_one, L.g_get l k (by have := HL.out; omega)]; rfl
              rw [e]
              have h1 := HX.out.1
              rw [HI2.out.eq] at h1
              rw [← hL2]
              exact (List.perm_middle.trans (List.Perm.cons _ h1)).trans (List.perm_append_singleton _ _).symm
            have hsor := HI2.out.done HX.out.2.1 (fun z hz => by simp at hz; omega)
            rw [hL2] at hsor
            have N2 := nums_of own hlen
            have HF := Lib.hid (And.intro hlen (And.intro hperm (And.intro hsor (And.intro N2 hb))))
            clear own hb hlen hperm hsor N2 hA hXl g0 g1 hL2 hm
            generalize A' ++ y :: L.g l k :: B = Y at *
            generalize L.g l k = x at *
            go_wp2_with fail
            go_quiet (fail)
            go_wp2
            go_roundw
            case rel => exact ⟨some ⟨g, 0, none⟩, cap, k + 1, Y, by omega, by go_num, rfl, HF.out.1, HF.out.2.1, HF.out.2.2.1, HF.out.2.2.2.1.drewN _, below_drewN HF.out.2.2.2.2 _⟩
            case measure => simp [intOf]; omega
    · obtain rfl : k = n := by omega
      have hf : l.take k = l := List.take_of_length_le (by rw [HL.out]; exact Nat.le_refl _)
      rw [hf] at hXp
      have e := srt_of hXp hXs
      subst e
      have hsl := srt_len l
      have HF := Lib.hid (And.intro hN hb)
      have HE := Lib.hid hXl
      clear HX hXp hXs hN hb hf hsl hXl
      go_wp2
      go_ret
      exact ⟨a', c', by rw [HE.out]; rfl, HF.out⟩
end Go.Proofs.Ytcbahomohlaakaa
