/-
  A list of labels of the call's own, and 'append' onto it of a list that lies in memory (an empty one too).
-/
import Derived.Test.YtgbbbmljanlogaaSpan
import Derived.Test.YtgbbbmljanlogaaV2
import Derived.Deep.AppendLies
import Derived.Deep.Upon
namespace Go.Proofs.Ytgbbbmljanlogaa
open Go.RowKit
set_option linter.unusedVariables false
theorem label_info : (Try.prog.info? 34).map (fun i => (i.zero, i.size, i.bytes)) = some (some (.agg #[.int .i64 0, .int .i64 0]), 2, 16) := by kernel_rfl
theorem Prs.le {T : TypeId} {B : Nat} {w : World} {a : Option Addr} {c : Nat} {l : List (Int × Int)} (h : Prs T B w a c l) : l.length ≤ c ∧ c ≤ maxLen ∧ (0 < l.length → ∀ x, a = some x → B ≤ x.block) := by
  rcases h.2 with ⟨hv, hn⟩ | ⟨g, cap, cur, hv, hb, hgg, hle, hcap, hcs, htk⟩
  · injection hv with e1 e2 e3
    subst e1 e3
    exact ⟨by omega, by unfold maxLen; omega, fun h => by omega⟩
  · injection hv with e1 e2 e3
    subst e1 e3
    exact ⟨hle, hcap, fun _ x hx => by injection hx with hx; subst hx; exact hb⟩
theorem Prs.made (T : TypeId) (w : World) : Prs T w.heap.size (w.alloc (.cells #[] T)) (some ⟨w.heap.size, 0, none⟩) 0 [] :=
  World.ownsRow_made _ #[] 0 (Nat.le_refl _) (by unfold maxLen; omega) rfl
theorem Prs.more {T : TypeId} {B B' : Nat} {w : World} {a : Option Addr} {c : Nat} {l : List (Int × Int)} (h : Prs T B w a c l) (hB : B' ≤ B) : Prs T B' w a c l := by
  refine ⟨h.1, ?_⟩
  rcases h.2 with hn | ⟨g, cap, cur, hv, hb, rest⟩
  · exact .inl hn
  · exact .inr ⟨g, cap, cur, hv, by omega, rest⟩
/-- One label in a block of its own. -/
theorem Sps.new (w : World) (x y : Int) (t : TypeId) : Sps (w.heap.size + 1) (w.alloc (.cells #[.int .i64 x, .int .i64 y] t)) (some ⟨w.heap.size, 0, none⟩) 1 [(x, y)] :=
  ⟨rfl, by omega, .inr ⟨w.heap.size, 0, rfl, by omega, fun i hi => by
    obtain rfl : i = 0 := by omega
    exact ⟨by simp [V.lo], by simp [V.hi]⟩⟩⟩
theorem v2_app (l m : List (Int × Int)) : v2 l ++ v2 m = v2 (l ++ m) := by simp [v2]
theorem prs_sps' {T : TypeId} {B : Nat} {w : World} {a : Option Addr} {c : Nat} {l : List (Int × Int)} (h : Prs T B w a c l) (hl : l.length ≤ 1048576) : Sps w.heap.size w a l.length l := by
  rcases Nat.eq_zero_or_pos l.length with h0 | h0
  · exact ⟨rfl, hl, .inl h0⟩
  · obtain ⟨g, e, _, hlt, hc⟩ := h.form h0
    refine ⟨rfl, hl, .inr ⟨g, 0, e, hlt, fun i hi => ?_⟩⟩
    rw [Nat.zero_add]; exact (hc i hi).1
/-- The cells of a list that lies in memory, as 'append' takes them. -/
theorem news_sps' {B : Nat} {w : World} {b off n : Nat} {l : List (Int × Int)} (h : Sps B w (some ⟨b, off, none⟩) n l) (hn : 0 < n) : ∀ j u, (v2 l)[j]? = some u → w.cell? ((⟨b, off, none⟩ : Addr).add j) = some u := by
  intro j u hu
  obtain ⟨b', off', e, hb, hc⟩ := h.at_ 0 hn
  injection e with e
  injection e with e1 e2
  subst e1
  subst e2
  have hadd : (⟨b, off, none⟩ : Addr).add j = ⟨b, off + j, none⟩ := by unfold Addr.add; split <;> simp_all
  rw [hadd]
  have hj : j < l.length * 2 := by
    rw [← v2_len]
    exact (List.getElem?_eq_some_iff.1 hu).1
  have hl := h.1
  have hh := v2_get l (j / 2) (by omega)
  have hcc := hc (j / 2) (by omega)
  rcases Nat.mod_two_eq_zero_or_one j with e | e
  · rw [show j / 2 * 2 = j by omega] at hh hcc
    rw [hcc.1, ← hh.1, hu]
  · rw [show j / 2 * 2 + 1 = j by omega] at hh
    rw [show off + j / 2 * 2 + 1 = off + j by omega] at hcc
    rw [hcc.2, ← hh.2, hu]
/-- 'append(l, m...)'. -/
theorem run_l {w : World} (ty : TypeId) (G : Nat) {ao ad : Option Addr} {co c n B : Nat} {l m : List (Int × Int)} (hown : Prs 34 G w ao co l) (hm : Sps B w ad n m) (hle : l.length ≤ co) (h63 : l.length + n ≤ 1000) (hbase : G ≤ w.heap.size) :
    ∃ a' c' w', (Builtin.append_ #[28, 28] ty #[.slice ao l.length co, .slice ad n c]).run Try.prog w = .ok (.slice a' (l.length + n) c') w' ∧ Prs 34 G w' a' c' (l ++ m) ∧ Below G w w' ∧ (∀ b, b < w.heap.size → (∀ x, ao = some x → x.block ≠ b) → w'.heap[b]? = w.heap[b]?) ∧ (∀ x, a' = some x → x.block = w.heap.size ∨ ∃ y, ao = some y ∧ y.block = x.block) := by
  obtain ⟨i0, hi0, hz0, hz1, hz2⟩ := info_parts label_info
  have hl := hm.1
  rcases Nat.eq_zero_or_pos n with h0 | h0
  · subst h0
    obtain rfl : m = [] := List.length_eq_zero_iff.mp hl
    refine ⟨ao, co, w, ?_, by rw [List.append_nil]; exact hown, Below.refl _ _, fun _ _ _ => rfl, fun x hx => .inr ⟨x, hx, rfl⟩⟩
    cases ad with
    | none => exact run_append_nothing w _ _ _ _ i0 Try.underlying28 hi0 ao _ co hle _ (Src.ofNil (w := w) Try.underlying28 c)
    | some x => exact run_append_nothing w _ _ _ _ i0 Try.underlying28 hi0 ao _ co hle _ (Src.ofSlice (w := w) Try.underlying28 x 0 c [] (by simp) (by simp) (by simp))
  · obtain ⟨b, off, rfl, hb, -⟩ := hm.at_ 0 h0
    obtain ⟨g, cap, w', hr, ho, hg, hat, -⟩ := run_append_lies (P := Try.prog) w 28 ty G 34 i0 (.agg #[.int .i64 0, .int .i64 0]) 2 16 Try.underlying28 hi0 hz0 hz1 hz2 rfl (by decide) (.slice ao l.length co) l.length (v2 l) hown
      ⟨b, off, none⟩ n c (v2 m) (by rw [v2_len, hl]) (news_sps' hm h0) (v2_oneC m) h0 (by unfold maxLen; omega) (by omega) hbase _ rfl
    refine ⟨_, _, w', hr, ?_, (Below.refl _ _).grown hg hbase (fun j hj => (World.ownsRow.lt hown j hj).1), fun j hj hne => hg.block j hj (fun e => by
      cases ao with
      | none => simp [Value.ownBlock] at e
      | some x => exact hne x rfl (by simpa [Value.ownBlock] using e.symm)), fun x hx => ?_⟩
    · unfold Prs
      rw [List.length_append, hl, ← v2_app]
      exact ho
    · injection hx with hx
      subst hx
      rcases hat with h | h
      · right
        cases ao with
        | none => simp [Value.ownBlock] at h
        | some y => exact ⟨y, rfl, by simpa [Value.ownBlock] using h⟩
      · exact .inl h
/-- At the operation. -/
theorem wp_l {w : World} {o : Oper} {a : Act} {K : Act → World → Prop} {R : Exit → Act → World → Prop} (s x : Operand)
    (ho : o.op = .call { callee := .builtin .append, args := #[s, x], argTypes := #[28, 28] })
    (G : Nat) {ao ad : Option Addr} {co c n B : Nat} {l m : List (Int × Int)} (hs : a.eval s = .slice ao l.length co) (hx : a.eval x = .slice ad n c) (hown : Prs 34 G w ao co l) (hm : Sps B w ad n m) (h63 : l.length + n ≤ 1000) (hbase : G ≤ w.heap.size) (X : List (Int × Int)) (hX : l ++ m = X)
    (h : ∀ a' c' w', Prs 34 G w' a' c' X → Below G w w' → (∀ b, b < w.heap.size → (∀ x, ao = some x → x.block ≠ b) → w'.heap[b]? = w.heap[b]?) → K (a.put o.dst (.slice a' X.length c')) w') : o.wp Try.prog a w K R := by
  obtain ⟨a', c', w', hr, h2, h3, h4, _⟩ := run_l (c := c) o.type G hown hm hown.le.1 h63 hbase
  have hlen : l.length + n = X.length := by rw [← hX, List.length_append, hm.1]
  rw [hlen] at hr
  subst hX
  unfold Oper.wp execOp
  simp only [ho, resolve, invoke, builtin, Sem.run_bind, Sem.run_pure, Result.andThen_ok, List.map_toArray, List.map_cons, List.map_nil, hs, hx, hr]
  exact h a' c' w' h2 h3 h4
/-- At a plain region's list. -/
theorem wpList_l {w : World} {ops : Array Oper} {rest : List Oper} {o : Oper} {a : Act} {R : Exit → Act → World → Prop} (hgd : o.guard = none) (s x : Operand)
    (ho : o.op = .call { callee := .builtin .append, args := #[s, x], argTypes := #[28, 28] })
    (G : Nat) {ao ad : Option Addr} {co c n B : Nat} {l m : List (Int × Int)} (hs : a.eval s = .slice ao l.length co) (hx : a.eval x = .slice ad n c) (hown : Prs 34 G w ao co l) (hm : Sps B w ad n m) (h63 : l.length + n ≤ 1000) (hbase : G ≤ w.heap.size) (X : List (Int × Int)) (hX : l ++ m = X)
    (h : ∀ a' c' w', Prs 34 G w' a' c' X → Below G w w' → (∀ b, b < w.heap.size → (∀ x, ao = some x → x.block ≠ b) → w'.heap[b]? = w.heap[b]?) → wpList Try.prog ops R rest (a.put o.dst (.slice a' X.length c')) w') : wpList Try.prog ops R (o :: rest) a w :=
  wpList_plain hgd fun _ hK => wp_l s x ho G hs hx hown hm h63 hbase X hX fun a' c' w' h2 h3 h4 => hK _ _ (h a' c' w' h2 h3 h4)
/-- At a step of a region that draws its order. -/
theorem step_l {w : World} {ops : Array Oper} {o : Oper} {a : Act} {K : Act → World → Prop} {R : Exit → Act → World → Prop} {E : Prop} (hgd : o.guard = none) (s x : Operand)
    (ho : o.op = .call { callee := .builtin .append, args := #[s, x], argTypes := #[28, 28] })
    (G : Nat) {ao ad : Option Addr} {co c n B : Nat} {l m : List (Int × Int)} (hs : a.eval s = .slice ao l.length co) (hx : a.eval x = .slice ad n c) (hown : Prs 34 G w ao co l) (hm : Sps B w ad n m) (h63 : l.length + n ≤ 1000) (hbase : G ≤ w.heap.size) (X : List (Int × Int)) (hX : l ++ m = X)
    (h : ∀ a' c' w', Prs 34 G w' a' c' X → Below G w w' → (∀ b, b < w.heap.size → (∀ x, ao = some x → x.block ≠ b) → w'.heap[b]? = w.heap[b]?) → K (a.put o.dst (.slice a' X.length c')) w') : if Region.wanted o (yielded ops a.tmps) = true then Oper.wp Try.prog o a w K R else E := by
  have hw : Region.wanted o (yielded ops a.tmps) = true := by simp [Region.wanted, hgd]
  rw [if_pos hw]
  exact wp_l s x ho G hs hx hown hm h63 hbase X hX h
/-- A list of labels of the call's own is handed back. -/
def ToldL (w : World) (l : List (Int × Int)) (e : Ending) (w' : World) : Prop := ∃ a c, e = .returned (.slice a l.length c) ∧ Prs 34 w.heap.size w' a c l ∧ Below w.heap.size w w'
theorem ToldL.nil {w w' : World} (h : Below w.heap.size w w') : ToldL w [] (.returned (.slice none 0 0)) w' := ⟨none, 0, rfl, Prs.none_ _ _ _, h⟩
end Go.Proofs.Ytgbbbmljanlogaa
