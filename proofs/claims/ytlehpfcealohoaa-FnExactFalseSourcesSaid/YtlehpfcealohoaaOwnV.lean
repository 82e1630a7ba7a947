/-
  A list of spans of the call's own, 'append' onto it of a list that lies in memory, and what a region of appends and new blocks keeps on its way, in whatever order.
-/
import Derived.Test.YtlehpfcealohoaaSt
import Derived.Test.YtlehpfcealohoaaDrawV
import Derived.Deep.AppendLies
import Derived.Deep.Upon
namespace Go.Proofs.Ytlehpfcealohoaa
open Go.RowKit
set_option linter.unusedVariables false
theorem v2_app (l m : List (Int × Int)) : v2 l ++ v2 m = v2 (l ++ m) := by simp [v2]
theorem prs_sps' {T : TypeId} {B : Nat} {w : World} {a : Option Addr} {c : Nat} {l : List (Int × Int)} (h : Prs T B w a c l) (hl : l.length ≤ 1048576) : Sps w.heap.size w a l.length l := by
  rcases Nat.eq_zero_or_pos l.length with h0 | h0
  · exact ⟨rfl, hl, .inl h0⟩
  · obtain ⟨g, e, _, hlt, hc⟩ := h.form h0
    refine ⟨rfl, hl, .inr ⟨g, 0, e, hlt, fun i hi => ?_⟩⟩
    rw [Nat.zero_add]; exact (hc i hi).1
/-- The cells of a list that lies in memory, as 'append' takes them. -/
theorem news_sps' {B : Nat} {w : World} {b off n : Nat} {l : List (Int × Int)} (h : Sps B w (some ⟨b, off, none⟩) n l) (hn : 0 < n) : ∀ j u, (v2 l)[j]? = some u → w.cell? ((⟨b, off, none⟩ : Addr).add j) = some u := by
  intro j u hu
  obtain ⟨b', off', e, hb, hc⟩ := h.at_ 0 hn
  injection e with e
  injection e with e1 e2
  subst e1
  subst e2
  have hadd : (⟨b, off, none⟩ : Addr).add j = ⟨b, off + j, none⟩ := by unfold Addr.add; split <;> simp_all
  rw [hadd]
  have hj : j < l.length * 2 := by
    rw [← v2_len]
    exact (List.getElem?_eq_some_iff.1 hu).1
  have hl := h.1
  have hh := v2_get l (j / 2) (by omega)
  have hcc := hc (j / 2) (by omega)
  rcases Nat.mod_two_eq_zero_or_one j with e | e
  · rw [show j / 2 * 2 = j by omega] at hh hcc
    rw [hcc.1, ← hh.1, hu]
  · rw [show j / 2 * 2 + 1 = j by omega] at hh
    rw [show off + j / 2 * 2 + 1 = off + j by omega] at hcc
    rw [hcc.2, ← hh.2, hu]
/-- 'append(l, m...)'. -/
theorem run_v {w : World} (ty : TypeId) (G : Nat) {ao ad : Option Addr} {co c n B : Nat} {l m : List (Int × Int)} (hown : Prs 26 G w ao co l) (hm : Sps B w ad n m) (hle : l.length ≤ co) (h63 : l.length + n ≤ 1000) (hbase : G ≤ w.heap.size) :
    ∃ a' c' w', (Builtin.append_ #[23, 23] ty #[.slice ao l.length co, .slice ad n c]).run Try.prog w = .ok (.slice a' (l.length + n) c') w' ∧ Prs 26 G w' a' c' (l ++ m) ∧ Below G w w' ∧ (∀ b, b < w.heap.size → (∀ x, ao = some x → x.block ≠ b) → w'.heap[b]? = w.heap[b]?) ∧ (∀ x, a' = some x → x.block = w.heap.size ∨ ∃ y, ao = some y ∧ y.block = x.block) := by
  obtain ⟨i0, hi0, hz0, hz1, hz2⟩ := info_parts span_info
  have hl := hm.1
  rcases Nat.eq_zero_or_pos n with h0 | h0
  · subst h0
    obtain rfl : m = [] := List.length_eq_zero_iff.mp hl
    refine ⟨ao, co, w, ?_, by rw [List.append_nil]; exact hown, Below.refl _ _, fun _ _ _ => rfl, fun x hx => .inr ⟨x, hx, rfl⟩⟩
    cases ad with
    | none => exact run_append_nothing w _ _ _ _ i0 Try.underlying23 hi0 ao _ co hle _ (Src.ofNil (w := w) Try.underlying23 c)
    | some x => exact run_append_nothing w _ _ _ _ i0 Try.underlying23 hi0 ao _ co hle _ (Src.ofSlice (w := w) Try.underlying23 x 0 c [] (by simp) (by simp) (by simp))
  · obtain ⟨b, off, rfl, hb, -⟩ := hm.at_ 0 h0
    obtain ⟨g, cap, w', hr, ho, hg, hat, -⟩ := run_append_lies (P := Try.prog) w 23 ty G 26 i0 (.agg #[.int .i64 0, .int .i64 0]) 2 16 Try.underlying23 hi0 hz0 hz1 hz2 rfl (by decide) (.slice ao l.length co) l.length (v2 l) hown
      ⟨b, off, none⟩ n c (v2 m) (by rw [v2_len, hl]) (news_sps' hm h0) (v2_oneC m) h0 (by unfold maxLen; omega) (by omega) hbase _ rfl
    refine ⟨_, _, w', hr, ?_, (Below.refl _ _).grown hg hbase (fun j hj => (World.ownsRow.lt hown j hj).1), fun j hj hne => hg.block j hj (fun e => by
      cases ao with
      | none => simp [Value.ownBlock] at e
      | some x => exact hne x rfl (by simpa [Value.ownBlock] using e.symm)), fun x hx => ?_⟩
    · unfold Prs
      rw [List.length_append, hl, ← v2_app]
      exact ho
    · injection hx with hx
      subst hx
      rcases hat with h | h
      · right
        cases ao with
        | none => simp [Value.ownBlock] at h
        | some y => exact ⟨y, rfl, by simpa [Value.ownBlock] using h⟩
      · exact .inl h
/-- A struct of two numbers, still zero. -/
structure Z2 (w : World) (D : Nat) : Prop where
  c0 : w.cell? ⟨D, 0, none⟩ = some (.int .i64 0)
  c1 : w.cell? ⟨D, 1, none⟩ = some (.int .i64 0)
  f0 : w.frozen? ⟨D, 0, none⟩ = false
  f1 : w.frozen? ⟨D, 1, none⟩ = false
  lt : D < w.heap.size
theorem Z2.new (w : World) (t : TypeId) : Z2 (w.alloc (.cells #[.int .i64 0, .int .i64 0] t)) w.heap.size := ⟨by simp, by simp, by simp, by simp, by simp⟩
theorem Z2.off {w w' : World} {D : Nat} (h : Z2 w D) (hb : w'.heap[D]? = w.heap[D]?) (hs : w.heap.size ≤ w'.heap.size) : Z2 w' D :=
  ⟨(World.cell?_of_block (w := w) (a := ⟨D, 0, none⟩) hb).trans h.c0, (World.cell?_of_block (w := w) (a := ⟨D, 1, none⟩) hb).trans h.c1, (World.frozen?_of_block (w := w) (a := ⟨D, 0, none⟩) hb).trans h.f0, (World.frozen?_of_block (w := w) (a := ⟨D, 1, none⟩) hb).trans h.f1, Nat.lt_of_lt_of_le h.lt hs⟩
theorem Bx.off {w w' : World} {D : Nat} {x y : Int} (h : Bx w D x y) (hb : w'.heap[D]? = w.heap[D]?) (hs : w.heap.size ≤ w'.heap.size) : Bx w' D x y :=
  ⟨(World.cell?_of_block (w := w) (a := ⟨D, 0, none⟩) hb).trans h.c0, (World.cell?_of_block (w := w) (a := ⟨D, 1, none⟩) hb).trans h.c1, Nat.lt_of_lt_of_le h.lt hs⟩
/-- What the region keeps: the struct that is copied, the list that is read, the list of its own, the block that is appended (d4), the block for the answer (d8). -/
structure J (w0 W : World) (G D n : Nat) (a : Option Addr) (l : List (Int × Int)) (x y : Int) (ao : Option Addr) (co : Nat) (Y : List (Int × Int)) (d4 d8 : Option Nat) : Prop where
  sE : Bx W D x y
  dG : D < G
  gs : G ≤ W.heap.size
  gw : w0.heap.size ≤ G
  hS : Sps G W a n l
  bl : Below w0.heap.size w0 W
  own : Prs 26 G W ao co Y
  cap : Y.length ≤ co
  s4 : ∀ b, d4 = some b → Bx W b x y ∧ ∀ p : Addr, ao = some p → p.block ≠ b
  s8 : ∀ b, d8 = some b → Z2 W b ∧ G ≤ b ∧ ∀ p : Addr, ao = some p → p.block ≠ b
section
variable {w0 W : World} {G D n : Nat} {a : Option Addr} {l : List (Int × Int)} {x y : Int} {ao : Option Addr} {co : Nat} {Y : List (Int × Int)} {d4 d8 : Option Nat}
theorem J.cells (h : J w0 W G D n a l x y ao co Y d4 d8) : W.cell? ⟨D, 0, none⟩ = some (.int .i64 x) ∧ W.cell? ⟨D, 1, none⟩ = some (.int .i64 y) := ⟨h.sE.c0, h.sE.c1⟩
theorem ownlt (h : Prs 26 G W ao co Y) : ∀ p : Addr, ao = some p → p.block < W.heap.size := fun p hp => by
  subst hp; exact (World.ownsRow.lt h p.block rfl).2
theorem J.keep {W' : World} (h : J w0 W G D n a l x y ao co Y d4 d8) (hb : Below W.heap.size W W') : J w0 W' G D n a l x y ao co Y d4 d8 :=
  ⟨h.sE.b hb, h.dG, Nat.le_trans h.gs hb.size, h.gw, h.hS.below (hb.mono h.gs), h.bl.trans (hb.mono h.bl.size), h.own.keep hb, h.cap, fun b e => ⟨(h.s4 b e).1.b hb, (h.s4 b e).2⟩, fun b e => ⟨(h.s8 b e).1.off (hb.block b (h.s8 b e).1.lt) hb.size, (h.s8 b e).2⟩⟩
theorem J.al (h : J w0 W G D n a l x y ao co Y d4 d8) (o : Obj) : J w0 (W.alloc o) G D n a l x y ao co Y d4 d8 := h.keep ((Below.refl _ _).alloc (Nat.le_refl _) o)
theorem J.op0 (h : J w0 W G D n a l x y none co [] d4 d8) : J w0 (W.alloc (.cells #[] 26)) G D n a l x y (some ⟨W.heap.size, 0, none⟩) 0 [] d4 d8 := by
  have k := h.al (.cells #[] 26)
  have ho : Prs 26 G (W.alloc (.cells #[] 26)) (some ⟨W.heap.size, 0, none⟩) 0 [] := World.ownsRow_made _ #[] 0 h.gs (by unfold maxLen; omega) rfl
  exact ⟨k.sE, k.dG, k.gs, k.gw, k.hS, k.bl, ho, Nat.le_refl _, fun b e => ⟨(k.s4 b e).1, fun p hp => by injection hp with hp; subst hp; have := (h.s4 b e).1.lt; show W.heap.size ≠ b; omega⟩, fun b e => ⟨(k.s8 b e).1, (k.s8 b e).2.1, fun p hp => by injection hp with hp; subst hp; have := (h.s8 b e).1.lt; show W.heap.size ≠ b; omega⟩⟩
theorem J.op4 (h : J w0 W G D n a l x y ao co Y none d8) : J w0 (W.alloc (.cells #[.int .i64 x, .int .i64 y] 26)) G D n a l x y ao co Y (some W.heap.size) d8 := by
  have k := h.al (.cells #[.int .i64 x, .int .i64 y] 26)
  exact ⟨k.sE, k.dG, k.gs, k.gw, k.hS, k.bl, k.own, k.cap, fun b e => by injection e with e; subst e; exact ⟨Bx.new _ _ _ _, fun p hp => by have := ownlt h.own p hp; omega⟩, k.s8⟩
theorem J.op8 (h : J w0 W G D n a l x y ao co Y d4 none) : J w0 (W.alloc (.cells #[.int .i64 0, .int .i64 0] 26)) G D n a l x y ao co Y d4 (some W.heap.size) := by
  have k := h.al (.cells #[.int .i64 0, .int .i64 0] 26)
  exact ⟨k.sE, k.dG, k.gs, k.gw, k.hS, k.bl, k.own, k.cap, k.s4, fun b e => by injection e with e; subst e; exact ⟨Z2.new _ _, h.gs, fun p hp => by have := ownlt h.own p hp; omega⟩⟩
/-- One struct in a block of its own. -/
theorem Sps.one {D : Nat} (h : Bx W D x y) : Sps W.heap.size W (some ⟨D, 0, none⟩) 1 [(x, y)] :=
  ⟨rfl, by omega, .inr ⟨D, 0, rfl, h.lt, fun i hi => by
    obtain rfl : i = 0 := by omega
    exact ⟨by simpa [V.lo] using h.c0, by simpa [V.hi] using h.c1⟩⟩⟩
theorem prsCap (h : Prs 26 G W ao co Y) (h0 : Y.length ≤ 1000) : Y.length ≤ co := by
  rcases h.2 with ⟨hv, hn⟩ | ⟨g, cap, cur, hv, hb, hgg, hle, hcap, hcs, htk⟩
  · injection hv with e1 e2 e3; omega
  · injection hv with e1 e2 e3; omega
theorem J.app {ad : Option Addr} {c m B : Nat} {Z : List (Int × Int)} (ty : TypeId) (h : J w0 W G D n a l x y ao co Y d4 d8) (hm : Sps B W ad m Z) (h63 : Y.length + m ≤ 1000) :
    ∃ a' c' w', (Builtin.append_ #[23, 23] ty #[.slice ao Y.length co, .slice ad m c]).run Try.prog W = .ok (.slice a' (Y.length + m) c') w' ∧ J w0 w' G D n a l x y a' c' (Y ++ Z) d4 d8 := by
  obtain ⟨a', c', w', hr, h1, h2, h3, h4⟩ := run_v (c := c) ty G h.own hm h.cap h63 h.gs
  have hg : ∀ p : Addr, ao = some p → G ≤ p.block := fun p hp => by subst hp; exact (World.ownsRow.lt h.own p.block rfl).1
  refine ⟨a', c', w', hr, ?_, h.dG, Nat.le_trans h.gs h2.size, h.gw, h.hS.below h2, h.bl.trans (h2.mono h.gw), h1, ?_, fun b e => ?_, fun b e => ?_⟩
  · exact h.sE.off (h3 D h.sE.lt (fun p hp => by have := hg p hp; have := h.dG; omega)) h2.size
  · exact prsCap h1 (by have := hm.1; rw [List.length_append]; omega)
  · obtain ⟨k1, k2⟩ := h.s4 b e
    refine ⟨k1.off (h3 b k1.lt k2) h2.size, fun p hp => ?_⟩
    rcases h4 p hp with h5 | ⟨q, h5, h6⟩
    · have := k1.lt; omega
    · rw [← h6]; exact k2 q h5
  · obtain ⟨k1, k0, k2⟩ := h.s8 b e
    refine ⟨k1.off (h3 b k1.lt k2) h2.size, k0, fun p hp => ?_⟩
    rcases h4 p hp with h5 | ⟨q, h5, h6⟩
    · have := k1.lt; omega
    · rw [← h6]; exact k2 q h5
/-- The store of the answer. -/
theorem J.fin {b : Nat} (h : J w0 W G D n a l x y ao co Y d4 (some b)) (x' y' : Value) : (((W.setCell ⟨b, 0, none⟩ x').setCell ⟨b, 1, none⟩ y').cell? ⟨D, 0, none⟩ = some (.int .i64 x) ∧ ((W.setCell ⟨b, 0, none⟩ x').setCell ⟨b, 1, none⟩ y').cell? ⟨D, 1, none⟩ = some (.int .i64 y)) ∧ (((W.setCell ⟨b, 0, none⟩ x').setCell ⟨b, 1, none⟩ y').cell? ⟨b, 0, none⟩ = some x' ∧ ((W.setCell ⟨b, 0, none⟩ x').setCell ⟨b, 1, none⟩ y').cell? ⟨b, 1, none⟩ = some y') ∧ Below w0.heap.size w0 ((W.setCell ⟨b, 0, none⟩ x').setCell ⟨b, 1, none⟩ y') := by
  obtain ⟨z, hb, -⟩ := h.s8 b rfl
  have b1 := ((Below.refl G W).setCell (p := ⟨b, 0, none⟩) hb x').setCell (p := ⟨b, 1, none⟩) hb y'
  refine ⟨⟨(b1.cell (p := ⟨D, 0, none⟩) h.dG).trans h.sE.c0, (b1.cell (p := ⟨D, 1, none⟩) h.dG).trans h.sE.c1⟩, ⟨?_, ?_⟩, h.bl.trans (b1.mono h.gw)⟩
  · rw [World.cell?_setCell_other _ _ _ _ (fun e => by injection e with _ e; cases e)]
    exact World.cell?_setCell_same _ _ _ z.c0
  · refine World.cell?_setCell_same _ _ _ (u := .int .i64 0) ?_
    rw [World.cell?_setCell_other _ _ _ _ (fun e => by injection e with _ e; cases e)]
    exact z.c1
/-- 'append' at a step of a region that draws its order. -/
theorem step_j {ops : Array Oper} {o : Oper} {ac : Act} {K : Act → World → Prop} {R : Exit → Act → World → Prop} {E : Prop} (hgd : o.guard = none) (s z : Operand)
    (ho : o.op = .call { callee := .builtin .append, args := #[s, z], argTypes := #[23, 23] })
    {ad : Option Addr} {c m B : Nat} {Z : List (Int × Int)} (hs : ac.eval s = .slice ao Y.length co) (hx : ac.eval z = .slice ad m c) (hj : J w0 W G D n a l x y ao co Y d4 d8) (hm : Sps B W ad m Z) (h63 : Y.length + m ≤ 1000) (X : List (Int × Int)) (hX : Y ++ Z = X)
    (h : ∀ a' c' w', J w0 w' G D n a l x y a' c' X d4 d8 → K (ac.put o.dst (.slice a' X.length c')) w') : if Region.wanted o (yielded ops ac.tmps) = true then Oper.wp Try.prog o ac W K R else E := by
  have hw : Region.wanted o (yielded ops ac.tmps) = true := by simp [Region.wanted, hgd]
  rw [if_pos hw]
  obtain ⟨a', c', w', hr, h2⟩ := hj.app (c := c) o.type hm h63
  have hlen : Y.length + m = X.length := by rw [← hX, List.length_append, hm.1]
  rw [hlen] at hr
  subst hX
  unfold Oper.wp execOp
  simp only [ho, resolve, invoke, builtin, Sem.run_bind, Sem.run_pure, Result.andThen_ok, List.map_toArray, List.map_cons, List.map_nil, hs, hx, hr]
  exact h a' c' w' h2
end
end Go.Proofs.Ytlehpfcealohoaa
