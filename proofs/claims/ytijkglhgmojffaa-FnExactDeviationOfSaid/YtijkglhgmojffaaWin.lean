/-
  The iterator over windows of phases (chapter 8), and SecondDiffs, which ranges over it.
-/
import Derived.Test.YtijkglhgmojffaaPhase
import Derived.Test.YtijkglhgmojffaaWMath
import Derived.Test.YtijkglhgmojffaaOwn
import Derived.Test.YtijkglhgmojffaaStillIn
import Derived.RangeFuncBound
import Derived.RangeFuncCalls
import Derived.Shelf.Abstract
import Derived.Shelf.RegionOpen
import Derived.OwnWalkIn
import Derived.TacticsInMore
import Derived.LoopNIn
import Derived.LoopIn
import Derived.Maps.AppendAt
namespace Go.Proofs.Ytijkglhgmojffaa
open Go.RowKit Go.Shelf
set_option linter.unusedVariables false
attribute [local go_sem] Oper.semAt_some
theorem win_any (n c : Nat) (a : Option Addr) (s : Int) (w : World) : Calls Try.prog 32 #[.slice a n c, .int .i64 s] w fun e w' =>
    e = .returned (.func (.func 40) #[] #[.pointer (some ⟨w.heap.size, 0, none⟩), .pointer (some ⟨w.heap.size + 1, 0, none⟩)]) ∧ w' = (w.alloc (.cells #[.slice a n c] 23)).alloc (.cells #[.int .i64 s] 3) := by
  go_enter Try.func32, Try.ntmps32
  go_wp2
  go_ret
  exact ⟨rfl, rfl⟩
theorem sd1_any (x y z : Int) (hx : -1000000 ≤ x ∧ x ≤ 1000000) (hy : -1000000 ≤ y ∧ y ≤ 1000000) (hz : -1000000 ≤ z ∧ z ≤ 1000000) (w : World) : Calls Try.prog 33 #[.agg #[.int .i64 x, .int .i64 y, .int .i64 z]] w fun e w' =>
    e = .returned (.int .i64 (z - 2 * y + x)) ∧ w' = w.alloc (.cells #[.int .i64 x, .int .i64 y, .int .i64 z] 43) := by
  go_enter Try.func33, Try.ntmps33
  go_wp2
  go_ret
  exact ⟨rfl, rfl⟩
/-- What a round keeps: what lay below n₀, and the two boxes that the iterator has captured. -/
def Kw (n₀ B1 B2 : Nat) (W W' : World) : Prop := Below n₀ W W' ∧ W'.cell? ⟨B1, 0, none⟩ = W.cell? ⟨B1, 0, none⟩ ∧ W'.cell? ⟨B2, 0, none⟩ = W.cell? ⟨B2, 0, none⟩
theorem Kw.refl (n₀ B1 B2 : Nat) (W : World) : Kw n₀ B1 B2 W W := ⟨Below.refl _ _, rfl, rfl⟩
theorem Kw.trans {n₀ B1 B2 : Nat} {A B C : World} (h : Kw n₀ B1 B2 A B) (k : Kw n₀ B1 B2 B C) : Kw n₀ B1 B2 A C := ⟨h.1.trans k.1, k.2.1.trans h.2.1, k.2.2.trans h.2.2⟩
theorem Kw.of {n₀ B1 B2 M : Nat} {A B : World} (h : Below M A B) (h0 : n₀ ≤ M) (h1 : B1 < M) (h2 : B2 < M) : Kw n₀ B1 B2 A B := ⟨h.mono h0, h.cell (p := ⟨B1, 0, none⟩) h1, h.cell (p := ⟨B2, 0, none⟩) h2⟩
theorem Kw.drew {n₀ B1 B2 : Nat} {A : World} : Kw n₀ B1 B2 A A.drew := ⟨below_drewN (Below.refl _ _) 1, rfl, rfl⟩
abbrev encW (l : List Int) (s : Nat) (k : Nat) : Array Value := #[.agg #[.int .i64 (L.g l k), .int .i64 (L.g l (k + s)), .int .i64 (L.g l (k + 2 * s))]]
theorem range_pre {a b : Nat} (h : a ≤ b) : List.range a <+: List.range b := by
  refine List.prefix_iff_eq_take.2 ?_
  rw [List.take_range, List.length_range, Nat.min_eq_left h]
set_option maxRecDepth 100000 in
set_option maxHeartbeats 1000000 in
theorem win1_in (m : Nat) (hm : 1 ≤ m) (lp B1 B2 n₀ n c s : Nat) (a : Option Addr) (l : List Int) (J Jx : List Nat → World → Prop) (h16 : n ≤ 16) (hs1 : 1 ≤ s) (hs16 : s ≤ 16)
    (hJd : ∀ pre W, J pre W → J pre W.drew)
    (hY : ∀ pre x W, J pre W → pre.length < n - 2 * s → YieldAt Fence.wide (m - 1) Try.prog lp (encW l s x) W fun e W' =>
      (e = .returned (.bool true) ∧ J (pre ++ [x]) W' ∧ Kw n₀ B1 B2 W W') ∨ (e = .returned (.bool false) ∧ Jx (pre ++ [x]) W'))
    (W : World) (h1 : W.cell? ⟨B1, 0, none⟩ = some (.slice a n c)) (h2 : W.cell? ⟨B2, 0, none⟩ = some (.int .i64 (s : Int))) (hL : Lst n₀ W a n l) (h0 : J [] W) :
    CallsIn Fence.wide m Try.prog 40 #[.func (.yield lp) #[] #[], .pointer (some ⟨B1, 0, none⟩), .pointer (some ⟨B2, 0, none⟩)] W fun e W' => (∃ v, e = .returned v) ∧
      ((∃ ys, ys = List.range (n - 2 * s) ∧ J ys W') ∨ (∃ pre, pre <+: List.range (n - 2 * s) ∧ Jx pre W')) := by
  have hl := Lib.hid hL.1
  refine callsIn_of_wp Try.func40 rfl trivial ?_ rfl
  simp only [Try.ntmps40, List.size_toArray, List.length_cons, List.length_nil, Nat.reduceAdd, Nat.reduceSub, Array.replicate_succ, Array.replicate_zero, List.push_toArray, List.append_toArray, List.nil_append, List.cons_append]
  gi_wp2
  gi_loopw [10] (fun i wr => ∃ k : Nat, k ≤ n - 2 * s ∧ i = .int .i64 k ∧ wr.cell? ⟨B1, 0, none⟩ = some (.slice a n c) ∧ wr.cell? ⟨B2, 0, none⟩ = some (.int .i64 (s : Int)) ∧ Lst n₀ wr a n l ∧ J (List.range k) wr)
    (fun i _ => n - 2 * s - (intOf i).toNat)
  case atStart => exact ⟨0, Nat.zero_le _, rfl, h1, h2, hL, h0⟩
  case round =>
    obtain ⟨k, hk, rfl, c1, c2, hLr, hJs⟩ := hrel
    clear h1 h2 hL h0
    by_cases hlt : k < n - 2 * s
    · have hlt' : (k : Int) < (n : Int) - 2 * (s : Int) := by omega
      obtain ⟨b, off, rfl, hb, hc⟩ := hLr.at_ k (by omega)
      have y0 := hc k (by omega)
      have y1 := hc (k + s) (by omega)
      have y2 := hc (k + 2 * s) (by omega)
      have hJd' := hJd _ _ hJs
      have HY := Lib.hid (hY (List.range k) k wr.drew hJd' (by simpa using hlt))
      have HLr := Lib.hid (show Lst n₀ wr.drew (some ⟨b, off, none⟩) n l from hLr.drew)
      clear hc hJs hJd' hLr
      gi_wp2_with fail
      refine wpIn_region_tail_ (Lets.wide m Try.prog) 19 (by kernel_rfl) (by kernel_rfl) (by kernel_rfl) ?_
      simp only [List.take_succ_cons, List.take_zero, List.drop_succ_cons, List.drop_zero]
      change wpStill _ _ (wr.drew) (fun a' => wpListIn _ _ _ _ _ _ a' (wr.drew)) _ _
      have c1 : wr.drew.cell? ⟨B1, 0, none⟩ = some (.slice (some ⟨b, off, none⟩) n c) := c1
      have c2 : wr.drew.cell? ⟨B2, 0, none⟩ = some (.int .i64 (s : Int)) := c2
      have y0 : wr.drew.cell? ⟨b, off + k, none⟩ = some (.int .i64 (L.g l k)) := y0
      have y1 : wr.drew.cell? ⟨b, off + (k + s), none⟩ = some (.int .i64 (L.g l (k + s))) := y1
      have y2 : wr.drew.cell? ⟨b, off + (k + 2 * s), none⟩ = some (.int .i64 (L.g l (k + 2 * s))) := y2
      generalize wr.drew = V at *
      obtain ⟨k1, hk1⟩ : ∃ k1, k + s = k1 := ⟨_, rfl⟩
      obtain ⟨k2, hk2⟩ : ∃ k2, k + 2 * s = k2 := ⟨_, rfl⟩
      have e1 : (k : Int) + (s : Int) = (k1 : Int) := by omega
      have e2 : (k : Int) + 2 * (s : Int) = (k2 : Int) := by omega
      have b0 : k < n := by omega
      have b1 : k1 < n := by omega
      have b2 : k2 < n := by omega
      have w1 : IntKind.i64.wrap (k1 : Int) = (k1 : Int) := IntWalk.i64_in _ (by omega)
      have w2 : IntKind.i64.wrap (k2 : Int) = (k2 : Int) := IntWalk.i64_in _ (by omega)
      have w3 : IntKind.i64.wrap (2 * (s : Int)) = 2 * (s : Int) := IntWalk.i64_in _ (by omega)
      rw [hk1] at y1
      rw [hk2] at y2
      have HK := Lib.hid (And.intro hk1 hk2)
      clear hk1 hk2
      repeat still_step
      refine wpStill_nil ?_
      obtain ⟨fn, tmps, assign, body, hy, hR⟩ := HY.out
      dsimp only [encW] at hy
      rw [HK.out.1, HK.out.2] at hy
      clear e1 e2 w1 w2 w3 y0 y1 y2
      gi_wp2
      refine hR.mono ?_
      rintro e W3 (⟨rfl, hJ3, hk3⟩ | ⟨rfl, hJx3⟩)
      · rw [← List.range_succ] at hJ3
        have c3 := hk3.2.1.trans c1
        have c4 := hk3.2.2.trans c2
        have hL3 := HLr.out.below hk3.1
        gi_wp2
        go_roundw
        case rel => exact ⟨k + 1, by omega, by go_num, c3, c4, hL3, hJ3⟩
        case measure => simp [intOf]; omega
      · gi_wp2
        refine bodyPost_ret (results_none rfl _ _ _) rfl ?_
        refine ⟨⟨_, rfl⟩, .inr ⟨List.range k ++ [k], ?_, hJx3⟩⟩
        rw [← List.range_succ]
        exact range_pre (by omega)
    · have hlt' : ¬ (k : Int) < (n : Int) - 2 * (s : Int) := by omega
      have hkn : k = n - 2 * s := by omega
      rw [hkn] at hJs
      clear hkn
      gi_wp2
      go_end0
      exact ⟨⟨_, rfl⟩, .inl hJs⟩
theorem win_stops (m : Nat) (hm : 1 ≤ m) (B1 B2 n₀ n c s : Nat) (a : Option Addr) (l : List Int) (h16 : n ≤ 16) (hs1 : 1 ≤ s) (hs16 : s ≤ 16) (w : World) (hB1 : B1 < w.heap.size) (hB2 : B2 < w.heap.size) (hn₀ : n₀ ≤ w.heap.size)
    (h1 : w.cell? ⟨B1, 0, none⟩ = some (.slice a n c)) (h2 : w.cell? ⟨B2, 0, none⟩ = some (.int .i64 (s : Int))) (hL : Lst n₀ w a n l) :
    SeqStopsK Fence.wide m Try.prog 40 #[.pointer (some ⟨B1, 0, none⟩), .pointer (some ⟨B2, 0, none⟩)] (encW l s) (Kw n₀ B1 B2) (fun ys => ys = List.range (n - 2 * s)) (fun pre => pre <+: List.range (n - 2 * s)) (n - 2 * s) w := fun lp J Jx W hW hJ _ hY h0 =>
  win1_in m hm lp B1 B2 n₀ n c s a l J Jx h16 hs1 hs16 (fun pre W' h => hJ pre W' _ none h ⟨rfl, rfl, rfl, Nat.le_refl _, fun _ _ _ => rfl⟩ (fun r e => by cases e)) hY W ((hW.cell (p := ⟨B1, 0, none⟩) hB1).trans h1) ((hW.cell (p := ⟨B2, 0, none⟩) hB2).trans h2) (hL.below (hW.mono hn₀)) h0
/-- A list of the call's own that is told. -/
def Told (w : World) (l : List Int) (e : Ending) (w' : World) : Prop := ∃ a c, e = .returned (.slice a l.length c) ∧ Nums w.heap.size w' a c l ∧ Below w.heap.size w w'
/-- A round that appends to the list in the box D0: what becomes of the world. -/
theorem round_end {V w1 : World} {n₀ D0 k m : Nat} {v v' : Value} {xs ys : List Value} {o1 o2 : Obj} (hv : Boxed V D0 23 v) (hrow : V.ownsRow (D0 + 3) 3 1 v k xs) (hD : D0 + 3 ≤ V.heap.size) (hn : n₀ ≤ D0)
    (own1 : w1.ownsRow (D0 + 3) 3 1 v' m ys) (hg : ((V.alloc o1).alloc o2).grownBy w1 v.ownBlock) :
    Boxed w1 D0 23 v ∧ Boxed (w1.setCell ⟨D0, 0, none⟩ v') D0 23 v' ∧ (w1.setCell ⟨D0, 0, none⟩ v').ownsRow (D0 + 3) 3 1 v' m ys ∧ KeepsOthers V (w1.setCell ⟨D0, 0, none⟩ v') ∧ Kw n₀ (D0 + 1) (D0 + 1 + 1) V (w1.setCell ⟨D0, 0, none⟩ v') ∧ D0 + 3 ≤ (w1.setCell ⟨D0, 0, none⟩ v').heap.size := by
  have hrk : ∀ j, v.ownBlock = some j → D0 + 3 ≤ j := fun j hj => (World.ownsRow.lt hrow j hj).1
  have hrk' : ∀ j, v'.ownBlock = some j → D0 + 3 ≤ j := fun j hj => (World.ownsRow.lt own1 j hj).1
  have hv1 : Boxed w1 D0 23 v := ((hv.alloc o1).alloc o2).kept hg (fun e => by have := hrk D0 e.symm; omega)
  have hb : Below (D0 + 3) V w1 := (((Below.refl (D0 + 3) V).alloc hD o1).alloc (by simp; omega) o2).grown hg (by simp; omega) hrk
  refine ⟨hv1, hv1.set v', own1.kept (grownBy_setCell' w1 D0 v') (.inr (fun e => by have := hrk' D0 e; omega)), ?_, ⟨(hb.mono (by omega)).setCell (p := ⟨D0, 0, none⟩) hn v', ?_, ?_⟩, ?_⟩
  · refine ((KeepsOthers.alloc V o1).trans ((KeepsOthers.alloc _ o2).trans (KeepsOthers.of_grownBy hg fun j o ej hj => ?_))).trans (KeepsOthers.setCell _ _ _)
    rcases ((hrow.alloc o1).alloc o2).2 with ⟨rfl, _⟩ | ⟨g, cap, cur, rfl, _, hgb, _⟩
    · simp [Value.ownBlock] at ej
    · obtain rfl : g = j := by simpa [Value.ownBlock] using ej
      rw [hgb] at hj; cases hj; rfl
  · rw [World.cell?_setCell_other _ _ _ _ (fun e => by injection e with e1 _ _; omega)]; exact hb.cell (p := ⟨D0 + 1, 0, none⟩) (by show D0 + 1 < D0 + 3; omega)
  · rw [World.cell?_setCell_other _ _ _ _ (fun e => by injection e with e1 _ _; omega)]; exact hb.cell (p := ⟨D0 + 1 + 1, 0, none⟩) (by show D0 + 1 + 1 < D0 + 3; omega)
  · have := hb.size; simp; omega
theorem row_told {w : World} {B : Nat} {v : Value} {l : List Int} (h : w.ownsRow B 3 1 v l.length (valsC l)) : ∃ a c, v = .slice a l.length c ∧ Nums B w a c l := by
  rcases h.2 with ⟨hv, hn⟩ | ⟨g, cap, cur, hv, rest⟩
  · refine ⟨none, 0, by rw [hv, hn], ?_⟩
    have := h; rw [hv] at this; unfold Nums; rw [hn] at this ⊢; exact this
  · refine ⟨some ⟨g, 0, none⟩, cap, hv, ?_⟩
    have := h; rw [hv] at this; exact this
theorem body_done {w W V W' : World} {B n₀ D0 s x : Nat} {l : List Int} {pre : List Nat} {dv : Int} {v' : Value} (hko : KeepsFrom B W V) (hkw : Kw n₀ (D0 + 1) (D0 + 1 + 1) W V) (hB : Below n₀ w V) {X : List Int} (hd : F.sd l s x = dv) (hX : List.map (F.sd l s) pre = X)
    (h : Boxed W' D0 23 v' ∧ W'.ownsRow (D0 + 3) 3 1 v' (X.length + 1) (valsC X ++ [.int .i64 dv]) ∧ KeepsOthers V W' ∧ Kw n₀ (D0 + 1) (D0 + 1 + 1) V W' ∧ D0 + 3 ≤ W'.heap.size) :
    KeepsFrom B W W' ∧ Kw n₀ (D0 + 1) (D0 + 1 + 1) W W' ∧ ((∃ v, Boxed W' D0 23 v ∧ W'.ownsRow (D0 + 3) 3 1 v (List.map (F.sd l s) (pre ++ [x])).length (valsC (List.map (F.sd l s) (pre ++ [x]))) ∧ True) ∧ (Below n₀ w W' ∧ D0 + 3 ≤ W'.heap.size)) := by
  obtain ⟨h1, h2, h3, h4, h5⟩ := h
  subst hX
  refine ⟨hko.trans (h3.from B), hkw.trans h4, ⟨v', h1, ?_, trivial⟩, hB.trans h4.1, h5⟩
  have e1 : List.map (F.sd l s) (pre ++ [x]) = List.map (F.sd l s) pre ++ [dv] := by rw [List.map_append, ← hd]; rfl
  rw [e1, List.length_append, ← valsC_snoc]
  exact h2
set_option maxRecDepth 100000 in
set_option maxHeartbeats 4000000 in
theorem SD_impl_ok (n c s : Nat) (a : Option Addr) (l : List Int) (w : World) (h : Lst w.heap.size w a n l) (hok : F.dok l (s : Int) = true) : Calls Try.prog 14 #[.slice a n c, .int .i64 (s : Int)] w (Told w (F.sds l s (n - 2 * s))) := by
  have hv := (F.dok_of hok).1
  have hs1 : 1 ≤ s := by have := (F.dok_of hok).2.1; omega
  have hs16 : s ≤ 16 := by have := (F.dok_of hok).2.2; omega
  have h16 : n ≤ 16 := by rw [← h.1]; exact (F.vp_of hv).1
  have hb1 : (1 : Int) ≤ (s : Int) := by omega
  have hb2 : (s : Int) ≤ 16 := by omega
  have k1 := fun w' h => vp_impl w.heap.size n c a l w' h
  simp only [hv] at k1
  have K1 := Lib.hid k1
  have HV := Lib.hid hv
  have k2 := fun w' => inR_impl (s : Int) 1 16 w'
  simp only [inR_yes (show (1 : Int) ≤ (s : Int) ∧ (s : Int) ≤ 16 from ⟨hb1, hb2⟩)] at k2
  have K2 := Lib.hid k2
  clear k1 k2 hv hok
  refine (callsIn_wide (n := 3)).1 ?_
  refine callsIn_of_wp_marks Try.func14 rfl trivial ?_ rfl
  simp only [Try.ntmps14, List.size_toArray, List.length_cons, List.length_nil, Nat.reduceAdd, Nat.reduceSub, Array.replicate_succ, Array.replicate_zero, List.push_toArray, List.append_toArray, List.nil_append, List.cons_append]
  gi_wp2_with (first
    | (refine ⟨trivial, ?_⟩; gi_at_call 30; refine (callsIn_wide.2 (K1.out _ h)).mono ?_; rintro e w1 ⟨rfl, q1⟩)
    | (refine ⟨trivial, ?_⟩; gi_at_call 31; refine (callsIn_wide.2 (K2.out _)).mono ?_; rintro e w' ⟨rfl, rfl⟩)
    | (refine ⟨trivial, ?_⟩; gi_at_call 32; refine (callsIn_wide.2 (win_any _ _ _ _ _)).mono ?_; rintro e w' ⟨rfl, rfl⟩))
  have hsz1 : w1.heap.size = w.heap.size := by obtain ⟨p, rfl⟩ := q1; rfl
  have bl1 : Below w.heap.size w w1 := q1.below
  have hL1 : Lst w.heap.size w1 a n l := h.same q1
  have bO := ((Boxed.new w1 23 (.slice none 0 0)).alloc (.cells #[.slice a n c] 23)).alloc (.cells #[.int .i64 (s : Int)] 3)
  have bA := (Boxed.new (w1.alloc (.cells #[.slice none 0 0] 23)) 23 (.slice a n c)).alloc (.cells #[.int .i64 (s : Int)] 3)
  have bS := Boxed.new ((w1.alloc (.cells #[.slice none 0 0] 23)).alloc (.cells #[.slice a n c] 23)) 3 (.int .i64 (s : Int))
  simp only [World.size_alloc] at bA bS
  have hB0 : Below w.heap.size w (((w1.alloc (.cells #[.slice none 0 0] 23)).alloc (.cells #[.slice a n c] 23)).alloc (.cells #[.int .i64 (s : Int)] 3)) := ((bl1.alloc (by omega) _).alloc (by simp; omega) _).alloc (by simp; omega) _
  have hL0 := hL1.below (((((Below.refl w.heap.size w1).alloc (by omega) (.cells #[.slice none 0 0] 23)).alloc (by simp; omega) (.cells #[.slice a n c] 23)).alloc (by simp; omega) (.cells #[.int .i64 (s : Int)] 3)))
  have hsz : (((w1.alloc (.cells #[.slice none 0 0] 23)).alloc (.cells #[.slice a n c] 23)).alloc (.cells #[.int .i64 (s : Int)] 3)).heap.size = w1.heap.size + 3 := by simp
  obtain ⟨W0, hW0⟩ : ∃ W0, ((w1.alloc (.cells #[.slice none 0 0] 23)).alloc (.cells #[.slice a n c] 23)).alloc (.cells #[.int .i64 (s : Int)] 3) = W0 := ⟨_, rfl⟩
  rw [hW0] at bO bS bA hB0 hsz hL0 ⊢
  have hD0 : w.heap.size ≤ w1.heap.size := by omega
  clear hW0 hL1 bl1 q1 hsz1 h
  generalize w1.heap.size = D0 at *
  refine wpIn_rangeFunc_ownH rfl (by omega) (gf := 40) (lb := #[.pointer (some ⟨D0 + 1, 0, none⟩), .pointer (some ⟨D0 + 1 + 1, 0, none⟩)]) rfl trivial (enters_of Try.func40 (by kernel_rfl) rfl)
    (win_stops 2 (by omega) (D0 + 1) (D0 + 1 + 1) w.heap.size n c s a l h16 hs1 hs16 W0 (by omega) (by omega) (by omega) bA.cell bS.cell hL0)
    (fun h k => h.trans k) (fun W q o o' hq hW _ _ => Kw.of (M := D0 + 3) ((Below.refl (D0 + 3) W).grown (grownBy_putObj' W q o') (by have := (Array.getElem?_eq_some_iff.1 hW).1; omega) (fun k e => by cases e; omega)) (by omega) (by omega) (by omega)) (Below.refl _ _) (fun _ => rfl)
    (fun pre W => (∃ v, Boxed W D0 23 v ∧ W.ownsRow (D0 + 3) 3 1 v (List.map (F.sd l s) pre).length (valsC (List.map (F.sd l s) pre)) ∧ True) ∧ (Below w.heap.size w W ∧ D0 + 3 ≤ W.heap.size))
    (fun _ _ _ => False)
    (OwnFrom.and (Own.from (holdsRow_own (D0 + 3) D0 23 3 1 (fun pre => (List.map (F.sd l s) pre).length) (fun pre => valsC (List.map (F.sd l s) pre)) (fun _ _ => True)) _) (OwnFrom.and (ownFrom_below (Nat.le_refl _) (by omega)) (fun _ X Y row hs hg hr => Nat.le_trans hs hg.size)))
    (fun _ _ _ _ _ hs _ _ => hs)
    ⟨⟨_, bO, World.ownsRow_nil _ _ _ _, trivial⟩, hB0, by omega⟩
    (fun x a' W => ∃ Bx, D0 + 3 ≤ Bx ∧ (W.cell? ⟨Bx, 0, none⟩ = some (.int .i64 (L.g l x)) ∧ W.cell? ⟨Bx, 1, none⟩ = some (.int .i64 (L.g l (x + s))) ∧ W.cell? ⟨Bx, 2, none⟩ = some (.int .i64 (L.g l (x + 2 * s)))) ∧ a' = { tmps := #[.slice a n c, .int .i64 (s : Int), undef, undef, .slice none 0 0, .pointer (some ⟨D0, 0, none⟩), .pointer (some ⟨Bx, 0, none⟩), .slice a n c, .bool true, .bool false, .bool false, .int .i64 (s : Int), .bool true, .bool false, .bool false, .slice a n c, .int .i64 (s : Int), .func (.func 40) #[] #[.pointer (some ⟨D0 + 1, 0, none⟩), .pointer (some ⟨D0 + 1 + 1, 0, none⟩)], .agg #[.int .i64 (L.g l x), .int .i64 (L.g l (x + s)), .int .i64 (L.g l (x + 2 * s))], undef, undef, undef, undef, undef, undef], defers := [] })
    (fun x a' _ X Y row hs hg hr => by
      obtain ⟨Bx, h1, ⟨h2, h3, h4⟩, h5⟩ := hs
      exact ⟨Bx, h1, ⟨cell_kept h2 hg (fun r e => (hr r e).2), cell_kept h3 hg (fun r e => (hr r e).2), cell_kept h4 hg (fun r e => (hr r e).2)⟩, h5⟩)
    ?assign ?body ?done ?stop
  case assign =>
    rintro l' pre x W K ⟨⟨v, hv, hrow, _⟩, hB, hD⟩ hK
    gi_wp2
    exact hK _ _ ((KeepsOthers.alloc _ _).from _) (Kw.of (M := D0 + 3) ((Below.refl _ W).alloc hD _) (by omega) (by omega) (by omega)) ⟨⟨v, hv.alloc _, hrow.alloc _, trivial⟩, hB.alloc hB.size _, by simp; omega⟩ ⟨W.heap.size, hD, ⟨by simp, by simp, by simp⟩, rfl⟩
  case body =>
    rintro l' pre x a' W hl ⟨r, hr⟩ ⟨⟨v, hv, hrow, _⟩, hB, hD⟩ ⟨Bx, hBx, ⟨x0, x1, x2⟩, rfl⟩ hlt
    have hm : Try.prog.follows .mixedOrders = true := by kernel_rfl
    have hd1 : 1 ≤ 3 - 1 - 1 := by omega
    obtain ⟨i0, hi0, hz0, hz1, hz2⟩ := info_parts intC_info
    have k3 := fun w' => sd1_any (L.g l x) (L.g l (x + s)) (L.g l (x + 2 * s)) (F.vp_g HV.out _) (F.vp_g HV.out _) (F.vp_g HV.out _) w'
    simp only [← F.sd_eq] at k3
    obtain ⟨d, hd⟩ : ∃ d, F.sd l s x = d := ⟨_, rfl⟩
    rw [hd] at k3
    have K3 := Lib.hid k3
    have HI := Lib.hid hi0
    have HZ0 := Lib.hid hz0
    have HZ1 := Lib.hid hz1
    have HZ2 := Lib.hid hz2
    have HD := Lib.hid hd
    clear k3 hd hi0 hz0 hz1 hz2 hr
    have hpl : pre.length < 16 := by omega
    have hml : (List.map (F.sd l s) pre).length = pre.length := by simp
    obtain ⟨X, hX⟩ : ∃ X, List.map (F.sd l s) pre = X := ⟨_, rfl⟩
    rw [hX] at hml hrow
    have HML := Lib.hid hml
    have HX := Lib.hid hX
    clear hml hlt hX
    have hv : Boxed W.drew D0 23 v := hv
    have hrow : W.drew.ownsRow (D0 + 3) 3 1 v X.length (valsC X) := hrow
    have HKO := Lib.hid ((KeepsOthers.drew W).from W0.heap.size)
    have HKW := Lib.hid (Kw.drew (n₀ := w.heap.size) (B1 := D0 + 1) (B2 := D0 + 1 + 1) (A := W))
    have x0 : W.drew.cell? ⟨Bx, 0, none⟩ = some (.int .i64 (L.g l x)) := x0
    have x1 : W.drew.cell? ⟨Bx, 1, none⟩ = some (.int .i64 (L.g l (x + s))) := x1
    have x2 : W.drew.cell? ⟨Bx, 2, none⟩ = some (.int .i64 (L.g l (x + 2 * s))) := x2
    have hB := hB.drew
    have hD : D0 + 3 ≤ W.drew.heap.size := hD
    have hc := hv.cell
    gi_wp2_with fail
    refine wpIn_region_any hm ?_
    change wpAnyIn _ _ _ _ _ _ _ _ _ (World.drew _)
    generalize W.drew = V at *
    have c1 : (V.alloc (.cells #[.int .i64 (L.g l x), .int .i64 (L.g l (x + s)), .int .i64 (L.g l (x + 2 * s))] 43)).cell? ⟨D0, 0, none⟩ = some v := (hv.alloc _).cell
    have c2 : ((V.alloc (.cells #[.int .i64 (L.g l x), .int .i64 (L.g l (x + s)), .int .i64 (L.g l (x + 2 * s))] 43)).alloc (.cells #[.int .i64 d] 3)).cell? ⟨D0, 0, none⟩ = some v := ((hv.alloc _).alloc _).cell
    refine wpAnyIn_ready (rs := [0, 1]) (by kernel_rfl) (by simp) ?_
    refine AllReadyIn.cons rfl (fun K hK => ?_) (AllReadyIn.cons rfl (fun K hK => ?_) AllReadyIn.nil)
    · go_simp
      refine hK _ _ ?_
      clear hK K
      refine wpAnyIn_ready (rs := [1]) (by kernel_rfl) (by simp) ?_
      refine AllReadyIn.cons rfl (fun K hK => ?_) AllReadyIn.nil
      go_simp
      refine hK _ _ ?_
      clear hK K
      refine wpAnyIn_ready (rs := [2]) (by kernel_rfl) (by simp) ?_
      refine AllReadyIn.cons rfl (fun K hK => ?_) AllReadyIn.nil
      go_simp
      refine ⟨trivial, (CallsIn.inRound l' (callsIn_wide.2 (K3.out _))).mono ?_⟩
      rintro e w' ⟨rfl, rfl⟩
      refine hK _ _ ?_
      clear hK K
      refine wpAnyIn_ready (rs := [3]) (by kernel_rfl) (by simp) ?_
      refine AllReadyIn.cons rfl (fun K hK => ?_) AllReadyIn.nil
      go_simp
      refine hK _ _ ?_
      clear hK K
      refine wpAnyIn_tail_ 4 (by rfl) (by kernel_rfl) ?_
      simp only [List.drop_succ_cons, List.drop_zero]
      refine wpListIn_append_own _ rfl _ _ 23 rfl (D0 + 3) 3 i0 (.int .i64 0) 1 8 Try.underlying23 HI.out HZ0.out HZ1.out HZ2.out rfl (by decide) _ _ _ rfl ((hrow.alloc _).alloc _) ⟨V.heap.size + 1, 0, none⟩ 1 1 [.int .i64 d] rfl rfl (by have := cell_one_new (V.alloc (.cells #[.int .i64 (L.g l x), .int .i64 (L.g l (x + s)), .int .i64 (L.g l (x + 2 * s))] 43)) (.int .i64 d) 3; rw [World.size_alloc] at this; exact this) (by simp [Value.oneCell']) (by rw [HML.out]; unfold maxLen; omega) (by rw [HML.out]; omega) (by simp; omega) ?_
      intro v' w5 own5 hg5 _
      obtain ⟨g', cap', rfl⟩ := ownsRow_succ own5
      obtain ⟨hv5, hv6, hr6, hk6, hw6, hz6⟩ := round_end (n₀ := w.heap.size) hv hrow hD hD0 own5 hg5
      have hc5 := hv5.cell
      have hf5 := hv5.frozen
      have HF := Lib.hid (And.intro hv6 (And.intro hr6 (And.intro hk6 (And.intro hw6 hz6))))
      clear hv5 hv6 hr6 hk6 hw6 hz6 own5 hg5 hrow hv
      gi_wp2
      exact body_done HKO.out HKW.out hB HD.out HX.out HF.out
    · go_simp
      refine hK _ _ ?_
      clear hK K
      refine wpAnyIn_ready (rs := [0, 2]) (by kernel_rfl) (by simp) ?_
      refine AllReadyIn.cons rfl (fun K hK => ?_) (AllReadyIn.cons rfl (fun K hK => ?_) AllReadyIn.nil)
      · go_simp
        refine hK _ _ ?_
        clear hK K
        refine wpAnyIn_ready (rs := [2]) (by kernel_rfl) (by simp) ?_
        refine AllReadyIn.cons rfl (fun K hK => ?_) AllReadyIn.nil
        go_simp
        refine ⟨trivial, (CallsIn.inRound l' (callsIn_wide.2 (K3.out _))).mono ?_⟩
        rintro e w' ⟨rfl, rfl⟩
        refine hK _ _ ?_
        clear hK K
        refine wpAnyIn_ready (rs := [3]) (by kernel_rfl) (by simp) ?_
        refine AllReadyIn.cons rfl (fun K hK => ?_) AllReadyIn.nil
        go_simp
        refine hK _ _ ?_
        clear hK K
        refine wpAnyIn_tail_ 4 (by rfl) (by kernel_rfl) ?_
        simp only [List.drop_succ_cons, List.drop_zero]
        refine wpListIn_append_own _ rfl _ _ 23 rfl (D0 + 3) 3 i0 (.int .i64 0) 1 8 Try.underlying23 HI.out HZ0.out HZ1.out HZ2.out rfl (by decide) _ _ _ rfl ((hrow.alloc _).alloc _) ⟨V.heap.size + 1, 0, none⟩ 1 1 [.int .i64 d] rfl rfl (by have := cell_one_new (V.alloc (.cells #[.int .i64 (L.g l x), .int .i64 (L.g l (x + s)), .int .i64 (L.g l (x + 2 * s))] 43)) (.int .i64 d) 3; rw [World.size_alloc] at this; exact this) (by simp [Value.oneCell']) (by rw [HML.out]; unfold maxLen; omega) (by rw [HML.out]; omega) (by simp; omega) ?_
        intro v' w5 own5 hg5 _
        obtain ⟨g', cap', rfl⟩ := ownsRow_succ own5
        obtain ⟨hv5, hv6, hr6, hk6, hw6, hz6⟩ := round_end (n₀ := w.heap.size) hv hrow hD hD0 own5 hg5
        have hc5 := hv5.cell
        have hf5 := hv5.frozen
        have HF := Lib.hid (And.intro hv6 (And.intro hr6 (And.intro hk6 (And.intro hw6 hz6))))
        clear hv5 hv6 hr6 hk6 hw6 hz6 own5 hg5 hrow hv
        gi_wp2
        exact body_done HKO.out HKW.out hB HD.out HX.out HF.out
      · go_simp
        refine ⟨trivial, (CallsIn.inRound l' (callsIn_wide.2 (K3.out _))).mono ?_⟩
        rintro e w' ⟨rfl, rfl⟩
        refine hK _ _ ?_
        clear hK K
        refine wpAnyIn_ready (rs := [0, 3]) (by kernel_rfl) (by simp) ?_
        refine AllReadyIn.cons rfl (fun K hK => ?_) (AllReadyIn.cons rfl (fun K hK => ?_) AllReadyIn.nil)
        · go_simp
          refine hK _ _ ?_
          clear hK K
          refine wpAnyIn_ready (rs := [3]) (by kernel_rfl) (by simp) ?_
          refine AllReadyIn.cons rfl (fun K hK => ?_) AllReadyIn.nil
          go_simp
          refine hK _ _ ?_
          clear hK K
          refine wpAnyIn_tail_ 4 (by rfl) (by kernel_rfl) ?_
          simp only [List.drop_succ_cons, List.drop_zero]
          refine wpListIn_append_own _ rfl _ _ 23 rfl (D0 + 3) 3 i0 (.int .i64 0) 1 8 Try.underlying23 HI.out HZ0.out HZ1.out HZ2.out rfl (by decide) _ _ _ rfl ((hrow.alloc _).alloc _) ⟨V.heap.size + 1, 0, none⟩ 1 1 [.int .i64 d] rfl rfl (by have := cell_one_new (V.alloc (.cells #[.int .i64 (L.g l x), .int .i64 (L.g l (x + s)), .int .i64 (L.g l (x + 2 * s))] 43)) (.int .i64 d) 3; rw [World.size_alloc] at this; exact this) (by simp [Value.oneCell']) (by rw [HML.out]; unfold maxLen; omega) (by rw [HML.out]; omega) (by simp; omega) ?_
          intro v' w5 own5 hg5 _
          obtain ⟨g', cap', rfl⟩ := ownsRow_succ own5
          obtain ⟨hv5, hv6, hr6, hk6, hw6, hz6⟩ := round_end (n₀ := w.heap.size) hv hrow hD hD0 own5 hg5
          have hc5 := hv5.cell
          have hf5 := hv5.frozen
          have HF := Lib.hid (And.intro hv6 (And.intro hr6 (And.intro hk6 (And.intro hw6 hz6))))
          clear hv5 hv6 hr6 hk6 hw6 hz6 own5 hg5 hrow hv
          gi_wp2
          exact body_done HKO.out HKW.out hB HD.out HX.out HF.out
        · go_simp
          refine hK _ _ ?_
          clear hK K
          refine wpAnyIn_ready (rs := [0]) (by kernel_rfl) (by simp) ?_
          refine AllReadyIn.cons rfl (fun K hK => ?_) AllReadyIn.nil
          go_simp
          refine hK _ _ ?_
          clear hK K
          refine wpAnyIn_tail_ 4 (by rfl) (by kernel_rfl) ?_
          simp only [List.drop_succ_cons, List.drop_zero]
          refine wpListIn_append_own _ rfl _ _ 23 rfl (D0 + 3) 3 i0 (.int .i64 0) 1 8 Try.underlying23 HI.out HZ0.out HZ1.out HZ2.out rfl (by decide) _ _ _ rfl ((hrow.alloc _).alloc _) ⟨V.heap.size + 1, 0, none⟩ 1 1 [.int .i64 d] rfl rfl (by have := cell_one_new (V.alloc (.cells #[.int .i64 (L.g l x), .int .i64 (L.g l (x + s)), .int .i64 (L.g l (x + 2 * s))] 43)) (.int .i64 d) 3; rw [World.size_alloc] at this; exact this) (by simp [Value.oneCell']) (by rw [HML.out]; unfold maxLen; omega) (by rw [HML.out]; omega) (by simp; omega) ?_
          intro v' w5 own5 hg5 _
          obtain ⟨g', cap', rfl⟩ := ownsRow_succ own5
          obtain ⟨hv5, hv6, hr6, hk6, hw6, hz6⟩ := round_end (n₀ := w.heap.size) hv hrow hD hD0 own5 hg5
          have hc5 := hv5.cell
          have hf5 := hv5.frozen
          have HF := Lib.hid (And.intro hv6 (And.intro hr6 (And.intro hk6 (And.intro hw6 hz6))))
          clear hv5 hv6 hr6 hk6 hw6 hz6 own5 hg5 hrow hv
          gi_wp2
          exact body_done HKO.out HKW.out hB HD.out HX.out HF.out
  case done =>
    rintro D ys W hD rfl ⟨⟨v, hv, hrow, _⟩, hB, hD3⟩ hK
    have hc := hv.cell
    gi_wp2
    refine ⟨by simp, .inl ⟨_, _, rfl, run_takeDeferred hK, ?_⟩⟩
    obtain ⟨a', c', rfl, hN⟩ := row_told hrow
    refine ⟨_, results_tmp rfl _ _ _, a', c', ?_, ?_, ?_⟩
    · simp [F.sds]
    · exact Nums.more (ownsRow_putObj hN _ hK rfl) (by omega)
    · exact hB.trans (belowK_b (w := w) (Nat.le_refl _) W D _ _ (by omega) hK rfl rfl)
  case stop =>
    rintro D c pre W _ _ h _
    exact h.elim
set_option maxHeartbeats 1000000 in
theorem SD_impl_no (n c : Nat) (st : Int) (a : Option Addr) (l : List Int) (w : World) (h : Lst w.heap.size w a n l) (hok : F.dok l st = false) : Calls Try.prog 14 #[.slice a n c, .int .i64 st] w (Told w []) := by
  have T : ∀ w', Same w w' → Told w [] (.returned (.slice none 0 0)) w' := fun w' q => ⟨none, 0, rfl, Nums.none_ _ _, q.below⟩
  have HT := Lib.hid T
  clear T
  rcases hv : F.vp l with _ | _
  · have k1 := fun w' h => vp_impl w.heap.size n c a l w' h
    simp only [hv] at k1
    have K1 := Lib.hid k1
    clear k1 hv hok
    go_enter Try.func14, Try.ntmps14
    go_wp2_with (first
      | (go_at_call 30; refine (K1.out _ h).mono ?_; rintro e w1 ⟨rfl, q1⟩))
    go_ret
    exact HT.out _ q1
  · have hin : inR st 1 16 = false := by
      rcases inR_cases st 1 16 with ⟨r0, r1⟩ | ⟨r0, r1⟩
      · exfalso
        rw [F.dok_yes ⟨hv, r1⟩] at hok; cases hok
      · exact r0
    have k1 := fun w' h => vp_impl w.heap.size n c a l w' h
    simp only [hv] at k1
    have K1 := Lib.hid k1
    have k2 := fun w' => inR_impl st 1 16 w'
    simp only [hin] at k2
    have K2 := Lib.hid k2
    clear k1 k2 hv hok hin
    go_enter Try.func14, Try.ntmps14
    go_wp2_with (first
      | (go_at_call 30; refine (K1.out _ h).mono ?_; rintro e w1 ⟨rfl, q1⟩)
      | (go_at_call 31; refine (K2.out _).mono ?_; rintro e w' ⟨rfl, rfl⟩))
    go_ret
    exact HT.out _ q1
theorem SD_impl (n c : Nat) (st : Int) (a : Option Addr) (l : List Int) (w : World) (h : Lst w.heap.size w a n l) : Calls Try.prog 14 #[.slice a n c, .int .i64 st] w (Told w (F.sdr l st)) := by
  rcases hok : F.dok l st with _ | _
  · rw [F.sdr_no hok]; exact SD_impl_no n c st a l w h hok
  · obtain ⟨s, rfl⟩ := Int.eq_ofNat_of_zero_le (show 0 ≤ st by have := (F.dok_of hok).2.1; omega)
    rw [F.sdr_yes hok, h.1]
    exact SD_impl_ok n c s a l w h hok
end Go.Proofs.Ytijkglhgmojffaa
