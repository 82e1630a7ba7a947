/-
  What the generators do with a list of numbers: some list of moderate size, and nothing that was there has changed. Condition: the code has at most 1048576 bytes.
-/
import Derived.Test.YtgbbbmljanlogaaDraw
import Derived.Test.YtgbbbmljanlogaaLst
import Derived.Deep.AppendLies
import Derived.WalkSpells
import Derived.Deep.RegionHeld3
import Derived.Deep.RegionWith
namespace Go.Proofs.Ytgbbbmljanlogaa
open Go.RowKit
set_option linter.unusedVariables false
set_option maxRecDepth 100000
theorem int_info : (Try.prog.info? 3).map (fun i => (i.zero, i.size, i.bytes)) = some (some (.int .i64 0), 1, 8) := by kernel_rfl
def vals (l : List Int) : List Value := l.map (Value.int .i64)
theorem vals_len (l : List Int) : (vals l).length = l.length := by simp [vals]
theorem vals_one (l : List Int) : ∀ u ∈ vals l, u.oneCell' = true := by intro u hu; simp [vals] at hu; obtain ⟨x, _, rfl⟩ := hu; rfl
theorem vals_get (l : List Int) (i : Nat) (h : i < l.length) : (vals l)[i]? = some (.int .i64 (L.g l i)) := by
  unfold vals; rw [List.getElem?_map, L.g_get l i h]; rfl
theorem vals_snoc (l : List Int) (x : Int) : vals l ++ [.int .i64 x] = vals (l ++ [x]) := by simp [vals]
def Small (l : List Int) : Prop := ∀ i, i < l.length → -2000000000 ≤ L.g l i ∧ L.g l i ≤ 2000000000
theorem Small.snoc {l : List Int} {x : Int} (h : Small l) (hx : -2000000000 ≤ x ∧ x ≤ 2000000000) : Small (l ++ [x]) := fun i hi => by
  simp at hi
  unfold L.g
  rw [List.getD_eq_getElem?_getD]
  rcases Nat.lt_or_ge i l.length with a | a
  · rw [List.getElem?_append_left a]; have := h i a; unfold L.g at this; rwa [List.getD_eq_getElem?_getD] at this
  · obtain rfl : i = l.length := by omega
    rw [List.getElem?_append_right (Nat.le_refl _)]; simpa using hx
theorem Small.nil : Small [] := fun i hi => absurd hi (by simp)
/-- A reader, and a list of the call's own beside it. -/
structure Rw (B : Nat) (w0 w : World) (r m base : Nat) (v : Value) (l : List Int) : Prop where
  rdr : Rdr B w r m
  far : Far w0 r w
  bel : Below B w0 w
  own : w.ownsRow base 3 1 v l.length (vals l)
  lo : r < base
  hi : base ≤ w.heap.size
  sm : Small l
theorem own_far {w w' : World} {base : Nat} {t : TypeId} {k n r : Nat} {v : Value} {xs : List Value} (h : w.ownsRow base t k v n xs) (f : Far w r w') (hr : r < base) : w'.ownsRow base t k v n xs := by
  refine ⟨h.1, ?_⟩
  rcases h.2 with hn | ⟨g, cap, cur, rfl, hb, hgg, rest⟩
  · exact .inl hn
  · refine .inr ⟨g, cap, cur, rfl, hb, ?_, rest⟩
    rw [f.block g (Array.getElem?_eq_some_iff.1 hgg).1 (by omega)]
    exact hgg
theorem Rw.next {B r m m' base : Nat} {w0 w w' : World} {v : Value} {l : List Int} (h : Rw B w0 w r m base v l) (rd : Rdr B w' r m') (bl : Below B w w') (fr : Far w r w') : Rw B w0 w' r m' base v l :=
  ⟨rd, h.far.trans fr, h.bel.trans bl, own_far h.own fr h.lo, h.lo, Nat.le_trans h.hi fr.size, h.sm⟩
theorem Rw.step {B r m m' base : Nat} {w0 w w' : World} {v : Value} {l : List Int} (h : Rw B w0 w r m base v l) (st : Step B w r m' w') : Rw B w0 w' r m' base v l := h.next st.rdr st.bel st.far
theorem Rw.alloc {B r m base : Nat} {w0 w : World} {v : Value} {l : List Int} (h : Rw B w0 w r m base v l) (c : Array Value) (t : TypeId) : Rw B w0 (w.alloc (.cells c t)) r m base v l :=
  h.next (h.rdr.alloc c t) ((Below.refl _ _).alloc h.rdr.le _) ((Far.refl _ _).alloc _)
theorem Rw.mono {B r m m' base : Nat} {w0 w : World} {v : Value} {l : List Int} (h : Rw B w0 w r m base v l) (hm : m ≤ m') : Rw B w0 w r m' base v l := { h with rdr := h.rdr.mono hm }
theorem Rdr.grown {B r m : Nat} {w w' : World} {row : Option Nat} (h : Rdr B w r m) (hg : w.grownBy w' row) (hr : ∀ g, row = some g → r < g) : Rdr B w' r m := by
  have hne : ∀ b, b ≤ r → some b ≠ row := fun b hb e => by have := hr b e.symm; omega
  have hc : ∀ b o, b ≤ r → w'.cell? ⟨b, o, none⟩ = w.cell? ⟨b, o, none⟩ := fun b o hb =>
    World.cell?_of_block (w := w) (a := ⟨b, o, none⟩) (hg.block b (by have := h.top; omega) (hne b hb))
  obtain ⟨a, b, c, ⟨p, hp, hp2⟩, x, len, cap, hx, hl, hcode⟩ := h
  refine ⟨a, by have := hg.size; omega, (World.frozen?_of_block (w := w) (a := ⟨r, 1, none⟩) (hg.block r b (hne r (Nat.le_refl _)))).trans c, ⟨p, hp, (hc r 1 (Nat.le_refl _)).trans hp2⟩, x, len, cap, (hc r 0 (Nat.le_refl _)).trans hx, hl, ?_⟩
  rcases hcode with h0 | ⟨cb, off, rfl, hb, hall⟩
  · exact .inl h0
  · refine .inr ⟨cb, off, rfl, hb, fun i hi => ?_⟩
    obtain ⟨n, h0, h1, h2⟩ := hall i hi
    exact ⟨n, h0, h1, (hc _ _ (by omega)).trans h2⟩
/-- Behind an append onto the list. -/
theorem Rw.grown {B r m base : Nat} {w0 w w' : World} {v v' : Value} {l l' : List Int} {n : Nat} (h : Rw B w0 w r m base v l) (own : w'.ownsRow base 3 1 v' n (vals l')) (hg : w.grownBy w' v.ownBlock) (sm : Small l') (h0 : w0.heap.size ≤ base) : Rw B w0 w' r m base v' l' := by
  have hrow : ∀ k, v.ownBlock = some k → base ≤ k := fun k hk => (h.own.lt k hk).1
  have hn : n = l'.length := by have := own.1; rw [vals_len] at this; omega
  subst hn
  refine ⟨h.rdr.grown hg (fun g hg' => by have := hrow g hg'; have := h.lo; omega), ⟨Nat.le_trans h.far.size hg.size, fun b hb hr => ?_⟩, h.bel.grown hg h.rdr.le (fun k hk => by have := hrow k hk; have := h.rdr.low; have := h.lo; omega), own, h.lo, Nat.le_trans h.hi hg.size, sm⟩
  rw [hg.block b (Nat.lt_of_lt_of_le hb h.far.size) (fun e => by have := hrow b e.symm; omega)]
  exact h.far.block b hb hr
/-- Some table. -/
def Table (k : Nat) (B : Nat) (w : World) (r m : Nat) (e : Ending) (w' : World) : Prop := ∃ v l, e = .returned v ∧ l.length ≤ k ∧ Rw B w w' r m w.heap.size v l
theorem copyInts_any (B r m base0 : Nat) (w0 w : World) (v : Value) (l : List Int) (R : Rw B w0 w r m base0 v l) (hl0 : 0 < l.length) (hl : l.length ≤ 1000) : Calls Try.prog 46 #[v] w fun e w' => ∃ v', e = .returned v' ∧ Rw B w0 w' r m w.heap.size v' l := by
  obtain ⟨i0, hi0, hz0, hz1, hz2⟩ := info_parts int_info
  have hI := Lib.hid hi0
  have hZ0 := Lib.hid hz0
  have hZ1 := Lib.hid hz1
  have hZ2 := Lib.hid hz2
  clear hi0 hz0 hz1 hz2
  have own0 : (w.alloc (.cells #[] 3)).ownsRow w.heap.size 3 1 (.slice (some ⟨w.heap.size, 0, none⟩) 0 0) 0 [] := World.ownsRow_made w #[] 0 (Nat.le_refl _) (by unfold maxLen; omega) rfl
  have R0 : Rw B w0 (w.alloc (.cells #[] 3)) r m w.heap.size (.slice (some ⟨w.heap.size, 0, none⟩) 0 0) [] :=
    ⟨(R.alloc _ _).rdr, (R.alloc _ _).far, (R.alloc _ _).bel, own0, R.rdr.top, by simp, Small.nil⟩
  have RA := R.alloc #[] 3
  have HO := Lib.hid own0
  clear own0
  obtain ⟨g, cap, hv, hg0, hg1⟩ := RA.own.form hl0
  subst hv
  have hcells := RA.own.cells (g := g) rfl
  have HC := Lib.hid hcells
  have HK := Lib.hid RA.own.1
  have H0 := Lib.hid R0
  have hF := R.far.size
  clear hcells R0
  go_enter Try.func46, Try.ntmps46
  go_wp2_with (at_builtin; refine wpList_append_own _ rfl _ _ 23 rfl w.heap.size 3 i0 (.int .i64 0) 1 8 Try.underlying23 hI.out hZ0.out hZ1.out hZ2.out rfl (by decide) _ _ _ rfl HO.out ⟨g, 0, none⟩ l.length cap (vals l) rfl HK.out HC.out (vals_one l) (by unfold maxLen; omega) (by omega) (by simp) ?_)
  intro v' w1 own1 hg _
  have R1 := H0.out.grown own1 hg R.sm hF
  clear own1 hg
  go_wp2
  go_ret
  exact ⟨v', rfl, R1⟩
theorem copyInts_nil (B r m base0 g cap : Nat) (w0 w : World) (R : Rw B w0 w r m base0 (.slice (some ⟨g, 0, none⟩) 0 cap) []) : Calls Try.prog 46 #[.slice (some ⟨g, 0, none⟩) 0 cap] w fun e w' => ∃ v', e = .returned v' ∧ Rw B w0 w' r m w.heap.size v' [] := by
  obtain ⟨i0, hi0, hz0, hz1, hz2⟩ := info_parts int_info
  have hI := Lib.hid hi0
  have hZ0 := Lib.hid hz0
  have hZ1 := Lib.hid hz1
  have hZ2 := Lib.hid hz2
  clear hi0 hz0 hz1 hz2
  have own0 : (w.alloc (.cells #[] 3)).ownsRow w.heap.size 3 1 (.slice (some ⟨w.heap.size, 0, none⟩) 0 0) 0 [] := World.ownsRow_made w #[] 0 (Nat.le_refl _) (by unfold maxLen; omega) rfl
  have R0 : Rw B w0 (w.alloc (.cells #[] 3)) r m w.heap.size (.slice (some ⟨w.heap.size, 0, none⟩) 0 0) [] :=
    ⟨(R.alloc _ _).rdr, (R.alloc _ _).far, (R.alloc _ _).bel, own0, R.rdr.top, by simp, Small.nil⟩
  have RA := R.alloc #[] 3
  have HO := Lib.hid own0
  clear own0
  have hcells : ∀ (i : Nat) (u : Value), ([] : List Value)[i]? = some u → (w.alloc (.cells #[] 3)).cell? (Addr.add ⟨g, 0, none⟩ i) = some u := fun i u hu => by cases hu
  have HC := Lib.hid hcells
  have H0 := Lib.hid R0
  have hF := R.far.size
  clear hcells R0
  go_enter Try.func46, Try.ntmps46
  go_wp2_with (at_builtin; refine wpList_append_own _ rfl _ _ 23 rfl w.heap.size 3 i0 (.int .i64 0) 1 8 Try.underlying23 hI.out hZ0.out hZ1.out hZ2.out rfl (by decide) _ _ _ rfl HO.out ⟨g, 0, none⟩ 0 cap [] rfl rfl HC.out (by intro u hu; cases hu) (by unfold maxLen; omega) (by omega) (by simp) ?_)
  intro v' w1 own1 hg _
  have R1 := H0.out.grown own1 hg R.sm hF
  clear own1 hg
  go_wp2
  go_ret
  exact ⟨v', rfl, R1⟩
/-- Some table, wherever it lies. -/
def Tab (k B : Nat) (w : World) (r m : Nat) (e : Ending) (w' : World) : Prop := ∃ a n c l, e = .returned (.slice a n c) ∧ Lst w'.heap.size w' a n l ∧ n ≤ k ∧ n ≤ c ∧ c ≤ maxLen ∧ Small l ∧ Rdr B w' r m ∧ Below B w w' ∧ Far w r w' ∧ (0 < n → ∀ x, a = some x → r < x.block)
theorem Rw.lst {B r m base : Nat} {w0 w : World} {v : Value} {l : List Int} (h : Rw B w0 w r m base v l) (hk : l.length ≤ 1000) : ∃ a c, v = .slice a l.length c ∧ Lst w.heap.size w a l.length l ∧ l.length ≤ c ∧ c ≤ maxLen ∧ (0 < l.length → ∀ x, a = some x → r < x.block) := by
  rcases h.own.2 with ⟨hv, hn⟩ | ⟨g, cap, cur, hv, hb, hgg, hle, hcap, hcs, htk⟩
  · exact ⟨none, 0, by rw [hv, hn], by rw [hn]; exact ⟨hn, by omega, .inl rfl⟩, by omega, by unfold maxLen; omega, fun h => by omega⟩
  · refine ⟨some ⟨g, 0, none⟩, cap, hv, ⟨rfl, by omega, .inr ⟨g, 0, rfl, (Array.getElem?_eq_some_iff.1 hgg).1, fun i hi => ?_⟩⟩, hle, hcap, fun _ x hx => by injection hx with hx; subst hx; have := h.lo; show r < g; omega⟩
    have := h.own.cells (g := g) (by rw [hv]; rfl) i _ (vals_get l i hi)
    rw [show (Addr.add ⟨g, 0, none⟩ i) = ⟨g, 0 + i, none⟩ from by unfold Addr.add; split <;> simp_all] at this
    exact this
theorem Rw.tab {k B r m base : Nat} {w0 w : World} {v : Value} {l : List Int} (h : Rw B w0 w r m base v l) (hk : l.length ≤ k) (hk' : k ≤ 1000) : Tab k B w0 r m (.returned v) w := by
  obtain ⟨a, c, rfl, h1, h2, h3, h4⟩ := h.lst (by omega)
  exact ⟨a, _, c, l, rfl, h1, hk, h2, h3, h.sm, h.rdr, h.bel, h.far, h4⟩
theorem Small.tail {l : List Int} (h : Small l) : Small (l.drop 1) := fun i hi => by
  have := h (i + 1) (by simp at hi; omega)
  unfold L.g at this ⊢
  rwa [List.getD_eq_getElem?_getD, List.getElem?_drop, Nat.add_comm 1 i, ← List.getD_eq_getElem?_getD]
theorem Rw.tail {k B r m base : Nat} {w0 w : World} {g n c : Nat} {l : List Int} (h : Rw B w0 w r m base (.slice (some ⟨g, 0, none⟩) n c) l) (hn : n = l.length) (h1 : 1 < n) (hk : n ≤ k + 1) (hk' : k + 1 ≤ 1000) : Tab k B w0 r m (.returned (.slice (some ⟨g, 1, none⟩) (n - 1) (c - 1))) w := by
  subst hn
  obtain ⟨a, c', e, h2, h3, h4, h5⟩ := h.lst (by omega)
  injection e with e1 e2 e3
  subst e3
  have h6 := h5 (by omega) _ e1.symm
  refine ⟨_, _, _, l.drop 1, rfl, ⟨by simp, by omega, .inr ⟨g, 1, rfl, ?_, fun i hi => ?_⟩⟩, by omega, by omega, by omega, h.sm.tail, h.rdr, h.bel, h.far, fun _ x hx => by injection hx with hx; subst hx; exact h6⟩
  · obtain ⟨b, off, e, hb, _⟩ := h2.at_ 0 (by omega)
    rw [e] at e1; injection e1 with e1; injection e1 with e1; rw [e1]; exact hb
  · obtain ⟨b, off, e, hb, hc⟩ := h2.at_ 0 (by omega)
    rw [e] at e1; injection e1 with e1; injection e1 with e1 e1'
    subst e1; subst e1'
    have := hc (i + 1) (by omega)
    rw [Nat.zero_add, Nat.add_comm i 1] at this
    rw [this]
    unfold L.g
    rw [List.getD_eq_getElem?_getD, List.getD_eq_getElem?_getD, List.getElem?_drop]
theorem Small.set {l : List Int} {x : Int} (h : Small l) (hx : -2000000000 ≤ x ∧ x ≤ 2000000000) (j : Nat) : Small (l.set j x) := fun i hi => by
  simp at hi
  unfold L.g
  rw [List.getD_eq_getElem?_getD, List.getElem?_set]
  by_cases a : j = i
  · subst a; rw [if_pos rfl, if_pos hi]; simpa using hx
  · rw [if_neg a, ← List.getD_eq_getElem?_getD]; exact h i hi
theorem vals_set (l : List Int) (j : Nat) (x : Int) : (vals l).set j (.int .i64 x) = vals (l.set j x) := by unfold vals; rw [List.map_set]
theorem spoil_any (B r m base0 : Nat) (w0 w : World) (v : Value) (l : List Int) (x : Int) (R : Rw B w0 w r m base0 v l) (hl0 : 0 < l.length) (hl : l.length ≤ 20) (hx : -2000000000 ≤ x ∧ x ≤ 2000000000) (hm : m ≤ 1000) :
    Calls Try.prog 42 #[.pointer (some ⟨r, 0, none⟩), v, .int .i64 x] w (Tab (l.length + 1) B w0 r (m + 4)) := by
  obtain ⟨i0, hi0, hz0, hz1, hz2⟩ := info_parts int_info
  have hI := Lib.hid hi0
  have hZ0 := Lib.hid hz0
  have hZ1 := Lib.hid hz1
  have hZ2 := Lib.hid hz2
  clear hi0 hz0 hz1 hz2
  go_enter Try.func42, Try.ntmps42
  go_wp2_with fail
  refine (copyInts_any B r m base0 w0 w v l R hl0 (by omega)).mono ?_
  rintro e w1 ⟨v1, rfl, R1⟩
  have hbase := R.far.size
  generalize w.heap.size = base at R1 hbase
  clear R
  go_wp2_with fail
  refine (pick_any B r _ _ _ R1.rdr (by omega)).mono ?_
  rintro e w2 ⟨k2, rfl, a2, b2, st2⟩
  have R2 := R1.step st2
  have hF := R2.far.size
  clear b2 st2 R1
  by_cases h0 : k2 = 0
  · subst h0
    go_wp2_with (at_builtin; refine wpList_append_own _ rfl _ _ 23 rfl base 3 i0 (.int .i64 0) 1 8 Try.underlying23 hI.out hZ0.out hZ1.out hZ2.out rfl (by decide) _ _ _ rfl (R2.own.alloc _) ⟨w2.heap.size, 0, none⟩ 1 1 [.int .i64 x] rfl rfl (cell_one_new _ _ _) (by intro u hu; simp at hu; subst hu; rfl) (by unfold maxLen; omega) (by omega) (by have := R2.hi; simp; omega) ?_)
    intro v3 w3 own3 hg3 _
    rw [vals_snoc] at own3
    have R3 := (R2.alloc #[.int .i64 x] 3).grown own3 hg3 (R2.sm.snoc hx) hbase
    have T := Lib.hid (((R3.mono (show m + 1 ≤ m + 4 by omega)).tab (k := l.length + 1) (by simp) (by omega)))
    clear own3 hg3 R2 R3
    go_wp2
    go_ret
    exact T.out
  have h0' : (k2 == 0) = false := by simpa using h0
  obtain ⟨g, cap, hv, hg0, hg1⟩ := R2.own.form hl0
  subst hv
  by_cases h1 : k2 = 1
  · subst h1
    have hp : (0 : Int) < (l.length : Int) := by omega
    have hcap := R2.lst (by omega)
    obtain ⟨a', c', e', hL, hc1, hc2, hc4⟩ := hcap
    injection e' with e1 e2 e3
    subst e3
    subst e1
    have hc1' : (l.length : Int) ≤ (cap : Int) := by omega
    have hc3 : (1 : Int) ≤ (cap : Int) := by omega
    by_cases hone : l.length = 1
    · have T : ∀ ad c2 n, n = l.length - 1 → c2 ≤ cap → Tab (l.length + 1) B w0 r (m + 4) (.returned (.slice ad n c2)) w2 := fun ad c2 n hn hc2 =>
        ⟨ad, n, c2, [], rfl, ⟨by simp; omega, by omega, .inl (by omega)⟩, by omega, by omega, by omega, Small.nil, (R2.mono (show m + 1 ≤ m + 4 by omega)).rdr, R2.bel, R2.far, fun h => by omega⟩
      have HT := Lib.hid T
      have HO := Lib.hid hone
      clear R2 T hL hone hc4
      by_cases hcc : cap = 1
      · subst hcc
        go_wp2
        go_ret
        refine HT.out _ _ _ ?_ ?_ <;> (have := HO.out; omega)
      · have hcn : ((cap : Int) == 1) = false := by rw [beq_eq_false_iff_ne]; omega
        go_wp2
        go_ret
        refine HT.out _ _ _ ?_ ?_ <;> (have := HO.out; omega)
    · have T := Lib.hid ((R2.mono (show m + 1 ≤ m + 4 by omega)).tail (k := l.length + 1) rfl (by omega) (by omega) (by omega))
      have hcn : ¬ cap = 1 := by omega
      clear R2 hL hc4
      go_wp2
      go_ret
      exact T.out
  have h1' : (k2 == 1) = false := by simpa using h1
  by_cases h2 : k2 = 2
  · subst h2
    have hp : (0 : Int) < (l.length : Int) := by omega
    go_wp2_with fail
    refine (pick_any B r _ _ _ R2.rdr (by omega)).mono ?_
    rintro e w3 ⟨k3, rfl, a3, b3, st3⟩
    have R3 := R2.step st3
    obtain ⟨j, rfl⟩ := Int.eq_ofNat_of_zero_le a3
    have hj : j < l.length := by omega
    clear b3 R2
    go_wp2_with fail
    refine (one_any B r _ _ _ _ (-2000000000) 2000000000 _ (st3.rdr.alloc _ _) (by omega) (by omega) (by omega) (by have := st3.rdr.top; omega) ?_).mono ?_
    · exact made_cells _ _ _ _ _ _ rfl (by simp [Ints] <;> omega)
    rintro e w4 ⟨z4, rfl, x4, y4, bl4, rd4, fr4⟩
    have R4 := (R3.alloc _ _).next rd4 bl4 fr4
    clear R3 st3 bl4 rd4 fr4
    have hc := R4.own.cellAt j (by omega)
    rw [vals_get l j hj] at hc
    have hf := R4.own.frozenAt j
    have hs := R4.own.stored j (.int .i64 z4)
    rw [vals_set] at hs
    have R5 := R4.grown hs.1 hs.2 (R4.sm.set (by omega) j) hbase
    have T := Lib.hid ((R5.mono (show m + 1 + 1 + 1 ≤ m + 4 by omega)).tab (k := l.length + 1) (by simp) (by omega))
    clear hs R4 R5
    go_wp2
    go_ret
    exact T.out
  have h2' : (k2 == 2) = false := by simpa using h2
  clear h0 h1 h2
  have T := Lib.hid ((R2.mono (show m + 1 ≤ m + 4 by omega)).tab (k := l.length + 1) (by omega) (by omega))
  clear R2
  go_wp2
  go_ret
  exact T.out
theorem Tab.mono {k k' B r m m' : Nat} {w w' : World} {e : Ending} (h : Tab k B w r m e w') (hk : k ≤ k') (hm : m ≤ m') : Tab k' B w r m' e w' := by
  obtain ⟨a, n, c, l, h1, h2, h3, h4, h5, h6, h7, h8, h9, h10⟩ := h
  exact ⟨a, n, c, l, h1, h2, by omega, h4, h5, h6, h7.mono hm, h8, h9, h10⟩
theorem spoil_nil (B r m base0 g cap : Nat) (w0 w : World) (x : Int) (R : Rw B w0 w r m base0 (.slice (some ⟨g, 0, none⟩) 0 cap) []) (hx : -2000000000 ≤ x ∧ x ≤ 2000000000) (hm : m ≤ 1000) :
    Calls Try.prog 42 #[.pointer (some ⟨r, 0, none⟩), .slice (some ⟨g, 0, none⟩) 0 cap, .int .i64 x] w (Tab 1 B w0 r (m + 4)) := by
  obtain ⟨i0, hi0, hz0, hz1, hz2⟩ := info_parts int_info
  have hI := Lib.hid hi0
  have hZ0 := Lib.hid hz0
  have hZ1 := Lib.hid hz1
  have hZ2 := Lib.hid hz2
  clear hi0 hz0 hz1 hz2
  go_enter Try.func42, Try.ntmps42
  go_wp2_with fail
  refine (copyInts_nil B r m base0 g cap w0 w R).mono ?_
  rintro e w1 ⟨v1, rfl, R1⟩
  have hbase := R.far.size
  generalize w.heap.size = base at R1 hbase
  clear R
  go_wp2_with fail
  refine (pick_any B r _ _ _ R1.rdr (by omega)).mono ?_
  rintro e w2 ⟨k2, rfl, a2, b2, st2⟩
  have R2 := R1.step st2
  have hF := R2.far.size
  clear b2 st2 R1
  by_cases h0 : k2 = 0
  · subst h0
    go_wp2_with (at_builtin; refine wpList_append_own _ rfl _ _ 23 rfl base 3 i0 (.int .i64 0) 1 8 Try.underlying23 hI.out hZ0.out hZ1.out hZ2.out rfl (by decide) _ _ _ rfl (R2.own.alloc _) ⟨w2.heap.size, 0, none⟩ 1 1 [.int .i64 x] rfl rfl (cell_one_new _ _ _) (by intro u hu; simp at hu; subst hu; rfl) (by first | (simp [maxLen]; done) | (unfold maxLen; simp; done) | (unfold maxLen; omega)) (by first | omega | (simp; done) | (simp; omega)) (by have := R2.hi; simp; omega) ?_)
    intro v3 w3 own3 hg3 _
    rw [vals_snoc] at own3
    have R3 := (R2.alloc #[.int .i64 x] 3).grown own3 hg3 (R2.sm.snoc hx) hbase
    have T := Lib.hid (((R3.mono (show m + 1 ≤ m + 4 by omega)).tab (k := 1) (by simp) (by omega)))
    clear own3 hg3 R2 R3
    go_wp2
    go_ret
    exact T.out
  have h0' : (k2 == 0) = false := by simpa using h0
  obtain ⟨a1, c1, rfl, _⟩ := R2.lst (by simp)
  have T := Lib.hid ((R2.mono (show m + 1 ≤ m + 4 by omega)).tab (k := 1) (by simp) (by omega))
  clear R2
  by_cases h1 : k2 = 1
  · subst h1
    go_wp2
    go_ret
    exact T.out
  have h1' : (k2 == 1) = false := by simpa using h1
  by_cases h2 : k2 = 2
  · subst h2
    go_wp2
    go_ret
    exact T.out
  have h2' : (k2 == 2) = false := by simpa using h2
  clear h0 h1 h2
  go_wp2
  go_ret
  exact T.out
end Go.Proofs.Ytgbbbmljanlogaa
