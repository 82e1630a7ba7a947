/-
  The copies of lists of labels that the exact laws make, and how they compare them.
-/
import Derived.Test.YtgbbbmljanlogaaSpan
import Derived.Test.YtgbbbmljanlogaaV2
import Derived.Test.YtgbbbmljanlogaaOwnL
import Derived.Deep.SlicePairs
import Derived.Deep.RegionHeld3
import Derived.ChangeSame
import Derived.IntWalk
namespace Go.Proofs.Ytgbbbmljanlogaa
open Go.RowKit Go.ChangeShapes Go.WideShapes Go.Deep
set_option linter.unusedVariables false
/-- What a walk is told of a list of labels that came in. -/
def LbRow (w : World) (a : Option Addr) (len cap : Nat) : Prop :=
  (a = none ∧ len = 0) ∨ ∃ (x : Addr) (f g : Nat → Int), a = some x ∧ (len ≤ cap ∧ cap ≤ maxLen) ∧ ∀ i, i < len → w.cell? (x.add (i * 2)) = some (.int .i64 (f i)) ∧ w.cell? (x.add (i * 2 + 1)) = some (.int .i64 (g i))
theorem lbrow {H : Type} {enc : TypeId × Value → H} {w : World} {fuel : Nat} {a : Option Addr} {len cap : Nat} {x : DataW H × List MemPlace} (h : DataW.trod enc Try.prog w 0 (fun _ => true) true fuel 39 (Value.slice a len cap).cells.toList = some x) : LbRow w a len cap := by
  rcases open_slice_pairs Try.underlying39 Try.underlying54 (by kernel_rfl) rfl rfl (by kernel_rfl) (by kernel_rfl) h with ⟨hc, _⟩ | ⟨x, l, c, m, n, V0, V1, D0, D1, P0, P1, hc, _, hl, hm0, hmm, _, hall⟩
  · simp [Value.cells] at hc
    exact .inl ⟨hc.1, hc.2.1⟩
  · simp [Value.cells] at hc
    obtain ⟨rfl, rfl, rfl⟩ := hc
    have hm : m = cap := by simpa using hmm
    refine .inr ⟨x, fun i => match V0 i with | .int _ n => n | _ => 0, fun i => match V1 i with | .int _ n => n | _ => 0, rfl, ⟨hl, hm0⟩, fun i hi => ?_⟩
    obtain ⟨h0, h1, t0, t1⟩ := hall i (by omega)
    obtain ⟨n0, e0, _, _⟩ := DataW.trod_int Try.underlying3 t0
    obtain ⟨n1, e1, _, _⟩ := DataW.trod_int Try.underlying3 t1
    injection e0 with e0
    injection e1 with e1
    constructor
    · rw [h0]; simp [e0]
    · rw [h1]; simp [e1]
theorem lbrow_bd {w : World} {a : Option Addr} {len cap : Nat} (h : LbRow w a len cap) : (len : Int) ≤ maxLen := by
  rcases h with ⟨_, rfl⟩ | ⟨_, _, _, _, ⟨h1, h2⟩, _⟩
  · unfold maxLen; omega
  · omega
theorem lb_of {w : World} {a : Option Addr} {len cap : Nat} (h : LbRow w a len cap) (hl : len ≤ 1048576) : ∃ l, Sps w.heap.size w a len l := by
  rcases h with ⟨rfl, rfl⟩ | ⟨⟨b, off, spot⟩, f, g, rfl, _, hc⟩
  · exact ⟨[], rfl, by omega, .inl rfl⟩
  · refine ⟨(List.range len).map fun i => (f i, g i), by simp, hl, ?_⟩
    rcases Nat.eq_zero_or_pos len with h0 | h0
    · exact .inl h0
    · have hc0 := (hc 0 (by omega)).1
      have hspot : spot = none := by simpa [Addr.add] using World.cell?_spot hc0
      subst hspot
      have ad : ∀ j, (Addr.add ⟨b, off, none⟩ j) = ⟨b, off + j, none⟩ := fun j => by unfold Addr.add; split <;> simp_all
      refine .inr ⟨b, off, rfl, World.block_lt_of_cell? _ _ hc0, fun i hi => ?_⟩
      have := hc i hi
      rw [ad, ad] at this
      have e : V.lo ((List.range len).map fun i => (f i, g i)) i = f i ∧ V.hi ((List.range len).map fun i => (f i, g i)) i = g i := by
        unfold V.lo V.hi
        rw [List.getD_eq_getElem?_getD, List.getElem?_map, List.getElem?_range hi]; exact ⟨rfl, rfl⟩
      rw [e.1, e.2]
      exact this
theorem toLabel_any (x y : Int) (w : World) : Calls Try.prog 38 #[.agg #[.int .i64 x, .int .i64 y]] w fun e w' => e = .returned (.agg #[.int .i64 x, .int .i64 y]) ∧ Below w.heap.size w w' := by
  go_enter Try.func38, Try.ntmps38
  go_wp2
  exact bodyPost_ret (v := .agg #[.int .i64 x, .int .i64 y]) (by simp [results, Try.results38, go_sem]) rfl ⟨rfl, (((Below.refl _ _).alloc (Nat.le_refl _) _).alloc (by simp) _).alloc (by simp; omega) _⟩
theorem made2 (n : Nat) : (madeCells #[.int .i64 0, .int .i64 0] (n * 2)).toList = v2 (List.replicate n (0, 0)) := by
  have e : ∀ n, v2 (List.replicate n (0, 0)) = List.replicate (n * 2) (.int .i64 0) := by
    intro n
    induction n with
    | zero => rfl
    | succ n ih => rw [List.replicate_succ, show (n + 1) * 2 = n * 2 + 1 + 1 from by omega, List.replicate_succ, List.replicate_succ, ← ih]; rfl
  rw [e]
  refine List.ext_getElem (by simp [madeCells]) (fun i h1 h2 => ?_)
  simp [madeCells]
  rcases Nat.mod_two_eq_zero_or_one i with e | e <;> simp [e]
def part2 (l : List (Int × Int)) (k : Nat) : List (Int × Int) := l.take k ++ List.replicate (l.length - k) (0, 0)
theorem part2_len (l : List (Int × Int)) (k : Nat) (h : k ≤ l.length) : (part2 l k).length = l.length := by simp [part2]; omega
theorem part2_zero (l : List (Int × Int)) : part2 l 0 = List.replicate l.length (0, 0) := by simp [part2]
theorem part2_all (l : List (Int × Int)) : part2 l l.length = l := by simp [part2]
theorem part2_set (l : List (Int × Int)) (k : Nat) (h : k < l.length) : (part2 l k).set k (V.lo l k, V.hi l k) = part2 l (k + 1) := by
  unfold part2
  rw [List.set_append, if_neg (by rw [List.length_take]; omega), List.length_take, Nat.min_eq_left (by omega), Nat.sub_self]
  rw [show l.length - k = (l.length - (k + 1)) + 1 from by omega, List.replicate_succ, List.set_cons_zero]
  rw [List.take_add_one, V.get l k h]
  simp
set_option maxHeartbeats 2000000 in
theorem toLabelS_any (n c : Nat) (a : Option Addr) (l : List (Int × Int)) (w : World) (h : Sps w.heap.size w a n l) : Calls Try.prog 22 #[.slice a n c] w fun e w' => e = .returned (.slice (some ⟨w.heap.size, 0, none⟩) n n) ∧ Sps w'.heap.size w' (some ⟨w.heap.size, 0, none⟩) n l ∧ Below w.heap.size w w' := by
  obtain ⟨i0, hi0, hz0, hz1, hz2⟩ := info_parts label_info
  obtain ⟨w1, hrun, own1, hg1⟩ := run_make_full (P := Try.prog) w w.heap.size 28 34 i0 (.agg #[.int .i64 0, .int .i64 0]) 2 Try.underlying28 hi0 hz0 hz1 .i64 .i64 n (by have := h.2.1; rw [hz2]; omega) (by have := h.2.1; unfold maxLen; omega) (Nat.le_refl _)
  have hl := h.1
  have hn := h.2.1
  rw [show (Value.agg #[.int .i64 0, .int .i64 0]).cells = #[.int .i64 0, .int .i64 0] from rfl, made2] at own1
  have own1 : w1.ownsRow w.heap.size 34 2 (.slice (some ⟨w.heap.size, 0, none⟩) n n) n (v2 (part2 l 0)) := by rw [part2_zero, hl]; exact own1
  have hb1 : Below w.heap.size w w1 := (Below.refl _ _).grown hg1 (Nat.le_refl _) (fun k hk => by cases hk)
  have HL := Lib.hid hl
  have HO := Lib.hid own1
  have H1 := h.below hb1
  have HB := Lib.hid hb1
  clear hl own1 hi0 hz0 hz1 hz2 hg1 hb1
  go_enter Try.func22, Try.ntmps22
  go_wp2
  go_loopw [4] (fun i wr => ∃ k : Nat, k ≤ n ∧ i = .int .i64 k ∧ wr.ownsRow w.heap.size 34 2 (.slice (some ⟨w.heap.size, 0, none⟩) n n) n (v2 (part2 l k)) ∧ Sps w.heap.size wr a n l ∧ Below w.heap.size w wr) (fun i _ => n - (intOf i).toNat)
  case atStart => exact ⟨0, Nat.zero_le _, rfl, HO.out, H1, HB.out⟩
  case round =>
    obtain ⟨k, hk, rfl, own, hL, hb⟩ := hrel
    have hbs := hb.size
    by_cases hlt : k < n
    · obtain ⟨b, off, rfl, hbb, hc⟩ := hL.at_ k hlt
      have c0 := (hc k hlt).1
      have c1 := (hc k hlt).2
      have HQ := Lib.hid (And.intro own (And.intro hL hb))
      clear hc own hL hb
      go_wp2_with fail
      refine (toLabel_any _ _ _).mono ?_
      rintro e w2 ⟨rfl, b2⟩
      have own2 : w2.ownsRow w.heap.size 34 2 (.slice (some ⟨w.heap.size, 0, none⟩) n n) n (v2 (part2 l k)) := World.ownsRow.kept (row := none) HQ.out.1 ⟨b2.os, b2.tape, b2.output, b2.size, fun j hj _ => b2.block j hj⟩ (by simp [Value.ownBlock])
      have hln := HL.out
      have hg := v2_get (part2 l k) k (by rw [part2_len _ _ (by omega)]; omega)
      have d0 := own2.cellAt (k * 2) (by omega)
      have d1 := own2.cellAt (k * 2 + 1) (by omega)
      rw [hg.1] at d0
      rw [hg.2] at d1
      have f0 := own2.frozenAt (k * 2)
      have f1 := own2.frozenAt (k * 2 + 1)
      have s0 := own2.stored (k * 2) (.int .i64 (V.lo l k))
      have s1 := s0.1.stored (k * 2 + 1) (.int .i64 (V.hi l k))
      have s2 := s1.1
      rw [v2_set, part2_set _ _ (by omega)] at s2
      have q2 : Below w.heap.size wr ((w2.setCell ⟨w.heap.size, k * 2, none⟩ (.int .i64 (V.lo l k))).setCell ⟨w.heap.size, k * 2 + 1, none⟩ (.int .i64 (V.hi l k))) := ((b2.mono hbs).setCell (Nat.le_refl _) _).setCell (Nat.le_refl _) _
      have HS := Lib.hid (And.intro s2 (And.intro (HQ.out.2.1.below q2) (HQ.out.2.2.trans q2)))
      clear own2 s0 s1 s2 q2 hg b2 hln
      go_wp2
      go_roundw
      case rel => exact ⟨k + 1, by omega, by go_num, HS.out⟩
      case measure => simp [intOf]; omega
    · obtain rfl : k = n := by omega
      have hfin : Sps wr.heap.size wr (some ⟨w.heap.size, 0, none⟩) k l := by
        refine ⟨HL.out, hn, ?_⟩
        rcases Nat.eq_zero_or_pos k with h0 | h0
        · exact .inl h0
        · refine .inr ⟨w.heap.size, 0, rfl, ?_, fun i hi => ?_⟩
          · obtain ⟨g, cap, e, _, hlt2⟩ := own.form h0
            injection e with e1 e2 e3
            injection e1 with e1
            injection e1 with e1 _
            rw [e1]; exact hlt2
          · have hp : part2 l k = l := by have := HL.out; subst this; exact part2_all l
            rw [hp] at own
            have hg := v2_get l i (by have := HL.out; omega)
            have d0 := own.cellAt (i * 2) (by omega)
            have d1 := own.cellAt (i * 2 + 1) (by omega)
            rw [hg.1] at d0
            rw [hg.2] at d1
            rw [Nat.zero_add]; exact ⟨d0, d1⟩
      have HF := Lib.hid (And.intro hfin hb)
      clear hfin own hL
      go_wp2
      go_ret
      exact ⟨rfl, HF.out⟩
theorem eqLabel_same (x y : Int) (w : World) : Calls Try.prog 39 #[.agg #[.int .i64 x, .int .i64 y], .agg #[.int .i64 x, .int .i64 y]] w fun e w' => e = .returned (.bool true) ∧ Below w.heap.size w w' := by
  go_enter Try.func39, Try.ntmps39
  go_wp2
  go_ret
  exact ⟨rfl, ((Below.refl _ _).alloc (Nat.le_refl _) _).alloc (by simp) _⟩
set_option maxHeartbeats 2000000 in
theorem eqLabelS_same (n c c' : Nat) (a a' : Option Addr) (l : List (Int × Int)) (w : World) (h : Sps w.heap.size w a n l) (h' : Sps w.heap.size w a' n l) : Calls Try.prog 23 #[.slice a n c, .slice a' n c'] w fun e w' => e = .returned (.bool true) ∧ Below w.heap.size w w' := by
  have hn := h.2.1
  go_enter Try.func23, Try.ntmps23
  go_wp2
  go_loopw [5] (fun i wr => ∃ k : Nat, k ≤ n ∧ i = .int .i64 k ∧ Below w.heap.size w wr) (fun i _ => n - (intOf i).toNat)
  case atStart => exact ⟨0, Nat.zero_le _, rfl, Below.refl _ _⟩
  case round =>
    obtain ⟨k, hk, rfl, hs⟩ := hrel
    have hsz := hs.size
    by_cases hlt : k < n
    · obtain ⟨b, off, rfl, hbb, hc⟩ := (h.below hs).at_ k hlt
      obtain ⟨b', off', rfl, hbb', hc'⟩ := (h'.below hs).at_ k hlt
      have c0 := (hc k hlt).1
      have c1 := (hc k hlt).2
      have d0 := (hc' k hlt).1
      have d1 := (hc' k hlt).2
      have HS := Lib.hid hs
      have hbw : b < wr.heap.size := by omega
      have hbw' : b' < wr.heap.size := by omega
      have hk0 : (0 : Int) ≤ (k : Int) := by omega
      have hk1 : (k : Int) < (n : Int) := by omega
      clear hc hc' hs
      go_wp2_with fail
      go_region_held3 (fun w' => w'.cell? ⟨b, off + k * 2, none⟩ = some (.int .i64 (V.lo l k)) ∧ w'.cell? ⟨b, off + k * 2 + 1, none⟩ = some (.int .i64 (V.hi l k)) ∧ w'.cell? ⟨b', off' + k * 2, none⟩ = some (.int .i64 (V.lo l k)) ∧ w'.cell? ⟨b', off' + k * 2 + 1, none⟩ = some (.int .i64 (V.hi l k)))
        (first | exact ⟨e0, e1, e2, e3⟩ | go_keep)
        (first | (go_at_call 39; refine (eqLabel_same _ _ _).mono ?_; rintro e w2 ⟨rfl, b2⟩; have e0 := (b2.cell (p := ⟨b, off + k * 2, none⟩) hbw).trans c0; have e1 := (b2.cell (p := ⟨b, off + k * 2 + 1, none⟩) hbw).trans c1; have e2 := (b2.cell (p := ⟨b', off' + k * 2, none⟩) hbw').trans d0; have e3 := (b2.cell (p := ⟨b', off' + k * 2 + 1, none⟩) hbw').trans d1))
      have q2 : Below w.heap.size w w2 := (HS.out.drew).trans (b2.mono hsz)
      clear b2 e0 e1 e2 e3
      go_wp2
      go_roundw
      case rel => exact ⟨k + 1, by omega, by go_num, q2⟩
      case measure => simp [intOf]; omega
    · go_wp2
      go_ret
      exact ⟨rfl, hs⟩
theorem szLabelS_ok (n c : Nat) (a : Option Addr) (w : World) (h : n ≤ 1048576) : Calls Try.prog 20 #[.slice a n c, .int .i64 1048576] w fun e w' => (∃ z : Int, e = .returned (.int .i64 z) ∧ 0 ≤ z) ∧ w = w' := by
  have h1 : ¬ (1048576 : Int) - (n : Int) < 0 := by omega
  go_enter Try.func20, Try.ntmps20
  go_wp2
  go_ret
  exact ⟨⟨_, rfl, by omega⟩, rfl⟩
theorem szLabelS_no (n c : Nat) (a : Option Addr) (w : World) (h : 1048576 < n) (h' : (n : Int) ≤ maxLen) : Calls Try.prog 20 #[.slice a n c, .int .i64 1048576] w fun e w' => e = .returned (.int .i64 (-1)) ∧ w = w' := by
  unfold maxLen at h'
  have h1 : (1048576 : Int) - (n : Int) < 0 := by omega
  have h2 : IntKind.i64.wrap (1048576 - (n : Int)) = 1048576 - (n : Int) := IntWalk.i64_in _ (by omega)
  go_enter Try.func20, Try.ntmps20
  go_wp2
  go_ret
  exact ⟨rfl, rfl⟩
/-- A struct of two numbers in a block of its own. -/
structure Bx2 (w : World) (D : Nat) (x y : Int) : Prop where
  c0 : w.cell? ⟨D, 0, none⟩ = some (.int .i64 x)
  c1 : w.cell? ⟨D, 1, none⟩ = some (.int .i64 y)
  lt : D < w.heap.size
theorem Bx2.b {w w' : World} {D : Nat} {x y : Int} (h : Bx2 w D x y) (hb : Below w.heap.size w w') : Bx2 w' D x y := ⟨(hb.cell (p := ⟨D, 0, none⟩) h.lt).trans h.c0, (hb.cell (p := ⟨D, 1, none⟩) h.lt).trans h.c1, Nat.lt_of_lt_of_le h.lt hb.size⟩
theorem Bx2.al {w : World} {D : Nat} {x y : Int} (h : Bx2 w D x y) (o : Obj) : Bx2 (w.alloc o) D x y := h.b ((Below.refl _ _).alloc (Nat.le_refl _) o)
theorem Bx2.new (w : World) (x y : Int) (t : TypeId) : Bx2 (w.alloc (.cells #[.int .i64 x, .int .i64 y] t)) w.heap.size x y := ⟨by simp, by simp, by simp⟩
end Go.Proofs.Ytgbbbmljanlogaa
