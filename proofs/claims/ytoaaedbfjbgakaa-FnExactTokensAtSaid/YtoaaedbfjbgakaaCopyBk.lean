/-
  The copies of lists of buckets that the exact laws make, and how they compare them.
-/
import Derived.Test.YtoaaedbfjbgakaaSample
import Derived.Deep.Strs
import Derived.Deep.Slices
import Derived.Deep.RegionHeld3
import Derived.Deep.AppendLies
import Derived.WalkSpells
import Derived.ChangeSame
import Derived.IntWalk
namespace Go.Proofs.Ytoaaedbfjbgakaa
open Go.RowKit Go.ChangeShapes Go.WideShapes Go.Deep
set_option linter.unusedVariables false
/-- What a walk is told of a list of buckets that came in. -/
def BkRow (w : World) (a : Option Addr) (len cap : Nat) : Prop :=
  (a = none ∧ len = 0) ∨ ∃ (x : Addr) (f g h : Nat → Int), a = some x ∧ (len ≤ cap ∧ cap ≤ maxLen) ∧ ∀ i, i < len → w.cell? (x.add (i * 3)) = some (.int .i64 (f i)) ∧ w.cell? (x.add (i * 3 + 1)) = some (.int .i64 (g i)) ∧ w.cell? (x.add (i * 3 + 2)) = some (.int .i64 (h i))
theorem pick3 {n : Nat} {p : Nat → Int × Int × Int → Prop} (h : ∀ i, i < n → ∃ q, p i q) : ∃ f : Nat → Int × Int × Int, ∀ i, i < n → p i (f i) :=
  ⟨fun i => if hi : i < n then Classical.choose (h i hi) else (0, 0, 0), fun i hi => by simp only [hi, dif_pos]; exact Classical.choose_spec (h i hi)⟩
set_option maxRecDepth 100000 in
theorem bkrow {H : Type} {enc : TypeId × Value → H} {w : World} {fuel : Nat} {a : Option Addr} {len cap : Nat} {x : DataW H × List MemPlace} (h : DataW.trod enc Try.prog w 0 (fun _ => true) true fuel 22 (Value.slice a len cap).cells.toList = some x) : BkRow w a len cap := by
  rcases open_slice Try.underlying22 h with ⟨hc, _⟩ | ⟨x, l, c, m, n, D, Pl, hc, _, hl, hm0, hmm, _, hall⟩
  · simp [Value.cells] at hc
    exact .inl ⟨hc.1, hc.2.1⟩
  · simp [Value.cells] at hc
    obtain ⟨rfl, rfl, rfl⟩ := hc
    have hm : m = cap := by simpa using hmm
    have ce : Try.prog.cellsOf 46 = 3 := by kernel_rfl
    have c1 : Try.prog.cellsOf 3 = 1 := by kernel_rfl
    have each : ∀ i, i < len → ∃ q : Int × Int × Int, w.cell? (x.add (i * 3)) = some (.int .i64 q.1) ∧ w.cell? (x.add (i * 3 + 1)) = some (.int .i64 q.2.1) ∧ w.cell? (x.add (i * 3 + 2)) = some (.int .i64 q.2.2) := by
      intro i hi
      obtain ⟨cs', h1, h2⟩ := hall i (by omega)
      rw [ce] at h1
      obtain ⟨_, hlen, hcell⟩ := World.cells?_some h1
      obtain ⟨y0, y1, y2, k, _, _, t0, t1, t2⟩ := trod_struct3 Try.underlying46 h2
      match cs', hlen with
      | [v0, v1, v2], _ =>
        simp [c1] at t0 t1 t2
        obtain ⟨n0, e0, _, _⟩ := DataW.trod_int Try.underlying3 t0
        obtain ⟨n1, e1, _, _⟩ := DataW.trod_int Try.underlying3 t1
        obtain ⟨n2, e2, _, _⟩ := DataW.trod_int Try.underlying3 t2
        injection e0 with e0
        injection e1 with e1
        injection e2 with e2
        subst e0
        subst e1
        subst e2
        have g0 := hcell 0 (by omega)
        have g1 := hcell 1 (by omega)
        have g2 := hcell 2 (by omega)
        rw [add_add] at g0 g1 g2
        exact ⟨(n0, n1, n2), by simpa using g0, by simpa using g1, by simpa using g2⟩
    obtain ⟨f, hf⟩ := pick3 each
    exact .inr ⟨x, fun i => (f i).1, fun i => (f i).2.1, fun i => (f i).2.2, rfl, ⟨hl, hm0⟩, hf⟩
theorem bkrow_bd {w : World} {a : Option Addr} {len cap : Nat} (h : BkRow w a len cap) : (len : Int) ≤ maxLen := by
  rcases h with ⟨_, rfl⟩ | ⟨_, _, _, _, _, ⟨h1, h2⟩, _⟩
  · unfold maxLen; omega
  · omega
theorem bk_of {w : World} {a : Option Addr} {len cap : Nat} (h : BkRow w a len cap) (hl : len ≤ 1048576) : ∃ l, Sms w.heap.size w a len l := by
  rcases h with ⟨rfl, rfl⟩ | ⟨⟨b, off, spot⟩, f, g, h, rfl, _, hc⟩
  · exact ⟨[], rfl, by omega, .inl rfl⟩
  · refine ⟨(List.range len).map fun i => (f i, g i, h i), by simp, hl, ?_⟩
    rcases Nat.eq_zero_or_pos len with h0 | h0
    · exact .inl h0
    · have hc0 := (hc 0 (by omega)).1
      have hspot : spot = none := by simpa [Addr.add] using World.cell?_spot hc0
      subst hspot
      have ad : ∀ j, (Addr.add ⟨b, off, none⟩ j) = ⟨b, off + j, none⟩ := fun j => by unfold Addr.add; split <;> simp_all
      refine .inr ⟨b, off, rfl, World.block_lt_of_cell? _ _ hc0, fun i hi => ?_⟩
      have := hc i hi
      rw [ad, ad, ad] at this
      have e : Q.of ((List.range len).map fun i => (f i, g i, h i)) i = f i ∧ Q.de ((List.range len).map fun i => (f i, g i, h i)) i = g i ∧ Q.tm ((List.range len).map fun i => (f i, g i, h i)) i = h i := by
        unfold Q.of Q.de Q.tm
        rw [List.getD_eq_getElem?_getD, List.getElem?_map, List.getElem?_range hi]; exact ⟨rfl, rfl, rfl⟩
      rw [e.1, e.2.1, e.2.2]
      exact this
theorem toBucket_any (x y z : Int) (w : World) : Calls Try.prog 35 #[.agg #[.int .i64 x, .int .i64 y, .int .i64 z]] w fun e w' => e = .returned (.agg #[.int .i64 x, .int .i64 y, .int .i64 z]) ∧ Below w.heap.size w w' := by
  go_enter Try.func35, Try.ntmps35
  go_wp2
  exact bodyPost_ret (v := .agg #[.int .i64 x, .int .i64 y, .int .i64 z]) (by simp [results, Try.results35, go_sem]) rfl ⟨rfl, (((Below.refl _ _).alloc (Nat.le_refl _) _).alloc (by simp) _).alloc (by simp; omega) _⟩
theorem bucket_info2 : (Try.prog.info? 37).map (fun i => (i.zero, i.size, i.bytes)) = some (some (.agg #[.int .i64 0, .int .i64 0, .int .i64 0]), 3, 24) := by kernel_rfl
def k3 (l : List Q.Sm) : List Value := l.flatMap (fun p => [.int .i64 p.1, .int .i64 p.2.1, .int .i64 p.2.2])
theorem k3_cons (p : Q.Sm) (l : List Q.Sm) : k3 (p :: l) = .int .i64 p.1 :: .int .i64 p.2.1 :: .int .i64 p.2.2 :: k3 l := rfl
theorem k3_len (l : List Q.Sm) : (k3 l).length = l.length * 3 := by
  induction l with
  | nil => rfl
  | cons p l ih => rw [k3_cons]; simp; omega
theorem k3_get : ∀ (l : List Q.Sm) (i : Nat), i < l.length → (k3 l)[i * 3]? = some (.int .i64 (Q.of l i)) ∧ (k3 l)[i * 3 + 1]? = some (.int .i64 (Q.de l i)) ∧ (k3 l)[i * 3 + 2]? = some (.int .i64 (Q.tm l i))
  | [], i, h => absurd h (by simp)
  | p :: l, 0, h => ⟨rfl, rfl, rfl⟩
  | p :: l, i + 1, h => by
    have := k3_get l i (by simpa using h)
    rw [k3_cons, show (i + 1) * 3 = i * 3 + 1 + 1 + 1 from by omega]
    exact this
theorem k3_set : ∀ (l : List Q.Sm) (j : Nat) (x y z : Int), (((k3 l).set (j * 3) (.int .i64 x)).set (j * 3 + 1) (.int .i64 y)).set (j * 3 + 2) (.int .i64 z) = k3 (l.set j (x, y, z))
  | [], j, x, y, z => by simp [k3]
  | p :: l, 0, x, y, z => rfl
  | p :: l, j + 1, x, y, z => by
    have := k3_set l j x y z
    rw [k3_cons, show (j + 1) * 3 = j * 3 + 1 + 1 + 1 from by omega]
    show _ :: _ :: _ :: (((k3 l).set (j * 3) (.int .i64 x)).set (j * 3 + 1) (.int .i64 y)).set (j * 3 + 2) (.int .i64 z) = _
    rw [this]
    rfl
theorem made3 (n : Nat) : (madeCells #[.int .i64 0, .int .i64 0, .int .i64 0] (n * 3)).toList = k3 (List.replicate n (0, 0, 0)) := by
  have e : ∀ n, k3 (List.replicate n (0, 0, 0)) = List.replicate (n * 3) (.int .i64 0) := by
    intro n
    induction n with
    | zero => rfl
    | succ n ih => rw [List.replicate_succ, show (n + 1) * 3 = n * 3 + 1 + 1 + 1 from by omega, List.replicate_succ, List.replicate_succ, List.replicate_succ, ← ih]; rfl
  rw [e]
  refine List.ext_getElem (by simp [madeCells]) (fun i h1 h2 => ?_)
  simp [madeCells]
  rcases (show i % 3 = 0 ∨ i % 3 = 1 ∨ i % 3 = 2 by omega) with e | e | e <;> simp [e]
def part3 (l : List Q.Sm) (k : Nat) : List Q.Sm := l.take k ++ List.replicate (l.length - k) (0, 0, 0)
theorem part3_len (l : List Q.Sm) (k : Nat) (h : k ≤ l.length) : (part3 l k).length = l.length := by simp [part3]; omega
theorem part3_zero (l : List Q.Sm) : part3 l 0 = List.replicate l.length (0, 0, 0) := by simp [part3]
theorem part3_all (l : List Q.Sm) : part3 l l.length = l := by simp [part3]
theorem part3_set (l : List Q.Sm) (k : Nat) (h : k < l.length) : (part3 l k).set k (Q.of l k, Q.de l k, Q.tm l k) = part3 l (k + 1) := by
  unfold part3
  rw [List.set_append, if_neg (by rw [List.length_take]; omega), List.length_take, Nat.min_eq_left (by omega), Nat.sub_self]
  rw [show l.length - k = (l.length - (k + 1)) + 1 from by omega, List.replicate_succ, List.set_cons_zero]
  rw [List.take_add_one, Q.get l k h]
  simp
set_option maxHeartbeats 2000000 in
theorem toBucketS_any (n c : Nat) (a : Option Addr) (l : List Q.Sm) (w : World) (h : Sms w.heap.size w a n l) : Calls Try.prog 18 #[.slice a n c] w fun e w' => e = .returned (.slice (some ⟨w.heap.size, 0, none⟩) n n) ∧ Sms w'.heap.size w' (some ⟨w.heap.size, 0, none⟩) n l ∧ Below w.heap.size w w' := by
  obtain ⟨i0, hi0, hz0, hz1, hz2⟩ := info_parts bucket_info2
  obtain ⟨w1, hrun, own1, hg1⟩ := run_make_full (P := Try.prog) w w.heap.size 25 37 i0 (.agg #[.int .i64 0, .int .i64 0, .int .i64 0]) 3 Try.underlying25 hi0 hz0 hz1 .i64 .i64 n (by have := h.2.1; rw [hz2]; omega) (by have := h.2.1; unfold maxLen; omega) (Nat.le_refl _)
  have hl := h.1
  have hn := h.2.1
  rw [show (Value.agg #[.int .i64 0, .int .i64 0, .int .i64 0]).cells = #[.int .i64 0, .int .i64 0, .int .i64 0] from rfl, made3] at own1
  have own1 : w1.ownsRow w.heap.size 37 3 (.slice (some ⟨w.heap.size, 0, none⟩) n n) n (k3 (part3 l 0)) := by rw [part3_zero, hl]; exact own1
  have hb1 : Below w.heap.size w w1 := (Below.refl _ _).grown hg1 (Nat.le_refl _) (fun k hk => by cases hk)
  have HL := Lib.hid hl
  have HO := Lib.hid own1
  have H1 := h.below hb1
  have HB := Lib.hid hb1
  clear hl own1 hi0 hz0 hz1 hz2 hg1 hb1
  go_enter Try.func18, Try.ntmps18
  go_wp2
  go_loopw [4] (fun i wr => ∃ k : Nat, k ≤ n ∧ i = .int .i64 k ∧ wr.ownsRow w.heap.size 37 3 (.slice (some ⟨w.heap.size, 0, none⟩) n n) n (k3 (part3 l k)) ∧ Sms w.heap.size wr a n l ∧ Below w.heap.size w wr) (fun i _ => n - (intOf i).toNat)
  case atStart => exact ⟨0, Nat.zero_le _, rfl, HO.out, H1, HB.out⟩
  case round =>
    obtain ⟨k, hk, rfl, own, hL, hb⟩ := hrel
    have hbs := hb.size
    by_cases hlt : k < n
    · obtain ⟨b, off, rfl, hbb, hc⟩ := hL.at_ k hlt
      obtain ⟨c0, c1, c2⟩ := hc k hlt
      have HQ := Lib.hid (And.intro own (And.intro hL hb))
      clear hc own hL hb
      go_wp2_with fail
      refine (toBucket_any _ _ _ _).mono ?_
      rintro e w2 ⟨rfl, b2⟩
      have own2 : w2.ownsRow w.heap.size 37 3 (.slice (some ⟨w.heap.size, 0, none⟩) n n) n (k3 (part3 l k)) := World.ownsRow.kept (row := none) HQ.out.1 ⟨b2.os, b2.tape, b2.output, b2.size, fun j hj _ => b2.block j hj⟩ (by simp [Value.ownBlock])
      have hln := HL.out
      have hg := k3_get (part3 l k) k (by rw [part3_len _ _ (by omega)]; omega)
      have d0 := own2.cellAt (k * 3) (by omega)
      have d1 := own2.cellAt (k * 3 + 1) (by omega)
      have d2 := own2.cellAt (k * 3 + 2) (by omega)
      rw [hg.1] at d0
      rw [hg.2.1] at d1
      rw [hg.2.2] at d2
      have f0 := own2.frozenAt (k * 3)
      have f1 := own2.frozenAt (k * 3 + 1)
      have f2 := own2.frozenAt (k * 3 + 2)
      have s0 := own2.stored (k * 3) (.int .i64 (Q.of l k))
      have s1 := s0.1.stored (k * 3 + 1) (.int .i64 (Q.de l k))
      have s3 := s1.1.stored (k * 3 + 2) (.int .i64 (Q.tm l k))
      have s2 := s3.1
      rw [k3_set, part3_set _ _ (by omega)] at s2
      have q2 : Below w.heap.size wr (((w2.setCell ⟨w.heap.size, k * 3, none⟩ (.int .i64 (Q.of l k))).setCell ⟨w.heap.size, k * 3 + 1, none⟩ (.int .i64 (Q.de l k))).setCell ⟨w.heap.size, k * 3 + 2, none⟩ (.int .i64 (Q.tm l k))) := (((b2.mono hbs).setCell (Nat.le_refl _) _).setCell (Nat.le_refl _) _).setCell (Nat.le_refl _) _
      have HS := Lib.hid (And.intro s2 (And.intro (HQ.out.2.1.below q2) (HQ.out.2.2.trans q2)))
      clear own2 s0 s1 s2 s3 q2 hg b2 hln
      go_wp2
      go_roundw
      case rel => exact ⟨k + 1, by omega, by go_num, HS.out⟩
      case measure => simp [intOf]; omega
    · obtain rfl : k = n := by omega
      have hfin : Sms wr.heap.size wr (some ⟨w.heap.size, 0, none⟩) k l := by
        refine ⟨HL.out, hn, ?_⟩
        rcases Nat.eq_zero_or_pos k with h0 | h0
        · exact .inl h0
        · refine .inr ⟨w.heap.size, 0, rfl, ?_, fun i hi => ?_⟩
          · obtain ⟨g, cap, e, _, hlt2⟩ := own.form h0
            injection e with e1 e2 e3
            injection e1 with e1
            injection e1 with e1 _
            rw [e1]; exact hlt2
          · have hp : part3 l k = l := by have := HL.out; subst this; exact part3_all l
            rw [hp] at own
            have hg := k3_get l i (by have := HL.out; omega)
            have d0 := own.cellAt (i * 3) (by omega)
            have d1 := own.cellAt (i * 3 + 1) (by omega)
            have d2 := own.cellAt (i * 3 + 2) (by omega)
            rw [hg.1] at d0
            rw [hg.2.1] at d1
            rw [hg.2.2] at d2
            rw [Nat.zero_add]; exact ⟨d0, d1, d2⟩
      have HF := Lib.hid (And.intro hfin hb)
      clear hfin own hL
      go_wp2
      go_ret
      exact ⟨rfl, HF.out⟩
theorem eqBucket_same (x y z : Int) (w : World) : Calls Try.prog 37 #[.agg #[.int .i64 x, .int .i64 y, .int .i64 z], .agg #[.int .i64 x, .int .i64 y, .int .i64 z]] w fun e w' => e = .returned (.bool true) ∧ Below w.heap.size w w' := by
  go_enter Try.func37, Try.ntmps37
  go_wp2
  go_ret
  exact ⟨rfl, ((Below.refl _ _).alloc (Nat.le_refl _) _).alloc (by simp) _⟩
set_option maxHeartbeats 2000000 in
theorem eqBucketS_same (n c c' : Nat) (a a' : Option Addr) (l : List Q.Sm) (w : World) (h : Sms w.heap.size w a n l) (h' : Sms w.heap.size w a' n l) : Calls Try.prog 20 #[.slice a n c, .slice a' n c'] w fun e w' => e = .returned (.bool true) ∧ Below w.heap.size w w' := by
  have hn := h.2.1
  go_enter Try.func20, Try.ntmps20
  go_wp2
  go_loopw [5] (fun i wr => ∃ k : Nat, k ≤ n ∧ i = .int .i64 k ∧ Below w.heap.size w wr) (fun i _ => n - (intOf i).toNat)
  case atStart => exact ⟨0, Nat.zero_le _, rfl, Below.refl _ _⟩
  case round =>
    obtain ⟨k, hk, rfl, hs⟩ := hrel
    have hsz := hs.size
    by_cases hlt : k < n
    · obtain ⟨b, off, rfl, hbb, hc⟩ := (h.below hs).at_ k hlt
      obtain ⟨b', off', rfl, hbb', hc'⟩ := (h'.below hs).at_ k hlt
      obtain ⟨c0, c1, c2⟩ := hc k hlt
      obtain ⟨d0, d1, d2⟩ := hc' k hlt
      have HS := Lib.hid hs
      have hbw : b < wr.heap.size := by omega
      have hbw' : b' < wr.heap.size := by omega
      have hk0 : (0 : Int) ≤ (k : Int) := by omega
      have hk1 : (k : Int) < (n : Int) := by omega
      clear hc hc' hs
      go_wp2_with fail
      go_region_held3 (fun w' => w'.cell? ⟨b, off + k * 3, none⟩ = some (.int .i64 (Q.of l k)) ∧ w'.cell? ⟨b, off + k * 3 + 1, none⟩ = some (.int .i64 (Q.de l k)) ∧ w'.cell? ⟨b, off + k * 3 + 2, none⟩ = some (.int .i64 (Q.tm l k)) ∧ w'.cell? ⟨b', off' + k * 3, none⟩ = some (.int .i64 (Q.of l k)) ∧ w'.cell? ⟨b', off' + k * 3 + 1, none⟩ = some (.int .i64 (Q.de l k)) ∧ w'.cell? ⟨b', off' + k * 3 + 2, none⟩ = some (.int .i64 (Q.tm l k)))
        (first | exact ⟨e0, e1, e2, e3, e4, e5⟩ | go_keep)
        (first | (go_at_call 37; refine (eqBucket_same _ _ _ _).mono ?_; rintro e w2 ⟨rfl, b2⟩; have e0 := (b2.cell (p := ⟨b, off + k * 3, none⟩) hbw).trans c0; have e1 := (b2.cell (p := ⟨b, off + k * 3 + 1, none⟩) hbw).trans c1; have e2 := (b2.cell (p := ⟨b, off + k * 3 + 2, none⟩) hbw).trans c2; have e3 := (b2.cell (p := ⟨b', off' + k * 3, none⟩) hbw').trans d0; have e4 := (b2.cell (p := ⟨b', off' + k * 3 + 1, none⟩) hbw').trans d1; have e5 := (b2.cell (p := ⟨b', off' + k * 3 + 2, none⟩) hbw').trans d2))
      have q2 : Below w.heap.size w w2 := (HS.out.drew).trans (b2.mono hsz)
      clear b2 e0 e1 e2 e3 e4 e5
      go_wp2
      go_roundw
      case rel => exact ⟨k + 1, by omega, by go_num, q2⟩
      case measure => simp [intOf]; omega
    · go_wp2
      go_ret
      exact ⟨rfl, hs⟩
theorem szBucketS_ok (n c : Nat) (a : Option Addr) (w : World) (h : n ≤ 1048576) : Calls Try.prog 16 #[.slice a n c, .int .i64 1048576] w fun e w' => (∃ z : Int, e = .returned (.int .i64 z) ∧ 0 ≤ z) ∧ w = w' := by
  have h1 : ¬ (1048576 : Int) - (n : Int) < 0 := by omega
  go_enter Try.func16, Try.ntmps16
  go_wp2
  go_ret
  exact ⟨⟨_, rfl, by omega⟩, rfl⟩
theorem szBucketS_no (n c : Nat) (a : Option Addr) (w : World) (h : 1048576 < n) (h' : (n : Int) ≤ maxLen) : Calls Try.prog 16 #[.slice a n c, .int .i64 1048576] w fun e w' => e = .returned (.int .i64 (-1)) ∧ w = w' := by
  unfold maxLen at h'
  have h1 : (1048576 : Int) - (n : Int) < 0 := by omega
  have h2 : IntKind.i64.wrap (1048576 - (n : Int)) = 1048576 - (n : Int) := IntWalk.i64_in _ (by omega)
  go_enter Try.func16, Try.ntmps16
  go_wp2
  go_ret
  exact ⟨rfl, rfl⟩
/-- A struct of three numbers in a block of its own. -/
structure K3 (w : World) (D : Nat) (x y z : Int) : Prop where
  c0 : w.cell? ⟨D, 0, none⟩ = some (.int .i64 x)
  c1 : w.cell? ⟨D, 1, none⟩ = some (.int .i64 y)
  c2 : w.cell? ⟨D, 2, none⟩ = some (.int .i64 z)
  lt : D < w.heap.size
theorem K3.b {w w' : World} {D : Nat} {x y z : Int} (h : K3 w D x y z) (hb : Below w.heap.size w w') : K3 w' D x y z := ⟨(hb.cell (p := ⟨D, 0, none⟩) h.lt).trans h.c0, (hb.cell (p := ⟨D, 1, none⟩) h.lt).trans h.c1, (hb.cell (p := ⟨D, 2, none⟩) h.lt).trans h.c2, Nat.lt_of_lt_of_le h.lt hb.size⟩
theorem K3.al {w : World} {D : Nat} {x y z : Int} (h : K3 w D x y z) (o : Obj) : K3 (w.alloc o) D x y z := h.b ((Below.refl _ _).alloc (Nat.le_refl _) o)
theorem K3.new (w : World) (x y z : Int) (t : TypeId) : K3 (w.alloc (.cells #[.int .i64 x, .int .i64 y, .int .i64 z] t)) w.heap.size x y z := ⟨by simp, by simp, by simp, by simp⟩
end Go.Proofs.Ytoaaedbfjbgakaa
