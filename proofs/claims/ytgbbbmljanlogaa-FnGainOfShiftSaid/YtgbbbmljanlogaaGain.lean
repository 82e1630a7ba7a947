/-
  What a counter has gained (chapter 14): the program's and the model's function.
-/
import Derived.Test.YtgbbbmljanlogaaLabel
namespace Go.Proofs.Ytgbbbmljanlogaa
open Go.RowKit
set_option linter.unusedVariables false
set_option maxRecDepth 100000
/-- A gain that is told. -/
def Gtold (w : World) (l : List (Int × Int)) (e : Ending) (w' : World) : Prop := e = .returned (.tuple #[.int .i64 (G.gn l), .bool (G.gok l)]) ∧ Below w.heap.size w w'
theorem Gtold.no {w w' : World} {l : List (Int × Int)} (h : G.gok l = false) (hb : Below w.heap.size w w') : Gtold w l (.returned (.tuple #[.int .i64 0, .bool false])) w' := ⟨by rw [h, G.gn_no h], hb⟩
set_option maxHeartbeats 4000000 in
theorem GN_impl (n c : Nat) (a : Option Addr) (l : List (Int × Int)) (w : World) (h : Sps w.heap.size w a n l) : Calls Try.prog 18 #[.slice a n c] w (Gtold w l) := by
  have hl := h.1
  have k1 := vl_impl n c a l w h
  have k2 := fun w' (h : Sps w'.heap.size w' a n l) => ta_impl w'.heap.size n c a l w' h
  by_cases h2 : n < 2
  · have T := Lib.hid (Gtold.no (w := w) (w' := w) (l := l) (G.gok_no (fun q => by omega)) (Below.refl _ _))
    have h2' : decide ((n : Int) < 2) = true := decide_eq_true (by omega)
    clear k1 k2 hl h
    go_enter Try.func18, Try.ntmps18
    go_wp2
    go_ret2
    exact T.out
  have h2' : decide ((n : Int) < 2) = false := decide_eq_false (by omega)
  rcases hv : G.vl l with _ | _
  · have T := Lib.hid (fun w' => Gtold.no (w := w) (w' := w') (l := l) (G.gok_no (fun q => by rw [hv] at q; cases q.2.1)))
    rw [hv] at k1
    have K1 := Lib.hid k1
    clear k1 k2 hl h hv
    go_enter Try.func18, Try.ntmps18
    go_wp2_with (go_at_call 35; refine K1.out.mono ?_; rintro e w1 ⟨rfl, b1⟩; have HB := Lib.hid b1; clear b1)
    go_ret2
    exact T.out _ HB.out
  rcases ht : G.ta l with _ | _
  · have T := Lib.hid (fun w' => Gtold.no (w := w) (w' := w') (l := l) (G.gok_no (fun q => by rw [ht] at q; cases q.2.2)))
    rw [hv] at k1
    simp only [ht] at k2
    have K1 := Lib.hid k1
    have K2 := Lib.hid k2
    have HS := Lib.hid h
    clear k1 k2 hl h hv ht
    go_enter Try.func18, Try.ntmps18
    go_wp2_with fail
    refine K1.out.mono ?_
    rintro e w1 ⟨rfl, b1⟩
    have HB := Lib.hid b1
    clear b1
    go_wp2_with fail
    refine (K2.out _ (HS.out.keepB HB.out)).mono ?_
    rintro e w2 ⟨rfl, q2⟩
    have HQ := Lib.hid q2
    clear q2
    go_wp2
    go_ret2
    exact T.out _ (bel_same HB.out HQ.out)
  have hg := G.gok_yes ⟨show 2 ≤ l.length by omega, hv, ht⟩
  rw [hv] at k1
  simp only [ht] at k2
  have K1 := Lib.hid k1
  have K2 := Lib.hid k2
  have HS := Lib.hid h
  have r0 := G.rng hv (i := 0) (by omega)
  have rn := G.rng hv (i := n - 1) (by omega)
  have HG := Lib.hid (And.intro (G.gn_yes hg) hg)
  have hgv : G.gv l = V.lo l (n - 1) - V.lo l 0 - 1000000 * (V.hi l (n - 1) - V.hi l 0) := by unfold G.gv; rw [hl]
  have HGV := Lib.hid hgv
  obtain ⟨b, off, rfl, hb, hc⟩ := h.at_ 0 (by omega)
  obtain ⟨m, rfl⟩ : ∃ m, n = m + 1 := ⟨n - 1, by omega⟩
  have hm1 : 1 ≤ m := by omega
  have h2'' : decide ((m : Int) + 1 < 2) = false := decide_eq_false (by omega)
  have hm0 : (m : Int) < (m : Int) + 1 := by omega
  have e1 : wrap64 (m : Int) = (m : Int) := IntWalk.wrap64_in _ (by have := h.2.1; omega)
  have e3 : IntKind.i64.wrap (m : Int) = (m : Int) := IntWalk.i64_in _ (by have := h.2.1; omega)
  have e4 : IntKind.i64.wrap ((m : Int) + 1 - 1) = (m : Int) := by rw [show (m : Int) + 1 - 1 = m by omega]; exact e3
  have p0 : (0 : Int) ≤ (m : Int) := by omega
  rw [Nat.add_sub_cancel] at rn HGV
  clear k1 k2 hl h hv ht hg hgv hc h2
  go_enter Try.func18, Try.ntmps18
  go_wp2_with fail
  refine K1.out.mono ?_
  rintro e w1 ⟨rfl, b1⟩
  have HB := Lib.hid b1
  clear b1
  go_wp2_with fail
  refine (K2.out _ (HS.out.keepB HB.out)).mono ?_
  rintro e w2 ⟨rfl, q2⟩
  have HQ := Lib.hid q2
  clear q2
  go_wp2_with fail
  have S2 := HS.out.below (bel_same HB.out HQ.out)
  obtain ⟨b', off', e', _, hc⟩ := S2.at_ 0 (by omega)
  injection e' with e'
  injection e' with e2 e3
  subst e2 e3
  have x0 : w2.cell? ⟨b, off, none⟩ = some (.int .i64 (V.lo l 0)) := by have := (hc 0 (by omega)).1; simpa using this
  have x1 : w2.cell? ⟨b, off + 1, none⟩ = some (.int .i64 (V.hi l 0)) := by have := (hc 0 (by omega)).2; simpa using this
  have y0 := (hc m (by omega)).1
  have y1 := (hc m (by omega)).2
  have HBB := Lib.hid (bel_same HB.out HQ.out)
  generalize V.lo l 0 = p at *
  generalize V.hi l 0 = q at *
  generalize V.lo l m = r at *
  generalize V.hi l m = s at *
  clear hc S2
  go_region_held3 (fun w' => w'.cell? ⟨b, off, none⟩ = some (.int .i64 p) ∧ w'.cell? ⟨b, off + 1, none⟩ = some (.int .i64 q) ∧ w'.cell? ⟨b, off + m * 2, none⟩ = some (.int .i64 r) ∧ w'.cell? ⟨b, off + m * 2 + 1, none⟩ = some (.int .i64 s)) (go_keep) (fail)
  all_goals
    have v1 : wrap64 (r - p) = r - p := IntWalk.wrap64_in _ (by omega)
    have v2 : wrap64 (s - q) = s - q := IntWalk.wrap64_in _ (by omega)
    have v3 : wrap64 (1000000 * (s - q)) = 1000000 * (s - q) := IntWalk.wrap64_in _ (by omega)
    have v4 : wrap64 (r - p - 1000000 * (s - q)) = r - p - 1000000 * (s - q) := IntWalk.wrap64_in _ (by omega)
    go_wp2
    go_ret2
    exact ⟨by rw [HG.out.1, HG.out.2, HGV.out]; first | done | rfl, (((HBB.out.alloc HBB.out.size _).alloc (by have := HBB.out.size; simp; omega) _).drew)⟩
set_option maxHeartbeats 4000000 in
theorem GN_spec (n c : Nat) (a : Option Addr) (l : List (Int × Int)) (w : World) (h : Sps w.heap.size w a n l) : Calls Try.prog 19 #[.slice a n c] w (Gtold w l) := by
  have hl := h.1
  have k1 := vl_spec w.heap.size n c a l w h
  by_cases h2 : n < 2
  · have T := Lib.hid (fun w' => Gtold.no (w := w) (w' := w') (l := l) (G.gok_no (fun q => by omega)))
    have h2' : decide ((n : Int) < 2) = true := decide_eq_true (by omega)
    rcases hv : G.vl l with _ | _
    all_goals
      rw [hv] at k1
      have K1 := Lib.hid k1
      clear k1 hl h hv
      go_enter Try.func19, Try.ntmps19
      go_wp2_with fail
      refine K1.out.mono ?_
      rintro e w1 ⟨rfl, q1⟩
      have HQ := Lib.hid q1
      clear q1
      go_wp2
      go_ret2
      exact T.out _ HQ.out.below
  have h2' : decide ((n : Int) < 2) = false := decide_eq_false (by omega)
  rcases hv : G.vl l with _ | _
  · have T := Lib.hid (fun w' => Gtold.no (w := w) (w' := w') (l := l) (G.gok_no (fun q => by rw [hv] at q; cases q.2.1)))
    rw [hv] at k1
    have K1 := Lib.hid k1
    clear k1 hl h hv
    go_enter Try.func19, Try.ntmps19
    go_wp2_with fail
    refine K1.out.mono ?_
    rintro e w1 ⟨rfl, q1⟩
    have HQ := Lib.hid q1
    clear q1
    go_wp2
    go_ret2
    exact T.out _ HQ.out.below
  rw [hv] at k1
  have K1 := Lib.hid k1
  have HV := Lib.hid hv
  have HL := Lib.hid hl
  have HS := Lib.hid h
  have hn := h.2.1
  clear k1 hl hv h
  go_enter Try.func19, Try.ntmps19
  go_wp2_with fail
  refine K1.out.mono ?_
  rintro e w1 ⟨rfl, q1⟩
  have HQ1 := Lib.hid q1
  clear q1
  go_wp2_with fail
  go_loopw [4] (fun i wr => ∃ k : Nat, k ≤ n + 1 ∧ 1 ≤ k ∧ G.taTo l k ∧ i = .int .i64 k ∧ Same w wr) (fun i _ => n + 1 - (intOf i).toNat)
  case atStart => exact ⟨1, by omega, by omega, fun i hi h0 => by omega, rfl, HQ1.out⟩
  case round =>
    obtain ⟨k, hk, hk1, hok, rfl, hs⟩ := hrel
    have HO := Lib.hid hok
    clear hok
    have h := HS.out.same hs
    by_cases hlt : k < n
    · obtain ⟨b, off, rfl, hb, hc⟩ := h.at_ k hlt
      obtain ⟨m, rfl⟩ : ∃ m, k = m + 1 := ⟨k - 1, by omega⟩
      have c1 := (hc (m + 1) hlt).2
      have cm := (hc m (by omega)).2
      clear hc
      by_cases hd : V.hi l m < V.hi l (m + 1)
      · have hd' : decide (V.hi l (m + 1) ≤ V.hi l m) = false := by simp; omega
        have HK := Lib.hid (G.taTo_succ HO.out (fun _ => hd))
        go_wp2
        go_quiet (fail)
        go_wp2
        go_roundw
        case rel => exact ⟨m + 1 + 1, by omega, by omega, HK.out, by go_num, hs.drewN _⟩
        case measure => simp [intOf]; omega
      · have hd' : decide (V.hi l (m + 1) ≤ V.hi l m) = true := by simp; omega
        have ht := G.ta_no (l := l) (m + 1) (by have := HL.out; omega) (by omega) (fun h => by simp only [Nat.add_sub_cancel] at h; omega)
        have T := Lib.hid (fun w' => Gtold.no (w := w) (w' := w') (l := l) (G.gok_no (fun q => by rw [ht] at q; cases q.2.2)))
        clear ht
        go_wp2
        go_quiet (fail)
        go_wp2
        go_ret2
        exact T.out _ (hs.drewN _).below
    · have hlt' : decide ((k : Int) < (n : Int)) = false := decide_eq_false (by omega)
      have ht : G.ta l = true := G.ta_yes (fun i hi h0 => HO.out i (by have := HL.out; omega) h0)
      have hln := HL.out
      have hg := G.gok_yes ⟨show 2 ≤ l.length by omega, HV.out, ht⟩
      have r0 := G.rng HV.out (i := 0) (by omega)
      have rn := G.rng HV.out (i := n - 1) (by omega)
      have HG := Lib.hid (And.intro (G.gn_yes hg) hg)
      have hgv : G.gv l = V.lo l (n - 1) - V.lo l 0 - 1000000 * (V.hi l (n - 1) - V.hi l 0) := by unfold G.gv; rw [hln]
      have HGV := Lib.hid hgv
      obtain ⟨b, off, rfl, hb, hc⟩ := h.at_ 0 (by omega)
      obtain ⟨m, rfl⟩ : ∃ m, n = m + 1 := ⟨n - 1, by omega⟩
      have hm0 : (m : Int) < (m : Int) + 1 := by omega
      have p0 : (0 : Int) ≤ (m : Int) := Int.natCast_nonneg m
      rw [Nat.add_sub_cancel] at rn HGV
      have x0 : wr.cell? ⟨b, off, none⟩ = some (.int .i64 (V.lo l 0)) := by have := (hc 0 (by omega)).1; simpa using this
      have x1 : wr.cell? ⟨b, off + 1, none⟩ = some (.int .i64 (V.hi l 0)) := by have := (hc 0 (by omega)).2; simpa using this
      have y0 := (hc m (by omega)).1
      have y1 := (hc m (by omega)).2
      have HBB := Lib.hid (hs.below (B := w.heap.size))
      have hbw : b < wr.heap.size := by have := HBB.out.size; omega
      generalize V.lo l 0 = p at *
      generalize V.hi l 0 = q at *
      generalize V.lo l m = r at *
      generalize V.hi l m = s at *
      have v1 : IntKind.i64.wrap (r - p) = r - p := IntWalk.i64_in _ (by omega)
      have v2 : IntKind.i64.wrap (s - q) = s - q := IntWalk.i64_in _ (by omega)
      have v3 : IntKind.i64.wrap (1000000 * (s - q)) = 1000000 * (s - q) := IntWalk.i64_in _ (by omega)
      have v4 : IntKind.i64.wrap (r - p - 1000000 * (s - q)) = r - p - 1000000 * (s - q) := IntWalk.i64_in _ (by omega)
      have alx : ∀ (o : Obj) (j : Nat) (x : Value), wr.cell? ⟨b, j, none⟩ = some x → (wr.alloc o).cell? ⟨b, j, none⟩ = some x := fun o j x hx => (((Below.refl wr.heap.size wr).alloc (Nat.le_refl _) o).cell (p := ⟨b, j, none⟩) hbw).trans hx
      have z0 := alx (.cells #[.int .i64 r, .int .i64 s] 34) _ _ x0
      have z1 := alx (.cells #[.int .i64 r, .int .i64 s] 34) _ _ x1
      have hlt2 : decide ((k : Int) < (m : Int) + 1) = false := decide_eq_false (by omega)
      have e1 : wrap64 (m : Int) = (m : Int) := IntWalk.wrap64_in _ (by omega)
      clear hn hbw hb r0 rn hc h hln hg hgv ht h2 h2' HO hs alx hlt hk hk1
      go_wp2_with fail
      go_quiet (fail)
      go_wp2
      go_ret2
      exact ⟨by rw [HG.out.1, HG.out.2, HGV.out]; first | done | rfl, below_drewN (HBB.out.alloc HBB.out.size _) _⟩
end Go.Proofs.Ytgbbbmljanlogaa
