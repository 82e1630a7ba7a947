/-
  Spans in memory, and what chapter 5 says of them: the model's functions.
-/
import Derived.Test.YtlehpfcealohoaaLst
import Derived.Test.YtlehpfcealohoaaVMath
import Derived.Deep.RegionHeld3
namespace Go.Proofs.Ytlehpfcealohoaa
open Go.RowKit
set_option linter.unusedVariables false
/-- A list of spans in memory, in blocks below B. -/
def Sps (B : Nat) (w : World) (a : Option Addr) (n : Nat) (l : List (Int × Int)) : Prop :=
  l.length = n ∧ n ≤ 1048576 ∧ (n = 0 ∨ ∃ b off, a = some ⟨b, off, none⟩ ∧ b < B ∧ ∀ i, i < n → w.cell? ⟨b, off + i * 2, none⟩ = some (.int .i64 (V.lo l i)) ∧ w.cell? ⟨b, off + i * 2 + 1, none⟩ = some (.int .i64 (V.hi l i)))
theorem Sps.drewN {B : Nat} {w : World} {a : Option Addr} {n : Nat} {l : List (Int × Int)} (h : Sps B w a n l) (k : Nat) : Sps B (w.drewN k) a n l := h
theorem Sps.drew {B : Nat} {w : World} {a : Option Addr} {n : Nat} {l : List (Int × Int)} (h : Sps B w a n l) : Sps B w.drew a n l := h
theorem Sps.same {B : Nat} {w w' : World} {a : Option Addr} {n : Nat} {l : List (Int × Int)} (h : Sps B w a n l) (q : Same w w') : Sps B w' a n l := by obtain ⟨p, rfl⟩ := q; exact h
theorem Sps.below {B : Nat} {w w' : World} {a : Option Addr} {n : Nat} {l : List (Int × Int)} (h : Sps B w a n l) (hb : Below B w w') : Sps B w' a n l :=
  ⟨h.1, h.2.1, h.2.2.imp_right fun ⟨b, off, e, hlt, hc⟩ => ⟨b, off, e, hlt, fun i hi => ⟨(hb.cell (p := ⟨b, off + i * 2, none⟩) hlt).trans (hc i hi).1, (hb.cell (p := ⟨b, off + i * 2 + 1, none⟩) hlt).trans (hc i hi).2⟩⟩⟩
theorem Sps.more {B B' : Nat} {w : World} {a : Option Addr} {n : Nat} {l : List (Int × Int)} (h : Sps B w a n l) (hb : B ≤ B') : Sps B' w a n l :=
  ⟨h.1, h.2.1, h.2.2.imp_right fun ⟨b, off, e, hlt, hc⟩ => ⟨b, off, e, by omega, hc⟩⟩
theorem Sps.at_ {B : Nat} {w : World} {a : Option Addr} {n : Nat} {l : List (Int × Int)} (h : Sps B w a n l) (i : Nat) (hi : i < n) : ∃ b off, a = some ⟨b, off, none⟩ ∧ b < B ∧ ∀ i, i < n → w.cell? ⟨b, off + i * 2, none⟩ = some (.int .i64 (V.lo l i)) ∧ w.cell? ⟨b, off + i * 2 + 1, none⟩ = some (.int .i64 (V.hi l i)) := by
  rcases h.2.2 with h0 | h0
  · omega
  · exact h0
theorem vspan_spec (x y : Int) (w : World) : Calls Try.prog 37 #[.agg #[.int .i64 x, .int .i64 y]] w fun e w' => e = .returned (.bool (decide (V.okN x y))) ∧ Below w.heap.size w w' := by
  go_enter Try.func37, Try.ntmps37
  have hb := Lib.hid ((Below.refl w.heap.size w).alloc (Nat.le_refl _) (Obj.cells #[.int .i64 x, .int .i64 y] 26))
  rcases inR_cases x (-1000000) 1000000 with ⟨r0, r1⟩ | ⟨r0, r1⟩
  · rcases inR_cases y x 1000000 with ⟨s0, s1⟩ | ⟨s0, s1⟩
    · go_wp2_with (go_at_call 30; refine (inR_spec _ _ _ _).mono ?_; rintro e w' ⟨rfl, rfl⟩)
      go_ret
      exact ⟨ret_bool (decide_eq_true ⟨r1, s1⟩).symm, hb.out⟩
    · go_wp2_with (go_at_call 30; refine (inR_spec _ _ _ _).mono ?_; rintro e w' ⟨rfl, rfl⟩)
      go_ret
      exact ⟨ret_bool (decide_eq_false (fun h => s1 h.2)).symm, hb.out⟩
  · go_wp2_with (go_at_call 30; refine (inR_spec _ _ _ _).mono ?_; rintro e w' ⟨rfl, rfl⟩)
    go_ret
    exact ⟨ret_bool (decide_eq_false (fun h => r1 h.1)).symm, hb.out⟩
set_option maxHeartbeats 1000000 in
theorem vs_spec (B n c : Nat) (a : Option Addr) (l : List (Int × Int)) (w : World) (h : Sps B w a n l) (hB : B ≤ w.heap.size) : Calls Try.prog 26 #[.slice a n c] w fun e w' => e = .returned (.bool (V.vs l)) ∧ Below w.heap.size w w' := by
  obtain ⟨hl, hn, _⟩ := id h
  have HL := Lib.hid hl
  clear hl
  go_enter Try.func26, Try.ntmps26
  go_wp2
  go_loopw [3] (fun i wr => ∃ k : Nat, k ≤ n ∧ V.okTo l k ∧ i = .int .i64 k ∧ Below w.heap.size w wr) (fun i _ => n - (intOf i).toNat)
  case atStart => exact ⟨0, Nat.zero_le _, fun i hi => absurd hi (by omega), rfl, Below.refl _ _⟩
  case round =>
    obtain ⟨k, hk, hok, rfl, hs⟩ := hrel
    have HO := Lib.hid hok
    clear hok
    have h := (h.more hB).below hs
    have hsz := hs.size
    by_cases hlt : k < n
    · obtain ⟨b, off, rfl, hb, hc⟩ := h.at_ k hlt
      have c0 := (hc k hlt).1
      have c1 := (hc k hlt).2
      clear hc
      by_cases hv : V.okN (V.lo l k) (V.hi l k)
      · have hv' : decide (V.okN (V.lo l k) (V.hi l k)) = true := decide_eq_true hv
        go_wp2_with (go_at_call 37; refine (vspan_spec _ _ _).mono ?_; rintro e w' ⟨rfl, bl⟩)
        go_roundw
        case rel => exact ⟨k + 1, by omega, V.okTo_succ HO.out hv, by go_num, hs.trans (bl.mono hsz)⟩
        case measure => simp [intOf]; omega
      · have hv' : decide (V.okN (V.lo l k) (V.hi l k)) = false := decide_eq_false hv
        go_wp2_with (go_at_call 37; refine (vspan_spec _ _ _).mono ?_; rintro e w' ⟨rfl, bl⟩)
        go_ret
        exact ⟨ret_bool (V.vs_bad k (by have := HL.out; omega) hv).symm, hs.trans (bl.mono hsz)⟩
    · obtain rfl : k = n := by omega
      rcases inR_cases (k : Int) 1 7 with ⟨s0, s1⟩ | ⟨s0, s1⟩
      · go_wp2_with (go_at_call 30; refine (inR_spec _ _ _ _).mono ?_; rintro e w' ⟨rfl, rfl⟩)
        go_ret
        exact ⟨ret_bool (V.vs_yes (by have := HL.out; omega) (by have := HL.out; omega) (by rw [HL.out]; exact HO.out)).symm, hs⟩
      · go_wp2_with (go_at_call 30; refine (inR_spec _ _ _ _).mono ?_; rintro e w' ⟨rfl, rfl⟩)
        go_ret
        exact ⟨ret_bool (V.vs_long (by have := HL.out; omega)).symm, hs⟩
theorem vt_step (l : List (Int × Int)) (t : Int) (k : Nat) : (V.votesTo l t (k + 1) : Int) = V.votesTo l t k + L.b1 (inR t (V.lo l k) (V.hi l k)) := by
  unfold L.b1 inR
  show ((V.votesTo l t k + (if V.has l t k then 1 else 0) : Nat) : Int) = _
  by_cases h : V.has l t k
  · rw [if_pos h]; unfold V.has at h; simp [h]
  · rw [if_neg h]; unfold V.has at h
    have : (decide (V.lo l k ≤ t) && decide (t ≤ V.hi l k)) = false := by simpa using h
    simp [this]
set_option maxHeartbeats 1000000 in
theorem votes_spec (B n c : Nat) (a : Option Addr) (l : List (Int × Int)) (t : Int) (w : World) (h : Sps B w a n l) : Calls Try.prog 38 #[.slice a n c, .int .i64 t] w fun e w' => e = .returned (.int .i64 (V.votes l t)) ∧ Same w w' := by
  obtain ⟨hl, hn, _⟩ := id h
  have HL := Lib.hid hl
  clear hl
  go_enter Try.func38, Try.ntmps38
  go_wp2
  go_loopw [5, 6] (fun x i wr => ∃ k : Nat, k ≤ n ∧ i = .int .i64 k ∧ x = .int .i64 (V.votesTo l t k) ∧ Same w wr) (fun _ i _ => n - (intOf i).toNat)
  case atStart => exact ⟨0, Nat.zero_le _, rfl, rfl, Same.refl _⟩
  case round =>
    obtain ⟨k, hk, rfl, rfl, hs⟩ := hrel
    have h := h.same hs
    by_cases hlt : k < n
    · obtain ⟨b, off, rfl, hb, hc⟩ := h.at_ k hlt
      have c0 := (hc k hlt).1
      have c1 := (hc k hlt).2
      have hs1 := vt_step l t k
      have hle := V.votesTo_le l t k
      have h01 := L.b1_01 (inR t (V.lo l k) (V.hi l k))
      have HS := Lib.hid hs1
      have h0 : 0 ≤ L.b1 (inR t (V.lo l k) (V.hi l k)) := by omega
      have h1 : L.b1 (inR t (V.lo l k) (V.hi l k)) ≤ 1 := by omega
      clear hc hs1 h01
      go_wp2
      go_quiet ((first | (go_at_call 30; exact qsL (inR_spec _ _ _)) | (go_at_call 43; exact qsL (toInt_b _))))
      go_wp2
      go_roundw
      case rel => exact ⟨k + 1, by omega, by go_num, by rw [HS.out], hs.drewN _⟩
      case measure => simp [intOf]; omega
    · obtain rfl : k = n := by omega
      go_wp2
      go_ret
      exact ⟨ret_int (by unfold V.votes; rw [HL.out]), hs⟩
set_option maxHeartbeats 1000000 in
theorem most_spec (B n c : Nat) (a : Option Addr) (l : List (Int × Int)) (w : World) (h : Sps B w a n l) : Calls Try.prog 27 #[.slice a n c] w fun e w' => e = .returned (.int .i64 (V.most l)) ∧ Same w w' := by
  obtain ⟨hl, hn, _⟩ := id h
  have HL := Lib.hid hl
  clear hl
  go_enter Try.func27, Try.ntmps27
  go_wp2
  go_loopw [3, 4] (fun x i wr => ∃ k : Nat, k ≤ n ∧ i = .int .i64 k ∧ x = .int .i64 (V.mostTo l k) ∧ Same w wr) (fun _ i _ => n - (intOf i).toNat)
  case atStart => exact ⟨0, Nat.zero_le _, rfl, rfl, Same.refl _⟩
  case round =>
    obtain ⟨k, hk, rfl, rfl, hs⟩ := hrel
    have h := h.same hs
    by_cases hlt : k < n
    · obtain ⟨b, off, rfl, hb, hc⟩ := h.at_ k hlt
      have c0 := (hc k hlt).1
      clear hc
      go_wp2_with (go_at_call 38; refine (votes_spec _ _ _ _ l _ _ h).mono ?_; rintro e w' ⟨rfl, q⟩)
      go_roundw
      case rel => exact ⟨k + 1, by omega, by go_num, by show _ = Value.int .i64 (((max (V.mostTo l k) (V.votes l (V.lo l k)) : Nat)) : Int); simp; split <;> omega, hs.trans q⟩
      case measure => simp [intOf]; omega
    · obtain rfl : k = n := by omega
      go_wp2
      go_ret
      exact ⟨ret_int (by unfold V.most; rw [HL.out]), hs⟩
set_option maxHeartbeats 1000000 in
theorem agreed_spec (B n c : Nat) (a : Option Addr) (l : List (Int × Int)) (w : World) (h : Sps B w a n l) (hB : B ≤ w.heap.size) : Calls Try.prog 28 #[.slice a n c] w fun e w' => e = .returned (.agg #[.int .i64 (V.low l), .int .i64 (V.high l)]) ∧ Below w.heap.size w w' := by
  obtain ⟨hl, hn, _⟩ := id h
  have HL := Lib.hid hl
  have hb0 := (Below.refl w.heap.size w).alloc (Nat.le_refl _) (Obj.cells #[.int .i64 0, .int .i64 0] 26)
  have h1 := (h.more hB).below hb0
  have HB := Lib.hid hb0
  have HS1 := Lib.hid h1
  clear hl hb0
  go_enter Try.func28, Try.ntmps28
  go_wp2_with (go_at_call 27; refine (most_spec _ _ _ _ l _ HS1.out).mono ?_; rintro e w1 ⟨rfl, q1⟩)
  go_loopw [4, 5] (fun x i wr => ∃ k : Nat, k ≤ n ∧ i = .int .i64 k ∧ x = .int .i64 (V.lowTo l k) ∧ Same w1 wr) (fun _ i _ => n - (intOf i).toNat)
  case atStart => exact ⟨0, Nat.zero_le _, rfl, rfl, Same.refl _⟩
  case round =>
    obtain ⟨k, hk, rfl, rfl, hs⟩ := hrel
    have h := HS1.out.same (q1.trans hs)
    by_cases hlt : k < n
    · obtain ⟨b, off, rfl, hb, hc⟩ := h.at_ k hlt
      have c0 := (hc k hlt).1
      clear hc
      by_cases he : V.votes l (V.lo l k) = V.most l
      · have he' : (((V.votes l (V.lo l k) : Nat) : Int) == ((V.most l : Nat) : Int)) = true := by simp [he]
        have HE := Lib.hid he
        clear he
        go_wp2_with (go_at_call 38; refine (votes_spec _ _ _ _ l _ _ h).mono ?_; rintro e w' ⟨rfl, p, rfl⟩)
        go_roundw
        case rel => exact ⟨k + 1, by omega, by go_num, by (have e : V.lowTo l (k + 1) = min (V.lowTo l k) (V.lo l k) := if_pos HE.out); rw [e]; show _ = Value.int .i64 _; simp; split <;> omega, hs.drewN p⟩
        case measure => simp [intOf]; omega
      · have he' : (((V.votes l (V.lo l k) : Nat) : Int) == ((V.most l : Nat) : Int)) = false := by simpa using (fun e => he (by omega))
        have HE := Lib.hid he
        clear he
        go_wp2_with (go_at_call 38; refine (votes_spec _ _ _ _ l _ _ h).mono ?_; rintro e w' ⟨rfl, p, rfl⟩)
        go_roundw
        case rel => exact ⟨k + 1, by omega, by go_num, by (have e : V.lowTo l (k + 1) = V.lowTo l k := if_neg HE.out); rw [e], hs.drewN p⟩
        case measure => simp [intOf]; omega
    · obtain rfl : k = n := by omega
      have elow : V.lowTo l k = V.low l := by unfold V.low; rw [HL.out]
      rw [elow]
      go_wp2
      go_loopw [6, 7] (fun x i wq => ∃ j : Nat, j ≤ k ∧ i = .int .i64 j ∧ x = .int .i64 (V.highTo l (V.low l) j) ∧ Same wr wq) (fun _ i _ => k - (intOf i).toNat)
      case atStart => exact ⟨0, Nat.zero_le _, rfl, rfl, Same.refl _⟩
      case round =>
        obtain ⟨j, hj, rfl, rfl, hs2⟩ := hrel
        have h := HS1.out.same ((q1.trans hs).trans hs2)
        by_cases hlt2 : j < k
        · obtain ⟨b, off, rfl, hb, hc⟩ := h.at_ j hlt2
          have c0 := (hc j hlt2).1
          have c1 := (hc j hlt2).2
          clear hc
          by_cases hg : V.low l ≤ V.hi l j
          · have HG := Lib.hid hg
            rcases inR_cases (V.low l) (V.lo l j) (V.hi l j) with ⟨r0, r1⟩ | ⟨r0, r1⟩
            · go_wp2
              go_quiet ((go_at_call 30; exact qsL (inR_spec _ _ _)))
              go_wp2
              go_roundw
              case rel => exact ⟨j + 1, by omega, by go_num, by (have e : V.highTo l (V.low l) (j + 1) = min (V.highTo l (V.low l) j) (V.hi l j) := if_pos r1); rw [e]; show _ = Value.int .i64 _; simp; split <;> omega, hs2.drewN _⟩
              case measure => simp [intOf]; omega
            · go_wp2
              go_quiet ((go_at_call 30; exact qsL (inR_spec _ _ _)))
              go_wp2
              go_roundw
              case rel => exact ⟨j + 1, by omega, by go_num, by (have e : V.highTo l (V.low l) (j + 1) = V.highTo l (V.low l) j := if_neg r1); rw [e], hs2.drewN _⟩
              case measure => simp [intOf]; omega
          · have hg' : decide (V.low l ≤ V.hi l j) = false := decide_eq_false hg
            go_wp2
            go_quiet ((go_at_call 30; exact qsL (inR_spec _ _ _)))
            go_wp2
            go_roundw
            case rel => exact ⟨j + 1, by omega, by go_num, by (have e : V.highTo l (V.low l) (j + 1) = V.highTo l (V.low l) j := if_neg (fun hh => by have := hh.2; omega)); rw [e], hs2.drewN _⟩
            case measure => simp [intOf]; omega
        · obtain rfl : j = k := by omega
          have ehi : V.highTo l (V.low l) j = V.high l := by unfold V.high; rw [HL.out]
          rw [ehi]
          obtain ⟨q, hq⟩ := q1.trans (hs.trans hs2)
          subst hq
          go_wp2
          exact bodyPost_ret (v := .agg #[.int .i64 (V.low l), .int .i64 (V.high l)]) (by simp [results, Try.results28, go_sem]) rfl ⟨rfl, ((below_drewN HB.out q).setCell (Nat.le_refl _) _).setCell (Nat.le_refl _) _⟩
theorem two_below {w w1 : World} {u v : Value} {t : TypeId} (b : Below (w.heap.size + 1) (w.alloc (Obj.cells #[u, v] t)) w1) : w1.cell? ⟨w.heap.size, 0, none⟩ = some u ∧ w1.cell? ⟨w.heap.size, 1, none⟩ = some v ∧ w1.frozen? ⟨w.heap.size, 0, none⟩ = false ∧ w1.frozen? ⟨w.heap.size, 1, none⟩ = false :=
  ⟨(b.cell (p := ⟨w.heap.size, 0, none⟩) (Nat.lt_succ_self _)).trans (by simp), (b.cell (p := ⟨w.heap.size, 1, none⟩) (Nat.lt_succ_self _)).trans (by simp), (b.frozen (p := ⟨w.heap.size, 0, none⟩) (Nat.lt_succ_self _)).trans (by simp), (b.frozen (p := ⟨w.heap.size, 1, none⟩) (Nat.lt_succ_self _)).trans (by simp)⟩
set_option maxHeartbeats 1000000 in
theorem ag_spec (B n c : Nat) (a : Option Addr) (l : List (Int × Int)) (w : World) (h : Sps B w a n l) (hB : B ≤ w.heap.size) : Calls Try.prog 8 #[.slice a n c] w fun e w' => e = .returned (.tuple #[.agg #[.int .i64 (V.rlo l), .int .i64 (V.rhi l)], .bool (V.agB l)]) ∧ Below w.heap.size w w' := by
  obtain ⟨hl, hn, _⟩ := id h
  have HL := Lib.hid hl
  have hb0 := (Below.refl w.heap.size w).alloc (Nat.le_refl _) (Obj.cells #[.int .i64 0, .int .i64 0] 26)
  have h1 := (h.more hB).below hb0
  have HB := Lib.hid hb0
  have HS1 := Lib.hid h1
  clear hl hb0 h h1
  go_enter Try.func8, Try.ntmps8
  cases hv : V.vs l
  · rw [(V.r_no (V.agB_no1 hv)).1, (V.r_no (V.agB_no1 hv)).2, V.agB_no1 hv]
    go_wp2_with (go_at_call 26; refine (vs_spec _ _ _ _ l _ HS1.out (by simp)).mono ?_; rw [hv]; rintro e w1 ⟨rfl, b1⟩; have b1 : Below (w.heap.size + 1) (w.alloc (Obj.cells #[.int .i64 0, .int .i64 0] 26)) w1 := (by simpa using b1); obtain ⟨c0, c1, f0, f1⟩ := two_below b1; have hfin := HB.out.trans (b1.mono (by omega)); have hsz := b1.size; have hszl : w.heap.size < w1.heap.size := (by simp at hsz; omega); clear b1 hsz)
    exact bodyPost_ret (v := .tuple #[.agg #[.int .i64 0, .int .i64 0], .bool false]) (by simp [results, Try.results8, go_sem, c0, c1]) rfl ⟨rfl, (hfin.setCell (Nat.le_refl _) _).setCell (Nat.le_refl _) _⟩
  · have hmost := V.most_le l
    have hl7 := (V.vs_of hv).1
    by_cases hm : l.length < 2 * V.most l
    · rw [(V.r_yes (V.agB_yes hv hm)).1, (V.r_yes (V.agB_yes hv hm)).2, V.agB_yes hv hm]
      have hm' : decide (2 * (V.most l : Int) ≤ (n : Int)) = false := by have := HL.out; simp; omega
      go_wp2_with (first | (go_at_call 26; refine (vs_spec _ _ _ _ l _ HS1.out (by simp)).mono ?_; rw [hv]; rintro e w1 ⟨rfl, b1⟩; have b1 : Below (w.heap.size + 1) (w.alloc (Obj.cells #[.int .i64 0, .int .i64 0] 26)) w1 := (by simpa using b1); obtain ⟨c0, c1, f0, f1⟩ := two_below b1; have hfin := HB.out.trans (b1.mono (by omega)); have hsz := b1.size; have hszl : w.heap.size < w1.heap.size := (by simp at hsz; omega); have HS2 := Lib.hid (HS1.out.below (b1.mono (by omega))); clear hsz) | (go_at_call 27; refine (most_spec _ _ _ _ l _ HS2.out).mono ?_; rintro e w2 ⟨rfl, p, rfl⟩) | (go_at_call 28; refine (agreed_spec _ _ _ _ l _ (HS2.out.drewN p) (by have := hszl; simp; omega)).mono ?_; rintro e w3 ⟨rfl, b3⟩; have b3 : Below w1.heap.size (w1.drewN p) w3 := b3; have d0 := (b3.cell (p := ⟨w.heap.size, 0, none⟩) hszl).trans c0; have d1 := (b3.cell (p := ⟨w.heap.size, 1, none⟩) hszl).trans c1; have g0 := (b3.frozen (p := ⟨w.heap.size, 0, none⟩) hszl).trans f0; have g1 := (b3.frozen (p := ⟨w.heap.size, 1, none⟩) hszl).trans f1; have hfin2 := Lib.hid ((below_drewN hfin p).trans (b3.mono (by omega))); have hsz3 := b3.size; have hszl3 : w.heap.size < w3.heap.size := (by simp at hsz3; omega); clear b3 hsz3))
      exact bodyPost_ret (v := .tuple #[.agg #[.int .i64 (V.low l), .int .i64 (V.high l)], .bool true]) (by simp [results, Try.results8, go_sem, d0, d1]) rfl ⟨rfl, (hfin2.out.setCell (Nat.le_refl _) _).setCell (Nat.le_refl _) _⟩
    · rw [(V.r_no (V.agB_no2 hm)).1, (V.r_no (V.agB_no2 hm)).2, V.agB_no2 hm]
      have hm' : (2 * (V.most l : Int) ≤ (n : Int)) := by have := HL.out; omega
      go_wp2_with (first | (go_at_call 26; refine (vs_spec _ _ _ _ l _ HS1.out (by simp)).mono ?_; rw [hv]; rintro e w1 ⟨rfl, b1⟩; have b1 : Below (w.heap.size + 1) (w.alloc (Obj.cells #[.int .i64 0, .int .i64 0] 26)) w1 := (by simpa using b1); obtain ⟨c0, c1, f0, f1⟩ := two_below b1; have hfin := HB.out.trans (b1.mono (by omega)); have hsz := b1.size; have hszl : w.heap.size < w1.heap.size := (by simp at hsz; omega); have HS2 := Lib.hid (HS1.out.below (b1.mono (by omega))); clear hsz) | (go_at_call 27; refine (most_spec _ _ _ _ l _ HS2.out).mono ?_; rintro e w2 ⟨rfl, p, rfl⟩))
      exact bodyPost_ret (v := .tuple #[.agg #[.int .i64 0, .int .i64 0], .bool false]) (by simp [results, Try.results8, go_sem, c0, c1]) rfl ⟨rfl, ((below_drewN hfin p).setCell (Nat.le_refl _) _).setCell (Nat.le_refl _) _⟩
end Go.Proofs.Ytlehpfcealohoaa
