/-
  Clean pulses (chapter 14): the program's and the model's function: a new list that the caller owns.
-/
import Derived.Test.YtgbbbmljanlogaaPulse
namespace Go.Proofs.Ytgbbbmljanlogaa
open Go.RowKit
set_option linter.unusedVariables false
set_option maxRecDepth 100000
theorem cls_rng {l : List Int} (h : U.vp l = true) {k : Nat} (hk : k ≤ l.length) (i : Nat) (hi : i < (U.cls l k).length) : 0 ≤ L.g (U.cls l k) i ∧ L.g (U.cls l k) i ≤ 100000000 := by
  obtain ⟨j, hj, e⟩ := (U.cls_cl l k).src i hi
  rw [e]; exact U.rng h (by omega)
theorem cls_lt {l : List Int} (h : U.vp l = true) {k : Nat} (hk : k < l.length) (i : Nat) (hi : i < (U.cls l k).length) : L.g (U.cls l k) i < L.g l k := by
  obtain ⟨j, hj, e⟩ := (U.cls_cl l k).src i hi
  rw [e]; exact U.asc h hj hk
set_option maxHeartbeats 4000000 in
theorem CP_impl (n c : Nat) (a : Option Addr) (l : List Int) (w : World) (h : Lst w.heap.size w a n l) : Calls Try.prog 9 #[.slice a n c] w (Told w (U.cp l)) := by
  have hln := h.1
  have k1 := fun w' (h : Lst w.heap.size w' a n l) => vp_impl w.heap.size n c a l w' h
  rcases hv : U.vp l with _ | _
  · rw [U.cp_no hv]
    simp only [hv] at k1
    have K1 := Lib.hid k1
    clear k1 hv hln
    go_enter Try.func9, Try.ntmps9
    go_wp2_with (go_at_call 30; refine (K1.out _ h).mono ?_; rintro e w1 ⟨rfl, rfl⟩)
    go_ret
    exact Told.nil (Below.refl _ _)
  · rw [U.cp_yes hv]
    simp only [hv] at k1
    have hn16 : n ≤ 16 := by rw [← hln]; exact (U.vp_of hv).1
    have K1 := Lib.hid k1
    have HV := Lib.hid hv
    have HLN := Lib.hid hln
    clear k1 hv hln
    go_enter Try.func9, Try.ntmps9
    go_wp2_with (go_at_call 30; refine (K1.out _ h).mono ?_; rintro e w1 ⟨rfl, rfl⟩)
    go_loopw [3, 11] (fun t i wr => ∃ (k : Nat) (a' : Option Addr) (c' : Nat), t = .slice a' (U.cls l k).length c' ∧ i = .int .i64 k ∧ k ≤ n ∧ Nums w.heap.size wr a' c' (U.cls l k) ∧ Lst w.heap.size wr a n l ∧ Below w.heap.size w wr) (fun _ i _ => n - (intOf i).toNat)
    case atStart => exact ⟨0, none, 0, rfl, rfl, Nat.zero_le _, Nums.none_ _ _, h, Below.refl _ _⟩
    case round =>
      obtain ⟨k, a', c', rfl, rfl, hk, N, hL, bl⟩ := hrel
      have hcl := U.cls_len l k
      by_cases hlt : k < n
      · obtain ⟨b, off, rfl, hb, hc⟩ := hL.at_ k hlt
        have ck := hc k hlt
        have hr := U.rng HV.out (i := k) (by have := HLN.out; omega)
        have hrx := cls_rng HV.out (k := k) (by have := HLN.out; omega)
        have hyes := U.cls_yes (l := l) (k := k)
        have hno := U.cls_no (l := l) (k := k)
        generalize L.g l k = y at *
        obtain ⟨X, hX⟩ : ∃ X, U.cls l k = X := ⟨_, rfl⟩
        rw [hX] at N hcl hyes hno hrx ⊢
        have HY := Lib.hid hyes
        have HNO := Lib.hid hno
        have hs := bl.size
        have HS := Lib.hid (And.intro hL bl)
        clear hyes hno hc hX hL bl
        have arm : ∀ a2 c2 w2, Nums w.heap.size w2 a2 c2 (U.cls l (k + 1)) → Below w.heap.size (wr.alloc (.cells #[.int .i64 y] 3)) w2 → Nums w.heap.size w2 a2 c2 (U.cls l (k + 1)) ∧ Lst w.heap.size w2 (some ⟨b, off, none⟩) n l ∧ Below w.heap.size w w2 := fun a2 c2 w2 N2 b2 => by
          have bw : Below w.heap.size wr w2 := ((Below.refl w.heap.size wr).alloc hs _).trans b2
          exact ⟨N2, HS.out.1.below bw, HS.out.2.trans bw⟩
        have HA := Lib.hid arm
        have HN := Lib.hid (N.keep ((Below.refl _ _).alloc (Nat.le_refl _) (.cells #[.int .i64 y] 3)))
        clear arm
        rcases Nat.eq_zero_or_pos X.length with h0 | h0
        · obtain rfl : X = [] := List.length_eq_zero_iff.1 h0
          have HX := Lib.hid (HY.out (Or.inl rfl)).symm
          clear N h0 hrx
          go_wp2_with (at_builtin; refine wpList_n rfl _ _ rfl w.heap.size rfl rfl HN.out (Lst.new wr y 3) (by simp) (by simp; omega) (U.cls l (k + 1)) HX.out ?_)
          intro a2 c2 w2 N2 b2 _
          have F := Lib.hid (HA.out a2 c2 w2 N2 b2)
          clear N2 b2 HN
          go_wp2
          go_roundw
          case rel => exact ⟨k + 1, a2, c2, rfl, by go_num, by omega, F.out⟩
          case measure => simp [intOf]; omega
        · obtain ⟨m, hm⟩ : ∃ m, X.length = m + 1 := ⟨X.length - 1, by omega⟩
          have hx := hrx m (by omega)
          have hL1 := N.lst (by omega)
          have had : U.ad X y ↔ U.near (y - L.g X m) := by
            unfold U.ad
            rw [hm, Nat.add_sub_cancel]
            have : X ≠ [] := fun q => by rw [q] at h0; simp at h0
            simp [this]
          obtain ⟨g, off', rfl, hg, hcx⟩ := hL1.at_ m (by omega)
          have cx := hcx m (by omega)
          generalize L.g X m = x at *
          have hlen : X.length = m + 1 := hm
          rw [hm]
          have K2 := Lib.hid (fun w' => apart_impl x y hx hr w')
          have HM := Lib.hid hm
          have HK := Lib.hid N
          have hmk : m < 16 := by omega
          have HB := Lib.hid (show X.length + 1 ≤ 4000000 by omega)
          clear hcx hL1 hrx N hm hlen
          have e0 : ((m : Int) + 1 == 0) = false := by rw [beq_eq_false_iff_ne]; omega
          have e1 : wrap64 (m : Int) = (m : Int) := IntWalk.wrap64_in _ (by omega)
          clear hmk
          by_cases hn : U.near (y - x)
          · have HX := Lib.hid (HY.out (had.2 hn)).symm
            have k3 := fun w' => K2.out w'
            simp only [decide_eq_true hn] at k3
            have K3 := Lib.hid k3
            clear k3 K2 hn had
            go_wp2_with (first | (go_at_call 31; refine (K3.out _).mono ?_; rintro e w' ⟨rfl, rfl⟩) | (at_builtin; refine wpList_n rfl _ _ rfl w.heap.size (by rw [HM.out]; first | done | rfl) rfl HN.out (Lst.new wr y 3) HB.out (by simp; omega) (U.cls l (k + 1)) HX.out ?_))
            intro a2 c2 w2 N2 b2 _
            have F := Lib.hid (HA.out a2 c2 w2 N2 b2)
            clear N2 b2 HN
            go_wp2
            go_roundw
            case rel => exact ⟨k + 1, a2, c2, rfl, by go_num, by omega, F.out⟩
            case measure => simp [intOf]; omega
          · have HX := Lib.hid (HNO.out (fun q => hn (had.1 q)))
            have k3 := fun w' => K2.out w'
            simp only [decide_eq_false hn] at k3
            have K3 := Lib.hid k3
            clear k3 K2 hn had
            go_wp2_with (first | (go_at_call 31; refine (K3.out _).mono ?_; rintro e w' ⟨rfl, rfl⟩))
            go_roundw
            case rel => exact ⟨k + 1, _, c', by rw [HX.out, HM.out]; first | done | rfl, by go_num, by omega, by rw [HX.out]; exact HK.out, HS.out.1, HS.out.2⟩
            case measure => simp [intOf]; omega
      · have hkn : k = l.length := by have := HLN.out; omega
        have T := Lib.hid (show Told w (U.cls l l.length) (.returned (.slice a' (U.cls l k).length c')) wr from ⟨a', c', by rw [hkn], by rw [← hkn]; exact N, bl⟩)
        obtain ⟨X, hX⟩ : ∃ X, U.cls l k = X := ⟨_, rfl⟩
        rw [hX] at T ⊢
        clear N hL bl hkn hX hcl
        go_wp2
        go_ret
        exact T.out
set_option maxHeartbeats 4000000 in
theorem CP_spec (n c : Nat) (a : Option Addr) (l : List Int) (w : World) (h : Lst w.heap.size w a n l) : Calls Try.prog 11 #[.slice a n c] w (Told w (U.cp l)) := by
  have hln := h.1
  have k1 := fun w' (h : Lst w.heap.size w' a n l) => vp_spec w.heap.size n c a l w' h
  rcases hv : U.vp l with _ | _
  · rw [U.cp_no hv]
    simp only [hv] at k1
    have K1 := Lib.hid k1
    clear k1 hv hln
    have hE := (Below.refl w.heap.size w).alloc (Nat.le_refl _) (.cells #[] 3)
    go_enter Try.func11, Try.ntmps11
    go_wp2_with (go_at_call 32; refine (K1.out _ (h.below hE)).mono ?_; rintro e w1 ⟨rfl, q1⟩)
    go_ret
    exact Told.nil (hE.trans q1.below)
  · rw [U.cp_yes hv]
    simp only [hv] at k1
    have hn16 : n ≤ 16 := by rw [← hln]; exact (U.vp_of hv).1
    have K1 := Lib.hid k1
    have HV := Lib.hid hv
    have HLN := Lib.hid hln
    clear k1 hv hln
    have hE := (Below.refl w.heap.size w).alloc (Nat.le_refl _) (.cells #[] 3)
    have O00 := Nums.made w
    go_enter Try.func11, Try.ntmps11
    go_wp2_with (go_at_call 32; refine (K1.out _ (h.below hE)).mono ?_; rintro e w1 ⟨rfl, q1⟩)
    have O01 := O00.same q1
    have b01 := hE.trans q1.below
    have h01 := h.below b01
    clear hE O00 q1
    go_loopw [3, 4] (fun t i wr => ∃ (k : Nat) (a' : Option Addr) (c' : Nat), t = .slice a' (U.cls l k).length c' ∧ i = .int .i64 k ∧ k ≤ n ∧ Nums w.heap.size wr a' c' (U.cls l k) ∧ Lst w.heap.size wr a n l ∧ Below w.heap.size w wr) (fun _ i _ => n - (intOf i).toNat)
    case atStart => exact ⟨0, _, 0, rfl, rfl, Nat.zero_le _, O01, h01, b01⟩
    case round =>
      obtain ⟨k, a', c', rfl, rfl, hk, N, hL, bl⟩ := hrel
      have hcl := U.cls_len l k
      by_cases hlt : k < n
      · obtain ⟨b, off, rfl, hb, hc⟩ := hL.at_ k hlt
        have ck := hc k hlt
        have hlt2 := cls_lt HV.out (k := k) (by have := HLN.out; omega)
        have hr := U.rng HV.out (i := k) (by have := HLN.out; omega)
        have hrx := cls_rng HV.out (k := k) (by have := HLN.out; omega)
        have hyes := U.cls_yes (l := l) (k := k)
        have hno := U.cls_no (l := l) (k := k)
        generalize L.g l k = y at *
        obtain ⟨X, hX⟩ : ∃ X, U.cls l k = X := ⟨_, rfl⟩
        rw [hX] at N hcl hyes hno hrx hlt2 ⊢
        have HY := Lib.hid hyes
        have HNO := Lib.hid hno
        have hs := bl.size
        have HS := Lib.hid (And.intro hL bl)
        clear hyes hno hc hX hL bl
        have arm : ∀ a2 c2 w2, Nums w.heap.size w2 a2 c2 (U.cls l (k + 1)) → (∃ q, Below w.heap.size ((wr.drewN q).alloc (.cells #[.int .i64 y] 3)) w2) → Nums w.heap.size w2 a2 c2 (U.cls l (k + 1)) ∧ Lst w.heap.size w2 (some ⟨b, off, none⟩) n l ∧ Below w.heap.size w w2 := fun a2 c2 w2 N2 ⟨q, b2⟩ => by
          have bw : Below w.heap.size wr w2 := ((below_drewN (Below.refl w.heap.size wr) q).alloc hs _).trans b2
          exact ⟨N2, HS.out.1.below bw, HS.out.2.trans bw⟩
        have HA := Lib.hid arm
        have HN := Lib.hid (fun q => (N.drewN q).keep ((Below.refl _ _).alloc (Nat.le_refl _) (.cells #[.int .i64 y] 3)))
        clear arm
        rcases Nat.eq_zero_or_pos X.length with h0 | h0
        · obtain rfl : X = [] := List.length_eq_zero_iff.1 h0
          have HX := Lib.hid (HY.out (Or.inl rfl)).symm
          clear N h0 hrx hlt2
          go_wp2
          go_quiet (fail)
          go_wp2_with (at_builtin; refine wpList_n rfl _ _ rfl w.heap.size rfl rfl (HN.out _) (Lst.new _ y 3) (by simp) (by simp; omega) (U.cls l (k + 1)) HX.out ?_)
          intro a2 c2 w2 N2 b2 _
          have F := Lib.hid (HA.out a2 c2 w2 N2 ⟨_, b2⟩)
          clear N2 b2 HN
          go_wp2
          go_roundw
          case rel => exact ⟨k + 1, a2, c2, rfl, by go_num, by omega, F.out⟩
          case measure => simp [intOf]; omega
        · obtain ⟨m, hm⟩ : ∃ m, X.length = m + 1 := ⟨X.length - 1, by omega⟩
          have hx := hrx m (by omega)
          have hxy := hlt2 m (by omega)
          have hL1 := N.lst (by omega)
          have had : U.ad X y ↔ U.near (y - L.g X m) := by
            unfold U.ad
            rw [hm, Nat.add_sub_cancel]
            have : X ≠ [] := fun q => by rw [q] at h0; simp at h0
            simp [this]
          obtain ⟨g, off', rfl, hg, hcx⟩ := hL1.at_ m (by omega)
          have cx := hcx m (by omega)
          generalize L.g X m = x at *
          have hlen : X.length = m + 1 := hm
          rw [hm]
          have K2 := Lib.hid (fun w' => near_spec (y - x) (by omega) w')
          have HM := Lib.hid hm
          have HK := Lib.hid N
          have hmk : m < 16 := by omega
          have HB := Lib.hid (show X.length + 1 ≤ 4000000 by omega)
          clear hcx hL1 hrx hlt2 N hm hlen
          have e2 : IntKind.i64.wrap (y - x) = y - x := IntWalk.i64_in _ (by omega)
          have e0 : ((m : Int) + 1 == 0) = false := by rw [beq_eq_false_iff_ne]; omega
          have e1 : wrap64 (m : Int) = (m : Int) := IntWalk.wrap64_in _ (by omega)
          clear hmk
          by_cases hn : U.near (y - x)
          · have HX := Lib.hid (HY.out (had.2 hn)).symm
            have k3 := fun w' => K2.out w'
            simp only [decide_eq_true hn] at k3
            have K3 := Lib.hid k3
            clear k3 K2 hn had
            go_wp2
            go_quiet ((go_at_call 33; exact qsL K3.out))
            go_wp2_with ((at_builtin; refine wpList_n rfl _ _ rfl w.heap.size (by rw [HM.out]; first | done | rfl) rfl (HN.out _) (Lst.new _ y 3) HB.out (by simp; omega) (U.cls l (k + 1)) HX.out ?_))
            intro a2 c2 w2 N2 b2 _
            have F := Lib.hid (HA.out a2 c2 w2 N2 ⟨_, b2⟩)
            clear N2 b2 HN
            go_wp2
            go_roundw
            case rel => exact ⟨k + 1, a2, c2, rfl, by go_num, by omega, F.out⟩
            case measure => simp [intOf]; omega
          · have HX := Lib.hid (HNO.out (fun q => hn (had.1 q)))
            have k3 := fun w' => K2.out w'
            simp only [decide_eq_false hn] at k3
            have K3 := Lib.hid k3
            clear k3 K2 hn had
            go_wp2
            go_quiet ((go_at_call 33; exact qsL K3.out))
            go_wp2
            go_roundw
            case rel => exact ⟨k + 1, _, c', by rw [HX.out, HM.out]; first | done | rfl, by go_num, by omega, by rw [HX.out]; exact HK.out.drewN _, HS.out.1.drewN _, below_drewN HS.out.2 _⟩
            case measure => simp [intOf]; omega
      · have hkn : k = l.length := by have := HLN.out; omega
        have T := Lib.hid (show Told w (U.cls l l.length) (.returned (.slice a' (U.cls l k).length c')) wr from ⟨a', c', by rw [hkn], by rw [← hkn]; exact N, bl⟩)
        obtain ⟨X, hX⟩ : ∃ X, U.cls l k = X := ⟨_, rfl⟩
        rw [hX] at T ⊢
        clear N hL bl hkn hX hcl
        go_wp2
        go_ret
        exact T.out
end Go.Proofs.Ytgbbbmljanlogaa
