/-
  The program's AddSample (chapter 6).
-/
import Derived.Test.YtcbahomohlaakaaRing
namespace Go.Proofs.Ytcbahomohlaakaa
open Go.RowKit
set_option linter.unusedVariables false
set_option maxRecDepth 100000
/-- The places behind k puts of a list. -/
def ra (l : List Q.Sm) (k : Nat) : List Q.Sm := l.take k ++ List.replicate (8 - k) (0, 0, 0)
theorem ra_len {l : List Q.Sm} {k : Nat} (h : k ≤ l.length) (h8 : k ≤ 8) : (ra l k).length = 8 := by simp [ra]; omega
theorem q_getD (l : List Q.Sm) (i : Nat) : (Q.of l i, Q.de l i, Q.tm l i) = l.getD i (0, 0, 0) := rfl
theorem ra_set {l : List Q.Sm} {k : Nat} (h : k < l.length) (h8 : k < 8) : (ra l k).set (k % 8) (Q.of l k, Q.de l k, Q.tm l k) = ra l (k + 1) := by
  rw [Nat.mod_eq_of_lt h8, q_getD]
  unfold ra
  rw [List.set_append, if_neg (by rw [List.length_take]; omega), List.length_take, Nat.min_eq_left (by omega), Nat.sub_self, show 8 - k = (8 - (k + 1)) + 1 by omega, List.replicate_succ, List.set_cons_zero, List.take_succ_eq_append_getElem h, List.getD_eq_getElem?_getD, List.getElem?_eq_getElem h, List.append_assoc]
  rfl
theorem sm_get {A : List Q.Sm} {lo k i : Nat} (h : i < k) : (sm A lo k)[i]? = some (A.getD ((lo + i) % 8) (0, 0, 0)) := by
  unfold sm; rw [List.getElem?_map, List.getElem?_range h]; rfl
theorem sm_al {l : List Q.Sm} {p : Q.Sm} (h8 : l.length ≤ 8) : sm ((ra l l.length).set (l.length % 8) p) (l.length + 1 - 8) (l.length + 1 - (l.length + 1 - 8)) = Q.al l p := by
  have hr : ra l l.length = l ++ List.replicate (8 - l.length) (0, 0, 0) := by unfold ra; rw [List.take_length]
  rcases Nat.lt_or_ge l.length 8 with h | h
  · rw [Q.al_part (by omega), show l.length + 1 - 8 = 0 by omega, Nat.sub_zero, Nat.mod_eq_of_lt h, hr]
    have hs : (l ++ List.replicate (8 - l.length) (0, 0, 0)).set l.length p = l ++ p :: List.replicate (7 - l.length) (0, 0, 0) := by
      rw [List.set_append, if_neg (by omega), Nat.sub_self, show 8 - l.length = (7 - l.length) + 1 by omega, List.replicate_succ, List.set_cons_zero]
    rw [hs]
    refine List.ext_getElem? fun i => ?_
    rcases Nat.lt_or_ge i (l.length + 1) with hi | hi
    · rw [sm_get hi, Nat.zero_add, Nat.mod_eq_of_lt (by omega), List.getD_eq_getElem?_getD]
      rcases Nat.lt_or_ge i l.length with hj | hj
      · rw [List.getElem?_append_left hj, List.getElem?_append_left hj, List.getElem?_eq_getElem hj]; rfl
      · obtain rfl : i = l.length := by omega
        simp
    · rw [List.getElem?_eq_none (by rw [sm_len]; omega), List.getElem?_eq_none (by simp; omega)]
  · have hl : l.length = 8 := by omega
    rw [Q.al_full (by omega), hr, hl]
    refine List.ext_getElem? fun i => ?_
    rcases Nat.lt_or_ge i 8 with hi | hi
    · rw [sm_get (by omega), List.getElem?_drop, List.getD_eq_getElem?_getD, List.getElem?_set]
      simp only [Nat.reduceMod, Nat.reduceSub, Nat.reduceAdd, List.replicate_zero, List.append_nil]
      rcases Nat.lt_or_ge i 7 with hj | hj
      · rw [if_neg (by omega), Nat.mod_eq_of_lt (by omega), List.getElem?_append_left (by omega), List.getElem?_eq_getElem (by omega)]; rfl
      · obtain rfl : i = 7 := by omega
        rw [if_pos (by rfl), if_pos (by omega), show 1 + 7 = l.length by omega]
        simp
    · rw [List.getElem?_eq_none (by rw [sm_len]; omega), List.getElem?_eq_none (by simp; omega)]
theorem Ring.new (w : World) (t : TypeId) : Ring (w.alloc (.cells #[.int .i64 0, .int .i64 0, .int .i64 0, .int .i64 0, .int .i64 0, .int .i64 0, .int .i64 0, .int .i64 0, .int .i64 0, .int .i64 0, .int .i64 0, .int .i64 0, .int .i64 0, .int .i64 0, .int .i64 0, .int .i64 0, .int .i64 0, .int .i64 0, .int .i64 0, .int .i64 0, .int .i64 0, .int .i64 0, .int .i64 0, .int .i64 0, .int .i64 0] t)) w.heap.size (ra [] 0) 0 := by
  refine ⟨rfl, by simp, fun p hp => ?_, fun p hp => ?_, fun p hp => ?_, fun j hj => by simp, by simp⟩
  all_goals
    rcases (by omega : p = 0 ∨ p = 1 ∨ p = 2 ∨ p = 3 ∨ p = 4 ∨ p = 5 ∨ p = 6 ∨ p = 7) with rfl | rfl | rfl | rfl | rfl | rfl | rfl | rfl <;> simp [ra, Q.of, Q.de, Q.tm]
def AdOwn (w : World) (P : List Q.Sm) (e : Ending) (w' : World) : Prop := ∃ a c, e = .returned (.tuple #[.slice a P.length c, .bool true]) ∧ OwQ w.heap.size w' a c P ∧ Below w.heap.size w w'
def AdI (w : World) (P : List Q.Sm) (e : Ending) (w' : World) : Prop := (Q.vq P = true → AdOwn w P e w') ∧ (Q.vq P = false → AdNo w e w')
set_option maxHeartbeats 4000000 in
theorem AI_bad (B n c : Nat) (a : Option Addr) (l : List Q.Sm) (x y z : Int) (w : World) (h : Sms B w a n l) (hB : B ≤ w.heap.size) (h0 : 0 < n) (hv : Q.vq l = false) :
    Calls Try.prog 15 #[.slice a n c, .agg #[.int .i64 x, .int .i64 y, .int .i64 z]] w (AdNo w) := by
  have b1 := (Below.refl w.heap.size w).alloc (Nat.le_refl _) (.cells #[.int .i64 x, .int .i64 y, .int .i64 z] 26)
  have hS := h.below ((Below.refl _ _).alloc hB (.cells #[.int .i64 x, .int .i64 y, .int .i64 z] 26))
  have h0i : (0 : Int) < (n : Int) := by omega
  have k1 := vq_impl B n c a l _ hS (by simp; omega)
  rw [hv] at k1
  have K1 := Lib.hid k1
  clear h h0 hS k1
  go_enter Try.func15, Try.ntmps15
  go_wp2_with fail
  refine K1.out.mono ?_
  rintro e w2 ⟨rfl, b2⟩
  have HB := Lib.hid (b1.trans (b2.mono (by simp)))
  clear b2 b1 K1
  go_wp2
  go_ret2
  exact ⟨rfl, HB.out⟩
set_option maxHeartbeats 16000000 in
theorem AI_ok (B n c : Nat) (a : Option Addr) (l : List Q.Sm) (x y z : Int) (w : World) (h : Sms B w a n l) (hB : B ≤ w.heap.size) (hv : n = 0 ∨ Q.vq l = true) :
    Calls Try.prog 15 #[.slice a n c, .agg #[.int .i64 x, .int .i64 y, .int .i64 z]] w (AdI w (Q.al l (x, y, z))) := by
  have hn8 : n ≤ 8 := by rcases hv with h0 | h0
                         · omega
                         · have := (Q.vq_of h0).1.2; have := h.1; omega
  have b1 := (Below.refl w.heap.size w).alloc (Nat.le_refl _) (.cells #[.int .i64 x, .int .i64 y, .int .i64 z] 26)
  have hS := (h.below ((Below.refl _ _).alloc hB (.cells #[.int .i64 x, .int .i64 y, .int .i64 z] 26))).more (show B ≤ w.heap.size from hB)
  have sE := B3.new w x y z 26
  generalize hEe : w.heap.size = E at sE
  have HE := Lib.hid hEe
  clear h hB
  obtain ⟨W1, hW1⟩ : ∃ W1, w.alloc (.cells #[.int .i64 x, .int .i64 y, .int .i64 z] 26) = W1 := ⟨_, rfl⟩
  rw [hW1] at b1 hS sE
  have HW1 := Lib.hid hW1
  have key : ∀ W2 : World, Below W1.heap.size W1 W2 → True := fun _ _ => trivial
  have HL := Lib.hid hS.1
  have hEW1 : w.heap.size < W1.heap.size := by rw [← HW1.out]; simp
  clear key hEe hW1
  rcases Nat.eq_zero_or_pos n with h0 | h0
  · have h0i : ¬ (0 : Int) < (n : Int) := by omega
    have hWW : w.heap.size ≤ W1.heap.size := by omega
    have blW : Below w.heap.size w W1 := b1
    have hEW := hEW1
    clear hv h0 b1 hEW1
    go_enter Try.func15, Try.ntmps15
    go_wp2_with fail
    rw [HW1.out, HE.out]
    have RG := Ring.new W1 54
    have al : Below W1.heap.size W1 (W1.alloc (.cells #[.int .i64 0, .int .i64 0, .int .i64 0, .int .i64 0, .int .i64 0, .int .i64 0, .int .i64 0, .int .i64 0, .int .i64 0, .int .i64 0, .int .i64 0, .int .i64 0, .int .i64 0, .int .i64 0, .int .i64 0, .int .i64 0, .int .i64 0, .int .i64 0, .int .i64 0, .int .i64 0, .int .i64 0, .int .i64 0, .int .i64 0, .int .i64 0, .int .i64 0] 54)) := (Below.refl _ _).alloc (Nat.le_refl _) _
    have hS := hS.below (al.mono hWW)
    have sE := sE.b al
    have bl := blW.trans (al.mono hWW)
    have hER : w.heap.size < W1.heap.size := hEW
    rw [show ra [] 0 = ra l 0 by simp [ra]] at RG
    clear al blW hWW hEW
    generalize W1.alloc (.cells #[.int .i64 0, .int .i64 0, .int .i64 0, .int .i64 0, .int .i64 0, .int .i64 0, .int .i64 0, .int .i64 0, .int .i64 0, .int .i64 0, .int .i64 0, .int .i64 0, .int .i64 0, .int .i64 0, .int .i64 0, .int .i64 0, .int .i64 0, .int .i64 0, .int .i64 0, .int .i64 0, .int .i64 0, .int .i64 0, .int .i64 0, .int .i64 0, .int .i64 0] 54) = W3 at *
    have eR : W1.heap.size = E + 1 := by rw [← HW1.out, World.size_alloc, HE.out]
    rw [eR] at RG hER
    generalize E + 1 = R at *
    go_loopw [20] (fun i wr => ∃ k : Nat, k ≤ n ∧ i = .int .i64 k ∧ Ring wr R (ra l k) k ∧ Sms w.heap.size wr a n l ∧ B3 wr E x y z ∧ Below w.heap.size w wr) (fun i _ => n - (intOf i).toNat)
    case atStart => exact ⟨0, Nat.zero_le _, rfl, RG, hS, sE, bl⟩
    case round =>
      obtain ⟨k, hk, rfl, RGr, hSr, sEr, blr⟩ := hrel
      clear RG hS sE bl
      by_cases hlt : k < n
      · exfalso; omega
      · obtain rfl : k = n := by omega
        have s0 := sEr.c0
        have s1 := sEr.c1
        have s2 := sEr.c2
        have HB := Lib.hid blr
        clear hSr sEr blr
        go_wp2_with fail
        refine (put_any R k (ra l k) x y z _ RGr (by omega)).mono ?_
        rintro e w5 ⟨⟨v, rfl⟩, RG5, b5⟩
        have bl5 := HB.out.trans (b5.mono (by omega))
        have HSM := Lib.hid (sm_al (l := l) (p := (x, y, z)) (by rw [HL.out]; exact hn8))
        rw [HL.out] at HSM
        clear RGr b5 s0 s1 s2
        go_wp2_with fail
        refine (samples_any R (k + 1) (k + 1 - 8) _ w5 RG5 (by omega) rfl).mono ?_
        rintro e w6 ⟨a6, c6, rfl, O6, b6⟩
        rw [HSM.out] at O6 ⊢
        have bl6 := bl5.trans (b6.mono bl5.size)
        have O6 := O6.more bl5.size
        have hXl : (Q.al l (x, y, z)).length ≤ 9 := by
          rw [← HSM.out, sm_len]; omega
        clear RG5 b6 bl5 HB
        obtain ⟨X, hX⟩ : ∃ X, Q.al l (x, y, z) = X := ⟨_, rfl⟩
        rw [hX] at O6 hXl ⊢
        have hs6 := (O6.sms (by omega)).1
        have k6 := vq_impl w6.heap.size X.length c6 a6 X w6 hs6 (Nat.le_refl _)
        have HF := Lib.hid (And.intro O6 bl6)
        have HXQ := Lib.hid hX
        clear hs6 O6 bl6 hX HSM
        rcases hvX : Q.vq X with _ | _
        · rw [hvX] at k6
          have K6 := Lib.hid k6
          clear k6
          go_wp2_with fail
          refine K6.out.mono ?_
          rintro e w7 ⟨rfl, b7⟩
          have HG := Lib.hid (HF.out.2.trans (b7.mono HF.out.2.size))
          clear b7 K6
          go_wp2
          go_ret2
          exact ⟨fun h => (by rw [HXQ.out, hvX] at h; cases h), fun _ => ⟨rfl, HG.out⟩⟩
        · rw [hvX] at k6
          have K6 := Lib.hid k6
          clear k6
          go_wp2_with fail
          refine K6.out.mono ?_
          rintro e w7 ⟨rfl, b7⟩
          have HG := Lib.hid (And.intro (HF.out.1.keep b7) (HF.out.2.trans (b7.mono HF.out.2.size)))
          clear b7 K6
          go_wp2
          go_ret2
          exact ⟨fun _ => ⟨a6, c6, by rw [HXQ.out]; rfl, by rw [HXQ.out]; exact HG.out.1, HG.out.2⟩, fun h => (by rw [HXQ.out, hvX] at h; cases h)⟩
  · have h0i : (0 : Int) < (n : Int) := by omega
    have hv : Q.vq l = true := hv.elim (fun h1 => by omega) id
    have k1 := vq_impl w.heap.size n c a l W1 hS b1.size
    rw [hv] at k1
    have K1 := Lib.hid k1
    clear k1 hv h0
    go_enter Try.func15, Try.ntmps15
    go_wp2_with fail
    rw [HW1.out, HE.out]
    refine K1.out.mono ?_
    rintro e w2 ⟨rfl, b2⟩
    have hS := hS.below (b2.mono b1.size)
    have sE := sE.b b2
    have blW := b1.trans (b2.mono b1.size)
    have hWW : w.heap.size ≤ w2.heap.size := blW.size
    have hEW : w.heap.size < w2.heap.size := Nat.lt_of_lt_of_le hEW1 b2.size
    clear b1 b2 K1 hEW1
    go_wp2_with fail
    have RG := Ring.new w2 54
    have al : Below w2.heap.size w2 (w2.alloc (.cells #[.int .i64 0, .int .i64 0, .int .i64 0, .int .i64 0, .int .i64 0, .int .i64 0, .int .i64 0, .int .i64 0, .int .i64 0, .int .i64 0, .int .i64 0, .int .i64 0, .int .i64 0, .int .i64 0, .int .i64 0, .int .i64 0, .int .i64 0, .int .i64 0, .int .i64 0, .int .i64 0, .int .i64 0, .int .i64 0, .int .i64 0, .int .i64 0, .int .i64 0] 54)) := (Below.refl _ _).alloc (Nat.le_refl _) _
    have hS := hS.below (al.mono hWW)
    have sE := sE.b al
    have bl := blW.trans (al.mono hWW)
    have hER : w.heap.size < w2.heap.size := hEW
    rw [show ra [] 0 = ra l 0 by simp [ra]] at RG
    clear al blW hWW hEW
    generalize w2.alloc (.cells #[.int .i64 0, .int .i64 0, .int .i64 0, .int .i64 0, .int .i64 0, .int .i64 0, .int .i64 0, .int .i64 0, .int .i64 0, .int .i64 0, .int .i64 0, .int .i64 0, .int .i64 0, .int .i64 0, .int .i64 0, .int .i64 0, .int .i64 0, .int .i64 0, .int .i64 0, .int .i64 0, .int .i64 0, .int .i64 0, .int .i64 0, .int .i64 0, .int .i64 0] 54) = W3 at *
    generalize w2.heap.size = R at *
    go_loopw [20] (fun i wr => ∃ k : Nat, k ≤ n ∧ i = .int .i64 k ∧ Ring wr R (ra l k) k ∧ Sms w.heap.size wr a n l ∧ B3 wr E x y z ∧ Below w.heap.size w wr) (fun i _ => n - (intOf i).toNat)
    case atStart => exact ⟨0, Nat.zero_le _, rfl, RG, hS, sE, bl⟩
    case round =>
      obtain ⟨k, hk, rfl, RGr, hSr, sEr, blr⟩ := hrel
      clear RG hS sE bl
      by_cases hlt : k < n
      · obtain ⟨b, off, rfl, hb, hcl⟩ := hSr.at_ k hlt
        obtain ⟨c0, c1, c2⟩ := hcl k hlt
        have hset := ra_set (l := l) (k := k) (by rw [HL.out]; exact hlt) (by omega)
        generalize Q.of l k = x1 at *
        generalize Q.de l k = y1 at *
        generalize Q.tm l k = z1 at *
        have HS := Lib.hid hset
        have HSr := Lib.hid (And.intro hSr (And.intro sEr blr))
        clear hset hcl hSr sEr
        have RGa := RGr.b ((Below.refl wr.heap.size wr).alloc (Nat.le_refl _) (.cells #[.int .i64 x1, .int .i64 y1, .int .i64 z1] 26)) RGr.lt
        have hsz := blr.size
        clear RGr blr
        go_wp2_with fail
        refine (put_any R k (ra l k) x1 y1 z1 _ RGa (by omega)).mono ?_
        rintro e w5 ⟨⟨v, rfl⟩, RG5, b5⟩
        rw [HS.out] at RG5
        have bw : Below w.heap.size wr w5 := ((Below.refl w.heap.size wr).alloc hsz (.cells #[.int .i64 x1, .int .i64 y1, .int .i64 z1] 26)).trans (b5.mono (by omega))
        have HF := Lib.hid (And.intro RG5 (And.intro (HSr.out.1.below bw) (And.intro ((HSr.out.2.1.al _).bG b5 (by have := HE.out; omega)) (HSr.out.2.2.trans bw))))
        clear RG5 bw b5 RGa c0 c1 c2
        go_wp2
        go_roundw
        case rel => exact ⟨k + 1, by omega, by go_num, HF.out.1, HF.out.2.1, HF.out.2.2.1, HF.out.2.2.2⟩
        case measure => simp [intOf]; omega
      · obtain rfl : k = n := by omega
        have s0 := sEr.c0
        have s1 := sEr.c1
        have s2 := sEr.c2
        have HB := Lib.hid blr
        clear hSr sEr blr
        go_wp2_with fail
        refine (put_any R k (ra l k) x y z _ RGr (by omega)).mono ?_
        rintro e w5 ⟨⟨v, rfl⟩, RG5, b5⟩
        have bl5 := HB.out.trans (b5.mono (by omega))
        have HSM := Lib.hid (sm_al (l := l) (p := (x, y, z)) (by rw [HL.out]; exact hn8))
        rw [HL.out] at HSM
        clear RGr b5 s0 s1 s2
        go_wp2_with fail
        refine (samples_any R (k + 1) (k + 1 - 8) _ w5 RG5 (by omega) rfl).mono ?_
        rintro e w6 ⟨a6, c6, rfl, O6, b6⟩
        rw [HSM.out] at O6 ⊢
        have bl6 := bl5.trans (b6.mono bl5.size)
        have O6 := O6.more bl5.size
        have hXl : (Q.al l (x, y, z)).length ≤ 9 := by
          rw [← HSM.out, sm_len]; omega
        clear RG5 b6 bl5 HB
        obtain ⟨X, hX⟩ : ∃ X, Q.al l (x, y, z) = X := ⟨_, rfl⟩
        rw [hX] at O6 hXl ⊢
        have hs6 := (O6.sms (by omega)).1
        have k6 := vq_impl w6.heap.size X.length c6 a6 X w6 hs6 (Nat.le_refl _)
        have HF := Lib.hid (And.intro O6 bl6)
        have HXQ := Lib.hid hX
        clear hs6 O6 bl6 hX HSM
        rcases hvX : Q.vq X with _ | _
        · rw [hvX] at k6
          have K6 := Lib.hid k6
          clear k6
          go_wp2_with fail
          refine K6.out.mono ?_
          rintro e w7 ⟨rfl, b7⟩
          have HG := Lib.hid (HF.out.2.trans (b7.mono HF.out.2.size))
          clear b7 K6
          go_wp2
          go_ret2
          exact ⟨fun h => (by rw [HXQ.out, hvX] at h; cases h), fun _ => ⟨rfl, HG.out⟩⟩
        · rw [hvX] at k6
          have K6 := Lib.hid k6
          clear k6
          go_wp2_with fail
          refine K6.out.mono ?_
          rintro e w7 ⟨rfl, b7⟩
          have HG := Lib.hid (And.intro (HF.out.1.keep b7) (HF.out.2.trans (b7.mono HF.out.2.size)))
          clear b7 K6
          go_wp2
          go_ret2
          exact ⟨fun _ => ⟨a6, c6, by rw [HXQ.out]; rfl, by rw [HXQ.out]; exact HG.out.1, HG.out.2⟩, fun h => (by rw [HXQ.out, hvX] at h; cases h)⟩
/-- AddSample, at whatever list. -/
def adok (l : List Q.Sm) (p : Q.Sm) : Bool := decide ((l.length = 0 ∨ Q.vq l = true) ∧ Q.vq (Q.al l p) = true)
theorem adok_of {l : List Q.Sm} {p : Q.Sm} (h : adok l p = true) : (l.length = 0 ∨ Q.vq l = true) ∧ Q.vq (Q.al l p) = true := of_decide_eq_true h
def adx (l : List Q.Sm) (p : Q.Sm) : List Q.Sm := if adok l p = true then Q.al l p else []
theorem adx_yes {l : List Q.Sm} {p : Q.Sm} (h : adok l p = true) : adx l p = Q.al l p := if_pos h
theorem adx_no {l : List Q.Sm} {p : Q.Sm} (h : adok l p = false) : adx l p = [] := if_neg (by rw [h]; decide)
theorem adx_len (l : List Q.Sm) (p : Q.Sm) : (adx l p).length ≤ 8 := by
  rcases h : adok l p with _ | _
  · rw [adx_no h]; decide
  · rw [adx_yes h]; exact (Q.vq_of (adok_of h).2).1.2
def AdS (w : World) (X : List Q.Sm) (b : Bool) (e : Ending) (w' : World) : Prop := ∃ a c, e = .returned (.tuple #[.slice a X.length c, .bool b]) ∧ Sms w'.heap.size w' a X.length X ∧ Below w.heap.size w w'
def AdO (w : World) (X : List Q.Sm) (b : Bool) (e : Ending) (w' : World) : Prop := ∃ a c, e = .returned (.tuple #[.slice a X.length c, .bool b]) ∧ OwQ w.heap.size w' a c X ∧ Below w.heap.size w w'
theorem AS_all (n c : Nat) (a : Option Addr) (l : List Q.Sm) (x y z : Int) (w : World) (h : Sms w.heap.size w a n l) :
    Calls Try.prog 21 #[.slice a n c, .agg #[.int .i64 x, .int .i64 y, .int .i64 z]] w (AdS w (adx l (x, y, z)) (adok l (x, y, z))) := by
  have no : adok l (x, y, z) = false → ∀ e w', AdNo w e w' → AdS w (adx l (x, y, z)) (adok l (x, y, z)) e w' := fun hk e w' q => by
    rw [hk, adx_no hk]; exact ⟨none, 0, q.1, ⟨rfl, by simp, .inl rfl⟩, q.2⟩
  by_cases hv : n = 0 ∨ Q.vq l = true
  · have hv' : l.length = 0 ∨ Q.vq l = true := by rw [h.1]; exact hv
    refine (AS_spec _ n c a l x y z w h (Nat.le_refl _) hv).mono fun e w' q => ?_
    rcases hx : Q.vq (Q.al l (x, y, z)) with _ | _
    · exact no (decide_eq_false (fun t => by rw [hx] at t; cases t.2)) e w' (q.2 hx)
    · have hk : adok l (x, y, z) = true := decide_eq_true ⟨hv', hx⟩
      rw [hk, adx_yes hk]
      obtain ⟨a', c', h1, h2, _, _, _, h6⟩ := q.1 hx
      exact ⟨a', c', h1, h2, h6⟩
  · have hf : Q.vq l = false := by
      rcases hq : Q.vq l with _ | _
      · rfl
      · exact absurd (.inr hq) hv
    have hnk : adok l (x, y, z) = false := decide_eq_false (fun t => by
      rcases t.1 with t | t
      · rw [h.1] at t; exact hv (.inl t)
      · rw [hf] at t; cases t)
    exact (AS_spec_bad _ n c a l x y z w h (Nat.le_refl _) (by omega) hf).mono fun e w' q => no hnk e w' q
theorem AI_all (n c : Nat) (a : Option Addr) (l : List Q.Sm) (x y z : Int) (w : World) (h : Sms w.heap.size w a n l) :
    Calls Try.prog 15 #[.slice a n c, .agg #[.int .i64 x, .int .i64 y, .int .i64 z]] w (AdO w (adx l (x, y, z)) (adok l (x, y, z))) := by
  have no : adok l (x, y, z) = false → ∀ e w', AdNo w e w' → AdO w (adx l (x, y, z)) (adok l (x, y, z)) e w' := fun hk e w' q => by
    rw [hk, adx_no hk]; exact ⟨none, 0, q.1, OwQ.nil _ _, q.2⟩
  by_cases hv : n = 0 ∨ Q.vq l = true
  · have hv' : l.length = 0 ∨ Q.vq l = true := by rw [h.1]; exact hv
    refine (AI_ok _ n c a l x y z w h (Nat.le_refl _) hv).mono fun e w' q => ?_
    rcases hx : Q.vq (Q.al l (x, y, z)) with _ | _
    · exact no (decide_eq_false (fun t => by rw [hx] at t; cases t.2)) e w' (q.2 hx)
    · have hk : adok l (x, y, z) = true := decide_eq_true ⟨hv', hx⟩
      rw [hk, adx_yes hk]
      exact q.1 hx
  · have hf : Q.vq l = false := by
      rcases hq : Q.vq l with _ | _
      · rfl
      · exact absurd (.inr hq) hv
    have hnk : adok l (x, y, z) = false := decide_eq_false (fun t => by
      rcases t.1 with t | t
      · rw [h.1] at t; exact hv (.inl t)
      · rw [hf] at t; cases t)
    exact (AI_bad _ n c a l x y z w h (Nat.le_refl _) (by omega) hf).mono fun e w' q => no hnk e w' q
end Go.Proofs.Ytcbahomohlaakaa
