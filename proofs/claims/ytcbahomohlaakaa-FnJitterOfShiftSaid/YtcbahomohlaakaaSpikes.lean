/-
  Samples without those that are far away (chapter 6): the program's function and the model's.
-/
import Derived.Test.YtcbahomohlaakaaMedian
import Derived.Test.YtcbahomohlaakaaOwnQ
namespace Go.Proofs.Ytcbahomohlaakaa
open Go.RowKit
set_option linter.unusedVariables false
set_option maxRecDepth 100000
theorem q_fst (l : List Q.Sm) (i : Nat) : (Q.of l i, Q.de l i, Q.tm l i) = l.getD i (0, 0, 0) := rfl
theorem of_mem {l : List Q.Sm} (h : Q.vq l = true) {p : Q.Sm} (hp : p ∈ l) : -1000000 ≤ p.1 ∧ p.1 ≤ 1000000 := by
  obtain ⟨i, hi, rfl⟩ := List.mem_iff_getElem.1 hp
  have := ((Q.vq_of h).2 i hi).1.1
  have e : Q.of l i = (l[i]).1 := by unfold Q.of; rw [List.getD_eq_getElem?_getD, List.getElem?_eq_getElem hi]; rfl
  rw [e] at this
  exact this
theorem med_in {l : List Q.Sm} (h : Q.vq l = true) : -1000000 ≤ med l ∧ med l ≤ 1000000 := by
  rw [med_yes h]
  have h1 := (Q.vq_of h).1
  have hl : (srt (offs l)).length = l.length := by rw [srt_len, offs_len]
  have hi : (l.length - 1) / 2 < (srt (offs l)).length := by omega
  have hm : L.g (srt (offs l)) ((l.length - 1) / 2) ∈ srt (offs l) := by
    unfold L.g; rw [List.getD_eq_getElem?_getD, List.getElem?_eq_getElem hi]; exact List.getElem_mem hi
  have hm2 := (srt_perm (offs l)).mem_iff.1 hm
  obtain ⟨p, hp, hpe⟩ := List.mem_map.1 hm2
  rw [← hpe]
  exact of_mem h hp
theorem jit_in {l : List Q.Sm} (h : Q.vq l = true) : 0 ≤ Q.jit l ∧ Q.jit l ≤ 2000000 := by
  have h1 := Q.vq_of h
  have hb := (h1.2 _ (Q.best_lt (l := l) (by omega))).1.1
  have hs := Q.sumTo_bd (l := l) hb l.length (fun i hi => (h1.2 i hi).1.1)
  unfold Q.jit
  generalize Q.sumTo l (Q.of l (Q.best l)) l.length = S at *
  refine ⟨Int.ediv_nonneg hs.1 (by omega), ?_⟩
  exact Int.le_of_lt_add_one (Int.ediv_lt_of_lt_mul (by omega) (by have : (1 : Int) ≤ (l.length : Int) := by omega
                                                                   rw [Int.add_mul]; omega))
/-- The samples among the first k that are near enough. -/
def kp (M F : Int) (p : Q.Sm) : Bool := decide (Q.abs (p.1 - M) ≤ F)
def wk (M F : Int) (l : List Q.Sm) (k : Nat) : List Q.Sm := (l.take k).filter (kp M F)
theorem wk_zero (M F : Int) (l : List Q.Sm) : wk M F l 0 = [] := rfl
theorem wk_hit {M F : Int} {l : List Q.Sm} {k : Nat} (hk : k < l.length) (h : Q.abs (Q.of l k - M) ≤ F) : wk M F l k ++ [(Q.of l k, Q.de l k, Q.tm l k)] = wk M F l (k + 1) := by
  unfold wk
  rw [List.take_succ_eq_append_getElem hk, List.filter_append, q_fst, List.getD_eq_getElem?_getD, List.getElem?_eq_getElem hk]
  have e : Q.of l k = (l[k]).1 := by unfold Q.of; rw [List.getD_eq_getElem?_getD, List.getElem?_eq_getElem hk]; rfl
  rw [e] at h
  rw [List.filter_cons, if_pos (by exact decide_eq_true h)]; rfl
theorem wk_miss {M F : Int} {l : List Q.Sm} {k : Nat} (hk : k < l.length) (h : ¬ Q.abs (Q.of l k - M) ≤ F) : wk M F l (k + 1) = wk M F l k := by
  unfold wk
  rw [List.take_succ_eq_append_getElem hk, List.filter_append]
  have e : Q.of l k = (l[k]).1 := by unfold Q.of; rw [List.getD_eq_getElem?_getD, List.getElem?_eq_getElem hk]; rfl
  rw [e] at h
  rw [List.filter_cons, if_neg (by simpa [kp] using h)]; simp
theorem wk_len (M F : Int) (l : List Q.Sm) (k : Nat) : (wk M F l k).length ≤ k := by
  unfold wk; exact Nat.le_trans (List.length_filter_le _ _) (List.length_take_le _ _)
def wok (l : List Q.Sm) (s : Int) : Bool := decide (Q.vq l = true ∧ 0 ≤ s ∧ s ≤ 1000000)
theorem wok_of {l : List Q.Sm} {s : Int} (h : wok l s = true) : Q.vq l = true ∧ 0 ≤ s ∧ s ≤ 1000000 := of_decide_eq_true h
theorem wok_yes {l : List Q.Sm} {s : Int} (h : Q.vq l = true ∧ 0 ≤ s ∧ s ≤ 1000000) : wok l s = true := decide_eq_true h
def ws (l : List Q.Sm) (s : Int) : List Q.Sm := if wok l s = true then wk (med l) (3 * Q.jit l + s) l l.length else []
theorem ws_yes {l : List Q.Sm} {s : Int} (h : wok l s = true) : ws l s = wk (med l) (3 * Q.jit l + s) l l.length := if_pos h
theorem ws_no {l : List Q.Sm} {s : Int} (h : wok l s = false) : ws l s = [] := if_neg (by rw [h]; decide)
theorem ws_len (l : List Q.Sm) (s : Int) : (ws l s).length ≤ 8 := by
  rcases h : wok l s with _ | _
  · rw [ws_no h]; decide
  · rw [ws_yes h]
    have := wk_len (med l) (3 * Q.jit l + s) l l.length
    have := (Q.vq_of (wok_of h).1).1.2
    omega
def SpRes (w : World) (X : List Q.Sm) (e : Ending) (w' : World) : Prop := ∃ a c, e = .returned (.slice a X.length c) ∧ OwQ w.heap.size w' a c X ∧ Below w.heap.size w w'
set_option maxHeartbeats 8000000 in
theorem WS_impl (n c : Nat) (a : Option Addr) (l : List Q.Sm) (s : Int) (w : World) (h : Sms w.heap.size w a n l) : Calls Try.prog 25 #[.slice a n c, .int .i64 s] w (SpRes w (ws l s)) := by
  have hln := h.1
  rcases hv : Q.vq l with _ | _
  · have hw : wok l s = false := decide_eq_false (fun q => by rw [hv] at q; cases q.1)
    rw [ws_no hw]
    have k1 := vq_impl _ n c a l w h (Nat.le_refl _)
    rw [hv] at k1
    have K1 := Lib.hid k1
    clear k1 hw hln h hv
    go_enter Try.func25, Try.ntmps25
    go_wp2_with fail
    refine K1.out.mono ?_
    rintro e w2 ⟨rfl, b2⟩
    have HB := Lib.hid b2
    clear b2 K1
    go_wp2
    go_ret
    exact ⟨none, 0, rfl, OwQ.nil _ _, HB.out⟩
  rcases inR_cases s 0 1000000 with ⟨s0, s1⟩ | ⟨s0, s1⟩
  · have hw : wok l s = true := wok_yes ⟨hv, s1⟩
    rw [ws_yes hw]
    have hM := med_in hv
    have hJ := jit_in hv
    have hl8 := (Q.vq_of hv).1.2
    have k1 := vq_impl _ n c a l w h (Nat.le_refl _)
    rw [hv] at k1
    have K1 := Lib.hid k1
    have K2 := Lib.hid (fun w' (h : Sms w'.heap.size w' a n l) => MD_impl _ n c a l w' h (Nat.le_refl _))
    have k3 := fun w' (h : Sms w'.heap.size w' a n l) => JF_impl _ n c a l w' h (Nat.le_refl _)
    simp only [Q.jf_yes hv] at k3
    have K3 := Lib.hid k3
    have k4 := fun w' => inR_impl s 0 1000000 w'
    simp only [s0] at k4
    have K4 := Lib.hid k4
    have hbd : ∀ i, i < l.length → -1000000 ≤ Q.of l i ∧ Q.of l i ≤ 1000000 := fun i hi => ((Q.vq_of hv).2 i hi).1.1
    have HBD := Lib.hid hbd
    have HLN := Lib.hid hln
    generalize med l = M at *
    generalize Q.jit l = J at *
    obtain ⟨F, hF⟩ : ∃ F, 3 * J + s = F := ⟨_, rfl⟩
    have HF := Lib.hid hF
    have e1 : IntKind.i64.wrap (3 * J) = 3 * J := IntWalk.i64_in _ (by omega)
    have hn8 : n ≤ 8 := by omega
    clear k1 k3 k4 hw hv s0 hbd hln hl8
    go_enter Try.func25, Try.ntmps25
    go_wp2_with fail
    refine K1.out.mono ?_
    rintro e w2 ⟨rfl, b2⟩
    have h2 := (h.below b2).more b2.size
    have hW := h
    clear h K1
    go_wp2_with (go_at_call 46; refine (K4.out _).mono ?_; rintro e w' ⟨rfl, rfl⟩)
    refine (K2.out _ h2).mono ?_
    rintro e w3 ⟨rfl, b3⟩
    have h3 := (h2.below b3).more b3.size
    have bl3 := b2.trans (b3.mono b2.size)
    clear h2 b3 b2 K2
    go_wp2_with fail
    refine (K3.out _ h3).mono ?_
    rintro e w4 ⟨rfl, b4⟩
    have h4 := (h3.below b4).more b4.size
    have bl4 := bl3.trans (b4.mono bl3.size)
    clear h3 b4 bl3 K3
    have O0 := OwQ.nil w.heap.size w4
    have hW4 := hW.below bl4
    go_wp2_with fail
    rw [hF]
    clear hF e1
    go_loopw [7, 27] (fun o i wr => ∃ (k : Nat) (a' : Option Addr) (c' : Nat), o = .slice a' (wk M F l k).length c' ∧ i = .int .i64 k ∧ k ≤ n ∧ OwQ w.heap.size wr a' c' (wk M F l k) ∧ Sms w.heap.size wr a n l ∧ Below w.heap.size w wr) (fun _ i _ => n - (intOf i).toNat)
    case atStart => exact ⟨0, none, 0, rfl, rfl, Nat.zero_le _, O0, hW4, bl4⟩
    case round =>
      obtain ⟨k, a', c', rfl, rfl, hk, O, hS, bl⟩ := hrel
      clear O0 h4 bl4 hW4 hW
      by_cases hlt : k < n
      · obtain ⟨b, off, rfl, hb, hcl⟩ := hS.at_ k hlt
        obtain ⟨c0, c1, c2⟩ := hcl k hlt
        have hx := HBD.out k (by have := HLN.out; omega)
        have hwl := wk_len M F l k
        have hhit := wk_hit (M := M) (F := F) (l := l) (k := k) (by have := HLN.out; omega)
        have hmiss := wk_miss (M := M) (F := F) (l := l) (k := k) (by have := HLN.out; omega)
        have kd := fun w' => dist_impl (Q.of l k) M (by omega) (by omega) w'
        generalize Q.abs (Q.of l k - M) = D at *
        generalize Q.of l k = x at *
        generalize Q.de l k = y at *
        generalize Q.tm l k = z at *
        have KD := Lib.hid kd
        have HH := Lib.hid hhit
        have HM := Lib.hid hmiss
        obtain ⟨X, hX⟩ : ∃ X, wk M F l k = X := ⟨_, rfl⟩
        rw [hX] at O hwl HH HM ⊢
        have hs := bl.size
        have HS := Lib.hid (And.intro hS bl)
        clear kd hhit hmiss hcl hX hS bl
        by_cases hD : D ≤ F
        · have HXX := Lib.hid (HH.out hD)
          have O1 := (O.keep ((Below.refl _ _).alloc (Nat.le_refl _) (.cells #[.int .i64 x, .int .i64 y, .int .i64 z] 26)))
          have O2 := (O1.keep ((Below.refl _ _).alloc (Nat.le_refl _) (.cells #[.int .i64 x, .int .i64 y, .int .i64 z] 26)))
          have HO := Lib.hid O2
          clear O1 O2 O
          go_wp2_with (first | (go_at_call 40; refine (KD.out _).mono ?_; rintro e w' ⟨rfl, rfl⟩) | (at_builtin; refine wpList_q rfl _ _ rfl w.heap.size rfl rfl HO.out (by have := Sms.one (B3.new (wr.alloc (.cells #[.int .i64 x, .int .i64 y, .int .i64 z] 26)) x y z 26); simp only [World.size_alloc] at this; exact this) (by omega) (by simp; omega) (wk M F l (k + 1)) HXX.out ?_))
          intro a5 c5 w5 O5 b5 _
          have bw : Below w.heap.size wr w5 := ((((Below.refl w.heap.size wr).alloc hs (.cells #[.int .i64 x, .int .i64 y, .int .i64 z] 26)).alloc (by simp; omega) (.cells #[.int .i64 x, .int .i64 y, .int .i64 z] 26))).trans b5
          have HF5 := Lib.hid (And.intro O5 (And.intro (HS.out.1.below bw) (HS.out.2.trans bw)))
          clear O5 b5 bw HO
          go_wp2
          go_roundw
          case rel => exact ⟨k + 1, a5, c5, rfl, by go_num, by omega, HF5.out.1, HF5.out.2.1, HF5.out.2.2⟩
          case measure => simp [intOf]; omega
        · have HXX := Lib.hid (HM.out hD)
          have b5 := (Below.refl wr.heap.size wr).alloc (Nat.le_refl _) (.cells #[.int .i64 x, .int .i64 y, .int .i64 z] 26)
          have HF5 := Lib.hid (And.intro (O.keep b5) (And.intro (HS.out.1.below (b5.mono hs)) (HS.out.2.trans (b5.mono hs))))
          clear O b5
          go_wp2_with (first | (go_at_call 40; refine (KD.out _).mono ?_; rintro e w' ⟨rfl, rfl⟩))
          go_roundw
          case rel => exact ⟨k + 1, a', c', by rw [HXX.out], by go_num, by omega, by rw [HXX.out]; exact HF5.out.1, HF5.out.2.1, HF5.out.2.2⟩
          case measure => simp [intOf]; omega
      · have hkn : k = l.length := by have := HLN.out; omega
        have T := Lib.hid (show SpRes w (wk M F l l.length) (.returned (.slice a' (wk M F l k).length c')) wr from ⟨a', c', by rw [hkn], by rw [← hkn]; exact O, bl⟩)
        obtain ⟨X, hX⟩ : ∃ X, wk M F l k = X := ⟨_, rfl⟩
        rw [hX] at T ⊢
        clear O hS bl hkn hX
        go_wp2
        go_ret
        have t := T.out
        rw [← HF.out] at t
        exact t
  · have hw : wok l s = false := decide_eq_false (fun q => s1 q.2)
    rw [ws_no hw]
    have k1 := vq_impl _ n c a l w h (Nat.le_refl _)
    rw [hv] at k1
    have K1 := Lib.hid k1
    have k4 := fun w' => inR_impl s 0 1000000 w'
    simp only [s0] at k4
    have K4 := Lib.hid k4
    clear k1 k4 hw hln h hv s0 s1
    go_enter Try.func25, Try.ntmps25
    go_wp2_with fail
    refine K1.out.mono ?_
    rintro e w2 ⟨rfl, b2⟩
    have HB := Lib.hid b2
    clear b2 K1
    go_wp2_with (go_at_call 46; refine (K4.out _).mono ?_; rintro e w' ⟨rfl, rfl⟩)
    go_ret
    exact ⟨none, 0, rfl, OwQ.nil _ _, HB.out⟩
set_option maxHeartbeats 8000000 in
theorem WS_spec (n c : Nat) (a : Option Addr) (l : List Q.Sm) (s : Int) (w : World) (h : Sms w.heap.size w a n l) : Calls Try.prog 26 #[.slice a n c, .int .i64 s] w (SpRes w (ws l s)) := by
  have hln := h.1
  rcases hv : Q.vq l with _ | _
  · have hw : wok l s = false := decide_eq_false (fun q => by rw [hv] at q; cases q.1)
    rw [ws_no hw]
    have hE := (Below.refl w.heap.size w).alloc (Nat.le_refl _) (.cells #[] 26)
    have O00 := OwQ.made w
    have k1 := vq_spec w.heap.size n c a l _ (h.below hE)
    rw [hv] at k1
    have K1 := Lib.hid k1
    clear k1 hw hln hv
    go_enter Try.func26, Try.ntmps26
    go_wp2_with fail
    refine K1.out.mono ?_
    rintro e w2 ⟨rfl, q2⟩
    have HB := Lib.hid (hE.trans q2.below)
    clear q2 K1 hE O00
    go_wp2
    go_ret
    exact ⟨none, 0, rfl, OwQ.nil _ _, HB.out⟩
  rcases inR_cases s 0 1000000 with ⟨s0, s1⟩ | ⟨s0, s1⟩
  · have hw : wok l s = true := wok_yes ⟨hv, s1⟩
    rw [ws_yes hw]
    have hM := med_in hv
    have hJ := jit_in hv
    have hl8 := (Q.vq_of hv).1.2
    have hE := (Below.refl w.heap.size w).alloc (Nat.le_refl _) (.cells #[] 26)
    have O00 := OwQ.made w
    have k1 := vq_spec w.heap.size n c a l _ (h.below hE)
    rw [hv] at k1
    have K1 := Lib.hid k1
    have K2 := Lib.hid (fun w' (h : Sms w'.heap.size w' a n l) => MD_spec _ n c a l w' h (Nat.le_refl _))
    have k3 := fun w' (h : Sms w'.heap.size w' a n l) => JF_spec _ n c a l w' h
    simp only [Q.jf_yes hv] at k3
    have K3 := Lib.hid k3
    have k4 := fun w' => inR_spec s 0 1000000 w'
    simp only [s0] at k4
    have K4 := Lib.hid k4
    have hbd : ∀ i, i < l.length → -1000000 ≤ Q.of l i ∧ Q.of l i ≤ 1000000 := fun i hi => ((Q.vq_of hv).2 i hi).1.1
    have HBD := Lib.hid hbd
    have HLN := Lib.hid hln
    generalize med l = M at *
    generalize Q.jit l = J at *
    obtain ⟨F, hF⟩ : ∃ F, 3 * J + s = F := ⟨_, rfl⟩
    have HF := Lib.hid hF
    have e1 : IntKind.i64.wrap (3 * J) = 3 * J := IntWalk.i64_in _ (by omega)
    have hn8 : n ≤ 8 := by omega
    clear k1 k3 k4 hw hv s0 hbd hln hl8
    go_enter Try.func26, Try.ntmps26
    go_wp2_with fail
    refine K1.out.mono ?_
    rintro e w2 ⟨rfl, q2⟩
    have b2 := hE.trans (q2.below (B := w.heap.size))
    have h2 := (h.below b2).more b2.size
    have hW := h
    have O02 := O00.keep q2.below
    clear h K1 hE O00 q2
    go_wp2_with (go_at_call 47; refine (K4.out _).mono ?_; rintro e w' ⟨rfl, rfl⟩)
    refine (K2.out _ h2).mono ?_
    rintro e w3 ⟨rfl, b3⟩
    have h3 := (h2.below b3).more b3.size
    have bl3 := b2.trans (b3.mono b2.size)
    have O03 := O02.keep b3
    clear h2 b3 b2 K2 O02
    go_wp2_with fail
    refine (K3.out _ h3).mono ?_
    rintro e w4 ⟨rfl, q4⟩
    have bl4 := bel_same bl3 q4
    have O0 := O03.keep q4.below
    clear h3 q4 bl3 K3 O03
    have hW4 := hW.below bl4
    go_wp2_with fail
    rw [hF]
    clear hF e1
    go_loopw [5, 8] (fun o i wr => ∃ (k : Nat) (a' : Option Addr) (c' : Nat), o = .slice a' (wk M F l k).length c' ∧ i = .int .i64 k ∧ k ≤ n ∧ OwQ w.heap.size wr a' c' (wk M F l k) ∧ Sms w.heap.size wr a n l ∧ Below w.heap.size w wr) (fun _ i _ => n - (intOf i).toNat)
    case atStart => exact ⟨0, _, 0, rfl, rfl, Nat.zero_le _, O0, hW4, bl4⟩
    case round =>
      obtain ⟨k, a', c', rfl, rfl, hk, O, hS, bl⟩ := hrel
      clear O0 bl4 hW4 hW
      by_cases hlt : k < n
      · obtain ⟨b, off, rfl, hb, hcl⟩ := hS.at_ k hlt
        obtain ⟨c0, c1, c2⟩ := hcl k hlt
        have hx := HBD.out k (by have := HLN.out; omega)
        have hwl := wk_len M F l k
        have hhit := wk_hit (M := M) (F := F) (l := l) (k := k) (by have := HLN.out; omega)
        have hmiss := wk_miss (M := M) (F := F) (l := l) (k := k) (by have := HLN.out; omega)
        have kd := fun w' => size_spec (Q.of l k - M) (by omega) w'
        generalize Q.abs (Q.of l k - M) = D at *
        generalize Q.of l k = x at *
        generalize Q.de l k = y at *
        generalize Q.tm l k = z at *
        have KD := Lib.hid kd
        have HH := Lib.hid hhit
        have HM := Lib.hid hmiss
        obtain ⟨X, hX⟩ : ∃ X, wk M F l k = X := ⟨_, rfl⟩
        rw [hX] at O hwl HH HM ⊢
        have hs := bl.size
        have HS := Lib.hid (And.intro hS bl)
        clear kd hhit hmiss hcl hX hS bl
        by_cases hD : D ≤ F
        · have HXX := Lib.hid (HH.out hD)
          have HO := Lib.hid (O.keep ((Below.refl _ _).alloc (Nat.le_refl _) (.cells #[.int .i64 x, .int .i64 y, .int .i64 z] 26)))
          clear O
          go_wp2_with (first | (go_at_call 41; refine (KD.out _).mono ?_; rintro e w' ⟨rfl, rfl⟩) | (at_builtin; refine wpList_q rfl _ _ rfl w.heap.size rfl rfl HO.out (Sms.one (B3.new wr x y z 26)) (by omega) (by simp; omega) (wk M F l (k + 1)) HXX.out ?_))
          intro a5 c5 w5 O5 b5 _
          have bw : Below w.heap.size wr w5 := ((Below.refl w.heap.size wr).alloc hs (.cells #[.int .i64 x, .int .i64 y, .int .i64 z] 26)).trans b5
          have HF5 := Lib.hid (And.intro O5 (And.intro (HS.out.1.below bw) (HS.out.2.trans bw)))
          clear O5 b5 bw HO
          go_wp2
          go_roundw
          case rel => exact ⟨k + 1, a5, c5, rfl, by go_num, by omega, HF5.out.1, HF5.out.2.1, HF5.out.2.2⟩
          case measure => simp [intOf]; omega
        · have HXX := Lib.hid (HM.out hD)
          have HF5 := Lib.hid (And.intro O (And.intro HS.out.1 HS.out.2))
          clear O
          go_wp2_with (first | (go_at_call 41; refine (KD.out _).mono ?_; rintro e w' ⟨rfl, rfl⟩))
          go_roundw
          case rel => exact ⟨k + 1, a', c', by rw [HXX.out], by go_num, by omega, by rw [HXX.out]; exact HF5.out.1, HF5.out.2.1, HF5.out.2.2⟩
          case measure => simp [intOf]; omega
      · have hkn : k = l.length := by have := HLN.out; omega
        have T := Lib.hid (show SpRes w (wk M F l l.length) (.returned (.slice a' (wk M F l k).length c')) wr from ⟨a', c', by rw [hkn], by rw [← hkn]; exact O, bl⟩)
        obtain ⟨X, hX⟩ : ∃ X, wk M F l k = X := ⟨_, rfl⟩
        rw [hX] at T ⊢
        clear O hS bl hkn hX
        go_wp2
        go_ret
        have t := T.out
        rw [← HF.out] at t
        exact t
  · have hw : wok l s = false := decide_eq_false (fun q => s1 q.2)
    rw [ws_no hw]
    have hE := (Below.refl w.heap.size w).alloc (Nat.le_refl _) (.cells #[] 26)
    have O00 := OwQ.made w
    have k1 := vq_spec w.heap.size n c a l _ (h.below hE)
    rw [hv] at k1
    have K1 := Lib.hid k1
    have k4 := fun w' => inR_spec s 0 1000000 w'
    simp only [s0] at k4
    have K4 := Lib.hid k4
    clear k1 k4 hw hln hv s0 s1
    go_enter Try.func26, Try.ntmps26
    go_wp2_with fail
    refine K1.out.mono ?_
    rintro e w2 ⟨rfl, q2⟩
    have HB := Lib.hid (hE.trans q2.below)
    clear q2 K1 hE O00
    go_wp2_with (go_at_call 47; refine (K4.out _).mono ?_; rintro e w' ⟨rfl, rfl⟩)
    go_ret
    exact ⟨none, 0, rfl, OwQ.nil _ _, HB.out⟩
end Go.Proofs.Ytcbahomohlaakaa
