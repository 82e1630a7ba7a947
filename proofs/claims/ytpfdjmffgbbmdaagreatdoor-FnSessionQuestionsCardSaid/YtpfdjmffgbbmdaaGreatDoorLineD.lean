/-
  Sessions (chapter 17): a line, at the model's desk.
-/
import Derived.Test.YtpfdjmffgbbmdaaGreatDoorAskD
import Derived.Test.YtpfdjmffgbbmdaaGreatDoorReadF
import Derived.Test.YtpfdjmffgbbmdaaGreatDoorWord
namespace Go.Proofs.YtpfdjmffgbbmdaaGreatDoor
open Go.RowKit
set_option linter.unusedVariables false
set_option maxRecDepth 100000
theorem sp_one (c : UInt8) : ∀ (l acc a : List UInt8), X.sp c l acc = [a] → a = acc ++ l
  | [], acc, a, h => by
    injection h with h
    rw [← h]; simp
  | b :: t, acc, a, h => by
    by_cases e : b = c
    · subst e
      rw [X.sp_yes] at h
      injection h with _ h
      have := (X.sp_len b t []).1
      rw [h] at this; simp at this
    · rw [X.sp_no e] at h
      rw [sp_one c t (acc ++ [b]) a h]; simp
theorem dig2_to (z : Int) (h0 : 0 ≤ z) (h1 : z ≤ 99) (w : World) : Calls Tryz.prog 55 #[.int .i64 z, .int .i64 2] w fun e w' => e = .returned (.string (S.mk (X.d2 z.toNat))) ∧ Below w.heap.size w w' := by
  refine (dig2_spec z h0 h1 w).mono ?_
  rintro e w' ⟨t, rfl, _, ht, hb⟩
  exact ⟨by rw [ht.out], hb⟩
/-- The line's first byte is no dollar. -/
structure Nod (l : List UInt8) : Prop where
  p : 0 < (S.mk l).size
  n : (((S.at_ (S.mk l) 0 : Nat) : Int) == 36) = false
theorem Nod.of {l : List UInt8} (h : l.head? ≠ some 36) (h0 : l ≠ []) : Nod l := by
  rcases l with _ | ⟨b, t⟩
  · exact absurd rfl h0
  · refine ⟨by rw [S.size_mk]; simp, ?_⟩
    rw [beq_eq_false_iff_ne]
    intro e
    have e2 : S.at_ (S.mk (b :: t)) 0 = b.toNat := by unfold S.at_; rw [S.lst_mk]; rfl
    rw [e2] at e
    apply h
    have : b.toNat = 36 := by omega
    rw [List.head?_cons]
    congr 1
    exact UInt8.toNat_inj.1 this
/-- The words of a line lie in memory. -/
theorem words_spec (l : List UInt8) (hl : l.length ≤ 1048576) (w : World) (L : List (List UInt8)) (hL : X.sp 32 l [] = L) (a : List UInt8) (r : List (List UInt8)) (hLr : L = a :: r) : Calls Tryz.prog 48 #[.string (S.mk l), .int .u8 32] w fun e w' => ∃ g c, e = .returned (.slice (some ⟨g, 0, none⟩) L.length c) ∧ w'.cell? ⟨g, 0, none⟩ = some (.string (S.mk a)) ∧ (∀ b t, r = b :: t → w'.cell? ⟨g, 1, none⟩ = some (.string (S.mk b))) ∧ Below w.heap.size w w' := by
  refine (sp_spec 32 l hl w).mono ?_
  rintro e w' ⟨a0, n, rfl, hT, hb⟩
  unfold prt at hT ⊢
  rw [hL] at hT ⊢
  subst hLr
  obtain ⟨g, x, rfl, _, _, hx, hc⟩ := hT.at_ 0 (by simp)
  refine ⟨g, n, by simp, ?_, fun b t e => ?_, hb⟩
  · rw [hc]; simp at hx; rw [← hx]
  · subst e
    obtain ⟨g', x', e', _, _, hx', hc'⟩ := hT.at_ 1 (by simp)
    injection e' with e'; injection e' with e'
    subst e'
    rw [hc']; simp at hx'; rw [← hx']
theorem tl_is {a k : List UInt8} (h : a = k) : (S.mk a).toList = (S.mk k).toList := by rw [h]
theorem tl_ne {a k : List UInt8} (h : a ≠ k) : ¬ (S.mk a).toList = (S.mk k).toList := fun e => by
  have e2 := S.toList_beq (S.mk a) (S.mk k)
  rw [beq_iff_eq.2 e] at e2
  have e3 := of_decide_eq_true e2.symm
  exact h (by rw [← S.lst_mk a, e3, S.lst_mk])
theorem kw_list : (S.mk Z.kWait).toList = [119, 97, 105, 116] := by rw [Go.ByteArray.toList_eq]; rfl
theorem ka_list : (S.mk Z.kAsk).toList = [97, 115, 107] := by rw [Go.ByteArray.toList_eq]; rfl
theorem kl_list : (S.mk Z.kLevel).toList = [108, 101, 118, 101, 108] := by rw [Go.ByteArray.toList_eq]; rfl
theorem kd_list : (S.mk Z.kDate).toList = [100, 97, 116, 101] := by rw [Go.ByteArray.toList_eq]; rfl
set_option maxHeartbeats 4000000 in
theorem line_what (b : Nat) (q : Z.Q) (l : List UInt8) (hl : l.length ≤ 1048576) (w : World) (h : Dks w b q) (h36 : Nod l) (a : List UInt8) (r : List (List UInt8)) (hL : X.sp 32 l [] = a :: r) (h2 : (a ≠ Z.kWait ∧ a ≠ Z.kAsk) ∨ (a :: r).length ≠ 2) (h3 : l ≠ Z.kLevel) (h4 : l ≠ Z.kDate) : Calls Tryz.prog 27 #[.pointer (some ⟨b, 0, none⟩), .string (S.mk l)] w (Did Dks w b (q, Z.wWhat)) := by
  have HW := Lib.hid (words_spec l hl w _ hL a r rfl)
  have p := h36.p
  have hat := S.at_get (S.mk l) 0
  have gn := h36.n
  have n0 : 0 < (a :: r).length := by simp
  have t3 := tl_ne h3
  have t4 := tl_ne h4
  rw [kl_list] at t3
  rw [kd_list] at t4
  have u3 : ((S.mk l).toList == [108, 101, 118, 101, 108]) = false := beq_eq_false_iff_ne.2 t3
  have u4 : ((S.mk l).toList == [100, 97, 116, 101]) = false := beq_eq_false_iff_ne.2 t4
  have HQ := Lib.hid h2
  generalize (a :: r).length = n at *
  clear h36 hL h2 h3 h4
  have fin : ∀ (g1 : (S.mk a).toList = [119, 97, 105, 116] → ((n : Int) == 2) = false) (g2 : (S.mk a).toList = [97, 115, 107] → ((n : Int) == 2) = false), Calls Tryz.prog 27 #[.pointer (some ⟨b, 0, none⟩), .string (S.mk l)] w (Did Dks w b (q, Z.wWhat)) := by
    intro g1 g2
    have G1 := Lib.hid g1
    have G2 := Lib.hid g2
    clear g1 g2
    by_cases e1 : (S.mk a).toList = [119, 97, 105, 116]
    · have g := G1.out e1
      have e2 : ¬ (S.mk a).toList = [97, 115, 107] := by rw [e1]; decide
      go_enter Tryz.func27, Tryz.ntmps27
      go_wp2_with fail
      refine HW.out.mono ?_
      rintro e w1 ⟨g, c, rfl, c0, -, hb⟩
      have HF := Lib.hid (Did.quietD (l := Z.wWhat) h hb)
      clear hb h
      go_wp2
      go_ret
      exact HF.out
    by_cases e2 : (S.mk a).toList = [97, 115, 107]
    · have g := G2.out e2
      go_enter Tryz.func27, Tryz.ntmps27
      go_wp2_with fail
      refine HW.out.mono ?_
      rintro e w1 ⟨g, c, rfl, c0, -, hb⟩
      have HF := Lib.hid (Did.quietD (l := Z.wWhat) h hb)
      clear hb h
      go_wp2
      go_ret
      exact HF.out
    · go_enter Tryz.func27, Tryz.ntmps27
      go_wp2_with fail
      refine HW.out.mono ?_
      rintro e w1 ⟨g, c, rfl, c0, -, hb⟩
      have HF := Lib.hid (Did.quietD (l := Z.wWhat) h hb)
      clear hb h
      go_wp2
      go_ret
      exact HF.out
  refine fin (fun e => ?_) (fun e => ?_)
  · rw [beq_eq_false_iff_ne]
    rcases HQ.out with k | k
    · exact absurd e (by rw [← kw_list]; exact tl_ne k.1)
    · omega
  · rw [beq_eq_false_iff_ne]
    rcases HQ.out with k | k
    · exact absurd e (by rw [← ka_list]; exact tl_ne k.2)
    · omega
set_option maxHeartbeats 4000000 in
theorem line_empty (b : Nat) (q : Z.Q) (w : World) (h : Dks w b q) : Calls Tryz.prog 27 #[.pointer (some ⟨b, 0, none⟩), .string (S.mk [])] w (Did Dks w b (q, Z.wWhat)) := by
  have HW := Lib.hid (words_spec [] (by simp) w _ rfl [] [] rfl)
  have p : ¬ 0 < (S.mk []).size := by rw [S.size_mk]; simp
  have e1 := tl_ne (a := []) (k := Z.kWait) (by decide)
  have e2 := tl_ne (a := []) (k := Z.kAsk) (by decide)
  have t3 := tl_ne (a := []) (k := Z.kLevel) (by decide)
  have t4 := tl_ne (a := []) (k := Z.kDate) (by decide)
  rw [kw_list] at e1
  rw [ka_list] at e2
  rw [kl_list] at t3
  rw [kd_list] at t4
  have u3 : ((S.mk []).toList == [108, 101, 118, 101, 108]) = false := beq_eq_false_iff_ne.2 t3
  have u4 : ((S.mk []).toList == [100, 97, 116, 101]) = false := beq_eq_false_iff_ne.2 t4
  generalize S.mk [] = x at *
  have n0 : 0 < (X.sp 32 [] []).length := by decide
  generalize (X.sp 32 [] []).length = n at *
  go_enter Tryz.func27, Tryz.ntmps27
  go_wp2_with fail
  refine HW.out.mono ?_
  rintro e w1 ⟨g, c, rfl, c0, c1, hb⟩
  have HF := Lib.hid (Did.quietD (l := Z.wWhat) h hb)
  clear hb h c1
  go_wp2
  go_ret
  exact HF.out
theorem dol_of {l : List UInt8} (h : l.head? = some 36) : 0 < (S.mk l).size ∧ (((S.at_ (S.mk l) 0 : Nat) : Int) == 36) = true := by
  rcases l with _ | ⟨b, t⟩
  · cases h
  · rw [List.head?_cons] at h
    injection h with h
    subst h
    refine ⟨by rw [S.size_mk]; simp, ?_⟩
    have e2 : S.at_ (S.mk (36 :: t)) 0 = 36 := by unfold S.at_; rw [S.lst_mk]; rfl
    rw [e2]; rfl
set_option maxHeartbeats 4000000 in
theorem line_fix (b : Nat) (q : Z.Q) (l : List UInt8) (hl : l.length ≤ 1048576) (w : World) (h : Dks w b q) (hq : Z.Ok q) (h36 : l.head? = some 36) : Calls Tryz.prog 27 #[.pointer (some ⟨b, 0, none⟩), .string (S.mk l)] w (Did Dks w b (Z.fixA q (S.mk l))) := by
  obtain ⟨a, r, hL⟩ : ∃ a r, X.sp 32 l [] = a :: r := by
    rcases hL : X.sp 32 l [] with _ | ⟨a, r⟩
    · have := (X.sp_len 32 l []).1; rw [hL] at this; simp at this
    · exact ⟨a, r, rfl⟩
  have HW := Lib.hid (words_spec l hl w _ hL a r rfl)
  obtain ⟨p, gn⟩ := dol_of h36
  have hat := S.at_get (S.mk l) 0
  generalize (a :: r).length = n at *
  have HX := Lib.hid (fun w' (hb : Below w.heap.size w w') => fix_spec b q (S.mk l) (by rw [S.size_mk]; omega) w' (h.b hb) hq)
  generalize Z.fixA q (S.mk l) = R at *
  generalize S.mk l = x at *
  clear h36 hL h hq
  go_enter Tryz.func27, Tryz.ntmps27
  go_wp2_with fail
  refine HW.out.mono ?_
  rintro e w1 ⟨g, c, rfl, c0, c1, hb⟩
  have HB := Lib.hid hb
  clear c0 c1
  go_wp2_with fail
  refine (HX.out _ hb).mono ?_
  clear hb
  rintro e w2 ⟨rfl, hs, hg⟩
  have HF := Lib.hid (And.intro hs (gb_trans (gb_below (some b) HB.out) hg))
  clear hs hg
  go_wp2
  go_ret
  exact ⟨rfl, HF.out⟩
set_option maxHeartbeats 4000000 in
theorem line_wait (b : Nat) (q : Z.Q) (l : List UInt8) (hl : l.length ≤ 1048576) (w : World) (h : Dks w b q) (hq : Z.Ok q) (h36 : Nod l) (a a2 : List UInt8) (hL : X.sp 32 l [] = [a, a2]) (ha : a = Z.kWait) (ha2 : a2.length ≤ 1048576) : Calls Tryz.prog 27 #[.pointer (some ⟨b, 0, none⟩), .string (S.mk l)] w (Did Dks w b (Z.waitA q (X.wn a2))) := by
  have HW := Lib.hid (words_spec l hl w _ hL a [a2] rfl)
  have p := h36.p
  have hat := S.at_get (S.mk l) 0
  have gn := h36.n
  have e1 : (S.mk a).toList = [119, 97, 105, 116] := (tl_is ha).trans kw_list
  have HX := Lib.hid (fun w' (hb : Below w.heap.size w w') => wait_spec b q (X.wn a2) w' (h.b hb) hq (by have := X.wn_bd a2; omega))
  have HP := Lib.hid (fun w' => pi_spec a2 ha2 w')
  generalize Z.waitA q (X.wn a2) = R at *
  generalize X.wn a2 = z at *
  generalize S.mk l = x at *
  clear h36 hL h hq ha
  simp only [List.length_cons, List.length_nil] at HW
  go_enter Tryz.func27, Tryz.ntmps27
  go_wp2_with fail
  refine HW.out.mono ?_
  rintro e w1 ⟨g, c, rfl, c0, c1, hb⟩
  have c1 := c1 _ _ rfl
  have HB := Lib.hid hb
  clear hb
  go_wp2_with fail
  refine (HP.out _).mono ?_
  rintro e w2 ⟨rfl, hb2⟩
  have HB2 := Lib.hid (HB.out.trans (hb2.mono HB.out.size))
  clear hb2
  go_wp2_with fail
  refine (HX.out _ HB2.out).mono ?_
  rintro e w3 ⟨rfl, hs, hg⟩
  have HF := Lib.hid (And.intro hs (gb_trans (gb_below (some b) HB2.out) hg))
  clear hs hg
  go_wp2
  go_ret
  exact ⟨rfl, HF.out⟩
set_option maxHeartbeats 4000000 in
theorem line_ask (b : Nat) (q : Z.Q) (l : List UInt8) (hl : l.length ≤ 1048576) (w : World) (h : Dks w b q) (hq : Z.Ok q) (h36 : Nod l) (a a2 : List UInt8) (hL : X.sp 32 l [] = [a, a2]) (ha : a = Z.kAsk) (ha2 : a2.length ≤ 1048576) : Calls Tryz.prog 27 #[.pointer (some ⟨b, 0, none⟩), .string (S.mk l)] w (Did Dks w b (Z.askA q (X.wn a2))) := by
  have HW := Lib.hid (words_spec l hl w _ hL a [a2] rfl)
  have p := h36.p
  have hat := S.at_get (S.mk l) 0
  have gn := h36.n
  have e1 : ¬ (S.mk a).toList = [119, 97, 105, 116] := by rw [← kw_list]; exact tl_ne (by rw [ha]; decide)
  have e2 : (S.mk a).toList = [97, 115, 107] := (tl_is ha).trans ka_list
  have HX := Lib.hid (fun w' (hb : Below w.heap.size w w') => ask_spec b q (X.wn a2) w' (h.b hb) hq (wfC (by have := X.wn_bd a2; omega)))
  have HP := Lib.hid (fun w' => pi_spec a2 ha2 w')
  generalize Z.askA q (X.wn a2) = R at *
  generalize X.wn a2 = z at *
  generalize S.mk l = x at *
  clear h36 hL h hq ha
  simp only [List.length_cons, List.length_nil] at HW
  go_enter Tryz.func27, Tryz.ntmps27
  go_wp2_with fail
  refine HW.out.mono ?_
  rintro e w1 ⟨g, c, rfl, c0, c1, hb⟩
  have c1 := c1 _ _ rfl
  have HB := Lib.hid hb
  clear hb
  go_wp2_with fail
  refine (HP.out _).mono ?_
  rintro e w2 ⟨rfl, hb2⟩
  have HB2 := Lib.hid (HB.out.trans (hb2.mono HB.out.size))
  clear hb2
  go_wp2_with fail
  refine (HX.out _ HB2.out).mono ?_
  rintro e w3 ⟨rfl, hs, hg⟩
  have HF := Lib.hid (And.intro hs (gb_trans (gb_below (some b) HB2.out) hg))
  clear hs hg
  go_wp2
  go_ret
  exact ⟨rfl, HF.out⟩
set_option maxHeartbeats 4000000 in
theorem line_level (b : Nat) (q : Z.Q) (w : World) (h : Dks w b q) (hq : Z.Ok q) : Calls Tryz.prog 27 #[.pointer (some ⟨b, 0, none⟩), .string (S.mk Z.kLevel)] w (Did Dks w b (q, Z.levelA q)) := by
  have HW := Lib.hid (words_spec Z.kLevel (by decide) w [Z.kLevel] (by decide) Z.kLevel [] rfl)
  have h36 : Nod Z.kLevel := Nod.of (by decide) (by decide)
  have p := h36.p
  have hat := S.at_get (S.mk Z.kLevel) 0
  have gn := h36.n
  have e1 : ¬ (S.mk Z.kLevel).toList = [119, 97, 105, 116] := by rw [← kw_list]; exact tl_ne (by decide)
  have e2 : ¬ (S.mk Z.kLevel).toList = [97, 115, 107] := by rw [← ka_list]; exact tl_ne (by decide)
  have t3 := kl_list
  have u3 : ((S.mk Z.kLevel).toList == [108, 101, 118, 101, 108]) = true := beq_iff_eq.2 kl_list
  generalize S.mk Z.kLevel = x at *
  have hl := H.lv_bd q.e 10 q.s q.t
  rw [← H.la_yes hq.ok] at hl
  have HH := Lib.hid h
  have LA := fun w' => LA_spec q.e 10 q.s q.t w'
  obtain ⟨R, hR⟩ : ∃ R, Z.levelA q = R := ⟨_, rfl⟩
  rw [hR]
  have HR := Lib.hid (show R = Lib.decDigits (H.la q.e 10 q.s q.t).toNat from hR.symm)
  clear hR
  obtain ⟨t, l, e, s⟩ := q
  simp only at *
  generalize H.la e 10 s t = la at *
  have HLA := Lib.hid LA
  have HI := Lib.hid (fun w' => dec_to la hl.1 (by omega) w')
  clear h36 LA hl hq
  simp only [List.length_cons, List.length_nil] at HW
  go_enter Tryz.func27, Tryz.ntmps27
  go_wp2_with fail
  refine HW.out.mono ?_
  rintro e w1 ⟨g, c, rfl, c0, c1, hb⟩
  have h1 := HH.out.b hb
  obtain ⟨a', c', hS, -⟩ := id h1
  have HB := Lib.hid hb
  have H1 := Lib.hid h1
  obtain ⟨x2, x3, x4, x0, -, -, l1⟩ := hS
  clear hb c1 h1 h
  go_wp2_with fail
  refine wp_region_held_drew (S := (fun w' => Below w1.heap.size w1 w' ∧ b < w'.heap.size ∧ w'.cell? ⟨b, 3, none⟩ = some (.int .i64 t) ∧ w'.cell? ⟨b, 0, none⟩ = some (.int .i64 e) ∧ w'.cell? ⟨b, 1, none⟩ = some (.int .i64 10) ∧ w'.cell? ⟨b, 2, none⟩ = some (.int .i64 s))) (by kernel_rfl) (⟨(Below.refl _ _).drew, by simpa using l1, by simpa using x0, by simpa using x2, by simpa using x3, by simpa using x4⟩) (fun hHeld => ?_)
  refine wpAnyH_take (i := 0) (v := ?_) rfl (by kernel_rfl) (by kernel_rfl) (by kernel_rfl) (fun _ _ _ h => h) (Or.inl ⟨by rfl, ?_⟩) (by assumption) ?_
  rotate_left
  · intro w hSw
    (try dsimp only at hSw)
    go_simp
    all_goals with_reducible rfl
  try simp only [Act.put, List.setIfInBounds_toArray, List.set_cons_zero, List.set_cons_succ, List.getElem_toArray, List.getElem_cons_zero]
  refine wpAnyH_take (i := 1) (v := ?_) rfl (by kernel_rfl) (by kernel_rfl) (by kernel_rfl) (fun _ _ _ h => h) (Or.inl ⟨by rfl, ?_⟩) (by assumption) ?_
  rotate_left
  · intro w hSw
    (try dsimp only at hSw)
    go_simp
    all_goals with_reducible rfl
  try simp only [Act.put, List.setIfInBounds_toArray, List.set_cons_zero, List.set_cons_succ, List.getElem_toArray, List.getElem_cons_zero, List.getElem_cons_succ]
  refine wpAnyH_take (i := 2) (v := ?_) rfl (by kernel_rfl) (by kernel_rfl) (by kernel_rfl) (fun _ _ _ h => h) (Or.inl ⟨by rfl, ?_⟩) (by assumption) ?_
  rotate_left
  · intro w hSw
    (try dsimp only at hSw)
    go_simp
    all_goals with_reducible rfl
  try simp only [Act.put, List.setIfInBounds_toArray, List.set_cons_zero, List.set_cons_succ, List.getElem_toArray, List.getElem_cons_zero, List.getElem_cons_succ]
  refine wpAnyH_take (i := 3) (v := ?_) rfl (by kernel_rfl) (by kernel_rfl) (by kernel_rfl) (fun _ _ _ h => h) (Or.inl ⟨by rfl, ?_⟩) (by assumption) ?_
  rotate_left
  · intro w hSw
    (try dsimp only at hSw)
    go_simp
    all_goals with_reducible rfl
  try simp only [Act.put, List.setIfInBounds_toArray, List.set_cons_zero, List.set_cons_succ, List.getElem_toArray, List.getElem_cons_zero, List.getElem_cons_succ]
  refine wpAnyH_take (i := 4) (v := ?_) rfl (by kernel_rfl) (by kernel_rfl) (by kernel_rfl) (fun _ _ _ h => h) (Or.inl ⟨by rfl, ?_⟩) (by assumption) ?_
  rotate_left
  · intro w hSw
    (try dsimp only at hSw)
    go_simp
    all_goals with_reducible rfl
  try simp only [Act.put, List.setIfInBounds_toArray, List.set_cons_zero, List.set_cons_succ, List.getElem_toArray, List.getElem_cons_zero, List.getElem_cons_succ]
  refine wpAnyH_take (i := 5) (v := ?_) rfl (by kernel_rfl) (by kernel_rfl) (by kernel_rfl) (fun _ _ _ h => h) (Or.inl ⟨by rfl, ?_⟩) (by assumption) ?_
  rotate_left
  · intro w hSw
    (try dsimp only at hSw)
    go_simp
    all_goals with_reducible rfl
  try simp only [Act.put, List.setIfInBounds_toArray, List.set_cons_zero, List.set_cons_succ, List.getElem_toArray, List.getElem_cons_zero, List.getElem_cons_succ]
  refine wpAnyH_take (i := 6) (v := ?_) rfl (by kernel_rfl) (by kernel_rfl) (by kernel_rfl) (fun _ _ _ h => h) (Or.inl ⟨by rfl, ?_⟩) (by assumption) ?_
  rotate_left
  · intro w hSw
    (try dsimp only at hSw)
    go_simp
    all_goals with_reducible rfl
  try simp only [Act.put, List.setIfInBounds_toArray, List.set_cons_zero, List.set_cons_succ, List.getElem_toArray, List.getElem_cons_zero, List.getElem_cons_succ]
  refine wpAnyH_take (i := 7) (v := ?_) rfl (by kernel_rfl) (by kernel_rfl) (by kernel_rfl) (fun _ _ _ h => h) (Or.inl ⟨by rfl, ?_⟩) (by assumption) ?_
  rotate_left
  · intro w hSw
    (try dsimp only at hSw)
    go_simp
    all_goals with_reducible rfl
  try simp only [Act.put, List.setIfInBounds_toArray, List.set_cons_zero, List.set_cons_succ, List.getElem_toArray, List.getElem_cons_zero, List.getElem_cons_succ]
  refine wpAnyH_ready (rs := [8]) (by kernel_rfl) (by simp) ?_
  refine AllReadyH.cons rfl (fun K hK => ?_) AllReadyH.nil
  go_simp
  (go_at_call 54; refine (HLA.out _).mono ?_; rintro e w4 ⟨rfl, hb⟩)
  refine hK.out _ _ (keepDs hb (by assumption)) (fun hHeld => ?_)
  clear hK K
  try simp only [Act.put, List.setIfInBounds_toArray, List.set_cons_zero, List.set_cons_succ, List.getElem_toArray, List.getElem_cons_zero, List.getElem_cons_succ]
  refine wpAnyH_ready (rs := [9]) (by kernel_rfl) (by simp) ?_
  refine AllReadyH.cons rfl (fun K hK => ?_) AllReadyH.nil
  go_simp
  (go_at_call 53; refine (HI.out _).mono ?_; rintro e w5 ⟨rfl, hb⟩)
  refine hK.out _ _ (keepDs hb (by assumption)) (fun hHeld => ?_)
  clear hK K
  try simp only [Act.put, List.setIfInBounds_toArray, List.set_cons_zero, List.set_cons_succ, List.getElem_toArray, List.getElem_cons_zero, List.getElem_cons_succ]
  refine wpAnyH_take (i := 10) (v := ?_) rfl (by kernel_rfl) (by kernel_rfl) (by kernel_rfl) (fun _ _ _ h => h) (Or.inl ⟨by rfl, ?_⟩) (by assumption) ?_
  rotate_left
  · intro w hSw
    (try dsimp only at hSw)
    go_simp
    all_goals with_reducible rfl
  try simp only [Act.put, List.setIfInBounds_toArray, List.set_cons_zero, List.set_cons_succ, List.getElem_toArray, List.getElem_cons_zero, List.getElem_cons_succ]
  refine wpAnyH_done (by kernel_rfl) ?_ _
  go_wp2
  go_ret
  rw [HR.out]
  exact Did.quietD HH.out (HB.out.trans (hHeld.1.mono HB.out.size))
theorem keepDD {w w1 w2 : World} {D : Nat} {y m d : Int} (hb : Below w1.heap.size w1 w2) (h : Below w.heap.size w w1 ∧ D < w1.heap.size ∧ w1.cell? ⟨D, 0, none⟩ = some (.int .i64 y) ∧ w1.cell? ⟨D, 1, none⟩ = some (.int .i64 m) ∧ w1.cell? ⟨D, 2, none⟩ = some (.int .i64 d)) : Below w.heap.size w w2 ∧ D < w2.heap.size ∧ w2.cell? ⟨D, 0, none⟩ = some (.int .i64 y) ∧ w2.cell? ⟨D, 1, none⟩ = some (.int .i64 m) ∧ w2.cell? ⟨D, 2, none⟩ = some (.int .i64 d) :=
  ⟨h.1.trans (hb.mono h.1.size), Nat.lt_of_lt_of_le h.2.1 hb.size, (hb.cell (p := ⟨D, 0, none⟩) h.2.1).trans h.2.2.1, (hb.cell (p := ⟨D, 1, none⟩) h.2.1).trans h.2.2.2.1, (hb.cell (p := ⟨D, 2, none⟩) h.2.1).trans h.2.2.2.2⟩
set_option maxHeartbeats 8000000 in
theorem line_date (b : Nat) (q : Z.Q) (w : World) (h : Dks w b q) (hq : Z.Ok q) : Calls Tryz.prog 27 #[.pointer (some ⟨b, 0, none⟩), .string (S.mk Z.kDate)] w (Did Dks w b (q, Z.dateA q)) := by
  have HW := Lib.hid (words_spec Z.kDate (by decide) w [Z.kDate] (by decide) Z.kDate [] rfl)
  have h36 : Nod Z.kDate := Nod.of (by decide) (by decide)
  have p := h36.p
  have hat := S.at_get (S.mk Z.kDate) 0
  have gn := h36.n
  have e1 : ¬ (S.mk Z.kDate).toList = [119, 97, 105, 116] := by rw [← kw_list]; exact tl_ne (by decide)
  have e2 : ¬ (S.mk Z.kDate).toList = [97, 115, 107] := by rw [← ka_list]; exact tl_ne (by decide)
  have t4 := kd_list
  have u4 : ((S.mk Z.kDate).toList == [100, 97, 116, 101]) = true := beq_iff_eq.2 kd_list
  have t3 : ¬ (S.mk Z.kDate).toList = [108, 101, 118, 101, 108] := by rw [← kl_list]; exact tl_ne (by decide)
  have u3 : ((S.mk Z.kDate).toList == [108, 101, 118, 101, 108]) = false := beq_eq_false_iff_ne.2 t3
  generalize S.mk Z.kDate = x at *
  have HH := Lib.hid h
  have hk : X.fok q.t 4 = true := X.fok_mk ⟨hq.t0, hq.t1⟩ (by omega)
  obtain ⟨k0, f1, f2, f3, -, -⟩ := X.f_seen hk (show (0 : Int) ≤ 0 ∧ (0 : Int) ≤ 32 by omega)
  have hv := X.f_vf_iff q.t 0
  rw [k0] at hv
  obtain ⟨hvd, -, -⟩ := X.vf_of hv
  obtain ⟨b1, b2, b3⟩ := X.vld_bd hvd
  have F := fun w' => fx_spec q.t 0 w'
  obtain ⟨R, hR⟩ : ∃ R, Z.dateA q = R := ⟨_, rfl⟩
  rw [hR]
  have hR2 : R = Lib.decDigits (X.fy q.t 0).toNat ++ [45] ++ X.d2 (X.fm q.t 0).toNat ++ [45] ++ X.d2 (X.fd q.t 0).toNat := by rw [f1, f2, f3]; exact hR.symm
  clear hR f1 f2 f3 hk k0 hv hvd
  obtain ⟨t, l, e, s⟩ := q
  simp only at *
  generalize X.fy t 0 = y at *
  generalize X.fm t 0 = m at *
  generalize X.fd t 0 = d at *
  generalize X.fs t 0 = u at *
  generalize X.fn t 0 = v at *
  have HR := Lib.hid hR2
  have HF := Lib.hid F
  have H0 := Lib.hid (fun w' => dec_to y (by omega) (by omega) w')
  have H1 := Lib.hid (fun w' => dig2_to m (by omega) (by omega) w')
  have H2 := Lib.hid (fun w' => dig2_to d (by omega) (by omega) w')
  have n0 : (S.mk (Lib.decDigits y.toNat)).size ≤ 4 := by rw [S.size_mk]; exact X.dec_lenk 3 _ (by omega)
  have n1 : (S.mk (X.d2 m.toNat)).size = 2 := by rw [S.size_mk]; rfl
  have n2 : (S.mk (X.d2 d.toNat)).size = 2 := by rw [S.size_mk]; rfl
  have HE := Lib.hid (date_app (Lib.decDigits y.toNat) (X.d2 m.toNat) (X.d2 d.toNat))
  generalize S.mk (Lib.decDigits y.toNat) = p0 at *
  generalize S.mk (X.d2 m.toNat) = p1 at *
  generalize S.mk (X.d2 d.toNat) = p2 at *
  have z1 : ({ data := #[45] } : ByteArray).size = 1 := rfl
  have n3 : (p0 ++ { data := #[45] }).size ≤ 5 := by rw [size_app, z1]; omega
  have n4 : (p0 ++ { data := #[45] } ++ p1).size ≤ 7 := by rw [size_app]; omega
  have n5 : (p0 ++ { data := #[45] } ++ p1 ++ { data := #[45] }).size ≤ 8 := by rw [size_app, z1]; omega
  clear h36 F hR2 hq b1 b2 b3
  simp only [List.length_cons, List.length_nil] at HW
  go_enter Tryz.func27, Tryz.ntmps27
  go_wp2_with fail
  refine HW.out.mono ?_
  rintro e w1 ⟨g, c, rfl, c0, c1, hb⟩
  have h1 := HH.out.b hb
  obtain ⟨a', c', hS, -⟩ := id h1
  have HB := Lib.hid hb
  obtain ⟨-, -, -, x0, -, -, l1⟩ := hS
  clear hb c1 h1 h
  go_wp2_with fail
  refine (HF.out _).mono ?_
  rintro r w2 ⟨rfl, hb⟩
  have g2 : Below w.heap.size w (w2.alloc (.cells #[.int .i64 y, .int .i64 m, .int .i64 d, .int .i64 u, .int .i64 v] 31)) := (HB.out.trans (hb.mono HB.out.size)).alloc (Nat.le_trans HB.out.size hb.size) _
  clear hb x0 c0
  have e0 : (w2.alloc (.cells #[.int .i64 y, .int .i64 m, .int .i64 d, .int .i64 u, .int .i64 v] 31)).cell? ⟨w2.heap.size, 0, none⟩ = some (.int .i64 y) := by simp
  have e1 : (w2.alloc (.cells #[.int .i64 y, .int .i64 m, .int .i64 d, .int .i64 u, .int .i64 v] 31)).cell? ⟨w2.heap.size, 1, none⟩ = some (.int .i64 m) := by simp
  have e2 : (w2.alloc (.cells #[.int .i64 y, .int .i64 m, .int .i64 d, .int .i64 u, .int .i64 v] 31)).cell? ⟨w2.heap.size, 2, none⟩ = some (.int .i64 d) := by simp
  have el : w2.heap.size < (w2.alloc (.cells #[.int .i64 y, .int .i64 m, .int .i64 d, .int .i64 u, .int .i64 v] 31)).heap.size := by simp
  go_wp2_with fail
  generalize w2.alloc (.cells #[.int .i64 y, .int .i64 m, .int .i64 d, .int .i64 u, .int .i64 v] 31) = W at *
  generalize w2.heap.size = D at *
  refine wp_region_held_drew (S := (fun w' => Below w.heap.size w w' ∧ D < w'.heap.size ∧ w'.cell? ⟨D, 0, none⟩ = some (.int .i64 y) ∧ w'.cell? ⟨D, 1, none⟩ = some (.int .i64 m) ∧ w'.cell? ⟨D, 2, none⟩ = some (.int .i64 d))) (by kernel_rfl) (⟨g2.drew, by simpa using el, by simpa using e0, by simpa using e1, by simpa using e2⟩) (fun hHeld => ?_)
  refine wpAnyH_take (i := 0) (v := ?_) rfl (by kernel_rfl) (by kernel_rfl) (by kernel_rfl) (fun _ _ _ h => h) (Or.inl ⟨by rfl, ?_⟩) (by assumption) ?_
  rotate_left
  · intro w hSw
    (try dsimp only at hSw)
    go_simp
    all_goals with_reducible rfl
  try simp only [Act.put, List.setIfInBounds_toArray, List.set_cons_zero, List.set_cons_succ, List.getElem_toArray, List.getElem_cons_zero]
  refine wpAnyH_take (i := 1) (v := ?_) rfl (by kernel_rfl) (by kernel_rfl) (by kernel_rfl) (fun _ _ _ h => h) (Or.inl ⟨by rfl, ?_⟩) (by assumption) ?_
  rotate_left
  · intro w hSw
    (try dsimp only at hSw)
    go_simp
    all_goals with_reducible rfl
  try simp only [Act.put, List.setIfInBounds_toArray, List.set_cons_zero, List.set_cons_succ, List.getElem_toArray, List.getElem_cons_zero, List.getElem_cons_succ]
  refine wpAnyH_take (i := 2) (v := ?_) rfl (by kernel_rfl) (by kernel_rfl) (by kernel_rfl) (fun _ _ _ h => h) (Or.inl ⟨by rfl, ?_⟩) (by assumption) ?_
  rotate_left
  · intro w hSw
    (try dsimp only at hSw)
    go_simp
    all_goals with_reducible rfl
  try simp only [Act.put, List.setIfInBounds_toArray, List.set_cons_zero, List.set_cons_succ, List.getElem_toArray, List.getElem_cons_zero, List.getElem_cons_succ]
  refine wpAnyH_take (i := 5) (v := ?_) rfl (by kernel_rfl) (by kernel_rfl) (by kernel_rfl) (fun _ _ _ h => h) (Or.inl ⟨by rfl, ?_⟩) (by assumption) ?_
  rotate_left
  · intro w hSw
    (try dsimp only at hSw)
    go_simp
    all_goals with_reducible rfl
  try simp only [Act.put, List.setIfInBounds_toArray, List.set_cons_zero, List.set_cons_succ, List.getElem_toArray, List.getElem_cons_zero, List.getElem_cons_succ]
  refine wpAnyH_take (i := 6) (v := ?_) rfl (by kernel_rfl) (by kernel_rfl) (by kernel_rfl) (fun _ _ _ h => h) (Or.inl ⟨by rfl, ?_⟩) (by assumption) ?_
  rotate_left
  · intro w hSw
    (try dsimp only at hSw)
    go_simp
    all_goals with_reducible rfl
  try simp only [Act.put, List.setIfInBounds_toArray, List.set_cons_zero, List.set_cons_succ, List.getElem_toArray, List.getElem_cons_zero, List.getElem_cons_succ]
  refine wpAnyH_take (i := 7) (v := ?_) rfl (by kernel_rfl) (by kernel_rfl) (by kernel_rfl) (fun _ _ _ h => h) (Or.inl ⟨by rfl, ?_⟩) (by assumption) ?_
  rotate_left
  · intro w hSw
    (try dsimp only at hSw)
    go_simp
    all_goals with_reducible rfl
  try simp only [Act.put, List.setIfInBounds_toArray, List.set_cons_zero, List.set_cons_succ, List.getElem_toArray, List.getElem_cons_zero, List.getElem_cons_succ]
  refine wpAnyH_take (i := 11) (v := ?_) rfl (by kernel_rfl) (by kernel_rfl) (by kernel_rfl) (fun _ _ _ h => h) (Or.inl ⟨by rfl, ?_⟩) (by assumption) ?_
  rotate_left
  · intro w hSw
    (try dsimp only at hSw)
    go_simp
    all_goals with_reducible rfl
  try simp only [Act.put, List.setIfInBounds_toArray, List.set_cons_zero, List.set_cons_succ, List.getElem_toArray, List.getElem_cons_zero, List.getElem_cons_succ]
  refine wpAnyH_take (i := 12) (v := ?_) rfl (by kernel_rfl) (by kernel_rfl) (by kernel_rfl) (fun _ _ _ h => h) (Or.inl ⟨by rfl, ?_⟩) (by assumption) ?_
  rotate_left
  · intro w hSw
    (try dsimp only at hSw)
    go_simp
    all_goals with_reducible rfl
  try simp only [Act.put, List.setIfInBounds_toArray, List.set_cons_zero, List.set_cons_succ, List.getElem_toArray, List.getElem_cons_zero, List.getElem_cons_succ]
  refine wpAnyH_take (i := 13) (v := ?_) rfl (by kernel_rfl) (by kernel_rfl) (by kernel_rfl) (fun _ _ _ h => h) (Or.inl ⟨by rfl, ?_⟩) (by assumption) ?_
  rotate_left
  · intro w hSw
    (try dsimp only at hSw)
    go_simp
    all_goals with_reducible rfl
  try simp only [Act.put, List.setIfInBounds_toArray, List.set_cons_zero, List.set_cons_succ, List.getElem_toArray, List.getElem_cons_zero, List.getElem_cons_succ]
  refine wpAnyH_ready (rs := [3]) (by kernel_rfl) (by simp) ?_
  refine AllReadyH.cons rfl (fun K hK => ?_) AllReadyH.nil
  go_simp
  (go_at_call 53; refine (H0.out _).mono ?_; rintro e w4 ⟨rfl, hb⟩)
  refine hK.out _ _ (keepDD hb (by assumption)) (fun hHeld => ?_)
  clear hK K
  try simp only [Act.put, List.setIfInBounds_toArray, List.set_cons_zero, List.set_cons_succ, List.getElem_toArray, List.getElem_cons_zero, List.getElem_cons_succ]
  refine wpAnyH_take (i := 4) (v := .string (p0 ++ { data := #[45] })) rfl (by kernel_rfl) (by kernel_rfl) (by kernel_rfl) (fun _ _ _ h => h) (Or.inl ⟨by rfl, ?_⟩) (by assumption) ?_
  · intro w hSw
    (try dsimp only at hSw)
    go_simp
    all_goals (first | done | omega)
  try simp only [Act.put, List.setIfInBounds_toArray, List.set_cons_zero, List.set_cons_succ, List.getElem_toArray, List.getElem_cons_zero, List.getElem_cons_succ]
  refine wpAnyH_ready (rs := [8]) (by kernel_rfl) (by simp) ?_
  refine AllReadyH.cons rfl (fun K hK => ?_) AllReadyH.nil
  go_simp
  (go_at_call 55; refine (H1.out _).mono ?_; rintro e w5 ⟨rfl, hb⟩)
  refine hK.out _ _ (keepDD hb (by assumption)) (fun hHeld => ?_)
  clear hK K
  try simp only [Act.put, List.setIfInBounds_toArray, List.set_cons_zero, List.set_cons_succ, List.getElem_toArray, List.getElem_cons_zero, List.getElem_cons_succ]
  refine wpAnyH_take (i := 9) (v := .string (p0 ++ { data := #[45] } ++ p1)) rfl (by kernel_rfl) (by kernel_rfl) (by kernel_rfl) (fun _ _ _ h => h) (Or.inl ⟨by rfl, ?_⟩) (by assumption) ?_
  · intro w hSw
    (try dsimp only at hSw)
    go_simp
    all_goals (first | done | omega)
  try simp only [Act.put, List.setIfInBounds_toArray, List.set_cons_zero, List.set_cons_succ, List.getElem_toArray, List.getElem_cons_zero, List.getElem_cons_succ]
  refine wpAnyH_take (i := 10) (v := .string (p0 ++ { data := #[45] } ++ p1 ++ { data := #[45] })) rfl (by kernel_rfl) (by kernel_rfl) (by kernel_rfl) (fun _ _ _ h => h) (Or.inl ⟨by rfl, ?_⟩) (by assumption) ?_
  · intro w hSw
    (try dsimp only at hSw)
    go_simp
    all_goals (first | done | omega)
  try simp only [Act.put, List.setIfInBounds_toArray, List.set_cons_zero, List.set_cons_succ, List.getElem_toArray, List.getElem_cons_zero, List.getElem_cons_succ]
  refine wpAnyH_ready (rs := [14]) (by kernel_rfl) (by simp) ?_
  refine AllReadyH.cons rfl (fun K hK => ?_) AllReadyH.nil
  go_simp
  (go_at_call 55; refine (H2.out _).mono ?_; rintro e w6 ⟨rfl, hb⟩)
  refine hK.out _ _ (keepDD hb (by assumption)) (fun hHeld => ?_)
  clear hK K
  try simp only [Act.put, List.setIfInBounds_toArray, List.set_cons_zero, List.set_cons_succ, List.getElem_toArray, List.getElem_cons_zero, List.getElem_cons_succ]
  refine wpAnyH_take (i := 15) (v := .string (p0 ++ { data := #[45] } ++ p1 ++ { data := #[45] } ++ p2)) rfl (by kernel_rfl) (by kernel_rfl) (by kernel_rfl) (fun _ _ _ h => h) (Or.inl ⟨by rfl, ?_⟩) (by assumption) ?_
  · intro w hSw
    (try dsimp only at hSw)
    go_simp
    all_goals (first | done | omega)
  try simp only [Act.put, List.setIfInBounds_toArray, List.set_cons_zero, List.set_cons_succ, List.getElem_toArray, List.getElem_cons_zero, List.getElem_cons_succ]
  refine wpAnyH_take (i := 16) (v := ?_) rfl (by kernel_rfl) (by kernel_rfl) (by kernel_rfl) (fun _ _ _ h => h) (Or.inl ⟨by rfl, ?_⟩) (by assumption) ?_
  rotate_left
  · intro w hSw
    (try dsimp only at hSw)
    go_simp
    all_goals with_reducible rfl
  try simp only [Act.put, List.setIfInBounds_toArray, List.set_cons_zero, List.set_cons_succ, List.getElem_toArray, List.getElem_cons_zero, List.getElem_cons_succ]
  refine wpAnyH_done (by kernel_rfl) ?_ _
  go_wp2
  go_ret
  rw [HR.out]
  exact ⟨by rw [← HE.out]; rfl, HH.out.b hHeld.1, gb_below _ hHeld.1⟩
/-- A line. -/
theorem line_spec (b : Nat) (q : Z.Q) (l : List UInt8) (hl : l.length ≤ 1048576) (w : World) (h : Dks w b q) (hq : Z.Ok q) : Calls Tryz.prog 27 #[.pointer (some ⟨b, 0, none⟩), .string (S.mk l)] w (Did Dks w b (Z.step q l)) := by
  by_cases h36 : l.head? = some 36
  · rw [show Z.step q l = Z.fixA q (S.mk l) by unfold Z.step; rw [if_pos h36]]
    exact line_fix b q l hl w h hq h36
  rw [show Z.step q l = Z.wordsA q (X.sp 32 l []) by unfold Z.step; rw [if_neg h36]]
  by_cases h0 : l = []
  · subst h0
    exact line_empty b q w h
  have hN := Nod.of h36 h0
  have hle := sp_le 32 l []
  have hln := X.sp_len 32 l []
  have hwt : X.sp 32 l [] = [l] → l ≠ Z.kLevel → l ≠ Z.kDate → Calls Tryz.prog 27 #[.pointer (some ⟨b, 0, none⟩), .string (S.mk l)] w (Did Dks w b (q, Z.wWhat)) := fun e h1 h2 => line_what b q l hl w h hN l [] e (.inr (by simp)) h1 h2
  rcases hL : X.sp 32 l [] with _ | ⟨a, _ | ⟨a2, _ | ⟨a3, r⟩⟩⟩
  · rw [hL] at hln; simp at hln
  · have ea := sp_one 32 l [] a hL
    rw [List.nil_append] at ea
    subst ea
    unfold Z.wordsA
    dsimp only
    by_cases k1 : a = Z.kLevel
    · rw [if_pos k1]; subst k1
      exact line_level b q w h hq
    rw [if_neg k1]
    by_cases k2 : a = Z.kDate
    · rw [if_pos k2]; subst k2
      exact line_date b q w h hq
    rw [if_neg k2]
    exact hwt hL k1 k2
  · have h2 := hle a2 (by rw [hL]; simp)
    simp only [List.length_nil] at h2
    unfold Z.wordsA
    dsimp only
    by_cases k1 : a = Z.kWait
    · rw [if_pos k1]
      exact line_wait b q l hl w h hq hN a a2 hL k1 (by omega)
    rw [if_neg k1]
    by_cases k2 : a = Z.kAsk
    · rw [if_pos k2]
      exact line_ask b q l hl w h hq hN a a2 hL k2 (by omega)
    rw [if_neg k2]
    exact line_what b q l hl w h hN a [a2] hL (.inl ⟨k1, k2⟩) (fun e => by rw [e, show X.sp 32 Z.kLevel [] = [Z.kLevel] by decide] at hL; injection hL with _ e2; cases e2) (fun e => by rw [e, show X.sp 32 Z.kDate [] = [Z.kDate] by decide] at hL; injection hL with _ e2; cases e2)
  · refine line_what b q l hl w h hN a (a2 :: a3 :: r) hL (.inr (by simp)) (fun e => ?_) (fun e => ?_)
    · subst e
      have e2 : X.sp 32 Z.kLevel [] = [Z.kLevel] := by decide
      rw [hL] at e2; injection e2 with _ e2; cases e2
    · subst e
      have e2 : X.sp 32 Z.kDate [] = [Z.kDate] := by decide
      rw [hL] at e2; injection e2 with _ e2; cases e2
end Go.Proofs.YtpfdjmffgbbmdaaGreatDoor
