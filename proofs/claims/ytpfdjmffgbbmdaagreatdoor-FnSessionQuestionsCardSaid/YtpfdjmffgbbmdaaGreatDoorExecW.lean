/-
  Sessions (chapter 17): a line of words, in the program's session.
-/
import Derived.Test.YtpfdjmffgbbmdaaGreatDoorAskI
import Derived.Test.YtpfdjmffgbbmdaaGreatDoorFnMap
import Derived.Test.YtpfdjmffgbbmdaaGreatDoorExec
import Derived.Test.YtpfdjmffgbbmdaaGreatDoorReadF
import Derived.Test.YtpfdjmffgbbmdaaGreatDoorWord
namespace Go.Proofs.YtpfdjmffgbbmdaaGreatDoor
open Go.RowKit Go.Lib Go.Maps Go.ChangeMaps
set_option linter.unusedVariables false
set_option maxRecDepth 100000
/-- What a region keeps may be made stronger on the way. -/
theorem wpAnyH_sub {P : Program} {md : Region.Mode} {ops : Array Oper} {Q : Exit → Act → World → Prop} {S S' : World → Prop} (hs : ∀ w, S' w → S w) : ∀ (fuel : Nat) (listed : Array Bool) (a : Act) (w : World), wpAnyH P md ops Q S' fuel listed a w → wpAnyH P md ops Q S fuel listed a w
  | 0, _, _, _, h => h
  | fuel + 1, _, _, _, h => ⟨h.1, fun i hi => wpOp_mono (fun a' w' h' => ⟨hs _ h'.1, wpAnyH_sub hs fuel _ _ _ h'.2⟩) (h.2 i hi)⟩
theorem mk_key {a k : List UInt8} {x : ByteArray} (h : S.mk k = x) : (S.mk a = x) = (a = k) := by
  subst h
  exact propext ⟨fun e => by rw [← S.lst_mk a, e, S.lst_mk], fun e => by rw [e]⟩
/-- The words of a line, by the library. -/
theorem words_impl (x : ByteArray) (hx : x.size ≤ 1048576) (w : World) (hM : Mx w) (L : List (List UInt8)) (hL : X.sp 32 (S.lst x) [] = L) : Calls Tryz.prog 44 #[.string x, .string { data := #[32] }] w fun e w' => e = .returned (.slice (some ⟨w.heap.size, 0, none⟩) L.length L.length) ∧ w' = w.alloc (.cells ((L.map S.mk).map Value.string).toArray 9) := by
  obtain ⟨m, hm⟩ := hM
  have P := Tryz.strings_Split x { data := #[32] } m w (by omega) hm (by decide)
  rw [X.countB_sp 32 x, X.splitB_sp 32 x, hL] at P
  exact P
theorem nopre (x : ByteArray) (w : World) (h36 : (S.lst x).head? ≠ some 36) : Calls Tryz.prog 42 #[.string x, .string { data := #[36] }] w fun e w' => e = .returned (.bool false) ∧ w' = w := by
  have P := Tryz.strings_HasPrefix x { data := #[36] } w
  rw [show ({ data := #[36] } : ByteArray).data.toList = [36] from rfl, pre_dollar, decide_eq_false h36] at P
  exact P
theorem exec_many (b : Nat) (q : Z.Q) (x : ByteArray) (hx : x.size ≤ 1048576) (w : World) (h : Ses w b q) (hT : Tz b w) (h36 : (S.lst x).head? ≠ some 36) (L : List (List UInt8)) (hL : X.sp 32 (S.lst x) [] = L) (h3 : 3 ≤ L.length) (h9 : L.length ≤ 2000000) : Calls Tryz.prog 24 #[.pointer (some ⟨b, 0, none⟩), .string x] w (Did Ses w b (q, Z.wWhat)) := by
  have HP := Lib.hid (nopre x w h36)
  have HW := Lib.hid (words_impl x hx w hT.m L hL)
  have HF := Lib.hid (Did.quiet (l := Z.wWhat) h ((Below.refl _ _).alloc (Nat.le_refl _) (.cells ((L.map S.mk).map Value.string).toArray 9)))
  have g1 : ((L.length : Int) == 1) = false := by rw [beq_eq_false_iff_ne]; omega
  have g2 : ((L.length : Int) == 2) = false := by rw [beq_eq_false_iff_ne]; omega
  generalize L.length = n at *
  obtain ⟨W1, hW1⟩ : ∃ W1, w.alloc (.cells ((L.map S.mk).map Value.string).toArray 9) = W1 := ⟨_, rfl⟩
  rw [hW1] at HW HF
  clear hL h36 h hT hx hW1
  go_enter Tryz.func24, Tryz.ntmps24
  go_wp2_with fail
  refine HP.out.mono ?_
  rintro e w1 ⟨rfl, rfl⟩
  go_wp2_with fail
  refine HW.out.mono ?_
  rintro e w2 ⟨rfl, rfl⟩
  go_wp2
  go_ret
  exact HF.out
theorem exec_one (b : Nat) (q : Z.Q) (x : ByteArray) (hx : x.size ≤ 1048576) (w : World) (h : Ses w b q) (hq : Z.Ok q) (hT : Tz b w) (h36 : (S.lst x).head? ≠ some 36) (a : List UInt8) (hL : X.sp 32 (S.lst x) [] = [a]) (ha : a.length ≤ 1048576) : Calls Tryz.prog 24 #[.pointer (some ⟨b, 0, none⟩), .string x] w (Did Ses w b (Z.wordsA q [a])) := by
  have HP := Lib.hid (nopre x w h36)
  have HW := Lib.hid (words_impl x hx w hT.m [a] hL)
  have b1 := (Below.refl w.heap.size w).alloc (Nat.le_refl _) (.cells (([a].map S.mk).map Value.string).toArray 9)
  have c1 : (w.alloc (.cells (([a].map S.mk).map Value.string).toArray 9)).cell? ⟨w.heap.size, 0, none⟩ = some (.string (S.mk a)) := by simp
  have hA : (S.mk a).size ≤ maxLen := by rw [S.size_mk]; unfold maxLen; omega
  have hbw := h.lt
  have HQ := Lib.hid hq
  have HH := Lib.hid h
  have HT := Lib.hid hT
  obtain ⟨W1, hW1⟩ : ∃ W1, w.alloc (.cells (([a].map S.mk).map Value.string).toArray 9) = W1 := ⟨_, rfl⟩
  rw [hW1] at HW b1 c1
  obtain ⟨R, hR⟩ : ∃ R, Z.wordsA q [a] = R := ⟨_, rfl⟩
  rw [hR]
  have HRR := Lib.hid hR
  have lW : w.heap.size < W1.heap.size := World.block_lt_of_cell? _ _ c1
  have HB1 := Lib.hid b1
  have hLK := fun (w' : World) (E : Nat) (hm : w'.ownsMap Tryz.prog 9 (fnR b) E 2 (cmds kLevelB kDateB 76 77)) => look_plain hm (S.mk a) hA (by decide)
  have hFF : found kLevelB kDateB (S.mk a) 76 77 b = if a = Z.kLevel then mv 76 b else if a = Z.kDate then mv 77 b else .nilFunc := by
    unfold found
    simp only [mk_key (show S.mk Z.kLevel = kLevelB from rfl), mk_key (show S.mk Z.kDate = kDateB from rfl)]
  have hkk : decide (S.mk a = kLevelB ∨ S.mk a = kDateB) = decide (a = Z.kLevel ∨ a = Z.kDate) := by
    simp only [mk_key (show S.mk Z.kLevel = kLevelB from rfl), mk_key (show S.mk Z.kDate = kDateB from rfl)]
  rw [hFF, hkk] at hLK
  clear hFF hkk
  obtain ⟨F, hF⟩ : ∃ F, (if a = Z.kLevel then mv 76 b else if a = Z.kDate then mv 77 b else .nilFunc) = F := ⟨_, rfl⟩
  obtain ⟨k, hk⟩ : ∃ k, decide (a = Z.kLevel ∨ a = Z.kDate) = k := ⟨_, rfl⟩
  rw [hF, hk] at hLK
  have HLK := Lib.hid hLK
  have HFK := Lib.hid (And.intro hF hk)
  clear hLK hF hk
  have HP1 := Lib.hid (fun w' => plain_impl b w')
  clear hL h36 hx h hT hR hW1 b1 hq
  go_enter Tryz.func24, Tryz.ntmps24
  go_wp2_with fail
  refine HP.out.mono ?_
  rintro e w1 ⟨rfl, rfl⟩
  go_wp2_with fail
  refine HW.out.mono ?_
  rintro e w2 ⟨rfl, rfl⟩
  simp only [List.length_cons, List.length_nil]
  go_wp2_with fail
  refine wp_region_held_drew (S := (fun w' => Below w2.heap.size w2 w' ∧ w'.cell? ⟨w1.heap.size, 0, none⟩ = some (.string (S.mk a)))) (by kernel_rfl) (⟨(Below.refl _ _).drew, by simpa using c1⟩) (fun hHeld => ?_)
  refine wpAnyH_take (i := 0) (v := ?_) rfl (by kernel_rfl) (by kernel_rfl) (by kernel_rfl) (fun _ _ _ h => h) (Or.inl ⟨by rfl, ?_⟩) (by assumption) ?_
  rotate_left
  · intro w hSw
    (try dsimp only at hSw)
    go_simp
    all_goals with_reducible rfl
  try simp only [Act.put, List.setIfInBounds_toArray, List.set_cons_zero, List.set_cons_succ, List.getElem_toArray, List.getElem_cons_zero]
  refine wpAnyH_take (i := 2) (v := ?_) rfl (by kernel_rfl) (by kernel_rfl) (by kernel_rfl) (fun _ _ _ h => h) (Or.inl ⟨by rfl, ?_⟩) (by assumption) ?_
  rotate_left
  · intro w hSw
    (try dsimp only at hSw)
    go_simp
    all_goals with_reducible rfl
  try simp only [Act.put, List.setIfInBounds_toArray, List.set_cons_zero, List.set_cons_succ, List.getElem_toArray, List.getElem_cons_zero, List.getElem_cons_succ]
  refine wpAnyH_take (i := 3) (v := ?_) rfl (by kernel_rfl) (by kernel_rfl) (by kernel_rfl) (fun _ _ _ h => h) (Or.inl ⟨by rfl, ?_⟩) (by assumption) ?_
  rotate_left
  · intro w hSw
    (try dsimp only at hSw)
    go_simp
    all_goals with_reducible rfl
  try simp only [Act.put, List.setIfInBounds_toArray, List.set_cons_zero, List.set_cons_succ, List.getElem_toArray, List.getElem_cons_zero, List.getElem_cons_succ]
  refine wpAnyH_take (i := 4) (v := ?_) rfl (by kernel_rfl) (by kernel_rfl) (by kernel_rfl) (fun _ _ _ h => h) (Or.inl ⟨by rfl, ?_⟩) (by assumption) ?_
  rotate_left
  · intro w hSw
    (try dsimp only at hSw)
    go_simp
    all_goals with_reducible rfl
  try simp only [Act.put, List.setIfInBounds_toArray, List.set_cons_zero, List.set_cons_succ, List.getElem_toArray, List.getElem_cons_zero, List.getElem_cons_succ]
  refine wpAnyH_ready (rs := [1]) (by kernel_rfl) (by simp) ?_
  refine AllReadyH.cons rfl (fun K hK => ?_) AllReadyH.nil
  go_simp
  (go_at_call 45; refine (HP1.out _).mono ?_; rintro e w4 ⟨rfl, hm, hb⟩)
  refine hK.out _ _ (⟨hHeld.1.trans (hb.mono hHeld.1.size), (hb.cell (p := ⟨w1.heap.size, 0, none⟩) (Nat.lt_of_lt_of_le lW hHeld.1.size)).trans hHeld.2⟩) (fun hHeld => ?_)
  clear hK K
  try simp only [Act.put, List.setIfInBounds_toArray, List.set_cons_zero, List.set_cons_succ, List.getElem_toArray, List.getElem_cons_zero, List.getElem_cons_succ]
  generalize w2.drew.heap.size = E at *
  refine wpAnyH_sub (S' := fun w' => Below w2.heap.size w2 w' ∧ w'.ownsMap Tryz.prog 9 (fnR b) E 2 (cmds kLevelB kDateB 76 77) ∧ w'.cell? ⟨w1.heap.size, 0, none⟩ = some (.string (S.mk a))) (fun w' hw' => ⟨hw'.1, hw'.2.2⟩) _ _ _ _ ?_
  have hHeld' := And.intro hHeld.1 (And.intro hm hHeld.2)
  clear hHeld hm hb
  refine wpAnyH_take (i := 5) (v := .tuple #[F, .bool k]) rfl (by kernel_rfl) (by kernel_rfl) (by kernel_rfl) (fun _ _ _ h => h) (Or.inl ⟨by rfl, ?_⟩) (by assumption) ?_
  · intro w hSw
    (try dsimp only at hSw)
    have hlk := HLK.out w E hSw.2.1
    go_simp
  try simp only [Act.put, List.setIfInBounds_toArray, List.set_cons_zero, List.set_cons_succ, List.getElem_toArray, List.getElem_cons_zero, List.getElem_cons_succ]
  refine wpAnyH_take (i := 6) (v := ?_) rfl (by kernel_rfl) (by kernel_rfl) (by kernel_rfl) (fun _ _ _ h => h) (Or.inl ⟨by rfl, ?_⟩) (by assumption) ?_
  rotate_left
  · intro w hSw
    (try dsimp only at hSw)
    go_simp
    all_goals with_reducible rfl
  try simp only [Act.put, List.setIfInBounds_toArray, List.set_cons_zero, List.set_cons_succ, List.getElem_toArray, List.getElem_cons_zero, List.getElem_cons_succ]
  refine wpAnyH_take (i := 7) (v := ?_) rfl (by kernel_rfl) (by kernel_rfl) (by kernel_rfl) (fun _ _ _ h => h) (Or.inl ⟨by rfl, ?_⟩) (by assumption) ?_
  rotate_left
  · intro w hSw
    (try dsimp only at hSw)
    go_simp
    all_goals with_reducible rfl
  try simp only [Act.put, List.setIfInBounds_toArray, List.set_cons_zero, List.set_cons_succ, List.getElem_toArray, List.getElem_cons_zero, List.getElem_cons_succ]
  refine wpAnyH_take (i := 8) (v := ?_) rfl (by kernel_rfl) (by kernel_rfl) (by kernel_rfl) (fun _ _ _ h => h) (Or.inl ⟨by rfl, ?_⟩) (by assumption) ?_
  rotate_left
  · intro w hSw
    (try dsimp only at hSw)
    go_simp
    all_goals with_reducible rfl
  try simp only [Act.put, List.setIfInBounds_toArray, List.set_cons_zero, List.set_cons_succ, List.getElem_toArray, List.getElem_cons_zero, List.getElem_cons_succ]
  refine wpAnyH_take (i := 9) (v := ?_) rfl (by kernel_rfl) (by kernel_rfl) (by kernel_rfl) (fun _ _ _ h => h) (Or.inl ⟨by rfl, ?_⟩) (by assumption) ?_
  rotate_left
  · intro w hSw
    (try dsimp only at hSw)
    go_simp
    all_goals with_reducible rfl
  try simp only [Act.put, List.setIfInBounds_toArray, List.set_cons_zero, List.set_cons_succ, List.getElem_toArray, List.getElem_cons_zero, List.getElem_cons_succ]
  refine wpAnyH_take (i := 10) (v := ?_) rfl (by kernel_rfl) (by kernel_rfl) (by kernel_rfl) (fun _ _ _ h => h) (Or.inl ⟨by rfl, ?_⟩) (by assumption) ?_
  rotate_left
  · intro w hSw
    (try dsimp only at hSw)
    go_simp
    all_goals with_reducible rfl
  try simp only [Act.put, List.setIfInBounds_toArray, List.set_cons_zero, List.set_cons_succ, List.getElem_toArray, List.getElem_cons_zero, List.getElem_cons_succ]
  refine wpAnyH_done (by kernel_rfl) ?_ _
  have hb4 := hHeld'.1
  have HB4 := Lib.hid (HB1.out.trans (hb4.mono HB1.out.size))
  clear hHeld' hb4 HLK
  by_cases h1 : a = Z.kLevel
  · have hF := HFK.out.1
    have hk := HFK.out.2
    rw [if_pos h1] at hF
    rw [decide_eq_true (Or.inl h1)] at hk
    subst hF hk
    have HL := Lib.hid (lev_impl b q w4 (HH.out.b HB4.out) HQ.out (HT.out.gb hbw (gb_below _ HB4.out)))
    have HR := Lib.hid (show R = (q, Z.levelA q) by rw [← HRR.out]; unfold Z.wordsA; exact if_pos h1)
    clear h1
    unfold mv
    go_wp2_with fail
    refine HL.out.mono ?_
    rintro e w5 ⟨rfl, hs, hg⟩
    have HS := Lib.hid (And.intro hs (gb_trans (gb_below (some b) HB4.out) hg))
    clear hs hg
    go_wp2
    go_ret
    rw [HR.out]
    exact ⟨rfl, HS.out⟩
  by_cases h2 : a = Z.kDate
  · have hF := HFK.out.1
    have hk := HFK.out.2
    rw [if_neg h1, if_pos h2] at hF
    rw [decide_eq_true (Or.inr h2)] at hk
    subst hF hk
    have HL := Lib.hid (dat_impl b q w4 (HH.out.b HB4.out) HQ.out (HT.out.gb hbw (gb_below _ HB4.out)))
    have HR := Lib.hid (show R = (q, Z.dateA q) by rw [← HRR.out]; unfold Z.wordsA; exact (if_neg h1).trans (if_pos h2))
    clear h1 h2
    unfold mv
    go_wp2_with fail
    refine HL.out.mono ?_
    rintro e w5 ⟨rfl, hs, hg⟩
    have HS := Lib.hid (And.intro hs (gb_trans (gb_below (some b) HB4.out) hg))
    clear hs hg
    go_wp2
    go_ret
    rw [HR.out]
    exact ⟨rfl, HS.out⟩
  have hk := HFK.out.2
  rw [decide_eq_false (fun q => q.elim h1 h2)] at hk
  subst hk
  have HR := Lib.hid (show R = (q, Z.wWhat) by rw [← HRR.out]; unfold Z.wordsA; exact (if_neg h1).trans (if_neg h2))
  clear h1 h2
  go_wp2
  go_ret
  rw [HR.out]
  exact Did.quiet HH.out HB4.out
theorem exec_two (b : Nat) (q : Z.Q) (x : ByteArray) (hx : x.size ≤ 1048576) (w : World) (h : Ses w b q) (hq : Z.Ok q) (hT : Tz b w) (h36 : (S.lst x).head? ≠ some 36) (a a2 : List UInt8) (hL : X.sp 32 (S.lst x) [] = [a, a2]) (ha : a.length ≤ 1048576) (ha2 : a2.length ≤ 1048576) : Calls Tryz.prog 24 #[.pointer (some ⟨b, 0, none⟩), .string x] w (Did Ses w b (Z.wordsA q [a, a2])) := by
  have HP := Lib.hid (nopre x w h36)
  have HW := Lib.hid (words_impl x hx w hT.m [a, a2] hL)
  have b1 := (Below.refl w.heap.size w).alloc (Nat.le_refl _) (.cells (([a, a2].map S.mk).map Value.string).toArray 9)
  have c1 : (w.alloc (.cells (([a, a2].map S.mk).map Value.string).toArray 9)).cell? ⟨w.heap.size, 0, none⟩ = some (.string (S.mk a)) := by simp
  have c2 : (w.alloc (.cells (([a, a2].map S.mk).map Value.string).toArray 9)).cell? ⟨w.heap.size, 1, none⟩ = some (.string (S.mk a2)) := by simp
  have hA : (S.mk a).size ≤ maxLen := by rw [S.size_mk]; unfold maxLen; omega
  have hbw := h.lt
  have HQ := Lib.hid hq
  have HH := Lib.hid h
  have HT := Lib.hid hT
  obtain ⟨W1, hW1⟩ : ∃ W1, w.alloc (.cells (([a, a2].map S.mk).map Value.string).toArray 9) = W1 := ⟨_, rfl⟩
  rw [hW1] at HW b1 c1 c2
  obtain ⟨R, hR⟩ : ∃ R, Z.wordsA q [a, a2] = R := ⟨_, rfl⟩
  rw [hR]
  have HRR := Lib.hid hR
  have lW : w.heap.size < W1.heap.size := World.block_lt_of_cell? _ _ c1
  have HB1 := Lib.hid b1
  have hLK := fun (w' : World) (E : Nat) (hm : w'.ownsMap Tryz.prog 9 (fnR b) E 2 (cmds kWaitB kAskB 78 79)) => look_number hm (S.mk a) hA (by decide)
  have hFF : found kWaitB kAskB (S.mk a) 78 79 b = if a = Z.kWait then mv 78 b else if a = Z.kAsk then mv 79 b else .nilFunc := by
    unfold found
    simp only [mk_key (show S.mk Z.kWait = kWaitB from rfl), mk_key (show S.mk Z.kAsk = kAskB from rfl)]
  have hkk : decide (S.mk a = kWaitB ∨ S.mk a = kAskB) = decide (a = Z.kWait ∨ a = Z.kAsk) := by
    simp only [mk_key (show S.mk Z.kWait = kWaitB from rfl), mk_key (show S.mk Z.kAsk = kAskB from rfl)]
  rw [hFF, hkk] at hLK
  clear hFF hkk
  obtain ⟨F, hF⟩ : ∃ F, (if a = Z.kWait then mv 78 b else if a = Z.kAsk then mv 79 b else .nilFunc) = F := ⟨_, rfl⟩
  obtain ⟨k, hk⟩ : ∃ k, decide (a = Z.kWait ∨ a = Z.kAsk) = k := ⟨_, rfl⟩
  rw [hF, hk] at hLK
  have HLK := Lib.hid hLK
  have HFK := Lib.hid (And.intro hF hk)
  clear hLK hF hk
  have HP1 := Lib.hid (fun w' => number_impl b w')
  clear hL h36 hx h hT hR hW1 b1 hq
  go_enter Tryz.func24, Tryz.ntmps24
  go_wp2_with fail
  refine HP.out.mono ?_
  rintro e w1 ⟨rfl, rfl⟩
  go_wp2_with fail
  refine HW.out.mono ?_
  rintro e w2 ⟨rfl, rfl⟩
  simp only [List.length_cons, List.length_nil]
  go_wp2_with fail
  refine wp_region_held_drew (S := (fun w' => Below w2.heap.size w2 w' ∧ w'.cell? ⟨w1.heap.size, 0, none⟩ = some (.string (S.mk a)) ∧ w'.cell? ⟨w1.heap.size, 1, none⟩ = some (.string (S.mk a2)))) (by kernel_rfl) (⟨(Below.refl _ _).drew, by simpa using c1, by simpa using c2⟩) (fun hHeld => ?_)
  refine wpAnyH_take (i := 0) (v := ?_) rfl (by kernel_rfl) (by kernel_rfl) (by kernel_rfl) (fun _ _ _ h => h) (Or.inl ⟨by rfl, ?_⟩) (by assumption) ?_
  rotate_left
  · intro w hSw
    (try dsimp only at hSw)
    go_simp
    all_goals with_reducible rfl
  try simp only [Act.put, List.setIfInBounds_toArray, List.set_cons_zero, List.set_cons_succ, List.getElem_toArray, List.getElem_cons_zero]
  refine wpAnyH_take (i := 2) (v := ?_) rfl (by kernel_rfl) (by kernel_rfl) (by kernel_rfl) (fun _ _ _ h => h) (Or.inl ⟨by rfl, ?_⟩) (by assumption) ?_
  rotate_left
  · intro w hSw
    (try dsimp only at hSw)
    go_simp
    all_goals with_reducible rfl
  try simp only [Act.put, List.setIfInBounds_toArray, List.set_cons_zero, List.set_cons_succ, List.getElem_toArray, List.getElem_cons_zero, List.getElem_cons_succ]
  refine wpAnyH_take (i := 3) (v := ?_) rfl (by kernel_rfl) (by kernel_rfl) (by kernel_rfl) (fun _ _ _ h => h) (Or.inl ⟨by rfl, ?_⟩) (by assumption) ?_
  rotate_left
  · intro w hSw
    (try dsimp only at hSw)
    go_simp
    all_goals with_reducible rfl
  try simp only [Act.put, List.setIfInBounds_toArray, List.set_cons_zero, List.set_cons_succ, List.getElem_toArray, List.getElem_cons_zero, List.getElem_cons_succ]
  refine wpAnyH_take (i := 4) (v := ?_) rfl (by kernel_rfl) (by kernel_rfl) (by kernel_rfl) (fun _ _ _ h => h) (Or.inl ⟨by rfl, ?_⟩) (by assumption) ?_
  rotate_left
  · intro w hSw
    (try dsimp only at hSw)
    go_simp
    all_goals with_reducible rfl
  try simp only [Act.put, List.setIfInBounds_toArray, List.set_cons_zero, List.set_cons_succ, List.getElem_toArray, List.getElem_cons_zero, List.getElem_cons_succ]
  refine wpAnyH_ready (rs := [1]) (by kernel_rfl) (by simp) ?_
  refine AllReadyH.cons rfl (fun K hK => ?_) AllReadyH.nil
  go_simp
  (go_at_call 46; refine (HP1.out _).mono ?_; rintro e w4 ⟨rfl, hm, hb⟩)
  refine hK.out _ _ (⟨hHeld.1.trans (hb.mono hHeld.1.size), (hb.cell (p := ⟨w1.heap.size, 0, none⟩) (Nat.lt_of_lt_of_le lW hHeld.1.size)).trans hHeld.2.1, (hb.cell (p := ⟨w1.heap.size, 1, none⟩) (Nat.lt_of_lt_of_le lW hHeld.1.size)).trans hHeld.2.2⟩) (fun hHeld => ?_)
  clear hK K
  try simp only [Act.put, List.setIfInBounds_toArray, List.set_cons_zero, List.set_cons_succ, List.getElem_toArray, List.getElem_cons_zero, List.getElem_cons_succ]
  generalize w2.drew.heap.size = E at *
  refine wpAnyH_sub (S' := fun w' => Below w2.heap.size w2 w' ∧ w'.ownsMap Tryz.prog 9 (fnR b) E 2 (cmds kWaitB kAskB 78 79) ∧ w'.cell? ⟨w1.heap.size, 0, none⟩ = some (.string (S.mk a)) ∧ w'.cell? ⟨w1.heap.size, 1, none⟩ = some (.string (S.mk a2))) (fun w' hw' => ⟨hw'.1, hw'.2.2⟩) _ _ _ _ ?_
  have hHeld' := And.intro hHeld.1 (And.intro hm hHeld.2)
  clear hHeld hm hb
  refine wpAnyH_take (i := 5) (v := .tuple #[F, .bool k]) rfl (by kernel_rfl) (by kernel_rfl) (by kernel_rfl) (fun _ _ _ h => h) (Or.inl ⟨by rfl, ?_⟩) (by assumption) ?_
  · intro w hSw
    (try dsimp only at hSw)
    have hlk := HLK.out w E hSw.2.1
    go_simp
  try simp only [Act.put, List.setIfInBounds_toArray, List.set_cons_zero, List.set_cons_succ, List.getElem_toArray, List.getElem_cons_zero, List.getElem_cons_succ]
  refine wpAnyH_take (i := 6) (v := ?_) rfl (by kernel_rfl) (by kernel_rfl) (by kernel_rfl) (fun _ _ _ h => h) (Or.inl ⟨by rfl, ?_⟩) (by assumption) ?_
  rotate_left
  · intro w hSw
    (try dsimp only at hSw)
    go_simp
    all_goals with_reducible rfl
  try simp only [Act.put, List.setIfInBounds_toArray, List.set_cons_zero, List.set_cons_succ, List.getElem_toArray, List.getElem_cons_zero, List.getElem_cons_succ]
  refine wpAnyH_take (i := 7) (v := ?_) rfl (by kernel_rfl) (by kernel_rfl) (by kernel_rfl) (fun _ _ _ h => h) (Or.inl ⟨by rfl, ?_⟩) (by assumption) ?_
  rotate_left
  · intro w hSw
    (try dsimp only at hSw)
    go_simp
    all_goals with_reducible rfl
  try simp only [Act.put, List.setIfInBounds_toArray, List.set_cons_zero, List.set_cons_succ, List.getElem_toArray, List.getElem_cons_zero, List.getElem_cons_succ]
  refine wpAnyH_take (i := 8) (v := ?_) rfl (by kernel_rfl) (by kernel_rfl) (by kernel_rfl) (fun _ _ _ h => h) (Or.inl ⟨by rfl, ?_⟩) (by assumption) ?_
  rotate_left
  · intro w hSw
    (try dsimp only at hSw)
    go_simp
    all_goals with_reducible rfl
  try simp only [Act.put, List.setIfInBounds_toArray, List.set_cons_zero, List.set_cons_succ, List.getElem_toArray, List.getElem_cons_zero, List.getElem_cons_succ]
  refine wpAnyH_take (i := 9) (v := ?_) rfl (by kernel_rfl) (by kernel_rfl) (by kernel_rfl) (fun _ _ _ h => h) (Or.inl ⟨by rfl, ?_⟩) (by assumption) ?_
  rotate_left
  · intro w hSw
    (try dsimp only at hSw)
    go_simp
    all_goals with_reducible rfl
  try simp only [Act.put, List.setIfInBounds_toArray, List.set_cons_zero, List.set_cons_succ, List.getElem_toArray, List.getElem_cons_zero, List.getElem_cons_succ]
  refine wpAnyH_take (i := 10) (v := ?_) rfl (by kernel_rfl) (by kernel_rfl) (by kernel_rfl) (fun _ _ _ h => h) (Or.inl ⟨by rfl, ?_⟩) (by assumption) ?_
  rotate_left
  · intro w hSw
    (try dsimp only at hSw)
    go_simp
    all_goals with_reducible rfl
  try simp only [Act.put, List.setIfInBounds_toArray, List.set_cons_zero, List.set_cons_succ, List.getElem_toArray, List.getElem_cons_zero, List.getElem_cons_succ]
  refine wpAnyH_done (by kernel_rfl) ?_ _
  have hb4 := hHeld'.1
  have c4 := hHeld'.2.2.2
  have HB4 := Lib.hid (HB1.out.trans (hb4.mono HB1.out.size))
  clear hHeld' hb4 HLK
  have HWN := Lib.hid (wn_impl a2 ha2 w4 (HT.out.gb hbw (gb_below _ HB4.out)).t)
  by_cases h1 : a = Z.kWait
  · have hF := HFK.out.1
    have hk := HFK.out.2
    rw [if_pos h1] at hF
    rw [decide_eq_true (Or.inl h1)] at hk
    subst hF hk
    have HL := Lib.hid (fun w' (hb : Below w4.heap.size w4 w') => wait_impl b q (X.wn a2) w' ((HH.out.b HB4.out).b hb) HQ.out)
    have HR := Lib.hid (show R = Z.waitA q (X.wn a2) by rw [← HRR.out]; unfold Z.wordsA; exact if_pos h1)
    clear h1
    unfold mv
    go_wp2_with fail
    refine (HWN.out).mono ?_
    rintro e w5 ⟨rfl, hb5⟩
    go_wp2_with fail
    refine (HL.out _ hb5).mono ?_
    rintro e w6 ⟨rfl, hs, hg⟩
    have HS := Lib.hid (And.intro hs (gb_trans (gb_below (some b) (HB4.out.trans (hb5.mono HB4.out.size))) hg))
    clear hb5
    clear hs hg
    go_wp2
    go_ret
    rw [HR.out]
    exact ⟨rfl, HS.out⟩
  by_cases h2 : a = Z.kAsk
  · have hF := HFK.out.1
    have hk := HFK.out.2
    rw [if_neg h1, if_pos h2] at hF
    rw [decide_eq_true (Or.inr h2)] at hk
    subst hF hk
    have HL := Lib.hid (fun w' (hb : Below w4.heap.size w4 w') => ask_impl b q (X.wn a2) w' ((HH.out.b HB4.out).b hb) HQ.out (HT.out.gb hbw (gb_below _ (HB4.out.trans (hb.mono HB4.out.size)))) (wfC (by have := X.wn_bd a2; omega)))
    have HR := Lib.hid (show R = Z.askA q (X.wn a2) by rw [← HRR.out]; unfold Z.wordsA; exact (if_neg h1).trans (if_pos h2))
    clear h1 h2
    unfold mv
    go_wp2_with fail
    refine (HWN.out).mono ?_
    rintro e w5 ⟨rfl, hb5⟩
    go_wp2_with fail
    refine (HL.out _ hb5).mono ?_
    rintro e w6 ⟨rfl, hs, hg⟩
    have HS := Lib.hid (And.intro hs (gb_trans (gb_below (some b) (HB4.out.trans (hb5.mono HB4.out.size))) hg))
    clear hb5
    clear hs hg
    go_wp2
    go_ret
    rw [HR.out]
    exact ⟨rfl, HS.out⟩
  have hk := HFK.out.2
  rw [decide_eq_false (fun q => q.elim h1 h2)] at hk
  subst hk
  have HR := Lib.hid (show R = (q, Z.wWhat) by rw [← HRR.out]; unfold Z.wordsA; exact (if_neg h1).trans (if_neg h2))
  clear h1 h2
  go_wp2
  go_ret
  rw [HR.out]
  exact Did.quiet HH.out HB4.out
/-- A line. -/
theorem exec_impl (b : Nat) (q : Z.Q) (x : ByteArray) (hx : x.size ≤ 1048576) (w : World) (h : Ses w b q) (hq : Z.Ok q) (hT : Tz b w) : Calls Tryz.prog 24 #[.pointer (some ⟨b, 0, none⟩), .string x] w (Did Ses w b (Z.step q (S.lst x))) := by
  by_cases h36 : (S.lst x).head? = some 36
  · rw [show Z.step q (S.lst x) = Z.fixA q x by unfold Z.step; rw [if_pos h36, S.mk_lst]]
    exact exec_fix b x w h36 _ (fun w' => Ses w' b _ ∧ w.grownBy w' (some b)) (takeFix_impl b q x hx w h hq hT)
  · rw [show Z.step q (S.lst x) = Z.wordsA q (X.sp 32 (S.lst x) []) by unfold Z.step; rw [if_neg h36]]
    have hle := sp_le 32 (S.lst x) []
    have hln := X.sp_len 32 (S.lst x) []
    have hsz := S.size_lst x
    rcases hL : X.sp 32 (S.lst x) [] with _ | ⟨a, _ | ⟨a2, _ | ⟨a3, r⟩⟩⟩
    · rw [hL] at hln; simp at hln
    · have := hle a (by rw [hL]; simp)
      simp only [List.length_nil] at this
      exact exec_one b q x hx w h hq hT h36 a hL (by omega)
    · have h1 := hle a (by rw [hL]; simp)
      have h2 := hle a2 (by rw [hL]; simp)
      simp only [List.length_nil] at h1 h2
      exact exec_two b q x hx w h hq hT h36 a a2 hL (by omega) (by omega)
    · rw [hL] at hln
      exact exec_many b q x hx w h hT h36 _ hL (by simp) (by omega)
end Go.Proofs.YtpfdjmffgbbmdaaGreatDoor
