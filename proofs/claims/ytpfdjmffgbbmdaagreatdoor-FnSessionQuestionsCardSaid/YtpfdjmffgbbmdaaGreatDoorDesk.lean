/-
  Sessions (chapter 17): the model's desk in memory, and what its commands do: wait, fix.
-/
import Derived.Test.YtpfdjmffgbbmdaaGreatDoorSess
import Derived.Test.YtpfdjmffgbbmdaaGreatDoorReadF
namespace Go.Proofs.YtpfdjmffgbbmdaaGreatDoor
open Go.RowKit
set_option linter.unusedVariables false
set_option maxRecDepth 100000
/-- The model's desk in memory. -/
structure Dk (w : World) (b : Nat) (t e s : Int) (a : Option Addr) (n c : Nat) : Prop where
  c0 : w.cell? ⟨b, 0, none⟩ = some (.int .i64 e)
  c1 : w.cell? ⟨b, 1, none⟩ = some (.int .i64 10)
  c2 : w.cell? ⟨b, 2, none⟩ = some (.int .i64 s)
  c3 : w.cell? ⟨b, 3, none⟩ = some (.int .i64 t)
  c4 : w.cell? ⟨b, 4, none⟩ = some (.slice a n c)
  f : ∀ i, i < 5 → w.frozen? ⟨b, i, none⟩ = false
  lt : b < w.heap.size
theorem Dk.b {w w' : World} {b : Nat} {t e s : Int} {a : Option Addr} {n c : Nat} (h : Dk w b t e s a n c) (hb : Below w.heap.size w w') : Dk w' b t e s a n c :=
  ⟨(hb.cell (p := ⟨b, 0, none⟩) h.lt).trans h.c0, (hb.cell (p := ⟨b, 1, none⟩) h.lt).trans h.c1, (hb.cell (p := ⟨b, 2, none⟩) h.lt).trans h.c2, (hb.cell (p := ⟨b, 3, none⟩) h.lt).trans h.c3, (hb.cell (p := ⟨b, 4, none⟩) h.lt).trans h.c4, fun i hi => (hb.frozen (p := ⟨b, i, none⟩) h.lt).trans (h.f i hi), Nat.lt_of_lt_of_le h.lt hb.size⟩
theorem Dk.time {w : World} {b : Nat} {t e s : Int} {a : Option Addr} {n c : Nat} (h : Dk w b t e s a n c) (t' : Int) : Dk (w.setCell ⟨b, 3, none⟩ (.int .i64 t')) b t' e s a n c :=
  ⟨(cell_oth _ (by decide)).trans h.c0, (cell_oth _ (by decide)).trans h.c1, (cell_oth _ (by decide)).trans h.c2, World.cell?_setCell_same _ _ _ h.c3, (cell_oth _ (by decide)).trans h.c4, fun i hi => by simpa using h.f i hi, by simpa using h.lt⟩
theorem Dk.list {w : World} {b : Nat} {t e s : Int} {a : Option Addr} {n c : Nat} (h : Dk w b t e s a n c) (a' : Option Addr) (n' c' : Nat) : Dk (w.setCell ⟨b, 4, none⟩ (.slice a' n' c')) b t e s a' n' c' :=
  ⟨(cell_oth _ (by decide)).trans h.c0, (cell_oth _ (by decide)).trans h.c1, (cell_oth _ (by decide)).trans h.c2, (cell_oth _ (by decide)).trans h.c3, World.cell?_setCell_same _ _ _ h.c4, fun i hi => by simpa using h.f i hi, by simpa using h.lt⟩
theorem Dk.state {w : World} {b : Nat} {t e s : Int} {a : Option Addr} {n c : Nat} (h : Dk w b t e s a n c) (e' s' : Int) : Dk (((w.setCell ⟨b, 0, none⟩ (.int .i64 e')).setCell ⟨b, 1, none⟩ (.int .i64 10)).setCell ⟨b, 2, none⟩ (.int .i64 s')) b t e' s' a n c :=
  ⟨(cell_oth _ (by decide)).trans ((cell_oth _ (by decide)).trans (World.cell?_setCell_same _ _ _ h.c0)), (cell_oth _ (by decide)).trans (World.cell?_setCell_same _ _ _ ((cell_oth _ (by decide)).trans h.c1)), World.cell?_setCell_same _ _ _ ((cell_oth _ (by decide)).trans ((cell_oth _ (by decide)).trans h.c2)), ((cell_oth _ (by decide)).trans ((cell_oth _ (by decide)).trans (cell_oth _ (by decide)))).trans h.c3, ((cell_oth _ (by decide)).trans ((cell_oth _ (by decide)).trans (cell_oth _ (by decide)))).trans h.c4, fun i hi => by simpa using h.f i hi, by simpa using h.lt⟩
theorem wait_spec_yes (b : Nat) (t e s k : Int) (a : Option Addr) (n c : Nat) (w : World) (h : Dk w b t e s a n c) (ht : 0 ≤ t ∧ t ≤ 3786479999) (hk : 0 ≤ k ∧ t + k ≤ 3786479999) : Calls Tryz.prog 50 #[.pointer (some ⟨b, 0, none⟩), .int .i64 k] w fun r w' => r = .returned (.string { data := #[111, 107] }) ∧ w' = w.setCell ⟨b, 3, none⟩ (.int .i64 (t + k)) := by
  have g : inR (t + k) 0 3786479999 = true := inR_yes (by omega)
  have f3 := h.f 3 (by decide)
  obtain ⟨-, -, -, c3, -, -, lt⟩ := h
  have K := fun w' => vtime_spec (t + k) w'
  rw [g] at K
  have HK := Lib.hid K
  clear K g
  go_enter Tryz.func50, Tryz.ntmps50
  go_wp2_with (go_at_call 38; refine (HK.out _).mono ?_; rintro e w1 ⟨rfl, rfl⟩)
  go_ret
  exact ⟨rfl, rfl⟩
theorem wait_spec_no (b : Nat) (t e s k : Int) (a : Option Addr) (n c : Nat) (w : World) (h : Dk w b t e s a n c) (ht : 0 ≤ t ∧ t ≤ 3786479999) (hk : ¬ (0 ≤ k ∧ t + k ≤ 3786479999)) (hb : k ≤ 10000000000) : Calls Tryz.prog 50 #[.pointer (some ⟨b, 0, none⟩), .int .i64 k] w fun r w' => r = .returned (.string { data := #[110, 111] }) ∧ w = w' := by
  obtain ⟨-, -, -, c3, -, -, lt⟩ := h
  by_cases h0 : k < 0
  · go_enter Tryz.func50, Tryz.ntmps50
    go_wp2
    go_ret
    exact ⟨rfl, rfl⟩
  have g : inR (t + k) 0 3786479999 = false := inR_no (by omega)
  have K := fun w' => vtime_spec (t + k) w'
  rw [g] at K
  have HK := Lib.hid K
  clear K g
  go_enter Tryz.func50, Tryz.ntmps50
  go_wp2_with (go_at_call 38; refine (HK.out _).mono ?_; rintro e w1 ⟨rfl, rfl⟩)
  go_ret
  exact ⟨rfl, rfl⟩
set_option maxHeartbeats 4000000 in
theorem fix_spec_no (b : Nat) (t e s : Int) (a : Option Addr) (n c : Nat) (x : ByteArray) (hx : x.size ≤ 1048576) (w : World) (h : Dk w b t e s a n c) (hk : ¬ (X.pB x = true ∧ 4 ≤ X.pn x ∧ t ≤ X.cv (X.py x) (X.pm x) (X.pd x) (X.ps x) (X.pn x))) : Calls Tryz.prog 49 #[.pointer (some ⟨b, 0, none⟩), .string x] w fun r w' => r = .returned (.string { data := #[110, 111] }) ∧ Below w.heap.size w w' := by
  have P := pf_spec x hx w
  generalize X.py x = y at *
  generalize X.pm x = m at *
  generalize X.pd x = d at *
  generalize X.ps x = u at *
  generalize X.pn x = v at *
  have C := fun w' => cv_spec y m d u v w'
  generalize X.cv y m d u v = V at *
  have HC := Lib.hid C
  clear C
  rcases hB : X.pB x with _ | _
  · rw [hB] at P
    have HP := Lib.hid P
    clear P hk hB
    go_enter Tryz.func49, Tryz.ntmps49
    go_wp2_with fail
    refine (HP.out).mono ?_
    rintro r w2 ⟨rfl, hb⟩
    have k2 := C5.new w2 y m d u v 31
    have g2 : Below w.heap.size w (w2.alloc (.cells #[.int .i64 y, .int .i64 m, .int .i64 d, .int .i64 u, .int .i64 v] 31)) := hb.alloc hb.size _
    have h2 := h.b g2
    clear hb h
    obtain ⟨d0, d1, d2, d3, -, df, dl⟩ := id h2
    obtain ⟨c0, c1, c2, c3, c4, cl⟩ := id k2
    go_wp2_with fail
    generalize w2.alloc (.cells #[.int .i64 y, .int .i64 m, .int .i64 d, .int .i64 u, .int .i64 v] 31) = W at *
    generalize w2.heap.size = D at *
    refine (HC.out _).mono ?_
    rintro r w3 ⟨rfl, hb⟩
    have g3 := g2.trans (hb.mono g2.size)
    have h3 := h2.b hb
    have k3 := k2.b hb
    clear hb g2 h2 c0 c1 c2 c3 c4 cl k2 d0 d1 d2 d3 df dl
    obtain ⟨d0, d1, d2, d3, d4, df, dl⟩ := id h3
    obtain ⟨c0, c1, c2, c3, c4, cl⟩ := k3
    go_wp2
    go_ret
    exact ⟨rfl, g3⟩
  rw [hB] at P hk
  have HP := Lib.hid P
  clear P hB
  by_cases hV : V < t
  · clear hk
    go_enter Tryz.func49, Tryz.ntmps49
    go_wp2_with fail
    refine (HP.out).mono ?_
    rintro r w2 ⟨rfl, hb⟩
    have k2 := C5.new w2 y m d u v 31
    have g2 : Below w.heap.size w (w2.alloc (.cells #[.int .i64 y, .int .i64 m, .int .i64 d, .int .i64 u, .int .i64 v] 31)) := hb.alloc hb.size _
    have h2 := h.b g2
    clear hb h
    obtain ⟨d0, d1, d2, d3, -, df, dl⟩ := id h2
    obtain ⟨c0, c1, c2, c3, c4, cl⟩ := id k2
    go_wp2_with fail
    generalize w2.alloc (.cells #[.int .i64 y, .int .i64 m, .int .i64 d, .int .i64 u, .int .i64 v] 31) = W at *
    generalize w2.heap.size = D at *
    refine (HC.out _).mono ?_
    rintro r w3 ⟨rfl, hb⟩
    have g3 := g2.trans (hb.mono g2.size)
    have h3 := h2.b hb
    have k3 := k2.b hb
    clear hb g2 h2 c0 c1 c2 c3 c4 cl k2 d0 d1 d2 d3 df dl
    obtain ⟨d0, d1, d2, d3, d4, df, dl⟩ := id h3
    obtain ⟨c0, c1, c2, c3, c4, cl⟩ := k3
    go_wp2
    go_ret
    exact ⟨rfl, g3⟩
  have h4 : v < 4 := by
    by_cases q : v < 4
    · exact q
    · exact absurd ⟨rfl, by omega, by omega⟩ hk
  clear hk
  go_enter Tryz.func49, Tryz.ntmps49
  go_wp2_with fail
  refine (HP.out).mono ?_
  rintro r w2 ⟨rfl, hb⟩
  have k2 := C5.new w2 y m d u v 31
  have g2 : Below w.heap.size w (w2.alloc (.cells #[.int .i64 y, .int .i64 m, .int .i64 d, .int .i64 u, .int .i64 v] 31)) := hb.alloc hb.size _
  have h2 := h.b g2
  clear hb h
  obtain ⟨d0, d1, d2, d3, -, df, dl⟩ := id h2
  obtain ⟨c0, c1, c2, c3, c4, cl⟩ := id k2
  go_wp2_with fail
  generalize w2.alloc (.cells #[.int .i64 y, .int .i64 m, .int .i64 d, .int .i64 u, .int .i64 v] 31) = W at *
  generalize w2.heap.size = D at *
  refine (HC.out _).mono ?_
  rintro r w3 ⟨rfl, hb⟩
  have g3 := g2.trans (hb.mono g2.size)
  have h3 := h2.b hb
  have k3 := k2.b hb
  clear hb g2 h2 c0 c1 c2 c3 c4 cl k2 d0 d1 d2 d3 df dl
  obtain ⟨d0, d1, d2, d3, d4, df, dl⟩ := id h3
  obtain ⟨c0, c1, c2, c3, c4, cl⟩ := k3
  go_wp2
  go_ret
  exact ⟨rfl, g3⟩
set_option maxHeartbeats 4000000 in
theorem fix_spec_yes (b : Nat) (t e s : Int) (a : Option Addr) (n c : Nat) (x : ByteArray) (hx : x.size ≤ 1048576) (w : World) (h : Dk w b t e s a n c) (hk : X.pB x = true ∧ 4 ≤ X.pn x ∧ t ≤ X.cv (X.py x) (X.pm x) (X.pd x) (X.ps x) (X.pn x)) (hok : H.ok e 10 s t = true) : Calls Tryz.prog 49 #[.pointer (some ⟨b, 0, none⟩), .string x] w fun r w' => r = .returned (.string { data := #[111, 107] }) ∧ Dk w' b (X.cv (X.py x) (X.pm x) (X.pd x) (X.ps x) (X.pn x)) (H.se e 10 s (X.cv (X.py x) (X.pm x) (X.pd x) (X.ps x) (X.pn x)) 100) (H.ss e 10 s (X.cv (X.py x) (X.pm x) (X.pd x) (X.ps x) (X.pn x)) 100) a n c ∧ w.grownBy w' (some b) := by
  have hVb := X.cv_bd (X.py x) (X.pm x) (X.pd x) (X.ps x) (X.pn x)
  have P := pf_spec x hx w
  generalize X.py x = y at *
  generalize X.pm x = m at *
  generalize X.pd x = d at *
  generalize X.ps x = u at *
  generalize X.pn x = v at *
  have C := fun w' => cv_spec y m d u v w'
  generalize X.cv y m d u v = V at *
  have HC := Lib.hid C
  clear C
  rw [hk.1] at P
  have h4 : ¬ v < 4 := by omega
  have hV : ¬ V < t := by omega
  have hsk : H.sk e 10 s V 100 = true := by
    obtain ⟨o1, o2, o3⟩ := H.ok_of hok
    exact H.sk_yes ⟨H.ok_yes ⟨o1, by omega, hVb.2⟩, by decide, by decide⟩
  have SA := fun w' => SA_spec e 10 s V 100 w'
  rw [(H.s_yes hsk).2.1] at SA
  generalize H.se e 10 s V 100 = e' at *
  generalize H.ss e 10 s V 100 = s' at *
  generalize H.sk e 10 s V 100 = ok' at *
  have hbw : b < w.heap.size := h.lt
  have HP := Lib.hid P
  have HS := Lib.hid SA
  clear P SA hk hok hsk
  go_enter Tryz.func49, Tryz.ntmps49
  go_wp2_with fail
  refine (HP.out).mono ?_
  rintro r w2 ⟨rfl, hb⟩
  have k2 := C5.new w2 y m d u v 31
  have g2 : Below w.heap.size w (w2.alloc (.cells #[.int .i64 y, .int .i64 m, .int .i64 d, .int .i64 u, .int .i64 v] 31)) := hb.alloc hb.size _
  have h2 := h.b g2
  clear hb h
  obtain ⟨d0, d1, d2, d3, -, df, dl⟩ := id h2
  obtain ⟨c0, c1, c2, c3, c4, cl⟩ := id k2
  go_wp2_with fail
  generalize w2.alloc (.cells #[.int .i64 y, .int .i64 m, .int .i64 d, .int .i64 u, .int .i64 v] 31) = W at *
  generalize w2.heap.size = D at *
  refine (HC.out _).mono ?_
  rintro r w3 ⟨rfl, hb⟩
  have g3 := g2.trans (hb.mono g2.size)
  have h3 := h2.b hb
  have k3 := k2.b hb
  clear hb g2 h2 c0 c1 c2 c3 c4 cl k2 d0 d1 d2 d3 df dl
  obtain ⟨d0, d1, d2, d3, d4, df, dl⟩ := id h3
  obtain ⟨c0, c1, c2, c3, c4, cl⟩ := k3
  have f0 := df 3 (by decide)
  have H3 := Lib.hid (h3.time V)
  have G3 := Lib.hid (gb_set (gb_below (some b) g3) 3 (.int .i64 V))
  clear h3 g3
  go_wp2_with fail
  refine (HS.out _).mono ?_
  rintro r w4 ⟨rfl, hb⟩
  have h4' := H3.out.b hb
  have g4 := gb_b G3.out hb
  clear hb d0 d1 d2 d3 d4 df dl f0
  obtain ⟨d0, d1, d2, d3, d4, df, dl⟩ := id h4'
  have g0 := df 0 (by decide)
  have g1 := df 1 (by decide)
  have gg2 := df 2 (by decide)
  have HF := Lib.hid (And.intro (h4'.state e' s') (gb_set (gb_set (gb_set g4 0 (.int .i64 e')) 1 (.int .i64 10)) 2 (.int .i64 s')))
  clear h4' g4
  go_wp2
  go_ret
  exact ⟨rfl, HF.out⟩
end Go.Proofs.YtpfdjmffgbbmdaaGreatDoor
