/-
  Sessions (chapter 17): a session in memory, and what its commands do: level, wait.
-/
import Derived.Test.YtpfdjmffgbbmdaaGreatDoorWord
import Derived.Test.YtpfdjmffgbbmdaaGreatDoorP1
import Derived.Test.YtpfdjmffgbbmdaaGreatDoorHoldB
namespace Go.Proofs.YtpfdjmffgbbmdaaGreatDoor
open Go.RowKit
set_option linter.unusedVariables false
set_option maxRecDepth 100000
/-- The program's session in memory. -/
structure SsI (w : World) (b : Nat) (t e s : Int) (a : Option Addr) (n c : Nat) : Prop where
  c0 : w.cell? ⟨b, 0, none⟩ = some (.int .i64 t)
  c1 : w.cell? ⟨b, 1, none⟩ = some (.slice a n c)
  c2 : w.cell? ⟨b, 2, none⟩ = some (.int .i64 e)
  c3 : w.cell? ⟨b, 3, none⟩ = some (.int .i64 10)
  c4 : w.cell? ⟨b, 4, none⟩ = some (.int .i64 s)
  f : ∀ i, i < 5 → w.frozen? ⟨b, i, none⟩ = false
  lt : b < w.heap.size
theorem SsI.b {w w' : World} {b : Nat} {t e s : Int} {a : Option Addr} {n c : Nat} (h : SsI w b t e s a n c) (hb : Below w.heap.size w w') : SsI w' b t e s a n c :=
  ⟨(hb.cell (p := ⟨b, 0, none⟩) h.lt).trans h.c0, (hb.cell (p := ⟨b, 1, none⟩) h.lt).trans h.c1, (hb.cell (p := ⟨b, 2, none⟩) h.lt).trans h.c2, (hb.cell (p := ⟨b, 3, none⟩) h.lt).trans h.c3, (hb.cell (p := ⟨b, 4, none⟩) h.lt).trans h.c4, fun i hi => (hb.frozen (p := ⟨b, i, none⟩) h.lt).trans (h.f i hi), Nat.lt_of_lt_of_le h.lt hb.size⟩
theorem cell_oth {w : World} {b i j : Nat} (v : Value) (h : i ≠ j) : (w.setCell ⟨b, j, none⟩ v).cell? ⟨b, i, none⟩ = w.cell? ⟨b, i, none⟩ :=
  World.cell?_setCell_other _ _ _ _ (fun e => by injection e with e1 e2 _; omega)
theorem gb_b {w w1 w2 : World} {r : Option Nat} (h : w.grownBy w1 r) (hb : Below w1.heap.size w1 w2) : w.grownBy w2 r :=
  ⟨hb.os.trans h.os, hb.tape.trans h.tape, hb.output.trans h.output, Nat.le_trans h.size hb.size, fun k hk hr => (hb.block k (Nat.lt_of_lt_of_le hk h.size)).trans (h.block k hk hr)⟩
theorem gb_refl (w : World) (r : Option Nat) : w.grownBy w r := ⟨rfl, rfl, rfl, Nat.le_refl _, fun _ _ _ => rfl⟩
theorem gb_below {w w1 : World} (r : Option Nat) (hb : Below w.heap.size w w1) : w.grownBy w1 r := gb_b (gb_refl w r) hb
theorem gb_trans {w w1 w2 : World} {r : Option Nat} (h : w.grownBy w1 r) (k : w1.grownBy w2 r) : w.grownBy w2 r :=
  ⟨k.os.trans h.os, k.tape.trans h.tape, k.output.trans h.output, Nat.le_trans h.size k.size, fun i hi hr => (k.block i (Nat.lt_of_lt_of_le hi h.size) hr).trans (h.block i hi hr)⟩
theorem gb_set {w w1 : World} {b : Nat} (h : w.grownBy w1 (some b)) (i : Nat) (v : Value) : w.grownBy (w1.setCell ⟨b, i, none⟩ v) (some b) :=
  gb_trans h ⟨rfl, rfl, rfl, by simp, fun k _ hr => Below.heap_setCell _ _ _ _ (fun e => hr (by rw [e]))⟩
theorem below_gb {B : Nat} {w w1 w2 : World} {b : Nat} (h : Below B w w1) (hg : w1.grownBy w2 (some b)) (hB : B ≤ b) (hs : B ≤ w1.heap.size) : Below B w w2 := h.grown hg hs (fun k hk => by injection hk with hk; omega)
theorem SsI.time {w : World} {b : Nat} {t e s : Int} {a : Option Addr} {n c : Nat} (h : SsI w b t e s a n c) (t' : Int) : SsI (w.setCell ⟨b, 0, none⟩ (.int .i64 t')) b t' e s a n c :=
  ⟨World.cell?_setCell_same _ _ _ h.c0, (cell_oth _ (by decide)).trans h.c1, (cell_oth _ (by decide)).trans h.c2, (cell_oth _ (by decide)).trans h.c3, (cell_oth _ (by decide)).trans h.c4, fun i hi => by simpa using h.f i hi, by simpa using h.lt⟩
theorem SsI.list {w : World} {b : Nat} {t e s : Int} {a : Option Addr} {n c : Nat} (h : SsI w b t e s a n c) (a' : Option Addr) (n' c' : Nat) : SsI (w.setCell ⟨b, 1, none⟩ (.slice a' n' c')) b t e s a' n' c' :=
  ⟨(cell_oth _ (by decide)).trans h.c0, World.cell?_setCell_same _ _ _ h.c1, (cell_oth _ (by decide)).trans h.c2, (cell_oth _ (by decide)).trans h.c3, (cell_oth _ (by decide)).trans h.c4, fun i hi => by simpa using h.f i hi, by simpa using h.lt⟩
theorem SsI.state {w : World} {b : Nat} {t e s : Int} {a : Option Addr} {n c : Nat} (h : SsI w b t e s a n c) (e' s' : Int) : SsI (((w.setCell ⟨b, 2, none⟩ (.int .i64 e')).setCell ⟨b, 3, none⟩ (.int .i64 10)).setCell ⟨b, 4, none⟩ (.int .i64 s')) b t e' s' a n c :=
  ⟨((cell_oth _ (by decide)).trans ((cell_oth _ (by decide)).trans (cell_oth _ (by decide)))).trans h.c0, ((cell_oth _ (by decide)).trans ((cell_oth _ (by decide)).trans (cell_oth _ (by decide)))).trans h.c1, (cell_oth _ (by decide)).trans ((cell_oth _ (by decide)).trans (World.cell?_setCell_same _ _ _ h.c2)), (cell_oth _ (by decide)).trans (World.cell?_setCell_same _ _ _ ((cell_oth _ (by decide)).trans h.c3)), World.cell?_setCell_same _ _ _ ((cell_oth _ (by decide)).trans ((cell_oth _ (by decide)).trans h.c4)), fun i hi => by simpa using h.f i hi, by simpa using h.lt⟩
theorem keepSs {w w1 w2 : World} {b : Nat} {t e s : Int} (hb : Below w1.heap.size w1 w2) (h : Below w.heap.size w w1 ∧ b < w1.heap.size ∧ w1.cell? ⟨b, 0, none⟩ = some (.int .i64 t) ∧ w1.cell? ⟨b, 2, none⟩ = some (.int .i64 e) ∧ w1.cell? ⟨b, 3, none⟩ = some (.int .i64 10) ∧ w1.cell? ⟨b, 4, none⟩ = some (.int .i64 s)) : Below w.heap.size w w2 ∧ b < w2.heap.size ∧ w2.cell? ⟨b, 0, none⟩ = some (.int .i64 t) ∧ w2.cell? ⟨b, 2, none⟩ = some (.int .i64 e) ∧ w2.cell? ⟨b, 3, none⟩ = some (.int .i64 10) ∧ w2.cell? ⟨b, 4, none⟩ = some (.int .i64 s) :=
  ⟨h.1.trans (hb.mono h.1.size), Nat.lt_of_lt_of_le h.2.1 hb.size, (hb.cell (p := ⟨b, 0, none⟩) h.2.1).trans h.2.2.1, (hb.cell (p := ⟨b, 2, none⟩) h.2.1).trans h.2.2.2.1, (hb.cell (p := ⟨b, 3, none⟩) h.2.1).trans h.2.2.2.2.1, (hb.cell (p := ⟨b, 4, none⟩) h.2.1).trans h.2.2.2.2.2⟩
set_option maxHeartbeats 2000000 in
theorem level_impl (b : Nat) (t e s : Int) (a : Option Addr) (n c : Nat) (w : World) (h : SsI w b t e s a n c) (hk : H.ok e 10 s t = true) (hT : Tb w) : Calls Tryz.prog 76 #[.pointer (some ⟨b, 0, none⟩)] w fun r w' => r = .returned (.string (S.mk (Lib.decDigits (H.la e 10 s t).toNat))) ∧ Below w.heap.size w w' := by
  have hl := H.lv_bd e 10 s t
  have hla := H.la_yes hk
  have HT := Lib.hid hT
  obtain ⟨c0, -, c2, c3, c4, -, lt⟩ := h
  have K := fun w' => LA_impl e 10 s t w'
  rw [← hla] at hl
  generalize H.la e 10 s t = L at *
  have I := fun w' (hw : Below w.heap.size w w' ∧ b < w'.heap.size ∧ w'.cell? ⟨b, 0, none⟩ = some (.int .i64 t) ∧ w'.cell? ⟨b, 2, none⟩ = some (.int .i64 e) ∧ w'.cell? ⟨b, 3, none⟩ = some (.int .i64 10) ∧ w'.cell? ⟨b, 4, none⟩ = some (.int .i64 s)) => itoa_at L (by omega) (by omega) w' (hT.b hw.1)
  have HK := Lib.hid K
  have HI := Lib.hid I
  clear K I hT hl hla hk
  go_enter Tryz.func76, Tryz.ntmps76
  go_wp2_with fail
  refine wp_region_held_drew (S := (fun w' => Below w.heap.size w w' ∧ b < w'.heap.size ∧ w'.cell? ⟨b, 0, none⟩ = some (.int .i64 t) ∧ w'.cell? ⟨b, 2, none⟩ = some (.int .i64 e) ∧ w'.cell? ⟨b, 3, none⟩ = some (.int .i64 10) ∧ w'.cell? ⟨b, 4, none⟩ = some (.int .i64 s))) (by kernel_rfl) (⟨(Below.refl _ _).drew, by simpa using lt, by simpa using c0, by simpa using c2, by simpa using c3, by simpa using c4⟩) (fun hHeld => ?_)
  refine wpAnyH_take (i := 0) (v := ?_) rfl (by kernel_rfl) (by kernel_rfl) (by kernel_rfl) (fun _ _ _ h => h) (Or.inl ⟨by rfl, ?_⟩) (by assumption) ?_
  rotate_left
  · intro w hSw
    (try dsimp only at hSw)
    go_simp
    all_goals with_reducible rfl
  try simp only [Act.put, List.setIfInBounds_toArray, List.set_cons_zero, List.set_cons_succ, List.getElem_toArray, List.getElem_cons_zero]
  refine wpAnyH_take (i := 1) (v := ?_) rfl (by kernel_rfl) (by kernel_rfl) (by kernel_rfl) (fun _ _ _ h => h) (Or.inl ⟨by rfl, ?_⟩) (by assumption) ?_
  rotate_left
  · intro w hSw
    (try dsimp only at hSw)
    go_simp
    all_goals with_reducible rfl
  try simp only [Act.put, List.setIfInBounds_toArray, List.set_cons_zero, List.set_cons_succ, List.getElem_toArray, List.getElem_cons_zero, List.getElem_cons_succ]
  refine wpAnyH_take (i := 2) (v := ?_) rfl (by kernel_rfl) (by kernel_rfl) (by kernel_rfl) (fun _ _ _ h => h) (Or.inl ⟨by rfl, ?_⟩) (by assumption) ?_
  rotate_left
  · intro w hSw
    (try dsimp only at hSw)
    go_simp
    all_goals with_reducible rfl
  try simp only [Act.put, List.setIfInBounds_toArray, List.set_cons_zero, List.set_cons_succ, List.getElem_toArray, List.getElem_cons_zero, List.getElem_cons_succ]
  refine wpAnyH_take (i := 3) (v := ?_) rfl (by kernel_rfl) (by kernel_rfl) (by kernel_rfl) (fun _ _ _ h => h) (Or.inl ⟨by rfl, ?_⟩) (by assumption) ?_
  rotate_left
  · intro w hSw
    (try dsimp only at hSw)
    go_simp
    all_goals with_reducible rfl
  try simp only [Act.put, List.setIfInBounds_toArray, List.set_cons_zero, List.set_cons_succ, List.getElem_toArray, List.getElem_cons_zero, List.getElem_cons_succ]
  refine wpAnyH_take (i := 4) (v := ?_) rfl (by kernel_rfl) (by kernel_rfl) (by kernel_rfl) (fun _ _ _ h => h) (Or.inl ⟨by rfl, ?_⟩) (by assumption) ?_
  rotate_left
  · intro w hSw
    (try dsimp only at hSw)
    go_simp
    all_goals with_reducible rfl
  try simp only [Act.put, List.setIfInBounds_toArray, List.set_cons_zero, List.set_cons_succ, List.getElem_toArray, List.getElem_cons_zero, List.getElem_cons_succ]
  refine wpAnyH_take (i := 5) (v := ?_) rfl (by kernel_rfl) (by kernel_rfl) (by kernel_rfl) (fun _ _ _ h => h) (Or.inl ⟨by rfl, ?_⟩) (by assumption) ?_
  rotate_left
  · intro w hSw
    (try dsimp only at hSw)
    go_simp
    all_goals with_reducible rfl
  try simp only [Act.put, List.setIfInBounds_toArray, List.set_cons_zero, List.set_cons_succ, List.getElem_toArray, List.getElem_cons_zero, List.getElem_cons_succ]
  refine wpAnyH_take (i := 6) (v := ?_) rfl (by kernel_rfl) (by kernel_rfl) (by kernel_rfl) (fun _ _ _ h => h) (Or.inl ⟨by rfl, ?_⟩) (by assumption) ?_
  rotate_left
  · intro w hSw
    (try dsimp only at hSw)
    go_simp
    all_goals with_reducible rfl
  try simp only [Act.put, List.setIfInBounds_toArray, List.set_cons_zero, List.set_cons_succ, List.getElem_toArray, List.getElem_cons_zero, List.getElem_cons_succ]
  refine wpAnyH_take (i := 7) (v := ?_) rfl (by kernel_rfl) (by kernel_rfl) (by kernel_rfl) (fun _ _ _ h => h) (Or.inl ⟨by rfl, ?_⟩) (by assumption) ?_
  rotate_left
  · intro w hSw
    (try dsimp only at hSw)
    go_simp
    all_goals with_reducible rfl
  try simp only [Act.put, List.setIfInBounds_toArray, List.set_cons_zero, List.set_cons_succ, List.getElem_toArray, List.getElem_cons_zero, List.getElem_cons_succ]
  refine wpAnyH_ready (rs := [8]) (by kernel_rfl) (by simp) ?_
  refine AllReadyH.cons rfl (fun K hK => ?_) AllReadyH.nil
  go_simp
  (go_at_call 98; refine (HK.out _).mono ?_; rintro e w4 ⟨rfl, hb⟩)
  refine hK.out _ _ (keepSs hb (by assumption)) (fun hHeld => ?_)
  clear hK K
  try simp only [Act.put, List.setIfInBounds_toArray, List.set_cons_zero, List.set_cons_succ, List.getElem_toArray, List.getElem_cons_zero, List.getElem_cons_succ]
  refine wpAnyH_ready (rs := [9]) (by kernel_rfl) (by simp) ?_
  refine AllReadyH.cons rfl (fun K hK => ?_) AllReadyH.nil
  go_simp
  (go_at_call 31; refine (HI.out _ (by assumption)).mono ?_; rintro e w5 ⟨rfl, hb⟩)
  refine hK.out _ _ (keepSs hb (by assumption)) (fun hHeld => ?_)
  clear hK K
  try simp only [Act.put, List.setIfInBounds_toArray, List.set_cons_zero, List.set_cons_succ, List.getElem_toArray, List.getElem_cons_zero, List.getElem_cons_succ]
  refine wpAnyH_take (i := 10) (v := ?_) rfl (by kernel_rfl) (by kernel_rfl) (by kernel_rfl) (fun _ _ _ h => h) (Or.inl ⟨by rfl, ?_⟩) (by assumption) ?_
  rotate_left
  · intro w hSw
    (try dsimp only at hSw)
    go_simp
    all_goals with_reducible rfl
  try simp only [Act.put, List.setIfInBounds_toArray, List.set_cons_zero, List.set_cons_succ, List.getElem_toArray, List.getElem_cons_zero, List.getElem_cons_succ]
  refine wpAnyH_done (by kernel_rfl) ?_ _
  go_wp2
  go_ret
  exact ⟨rfl, hHeld.1⟩
theorem wait_impl_yes (b : Nat) (t e s k : Int) (a : Option Addr) (n c : Nat) (w : World) (h : SsI w b t e s a n c) (ht : 0 ≤ t ∧ t ≤ 3786479999) (hk : 0 ≤ k ∧ t + k ≤ 3786479999) : Calls Tryz.prog 78 #[.pointer (some ⟨b, 0, none⟩), .int .i64 k] w fun r w' => r = .returned (.string { data := #[111, 107] }) ∧ w' = w.setCell ⟨b, 0, none⟩ (.int .i64 (t + k)) := by
  have g : inR k 0 (3786479999 - t) = true := inR_yes (by omega)
  have f0 := h.f 0 (by decide)
  obtain ⟨c0, -, -, -, -, -, lt⟩ := h
  have K := fun w' => inR_impl k 0 (3786479999 - t) w'
  rw [g] at K
  have HK := Lib.hid K
  clear K g
  go_enter Tryz.func78, Tryz.ntmps78
  go_wp2_with (go_at_call 33; refine (HK.out _).mono ?_; rintro e w1 ⟨rfl, rfl⟩)
  go_ret
  exact ⟨rfl, rfl⟩
theorem wait_impl_no (b : Nat) (t e s k : Int) (a : Option Addr) (n c : Nat) (w : World) (h : SsI w b t e s a n c) (ht : 0 ≤ t ∧ t ≤ 3786479999) (hk : ¬ (0 ≤ k ∧ t + k ≤ 3786479999)) : Calls Tryz.prog 78 #[.pointer (some ⟨b, 0, none⟩), .int .i64 k] w fun r w' => r = .returned (.string { data := #[110, 111] }) ∧ w = w' := by
  have g : inR k 0 (3786479999 - t) = false := inR_no (by omega)
  obtain ⟨c0, -, -, -, -, -, lt⟩ := h
  have K := fun w' => inR_impl k 0 (3786479999 - t) w'
  rw [g] at K
  have HK := Lib.hid K
  clear K g
  go_enter Tryz.func78, Tryz.ntmps78
  go_wp2_with (go_at_call 33; refine (HK.out _).mono ?_; rintro e w1 ⟨rfl, rfl⟩)
  go_ret
  exact ⟨rfl, rfl⟩
theorem field_fix0 (y m d s n : Int) (W : World) : (Instr.field 31 (.agg #[.int .i64 y, .int .i64 m, .int .i64 d, .int .i64 s, .int .i64 n]) 0).run Tryz.prog W = .ok (.agg #[.int .i64 y, .int .i64 m, .int .i64 d]) W := by
  first
  | rfl
  | (simp [go_sem, Tryz.underlying31]; done)
theorem keepD {w w1 w2 : World} {D : Nat} {y m d : Int} (hb : Below w1.heap.size w1 w2) (h : Below w.heap.size w w1 ∧ D < w1.heap.size ∧ w1.cell? ⟨D, 0, none⟩ = some (.int .i64 y) ∧ w1.cell? ⟨D, 1, none⟩ = some (.int .i64 m) ∧ w1.cell? ⟨D, 2, none⟩ = some (.int .i64 d)) : Below w.heap.size w w2 ∧ D < w2.heap.size ∧ w2.cell? ⟨D, 0, none⟩ = some (.int .i64 y) ∧ w2.cell? ⟨D, 1, none⟩ = some (.int .i64 m) ∧ w2.cell? ⟨D, 2, none⟩ = some (.int .i64 d) :=
  ⟨h.1.trans (hb.mono h.1.size), Nat.lt_of_lt_of_le h.2.1 hb.size, (hb.cell (p := ⟨D, 0, none⟩) h.2.1).trans h.2.2.1, (hb.cell (p := ⟨D, 1, none⟩) h.2.1).trans h.2.2.2.1, (hb.cell (p := ⟨D, 2, none⟩) h.2.1).trans h.2.2.2.2⟩
theorem size_app (a b : ByteArray) : (a ++ b).size = a.size + b.size := by rw [← S.size_lst, S.lst_append, List.length_append, S.size_lst, S.size_lst]
theorem date_app (a b c : List UInt8) : S.mk a ++ { data := #[45] } ++ S.mk b ++ { data := #[45] } ++ S.mk c = S.mk (a ++ [45] ++ b ++ [45] ++ c) := by
  rw [show ({ data := #[45] } : ByteArray) = S.mk [45] from rfl, mk_app, mk_app, mk_app, mk_app]
set_option maxHeartbeats 4000000 in
theorem date_impl (b : Nat) (t e s : Int) (a : Option Addr) (n c : Nat) (w : World) (h : SsI w b t e s a n c) (ht : 0 ≤ t ∧ t ≤ 3786479999) (hT : Tb w) : Calls Tryz.prog 77 #[.pointer (some ⟨b, 0, none⟩)] w fun r w' => r = .returned (.string (S.mk (Lib.decDigits (X.fy t 4).toNat ++ [45] ++ X.d2 (X.fm t 4).toNat ++ [45] ++ X.d2 (X.fd t 4).toNat))) ∧ Below w.heap.size w w' := by
  have hk : X.fok t 4 = true := X.fok_mk ht (by omega)
  have hv := X.f_vf_iff t 4
  rw [hk] at hv
  obtain ⟨hvd, -, -⟩ := X.vf_of hv
  obtain ⟨b1, b2, b3⟩ := X.vld_bd hvd
  obtain ⟨c0, -, -, -, -, -, lt⟩ := h
  have F := fun w' => fx_impl t 4 w'
  generalize X.fy t 4 = y at *
  generalize X.fm t 4 = m at *
  generalize X.fd t 4 = d at *
  generalize X.fs t 4 = u at *
  generalize X.fn t 4 = v at *
  have I0 := fun w' (hw : Tb w') => itoa_at y (by omega) (by omega) w' hw
  have I1 := fun w' => two_impl m (by omega) (by omega) w'
  have I2 := fun w' => two_impl d (by omega) (by omega) w'
  have n0 : (S.mk (Lib.decDigits y.toNat)).size ≤ 4 := by rw [S.size_mk]; exact X.dec_lenk 3 _ (by omega)
  have n1 : (S.mk (X.d2 m.toNat)).size = 2 := by rw [S.size_mk]; rfl
  have n2 : (S.mk (X.d2 d.toNat)).size = 2 := by rw [S.size_mk]; rfl
  have HE := Lib.hid (date_app (Lib.decDigits y.toNat) (X.d2 m.toNat) (X.d2 d.toNat))
  generalize S.mk (Lib.decDigits y.toNat) = p at *
  generalize S.mk (X.d2 m.toNat) = p1 at *
  generalize S.mk (X.d2 d.toNat) = p2 at *
  have z1 : ({ data := #[45] } : ByteArray).size = 1 := rfl
  have n3 : (p ++ { data := #[45] }).size ≤ 5 := by rw [size_app, z1]; omega
  have n4 : (p ++ { data := #[45] } ++ p1).size ≤ 7 := by rw [size_app]; omega
  have n5 : (p ++ { data := #[45] } ++ p1 ++ { data := #[45] }).size ≤ 8 := by rw [size_app, z1]; omega
  have hfld := fun W => field_fix0 y m d u v W
  have HF := Lib.hid F
  have HT := Lib.hid hT
  have H1 := Lib.hid I1
  have H2 := Lib.hid I2
  clear F hT I1 I2 hk hv hvd b1 b2 b3
  go_enter Tryz.func77, Tryz.ntmps77
  go_wp2_with fail
  refine (HF.out _).mono ?_
  rintro r w2 ⟨rfl, hb⟩
  have g2 : Below w.heap.size w (w2.alloc (.cells #[.int .i64 y, .int .i64 m, .int .i64 d] 29)) := hb.alloc hb.size _
  clear hb c0
  go_wp2_with fail
  have e0 : (w2.alloc (.cells #[.int .i64 y, .int .i64 m, .int .i64 d] 29)).cell? ⟨w2.heap.size, 0, none⟩ = some (.int .i64 y) := by simp
  have e1 : (w2.alloc (.cells #[.int .i64 y, .int .i64 m, .int .i64 d] 29)).cell? ⟨w2.heap.size, 1, none⟩ = some (.int .i64 m) := by simp
  have e2 : (w2.alloc (.cells #[.int .i64 y, .int .i64 m, .int .i64 d] 29)).cell? ⟨w2.heap.size, 2, none⟩ = some (.int .i64 d) := by simp
  have el : w2.heap.size < (w2.alloc (.cells #[.int .i64 y, .int .i64 m, .int .i64 d] 29)).heap.size := by simp
  generalize w2.alloc (.cells #[.int .i64 y, .int .i64 m, .int .i64 d] 29) = W at *
  generalize w2.heap.size = D at *
  have H0 := Lib.hid (fun w' (hw : Below w.heap.size w w' ∧ D < w'.heap.size ∧ w'.cell? ⟨D, 0, none⟩ = some (.int .i64 y) ∧ w'.cell? ⟨D, 1, none⟩ = some (.int .i64 m) ∧ w'.cell? ⟨D, 2, none⟩ = some (.int .i64 d)) => I0 w' (HT.out.b hw.1))
  clear I0
  refine wp_region_held_drew (S := (fun w' => Below w.heap.size w w' ∧ D < w'.heap.size ∧ w'.cell? ⟨D, 0, none⟩ = some (.int .i64 y) ∧ w'.cell? ⟨D, 1, none⟩ = some (.int .i64 m) ∧ w'.cell? ⟨D, 2, none⟩ = some (.int .i64 d))) (by kernel_rfl) (⟨g2.drew, by simpa using el, by simpa using e0, by simpa using e1, by simpa using e2⟩) (fun hHeld => ?_)
  refine wpAnyH_take (i := 0) (v := ?_) rfl (by kernel_rfl) (by kernel_rfl) (by kernel_rfl) (fun _ _ _ h => h) (Or.inl ⟨by rfl, ?_⟩) (by assumption) ?_
  rotate_left
  · intro w hSw
    (try dsimp only at hSw)
    go_simp
    all_goals with_reducible rfl
  try simp only [Act.put, List.setIfInBounds_toArray, List.set_cons_zero, List.set_cons_succ, List.getElem_toArray, List.getElem_cons_zero]
  refine wpAnyH_take (i := 1) (v := ?_) rfl (by kernel_rfl) (by kernel_rfl) (by kernel_rfl) (fun _ _ _ h => h) (Or.inl ⟨by rfl, ?_⟩) (by assumption) ?_
  rotate_left
  · intro w hSw
    (try dsimp only at hSw)
    go_simp
    all_goals with_reducible rfl
  try simp only [Act.put, List.setIfInBounds_toArray, List.set_cons_zero, List.set_cons_succ, List.getElem_toArray, List.getElem_cons_zero, List.getElem_cons_succ]
  refine wpAnyH_take (i := 4) (v := ?_) rfl (by kernel_rfl) (by kernel_rfl) (by kernel_rfl) (fun _ _ _ h => h) (Or.inl ⟨by rfl, ?_⟩) (by assumption) ?_
  rotate_left
  · intro w hSw
    (try dsimp only at hSw)
    go_simp
    all_goals with_reducible rfl
  try simp only [Act.put, List.setIfInBounds_toArray, List.set_cons_zero, List.set_cons_succ, List.getElem_toArray, List.getElem_cons_zero, List.getElem_cons_succ]
  refine wpAnyH_take (i := 5) (v := ?_) rfl (by kernel_rfl) (by kernel_rfl) (by kernel_rfl) (fun _ _ _ h => h) (Or.inl ⟨by rfl, ?_⟩) (by assumption) ?_
  rotate_left
  · intro w hSw
    (try dsimp only at hSw)
    go_simp
    all_goals with_reducible rfl
  try simp only [Act.put, List.setIfInBounds_toArray, List.set_cons_zero, List.set_cons_succ, List.getElem_toArray, List.getElem_cons_zero, List.getElem_cons_succ]
  refine wpAnyH_take (i := 9) (v := ?_) rfl (by kernel_rfl) (by kernel_rfl) (by kernel_rfl) (fun _ _ _ h => h) (Or.inl ⟨by rfl, ?_⟩) (by assumption) ?_
  rotate_left
  · intro w hSw
    (try dsimp only at hSw)
    go_simp
    all_goals with_reducible rfl
  try simp only [Act.put, List.setIfInBounds_toArray, List.set_cons_zero, List.set_cons_succ, List.getElem_toArray, List.getElem_cons_zero, List.getElem_cons_succ]
  refine wpAnyH_take (i := 10) (v := ?_) rfl (by kernel_rfl) (by kernel_rfl) (by kernel_rfl) (fun _ _ _ h => h) (Or.inl ⟨by rfl, ?_⟩) (by assumption) ?_
  rotate_left
  · intro w hSw
    (try dsimp only at hSw)
    go_simp
    all_goals with_reducible rfl
  try simp only [Act.put, List.setIfInBounds_toArray, List.set_cons_zero, List.set_cons_succ, List.getElem_toArray, List.getElem_cons_zero, List.getElem_cons_succ]
  refine wpAnyH_ready (rs := [2]) (by kernel_rfl) (by simp) ?_
  refine AllReadyH.cons rfl (fun K hK => ?_) AllReadyH.nil
  go_simp
  (go_at_call 31; refine (H0.out _ (by assumption)).mono ?_; rintro e w4 ⟨rfl, hb⟩)
  refine hK.out _ _ (keepD hb (by assumption)) (fun hHeld => ?_)
  clear hK K
  try simp only [Act.put, List.setIfInBounds_toArray, List.set_cons_zero, List.set_cons_succ, List.getElem_toArray, List.getElem_cons_zero, List.getElem_cons_succ]
  refine wpAnyH_take (i := 3) (v := .string (p ++ { data := #[45] })) rfl (by kernel_rfl) (by kernel_rfl) (by kernel_rfl) (fun _ _ _ h => h) (Or.inl ⟨by rfl, ?_⟩) (by assumption) ?_
  · intro w hSw
    (try dsimp only at hSw)
    go_simp
    all_goals (first | done | omega)
  try simp only [Act.put, List.setIfInBounds_toArray, List.set_cons_zero, List.set_cons_succ, List.getElem_toArray, List.getElem_cons_zero, List.getElem_cons_succ]
  refine wpAnyH_ready (rs := [6]) (by kernel_rfl) (by simp) ?_
  refine AllReadyH.cons rfl (fun K hK => ?_) AllReadyH.nil
  go_simp
  (go_at_call 30; refine (H1.out _).mono ?_; rintro e w5 ⟨rfl, hb⟩)
  refine hK.out _ _ (keepD hb (by assumption)) (fun hHeld => ?_)
  clear hK K
  try simp only [Act.put, List.setIfInBounds_toArray, List.set_cons_zero, List.set_cons_succ, List.getElem_toArray, List.getElem_cons_zero, List.getElem_cons_succ]
  refine wpAnyH_take (i := 7) (v := .string (p ++ { data := #[45] } ++ p1)) rfl (by kernel_rfl) (by kernel_rfl) (by kernel_rfl) (fun _ _ _ h => h) (Or.inl ⟨by rfl, ?_⟩) (by assumption) ?_
  · intro w hSw
    (try dsimp only at hSw)
    go_simp
    all_goals (first | done | omega)
  try simp only [Act.put, List.setIfInBounds_toArray, List.set_cons_zero, List.set_cons_succ, List.getElem_toArray, List.getElem_cons_zero, List.getElem_cons_succ]
  refine wpAnyH_take (i := 8) (v := .string (p ++ { data := #[45] } ++ p1 ++ { data := #[45] })) rfl (by kernel_rfl) (by kernel_rfl) (by kernel_rfl) (fun _ _ _ h => h) (Or.inl ⟨by rfl, ?_⟩) (by assumption) ?_
  · intro w hSw
    (try dsimp only at hSw)
    go_simp
    all_goals (first | done | omega)
  try simp only [Act.put, List.setIfInBounds_toArray, List.set_cons_zero, List.set_cons_succ, List.getElem_toArray, List.getElem_cons_zero, List.getElem_cons_succ]
  refine wpAnyH_ready (rs := [11]) (by kernel_rfl) (by simp) ?_
  refine AllReadyH.cons rfl (fun K hK => ?_) AllReadyH.nil
  go_simp
  (go_at_call 30; refine (H2.out _).mono ?_; rintro e w6 ⟨rfl, hb⟩)
  refine hK.out _ _ (keepD hb (by assumption)) (fun hHeld => ?_)
  clear hK K
  try simp only [Act.put, List.setIfInBounds_toArray, List.set_cons_zero, List.set_cons_succ, List.getElem_toArray, List.getElem_cons_zero, List.getElem_cons_succ]
  refine wpAnyH_take (i := 12) (v := .string (p ++ { data := #[45] } ++ p1 ++ { data := #[45] } ++ p2)) rfl (by kernel_rfl) (by kernel_rfl) (by kernel_rfl) (fun _ _ _ h => h) (Or.inl ⟨by rfl, ?_⟩) (by assumption) ?_
  · intro w hSw
    (try dsimp only at hSw)
    go_simp
    all_goals (first | done | omega)
  try simp only [Act.put, List.setIfInBounds_toArray, List.set_cons_zero, List.set_cons_succ, List.getElem_toArray, List.getElem_cons_zero, List.getElem_cons_succ]
  refine wpAnyH_take (i := 13) (v := ?_) rfl (by kernel_rfl) (by kernel_rfl) (by kernel_rfl) (fun _ _ _ h => h) (Or.inl ⟨by rfl, ?_⟩) (by assumption) ?_
  rotate_left
  · intro w hSw
    (try dsimp only at hSw)
    go_simp
    all_goals with_reducible rfl
  try simp only [Act.put, List.setIfInBounds_toArray, List.set_cons_zero, List.set_cons_succ, List.getElem_toArray, List.getElem_cons_zero, List.getElem_cons_succ]
  refine wpAnyH_done (by kernel_rfl) ?_ _
  go_wp2
  go_ret
  exact ⟨by rw [← HE.out]; rfl, hHeld.1⟩
set_option maxHeartbeats 4000000 in
theorem fix_impl_no (b : Nat) (t e s : Int) (a : Option Addr) (n c : Nat) (x : ByteArray) (hx : x.size ≤ 1048576) (w : World) (h : SsI w b t e s a n c) (hT : Tb w) (hk : ¬ (X.pB x = true ∧ 4 ≤ X.pn x ∧ t ≤ X.cv (X.py x) (X.pm x) (X.pd x) (X.ps x) (X.pn x))) : Calls Tryz.prog 43 #[.pointer (some ⟨b, 0, none⟩), .string x] w fun r w' => r = .returned (.string { data := #[110, 111] }) ∧ Below w.heap.size w w' := by
  have P := pf_impl x hx w hT
  generalize X.py x = y at *
  generalize X.pm x = m at *
  generalize X.pd x = d at *
  generalize X.ps x = u at *
  generalize X.pn x = v at *
  have C := fun w' => cv_impl y m d u v w'
  generalize X.cv y m d u v = V at *
  have HC := Lib.hid C
  clear C hT
  rcases hB : X.pB x with _ | _
  · rw [hB] at P
    have HP := Lib.hid P
    clear P hk hB
    go_enter Tryz.func43, Tryz.ntmps43
    go_wp2_with fail
    refine (HP.out).mono ?_
    rintro r w2 ⟨rfl, hb⟩
    have k2 := C5.new w2 y m d u v 31
    have g2 : Below w.heap.size w (w2.alloc (.cells #[.int .i64 y, .int .i64 m, .int .i64 d, .int .i64 u, .int .i64 v] 31)) := hb.alloc hb.size _
    have h2 := h.b g2
    clear hb h
    obtain ⟨d0, -, d2, d3, d4, df, dl⟩ := id h2
    obtain ⟨c0, c1, c2, c3, c4, cl⟩ := id k2
    go_wp2
    go_ret
    exact ⟨rfl, g2⟩
  rw [hB] at P hk
  have HP := Lib.hid P
  clear P hB
  by_cases h4 : v < 4
  · clear hk
    go_enter Tryz.func43, Tryz.ntmps43
    go_wp2_with fail
    refine (HP.out).mono ?_
    rintro r w2 ⟨rfl, hb⟩
    have k2 := C5.new w2 y m d u v 31
    have g2 : Below w.heap.size w (w2.alloc (.cells #[.int .i64 y, .int .i64 m, .int .i64 d, .int .i64 u, .int .i64 v] 31)) := hb.alloc hb.size _
    have h2 := h.b g2
    clear hb h
    obtain ⟨d0, -, d2, d3, d4, df, dl⟩ := id h2
    obtain ⟨c0, c1, c2, c3, c4, cl⟩ := id k2
    go_wp2
    go_ret
    exact ⟨rfl, g2⟩
  have hV : V < t := by
    by_cases q : V < t
    · exact q
    · exact absurd ⟨rfl, by omega, by omega⟩ hk
  clear hk
  go_enter Tryz.func43, Tryz.ntmps43
  go_wp2_with fail
  refine (HP.out).mono ?_
  rintro r w2 ⟨rfl, hb⟩
  have k2 := C5.new w2 y m d u v 31
  have g2 : Below w.heap.size w (w2.alloc (.cells #[.int .i64 y, .int .i64 m, .int .i64 d, .int .i64 u, .int .i64 v] 31)) := hb.alloc hb.size _
  have h2 := h.b g2
  clear hb h
  obtain ⟨d0, -, d2, d3, d4, df, dl⟩ := id h2
  obtain ⟨c0, c1, c2, c3, c4, cl⟩ := id k2
  go_wp2_with fail
  generalize w2.alloc (.cells #[.int .i64 y, .int .i64 m, .int .i64 d, .int .i64 u, .int .i64 v] 31) = W at *
  generalize w2.heap.size = D at *
  refine (HC.out _).mono ?_
  rintro r w3 ⟨rfl, hb⟩
  have g3 := g2.trans (hb.mono g2.size)
  have h3 := h2.b hb
  clear hb g2 h2 c0 c1 c2 c3 c4 cl k2 d0 d2 d3 d4 df dl
  obtain ⟨d0, d1, d2, d3, d4, df, dl⟩ := id h3
  go_wp2
  go_ret
  exact ⟨rfl, g3⟩
set_option maxHeartbeats 4000000 in
theorem fix_impl_yes (b : Nat) (t e s : Int) (a : Option Addr) (n c : Nat) (x : ByteArray) (hx : x.size ≤ 1048576) (w : World) (h : SsI w b t e s a n c) (hT : Tb w) (hk : X.pB x = true ∧ 4 ≤ X.pn x ∧ t ≤ X.cv (X.py x) (X.pm x) (X.pd x) (X.ps x) (X.pn x)) (hok : H.ok e 10 s t = true) : Calls Tryz.prog 43 #[.pointer (some ⟨b, 0, none⟩), .string x] w fun r w' => r = .returned (.string { data := #[111, 107] }) ∧ SsI w' b (X.cv (X.py x) (X.pm x) (X.pd x) (X.ps x) (X.pn x)) (H.se e 10 s (X.cv (X.py x) (X.pm x) (X.pd x) (X.ps x) (X.pn x)) 100) (H.ss e 10 s (X.cv (X.py x) (X.pm x) (X.pd x) (X.ps x) (X.pn x)) 100) a n c ∧ w.grownBy w' (some b) := by
  have hVb := X.cv_bd (X.py x) (X.pm x) (X.pd x) (X.ps x) (X.pn x)
  have P := pf_impl x hx w hT
  generalize X.py x = y at *
  generalize X.pm x = m at *
  generalize X.pd x = d at *
  generalize X.ps x = u at *
  generalize X.pn x = v at *
  have C := fun w' => cv_impl y m d u v w'
  generalize X.cv y m d u v = V at *
  have HC := Lib.hid C
  clear C hT
  rw [hk.1] at P
  have h4 : ¬ v < 4 := by omega
  have hV : ¬ V < t := by omega
  have hsk : H.sk e 10 s V 100 = true := by
    obtain ⟨o1, o2, o3⟩ := H.ok_of hok
    exact H.sk_yes ⟨H.ok_yes ⟨o1, by omega, hVb.2⟩, by decide, by decide⟩
  have SA := fun w' => SA_impl e 10 s V 100 w'
  rw [(H.s_yes hsk).2.1] at SA
  generalize H.se e 10 s V 100 = e' at *
  generalize H.ss e 10 s V 100 = s' at *
  generalize H.sk e 10 s V 100 = ok' at *
  have hbw : b < w.heap.size := h.lt
  have HP := Lib.hid P
  have HS := Lib.hid SA
  clear P SA hk hok hsk
  go_enter Tryz.func43, Tryz.ntmps43
  go_wp2_with fail
  refine (HP.out).mono ?_
  rintro r w2 ⟨rfl, hb⟩
  have k2 := C5.new w2 y m d u v 31
  have g2 : Below w.heap.size w (w2.alloc (.cells #[.int .i64 y, .int .i64 m, .int .i64 d, .int .i64 u, .int .i64 v] 31)) := hb.alloc hb.size _
  have h2 := h.b g2
  clear hb h
  obtain ⟨d0, -, d2, d3, d4, df, dl⟩ := id h2
  obtain ⟨c0, c1, c2, c3, c4, cl⟩ := id k2
  go_wp2_with fail
  generalize w2.alloc (.cells #[.int .i64 y, .int .i64 m, .int .i64 d, .int .i64 u, .int .i64 v] 31) = W at *
  generalize w2.heap.size = D at *
  refine (HC.out _).mono ?_
  rintro r w3 ⟨rfl, hb⟩
  have g3 := g2.trans (hb.mono g2.size)
  have h3 := h2.b hb
  clear hb g2 h2 c0 c1 c2 c3 c4 cl k2 d0 d2 d3 d4 df dl
  obtain ⟨d0, d1, d2, d3, d4, df, dl⟩ := id h3
  have f0 := df 0 (by decide)
  have H3 := Lib.hid (h3.time V)
  have G3 := Lib.hid (gb_set (gb_below (some b) g3) 0 (.int .i64 V))
  clear h3 g3
  go_wp2_with fail
  refine (HS.out _).mono ?_
  rintro r w4 ⟨rfl, hb⟩
  have h4' := H3.out.b hb
  have g4 := gb_b G3.out hb
  clear hb d0 d1 d2 d3 d4 df dl f0
  obtain ⟨d0, d1, d2, d3, d4, df, dl⟩ := id h4'
  have f2 := df 2 (by decide)
  have f3 := df 3 (by decide)
  have f4 := df 4 (by decide)
  have HF := Lib.hid (And.intro (h4'.state e' s') (gb_set (gb_set (gb_set g4 2 (.int .i64 e')) 3 (.int .i64 10)) 4 (.int .i64 s')))
  clear h4' g4
  go_wp2
  go_ret
  exact ⟨rfl, HF.out⟩
end Go.Proofs.YtpfdjmffgbbmdaaGreatDoor
