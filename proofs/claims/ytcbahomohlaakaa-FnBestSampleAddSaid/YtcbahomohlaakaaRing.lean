/-
  The ring of samples (chapter 6): put, samples; the program's AddSample.
-/
import Derived.Test.YtcbahomohlaakaaAddS
import Derived.Test.YtcbahomohlaakaaISample
import Derived.Test.YtcbahomohlaakaaStillIn
import Derived.Deep.Cut
namespace Go.Proofs.Ytcbahomohlaakaa
open Go.RowKit
set_option linter.unusedVariables false
set_option maxRecDepth 100000
/-- A ring of eight places at block R, that has been put into m times. -/
structure Ring (w : World) (R : Nat) (A : List Q.Sm) (m : Nat) : Prop where
  len : A.length = 8
  cnt : w.cell? ⟨R, 24, none⟩ = some (.int .i64 m)
  c0 : ∀ p, p < 8 → w.cell? ⟨R, p * 3, none⟩ = some (.int .i64 (Q.of A p))
  c1 : ∀ p, p < 8 → w.cell? ⟨R, p * 3 + 1, none⟩ = some (.int .i64 (Q.de A p))
  c2 : ∀ p, p < 8 → w.cell? ⟨R, p * 3 + 2, none⟩ = some (.int .i64 (Q.tm A p))
  fro : ∀ j, j < 25 → w.frozen? ⟨R, j, none⟩ = false
  lt : R < w.heap.size
theorem Ring.b {w w' : World} {R m B : Nat} {A : List Q.Sm} (h : Ring w R A m) (hb : Below B w w') (hB : R < B) : Ring w' R A m :=
  ⟨h.len, (hb.cell (p := ⟨R, 24, none⟩) hB).trans h.cnt, fun p hp => (hb.cell (p := ⟨R, p * 3, none⟩) hB).trans (h.c0 p hp), fun p hp => (hb.cell (p := ⟨R, p * 3 + 1, none⟩) hB).trans (h.c1 p hp), fun p hp => (hb.cell (p := ⟨R, p * 3 + 2, none⟩) hB).trans (h.c2 p hp), fun j hj => (hb.frozen (p := ⟨R, j, none⟩) hB).trans (h.fro j hj), Nat.lt_of_lt_of_le h.lt hb.size⟩
theorem Ring.drew {w : World} {R m : Nat} {A : List Q.Sm} (h : Ring w R A m) : Ring w.drew R A m := ⟨h.len, h.cnt, h.c0, h.c1, h.c2, h.fro, h.lt⟩
/-- A struct is written into one place. -/
theorem Ring.set {w : World} {R m p : Nat} {A : List Q.Sm} {x y z : Int} (h : Ring w R A m) (hp : p < 8) : Ring (((w.setCell ⟨R, p * 3, none⟩ (.int .i64 x)).setCell ⟨R, p * 3 + 1, none⟩ (.int .i64 y)).setCell ⟨R, p * 3 + 2, none⟩ (.int .i64 z)) R (A.set p (x, y, z)) m := by
  have hc : ∀ (W : World) (j k : Nat) (v u : Value), W.cell? ⟨R, k, none⟩ = some u → (W.setCell ⟨R, j, none⟩ v).cell? ⟨R, k, none⟩ = if j = k then some v else some u := fun W j k v u hu => by
    by_cases e : j = k
    · subst e; rw [if_pos rfl]; exact World.cell?_setCell_same _ _ _ hu
    · rw [if_neg e, World.cell?_setCell_other _ _ _ _ (fun q => by injection q with _ q _; omega)]; exact hu
  have h3 : ∀ (k : Nat) (u : Value), w.cell? ⟨R, k, none⟩ = some u → (((w.setCell ⟨R, p * 3, none⟩ (.int .i64 x)).setCell ⟨R, p * 3 + 1, none⟩ (.int .i64 y)).setCell ⟨R, p * 3 + 2, none⟩ (.int .i64 z)).cell? ⟨R, k, none⟩ = some (if p * 3 + 2 = k then .int .i64 z else if p * 3 + 1 = k then .int .i64 y else if p * 3 = k then .int .i64 x else u) := fun k u hu => by
    have s1 := hc w (p * 3) k (.int .i64 x) u hu
    rw [show (if p * 3 = k then some (Value.int .i64 x) else some u) = some (if p * 3 = k then Value.int .i64 x else u) by split <;> rfl] at s1
    have s2 := hc _ (p * 3 + 1) k (.int .i64 y) _ s1
    rw [show ∀ (v : Value), (if p * 3 + 1 = k then some (Value.int .i64 y) else some v) = some (if p * 3 + 1 = k then Value.int .i64 y else v) from fun v => by split <;> rfl] at s2
    have s3 := hc _ (p * 3 + 2) k (.int .i64 z) _ s2
    rw [show ∀ (v : Value), (if p * 3 + 2 = k then some (Value.int .i64 z) else some v) = some (if p * 3 + 2 = k then Value.int .i64 z else v) from fun v => by split <;> rfl] at s3
    exact s3
  refine ⟨by rw [List.length_set]; exact h.len, ?_, fun q hq => ?_, fun q hq => ?_, fun q hq => ?_, fun j hj => by simpa using h.fro j hj, by simpa using h.lt⟩
  · rw [h3 24 _ h.cnt, if_neg (by omega), if_neg (by omega), if_neg (by omega)]
  · rw [h3 _ _ (h.c0 q hq), (q_set A x y z p q (by rw [h.len]; exact hq)).1, if_neg (by omega), if_neg (by omega)]
    by_cases e : p = q
    · rw [if_pos (by omega), if_pos e]
    · rw [if_neg (by omega), if_neg e]
  · rw [h3 _ _ (h.c1 q hq), (q_set A x y z p q (by rw [h.len]; exact hq)).2.1, if_neg (by omega)]
    by_cases e : p = q
    · rw [if_pos (by omega), if_pos e]
    · rw [if_neg (by omega), if_neg (by omega), if_neg e]
  · rw [h3 _ _ (h.c2 q hq), (q_set A x y z p q (by rw [h.len]; exact hq)).2.2]
    by_cases e : p = q
    · rw [if_pos (by omega), if_pos e]
    · rw [if_neg (by omega), if_neg (by omega), if_neg (by omega), if_neg e]
theorem Ring.count {w : World} {R m m' : Nat} {A : List Q.Sm} (h : Ring w R A m) : Ring (w.setCell ⟨R, 24, none⟩ (.int .i64 m')) R A m' :=
  ⟨h.len, World.cell?_setCell_same _ _ _ h.cnt, fun p hp => (World.cell?_setCell_other _ _ _ _ (fun q => by injection q with _ q _; omega)).trans (h.c0 p hp), fun p hp => (World.cell?_setCell_other _ _ _ _ (fun q => by injection q with _ q _; omega)).trans (h.c1 p hp), fun p hp => (World.cell?_setCell_other _ _ _ _ (fun q => by injection q with _ q _; omega)).trans (h.c2 p hp), fun j hj => by simpa using h.fro j hj, by simpa using h.lt⟩
set_option maxHeartbeats 4000000 in
theorem put_any (R m : Nat) (A : List Q.Sm) (x y z : Int) (w : World) (h : Ring w R A m) (hm : m ≤ 1000) : Calls Try.prog 38 #[.pointer (some ⟨R, 0, none⟩), .agg #[.int .i64 x, .int .i64 y, .int .i64 z]] w fun e w' => (∃ v, e = .returned v) ∧ Ring w' R (A.set (m % 8) (x, y, z)) (m + 1) ∧ Below R w w' := by
  have h1 := h.b ((Below.refl w.heap.size w).alloc (Nat.le_refl _) (.cells #[.int .i64 x, .int .i64 y, .int .i64 z] 26)) h.lt
  have bl := (Below.refl w.heap.size w).alloc (Nat.le_refl _) (.cells #[.int .i64 x, .int .i64 y, .int .i64 z] 26)
  have sE := B3.new w x y z 26
  have HL := Lib.hid (show R ≤ w.heap.size from Nat.le_of_lt h.lt)
  clear h
  go_enter Try.func38, Try.ntmps38
  go_wp2_with fail
  generalize w.alloc (.cells #[.int .i64 x, .int .i64 y, .int .i64 z] 26) = W at *
  generalize hE : w.heap.size = E at sE HL bl ⊢
  obtain ⟨p, hp⟩ : ∃ p, m % 8 = p := ⟨_, rfl⟩
  have hp8 : p < 8 := by omega
  have hp8' : (p : Int) < 8 := by omega
  have e1 : (m : Int).tmod 8 = (p : Int) := by rw [Int.tmod_eq_emod_of_nonneg (by omega)]; omega
  refine wp_region_still_tail 10 (by kernel_rfl) (by kernel_rfl) ?_
  simp only [List.take_succ_cons, List.take_zero, List.drop_succ_cons, List.drop_zero]
  change wpStill _ _ (W.drew) (fun a' => wpList _ _ _ _ a' (W.drew)) _ _
  have h2 := h1.drew
  have s2 : B3 W.drew E x y z := ⟨sE.c0, sE.c1, sE.c2, sE.lt⟩
  have bl2 := bl.drew
  clear h1 sE bl
  generalize W.drew = V at *
  have hc := h2.cnt
  have s0 := s2.c0
  have s1 := s2.c1
  have s3 := s2.c2
  have hs := h2.set (x := x) (y := y) (z := z) hp8
  have HP := Lib.hid hp
  have HS := Lib.hid hs
  have H2 := Lib.hid h2
  clear hs hp h2 s2
  repeat still_step
  refine wpStill_nil ?_
  have d0 := H2.out.c0 p hp8
  have d1 := H2.out.c1 p hp8
  have d2 := H2.out.c2 p hp8
  have f0 := H2.out.fro (p * 3) (by omega)
  have f1 := H2.out.fro (p * 3 + 1) (by omega)
  have f2 := H2.out.fro (p * 3 + 2) (by omega)
  go_upto_region 2 with (fail)
  have hb3 : Below R w (((V.setCell ⟨R, p * 3, none⟩ (.int .i64 x)).setCell ⟨R, p * 3 + 1, none⟩ (.int .i64 y)).setCell ⟨R, p * 3 + 2, none⟩ (.int .i64 z)) := (((bl2.mono HL.out).setCell (p := ⟨R, p * 3, none⟩) (Nat.le_refl _) _).setCell (p := ⟨R, p * 3 + 1, none⟩) (Nat.le_refl _) _).setCell (p := ⟨R, p * 3 + 2, none⟩) (Nat.le_refl _) _
  have hs := HS.out
  rw [show A.set p (x, y, z) = A.set (m % 8) (x, y, z) by rw [HP.out]] at hs
  clear HS H2 bl2 d0 d1 d2 f0 f1 f2 hc s0 s1 s3
  generalize ((V.setCell ⟨R, p * 3, none⟩ (.int .i64 x)).setCell ⟨R, p * 3 + 1, none⟩ (.int .i64 y)).setCell ⟨R, p * 3 + 2, none⟩ (.int .i64 z) = W3 at *
  have hc := hs.cnt
  have hf := hs.fro 24 (by omega)
  have hs4 := hs.count (m' := m + 1)
  have hb4 := hb3.setCell (p := ⟨R, 24, none⟩) (Nat.le_refl _) (.int .i64 ((m + 1 : Nat) : Int))
  rw [show ((m + 1 : Nat) : Int) = (m : Int) + 1 by omega] at hs4 hb4
  have HF := Lib.hid (And.intro hs4 hb4)
  clear hs hs4 hb3 hb4
  go_wp2
  go_end0
  exact ⟨⟨_, rfl⟩, HF.out⟩
/-- What a ring of m hands out: the first k from place lo on. -/
def sm (A : List Q.Sm) (lo k : Nat) : List Q.Sm := (List.range k).map (fun i => (Q.of A ((lo + i) % 8), Q.de A ((lo + i) % 8), Q.tm A ((lo + i) % 8)))
theorem sm_len (A : List Q.Sm) (lo k : Nat) : (sm A lo k).length = k := by simp [sm]
theorem sm_snoc (A : List Q.Sm) (lo k : Nat) : sm A lo k ++ [(Q.of A ((lo + k) % 8), Q.de A ((lo + k) % 8), Q.tm A ((lo + k) % 8))] = sm A lo (k + 1) := by unfold sm; rw [List.range_succ, List.map_append]; rfl
def SmRes (w : World) (X : List Q.Sm) (e : Ending) (w' : World) : Prop := ∃ a c, e = .returned (.slice a X.length c) ∧ OwQ w.heap.size w' a c X ∧ Below w.heap.size w w'
set_option maxHeartbeats 4000000 in
theorem samples_any (R m lo : Nat) (A : List Q.Sm) (w : World) (h : Ring w R A m) (hm : m ≤ 16) (hlo : lo = m - 8) : Calls Try.prog 39 #[.pointer (some ⟨R, 0, none⟩)] w (SmRes w (sm A lo (m - lo))) := by
  have hc := h.cnt
  have hw : IntKind.i64.wrap ((m : Int) - 8) = (m : Int) - 8 := IntWalk.i64_in _ (by omega)
  have O0 := OwQ.nil w.heap.size w
  have HL := Lib.hid hlo
  clear hlo
  rcases Nat.lt_or_ge 8 m with hbig | hbig
  all_goals
    first
    | (have h8 : (0 : Int) < (m : Int) - 8 := by omega)
    | (have h8 : ¬ (0 : Int) < (m : Int) - 8 := by omega)
    go_enter Try.func39, Try.ntmps39
    go_wp2_with fail
    go_loopw [3, 4] (fun o i wr => ∃ (k q : Nat) (a : Option Addr) (c : Nat), o = .slice a (sm A lo k).length c ∧ i = .int .i64 (q : Int) ∧ q = lo + k ∧ k ≤ m - lo ∧ OwQ w.heap.size wr a c (sm A lo k) ∧ Below w.heap.size w wr) (fun _ i _ => m - (intOf i).toNat)
    case atStart => exact ⟨0, lo, none, 0, rfl, congrArg (Value.int .i64) (by have := HL.out; omega), rfl, Nat.zero_le _, O0, Below.refl _ _⟩
    case round =>
      obtain ⟨k, q, a, c, rfl, rfl, hq, hk, O, bl⟩ := hrel
      have h' := h.b bl h.lt
      have hR := h.lt
      have HQ := Lib.hid hq
      have hml := sm_len A lo k
      obtain ⟨X, hX⟩ : ∃ X, sm A lo k = X := ⟨_, rfl⟩
      rw [hX] at O hml ⊢
      have HX := Lib.hid hX
      clear O0 hc h hX
      have hc := h'.cnt
      by_cases hlt : k < m - lo
      · have hlt' : (q : Int) < (m : Int) := by have := HL.out; omega
        obtain ⟨p, hp⟩ : ∃ p, q % 8 = p := ⟨_, rfl⟩
        have hp8 : p < 8 := by omega
        have hp8' : (p : Int) < 8 := by omega
        have e1 : (q : Int) % 8 = (p : Int) := by omega
        have e2 : (q : Int).tmod 8 = (p : Int) := by rw [Int.tmod_eq_emod_of_nonneg (by omega)]; omega
        have d0 := h'.c0 p hp8
        have d1 := h'.c1 p hp8
        have d2 := h'.c2 p hp8
        have hsn := sm_snoc A lo k
        rw [← hq, hp, HX.out] at hsn
        generalize Q.of A p = x at *
        generalize Q.de A p = y at *
        generalize Q.tm A p = z at *
        have HS := Lib.hid hsn
        have hk' : X.length ≤ 16 := by omega
        clear hsn hp hq hml h'
        go_wp2_with (at_builtin; refine wpList_q rfl _ _ rfl w.heap.size rfl rfl (O.keep ((Below.refl _ _).alloc (Nat.le_refl _) (.cells #[.int .i64 x, .int .i64 y, .int .i64 z] 26))) (Sms.one (B3.new wr x y z 26)) (by omega) (by have := bl.size; simp; omega) (sm A lo (k + 1)) HS.out ?_)
        intro a' c' w' O' b' _
        have HF := Lib.hid (And.intro O' ((bl.alloc bl.size _).trans b'))
        clear O O' bl b' d0 d1 d2
        go_wp2
        go_roundw
        case rel => exact ⟨k + 1, q + 1, a', c', rfl, by go_num, by have := HQ.out; omega, by omega, HF.out.1, HF.out.2⟩
        case measure => simp [intOf]; have := HL.out; omega
      · have hlt' : ¬ (q : Int) < (m : Int) := by have := HL.out; omega
        have hkm : k = m - lo := by omega
        rw [hkm] at HX
        have HF := Lib.hid (show SmRes w (sm A lo (m - lo)) (.returned (.slice a X.length c)) wr from ⟨a, c, by rw [HX.out], by rw [HX.out]; exact O, bl⟩)
        clear O bl h' hkm hml hq
        go_wp2
        go_ret
        exact HF.out
end Go.Proofs.Ytcbahomohlaakaa
