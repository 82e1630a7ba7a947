/-
  What the generators of texts return: some text of moderate length, and nothing that was there has changed. Condition: the code has at most 1048576 bytes.
-/
import Derived.Test.YtpfdjmffgbbmdaaGreatDoorDraw
import Derived.Test.YtpfdjmffgbbmdaaGreatDoorSent
import Derived.Deep.RegionHeld3
import Derived.Deep.RegionWith
import Derived.WalkSpells
namespace Go.Proofs.YtpfdjmffgbbmdaaGreatDoor
open Go.RowKit
set_option linter.unusedVariables false
set_option maxRecDepth 100000
/-- Some text of at most k bytes. -/
def SomeS (k : Nat) (w : World) (e : Ending) (w' : World) : Prop := ∃ s : ByteArray, e = .returned (.string s) ∧ s.size ≤ k ∧ Below w.heap.size w w'
theorem run_1 {P : Program} (src dst e : TypeId) (hs : P.underlying src = some (.slice e)) (he : P.underlying e = some (.int .u8)) (hd : P.underlying dst = some .string) (D : Nat) (x : UInt8) (v : Int) (hv : v = (x.toNat : Int)) (W : World)
    (h0 : W.cell? ⟨D, 0, none⟩ = some (.int .u8 v)) :
    (convert src dst (.slice (some ⟨D, 0, none⟩) 1 1)).run P W = .ok (.string (S.mk [x])) W := by
  subst hv
  exact run_convert_bytes_back W src dst e ⟨D, 0, none⟩ 1 [x] hs he hd (fun j hj => by
    match j, hj with
    | 0, _ => exact h0)
def dgt (n : Nat) : UInt8 := UInt8.ofNat (48 + n % 10)
theorem dgt_is (n : Nat) : 48 + (n : Int) % 10 = ((dgt n).toNat : Int) := by
  unfold dgt; rw [UInt8.toNat_ofNat']; omega
set_option maxHeartbeats 1000000 in
theorem decimal_any (n : Nat) (hn : n ≤ 100000) (w : World) : Calls Tryz.prog 53 #[.int .i64 n] w (SomeS (n + 1) w) := by
  induction n using Nat.strongRecOn generalizing w with
  | _ n ih =>
  have n1 : (S.mk [dgt n]).size = 1 := S.size_mk _
  have hm0 : 0 ≤ (n : Int) % 10 := by omega
  have hm1 : (n : Int) % 10 ≤ 9 := by omega
  by_cases h10 : n < 10
  · have g : (n : Int) < 10 := by omega
    have hv : 48 + (n : Int) = ((dgt n).toNat : Int) := by rw [← dgt_is]; omega
    have i1 := run_1 (P := Tryz.prog) 22 9 5 Tryz.underlying22 Tryz.underlying5 Tryz.underlying9 w.heap.size (dgt n) (48 + (n : Int)) hv (w.alloc (.cells #[.int .u8 (48 + (n : Int))] 5)) (by simp)
    clear ih hv
    go_enter Tryz.func53, Tryz.ntmps53
    go_wp2
    go_ret
    exact ⟨_, rfl, by rw [n1]; omega, (Below.refl _ _).alloc (Nat.le_refl _) _⟩
  · have g : ¬ (n : Int) < 10 := by omega
    have hv := dgt_is n
    have C := fun W => ih (n / 10) (by omega) (by omega) W
    have hq : ((n / 10 : Nat) : Int) = (n : Int) / 10 := by omega
    rw [hq] at C
    have i1 := run_1 (P := Tryz.prog) 22 9 5 Tryz.underlying22 Tryz.underlying5 Tryz.underlying9 w.heap.size (dgt n) (48 + (n : Int) % 10) hv (w.alloc (.cells #[.int .u8 (48 + (n : Int) % 10)] 5)).drew (by simp)
    have HC := Lib.hid C
    have HV := Lib.hid hv
    clear ih hv C hq
    go_enter Tryz.func53, Tryz.ntmps53
    go_wp2
    have e1 := IntWalk.i64_in ((n : Int) / 10) (by omega)
    have e2 : (n : Int).tmod 10 = (n : Int) % 10 := Int.tmod_eq_emod_of_nonneg (by omega)
    have e3 := IntWalk.i64_in (48 + (n : Int) % 10) (by omega)
    have e4 := IntWalk.u8_in (48 + (n : Int) % 10) (by omega)
    go_region_with ((first
      | (go_at_call 53; (with_reducible refine (HC.out w.drew).mono ?_); rintro e w2 ⟨s, rfl, hs, b2⟩; have i2 := run_1 (P := Tryz.prog) 22 9 5 Tryz.underlying22 Tryz.underlying5 Tryz.underlying9 w2.heap.size (dgt n) (48 + (n : Int) % 10) HV.out (w2.alloc (.cells #[.int .u8 (48 + (n : Int) % 10)] 5)) (by simp))
      | (go_at_call 53; (with_reducible refine (HC.out (w.alloc (.cells #[.int .u8 (48 + (n : Int) % 10)] 5)).drew).mono ?_); rintro e w2 ⟨s, rfl, hs, b2⟩; have i2 := run_1 (P := Tryz.prog) 22 9 5 Tryz.underlying22 Tryz.underlying5 Tryz.underlying9 w.heap.size (dgt n) (48 + (n : Int) % 10) HV.out w2 ((b2.cell (p := ⟨w.heap.size, 0, none⟩) (by simp)).trans (by simp)))))
    all_goals go_wp2
    all_goals go_ret
    all_goals refine ⟨s ++ S.mk [dgt n], rfl, by rw [Go.ByteArray.size_append', S.size_mk]; simp; omega, ?_⟩
    all_goals (first
      | exact (((Below.refl w.heap.size w).drew).trans b2).alloc b2.size _
      | exact (((Below.refl w.heap.size w).alloc (Nat.le_refl _) _).drew).trans (b2.mono (by simp)))
theorem decimal_at (z : Int) (h0 : 0 ≤ z) (h1 : z ≤ 2100) (w : World) : Calls Tryz.prog 53 #[.int .i64 z] w (SomeS 2101 w) := by
  obtain ⟨n, rfl⟩ := Int.eq_ofNat_of_zero_le h0
  exact (decimal_any n (by omega) w).mono fun e w' ⟨s, a, b, c⟩ => ⟨s, a, by omega, c⟩
theorem digits_any (z m : Int) (h0 : 0 ≤ z) (h1 : z ≤ 2100) (m0 : 0 ≤ m) (m1 : m ≤ 4) (w : World) : Calls Tryz.prog 55 #[.int .i64 z, .int .i64 m] w (SomeS 2200 w) := by
  go_enter Tryz.func55, Tryz.ntmps55
  go_wp2_with fail
  refine (decimal_at z h0 h1 w).mono ?_
  rintro e w2 ⟨s, rfl, hs, b2⟩
  have hs' : (s.size : Int) ≤ 2101 := by omega
  go_wp2
  go_loop [5] (fun x => ∃ t : ByteArray, x = .string t ∧ t.size ≤ 2200) (fun x => match x with | .string t => 5 - t.size | _ => 0)
  case atStart => exact ⟨s, rfl, by omega⟩
  case round =>
    obtain ⟨t, rfl, ht⟩ := hrel
    by_cases hlt : (t.size : Int) < m
    · have n1 : ¬ (9223372036854775807 : Int) < 1 + (t.size : Int) := by omega
      have hz : (({ data := #[48] } : ByteArray) ++ t).size = 1 + t.size := by rw [Go.ByteArray.size_append']; rfl
      have HZ := Lib.hid hz
      clear hz
      go_wp2
      go_round
      case rel => exact ⟨_, rfl, by rw [HZ.out]; omega⟩
      case measure => simp only [HZ.out]; omega
    · go_wp2
      go_ret
      exact ⟨t, rfl, ht, b2⟩
/-- A text that was drawn, of at most k bytes. -/
def DrawnS (k B : Nat) (w : World) (r m : Nat) (e : Ending) (w' : World) : Prop := ∃ s : ByteArray, e = .returned (.string s) ∧ s.size ≤ k ∧ Below B w w' ∧ Rdr B w' r m ∧ Far w r w'
def Strs (k : Nat) : List Value → Prop
  | [] => True
  | .string s :: r => s.size ≤ k ∧ Strs k r
  | _ => False
theorem strs_at (k : Nat) : ∀ (l : List Value), Strs k l → ∀ i, i < l.length → ∃ s : ByteArray, s.size ≤ k ∧ l[i]? = some (.string s)
  | [], _, i, hi' => absurd hi' (by simp)
  | .string s :: r, h, 0, _ => ⟨s, h.1, rfl⟩
  | .string s :: r, h, i + 1, hi' => strs_at k r h.2 i (by simpa using hi')
theorem made_strs (w : World) (c : Array Value) (t : TypeId) (n k : Nat) (hn : c.size = n) (h : Strs k c.toList) :
    ∀ i, i < n → ∃ s : ByteArray, s.size ≤ k ∧ (w.alloc (.cells c t)).cell? ⟨w.heap.size, i, none⟩ = some (.string s) := by
  intro i hi'
  obtain ⟨s, z0, hz⟩ := strs_at k c.toList h i (by simpa [hn] using hi')
  exact ⟨s, z0, by rw [World.cell?_alloc_new]; simpa using hz⟩
theorem of_any (B r m L n cap k : Nat) (w : World) (h : Rdr B w r m) (hm : m ≤ 1000000) (hn0 : 1 ≤ n) (hn1 : n ≤ 1000000) (hL : L ≠ r)
    (hc : ∀ i, i < n → ∃ s : ByteArray, s.size ≤ k ∧ w.cell? ⟨L, i, none⟩ = some (.string s)) :
    Calls Tryz.prog 21 #[.pointer (some ⟨r, 0, none⟩), .slice (some ⟨L, 0, none⟩) n cap] w (DrawnS k B w r (m + 1)) := by
  go_enter Tryz.func21, Tryz.ntmps21
  go_wp2_with fail
  refine (pick_any B r m _ w h hm).mono ?_
  rintro e w1 ⟨k1, rfl, k0, k1, st⟩
  obtain ⟨j, rfl⟩ := Int.eq_ofNat_of_zero_le k0
  have hj : j < n := by omega
  obtain ⟨s, z0, hz⟩ := hc j hj
  have hz' := (st.cell L j hL).trans hz
  clear hz
  go_wp2
  go_ret
  exact ⟨s, rfl, z0, st.bel, st.rdr, st.far⟩
theorem keep5 {D : Nat} {y mo d seen : Int} {w0 w w' : World} (b : Below w.heap.size w w') (h : Below D w0 w ∧ D < w.heap.size ∧ w.cell? ⟨D, 0, none⟩ = some (.int .i64 y) ∧ w.cell? ⟨D, 1, none⟩ = some (.int .i64 mo) ∧ w.cell? ⟨D, 2, none⟩ = some (.int .i64 d) ∧ w.cell? ⟨D, 4, none⟩ = some (.int .i64 seen)) :
    Below D w0 w' ∧ D < w'.heap.size ∧ w'.cell? ⟨D, 0, none⟩ = some (.int .i64 y) ∧ w'.cell? ⟨D, 1, none⟩ = some (.int .i64 mo) ∧ w'.cell? ⟨D, 2, none⟩ = some (.int .i64 d) ∧ w'.cell? ⟨D, 4, none⟩ = some (.int .i64 seen) :=
  ⟨h.1.trans (b.mono (Nat.le_of_lt h.2.1)), Nat.lt_of_lt_of_le h.2.1 b.size, (b.cell (p := ⟨D, 0, none⟩) h.2.1).trans h.2.2.1, (b.cell (p := ⟨D, 1, none⟩) h.2.1).trans h.2.2.2.1, (b.cell (p := ⟨D, 2, none⟩) h.2.1).trans h.2.2.2.2.1, (b.cell (p := ⟨D, 4, none⟩) h.2.1).trans h.2.2.2.2.2⟩
theorem cat_le (t s4 s5 s6 s7 : ByteArray) (h : t.size ≤ 6600) (h4 : s4.size ≤ 2200) (h5 : s5.size ≤ 2200) (h6 : s6.size ≤ 2200) (h7 : s7.size ≤ 2200) :
    (({ data := #[70, 73, 88, 44] } : ByteArray) ++ t ++ { data := #[44] } ++ s4 ++ { data := #[44] } ++ s5 ++ { data := #[44] } ++ s6 ++ { data := #[44] } ++ s7).size ≤ 20000 := by
  simp only [Go.ByteArray.size_append', Go.ByteArray.size_mk']
  have e1 : (#[70, 73, 88, 44] : Array UInt8).size = 4 := rfl
  have e2 : (#[44] : Array UInt8).size = 1 := rfl
  omega
set_option maxRecDepth 100000 in
set_option maxHeartbeats 4000000 in
theorem formatFix_any (y mo d sec seen : Int) (w : World) (hy : 0 ≤ y ∧ y ≤ 2100) (hmo : 0 ≤ mo ∧ mo ≤ 12) (hd : 0 ≤ d ∧ d ≤ 31) (hsec : 0 ≤ sec ∧ sec ≤ 86000) (hseen : 0 ≤ seen ∧ seen ≤ 33) :
    Calls Tryz.prog 37 #[.agg #[.int .i64 y, .int .i64 mo, .int .i64 d, .int .i64 sec, .int .i64 seen]] w (SomeS 20000 w) := by
  have g0 : ¬ (86399 : Int) < sec := by omega
  go_enter Tryz.func37, Tryz.ntmps37
  go_wp2_with fail
  refine (digits_any _ 2 (by omega) (by omega) (by omega) (by omega) _).mono ?_
  rintro e w1 ⟨s1, rfl, hs1, b1⟩
  have bW : Below w.heap.size w w1 := ((Below.refl _ _).alloc (Nat.le_refl _) _).trans (b1.mono (by simp))
  have hD : w.heap.size < w1.heap.size := by have := b1.size; simp at this; omega
  have c0 : w1.cell? ⟨w.heap.size, 0, none⟩ = some (.int .i64 y) := (b1.cell (p := ⟨w.heap.size, 0, none⟩) (by simp)).trans (by simp)
  have c1 : w1.cell? ⟨w.heap.size, 1, none⟩ = some (.int .i64 mo) := (b1.cell (p := ⟨w.heap.size, 1, none⟩) (by simp)).trans (by simp)
  have c2 : w1.cell? ⟨w.heap.size, 2, none⟩ = some (.int .i64 d) := (b1.cell (p := ⟨w.heap.size, 2, none⟩) (by simp)).trans (by simp)
  have c4 : w1.cell? ⟨w.heap.size, 4, none⟩ = some (.int .i64 seen) := (b1.cell (p := ⟨w.heap.size, 4, none⟩) (by simp)).trans (by simp)
  generalize hgd : w.heap.size = D at *
  have HD := Lib.hid hgd
  clear b1 hgd
  have hs1' : (s1.size : Int) ≤ 2200 := by omega
  go_wp2_with fail
  refine (digits_any _ 2 (by omega) (by omega) (by omega) (by omega) _).mono ?_
  rintro e w2 ⟨s2, rfl, hs2, b2⟩
  have bW2 := bW.trans (b2.mono (by omega))
  have hD2 : D < w2.heap.size := Nat.lt_of_lt_of_le hD b2.size
  have d0 := (b2.cell (p := ⟨D, 0, none⟩) hD).trans c0
  have d1 := (b2.cell (p := ⟨D, 1, none⟩) hD).trans c1
  have d2 := (b2.cell (p := ⟨D, 2, none⟩) hD).trans c2
  have d4 := (b2.cell (p := ⟨D, 4, none⟩) hD).trans c4
  clear b2 c0 c1 c2 c4 bW hD
  have hs2' : (s2.size : Int) ≤ 2200 := by omega
  go_wp2_with fail
  refine (digits_any _ 2 (by omega) (by omega) (by omega) (by omega) _).mono ?_
  rintro e w3 ⟨s3, rfl, hs3, b3⟩
  have bW3 := bW2.trans (b3.mono (by omega))
  have hD3 : D < w3.heap.size := Nat.lt_of_lt_of_le hD2 b3.size
  have c0 := (b3.cell (p := ⟨D, 0, none⟩) hD2).trans d0
  have c1 := (b3.cell (p := ⟨D, 1, none⟩) hD2).trans d1
  have c2 := (b3.cell (p := ⟨D, 2, none⟩) hD2).trans d2
  have c4 := (b3.cell (p := ⟨D, 4, none⟩) hD2).trans d4
  clear b3 d0 d1 d2 d4 bW2 hD2
  have hs3' : (s3.size : Int) ≤ 2200 := by omega
  go_wp2_with fail
  have ht : (s1 ++ s2 ++ s3).size ≤ 6600 := by rw [Go.ByteArray.size_append', Go.ByteArray.size_append']; omega
  generalize s1 ++ s2 ++ s3 = t at *
  have ht' : (t.size : Int) ≤ 6600 := by omega
  have n1 : ¬ 9223372036854775807 < 4 + t.size := by omega
  have n2 : ¬ 9223372036854775807 < 4 + t.size + 1 := by omega
  have hS3 : Below D w w3 ∧ D < w3.heap.size ∧ w3.cell? ⟨D, 0, none⟩ = some (.int .i64 y) ∧ w3.cell? ⟨D, 1, none⟩ = some (.int .i64 mo) ∧ w3.cell? ⟨D, 2, none⟩ = some (.int .i64 d) ∧ w3.cell? ⟨D, 4, none⟩ = some (.int .i64 seen) := ⟨bW3, hD3, c0, c1, c2, c4⟩
  go_region_held3 (fun w' => Below D w w' ∧ D < w'.heap.size ∧ w'.cell? ⟨D, 0, none⟩ = some (.int .i64 y) ∧ w'.cell? ⟨D, 1, none⟩ = some (.int .i64 mo) ∧ w'.cell? ⟨D, 2, none⟩ = some (.int .i64 d) ∧ w'.cell? ⟨D, 4, none⟩ = some (.int .i64 seen))
    (first | exact ⟨bW3, hD3, c0, c1, c2, c4⟩ | exact ⟨bW3.drew, hD3, c0, c1, c2, c4⟩ | exact keep5 b (by first | assumption | exact hS3 | exact ⟨bW3.drew, hD3, c0, c1, c2, c4⟩))
    ((first | (go_at_call 55; (with_reducible refine (digits_any d 2 (by omega) (by omega) (by omega) (by omega) _).mono ?_); rintro e w5 ⟨s4, rfl, hs4, b⟩; have hs4' : (s4.size : Int) ≤ 2200 := (by omega); have n0s4 : ¬ 9223372036854775807 < 4 + t.size + 1 + s4.size := (by omega); have n1s4 : ¬ 9223372036854775807 < 4 + t.size + 1 + s4.size + 1 := (by omega)) | (go_at_call 55; (with_reducible refine (digits_any mo 2 (by omega) (by omega) (by omega) (by omega) _).mono ?_); rintro e w5 ⟨s5, rfl, hs5, b⟩; have hs5' : (s5.size : Int) ≤ 2200 := (by omega); have n0s5 : ¬ 9223372036854775807 < 4 + t.size + 1 + s4.size + 1 + s5.size := (by omega); have n1s5 : ¬ 9223372036854775807 < 4 + t.size + 1 + s4.size + 1 + s5.size + 1 := (by omega)) | (go_at_call 55; (with_reducible refine (digits_any y 4 (by omega) (by omega) (by omega) (by omega) _).mono ?_); rintro e w5 ⟨s6, rfl, hs6, b⟩; have hs6' : (s6.size : Int) ≤ 2200 := (by omega); have n0s6 : ¬ 9223372036854775807 < 4 + t.size + 1 + s4.size + 1 + s5.size + 1 + s6.size := (by omega); have n1s6 : ¬ 9223372036854775807 < 4 + t.size + 1 + s4.size + 1 + s5.size + 1 + s6.size + 1 := (by omega)) | (go_at_call 53; (with_reducible refine (decimal_at seen (by omega) (by omega) _).mono ?_); rintro e w5 ⟨s7, rfl, hs7, b⟩; have hs7' : (s7.size : Int) ≤ 2200 := (by omega); have n0s7 : ¬ 9223372036854775807 < 4 + t.size + 1 + s4.size + 1 + s5.size + 1 + s6.size + 1 + s7.size := (by omega))))
  have HB := Lib.hid (‹Below D w w5 ∧ _›.1)
  go_wp2
  go_ret
  exact ⟨_, rfl, cat_le t s4 s5 s6 s7 (by omega) (by omega) (by omega) (by omega) (by omega), by rw [HD.out]; exact HB.out⟩
end Go.Proofs.YtpfdjmffgbbmdaaGreatDoor
