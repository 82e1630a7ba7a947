/-
  The sentences of fixes: what the program writes and what the model writes: the same bytes, for every fix. Where the year is written, the table of powers of ten holds what the library lays in it.
-/
import Derived.Test.YtpfdjmffgbbmdaaGreatDoorBuild
import Derived.Test.YtpfdjmffgbbmdaaGreatDoorFix
import Derived.Test.YtpfdjmffgbbmdaaGreatDoorSent
import Derived.Test.YtpfdjmffgbbmdaaGreatDoorP1
import Derived.Test.YtpfdjmffgbbmdaaGreatDoorShelf
import Derived.Lib.SmallJoins
import Derived.Lib.AppendIntMem
import Derived.Deep.RegionHeld3
import Derived.Deep.RegionWith
import Derived.WalkSpells
namespace Go.Proofs.YtpfdjmffgbbmdaaGreatDoor
open Go.RowKit
set_option linter.unusedVariables false
set_option maxRecDepth 100000
/-- The table of powers of ten is as the library lays it. -/
def Tb (w : World) : Prop := Lib.TabIs Tryz.prog w "internal/strconv.uint64pow10" .u64 Lib.pow10Tab
theorem Tb.b {w w' : World} (h : Tb w) (hb : Below w.heap.size w w') : Tb w' := by
  unfold Tb at *
  obtain ⟨g, hg⟩ : ∃ g, Tryz.prog.globalNamed "internal/strconv.uint64pow10" = some g := Option.isSome_iff_exists.mp (by kernel_rfl)
  exact Joins.tab_stays hg h hb (Nat.le_refl _)
theorem itoa_any (n : Nat) (hn : n ≤ 1000000000000) (w : World) (hT : Tb w) : Calls Tryz.prog 31 #[.int .i64 (n : Int)] w fun e w' => e = .returned (.string (S.mk (Lib.decDigits n))) ∧ Below w.heap.size w w' := by
  refine (Tryz.strconv_Itoa (n : Int) (by omega) (by omega) w hT).mono ?_
  rintro e w' ⟨rfl, k, os, rfl⟩
  refine ⟨?_, Lib.below_grow _ _ (Nat.le_refl _) _ _⟩
  have h1 : Lib.itoa (n : Int) = Lib.decDigits n := by unfold Lib.itoa; rw [if_neg (by omega)]; rfl
  rw [h1]; rfl
theorem itoa_at (z : Int) (h0 : 0 ≤ z) (hn : z ≤ 1000000000000) (w : World) (hT : Tb w) : Calls Tryz.prog 31 #[.int .i64 z] w fun e w' => e = .returned (.string (S.mk (Lib.decDigits z.toNat))) ∧ Below w.heap.size w w' := by
  obtain ⟨n, rfl⟩ := Int.eq_ofNat_of_zero_le h0
  exact itoa_any n (by omega) w hT
/-- Strings made of bytes in a row. -/
theorem run_bs {P : Program} (src dst e : TypeId) (hs : P.underlying src = some (.slice e)) (he : P.underlying e = some (.int .u8)) (hd : P.underlying dst = some .string) (D : Nat) (x y : UInt8) (u v : Int) (hu : u = (x.toNat : Int)) (hv : v = (y.toNat : Int)) (W : World)
    (h0 : W.cell? ⟨D, 0, none⟩ = some (.int .u8 u)) (h1 : W.cell? ⟨D, 1, none⟩ = some (.int .u8 v)) :
    (convert src dst (.slice (some ⟨D, 0, none⟩) 2 2)).run P W = .ok (.string (S.mk [x, y])) W := by
  subst hu hv
  exact run_convert_bytes_back W src dst e ⟨D, 0, none⟩ 2 [x, y] hs he hd (fun j hj => by
    match j, hj with
    | 0, _ => exact h0
    | 1, _ => exact h1)
theorem run_b1 {P : Program} (src dst e : TypeId) (hs : P.underlying src = some (.slice e)) (he : P.underlying e = some (.int .u8)) (hd : P.underlying dst = some .string) (D : Nat) (x : UInt8) (v : Int) (hv : v = (x.toNat : Int)) (W : World)
    (h0 : W.cell? ⟨D, 0, none⟩ = some (.int .u8 v)) :
    (convert src dst (.slice (some ⟨D, 0, none⟩) 1 1)).run P W = .ok (.string (S.mk [x])) W := by
  subst hv
  exact run_convert_bytes_back W src dst e ⟨D, 0, none⟩ 1 [x] hs he hd (fun j hj => by
    match j, hj with
    | 0, _ => exact h0)
theorem mk_app (a b : List UInt8) : S.mk a ++ S.mk b = S.mk (a ++ b) := by apply S.ext; rw [S.lst_append, S.lst_mk, S.lst_mk, S.lst_mk]
theorem dgt_nat (k : Nat) (h : k < 10) : (48 + (k : Int)) = ((UInt8.ofNat (48 + k)).toNat : Int) := by rw [(X.dig h).2]; omega
theorem dec_le (u : Nat) : (Lib.decDigits u).length ≤ u + 1 := by
  induction u using Nat.strongRecOn with
  | _ u ih =>
    by_cases h : u < 10
    · rw [X.dec_small h]; simp
    · rw [X.dec_big h, List.length_append]
      have := ih (u / 10) (by omega)
      simp only [List.length_cons, List.length_nil]
      omega
theorem two_impl (z : Int) (h0 : 0 ≤ z) (h1 : z ≤ 99) (w : World) : Calls Tryz.prog 30 #[.int .i64 z] w fun e w' => e = .returned (.string (S.mk (X.d2 z.toNat))) ∧ Below w.heap.size w w' := by
  obtain ⟨k, rfl⟩ := Int.eq_ofNat_of_zero_le h0
  have q1 := dgt_nat (k / 10) (by omega)
  have q2 := dgt_nat (k % 10) (by omega)
  have i1 := run_bs (P := Tryz.prog) 22 9 5 Tryz.underlying22 Tryz.underlying5 Tryz.underlying9 w.heap.size _ _ (48 + (k : Int) / 10) (48 + (k : Int) % 10) (by rw [show (k : Int) / 10 = ((k / 10 : Nat) : Int) by omega]; exact q1) (by rw [show (k : Int) % 10 = ((k % 10 : Nat) : Int) by omega]; exact q2) (w.alloc (.cells #[.int .u8 (48 + (k : Int) / 10), .int .u8 (48 + (k : Int) % 10)] 5)) (by simp) (by simp)
  have e1 := IntWalk.u8_in ((k : Int) / 10) (by omega)
  have e2 := IntWalk.u8_in ((k : Int) % 10) (by omega)
  have e3 := IntWalk.u8_in (48 + (k : Int) / 10) (by omega)
  have e4 := IntWalk.u8_in (48 + (k : Int) % 10) (by omega)
  clear q1 q2
  go_enter Tryz.func30, Tryz.ntmps30
  go_wp2
  go_ret
  exact ⟨by first | rfl | simp [X.d2], (Below.refl _ _).alloc (Nat.le_refl _) _⟩
theorem clk_impl (s : Int) (h0 : 0 ≤ s) (h1 : s ≤ 86400) (w : World) : Calls Tryz.prog 29 #[.int .i64 s] w fun e w' => e = .returned (.agg #[.int .i64 (X.hh s), .int .i64 (X.hm s), .int .i64 (X.hs s)]) ∧ Below w.heap.size w w' := by
  by_cases h9 : s ≤ 86399
  · have e1 : ((X.hh s : Nat) : Int) = s / 60 / 60 := by unfold X.hh X.sm; rw [if_pos h9]; omega
    have e2 : ((X.hm s : Nat) : Int) = s / 60 % 60 := by unfold X.hm X.sm; rw [if_pos h9]; omega
    have e3 : ((X.hs s : Nat) : Int) = s - s / 60 * 60 := by unfold X.hs X.sm; rw [if_pos h9]; omega
    rw [e1, e2, e3]
    have hmn : min (s / 60) 1439 = s / 60 := Int.min_eq_left (by omega)
    have HM := Lib.hid hmn
    have hm' : ¬ 1439 < s / 60 := by omega
    clear hmn
    have b3 : 0 ≤ s - s / 60 * 60 ∧ s - s / 60 * 60 ≤ 60 := by omega
    clear e1 e2 e3
    go_enter Tryz.func29, Tryz.ntmps29
    go_wp2
    exact bodyPost_ret (v := .agg #[.int .i64 (s / 60 / 60), .int .i64 (s / 60 % 60), .int .i64 (s - s / 60 * 60)]) (by simp [results, Tryz.results29, go_sem, HM.out]) rfl ⟨rfl, (Below.refl _ _).alloc (Nat.le_refl _) _⟩
  · obtain rfl : s = 86400 := by omega
    have e1 : ((X.hh 86400 : Nat) : Int) = 23 := by rfl
    have e2 : ((X.hm 86400 : Nat) : Int) = 59 := by rfl
    have e3 : ((X.hs 86400 : Nat) : Int) = 60 := by rfl
    rw [e1, e2, e3]
    clear e1 e2 e3
    go_enter Tryz.func29, Tryz.ntmps29
    go_wp2
    exact bodyPost_ret (v := .agg #[.int .i64 23, .int .i64 59, .int .i64 60]) (by simp [results, Tryz.results29, go_sem]; decide) rfl ⟨rfl, (Below.refl _ _).alloc (Nat.le_refl _) _⟩
/-- WriteString, in bytes. -/
theorem wsl (B b : Nat) (l x : List UInt8) (w : World) (h : Lib.IsBuilder 50 5 B b (Lib.byteCells l) w) (hl : l.length + x.length ≤ 1000000) (hBw : B ≤ w.heap.size) :
    Calls Tryz.prog 23 #[.pointer (some ⟨b, 0, none⟩), .string (S.mk x)] w fun e w' => (∃ v, e = .returned v) ∧ Lib.IsBuilder 50 5 B b (Lib.byteCells (l ++ x)) w' ∧ Below B w w' := by
  refine (ws_any B b _ (S.mk x) w h (by rw [Lib.byteCells_length, S.size_mk]; omega) hBw).mono ?_
  rintro e w' ⟨rfl, h1, h2⟩
  refine ⟨⟨_, rfl⟩, .inr ?_, h2⟩
  rw [Lib.byteCells_append]
  exact h1
structure FFs (w0 w : World) (F C b : Nat) (y m d s n : Int) (l : List UInt8) : Prop where
  fix : C5 w F y m d s n
  c0 : w.cell? ⟨C, 0, none⟩ = some (.int .i64 (X.hh s))
  c1 : w.cell? ⟨C, 1, none⟩ = some (.int .i64 (X.hm s))
  c2 : w.cell? ⟨C, 2, none⟩ = some (.int .i64 (X.hs s))
  clt : C < b
  flt : F < b
  bld : Lib.IsBuilder 50 5 b b (Lib.byteCells l) w
  blt : b < w.heap.size
  bel : Below w0.heap.size w0 w
theorem FFs.b {w0 w w' : World} {F C b : Nat} {y m d s n : Int} {l : List UInt8} (h : FFs w0 w F C b y m d s n l) (hb : Below w.heap.size w w') : FFs w0 w' F C b y m d s n l := by
  have := h.clt
  have := h.blt
  exact ⟨h.fix.b hb, (hb.cell (p := ⟨C, 0, none⟩) (by simp only; omega)).trans h.c0, (hb.cell (p := ⟨C, 1, none⟩) (by simp only; omega)).trans h.c1, (hb.cell (p := ⟨C, 2, none⟩) (by simp only; omega)).trans h.c2, h.clt, h.flt, isb_keep h.bld hb, Nat.lt_of_lt_of_le h.blt hb.size, h.bel.trans (hb.mono h.bel.size)⟩
theorem FFs.put {w0 w w' : World} {F C b : Nat} {y m d s n : Int} {l l' : List UInt8} (h : FFs w0 w F C b y m d s n l) (h0 : w0.heap.size ≤ b) (hl : Lib.IsBuilder 50 5 b b (Lib.byteCells l') w') (hb : Below b w w') : FFs w0 w' F C b y m d s n l' :=
  ⟨h.fix.bw hb h.flt, (hb.cell (p := ⟨C, 0, none⟩) h.clt).trans h.c0, (hb.cell (p := ⟨C, 1, none⟩) h.clt).trans h.c1, (hb.cell (p := ⟨C, 2, none⟩) h.clt).trans h.c2, h.clt, h.flt, hl, Nat.lt_of_lt_of_le h.blt hb.size, h.bel.trans (hb.mono h0)⟩
set_option maxHeartbeats 8000000 in
theorem ff_impl (y m d s n : Int) (w : World) (hT : Tb w) : Calls Tryz.prog 11 #[.agg #[.int .i64 y, .int .i64 m, .int .i64 d, .int .i64 s, .int .i64 n]] w fun e w' => e = .returned (.string (X.ff y m d s n)) ∧ Below w.heap.size w w' := by
  have K := C5.new w y m d s n 31
  have g0 : Below w.heap.size w (w.alloc (.cells #[.int .i64 y, .int .i64 m, .int .i64 d, .int .i64 s, .int .i64 n] 31)) := (Below.refl _ _).alloc (Nat.le_refl _) _
  have C := fun w' => vf_impl y m d s n w'
  rcases hv : X.vf y m d s n with _ | _
  · have e0 := X.ff_no hv
    rw [hv] at C
    rw [e0]
    have HC := Lib.hid C
    clear e0 C hv
    go_enter Tryz.func11, Tryz.ntmps11
    go_wp2_with fail
    refine (HC.out _).mono ?_
    rintro e w1 ⟨rfl, hb⟩
    have g1 := g0.trans (hb.mono g0.size)
    clear hb K g0
    go_wp2_with fail
    go_ret
    exact ⟨rfl, g1⟩
  · obtain ⟨h1, h2, h3⟩ := X.vf_of hv
    obtain ⟨v1, v2, v3⟩ := X.vld_bd h1
    obtain ⟨u1, u2, u3, u4⟩ := X.h_bd h2
    have HFF := Lib.hid (X.ff_yes hv)
    have hb1 := frameB_impl (S.mk (X.tx y m d s n)) (by rw [S.size_mk]; have := X.tx_len hv; unfold maxLen; omega)
    have HTX := Lib.hid (X.tx_len hv)
    have D := fun w' => clk_impl s h2.1 h2.2 w'
    rw [hv] at C
    have HC := Lib.hid C
    have HD := Lib.hid D
    have HB := Lib.hid hb1
    have HX := Lib.hid (show X.tx y m d s n = (([] ++ [70, 73, 88, 44]) ++ X.d2 (X.hh s) ++ X.d2 (X.hm s) ++ X.d2 (X.hs s) ++ [44] ++ X.d2 d.toNat ++ [44] ++ X.d2 m.toNat ++ [44] ++ Lib.decDigits y.toNat ++ [44] ++ Lib.decDigits n.toNat) by unfold X.tx; rfl)
    have HT := Lib.hid hT
    clear C D hb1 hv h1 u4
    go_enter Tryz.func11, Tryz.ntmps11
    go_wp2_with fail
    refine (HC.out _).mono ?_
    rintro e w1 ⟨rfl, hb⟩
    have g1 := g0.trans (hb.mono g0.size)
    have K1 := K.b hb
    clear hb K g0
    obtain ⟨c0, c1, c2, c3, c4, cl⟩ := id K1
    go_wp2_with fail
    refine (HD.out _).mono ?_
    rintro e w2 ⟨rfl, hb⟩
    have g2 := g1.trans (hb.mono g1.size)
    have K2 := (K1.b hb).al (.cells #[.int .i64 (X.hh s), .int .i64 (X.hm s), .int .i64 (X.hs s)] 63)
    have K3 := K2.al (.cells #[.pointer none, .slice none 0 0] 50)
    have hlt : w.heap.size < w2.heap.size := (K1.b hb).lt
    clear hb g1 K1 c0 c1 c2 c3 c4 cl
    have F0 : FFs w ((w2.alloc (.cells #[.int .i64 (X.hh s), .int .i64 (X.hm s), .int .i64 (X.hs s)] 63)).alloc (.cells #[.pointer none, .slice none 0 0] 50)) w.heap.size w2.heap.size (w2.heap.size + 1) y m d s n [] := by
      have b1 := (Below.refl (w2.alloc (.cells #[.int .i64 (X.hh s), .int .i64 (X.hm s), .int .i64 (X.hs s)] 63)).heap.size (w2.alloc (.cells #[.int .i64 (X.hh s), .int .i64 (X.hm s), .int .i64 (X.hs s)] 63))).alloc (Nat.le_refl _) (.cells #[.pointer none, .slice none 0 0] 50)
      have nb := bld_new (w2.alloc (.cells #[.int .i64 (X.hh s), .int .i64 (X.hm s), .int .i64 (X.hs s)] 63))
      simp only [World.size_alloc] at nb
      refine ⟨K3, (b1.cell (p := ⟨w2.heap.size, 0, none⟩) (by simp)).trans (by simp), (b1.cell (p := ⟨w2.heap.size, 1, none⟩) (by simp)).trans (by simp), (b1.cell (p := ⟨w2.heap.size, 2, none⟩) (by simp)).trans (by simp), by omega, by omega, nb, by simp, ?_⟩
      exact (g2.alloc g2.size _).alloc (by simp; omega) _
    have hb0 : w.heap.size ≤ w2.heap.size + 1 := by omega
    clear K2 K3 g2
    go_wp2_with fail
    refine (wsl _ _ _ ([70, 73, 88, 44]) _ F0.bld (by decide) (Nat.le_of_lt F0.blt)).mono ?_
    rintro e y0 ⟨⟨v, rfl⟩, hl, hb⟩
    have F1 := F0.put hb0 hl hb
    clear hl hb F0
    obtain ⟨⟨a0, a1, a2, a3, a4, al⟩, k0, k1, k2, -, -, -, -, -⟩ := id F1
    go_wp2_with fail
    refine (two_impl _ (by omega) (by omega) _).mono ?_
    rintro e x1 ⟨rfl, hb⟩
    have G1 := F1.b hb
    clear hb F1 a0 a1 a2 a3 a4 al k0 k1 k2
    rw [Int.toNat_natCast]
    go_wp2_with fail
    refine (wsl _ _ _ (X.d2 (X.hh s)) _ G1.bld (by simp only [List.length_append, List.length_cons, List.length_nil, X.d2_len]; (try have := dec_le y.toNat); (try have := dec_le n.toNat); omega) (Nat.le_of_lt G1.blt)).mono ?_
    rintro e y1 ⟨⟨v, rfl⟩, hl, hb⟩
    have F2 := G1.put hb0 hl hb
    clear hl hb G1
    obtain ⟨⟨a0, a1, a2, a3, a4, al⟩, k0, k1, k2, -, -, -, -, -⟩ := id F2
    go_wp2_with fail
    refine (two_impl _ (by omega) (by omega) _).mono ?_
    rintro e x2 ⟨rfl, hb⟩
    have G2 := F2.b hb
    clear hb F2 a0 a1 a2 a3 a4 al k0 k1 k2
    rw [Int.toNat_natCast]
    go_wp2_with fail
    refine (wsl _ _ _ (X.d2 (X.hm s)) _ G2.bld (by simp only [List.length_append, List.length_cons, List.length_nil, X.d2_len]; (try have := dec_le y.toNat); (try have := dec_le n.toNat); omega) (Nat.le_of_lt G2.blt)).mono ?_
    rintro e y2 ⟨⟨v, rfl⟩, hl, hb⟩
    have F3 := G2.put hb0 hl hb
    clear hl hb G2
    obtain ⟨⟨a0, a1, a2, a3, a4, al⟩, k0, k1, k2, -, -, -, -, -⟩ := id F3
    go_wp2_with fail
    refine (two_impl _ (by omega) (by omega) _).mono ?_
    rintro e x3 ⟨rfl, hb⟩
    have G3 := F3.b hb
    clear hb F3 a0 a1 a2 a3 a4 al k0 k1 k2
    rw [Int.toNat_natCast]
    go_wp2_with fail
    refine (wsl _ _ _ (X.d2 (X.hs s)) _ G3.bld (by simp only [List.length_append, List.length_cons, List.length_nil, X.d2_len]; (try have := dec_le y.toNat); (try have := dec_le n.toNat); omega) (Nat.le_of_lt G3.blt)).mono ?_
    rintro e y3 ⟨⟨v, rfl⟩, hl, hb⟩
    have F4 := G3.put hb0 hl hb
    clear hl hb G3
    go_wp2_with fail
    refine (wsl _ _ _ ([44]) _ F4.bld (by simp only [List.length_append, List.length_cons, List.length_nil, X.d2_len]; (try have := dec_le y.toNat); (try have := dec_le n.toNat); omega) (Nat.le_of_lt F4.blt)).mono ?_
    rintro e y4 ⟨⟨v, rfl⟩, hl, hb⟩
    have F5 := F4.put hb0 hl hb
    clear hl hb F4
    obtain ⟨⟨a0, a1, a2, a3, a4, al⟩, k0, k1, k2, -, -, -, -, -⟩ := id F5
    go_wp2_with fail
    refine (two_impl _ (by omega) (by omega) _).mono ?_
    rintro e x5 ⟨rfl, hb⟩
    have G5 := F5.b hb
    clear hb F5 a0 a1 a2 a3 a4 al k0 k1 k2
    go_wp2_with fail
    refine (wsl _ _ _ (X.d2 d.toNat) _ G5.bld (by simp only [List.length_append, List.length_cons, List.length_nil, X.d2_len]; (try have := dec_le y.toNat); (try have := dec_le n.toNat); omega) (Nat.le_of_lt G5.blt)).mono ?_
    rintro e y5 ⟨⟨v, rfl⟩, hl, hb⟩
    have F6 := G5.put hb0 hl hb
    clear hl hb G5
    go_wp2_with fail
    refine (wsl _ _ _ ([44]) _ F6.bld (by simp only [List.length_append, List.length_cons, List.length_nil, X.d2_len]; (try have := dec_le y.toNat); (try have := dec_le n.toNat); omega) (Nat.le_of_lt F6.blt)).mono ?_
    rintro e y6 ⟨⟨v, rfl⟩, hl, hb⟩
    have F7 := F6.put hb0 hl hb
    clear hl hb F6
    obtain ⟨⟨a0, a1, a2, a3, a4, al⟩, k0, k1, k2, -, -, -, -, -⟩ := id F7
    go_wp2_with fail
    refine (two_impl _ (by omega) (by omega) _).mono ?_
    rintro e x7 ⟨rfl, hb⟩
    have G7 := F7.b hb
    clear hb F7 a0 a1 a2 a3 a4 al k0 k1 k2
    go_wp2_with fail
    refine (wsl _ _ _ (X.d2 m.toNat) _ G7.bld (by simp only [List.length_append, List.length_cons, List.length_nil, X.d2_len]; (try have := dec_le y.toNat); (try have := dec_le n.toNat); omega) (Nat.le_of_lt G7.blt)).mono ?_
    rintro e y7 ⟨⟨v, rfl⟩, hl, hb⟩
    have F8 := G7.put hb0 hl hb
    clear hl hb G7
    go_wp2_with fail
    refine (wsl _ _ _ ([44]) _ F8.bld (by simp only [List.length_append, List.length_cons, List.length_nil, X.d2_len]; (try have := dec_le y.toNat); (try have := dec_le n.toNat); omega) (Nat.le_of_lt F8.blt)).mono ?_
    rintro e y8 ⟨⟨v, rfl⟩, hl, hb⟩
    have F9 := F8.put hb0 hl hb
    clear hl hb F8
    obtain ⟨⟨a0, a1, a2, a3, a4, al⟩, k0, k1, k2, -, -, -, -, -⟩ := id F9
    go_wp2_with fail
    refine (itoa_at _ (by omega) (by omega) _ (HT.out.b F9.bel)).mono ?_
    rintro e x9 ⟨rfl, hb⟩
    have G9 := F9.b hb
    clear hb F9 a0 a1 a2 a3 a4 al k0 k1 k2
    go_wp2_with fail
    refine (wsl _ _ _ (Lib.decDigits y.toNat) _ G9.bld (by simp only [List.length_append, List.length_cons, List.length_nil, X.d2_len]; (try have := dec_le y.toNat); (try have := dec_le n.toNat); omega) (Nat.le_of_lt G9.blt)).mono ?_
    rintro e y9 ⟨⟨v, rfl⟩, hl, hb⟩
    have F10 := G9.put hb0 hl hb
    clear hl hb G9
    go_wp2_with fail
    refine (wsl _ _ _ ([44]) _ F10.bld (by simp only [List.length_append, List.length_cons, List.length_nil, X.d2_len]; (try have := dec_le y.toNat); (try have := dec_le n.toNat); omega) (Nat.le_of_lt F10.blt)).mono ?_
    rintro e y10 ⟨⟨v, rfl⟩, hl, hb⟩
    have F11 := F10.put hb0 hl hb
    clear hl hb F10
    obtain ⟨⟨a0, a1, a2, a3, a4, al⟩, k0, k1, k2, -, -, -, -, -⟩ := id F11
    go_wp2_with fail
    refine (itoa_at _ (by omega) (by omega) _ (HT.out.b F11.bel)).mono ?_
    rintro e x11 ⟨rfl, hb⟩
    have G11 := F11.b hb
    clear hb F11 a0 a1 a2 a3 a4 al k0 k1 k2
    go_wp2_with fail
    refine (wsl _ _ _ (Lib.decDigits n.toNat) _ G11.bld (by simp only [List.length_append, List.length_cons, List.length_nil, X.d2_len]; (try have := dec_le y.toNat); (try have := dec_le n.toNat); omega) (Nat.le_of_lt G11.blt)).mono ?_
    rintro e y11 ⟨⟨v, rfl⟩, hl, hb⟩
    have F12 := G11.put hb0 hl hb
    clear hl hb G11
    go_wp2_with fail
    refine (Tryz.Builder_String_any _ _ _ _ F12.bld (Nat.le_of_lt F12.blt)).mono ?_
    rintro e wA ⟨rfl, hb⟩
    have gA := F12.bel.trans (hb.mono hb0)
    clear hb F12
    have hq : (⟨(([] ++ [70, 73, 88, 44]) ++ X.d2 (X.hh s) ++ X.d2 (X.hm s) ++ X.d2 (X.hs s) ++ [44] ++ X.d2 d.toNat ++ [44] ++ X.d2 m.toNat ++ [44] ++ Lib.decDigits y.toNat ++ [44] ++ Lib.decDigits n.toNat).toArray⟩ : ByteArray) = S.mk (X.tx y m d s n) := by rw [HX.out]; rfl
    rw [hq]
    go_wp2_with fail
    refine (HB.out _).mono ?_
    rintro e wB ⟨rfl, hb⟩
    have gB := gA.trans (hb.mono gA.size)
    clear hb gA
    go_wp2
    go_ret
    exact ⟨ret_str HFF.out.symm, gB⟩
/-- Some text, which is this one. -/
def SomeE (k : Nat) (l : List UInt8) (w : World) (e : Ending) (w' : World) : Prop := ∃ t : ByteArray, e = .returned (.string t) ∧ t.size ≤ k ∧ Hid (t = S.mk l) ∧ Below w.heap.size w w'
set_option maxHeartbeats 1000000 in
theorem dec_spec (n : Nat) (hn : n ≤ 1000000000000) (w : World) : Calls Tryz.prog 53 #[.int .i64 n] w (SomeE (n + 1) (Lib.decDigits n) w) := by
  induction n using Nat.strongRecOn generalizing w with
  | _ n ih =>
  have n1 : (S.mk [UInt8.ofNat (48 + n % 10)]).size = 1 := S.size_mk _
  have hm0 : 0 ≤ (n : Int) % 10 := by omega
  have hm1 : (n : Int) % 10 ≤ 9 := by omega
  have hle := dec_le n
  by_cases h10 : n < 10
  · have g : (n : Int) < 10 := by omega
    have i1 := run_b1 (P := Tryz.prog) 22 9 5 Tryz.underlying22 Tryz.underlying5 Tryz.underlying9 w.heap.size (UInt8.ofNat (48 + n)) (48 + (n : Int)) (dgt_nat n h10) (w.alloc (.cells #[.int .u8 (48 + (n : Int))] 5)) (by simp)
    have HQ := Lib.hid (X.dec_small h10)
    obtain ⟨D, hD⟩ : ∃ D, UInt8.ofNat (48 + n) = D := ⟨_, rfl⟩
    rw [hD] at i1 HQ
    clear ih hle hD
    go_enter Tryz.func53, Tryz.ntmps53
    go_wp2
    go_ret
    exact ⟨_, rfl, by rw [S.size_mk]; simp, Lib.hid (by rw [HQ.out]), (Below.refl _ _).alloc (Nat.le_refl _) _⟩
  · have g : ¬ (n : Int) < 10 := by omega
    have hv : 48 + (n : Int) % 10 = ((UInt8.ofNat (48 + n % 10)).toNat : Int) := by rw [← dgt_nat (n % 10) (by omega)]; omega
    have C := fun W => ih (n / 10) (by omega) (by omega) W
    have hq : ((n / 10 : Nat) : Int) = (n : Int) / 10 := by omega
    rw [hq] at C
    have i1 := run_b1 (P := Tryz.prog) 22 9 5 Tryz.underlying22 Tryz.underlying5 Tryz.underlying9 w.heap.size (UInt8.ofNat (48 + n % 10)) (48 + (n : Int) % 10) hv (w.alloc (.cells #[.int .u8 (48 + (n : Int) % 10)] 5)).drew (by simp)
    have HC := Lib.hid C
    have HV := Lib.hid hv
    have HQ := Lib.hid (X.dec_big h10)
    have HLE := Lib.hid hle
    obtain ⟨D, hD⟩ : ∃ D, UInt8.ofNat (48 + n % 10) = D := ⟨_, rfl⟩
    rw [hD] at n1 i1 HV HQ
    clear ih hv C hq hle hD
    go_enter Tryz.func53, Tryz.ntmps53
    go_wp2
    have e1 := IntWalk.i64_in ((n : Int) / 10) (by omega)
    have e2 : (n : Int).tmod 10 = (n : Int) % 10 := Int.tmod_eq_emod_of_nonneg (by omega)
    have e3 := IntWalk.i64_in (48 + (n : Int) % 10) (by omega)
    have e4 := IntWalk.u8_in (48 + (n : Int) % 10) (by omega)
    go_region_with ((first
      | (go_at_call 53; (with_reducible refine (HC.out w.drew).mono ?_); rintro e w2 ⟨s, rfl, hs, E, b2⟩; have i2 := run_b1 (P := Tryz.prog) 22 9 5 Tryz.underlying22 Tryz.underlying5 Tryz.underlying9 w2.heap.size D (48 + (n : Int) % 10) HV.out (w2.alloc (.cells #[.int .u8 (48 + (n : Int) % 10)] 5)) (by simp))
      | (go_at_call 53; (with_reducible refine (HC.out (w.alloc (.cells #[.int .u8 (48 + (n : Int) % 10)] 5)).drew).mono ?_); rintro e w2 ⟨s, rfl, hs, E, b2⟩; have i2 := run_b1 (P := Tryz.prog) 22 9 5 Tryz.underlying22 Tryz.underlying5 Tryz.underlying9 w.heap.size D (48 + (n : Int) % 10) HV.out w2 ((b2.cell (p := ⟨w.heap.size, 0, none⟩) (by simp)).trans (by simp)))))
    all_goals go_wp2
    all_goals go_ret
    all_goals refine ⟨s ++ S.mk [D], rfl, by rw [E.out, mk_app, ← HQ.out, S.size_mk]; exact HLE.out, Lib.hid (by rw [E.out, mk_app, HQ.out]), ?_⟩
    all_goals (first
      | exact (((Below.refl w.heap.size w).drew).trans b2).alloc b2.size _
      | exact (((Below.refl w.heap.size w).alloc (Nat.le_refl _) _).drew).trans (b2.mono (by simp)))
theorem dec_at (z : Int) (h0 : 0 ≤ z) (h1 : z ≤ 2199) (w : World) : Calls Tryz.prog 53 #[.int .i64 z] w (SomeE 2200 (Lib.decDigits z.toNat) w) := by
  obtain ⟨n, rfl⟩ := Int.eq_ofNat_of_zero_le h0
  exact (dec_spec n (by omega) w).mono fun e w' ⟨s, a, b, c, d⟩ => ⟨s, a, by omega, c, d⟩
theorem dec_to (z : Int) (h0 : 0 ≤ z) (h1 : z ≤ 1000000000000) (w : World) : Calls Tryz.prog 53 #[.int .i64 z] w fun e w' => e = .returned (.string (S.mk (Lib.decDigits z.toNat))) ∧ Below w.heap.size w w' := by
  obtain ⟨n, rfl⟩ := Int.eq_ofNat_of_zero_le h0
  exact (dec_spec n (by omega) w).mono fun e w' ⟨s, a, b, c, d⟩ => ⟨by rw [a, c.out]; rfl, d⟩
theorem dig4_spec (z : Int) (h0 : 1000 ≤ z) (h1 : z ≤ 2199) (w : World) : Calls Tryz.prog 55 #[.int .i64 z, .int .i64 4] w (SomeE 2200 (Lib.decDigits z.toNat) w) := by
  have hl : (S.mk (Lib.decDigits z.toNat)).size = 4 := by rw [S.size_mk, X.dec_four (by omega) (by omega)]; rfl
  go_enter Tryz.func55, Tryz.ntmps55
  go_wp2_with fail
  refine (dec_at z (by omega) h1 w).mono ?_
  rintro e w2 ⟨s, rfl, hs, E, b2⟩
  rw [← E.out] at hl
  have HE := E
  have hl' : (s.size : Int) = 4 := by omega
  clear E
  go_wp2
  go_loop [5] (fun x => x = .string s) (fun _ => 0)
  case atStart => rfl
  case round =>
    obtain rfl := hrel
    go_wp2
    go_ret
    exact ⟨s, rfl, hs, HE, b2⟩
theorem dig2_spec (z : Int) (h0 : 0 ≤ z) (h1 : z ≤ 99) (w : World) : Calls Tryz.prog 55 #[.int .i64 z, .int .i64 2] w (SomeE 2200 (X.d2 z.toNat) w) := by
  by_cases h9 : 10 ≤ z
  · have hd : Lib.decDigits z.toNat = X.d2 z.toNat := X.dec_two (by omega) (by omega)
    have hl : (S.mk (Lib.decDigits z.toNat)).size = 2 := by rw [hd]; rfl
    go_enter Tryz.func55, Tryz.ntmps55
    go_wp2_with fail
    refine (dec_at z h0 (by omega) w).mono ?_
    rintro e w2 ⟨s, rfl, hs, E, b2⟩
    rw [← E.out] at hl
    have HE := Lib.hid (show s = S.mk (X.d2 z.toNat) by rw [← hd]; exact E.out)
    have hl' : (s.size : Int) = 2 := by omega
    clear E hd
    go_wp2
    go_loop [5] (fun x => x = .string s) (fun _ => 0)
    case atStart => rfl
    case round =>
      obtain rfl := hrel
      go_wp2
      go_ret
      exact ⟨s, rfl, hs, HE, b2⟩
  · have hd : Lib.decDigits z.toNat = [UInt8.ofNat (48 + z.toNat)] := X.dec_small (by omega)
    have hd2 : S.mk [48] ++ S.mk (Lib.decDigits z.toNat) = S.mk (X.d2 z.toNat) := by
      rw [mk_app, hd]
      unfold X.d2
      rw [Nat.div_eq_of_lt (by omega), Nat.mod_eq_of_lt (by omega)]
      rfl
    have hl : (S.mk (Lib.decDigits z.toNat)).size = 1 := by rw [hd]; rfl
    go_enter Tryz.func55, Tryz.ntmps55
    go_wp2_with fail
    refine (dec_at z h0 (by omega) w).mono ?_
    rintro e w2 ⟨s, rfl, hs, E, b2⟩
    rw [← E.out] at hl hd2
    have hz : (({ data := #[48] } : ByteArray) ++ s).size = 2 := by rw [Go.ByteArray.size_append', hl]; rfl
    have hd3 : ({ data := #[48] } : ByteArray) ++ s = S.mk (X.d2 z.toNat) := hd2
    have HE := Lib.hid (And.intro hd3 hz)
    have hl' : (s.size : Int) = 1 := by omega
    clear E hd hd2 hd3 hz
    go_wp2
    go_loop [5] (fun x => x = .string s ∨ x = .string (S.mk (X.d2 z.toNat))) (fun x => match x with | .string t => 5 - t.size | _ => 0)
    case atStart => exact .inl rfl
    case round =>
      rcases hrel with rfl | rfl
      · go_wp2
        go_round
        case rel => exact .inr (by rw [HE.out.1])
        case measure => simp only [HE.out.2]; omega
      · have h2 : ((S.mk (X.d2 z.toNat)).size : Int) = 2 := rfl
        go_wp2
        go_ret
        exact ⟨_, rfl, by show 2 ≤ 2200; omega, Lib.hid rfl, b2⟩
theorem keepS {D : Nat} {y mo d seen : Int} {w0 w w' : World} (b : Below w.heap.size w w') (h : Below D w0 w ∧ D < w.heap.size ∧ w.cell? ⟨D, 0, none⟩ = some (.int .i64 y) ∧ w.cell? ⟨D, 1, none⟩ = some (.int .i64 mo) ∧ w.cell? ⟨D, 2, none⟩ = some (.int .i64 d) ∧ w.cell? ⟨D, 4, none⟩ = some (.int .i64 seen)) :
    Below D w0 w' ∧ D < w'.heap.size ∧ w'.cell? ⟨D, 0, none⟩ = some (.int .i64 y) ∧ w'.cell? ⟨D, 1, none⟩ = some (.int .i64 mo) ∧ w'.cell? ⟨D, 2, none⟩ = some (.int .i64 d) ∧ w'.cell? ⟨D, 4, none⟩ = some (.int .i64 seen) :=
  ⟨h.1.trans (b.mono (Nat.le_of_lt h.2.1)), Nat.lt_of_lt_of_le h.2.1 b.size, (b.cell (p := ⟨D, 0, none⟩) h.2.1).trans h.2.2.1, (b.cell (p := ⟨D, 1, none⟩) h.2.1).trans h.2.2.2.1, (b.cell (p := ⟨D, 2, none⟩) h.2.1).trans h.2.2.2.2.1, (b.cell (p := ⟨D, 4, none⟩) h.2.1).trans h.2.2.2.2.2⟩
set_option maxHeartbeats 4000000 in
theorem fmt_lo (y mo d sec seen : Int) (w : World) (hy : 1980 ≤ y ∧ y ≤ 2099) (hmo : 1 ≤ mo ∧ mo ≤ 12) (hd : 1 ≤ d ∧ d ≤ 31) (hsec : 0 ≤ sec ∧ sec ≤ 86399) (hseen : 0 ≤ seen ∧ seen ≤ 32) :
    Calls Tryz.prog 37 #[.agg #[.int .i64 y, .int .i64 mo, .int .i64 d, .int .i64 sec, .int .i64 seen]] w fun e w' => e = .returned (.string (S.mk (X.tx y mo d sec seen))) ∧ Below w.heap.size w w' := by
  have g0 : ¬ (86399 : Int) < sec := by omega
  go_enter Tryz.func37, Tryz.ntmps37
  go_wp2_with fail
  refine (dig2_spec _ (by omega) (by omega) _).mono ?_
  rintro e w1 ⟨s1, rfl, hs1, E1, b1⟩
  have bW : Below w.heap.size w w1 := ((Below.refl _ _).alloc (Nat.le_refl _) _).trans (b1.mono (by simp))
  have hD : w.heap.size < w1.heap.size := by have := b1.size; simp at this; omega
  have c0 : w1.cell? ⟨w.heap.size, 0, none⟩ = some (.int .i64 y) := (b1.cell (p := ⟨w.heap.size, 0, none⟩) (by simp)).trans (by simp)
  have c1 : w1.cell? ⟨w.heap.size, 1, none⟩ = some (.int .i64 mo) := (b1.cell (p := ⟨w.heap.size, 1, none⟩) (by simp)).trans (by simp)
  have c2 : w1.cell? ⟨w.heap.size, 2, none⟩ = some (.int .i64 d) := (b1.cell (p := ⟨w.heap.size, 2, none⟩) (by simp)).trans (by simp)
  have c4 : w1.cell? ⟨w.heap.size, 4, none⟩ = some (.int .i64 seen) := (b1.cell (p := ⟨w.heap.size, 4, none⟩) (by simp)).trans (by simp)
  have H1 := E1
  clear E1
  generalize hgd : w.heap.size = D at *
  have HD := Lib.hid hgd
  clear b1 hgd
  have hs1' : (s1.size : Int) ≤ 2200 := by omega
  go_wp2_with fail
  refine (dig2_spec _ (by omega) (by omega) _).mono ?_
  rintro e w2 ⟨s2, rfl, hs2, E2, b2⟩
  have H2 := E2
  clear E2
  have bW2 := bW.trans (b2.mono (by omega))
  have hD2 : D < w2.heap.size := Nat.lt_of_lt_of_le hD b2.size
  have d0 := (b2.cell (p := ⟨D, 0, none⟩) hD).trans c0
  have d1 := (b2.cell (p := ⟨D, 1, none⟩) hD).trans c1
  have d2 := (b2.cell (p := ⟨D, 2, none⟩) hD).trans c2
  have d4 := (b2.cell (p := ⟨D, 4, none⟩) hD).trans c4
  clear b2 c0 c1 c2 c4 bW hD
  have hs2' : (s2.size : Int) ≤ 2200 := by omega
  go_wp2_with fail
  refine (dig2_spec _ (by omega) (by omega) _).mono ?_
  rintro e w3 ⟨s3, rfl, hs3, E3, b3⟩
  have H3 := E3
  clear E3
  have bW3 := bW2.trans (b3.mono (by omega))
  have hD3 : D < w3.heap.size := Nat.lt_of_lt_of_le hD2 b3.size
  have c0 := (b3.cell (p := ⟨D, 0, none⟩) hD2).trans d0
  have c1 := (b3.cell (p := ⟨D, 1, none⟩) hD2).trans d1
  have c2 := (b3.cell (p := ⟨D, 2, none⟩) hD2).trans d2
  have c4 := (b3.cell (p := ⟨D, 4, none⟩) hD2).trans d4
  clear b3 d0 d1 d2 d4 bW2 hD2
  have hs3' : (s3.size : Int) ≤ 2200 := by omega
  go_wp2_with fail
  have ht : (s1 ++ s2 ++ s3).size ≤ 6600 := by rw [Go.ByteArray.size_append', Go.ByteArray.size_append']; omega
  generalize ht9 : s1 ++ s2 ++ s3 = t at *
  have H0 := Lib.hid ht9
  clear ht9
  have ht' : (t.size : Int) ≤ 6600 := by omega
  have n1 : ¬ 9223372036854775807 < 4 + t.size := by omega
  have n2 : ¬ 9223372036854775807 < 4 + t.size + 1 := by omega
  have hS3 : Below D w w3 ∧ D < w3.heap.size ∧ w3.cell? ⟨D, 0, none⟩ = some (.int .i64 y) ∧ w3.cell? ⟨D, 1, none⟩ = some (.int .i64 mo) ∧ w3.cell? ⟨D, 2, none⟩ = some (.int .i64 d) ∧ w3.cell? ⟨D, 4, none⟩ = some (.int .i64 seen) := ⟨bW3, hD3, c0, c1, c2, c4⟩
  go_region_held3 (fun w' => Below D w w' ∧ D < w'.heap.size ∧ w'.cell? ⟨D, 0, none⟩ = some (.int .i64 y) ∧ w'.cell? ⟨D, 1, none⟩ = some (.int .i64 mo) ∧ w'.cell? ⟨D, 2, none⟩ = some (.int .i64 d) ∧ w'.cell? ⟨D, 4, none⟩ = some (.int .i64 seen))
    (first | exact ⟨bW3, hD3, c0, c1, c2, c4⟩ | exact ⟨bW3.drew, hD3, c0, c1, c2, c4⟩ | exact keepS b (by first | assumption | exact hS3 | exact ⟨bW3.drew, hD3, c0, c1, c2, c4⟩))
    ((first | (go_at_call 55; (with_reducible refine (dig2_spec d (by omega) (by omega) _).mono ?_); rintro e w5 ⟨s4, rfl, hs4, E4, b⟩; have E4 := E4; have hs4' : (s4.size : Int) ≤ 2200 := (by omega); have n0s4 : ¬ 9223372036854775807 < 4 + t.size + 1 + s4.size := (by omega); have n1s4 : ¬ 9223372036854775807 < 4 + t.size + 1 + s4.size + 1 := (by omega)) | (go_at_call 55; (with_reducible refine (dig2_spec mo (by omega) (by omega) _).mono ?_); rintro e w5 ⟨s5, rfl, hs5, E5, b⟩; have hs5' : (s5.size : Int) ≤ 2200 := (by omega); have n0s5 : ¬ 9223372036854775807 < 4 + t.size + 1 + s4.size + 1 + s5.size := (by omega); have n1s5 : ¬ 9223372036854775807 < 4 + t.size + 1 + s4.size + 1 + s5.size + 1 := (by omega)) | (go_at_call 55; (with_reducible refine (dig4_spec y (by omega) (by omega) _).mono ?_); rintro e w5 ⟨s6, rfl, hs6, E6, b⟩; have hs6' : (s6.size : Int) ≤ 2200 := (by omega); have n0s6 : ¬ 9223372036854775807 < 4 + t.size + 1 + s4.size + 1 + s5.size + 1 + s6.size := (by omega); have n1s6 : ¬ 9223372036854775807 < 4 + t.size + 1 + s4.size + 1 + s5.size + 1 + s6.size + 1 := (by omega)) | (go_at_call 53; (with_reducible refine (dec_at seen (by omega) (by omega) _).mono ?_); rintro e w5 ⟨s7, rfl, hs7, E7, b⟩; have hs7' : (s7.size : Int) ≤ 2200 := (by omega); have n0s7 : ¬ 9223372036854775807 < 4 + t.size + 1 + s4.size + 1 + s5.size + 1 + s6.size + 1 + s7.size := (by omega))))
  have HB := Lib.hid (‹Below D w w5 ∧ _›.1)
  go_wp2
  go_ret
  refine ⟨ret_str ?_, by rw [HD.out]; exact HB.out⟩
  rw [E4.out, E5.out, E6.out, E7.out, ← H0.out, H1.out, H2.out, H3.out]
  show ((({ data := #[70, 73, 88, 44] } : ByteArray) ++ _ ++ { data := #[44] } ++ _ ++ { data := #[44] } ++ _ ++ { data := #[44] } ++ _ ++ { data := #[44] } ++ _)) = _
  apply S.ext
  simp only [S.lst_append, S.lst_mk]
  unfold X.tx
  rw [show X.hh sec = (sec / 3600).toNat by unfold X.hh X.sm; rw [if_pos hsec.2], show X.hm sec = (sec / 60 % 60).toNat by unfold X.hm X.sm; rw [if_pos hsec.2], show X.hs sec = (sec % 60 + sec - sec).toNat by unfold X.hs X.sm; rw [if_pos hsec.2]]
  have l1 : S.lst { data := #[70, 73, 88, 44] } = [70, 73, 88, 44] := rfl
  have l2 : S.lst { data := #[44] } = [44] := rfl
  rw [l1, l2]
  simp only [List.append_assoc]
  rw [Int.min_eq_left hsec.2]
set_option maxHeartbeats 4000000 in
theorem fmt_hi (y mo d seen : Int) (w : World) (hy : 1980 ≤ y ∧ y ≤ 2099) (hmo : 1 ≤ mo ∧ mo ≤ 12) (hd : 1 ≤ d ∧ d ≤ 31) (hseen : 0 ≤ seen ∧ seen ≤ 32) :
    Calls Tryz.prog 37 #[.agg #[.int .i64 y, .int .i64 mo, .int .i64 d, .int .i64 86400, .int .i64 seen]] w fun e w' => e = .returned (.string (S.mk (X.tx y mo d 86400 seen))) ∧ Below w.heap.size w w' := by
  go_enter Tryz.func37, Tryz.ntmps37
  go_wp2_with fail
  refine (dig2_spec _ (by omega) (by omega) _).mono ?_
  rintro e w1 ⟨s1, rfl, hs1, E1, b1⟩
  have bW : Below w.heap.size w w1 := ((Below.refl _ _).alloc (Nat.le_refl _) _).trans (b1.mono (by simp))
  have hD : w.heap.size < w1.heap.size := by have := b1.size; simp at this; omega
  have c0 : w1.cell? ⟨w.heap.size, 0, none⟩ = some (.int .i64 y) := (b1.cell (p := ⟨w.heap.size, 0, none⟩) (by simp)).trans (by simp)
  have c1 : w1.cell? ⟨w.heap.size, 1, none⟩ = some (.int .i64 mo) := (b1.cell (p := ⟨w.heap.size, 1, none⟩) (by simp)).trans (by simp)
  have c2 : w1.cell? ⟨w.heap.size, 2, none⟩ = some (.int .i64 d) := (b1.cell (p := ⟨w.heap.size, 2, none⟩) (by simp)).trans (by simp)
  have c4 : w1.cell? ⟨w.heap.size, 4, none⟩ = some (.int .i64 seen) := (b1.cell (p := ⟨w.heap.size, 4, none⟩) (by simp)).trans (by simp)
  have H1 := E1
  clear E1
  generalize hgd : w.heap.size = D at *
  have HD := Lib.hid hgd
  clear b1 hgd
  have hs1' : (s1.size : Int) ≤ 2200 := by omega
  go_wp2_with fail
  refine (dig2_spec _ (by omega) (by omega) _).mono ?_
  rintro e w2 ⟨s2, rfl, hs2, E2, b2⟩
  have H2 := E2
  clear E2
  have bW2 := bW.trans (b2.mono (by omega))
  have hD2 : D < w2.heap.size := Nat.lt_of_lt_of_le hD b2.size
  have d0 := (b2.cell (p := ⟨D, 0, none⟩) hD).trans c0
  have d1 := (b2.cell (p := ⟨D, 1, none⟩) hD).trans c1
  have d2 := (b2.cell (p := ⟨D, 2, none⟩) hD).trans c2
  have d4 := (b2.cell (p := ⟨D, 4, none⟩) hD).trans c4
  clear b2 c0 c1 c2 c4 bW hD
  have hs2' : (s2.size : Int) ≤ 2200 := by omega
  go_wp2_with fail
  refine (dig2_spec _ (by omega) (by omega) _).mono ?_
  rintro e w3 ⟨s3, rfl, hs3, E3, b3⟩
  have H3 := E3
  clear E3
  have bW3 := bW2.trans (b3.mono (by omega))
  have hD3 : D < w3.heap.size := Nat.lt_of_lt_of_le hD2 b3.size
  have c0 := (b3.cell (p := ⟨D, 0, none⟩) hD2).trans d0
  have c1 := (b3.cell (p := ⟨D, 1, none⟩) hD2).trans d1
  have c2 := (b3.cell (p := ⟨D, 2, none⟩) hD2).trans d2
  have c4 := (b3.cell (p := ⟨D, 4, none⟩) hD2).trans d4
  clear b3 d0 d1 d2 d4 bW2 hD2
  have hs3' : (s3.size : Int) ≤ 2200 := by omega
  go_wp2_with fail
  have ht : (s1 ++ s2 ++ s3).size ≤ 6600 := by rw [Go.ByteArray.size_append', Go.ByteArray.size_append']; omega
  generalize ht9 : s1 ++ s2 ++ s3 = t at *
  have H0 := Lib.hid ht9
  clear ht9
  have ht' : (t.size : Int) ≤ 6600 := by omega
  have n1 : ¬ 9223372036854775807 < 4 + t.size := by omega
  have n2 : ¬ 9223372036854775807 < 4 + t.size + 1 := by omega
  have hS3 : Below D w w3 ∧ D < w3.heap.size ∧ w3.cell? ⟨D, 0, none⟩ = some (.int .i64 y) ∧ w3.cell? ⟨D, 1, none⟩ = some (.int .i64 mo) ∧ w3.cell? ⟨D, 2, none⟩ = some (.int .i64 d) ∧ w3.cell? ⟨D, 4, none⟩ = some (.int .i64 seen) := ⟨bW3, hD3, c0, c1, c2, c4⟩
  go_region_held3 (fun w' => Below D w w' ∧ D < w'.heap.size ∧ w'.cell? ⟨D, 0, none⟩ = some (.int .i64 y) ∧ w'.cell? ⟨D, 1, none⟩ = some (.int .i64 mo) ∧ w'.cell? ⟨D, 2, none⟩ = some (.int .i64 d) ∧ w'.cell? ⟨D, 4, none⟩ = some (.int .i64 seen))
    (first | exact ⟨bW3, hD3, c0, c1, c2, c4⟩ | exact ⟨bW3.drew, hD3, c0, c1, c2, c4⟩ | exact keepS b (by first | assumption | exact hS3 | exact ⟨bW3.drew, hD3, c0, c1, c2, c4⟩))
    ((first | (go_at_call 55; (with_reducible refine (dig2_spec d (by omega) (by omega) _).mono ?_); rintro e w5 ⟨s4, rfl, hs4, E4, b⟩; have E4 := E4; have hs4' : (s4.size : Int) ≤ 2200 := (by omega); have n0s4 : ¬ 9223372036854775807 < 4 + t.size + 1 + s4.size := (by omega); have n1s4 : ¬ 9223372036854775807 < 4 + t.size + 1 + s4.size + 1 := (by omega)) | (go_at_call 55; (with_reducible refine (dig2_spec mo (by omega) (by omega) _).mono ?_); rintro e w5 ⟨s5, rfl, hs5, E5, b⟩; have hs5' : (s5.size : Int) ≤ 2200 := (by omega); have n0s5 : ¬ 9223372036854775807 < 4 + t.size + 1 + s4.size + 1 + s5.size := (by omega); have n1s5 : ¬ 9223372036854775807 < 4 + t.size + 1 + s4.size + 1 + s5.size + 1 := (by omega)) | (go_at_call 55; (with_reducible refine (dig4_spec y (by omega) (by omega) _).mono ?_); rintro e w5 ⟨s6, rfl, hs6, E6, b⟩; have hs6' : (s6.size : Int) ≤ 2200 := (by omega); have n0s6 : ¬ 9223372036854775807 < 4 + t.size + 1 + s4.size + 1 + s5.size + 1 + s6.size := (by omega); have n1s6 : ¬ 9223372036854775807 < 4 + t.size + 1 + s4.size + 1 + s5.size + 1 + s6.size + 1 := (by omega)) | (go_at_call 53; (with_reducible refine (dec_at seen (by omega) (by omega) _).mono ?_); rintro e w5 ⟨s7, rfl, hs7, E7, b⟩; have hs7' : (s7.size : Int) ≤ 2200 := (by omega); have n0s7 : ¬ 9223372036854775807 < 4 + t.size + 1 + s4.size + 1 + s5.size + 1 + s6.size + 1 + s7.size := (by omega))))
  have HB := Lib.hid (‹Below D w w5 ∧ _›.1)
  go_wp2
  go_ret
  refine ⟨ret_str ?_, by rw [HD.out]; exact HB.out⟩
  rw [E4.out, E5.out, E6.out, E7.out, ← H0.out, H1.out, H2.out, H3.out]
  show ((({ data := #[70, 73, 88, 44] } : ByteArray) ++ _ ++ { data := #[44] } ++ _ ++ { data := #[44] } ++ _ ++ { data := #[44] } ++ _ ++ { data := #[44] } ++ _)) = _
  apply S.ext
  simp only [S.lst_append, S.lst_mk]
  unfold X.tx
  rw [show X.hh 86400 = 23 from rfl, show X.hm 86400 = 59 from rfl, show X.hs 86400 = 60 from rfl]
  have l1 : S.lst { data := #[70, 73, 88, 44] } = [70, 73, 88, 44] := rfl
  have l2 : S.lst { data := #[44] } = [44] := rfl
  rw [l1, l2]
  simp only [List.append_assoc]
  rfl
theorem fmt_spec (y m d s n : Int) (w : World) (h : X.vf y m d s n = true) : Calls Tryz.prog 37 #[.agg #[.int .i64 y, .int .i64 m, .int .i64 d, .int .i64 s, .int .i64 n]] w fun e w' => e = .returned (.string (S.mk (X.tx y m d s n))) ∧ Below w.heap.size w w' := by
  obtain ⟨h1, h2, h3⟩ := X.vf_of h
  obtain ⟨v1, v2, v3⟩ := X.vld_bd h1
  by_cases h9 : s ≤ 86399
  · exact fmt_lo y m d s n w v1 v2 v3 ⟨h2.1, h9⟩ h3
  · obtain rfl : s = 86400 := by omega
    exact fmt_hi y m d n w v1 v2 v3 h3
theorem ff_spec (y m d s n : Int) (w : World) : Calls Tryz.prog 19 #[.agg #[.int .i64 y, .int .i64 m, .int .i64 d, .int .i64 s, .int .i64 n]] w fun e w' => e = .returned (.string (X.ff y m d s n)) ∧ Below w.heap.size w w' := by
  have K := C5.new w y m d s n 31
  have g0 : Below w.heap.size w (w.alloc (.cells #[.int .i64 y, .int .i64 m, .int .i64 d, .int .i64 s, .int .i64 n] 31)) := (Below.refl _ _).alloc (Nat.le_refl _) _
  have C := fun w' => vfx_spec y m d s n w'
  rcases hv : X.vf y m d s n with _ | _
  · have e0 := X.ff_no hv
    rw [hv] at C
    rw [e0]
    have HC := Lib.hid C
    clear e0 C hv
    go_enter Tryz.func19, Tryz.ntmps19
    go_wp2_with fail
    refine (HC.out _).mono ?_
    rintro e w1 ⟨rfl, hb⟩
    have g1 := g0.trans (hb.mono g0.size)
    clear hb K g0
    go_wp2_with fail
    go_ret
    exact ⟨rfl, g1⟩
  · have HFF := Lib.hid (X.ff_yes hv)
    have HB := Lib.hid (frameB_spec (S.mk (X.tx y m d s n)) (by rw [S.size_mk]; have := X.tx_len hv; unfold maxLen; omega))
    have HD := Lib.hid (fun w' => fmt_spec y m d s n w' hv)
    rw [hv] at C
    have HC := Lib.hid C
    clear C hv
    go_enter Tryz.func19, Tryz.ntmps19
    go_wp2_with fail
    refine (HC.out _).mono ?_
    rintro e w1 ⟨rfl, hb⟩
    have g1 := g0.trans (hb.mono g0.size)
    obtain ⟨c0, c1, c2, c3, c4, cl⟩ := K.b hb
    clear hb K g0
    go_wp2_with fail
    refine (HD.out _).mono ?_
    rintro e w2 ⟨rfl, hb⟩
    have g2 := g1.trans (hb.mono g1.size)
    clear hb c0 c1 c2 c3 c4 cl g1
    go_wp2_with fail
    refine (HB.out _).mono ?_
    rintro e w3 ⟨rfl, rfl⟩
    go_wp2
    go_ret
    exact ⟨ret_str HFF.out.symm, g2⟩
end Go.Proofs.YtpfdjmffgbbmdaaGreatDoor
