/-
  The reader of the drawn inputs: what 'newReader', 'pick' and 'one' do: each returns, changes only memory that the call itself made, and 'pick' answers a number below its argument. Conditions: the reader was made by newReader.
-/
import Derived.Test.YtpfdjmffgbbmdaaGreatDoorProg
import Derived.WalkKit
import Derived.Lib.Hide
import Derived.Deep.QuietTactic
import Derived.BigQuiet
import Derived.IntWalk
import Derived.WalkLawsBesides
namespace Go.Proofs.YtpfdjmffgbbmdaaGreatDoor
open Go.RowKit

/-- The bytes of the code: nil, or a row of bytes in old memory. -/
def Codes (B : Nat) (w : World) (a : Option Addr) (len : Nat) : Prop :=
  len = 0 ∨ ∃ b off, a = some ⟨b, off, none⟩ ∧ b < B ∧ ∀ i, i < len → ∃ n : Int, 0 ≤ n ∧ n ≤ 255 ∧ w.cell? ⟨b, off + i, none⟩ = some (.int .u8 n)

/-- A reader at block r, whose position is at most m. -/
structure Rdr (B : Nat) (w : World) (r : Nat) (m : Nat) : Prop where
  low : B ≤ r
  top : r < w.heap.size
  room : w.frozen? ⟨r, 1, none⟩ = false
  pos : ∃ p : Nat, p ≤ m ∧ w.cell? ⟨r, 1, none⟩ = some (.int .i64 p)
  code : ∃ a len cap, w.cell? ⟨r, 0, none⟩ = some (.slice a len cap) ∧ len ≤ 2000 ∧ Codes B w a len

theorem Rdr.mono {B : Nat} {w : World} {r m n : Nat} (h : Rdr B w r m) (hn : m ≤ n) : Rdr B w r n := by
  obtain ⟨a, b, c, ⟨p, hp, hc⟩, e⟩ := h
  exact ⟨a, b, c, ⟨p, by omega, hc⟩, e⟩

/-- A reader is not touched by what leaves its cells and the old memory. -/
theorem Rdr.keep {B : Nat} {w w' : World} {r m : Nat} (h : Rdr B w r m) (hs : w.heap.size ≤ w'.heap.size) (hc : ∀ b o, b < w.heap.size → w'.cell? ⟨b, o, none⟩ = w.cell? ⟨b, o, none⟩)
    (hf : w'.frozen? ⟨r, 1, none⟩ = w.frozen? ⟨r, 1, none⟩) : Rdr B w' r m := by
  obtain ⟨a, b, c, ⟨p, hp, hp2⟩, x, len, cap, hx, hl, hcode⟩ := h
  refine ⟨a, by omega, hf.trans c, ⟨p, hp, (hc r 1 b).trans hp2⟩, x, len, cap, (hc r 0 b).trans hx, hl, ?_⟩
  rcases hcode with h0 | ⟨cb, off, rfl, hb, hall⟩
  · exact .inl h0
  · refine .inr ⟨cb, off, rfl, hb, fun i hi => ?_⟩
    obtain ⟨n, h0, h1, h2⟩ := hall i hi
    exact ⟨n, h0, h1, (hc _ _ (by omega)).trans h2⟩
theorem Rdr.alloc {B : Nat} {w : World} {r m : Nat} (h : Rdr B w r m) (c : Array Value) (t : TypeId) : Rdr B (w.alloc (.cells c t)) r m :=
  h.keep (by simp) (fun b o hb => World.cell?_alloc_lt w _ ⟨b, o, none⟩ hb) (frozen?_alloc_cells _ _ _ _)
theorem Rdr.drewN {B : Nat} {w : World} {r m : Nat} (h : Rdr B w r m) (n : Nat) : Rdr B (w.drewN n) r m := h.keep (Nat.le_refl _) (fun _ _ _ => rfl) rfl
theorem Rdr.drew {B : Nat} {w : World} {r m : Nat} (h : Rdr B w r m) : Rdr B w.drew r m := h.keep (Nat.le_refl _) (fun _ _ _ => rfl) rfl
theorem Rdr.le {B : Nat} {w : World} {r m : Nat} (h : Rdr B w r m) : B ≤ w.heap.size := by have := h.low; have := h.top; omega
/-- Of what was there the reader's block alone has changed. -/
structure Far (w : World) (r : Nat) (w' : World) : Prop where
  size : w.heap.size ≤ w'.heap.size
  block : ∀ b, b < w.heap.size → b ≠ r → w'.heap[b]? = w.heap[b]?
theorem Far.refl (w : World) (r : Nat) : Far w r w := ⟨Nat.le_refl _, fun _ _ _ => rfl⟩
theorem Far.trans {a b c : World} {r : Nat} (h : Far a r b) (k : Far b r c) : Far a r c := ⟨Nat.le_trans h.size k.size, fun i hi hr => (k.block i (Nat.lt_of_lt_of_le hi h.size) hr).trans (h.block i hi hr)⟩
theorem Far.alloc {a w : World} {r : Nat} (h : Far a r w) (o : Obj) : Far a r (w.alloc o) := h.trans ⟨by simp, fun b hb _ => Below.heap_alloc _ _ _ hb⟩
theorem Far.cell {w w' : World} {r : Nat} (h : Far w r w') (b o : Nat) (hb : b < w.heap.size) (hr : b ≠ r) : w'.cell? ⟨b, o, none⟩ = w.cell? ⟨b, o, none⟩ := World.cell?_of_block (w := w) (a := ⟨b, o, none⟩) (h.block b hb hr)
theorem Far.frozen {w w' : World} {r : Nat} (h : Far w r w') (b o : Nat) (hb : b < w.heap.size) (hr : b ≠ r) : w'.frozen? ⟨b, o, none⟩ = w.frozen? ⟨b, o, none⟩ := World.frozen?_of_block (w := w) (a := ⟨b, o, none⟩) (h.block b hb hr)
theorem Below.far {w w' : World} {r : Nat} (h : Below w.heap.size w w') : Far w r w' := ⟨h.size, fun b hb _ => h.block b hb⟩
/-- One step of a reader: the position alone has moved. -/
structure Step (B : Nat) (w : World) (r m : Nat) (w' : World) : Prop where
  rdr : Rdr B w' r m
  bel : Below B w w'
  size : w'.heap.size = w.heap.size
  cell : ∀ b o, b ≠ r → w'.cell? ⟨b, o, none⟩ = w.cell? ⟨b, o, none⟩
  far : Far w r w'
theorem Step.of {B : Nat} {w : World} {r m p : Nat} (h : Rdr B w r m) (hp : p ≤ m) (hc : w.cell? ⟨r, 1, none⟩ = some (.int .i64 p)) (n : Nat) : Step B w r (m + 1) ((w.setCell ⟨r, 1, none⟩ (.int .i64 (p + 1))).drewN n) := by
  have hoth : ∀ b o, (b, o) ≠ (r, 1) → ((w.setCell ⟨r, 1, none⟩ (.int .i64 (p + 1))).drewN n).cell? ⟨b, o, none⟩ = w.cell? ⟨b, o, none⟩ := fun b o hb =>
    World.cell?_setCell_other _ _ _ _ (fun e => hb (by injection e with e1 e2; rw [e1, e2]))
  obtain ⟨a, b, c, _, x, len, cap, hx, hl, hcode⟩ := h
  refine ⟨⟨a, by simpa using b, by simpa using c, ⟨p + 1, by omega, ?_⟩, x, len, cap, (hoth r 0 (by simp)).trans hx, hl, ?_⟩, below_drewN ((Below.refl _ _).setCell a _) n, by simp, fun b o hb => hoth b o (fun e => hb (by injection e)), ⟨by simp, fun b _ hb => Below.heap_setCell _ _ _ _ hb⟩⟩
  · have := World.cell?_setCell_same w _ (.int .i64 ((p : Int) + 1)) hc
    simpa using this
  · rcases hcode with h0 | ⟨cb, off, rfl, hb, hall⟩
    · exact .inl h0
    · refine .inr ⟨cb, off, rfl, hb, fun i hi => ?_⟩
      obtain ⟨n, h0, h1, h2⟩ := hall i hi
      exact ⟨n, h0, h1, (hoth _ _ (fun e => by injection e with e1 _; omega)).trans h2⟩
theorem bits_xor_i64_nat (a b : Nat) (ha : a < 4611686018427387904) (hb : b < 4611686018427387904) : bits .xor .i64 (a : Int) (b : Int) = ((a ^^^ b : Nat) : Int) := by
  have hx : a ^^^ b < 2 ^ 62 := Nat.xor_lt_two_pow (by omega) (by omega)
  have h1 : (BitVec.ofInt 64 (a : Int)).toNat = a := by
    rw [BitVec.ofInt_natCast, BitVec.toNat_ofNat]; exact Nat.mod_eq_of_lt (by omega)
  have h2 : (BitVec.ofInt 64 (b : Int)).toNat = b := by
    rw [BitVec.ofInt_natCast, BitVec.toNat_ofNat]; exact Nat.mod_eq_of_lt (by omega)
  show IntKind.i64.wrap ((BitVec.ofInt 64 (a : Int) ^^^ BitVec.ofInt 64 (b : Int)).toNat : Int) = _
  rw [BitVec.toNat_xor, h1, h2, IntWalk.i64_in _ (by omega)]
/-- The mixed number is not negative, and its rest is below n. -/
theorem rand (x y p D n : Int) (hx : 0 ≤ x ∧ x ≤ 255) (hy : 0 ≤ y ∧ y ≤ 255) (hp : 0 ≤ p ∧ p ≤ 1000000) (hD : 0 ≤ D ∧ D ≤ 1000000) (hn : 1 ≤ n) :
    0 ≤ (bits BinOp.xor IntKind.i64 (wrap64 (x * 131 + y * 1117 + p * 29 + wrap64 (wrap64 D * 53))) (wrap64 ((wrap64 (x * 131 + y * 1117 + p * 29 + wrap64 (wrap64 D * 53))).tdiv 64))).tmod n
    ∧ (bits BinOp.xor IntKind.i64 (wrap64 (x * 131 + y * 1117 + p * 29 + wrap64 (wrap64 D * 53))) (wrap64 ((wrap64 (x * 131 + y * 1117 + p * 29 + wrap64 (wrap64 D * 53))).tdiv 64))).tmod n < n := by
  rw [IntWalk.wrap64_in D (by omega), IntWalk.wrap64_in (D * 53) (by omega), IntWalk.wrap64_in _ (by omega)]
  generalize hX : x * 131 + y * 1117 + p * 29 + D * 53 = X
  obtain ⟨N, rfl⟩ := Int.eq_ofNat_of_zero_le (show 0 ≤ X by omega)
  have hN : N < 4611686018427387904 := by omega
  have e : ((N : Int)).tdiv 64 = ((N / 64 : Nat) : Int) := by rw [Int.tdiv_eq_ediv_of_nonneg (by omega)]; rfl
  rw [e, IntWalk.wrap64_in _ (by omega), bits_xor_i64_nat _ _ hN (by omega)]
  rw [Int.tmod_eq_emod_of_nonneg (by omega)]
  exact ⟨Int.emod_nonneg _ (by omega), Int.emod_lt_of_pos _ (by omega)⟩
theorem pick_small (r : Nat) (p n : Int) (w : World) (a : Option Addr) (len cap : Nat) (hn : n < 1) (p0 : 0 ≤ p) (p1 : p ≤ 1000000)
    (f1 : w.frozen? ⟨r, 1, none⟩ = false) (c1 : w.cell? ⟨r, 1, none⟩ = some (.int .i64 p)) (_c0 : w.cell? ⟨r, 0, none⟩ = some (.slice a len cap)) :
    Calls Tryz.prog 17 #[.pointer (some ⟨r, 0, none⟩), .int .i64 n] w fun e w' => e = .returned (.int .i64 0) ∧ w' = w.setCell ⟨r, 1, none⟩ (.int .i64 (p + 1)) := by
  go_enter Tryz.func17, Tryz.ntmps17
  go_wp2
  go_ret
  exact ⟨rfl, rfl⟩
theorem pick_empty (r : Nat) (p n : Int) (w : World) (a : Option Addr) (cap : Nat) (hn : 1 ≤ n) (p0 : 0 ≤ p) (p1 : p ≤ 1000000)
    (f1 : w.frozen? ⟨r, 1, none⟩ = false) (c1 : w.cell? ⟨r, 1, none⟩ = some (.int .i64 p)) (c0 : w.cell? ⟨r, 0, none⟩ = some (.slice a 0 cap)) :
    Calls Tryz.prog 17 #[.pointer (some ⟨r, 0, none⟩), .int .i64 n] w fun e w' => e = .returned (.int .i64 0) ∧ w' = w.setCell ⟨r, 1, none⟩ (.int .i64 (p + 1)) := by
  go_enter Tryz.func17, Tryz.ntmps17
  go_wp2
  go_ret
  exact ⟨rfl, rfl⟩
theorem pick_first (r : Nat) (p : Nat) (n x : Int) (w : World) (b off : Nat) (len cap : Nat) (hn : 1 ≤ n) (hl : len ≤ 2000) (hp : p < len) (hx0 : 0 ≤ x) (hx1 : x ≤ 255) (hb : b ≠ r)
    (f1 : w.frozen? ⟨r, 1, none⟩ = false) (c1 : w.cell? ⟨r, 1, none⟩ = some (.int .i64 p)) (c0 : w.cell? ⟨r, 0, none⟩ = some (.slice (some ⟨b, off, none⟩) len cap))
    (cx : w.cell? ⟨b, off + p, none⟩ = some (.int .u8 x)) :
    Calls Tryz.prog 17 #[.pointer (some ⟨r, 0, none⟩), .int .i64 n] w fun e w' => e = .returned (.int .i64 (x % n)) ∧ w' = w.setCell ⟨r, 1, none⟩ (.int .i64 (p + 1)) := by
  have hz : ((len : Int) == 0) = false := by simp; omega
  have hlt : (p : Int) < (len : Int) := by omega
  go_enter Tryz.func17, Tryz.ntmps17
  go_wp2
  go_ret
  exact ⟨rfl, rfl⟩
theorem pick_more (r : Nat) (p : Nat) (n x y : Int) (w : World) (b off : Nat) (len cap : Nat) (hn : 1 ≤ n) (hl : len ≤ 2000) (hl0 : 1 ≤ len) (hp : len ≤ p) (hp1 : p ≤ 1000000) (hx0 : 0 ≤ x) (hx1 : x ≤ 255) (hy0 : 0 ≤ y) (hy1 : y ≤ 255) (hb : b ≠ r)
    (f1 : w.frozen? ⟨r, 1, none⟩ = false) (c1 : w.cell? ⟨r, 1, none⟩ = some (.int .i64 p)) (c0 : w.cell? ⟨r, 0, none⟩ = some (.slice (some ⟨b, off, none⟩) len cap))
    (cx : w.cell? ⟨b, off + p % len, none⟩ = some (.int .u8 x)) (cy : w.cell? ⟨b, off + (p * 7 + 3) % len, none⟩ = some (.int .u8 y)) :
    Calls Tryz.prog 17 #[.pointer (some ⟨r, 0, none⟩), .int .i64 n] w fun e w' => (∃ k : Int, e = .returned (.int .i64 k) ∧ 0 ≤ k ∧ k < n) ∧ ∃ m, w' = (w.setCell ⟨r, 1, none⟩ (.int .i64 (p + 1))).drewN m := by
  have hz : ((len : Int) == 0) = false := by simp; omega
  have hlt : decide ((p : Int) < (len : Int)) = false := by simp; omega
  have hlt' : ¬ (p : Int) < (len : Int) := by omega
  have hlt2 : (0 : Int) < (len : Int) := by omega
  have i1 : (0 : Int) ≤ (p : Int) % (len : Int) := Int.emod_nonneg _ (by omega)
  have i2 : (p : Int) % (len : Int) < (len : Int) := Int.emod_lt_of_pos _ (by omega)
  have i3 : ((p : Int) % (len : Int)).toNat = p % len := by rw [← Int.natCast_emod]; exact Int.toNat_natCast _
  have j1 : (0 : Int) ≤ ((p : Int) * 7 + 3) % (len : Int) := Int.emod_nonneg _ (by omega)
  have j2 : ((p : Int) * 7 + 3) % (len : Int) < (len : Int) := Int.emod_lt_of_pos _ (by omega)
  have j3 : (((p : Int) * 7 + 3) % (len : Int)).toNat = (p * 7 + 3) % len := by
    rw [show ((p : Int) * 7 + 3) = ((p * 7 + 3 : Nat) : Int) from by omega, ← Int.natCast_emod]; exact Int.toNat_natCast _
  go_enter Tryz.func17, Tryz.ntmps17
  go_wp2
  have hd0 : (0 : Int) ≤ (p : Int) / (len : Int) := Int.ediv_nonneg (by omega) (by omega)
  have hd1 : (p : Int) / (len : Int) ≤ (p : Int) := Int.ediv_le_self _ (by omega)
  have hr := rand x y p ((p : Int) / (len : Int)) n ⟨hx0, hx1⟩ ⟨hy0, hy1⟩ ⟨by omega, by omega⟩ ⟨hd0, by omega⟩ hn
  have HR := Lib.hid hr
  clear hr hd0 hd1
  go_quiet (fail)
  go_wp2
  go_ret
  exact ⟨⟨_, rfl, HR.out⟩, _, rfl⟩
/-- 'pick': a number from 0 on, below n, or 0. -/
def Picked (B : Nat) (w : World) (r m : Nat) (n : Int) (e : Ending) (w' : World) : Prop := ∃ k : Int, e = .returned (.int .i64 k) ∧ 0 ≤ k ∧ (k < n ∨ k = 0) ∧ Step B w r (m + 1) w'
theorem pick_any (B r m : Nat) (n : Int) (w : World) (h : Rdr B w r m) (hm : m ≤ 1000000) : Calls Tryz.prog 17 #[.pointer (some ⟨r, 0, none⟩), .int .i64 n] w (Picked B w r m n) := by
  obtain ⟨p, hp, hpc⟩ := h.pos
  obtain ⟨a, len, cap, hx, hl, hcode⟩ := h.code
  have st := Step.of h hp hpc
  by_cases hn : n < 1
  · exact (pick_small r p n w a len cap hn (by omega) (by omega) h.room hpc hx).mono fun e w' ⟨he, hw⟩ => ⟨0, he, by omega, .inr rfl, by rw [hw]; exact st 0⟩
  · rcases Nat.eq_zero_or_pos len with h0 | h0
    · subst h0
      exact (pick_empty r p n w a cap (by omega) (by omega) (by omega) h.room hpc hx).mono fun e w' ⟨he, hw⟩ => ⟨0, he, by omega, .inr rfl, by rw [hw]; exact st 0⟩
    · rcases hcode with h1 | ⟨cb, off, rfl, hb, hall⟩
      · omega
      · have hbr : cb ≠ r := by have := h.low; omega
        by_cases hlt : p < len
        · obtain ⟨x, x0, x1, hxc⟩ := hall p hlt
          exact (pick_first r p n x w cb off len cap (by omega) hl hlt x0 x1 hbr h.room hpc hx hxc).mono fun e w' ⟨he, hw⟩ =>
            ⟨x % n, he, Int.emod_nonneg _ (by omega), .inl (Int.emod_lt_of_pos _ (by omega)), by rw [hw]; exact st 0⟩
        · obtain ⟨x, x0, x1, hxc⟩ := hall (p % len) (Nat.mod_lt _ h0)
          obtain ⟨y, y0, y1, hyc⟩ := hall ((p * 7 + 3) % len) (Nat.mod_lt _ h0)
          exact (pick_more r p n x y w cb off len cap (by omega) hl h0 (by omega) (by omega) x0 x1 y0 y1 hbr h.room hpc hx hxc hyc).mono fun e w' ⟨⟨k, he, k0, k1⟩, q, hw⟩ =>
            ⟨k, he, k0, .inl k1, by rw [hw]; exact st q⟩

/-- 'one': one of the numbers of a list. -/
def Num (B : Nat) (w : World) (r m : Nat) (lo hi : Int) (e : Ending) (w' : World) : Prop := ∃ z : Int, e = .returned (.int .i64 z) ∧ lo ≤ z ∧ z ≤ hi ∧ Below B w w' ∧ Rdr B w' r m ∧ Far w r w'
theorem one_any (B r m L n cap : Nat) (lo hi : Int) (w : World) (h : Rdr B w r m) (hm : m ≤ 1000000) (hn0 : 1 ≤ n) (hn1 : n ≤ 1000000) (hL : L ≠ r)
    (hc : ∀ i, i < n → ∃ z : Int, lo ≤ z ∧ z ≤ hi ∧ w.cell? ⟨L, i, none⟩ = some (.int .i64 z)) :
    Calls Tryz.prog 18 #[.pointer (some ⟨r, 0, none⟩), .slice (some ⟨L, 0, none⟩) n cap] w (Num B w r (m + 1) lo hi) := by
  go_enter Tryz.func18, Tryz.ntmps18
  go_wp2_with fail
  refine (pick_any B r m _ w h hm).mono ?_
  rintro e w1 ⟨k, rfl, k0, k1, st⟩
  obtain ⟨j, rfl⟩ := Int.eq_ofNat_of_zero_le k0
  have hj : j < n := by omega
  obtain ⟨z, z0, z1, hz⟩ := hc j hj
  have hz' := (st.cell L j hL).trans hz
  clear hz
  go_wp2
  go_ret
  exact ⟨z, rfl, z0, z1, st.bel, st.rdr, st.far⟩

/-- What is told of a code that came in. -/
def IsRow (k : IntKind) (w : World) (a : Option Addr) (len cap : Nat) (zs : List Int) : Prop :=
  (a = none ∧ len = 0 ∧ cap = 0 ∧ zs = []) ∨
  ∃ x, a = some x ∧ len ≤ cap ∧ cap ≤ maxLen ∧ zs.length = cap ∧ (∀ i, i < zs.length → w.cell? (x.add i) = some (.int k (zs.getD i 0))) ∧ ∀ n ∈ zs, (Lit.int k n).wf = true
theorem IsRow.codes {w : World} {a : Option Addr} {len cap : Nat} {zs : List Int} (h : IsRow .u8 w a len cap zs) (n : Nat) (hn : n ≤ len) : Codes w.heap.size w a n := by
  rcases h with ⟨rfl, rfl, rfl, rfl⟩ | ⟨⟨b, off, spot⟩, rfl, hl, hm, hz, hcell, hwz⟩
  · exact .inl (by omega)
  · rcases Nat.eq_zero_or_pos n with h0 | h0
    · exact .inl h0
    · have hc := hcell 0 (by omega)
      have hspot : spot = none := by simpa [Addr.add] using World.cell?_spot hc
      subst hspot
      refine .inr ⟨b, off, rfl, World.block_lt_of_cell? _ _ hc, fun i hi => ?_⟩
      have hlt : i < zs.length := by omega
      have hw := hwz (zs.getD i 0) (by rw [List.getD_eq_getElem?_getD, List.getElem?_eq_getElem hlt]; exact List.getElem_mem hlt)
      have hx : 0 ≤ zs.getD i 0 ∧ zs.getD i 0 ≤ 255 := by simpa [Lit.wf, IntKind.min, IntKind.max, IntKind.signed, IntKind.bits] using hw
      exact ⟨_, hx.1, hx.2, by have := hcell i hlt; rwa [show (Addr.add ⟨b, off, none⟩ i) = ⟨b, off + i, none⟩ from by unfold Addr.add; split <;> simp_all] at this⟩

/-- A code, of whatever length below the bound. -/
def Code (w : World) (a : Option Addr) (len : Nat) : Prop := len ≤ 1048576 ∧ (a = none → len = 0) ∧ ∀ n, n ≤ len → Codes w.heap.size w a n
def Made (w : World) (e : Ending) (w' : World) : Prop := e = .returned (.pointer (some ⟨w.heap.size, 0, none⟩)) ∧ Below w.heap.size w w' ∧ Rdr w.heap.size w' w.heap.size 0
theorem made (w : World) (a : Option Addr) (len cap : Nat) (hl : len ≤ 2000) (hc : Codes w.heap.size w a len) : Made w (.returned (.pointer (some ⟨w.heap.size, 0, none⟩))) (w.alloc (.cells #[.slice a len cap, .int .i64 0] 69)) := by
  refine ⟨rfl, (Below.refl _ _).alloc (Nat.le_refl _) _, Nat.le_refl _, by simp, by simp, ⟨0, Nat.le_refl _, by simp⟩, a, len, cap, by simp, hl, ?_⟩
  rcases hc with h0 | ⟨cb, off, rfl, hb, hall⟩
  · exact .inl h0
  · refine .inr ⟨cb, off, rfl, hb, fun i hi => ?_⟩
    obtain ⟨n, h0, h1, h2⟩ := hall i hi
    exact ⟨n, h0, h1, (World.cell?_alloc_lt w _ ⟨cb, off + i, none⟩ hb).trans h2⟩
theorem newReader_any (w : World) (a : Option Addr) (len cap : Nat) (h : Code w a len) (hcap : len ≤ cap) : Calls Tryz.prog 16 #[.slice a len cap] w (Made w) := by
  obtain ⟨h1, h2, h3⟩ := h
  by_cases hl : 2000 < len
  · have hl' : (2000 : Int) < (len : Int) := by omega
    have hc' : (2000 : Int) ≤ (cap : Int) := by omega
    have hm := made w a 2000 cap (Nat.le_refl _) (h3 2000 (by omega))
    have HM := Lib.hid hm
    clear hm h3
    go_enter Tryz.func16, Tryz.ntmps16
    go_wp2
    go_ret
    exact HM.out
  · have hl' : ¬ (2000 : Int) < (len : Int) := by omega
    have hm := made w a len cap (by omega) (h3 len (by omega))
    have HM := Lib.hid hm
    clear hm h3
    go_enter Tryz.func16, Tryz.ntmps16
    go_wp2
    go_ret
    exact HM.out
end Go.Proofs.YtpfdjmffgbbmdaaGreatDoor
