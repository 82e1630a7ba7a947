/-
  What the program reads out of a sentence of a fix: what the scanner says, if its sentence is the one that was read.
-/
import Derived.Test.YtpfdjmffgbbmdaaGreatDoorScan
import Derived.Test.YtpfdjmffgbbmdaaGreatDoorText
import Derived.Test.YtpfdjmffgbbmdaaGreatDoorCopyFx
namespace Go.Proofs.YtpfdjmffgbbmdaaGreatDoor
open Go.RowKit
set_option linter.unusedVariables false
set_option maxRecDepth 100000
theorem C5.other {w : World} {b b' i : Nat} {y m d s n : Int} {v : Value} (h : C5 w b y m d s n) (hb : b' ≠ b) : C5 (w.setCell ⟨b', i, none⟩ v) b y m d s n := by
  have q : ∀ o, (w.setCell ⟨b', i, none⟩ v).cell? ⟨b, o, none⟩ = w.cell? ⟨b, o, none⟩ := fun o => World.cell?_setCell_other _ _ _ _ (fun e => hb (by injection e))
  exact ⟨(q 0).trans h.c0, (q 1).trans h.c1, (q 2).trans h.c2, (q 3).trans h.c3, (q 4).trans h.c4, by simpa using h.lt⟩
theorem F5.set {w : World} {b : Nat} {p : Addr} {v : Value} (h : F5 w b) : F5 (w.setCell p v) b := ⟨by simpa using h.f0, by simpa using h.f1, by simpa using h.f2, by simpa using h.f3, by simpa using h.f4, by simpa using h.lt⟩
theorem Sc.other {w : World} {b b' i : Nat} {l : List UInt8} {v : Value} (h : Sc w b l) (hb : b' ≠ b) : Sc (w.setCell ⟨b', i, none⟩ v) b l :=
  ⟨(World.cell?_setCell_other _ _ _ _ (fun e => hb (by injection e))).trans h.c, by simpa using h.f, by simpa using h.lt⟩
theorem C5.set0 {w : World} {b : Nat} {y m d s n : Int} (h : C5 w b y m d s n) (v : Int) : C5 (w.setCell ⟨b, 0, none⟩ (.int .i64 v)) b v m d s n :=
  ⟨World.cell?_setCell_same _ _ _ h.c0, (World.cell?_setCell_other _ _ _ _ (by simp)).trans h.c1, (World.cell?_setCell_other _ _ _ _ (by simp)).trans h.c2, (World.cell?_setCell_other _ _ _ _ (by simp)).trans h.c3, (World.cell?_setCell_other _ _ _ _ (by simp)).trans h.c4, by simpa using h.lt⟩
theorem C5.set1 {w : World} {b : Nat} {y m d s n : Int} (h : C5 w b y m d s n) (v : Int) : C5 (w.setCell ⟨b, 1, none⟩ (.int .i64 v)) b y v d s n :=
  ⟨(World.cell?_setCell_other _ _ _ _ (by simp)).trans h.c0, World.cell?_setCell_same _ _ _ h.c1, (World.cell?_setCell_other _ _ _ _ (by simp)).trans h.c2, (World.cell?_setCell_other _ _ _ _ (by simp)).trans h.c3, (World.cell?_setCell_other _ _ _ _ (by simp)).trans h.c4, by simpa using h.lt⟩
theorem C5.set2 {w : World} {b : Nat} {y m d s n : Int} (h : C5 w b y m d s n) (v : Int) : C5 (w.setCell ⟨b, 2, none⟩ (.int .i64 v)) b y m v s n :=
  ⟨(World.cell?_setCell_other _ _ _ _ (by simp)).trans h.c0, (World.cell?_setCell_other _ _ _ _ (by simp)).trans h.c1, World.cell?_setCell_same _ _ _ h.c2, (World.cell?_setCell_other _ _ _ _ (by simp)).trans h.c3, (World.cell?_setCell_other _ _ _ _ (by simp)).trans h.c4, by simpa using h.lt⟩
theorem C5.set3 {w : World} {b : Nat} {y m d s n : Int} (h : C5 w b y m d s n) (v : Int) : C5 (w.setCell ⟨b, 3, none⟩ (.int .i64 v)) b y m d v n :=
  ⟨(World.cell?_setCell_other _ _ _ _ (by simp)).trans h.c0, (World.cell?_setCell_other _ _ _ _ (by simp)).trans h.c1, (World.cell?_setCell_other _ _ _ _ (by simp)).trans h.c2, World.cell?_setCell_same _ _ _ h.c3, (World.cell?_setCell_other _ _ _ _ (by simp)).trans h.c4, by simpa using h.lt⟩
theorem C5.set4 {w : World} {b : Nat} {y m d s n : Int} (h : C5 w b y m d s n) (v : Int) : C5 (w.setCell ⟨b, 4, none⟩ (.int .i64 v)) b y m d s v :=
  ⟨(World.cell?_setCell_other _ _ _ _ (by simp)).trans h.c0, (World.cell?_setCell_other _ _ _ _ (by simp)).trans h.c1, (World.cell?_setCell_other _ _ _ _ (by simp)).trans h.c2, (World.cell?_setCell_other _ _ _ _ (by simp)).trans h.c3, World.cell?_setCell_same _ _ _ h.c4, by simpa using h.lt⟩
/-- Three numbers in a block, which may be written. -/
structure W3 (w : World) (b : Nat) (x y z : Int) : Prop where
  c0 : w.cell? ⟨b, 0, none⟩ = some (.int .i64 x)
  c1 : w.cell? ⟨b, 1, none⟩ = some (.int .i64 y)
  c2 : w.cell? ⟨b, 2, none⟩ = some (.int .i64 z)
  f0 : w.frozen? ⟨b, 0, none⟩ = false
  f1 : w.frozen? ⟨b, 1, none⟩ = false
  f2 : w.frozen? ⟨b, 2, none⟩ = false
  lt : b < w.heap.size
theorem W3.bw {w w' : World} {B b : Nat} {x y z : Int} (h : W3 w b x y z) (hb : Below B w w') (hB : b < B) : W3 w' b x y z :=
  ⟨(hb.cell (p := ⟨b, 0, none⟩) hB).trans h.c0, (hb.cell (p := ⟨b, 1, none⟩) hB).trans h.c1, (hb.cell (p := ⟨b, 2, none⟩) hB).trans h.c2, (hb.frozen (p := ⟨b, 0, none⟩) hB).trans h.f0, (hb.frozen (p := ⟨b, 1, none⟩) hB).trans h.f1, (hb.frozen (p := ⟨b, 2, none⟩) hB).trans h.f2, Nat.lt_of_lt_of_le h.lt hb.size⟩
theorem W3.new (w : World) (x y z : Int) (t : TypeId) : W3 (w.alloc (.cells #[.int .i64 x, .int .i64 y, .int .i64 z] t)) w.heap.size x y z := ⟨by simp, by simp, by simp, by simp, by simp, by simp, by simp⟩
theorem W3.al {w : World} {b : Nat} {x y z : Int} (h : W3 w b x y z) (o : Obj) : W3 (w.alloc o) b x y z := h.bw ((Below.refl _ _).alloc (Nat.le_refl _) _) h.lt
theorem W3.other {w : World} {b b' i : Nat} {x y z : Int} {v : Value} (h : W3 w b x y z) (hb : b' ≠ b) : W3 (w.setCell ⟨b', i, none⟩ v) b x y z := by
  have q : ∀ o, (w.setCell ⟨b', i, none⟩ v).cell? ⟨b, o, none⟩ = w.cell? ⟨b, o, none⟩ := fun o => World.cell?_setCell_other _ _ _ _ (fun e => hb (by injection e))
  exact ⟨(q 0).trans h.c0, (q 1).trans h.c1, (q 2).trans h.c2, by simpa using h.f0, by simpa using h.f1, by simpa using h.f2, by simpa using h.lt⟩
theorem F5.bw {w w' : World} {b B : Nat} (h : F5 w b) (hb : Below B w w') (hB : b < B) : F5 w' b :=
  ⟨(hb.frozen (p := ⟨b, 0, none⟩) hB).trans h.f0, (hb.frozen (p := ⟨b, 1, none⟩) hB).trans h.f1, (hb.frozen (p := ⟨b, 2, none⟩) hB).trans h.f2, (hb.frozen (p := ⟨b, 3, none⟩) hB).trans h.f3, (hb.frozen (p := ⟨b, 4, none⟩) hB).trans h.f4, Nat.lt_of_lt_of_le h.lt hb.size⟩
theorem W3.set0 {w : World} {b : Nat} {x y z : Int} (h : W3 w b x y z) (v : Int) : W3 (w.setCell ⟨b, 0, none⟩ (.int .i64 v)) b v y z :=
  ⟨World.cell?_setCell_same _ _ _ h.c0, (World.cell?_setCell_other _ _ _ _ (by simp)).trans h.c1, (World.cell?_setCell_other _ _ _ _ (by simp)).trans h.c2, by simpa using h.f0, by simpa using h.f1, by simpa using h.f2, by simpa using h.lt⟩
theorem W3.set1 {w : World} {b : Nat} {x y z : Int} (h : W3 w b x y z) (v : Int) : W3 (w.setCell ⟨b, 1, none⟩ (.int .i64 v)) b x v z :=
  ⟨(World.cell?_setCell_other _ _ _ _ (by simp)).trans h.c0, World.cell?_setCell_same _ _ _ h.c1, (World.cell?_setCell_other _ _ _ _ (by simp)).trans h.c2, by simpa using h.f0, by simpa using h.f1, by simpa using h.f2, by simpa using h.lt⟩
theorem W3.set2 {w : World} {b : Nat} {x y z : Int} (h : W3 w b x y z) (v : Int) : W3 (w.setCell ⟨b, 2, none⟩ (.int .i64 v)) b x y v :=
  ⟨(World.cell?_setCell_other _ _ _ _ (by simp)).trans h.c0, (World.cell?_setCell_other _ _ _ _ (by simp)).trans h.c1, World.cell?_setCell_same _ _ _ h.c2, by simpa using h.f0, by simpa using h.f1, by simpa using h.f2, by simpa using h.lt⟩
theorem sod_impl (a b c : Nat) (ha : a < 100) (hb : b < 100) (hc : c < 100) (w : World) : Calls Tryz.prog 116 #[.agg #[.int .i64 (a : Int), .int .i64 (b : Int), .int .i64 (c : Int)]] w fun e w' => e = .returned (.int .i64 (((a : Int) * 60 + b) * 60 + c)) ∧ Below w.heap.size w w' := by
  go_enter Tryz.func116, Tryz.ntmps116
  go_wp2
  go_ret
  exact ⟨rfl, (Below.refl _ _).alloc (Nat.le_refl _) _⟩
theorem tp_len (l p : List UInt8) : (Lib.trimPrefix l p).length ≤ l.length := by
  unfold Lib.trimPrefix
  split
  · rw [List.length_drop]; omega
  · exact Nat.le_refl _
theorem xl_1 (l : List UInt8) : (X.s1 l).length ≤ l.length := tp_len _ _
theorem xl_2 (l : List UInt8) : (X.r1 l).2.length ≤ l.length := Nat.le_trans (X.num_len _ _ _) (xl_1 l)
theorem xl_3 (l : List UInt8) : (X.r2 l).2.length ≤ l.length := Nat.le_trans (X.num_len _ _ _) (xl_2 l)
theorem xl_4 (l : List UInt8) : (X.r3 l).2.length ≤ l.length := Nat.le_trans (X.num_len _ _ _) (xl_3 l)
theorem xl_5 (l : List UInt8) : (Lib.trimPrefix (X.r3 l).2 [44]).length ≤ l.length := Nat.le_trans (tp_len _ _) (xl_4 l)
theorem xl_6 (l : List UInt8) : (X.r4 l).2.length ≤ l.length := Nat.le_trans (X.num_len _ _ _) (xl_5 l)
theorem xl_7 (l : List UInt8) : (Lib.trimPrefix (X.r4 l).2 [44]).length ≤ l.length := Nat.le_trans (tp_len _ _) (xl_6 l)
theorem xl_8 (l : List UInt8) : (X.r5 l).2.length ≤ l.length := Nat.le_trans (X.num_len _ _ _) (xl_7 l)
theorem xl_9 (l : List UInt8) : (Lib.trimPrefix (X.r5 l).2 [44]).length ≤ l.length := Nat.le_trans (tp_len _ _) (xl_8 l)
theorem xl_10 (l : List UInt8) : (X.r6 l).2.length ≤ l.length := Nat.le_trans (X.num_len _ _ _) (xl_9 l)
theorem xl_11 (l : List UInt8) : (Lib.trimPrefix (X.r6 l).2 [44]).length ≤ l.length := Nat.le_trans (tp_len _ _) (xl_10 l)
theorem Sc.new (w : World) (l : List UInt8) (t : TypeId) : Sc (w.alloc (.cells #[.string (S.mk l)] t)) w.heap.size l := ⟨by simp, by simp, by simp⟩
/-- What the scanner of a fix has in memory: the result's block R, the clock's K, the fix's F, the scanner's P. -/
structure Sf (w0 w : World) (R K F P : Nat) (k0 k1 k2 y m d s n : Int) (l : List UInt8) : Prop where
  k : W3 w K k0 k1 k2
  fx : C5 w F y m d s n
  ff : F5 w F
  r : C5 w R 0 0 0 0 0
  rf : F5 w R
  sc : Sc w P l
  o1 : R < K
  o2 : K < F
  o3 : F < P
  o0 : w0.heap.size ≤ R
  bel : Below w0.heap.size w0 w
theorem Sf.call {w0 w w' : World} {R K F P : Nat} {k0 k1 k2 y m d s n : Int} {l l' : List UInt8} (h : Sf w0 w R K F P k0 k1 k2 y m d s n l) (hb : Below P w w') (hs : Sc w' P l') : Sf w0 w' R K F P k0 k1 k2 y m d s n l' := by
  have := h.o1; have := h.o2; have := h.o3; have := h.o0
  exact ⟨h.k.bw hb (by omega), h.fx.bw hb (by omega), h.ff.bw hb (by omega), h.r.bw hb (by omega), h.rf.bw hb (by omega), hs, h.o1, h.o2, h.o3, h.o0, h.bel.trans (hb.mono (by omega))⟩
theorem Sf.b {w0 w w' : World} {R K F P : Nat} {k0 k1 k2 y m d s n : Int} {l : List UInt8} (h : Sf w0 w R K F P k0 k1 k2 y m d s n l) (hb : Below w.heap.size w w') : Sf w0 w' R K F P k0 k1 k2 y m d s n l :=
  ⟨h.k.bw hb h.k.lt, h.fx.b hb, h.ff.b hb, h.r.b hb, h.rf.b hb, h.sc.b hb, h.o1, h.o2, h.o3, h.o0, h.bel.trans (hb.mono h.bel.size)⟩
theorem Sf.k0 {w0 w : World} {R K F P : Nat} {k0 k1 k2 y m d s n : Int} {l : List UInt8} (h : Sf w0 w R K F P k0 k1 k2 y m d s n l) (v : Int) : Sf w0 (w.setCell ⟨K, 0, none⟩ (.int .i64 v)) R K F P v k1 k2 y m d s n l := by
  have := h.o1; have := h.o2; have := h.o3; have := h.o0
  exact ⟨h.k.set0 v, h.fx.other (by omega), h.ff.set, h.r.other (by omega), h.rf.set, h.sc.other (by omega), h.o1, h.o2, h.o3, h.o0, h.bel.setCell (p := ⟨K, 0, none⟩) (by simp only; omega) _⟩
theorem Sf.k1 {w0 w : World} {R K F P : Nat} {k0 k1 k2 y m d s n : Int} {l : List UInt8} (h : Sf w0 w R K F P k0 k1 k2 y m d s n l) (v : Int) : Sf w0 (w.setCell ⟨K, 1, none⟩ (.int .i64 v)) R K F P k0 v k2 y m d s n l := by
  have := h.o1; have := h.o2; have := h.o3; have := h.o0
  exact ⟨h.k.set1 v, h.fx.other (by omega), h.ff.set, h.r.other (by omega), h.rf.set, h.sc.other (by omega), h.o1, h.o2, h.o3, h.o0, h.bel.setCell (p := ⟨K, 1, none⟩) (by simp only; omega) _⟩
theorem Sf.k2 {w0 w : World} {R K F P : Nat} {k0 k1 k2 y m d s n : Int} {l : List UInt8} (h : Sf w0 w R K F P k0 k1 k2 y m d s n l) (v : Int) : Sf w0 (w.setCell ⟨K, 2, none⟩ (.int .i64 v)) R K F P k0 k1 v y m d s n l := by
  have := h.o1; have := h.o2; have := h.o3; have := h.o0
  exact ⟨h.k.set2 v, h.fx.other (by omega), h.ff.set, h.r.other (by omega), h.rf.set, h.sc.other (by omega), h.o1, h.o2, h.o3, h.o0, h.bel.setCell (p := ⟨K, 2, none⟩) (by simp only; omega) _⟩
theorem Sf.f0 {w0 w : World} {R K F P : Nat} {k0 k1 k2 y m d s n : Int} {l : List UInt8} (h : Sf w0 w R K F P k0 k1 k2 y m d s n l) (v : Int) : Sf w0 (w.setCell ⟨F, 0, none⟩ (.int .i64 v)) R K F P k0 k1 k2 v m d s n l := by
  have := h.o1; have := h.o2; have := h.o3; have := h.o0
  exact ⟨h.k.other (by omega), h.fx.set0 v, h.ff.set, h.r.other (by omega), h.rf.set, h.sc.other (by omega), h.o1, h.o2, h.o3, h.o0, h.bel.setCell (p := ⟨F, 0, none⟩) (by simp only; omega) _⟩
theorem Sf.f1 {w0 w : World} {R K F P : Nat} {k0 k1 k2 y m d s n : Int} {l : List UInt8} (h : Sf w0 w R K F P k0 k1 k2 y m d s n l) (v : Int) : Sf w0 (w.setCell ⟨F, 1, none⟩ (.int .i64 v)) R K F P k0 k1 k2 y v d s n l := by
  have := h.o1; have := h.o2; have := h.o3; have := h.o0
  exact ⟨h.k.other (by omega), h.fx.set1 v, h.ff.set, h.r.other (by omega), h.rf.set, h.sc.other (by omega), h.o1, h.o2, h.o3, h.o0, h.bel.setCell (p := ⟨F, 1, none⟩) (by simp only; omega) _⟩
theorem Sf.f2 {w0 w : World} {R K F P : Nat} {k0 k1 k2 y m d s n : Int} {l : List UInt8} (h : Sf w0 w R K F P k0 k1 k2 y m d s n l) (v : Int) : Sf w0 (w.setCell ⟨F, 2, none⟩ (.int .i64 v)) R K F P k0 k1 k2 y m v s n l := by
  have := h.o1; have := h.o2; have := h.o3; have := h.o0
  exact ⟨h.k.other (by omega), h.fx.set2 v, h.ff.set, h.r.other (by omega), h.rf.set, h.sc.other (by omega), h.o1, h.o2, h.o3, h.o0, h.bel.setCell (p := ⟨F, 2, none⟩) (by simp only; omega) _⟩
theorem Sf.f3 {w0 w : World} {R K F P : Nat} {k0 k1 k2 y m d s n : Int} {l : List UInt8} (h : Sf w0 w R K F P k0 k1 k2 y m d s n l) (v : Int) : Sf w0 (w.setCell ⟨F, 3, none⟩ (.int .i64 v)) R K F P k0 k1 k2 y m d v n l := by
  have := h.o1; have := h.o2; have := h.o3; have := h.o0
  exact ⟨h.k.other (by omega), h.fx.set3 v, h.ff.set, h.r.other (by omega), h.rf.set, h.sc.other (by omega), h.o1, h.o2, h.o3, h.o0, h.bel.setCell (p := ⟨F, 3, none⟩) (by simp only; omega) _⟩
theorem Sf.f4 {w0 w : World} {R K F P : Nat} {k0 k1 k2 y m d s n : Int} {l : List UInt8} (h : Sf w0 w R K F P k0 k1 k2 y m d s n l) (v : Int) : Sf w0 (w.setCell ⟨F, 4, none⟩ (.int .i64 v)) R K F P k0 k1 k2 y m d s v l := by
  have := h.o1; have := h.o2; have := h.o3; have := h.o0
  exact ⟨h.k.other (by omega), h.fx.set4 v, h.ff.set, h.r.other (by omega), h.rf.set, h.sc.other (by omega), h.o1, h.o2, h.o3, h.o0, h.bel.setCell (p := ⟨F, 4, none⟩) (by simp only; omega) _⟩
set_option maxHeartbeats 8000000 in
theorem scan_impl (l : List UInt8) (hl : l.length ≤ 1048576) (w : World) : Calls Tryz.prog 92 #[.string (S.mk l)] w fun e w' => e = .returned (.agg #[.int .i64 (X.gy l), .int .i64 (X.gm l), .int .i64 (X.gd l), .int .i64 (X.gs l), .int .i64 (X.gn l)]) ∧ Below w.heap.size w w' := by
  have S0 : Sf w ((((w.alloc (.cells #[.int .i64 0, .int .i64 0, .int .i64 0, .int .i64 0, .int .i64 0] 31)).alloc (.cells #[.int .i64 0, .int .i64 0, .int .i64 0] 63)).alloc (.cells #[.int .i64 0, .int .i64 0, .int .i64 0, .int .i64 0, .int .i64 0] 31)).alloc (.cells #[.string (S.mk l)] 99)) w.heap.size (w.heap.size + 1) (w.heap.size + 1 + 1) (w.heap.size + 1 + 1 + 1) 0 0 0 0 0 0 0 0 l := by
    have e1 : (w.alloc (.cells #[.int .i64 0, .int .i64 0, .int .i64 0, .int .i64 0, .int .i64 0] 31)).heap.size = w.heap.size + 1 := World.size_alloc _ _
    have e2 : ((w.alloc (.cells #[.int .i64 0, .int .i64 0, .int .i64 0, .int .i64 0, .int .i64 0] 31)).alloc (.cells #[.int .i64 0, .int .i64 0, .int .i64 0] 63)).heap.size = w.heap.size + 1 + 1 := by rw [World.size_alloc, e1]
    have e3 : (((w.alloc (.cells #[.int .i64 0, .int .i64 0, .int .i64 0, .int .i64 0, .int .i64 0] 31)).alloc (.cells #[.int .i64 0, .int .i64 0, .int .i64 0] 63)).alloc (.cells #[.int .i64 0, .int .i64 0, .int .i64 0, .int .i64 0, .int .i64 0] 31)).heap.size = w.heap.size + 1 + 1 + 1 := by rw [World.size_alloc, e2]
    have a1 := (((C5.new w 0 0 0 0 0 31).al (.cells #[.int .i64 0, .int .i64 0, .int .i64 0] 63)).al (.cells #[.int .i64 0, .int .i64 0, .int .i64 0, .int .i64 0, .int .i64 0] 31)).al (.cells #[.string (S.mk l)] 99)
    have a2 := (((F5.new w 0 0 0 0 0 31).al (.cells #[.int .i64 0, .int .i64 0, .int .i64 0] 63)).al (.cells #[.int .i64 0, .int .i64 0, .int .i64 0, .int .i64 0, .int .i64 0] 31)).al (.cells #[.string (S.mk l)] 99)
    have a3 := ((W3.new (w.alloc (.cells #[.int .i64 0, .int .i64 0, .int .i64 0, .int .i64 0, .int .i64 0] 31)) 0 0 0 63).al (.cells #[.int .i64 0, .int .i64 0, .int .i64 0, .int .i64 0, .int .i64 0] 31)).al (.cells #[.string (S.mk l)] 99)
    have a4 := (C5.new ((w.alloc (.cells #[.int .i64 0, .int .i64 0, .int .i64 0, .int .i64 0, .int .i64 0] 31)).alloc (.cells #[.int .i64 0, .int .i64 0, .int .i64 0] 63)) 0 0 0 0 0 31).al (.cells #[.string (S.mk l)] 99)
    have a5 := (F5.new ((w.alloc (.cells #[.int .i64 0, .int .i64 0, .int .i64 0, .int .i64 0, .int .i64 0] 31)).alloc (.cells #[.int .i64 0, .int .i64 0, .int .i64 0] 63)) 0 0 0 0 0 31).al (.cells #[.string (S.mk l)] 99)
    have a6 : Sc ((((w.alloc (.cells #[.int .i64 0, .int .i64 0, .int .i64 0, .int .i64 0, .int .i64 0] 31)).alloc (.cells #[.int .i64 0, .int .i64 0, .int .i64 0] 63)).alloc (.cells #[.int .i64 0, .int .i64 0, .int .i64 0, .int .i64 0, .int .i64 0] 31)).alloc (.cells #[.string (S.mk l)] 99)) (((w.alloc (.cells #[.int .i64 0, .int .i64 0, .int .i64 0, .int .i64 0, .int .i64 0] 31)).alloc (.cells #[.int .i64 0, .int .i64 0, .int .i64 0] 63)).alloc (.cells #[.int .i64 0, .int .i64 0, .int .i64 0, .int .i64 0, .int .i64 0] 31)).heap.size l := Sc.new _ _ _
    rw [e1] at a3
    rw [e2] at a4 a5
    rw [e3] at a6
    refine ⟨a3, a4, a5, a1, a2, a6, by omega, by omega, by omega, Nat.le_refl _, ?_⟩
    exact ((((Below.refl _ _).alloc (Nat.le_refl _) _).alloc (by rw [e1]; omega) _).alloc (by rw [e2]; omega) _).alloc (by rw [e3]; omega) _
  have LL := Lib.hid hl
  go_enter Tryz.func92, Tryz.ntmps92
  go_wp2_with fail
  refine (skip_any _ _ _ ([70, 73, 88, 44]) _ S0.sc (Nat.le_refl _)).mono ?_
  rintro e x0 ⟨rfl, hs, hb⟩
  have T0 := S0.call hb hs
  clear hs hb S0
  go_wp2_with fail
  refine (number_any _ _ 2 _ _ T0.sc (Nat.le_refl _) (by omega) (by first | exact LL.out | exact Nat.le_trans (xl_1 l) LL.out)).mono ?_
  rintro e x1 ⟨rfl, hs, hb⟩
  have T1 := T0.call hb hs
  clear hs hb T0
  obtain ⟨⟨ka, kb, kc, kd, ke, kf, kg⟩, ⟨fa, fb, fc, fd, fe, fl⟩, ⟨ga, gb, gc, gd, ge, gl⟩, -, -, -, -, -, -, -, -⟩ := id T1
  go_wp2_with fail
  clear ka kb kc kd ke kf kg fa fb fc fd fe fl ga gb gc gd ge gl
  have U1 := T1.k0 ((X.r1 l).1 : Int)
  clear T1
  refine (number_any _ _ 2 _ _ U1.sc (Nat.le_refl _) (by omega) (by first | exact LL.out | exact Nat.le_trans (xl_2 l) LL.out)).mono ?_
  rintro e x2 ⟨rfl, hs, hb⟩
  have T2 := U1.call hb hs
  clear hs hb U1
  obtain ⟨⟨ka, kb, kc, kd, ke, kf, kg⟩, ⟨fa, fb, fc, fd, fe, fl⟩, ⟨ga, gb, gc, gd, ge, gl⟩, -, -, -, -, -, -, -, -⟩ := id T2
  go_wp2_with fail
  clear ka kb kc kd ke kf kg fa fb fc fd fe fl ga gb gc gd ge gl
  have U2 := T2.k1 ((X.r2 l).1 : Int)
  clear T2
  refine (number_any _ _ 2 _ _ U2.sc (Nat.le_refl _) (by omega) (by first | exact LL.out | exact Nat.le_trans (xl_3 l) LL.out)).mono ?_
  rintro e x3 ⟨rfl, hs, hb⟩
  have T3 := U2.call hb hs
  clear hs hb U2
  obtain ⟨⟨ka, kb, kc, kd, ke, kf, kg⟩, ⟨fa, fb, fc, fd, fe, fl⟩, ⟨ga, gb, gc, gd, ge, gl⟩, -, -, -, -, -, -, -, -⟩ := id T3
  go_wp2_with fail
  clear ka kb kc kd ke kf kg fa fb fc fd fe fl ga gb gc gd ge gl
  have U3 := T3.k2 ((X.r3 l).1 : Int)
  clear T3
  refine (skip_any _ _ _ ([44]) _ U3.sc (Nat.le_refl _)).mono ?_
  rintro e x4 ⟨rfl, hs, hb⟩
  have T4 := U3.call hb hs
  clear hs hb U3
  go_wp2_with fail
  refine (number_any _ _ 2 _ _ T4.sc (Nat.le_refl _) (by omega) (by first | exact LL.out | exact Nat.le_trans (xl_5 l) LL.out)).mono ?_
  rintro e x5 ⟨rfl, hs, hb⟩
  have T5 := T4.call hb hs
  clear hs hb T4
  obtain ⟨⟨ka, kb, kc, kd, ke, kf, kg⟩, ⟨fa, fb, fc, fd, fe, fl⟩, ⟨ga, gb, gc, gd, ge, gl⟩, -, -, -, -, -, -, -, -⟩ := id T5
  go_wp2_with fail
  clear ka kb kc kd ke kf kg fa fb fc fd fe fl ga gb gc gd ge gl
  have U5 := T5.f2 ((X.r4 l).1 : Int)
  clear T5
  refine (skip_any _ _ _ ([44]) _ U5.sc (Nat.le_refl _)).mono ?_
  rintro e x6 ⟨rfl, hs, hb⟩
  have T6 := U5.call hb hs
  clear hs hb U5
  go_wp2_with fail
  refine (number_any _ _ 2 _ _ T6.sc (Nat.le_refl _) (by omega) (by first | exact LL.out | exact Nat.le_trans (xl_7 l) LL.out)).mono ?_
  rintro e x7 ⟨rfl, hs, hb⟩
  have T7 := T6.call hb hs
  clear hs hb T6
  obtain ⟨⟨ka, kb, kc, kd, ke, kf, kg⟩, ⟨fa, fb, fc, fd, fe, fl⟩, ⟨ga, gb, gc, gd, ge, gl⟩, -, -, -, -, -, -, -, -⟩ := id T7
  go_wp2_with fail
  clear ka kb kc kd ke kf kg fa fb fc fd fe fl ga gb gc gd ge gl
  have U7 := T7.f1 ((X.r5 l).1 : Int)
  clear T7
  refine (skip_any _ _ _ ([44]) _ U7.sc (Nat.le_refl _)).mono ?_
  rintro e x8 ⟨rfl, hs, hb⟩
  have T8 := U7.call hb hs
  clear hs hb U7
  go_wp2_with fail
  refine (number_any _ _ 4 _ _ T8.sc (Nat.le_refl _) (by omega) (by first | exact LL.out | exact Nat.le_trans (xl_9 l) LL.out)).mono ?_
  rintro e x9 ⟨rfl, hs, hb⟩
  have T9 := T8.call hb hs
  clear hs hb T8
  obtain ⟨⟨ka, kb, kc, kd, ke, kf, kg⟩, ⟨fa, fb, fc, fd, fe, fl⟩, ⟨ga, gb, gc, gd, ge, gl⟩, -, -, -, -, -, -, -, -⟩ := id T9
  go_wp2_with fail
  clear ka kb kc kd ke kf kg fa fb fc fd fe fl ga gb gc gd ge gl
  have U9 := T9.f0 ((X.r6 l).1 : Int)
  clear T9
  refine (skip_any _ _ _ ([44]) _ U9.sc (Nat.le_refl _)).mono ?_
  rintro e x10 ⟨rfl, hs, hb⟩
  have T10 := U9.call hb hs
  clear hs hb U9
  go_wp2_with fail
  refine (number_any _ _ 2 _ _ T10.sc (Nat.le_refl _) (by omega) (by first | exact LL.out | exact Nat.le_trans (xl_11 l) LL.out)).mono ?_
  rintro e x11 ⟨rfl, hs, hb⟩
  have T11 := T10.call hb hs
  clear hs hb T10
  obtain ⟨⟨ka, kb, kc, kd, ke, kf, kg⟩, ⟨fa, fb, fc, fd, fe, fl⟩, ⟨ga, gb, gc, gd, ge, gl⟩, -, -, -, -, -, -, -, -⟩ := id T11
  go_wp2_with fail
  clear ka kb kc kd ke kf kg fa fb fc fd fe fl ga gb gc gd ge gl
  have U11 := T11.f4 ((X.r7 l).1 : Int)
  clear T11
  obtain ⟨b1, b2, b3, -, -, -, -⟩ := X.r_bd l
  refine (sod_impl _ _ _ b1 b2 b3 _).mono ?_
  rintro e y1 ⟨rfl, hb⟩
  have Z := U11.b hb
  clear hb U11 b1 b2 b3
  obtain ⟨-, ⟨fa, fb, fc, fd, fe, fl⟩, ⟨ga, gb, gc, gd, ge, gl⟩, ⟨ra, rb, rc, rd, re, rl⟩, ⟨sa, sb, s_c, sd, se, sl⟩, -, -, -, -, -, bel⟩ := Z
  go_wp2
  refine bodyPost_ret (v := .agg #[.int .i64 (X.gy l), .int .i64 (X.gm l), .int .i64 (X.gd l), .int .i64 (X.gs l), .int .i64 (X.gn l)]) (by simp [results, Tryz.results92, go_sem, ra, rb, rc, rd, re, X.gy, X.gm, X.gd, X.gs, X.gn]) rfl ⟨rfl, ?_⟩
  iterate 6 refine Below.setCell ?_ (by simp only; omega) _
  exact bel
set_option maxHeartbeats 4000000 in
theorem pf_impl (s : ByteArray) (hs : s.size ≤ 1048576) (w : World) (hT : Tb w) : Calls Tryz.prog 72 #[.string s] w fun e w' => e = .returned (.tuple #[.agg #[.int .i64 (X.py s), .int .i64 (X.pm s), .int .i64 (X.pd s), .int .i64 (X.ps s), .int .i64 (X.pn s)], .bool (X.pB s)]) ∧ Below w.heap.size w w' := by
  have K := C5.new w 0 0 0 0 0 31
  have F := F5.new w 0 0 0 0 0 31
  have g0 : Below w.heap.size w (w.alloc (.cells #[.int .i64 0, .int .i64 0, .int .i64 0, .int .i64 0, .int .i64 0] 31)) := (Below.refl _ _).alloc (Nat.le_refl _) _
  have R := fun w' => read_impl s hs w'
  have HT := Lib.hid hT
  rcases hr : S.rdB s with _ | _
  · obtain ⟨e1, e2, e3, e4, e5⟩ := X.p_out (X.pB_no1 hr)
    rw [e1, e2, e3, e4, e5, X.pB_no1 hr]
    rw [hr] at R
    have HR := Lib.hid R
    clear R e1 e2 e3 e4 e5 hr
    go_enter Tryz.func72, Tryz.ntmps72
    go_wp2_with fail
    refine (HR.out _).mono ?_
    rintro e w1 ⟨rfl, hb⟩
    have g1 := g0.trans (hb.mono g0.size)
    obtain ⟨c0, c1, c2, c3, c4, cl⟩ := K.b hb
    obtain ⟨f0, f1, f2, f3, f4, fl⟩ := F.b hb
    clear hb K F g0
    go_wp2
    refine bodyPost_ret (v := .tuple #[.agg #[.int .i64 0, .int .i64 0, .int .i64 0, .int .i64 0, .int .i64 0], .bool false]) (by simp [results, Tryz.results72, go_sem, c0, c1, c2, c3, c4]) rfl ⟨rfl, ?_⟩
    iterate 5 refine Below.setCell ?_ (by simp) _
    exact g1
  · have hiff := X.pB_iff hr
    have hin := fun h => X.p_in (s := s) h
    have hsz : (S.lst (S.rdS s)).length ≤ 1048576 := by rw [S.size_lst, S.rdS_yes hr]; have := (S.rdB_of hr).1; have := S.mid_size s (by omega); omega
    have hmk : S.rdS s = S.mk (S.lst (S.rdS s)) := (S.mk_lst _).symm
    rw [hr] at R
    obtain ⟨l, hl⟩ : ∃ l, S.lst (S.rdS s) = l := ⟨_, rfl⟩
    rw [hl] at hiff hin hsz hmk
    rw [hmk] at R
    have SC := fun w' => scan_impl l hsz w'
    have FF := fun w' (h : Tb w') => ff_impl (X.gy l) (X.gm l) (X.gd l) (X.gs l) (X.gn l) w' h
    have HR := Lib.hid R
    have HSC := Lib.hid SC
    have HFF := Lib.hid FF
    have HIFF := Lib.hid hiff
    have HIN := Lib.hid hin
    clear R SC FF hiff hin hmk hl hsz hr
    generalize X.gy l = y at *
    generalize X.gm l = m at *
    generalize X.gd l = d at *
    generalize X.gs l = t at *
    generalize X.gn l = n at *
    go_enter Tryz.func72, Tryz.ntmps72
    go_wp2_with fail
    refine (HR.out _).mono ?_
    rintro e w1 ⟨rfl, hb⟩
    have g1 := g0.trans (hb.mono g0.size)
    have K1 := K.b hb
    have F1 := F.b hb
    clear hb K F g0
    go_wp2_with fail
    refine (HSC.out _).mono ?_
    rintro e w2 ⟨rfl, hb⟩
    have g2 := g1.trans (hb.mono g1.size)
    have K2 := (K1.b hb).al (.cells #[.int .i64 y, .int .i64 m, .int .i64 d, .int .i64 t, .int .i64 n] 31)
    have F2 := (F1.b hb).al (.cells #[.int .i64 y, .int .i64 m, .int .i64 d, .int .i64 t, .int .i64 n] 31)
    have G2 := C5.new w2 y m d t n 31
    have g3 := g2.alloc g2.size (.cells #[.int .i64 y, .int .i64 m, .int .i64 d, .int .i64 t, .int .i64 n] 31)
    clear hb K1 F1 g1 g2
    obtain ⟨p0, p1, p2, p3, p4, pl⟩ := id G2
    go_wp2_with fail
    refine (HFF.out _ (HT.out.b g3)).mono ?_
    rintro e w3 ⟨rfl, hb⟩
    have g4 := g3.trans (hb.mono g3.size)
    obtain ⟨c0, c1, c2, c3, c4, cl⟩ := K2.b hb
    obtain ⟨f0, f1, f2, f3, f4, fl⟩ := F2.b hb
    obtain ⟨q0, q1, q2, q3, q4, ql⟩ := G2.b hb
    clear hb K2 F2 G2 g3 p0 p1 p2 p3 p4 pl
    by_cases hq : X.ff y m d t n = s
    · have hB := HIFF.out.mpr hq
      obtain ⟨e1, e2, e3, e4, e5⟩ := HIN.out hB
      have hbb := beq_str _ _ hq
      have HE := Lib.hid (And.intro e1 (And.intro e2 (And.intro e3 (And.intro e4 (And.intro e5 hB)))))
      clear e1 e2 e3 e4 e5 hB hq
      generalize X.ff y m d t n = T at *
      go_wp2
      refine bodyPost_ret (v := .tuple #[.agg #[.int .i64 y, .int .i64 m, .int .i64 d, .int .i64 t, .int .i64 n], .bool true]) (by simp [results, Tryz.results72, go_sem, c0, c1, c2, c3, c4]) rfl ⟨by rw [HE.out.1, HE.out.2.1, HE.out.2.2.1, HE.out.2.2.2.1, HE.out.2.2.2.2.1, HE.out.2.2.2.2.2], ?_⟩
      iterate 5 refine Below.setCell ?_ (by simp) _
      exact g4
    · have hB : X.pB s = false := by
        rcases h : X.pB s with _ | _
        · rfl
        · exact absurd (HIFF.out.mp h) hq
      obtain ⟨e1, e2, e3, e4, e5⟩ := X.p_out hB
      have hbb := bne_str _ _ hq
      have HE := Lib.hid (And.intro e1 (And.intro e2 (And.intro e3 (And.intro e4 (And.intro e5 hB)))))
      clear e1 e2 e3 e4 e5 hB hq
      generalize X.ff y m d t n = T at *
      go_wp2
      refine bodyPost_ret (v := .tuple #[.agg #[.int .i64 0, .int .i64 0, .int .i64 0, .int .i64 0, .int .i64 0], .bool false]) (by simp [results, Tryz.results72, go_sem, c0, c1, c2, c3, c4]) rfl ⟨by rw [HE.out.1, HE.out.2.1, HE.out.2.2.1, HE.out.2.2.2.1, HE.out.2.2.2.2.1, HE.out.2.2.2.2.2], ?_⟩
      iterate 5 refine Below.setCell ?_ (by simp) _
      exact g4
end Go.Proofs.YtpfdjmffgbbmdaaGreatDoor
