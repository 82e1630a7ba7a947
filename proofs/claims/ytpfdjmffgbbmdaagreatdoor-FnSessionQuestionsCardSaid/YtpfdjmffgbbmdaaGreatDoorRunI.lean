/-
  Sessions (chapter 17): the program runs lines.
-/
import Derived.Test.YtpfdjmffgbbmdaaGreatDoorExecW
import Derived.Test.YtpfdjmffgbbmdaaGreatDoorP1
import Derived.Test.YtpfdjmffgbbmdaaGreatDoorEqS
namespace Go.Proofs.YtpfdjmffgbbmdaaGreatDoor
open Go.RowKit
set_option linter.unusedVariables false
set_option maxRecDepth 100000
/-- A builder is kept through what changes one other block, and older ones. -/
theorem isb_gb {B b D : Nat} {bs : List Value} {w w' : World} (h : Lib.IsBuilder 50 5 B b bs w) (hg : w.grownBy w' (some D)) (hD : D < B) : Lib.IsBuilder 50 5 B b bs w' := by
  have key : ∀ p, Lib.BuilderAt 50 5 B b p bs w → Lib.BuilderAt 50 5 B b p bs w' := fun p h => by
    have hlt := h.lt
    obtain ⟨hB, v, hbk, hown, hne⟩ := h
    refine ⟨hB, v, (hg.block b hlt (fun e => by injection e with e; omega)).trans hbk, ?_, hne⟩
    refine World.ownsRow.kept hown hg ?_
    rcases e : v.ownBlock with _ | g
    · exact .inl rfl
    · exact .inr fun e2 => by
        have := (hown.lt g e).1
        injection e2 with e2; omega
  exact h.imp (key _) (key _)
theorem wslf (B b : Nat) (l x : List UInt8) (w : World) (h : Lib.IsBuilder 50 5 B b (Lib.byteCells l) w) (hl : l.length + x.length ≤ 1000000) (hBw : B ≤ w.heap.size) :
    Calls Tryz.prog 23 #[.pointer (some ⟨b, 0, none⟩), .string (S.mk x)] w fun e w' => (∃ v, e = .returned v) ∧ Lib.IsBuilder 50 5 B b (Lib.byteCells (l ++ x)) w' ∧ Below B w w' ∧ Fr w w' := by
  refine (wsf_any B b _ (S.mk x) w h (by rw [Lib.byteCells_length, S.size_mk]; omega) hBw).mono ?_
  rintro e w' ⟨rfl, h1, h2⟩
  refine ⟨⟨_, rfl⟩, .inr ?_, h2⟩
  rw [Lib.byteCells_append]
  exact h1
theorem wblf (B b : Nat) (l : List UInt8) (w : World) (h : Lib.IsBuilder 50 5 B b (Lib.byteCells l) w) (hl : l.length ≤ 1000000) (hBw : B ≤ w.heap.size) :
    Calls Tryz.prog 25 #[.pointer (some ⟨b, 0, none⟩), .int .u8 10] w fun e w' => (∃ v, e = .returned v) ∧ Lib.IsBuilder 50 5 B b (Lib.byteCells (l ++ [10])) w' ∧ Below B w w' ∧ Fr w w' := by
  refine (wbf_any B b _ 10 w h (by rw [Lib.byteCells_length]; omega) hBw).mono ?_
  rintro e w' ⟨rfl, h1, h2⟩
  refine ⟨⟨_, rfl⟩, .inr ?_, h2⟩
  rw [Lib.byteCells_append]
  exact h1
/-- Where the run stands behind k lines. -/
structure RnI (w0 w : World) (T : List ByteArray) (k : Nat) : Prop where
  s : Ses w w0.heap.size (qk T k)
  o : Lib.IsBuilder 50 5 (w0.heap.size + 1) (w0.heap.size + 1) (Lib.byteCells (ob T k)) w
  lt : w0.heap.size + 1 < w.heap.size
  bel : Below w0.heap.size w0 w
theorem SsI.new (w : World) : Ses (w.alloc (.cells #[.int .i64 0, .slice none 0 0, .int .i64 1000000, .int .i64 10, .int .i64 0] 47)) w.heap.size Z.q0 :=
  ⟨none, 0, ⟨by simp; rfl, by simp; rfl, by simp; rfl, by simp, by simp; rfl, fun i hi => by simp, by simp⟩, OwQ.nil _ _, fun x e => by cases e⟩
set_option maxHeartbeats 4000000 in
theorem RS_impl (n c : Nat) (a : Option Addr) (T : List ByteArray) (w : World) (h : Rd w.heap.size w a n T) (hc : n ≤ c) (hn : n ≤ 1048576) (hs : ∀ i, i < n → (T.getD i ByteArray.empty).size ≤ 1048576) (hT : Tb w) (hM : Mx w) : Calls Tryz.prog 9 #[.slice a n c] w fun e w' => e = .returned (.string (S.mk (outT T))) ∧ Below w.heap.size w w' := by
  have hl := h.1
  have HO := ob_out T
  rw [hl] at HO
  obtain ⟨K, hK⟩ : ∃ K : Nat, min n 20 = K := ⟨_, rfl⟩
  have m1 : min (n : Int) 20 = (K : Int) := by omega
  have m2 : max (K : Int) 0 = (K : Int) := by omega
  have hKn : K ≤ n := by omega
  have hK20 : K ≤ 20 := by omega
  have hKc : (K : Int) ≤ (c : Int) := by omega
  rw [hK] at HO
  have HO := Lib.hid HO
  have HL := Lib.hid hl
  have R0 : RnI w ((w.alloc (.cells #[.int .i64 0, .slice none 0 0, .int .i64 1000000, .int .i64 10, .int .i64 0] 47)).alloc (.cells #[.pointer none, .slice none 0 0] 50)) T 0 := by
    have nb := bld_new (w.alloc (.cells #[.int .i64 0, .slice none 0 0, .int .i64 1000000, .int .i64 10, .int .i64 0] 47))
    simp only [World.size_alloc] at nb
    refine ⟨(SsI.new w).b ((Below.refl _ _).alloc (Nat.le_refl _) _), nb, by simp, ((Below.refl _ _).alloc (Nat.le_refl _) _).alloc (by simp) _⟩
  have HR0 := Lib.hid R0
  have HT := Lib.hid hT
  have HM := Lib.hid hM
  clear hl R0 hT hM hK hc
  go_enter Tryz.func9, Tryz.ntmps9
  go_wp2
  go_loopw [15] (fun i wr => ∃ k : Nat, k ≤ K ∧ i = .int .i64 k ∧ RnI w wr T k) (fun i _ => K - (intOf i).toNat)
  case atStart => exact ⟨0, Nat.zero_le _, rfl, HR0.out⟩
  case round =>
    obtain ⟨k, hk, rfl, hr⟩ := hrel
    by_cases hlt : k < K
    · obtain ⟨b, off, rfl, hbb, hcell⟩ := (h.keep hr.bel (Nat.le_refl _)).at_ k (by omega)
      have ck := hcell k (by omega)
      have hx := hs k (by omega)
      have hkT : k < T.length := by have := HL.out; omega
      have HQ := Lib.hid (qk_succ hkT)
      have HOB := Lib.hid (ob_succ hkT)
      have hol := ob_len T k
      have hsl := Z.step_len (qk_ok T k) (S.lst (T.getD k ByteArray.empty))
      have HX := Lib.hid (exec_impl w.heap.size (qk T k) (T.getD k ByteArray.empty) hx wr hr.s (qk_ok T k) (Tz.mk HT.out HM.out hr.bel))
      generalize T.getD k ByteArray.empty = x at *
      generalize Z.step (qk T k) (S.lst x) = st at *
      have HR := Lib.hid hr
      clear hr hcell hx hkT
      go_wp2_with fail
      refine HX.out.mono ?_
      rintro e w1 ⟨rfl, hs1, hg1⟩
      have lt1 : w.heap.size + 1 < w1.heap.size := Nat.lt_of_lt_of_le HR.out.lt hg1.size
      have o1 := isb_gb HR.out.o hg1 (Nat.lt_succ_self _)
      have bel1 : Below w.heap.size w w1 := below_gb HR.out.bel hg1 (Nat.le_refl _) (Nat.le_of_lt (Nat.lt_of_succ_lt HR.out.lt))
      have H1 := Lib.hid (And.intro hs1 bel1)
      clear hs1 hg1 bel1
      go_wp2_with fail
      refine (wslf _ _ (ob T k) st.2 w1 o1 (by omega) (Nat.le_of_lt lt1)).mono ?_
      rintro e w2 ⟨⟨v, rfl⟩, o2, hb2, hf2⟩
      have lt2 : w.heap.size + 1 < w2.heap.size := Nat.lt_of_lt_of_le lt1 hb2.size
      have H2 := Lib.hid (And.intro (H1.out.1.fr hb2 (Nat.lt_succ_self _) hf2) (H1.out.2.trans (hb2.mono (Nat.le_succ _))))
      clear o1 lt1 hb2 hf2
      go_wp2_with fail
      refine (wblf _ _ (ob T k ++ st.2) w2 o2 (by rw [List.length_append]; omega) (Nat.le_of_lt lt2)).mono ?_
      rintro e w3 ⟨⟨v3, rfl⟩, o3, hb3, hf3⟩
      have R3 : RnI w w3 T (k + 1) := ⟨by rw [HQ.out]; exact H2.out.1.fr hb3 (Nat.lt_succ_self _) hf3, by rw [HOB.out, ← List.append_assoc]; exact o3, Nat.lt_of_lt_of_le lt2 hb3.size, H2.out.2.trans (hb3.mono (Nat.le_succ _))⟩
      have HR3 := Lib.hid R3
      clear o2 lt2 o3 hb3 hf3 R3
      go_wp2
      go_roundw
      case rel => exact ⟨k + 1, by omega, by go_num, HR3.out⟩
      case measure => simp [intOf]; omega
    · obtain rfl : k = K := by omega
      have HR := Lib.hid hr
      clear hr
      go_wp2_with fail
      refine (Tryz.Builder_String_any _ _ _ _ HR.out.o (Nat.le_of_lt HR.out.lt)).mono ?_
      rintro e w4 ⟨rfl, hb4⟩
      have HB := Lib.hid (HR.out.bel.trans (hb4.mono (Nat.le_succ _)))
      clear hb4
      go_wp2
      go_ret
      exact ⟨by rw [← HO.out]; rfl, HB.out⟩
end Go.Proofs.YtpfdjmffgbbmdaaGreatDoor
