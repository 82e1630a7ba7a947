/-
  Sessions (chapter 17): the model runs lines.
-/
import Derived.Test.YtpfdjmffgbbmdaaGreatDoorLineD
import Derived.Test.YtpfdjmffgbbmdaaGreatDoorP1
import Derived.Test.YtpfdjmffgbbmdaaGreatDoorEqS
namespace Go.Proofs.YtpfdjmffgbbmdaaGreatDoor
open Go.RowKit
set_option linter.unusedVariables false
set_option maxRecDepth 100000
theorem Dk.new (w : World) : Dks (w.alloc (.cells #[.int .i64 1000000, .int .i64 10, .int .i64 0, .int .i64 0, .slice none 0 0] 60)) w.heap.size Z.q0 :=
  ⟨none, 0, ⟨by simp; rfl, by simp, by simp; rfl, by simp; rfl, by simp; rfl, fun i hi => by simp, by simp⟩, OwQ.nil _ _, fun x e => by cases e⟩
/-- Where the run stands behind k lines. -/
structure RnD (w0 w : World) (T : List ByteArray) (k : Nat) : Prop where
  s : Dks w w0.heap.size (qk T k)
  bel : Below w0.heap.size w0 w
theorem line_app (a b : List UInt8) : S.mk a ++ S.mk b ++ { data := #[10] } = S.mk (a ++ (b ++ [10])) := by
  rw [show ({ data := #[10] } : ByteArray) = S.mk [10] from rfl, mk_app, mk_app, List.append_assoc]
set_option maxHeartbeats 4000000 in
theorem RS_spec (n c : Nat) (a : Option Addr) (T : List ByteArray) (w : World) (h : Rd w.heap.size w a n T) (hn : n ≤ 1048576) (hs : ∀ i, i < n → (T.getD i ByteArray.empty).size ≤ 1048576) : Calls Tryz.prog 10 #[.slice a n c] w fun e w' => e = .returned (.string (S.mk (outT T))) ∧ Below w.heap.size w w' := by
  have hl := h.1
  have HO := ob_out T
  rw [hl] at HO
  obtain ⟨K, hK⟩ : ∃ K : Nat, min n 20 = K := ⟨_, rfl⟩
  have hKn : K ≤ n := by omega
  have hK20 : K ≤ 20 := by omega
  rw [hK] at HO
  have HO := Lib.hid HO
  have HL := Lib.hid hl
  have HK := Lib.hid hK
  have HR0 := Lib.hid (show RnD w (w.alloc (.cells #[.int .i64 1000000, .int .i64 10, .int .i64 0, .int .i64 0, .slice none 0 0] 60)) T 0 from ⟨Dk.new w, (Below.refl _ _).alloc (Nat.le_refl _) _⟩)
  clear hl hK
  go_enter Tryz.func10, Tryz.ntmps10
  go_wp2
  go_loopw [4, 5] (fun o i wr => ∃ k : Nat, k ≤ K ∧ i = .int .i64 k ∧ o = .string (S.mk (ob T k)) ∧ RnD w wr T k) (fun _ i _ => K - (intOf i).toNat)
  case atStart => exact ⟨0, Nat.zero_le _, rfl, rfl, HR0.out⟩
  case round =>
    obtain ⟨k, hk, rfl, rfl, hr⟩ := hrel
    by_cases hlt : k < K
    · obtain ⟨b, off, rfl, hbb, hcell⟩ := (h.keep hr.bel (Nat.le_refl _)).at_ k (by omega)
      have ck := hcell k (by omega)
      have hx := hs k (by omega)
      have hkT : k < T.length := by have := HL.out; omega
      have k20 : (k : Int) < 20 := by omega
      have kn : (k : Int) < (n : Int) := by omega
      have HQ := Lib.hid (qk_succ hkT)
      have hol := ob_len T k
      have hsl := Z.step_len (qk_ok T k) (S.lst (T.getD k ByteArray.empty))
      have HX0 := line_spec w.heap.size (qk T k) (S.lst (T.getD k ByteArray.empty)) (by rw [S.size_lst]; exact hx) wr hr.s (qk_ok T k)
      rw [S.mk_lst] at HX0
      have HX := Lib.hid HX0
      have hob := ob_succ hkT
      generalize T.getD k ByteArray.empty = x at *
      generalize Z.step (qk T k) (S.lst x) = st at *
      have HA := line_app (ob T k) st.2
      rw [← hob] at HA
      have HA := Lib.hid HA
      have s1 : (S.mk (ob T k)).size ≤ 620 := by rw [S.size_mk]; omega
      have s2 : (S.mk st.2).size ≤ 30 := by rw [S.size_mk]; omega
      have HR := Lib.hid hr
      unfold Did at HX
      generalize S.mk (ob T k) = p at *
      generalize S.mk st.2 = p2 at *
      have s3 : (p ++ p2).size ≤ 650 := by rw [size_app]; omega
      clear hr hcell hx hkT HX0 hob hsl hol
      go_wp2_with fail
      refine HX.out.mono ?_
      rintro e w1 ⟨rfl, hs1, hg1⟩
      have R1 : RnD w w1 T (k + 1) := ⟨by rw [HQ.out]; exact hs1, below_gb HR.out.bel hg1 (Nat.le_refl _) (Nat.le_of_lt HR.out.s.lt)⟩
      have HR1 := Lib.hid R1
      clear hs1 hg1 R1
      go_wp2
      go_roundw
      case rel => exact ⟨k + 1, by omega, by go_num, by rw [← HA.out], HR1.out⟩
      case measure => simp [intOf]; omega
    · obtain rfl : k = K := by omega
      have HR := Lib.hid hr
      have HF := Lib.hid (show S.mk (ob T k) = S.mk (outT T) by rw [HO.out])
      clear hr
      by_cases h20 : k < n
      · have k20 : ¬ (k : Int) < 20 := by have := HK.out; omega
        have kn : (k : Int) < (n : Int) := by omega
        go_wp2
        go_ret
        exact ⟨by rw [← HF.out]; rfl, HR.out.bel⟩
      · have kn : ¬ (k : Int) < (n : Int) := by omega
        go_wp2
        go_ret
        exact ⟨by rw [← HF.out]; rfl, HR.out.bel⟩
end Go.Proofs.YtpfdjmffgbbmdaaGreatDoor
