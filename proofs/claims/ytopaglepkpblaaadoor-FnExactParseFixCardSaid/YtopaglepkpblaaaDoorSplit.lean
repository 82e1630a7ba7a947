/-
  The search for sentences, by the program and by the model: both return a list of the call's own with the texts that the search finds, and change nothing that was there.
-/
import Derived.Test.YtopaglepkpblaaaDoorRead
import Derived.Deep.AppendLies
import Derived.WalkSpells
namespace Go.Proofs.YtopaglepkpblaaaDoor
open Go.RowKit
set_option linter.unusedVariables false
set_option maxRecDepth 100000
theorem str_info : (Tryd.prog.info? 9).map (fun i => (i.zero, i.size, i.bytes)) = some (some (.string ByteArray.empty), 1, 16) := by kernel_rfl
def strs (T : List ByteArray) : List Value := T.map Value.string
theorem strs_len (T : List ByteArray) : (strs T).length = T.length := by simp [strs]
theorem strs_snoc (T : List ByteArray) (x : ByteArray) : strs T ++ [.string x] = strs (T ++ [x]) := by simp [strs]
/-- What the search returns. -/
def Spl (s : ByteArray) (T : List ByteArray) : Prop := (s.size ≤ 300 ∧ S.Run s 0 [] T) ∨ (300 < s.size ∧ T = [])
theorem Spl.same {s : ByteArray} {T T' : List ByteArray} (h : Spl s T) (h' : Spl s T') : T = T' := by
  rcases h with ⟨a, b⟩ | ⟨a, b⟩ <;> rcases h' with ⟨a', b'⟩ | ⟨a', b'⟩
  · exact b.same b'
  · omega
  · omega
  · rw [b, b']
theorem Spl.len {s : ByteArray} {T : List ByteArray} (h : Spl s T) : T.length ≤ 8 := by
  rcases h with ⟨a, b⟩ | ⟨a, b⟩
  · exact b.le.2 (by simp)
  · rw [b]; simp
def Texts (B : Nat) (w : World) (a : Option Addr) (c : Nat) (T : List ByteArray) : Prop := w.ownsRow B 9 1 (.slice a T.length c) T.length (strs T)
theorem Texts.keep {B : Nat} {w w' : World} {a : Option Addr} {c : Nat} {T : List ByteArray} (h : Texts B w a c T) (hb : Below w.heap.size w w') : Texts B w' a c T :=
  World.ownsRow.kept (row := none) h ⟨hb.os, hb.tape, hb.output, hb.size, fun j hj _ => hb.block j hj⟩ (by cases a <;> simp [Value.ownBlock])
theorem Texts.more {B B' : Nat} {w : World} {a : Option Addr} {c : Nat} {T : List ByteArray} (h : Texts B w a c T) (hB : B' ≤ B) : Texts B' w a c T := by
  refine ⟨h.1, ?_⟩
  rcases h.2 with hn | ⟨g, cap, cur, hv, hb, rest⟩
  · exact .inl hn
  · exact .inr ⟨g, cap, cur, hv, by omega, rest⟩
def Found (s : ByteArray) (w : World) (e : Ending) (w' : World) : Prop := ∃ a c T, e = .returned (.slice a T.length c) ∧ Spl s T ∧ Texts w.heap.size w' a c T ∧ Below w.heap.size w w'
theorem after_impl (st c : Nat) (hst : st ≤ 4) (hc : c < 256) (w : World) : Calls Tryd.prog 40 #[.int .i64 st, .int .u8 c] w fun e w' => e = .returned (.int .i64 (S.nx st c)) ∧ w = w' := by
  by_cases h36 : c = 36
  · have g : ((c : Int) == 36) = true := by rw [beq_iff_eq]; omega
    rw [h36, S.nx_dol]
    subst h36
    go_enter Tryd.func40, Tryd.ntmps40
    go_wp2
    go_ret
    exact ⟨rfl, rfl⟩
  · have g : ((c : Int) == 36) = false := by rw [beq_eq_false_iff_ne]; omega
    rcases (show st = 0 ∨ st = 1 ∨ st = 2 ∨ st = 3 ∨ st = 4 by omega) with rfl | rfl | rfl | rfl | rfl
    case inr.inl =>
      by_cases h42 : c = 42
      · have g2 : ((c : Int) == 42) = true := by rw [beq_iff_eq]; omega
        have e : S.nx 1 c = 2 := by unfold S.nx; rw [if_neg h36, if_pos rfl, if_pos h42]
        rw [e]
        clear h36 h42 e
        go_enter Tryd.func40, Tryd.ntmps40
        go_wp2
        go_ret
        exact ⟨rfl, rfl⟩
      · have g2 : ((c : Int) == 42) = false := by rw [beq_eq_false_iff_ne]; omega
        have e : S.nx 1 c = 1 := by unfold S.nx; rw [if_neg h36, if_pos rfl, if_neg h42]
        rw [e]
        clear h36 h42 e
        go_enter Tryd.func40, Tryd.ntmps40
        go_wp2
        go_ret
        exact ⟨rfl, rfl⟩
    all_goals
      unfold S.nx
      rw [if_neg h36]
      clear h36
      go_enter Tryd.func40, Tryd.ntmps40
      go_wp2
      go_ret
      exact ⟨rfl, rfl⟩
set_option maxHeartbeats 4000000 in
theorem split_impl (s : ByteArray) (hs : s.size ≤ 1048576) (w : World) : Calls Tryd.prog 17 #[.string s] w (Found s w) := by
  by_cases h300 : 300 < s.size
  · have g : (300 : Int) < (s.size : Int) := by omega
    have HF : Found s w (.returned (.slice none 0 0)) w := ⟨none, 0, [], rfl, .inr ⟨h300, rfl⟩, World.ownsRow_nil _ _ _ _, Below.refl _ _⟩
    have HF := Lib.hid HF
    clear h300
    go_enter Tryd.func17, Tryd.ntmps17
    go_wp2
    go_ret
    exact HF.out
  have g : ¬ (300 : Int) < (s.size : Int) := by omega
  obtain ⟨i0, hi0, hz0, hz1, hz2⟩ := info_parts str_info
  have hI := Lib.hid hi0
  have hZ0 := Lib.hid hz0
  have hZ1 := Lib.hid hz1
  have hZ2 := Lib.hid hz2
  clear hi0 hz0 hz1 hz2
  go_enter Tryd.func17, Tryd.ntmps17
  go_wp2_with fail
  go_loopw [3, 4, 5, 6] (fun v p q i wr => ∃ (a : Option Addr) (c : Nat) (T : List ByteArray) (start st k : Nat), v = .slice a T.length c ∧ p = .int .i64 start ∧ q = .int .i64 st ∧ i = .int .i64 k ∧ start ≤ k ∧ st ≤ 4 ∧ S.Mach s k st start T ∧ Texts w.heap.size wr a c T ∧ Below w.heap.size w wr) (fun _ _ _ i _ => s.size - (intOf i).toNat)
  case atStart => exact ⟨none, 0, [], 0, 0, 0, rfl, rfl, rfl, rfl, Nat.le_refl _, by omega, S.Mach.zero s, World.ownsRow_nil _ _ _ _, Below.refl _ _⟩
  case round =>
    obtain ⟨a, c, T, start, st, k, rfl, rfl, rfl, rfl, hsk, hst, hM, hT, hB⟩ := hrel
    have hkle := hM.le
    have hT8 := hM.len
    by_cases hlt : k < s.size
    · by_cases h8 : T.length < 8
      · have hat := S.at_get s k
        have hb := S.at_lt s k
        have hnl := S.nx_le st (S.at_ s k)
        by_cases h4 : S.nx st (S.at_ s k) = 4
        · obtain ⟨hne, hsl, hyes, hno⟩ := hM.end_ hlt h8 h4
          have g1 : ((S.at_ s k : Int) == 36) = false := by rw [beq_eq_false_iff_ne]; omega
          have hsl : ∀ W : World, (Instr.slice 9 (.string s) (some (.int .i64 (start : Int))) (some (.int .i64 ((k : Int) + 1))) none).run Tryd.prog W = .ok (.string (s.extract start (k + 1))) W := fun W => by
            have h := run_slice_string (P := Tryd.prog) W 9 s .i64 .i64 (start : Int) ((k : Int) + 1) Tryd.underlying9 (by omega) (by omega) (by omega)
            rw [show ((start : Int)).toNat = start from rfl, show ((k : Int) + 1).toNat = k + 1 from by omega] at h
            exact h
          have hxs : (s.extract start (k + 1)).size ≤ 1048576 := by rw [ByteArray.size_extract]; omega
          have hC := fun W => after_impl st (S.at_ s k) hst hb W
          rw [h4] at hC
          have HC := Lib.hid hC
          have HY := Lib.hid hyes
          have HN := Lib.hid hno
          have HXS := Lib.hid hxs
          clear hC hyes hno hxs hne h4 hnl
          generalize hX : s.extract start (k + 1) = x at *
          clear hX
          rcases hr : S.rdB x with _ | _
          · have hMN := Lib.hid (HN.out hr)
            go_wp2_with (first | (go_at_call 40; refine (HC.out _).mono ?_; rintro e w' ⟨rfl, rfl⟩) | (go_at_call 15; refine (read_impl _ HXS.out _).mono ?_; rintro e w2 ⟨rfl, b2⟩))
            go_roundw
            case rel => exact ⟨a, c, T, start, 4, k + 1, rfl, rfl, rfl, by go_num, by omega, by omega, hMN.out, hT.keep b2, hB.trans (b2.mono hB.size)⟩
            case measure => simp [intOf]; omega
          · have hMY := Lib.hid (HY.out hr)
            go_wp2_with (first | (go_at_call 40; refine (HC.out _).mono ?_; rintro e w' ⟨rfl, rfl⟩) | (go_at_call 15; refine (read_impl _ HXS.out _).mono ?_; rintro e w2 ⟨rfl, b2⟩) | (at_builtin; refine wpList_append_lies _ rfl _ _ 37 rfl w.heap.size 9 i0 (.string ByteArray.empty) 1 16 Tryd.underlying37 hI.out hZ0.out hZ1.out hZ2.out rfl (by decide) (.slice a T.length c) T.length (strs T) rfl ((hT.keep b2).alloc _) ⟨w2.heap.size, 0, none⟩ 1 1 [.string (S.rdS x)] rfl rfl (cell_one_new _ _ _) (by intro u hu; simp at hu; subst hu; rfl) (by decide) (by unfold maxLen; omega) (by omega) (by have := hB.size; have := b2.size; simp; omega) _ rfl ?_))
            intro g cap w3 own3 hg3 hat3 hlt3
            have hT3 : Texts w.heap.size w3 (some ⟨g, 0, none⟩) cap (T ++ [S.rdS x]) := by
              unfold Texts
              rw [← strs_snoc, List.length_append]
              exact own3
            have hB3 : Below w.heap.size w w3 := ((hB.trans (b2.mono hB.size)).alloc (Nat.le_trans hB.size b2.size) _).grown hg3 (by have := hB.size; have := b2.size; simp; omega) (fun j hj => (World.ownsRow.lt (hT.keep b2) j hj).1)
            have HT3 := Lib.hid (And.intro hT3 hB3)
            have hll := Lib.hid (show (T ++ [S.rdS x]).length = T.length + 1 by simp)
            clear own3 hg3 hat3 hT3 hB3 hT
            go_wp2
            go_roundw
            case rel => exact ⟨some ⟨g, 0, none⟩, cap, T ++ [S.rdS x], start, 4, k + 1, by rw [hll.out], rfl, rfl, by go_num, by omega, by omega, hMY.out, HT3.out.1, HT3.out.2⟩
            case measure => simp [intOf]; omega
        · have hMN := hM.go hlt h8 h4
          have g4 : ((S.nx st (S.at_ s k) : Int) == 4) = false := by rw [beq_eq_false_iff_ne]; omega
          have g4' : ((S.nx st (S.at_ s k) : Int) != 4) = true := by rw [bne_iff_ne]; omega
          by_cases h36 : S.at_ s k = 36
          · have g1 : ((S.at_ s k : Int) == 36) = true := by rw [beq_iff_eq]; omega
            rw [if_pos h36] at hMN
            have HMN := Lib.hid hMN
            clear hMN h36 h4
            go_wp2_with (first | (go_at_call 40; refine (after_impl _ _ hst hb _).mono ?_; rintro e w' ⟨rfl, rfl⟩))
            go_roundw
            case rel => exact ⟨a, c, T, k, _, k + 1, rfl, rfl, rfl, by go_num, by omega, hnl, HMN.out, hT, hB⟩
            case measure => simp [intOf]; omega
          · have g1 : ((S.at_ s k : Int) == 36) = false := by rw [beq_eq_false_iff_ne]; omega
            rw [if_neg h36] at hMN
            have HMN := Lib.hid hMN
            clear hMN h36 h4
            go_wp2_with (first | (go_at_call 40; refine (after_impl _ _ hst hb _).mono ?_; rintro e w' ⟨rfl, rfl⟩))
            go_roundw
            case rel => exact ⟨a, c, T, start, _, k + 1, rfl, rfl, rfl, by go_num, by omega, hnl, HMN.out, hT, hB⟩
            case measure => simp [intOf]; omega
      · have h8' : decide ((T.length : Int) < 8) = false := by simp; omega
        have HF : Found s w (.returned (.slice a T.length c)) wr := ⟨a, c, T, rfl, .inl ⟨by omega, hM.done (.inr (by omega))⟩, hT, hB⟩
        have HF := Lib.hid HF
        clear hM hT
        go_wp2
        go_ret
        exact HF.out
    · have HF : Found s w (.returned (.slice a T.length c)) wr := ⟨a, c, T, rfl, .inl ⟨by omega, hM.done (.inl (by omega))⟩, hT, hB⟩
      have HF := Lib.hid HF
      clear hM hT
      go_wp2
      go_ret
      exact HF.out
/-- Two lists with the same texts. -/
theorem Texts.at_ {B : Nat} {w : World} {a : Option Addr} {c : Nat} {T : List ByteArray} (h : Texts B w a c T) (i : Nat) (hi : i < T.length) :
    ∃ g x, a = some ⟨g, 0, none⟩ ∧ B ≤ g ∧ g < w.heap.size ∧ T[i]? = some x ∧ w.cell? ⟨g, i, none⟩ = some (.string x) := by
  rcases h.2 with ⟨hv, hn⟩ | ⟨g, cap, cur, hv, hb, hgg, hle, hcap, hcs, htk⟩
  · omega
  · injection hv with e1 e2 e3
    subst e1
    refine ⟨g, T[i], rfl, hb, (Array.getElem?_eq_some_iff.1 hgg).1, List.getElem?_eq_getElem hi, ?_⟩
    have := World.ownsRow.cells h (g := g) rfl i (.string T[i]) (by unfold strs; rw [List.getElem?_map, List.getElem?_eq_getElem hi]; rfl)
    rw [show (Addr.add ⟨g, 0, none⟩ i) = ⟨g, i, none⟩ from by unfold Addr.add; split <;> simp_all] at this
    exact this
end Go.Proofs.YtopaglepkpblaaaDoor
