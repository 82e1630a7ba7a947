/-
  The model's way to read a fix: numbers of digits, a text cut at its commas.
-/
import Derived.Test.YtpfdjmffgbbmdaaGreatDoorSplit
import Derived.Test.YtpfdjmffgbbmdaaGreatDoorP1
import Derived.Test.YtpfdjmffgbbmdaaGreatDoorText
import Derived.Test.YtpfdjmffgbbmdaaGreatDoorCopyFx
import Derived.Laws.Slices
import Derived.Laws.Strings3
namespace Go.Proofs.YtpfdjmffgbbmdaaGreatDoor
open Go.RowKit
set_option linter.unusedVariables false
set_option maxRecDepth 100000
set_option maxHeartbeats 2000000 in
theorem rd_spec (k : Nat) (hk : k ≤ 10) (l : List UInt8) (hl : l.length ≤ 1048576) (w : World) : Calls Tryz.prog 84 #[.string (S.mk l), .int .i64 (k : Int)] w fun e w' => e = .returned (.int .i64 (X.rd k l)) ∧ w = w' := by
  have hz := S.size_mk l
  have HL := Lib.hid hl
  by_cases h0 : 1 ≤ l.length ∧ l.length ≤ k
  · have hpw : (10 : Nat) ^ 10 = 10000000000 := by decide
    have hlk : l.length ≤ 10 := by omega
    obtain ⟨T, hT⟩ : ∃ T, S.mk l = T := ⟨_, rfl⟩
    have HT := Lib.hid hT
    rw [hT] at hz ⊢
    obtain ⟨n, hn⟩ : ∃ n, l.length = n := ⟨_, rfl⟩
    have HN := Lib.hid hn
    rw [hn] at hz h0 hlk
    have f0 : ((n : Int) == 0) = false := by rw [beq_eq_false_iff_ne]; omega
    have f1 : ¬ ((k : Int) < (n : Int)) := by omega
    clear hT hn hl
    go_enter Tryz.func84, Tryz.ntmps84
    go_wp2
    go_loop [5, 6] (fun x i => ∃ j : Nat, j ≤ n ∧ i = .int .i64 (j : Int) ∧ x = .int .i64 ((X.vl 0 (l.take j) : Nat) : Int) ∧ ∀ b ∈ l.take j, X.isD b = true) (fun _ i => n - (intOf i).toNat)
    case atStart => exact ⟨0, Nat.zero_le _, rfl, rfl, fun b hb => by simp at hb⟩
    case round =>
      obtain ⟨j, hj, rfl, rfl, hd⟩ := hrel
      have hvb := X.vl_bd (l.take j) 0 hd
      have hvb2 : (l.take j).length ≤ 10 := by rw [List.length_take]; omega
      have hvb3 : 10 ^ (l.take j).length ≤ 10 ^ 10 := Nat.pow_le_pow_right (by omega) hvb2
      have hv : X.vl 0 (l.take j) < 10000000000 := by omega
      have HD := Lib.hid hd
      clear hvb hvb2 hvb3 hd
      by_cases hlt : j < n
      · have hjl : j < l.length := by rw [HN.out]; exact hlt
        have hsn : l.take (j + 1) = l.take j ++ [l[j]] := by rw [List.take_succ_eq_append_getElem hjl]
        have hat0 : ∀ h, (T[j]'h).toNat = l[j].toNat := fun h => by
          rw [S.at_get, ← HT.out, S.at_mk, List.getD_eq_getElem?_getD, List.getElem?_eq_getElem hjl]; rfl
        have hmem : l[j] ∈ l := List.getElem_mem hjl
        obtain ⟨c, hc⟩ : ∃ c, l[j] = c := ⟨_, rfl⟩
        rw [hc] at hsn hat0 hmem
        have hcb := UInt8.toNat_lt c
        have HV := Lib.hid (show X.vl 0 (l.take (j + 1)) = 10 * X.vl 0 (l.take j) + (c.toNat - 48) by rw [hsn, X.vl_snoc])
        have HS := Lib.hid hsn
        rcases hd : X.isD c with _ | _
        · have HR := Lib.hid (X.rd_bad (k := k) hmem hd)
          have hno : ¬ (48 ≤ c.toNat ∧ c.toNat ≤ 57) := by unfold X.isD at hd; simpa using hd
          have hq := fun w' => inR_spec (c.toNat : Int) 48 57 w'
          rw [inR_no (by omega : ¬ ((48 : Int) ≤ c.toNat ∧ (c.toNat : Int) ≤ 57))] at hq
          have HQ := Lib.hid hq
          generalize X.vl 0 (l.take j) = v at *
          generalize c.toNat = q at *
          clear hc hsn hmem hd hno hq
          go_wp2_with (go_at_call 39; refine (HQ.out _).mono ?_; rintro e w' ⟨rfl, rfl⟩)
          go_ret
          exact ⟨by rw [HR.out]; rfl, rfl⟩
        · have hr := X.isD_of hd
          have hq := fun w' => inR_spec (c.toNat : Int) 48 57 w'
          rw [inR_yes (by omega : (48 : Int) ≤ c.toNat ∧ (c.toNat : Int) ≤ 57)] at hq
          have HQ := Lib.hid hq
          have HDD := Lib.hid (show ∀ b ∈ l.take (j + 1), X.isD b = true by
            rw [HS.out]
            intro b hb
            rcases List.mem_append.mp hb with hb | hb
            · exact HD.out b hb
            · rcases List.mem_cons.mp hb with rfl | hb
              · exact hd
              · simp at hb)
          generalize X.vl 0 (l.take j) = v at *
          generalize c.toNat = q at *
          clear hc hsn hmem hd hq
          go_wp2_with (go_at_call 39; refine (HQ.out _).mono ?_; rintro e w' ⟨rfl, rfl⟩)
          go_round
          case rel => exact ⟨j + 1, by omega, by go_num, by rw [HV.out]; go_num, HDD.out⟩
          case measure => simp [intOf]; omega
      · obtain rfl : j = n := by omega
        have HR := Lib.hid (show X.rd k l = X.vl 0 (l.take j) by
          rw [X.rd_yes (by rw [HN.out]; omega) (by rw [HN.out]; omega) (by have := HD.out; rwa [List.take_of_length_le (by rw [HN.out]; omega)] at this), List.take_of_length_le (by rw [HN.out]; omega)])
        go_wp2
        go_ret
        exact ⟨by rw [HR.out]; rfl, rfl⟩
  · have e := X.rd_long h0
    rw [e]
    generalize S.mk l = T at *
    generalize l.length = n at *
    by_cases h1 : n = 0
    · have f0 : ((n : Int) == 0) = true := by rw [beq_iff_eq]; omega
      clear e h0 h1
      go_enter Tryz.func84, Tryz.ntmps84
      go_wp2
      go_ret
      exact ⟨rfl, rfl⟩
    · have f0 : ((n : Int) == 0) = false := by rw [beq_eq_false_iff_ne]; omega
      have f1 : ((k : Int) < (n : Int)) := by omega
      clear e h0 h1
      go_enter Tryz.func84, Tryz.ntmps84
      go_wp2
      go_ret
      exact ⟨rfl, rfl⟩
theorem sp_acc (c : UInt8) (l : List UInt8) (k : Nat) (h : k < l.length) (acc : List UInt8) : X.sp c (l.drop k) acc = if l[k] = c then acc :: X.sp c (l.drop (k + 1)) [] else X.sp c (l.drop (k + 1)) (acc ++ [l[k]]) := by
  rw [List.drop_eq_getElem_cons h]; rfl
theorem ext_mk (l : List UInt8) (f k : Nat) : (S.mk l).extract f k = S.mk ((l.drop f).take (k - f)) := by
  apply S.ext; rw [S.lst_extract, S.lst_mk, S.lst_mk]
theorem tk_snoc (l : List UInt8) (f k : Nat) (hf : f ≤ k) (hk : k < l.length) : (l.drop f).take (k + 1 - f) = (l.drop f).take (k - f) ++ [l[k]] := by
  rw [show k + 1 - f = (k - f) + 1 by omega, List.take_succ_eq_append_getElem (by rw [List.length_drop]; omega), List.getElem_drop]
  simp only [show f + (k - f) = k by omega]
/-- The pieces of a text, as texts. -/
def prt (c : UInt8) (l : List UInt8) : List ByteArray := (X.sp c l []).map S.mk
def Prt (w : World) (T : List ByteArray) (e : Ending) (w' : World) : Prop := ∃ a n, e = .returned (.slice a T.length n) ∧ Texts w.heap.size w' a n T ∧ Below w.heap.size w w'
set_option maxHeartbeats 4000000 in
theorem sp_spec (c : UInt8) (l : List UInt8) (hl : l.length ≤ 1048576) (w : World) : Calls Tryz.prog 48 #[.string (S.mk l), .int .u8 (c.toNat : Int)] w (Prt w (prt c l)) := by
  have hW0 : Texts w.heap.size (w.alloc (.cells #[] 9)) (some ⟨w.heap.size, 0, none⟩) 0 [] := World.ownsRow_made w #[] 0 (Nat.le_refl _) (by unfold maxLen; omega) rfl
  have hB0 : Below w.heap.size w (w.alloc (.cells #[] 9)) := (Below.refl _ _).alloc (Nat.le_refl _) _
  have HW := Lib.hid (And.intro hW0 hB0)
  obtain ⟨i0, hi0, hz0, hz1, hz2⟩ := info_parts str_info
  have hI := Lib.hid hi0
  have hZ0 := Lib.hid hz0
  have hZ1 := Lib.hid hz1
  have hZ2 := Lib.hid hz2
  have hz := S.size_mk l
  obtain ⟨s, hT⟩ : ∃ s, S.mk l = s := ⟨_, rfl⟩
  have HT := Lib.hid hT
  obtain ⟨n, hn⟩ : ∃ n, l.length = n := ⟨_, rfl⟩
  have HN := Lib.hid hn
  have hcb := UInt8.toNat_lt c
  rw [hT, hn] at hz
  rw [hT]
  rw [hn] at hl
  clear hi0 hz0 hz1 hz2 hW0 hB0 hT hn
  go_enter Tryz.func48, Tryz.ntmps48
  go_wp2_with fail
  go_loopw [5, 6, 7] (fun v f i wr => ∃ (a : Option Addr) (cp : Nat) (T : List ByteArray) (j k : Nat), v = .slice a T.length cp ∧ f = .int .i64 (j : Int) ∧ i = .int .i64 (k : Int) ∧ j ≤ k ∧ k ≤ n ∧ T.length ≤ k ∧ T ++ (X.sp c (l.drop k) ((l.drop j).take (k - j))).map S.mk = prt c l ∧ Texts w.heap.size wr a cp T ∧ Below w.heap.size w wr) (fun _ _ i _ => n - (intOf i).toNat)
  case atStart => exact ⟨some ⟨w.heap.size, 0, none⟩, 0, [], 0, 0, rfl, rfl, rfl, Nat.le_refl _, Nat.zero_le _, Nat.zero_le _, rfl, HW.out.1, HW.out.2⟩
  case round =>
    obtain ⟨a, cp, T, j, k, rfl, rfl, rfl, hjk, hkn, hTk, hp, hT, hB⟩ := hrel
    have HP := Lib.hid hp
    clear hp
    by_cases hlt : k < n
    · have hkl : k < l.length := by rw [HN.out]; exact hlt
      have hat0 : ∀ h, (s[k]'h).toNat = l[k].toNat := fun h => by
        rw [S.at_get, ← HT.out, S.at_mk, List.getD_eq_getElem?_getD, List.getElem?_eq_getElem hkl]; rfl
      have hacc := sp_acc c l k hkl ((l.drop j).take (k - j))
      have htk := tk_snoc l j k hjk hkl
      obtain ⟨x, hx⟩ : ∃ x, l[k] = x := ⟨_, rfl⟩
      rw [hx] at hat0 hacc htk
      have hxb := UInt8.toNat_lt x
      have hsl : ∀ W : World, (Instr.slice 9 (.string s) (some (.int .i64 (j : Int))) (some (.int .i64 (k : Int))) none).run Tryz.prog W = .ok (.string (s.extract j k)) W := fun W => by
        have h := run_slice_string (P := Tryz.prog) W 9 s .i64 .i64 (j : Int) (k : Int) Tryz.underlying9 (by omega) (by omega) (by omega)
        rwa [Int.toNat_natCast, Int.toNat_natCast] at h
      by_cases hxc : x = c
      · subst hxc
        rw [if_pos rfl] at hacc
        have HA := Lib.hid (show (T ++ [s.extract j k]) ++ (X.sp x (l.drop (k + 1)) ((l.drop (k + 1)).take (k + 1 - (k + 1)))).map S.mk = prt x l by
          rw [← HP.out, hacc, Nat.sub_self, List.take_zero, ← HT.out, ext_mk]; simp)
        have hll := Lib.hid (show (T ++ [s.extract j k]).length = T.length + 1 by simp)
        generalize s.extract j k = S1 at *
        generalize x.toNat = q at *
        clear hacc htk hx hkl
        go_wp2_with (at_builtin; refine wpList_append_lies _ rfl _ _ 23 rfl w.heap.size 9 i0 (.string ByteArray.empty) 1 16 Tryz.underlying23 hI.out hZ0.out hZ1.out hZ2.out rfl (by decide) (.slice a T.length cp) T.length (strs T) rfl (World.ownsRow.alloc hT _) ⟨wr.heap.size, 0, none⟩ 1 1 [.string S1] rfl rfl (cell_one_new _ _ _) (by intro u hu; simp at hu; subst hu; rfl) (by decide) (by unfold maxLen; omega) (by omega) (by have := hB.size; simp; omega) _ rfl ?_)
        intro g cap w3 own3 hg3 hat3 hlt3
        have hT3 : Texts w.heap.size w3 (some ⟨g, 0, none⟩) cap (T ++ [S1]) := by
          unfold Texts
          rw [← strs_snoc, List.length_append]
          exact own3
        have hB3 : Below w.heap.size w w3 := (hB.alloc hB.size _).grown hg3 (by have := hB.size; simp; omega) (fun j hj => (World.ownsRow.lt hT j hj).1)
        have HT3 := Lib.hid (And.intro hT3 hB3)
        clear own3 hg3 hat3 hT3 hB3 hT
        go_wp2
        go_roundw
        case rel => exact ⟨some ⟨g, 0, none⟩, cap, T ++ [S1], k + 1, k + 1, by rw [hll.out], by go_num, by go_num, by omega, by omega, by rw [hll.out]; omega, HA.out, HT3.out.1, HT3.out.2⟩
        case measure => simp [intOf]; omega
      · rw [if_neg hxc] at hacc
        have HA := Lib.hid (show T ++ (X.sp c (l.drop (k + 1)) ((l.drop j).take (k + 1 - j))).map S.mk = prt c l by
          rw [← HP.out, hacc, htk])
        have hne : ¬ x.toNat = c.toNat := fun e => hxc (UInt8.toNat_inj.mp e)
        have f1 : ((x.toNat : Int) == (c.toNat : Int)) = false := by rw [beq_eq_false_iff_ne]; omega
        generalize x.toNat = q at *
        generalize c.toNat = p at *
        clear hacc htk hx hkl hxc hne
        have HTB := Lib.hid (And.intro hT hB)
        clear hT hB
        go_wp2
        go_roundw
        case rel => exact ⟨a, cp, T, j, k + 1, rfl, rfl, by go_num, by omega, by omega, by omega, HA.out, HTB.out.1, HTB.out.2⟩
        case measure => simp [intOf]; omega
    · obtain rfl : k = n := by omega
      have hsl : ∀ W : World, (Instr.slice 9 (.string s) (some (.int .i64 (j : Int))) none none).run Tryz.prog W = .ok (.string (s.extract j k)) W := fun W => by
        have h := run_slice_string_l (P := Tryz.prog) W 9 s Tryz.underlying9 .i64 (j : Int) (by omega) (by omega)
        rwa [Int.toNat_natCast, hz] at h
      have HA := Lib.hid (show T ++ [s.extract j k] = prt c l by
        rw [← HP.out, List.drop_of_length_le (by rw [HN.out]; omega), ← HT.out, ext_mk]; simp [X.sp])
      have hll := Lib.hid (show (T ++ [s.extract j k]).length = T.length + 1 by simp)
      generalize s.extract j k = S1 at *
      go_wp2_with (at_builtin; refine wpList_append_lies _ rfl _ _ 23 rfl w.heap.size 9 i0 (.string ByteArray.empty) 1 16 Tryz.underlying23 hI.out hZ0.out hZ1.out hZ2.out rfl (by decide) (.slice a T.length cp) T.length (strs T) rfl (World.ownsRow.alloc hT _) ⟨wr.heap.size, 0, none⟩ 1 1 [.string S1] rfl rfl (cell_one_new _ _ _) (by intro u hu; simp at hu; subst hu; rfl) (by decide) (by unfold maxLen; omega) (by omega) (by have := hB.size; simp; omega) _ rfl ?_)
      intro g cap w3 own3 hg3 hat3 hlt3
      have hT3 : Texts w.heap.size w3 (some ⟨g, 0, none⟩) cap (T ++ [S1]) := by
        unfold Texts
        rw [← strs_snoc, List.length_append]
        exact own3
      have hB3 : Below w.heap.size w w3 := (hB.alloc hB.size _).grown hg3 (by have := hB.size; simp; omega) (fun j hj => (World.ownsRow.lt hT j hj).1)
      have HT3 := Lib.hid (And.intro hT3 hB3)
      clear own3 hg3 hat3 hT3 hB3 hT
      go_wp2
      go_ret
      refine ⟨some ⟨g, 0, none⟩, cap, by rw [← HA.out, hll.out]; rfl, by rw [← HA.out]; exact HT3.out.1, HT3.out.2⟩
/-- What is read out of a text: the fix, if it is one. -/
def rv (t : List UInt8) (x : Int) : Int := if X.pk t = true then x else 0
theorem rv_no {t : List UInt8} (h : X.pk t = false) (x : Int) : rv t x = 0 := if_neg (by rw [h]; decide)
theorem rv_yes {t : List UInt8} (h : X.pk t = true) (x : Int) : rv t x = x := if_pos h
theorem prt_at (t : List UInt8) (i : Nat) (h : i < (prt 44 t).length) : (prt 44 t)[i]? = some (S.mk (X.pc t i)) := by
  unfold prt at *
  rw [List.length_map] at h
  rw [List.getElem?_map, List.getElem?_eq_getElem h]
  unfold X.pc
  rw [List.getD_eq_getElem?_getD, List.getElem?_eq_getElem h]; rfl
theorem Texts.pcs {B : Nat} {w : World} {a : Option Addr} {c : Nat} {t : List UInt8} (h : Texts B w a c (prt 44 t)) : ∃ g, a = some ⟨g, 0, none⟩ ∧ B ≤ g ∧ g < w.heap.size ∧ ∀ i, i < (prt 44 t).length → w.cell? ⟨g, i, none⟩ = some (.string (S.mk (X.pc t i))) := by
  have h0 : 0 < (prt 44 t).length := by unfold prt; rw [List.length_map]; exact (X.sp_len 44 t []).1
  obtain ⟨g, x, e, h1, h2, h3, h4⟩ := h.at_ 0 h0
  refine ⟨g, e, h1, h2, fun i hi => ?_⟩
  obtain ⟨g', x', e', k1, k2, k3, k4⟩ := h.at_ i hi
  rw [e] at e'
  injection e' with e'
  injection e' with e'
  subst e'
  rw [prt_at t i hi] at k3
  injection k3 with k3
  rw [k3]; exact k4
theorem sp_le (c : UInt8) : ∀ (l acc : List UInt8), ∀ x ∈ X.sp c l acc, x.length ≤ acc.length + l.length
  | [], acc, x, hx => by
    simp [X.sp] at hx
    subst hx; simp
  | b :: l, acc, x, hx => by
    unfold X.sp at hx
    split at hx
    · rcases List.mem_cons.mp hx with rfl | hx
      · simp
      · have := sp_le c l [] x hx; simp at this ⊢; omega
    · have := sp_le c l (acc ++ [b]) x hx; simp at this ⊢; omega
theorem pc_len (t : List UInt8) (i : Nat) (ht : t.length ≤ 1048576) : (X.pc t i).length ≤ 1048576 := by
  unfold X.pc
  rw [List.getD_eq_getElem?_getD]
  by_cases h : i < (X.sp 44 t []).length
  · rw [List.getElem?_eq_getElem h]
    have := sp_le 44 t [] _ (List.getElem_mem h)
    simp only [Option.getD_some, List.length_nil] at this ⊢
    omega
  · rw [List.getElem?_eq_none (by omega)]; simp
set_option maxHeartbeats 8000000 in
theorem rf_spec (t : List UInt8) (ht : t.length ≤ 1048576) (w : World) : Calls Tryz.prog 102 #[.string (S.mk t)] w fun e w' => e = .returned (.tuple #[.agg #[.int .i64 (rv t (X.gy t)), .int .i64 (rv t (X.gm t)), .int .i64 (rv t (X.gd t)), .int .i64 (rv t (X.gs t)), .int .i64 (rv t (X.gn t))], .bool (X.pk t)]) ∧ Below w.heap.size w w' := by
  have K := C5.new w 0 0 0 0 0 31
  have F := F5.new w 0 0 0 0 0 31
  have g0 : Below w.heap.size w (w.alloc (.cells #[.int .i64 0, .int .i64 0, .int .i64 0, .int .i64 0, .int .i64 0] 31)) := (Below.refl _ _).alloc (Nat.le_refl _) _
  have SP := Lib.hid (fun w' => sp_spec 44 t ht w')
  have HPL := Lib.hid (fun i => pc_len t i ht)
  have HLEN := Lib.hid (show (prt 44 t).length = (X.sp 44 t []).length by unfold prt; rw [List.length_map])
  go_enter Tryz.func102, Tryz.ntmps102
  go_wp2_with fail
  refine (SP.out _).mono ?_
  rintro e w1 ⟨a, n, rfl, hT, hb⟩
  have g1 := g0.trans (hb.mono g0.size)
  have K1 := K.b hb
  have F1 := F.b hb
  obtain ⟨g, rfl, hg0, hg1, hcs⟩ := hT.pcs
  clear hb K F g0 hT
  by_cases h6 : (prt 44 t).length = 6
  · have c0 := hcs 0 (by omega)
    have c1 := hcs 1 (by omega)
    have c2 := hcs 2 (by omega)
    have c3 := hcs 3 (by omega)
    have c4 := hcs 4 (by omega)
    have c5 := hcs 5 (by omega)
    rw [h6]
    have H6 := Lib.hid h6
    clear hcs h6
    have hz1 := S.size_mk (X.pc t 1)
    by_cases h0 : X.pc t 0 = [70, 73, 88]
    · by_cases h1 : (X.pc t 1).length = 6
      · have hq1 : X.q1 t = true := decide_eq_true ⟨by rw [← HLEN.out]; exact H6.out, h0, h1⟩
        have HQ1 := Lib.hid hq1
        have b0 : ((S.mk (X.pc t 0)).toList == ({ data := #[70, 73, 88] } : ByteArray).toList) = true := by rw [S.toList_beq]; exact decide_eq_true (by rw [h0]; rfl)
        have b0' : ((S.mk (X.pc t 0)).toList == [70, 73, 88]) = true := by rw [Go.ByteArray.toList_eq, h0]; rfl
        have s1 : ∀ W : World, (Instr.slice 9 (.string (S.mk (X.pc t 1))) none (some (.int .i64 2)) none).run Tryz.prog W = .ok (.string (S.mk ((X.pc t 1).take 2))) W := fun W => by
          have h := run_slice_string_h (P := Tryz.prog) W 9 (S.mk (X.pc t 1)) Tryz.underlying9 .i64 2 (by omega) (by omega)
          rwa [show (2 : Int).toNat = 2 from rfl, ext_mk, List.drop_zero] at h
        have s2 : ∀ W : World, (Instr.slice 9 (.string (S.mk (X.pc t 1))) (some (.int .i64 2)) (some (.int .i64 4)) none).run Tryz.prog W = .ok (.string (S.mk (((X.pc t 1).drop 2).take 2))) W := fun W => by
          have h := run_slice_string (P := Tryz.prog) W 9 (S.mk (X.pc t 1)) .i64 .i64 2 4 Tryz.underlying9 (by omega) (by omega) (by omega)
          rwa [show (2 : Int).toNat = 2 from rfl, show (4 : Int).toNat = 4 from rfl, ext_mk] at h
        have s3 : ∀ W : World, (Instr.slice 9 (.string (S.mk (X.pc t 1))) (some (.int .i64 4)) none none).run Tryz.prog W = .ok (.string (S.mk ((X.pc t 1).drop 4))) W := fun W => by
          have h := run_slice_string_l (P := Tryz.prog) W 9 (S.mk (X.pc t 1)) Tryz.underlying9 .i64 4 (by omega) (by omega)
          rwa [show (4 : Int).toNat = 4 from rfl, ext_mk, hz1, h1, List.take_of_length_le (by rw [List.length_drop]; omega)] at h
        have hz1' : ((S.mk (X.pc t 1)).size : Int) = 6 := by omega
        have R1 := Lib.hid (fun w' => rd_spec 2 (by omega) ((X.pc t 1).take 2) (by rw [List.length_take]; omega) w')
        have R2 := Lib.hid (fun w' => rd_spec 2 (by omega) (((X.pc t 1).drop 2).take 2) (by rw [List.length_take]; omega) w')
        have R3 := Lib.hid (fun w' => rd_spec 2 (by omega) ((X.pc t 1).drop 4) (by rw [List.length_drop]; omega) w')
        clear hq1 h0 hz1
        go_wp2_with fail
        refine (R1.out _).mono ?_
        rintro e w2 ⟨rfl, rfl⟩
        go_wp2_with fail
        refine (R2.out _).mono ?_
        rintro e w2 ⟨rfl, rfl⟩
        go_wp2_with fail
        refine (R3.out _).mono ?_
        rintro e w2 ⟨rfl, rfl⟩
        go_wp2_with fail
        -- GENERATED (gen_readf.py)
        have P4 := Lib.hid (fun w' => rd_spec 4 (by omega) (X.pc t 4) (HPL.out 4) w')
        have P3 := Lib.hid (fun w' => rd_spec 2 (by omega) (X.pc t 3) (HPL.out 3) w')
        have P2 := Lib.hid (fun w' => rd_spec 2 (by omega) (X.pc t 2) (HPL.out 2) w')
        have P5 := Lib.hid (fun w' => rd_spec 2 (by omega) (X.pc t 5) (HPL.out 5) w')
        have ba := X.rd_bd 2 ((X.pc t 1).take 2)
        have bb := X.rd_bd 2 (((X.pc t 1).drop 2).take 2)
        have bc := X.rd_bd 2 ((X.pc t 1).drop 4)
        obtain ⟨AA, hA⟩ : ∃ A, X.rd 2 ((X.pc t 1).take 2) = A := ⟨_, rfl⟩
        obtain ⟨BB, hB⟩ : ∃ A, X.rd 2 (((X.pc t 1).drop 2).take 2) = A := ⟨_, rfl⟩
        obtain ⟨CC, hC⟩ : ∃ A, X.rd 2 ((X.pc t 1).drop 4) = A := ⟨_, rfl⟩
        obtain ⟨YY, hY⟩ : ∃ A, X.rd 4 (X.pc t 4) = A := ⟨_, rfl⟩
        obtain ⟨MM, hM⟩ : ∃ A, X.rd 2 (X.pc t 3) = A := ⟨_, rfl⟩
        obtain ⟨DD, hD⟩ : ∃ A, X.rd 2 (X.pc t 2) = A := ⟨_, rfl⟩
        obtain ⟨NN, hN⟩ : ∃ A, X.rd 2 (X.pc t 5) = A := ⟨_, rfl⟩
        rw [hA] at ba
        rw [hB] at bb
        rw [hC] at bc
        rw [hA, hB, hC]
        rw [hY] at P4
        rw [hM] at P3
        rw [hD] at P2
        rw [hN] at P5
        have h100 : (10 : Int) ^ 2 = 100 := by decide
        rw [h100] at ba bb bc
        have w1_ : IntKind.i64.wrap (3600 * AA) = 3600 * AA := IntWalk.i64_in _ (by omega)
        have w2_ : IntKind.i64.wrap (60 * BB) = 60 * BB := IntWalk.i64_in _ (by omega)
        have w3_ : IntKind.i64.wrap (3600 * AA + 60 * BB) = 3600 * AA + 60 * BB := IntWalk.i64_in _ (by omega)
        have w4_ : IntKind.i64.wrap (3600 * AA + 60 * BB + CC) = 3600 * AA + 60 * BB + CC := IntWalk.i64_in _ (by omega)
        have HW := Lib.hid (And.intro w1_ (And.intro w2_ (And.intro w3_ w4_)))
        have HQK := Lib.hid (show X.qk t ↔ (0 ≤ AA ∧ 0 ≤ BB ∧ 0 ≤ CC ∧ X.vf YY MM DD (3600 * AA + 60 * BB + CC) NN = true ∧ X.tx YY MM DD (3600 * AA + 60 * BB + CC) NN = t) by
          unfold X.qk X.qh X.qm X.qs X.qt X.qh X.qm X.qs X.qy X.qo X.qd X.qn
          rw [hA, hB, hC, hY, hM, hD, hN, HQ1.out]
          simp)
        have HEQ := Lib.hid (show X.qk t → X.pk t = true ∧ X.gy t = YY ∧ X.gm t = MM ∧ X.gd t = DD ∧ X.gs t = 3600 * AA + 60 * BB + CC ∧ X.gn t = NN by
          intro h
          have h := X.qk_pk h
          unfold X.qt X.qh X.qm X.qs X.qy X.qo X.qd X.qn at h
          rwa [hA, hB, hC, hY, hM, hD, hN] at h)
        have HPQ := Lib.hid (fun h => X.pk_qk (t := t) h)
        have HVF := Lib.hid (fun w' => vfx_spec YY MM DD (3600 * AA + 60 * BB + CC) NN w')
        have HFM := Lib.hid (fun w' h => fmt_spec YY MM DD (3600 * AA + 60 * BB + CC) NN w' h)
        clear hA hB hC hY hM hD hN w1_ w2_ w3_ w4_ h100 HQ1
        have K2 := K1.dr
        have F2 : F5 w1.drew w.heap.size := F1.b (Below.refl w1.heap.size w1).drew
        have g2 := g1.drew
        have hgV : g < w1.drew.heap.size := hg1
        have cV : w1.drew.cell? ⟨g, 4, none⟩ = some (.string (S.mk (X.pc t 4))) ∧ w1.drew.cell? ⟨g, 3, none⟩ = some (.string (S.mk (X.pc t 3))) ∧ w1.drew.cell? ⟨g, 2, none⟩ = some (.string (S.mk (X.pc t 2))) ∧ w1.drew.cell? ⟨g, 5, none⟩ = some (.string (S.mk (X.pc t 5))) := ⟨c4, c3, c2, c5⟩
        refine wp_region_held_drew (S := (fun w' => w'.cell? ⟨g, 4, none⟩ = some (.string (S.mk (X.pc t 4))) ∧ w'.cell? ⟨g, 3, none⟩ = some (.string (S.mk (X.pc t 3))) ∧ w'.cell? ⟨g, 2, none⟩ = some (.string (S.mk (X.pc t 2))) ∧ w'.cell? ⟨g, 5, none⟩ = some (.string (S.mk (X.pc t 5))))) (by kernel_rfl) (⟨c4, c3, c2, c5⟩) (fun hHeld => ?_)
        clear K1 F1 g1 c0 c1 c2 c3 c4 c5 b0 b0' s1 s2 s3
        generalize w1.drew = V at *
        refine wpAnyH_take (i := 0) (v := ?_) rfl (by kernel_rfl) (by kernel_rfl) (by kernel_rfl) (fun _ _ _ h => h) (Or.inl ⟨by rfl, ?_⟩) (by assumption) ?_
        rotate_left
        · intro w hSw
          (try dsimp only at hSw)
          go_simp
          all_goals with_reducible rfl
        try simp only [Act.put, List.setIfInBounds_toArray, List.set_cons_zero, List.set_cons_succ, List.getElem_toArray, List.getElem_cons_zero]
        refine wpAnyH_take (i := 1) (v := ?_) rfl (by kernel_rfl) (by kernel_rfl) (by kernel_rfl) (fun _ _ _ h => h) (Or.inl ⟨by rfl, ?_⟩) (by assumption) ?_
        rotate_left
        · intro w hSw
          (try dsimp only at hSw)
          go_simp
          all_goals with_reducible rfl
        try simp only [Act.put, List.setIfInBounds_toArray, List.set_cons_zero, List.set_cons_succ, List.getElem_toArray, List.getElem_cons_zero, List.getElem_cons_succ]
        refine wpAnyH_take (i := 2) (v := ?_) rfl (by kernel_rfl) (by kernel_rfl) (by kernel_rfl) (fun _ _ _ h => h) (Or.inl ⟨by rfl, ?_⟩) (by assumption) ?_
        rotate_left
        · intro w hSw
          (try dsimp only at hSw)
          go_simp
          all_goals with_reducible rfl
        try simp only [Act.put, List.setIfInBounds_toArray, List.set_cons_zero, List.set_cons_succ, List.getElem_toArray, List.getElem_cons_zero, List.getElem_cons_succ]
        refine wpAnyH_take (i := 4) (v := ?_) rfl (by kernel_rfl) (by kernel_rfl) (by kernel_rfl) (fun _ _ _ h => h) (Or.inl ⟨by rfl, ?_⟩) (by assumption) ?_
        rotate_left
        · intro w hSw
          (try dsimp only at hSw)
          go_simp
          all_goals with_reducible rfl
        try simp only [Act.put, List.setIfInBounds_toArray, List.set_cons_zero, List.set_cons_succ, List.getElem_toArray, List.getElem_cons_zero, List.getElem_cons_succ]
        refine wpAnyH_take (i := 5) (v := ?_) rfl (by kernel_rfl) (by kernel_rfl) (by kernel_rfl) (fun _ _ _ h => h) (Or.inl ⟨by rfl, ?_⟩) (by assumption) ?_
        rotate_left
        · intro w hSw
          (try dsimp only at hSw)
          go_simp
          all_goals with_reducible rfl
        try simp only [Act.put, List.setIfInBounds_toArray, List.set_cons_zero, List.set_cons_succ, List.getElem_toArray, List.getElem_cons_zero, List.getElem_cons_succ]
        refine wpAnyH_take (i := 6) (v := ?_) rfl (by kernel_rfl) (by kernel_rfl) (by kernel_rfl) (fun _ _ _ h => h) (Or.inl ⟨by rfl, ?_⟩) (by assumption) ?_
        rotate_left
        · intro w hSw
          (try dsimp only at hSw)
          go_simp
          all_goals with_reducible rfl
        try simp only [Act.put, List.setIfInBounds_toArray, List.set_cons_zero, List.set_cons_succ, List.getElem_toArray, List.getElem_cons_zero, List.getElem_cons_succ]
        refine wpAnyH_take (i := 8) (v := ?_) rfl (by kernel_rfl) (by kernel_rfl) (by kernel_rfl) (fun _ _ _ h => h) (Or.inl ⟨by rfl, ?_⟩) (by assumption) ?_
        rotate_left
        · intro w hSw
          (try dsimp only at hSw)
          go_simp
          all_goals with_reducible rfl
        try simp only [Act.put, List.setIfInBounds_toArray, List.set_cons_zero, List.set_cons_succ, List.getElem_toArray, List.getElem_cons_zero, List.getElem_cons_succ]
        refine wpAnyH_take (i := 9) (v := ?_) rfl (by kernel_rfl) (by kernel_rfl) (by kernel_rfl) (fun _ _ _ h => h) (Or.inl ⟨by rfl, ?_⟩) (by assumption) ?_
        rotate_left
        · intro w hSw
          (try dsimp only at hSw)
          go_simp
          all_goals with_reducible rfl
        try simp only [Act.put, List.setIfInBounds_toArray, List.set_cons_zero, List.set_cons_succ, List.getElem_toArray, List.getElem_cons_zero, List.getElem_cons_succ]
        refine wpAnyH_take (i := 10) (v := ?_) rfl (by kernel_rfl) (by kernel_rfl) (by kernel_rfl) (fun _ _ _ h => h) (Or.inl ⟨by rfl, ?_⟩) (by assumption) ?_
        rotate_left
        · intro w hSw
          (try dsimp only at hSw)
          go_simp
          all_goals with_reducible rfl
        try simp only [Act.put, List.setIfInBounds_toArray, List.set_cons_zero, List.set_cons_succ, List.getElem_toArray, List.getElem_cons_zero, List.getElem_cons_succ]
        refine wpAnyH_take (i := 13) (v := ?_) rfl (by kernel_rfl) (by kernel_rfl) (by kernel_rfl) (fun _ _ _ h => h) (Or.inl ⟨by rfl, ?_⟩) (by assumption) ?_
        rotate_left
        · intro w hSw
          (try dsimp only at hSw)
          go_simp
          all_goals with_reducible rfl
        try simp only [Act.put, List.setIfInBounds_toArray, List.set_cons_zero, List.set_cons_succ, List.getElem_toArray, List.getElem_cons_zero, List.getElem_cons_succ]
        refine wpAnyH_take (i := 14) (v := .int .i64 (3600 * AA)) rfl (by kernel_rfl) (by kernel_rfl) (by kernel_rfl) (fun _ _ _ h => h) (Or.inl ⟨by rfl, ?_⟩) (by assumption) ?_
        · intro w hSw
          go_simp
          all_goals (exact HW.out.1)
        try simp only [Act.put, List.setIfInBounds_toArray, List.set_cons_zero, List.set_cons_succ, List.getElem_toArray, List.getElem_cons_zero, List.getElem_cons_succ]
        refine wpAnyH_take (i := 15) (v := ?_) rfl (by kernel_rfl) (by kernel_rfl) (by kernel_rfl) (fun _ _ _ h => h) (Or.inl ⟨by rfl, ?_⟩) (by assumption) ?_
        rotate_left
        · intro w hSw
          (try dsimp only at hSw)
          go_simp
          all_goals with_reducible rfl
        try simp only [Act.put, List.setIfInBounds_toArray, List.set_cons_zero, List.set_cons_succ, List.getElem_toArray, List.getElem_cons_zero, List.getElem_cons_succ]
        refine wpAnyH_take (i := 16) (v := .int .i64 (60 * BB)) rfl (by kernel_rfl) (by kernel_rfl) (by kernel_rfl) (fun _ _ _ h => h) (Or.inl ⟨by rfl, ?_⟩) (by assumption) ?_
        · intro w hSw
          go_simp
          all_goals (exact HW.out.2.1)
        try simp only [Act.put, List.setIfInBounds_toArray, List.set_cons_zero, List.set_cons_succ, List.getElem_toArray, List.getElem_cons_zero, List.getElem_cons_succ]
        refine wpAnyH_take (i := 17) (v := .int .i64 (3600 * AA + 60 * BB)) rfl (by kernel_rfl) (by kernel_rfl) (by kernel_rfl) (fun _ _ _ h => h) (Or.inl ⟨by rfl, ?_⟩) (by assumption) ?_
        · intro w hSw
          go_simp
          all_goals (exact HW.out.2.2.1)
        try simp only [Act.put, List.setIfInBounds_toArray, List.set_cons_zero, List.set_cons_succ, List.getElem_toArray, List.getElem_cons_zero, List.getElem_cons_succ]
        refine wpAnyH_take (i := 18) (v := ?_) rfl (by kernel_rfl) (by kernel_rfl) (by kernel_rfl) (fun _ _ _ h => h) (Or.inl ⟨by rfl, ?_⟩) (by assumption) ?_
        rotate_left
        · intro w hSw
          (try dsimp only at hSw)
          go_simp
          all_goals with_reducible rfl
        try simp only [Act.put, List.setIfInBounds_toArray, List.set_cons_zero, List.set_cons_succ, List.getElem_toArray, List.getElem_cons_zero, List.getElem_cons_succ]
        refine wpAnyH_take (i := 19) (v := .int .i64 (3600 * AA + 60 * BB + CC)) rfl (by kernel_rfl) (by kernel_rfl) (by kernel_rfl) (fun _ _ _ h => h) (Or.inl ⟨by rfl, ?_⟩) (by assumption) ?_
        · intro w hSw
          go_simp
          all_goals (exact HW.out.2.2.2)
        try simp only [Act.put, List.setIfInBounds_toArray, List.set_cons_zero, List.set_cons_succ, List.getElem_toArray, List.getElem_cons_zero, List.getElem_cons_succ]
        refine wpAnyH_take (i := 20) (v := ?_) rfl (by kernel_rfl) (by kernel_rfl) (by kernel_rfl) (fun _ _ _ h => h) (Or.inl ⟨by rfl, ?_⟩) (by assumption) ?_
        rotate_left
        · intro w hSw
          (try dsimp only at hSw)
          go_simp
          all_goals with_reducible rfl
        try simp only [Act.put, List.setIfInBounds_toArray, List.set_cons_zero, List.set_cons_succ, List.getElem_toArray, List.getElem_cons_zero, List.getElem_cons_succ]
        refine wpAnyH_take (i := 21) (v := ?_) rfl (by kernel_rfl) (by kernel_rfl) (by kernel_rfl) (fun _ _ _ h => h) (Or.inl ⟨by rfl, ?_⟩) (by assumption) ?_
        rotate_left
        · intro w hSw
          (try dsimp only at hSw)
          go_simp
          all_goals with_reducible rfl
        try simp only [Act.put, List.setIfInBounds_toArray, List.set_cons_zero, List.set_cons_succ, List.getElem_toArray, List.getElem_cons_zero, List.getElem_cons_succ]
        refine wpAnyH_take (i := 22) (v := ?_) rfl (by kernel_rfl) (by kernel_rfl) (by kernel_rfl) (fun _ _ _ h => h) (Or.inl ⟨by rfl, ?_⟩) (by assumption) ?_
        rotate_left
        · intro w hSw
          (try dsimp only at hSw)
          go_simp
          all_goals with_reducible rfl
        try simp only [Act.put, List.setIfInBounds_toArray, List.set_cons_zero, List.set_cons_succ, List.getElem_toArray, List.getElem_cons_zero, List.getElem_cons_succ]
        have hAl : (V.cell? ⟨g, 4, none⟩ = some (.string (S.mk (X.pc t 4))) ∧ V.cell? ⟨g, 3, none⟩ = some (.string (S.mk (X.pc t 3))) ∧ V.cell? ⟨g, 2, none⟩ = some (.string (S.mk (X.pc t 2))) ∧ V.cell? ⟨g, 5, none⟩ = some (.string (S.mk (X.pc t 5)))) → ∀ {o : Obj}, ((V.alloc o).cell? ⟨g, 4, none⟩ = some (.string (S.mk (X.pc t 4))) ∧ (V.alloc o).cell? ⟨g, 3, none⟩ = some (.string (S.mk (X.pc t 3))) ∧ (V.alloc o).cell? ⟨g, 2, none⟩ = some (.string (S.mk (X.pc t 2))) ∧ (V.alloc o).cell? ⟨g, 5, none⟩ = some (.string (S.mk (X.pc t 5)))) := fun h {o} => by
          have q := (Below.refl V.heap.size V).alloc (Nat.le_refl _) o
          exact ⟨(q.cell (p := ⟨g, 4, none⟩) hgV).trans h.1, (q.cell (p := ⟨g, 3, none⟩) hgV).trans h.2.1, (q.cell (p := ⟨g, 2, none⟩) hgV).trans h.2.2.1, (q.cell (p := ⟨g, 5, none⟩) hgV).trans h.2.2.2⟩
        refine wpAnyH_ready (rs := [3, 25]) (by kernel_rfl) (by simp) ?_
        refine AllReadyH.cons rfl (fun K hK => ?_) (AllReadyH.cons rfl (fun K hK => ?_) AllReadyH.nil)
        · skip
          go_simp
          (go_at_call 84; refine (P4.out _).mono ?_; rintro e wz ⟨rfl, rfl⟩)
          refine hK.out _ _ (hHeld) (fun hHeld => ?_)
          clear hK K
          try simp only [Act.put, List.setIfInBounds_toArray, List.set_cons_zero, List.set_cons_succ, List.getElem_toArray, List.getElem_cons_zero, List.getElem_cons_succ]
          refine wpAnyH_ready (rs := [7, 25]) (by kernel_rfl) (by simp) ?_
          refine AllReadyH.cons rfl (fun K hK => ?_) (AllReadyH.cons rfl (fun K hK => ?_) AllReadyH.nil)
          · skip
            go_simp
            (go_at_call 84; refine (P3.out _).mono ?_; rintro e wz ⟨rfl, rfl⟩)
            refine hK.out _ _ (hHeld) (fun hHeld => ?_)
            clear hK K
            try simp only [Act.put, List.setIfInBounds_toArray, List.set_cons_zero, List.set_cons_succ, List.getElem_toArray, List.getElem_cons_zero, List.getElem_cons_succ]
            refine wpAnyH_ready (rs := [11, 25]) (by kernel_rfl) (by simp) ?_
            refine AllReadyH.cons rfl (fun K hK => ?_) (AllReadyH.cons rfl (fun K hK => ?_) AllReadyH.nil)
            · skip
              go_simp
              (go_at_call 84; refine (P2.out _).mono ?_; rintro e wz ⟨rfl, rfl⟩)
              refine hK.out _ _ (hHeld) (fun hHeld => ?_)
              clear hK K
              try simp only [Act.put, List.setIfInBounds_toArray, List.set_cons_zero, List.set_cons_succ, List.getElem_toArray, List.getElem_cons_zero, List.getElem_cons_succ]
              refine wpAnyH_take (i := 12) (v := ?_) rfl (by kernel_rfl) (by kernel_rfl) (by kernel_rfl) (fun _ _ _ h => h) (Or.inl ⟨by rfl, ?_⟩) (by assumption) ?_
              rotate_left
              · intro w hSw
                (try dsimp only at hSw)
                go_simp
                all_goals with_reducible rfl
              try simp only [Act.put, List.setIfInBounds_toArray, List.set_cons_zero, List.set_cons_succ, List.getElem_toArray, List.getElem_cons_zero, List.getElem_cons_succ]
              refine wpAnyH_ready (rs := [23, 25]) (by kernel_rfl) (by simp) ?_
              refine AllReadyH.cons rfl (fun K hK => ?_) (AllReadyH.cons rfl (fun K hK => ?_) AllReadyH.nil)
              · skip
                go_simp
                (go_at_call 84; refine (P5.out _).mono ?_; rintro e wz ⟨rfl, rfl⟩)
                refine hK.out _ _ (hHeld) (fun hHeld => ?_)
                clear hK K
                try simp only [Act.put, List.setIfInBounds_toArray, List.set_cons_zero, List.set_cons_succ, List.getElem_toArray, List.getElem_cons_zero, List.getElem_cons_succ]
                refine wpAnyH_take (i := 24) (v := ?_) rfl (by kernel_rfl) (by kernel_rfl) (by kernel_rfl) (fun _ _ _ h => h) (Or.inl ⟨by rfl, ?_⟩) (by assumption) ?_
                rotate_left
                · intro w hSw
                  (try dsimp only at hSw)
                  go_simp
                  all_goals with_reducible rfl
                try simp only [Act.put, List.setIfInBounds_toArray, List.set_cons_zero, List.set_cons_succ, List.getElem_toArray, List.getElem_cons_zero, List.getElem_cons_succ]
                refine wpAnyH_ready (rs := [25]) (by kernel_rfl) (by simp) ?_
                refine AllReadyH.cons rfl (fun K hK => ?_) AllReadyH.nil
                go_simp
                skip
                refine hK.out _ _ (hAl cV) (fun hHeld => ?_)
                clear hK K
                try simp only [Act.put, List.setIfInBounds_toArray, List.set_cons_zero, List.set_cons_succ, List.getElem_toArray, List.getElem_cons_zero, List.getElem_cons_succ]
                refine wpAnyH_ready (rs := [26]) (by kernel_rfl) (by simp) ?_
                refine AllReadyH.cons rfl (fun K hK => ?_) AllReadyH.nil
                go_simp
                skip
                refine hK.out _ _ (hAl cV) (fun hHeld => ?_)
                clear hK K
                try simp only [Act.put, List.setIfInBounds_toArray, List.set_cons_zero, List.set_cons_succ, List.getElem_toArray, List.getElem_cons_zero, List.getElem_cons_succ]
                refine wpAnyH_done (by kernel_rfl) ?_ _
                have K3 := K2.al (.cells #[.int .i64 YY, .int .i64 MM, .int .i64 DD, .int .i64 (3600 * AA + 60 * BB + CC), .int .i64 NN] 31)
                have F3 := F2.al (.cells #[.int .i64 YY, .int .i64 MM, .int .i64 DD, .int .i64 (3600 * AA + 60 * BB + CC), .int .i64 NN] 31)
                have G3 := C5.new V YY MM DD (3600 * AA + 60 * BB + CC) NN 31
                have g3 := g2.alloc g2.size (.cells #[.int .i64 YY, .int .i64 MM, .int .i64 DD, .int .i64 (3600 * AA + 60 * BB + CC), .int .i64 NN] 31)
                clear K2 F2 g2
                obtain ⟨u0, u1, u2, u3, u4, ul⟩ := id G3
                generalize V.alloc (.cells #[.int .i64 YY, .int .i64 MM, .int .i64 DD, .int .i64 (3600 * AA + 60 * BB + CC), .int .i64 NN] 31) = U at *
                generalize V.heap.size = E at *
                by_cases hA0 : AA < 0
                · have f0 : decide (AA < 0) = true := decide_eq_true hA0
                  have hpk : X.pk t = false := by
                    rcases h : X.pk t with _ | _
                    · rfl
                    · exact absurd (HQK.out.mp (HPQ.out h)) (by omega)
                  have HZ := Lib.hid hpk
                  obtain ⟨r0, r1, r2, r3, r4, rl⟩ := K3
                  obtain ⟨e0, e1, e2, e3, e4, el⟩ := F3
                  clear hpk
                  go_wp2
                  refine bodyPost_ret (v := .tuple #[.agg #[.int .i64 0, .int .i64 0, .int .i64 0, .int .i64 0, .int .i64 0], .bool false]) (by simp [results, Tryz.results102, go_sem, r0, r1, r2, r3, r4]) rfl ⟨by rw [HZ.out, rv_no HZ.out, rv_no HZ.out, rv_no HZ.out, rv_no HZ.out, rv_no HZ.out], ?_⟩
                  iterate 5 refine Below.setCell ?_ (by simp) _
                  exact g3
                by_cases hB0 : BB < 0
                · have f0 : decide (AA < 0) = false := decide_eq_false hA0
                  have f1 : decide (BB < 0) = true := decide_eq_true hB0
                  have hpk : X.pk t = false := by
                    rcases h : X.pk t with _ | _
                    · rfl
                    · exact absurd (HQK.out.mp (HPQ.out h)) (by omega)
                  have HZ := Lib.hid hpk
                  obtain ⟨r0, r1, r2, r3, r4, rl⟩ := K3
                  obtain ⟨e0, e1, e2, e3, e4, el⟩ := F3
                  clear hpk
                  go_wp2
                  refine bodyPost_ret (v := .tuple #[.agg #[.int .i64 0, .int .i64 0, .int .i64 0, .int .i64 0, .int .i64 0], .bool false]) (by simp [results, Tryz.results102, go_sem, r0, r1, r2, r3, r4]) rfl ⟨by rw [HZ.out, rv_no HZ.out, rv_no HZ.out, rv_no HZ.out, rv_no HZ.out, rv_no HZ.out], ?_⟩
                  iterate 5 refine Below.setCell ?_ (by simp) _
                  exact g3
                by_cases hC0 : CC < 0
                · have f0 : decide (AA < 0) = false := decide_eq_false hA0
                  have f1 : decide (BB < 0) = false := decide_eq_false hB0
                  have f2 : decide (CC < 0) = true := decide_eq_true hC0
                  have hpk : X.pk t = false := by
                    rcases h : X.pk t with _ | _
                    · rfl
                    · exact absurd (HQK.out.mp (HPQ.out h)) (by omega)
                  have HZ := Lib.hid hpk
                  obtain ⟨r0, r1, r2, r3, r4, rl⟩ := K3
                  obtain ⟨e0, e1, e2, e3, e4, el⟩ := F3
                  clear hpk
                  go_wp2
                  refine bodyPost_ret (v := .tuple #[.agg #[.int .i64 0, .int .i64 0, .int .i64 0, .int .i64 0, .int .i64 0], .bool false]) (by simp [results, Tryz.results102, go_sem, r0, r1, r2, r3, r4]) rfl ⟨by rw [HZ.out, rv_no HZ.out, rv_no HZ.out, rv_no HZ.out, rv_no HZ.out, rv_no HZ.out], ?_⟩
                  iterate 5 refine Below.setCell ?_ (by simp) _
                  exact g3
                have f0 : decide (AA < 0) = false := decide_eq_false hA0
                have f1 : decide (BB < 0) = false := decide_eq_false hB0
                have f2 : decide (CC < 0) = false := decide_eq_false hC0
                go_wp2_with fail
                rcases hv : X.vf YY MM DD (3600 * AA + 60 * BB + CC) NN with _ | _
                · have VF := HVF.out
                  rw [hv] at VF
                  have HV2 := Lib.hid VF
                  have HNV := Lib.hid hv
                  clear VF hv
                  refine (HV2.out _).mono ?_
                  rintro e wa ⟨rfl, hb⟩
                  have g4 := g3.trans (hb.mono g3.size)
                  have K4 := K3.b hb
                  have F4 := F3.b hb
                  clear hb u0 u1 u2 u3 u4 ul G3
                  have hpk : X.pk t = false := by
                    rcases h : X.pk t with _ | _
                    · rfl
                    · exact absurd (HQK.out.mp (HPQ.out h)) (by (rintro ⟨-, -, -, h, -⟩; rw [HNV.out] at h; cases h))
                  have HZ := Lib.hid hpk
                  obtain ⟨r0, r1, r2, r3, r4, rl⟩ := K4
                  obtain ⟨e0, e1, e2, e3, e4, el⟩ := F4
                  clear hpk
                  go_wp2
                  refine bodyPost_ret (v := .tuple #[.agg #[.int .i64 0, .int .i64 0, .int .i64 0, .int .i64 0, .int .i64 0], .bool false]) (by simp [results, Tryz.results102, go_sem, r0, r1, r2, r3, r4]) rfl ⟨by rw [HZ.out, rv_no HZ.out, rv_no HZ.out, rv_no HZ.out, rv_no HZ.out, rv_no HZ.out], ?_⟩
                  iterate 5 refine Below.setCell ?_ (by simp) _
                  exact g4
                · have VF := HVF.out
                  rw [hv] at VF
                  have HV2 := Lib.hid VF
                  have HF2 := Lib.hid (fun w' => HFM.out w' hv)
                  have HNV := Lib.hid hv
                  clear VF hv
                  refine (HV2.out _).mono ?_
                  rintro e wa ⟨rfl, hb⟩
                  have g4 := g3.trans (hb.mono g3.size)
                  have K4 := K3.b hb
                  have F4 := F3.b hb
                  have G4 := G3.b hb
                  clear hb u0 u1 u2 u3 u4 ul G3 K3 F3 g3
                  obtain ⟨u0, u1, u2, u3, u4, ul⟩ := id G4
                  go_wp2_with fail
                  refine (HF2.out _).mono ?_
                  rintro e wb ⟨rfl, hb⟩
                  have g5 := g4.trans (hb.mono g4.size)
                  have K5 := K4.b hb
                  have F5_ := F4.b hb
                  have G5 := G4.b hb
                  clear hb u0 u1 u2 u3 u4 ul G4 K4 F4 g4
                  obtain ⟨u0, u1, u2, u3, u4, ul⟩ := id G5
                  by_cases htx : X.tx YY MM DD (3600 * AA + 60 * BB + CC) NN = t
                  · have hq : X.qk t := HQK.out.mpr ⟨by omega, by omega, by omega, HNV.out, htx⟩
                    obtain ⟨hpk, n1, n2, n3, n4, n5⟩ := HEQ.out hq
                    have HZ := Lib.hid (And.intro hpk (And.intro n1 (And.intro n2 (And.intro n3 (And.intro n4 n5)))))
                    obtain ⟨r0, r1, r2, r3, r4, rl⟩ := K5
                    obtain ⟨e0, e1, e2, e3, e4, el⟩ := F5_
                    have hbb := beq_str _ _ (congrArg S.mk htx)
                    clear hq hpk n1 n2 n3 n4 n5 htx
                    generalize S.mk (X.tx YY MM DD (3600 * AA + 60 * BB + CC) NN) = T1 at *
                    generalize S.mk t = T2 at *
                    go_wp2
                    refine bodyPost_ret (v := .tuple #[.agg #[.int .i64 YY, .int .i64 MM, .int .i64 DD, .int .i64 (3600 * AA + 60 * BB + CC), .int .i64 NN], .bool true]) (by simp [results, Tryz.results102, go_sem, r0, r1, r2, r3, r4]) rfl ⟨by rw [HZ.out.1, rv_yes HZ.out.1, rv_yes HZ.out.1, rv_yes HZ.out.1, rv_yes HZ.out.1, rv_yes HZ.out.1, HZ.out.2.1, HZ.out.2.2.1, HZ.out.2.2.2.1, HZ.out.2.2.2.2.1, HZ.out.2.2.2.2.2], ?_⟩
                    iterate 5 refine Below.setCell ?_ (by simp) _
                    exact g5
                  · have HNT := Lib.hid htx
                    have hbb := bne_str _ _ (fun e : S.mk (X.tx YY MM DD (3600 * AA + 60 * BB + CC) NN) = S.mk t => htx (by rw [← S.lst_mk (X.tx YY MM DD (3600 * AA + 60 * BB + CC) NN), e, S.lst_mk]))
                    clear htx
                    generalize S.mk (X.tx YY MM DD (3600 * AA + 60 * BB + CC) NN) = T1 at *
                    generalize S.mk t = T2 at *
                    have hpk : X.pk t = false := by
                      rcases h : X.pk t with _ | _
                      · rfl
                      · exact absurd (HQK.out.mp (HPQ.out h)) (by (rintro ⟨-, -, -, -, h⟩; exact HNT.out h))
                    have HZ := Lib.hid hpk
                    obtain ⟨r0, r1, r2, r3, r4, rl⟩ := K5
                    obtain ⟨e0, e1, e2, e3, e4, el⟩ := F5_
                    clear hpk
                    go_wp2
                    refine bodyPost_ret (v := .tuple #[.agg #[.int .i64 0, .int .i64 0, .int .i64 0, .int .i64 0, .int .i64 0], .bool false]) (by simp [results, Tryz.results102, go_sem, r0, r1, r2, r3, r4]) rfl ⟨by rw [HZ.out, rv_no HZ.out, rv_no HZ.out, rv_no HZ.out, rv_no HZ.out, rv_no HZ.out], ?_⟩
                    iterate 5 refine Below.setCell ?_ (by simp) _
                    exact g5
              · skip
                go_simp
                skip
                refine hK.out _ _ (hAl cV) (fun hHeld => ?_)
                clear hK K
                try simp only [Act.put, List.setIfInBounds_toArray, List.set_cons_zero, List.set_cons_succ, List.getElem_toArray, List.getElem_cons_zero, List.getElem_cons_succ]
                refine wpAnyH_ready (rs := [23]) (by kernel_rfl) (by simp) ?_
                refine AllReadyH.cons rfl (fun K hK => ?_) AllReadyH.nil
                go_simp
                (go_at_call 84; refine (P5.out _).mono ?_; rintro e wz ⟨rfl, rfl⟩)
                refine hK.out _ _ (hHeld) (fun hHeld => ?_)
                clear hK K
                try simp only [Act.put, List.setIfInBounds_toArray, List.set_cons_zero, List.set_cons_succ, List.getElem_toArray, List.getElem_cons_zero, List.getElem_cons_succ]
                refine wpAnyH_take (i := 24) (v := ?_) rfl (by kernel_rfl) (by kernel_rfl) (by kernel_rfl) (fun _ _ _ h => h) (Or.inl ⟨by rfl, ?_⟩) (by assumption) ?_
                rotate_left
                · intro w hSw
                  (try dsimp only at hSw)
                  go_simp
                  all_goals with_reducible rfl
                try simp only [Act.put, List.setIfInBounds_toArray, List.set_cons_zero, List.set_cons_succ, List.getElem_toArray, List.getElem_cons_zero, List.getElem_cons_succ]
                refine wpAnyH_ready (rs := [26]) (by kernel_rfl) (by simp) ?_
                refine AllReadyH.cons rfl (fun K hK => ?_) AllReadyH.nil
                go_simp
                skip
                refine hK.out _ _ (hAl cV) (fun hHeld => ?_)
                clear hK K
                try simp only [Act.put, List.setIfInBounds_toArray, List.set_cons_zero, List.set_cons_succ, List.getElem_toArray, List.getElem_cons_zero, List.getElem_cons_succ]
                refine wpAnyH_done (by kernel_rfl) ?_ _
                have K3 := K2.al (.cells #[.int .i64 YY, .int .i64 MM, .int .i64 DD, .int .i64 (3600 * AA + 60 * BB + CC), .int .i64 NN] 31)
                have F3 := F2.al (.cells #[.int .i64 YY, .int .i64 MM, .int .i64 DD, .int .i64 (3600 * AA + 60 * BB + CC), .int .i64 NN] 31)
                have G3 := C5.new V YY MM DD (3600 * AA + 60 * BB + CC) NN 31
                have g3 := g2.alloc g2.size (.cells #[.int .i64 YY, .int .i64 MM, .int .i64 DD, .int .i64 (3600 * AA + 60 * BB + CC), .int .i64 NN] 31)
                clear K2 F2 g2
                obtain ⟨u0, u1, u2, u3, u4, ul⟩ := id G3
                generalize V.alloc (.cells #[.int .i64 YY, .int .i64 MM, .int .i64 DD, .int .i64 (3600 * AA + 60 * BB + CC), .int .i64 NN] 31) = U at *
                generalize V.heap.size = E at *
                by_cases hA0 : AA < 0
                · have f0 : decide (AA < 0) = true := decide_eq_true hA0
                  have hpk : X.pk t = false := by
                    rcases h : X.pk t with _ | _
                    · rfl
                    · exact absurd (HQK.out.mp (HPQ.out h)) (by omega)
                  have HZ := Lib.hid hpk
                  obtain ⟨r0, r1, r2, r3, r4, rl⟩ := K3
                  obtain ⟨e0, e1, e2, e3, e4, el⟩ := F3
                  clear hpk
                  go_wp2
                  refine bodyPost_ret (v := .tuple #[.agg #[.int .i64 0, .int .i64 0, .int .i64 0, .int .i64 0, .int .i64 0], .bool false]) (by simp [results, Tryz.results102, go_sem, r0, r1, r2, r3, r4]) rfl ⟨by rw [HZ.out, rv_no HZ.out, rv_no HZ.out, rv_no HZ.out, rv_no HZ.out, rv_no HZ.out], ?_⟩
                  iterate 5 refine Below.setCell ?_ (by simp) _
                  exact g3
                by_cases hB0 : BB < 0
                · have f0 : decide (AA < 0) = false := decide_eq_false hA0
                  have f1 : decide (BB < 0) = true := decide_eq_true hB0
                  have hpk : X.pk t = false := by
                    rcases h : X.pk t with _ | _
                    · rfl
                    · exact absurd (HQK.out.mp (HPQ.out h)) (by omega)
                  have HZ := Lib.hid hpk
                  obtain ⟨r0, r1, r2, r3, r4, rl⟩ := K3
                  obtain ⟨e0, e1, e2, e3, e4, el⟩ := F3
                  clear hpk
                  go_wp2
                  refine bodyPost_ret (v := .tuple #[.agg #[.int .i64 0, .int .i64 0, .int .i64 0, .int .i64 0, .int .i64 0], .bool false]) (by simp [results, Tryz.results102, go_sem, r0, r1, r2, r3, r4]) rfl ⟨by rw [HZ.out, rv_no HZ.out, rv_no HZ.out, rv_no HZ.out, rv_no HZ.out, rv_no HZ.out], ?_⟩
                  iterate 5 refine Below.setCell ?_ (by simp) _
                  exact g3
                by_cases hC0 : CC < 0
                · have f0 : decide (AA < 0) = false := decide_eq_false hA0
                  have f1 : decide (BB < 0) = false := decide_eq_false hB0
                  have f2 : decide (CC < 0) = true := decide_eq_true hC0
                  have hpk : X.pk t = false := by
                    rcases h : X.pk t with _ | _
                    · rfl
                    · exact absurd (HQK.out.mp (HPQ.out h)) (by omega)
                  have HZ := Lib.hid hpk
                  obtain ⟨r0, r1, r2, r3, r4, rl⟩ := K3
                  obtain ⟨e0, e1, e2, e3, e4, el⟩ := F3
                  clear hpk
                  go_wp2
                  refine bodyPost_ret (v := .tuple #[.agg #[.int .i64 0, .int .i64 0, .int .i64 0, .int .i64 0, .int .i64 0], .bool false]) (by simp [results, Tryz.results102, go_sem, r0, r1, r2, r3, r4]) rfl ⟨by rw [HZ.out, rv_no HZ.out, rv_no HZ.out, rv_no HZ.out, rv_no HZ.out, rv_no HZ.out], ?_⟩
                  iterate 5 refine Below.setCell ?_ (by simp) _
                  exact g3
                have f0 : decide (AA < 0) = false := decide_eq_false hA0
                have f1 : decide (BB < 0) = false := decide_eq_false hB0
                have f2 : decide (CC < 0) = false := decide_eq_false hC0
                go_wp2_with fail
                rcases hv : X.vf YY MM DD (3600 * AA + 60 * BB + CC) NN with _ | _
                · have VF := HVF.out
                  rw [hv] at VF
                  have HV2 := Lib.hid VF
                  have HNV := Lib.hid hv
                  clear VF hv
                  refine (HV2.out _).mono ?_
                  rintro e wa ⟨rfl, hb⟩
                  have g4 := g3.trans (hb.mono g3.size)
                  have K4 := K3.b hb
                  have F4 := F3.b hb
                  clear hb u0 u1 u2 u3 u4 ul G3
                  have hpk : X.pk t = false := by
                    rcases h : X.pk t with _ | _
                    · rfl
                    · exact absurd (HQK.out.mp (HPQ.out h)) (by (rintro ⟨-, -, -, h, -⟩; rw [HNV.out] at h; cases h))
                  have HZ := Lib.hid hpk
                  obtain ⟨r0, r1, r2, r3, r4, rl⟩ := K4
                  obtain ⟨e0, e1, e2, e3, e4, el⟩ := F4
                  clear hpk
                  go_wp2
                  refine bodyPost_ret (v := .tuple #[.agg #[.int .i64 0, .int .i64 0, .int .i64 0, .int .i64 0, .int .i64 0], .bool false]) (by simp [results, Tryz.results102, go_sem, r0, r1, r2, r3, r4]) rfl ⟨by rw [HZ.out, rv_no HZ.out, rv_no HZ.out, rv_no HZ.out, rv_no HZ.out, rv_no HZ.out], ?_⟩
                  iterate 5 refine Below.setCell ?_ (by simp) _
                  exact g4
                · have VF := HVF.out
                  rw [hv] at VF
                  have HV2 := Lib.hid VF
                  have HF2 := Lib.hid (fun w' => HFM.out w' hv)
                  have HNV := Lib.hid hv
                  clear VF hv
                  refine (HV2.out _).mono ?_
                  rintro e wa ⟨rfl, hb⟩
                  have g4 := g3.trans (hb.mono g3.size)
                  have K4 := K3.b hb
                  have F4 := F3.b hb
                  have G4 := G3.b hb
                  clear hb u0 u1 u2 u3 u4 ul G3 K3 F3 g3
                  obtain ⟨u0, u1, u2, u3, u4, ul⟩ := id G4
                  go_wp2_with fail
                  refine (HF2.out _).mono ?_
                  rintro e wb ⟨rfl, hb⟩
                  have g5 := g4.trans (hb.mono g4.size)
                  have K5 := K4.b hb
                  have F5_ := F4.b hb
                  have G5 := G4.b hb
                  clear hb u0 u1 u2 u3 u4 ul G4 K4 F4 g4
                  obtain ⟨u0, u1, u2, u3, u4, ul⟩ := id G5
                  by_cases htx : X.tx YY MM DD (3600 * AA + 60 * BB + CC) NN = t
                  · have hq : X.qk t := HQK.out.mpr ⟨by omega, by omega, by omega, HNV.out, htx⟩
                    obtain ⟨hpk, n1, n2, n3, n4, n5⟩ := HEQ.out hq
                    have HZ := Lib.hid (And.intro hpk (And.intro n1 (And.intro n2 (And.intro n3 (And.intro n4 n5)))))
                    obtain ⟨r0, r1, r2, r3, r4, rl⟩ := K5
                    obtain ⟨e0, e1, e2, e3, e4, el⟩ := F5_
                    have hbb := beq_str _ _ (congrArg S.mk htx)
                    clear hq hpk n1 n2 n3 n4 n5 htx
                    generalize S.mk (X.tx YY MM DD (3600 * AA + 60 * BB + CC) NN) = T1 at *
                    generalize S.mk t = T2 at *
                    go_wp2
                    refine bodyPost_ret (v := .tuple #[.agg #[.int .i64 YY, .int .i64 MM, .int .i64 DD, .int .i64 (3600 * AA + 60 * BB + CC), .int .i64 NN], .bool true]) (by simp [results, Tryz.results102, go_sem, r0, r1, r2, r3, r4]) rfl ⟨by rw [HZ.out.1, rv_yes HZ.out.1, rv_yes HZ.out.1, rv_yes HZ.out.1, rv_yes HZ.out.1, rv_yes HZ.out.1, HZ.out.2.1, HZ.out.2.2.1, HZ.out.2.2.2.1, HZ.out.2.2.2.2.1, HZ.out.2.2.2.2.2], ?_⟩
                    iterate 5 refine Below.setCell ?_ (by simp) _
                    exact g5
                  · have HNT := Lib.hid htx
                    have hbb := bne_str _ _ (fun e : S.mk (X.tx YY MM DD (3600 * AA + 60 * BB + CC) NN) = S.mk t => htx (by rw [← S.lst_mk (X.tx YY MM DD (3600 * AA + 60 * BB + CC) NN), e, S.lst_mk]))
                    clear htx
                    generalize S.mk (X.tx YY MM DD (3600 * AA + 60 * BB + CC) NN) = T1 at *
                    generalize S.mk t = T2 at *
                    have hpk : X.pk t = false := by
                      rcases h : X.pk t with _ | _
                      · rfl
                      · exact absurd (HQK.out.mp (HPQ.out h)) (by (rintro ⟨-, -, -, -, h⟩; exact HNT.out h))
                    have HZ := Lib.hid hpk
                    obtain ⟨r0, r1, r2, r3, r4, rl⟩ := K5
                    obtain ⟨e0, e1, e2, e3, e4, el⟩ := F5_
                    clear hpk
                    go_wp2
                    refine bodyPost_ret (v := .tuple #[.agg #[.int .i64 0, .int .i64 0, .int .i64 0, .int .i64 0, .int .i64 0], .bool false]) (by simp [results, Tryz.results102, go_sem, r0, r1, r2, r3, r4]) rfl ⟨by rw [HZ.out, rv_no HZ.out, rv_no HZ.out, rv_no HZ.out, rv_no HZ.out, rv_no HZ.out], ?_⟩
                    iterate 5 refine Below.setCell ?_ (by simp) _
                    exact g5
            · skip
              go_simp
              skip
              refine hK.out _ _ (hAl cV) (fun hHeld => ?_)
              clear hK K
              try simp only [Act.put, List.setIfInBounds_toArray, List.set_cons_zero, List.set_cons_succ, List.getElem_toArray, List.getElem_cons_zero, List.getElem_cons_succ]
              refine wpAnyH_ready (rs := [11]) (by kernel_rfl) (by simp) ?_
              refine AllReadyH.cons rfl (fun K hK => ?_) AllReadyH.nil
              go_simp
              (go_at_call 84; refine (P2.out _).mono ?_; rintro e wz ⟨rfl, rfl⟩)
              refine hK.out _ _ (hHeld) (fun hHeld => ?_)
              clear hK K
              try simp only [Act.put, List.setIfInBounds_toArray, List.set_cons_zero, List.set_cons_succ, List.getElem_toArray, List.getElem_cons_zero, List.getElem_cons_succ]
              refine wpAnyH_take (i := 12) (v := ?_) rfl (by kernel_rfl) (by kernel_rfl) (by kernel_rfl) (fun _ _ _ h => h) (Or.inl ⟨by rfl, ?_⟩) (by assumption) ?_
              rotate_left
              · intro w hSw
                (try dsimp only at hSw)
                go_simp
                all_goals with_reducible rfl
              try simp only [Act.put, List.setIfInBounds_toArray, List.set_cons_zero, List.set_cons_succ, List.getElem_toArray, List.getElem_cons_zero, List.getElem_cons_succ]
              refine wpAnyH_ready (rs := [23]) (by kernel_rfl) (by simp) ?_
              refine AllReadyH.cons rfl (fun K hK => ?_) AllReadyH.nil
              go_simp
              (go_at_call 84; refine (P5.out _).mono ?_; rintro e wz ⟨rfl, rfl⟩)
              refine hK.out _ _ (hHeld) (fun hHeld => ?_)
              clear hK K
              try simp only [Act.put, List.setIfInBounds_toArray, List.set_cons_zero, List.set_cons_succ, List.getElem_toArray, List.getElem_cons_zero, List.getElem_cons_succ]
              refine wpAnyH_take (i := 24) (v := ?_) rfl (by kernel_rfl) (by kernel_rfl) (by kernel_rfl) (fun _ _ _ h => h) (Or.inl ⟨by rfl, ?_⟩) (by assumption) ?_
              rotate_left
              · intro w hSw
                (try dsimp only at hSw)
                go_simp
                all_goals with_reducible rfl
              try simp only [Act.put, List.setIfInBounds_toArray, List.set_cons_zero, List.set_cons_succ, List.getElem_toArray, List.getElem_cons_zero, List.getElem_cons_succ]
              refine wpAnyH_ready (rs := [26]) (by kernel_rfl) (by simp) ?_
              refine AllReadyH.cons rfl (fun K hK => ?_) AllReadyH.nil
              go_simp
              skip
              refine hK.out _ _ (hAl cV) (fun hHeld => ?_)
              clear hK K
              try simp only [Act.put, List.setIfInBounds_toArray, List.set_cons_zero, List.set_cons_succ, List.getElem_toArray, List.getElem_cons_zero, List.getElem_cons_succ]
              refine wpAnyH_done (by kernel_rfl) ?_ _
              have K3 := K2.al (.cells #[.int .i64 YY, .int .i64 MM, .int .i64 DD, .int .i64 (3600 * AA + 60 * BB + CC), .int .i64 NN] 31)
              have F3 := F2.al (.cells #[.int .i64 YY, .int .i64 MM, .int .i64 DD, .int .i64 (3600 * AA + 60 * BB + CC), .int .i64 NN] 31)
              have G3 := C5.new V YY MM DD (3600 * AA + 60 * BB + CC) NN 31
              have g3 := g2.alloc g2.size (.cells #[.int .i64 YY, .int .i64 MM, .int .i64 DD, .int .i64 (3600 * AA + 60 * BB + CC), .int .i64 NN] 31)
              clear K2 F2 g2
              obtain ⟨u0, u1, u2, u3, u4, ul⟩ := id G3
              generalize V.alloc (.cells #[.int .i64 YY, .int .i64 MM, .int .i64 DD, .int .i64 (3600 * AA + 60 * BB + CC), .int .i64 NN] 31) = U at *
              generalize V.heap.size = E at *
              by_cases hA0 : AA < 0
              · have f0 : decide (AA < 0) = true := decide_eq_true hA0
                have hpk : X.pk t = false := by
                  rcases h : X.pk t with _ | _
                  · rfl
                  · exact absurd (HQK.out.mp (HPQ.out h)) (by omega)
                have HZ := Lib.hid hpk
                obtain ⟨r0, r1, r2, r3, r4, rl⟩ := K3
                obtain ⟨e0, e1, e2, e3, e4, el⟩ := F3
                clear hpk
                go_wp2
                refine bodyPost_ret (v := .tuple #[.agg #[.int .i64 0, .int .i64 0, .int .i64 0, .int .i64 0, .int .i64 0], .bool false]) (by simp [results, Tryz.results102, go_sem, r0, r1, r2, r3, r4]) rfl ⟨by rw [HZ.out, rv_no HZ.out, rv_no HZ.out, rv_no HZ.out, rv_no HZ.out, rv_no HZ.out], ?_⟩
                iterate 5 refine Below.setCell ?_ (by simp) _
                exact g3
              by_cases hB0 : BB < 0
              · have f0 : decide (AA < 0) = false := decide_eq_false hA0
                have f1 : decide (BB < 0) = true := decide_eq_true hB0
                have hpk : X.pk t = false := by
                  rcases h : X.pk t with _ | _
                  · rfl
                  · exact absurd (HQK.out.mp (HPQ.out h)) (by omega)
                have HZ := Lib.hid hpk
                obtain ⟨r0, r1, r2, r3, r4, rl⟩ := K3
                obtain ⟨e0, e1, e2, e3, e4, el⟩ := F3
                clear hpk
                go_wp2
                refine bodyPost_ret (v := .tuple #[.agg #[.int .i64 0, .int .i64 0, .int .i64 0, .int .i64 0, .int .i64 0], .bool false]) (by simp [results, Tryz.results102, go_sem, r0, r1, r2, r3, r4]) rfl ⟨by rw [HZ.out, rv_no HZ.out, rv_no HZ.out, rv_no HZ.out, rv_no HZ.out, rv_no HZ.out], ?_⟩
                iterate 5 refine Below.setCell ?_ (by simp) _
                exact g3
              by_cases hC0 : CC < 0
              · have f0 : decide (AA < 0) = false := decide_eq_false hA0
                have f1 : decide (BB < 0) = false := decide_eq_false hB0
                have f2 : decide (CC < 0) = true := decide_eq_true hC0
                have hpk : X.pk t = false := by
                  rcases h : X.pk t with _ | _
                  · rfl
                  · exact absurd (HQK.out.mp (HPQ.out h)) (by omega)
                have HZ := Lib.hid hpk
                obtain ⟨r0, r1, r2, r3, r4, rl⟩ := K3
                obtain ⟨e0, e1, e2, e3, e4, el⟩ := F3
                clear hpk
                go_wp2
                refine bodyPost_ret (v := .tuple #[.agg #[.int .i64 0, .int .i64 0, .int .i64 0, .int .i64 0, .int .i64 0], .bool false]) (by simp [results, Tryz.results102, go_sem, r0, r1, r2, r3, r4]) rfl ⟨by rw [HZ.out, rv_no HZ.out, rv_no HZ.out, rv_no HZ.out, rv_no HZ.out, rv_no HZ.out], ?_⟩
                iterate 5 refine Below.setCell ?_ (by simp) _
                exact g3
              have f0 : decide (AA < 0) = false := decide_eq_false hA0
              have f1 : decide (BB < 0) = false := decide_eq_false hB0
              have f2 : decide (CC < 0) = false := decide_eq_false hC0
              go_wp2_with fail
              rcases hv : X.vf YY MM DD (3600 * AA + 60 * BB + CC) NN with _ | _
              · have VF := HVF.out
                rw [hv] at VF
                have HV2 := Lib.hid VF
                have HNV := Lib.hid hv
                clear VF hv
                refine (HV2.out _).mono ?_
                rintro e wa ⟨rfl, hb⟩
                have g4 := g3.trans (hb.mono g3.size)
                have K4 := K3.b hb
                have F4 := F3.b hb
                clear hb u0 u1 u2 u3 u4 ul G3
                have hpk : X.pk t = false := by
                  rcases h : X.pk t with _ | _
                  · rfl
                  · exact absurd (HQK.out.mp (HPQ.out h)) (by (rintro ⟨-, -, -, h, -⟩; rw [HNV.out] at h; cases h))
                have HZ := Lib.hid hpk
                obtain ⟨r0, r1, r2, r3, r4, rl⟩ := K4
                obtain ⟨e0, e1, e2, e3, e4, el⟩ := F4
                clear hpk
                go_wp2
                refine bodyPost_ret (v := .tuple #[.agg #[.int .i64 0, .int .i64 0, .int .i64 0, .int .i64 0, .int .i64 0], .bool false]) (by simp [results, Tryz.results102, go_sem, r0, r1, r2, r3, r4]) rfl ⟨by rw [HZ.out, rv_no HZ.out, rv_no HZ.out, rv_no HZ.out, rv_no HZ.out, rv_no HZ.out], ?_⟩
                iterate 5 refine Below.setCell ?_ (by simp) _
                exact g4
              · have VF := HVF.out
                rw [hv] at VF
                have HV2 := Lib.hid VF
                have HF2 := Lib.hid (fun w' => HFM.out w' hv)
                have HNV := Lib.hid hv
                clear VF hv
                refine (HV2.out _).mono ?_
                rintro e wa ⟨rfl, hb⟩
                have g4 := g3.trans (hb.mono g3.size)
                have K4 := K3.b hb
                have F4 := F3.b hb
                have G4 := G3.b hb
                clear hb u0 u1 u2 u3 u4 ul G3 K3 F3 g3
                obtain ⟨u0, u1, u2, u3, u4, ul⟩ := id G4
                go_wp2_with fail
                refine (HF2.out _).mono ?_
                rintro e wb ⟨rfl, hb⟩
                have g5 := g4.trans (hb.mono g4.size)
                have K5 := K4.b hb
                have F5_ := F4.b hb
                have G5 := G4.b hb
                clear hb u0 u1 u2 u3 u4 ul G4 K4 F4 g4
                obtain ⟨u0, u1, u2, u3, u4, ul⟩ := id G5
                by_cases htx : X.tx YY MM DD (3600 * AA + 60 * BB + CC) NN = t
                · have hq : X.qk t := HQK.out.mpr ⟨by omega, by omega, by omega, HNV.out, htx⟩
                  obtain ⟨hpk, n1, n2, n3, n4, n5⟩ := HEQ.out hq
                  have HZ := Lib.hid (And.intro hpk (And.intro n1 (And.intro n2 (And.intro n3 (And.intro n4 n5)))))
                  obtain ⟨r0, r1, r2, r3, r4, rl⟩ := K5
                  obtain ⟨e0, e1, e2, e3, e4, el⟩ := F5_
                  have hbb := beq_str _ _ (congrArg S.mk htx)
                  clear hq hpk n1 n2 n3 n4 n5 htx
                  generalize S.mk (X.tx YY MM DD (3600 * AA + 60 * BB + CC) NN) = T1 at *
                  generalize S.mk t = T2 at *
                  go_wp2
                  refine bodyPost_ret (v := .tuple #[.agg #[.int .i64 YY, .int .i64 MM, .int .i64 DD, .int .i64 (3600 * AA + 60 * BB + CC), .int .i64 NN], .bool true]) (by simp [results, Tryz.results102, go_sem, r0, r1, r2, r3, r4]) rfl ⟨by rw [HZ.out.1, rv_yes HZ.out.1, rv_yes HZ.out.1, rv_yes HZ.out.1, rv_yes HZ.out.1, rv_yes HZ.out.1, HZ.out.2.1, HZ.out.2.2.1, HZ.out.2.2.2.1, HZ.out.2.2.2.2.1, HZ.out.2.2.2.2.2], ?_⟩
                  iterate 5 refine Below.setCell ?_ (by simp) _
                  exact g5
                · have HNT := Lib.hid htx
                  have hbb := bne_str _ _ (fun e : S.mk (X.tx YY MM DD (3600 * AA + 60 * BB + CC) NN) = S.mk t => htx (by rw [← S.lst_mk (X.tx YY MM DD (3600 * AA + 60 * BB + CC) NN), e, S.lst_mk]))
                  clear htx
                  generalize S.mk (X.tx YY MM DD (3600 * AA + 60 * BB + CC) NN) = T1 at *
                  generalize S.mk t = T2 at *
                  have hpk : X.pk t = false := by
                    rcases h : X.pk t with _ | _
                    · rfl
                    · exact absurd (HQK.out.mp (HPQ.out h)) (by (rintro ⟨-, -, -, -, h⟩; exact HNT.out h))
                  have HZ := Lib.hid hpk
                  obtain ⟨r0, r1, r2, r3, r4, rl⟩ := K5
                  obtain ⟨e0, e1, e2, e3, e4, el⟩ := F5_
                  clear hpk
                  go_wp2
                  refine bodyPost_ret (v := .tuple #[.agg #[.int .i64 0, .int .i64 0, .int .i64 0, .int .i64 0, .int .i64 0], .bool false]) (by simp [results, Tryz.results102, go_sem, r0, r1, r2, r3, r4]) rfl ⟨by rw [HZ.out, rv_no HZ.out, rv_no HZ.out, rv_no HZ.out, rv_no HZ.out, rv_no HZ.out], ?_⟩
                  iterate 5 refine Below.setCell ?_ (by simp) _
                  exact g5
          · skip
            go_simp
            skip
            refine hK.out _ _ (hAl cV) (fun hHeld => ?_)
            clear hK K
            try simp only [Act.put, List.setIfInBounds_toArray, List.set_cons_zero, List.set_cons_succ, List.getElem_toArray, List.getElem_cons_zero, List.getElem_cons_succ]
            refine wpAnyH_ready (rs := [7]) (by kernel_rfl) (by simp) ?_
            refine AllReadyH.cons rfl (fun K hK => ?_) AllReadyH.nil
            go_simp
            (go_at_call 84; refine (P3.out _).mono ?_; rintro e wz ⟨rfl, rfl⟩)
            refine hK.out _ _ (hHeld) (fun hHeld => ?_)
            clear hK K
            try simp only [Act.put, List.setIfInBounds_toArray, List.set_cons_zero, List.set_cons_succ, List.getElem_toArray, List.getElem_cons_zero, List.getElem_cons_succ]
            refine wpAnyH_ready (rs := [11]) (by kernel_rfl) (by simp) ?_
            refine AllReadyH.cons rfl (fun K hK => ?_) AllReadyH.nil
            go_simp
            (go_at_call 84; refine (P2.out _).mono ?_; rintro e wz ⟨rfl, rfl⟩)
            refine hK.out _ _ (hHeld) (fun hHeld => ?_)
            clear hK K
            try simp only [Act.put, List.setIfInBounds_toArray, List.set_cons_zero, List.set_cons_succ, List.getElem_toArray, List.getElem_cons_zero, List.getElem_cons_succ]
            refine wpAnyH_take (i := 12) (v := ?_) rfl (by kernel_rfl) (by kernel_rfl) (by kernel_rfl) (fun _ _ _ h => h) (Or.inl ⟨by rfl, ?_⟩) (by assumption) ?_
            rotate_left
            · intro w hSw
              (try dsimp only at hSw)
              go_simp
              all_goals with_reducible rfl
            try simp only [Act.put, List.setIfInBounds_toArray, List.set_cons_zero, List.set_cons_succ, List.getElem_toArray, List.getElem_cons_zero, List.getElem_cons_succ]
            refine wpAnyH_ready (rs := [23]) (by kernel_rfl) (by simp) ?_
            refine AllReadyH.cons rfl (fun K hK => ?_) AllReadyH.nil
            go_simp
            (go_at_call 84; refine (P5.out _).mono ?_; rintro e wz ⟨rfl, rfl⟩)
            refine hK.out _ _ (hHeld) (fun hHeld => ?_)
            clear hK K
            try simp only [Act.put, List.setIfInBounds_toArray, List.set_cons_zero, List.set_cons_succ, List.getElem_toArray, List.getElem_cons_zero, List.getElem_cons_succ]
            refine wpAnyH_take (i := 24) (v := ?_) rfl (by kernel_rfl) (by kernel_rfl) (by kernel_rfl) (fun _ _ _ h => h) (Or.inl ⟨by rfl, ?_⟩) (by assumption) ?_
            rotate_left
            · intro w hSw
              (try dsimp only at hSw)
              go_simp
              all_goals with_reducible rfl
            try simp only [Act.put, List.setIfInBounds_toArray, List.set_cons_zero, List.set_cons_succ, List.getElem_toArray, List.getElem_cons_zero, List.getElem_cons_succ]
            refine wpAnyH_ready (rs := [26]) (by kernel_rfl) (by simp) ?_
            refine AllReadyH.cons rfl (fun K hK => ?_) AllReadyH.nil
            go_simp
            skip
            refine hK.out _ _ (hAl cV) (fun hHeld => ?_)
            clear hK K
            try simp only [Act.put, List.setIfInBounds_toArray, List.set_cons_zero, List.set_cons_succ, List.getElem_toArray, List.getElem_cons_zero, List.getElem_cons_succ]
            refine wpAnyH_done (by kernel_rfl) ?_ _
            have K3 := K2.al (.cells #[.int .i64 YY, .int .i64 MM, .int .i64 DD, .int .i64 (3600 * AA + 60 * BB + CC), .int .i64 NN] 31)
            have F3 := F2.al (.cells #[.int .i64 YY, .int .i64 MM, .int .i64 DD, .int .i64 (3600 * AA + 60 * BB + CC), .int .i64 NN] 31)
            have G3 := C5.new V YY MM DD (3600 * AA + 60 * BB + CC) NN 31
            have g3 := g2.alloc g2.size (.cells #[.int .i64 YY, .int .i64 MM, .int .i64 DD, .int .i64 (3600 * AA + 60 * BB + CC), .int .i64 NN] 31)
            clear K2 F2 g2
            obtain ⟨u0, u1, u2, u3, u4, ul⟩ := id G3
            generalize V.alloc (.cells #[.int .i64 YY, .int .i64 MM, .int .i64 DD, .int .i64 (3600 * AA + 60 * BB + CC), .int .i64 NN] 31) = U at *
            generalize V.heap.size = E at *
            by_cases hA0 : AA < 0
            · have f0 : decide (AA < 0) = true := decide_eq_true hA0
              have hpk : X.pk t = false := by
                rcases h : X.pk t with _ | _
                · rfl
                · exact absurd (HQK.out.mp (HPQ.out h)) (by omega)
              have HZ := Lib.hid hpk
              obtain ⟨r0, r1, r2, r3, r4, rl⟩ := K3
              obtain ⟨e0, e1, e2, e3, e4, el⟩ := F3
              clear hpk
              go_wp2
              refine bodyPost_ret (v := .tuple #[.agg #[.int .i64 0, .int .i64 0, .int .i64 0, .int .i64 0, .int .i64 0], .bool false]) (by simp [results, Tryz.results102, go_sem, r0, r1, r2, r3, r4]) rfl ⟨by rw [HZ.out, rv_no HZ.out, rv_no HZ.out, rv_no HZ.out, rv_no HZ.out, rv_no HZ.out], ?_⟩
              iterate 5 refine Below.setCell ?_ (by simp) _
              exact g3
            by_cases hB0 : BB < 0
            · have f0 : decide (AA < 0) = false := decide_eq_false hA0
              have f1 : decide (BB < 0) = true := decide_eq_true hB0
              have hpk : X.pk t = false := by
                rcases h : X.pk t with _ | _
                · rfl
                · exact absurd (HQK.out.mp (HPQ.out h)) (by omega)
              have HZ := Lib.hid hpk
              obtain ⟨r0, r1, r2, r3, r4, rl⟩ := K3
              obtain ⟨e0, e1, e2, e3, e4, el⟩ := F3
              clear hpk
              go_wp2
              refine bodyPost_ret (v := .tuple #[.agg #[.int .i64 0, .int .i64 0, .int .i64 0, .int .i64 0, .int .i64 0], .bool false]) (by simp [results, Tryz.results102, go_sem, r0, r1, r2, r3, r4]) rfl ⟨by rw [HZ.out, rv_no HZ.out, rv_no HZ.out, rv_no HZ.out, rv_no HZ.out, rv_no HZ.out], ?_⟩
              iterate 5 refine Below.setCell ?_ (by simp) _
              exact g3
            by_cases hC0 : CC < 0
            · have f0 : decide (AA < 0) = false := decide_eq_false hA0
              have f1 : decide (BB < 0) = false := decide_eq_false hB0
              have f2 : decide (CC < 0) = true := decide_eq_true hC0
              have hpk : X.pk t = false := by
                rcases h : X.pk t with _ | _
                · rfl
                · exact absurd (HQK.out.mp (HPQ.out h)) (by omega)
              have HZ := Lib.hid hpk
              obtain ⟨r0, r1, r2, r3, r4, rl⟩ := K3
              obtain ⟨e0, e1, e2, e3, e4, el⟩ := F3
              clear hpk
              go_wp2
              refine bodyPost_ret (v := .tuple #[.agg #[.int .i64 0, .int .i64 0, .int .i64 0, .int .i64 0, .int .i64 0], .bool false]) (by simp [results, Tryz.results102, go_sem, r0, r1, r2, r3, r4]) rfl ⟨by rw [HZ.out, rv_no HZ.out, rv_no HZ.out, rv_no HZ.out, rv_no HZ.out, rv_no HZ.out], ?_⟩
              iterate 5 refine Below.setCell ?_ (by simp) _
              exact g3
            have f0 : decide (AA < 0) = false := decide_eq_false hA0
            have f1 : decide (BB < 0) = false := decide_eq_false hB0
            have f2 : decide (CC < 0) = false := decide_eq_false hC0
            go_wp2_with fail
            rcases hv : X.vf YY MM DD (3600 * AA + 60 * BB + CC) NN with _ | _
            · have VF := HVF.out
              rw [hv] at VF
              have HV2 := Lib.hid VF
              have HNV := Lib.hid hv
              clear VF hv
              refine (HV2.out _).mono ?_
              rintro e wa ⟨rfl, hb⟩
              have g4 := g3.trans (hb.mono g3.size)
              have K4 := K3.b hb
              have F4 := F3.b hb
              clear hb u0 u1 u2 u3 u4 ul G3
              have hpk : X.pk t = false := by
                rcases h : X.pk t with _ | _
                · rfl
                · exact absurd (HQK.out.mp (HPQ.out h)) (by (rintro ⟨-, -, -, h, -⟩; rw [HNV.out] at h; cases h))
              have HZ := Lib.hid hpk
              obtain ⟨r0, r1, r2, r3, r4, rl⟩ := K4
              obtain ⟨e0, e1, e2, e3, e4, el⟩ := F4
              clear hpk
              go_wp2
              refine bodyPost_ret (v := .tuple #[.agg #[.int .i64 0, .int .i64 0, .int .i64 0, .int .i64 0, .int .i64 0], .bool false]) (by simp [results, Tryz.results102, go_sem, r0, r1, r2, r3, r4]) rfl ⟨by rw [HZ.out, rv_no HZ.out, rv_no HZ.out, rv_no HZ.out, rv_no HZ.out, rv_no HZ.out], ?_⟩
              iterate 5 refine Below.setCell ?_ (by simp) _
              exact g4
            · have VF := HVF.out
              rw [hv] at VF
              have HV2 := Lib.hid VF
              have HF2 := Lib.hid (fun w' => HFM.out w' hv)
              have HNV := Lib.hid hv
              clear VF hv
              refine (HV2.out _).mono ?_
              rintro e wa ⟨rfl, hb⟩
              have g4 := g3.trans (hb.mono g3.size)
              have K4 := K3.b hb
              have F4 := F3.b hb
              have G4 := G3.b hb
              clear hb u0 u1 u2 u3 u4 ul G3 K3 F3 g3
              obtain ⟨u0, u1, u2, u3, u4, ul⟩ := id G4
              go_wp2_with fail
              refine (HF2.out _).mono ?_
              rintro e wb ⟨rfl, hb⟩
              have g5 := g4.trans (hb.mono g4.size)
              have K5 := K4.b hb
              have F5_ := F4.b hb
              have G5 := G4.b hb
              clear hb u0 u1 u2 u3 u4 ul G4 K4 F4 g4
              obtain ⟨u0, u1, u2, u3, u4, ul⟩ := id G5
              by_cases htx : X.tx YY MM DD (3600 * AA + 60 * BB + CC) NN = t
              · have hq : X.qk t := HQK.out.mpr ⟨by omega, by omega, by omega, HNV.out, htx⟩
                obtain ⟨hpk, n1, n2, n3, n4, n5⟩ := HEQ.out hq
                have HZ := Lib.hid (And.intro hpk (And.intro n1 (And.intro n2 (And.intro n3 (And.intro n4 n5)))))
                obtain ⟨r0, r1, r2, r3, r4, rl⟩ := K5
                obtain ⟨e0, e1, e2, e3, e4, el⟩ := F5_
                have hbb := beq_str _ _ (congrArg S.mk htx)
                clear hq hpk n1 n2 n3 n4 n5 htx
                generalize S.mk (X.tx YY MM DD (3600 * AA + 60 * BB + CC) NN) = T1 at *
                generalize S.mk t = T2 at *
                go_wp2
                refine bodyPost_ret (v := .tuple #[.agg #[.int .i64 YY, .int .i64 MM, .int .i64 DD, .int .i64 (3600 * AA + 60 * BB + CC), .int .i64 NN], .bool true]) (by simp [results, Tryz.results102, go_sem, r0, r1, r2, r3, r4]) rfl ⟨by rw [HZ.out.1, rv_yes HZ.out.1, rv_yes HZ.out.1, rv_yes HZ.out.1, rv_yes HZ.out.1, rv_yes HZ.out.1, HZ.out.2.1, HZ.out.2.2.1, HZ.out.2.2.2.1, HZ.out.2.2.2.2.1, HZ.out.2.2.2.2.2], ?_⟩
                iterate 5 refine Below.setCell ?_ (by simp) _
                exact g5
              · have HNT := Lib.hid htx
                have hbb := bne_str _ _ (fun e : S.mk (X.tx YY MM DD (3600 * AA + 60 * BB + CC) NN) = S.mk t => htx (by rw [← S.lst_mk (X.tx YY MM DD (3600 * AA + 60 * BB + CC) NN), e, S.lst_mk]))
                clear htx
                generalize S.mk (X.tx YY MM DD (3600 * AA + 60 * BB + CC) NN) = T1 at *
                generalize S.mk t = T2 at *
                have hpk : X.pk t = false := by
                  rcases h : X.pk t with _ | _
                  · rfl
                  · exact absurd (HQK.out.mp (HPQ.out h)) (by (rintro ⟨-, -, -, -, h⟩; exact HNT.out h))
                have HZ := Lib.hid hpk
                obtain ⟨r0, r1, r2, r3, r4, rl⟩ := K5
                obtain ⟨e0, e1, e2, e3, e4, el⟩ := F5_
                clear hpk
                go_wp2
                refine bodyPost_ret (v := .tuple #[.agg #[.int .i64 0, .int .i64 0, .int .i64 0, .int .i64 0, .int .i64 0], .bool false]) (by simp [results, Tryz.results102, go_sem, r0, r1, r2, r3, r4]) rfl ⟨by rw [HZ.out, rv_no HZ.out, rv_no HZ.out, rv_no HZ.out, rv_no HZ.out, rv_no HZ.out], ?_⟩
                iterate 5 refine Below.setCell ?_ (by simp) _
                exact g5
        · skip
          go_simp
          skip
          refine hK.out _ _ (hAl cV) (fun hHeld => ?_)
          clear hK K
          try simp only [Act.put, List.setIfInBounds_toArray, List.set_cons_zero, List.set_cons_succ, List.getElem_toArray, List.getElem_cons_zero, List.getElem_cons_succ]
          refine wpAnyH_ready (rs := [3]) (by kernel_rfl) (by simp) ?_
          refine AllReadyH.cons rfl (fun K hK => ?_) AllReadyH.nil
          go_simp
          (go_at_call 84; refine (P4.out _).mono ?_; rintro e wz ⟨rfl, rfl⟩)
          refine hK.out _ _ (hHeld) (fun hHeld => ?_)
          clear hK K
          try simp only [Act.put, List.setIfInBounds_toArray, List.set_cons_zero, List.set_cons_succ, List.getElem_toArray, List.getElem_cons_zero, List.getElem_cons_succ]
          refine wpAnyH_ready (rs := [7]) (by kernel_rfl) (by simp) ?_
          refine AllReadyH.cons rfl (fun K hK => ?_) AllReadyH.nil
          go_simp
          (go_at_call 84; refine (P3.out _).mono ?_; rintro e wz ⟨rfl, rfl⟩)
          refine hK.out _ _ (hHeld) (fun hHeld => ?_)
          clear hK K
          try simp only [Act.put, List.setIfInBounds_toArray, List.set_cons_zero, List.set_cons_succ, List.getElem_toArray, List.getElem_cons_zero, List.getElem_cons_succ]
          refine wpAnyH_ready (rs := [11]) (by kernel_rfl) (by simp) ?_
          refine AllReadyH.cons rfl (fun K hK => ?_) AllReadyH.nil
          go_simp
          (go_at_call 84; refine (P2.out _).mono ?_; rintro e wz ⟨rfl, rfl⟩)
          refine hK.out _ _ (hHeld) (fun hHeld => ?_)
          clear hK K
          try simp only [Act.put, List.setIfInBounds_toArray, List.set_cons_zero, List.set_cons_succ, List.getElem_toArray, List.getElem_cons_zero, List.getElem_cons_succ]
          refine wpAnyH_take (i := 12) (v := ?_) rfl (by kernel_rfl) (by kernel_rfl) (by kernel_rfl) (fun _ _ _ h => h) (Or.inl ⟨by rfl, ?_⟩) (by assumption) ?_
          rotate_left
          · intro w hSw
            (try dsimp only at hSw)
            go_simp
            all_goals with_reducible rfl
          try simp only [Act.put, List.setIfInBounds_toArray, List.set_cons_zero, List.set_cons_succ, List.getElem_toArray, List.getElem_cons_zero, List.getElem_cons_succ]
          refine wpAnyH_ready (rs := [23]) (by kernel_rfl) (by simp) ?_
          refine AllReadyH.cons rfl (fun K hK => ?_) AllReadyH.nil
          go_simp
          (go_at_call 84; refine (P5.out _).mono ?_; rintro e wz ⟨rfl, rfl⟩)
          refine hK.out _ _ (hHeld) (fun hHeld => ?_)
          clear hK K
          try simp only [Act.put, List.setIfInBounds_toArray, List.set_cons_zero, List.set_cons_succ, List.getElem_toArray, List.getElem_cons_zero, List.getElem_cons_succ]
          refine wpAnyH_take (i := 24) (v := ?_) rfl (by kernel_rfl) (by kernel_rfl) (by kernel_rfl) (fun _ _ _ h => h) (Or.inl ⟨by rfl, ?_⟩) (by assumption) ?_
          rotate_left
          · intro w hSw
            (try dsimp only at hSw)
            go_simp
            all_goals with_reducible rfl
          try simp only [Act.put, List.setIfInBounds_toArray, List.set_cons_zero, List.set_cons_succ, List.getElem_toArray, List.getElem_cons_zero, List.getElem_cons_succ]
          refine wpAnyH_ready (rs := [26]) (by kernel_rfl) (by simp) ?_
          refine AllReadyH.cons rfl (fun K hK => ?_) AllReadyH.nil
          go_simp
          skip
          refine hK.out _ _ (hAl cV) (fun hHeld => ?_)
          clear hK K
          try simp only [Act.put, List.setIfInBounds_toArray, List.set_cons_zero, List.set_cons_succ, List.getElem_toArray, List.getElem_cons_zero, List.getElem_cons_succ]
          refine wpAnyH_done (by kernel_rfl) ?_ _
          have K3 := K2.al (.cells #[.int .i64 YY, .int .i64 MM, .int .i64 DD, .int .i64 (3600 * AA + 60 * BB + CC), .int .i64 NN] 31)
          have F3 := F2.al (.cells #[.int .i64 YY, .int .i64 MM, .int .i64 DD, .int .i64 (3600 * AA + 60 * BB + CC), .int .i64 NN] 31)
          have G3 := C5.new V YY MM DD (3600 * AA + 60 * BB + CC) NN 31
          have g3 := g2.alloc g2.size (.cells #[.int .i64 YY, .int .i64 MM, .int .i64 DD, .int .i64 (3600 * AA + 60 * BB + CC), .int .i64 NN] 31)
          clear K2 F2 g2
          obtain ⟨u0, u1, u2, u3, u4, ul⟩ := id G3
          generalize V.alloc (.cells #[.int .i64 YY, .int .i64 MM, .int .i64 DD, .int .i64 (3600 * AA + 60 * BB + CC), .int .i64 NN] 31) = U at *
          generalize V.heap.size = E at *
          by_cases hA0 : AA < 0
          · have f0 : decide (AA < 0) = true := decide_eq_true hA0
            have hpk : X.pk t = false := by
              rcases h : X.pk t with _ | _
              · rfl
              · exact absurd (HQK.out.mp (HPQ.out h)) (by omega)
            have HZ := Lib.hid hpk
            obtain ⟨r0, r1, r2, r3, r4, rl⟩ := K3
            obtain ⟨e0, e1, e2, e3, e4, el⟩ := F3
            clear hpk
            go_wp2
            refine bodyPost_ret (v := .tuple #[.agg #[.int .i64 0, .int .i64 0, .int .i64 0, .int .i64 0, .int .i64 0], .bool false]) (by simp [results, Tryz.results102, go_sem, r0, r1, r2, r3, r4]) rfl ⟨by rw [HZ.out, rv_no HZ.out, rv_no HZ.out, rv_no HZ.out, rv_no HZ.out, rv_no HZ.out], ?_⟩
            iterate 5 refine Below.setCell ?_ (by simp) _
            exact g3
          by_cases hB0 : BB < 0
          · have f0 : decide (AA < 0) = false := decide_eq_false hA0
            have f1 : decide (BB < 0) = true := decide_eq_true hB0
            have hpk : X.pk t = false := by
              rcases h : X.pk t with _ | _
              · rfl
              · exact absurd (HQK.out.mp (HPQ.out h)) (by omega)
            have HZ := Lib.hid hpk
            obtain ⟨r0, r1, r2, r3, r4, rl⟩ := K3
            obtain ⟨e0, e1, e2, e3, e4, el⟩ := F3
            clear hpk
            go_wp2
            refine bodyPost_ret (v := .tuple #[.agg #[.int .i64 0, .int .i64 0, .int .i64 0, .int .i64 0, .int .i64 0], .bool false]) (by simp [results, Tryz.results102, go_sem, r0, r1, r2, r3, r4]) rfl ⟨by rw [HZ.out, rv_no HZ.out, rv_no HZ.out, rv_no HZ.out, rv_no HZ.out, rv_no HZ.out], ?_⟩
            iterate 5 refine Below.setCell ?_ (by simp) _
            exact g3
          by_cases hC0 : CC < 0
          · have f0 : decide (AA < 0) = false := decide_eq_false hA0
            have f1 : decide (BB < 0) = false := decide_eq_false hB0
            have f2 : decide (CC < 0) = true := decide_eq_true hC0
            have hpk : X.pk t = false := by
              rcases h : X.pk t with _ | _
              · rfl
              · exact absurd (HQK.out.mp (HPQ.out h)) (by omega)
            have HZ := Lib.hid hpk
            obtain ⟨r0, r1, r2, r3, r4, rl⟩ := K3
            obtain ⟨e0, e1, e2, e3, e4, el⟩ := F3
            clear hpk
            go_wp2
            refine bodyPost_ret (v := .tuple #[.agg #[.int .i64 0, .int .i64 0, .int .i64 0, .int .i64 0, .int .i64 0], .bool false]) (by simp [results, Tryz.results102, go_sem, r0, r1, r2, r3, r4]) rfl ⟨by rw [HZ.out, rv_no HZ.out, rv_no HZ.out, rv_no HZ.out, rv_no HZ.out, rv_no HZ.out], ?_⟩
            iterate 5 refine Below.setCell ?_ (by simp) _
            exact g3
          have f0 : decide (AA < 0) = false := decide_eq_false hA0
          have f1 : decide (BB < 0) = false := decide_eq_false hB0
          have f2 : decide (CC < 0) = false := decide_eq_false hC0
          go_wp2_with fail
          rcases hv : X.vf YY MM DD (3600 * AA + 60 * BB + CC) NN with _ | _
          · have VF := HVF.out
            rw [hv] at VF
            have HV2 := Lib.hid VF
            have HNV := Lib.hid hv
            clear VF hv
            refine (HV2.out _).mono ?_
            rintro e wa ⟨rfl, hb⟩
            have g4 := g3.trans (hb.mono g3.size)
            have K4 := K3.b hb
            have F4 := F3.b hb
            clear hb u0 u1 u2 u3 u4 ul G3
            have hpk : X.pk t = false := by
              rcases h : X.pk t with _ | _
              · rfl
              · exact absurd (HQK.out.mp (HPQ.out h)) (by (rintro ⟨-, -, -, h, -⟩; rw [HNV.out] at h; cases h))
            have HZ := Lib.hid hpk
            obtain ⟨r0, r1, r2, r3, r4, rl⟩ := K4
            obtain ⟨e0, e1, e2, e3, e4, el⟩ := F4
            clear hpk
            go_wp2
            refine bodyPost_ret (v := .tuple #[.agg #[.int .i64 0, .int .i64 0, .int .i64 0, .int .i64 0, .int .i64 0], .bool false]) (by simp [results, Tryz.results102, go_sem, r0, r1, r2, r3, r4]) rfl ⟨by rw [HZ.out, rv_no HZ.out, rv_no HZ.out, rv_no HZ.out, rv_no HZ.out, rv_no HZ.out], ?_⟩
            iterate 5 refine Below.setCell ?_ (by simp) _
            exact g4
          · have VF := HVF.out
            rw [hv] at VF
            have HV2 := Lib.hid VF
            have HF2 := Lib.hid (fun w' => HFM.out w' hv)
            have HNV := Lib.hid hv
            clear VF hv
            refine (HV2.out _).mono ?_
            rintro e wa ⟨rfl, hb⟩
            have g4 := g3.trans (hb.mono g3.size)
            have K4 := K3.b hb
            have F4 := F3.b hb
            have G4 := G3.b hb
            clear hb u0 u1 u2 u3 u4 ul G3 K3 F3 g3
            obtain ⟨u0, u1, u2, u3, u4, ul⟩ := id G4
            go_wp2_with fail
            refine (HF2.out _).mono ?_
            rintro e wb ⟨rfl, hb⟩
            have g5 := g4.trans (hb.mono g4.size)
            have K5 := K4.b hb
            have F5_ := F4.b hb
            have G5 := G4.b hb
            clear hb u0 u1 u2 u3 u4 ul G4 K4 F4 g4
            obtain ⟨u0, u1, u2, u3, u4, ul⟩ := id G5
            by_cases htx : X.tx YY MM DD (3600 * AA + 60 * BB + CC) NN = t
            · have hq : X.qk t := HQK.out.mpr ⟨by omega, by omega, by omega, HNV.out, htx⟩
              obtain ⟨hpk, n1, n2, n3, n4, n5⟩ := HEQ.out hq
              have HZ := Lib.hid (And.intro hpk (And.intro n1 (And.intro n2 (And.intro n3 (And.intro n4 n5)))))
              obtain ⟨r0, r1, r2, r3, r4, rl⟩ := K5
              obtain ⟨e0, e1, e2, e3, e4, el⟩ := F5_
              have hbb := beq_str _ _ (congrArg S.mk htx)
              clear hq hpk n1 n2 n3 n4 n5 htx
              generalize S.mk (X.tx YY MM DD (3600 * AA + 60 * BB + CC) NN) = T1 at *
              generalize S.mk t = T2 at *
              go_wp2
              refine bodyPost_ret (v := .tuple #[.agg #[.int .i64 YY, .int .i64 MM, .int .i64 DD, .int .i64 (3600 * AA + 60 * BB + CC), .int .i64 NN], .bool true]) (by simp [results, Tryz.results102, go_sem, r0, r1, r2, r3, r4]) rfl ⟨by rw [HZ.out.1, rv_yes HZ.out.1, rv_yes HZ.out.1, rv_yes HZ.out.1, rv_yes HZ.out.1, rv_yes HZ.out.1, HZ.out.2.1, HZ.out.2.2.1, HZ.out.2.2.2.1, HZ.out.2.2.2.2.1, HZ.out.2.2.2.2.2], ?_⟩
              iterate 5 refine Below.setCell ?_ (by simp) _
              exact g5
            · have HNT := Lib.hid htx
              have hbb := bne_str _ _ (fun e : S.mk (X.tx YY MM DD (3600 * AA + 60 * BB + CC) NN) = S.mk t => htx (by rw [← S.lst_mk (X.tx YY MM DD (3600 * AA + 60 * BB + CC) NN), e, S.lst_mk]))
              clear htx
              generalize S.mk (X.tx YY MM DD (3600 * AA + 60 * BB + CC) NN) = T1 at *
              generalize S.mk t = T2 at *
              have hpk : X.pk t = false := by
                rcases h : X.pk t with _ | _
                · rfl
                · exact absurd (HQK.out.mp (HPQ.out h)) (by (rintro ⟨-, -, -, -, h⟩; exact HNT.out h))
              have HZ := Lib.hid hpk
              obtain ⟨r0, r1, r2, r3, r4, rl⟩ := K5
              obtain ⟨e0, e1, e2, e3, e4, el⟩ := F5_
              clear hpk
              go_wp2
              refine bodyPost_ret (v := .tuple #[.agg #[.int .i64 0, .int .i64 0, .int .i64 0, .int .i64 0, .int .i64 0], .bool false]) (by simp [results, Tryz.results102, go_sem, r0, r1, r2, r3, r4]) rfl ⟨by rw [HZ.out, rv_no HZ.out, rv_no HZ.out, rv_no HZ.out, rv_no HZ.out, rv_no HZ.out], ?_⟩
              iterate 5 refine Below.setCell ?_ (by simp) _
              exact g5
      · have f6 : (((X.pc t 1).length : Int) != 6) = true := by rw [bne_iff_ne]; omega
        have f6' : (((X.pc t 1).length : Int) == 6) = false := by rw [beq_eq_false_iff_ne]; omega
        have b0 : ((S.mk (X.pc t 0)).toList == ({ data := #[70, 73, 88] } : ByteArray).toList) = true := by rw [S.toList_beq]; exact decide_eq_true (by rw [h0]; rfl)
        have b0' : ((S.mk (X.pc t 0)).toList == [70, 73, 88]) = true := by rw [Go.ByteArray.toList_eq, h0]; rfl
        have H1 := Lib.hid h1
        clear h1 h0
        have hpk : X.pk t = false := by
          rcases h : X.pk t with _ | _
          · rfl
          · exact absurd (X.q1_of (X.pk_qk h).1) (by exact fun h => H1.out h.2.2)
        have HZ := Lib.hid hpk
        obtain ⟨r0, r1, r2, r3, r4, rl⟩ := K1
        obtain ⟨e0, e1, e2, e3, e4, el⟩ := F1
        clear hpk
        go_wp2
        refine bodyPost_ret (v := .tuple #[.agg #[.int .i64 0, .int .i64 0, .int .i64 0, .int .i64 0, .int .i64 0], .bool false]) (by simp [results, Tryz.results102, go_sem, r0, r1, r2, r3, r4]) rfl ⟨by rw [HZ.out, rv_no HZ.out, rv_no HZ.out, rv_no HZ.out, rv_no HZ.out, rv_no HZ.out], ?_⟩
        iterate 5 refine Below.setCell ?_ (by simp) _
        exact g1
    · have hne : S.mk (X.pc t 0) ≠ S.mk [70, 73, 88] := fun e => h0 (by rw [← S.lst_mk (X.pc t 0), e, S.lst_mk])
      have b0 : ((S.mk (X.pc t 0)).toList == ({ data := #[70, 73, 88] } : ByteArray).toList) = false := by rw [S.toList_beq]; exact decide_eq_false hne
      have b0' : ((S.mk (X.pc t 0)).toList == [70, 73, 88]) = false := by
        rw [Go.ByteArray.toList_eq]
        have e : (S.mk (X.pc t 0)).data.toList = X.pc t 0 := S.lst_mk _
        rw [e]; simpa using h0
      have H0 := Lib.hid h0
      clear h0 hne
      have hpk : X.pk t = false := by
        rcases h : X.pk t with _ | _
        · rfl
        · exact absurd (X.q1_of (X.pk_qk h).1) (by exact fun h => H0.out h.2.1)
      have HZ := Lib.hid hpk
      obtain ⟨r0, r1, r2, r3, r4, rl⟩ := K1
      obtain ⟨e0, e1, e2, e3, e4, el⟩ := F1
      clear hpk
      go_wp2
      refine bodyPost_ret (v := .tuple #[.agg #[.int .i64 0, .int .i64 0, .int .i64 0, .int .i64 0, .int .i64 0], .bool false]) (by simp [results, Tryz.results102, go_sem, r0, r1, r2, r3, r4]) rfl ⟨by rw [HZ.out, rv_no HZ.out, rv_no HZ.out, rv_no HZ.out, rv_no HZ.out, rv_no HZ.out], ?_⟩
      iterate 5 refine Below.setCell ?_ (by simp) _
      exact g1
  · have f6 : (((prt 44 t).length : Int) != 6) = true := by rw [bne_iff_ne]; omega
    have f6' : (((prt 44 t).length : Int) == 6) = false := by rw [beq_eq_false_iff_ne]; omega
    have H6 := Lib.hid h6
    generalize (prt 44 t).length = q6 at *
    clear h6 hcs
    have hpk : X.pk t = false := by
      rcases h : X.pk t with _ | _
      · rfl
      · exact absurd (X.q1_of (X.pk_qk h).1) (by exact fun h => H6.out (by rw [HLEN.out]; exact h.1))
    have HZ := Lib.hid hpk
    obtain ⟨r0, r1, r2, r3, r4, rl⟩ := K1
    obtain ⟨e0, e1, e2, e3, e4, el⟩ := F1
    clear hpk
    go_wp2
    refine bodyPost_ret (v := .tuple #[.agg #[.int .i64 0, .int .i64 0, .int .i64 0, .int .i64 0, .int .i64 0], .bool false]) (by simp [results, Tryz.results102, go_sem, r0, r1, r2, r3, r4]) rfl ⟨by rw [HZ.out, rv_no HZ.out, rv_no HZ.out, rv_no HZ.out, rv_no HZ.out, rv_no HZ.out], ?_⟩
    iterate 5 refine Below.setCell ?_ (by simp) _
    exact g1
set_option maxHeartbeats 2000000 in
theorem pf_spec (s : ByteArray) (hs : s.size ≤ 1048576) (w : World) : Calls Tryz.prog 81 #[.string s] w fun e w' => e = .returned (.tuple #[.agg #[.int .i64 (X.py s), .int .i64 (X.pm s), .int .i64 (X.pd s), .int .i64 (X.ps s), .int .i64 (X.pn s)], .bool (X.pB s)]) ∧ Below w.heap.size w w' := by
  have K := C5.new w 0 0 0 0 0 31
  have F := F5.new w 0 0 0 0 0 31
  have g0 : Below w.heap.size w (w.alloc (.cells #[.int .i64 0, .int .i64 0, .int .i64 0, .int .i64 0, .int .i64 0] 31)) := (Below.refl _ _).alloc (Nat.le_refl _) _
  have R := fun w' => read_spec s hs w'
  rcases hr : S.rdB s with _ | _
  · obtain ⟨e1, e2, e3, e4, e5⟩ := X.p_out (X.pB_no1 hr)
    rw [e1, e2, e3, e4, e5, X.pB_no1 hr]
    rw [hr] at R
    have HR := Lib.hid R
    clear R e1 e2 e3 e4 e5 hr
    clear K F
    go_enter Tryz.func81, Tryz.ntmps81
    go_wp2_with fail
    refine (HR.out _).mono ?_
    rintro e w1 ⟨rfl, rfl⟩
    go_wp2
    refine bodyPost_ret (v := .tuple #[.agg #[.int .i64 0, .int .i64 0, .int .i64 0, .int .i64 0, .int .i64 0], .bool false]) (by simp [results, Tryz.results81, go_sem]) rfl ⟨rfl, g0⟩
  · have hsz : (S.lst (S.rdS s)).length ≤ 1048576 := by rw [S.size_lst, S.rdS_yes hr]; have := (S.rdB_of hr).1; have := S.mid_size s (by omega); omega
    have hmk : S.rdS s = S.mk (S.lst (S.rdS s)) := (S.mk_lst _).symm
    have hpB : X.pB s = X.pk (S.lst (S.rdS s)) := by unfold X.pB; rw [hr, Bool.true_and]
    have h1 : X.py s = rv (S.lst (S.rdS s)) (X.gy (S.lst (S.rdS s))) := by unfold X.py rv; rw [hpB]
    have h2 : X.pm s = rv (S.lst (S.rdS s)) (X.gm (S.lst (S.rdS s))) := by unfold X.pm rv; rw [hpB]
    have h3 : X.pd s = rv (S.lst (S.rdS s)) (X.gd (S.lst (S.rdS s))) := by unfold X.pd rv; rw [hpB]
    have h4 : X.ps s = rv (S.lst (S.rdS s)) (X.gs (S.lst (S.rdS s))) := by unfold X.ps rv; rw [hpB]
    have h5 : X.pn s = rv (S.lst (S.rdS s)) (X.gn (S.lst (S.rdS s))) := by unfold X.pn rv; rw [hpB]
    rw [hpB, h1, h2, h3, h4, h5]
    rw [hr] at R
    obtain ⟨l, hl⟩ : ∃ l, S.lst (S.rdS s) = l := ⟨_, rfl⟩
    rw [hl] at hsz hmk
    rw [hl]
    rw [hmk] at R
    have RF := Lib.hid (fun w' => rf_spec l hsz w')
    have HR := Lib.hid R
    clear R hpB h1 h2 h3 h4 h5 hmk hl hsz hr
    generalize rv l (X.gy l) = y at *
    generalize rv l (X.gm l) = m at *
    generalize rv l (X.gd l) = d at *
    generalize rv l (X.gs l) = t at *
    generalize rv l (X.gn l) = n at *
    generalize X.pk l = ok at *
    go_enter Tryz.func81, Tryz.ntmps81
    go_wp2_with fail
    refine (HR.out _).mono ?_
    rintro e w1 ⟨rfl, rfl⟩
    go_wp2_with fail
    refine (RF.out _).mono ?_
    rintro e w2 ⟨rfl, hb⟩
    have g2 := g0.trans (hb.mono g0.size)
    obtain ⟨c0, c1, c2, c3, c4, cl⟩ := K.b hb
    obtain ⟨f0, f1, f2, f3, f4, fl⟩ := F.b hb
    clear hb K F g0
    go_wp2
    refine bodyPost_ret (v := .tuple #[.agg #[.int .i64 y, .int .i64 m, .int .i64 d, .int .i64 t, .int .i64 n], .bool ok]) (by simp [results, Tryz.results81, go_sem, c0, c1, c2, c3, c4]) rfl ⟨rfl, ?_⟩
    iterate 5 refine Below.setCell ?_ (by simp) _
    exact g2
end Go.Proofs.YtpfdjmffgbbmdaaGreatDoor
