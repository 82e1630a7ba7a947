/-
  Lists of texts that the exact law takes: how they are read, measured and copied.
-/
import Derived.Test.YtpfdjmffgbbmdaaGreatDoorEqS
import Derived.SliceStrings
import Derived.Laws.MakeOwn
namespace Go.Proofs.YtpfdjmffgbbmdaaGreatDoor
open Go.RowKit Go.ChangeShapes Go.WideShapes
set_option linter.unusedVariables false
set_option maxRecDepth 100000
def TxRow (w : World) (a : Option Addr) (len cap : Nat) : Prop :=
  (a = none ∧ len = 0) ∨ ∃ (x : Addr) (ss : List ByteArray), a = some x ∧ len ≤ cap ∧ cap ≤ maxLen ∧ ss.length = cap ∧ (∀ i, i < ss.length → w.cell? (x.add i) = some (.string (ss.getD i ByteArray.empty))) ∧ ∀ s ∈ ss, s.size ≤ maxLen
theorem txrow {H : Type} {enc : TypeId × Value → H} {w : World} {fuel : Nat} {a : Option Addr} {len cap : Nat} {x : DataW H × List MemPlace} (h : DataW.trod enc Tryz.prog w 0 (fun _ => true) true fuel 23 (Value.slice a len cap).cells.toList = some x) : TxRow w a len cap := by
  rcases open_strings Tryz.underlying23 Tryz.underlying9 (by kernel_rfl) h with ⟨hc, _⟩ | ⟨x, l, c, ss, hc, _, hl, hm, hz, _, hcell, hsz⟩
  · simp [Value.cells] at hc
    exact .inl ⟨hc.1, hc.2.1⟩
  · simp [Value.cells] at hc
    obtain ⟨rfl, rfl, rfl⟩ := hc
    exact .inr ⟨x, ss, rfl, hl, hm, by simpa using hz, hcell, hsz⟩
theorem txrow_bd {w : World} {a : Option Addr} {len cap : Nat} (h : TxRow w a len cap) : len ≤ maxLen := by
  rcases h with ⟨_, rfl⟩ | ⟨_, _, _, h1, h2, _⟩
  · unfold maxLen; omega
  · omega
theorem txrow_cap {w : World} {a : Option Addr} {len cap : Nat} (h : TxRow w a len cap) : len ≤ cap := by
  rcases h with ⟨_, rfl⟩ | ⟨_, _, _, h1, h2, _⟩
  · omega
  · exact h1
theorem rd_of {w : World} {a : Option Addr} {len cap : Nat} (h : TxRow w a len cap) : ∃ T, Rd w.heap.size w a len T ∧ ∀ i, (T.getD i ByteArray.empty).size ≤ maxLen := by
  rcases h with ⟨rfl, rfl⟩ | ⟨⟨b, off, spot⟩, ss, rfl, h1, h2, h3, hc, hs⟩
  · exact ⟨[], ⟨rfl, .inl rfl⟩, fun i => by simp [maxLen]⟩
  · refine ⟨ss.take len, ⟨by rw [List.length_take]; omega, ?_⟩, fun i => ?_⟩
    · rcases Nat.eq_zero_or_pos len with h0 | h0
      · exact .inl h0
      · have hc0 := hc 0 (by omega)
        have hspot : spot = none := by simpa [Addr.add] using World.cell?_spot hc0
        subst hspot
        have ad : ∀ j, (Addr.add ⟨b, off, none⟩ j) = ⟨b, off + j, none⟩ := fun j => by unfold Addr.add; split <;> simp_all
        refine .inr ⟨b, off, rfl, World.block_lt_of_cell? _ _ hc0, fun i hi => ?_⟩
        have := hc i (by omega)
        rw [ad] at this
        rw [this, List.getD_eq_getElem?_getD, List.getD_eq_getElem?_getD, List.getElem?_take_of_lt hi]
    · rw [List.getD_eq_getElem?_getD]
      rcases e : (ss.take len)[i]? with _ | s
      · simp [maxLen]
      · exact hs s (List.mem_of_mem_take (List.mem_of_getElem? e))
theorem szStringS_any (B n c : Nat) (a : Option Addr) (T : List ByteArray) (w : World) (h : Rd B w a n T) (hn : n ≤ maxLen) (hs : ∀ i, (T.getD i ByteArray.empty).size ≤ maxLen) : Calls Tryz.prog 13 #[.slice a n c, .int .i64 1048576] w fun e w' => ∃ z : Int, e = .returned (.int .i64 z) ∧ (0 ≤ z → n ≤ 1048576 ∧ ∀ i, i < n → (T.getD i ByteArray.empty).size ≤ 1048576) ∧ Stay w w' := by
  have hn' : (n : Int) ≤ 9223372036854775807 := by unfold maxLen at hn; omega
  by_cases h0 : n ≤ 1048576
  · have g0 : ¬ (1048576 - (n : Int) < 0) := by omega
    have e0 : IntKind.i64.wrap (1048576 - (n : Int)) = 1048576 - (n : Int) := IntWalk.i64_in _ (by omega)
    go_enter Tryz.func13, Tryz.ntmps13
    go_wp2
    go_loopw [1, 5] (fun z i wr => ∃ (k : Nat) (y : Int), k ≤ n ∧ i = .int .i64 k ∧ z = .int .i64 y ∧ 0 ≤ y ∧ y ≤ 1048576 ∧ (∀ j, j < k → (T.getD j ByteArray.empty).size ≤ 1048576) ∧ Stay w wr) (fun _ i _ => n - (intOf i).toNat)
    case atStart => exact ⟨0, 1048576 - (n : Int), Nat.zero_le _, rfl, rfl, by omega, by omega, fun j hj => absurd hj (by omega), Stay.refl _⟩
    case round =>
      obtain ⟨k, y, hk, rfl, rfl, y0, y1, hall, hst⟩ := hrel
      have HA := Lib.hid hall
      clear hall
      by_cases hlt : k < n
      · obtain ⟨b, off, rfl, hbb, hc⟩ := (h.keep (hst.below (B := B)) (Nat.le_refl _)).at_ k hlt
        have ck := hc k hlt
        have hz := hs k
        have HNx := Lib.hid (fun (q : (T.getD k ByteArray.empty).size ≤ 1048576) (j : Nat) (hj : j < k + 1) => (show (T.getD j ByteArray.empty).size ≤ 1048576 by
          rcases Nat.lt_or_ge j k with q' | q'
          · exact HA.out j q'
          · obtain rfl : j = k := by omega
            exact q))
        clear hc
        generalize T.getD k ByteArray.empty = x at *
        unfold maxLen at hz
        have e1 : IntKind.i64.wrap (y - (x.size : Int)) = y - (x.size : Int) := IntWalk.i64_in _ (by omega)
        by_cases hyx : y - (x.size : Int) < 0
        · go_wp2
          go_ret
          exact ⟨-1, rfl, fun q => absurd q (by decide), hst⟩
        · go_wp2
          go_roundw
          case rel => exact ⟨k + 1, y - (x.size : Int), by omega, by go_num, rfl, by omega, by omega, HNx.out (by omega), hst⟩
          case measure => simp [intOf]; omega
      · obtain rfl : k = n := by omega
        go_wp2
        go_ret
        exact ⟨y, rfl, fun _ => ⟨h0, HA.out⟩, hst⟩
  · have g0 : 1048576 - (n : Int) < 0 := by omega
    have e0 : IntKind.i64.wrap (1048576 - (n : Int)) = 1048576 - (n : Int) := IntWalk.i64_in _ (by omega)
    go_enter Tryz.func13, Tryz.ntmps13
    go_wp2
    go_ret
    exact ⟨-1, rfl, fun q => absurd q (by decide), Stay.refl _⟩
/-- The first k texts, and empty ones behind them. -/
def partT (T : List ByteArray) (k : Nat) : List ByteArray := T.take k ++ List.replicate (T.length - k) ByteArray.empty
theorem partT_len (T : List ByteArray) (k : Nat) (h : k ≤ T.length) : (partT T k).length = T.length := by simp [partT]; omega
theorem partT_zero (T : List ByteArray) : strs (partT T 0) = List.replicate T.length (.string ByteArray.empty) := by simp [partT, strs]
theorem partT_all (T : List ByteArray) : partT T T.length = T := by simp [partT]
theorem partT_set (T : List ByteArray) (k : Nat) (h : k < T.length) : (strs (partT T k)).set k (.string (T.getD k ByteArray.empty)) = strs (partT T (k + 1)) := by
  unfold strs
  rw [← List.map_set]
  congr 1
  unfold partT
  rw [List.set_append, if_neg (by rw [List.length_take]; omega), List.length_take, Nat.min_eq_left (by omega), Nat.sub_self]
  rw [show T.length - k = (T.length - (k + 1)) + 1 from by omega, List.replicate_succ, List.set_cons_zero]
  rw [List.take_add_one, List.getD_eq_getElem?_getD, List.getElem?_eq_getElem h]
  simp only [Option.getD_some, Option.toList_some, List.append_assoc, List.cons_append, List.nil_append]
theorem strs_someT (T : List ByteArray) (i : Nat) (h : i < T.length) : ∃ x, (strs T)[i]? = some (.string x) := ⟨T[i], by unfold strs; rw [List.getElem?_map, List.getElem?_eq_getElem h]; rfl⟩
set_option maxHeartbeats 2000000 in
theorem toStringS_any (n c : Nat) (a : Option Addr) (T : List ByteArray) (w : World) (h : Rd w.heap.size w a n T) (hn : n ≤ 1048576) : Calls Tryz.prog 14 #[.slice a n c] w fun e w' => e = .returned (.slice (some ⟨w.heap.size, 0, none⟩) n n) ∧ Rd w'.heap.size w' (some ⟨w.heap.size, 0, none⟩) n T ∧ Below w.heap.size w w' := by
  obtain ⟨i0, hi0, hz0, hz1, hz2⟩ := info_parts str_info
  obtain ⟨w1, hrun, own1, hg1⟩ := run_make_full (P := Tryz.prog) w w.heap.size 23 9 i0 (.string ByteArray.empty) 1 Tryz.underlying23 hi0 hz0 hz1 .i64 .i64 n (by rw [hz2]; omega) (by unfold maxLen; omega) (Nat.le_refl _)
  have hl := h.1
  rw [show (Value.string ByteArray.empty).cells = #[.string ByteArray.empty] from rfl, toList_madeCells_one, Nat.mul_one] at own1
  have own1 : w1.ownsRow w.heap.size 9 1 (.slice (some ⟨w.heap.size, 0, none⟩) n n) n (strs (partT T 0)) := by rw [partT_zero, hl]; exact own1
  have hb1 : Below w.heap.size w w1 := (Below.refl _ _).grown hg1 (Nat.le_refl _) (fun k hk => by cases hk)
  have HL := Lib.hid hl
  have HO := Lib.hid own1
  have H1 := h.keep hb1 (Nat.le_refl _)
  have hsz := hb1.size
  have HB := Lib.hid hb1
  clear hl own1 hi0 hz0 hz1 hz2 hg1 hb1
  go_enter Tryz.func14, Tryz.ntmps14
  go_wp2
  go_loopw [4] (fun i wr => ∃ k : Nat, k ≤ n ∧ i = .int .i64 k ∧ wr.ownsRow w.heap.size 9 1 (.slice (some ⟨w.heap.size, 0, none⟩) n n) n (strs (partT T k)) ∧ Rd w.heap.size wr a n T ∧ Below w.heap.size w wr) (fun i _ => n - (intOf i).toNat)
  case atStart => exact ⟨0, Nat.zero_le _, rfl, HO.out, H1, HB.out⟩
  case round =>
    obtain ⟨k, hk, rfl, own, hL, hb⟩ := hrel
    by_cases hlt : k < n
    · obtain ⟨b, off, rfl, hbb, hc⟩ := hL.at_ k hlt
      have ck := hc k hlt
      obtain ⟨y, hy⟩ := strs_someT (partT T k) k (by rw [partT_len _ _ (by have := HL.out; omega)]; have := HL.out; omega)
      have hcur := own.cellAt k (by omega)
      rw [hy] at hcur
      have hfr := own.frozenAt k
      have hst := own.stored k (.string (T.getD k ByteArray.empty))
      rw [partT_set _ _ (by have := HL.out; omega)] at hst
      have hb2 : Below w.heap.size w (wr.setCell ⟨w.heap.size, k, none⟩ (.string (T.getD k ByteArray.empty))) := hb.setCell (Nat.le_refl _) _
      have hL2 : Rd w.heap.size (wr.setCell ⟨w.heap.size, k, none⟩ (.string (T.getD k ByteArray.empty))) (some ⟨b, off, none⟩) n T := by
        have q : Below w.heap.size wr (wr.setCell ⟨w.heap.size, k, none⟩ (.string (T.getD k ByteArray.empty))) := (Below.refl w.heap.size wr).setCell (show w.heap.size ≤ (⟨w.heap.size, k, none⟩ : Addr).block from Nat.le_refl _) _
        exact hL.keep q (Nat.le_refl _)
      have HS := Lib.hid (And.intro hst.1 (And.intro hL2 hb2))
      clear hst hb2 hL2 hc hL hy
      generalize T.getD k ByteArray.empty = x at *
      go_wp2
      go_roundw
      case rel => exact ⟨k + 1, by omega, by go_num, HS.out.1, HS.out.2.1, HS.out.2.2⟩
      case measure => simp [intOf]; omega
    · obtain rfl : k = n := by omega
      have hfin : Rd wr.heap.size wr (some ⟨w.heap.size, 0, none⟩) k T := by
        refine ⟨HL.out, ?_⟩
        rcases Nat.eq_zero_or_pos k with h0 | h0
        · exact .inl h0
        · refine .inr ⟨w.heap.size, 0, rfl, ?_, fun i hi => ?_⟩
          · obtain ⟨g, cap, e, _, hlt2⟩ := own.form h0
            injection e with e1 e2 e3
            injection e1 with e1
            injection e1 with e1 _
            rw [e1]; exact hlt2
          · have := own.cellAt i (by omega)
            rw [show partT T k = T from by have := HL.out; subst this; exact partT_all T] at this
            rw [Nat.zero_add, this, List.getD_eq_getElem?_getD]
            have hi' : i < T.length := by have := HL.out; omega
            unfold strs
            rw [List.getElem?_map, List.getElem?_eq_getElem hi']
            rfl
      have HF := Lib.hid (And.intro hfin hb)
      clear hfin own hL
      go_wp2
      go_ret
      exact ⟨rfl, HF.out⟩
end Go.Proofs.YtpfdjmffgbbmdaaGreatDoor
