/-
  How the laws compare, mark and look again at lists of texts.
-/
import Derived.Test.YtoomkafhmennoacSplit
import Derived.Deep.RegionHeld3
namespace Go.Proofs.Ytoomkafhmennoac
open Go.RowKit
set_option linter.unusedVariables false
/-- The world is as it was, but for draws. -/
def Stay (w w' : World) : Prop := ∃ q, w' = w.drewN q
theorem Stay.refl (w : World) : Stay w w := ⟨0, rfl⟩
theorem Stay.drewN {a w : World} (h : Stay a w) (q : Nat) : Stay a (w.drewN q) := by obtain ⟨p, rfl⟩ := h; exact ⟨p + q, by rw [World.drewN_drewN]⟩
theorem Stay.below {B : Nat} {w w' : World} (q : Stay w w') : Below B w w' := by obtain ⟨p, rfl⟩ := q; exact below_drewN (Below.refl _ _) p
theorem Stay.size {w w' : World} (q : Stay w w') : w'.heap.size = w.heap.size := by obtain ⟨k, rfl⟩ := q; rfl
/-- A list of texts that can be read, in blocks below B. -/
def Rd (B : Nat) (w : World) (a : Option Addr) (n : Nat) (T : List ByteArray) : Prop :=
  T.length = n ∧ (n = 0 ∨ ∃ b off, a = some ⟨b, off, none⟩ ∧ b < B ∧ ∀ i, i < n → w.cell? ⟨b, off + i, none⟩ = some (.string (T.getD i ByteArray.empty)))
theorem Rd.at_ {B : Nat} {w : World} {a : Option Addr} {n : Nat} {T : List ByteArray} (h : Rd B w a n T) (i : Nat) (hi : i < n) : ∃ b off, a = some ⟨b, off, none⟩ ∧ b < B ∧ ∀ i, i < n → w.cell? ⟨b, off + i, none⟩ = some (.string (T.getD i ByteArray.empty)) := by
  rcases h.2 with h0 | h0
  · omega
  · exact h0
theorem Rd.keep {B B' : Nat} {w w' : World} {a : Option Addr} {n : Nat} {T : List ByteArray} (h : Rd B w a n T) (hb : Below B' w w') (hB : B ≤ B') : Rd B w' a n T :=
  ⟨h.1, h.2.imp_right fun ⟨b, off, e, hlt, hc⟩ => ⟨b, off, e, hlt, fun i hi => (hb.cell (p := ⟨b, off + i, none⟩) (by show b < B'; omega)).trans (hc i hi)⟩⟩
theorem Rd.drewN {B : Nat} {w : World} {a : Option Addr} {n : Nat} {T : List ByteArray} (h : Rd B w a n T) (q : Nat) : Rd B (w.drewN q) a n T := h
theorem Rd.more {B B' : Nat} {w : World} {a : Option Addr} {n : Nat} {T : List ByteArray} (h : Rd B w a n T) (hB : B ≤ B') : Rd B' w a n T :=
  ⟨h.1, h.2.imp_right fun ⟨b, off, e, hlt, hc⟩ => ⟨b, off, e, by omega, hc⟩⟩
theorem Texts.rd {B : Nat} {w : World} {a : Option Addr} {c : Nat} {T : List ByteArray} (h : Texts B w a c T) : Rd w.heap.size w a T.length T := by
  refine ⟨rfl, ?_⟩
  rcases Nat.eq_zero_or_pos T.length with h0 | h0
  · exact .inl h0
  · obtain ⟨g, x, e, _, hg, _, _⟩ := h.at_ 0 h0
    refine .inr ⟨g, 0, e, hg, fun i hi => ?_⟩
    obtain ⟨g', x', e', _, _, hx, hc⟩ := h.at_ i hi
    rw [e] at e'; injection e' with e'; injection e' with e'
    subst e'
    rw [Nat.zero_add, hc, List.getD_eq_getElem?_getD, hx]; rfl
theorem eqS_15 (B B' n c c' : Nat) (a a' : Option Addr) (T : List ByteArray) (w : World) (h : Rd B w a n T) (h' : Rd B' w a' n T) (hn : n ≤ 1000) : Calls Try.prog 15 #[.slice a n c, .slice a' n c'] w fun e w' => e = .returned (.bool true) ∧ Stay w w' := by
  go_enter Try.func15, Try.ntmps15
  go_wp2
  go_loopw [5] (fun i wr => ∃ k : Nat, k ≤ n ∧ i = .int .i64 k ∧ Stay w wr) (fun i _ => n - (intOf i).toNat)
  case atStart => exact ⟨0, Nat.zero_le _, rfl, Stay.refl _⟩
  case round =>
    obtain ⟨k, hk, rfl, hs⟩ := hrel
    by_cases hlt : k < n
    · obtain ⟨b, off, rfl, hbb, hc⟩ := (h.keep (hs.below (B := B)) (Nat.le_refl _)).at_ k hlt
      obtain ⟨b', off', rfl, hbb', hc'⟩ := (h'.keep (hs.below (B := B')) (Nat.le_refl _)).at_ k hlt
      have ck := hc k hlt
      have ck' := hc' k hlt
      clear hc hc'
      generalize T.getD k ByteArray.empty = x at ck ck'
      go_wp2
      go_quiet (fail)
      go_wp2
      go_roundw
      case rel => exact ⟨k + 1, by omega, by go_num, hs.drewN _⟩
      case measure => simp [intOf]; omega
    · go_wp2
      go_ret
      exact ⟨rfl, hs⟩
def dg (k : Nat) : UInt8 := UInt8.ofNat (48 + k)
def mt (k : Nat) : ByteArray := S.mk [109, dg k]
/-- The loop's two heads. -/
def MarkAt (k : Nat) (o z : Value) : Prop := (o = .string { data := #[] } ∧ z = .int .i64 k) ∨ (o = .string (S.mk [dg k]) ∧ z = .int .i64 0)
theorem run_one {P : Program} (src dst e : TypeId) (hs : P.underlying src = some (.slice e)) (he : P.underlying e = some (.int .u8)) (hd : P.underlying dst = some .string) (D : Nat) (x : UInt8) (W : World)
    (h0 : W.cell? ⟨D, 0, none⟩ = some (.int .u8 (x.toNat : Int))) :
    (convert src dst (.slice (some ⟨D, 0, none⟩) 1 1)).run P W = .ok (.string (S.mk [x])) W :=
  run_convert_bytes_back W src dst e ⟨D, 0, none⟩ 1 [x] hs he hd (fun j hj => by
    match j, hj with
    | 0, _ => exact h0)
theorem markText_any (k : Nat) (h1 : 1 ≤ k) (h9 : k ≤ 9) (w : World) : Calls Try.prog 38 #[.int .i64 k] w fun e w' => e = .returned (.string (mt k)) ∧ Below w.heap.size w w' := by
  go_enter Try.func38, Try.ntmps38
  go_wp2
  go_loopw [3, 0] (fun o z wr => MarkAt k o z ∧ Below w.heap.size w wr) (fun _ z _ => (intOf z).toNat)
  case atStart => exact ⟨.inl ⟨rfl, rfl⟩, Below.refl _ _⟩
  case round =>
    obtain ⟨⟨rfl, rfl⟩ | ⟨rfl, rfl⟩, hb⟩ := hrel
    · have hk0 : (0 : Int) < (k : Int) := by omega
      have hm : (k : Int) % 10 = k := by omega
      have hd : (k : Int) / 10 = 0 := by omega
      have hu : ((dg k).toNat : Int) = 48 + (k : Int) := by
        unfold dg
        rw [UInt8.toNat_ofNat']; omega
      have i3 := run_one (P := Try.prog) 47 9 5 Try.underlying47 Try.underlying5 Try.underlying9 wr.heap.size (dg k) (wr.alloc (.cells #[.int .u8 (48 + (k : Int))] 5)) (by rw [hu]; simp)
      have n2 : (S.mk [dg k]).size = 1 := S.size_mk _
      have hap : S.mk [dg k] ++ { data := #[] } = S.mk [dg k] := by apply S.ext; rw [S.lst_append]; simp [S.lst]
      have HA := Lib.hid hap
      clear hap hu
      go_wp2
      go_roundw
      case rel => exact ⟨.inr ⟨by rw [HA.out], rfl⟩, hb.alloc hb.size _⟩
      case measure => simp [intOf]; omega
    · have n2 : (S.mk [dg k]).size = 1 := S.size_mk _
      go_wp2
      go_ret
      exact ⟨ret_str (by apply S.ext; rw [S.lst_append]; rfl), hb⟩
theorem markText_at (z : Int) (k : Nat) (hz : z = k) (h1 : 1 ≤ k) (h9 : k ≤ 9) (w : World) : Calls Try.prog 38 #[.int .i64 z] w fun e w' => e = .returned (.string (mt k)) ∧ Below w.heap.size w w' := by
  subst hz; exact markText_any k h1 h9 w
def marks (n : Nat) : List ByteArray := (List.range n).map (fun i => mt (i + 1))
def mix (T : List ByteArray) (j : Nat) : List ByteArray := marks j ++ T.drop j
theorem marks_len (n : Nat) : (marks n).length = n := by simp [marks]
theorem mix_len (T : List ByteArray) (j : Nat) (h : j ≤ T.length) : (mix T j).length = T.length := by simp [mix, marks_len]; omega
theorem mix_zero (T : List ByteArray) : mix T 0 = T := rfl
theorem mix_all (T : List ByteArray) : mix T T.length = marks T.length := by simp [mix]
theorem mix_set (T : List ByteArray) (j : Nat) (h : j < T.length) : (strs (mix T j)).set j (.string (mt (j + 1))) = strs (mix T (j + 1)) := by
  unfold strs
  rw [← List.map_set]
  congr 1
  unfold mix
  rw [List.set_append, marks_len, if_neg (by omega), Nat.sub_self, List.drop_eq_getElem_cons h, List.set_cons_zero]
  unfold marks
  rw [List.range_succ, List.map_append]
  simp
theorem mark_at (n i : Nat) (h : i < n) : (strs (marks n))[i]? = some (.string (mt (i + 1))) := by
  unfold strs marks
  rw [List.getElem?_map, List.getElem?_map, List.getElem?_range h]; rfl
theorem strs_some (T : List ByteArray) (i : Nat) (h : i < T.length) : ∃ x, (strs T)[i]? = some (.string x) := ⟨T[i], by unfold strs; rw [List.getElem?_map, List.getElem?_eq_getElem h]; rfl⟩
theorem own_keep {B : Nat} {w w' : World} {e : TypeId} {k n c : Nat} {a : Option Addr} {xs : List Value} (h : w.ownsRow B e k (.slice a n c) n xs) (hb : Below w.heap.size w w') : w'.ownsRow B e k (.slice a n c) n xs :=
  World.ownsRow.kept (row := none) h ⟨hb.os, hb.tape, hb.output, hb.size, fun j hj _ => hb.block j hj⟩ (by cases a <;> simp [Value.ownBlock])
set_option maxHeartbeats 1000000 in
theorem markS_any (B c : Nat) (a : Option Addr) (T : List ByteArray) (w : World) (h : Texts B w a c T) (hn : T.length ≤ 8) (hB : B ≤ w.heap.size) : Calls Try.prog 16 #[.slice a T.length c, .int .i64 1] w fun e w' => e = .returned (.int .i64 ((T.length : Int) + 1)) ∧ Texts B w' a c (marks T.length) ∧ Below B w w' := by
  have H := Lib.hid h
  clear h
  go_enter Try.func16, Try.ntmps16
  go_wp2
  go_loopw [5, 1] (fun i k wr => ∃ j : Nat, j ≤ T.length ∧ i = .int .i64 j ∧ k = .int .i64 ((j : Int) + 1) ∧ wr.ownsRow B 9 1 (.slice a T.length c) T.length (strs (mix T j)) ∧ Below B w wr) (fun i _ _ => T.length - (intOf i).toNat)
  case atStart => exact ⟨0, Nat.zero_le _, rfl, rfl, H.out, Below.refl _ _⟩
  case round =>
    obtain ⟨j, hj, rfl, rfl, own, hb⟩ := hrel
    by_cases hlt : j < T.length
    · obtain ⟨g, cap, hv, hg0, hg1⟩ := own.form (by omega)
      injection hv with e1 e2 e3
      subst e1
      subst e3
      clear e2
      go_wp2_with fail
      refine (markText_at _ (j + 1) (by push_cast; rfl) (by omega) (by omega) wr).mono ?_
      rintro e w2 ⟨rfl, b2⟩
      have own2 := own_keep own b2
      obtain ⟨x, hx⟩ := strs_some (mix T j) j (by rw [mix_len _ _ hj]; exact hlt)
      have hcur := own2.cellAt j (by omega)
      rw [hx] at hcur
      have hfr := own2.frozenAt j
      have hst := own2.stored j (.string (mt (j + 1)))
      rw [mix_set _ _ hlt] at hst
      have hb3 : Below B w (w2.setCell ⟨g, j, none⟩ (.string (mt (j + 1)))) := (hb.trans (b2.mono (Nat.le_trans hB hb.size))).setCell hg0 _
      have HS := Lib.hid (And.intro hst.1 hb3)
      clear hst hb3 own own2 hx b2
      go_wp2
      go_roundw
      case rel => exact ⟨j + 1, by omega, by go_num, by go_num, HS.out.1, HS.out.2⟩
      case measure => simp [intOf]; omega
    · have hj2 : j = T.length := by omega
      have HF : Hid (Texts B wr a c (marks T.length) ∧ Below B w wr) := by
        refine Lib.hid ⟨?_, hb⟩
        unfold Texts
        rw [marks_len, ← mix_all, ← hj2]
        rw [hj2] at own ⊢
        exact own
      subst hj2
      clear own
      go_wp2
      go_ret
      exact ⟨rfl, HF.out⟩
set_option maxHeartbeats 2000000 in
theorem heldS_any (B c n : Nat) (a : Option Addr) (w : World) (h : Texts B w a c (marks n)) (hn : n ≤ 8) : Calls Try.prog 17 #[.slice a n c, .int .i64 1] w fun e w' => e = .returned (.int .i64 ((n : Int) + 1)) ∧ Below w.heap.size w w' := by
  have own : w.ownsRow B 9 1 (.slice a n c) n (strs (marks n)) := by have := h; unfold Texts at this; rw [marks_len] at this; exact this
  have HO := Lib.hid own
  clear h own
  go_enter Try.func17, Try.ntmps17
  go_wp2
  go_loopw [5, 1] (fun i k wr => ∃ j : Nat, j ≤ n ∧ i = .int .i64 j ∧ k = .int .i64 ((j : Int) + 1) ∧ Below w.heap.size w wr) (fun i _ _ => n - (intOf i).toNat)
  case atStart => exact ⟨0, Nat.zero_le _, rfl, rfl, Below.refl _ _⟩
  case round =>
    obtain ⟨j, hj, rfl, rfl, hb⟩ := hrel
    by_cases hlt : j < n
    · obtain ⟨g, cap, hv, hg0, hg1⟩ := HO.out.form (by omega)
      injection hv with e1 e2 e3
      subst e1
      subst e3
      clear e2
      have ck := HO.out.cellAt j (by omega)
      rw [mark_at n j hlt] at ck
      have ck2 := (hb.cell (p := ⟨g, j, none⟩) hg1).trans ck
      have hg2 : g < wr.heap.size := Nat.lt_of_lt_of_le hg1 hb.size
      clear ck
      go_wp2
      go_region_held3 (fun w' => w'.cell? ⟨g, j, none⟩ = some (.string (mt (j + 1))))
        (first | exact ck2 | (refine (b2.cell (p := ⟨g, j, none⟩) ?_).trans ?_ <;> (first | assumption | exact hg2)))
        ((go_at_call 38; refine (markText_at _ (j + 1) (by push_cast; rfl) (by omega) (by omega) _).mono ?_; rintro e w2 ⟨rfl, b2⟩))
      go_wp2
      go_roundw
      case rel => exact ⟨j + 1, by omega, by go_num, by go_num, by first | exact hb.drew.trans (b2.mono hb.size) | exact hb.trans (b2.mono hb.size)⟩
      case measure => simp [intOf]; omega
    · have hj2 : j = n := by omega
      subst hj2
      go_wp2
      go_ret
      exact ⟨rfl, hb⟩
end Go.Proofs.Ytoomkafhmennoac
