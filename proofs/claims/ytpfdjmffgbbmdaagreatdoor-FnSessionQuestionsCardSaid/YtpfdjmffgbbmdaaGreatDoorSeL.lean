/-
  What the laws of sessions share: lists of lines laid by hand, and what is drawn.
-/
import Derived.Test.YtpfdjmffgbbmdaaGreatDoorRunI
import Derived.Test.YtpfdjmffgbbmdaaGreatDoorRunD
import Derived.Test.YtpfdjmffgbbmdaaGreatDoorRunK
import Derived.Test.YtpfdjmffgbbmdaaGreatDoorDrawSe
namespace Go.Proofs.YtpfdjmffgbbmdaaGreatDoor
open Go.RowKit
set_option linter.unusedVariables false
set_option maxRecDepth 100000
theorem beq_mk (l : List UInt8) : ((S.mk l).toList == l) = true := by
  rw [beq_iff_eq, Go.ByteArray.toList_eq]
  exact S.lst_mk l
theorem Texts.cap {B : Nat} {w : World} {a : Option Addr} {c : Nat} {T : List ByteArray} (h : Texts B w a c T) : T.length ≤ c := by
  rcases h.2 with ⟨hv, hn⟩ | ⟨g, cap, cur, hv, _, _, hle, _⟩
  · omega
  · injection hv with _ _ e; omega
theorem Small.get {T : List ByteArray} (h : Small 5010 T) (n : Nat) : ∀ i, i < n → (T.getD i ByteArray.empty).size ≤ 1048576 := fun i _ => by
  rw [List.getD_eq_getElem?_getD]
  rcases e : T[i]? with _ | s
  · simp
  · have := h s (List.mem_of_getElem? e); simp; omega
/-- Lines that a law lays. -/
theorem Rd.lit (w : World) (T : List ByteArray) (t : TypeId) : Rd (w.alloc (.cells (strs T).toArray t)).heap.size (w.alloc (.cells (strs T).toArray t)) (some ⟨w.heap.size, 0, none⟩) T.length T := by
  refine ⟨rfl, ?_⟩
  rcases Nat.eq_zero_or_pos T.length with h0 | h0
  · exact .inl h0
  · refine .inr ⟨w.heap.size, 0, rfl, by simp, fun i hi => ?_⟩
    rw [Nat.zero_add, World.cell?_alloc_new]
    unfold strs
    simp [List.getElem?_map, List.getElem?_eq_getElem hi, List.getD_eq_getElem?_getD]
theorem Rd.take {B : Nat} {w : World} {a : Option Addr} {n : Nat} {T : List ByteArray} (h : Rd B w a n T) (k : Nat) (hk : k ≤ n) : Rd B w a k (T.take k) := by
  refine ⟨by rw [List.length_take, h.1]; omega, ?_⟩
  rcases h.2 with h0 | ⟨b, off, e, hlt, hc⟩
  · exact .inl (by omega)
  · rcases Nat.eq_zero_or_pos k with k0 | k0
    · exact .inl k0
    · refine .inr ⟨b, off, e, hlt, fun i hi => ?_⟩
      rw [hc i (by omega), List.getD_eq_getElem?_getD, List.getD_eq_getElem?_getD, List.getElem?_take_of_lt hi]
theorem Small.take {k : Nat} {T : List ByteArray} (h : Small k T) (n : Nat) : Small k (T.take n) := fun s hs => h s (List.mem_of_mem_take hs)
/-- What the first lines answer stands first. -/
theorem outT_take (T : List ByteArray) (k : Nat) (hk : k ≤ T.length) : ∃ r, outT T = outT (T.take k) ++ r := by
  obtain ⟨r, h⟩ := Z.out_take (T.map S.lst) k (by simpa using hk)
  refine ⟨r, ?_⟩
  unfold outT
  rw [h, List.map_take]
theorem news_rd {B : Nat} {w : World} {g n : Nat} {T : List ByteArray} (h : Rd B w (some ⟨g, 0, none⟩) n T) : ∀ j u, (strs T)[j]? = some u → w.cell? ((⟨g, 0, none⟩ : Addr).add j) = some u := fun j u hu => by
  unfold strs at hu
  rw [List.getElem?_map, Option.map_eq_some_iff] at hu
  obtain ⟨s, hs, rfl⟩ := hu
  have hj : j < T.length := (List.getElem?_eq_some_iff.1 hs).1
  rcases h.2 with h0 | ⟨b, off, e, hlt, hc⟩
  · rw [h.1] at hj; omega
  · injection e with e; injection e with e1 e2
    subst e1 e2
    have := hc j (by rw [← h.1]; exact hj)
    rw [List.getD_eq_getElem?_getD, hs, Nat.zero_add] at this
    rw [show (Addr.add ⟨g, 0, none⟩ j) = ⟨g, j, none⟩ from by unfold Addr.add; split <;> simp_all]
    exact this
theorem strs_one (T : List ByteArray) : ∀ u ∈ strs T, u.oneCell' = true := by intro u hu; unfold strs at hu; simp at hu; obtain ⟨x, _, rfl⟩ := hu; rfl
/-- What an append hands back that is not nil. -/
theorem own_some {B : Nat} {w : World} {v : Value} {n : Nat} {xs : List Value} (h : w.ownsRow B 9 1 v n xs) (hv : ¬ v = .slice none 0 0) : ∃ g' c', v = .slice (some ⟨g', 0, none⟩) n c' := by
  rcases h.2 with ⟨e, _⟩ | ⟨g', cap, cur, e, _⟩
  · exact absurd e hv
  · exact ⟨g', cap, e⟩
def levB : ByteArray := { data := #[108, 101, 118, 101, 108] }
def datB : ByteArray := { data := #[100, 97, 116, 101] }
/-- Questions behind all lines. -/
theorem outT_q (T : List ByteArray) (h : T.length + 3 ≤ 20) : ∃ L M : List UInt8, outT (T ++ [levB]) = outT T ++ L ∧ outT (T ++ [datB, levB, levB]) = outT T ++ (M ++ L) ∧ 1 ≤ M.length ∧ L.length ≤ 620 ∧ M.length ≤ 620 := by
  have e1 := Z.out_level (T.map S.lst) (by simpa using h)
  have e2 := Z.out_date (T.map S.lst) (by simpa using h)
  have l1 : (T ++ [levB]).map S.lst = T.map S.lst ++ [Z.kLevel] := by rw [List.map_append]; rfl
  have l2 : (T ++ [datB, levB, levB]).map S.lst = T.map S.lst ++ [Z.kDate, Z.kLevel, Z.kLevel] := by rw [List.map_append]; rfl
  have o1 := outT_len (T ++ [levB])
  have o2 := outT_len (T ++ [datB, levB, levB])
  refine ⟨_, _, by unfold outT; rw [l1]; exact e1, by unfold outT; rw [l2]; exact e2, ?_, ?_, ?_⟩
  · simp; omega
  · unfold outT at o1; rw [l1, e1, List.length_append] at o1; omega
  · unfold outT at o2; rw [l2, e2, List.length_append, List.length_append] at o2; omega
end Go.Proofs.YtpfdjmffgbbmdaaGreatDoor
