/-
  Buckets as a map's datum: what a store, a look-up, a strike and the keys are, on lists.
-/
import Derived.Test.YtpfdjmffgbbmdaaGreatDoorP1
import Derived.Maps.Own
import Derived.Maps.OwnSet
import Derived.Maps.Views
import Derived.Lib.SlMapFilter
import Derived.Lib.SlKeysI
namespace Go.Proofs.YtpfdjmffgbbmdaaGreatDoor.B
open Go.ChangeMaps
set_option linter.unusedVariables false
def enc (p : Bk) : DataW Unit := .agg [.lit (.int .i64 p.1), .lit (.int .i64 p.2.1), .lit (.int .i64 p.2.2)]
def agg (p : Bk) : Value := .agg #[.int .i64 p.1, .int .i64 p.2.1, .int .i64 p.2.2]
/-- How an element reads. -/
def bkL : List Value → Option (DataW Unit × List MemPlace)
  | [.int .i64 x, .int .i64 y, .int .i64 z] => some (enc (x, y, z), [])
  | _ => none
def bkR : Value → Option (DataW Unit × List MemPlace)
  | .agg a => bkL a.toList
  | _ => none
theorem bkR_mk (x y z : Int) : bkR (.agg #[.int .i64 x, .int .i64 y, .int .i64 z]) = some (enc (x, y, z), []) := rfl
theorem bkR_inv {v : Value} {r : DataW Unit × List MemPlace} (h : bkR v = some r) : ∃ p : Bk, v = agg p ∧ r = (enc p, []) := by
  unfold bkR at h
  split at h
  · rename_i a
    unfold bkL at h
    split at h
    · rename_i x y z e
      injection h with h
      refine ⟨(x, y, z), ?_, h.symm⟩
      unfold agg
      congr 1
      exact Array.toList_inj.1 (by simpa using e)
    · cases h
  · cases h
theorem enc_inj {p q : Bk} (h : enc p = enc q) : p = q := by
  obtain ⟨a, b, c⟩ := p
  obtain ⟨x, y, z⟩ := q
  simp [enc] at h
  obtain ⟨rfl, rfl, rfl⟩ := h
  rfl
def key (c : Int) : Lit := .int .i64 c
theorem key_same (a b : Int) : (key a).sameKey (key b) = (a == b) := by
  unfold key Lit.sameKey
  by_cases h : a = b <;> simp [h]
def ent (p : Bk) : Lit × DataW Unit := (key p.1, enc p)
/-- The datum of a list. -/
def E (l : List Bk) : DataW Unit := .map (l.map ent)
theorem E_nil : E [] = .map [] := rfl
theorem E_size (l : List Bk) : Maps.size (E l) = l.length := by unfold E; rw [Maps.size_eq]; simp
theorem E_keys (l : List Bk) : intKeys (E l) = l.map (·.1) := by
  unfold E intKeys
  simp [ent, key, intOf]
theorem E_has (l : List Bk) (c : Int) : Maps.has (E l) (key c) = (fnd l c).isSome := by
  unfold E fnd
  rw [Maps.has_eq, List.any_map]
  induction l with
  | nil => rfl
  | cons p l ih =>
    have e : ((fun p => (p.1 : Lit).sameKey (key c)) ∘ ent) p = (p.1 == c) := by simp [Function.comp, ent, key_same]
    rw [List.any_cons, List.find?_cons, e]
    by_cases h : p.1 = c
    · have e2 : (p.1 == c) = true := by simp [h]
      rw [e2]; rfl
    · have e2 : (p.1 == c) = false := beq_eq_false_iff_ne.2 h
      rw [e2, Bool.false_or]; exact ih
theorem E_at (l : List Bk) (c : Int) (z : DataW Unit) : (E l).atKey (key c) z = match fnd l c with | some p => enc p | none => z := by
  unfold E fnd DataW.atKey
  simp only
  induction l with
  | nil => rfl
  | cons p l ih =>
    simp only [List.map_cons, List.find?_cons, ent, key_same]
    by_cases h : p.1 = c
    · simp [h]
    · have e : (p.1 == c) = false := beq_eq_false_iff_ne.2 h
      rw [e]; exact ih
theorem ins_at (p : Bk) : ∀ l : List Bk, Asc l → DataW.insert (ent p) ((l.map ent).filter (notKey (key p.1))) = (put l p).map ent
  | [], _ => rfl
  | q :: l, h => by
    have hl : Asc l := (List.pairwise_cons.1 h).2
    have hq := (List.pairwise_cons.1 h).1
    have ih := ins_at p l hl
    unfold put at ih ⊢
    have hn : notKey (key p.1) (ent q) = !(q.1 == p.1) := by unfold notKey ent; rw [key_same]
    rw [List.map_cons, List.filter_cons, hn]
    rcases Int.lt_trichotomy q.1 p.1 with a | a | a
    · have e1 : (q.1 == p.1) = false := beq_eq_false_iff_ne.2 (by omega)
      have e2 : ¬ p.1 < q.1 := by omega
      rw [e1]
      simp only [Bool.not_false, if_true, List.filter_cons, decide_eq_true a, decide_eq_false e2, if_true, Bool.false_eq_true, if_false, List.cons_append, List.map_cons]
      have hb : (ent p).1.before (ent q).1 = false := by simp [ent, key, Lit.before]; omega
      rw [DataW.insert, hb]
      simp only [Bool.false_eq_true, if_false]
      rw [ih]
    · have e1 : (q.1 == p.1) = true := by rw [a]; simp
      have e2 : ¬ p.1 < q.1 := by omega
      have e3 : ¬ q.1 < p.1 := by omega
      rw [e1]
      simp only [Bool.not_true, Bool.false_eq_true, if_false, List.filter_cons, decide_eq_false e3, decide_eq_false e2]
      exact ih
    · have e1 : (q.1 == p.1) = false := beq_eq_false_iff_ne.2 (by omega)
      have e3 : ¬ q.1 < p.1 := by omega
      have hall : ∀ r ∈ l, p.1 < r.1 := fun r hr => by have := hq r hr; omega
      have f1 : l.filter (fun r => decide (r.1 < p.1)) = [] := List.filter_eq_nil_iff.2 (fun r hr => by have := hall r hr; simp; omega)
      have f2 : l.filter (fun r => decide (p.1 < r.1)) = l := List.filter_eq_self.2 (fun r hr => by simpa using hall r hr)
      have f3 : (l.map ent).filter (notKey (key p.1)) = l.map ent := List.filter_eq_self.2 (fun r hr => by
        obtain ⟨s, hs, rfl⟩ := List.mem_map.1 hr
        unfold notKey ent
        rw [key_same]
        have := hall s hs
        simp; omega)
      rw [e1]
      simp only [Bool.not_false, if_true, List.filter_cons, decide_eq_false e3, decide_eq_true a, Bool.false_eq_true, if_false, f1, f2, f3, List.nil_append, List.map_cons]
      have hb : (ent p).1.before (ent q).1 = true := by simp [ent, key, Lit.before]; omega
      rw [DataW.insert, hb]
      simp
theorem E_put {l : List Bk} (h : Asc l) (p : Bk) : (E l).put (key p.1) (enc p) = E (put l p) := by
  unfold E
  rw [DataW.put_eq]
  unfold putKey
  congr 1
  exact ins_at p l h
theorem E_del (pd : Lit → DataW Unit → Bool) (l : List Bk) : Lib.deleteFuncD pd (E l) = E (l.filter (fun p => !pd (key p.1) (enc p))) := by
  unfold E Lib.deleteFuncD
  simp only
  rw [List.filter_map]
  rfl
/-- The keys, sorted, are the clients. -/
theorem keys_sorted {l : List Bk} (h : Asc l) {ss : List Int} (hp : ss.Perm (l.map (·.1))) : ss.mergeSort (fun x y => decide (x ≤ y)) = l.map (·.1) := by
  have h1 : (ss.mergeSort (fun x y => decide (x ≤ y))).Perm (l.map (·.1)) := (List.mergeSort_perm ss _).trans hp
  have h2 : (ss.mergeSort (fun x y => decide (x ≤ y))).Pairwise (fun a b => a ≤ b) := by
    have := List.pairwise_mergeSort (le := fun (x y : Int) => decide (x ≤ y)) (fun a b c h1 h2 => by simp at *; omega) (fun a b => by simp; omega) ss
    exact this.imp (fun h => by simpa using h)
  have h3 : (l.map (·.1)).Pairwise (fun (a b : Int) => a ≤ b) := by
    rw [List.pairwise_map]
    exact List.Pairwise.imp (fun h => by omega) h
  exact h1.eq_of_pairwise (fun a b _ _ h1 h2 => by omega) h2 h3
end Go.Proofs.YtpfdjmffgbbmdaaGreatDoor.B
