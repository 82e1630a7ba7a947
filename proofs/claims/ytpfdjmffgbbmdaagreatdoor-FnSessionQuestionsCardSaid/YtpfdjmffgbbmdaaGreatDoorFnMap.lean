/-
  Maps of method values: how their elements read; the session's two maps of commands.
-/
import Derived.Test.YtpfdjmffgbbmdaaGreatDoorSess
import Derived.Maps.Own
import Derived.StringKeys
import Derived.Maps.OwnSet
import Derived.Maps.Views
namespace Go.Proofs.YtpfdjmffgbbmdaaGreatDoor
open Go.RowKit Go.ChangeMaps Go.Maps Go.Lib
set_option linter.unusedVariables false
set_option maxRecDepth 100000
/-- The method of function k at the object in block b. -/
def mv (k b : Nat) : Value := .func (.func k) #[.pointer (some ⟨b, 0, none⟩)] #[]
/-- How an element reads. -/
def fnL (b k : Nat) : List Value → List Value → Option (DataW Unit × List MemPlace)
  | [.pointer (some ⟨x, 0, none⟩)], [] => if x = b then some (.lit (.int .i64 k), []) else none
  | _, _ => none
def fnR (b : Nat) : Value → Option (DataW Unit × List MemPlace)
  | .nilFunc => some (.nil, [])
  | .func (.func k) f c => fnL b k f.toList c.toList
  | _ => none
theorem fnR_mk (k b : Nat) : fnR b (mv k b) = some (.lit (.int .i64 k), []) := by simp [fnR, mv, fnL]
theorem fnR_nil (b : Nat) : fnR b .nilFunc = some (.nil, []) := rfl
theorem fnR_inv {b k : Nat} {v : Value} {ps : List MemPlace} (h : fnR b v = some (.lit (.int .i64 (k : Int)), ps)) : v = mv k b := by
  unfold fnR at h
  split at h
  · injection h with h; injection h with h; cases h
  · rename_i k' f c
    unfold fnL at h
    split at h
    · rename_i x e1 e2
      split at h
      · rename_i hx
        simp at h
        obtain ⟨hk, -⟩ := h
        subst hx
        have hk2 : k' = k := Int.ofNat.inj hk
        subst hk2
        unfold mv
        congr 1
        · exact Array.toList_inj.1 (by simpa using e1)
        · exact Array.toList_inj.1 (by simpa using e2)
      · cases h
    · cases h
  · cases h
def kS (s : ByteArray) : Lit := .string s.data.toList
def cmds (k1 k2 : ByteArray) (f1 f2 : Nat) : DataW Unit := ((DataW.map []).put (kS k1) (.lit (.int .i64 f1))).put (kS k2) (.lit (.int .i64 f2))
def kLevelB : ByteArray := { data := #[108, 101, 118, 101, 108] }
def kDateB : ByteArray := { data := #[100, 97, 116, 101] }
def kWaitB : ByteArray := { data := #[119, 97, 105, 116] }
def kAskB : ByteArray := { data := #[97, 115, 107] }
theorem key_str (s : ByteArray) (h : s.size ≤ maxLen) : keyOf Tryz.prog 9 (.string s) = some (kS s) := WideMaps.keyOf_string_mk Tryz.underlying9 h
theorem plain_impl (b : Nat) (w : World) : Calls Tryz.prog 45 #[.pointer (some ⟨b, 0, none⟩)] w fun e w' => e = .returned (.map (some w.heap.size)) ∧ w'.ownsMap Tryz.prog 9 (fnR b) w.heap.size 2 (cmds kLevelB kDateB 76 77) ∧ Below w.heap.size w w' := by
  have hmm := @run_makeMap Tryz.prog
  have hmf : ∀ (fn : Fn) (first cap : Array Value) (w : World), (Instr.makeFunc fn first cap).run Tryz.prog w = .ok (.func fn first cap) w := fun _ _ _ _ => rfl
  have m1 : (w.alloc (.map #[] 0)).ownsMap Tryz.prog 9 (fnR b) w.heap.size 0 (.map []) := World.ownsMap_made w _ _ _
  obtain ⟨w2, hr2, m2, g2⟩ := m1.update (string_keyed Tryz.underlying9) Tryz.underlying75 (by unfold maxLen; omega) (key_str kLevelB (by decide)) (fnR_mk 76 b)
  obtain ⟨w3, hr3, m3, g3⟩ := m2.update (string_keyed Tryz.underlying9) Tryz.underlying75 (by unfold maxLen; omega) (key_str kDateB (by decide)) (fnR_mk 77 b)
  have b1 := (Below.refl w.heap.size w).alloc (Nat.le_refl _) (.map #[] 0)
  have b3 : Below w.heap.size w w3 := (b1.grown g2 (by simp) (fun k hk => by injection hk with hk; omega)).grown g3 (by have := g2.size; simp at this; omega) (fun k hk => by injection hk with hk; omega)
  have HR := Lib.hid (And.intro m3 b3)
  unfold mv kLevelB at hr2
  unfold mv kDateB at hr3
  clear m1 m2 m3 g2 g3 b1 b3
  go_enter Tryz.func45, Tryz.ntmps45
  go_wp2
  go_ret
  exact ⟨rfl, HR.out⟩
theorem number_impl (b : Nat) (w : World) : Calls Tryz.prog 46 #[.pointer (some ⟨b, 0, none⟩)] w fun e w' => e = .returned (.map (some w.heap.size)) ∧ w'.ownsMap Tryz.prog 9 (fnR b) w.heap.size 2 (cmds kWaitB kAskB 78 79) ∧ Below w.heap.size w w' := by
  have hmm := @run_makeMap Tryz.prog
  have hmf : ∀ (fn : Fn) (first cap : Array Value) (w : World), (Instr.makeFunc fn first cap).run Tryz.prog w = .ok (.func fn first cap) w := fun _ _ _ _ => rfl
  have m1 : (w.alloc (.map #[] 0)).ownsMap Tryz.prog 9 (fnR b) w.heap.size 0 (.map []) := World.ownsMap_made w _ _ _
  obtain ⟨w2, hr2, m2, g2⟩ := m1.update (string_keyed Tryz.underlying9) Tryz.underlying78 (by unfold maxLen; omega) (key_str kWaitB (by decide)) (fnR_mk 78 b)
  obtain ⟨w3, hr3, m3, g3⟩ := m2.update (string_keyed Tryz.underlying9) Tryz.underlying78 (by unfold maxLen; omega) (key_str kAskB (by decide)) (fnR_mk 79 b)
  have b1 := (Below.refl w.heap.size w).alloc (Nat.le_refl _) (.map #[] 0)
  have b3 : Below w.heap.size w w3 := (b1.grown g2 (by simp) (fun k hk => by injection hk with hk; omega)).grown g3 (by have := g2.size; simp at this; omega) (fun k hk => by injection hk with hk; omega)
  have HR := Lib.hid (And.intro m3 b3)
  unfold mv kWaitB at hr2
  unfold mv kAskB at hr3
  clear m1 m2 m3 g2 g3 b1 b3
  go_enter Tryz.func46, Tryz.ntmps46
  go_wp2
  go_ret
  exact ⟨rfl, HR.out⟩
theorem fnR_inv_nil {b : Nat} {v : Value} {ps : List MemPlace} (h : fnR b v = some (.nil, ps)) : v = .nilFunc := by
  unfold fnR at h
  split at h
  · rfl
  · unfold fnL at h
    split at h
    · split at h
      · injection h with h; injection h with h; cases h
      · cases h
    · cases h
  · cases h
theorem kS_key (a : ByteArray) : WideAt.IsKeyLit (kS a) := trivial
theorem kS_ne {a b : ByteArray} (h : a ≠ b) : kS a ≠ kS b := fun e => h (by
  unfold kS at e
  injection e with e
  apply ByteArray.ext
  exact Array.toList_inj.1 e)
/-- What a look-up finds. -/
def found (k1 k2 a : ByteArray) (f1 f2 b : Nat) : Value := if a = k1 then mv f1 b else if a = k2 then mv f2 b else .nilFunc
theorem look_plain {w : World} {B n b : Nat} {k1 k2 : ByteArray} {f1 f2 : Nat} (h : w.ownsMap Tryz.prog 9 (fnR b) B n (cmds k1 k2 f1 f2)) (a : ByteArray) (ha : a.size ≤ maxLen) (hne : k1 ≠ k2) : (Instr.lookup 75 (.map (some B)) (.string a) true).run Tryz.prog w = .ok (.tuple #[found k1 k2 a f1 f2 b, .bool (decide (a = k1 ∨ a = k2))]) w := by
  obtain ⟨v, ps, hr, hv⟩ := h.look_ok (string_keyed Tryz.underlying9) Tryz.underlying75 (z := .nilFunc) (by kernel_rfl) (fnR_nil b) (key_str a ha)
  rw [hr]
  have hm : IsMap (DataW.map [] : DataW Unit) := ⟨[], rfl⟩
  by_cases e1 : a = k1
  · subst e1
    have c1 : (cmds a k2 f1 f2).atKey (kS a) .nil = .lit (.int .i64 f1) := by
      unfold cmds
      rw [atKey_put_other (kS_ne hne), atKey_put_same hm (kS_key a)]
    have c2 : Maps.has (cmds a k2 f1 f2) (kS a) = true := by
      unfold cmds
      rw [has_put_other (kS_ne hne), has_put_same hm (kS_key a)]
    rw [c1] at hv
    rw [c2, fnR_inv hv]
    simp [found]
  · by_cases e2 : a = k2
    · subst e2
      have hm2 : IsMap ((DataW.map [] : DataW Unit).put (kS k1) (.lit (.int .i64 f1))) := ⟨_, rfl⟩
      have c1 : (cmds k1 a f1 f2).atKey (kS a) .nil = .lit (.int .i64 f2) := by
        unfold cmds
        rw [atKey_put_same hm2 (kS_key a)]
      have c2 : Maps.has (cmds k1 a f1 f2) (kS a) = true := by
        unfold cmds
        rw [has_put_same hm2 (kS_key a)]
      rw [c1] at hv
      rw [c2, fnR_inv hv]
      simp [found, e1]
    · have c1 : (cmds k1 k2 f1 f2).atKey (kS a) .nil = .nil := by
        unfold cmds
        rw [atKey_put_other (kS_ne e2), atKey_put_other (kS_ne e1)]; rfl
      have c2 : Maps.has (cmds k1 k2 f1 f2) (kS a) = false := by
        unfold cmds
        rw [has_put_other (kS_ne e2), has_put_other (kS_ne e1)]; rfl
      rw [c1] at hv
      rw [c2, fnR_inv_nil hv]
      simp [found, e1, e2]
theorem look_number {w : World} {B n b : Nat} {k1 k2 : ByteArray} {f1 f2 : Nat} (h : w.ownsMap Tryz.prog 9 (fnR b) B n (cmds k1 k2 f1 f2)) (a : ByteArray) (ha : a.size ≤ maxLen) (hne : k1 ≠ k2) : (Instr.lookup 78 (.map (some B)) (.string a) true).run Tryz.prog w = .ok (.tuple #[found k1 k2 a f1 f2 b, .bool (decide (a = k1 ∨ a = k2))]) w := by
  obtain ⟨v, ps, hr, hv⟩ := h.look_ok (string_keyed Tryz.underlying9) Tryz.underlying78 (z := .nilFunc) (by kernel_rfl) (fnR_nil b) (key_str a ha)
  rw [hr]
  have hm : IsMap (DataW.map [] : DataW Unit) := ⟨[], rfl⟩
  by_cases e1 : a = k1
  · subst e1
    have c1 : (cmds a k2 f1 f2).atKey (kS a) .nil = .lit (.int .i64 f1) := by
      unfold cmds
      rw [atKey_put_other (kS_ne hne), atKey_put_same hm (kS_key a)]
    have c2 : Maps.has (cmds a k2 f1 f2) (kS a) = true := by
      unfold cmds
      rw [has_put_other (kS_ne hne), has_put_same hm (kS_key a)]
    rw [c1] at hv
    rw [c2, fnR_inv hv]
    simp [found]
  · by_cases e2 : a = k2
    · subst e2
      have hm2 : IsMap ((DataW.map [] : DataW Unit).put (kS k1) (.lit (.int .i64 f1))) := ⟨_, rfl⟩
      have c1 : (cmds k1 a f1 f2).atKey (kS a) .nil = .lit (.int .i64 f2) := by
        unfold cmds
        rw [atKey_put_same hm2 (kS_key a)]
      have c2 : Maps.has (cmds k1 a f1 f2) (kS a) = true := by
        unfold cmds
        rw [has_put_same hm2 (kS_key a)]
      rw [c1] at hv
      rw [c2, fnR_inv hv]
      simp [found, e1]
    · have c1 : (cmds k1 k2 f1 f2).atKey (kS a) .nil = .nil := by
        unfold cmds
        rw [atKey_put_other (kS_ne e2), atKey_put_other (kS_ne e1)]; rfl
      have c2 : Maps.has (cmds k1 k2 f1 f2) (kS a) = false := by
        unfold cmds
        rw [has_put_other (kS_ne e2), has_put_other (kS_ne e1)]; rfl
      rw [c1] at hv
      rw [c2, fnR_inv_nil hv]
      simp [found, e1, e2]
end Go.Proofs.YtpfdjmffgbbmdaaGreatDoor
