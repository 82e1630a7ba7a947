/-
  Sessions (chapter 17): a session and its buckets in memory, the program's and the model's; how they are kept.
-/
import Derived.Test.YtpfdjmffgbbmdaaGreatDoorDesk
import Derived.Test.YtpfdjmffgbbmdaaGreatDoorTakeT
import Derived.Test.YtpfdjmffgbbmdaaGreatDoorSpecB
import Derived.Test.YtpfdjmffgbbmdaaGreatDoorBuildF
namespace Go.Proofs.YtpfdjmffgbbmdaaGreatDoor
open Go.RowKit
set_option linter.unusedVariables false
set_option maxRecDepth 100000
/-- The list lies in another block than b. -/
def Off (a : Option Addr) (b : Nat) : Prop := ∀ x, a = some x → x.block ≠ b
theorem own_other {B b : Nat} {w w' : World} {a : Option Addr} {c : Nat} {l : List Q.Sm} (h : OwQ B w a c l) (hg : w.grownBy w' (some b)) (hf : Off a b) : OwQ B w' a c l := by
  refine World.ownsRow.kept h hg ?_
  rcases a with _ | x
  · exact .inl rfl
  · exact .inr fun e => hf x rfl (Option.some.inj e)
theorem own_fr {B : Nat} {w w' : World} {a : Option Addr} {c : Nat} {l : List Q.Sm} (h : OwQ B w a c l) (hf : Fr w w') : OwQ B w' a c l := by
  refine ⟨h.1, ?_⟩
  rcases h.2 with hn | ⟨g, cap, cur, hv, hb, hh, rest⟩
  · exact .inl hn
  · exact .inr ⟨g, cap, cur, hv, hb, (hf g _ _ _ hh (by decide) (by decide)).trans hh, rest⟩
theorem own_off {B b : Nat} {w : World} {a : Option Addr} {c : Nat} {l : List Q.Sm} (h : OwQ B w a c l) (hb : b < B) : OwQ 0 w a c l ∧ Off a b := by
  refine ⟨h.more (Nat.zero_le _), fun x e => ?_⟩
  rcases h.2 with ⟨hv, _⟩ | ⟨g, cap, cur, hv, hg, _⟩
  · injection hv with hv; rw [e] at hv; cases hv
  · injection hv with hv; rw [e] at hv; injection hv with hv; rw [hv]; show g ≠ b; omega
/-- The program's session and its buckets. -/
def Ses (w : World) (b : Nat) (q : Z.Q) : Prop := ∃ a c, SsI w b q.t q.e q.s a q.l.length c ∧ OwQ 0 w a c q.l ∧ Off a b
theorem Ses.b {w w' : World} {b : Nat} {q : Z.Q} (h : Ses w b q) (hb : Below w.heap.size w w') : Ses w' b q := by
  obtain ⟨a, c, hS, hL, hF⟩ := h
  exact ⟨a, c, hS.b hb, hL.keep hb, hF⟩
theorem Ses.lt {w : World} {b : Nat} {q : Z.Q} (h : Ses w b q) : b < w.heap.size := by obtain ⟨_, _, hS, _⟩ := h; exact hS.lt
theorem Ses.fr {w w' : World} {b B : Nat} {q : Z.Q} (h : Ses w b q) (hb : Below B w w') (hlt : b < B) (hf : Fr w w') : Ses w' b q := by
  obtain ⟨a, c, hS, hL, hF⟩ := h
  have hbk := hb.block b hlt
  have k : ∀ i, w'.cell? ⟨b, i, none⟩ = w.cell? ⟨b, i, none⟩ := fun i => World.cell?_of_block (a := ⟨b, i, none⟩) hbk
  exact ⟨a, c, ⟨(k 0).trans hS.c0, (k 1).trans hS.c1, (k 2).trans hS.c2, (k 3).trans hS.c3, (k 4).trans hS.c4, fun i hi => (World.frozen?_of_block (a := ⟨b, i, none⟩) hbk).trans (hS.f i hi), Nat.lt_of_lt_of_le hS.lt hb.size⟩, own_fr hL hf, hF⟩
/-- The model's desk and its buckets. -/
def Dks (w : World) (b : Nat) (q : Z.Q) : Prop := ∃ a c, Dk w b q.t q.e q.s a q.l.length c ∧ OwQ 0 w a c q.l ∧ Off a b
theorem Dks.b {w w' : World} {b : Nat} {q : Z.Q} (h : Dks w b q) (hb : Below w.heap.size w w') : Dks w' b q := by
  obtain ⟨a, c, hS, hL, hF⟩ := h
  exact ⟨a, c, hS.b hb, hL.keep hb, hF⟩
theorem Dks.lt {w : World} {b : Nat} {q : Z.Q} (h : Dks w b q) : b < w.heap.size := by obtain ⟨_, _, hS, _⟩ := h; exact hS.lt
theorem own_sms {w : World} {a : Option Addr} {c : Nat} {l : List Q.Sm} (h : OwQ 0 w a c l) (h8 : l.length ≤ 8) : Sms w.heap.size w a l.length l := (h.sms (by omega)).1
/-- The library's MaxLen is laid. -/
def Mx (w : World) : Prop := ∃ m, w.cell? ⟨1, 0, none⟩ = some (.int .i64 m)
theorem Mx.b {w w' : World} (h : Mx w) (hb : Below w.heap.size w w') : Mx w' := by
  obtain ⟨m, h⟩ := h
  exact ⟨m, (hb.cell (p := ⟨1, 0, none⟩) (World.block_lt_of_cell? _ _ h)).trans h⟩
/-- The library's tables lie below block b. -/
def Tz (b : Nat) (w : World) : Prop := ∀ w', Below b w w' → Tb w' ∧ Mx w'
theorem Tz.mk {w0 w : World} (h : Tb w0) (hm : Mx w0) (hb : Below w0.heap.size w0 w) : Tz w0.heap.size w := fun w' h' => ⟨h.b (hb.trans h'), hm.b (hb.trans h')⟩
theorem Tz.t {b : Nat} {w : World} (h : Tz b w) : Tb w := (h w (Below.refl _ _)).1
theorem Tz.m {b : Nat} {w : World} (h : Tz b w) : Mx w := (h w (Below.refl _ _)).2
theorem Tz.gb {b : Nat} {w w' : World} (h : Tz b w) (hb : b < w.heap.size) (hg : w.grownBy w' (some b)) : Tz b w' := fun x hx => h x ((below_gb (Below.refl b w) hg (Nat.le_refl _) (Nat.le_of_lt hb)).trans hx)
/-- What a command does with a session. -/
def Did (P : World → Nat → Z.Q → Prop) (w : World) (b : Nat) (r : Z.Q × List UInt8) (e : Ending) (w' : World) : Prop := e = .returned (.string (S.mk r.2)) ∧ P w' b r.1 ∧ w.grownBy w' (some b)
theorem Did.quiet {w w' : World} {b : Nat} {q : Z.Q} {l : List UInt8} (h : Ses w b q) (hb : Below w.heap.size w w') : Did Ses w b (q, l) (.returned (.string (S.mk l))) w' := ⟨rfl, h.b hb, gb_below _ hb⟩
theorem Did.quietD {w w' : World} {b : Nat} {q : Z.Q} {l : List UInt8} (h : Dks w b q) (hb : Below w.heap.size w w') : Did Dks w b (q, l) (.returned (.string (S.mk l))) w' := ⟨rfl, h.b hb, gb_below _ hb⟩
theorem wait_impl (b : Nat) (q : Z.Q) (k : Int) (w : World) (h : Ses w b q) (hq : Z.Ok q) : Calls Tryz.prog 78 #[.pointer (some ⟨b, 0, none⟩), .int .i64 k] w (Did Ses w b (Z.waitA q k)) := by
  obtain ⟨a, c, hS, hL, hF⟩ := id h
  by_cases hk : Z.waitOk q k
  · rw [Z.wait_yes hk]
    refine (wait_impl_yes b q.t q.e q.s k a _ c w hS ⟨hq.t0, hq.t1⟩ hk).mono ?_
    rintro r w' ⟨rfl, rfl⟩
    have hg : w.grownBy (w.setCell ⟨b, 0, none⟩ (.int .i64 (q.t + k))) (some b) := gb_set (gb_refl _ _) _ _
    exact ⟨rfl, ⟨a, c, hS.time _, own_other hL hg hF, hF⟩, hg⟩
  · rw [Z.wait_no hk]
    refine (wait_impl_no b q.t q.e q.s k a _ c w hS ⟨hq.t0, hq.t1⟩ hk).mono ?_
    rintro r w' ⟨rfl, rfl⟩
    exact Did.quiet h (Below.refl _ _)
theorem takeFix_impl (b : Nat) (q : Z.Q) (x : ByteArray) (hx : x.size ≤ 1048576) (w : World) (h : Ses w b q) (hq : Z.Ok q) (hT : Tz b w) : Calls Tryz.prog 43 #[.pointer (some ⟨b, 0, none⟩), .string x] w (Did Ses w b (Z.fixA q x)) := by
  obtain ⟨a, c, hS, hL, hF⟩ := id h
  by_cases hk : Z.fixOk q x
  · rw [Z.fix_yes hk]
    refine (fix_impl_yes b q.t q.e q.s a _ c x hx w hS hT.t hk hq.ok).mono ?_
    rintro r w' ⟨rfl, hS', hg⟩
    exact ⟨rfl, ⟨a, c, hS', own_other hL hg hF, hF⟩, hg⟩
  · rw [Z.fix_no hk]
    refine (fix_impl_no b q.t q.e q.s a _ c x hx w hS hT.t hk).mono ?_
    rintro r w' ⟨rfl, hb⟩
    exact Did.quiet h hb
theorem lev_impl (b : Nat) (q : Z.Q) (w : World) (h : Ses w b q) (hq : Z.Ok q) (hT : Tz b w) : Calls Tryz.prog 76 #[.pointer (some ⟨b, 0, none⟩)] w (Did Ses w b (q, Z.levelA q)) := by
  obtain ⟨a, c, hS, hL, hF⟩ := id h
  refine (level_impl b q.t q.e q.s a _ c w hS hq.ok hT.t).mono ?_
  rintro r w' ⟨rfl, hb⟩
  exact Did.quiet h hb
theorem dat_impl (b : Nat) (q : Z.Q) (w : World) (h : Ses w b q) (hq : Z.Ok q) (hT : Tz b w) : Calls Tryz.prog 77 #[.pointer (some ⟨b, 0, none⟩)] w (Did Ses w b (q, Z.dateA q)) := by
  obtain ⟨a, c, hS, hL, hF⟩ := id h
  refine (date_impl b q.t q.e q.s a _ c w hS ⟨hq.t0, hq.t1⟩ hT.t).mono ?_
  rintro r w' ⟨rfl, hb⟩
  exact Did.quiet h hb
theorem wait_spec (b : Nat) (q : Z.Q) (k : Int) (w : World) (h : Dks w b q) (hq : Z.Ok q) (hb : k ≤ 10000000000) : Calls Tryz.prog 50 #[.pointer (some ⟨b, 0, none⟩), .int .i64 k] w (Did Dks w b (Z.waitA q k)) := by
  obtain ⟨a, c, hS, hL, hF⟩ := id h
  by_cases hk : Z.waitOk q k
  · rw [Z.wait_yes hk]
    refine (wait_spec_yes b q.t q.e q.s k a _ c w hS ⟨hq.t0, hq.t1⟩ hk).mono ?_
    rintro r w' ⟨rfl, rfl⟩
    have hg : w.grownBy (w.setCell ⟨b, 3, none⟩ (.int .i64 (q.t + k))) (some b) := gb_set (gb_refl _ _) _ _
    exact ⟨rfl, ⟨a, c, hS.time _, own_other hL hg hF, hF⟩, hg⟩
  · rw [Z.wait_no hk]
    refine (wait_spec_no b q.t q.e q.s k a _ c w hS ⟨hq.t0, hq.t1⟩ hk hb).mono ?_
    rintro r w' ⟨rfl, rfl⟩
    exact Did.quietD h (Below.refl _ _)
theorem fix_spec (b : Nat) (q : Z.Q) (x : ByteArray) (hx : x.size ≤ 1048576) (w : World) (h : Dks w b q) (hq : Z.Ok q) : Calls Tryz.prog 49 #[.pointer (some ⟨b, 0, none⟩), .string x] w (Did Dks w b (Z.fixA q x)) := by
  obtain ⟨a, c, hS, hL, hF⟩ := id h
  by_cases hk : Z.fixOk q x
  · rw [Z.fix_yes hk]
    refine (fix_spec_yes b q.t q.e q.s a _ c x hx w hS hk hq.ok).mono ?_
    rintro r w' ⟨rfl, hS', hg⟩
    exact ⟨rfl, ⟨a, c, hS', own_other hL hg hF, hF⟩, hg⟩
  · rw [Z.fix_no hk]
    refine (fix_spec_no b q.t q.e q.s a _ c x hx w hS hk).mono ?_
    rintro r w' ⟨rfl, hb⟩
    exact Did.quietD h hb
end Go.Proofs.YtpfdjmffgbbmdaaGreatDoor
