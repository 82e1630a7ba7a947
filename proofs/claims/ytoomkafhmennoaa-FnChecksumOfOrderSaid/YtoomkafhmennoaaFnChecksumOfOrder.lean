/-
  PROVED: FnChecksumOfOrder: for every input the law returns true, and the input reads as it did. No condition.
  The frame is as the kit prints it (proof-skeleton.mjs); the walk is mine.
-/
import Derived.Test.YtoomkafhmennoaaRows
import Derived.Test.YtoomkafhmennoaaDrawT
import Derived.Test.YtoomkafhmennoaaSMathB
import Derived.Test.YtoomkafhmennoaaSent
import Derived.WalkKit
import Derived.Deep.AppendLies
import Derived.ProofKit
import Derived.OpenShut
import Derived.ShutString
import Derived.ChangeOld
import Derived.Below
namespace Go.Proofs.Ytoomkafhmennoaa.fnChecksumOfOrder
open Go.ChangeShapes Go.WideShapes Go.ChangeAt Go.RowKit
open Go.ChangeMaps (open_string shut_string)
set_option linter.unusedVariables false

theorem own : ownKnob Try.prog.godebug = none := by kernel_rfl
theorem laidOut : laidOutB Try.prog = true := by kernel_rfl

/-- WHAT THE WALK IS TOLD OF A SLICE OF INTEGERS THAT CAME IN: it is nil; or it leads to a row of 'cap' cells, the numbers 'zs' (the first 'len' are its elements, the rest its spare room), each fitting its kind. -/
def IsRow (k : IntKind) (w : World) (a : Option Addr) (len cap : Nat) (zs : List Int) : Prop :=
  (a = none ∧ len = 0 ∧ cap = 0 ∧ zs = []) ∨
  ∃ x, a = some x ∧ len ≤ cap ∧ cap ≤ maxLen ∧ zs.length = cap ∧ (∀ i, i < zs.length → w.cell? (x.add i) = some (.int k (zs.getD i 0))) ∧ ∀ n ∈ zs, (Lit.int k n).wf = true

/-! ### STEP 1: THE WALK: the Go text returns true, AND WRITES NOTHING THAT WAS THERE: 'Below w.heap.size w w'' (Derived/Below.lean: '.refl', '.alloc', '.drew', '.setCell' at a new block, '.trans'). Open each 'IsRow' by 'rcases' AHEAD of 'go_enter'; part every test ahead of the walk. -/
theorem u8b_info : (Try.prog.info? 5).map (fun i => (i.zero, i.size, i.bytes)) = some (some (.int .u8 0), 1, 1) := by kernel_rfl
def cellsB (l : List UInt8) : List Value := l.map fun b => Value.int .u8 b.toNat
/-- The last k bytes are the first k in reverse. -/
def part (l : List UInt8) (k : Nat) : List UInt8 := List.replicate (l.length - k) 0 ++ (l.take k).reverse
theorem part_zero (l : List UInt8) : cellsB (part l 0) = List.replicate l.length (.int .u8 0) := by
  unfold part cellsB; simp
theorem part_all (l : List UInt8) : part l l.length = l.reverse := by simp [part]
theorem part_len (l : List UInt8) (k : Nat) (h : k ≤ l.length) : (part l k).length = l.length := by simp [part]; omega
theorem part_set (l : List UInt8) (k : Nat) (h : k < l.length) : (cellsB (part l k)).set (l.length - 1 - k) (.int .u8 ((l.getD k 0).toNat : Int)) = cellsB (part l (k + 1)) := by
  unfold cellsB
  have e : Value.int .u8 ((l.getD k 0).toNat : Int) = (fun b : UInt8 => Value.int .u8 (b.toNat : Int)) (l.getD k 0) := rfl
  rw [e, ← List.map_set]
  congr 1
  unfold part
  rw [show l.length - k = (l.length - 1 - k) + 1 from by omega, List.replicate_succ', List.append_assoc, List.set_append, List.length_replicate, if_neg (by omega), Nat.sub_self]
  rw [List.singleton_append, List.set_cons_zero, show l.length - (k + 1) = l.length - 1 - k from by omega, List.take_succ_eq_append_getElem h, List.reverse_append]
  rw [List.getD_eq_getElem?_getD, List.getElem?_eq_getElem h]
  rfl
theorem cells_some (l : List UInt8) (i : Nat) (h : i < l.length) : ∃ x : Int, (cellsB l)[i]? = some (.int .u8 x) := ⟨(l[i].toNat : Int), by unfold cellsB; rw [List.getElem?_map, List.getElem?_eq_getElem h]; rfl⟩
theorem cellsB_len (l : List UInt8) : (cellsB l).length = l.length := by simp [cellsB]
set_option maxHeartbeats 4000000 in
theorem walk (a0 : Option Addr) (len0 cap0 : Nat) (z0 : List Int) (w : World) (w0 : IsRow .u8 w a0 len0 cap0 z0) :
    Calls Try.prog 4 #[.slice a0 len0 cap0] w fun e w' => e = .returned (.bool true) ∧ Below w.heap.size w w' := by
  by_cases hl : 1048576 < len0
  · have hl' : (1048576 : Int) < (len0 : Int) := by omega
    clear w0 hl
    go_enter Try.func4, Try.ntmps4
    go_wp2
    go_ret
    exact ⟨rfl, Below.refl _ _⟩
  have hl' : ¬ (1048576 : Int) < (len0 : Int) := by omega
  obtain ⟨hc, hcap⟩ := code_of w0 (by omega)
  clear w0 hl
  go_enter Try.func4, Try.ntmps4
  go_wp2_with fail
  refine (DrawChecksumOf_any w a0 len0 cap0 hc hcap).mono ?_
  rintro e w1 ⟨s, rfl, hs, bl⟩
  clear hc hcap
  have hm : s.size ≤ maxLen := by unfold maxLen; omega
  rcases hb : S.body s with _ | _
  · have e0 := S.csum_no hb
    have f1 : S.csum s < 0 := by omega
    clear e0 hb
    go_wp2_with (first | (go_at_call 16; refine (csum_impl _ hm _).mono ?_; rintro e w' ⟨rfl, rfl⟩) | (go_at_call 17; refine (csum_spec _ hm _).mono ?_; rintro e w' ⟨rfl, rfl⟩))
    go_ret
    exact ⟨ret_bool (by simp), by assumption⟩
  · have e0 := S.csum_yes hb
    have f1 : 0 ≤ S.csum s := by omega
    have h40 := (S.body_of hb).1
    have hrev := S.csum_rev hb
    have hll : (S.lst s).length = s.size := S.size_lst s
    obtain ⟨i0, hi0, hz0, hz1, hz2⟩ := info_parts u8b_info
    obtain ⟨w2, hrun, own1, hg1⟩ := run_make_full (P := Try.prog) w1 w1.heap.size 22 5 i0 (.int .u8 0) 1 Try.underlying22 hi0 hz0 hz1 .i64 .i64 s.size (by rw [hz2]; omega) hm (Nat.le_refl _)
    rw [show (Value.int IntKind.u8 0).cells = #[.int .u8 0] from rfl, toList_madeCells_one, Nat.mul_one] at own1
    have own1 : w2.ownsRow w1.heap.size 5 1 (.slice (some ⟨w1.heap.size, 0, none⟩) s.size s.size) s.size (cellsB (part (S.lst s) 0)) := by rw [part_zero, hll]; exact own1
    have hb1 : Below w1.heap.size w1 w2 := (Below.refl _ _).grown hg1 (Nat.le_refl _) (fun k hk => by cases hk)
    have HL := Lib.hid hll
    have HO := Lib.hid own1
    have HB := Lib.hid (bl.trans (hb1.mono bl.size))
    have HR := Lib.hid hrev
    have hbase := bl.size
    clear hll own1 hi0 hz0 hz1 hz2 hg1 hb1 hrev hb e0
    generalize w1.heap.size = D at *
    go_wp2_with (first | (go_at_call 16; refine (csum_impl _ hm _).mono ?_; rintro e w' ⟨rfl, rfl⟩) | (go_at_call 17; refine (csum_spec _ hm _).mono ?_; rintro e w' ⟨rfl, rfl⟩))
    go_loopw [6] (fun i wr => ∃ k : Nat, k ≤ s.size ∧ i = .int .i64 k ∧ wr.ownsRow D 5 1 (.slice (some ⟨D, 0, none⟩) s.size s.size) s.size (cellsB (part (S.lst s) k)) ∧ Below w.heap.size w wr) (fun i _ => s.size - (intOf i).toNat)
    case atStart => exact ⟨0, Nat.zero_le _, rfl, HO.out, HB.out⟩
    case round =>
      obtain ⟨k, hk, rfl, own, hb⟩ := hrel
      by_cases hlt : k < s.size
      · have hat := S.at_get s k
        have hbt := S.at_lt s k
        have hk1 : (0 : Int) ≤ (s.size : Int) - 1 - (k : Int) := by omega
        have hk2 : (s.size : Int) - 1 - (k : Int) < (s.size : Int) := by omega
        obtain ⟨x, hx⟩ := cells_some (part (S.lst s) k) (s.size - 1 - k) (by rw [part_len _ _ (by rw [HL.out]; omega), HL.out]; omega)
        have hcur := own.cellAt (s.size - 1 - k) (by omega)
        rw [hx] at hcur
        have hfr := own.frozenAt (s.size - 1 - k)
        have hst := own.stored (s.size - 1 - k) (.int .u8 (S.at_ s k : Int))
        have hps := part_set (S.lst s) k (by rw [HL.out]; exact hlt)
        rw [HL.out] at hps
        have hps : (cellsB (part (S.lst s) k)).set (s.size - 1 - k) (.int .u8 (S.at_ s k : Int)) = cellsB (part (S.lst s) (k + 1)) := hps
        rw [hps] at hst
        have hb2 : Below w.heap.size w (wr.setCell ⟨D, s.size - 1 - k, none⟩ (.int .u8 (S.at_ s k : Int))) := hb.setCell hbase _
        have HS := Lib.hid (And.intro hst.1 hb2)
        clear hst hb2 own hx hps
        go_wp2
        go_roundw
        case rel => exact ⟨k + 1, by omega, by go_num, HS.out.1, HS.out.2⟩
        case measure => simp [intOf]; omega
      · obtain rfl : k = s.size := by omega
        have hcv0 := run_convert_bytes_back (P := Try.prog) wr 22 9 5 ⟨D, 0, none⟩ s.size (S.lst s).reverse Try.underlying22 Try.underlying5 Try.underlying9 (fun j hj => by
          refine own.cells (g := D) rfl j _ ?_
          have e : part (S.lst s) s.size = (S.lst s).reverse := by have := part_all (S.lst s); rwa [HL.out] at this
          rw [e]
          unfold cellsB
          rw [List.getElem?_map, List.getElem?_eq_getElem hj]; rfl)
        rw [List.length_reverse, HL.out] at hcv0
        have hcv : (convert 22 9 (.slice (some ⟨D, 0, none⟩) s.size s.size)).run Try.prog wr = .ok (.string (S.rev s)) wr := hcv0
        clear hcv0
        have hrs : (S.rev s).size ≤ maxLen := by rw [S.rev_size]; exact hm
        have C := csum_impl (S.rev s) hrs wr
        rw [HR.out] at C
        have HC := Lib.hid C
        clear own C hrs
        generalize S.rev s = rs at *
        go_wp2_with (go_at_call 16; refine HC.out.mono ?_; rintro e w' ⟨rfl, rfl⟩)
        go_ret
        exact ⟨ret_bool (by simp), hb⟩

/-! ### THE ROW's STEP: WRITTEN OUT: LEAVE IT -/
set_option maxRecDepth 100000 in
theorem lifted (os : Os) (started : os.Started) (H : Type) (enc : TypeId × Value → H) :
    ReturnsInHanded {} Try.checked os 4 .any (Rows.fnChecksumOfOrderSpec.pre6 enc Try.prog Try.f4 Rows.fnChecksumOfOrderRow.domain false) (Rows.fnChecksumOfOrderSpec.post enc Try.prog Try.f4 false true false false) := by
  refine returnsInHanded_of_change (C := Try.checked) own started (by kernel_rfl) Try.func4
    (ChangeSpec.witness6 (enc := enc) (C := Try.checked) false ⟨#[], #[.slice none 0 0], []⟩ 8 (by kernel_rfl) (by kernel_rfl) (by kernel_rfl) (by kernel_rfl)) ?_
  intro W base args ds gs before hval0 hW hcnd _
  have hval : ∀ (j : Nat) t v, Try.f4.params[j]? = some t → args[j]? = some v → Value.okWide Try.prog W .any base t v := hval0
  have hW' := hW
  obtain ⟨p, q, hA0, hV, rfl, hfz, hnd⟩ := hW
  have hA : DataW.TrodAll enc Try.prog W 0 (fun _ => true) true Try.f4.params.toList args.toList ds p := hA0
  rw [Try.params4] at hA hval
  obtain ⟨v0, vs0, d0, ds0, p0, q0, hargs, rfl, rfl, h0, r0⟩ := trodAll_cons hA
  obtain ⟨rfl, rfl, rfl⟩ := trodAll_nil r0
  obtain rfl : args = #[v0] := by cases args; simp_all
  obtain ⟨rfl, rfl⟩ := trodVars_none hV
  obtain ⟨a0, len0, cap0, rfl⟩ := okWide_slice Try.underlying22 (hval 0 22 v0 rfl rfl)
  have k0 := h0
  have lt0 : ∀ x ∈ p0, x.block < W.heap.size := by obtain ⟨m, hm⟩ := k0; exact DataW.trod_lt m _ _ _ hm
  obtain ⟨z0, w0⟩ : ∃ zs, IsRow .u8 W a0 len0 cap0 zs := by
    obtain ⟨fuel, hf⟩ := h0
    rcases open_ints Try.underlying22 Try.underlying5 (by kernel_rfl) hf with ⟨hcs, _⟩ | ⟨x, l, c, zs, hcs, _, hl, hm, hz, _, hcell, hwz⟩
    · simp [Value.cells] at hcs
      obtain ⟨rfl, rfl, rfl⟩ := hcs
      exact ⟨[], .inl ⟨rfl, rfl, rfl, rfl⟩⟩
    · simp [Value.cells] at hcs
      obtain ⟨rfl, rfl, rfl⟩ := hcs
      exact ⟨zs, .inr ⟨_, rfl, hl, hm, by simpa using hz, hcell, hwz⟩⟩
  clear hA0 hval0
  refine (walk a0 len0 cap0 z0 W w0).mono fun e W' ⟨he, bel⟩ => ?_
  subst he
  exact ⟨_, rfl, _, _, _, [], _, [], hW', trodAll_mk1 (shut_bool Try.underlying4 _), (trodAll_cons_mk (Below.trod laidOut (by kernel_rfl) (of_decide_eq_true (by kernel_rfl)) k0 bel lt0) trodAll_mk0), rfl, bel.frame _, fun h => by cases h⟩

theorem over : Rows.fnChecksumOfOrderRow.holds Try.pinned (OpenSpec.ofChange Rows.fnChecksumOfOrderSpec) :=
  OpenClaim.holds_of_wide 4 Try.f4 rfl rfl rfl rfl rfl rfl rfl ⟨rfl, rfl, rfl, rfl, rfl⟩ rfl rfl rfl rfl rfl (by kernel_rfl) Try.func4 (by kernel_rfl)
    (of_decide_eq_true (by kernel_rfl)) (by unfold Func.isWrapper; first | (rw [if_pos (by decide +kernel)]; kernel_rfl) | (rw [if_neg (by decide +kernel)]; exact ⟨rfl, rfl⟩))
    (fun os started H enc _ => lifted os started H enc)

/-- ████ THE STATEMENT ████ -/
theorem proved : Rows.FnChecksumOfOrderSaid := over
#print axioms proved
end Go.Proofs.Ytoomkafhmennoaa.fnChecksumOfOrder
