/-
  PROVED: FnAgreedSpanOrder: for every input the law returns true, and the input reads as it did. No condition.
  The frame is as the kit prints it (proof-skeleton.mjs); the walk is mine.
-/
import Derived.Test.YtpllodjahanpkaaRows
import Derived.Test.YtpllodjahanpkaaSt
import Derived.Test.YtpllodjahanpkaaIAg
import Derived.Test.YtpllodjahanpkaaDrawV
import Derived.WalkKit
import Derived.WalkSpells
import Derived.Deep.AppendLies
import Derived.ProofKit
import Derived.OpenShut
import Derived.ShutString
import Derived.ChangeOld
import Derived.Below
namespace Go.Proofs.Ytpllodjahanpkaa.fnAgreedSpanOrder
open Go.ChangeShapes Go.WideShapes Go.ChangeAt Go.RowKit
open Go.ChangeMaps (open_string shut_string)
set_option linter.unusedVariables false

theorem own : ownKnob Try.prog.godebug = none := by kernel_rfl
theorem laidOut : laidOutB Try.prog = true := by kernel_rfl

/-- WHAT THE WALK IS TOLD OF A SLICE OF INTEGERS THAT CAME IN: it is nil; or it leads to a row of 'cap' cells, the numbers 'zs' (the first 'len' are its elements, the rest its spare room), each fitting its kind. -/
def IsRow (k : IntKind) (w : World) (a : Option Addr) (len cap : Nat) (zs : List Int) : Prop :=
  (a = none ∧ len = 0 ∧ cap = 0 ∧ zs = []) ∨
  ∃ x, a = some x ∧ len ≤ cap ∧ cap ≤ maxLen ∧ zs.length = cap ∧ (∀ i, i < zs.length → w.cell? (x.add i) = some (.int k (zs.getD i 0))) ∧ ∀ n ∈ zs, (Lit.int k n).wf = true

/-! ### STEP 1: THE WALK: the Go text returns true, AND WRITES NOTHING THAT WAS THERE: 'Below w.heap.size w w'' (Derived/Below.lean: '.refl', '.alloc', '.drew', '.setCell' at a new block, '.trans'). Open each 'IsRow' by 'rcases' AHEAD of 'go_enter'; part every test ahead of the walk. -/
theorem rev_take (l : List (Int × Int)) (k : Nat) (h : k < l.length) : (l.drop (k + 1)).reverse ++ [(V.lo l k, V.hi l k)] = (l.drop k).reverse := by
  have := V.get l k h
  rw [List.getElem?_eq_getElem h] at this
  injection this with this
  rw [List.drop_eq_getElem_cons h, List.reverse_cons, this]
theorem prs_sps {T : TypeId} {B : Nat} {w : World} {a : Option Addr} {c : Nat} {l : List (Int × Int)} (h : Prs T B w a c l) (hl : l.length ≤ 1048576) : Sps w.heap.size w a l.length l := by
  rcases Nat.eq_zero_or_pos l.length with h0 | h0
  · exact ⟨rfl, hl, .inl h0⟩
  · obtain ⟨g, e, _, hlt, hc⟩ := h.form h0
    refine ⟨rfl, hl, .inr ⟨g, 0, e, hlt, fun i hi => ?_⟩⟩
    rw [Nat.zero_add]; exact (hc i hi).1
set_option maxHeartbeats 4000000 in
theorem walk (a0 : Option Addr) (len0 cap0 : Nat) (z0 : List Int) (w : World) (w0 : IsRow .u8 w a0 len0 cap0 z0) :
    Calls Try.prog 9 #[.slice a0 len0 cap0] w fun e w' => e = .returned (.bool true) ∧ Below w.heap.size w w' := by
  by_cases hl : 1048576 < len0
  · have hl' : (1048576 : Int) < (len0 : Int) := by omega
    clear w0 hl
    go_enter Try.func9, Try.ntmps9
    go_wp2
    go_ret
    exact ⟨rfl, Below.refl _ _⟩
  have hl' : ¬ (1048576 : Int) < (len0 : Int) := by omega
  obtain ⟨hc, hcap⟩ := code_of w0 (by omega)
  clear w0 hl
  go_enter Try.func9, Try.ntmps9
  go_wp2_with fail
  refine (DrawAgreedSpan_any w a0 len0 cap0 hc hcap).mono ?_
  rintro e w1 ⟨a, c, l, rfl, hl8, hlc, hcm, hS, hsm, bl, hfr⟩
  clear hc hcap
  have st := St.mk hS bl
  clear hS bl hfr hsm
  unfold maxLen at hcm
  have hbd := V.r_bd l
  obtain ⟨i0, hi0, hz0, hz1, hz2⟩ := info_parts span_info
  have hI := Lib.hid hi0
  have hZ0 := Lib.hid hz0
  have hZ1 := Lib.hid hz1
  have hZ2 := Lib.hid hz2
  clear hi0 hz0 hz1 hz2
  go_wp2_with fail
  refine (ag_impl _ _ _ _ _ _ st.here (Nat.le_refl _)).mono ?_
  rintro e w2 ⟨rfl, b2⟩
  have st2 := (st.b b2).al (Obj.cells #[.int .i64 (V.rlo l), .int .i64 (V.rhi l)] 31)
  have x2 := Bx.new w2 (V.rlo l) (V.rhi l) 31
  clear st b2
  go_wp2_with fail
  refine (ag_spec _ _ _ _ _ _ st2.here (Nat.le_refl _)).mono ?_
  rintro e w3 ⟨rfl, b3⟩
  have st3 := (st2.b b3).al (Obj.cells #[.int .i64 (V.rlo l), .int .i64 (V.rhi l)] 31)
  have x3 := (x2.b b3).al (Obj.cells #[.int .i64 (V.rlo l), .int .i64 (V.rhi l)] 31)
  have c0 := (x2.b b3).c0
  have c1 := (x2.b b3).c1
  have clt := (x2.b b3).lt
  have hz : (w3.alloc (Obj.cells #[.int .i64 (V.rlo l), .int .i64 (V.rhi l)] 31)).heap.size = w3.heap.size + 1 := World.size_alloc _ _
  have own0 : ((w3.alloc (Obj.cells #[.int .i64 (V.rlo l), .int .i64 (V.rhi l)] 31)).alloc (.cells #[] 31)).ownsRow (w3.alloc (Obj.cells #[.int .i64 (V.rlo l), .int .i64 (V.rhi l)] 31)).heap.size 31 2 (.slice (some ⟨(w3.alloc (Obj.cells #[.int .i64 (V.rlo l), .int .i64 (V.rhi l)] 31)).heap.size, 0, none⟩) 0 0) 0 [] := World.ownsRow_made _ #[] 0 (Nat.le_refl _) (by unfold maxLen; omega) rfl
  rw [hz] at own0
  have P0 : Prs 31 (w3.heap.size + 1) ((w3.alloc (Obj.cells #[.int .i64 (V.rlo l), .int .i64 (V.rhi l)] 31)).alloc (.cells #[] 31)) (some ⟨w3.heap.size + 1, 0, none⟩) 0 [] := own0
  have hb3 : w.heap.size ≤ w3.heap.size + 1 := by have := st3.bel.size; omega
  have HSG := Lib.hid (((st2.b b3).al (Obj.cells #[.int .i64 (V.rlo l), .int .i64 (V.rhi l)] 31)).here.more (show _ ≤ w3.heap.size + 1 by rw [hz]; exact Nat.le_refl _) |>.below ((Below.refl _ _).alloc (by rw [hz]; exact Nat.le_refl _) (Obj.cells #[] 31)))
  have HH := Lib.hid (And.intro (st3.al (Obj.cells #[] 31)) (And.intro (x3.al (Obj.cells #[] 31)) P0))
  clear st2 b3 x2 st3 x3 own0 P0 hz
  go_wp2
  have hG : w3.heap.size + 1 ≤ ((w3.alloc (Obj.cells #[.int .i64 (V.rlo l), .int .i64 (V.rhi l)] 31)).alloc (.cells #[] 31)).heap.size := by rw [World.size_alloc, World.size_alloc]; omega
  have hDG : w2.heap.size < w3.heap.size + 1 := by omega
  generalize w2.heap.size = D at *
  generalize w3.heap.size + 1 = G at *
  go_loopw [8, 9] (fun o i wr => ∃ (a' : Option Addr) (c' k : Nat), k ≤ l.length ∧ i = .int .i64 ((k : Int) - 1) ∧ o = .slice a' ((l.drop k).reverse).length c' ∧ Prs 31 G wr a' c' ((l.drop k).reverse) ∧ Sps G wr a l.length l ∧ Bx wr D (V.rlo l) (V.rhi l) ∧ Below w.heap.size w wr ∧ G ≤ wr.heap.size) (fun _ i _ => (intOf i + 1).toNat)
  case atStart => exact ⟨some ⟨G, 0, none⟩, 0, l.length, Nat.le_refl _, rfl, by simp, by rw [List.drop_length]; exact HH.out.2.2, HSG.out, HH.out.2.1, HH.out.1.bel, hG⟩
  case round =>
    obtain ⟨a', c', k, hk, rfl, rfl, hP, hS4, x4, bl4, hGr⟩ := hrel
    clear HH HSG c0 c1 clt
    rcases Nat.eq_zero_or_pos k with h0 | h0
    · subst h0
      rw [show (l.drop 0).reverse = l.reverse by simp] at hP
      have hsp := prs_sps hP (by simp; omega)
      have hag := V.ag_perm (l := l) (m := l.reverse) (List.reverse_perm l).symm
      have hlr : ((l.drop 0).reverse).length = l.reverse.length := by simp
      have HA := Lib.hid hag
      rw [hlr]
      clear hP hlr hag
      generalize l.reverse = r at *
      go_wp2_with fail
      refine (ag_impl _ _ _ _ _ _ hsp (Nat.le_refl _)).mono ?_
      rw [HA.out.1, HA.out.2.1, HA.out.2.2]
      rintro e w5 ⟨rfl, b5⟩
      have bl5 := (bl4.trans (b5.mono bl4.size)).alloc (Nat.le_trans bl4.size b5.size) (Obj.cells #[.int .i64 (V.rlo l), .int .i64 (V.rhi l)] 31)
      have d0 := (x4.b b5).c0
      have d1 := (x4.b b5).c1
      have dlt := (x4.b b5).lt
      clear b5 bl4 hS4 x4 hsp
      go_wp2
      go_ret
      exact ⟨ret_bool (by first | rfl | simp), bl5⟩
    · obtain ⟨m, rfl⟩ : ∃ m, k = m + 1 := ⟨k - 1, by omega⟩
      have hm : m < l.length := by omega
      obtain ⟨b, off, rfl, hb, hc⟩ := hS4.at_ m hm
      have q0 := (hc m hm).1
      have q1 := (hc m hm).2
      have e1 : ((m + 1 : Nat) : Int) - 1 = (m : Int) := by omega
      rw [e1]
      have HR := Lib.hid (rev_take l m hm)
      have hrl : ((l.drop (m + 1)).reverse).length ≤ 8 := by simp; omega
      have HQ := Lib.hid (And.intro hP (And.intro hS4 (And.intro x4 bl4)))
      have hww := bl4.size
      have hxl := x4.lt
      clear hc hS4 hP x4 bl4
      generalize hX : (l.drop (m + 1)).reverse = X at *
      go_wp2_with (at_builtin; refine wpList_append_lies _ rfl _ _ 23 rfl G 31 i0 (.agg #[.int .i64 0, .int .i64 0]) 2 16 Try.underlying23 hI.out hZ0.out hZ1.out hZ2.out rfl (by decide) (.slice a' X.length c') X.length (v2 X) rfl (World.ownsRow.alloc HQ.out.1 _) ⟨wr.heap.size, 0, none⟩ 1 1 [.int .i64 (V.lo l m), .int .i64 (V.hi l m)] rfl rfl (World.news_of_block (heap_alloc_new _ _)) (by intro u hu; simp at hu; rcases hu with rfl | rfl <;> rfl) (by decide) (by unfold maxLen; omega) (by omega) (by simp; omega) _ rfl ?_)
      intro g cap w5 own5 hg5 hat5 hlt5
      have q5 : Below G wr w5 := ((Below.refl G wr).alloc hGr _).grown hg5 (by simp; omega) (fun j hj => (World.ownsRow.lt HQ.out.1 j hj).1)
      have P5 : Prs 31 G w5 (some ⟨g, 0, none⟩) cap ((l.drop m).reverse) := by
        unfold Prs
        rw [← HR.out, List.length_append, ← v2_snoc]
        exact own5
      have hlen : ((l.drop m).reverse).length = X.length + 1 := by rw [← HR.out]; simp
      have x5 : Bx w5 D (V.rlo l) (V.rhi l) := ⟨(q5.cell (p := ⟨D, 0, none⟩) hDG).trans HQ.out.2.2.1.c0, (q5.cell (p := ⟨D, 1, none⟩) hDG).trans HQ.out.2.2.1.c1, Nat.lt_of_lt_of_le hxl q5.size⟩
      have HF := Lib.hid (And.intro P5 (And.intro (HQ.out.2.1.below q5) (And.intro x5 (And.intro (HQ.out.2.2.2.trans (q5.mono hb3)) (Nat.le_trans hGr q5.size)))))
      clear q5 P5 own5 hg5 hat5 hlt5 x5
      go_wp2
      go_roundw
      case rel => exact ⟨some ⟨g, 0, none⟩, cap, m, by omega, by go_num, by rw [hlen], HF.out⟩
      case measure => (first | (simp [intOf]; done) | (simp [intOf]; omega))

/-! ### THE ROW's STEP: WRITTEN OUT: LEAVE IT -/
set_option maxRecDepth 100000 in
theorem lifted (os : Os) (started : os.Started) (H : Type) (enc : TypeId × Value → H) :
    ReturnsInHanded {} Try.checked os 9 .any (Rows.fnAgreedSpanOrderSpec.pre6 enc Try.prog Try.f9 Rows.fnAgreedSpanOrderRow.domain false) (Rows.fnAgreedSpanOrderSpec.post enc Try.prog Try.f9 false true false false) := by
  refine returnsInHanded_of_change (C := Try.checked) own started (by kernel_rfl) Try.func9
    (ChangeSpec.witness6 (enc := enc) (C := Try.checked) false ⟨#[], #[.slice none 0 0], []⟩ 8 (by kernel_rfl) (by kernel_rfl) (by kernel_rfl) (by kernel_rfl)) ?_
  intro W base args ds gs before hval0 hW hcnd _
  have hval : ∀ (j : Nat) t v, Try.f9.params[j]? = some t → args[j]? = some v → Value.okWide Try.prog W .any base t v := hval0
  have hW' := hW
  obtain ⟨p, q, hA0, hV, rfl, hfz, hnd⟩ := hW
  have hA : DataW.TrodAll enc Try.prog W 0 (fun _ => true) true Try.f9.params.toList args.toList ds p := hA0
  rw [Try.params9] at hA hval
  obtain ⟨v0, vs0, d0, ds0, p0, q0, hargs, rfl, rfl, h0, r0⟩ := trodAll_cons hA
  obtain ⟨rfl, rfl, rfl⟩ := trodAll_nil r0
  obtain rfl : args = #[v0] := by cases args; simp_all
  obtain ⟨rfl, rfl⟩ := trodVars_none hV
  obtain ⟨a0, len0, cap0, rfl⟩ := okWide_slice Try.underlying22 (hval 0 22 v0 rfl rfl)
  have k0 := h0
  have lt0 : ∀ x ∈ p0, x.block < W.heap.size := by obtain ⟨m, hm⟩ := k0; exact DataW.trod_lt m _ _ _ hm
  obtain ⟨z0, w0⟩ : ∃ zs, IsRow .u8 W a0 len0 cap0 zs := by
    obtain ⟨fuel, hf⟩ := h0
    rcases open_ints Try.underlying22 Try.underlying5 (by kernel_rfl) hf with ⟨hcs, _⟩ | ⟨x, l, c, zs, hcs, _, hl, hm, hz, _, hcell, hwz⟩
    · simp [Value.cells] at hcs
      obtain ⟨rfl, rfl, rfl⟩ := hcs
      exact ⟨[], .inl ⟨rfl, rfl, rfl, rfl⟩⟩
    · simp [Value.cells] at hcs
      obtain ⟨rfl, rfl, rfl⟩ := hcs
      exact ⟨zs, .inr ⟨_, rfl, hl, hm, by simpa using hz, hcell, hwz⟩⟩
  clear hA0 hval0
  refine (walk a0 len0 cap0 z0 W w0).mono fun e W' ⟨he, bel⟩ => ?_
  subst he
  exact ⟨_, rfl, _, _, _, [], _, [], hW', trodAll_mk1 (shut_bool Try.underlying4 _), (trodAll_cons_mk (Below.trod laidOut (by kernel_rfl) (of_decide_eq_true (by kernel_rfl)) k0 bel lt0) trodAll_mk0), rfl, bel.frame _, fun h => by cases h⟩

theorem over : Rows.fnAgreedSpanOrderRow.holds Try.pinned (OpenSpec.ofChange Rows.fnAgreedSpanOrderSpec) :=
  OpenClaim.holds_of_wide 9 Try.f9 rfl rfl rfl rfl rfl rfl rfl ⟨rfl, rfl, rfl, rfl, rfl⟩ rfl rfl rfl rfl rfl (by kernel_rfl) Try.func9 (by kernel_rfl)
    (of_decide_eq_true (by kernel_rfl)) (by unfold Func.isWrapper; first | (rw [if_pos (by decide +kernel)]; kernel_rfl) | (rw [if_neg (by decide +kernel)]; exact ⟨rfl, rfl⟩))
    (fun os started H enc _ => lifted os started H enc)

/-- ████ THE STATEMENT ████ -/
theorem proved : Rows.FnAgreedSpanOrderSaid := over
#print axioms proved
end Go.Proofs.Ytpllodjahanpkaa.fnAgreedSpanOrder
