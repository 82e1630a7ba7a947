/-
  The ends of spans in order: how the program makes the list and has it sorted.
-/
import Derived.Test.YtlehpfcealohoaaICmp
import Derived.Test.YtlehpfcealohoaaV2
import Derived.Test.YtlehpfcealohoaaSpan
import Derived.Test.YtlehpfcealohoaaShelf
import Derived.Shelf.SlSortCmp.WholeK
namespace Go.Proofs.Ytlehpfcealohoaa
open Go.RowKit Go.Shelf Go.Lib Go.Sort
set_option linter.unusedVariables false
theorem end_info : (Try.prog.info? 62).map (fun i => (i.zero, i.size, i.bytes)) = some (some (.agg #[.int .i64 0, .int .i64 0]), 2, 16) := by kernel_rfl
theorem heap_new2 (w : World) (a b : Obj) : ((w.alloc a).alloc b).heap[w.heap.size + 1]? = some b := by
  have := heap_alloc_new (w.alloc a) b
  simpa using this
theorem v2_snoc2 (l : List (Int × Int)) (x y z u : Int) : v2 l ++ [.int .i64 x, .int .i64 y, .int .i64 z, .int .i64 u] = v2 (l ++ [(x, y), (z, u)]) := by simp [v2]
def enc2 (x : Int × Int) : List Value := [.int .i64 x.1, .int .i64 x.2]
theorem ltOf_cf : ltOf cf = V.lt2 := by funext x y; exact cf_lt x y
theorem lt2_iff (x y : Int × Int) : V.lt2 x y = true ↔ (x.1 < y.1 ∨ (x.1 = y.1 ∧ x.2 < y.2)) := by unfold V.lt2; exact decide_eq_true_iff
theorem lt2_niff (x y : Int × Int) : V.lt2 x y = false ↔ ¬ (x.1 < y.1 ∨ (x.1 = y.1 ∧ x.2 < y.2)) := by unfold V.lt2; exact decide_eq_false_iff_not
theorem swo2 : Sort.SWO (ltOf cf) where
  irrefl x := by rw [ltOf_cf, lt2_niff]; omega
  trans x y z h1 h2 := by rw [ltOf_cf, lt2_iff] at *; omega
  ntrans x y z h1 h2 := by rw [ltOf_cf, lt2_niff] at *; omega
theorem tot2 (x y : Int × Int) (h : ltOf cf x y = false) (k : ltOf cf y x = false) : x = y := by
  rw [ltOf_cf, lt2_niff] at h k
  obtain ⟨a, b⟩ := x
  obtain ⟨c, d⟩ := y
  simp only at h k
  rw [show a = c by omega, show b = d by omega]
theorem get_pair (l : List (Int × Int)) (i : Nat) (h : i < l.length) : l.toArray[i]! = (V.lo l i, V.hi l i) := by
  have := V.get l i h
  rw [getElem!_pos l.toArray i (by simpa using h)]
  rw [List.getElem?_eq_getElem h] at this
  injection this
/-- The cells of a list of pairs, as the library's sort sees them. -/
theorem holds_of (w : World) (g : Nat) (l : List (Int × Int)) (h : ∀ i, i < l.length → (w.cell? ⟨g, i * 2, none⟩ = some (.int .i64 (V.lo l i)) ∧ w.cell? ⟨g, i * 2 + 1, none⟩ = some (.int .i64 (V.hi l i))) ∧ (w.frozen? ⟨g, i * 2, none⟩ = false ∧ w.frozen? ⟨g, i * 2 + 1, none⟩ = false)) : HoldsK enc2 2 w g 0 l.toArray := by
  intro j hj
  simp at hj
  rw [get_flatK enc2 2 l.toArray j (by simpa using hj), get_pair l (j / 2) (by omega), Nat.zero_add]
  obtain ⟨⟨a, b⟩, c, d⟩ := h (j / 2) (by omega)
  rcases Nat.mod_two_eq_zero_or_one j with e | e
  · rw [e]
    rw [show j / 2 * 2 = j by omega] at a c
    exact ⟨a, c⟩
  · rw [e]
    rw [show j / 2 * 2 + 1 = j by omega] at b d
    exact ⟨b, d⟩
theorem of_holds {w : World} {g : Nat} {l : List (Int × Int)} (h : HoldsK enc2 2 w g 0 l.toArray) (i : Nat) (hi : i < l.length) : w.cell? ⟨g, 0 + i * 2, none⟩ = some (.int .i64 (V.lo l i)) ∧ w.cell? ⟨g, 0 + i * 2 + 1, none⟩ = some (.int .i64 (V.hi l i)) := by
  have h0 := (h (i * 2) (by simp; omega)).1
  have h1 := (h (i * 2 + 1) (by simp; omega)).1
  rw [get_flatK enc2 2 l.toArray _ (by simp; omega), get_pair l _ (by omega), show i * 2 % 2 = 0 by omega, show i * 2 / 2 = i by omega] at h0
  rw [get_flatK enc2 2 l.toArray _ (by simp; omega), get_pair l _ (by omega), show (i * 2 + 1) % 2 = 1 by omega, show (i * 2 + 1) / 2 = i by omega] at h1
  exact ⟨h0, h1⟩
theorem below_sort {B : Nat} {w : World} {g off n : Nat} {d : Array (Int × Int)} {os : Array Obj} (hg : B ≤ g) (hB : B ≤ w.heap.size) : Below B w (sortWorldK enc2 2 w g off n d os) := by
  refine ⟨rfl, rfl, rfl, size_sortWorldK_c enc2 2 w g off n d os, fun k hk => ?_⟩
  unfold sortWorldK
  rw [Sort.heap_grow_old _ _ (by rw [size_putRowK]; exact Nat.lt_of_lt_of_le hk hB)]
  show (w.heap.modify g _)[k]? = w.heap[k]?
  rw [Array.getElem?_modify, if_neg (by omega)]
theorem sort_ends (w : World) (g c : Nat) (l : List (Int × Int)) (h : HoldsK enc2 2 w g 0 l.toArray) (hg : g < w.heap.size) (hl : l.length ≤ 1000) (B : Nat) (hB : B ≤ g) : Calls Try.prog 39 #[.slice (some ⟨g, 0, none⟩) l.length c, .func (.func 40) #[] #[]] w fun e w' => e = .returned (.tuple #[]) ∧ Sps w'.heap.size w' (some ⟨g, 0, none⟩) l.length (l.mergeSort fun x y => !V.lt2 y x) ∧ Below B w w' := by
  have eg : ∀ args w, (callFunc 40 args).run Try.prog w = .ok (.enter 40 args) w := enters_of Try.func40 (by kernel_rfl) rfl
  have hcon := AnyQ.slices_SortFunc Try.sortF 2 Try.isAgg62 Try.sizeOf62 enc2 (fun _ => rfl) (fun x v hv => by simp [enc2] at hv; rcases hv with rfl | rfl <;> rfl) cf swo2 40 #[] g 0 c l.toArray w eg (fun m os dk _ x y => less_any x y _) h hg (by simp; omega)
  change Calls Try.prog 39 _ _ _ at hcon
  simp only [List.size_toArray] at hcon
  refine hcon.mono ?_
  rintro e w' ⟨he, d', n, os, hp, hs, hw⟩
  have hd := sorted_unique_holds swo2 tot2 l.toArray d' hp hs
  rw [ltOf_cf] at hd
  have hw : w' = sortWorldK enc2 2 w g 0 n (l.mergeSort fun x y => !V.lt2 y x).toArray os := by rw [hw, ← hd]
  refine ⟨he, ?_, by rw [hw]; exact below_sort hB (by omega)⟩
  have hlen : (l.mergeSort fun x y => !V.lt2 y x).length = l.length := List.length_mergeSort _
  have hh := holdsK_sortWorldK_c enc2 2 w g 0 l.toArray (l.mergeSort fun x y => !V.lt2 y x).toArray n os h hg (by simp)
  rw [← hw] at hh
  refine ⟨hlen, by omega, .inr ⟨g, 0, rfl, ?_, fun i hi => of_holds hh i (by omega)⟩⟩
  rw [hw]
  exact Nat.lt_of_lt_of_le hg (size_sortWorldK_c enc2 2 w g 0 n _ os)
set_option maxHeartbeats 2000000 in
theorem se_impl (n c : Nat) (a : Option Addr) (l : List (Int × Int)) (w : World) (h : Sps w.heap.size w a n l) (hv : V.vs l = true) : Calls Try.prog 36 #[.slice a n c] w fun e w' => ∃ g c', e = .returned (.slice (some ⟨g, 0, none⟩) (V.E l).length c') ∧ w.heap.size ≤ g ∧ Sps w'.heap.size w' (some ⟨g, 0, none⟩) (V.E l).length (V.E l) ∧ Below w.heap.size w w' := by
  obtain ⟨i0, hi0, hz0, hz1, hz2⟩ := info_parts end_info
  have hI := Lib.hid hi0
  have hZ0 := Lib.hid hz0
  have hZ1 := Lib.hid hz1
  have hZ2 := Lib.hid hz2
  clear hi0 hz0 hz1 hz2
  obtain ⟨hl, hn, _⟩ := id h
  have HL := Lib.hid hl
  have hl7 := (V.vs_of hv).1
  have hn7 : 1 ≤ n ∧ n ≤ 7 := by omega
  have HBD := Lib.hid (V.vs_of hv).2
  have HS0 := Lib.hid h
  clear hl hl7 h
  go_enter Try.func36, Try.ntmps36
  go_wp2
  go_loopw [3, 8] (fun o i wr => ∃ (a' : Option Addr) (c' k : Nat), k ≤ n ∧ i = .int .i64 k ∧ o = .slice a' (V.ends (l.take k)).length c' ∧ Prs 62 w.heap.size wr a' c' (V.ends (l.take k)) ∧ Sps w.heap.size wr a n l ∧ Below w.heap.size w wr) (fun _ i _ => n - (intOf i).toNat)
  case atStart => exact ⟨none, 0, 0, Nat.zero_le _, rfl, rfl, Prs.none_ _ _ _, HS0.out, Below.refl _ _⟩
  case round =>
    obtain ⟨a', c', k, hk, rfl, rfl, hP, hS, hb⟩ := hrel
    have hbs := hb.size
    by_cases hlt : k < n
    · obtain ⟨b, off, rfl, hbb, hc⟩ := hS.at_ k hlt
      have c0 := (hc k hlt).1
      have c1 := (hc k hlt).2
      have hbd := HBD.out k (by have := HL.out; omega)
      unfold V.okN at hbd
      have hlen := V.ends_len (l.take k)
      have htk : (l.take k).length = k := by rw [List.length_take]; have := HL.out; omega
      rw [htk] at hlen
      have hE := V.ends_take l k (by have := HL.out; omega)
      have HE := Lib.hid hE
      have q1 := hb.alloc hbs (Obj.cells #[.int .i64 (V.lo l k), .int .i64 (V.hi l k)] 26)
      have P1 := hP.keep ((Below.refl _ _).alloc (Nat.le_refl _) (Obj.cells #[.int .i64 (V.lo l k), .int .i64 (V.hi l k)] 26))
      have S1 := hS.below ((Below.refl _ _).alloc hbs (Obj.cells #[.int .i64 (V.lo l k), .int .i64 (V.hi l k)] 26))
      have HQ := Lib.hid (And.intro P1 (And.intro hS hb))
      have HLN := Lib.hid hlen
      have hl14 : (V.ends (l.take k)).length ≤ 14 := by omega
      clear hc hE q1 P1 S1 hP hS hb htk hlen
      go_wp2_with (at_builtin; refine wpList_append_lies _ rfl _ _ 59 rfl w.heap.size 62 i0 (.agg #[.int .i64 0, .int .i64 0]) 2 16 Try.underlying59 hI.out hZ0.out hZ1.out hZ2.out rfl (by decide) (.slice a' (V.ends (l.take k)).length c') (V.ends (l.take k)).length (v2 (V.ends (l.take k))) rfl (HQ.out.1.alloc _) ⟨wr.heap.size + 1, 0, none⟩ 2 2 [.int .i64 (V.lo l k), .int .i64 1, .int .i64 (V.hi l k + 1), .int .i64 (-1)] rfl rfl (World.news_of_block (heap_new2 _ _ _)) (by intro u hu; simp at hu; rcases hu with rfl | rfl | rfl | rfl <;> rfl) (by decide) (by unfold maxLen; omega) (by omega) (by simp; omega) _ rfl ?_)
      intro g cap w3 own3 hg3 hat3 hlt3
      have q3 : Below w.heap.size wr w3 := (((Below.refl w.heap.size wr).alloc hbs _).alloc (by simp; omega) _).grown hg3 (by simp; omega) (fun j hj => (World.ownsRow.lt HQ.out.1 j hj).1)
      have P3 : Prs 62 w.heap.size w3 (some ⟨g, 0, none⟩) cap (V.ends (l.take (k + 1))) := by
        unfold Prs
        rw [HE.out, ← v2_snoc2, List.length_append]
        exact own3
      have hlen1 : (V.ends (l.take (k + 1))).length = (V.ends (l.take k)).length + 2 := by rw [HE.out]; simp
      have HF := Lib.hid (And.intro P3 (And.intro (HQ.out.2.1.below q3) (HQ.out.2.2.trans q3)))
      clear q3 P3 own3 hg3 hat3 hlt3
      go_wp2
      go_roundw
      case rel => exact ⟨some ⟨g, 0, none⟩, cap, k + 1, by omega, by go_num, by rw [hlen1], HF.out⟩
      case measure => simp [intOf]; omega
    · obtain rfl : k = n := by omega
      have htk : l.take k = l := List.take_of_length_le (by rw [HL.out]; exact Nat.le_refl _)
      rw [htk] at hP
      have htk' := congrArg V.ends htk
      rw [htk']
      have hlen := V.ends_len l
      rw [HL.out] at hlen
      obtain ⟨g, rfl, hg1, hg2, hcl⟩ := hP.form (by omega)
      have hSE := sort_ends wr g c' (V.ends l) (holds_of wr g _ hcl) hg2 (by omega) w.heap.size hg1
      have hEl : (V.E l).length = (V.ends l).length := List.length_mergeSort _
      have HX := Lib.hid (And.intro hSE (And.intro hEl (And.intro hg1 hb)))
      clear hSE hEl hg1 hg2 hcl hP hS hb htk htk' hlen
      go_wp2_with (go_at_call 39; refine HX.out.1.mono ?_; rintro e w4 ⟨rfl, hS4, b4⟩)
      go_ret
      exact ⟨g, c', by rw [HX.out.2.1]; rfl, HX.out.2.2.1, by rw [HX.out.2.1]; exact hS4, HX.out.2.2.2.trans b4⟩
end Go.Proofs.Ytlehpfcealohoaa
