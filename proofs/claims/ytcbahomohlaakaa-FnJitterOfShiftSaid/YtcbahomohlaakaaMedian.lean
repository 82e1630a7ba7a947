/-
  The offset in the middle: the model's function and the program's.
-/
import Derived.Test.YtcbahomohlaakaaSorted
import Derived.Test.YtcbahomohlaakaaISample
import Derived.Test.YtcbahomohlaakaaShelf
import Derived.Shelf.Sort.Plain
namespace Go.Proofs.Ytcbahomohlaakaa
open Go.RowKit
set_option linter.unusedVariables false
/-- The offsets, and the one in the middle of them. -/
def offs (l : List Q.Sm) : List Int := l.map fun p => p.1
theorem offs_len (l : List Q.Sm) : (offs l).length = l.length := by simp [offs]
theorem offs_take (l : List Q.Sm) (k : Nat) (h : k < l.length) : offs (l.take (k + 1)) = offs (l.take k) ++ [Q.of l k] := by
  unfold offs
  rw [List.take_succ_eq_append_getElem h, List.map_append]
  have := Q.get l k h
  rw [List.getElem?_eq_getElem h] at this
  injection this with this
  rw [this]; rfl
theorem heap_new2' (w : World) (a b : Obj) : ((w.alloc a).alloc b).heap[w.heap.size + 1]? = some b := by
  have := heap_alloc_new (w.alloc a) b
  simpa using this
def med (l : List Q.Sm) : Int := if Q.vq l = true then L.g (srt (offs l)) ((l.length - 1) / 2) else 0
theorem med_yes {l : List Q.Sm} (h : Q.vq l = true) : med l = L.g (srt (offs l)) ((l.length - 1) / 2) := if_pos h
theorem med_no {l : List Q.Sm} (h : Q.vq l = false) : med l = 0 := if_neg (by rw [h]; decide)
set_option maxHeartbeats 4000000 in
theorem MD_spec (B n c : Nat) (a : Option Addr) (l : List Q.Sm) (w : World) (h : Sms B w a n l) (hB : B ≤ w.heap.size) : Calls Try.prog 48 #[.slice a n c] w fun e w' => e = .returned (.int .i64 (med l)) ∧ Below w.heap.size w w' := by
  obtain ⟨i0, hi0, hz0, hz1, hz2⟩ := info_parts intC_info
  have hI := Lib.hid hi0
  have hZ0 := Lib.hid hz0
  have hZ1 := Lib.hid hz1
  have hZ2 := Lib.hid hz2
  clear hi0 hz0 hz1 hz2
  have HL := Lib.hid h.1
  have HS0 := Lib.hid (h.more hB)
  have own0 : (w.alloc (.cells #[] 3)).ownsRow w.heap.size 3 1 (.slice (some ⟨w.heap.size, 0, none⟩) 0 0) 0 [] := World.ownsRow_made w #[] 0 (Nat.le_refl _) (by unfold maxLen; omega) rfl
  have b0 := (Below.refl w.heap.size w).alloc (Nat.le_refl _) (Obj.cells #[] 3)
  have HO := Lib.hid (And.intro own0 b0)
  have HS1 := Lib.hid (((h.more hB).below b0))
  clear own0 b0 h
  go_enter Try.func48, Try.ntmps48
  cases hv : Q.vq l
  · rw [med_no hv]
    go_wp2_with fail
    refine (vq_spec _ _ _ _ l _ HS1.out).mono ?_
    rw [hv]
    rintro e w1 ⟨rfl, q1⟩
    have hf := Lib.hid (HO.out.2.trans q1.below)
    clear q1
    go_wp2
    go_ret
    exact ⟨rfl, hf.out⟩
  · have hq := (Q.vq_of hv).1
    have hn8 : 1 ≤ n ∧ n ≤ 8 := by have := HL.out; omega
    have hmed := med_yes hv
    rw [HL.out] at hmed
    have HM := Lib.hid hmed
    clear hmed hq
    go_wp2_with fail
    refine (vq_spec _ _ _ _ l _ HS1.out).mono ?_
    rw [hv]
    rintro e w1 ⟨rfl, p, rfl⟩
    go_wp2
    go_loopw [3, 4] (fun o i wr => ∃ (a' : Option Addr) (c' k : Nat), k ≤ n ∧ i = .int .i64 k ∧ o = .slice a' k c' ∧ wr.ownsRow w.heap.size 3 1 (.slice a' k c') k (valsC (offs (l.take k))) ∧ Below w.heap.size w wr) (fun _ i _ => n - (intOf i).toNat)
    case atStart => exact ⟨_, 0, 0, Nat.zero_le _, rfl, rfl, HO.out.1, below_drewN HO.out.2 p⟩
    case round =>
      obtain ⟨a', c', k, hk, rfl, rfl, own, hb⟩ := hrel
      have hbs := hb.size
      by_cases hlt : k < n
      · obtain ⟨b, off, rfl, hbb, hc⟩ := (HS0.out.below hb).at_ k hlt
        have ck := (hc k hlt).1
        have HE := Lib.hid (offs_take l k (by have := HL.out; omega))
        have HN := Lib.hid (And.intro own hb)
        clear hc own hb
        generalize hX : offs (l.take k) = X at *
        go_wp2_with (at_builtin; refine wpList_append_lies _ rfl _ _ 58 rfl w.heap.size 3 i0 (.int .i64 0) 1 8 Try.underlying58 hI.out hZ0.out hZ1.out hZ2.out rfl (by decide) (.slice a' k c') k (valsC X) rfl (World.ownsRow.alloc HN.out.1 _) ⟨_, 0, none⟩ 1 1 [.int .i64 (Q.of l k)] rfl rfl (cell_one_new _ _ _) (by intro u hu; simp at hu; subst hu; rfl) (by decide) (by unfold maxLen; omega) (by omega) (by simp; omega) _ rfl ?_)
        intro g cap w3 own3 hg3 hat3 hlt3
        have q3 := HN.out.2.trans (((Below.refl w.heap.size _).alloc hbs _).grown hg3 (by simp; omega) (fun j hj => (World.ownsRow.lt HN.out.1 j hj).1))
        rw [valsC_snoc, ← HE.out] at own3
        have HF := Lib.hid (And.intro own3 q3)
        clear own3 q3 hg3 hat3 hlt3 hX
        go_wp2
        go_roundw
        case rel => exact ⟨some ⟨g, 0, none⟩, cap, k + 1, by omega, by go_num, rfl, HF.out⟩
        case measure => simp [intOf]; omega
      · obtain rfl : k = n := by omega
        have hf : l.take k = l := List.take_of_length_le (by rw [HL.out]; exact Nat.le_refl _)
        rw [hf] at own
        have hlen : (offs l).length = k := by rw [offs_len, HL.out]
        have hN := nums_of own hlen
        have hL := hN.lst (by omega)
        rw [hlen] at hL
        have h1 : 0 ≤ ((k : Int) - 1) / 2 := by omega
        have h2 : ((k : Int) - 1) / 2 < (k : Int) := by omega
        have h3 : (((k : Int) - 1) / 2).toNat = (k - 1) / 2 := by omega
        clear own hf hN
        go_wp2_with fail
        refine (sorted_spec _ _ _ _ _ _ hL (Nat.le_refl _) (by omega)).mono ?_
        rintro e w4 ⟨a4, c4, rfl, hN4, b4⟩
        have hl4 : (srt (offs l)).length = k := by rw [srt_len, hlen]
        have hL4 := hN4.lst (by omega)
        rw [hl4] at hL4 ⊢
        obtain ⟨b, off, rfl, hbb, hc⟩ := hL4.at_ 0 (by omega)
        have ck := hc ((k - 1) / 2) (by omega)
        have HF := Lib.hid (hb.trans (b4.mono hbs))
        have HLN := Lib.hid (And.intro hlen hl4)
        clear hc hL4 hL hN4 b4 hb hlen hl4
        go_wp2
        go_ret
        exact ⟨ret_int HM.out.symm, HF.out⟩
theorem sort_ints (w : World) (g c : Nat) (zs : List Int) (hc : ∀ j, j < zs.length → w.cell? ⟨g, 0 + j, none⟩ = some (.int .i64 (L.g zs j)) ∧ w.frozen? ⟨g, 0 + j, none⟩ = false) (hg : g < w.heap.size) (hl : zs.length ≤ 100) (B : Nat) (hB : B ≤ g) : Calls Try.prog 42 #[.slice (some ⟨g, 0, none⟩) zs.length c] w fun e w' => e = .returned (.tuple #[]) ∧ (∀ j, j < zs.length → w'.cell? ⟨g, j, none⟩ = some (.int .i64 (L.g (srt zs) j))) ∧ Below B w w' := by
  have gz : ∀ (l : List Int) (j : Nat), j < l.length → l.toArray[j]! = L.g l j := fun l j hj => by
    rw [getElem!_pos l.toArray j (by simpa using hj)]
    have := L.g_get l j hj
    rw [List.getElem?_eq_getElem hj] at this
    injection this
  have hH : Sort.Holds (Value.int .i64) w g 0 zs.toArray := fun j hj => by
    simp at hj
    have := hc j hj
    rw [gz _ _ hj]; exact this
  have hcon := Any.slices_Sort_int Try.sortI g 0 c zs w hH hg (by omega)
  change Calls Try.prog 42 _ _ _ at hcon
  refine hcon.mono ?_
  rintro e w' ⟨he, n, os, hw⟩
  refine ⟨he, fun j hj => ?_, ?_⟩
  · have hh := Sort.holds_grow (Value.int .i64) _ os g 0 (srt zs).toArray (by rw [Sort.size_putRow]; exact hg) (Sort.holds_putRow (Value.int .i64) (Sort.ahead w n) g 0 zs.toArray (srt zs).toArray hH (by simp [srt_len]))
    have := (hh j (by simp [srt_len]; exact hj)).1
    rw [gz _ _ (by rw [srt_len]; exact hj), Nat.zero_add] at this
    rw [hw]; exact this
  · rw [hw]
    refine ⟨rfl, rfl, rfl, by rw [Sort.size_grow, Sort.size_putRow]; exact Nat.le_add_right _ _, fun k hk => ?_⟩
    rw [Sort.heap_grow_old _ _ (by rw [Sort.size_putRow]; exact (show k < w.heap.size by omega))]
    show (w.heap.modify g _)[k]? = w.heap[k]?
    rw [Array.getElem?_modify, if_neg (by omega)]
set_option maxHeartbeats 4000000 in
theorem MD_impl (B n c : Nat) (a : Option Addr) (l : List Q.Sm) (w : World) (h : Sms B w a n l) (hB : B ≤ w.heap.size) : Calls Try.prog 19 #[.slice a n c] w fun e w' => e = .returned (.int .i64 (med l)) ∧ Below w.heap.size w w' := by
  obtain ⟨i0, hi0, hz0, hz1, hz2⟩ := info_parts intC_info
  have hI := Lib.hid hi0
  have hZ0 := Lib.hid hz0
  have hZ1 := Lib.hid hz1
  have hZ2 := Lib.hid hz2
  clear hi0 hz0 hz1 hz2
  have HL := Lib.hid h.1
  have HS0 := Lib.hid (h.more hB)
  clear h
  go_enter Try.func19, Try.ntmps19
  cases hv : Q.vq l
  · rw [med_no hv]
    go_wp2_with fail
    refine (vq_impl _ _ _ _ l _ HS0.out (Nat.le_refl _)).mono ?_
    rw [hv]
    rintro e w1 ⟨rfl, b1⟩
    go_wp2
    go_ret
    exact ⟨rfl, b1⟩
  · have hq := (Q.vq_of hv).1
    have hn8 : 1 ≤ n ∧ n ≤ 8 := by have := HL.out; omega
    have hmed := med_yes hv
    rw [HL.out] at hmed
    have HM := Lib.hid hmed
    clear hmed hq
    go_wp2_with fail
    refine (vq_impl _ _ _ _ l _ HS0.out (Nat.le_refl _)).mono ?_
    rw [hv]
    rintro e w1 ⟨rfl, b1⟩
    have own0 : w1.ownsRow w.heap.size 3 1 (.slice none 0 0) 0 [] := World.ownsRow_nil _ _ _ _
    have HO := Lib.hid (And.intro own0 b1)
    clear own0 b1
    go_wp2
    go_loopw [3, 11] (fun o i wr => ∃ (a' : Option Addr) (c' k : Nat), k ≤ n ∧ i = .int .i64 k ∧ o = .slice a' k c' ∧ wr.ownsRow w.heap.size 3 1 (.slice a' k c') k (valsC (offs (l.take k))) ∧ Below w.heap.size w wr) (fun _ i _ => n - (intOf i).toNat)
    case atStart => exact ⟨none, 0, 0, Nat.zero_le _, rfl, rfl, HO.out.1, HO.out.2⟩
    case round =>
      obtain ⟨a', c', k, hk, rfl, rfl, own, hb⟩ := hrel
      have hbs := hb.size
      clear HO
      by_cases hlt : k < n
      · obtain ⟨b, off, rfl, hbb, hc⟩ := (HS0.out.below hb).at_ k hlt
        obtain ⟨c0, c1, c2⟩ := hc k hlt
        have HE := Lib.hid (offs_take l k (by have := HL.out; omega))
        have HN := Lib.hid (And.intro (World.ownsRow.alloc own (Obj.cells #[.int .i64 (Q.of l k), .int .i64 (Q.de l k), .int .i64 (Q.tm l k)] 26)) (hb.alloc hbs (Obj.cells #[.int .i64 (Q.of l k), .int .i64 (Q.de l k), .int .i64 (Q.tm l k)] 26)))
        clear hc own hb
        generalize hX : offs (l.take k) = X at *
        go_wp2_with (at_builtin; refine wpList_append_lies _ rfl _ _ 58 rfl w.heap.size 3 i0 (.int .i64 0) 1 8 Try.underlying58 hI.out hZ0.out hZ1.out hZ2.out rfl (by decide) (.slice a' k c') k (valsC X) rfl (World.ownsRow.alloc HN.out.1 _) ⟨_, 0, none⟩ 1 1 [.int .i64 (Q.of l k)] rfl rfl (World.news_of_block (heap_new2' _ _ _)) (by intro u hu; simp at hu; subst hu; rfl) (by decide) (by unfold maxLen; omega) (by omega) (by simp; omega) _ rfl ?_)
        intro g cap w3 own3 hg3 hat3 hlt3
        have q3 := HN.out.2.trans (((Below.refl w.heap.size _).alloc (by simp; omega) _).grown hg3 (by simp; omega) (fun j hj => (World.ownsRow.lt HN.out.1 j hj).1))
        rw [valsC_snoc, ← HE.out] at own3
        have HF := Lib.hid (And.intro own3 q3)
        clear own3 q3 hg3 hat3 hlt3 hX
        go_wp2
        go_roundw
        case rel => exact ⟨some ⟨g, 0, none⟩, cap, k + 1, by omega, by go_num, rfl, HF.out⟩
        case measure => simp [intOf]; omega
      · obtain rfl : k = n := by omega
        have hf : l.take k = l := List.take_of_length_le (by rw [HL.out]; exact Nat.le_refl _)
        rw [hf] at own
        have hlen : (offs l).length = k := by rw [offs_len, HL.out]
        obtain ⟨g, cap, e, hgB, hgl⟩ := World.ownsRow.form own (by omega)
        injection e with e1 e2 e3
        subst e1
        subst e3
        have hcells : ∀ j, j < (offs l).length → _ := fun j hj => And.intro (World.ownsRow.cellAt own j (by omega)) (World.ownsRow.frozenAt own j)
        have hS := sort_ints _ g c' (offs l) (fun j hj => by
          have := hcells j hj
          rw [valsC_get _ _ hj] at this
          rw [Nat.zero_add]; exact this) hgl (by omega) w.heap.size hgB
        rw [hlen] at hS
        have h1 : 0 ≤ ((k : Int) - 1) / 2 := by omega
        have h2 : ((k : Int) - 1) / 2 < (k : Int) := by omega
        have h3 : (((k : Int) - 1) / 2).toNat = (k - 1) / 2 := by omega
        have HS := Lib.hid hS
        clear own hf hcells hS hlen
        go_wp2_with fail
        refine HS.out.mono ?_
        rintro e w4 ⟨rfl, hc4, b4⟩
        have ck := hc4 ((k - 1) / 2) (by omega)
        have HF := Lib.hid (hb.trans b4)
        clear hc4 b4 hb
        go_wp2
        go_ret
        exact ⟨ret_int HM.out.symm, HF.out⟩
end Go.Proofs.Ytcbahomohlaakaa
