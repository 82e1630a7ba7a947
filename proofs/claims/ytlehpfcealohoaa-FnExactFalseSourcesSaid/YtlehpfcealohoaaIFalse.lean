/-
  The false sources as the program finds them: a list of the call's own.
-/
import Derived.Test.YtlehpfcealohoaaIAg
namespace Go.Proofs.Ytlehpfcealohoaa
open Go.RowKit
set_option linter.unusedVariables false
set_option maxHeartbeats 2000000 in
theorem FS_impl (B n c : Nat) (a : Option Addr) (l : List (Int × Int)) (w : World) (h : Sps B w a n l) (hB : B ≤ w.heap.size) : Calls Try.prog 10 #[.slice a n c] w fun e w' => ∃ a' c', e = .returned (.tuple #[.slice a' (V.fls l).length c', .bool (V.agB l)]) ∧ Nums w.heap.size w' a' c' (V.fls l) ∧ Below w.heap.size w w' := by
  obtain ⟨i0, hi0, hz0, hz1, hz2⟩ := info_parts intC_info
  have hI := Lib.hid hi0
  have hZ0 := Lib.hid hz0
  have hZ1 := Lib.hid hz1
  have hZ2 := Lib.hid hz2
  clear hi0 hz0 hz1 hz2
  obtain ⟨hl, hn, _⟩ := id h
  have HL := Lib.hid hl
  have HS1 := Lib.hid h
  clear hl h
  cases hv : V.agB l
  · rw [V.fls_no hv]
    go_enter Try.func10, Try.ntmps10
    go_wp2_with (go_at_call 7; refine (ag_impl _ _ _ _ l _ HS1.out hB).mono ?_; rw [hv]; rintro e w1 ⟨rfl, b1⟩)
    go_ret2
    exact ⟨none, 0, rfl, Nums.none_ _ _, b1.alloc b1.size _⟩
  · rw [V.fls_yes hv, HL.out]
    go_enter Try.func10, Try.ntmps10
    go_wp2_with (go_at_call 7; refine (ag_impl _ _ _ _ l _ HS1.out hB).mono ?_; rw [hv, (V.r_yes hv).1, (V.r_yes hv).2]; rintro e w1 ⟨rfl, b1⟩)
    have hs1 := b1.size
    have B0 := b1.alloc hs1 (Obj.cells #[.int .i64 (V.low l), .int .i64 (V.high l)] 26)
    have S0 := (HS1.out.more hB).below B0
    have C0 : (w1.alloc (Obj.cells #[.int .i64 (V.low l), .int .i64 (V.high l)] 26)).cell? ⟨w1.heap.size, 0, none⟩ = some (.int .i64 (V.low l)) := by simp
    have HN := Lib.hid (And.intro S0 (And.intro B0 C0))
    clear b1 S0 B0 C0
    generalize hZ : w1.heap.size = Z at *
    go_loopw [6, 18] (fun o i wr => ∃ (a' : Option Addr) (c' k : Nat), k ≤ n ∧ i = .int .i64 k ∧ o = .slice a' (V.flsTo l k).length c' ∧ Nums w.heap.size wr a' c' (V.flsTo l k) ∧ (∀ x, a' = some x → x.block ≠ Z) ∧ Sps w.heap.size wr a n l ∧ Below w.heap.size w wr ∧ wr.cell? ⟨Z, 0, none⟩ = some (.int .i64 (V.low l))) (fun _ i _ => n - (intOf i).toNat)
    case atStart => exact ⟨none, 0, 0, Nat.zero_le _, rfl, rfl, Nums.none_ _ _, fun x hx => (by cases hx), HN.out.1, HN.out.2.1, HN.out.2.2⟩
    case round =>
      obtain ⟨a', c', k, hk, rfl, rfl, hN, hne, hS, hb, hc0⟩ := hrel
      have hZr := World.block_lt_of_cell? wr _ hc0
      have hZr : Z < wr.heap.size := hZr
      clear HN
      have hbs := hb.size
      by_cases hlt : k < n
      · obtain ⟨b, off, rfl, hbb, hc⟩ := hS.at_ k hlt
        have c0 := (hc k hlt).1
        have c1 := (hc k hlt).2
        have q1 := (Below.refl wr.heap.size wr).alloc (Nat.le_refl _) (Obj.cells #[.int .i64 (V.lo l k), .int .i64 (V.hi l k)] 26)
        have HQ1 := Lib.hid q1
        have HS3 := Lib.hid hS
        have HB3 := Lib.hid hb
        have HN3 := Lib.hid hN
        have HC3 := Lib.hid hc0
        clear hc q1 hS hb hN
        rcases inR_cases (V.low l) (V.lo l k) (V.hi l k) with ⟨r0, r1⟩ | ⟨r0, r1⟩
        · have HE := Lib.hid (V.flsTo_in r1)
          clear r1
          go_wp2_with (go_at_call 29; refine (has_impl _ _ _ _).mono ?_; rintro e w2 ⟨rfl, b2⟩)
          have q2 := HQ1.out.trans (b2.mono (by simp))
          clear b2
          go_roundw
          case rel => exact ⟨a', c', k + 1, by omega, by go_num, by rw [HE.out], by rw [HE.out]; exact HN3.out.keep q2, hne, HS3.out.below (q2.mono hbs), HB3.out.trans (q2.mono hbs), (q2.cell (p := ⟨Z, 0, none⟩) hZr).trans HC3.out⟩
          case measure => simp [intOf]; omega
        · have HE := Lib.hid (V.flsTo_out r1)
          have hlen := V.flsTo_len l k
          clear r1
          go_wp2_with (first | (go_at_call 29; refine (has_impl _ _ _ _).mono ?_; rintro e w2 ⟨rfl, b2⟩; have q2 := Lib.hid (HQ1.out.trans (b2.mono (by simp))); have hs2 := q2.out.size; clear b2) | (at_builtin; refine wpList_append_lies _ rfl _ _ 30 rfl w.heap.size 3 i0 (.int .i64 0) 1 8 Try.underlying30 hI.out hZ0.out hZ1.out hZ2.out rfl (by decide) (.slice a' (V.flsTo l k).length c') (V.flsTo l k).length (valsC (V.flsTo l k)) rfl ((HN3.out.keep q2.out).alloc _) ⟨w2.heap.size, 0, none⟩ 1 1 [.int .i64 k] rfl rfl (cell_one_new _ _ _) (by intro u hu; simp at hu; subst hu; rfl) (by decide) (by unfold maxLen; omega) (by omega) (by simp; omega) _ rfl ?_))
          intro g cap w3 own3 hg3 hat3 hlt3
          have hNq := HN3.out.keep q2.out
          have q3 : Below w.heap.size wr w3 := ((q2.out.mono hbs).alloc (by omega) (Obj.cells #[.int .i64 k] 3)).grown hg3 (by simp; omega) (fun j hj => (World.ownsRow.lt hNq j hj).1)
          have hS3 := HS3.out.below q3
          have hb3 := HB3.out.trans q3
          have hZne : some Z ≠ (Value.slice a' (V.flsTo l k).length c').ownBlock := by
            intro e
            cases a' with
            | none => cases e
            | some y => simp [Value.ownBlock] at e; exact hne y rfl e.symm
          have hc3 : w3.cell? ⟨Z, 0, none⟩ = some (.int .i64 (V.low l)) := (World.cell?_of_block (a := ⟨Z, 0, none⟩) (hg3.block Z (by simp; omega) hZne)).trans ((World.cell?_alloc_lt _ _ ⟨Z, 0, none⟩ (show Z < w2.heap.size by omega)).trans ((q2.out.cell (p := ⟨Z, 0, none⟩) hZr).trans HC3.out))
          have hne3 : ∀ x : Addr, some (⟨g, 0, none⟩ : Addr) = some x → x.block ≠ Z := by
            intro x hx
            injection hx with hx
            subst hx
            show g ≠ Z
            rcases hat3 with e | e
            · intro h
              rw [h] at e
              exact hZne e.symm
            · first | omega | (simp at e; omega)
          have hlen1 : (V.flsTo l (k + 1)).length = (V.flsTo l k).length + 1 := by rw [HE.out]; simp
          have hN3 : Nums w.heap.size w3 (some ⟨g, 0, none⟩) cap (V.flsTo l (k + 1)) := by
            unfold Nums
            rw [hlen1, HE.out, ← valsC_snoc]
            exact own3
          have HF := Lib.hid (And.intro hN3 (And.intro hne3 (And.intro hS3 (And.intro hb3 hc3))))
          clear q3 hS3 hb3 hZne hc3 hne3 hN3 own3 hg3 hat3 hlt3 hNq
          go_wp2
          go_roundw
          case rel => exact ⟨some ⟨g, 0, none⟩, cap, k + 1, by omega, by go_num, by rw [hlen1], HF.out⟩
          case measure => simp [intOf]; omega
      · have hZZ := hN
        obtain rfl : k = n := by omega
        go_wp2
        go_ret2
        exact ⟨a', c', rfl, hN, hb⟩
end Go.Proofs.Ytlehpfcealohoaa
