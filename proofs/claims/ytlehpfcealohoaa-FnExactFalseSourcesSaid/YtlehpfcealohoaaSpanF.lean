/-
  The false sources: a list of the call's own.
-/
import Derived.Test.YtlehpfcealohoaaSpan
import Derived.Test.YtlehpfcealohoaaNums
namespace Go.Proofs.Ytlehpfcealohoaa
open Go.RowKit
set_option linter.unusedVariables false
set_option maxHeartbeats 2000000 in
theorem FS_spec (B n c : Nat) (a : Option Addr) (l : List (Int × Int)) (w : World) (h : Sps B w a n l) (hB : B ≤ w.heap.size) : Calls Try.prog 11 #[.slice a n c] w fun e w' => ∃ a' c', e = .returned (.tuple #[.slice a' (V.fls l).length c', .bool (V.agB l)]) ∧ Nums w.heap.size w' a' c' (V.fls l) ∧ Below w.heap.size w w' := by
  obtain ⟨i0, hi0, hz0, hz1, hz2⟩ := info_parts intC_info
  have hI := Lib.hid hi0
  have hZ0 := Lib.hid hz0
  have hZ1 := Lib.hid hz1
  have hZ2 := Lib.hid hz2
  clear hi0 hz0 hz1 hz2
  obtain ⟨hl, hn, _⟩ := id h
  have HL := Lib.hid hl
  have own0 : (w.alloc (.cells #[] 3)).ownsRow w.heap.size 3 1 (.slice (some ⟨w.heap.size, 0, none⟩) 0 0) 0 [] := World.ownsRow_made w #[] 0 (Nat.le_refl _) (by unfold maxLen; omega) rfl
  have hb0 := (Below.refl w.heap.size w).alloc (Nat.le_refl _) (Obj.cells #[] 3)
  have HS1 := Lib.hid ((h.more hB).below hb0)
  have HB := Lib.hid hb0
  have HO := Lib.hid own0
  clear hl hb0 own0 h
  cases hv : V.agB l
  · rw [V.fls_no hv]
    go_enter Try.func11, Try.ntmps11
    go_wp2_with (go_at_call 8; refine (ag_spec _ _ _ _ l _ HS1.out (by simp)).mono ?_; rw [hv]; rintro e w1 ⟨rfl, b1⟩)
    go_ret2
    exact ⟨none, 0, rfl, Nums.none_ _ _, (HB.out.trans (b1.mono (by simp))).alloc (by have := b1.size; simp at this; omega) _⟩
  · rw [V.fls_yes hv, HL.out]
    go_enter Try.func11, Try.ntmps11
    go_wp2_with (go_at_call 8; refine (ag_spec _ _ _ _ l _ HS1.out (by simp)).mono ?_; rw [hv, (V.r_yes hv).1, (V.r_yes hv).2]; rintro e w1 ⟨rfl, b1⟩)
    have hs1 := b1.size
    have hs1 : w.heap.size < w1.heap.size := by simp at hs1; omega
    have bW : Below (w.heap.size + 1) (w.alloc (Obj.cells #[] 3)) (w1.alloc (Obj.cells #[.int .i64 (V.low l), .int .i64 (V.high l)] 26)) := Below.alloc (by simpa using b1) (by omega) _
    have N0 : Nums w.heap.size (w1.alloc (Obj.cells #[.int .i64 (V.low l), .int .i64 (V.high l)] 26)) (some ⟨w.heap.size, 0, none⟩) 0 [] := Nums.keep (w := w.alloc (Obj.cells #[] 3)) HO.out (by simpa using bW)
    have S0 := HS1.out.below (bW.mono (by omega))
    have B0 := HB.out.trans (bW.mono (by omega))
    have C0 : (w1.alloc (Obj.cells #[.int .i64 (V.low l), .int .i64 (V.high l)] 26)).cell? ⟨w1.heap.size, 0, none⟩ = some (.int .i64 (V.low l)) := by simp
    have HN := Lib.hid (And.intro N0 (And.intro S0 (And.intro B0 C0)))
    clear b1 bW N0 S0 B0 C0
    generalize hZ : w1.heap.size = Z at *
    go_loopw [4, 7] (fun o i wr => ∃ (a' : Option Addr) (c' k : Nat), k ≤ n ∧ i = .int .i64 k ∧ o = .slice a' (V.flsTo l k).length c' ∧ Nums w.heap.size wr a' c' (V.flsTo l k) ∧ (∀ x, a' = some x → x.block ≠ Z) ∧ Sps w.heap.size wr a n l ∧ Below w.heap.size w wr ∧ wr.cell? ⟨Z, 0, none⟩ = some (.int .i64 (V.low l))) (fun _ i _ => n - (intOf i).toNat)
    case atStart => exact ⟨_, 0, 0, Nat.zero_le _, rfl, rfl, HN.out.1, fun x hx => by (injection hx with hx; subst hx; show w.heap.size ≠ Z; omega), HN.out.2.1, HN.out.2.2.1, HN.out.2.2.2⟩
    case round =>
      obtain ⟨a', c', k, hk, rfl, rfl, hN, hne, hS, hb, hc0⟩ := hrel
      have hZr := World.block_lt_of_cell? wr _ hc0
      have hZr : Z < wr.heap.size := hZr
      clear HN
      by_cases hlt : k < n
      · obtain ⟨b, off, rfl, hbb, hc⟩ := hS.at_ k hlt
        have c0 := (hc k hlt).1
        have c1 := (hc k hlt).2
        clear hc
        rcases inR_cases (V.low l) (V.lo l k) (V.hi l k) with ⟨r0, r1⟩ | ⟨r0, r1⟩
        · have HE := Lib.hid (V.flsTo_in r1)
          clear r1
          go_wp2
          go_quiet ((go_at_call 30; exact qsL (inR_spec _ _ _)))
          go_wp2
          go_roundw
          case rel => exact ⟨a', c', k + 1, by omega, by go_num, by rw [HE.out], by rw [HE.out]; exact hN.drewN _, hne, hS.drewN _, hb.trans (Same.below ⟨_, rfl⟩), hc0⟩
          case measure => simp [intOf]; omega
        · have HE := Lib.hid (V.flsTo_out r1)
          have hlen := V.flsTo_len l k
          clear r1
          go_wp2
          go_quiet ((go_at_call 30; exact qsL (inR_spec _ _ _)))
          have hNq := Lib.hid (fun (q : Nat) => hN.drewN q)
          have hbs := hb.size
          go_wp2_with (at_builtin; refine wpList_append_lies _ rfl _ _ 30 rfl w.heap.size 3 i0 (.int .i64 0) 1 8 Try.underlying30 hI.out hZ0.out hZ1.out hZ2.out rfl (by decide) (.slice a' (V.flsTo l k).length c') (V.flsTo l k).length (valsC (V.flsTo l k)) rfl ((hNq.out nq).alloc _) ⟨wr.heap.size, 0, none⟩ 1 1 [.int .i64 k] rfl rfl (cell_one_new _ _ _) (by intro u hu; simp at hu; subst hu; rfl) (by decide) (by unfold maxLen; omega) (by omega) (by simp; omega) _ rfl ?_)
          intro g cap w3 own3 hg3 hat3 hlt3
          have q3 : Below w.heap.size wr w3 := ((Same.below (B := w.heap.size) (w := wr) ⟨nq, rfl⟩).alloc (by show w.heap.size ≤ wr.heap.size; exact hbs) (Obj.cells #[.int .i64 k] 3)).grown hg3 (by simp; omega) (fun j hj => (World.ownsRow.lt (hNq.out nq) j hj).1)
          have hS3 := hS.below q3
          have hb3 := hb.trans q3
          have hZne : some Z ≠ (Value.slice a' (V.flsTo l k).length c').ownBlock := by
            intro e
            cases a' with
            | none => cases e
            | some y => simp [Value.ownBlock] at e; exact hne y rfl e.symm
          have hc3 : w3.cell? ⟨Z, 0, none⟩ = some (.int .i64 (V.low l)) := (World.cell?_of_block (a := ⟨Z, 0, none⟩) (hg3.block Z (by simp; omega) hZne)).trans ((World.cell?_alloc_lt _ _ ⟨Z, 0, none⟩ hZr).trans hc0)
          have hne3 : ∀ x : Addr, some (⟨g, 0, none⟩ : Addr) = some x → x.block ≠ Z := by
            intro x hx
            injection hx with hx
            subst hx
            show g ≠ Z
            rcases hat3 with e | e
            · intro h
              rw [h] at e
              exact hZne e.symm
            · omega
          have hlen1 : (V.flsTo l (k + 1)).length = (V.flsTo l k).length + 1 := by rw [HE.out]; simp
          have hN3 : Nums w.heap.size w3 (some ⟨g, 0, none⟩) cap (V.flsTo l (k + 1)) := by
            unfold Nums
            rw [hlen1, HE.out, ← valsC_snoc]
            exact own3
          have HF := Lib.hid (And.intro hN3 (And.intro hne3 (And.intro hS3 (And.intro hb3 hc3))))
          clear q3 hS3 hb3 hZne hc3 hne3 hN3 own3 hg3 hat3 hlt3
          go_wp2
          go_roundw
          case rel => exact ⟨some ⟨g, 0, none⟩, cap, k + 1, by omega, by go_num, by rw [hlen1], HF.out⟩
          case measure => simp [intOf]; omega
      · have hZZ := hN
        obtain rfl : k = n := by omega
        go_wp2
        go_ret2
        exact ⟨a', c', rfl, hN, hb⟩
end Go.Proofs.Ytlehpfcealohoaa
