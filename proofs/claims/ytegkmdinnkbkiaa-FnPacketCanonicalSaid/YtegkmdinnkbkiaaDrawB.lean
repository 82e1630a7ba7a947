/-
  The generator of a packet's bytes (chapter 10): bytes of whatever length up to 24; nothing that was there has changed.
-/
import Derived.Test.YtegkmdinnkbkiaaFormatO
import Derived.Test.YtegkmdinnkbkiaaDrawPk
import Derived.Test.YtegkmdinnkbkiaaCopyB
namespace Go.Proofs.Ytegkmdinnkbkiaa
open Go.RowKit
set_option linter.unusedVariables false
set_option maxRecDepth 100000
theorem own_step {w w' : World} {E0 g n cp r B : Nat} {xs : List Value} (h : w.ownsRow E0 5 1 (.slice (some ⟨g, 0, none⟩) n cp) n xs) (b : Below B w w') (f : Far w r w') (hr : r < E0) : w'.ownsRow E0 5 1 (.slice (some ⟨g, 0, none⟩) n cp) n xs :=
  World.ownsRow.kept (row := some r) h ⟨b.os, b.tape, b.output, b.size, fun j hj hne => f.block j hj (fun e => hne (by rw [e]))⟩ (.inr (fun e => by
    have h1 : E0 ≤ g := (World.ownsRow.lt h g rfl).1
    have h2 : g = r := by injection e
    omega))
theorem own_al {w : World} {E0 g n cp : Nat} {xs : List Value} (h : w.ownsRow E0 5 1 (.slice (some ⟨g, 0, none⟩) n cp) n xs) (hs : E0 ≤ w.heap.size) : E0 ≤ g ∧ g < w.heap.size := World.ownsRow.lt h g rfl
/-- The row's cells as bytes. -/
theorem own_bts {w : World} {E0 g n cp : Nat} {xs : List Value} {f : Nat → Int} (h : w.ownsRow E0 5 1 (.slice (some ⟨g, 0, none⟩) n cp) n xs) (hx : ∀ i, i < n → xs[i]? = some (.int .u8 (f i))) : Bts w.heap.size w (some ⟨g, 0, none⟩) n f :=
  .inr ⟨g, 0, rfl, (World.ownsRow.lt h g rfl).2, fun i hi => by
    have := h.cells (g := g) rfl i _ (hx i hi)
    rw [Nat.zero_add]
    rwa [show (Addr.add ⟨g, 0, none⟩ i) = ⟨g, i, none⟩ from by unfold Addr.add; split <;> simp_all] at this⟩
def FromPB (w : World) (e : Ending) (w' : World) : Prop := ∃ (a : Option Addr) (n c : Nat) (f : Nat → Int), e = .returned (.slice a n c) ∧ n ≤ 24 ∧ n ≤ c ∧ Bts w'.heap.size w' a n f ∧ (∀ i, 0 ≤ f i ∧ f i < 256) ∧ Below w.heap.size w w'
set_option maxHeartbeats 8000000 in
theorem DrawParsePacket_any (w : World) (a : Option Addr) (len cap : Nat) (h : Code w a len) (hcap : len ≤ cap) : Calls Try.prog 11 #[.slice a len cap] w (FromPB w) := by
  obtain ⟨i0, hi0, hz0, hz1, hz2⟩ := info_parts u8s_info
  have hI := Lib.hid hi0
  have hZ0 := Lib.hid hz0
  have hZ1 := Lib.hid hz1
  have hZ2 := Lib.hid hz2
  clear hi0 hz0 hz1 hz2
  go_enter Try.func11, Try.ntmps11
  go_wp2_with fail
  refine (newReader_any _ a len cap h hcap).mono ?_
  rintro e w1 ⟨rfl, b1, rd1⟩
  clear h
  go_wp2_with fail
  refine (anyPacket_any _ _ _ _ rd1 (by omega)).mono ?_
  rintro e w2 ⟨pa, pb, pc, pd, pe, pf, pg, ph, rfl, R⟩
  have b2 := b1.trans R.bel
  have rd2 := R.rdr
  clear b1 rd1 R
  go_wp2_with fail
  refine (FP_specO pa pb pc pd pe pf pg ph _).mono ?_
  rintro e w3 ⟨bb, hcase⟩
  have b3 := b2.trans (bb.mono b2.size)
  have rd3 := rd2.later bb
  have hr2 := rd2.top
  clear bb b2
  rcases hcase with ⟨_, rfl⟩ | ⟨hv, q, cp, hq0, hq1, hcp, rfl, ⟨E0, hE0, own3⟩, hcells⟩
  · clear rd2 rd3 hr2
    go_wp2
    go_ret
    exact ⟨none, 0, 0, fun _ => 0, rfl, by omega, by omega, .inl rfl, fun i => (by show (0 : Int) ≤ 0 ∧ (0 : Int) < 256; omega), b3⟩
  · have hvp := D.vp_of hv
    have HF := Lib.hid (fun i => (show 0 ≤ D.fb pa pb pc pd pe pf pg ph i ∧ D.fb pa pb pc pd pe pf pg ph i < 256 from D.fb_bd hvp i))
    have HX := Lib.hid (fun i hi => D.xs_get pa pb pc pd pe pf pg ph i hi)
    clear hcells hv hvp rd2
    have hXL := D.xs_len pa pb pc pd pe pf pg ph
    generalize D.fb pa pb pc pd pe pf pg ph = fb at *
    generalize D.xs pa pb pc pd pe pf pg ph = xs at *
    have HXL := Lib.hid hXL
    clear hXL
    have hrE : w.heap.size < E0 := Nat.lt_of_lt_of_le hr2 hE0
    go_wp2_with fail
    refine (pick_any _ _ _ _ _ rd3 (by omega)).mono ?_
    rintro e w4 ⟨k4, rfl, k40, k41, st4⟩
    have own4 := own_step own3 st4.bel st4.far hrE
    have b4 := b3.trans st4.bel
    have rd4 := st4.rdr
    clear own3 st4 b3 rd3
    by_cases h4 : k4 = 0
    rotate_left
    · have h4' : (k4 == 0) = false := by simpa using h4
      have HQ := Lib.hid (own_bts own4 HX.out)
      clear own4 rd4 h4
      go_wp2
      go_ret
      exact ⟨some ⟨q, 0, none⟩, 23, cp, fb, rfl, by omega, by omega, HQ.out, HF.out, b4⟩
    · subst h4
      go_wp2_with fail
      refine (pick_any _ _ _ _ _ rd4 (by omega)).mono ?_
      rintro e w5 ⟨k5, rfl, k50, k51, st5⟩
      have own5 := own_step own4 st5.bel st5.far hrE
      have b5 := b4.trans st5.bel
      have rd5 := st5.rdr
      clear own4 st5 b4 rd4
      rcases (by omega : k5 = 0 ∨ k5 = 1 ∨ k5 = 2) with rfl | rfl | rfl
      · have HQ := Lib.hid ((own_bts own5 HX.out).part 1 22 (by omega))
        have hcI : (23 : Int) ≤ (cp : Int) := by omega
        have hc1 : (1 : Int) ≤ (cp : Int) := by omega
        have hc2 : ¬ cp = 1 := by omega
        clear own5 rd5
        go_wp2
        go_ret
        exact ⟨some ⟨q, 1, none⟩, 22, cp - 1, fun i => fb (1 + i), (by first | rfl | simp), by omega, by omega, HQ.out, fun i => HF.out _, b5⟩
      · go_wp2_with fail
        refine (pick_any _ _ _ _ _ rd5 (by omega)).mono ?_
        rintro e w6 ⟨x, rfl, x0, x1, st6⟩
        have own6 := own_step own5 st6.bel st6.far hrE
        have b6 := b5.trans st6.bel
        have e1 : x % 256 = x := by omega
        have hEw : E0 ≤ w6.heap.size := by have := World.ownsRow.lt own6 q rfl; omega
        clear own5 st6 b5 rd5
        have HO := Lib.hid (And.intro own6 b6)
        clear own6 b6
        go_wp2_with (at_builtin; refine wpList_append_own _ rfl _ _ 22 rfl E0 5 i0 (.int .u8 0) 1 1 Try.underlying22 hI.out hZ0.out hZ1.out hZ2.out rfl (by decide) _ _ _ rfl (World.ownsRow.alloc HO.out.1 _) ⟨w6.heap.size, 0, none⟩ 1 1 [.int .u8 x] rfl rfl (World.news_of_block (heap_alloc_new _ _)) (by intro u hu; simp at hu; subst hu; rfl) (by unfold maxLen; omega) (by omega) (by simp; omega) ?_)
        intro v7 w7 own7 hg7 _
        have own7 : w7.ownsRow E0 5 1 v7 24 (xs ++ [.int .u8 x]) := own7
        obtain ⟨g7, c7, rfl, _, _⟩ := own7.form (by omega)
        have hc7 : 24 ≤ c7 := by
          rcases own7.2 with ⟨hv, _⟩ | ⟨g', cap', cur', hv, _, _, hle, _⟩
          · cases hv
          · injection hv with _ _ hv; omega
        have b7 : Below w.heap.size w w7 := ((HO.out.2).alloc (HO.out.2.size) (Obj.cells #[.int .u8 x] 5)).grown hg7 (by rw [World.size_alloc]; have := HO.out.2.size; omega) (fun j hj => by have := (World.ownsRow.lt HO.out.1 j hj).1; omega)
        have HQ := Lib.hid (And.intro (own_bts (f := fun i => if i < 23 then fb i else x) own7 (fun i hi => by
          by_cases h : i < 23
          · rw [List.getElem?_append_left (by rw [HXL.out]; exact h), HX.out i h]
            simp only [h, if_true]
          · obtain rfl : i = 23 := by omega
            rw [List.getElem?_append_right (by rw [HXL.out]; omega), HXL.out]
            rfl)) b7)
        clear own7 hg7 b7
        go_wp2
        go_ret
        exact ⟨some ⟨g7, 0, none⟩, 24, c7, fun i => if i < 23 then fb i else x, rfl, by omega, hc7, HQ.out.1, fun i => (by
          show 0 ≤ (if i < 23 then fb i else x) ∧ (if i < 23 then fb i else x) < 256
          have := HF.out i
          split <;> omega), HQ.out.2⟩
      · go_wp2_with fail
        refine (pick_any _ _ _ _ _ rd5 (by omega)).mono ?_
        rintro e w6 ⟨j, rfl, j0, j1, st6⟩
        have own6 := own_step own5 st6.bel st6.far hrE
        have b6 := b5.trans st6.bel
        have rd6 := st6.rdr
        clear own5 st6 b5 rd5
        go_wp2_with fail
        refine (pick_any _ _ _ _ _ rd6 (by omega)).mono ?_
        rintro e w7 ⟨x, rfl, x0, x1, st7⟩
        have own7 := own_step own6 st7.bel st7.far hrE
        have b7 := b6.trans st7.bel
        clear own6 st7 b6 rd6
        obtain ⟨jn, rfl⟩ : ∃ jn : Nat, j = (jn : Int) := ⟨j.toNat, by omega⟩
        have hj : jn < 23 := by omega
        have hcur := own7.cellAt jn (by omega)
        rw [HX.out jn hj] at hcur
        have hfr := own7.frozenAt jn
        have hst := own7.stored jn (.int .u8 x)
        have hq : E0 ≤ q := (World.ownsRow.lt own7 q rfl).1
        have e1 : x % 256 = x := by omega
        have HQ := Lib.hid (And.intro (own_bts (f := fun i => if i = jn then x else fb i) hst.1 (fun i hi => by
          rw [List.getElem?_set]
          by_cases h : i = jn
          · subst h
            simp [HXL.out, hi]
          · rw [if_neg (fun k => h k.symm), HX.out i hi]
            simp only [h, if_false])) (b7.setCell (p := ⟨q, jn, none⟩) (show w.heap.size ≤ q by omega) (.int .u8 x)))
        clear own7 hst b7
        go_wp2
        go_ret
        exact ⟨some ⟨q, 0, none⟩, 23, cp, fun i => if i = jn then x else fb i, rfl, by omega, by omega, HQ.out.1, fun i => (by
          show 0 ≤ (if i = jn then x else fb i) ∧ (if i = jn then x else fb i) < 256
          have := HF.out i
          split <;> omega), HQ.out.2⟩
end Go.Proofs.Ytegkmdinnkbkiaa
