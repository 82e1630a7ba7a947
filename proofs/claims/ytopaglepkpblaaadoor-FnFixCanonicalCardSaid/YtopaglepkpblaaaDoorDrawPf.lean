/-
  What the generator of sentences of fixes returns: some text of moderate length, and nothing that was there has changed. Condition: the code has at most 1048576 bytes.
-/
import Derived.Test.YtopaglepkpblaaaDoorDrawF
import Derived.Test.YtopaglepkpblaaaDoorDrawT
import Derived.Test.YtopaglepkpblaaaDoorText
import Derived.Laws.Strings3
namespace Go.Proofs.YtopaglepkpblaaaDoor
open Go.RowKit
set_option linter.unusedVariables false
set_option maxRecDepth 100000
theorem Rdr.bw {B r m : Nat} {w w' : World} (h : Rdr B w r m) (hb : Below w.heap.size w w') : Rdr B w' r m :=
  h.keep hb.size (fun b o hlt => hb.cell (p := ⟨b, o, none⟩) hlt) (hb.frozen (p := ⟨r, 1, none⟩) h.top)
set_option maxHeartbeats 4000000 in
theorem DrawParseFix_any (w : World) (a : Option Addr) (len cap : Nat) (h : Code w a len) (hcap : len ≤ cap) : Calls Tryd.prog 12 #[.slice a len cap] w (CodeS w) := by
  go_enter Tryd.func12, Tryd.ntmps12
  go_wp2_with fail
  refine (newReader_any w a len cap h hcap).mono ?_
  rintro e w1 ⟨rfl, bl1, rd1⟩
  go_wp2_with fail
  refine (anyFix_rd _ _ _ _ rd1 (by omega)).mono ?_
  rintro e w2 ⟨y, m, d, s, n, rfl, -, -, -, -, -, bl2, rd2⟩
  go_wp2_with fail
  refine (ff_spec _ _ _ _ _ _).mono ?_
  rintro e w3 ⟨rfl, hb3⟩
  have rd3 := rd2.bw hb3
  have bb3 := (bl1.trans bl2).trans (hb3.mono (by have := bl1.size; have := bl2.size; omega))
  have hf : (X.ff y m d s n).size = 0 ∨ (27 ≤ (X.ff y m d s n).size ∧ (X.ff y m d s n).size ≤ 28) := by
    rcases h : X.vf y m d s n with _ | _
    · exact .inl (by rw [X.ff_no h]; rfl)
    · exact .inr (X.ff_size h)
  generalize X.ff y m d s n = f at *
  clear rd1 rd2 bl1 bl2 hb3
  rcases hf with hf | hf
  · have g4 : ¬ ((4 : Int) < (f.size : Int)) := by omega
    have T := Lib.hid bb3
    clear rd3 bb3
    go_wp2
    go_ret
    exact ⟨f, rfl, by omega, T.out⟩
  · have g4 : (4 : Int) < (f.size : Int) := by omega
    go_wp2_with fail
    refine (pick_any _ _ _ _ _ rd3 (by omega)).mono ?_
    rintro e w4 ⟨k4, rfl, a4, b4, st4⟩
    have bb4 := bb3.trans st4.bel
    have rd4 := st4.rdr
    clear st4 bb3 rd3 b4
    by_cases h0 : k4 = 0
    · subst h0
      have hsl : ∀ W : World, (Instr.slice 9 (.string f) (some (.int .i64 1)) (some (.int .i64 ((f.size : Int) - 3))) none).run Tryd.prog W = .ok (.string (f.extract 1 (f.size - 3))) W := fun W => by
        have h := run_slice_string (P := Tryd.prog) W 9 f .i64 .i64 1 ((f.size : Int) - 3) Tryd.underlying9 (by omega) (by omega) (by omega)
        rwa [show (1 : Int).toNat = 1 from rfl, show ((f.size : Int) - 3).toNat = f.size - 3 by omega] at h
      have hx : (f.extract 1 (f.size - 3)).size ≤ 5000 := by rw [ByteArray.size_extract]; omega
      generalize f.extract 1 (f.size - 3) = x at *
      go_wp2_with fail
      refine (mutate_any _ _ _ x _ rd4 (by omega) (by omega)).mono ?_
      rintro e w5 ⟨t, rfl, ht, bl5, rd5, fr5⟩
      have bb5 := bb4.trans bl5
      clear bb4 rd4 bl5 fr5 hsl
      have BS := Lib.hid (fun w' => body_spec t (by unfold maxLen; omega) w')
      rcases hb : S.body t with _ | _
      · rw [hb] at BS
        go_wp2_with fail
        refine (BS.out _).mono ?_
        rintro e w6 ⟨rfl, rfl⟩
        go_wp2_with fail
        refine (mutate_any _ _ _ f _ rd5 (by omega) (by omega)).mono ?_
        rintro e w7 ⟨t2, rfl, ht2, bl7, rd7, fr7⟩
        have T := Lib.hid (bb5.trans bl7)
        clear bb5 bl7 rd7 fr7
        go_wp2
        go_ret
        exact ⟨t2, rfl, by omega, T.out⟩
      · rw [hb] at BS
        have FB := Lib.hid (fun w' => frameB_spec t (by unfold maxLen; omega) w')
        have hfl := S.frame_le t
        generalize S.frame t = ft at *
        go_wp2_with fail
        refine (BS.out _).mono ?_
        rintro e w6 ⟨rfl, rfl⟩
        go_wp2_with fail
        refine (pick_any _ _ _ _ _ rd5 (by omega)).mono ?_
        rintro e w7 ⟨k7, rfl, a7, b7, st7⟩
        have bb7 := bb5.trans st7.bel
        have rd7 := st7.rdr
        clear st7 bb5 rd5 b7
        by_cases h7 : 0 < k7
        · go_wp2_with fail
          refine (FB.out _).mono ?_
          rintro e w8 ⟨rfl, rfl⟩
          have T := Lib.hid bb7
          clear bb7 rd7
          go_wp2
          go_ret
          exact ⟨ft, rfl, by omega, T.out⟩
        · have h7' : decide (0 < k7) = false := decide_eq_false h7
          go_wp2_with fail
          refine (mutate_any _ _ _ f _ rd7 (by omega) (by omega)).mono ?_
          rintro e w8 ⟨t2, rfl, ht2, bl8, rd8, fr8⟩
          have T := Lib.hid (bb7.trans bl8)
          clear bb7 bl8 rd8 fr8
          go_wp2
          go_ret
          exact ⟨t2, rfl, by omega, T.out⟩
    · have h0' : (k4 == 0) = false := by simpa using h0
      have T := Lib.hid bb4
      clear bb4 rd4 h0
      go_wp2
      go_ret
      exact ⟨f, rfl, by omega, T.out⟩
end Go.Proofs.YtopaglepkpblaaaDoor
