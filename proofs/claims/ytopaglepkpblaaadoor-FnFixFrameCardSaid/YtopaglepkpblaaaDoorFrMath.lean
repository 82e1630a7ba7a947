/-
  A sentence alone: the search for sentences finds its text. No program is read here.
-/
import Derived.Test.YtopaglepkpblaaaDoorSMath
import Derived.Test.YtopaglepkpblaaaDoorTxMath
namespace Go.Proofs.YtopaglepkpblaaaDoor.S
theorem extract_all (s : ByteArray) : s.extract 0 s.size = s := by
  apply ext
  rw [lst_extract, List.drop_zero, Nat.sub_zero, ← size_lst s, List.take_length]
theorem run_frame {t : ByteArray} (h : body t = true) : Run (frame t) 0 [] [t] := by
  have hz := frame_size h
  have hr := rd_of_frame h
  have hb := body_of h
  have hs : Star (frame t) 0 (t.size + 1) := by
    refine ⟨by omega, by omega, fun i _ hi => ?_, fun _ => frame_star h⟩
    rcases i with _ | i
    · rw [frame_at0 h]; decide
    · rw [frame_in h i (by omega)]
      have := hb.2 i (by omega)
      unfold okN at this; omega
  have hx : (frame t).extract 0 (frame t).size = frame t := extract_all _
  have hh : Hit (frame t) 0 (frame t).size := ⟨frame_at0 h, ⟨_, hs, by omega⟩, Nat.le_refl _, by rw [hx]; exact hr.1⟩
  have r := Run.hit 0 (frame t).size [] [t] (by simp) hh (by
    rw [hx, hr.2]
    exact Run.stop _ _ (.inl (Nat.le_refl _)))
  exact r
end Go.Proofs.YtopaglepkpblaaaDoor.S
