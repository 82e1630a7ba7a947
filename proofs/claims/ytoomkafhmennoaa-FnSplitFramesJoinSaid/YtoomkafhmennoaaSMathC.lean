/-
  More plain mathematics of the search for sentences: a sentence in front, noise in front, and where the sentences that are found stand. No program is read here.
-/
import Derived.Test.YtoomkafhmennoaaSMathB
namespace Go.Proofs.Ytoomkafhmennoaa.S
theorem extract_app_l (a b : ByteArray) : (a ++ b).extract 0 a.size = a := by
  apply ext
  rw [lst_extract, lst_append, List.drop_zero, Nat.sub_zero, ← size_lst, List.take_left]
def zed : ByteArray := mk [90]
theorem zed_body : body zed = true := by decide
theorem zed_size : (frame zed).size = 5 := by rw [frame_size zed_body]; rfl
/-- A sentence in front. -/
theorem run_join {s : ByteArray} {T : List ByteArray} (h : Run s 0 [] T) (hT : T.length < 8) : Run (frame zed ++ s) 0 [] (zed :: T) := by
  have hz := zed_size
  have hr := rd_of_frame zed_body
  have hsz : (frame zed ++ s).size = 5 + s.size := by rw [size_app, hz]
  have a0 : at_ (frame zed ++ s) 0 = 36 := by rw [at_append_l _ _ _ (by omega)]; exact frame_at0 zed_body
  have a1 : at_ (frame zed ++ s) 1 = 90 := by rw [at_append_l _ _ _ (by omega)]; exact frame_in zed_body 0 (by decide)
  have a2 : at_ (frame zed ++ s) 2 = 42 := by rw [at_append_l _ _ _ (by omega)]; exact frame_star zed_body
  have hx : (frame zed ++ s).extract 0 5 = frame zed := by have := extract_app_l (frame zed) s; rwa [hz] at this
  have hh : Hit (frame zed ++ s) 0 5 := ⟨a0, ⟨2, ⟨by omega, by omega, fun i _ hi => by
    rcases (show i = 0 ∨ i = 1 by omega) with rfl | rfl
    · rw [a0]; decide
    · rw [a1]; decide, fun _ => a2⟩, rfl⟩, by omega, by rw [hx]; exact hr.1⟩
  refine Run.hit 0 5 [] _ (by simp) hh ?_
  rw [hx, hr.2]
  have := Run.shift (f := frame zed) [zed] h (by simp; omega)
  rwa [hz] at this
/-- Noise in front. -/
def noise : ByteArray := { data := #[120, 49, 42, 65] }
theorem run_noise {s : ByteArray} {T : List ByteArray} (h : Run s 0 [] T) : Run (noise ++ s) 0 [] T := by
  have hz : noise.size = 4 := rfl
  have hsz : (noise ++ s).size = 4 + s.size := by rw [size_app, hz]
  have hsh := Run.shift (f := noise) [] h (by have := h.le.2 (by simp); simpa using this)
  rw [hz, Nat.add_zero] at hsh
  refine Run.over 0 4 (by omega) (by omega) (by simp) (fun i _ hi => no_hit ?_) hsh
  rw [at_append_l _ _ _ (by omega)]
  rcases (show i = 0 ∨ i = 1 ∨ i = 2 ∨ i = 3 by omega) with rfl | rfl | rfl | rfl <;> decide
/-- The sentences stand in the text, one behind the other. -/
def Occ (s : ByteArray) : Nat → List ByteArray → Prop
  | _, [] => True
  | a, x :: T => ∃ p, a ≤ p ∧ p + (frame x).size ≤ s.size ∧ s.extract p (p + (frame x).size) = frame x ∧ body x = true ∧ Occ s (p + (frame x).size) T
theorem Occ.mono {s : ByteArray} {a b : Nat} {T : List ByteArray} (h : Occ s a T) (hb : b ≤ a) : Occ s b T := by
  cases T with
  | nil => exact trivial
  | cons x T =>
    obtain ⟨p, h1, h2⟩ := h
    exact ⟨p, by omega, h2⟩
theorem Run.occ {s : ByteArray} {a : Nat} {o r : List ByteArray} (h : Run s a o r) : ∃ T, r = o ++ T ∧ Occ s a T := by
  induction h with
  | stop a o h => exact ⟨[], by simp, trivial⟩
  | skip a o r h1 h2 h3 _ ih =>
    obtain ⟨T, e, hT⟩ := ih
    exact ⟨T, e, hT.mono (by omega)⟩
  | hit a q o r h1 h2 _ ih =>
    obtain ⟨T, e, hT⟩ := ih
    have hb := rd_body h2.rd
    have hf := h2.frame
    have hlt := h2.lt
    have htop := h2.top
    rw [← rdS_yes h2.rd] at hb
    have hsz : (frame (rdS (s.extract a q))).size = q - a := by rw [hf, ByteArray.size_extract]; omega
    refine ⟨rdS (s.extract a q) :: T, by rw [e]; simp, a, Nat.le_refl _, by omega, ?_, hb, ?_⟩
    · rw [hsz, show a + (q - a) = q from by omega, hf]
    · rw [hsz, show a + (q - a) = q from by omega]; exact hT
end Go.Proofs.Ytoomkafhmennoaa.S
