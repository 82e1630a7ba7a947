/-
  The generator of RunClock's arguments: some clock and some list of samples, and nothing that was there has changed. Condition: the code has at most 1048576 bytes.
-/
import Derived.Test.YtljdnncodgnpcaaDrawK2
import Derived.Test.YtljdnncodgnpcaaDrawQ
namespace Go.Proofs.Ytljdnncodgnpcaa
open Go.RowKit
set_option linter.unusedVariables false
set_option maxRecDepth 100000
theorem Sms.otherR {B : Nat} {w : World} {a : Option Addr} {n b i : Nat} {l : List Q.Sm} {v : Value} (h : Sms B w a n l) (hb : 0 < n → ∀ x, a = some x → x.block ≠ b) : Sms B (w.setCell ⟨b, i, none⟩ v) a n l := by
  refine ⟨h.1, h.2.1, ?_⟩
  rcases Nat.eq_zero_or_pos n with h0 | h0
  · exact .inl h0
  · obtain ⟨g, off, e, hg, hc⟩ := h.at_ 0 h0
    have hne : g ≠ b := hb h0 _ e
    have hoth : ∀ o, (w.setCell ⟨b, i, none⟩ v).cell? ⟨g, o, none⟩ = w.cell? ⟨g, o, none⟩ := fun o => World.cell?_setCell_other _ _ _ _ (fun e => hne (by injection e with e; exact e.symm))
    exact .inr ⟨g, off, e, hg, fun j hj => ⟨(hoth _).trans (hc j hj).1, (hoth _).trans (hc j hj).2.1, (hoth _).trans (hc j hj).2.2⟩⟩
def FromR (w : World) (e : Ending) (w' : World) : Prop := ∃ (o p a : Int) (ad : Option Addr) (cp : Nat) (l : List Q.Sm), e = .returned (.tuple #[.agg #[.int .i64 o, .int .i64 p, .int .i64 a], .slice ad l.length cp]) ∧ (-1000001 ≤ o ∧ o ≤ 1000001) ∧ (-500001 ≤ p ∧ p ≤ 500001) ∧ (-1 ≤ a ∧ a ≤ 3786479999) ∧ l.length ≤ 9 ∧ l.length ≤ cp ∧ cp ≤ maxLen ∧ Small3 l ∧ Sms w'.heap.size w' ad l.length l ∧ Below w.heap.size w w' ∧ (l = [] → ad = none ∧ cp = 0)
set_option maxHeartbeats 4000000 in
theorem DrawRunClock_any (w : World) (a : Option Addr) (len cap : Nat) (h : Code w a len) (hcap : len ≤ cap) : Calls Try.prog 16 #[.slice a len cap] w (FromR w) := by
  have Z := Z3.new w 24
  have h1 := h.laterK Z.bel
  go_enter Try.func16, Try.ntmps16
  go_wp2_with fail
  refine (newReader_any _ a len cap h1 hcap).mono ?_
  rintro e w1 ⟨rfl, bl1, rd1⟩
  have Z1 := Z.b bl1 (by simp)
  clear Z bl1 h1
  have hRB : w.heap.size < (w.alloc (Obj.cells #[.int .i64 0, .int .i64 0, .int .i64 0] 24)).heap.size := by simp
  generalize (w.alloc (Obj.cells #[.int .i64 0, .int .i64 0, .int .i64 0] 24)).heap.size = r at rd1 hRB ⊢
  have R1 := RK.mk0 rd1
  go_wp2_with fail
  refine (anyClock_any _ _ _ _ rd1 (by omega)).mono ?_
  rintro e w2 ⟨o, p, c, rfl, ho, hp, hc, R⟩
  have Z2 := Z1.b R.bel hRB
  have db : BoxK (w2.alloc (.cells #[.int .i64 o, .int .i64 p, .int .i64 c] 24)) r w2.heap.size o p c := BoxK.new _ _ _ _ R.rdr.top
  have R2 := (R1.next R.rdr R.bel R.far).alloc #[.int .i64 o, .int .i64 p, .int .i64 c] 24
  have Z3' := Z2.b (((Below.refl w2.heap.size w2)).alloc (Nat.le_refl _) (.cells #[.int .i64 o, .int .i64 p, .int .i64 c] 24)) Z2.lt
  have hDR : w2.heap.size ≠ w.heap.size := by have := Z2.lt; omega
  clear Z1 Z2 R R1 rd1
  go_wp2_with fail
  generalize w2.alloc (.cells #[.int .i64 o, .int .i64 p, .int .i64 c] 24) = W at db R2 Z3' ⊢
  generalize w2.heap.size = D at db hDR ⊢
  refine (pick_any _ r _ _ _ R2.rdr (by omega)).mono ?_
  rintro e w3 ⟨k3, rfl, a3, b3, st3⟩
  have R3 := R2.step st3
  have Z3 := Z3'.b st3.bel hRB
  have db3 := db.far st3.far
  clear b3 st3 R2 db Z3'
  by_cases h0 : k3 = 0
  · subst h0
    have u0 := Z3.c0
    have u1 := Z3.c1
    have u2 := Z3.c2
    have v0 := Z3.f0
    have v1 := Z3.f1
    have v2 := Z3.f2
    have d0 := db3.c0
    have d1 := db3.c1
    have d2 := db3.c2
    have HZ := Lib.hid (Z3.fin (.int .i64 o) (.int .i64 p) (.int .i64 c))
    clear R3 Z3 db3
    go_wp2
    exact bodyPost_ret (v := .tuple #[.agg #[.int .i64 o, .int .i64 p, .int .i64 c], .slice none 0 0]) (by simp [results, Try.results16, go_sem, u0, u1, u2]) rfl ⟨o, p, c, none, 0, [], rfl, ho, hp, hc, by simp, by simp, by unfold maxLen; omega, Small3.nil, ⟨rfl, by simp, .inl rfl⟩, HZ.out, fun _ => ⟨rfl, rfl⟩⟩
  have h0' : (k3 == 0) = false := by simpa using h0
  clear h0
  go_wp2_with fail
  refine (pick_any _ r _ _ _ R3.rdr (by omega)).mono ?_
  rintro e w4 ⟨k4, rfl, a4, b4, st4⟩
  have R4 := R3.step st4
  have Z4 := Z3.b st4.bel hRB
  have db4 := db3.far st4.far
  clear b4 st4 R3 db3 Z3
  by_cases h1 : k4 = 0
  · subst h1
    go_wp2_with fail
    refine wp_region_held_drew (S := (fun w' => w'.cell? ⟨D, 0, none⟩ = some (.int .i64 o) ∧ w'.cell? ⟨D, 1, none⟩ = some (.int .i64 p) ∧ w'.cell? ⟨D, 2, none⟩ = some (.int .i64 c))) (by kernel_rfl) (⟨db4.c0, db4.c1, db4.c2⟩) (fun hHeld => ?_)
    have db5 := db4.drew
    have R5 := R4.drew
    have Z5 := Z4.drew
    clear db4 R4 Z4
    generalize w4.drew = V at *
    refine wpAnyH_take (i := 0) (v := ?_) rfl (by kernel_rfl) (by kernel_rfl) (by kernel_rfl) (fun _ _ _ h => h) (Or.inl ⟨by rfl, ?_⟩) (by assumption) ?_
    rotate_left
    · intro w hSw
      (try dsimp only at hSw)
      go_simp
      all_goals with_reducible rfl
    try simp only [Act.put, List.setIfInBounds_toArray, List.set_cons_zero, List.set_cons_succ, List.getElem_toArray, List.getElem_cons_zero]
    refine wpAnyH_take (i := 1) (v := ?_) rfl (by kernel_rfl) (by kernel_rfl) (by kernel_rfl) (fun _ _ _ h => h) (Or.inl ⟨by rfl, ?_⟩) (by assumption) ?_
    rotate_left
    · intro w hSw
      (try dsimp only at hSw)
      go_simp
      all_goals with_reducible rfl
    try simp only [Act.put, List.setIfInBounds_toArray, List.set_cons_zero, List.set_cons_succ, List.getElem_toArray, List.getElem_cons_zero, List.getElem_cons_succ]
    refine wpAnyH_ready (rs := [2]) (by kernel_rfl) (by simp) ?_
    refine AllReadyH.cons rfl (fun K hK => ?_) AllReadyH.nil
    go_simp
    (go_at_call 48; refine (anySamples_any _ r _ _ R5.rdr (by omega)).mono ?_; rintro e w7 ⟨a7, c7, l7, rfl, hl7, hc7, hm7, hS7, hs7, rd7, bl7, fr7, hr7⟩; have db7 := db5.far fr7; have Z7 := Z5.b bl7 hRB; clear db5 R5 Z5 bl7 rd7 fr7)
    refine hK.out _ _ (⟨db7.c0, db7.c1, db7.c2⟩) (fun hHeld => ?_)
    clear hK K
    try simp only [Act.put, List.setIfInBounds_toArray, List.set_cons_zero, List.set_cons_succ, List.getElem_toArray, List.getElem_cons_zero, List.getElem_cons_succ]
    have u0 := Z7.c0
    have u1 := Z7.c1
    have u2 := Z7.c2
    have v0 := Z7.f0
    have v1 := Z7.f1
    have v2 := Z7.f2
    have hx7 : 0 < l7.length → ∀ x, a7 = some x → x.block ≠ w.heap.size := fun _ x hx => by have := hr7 x hx; have := hRB; omega
    have HS := Lib.hid (((hS7.otherR (i := 0) (v := .int .i64 o) hx7).otherR (i := 1) (v := .int .i64 p) hx7).otherR (i := 2) (v := .int .i64 c) hx7)
    have HZ := Lib.hid (Z7.fin (.int .i64 o) (.int .i64 p) (.int .i64 c))
    have db8 := ((db7.other (i := 0) (v := .int .i64 o) (Ne.symm hDR)).other (i := 1) (v := .int .i64 p) (Ne.symm hDR)).other (i := 2) (v := .int .i64 c) (Ne.symm hDR)
    clear Z7 hS7 hx7 hr7
    refine wpAnyH_ready (rs := [3]) (by kernel_rfl) (by simp) ?_
    refine AllReadyH.cons rfl (fun K hK => ?_) AllReadyH.nil
    go_simp
    skip
    refine hK.out _ _ (⟨db8.c0, db8.c1, db8.c2⟩) (fun hHeld => ?_)
    clear hK K
    try simp only [Act.put, List.setIfInBounds_toArray, List.set_cons_zero, List.set_cons_succ, List.getElem_toArray, List.getElem_cons_zero, List.getElem_cons_succ]
    refine wpAnyH_take (i := 4) (v := ?_) rfl (by kernel_rfl) (by kernel_rfl) (by kernel_rfl) (fun _ _ _ h => h) (Or.inl ⟨by rfl, ?_⟩) (by assumption) ?_
    rotate_left
    · intro w hSw
      (try dsimp only at hSw)
      go_simp
      all_goals with_reducible rfl
    try simp only [Act.put, List.setIfInBounds_toArray, List.set_cons_zero, List.set_cons_succ, List.getElem_toArray, List.getElem_cons_zero, List.getElem_cons_succ]
    refine wpAnyH_done (by kernel_rfl) ?_ _
    go_wp2
    exact bodyPost_ret (v := .tuple #[.agg #[.int .i64 o, .int .i64 p, .int .i64 c], .slice a7 l7.length c7]) (by simp [results, Try.results16, go_sem, u0, u1, u2]) rfl ⟨o, p, c, a7, c7, l7, rfl, ho, hp, hc, hl7.2, hc7, hm7, hs7, HS.out.more (by simp), HZ.out, fun hn => by subst hn; simp at hl7⟩
  have h1' : (k4 == 0) = false := by simpa using h1
  clear h1
  go_wp2_with fail
  refine wp_region_held_drew (S := (fun w' => w'.cell? ⟨D, 0, none⟩ = some (.int .i64 o) ∧ w'.cell? ⟨D, 1, none⟩ = some (.int .i64 p) ∧ w'.cell? ⟨D, 2, none⟩ = some (.int .i64 c))) (by kernel_rfl) (⟨db4.c0, db4.c1, db4.c2⟩) (fun hHeld => ?_)
  have db5 := db4.drew
  have R5 := R4.drew
  have Z5 := Z4.drew
  clear db4 R4 Z4
  generalize w4.drew = V at *
  refine wpAnyH_take (i := 0) (v := ?_) rfl (by kernel_rfl) (by kernel_rfl) (by kernel_rfl) (fun _ _ _ h => h) (Or.inl ⟨by rfl, ?_⟩) (by assumption) ?_
  rotate_left
  · intro w hSw
    (try dsimp only at hSw)
    go_simp
    all_goals with_reducible rfl
  try simp only [Act.put, List.setIfInBounds_toArray, List.set_cons_zero, List.set_cons_succ, List.getElem_toArray, List.getElem_cons_zero]
  refine wpAnyH_take (i := 1) (v := ?_) rfl (by kernel_rfl) (by kernel_rfl) (by kernel_rfl) (fun _ _ _ h => h) (Or.inl ⟨by rfl, ?_⟩) (by assumption) ?_
  rotate_left
  · intro w hSw
    (try dsimp only at hSw)
    go_simp
    all_goals with_reducible rfl
  try simp only [Act.put, List.setIfInBounds_toArray, List.set_cons_zero, List.set_cons_succ, List.getElem_toArray, List.getElem_cons_zero, List.getElem_cons_succ]
  refine wpAnyH_take (i := 2) (v := ?_) rfl (by kernel_rfl) (by kernel_rfl) (by kernel_rfl) (fun _ _ _ h => h) (Or.inl ⟨by rfl, ?_⟩) (by assumption) ?_
  rotate_left
  · intro w hSw
    (try dsimp only at hSw)
    go_simp
    all_goals with_reducible rfl
  try simp only [Act.put, List.setIfInBounds_toArray, List.set_cons_zero, List.set_cons_succ, List.getElem_toArray, List.getElem_cons_zero, List.getElem_cons_succ]
  refine wpAnyH_take (i := 3) (v := ?_) rfl (by kernel_rfl) (by kernel_rfl) (by kernel_rfl) (fun _ _ _ h => h) (Or.inl ⟨by rfl, ?_⟩) (by assumption) ?_
  rotate_left
  · intro w hSw
    (try dsimp only at hSw)
    go_simp
    all_goals with_reducible rfl
  try simp only [Act.put, List.setIfInBounds_toArray, List.set_cons_zero, List.set_cons_succ, List.getElem_toArray, List.getElem_cons_zero, List.getElem_cons_succ]
  refine wpAnyH_take (i := 4) (v := ?_) rfl (by kernel_rfl) (by kernel_rfl) (by kernel_rfl) (fun _ _ _ h => h) (Or.inl ⟨by rfl, ?_⟩) (by assumption) ?_
  rotate_left
  · intro w hSw
    (try dsimp only at hSw)
    go_simp
    all_goals with_reducible rfl
  try simp only [Act.put, List.setIfInBounds_toArray, List.set_cons_zero, List.set_cons_succ, List.getElem_toArray, List.getElem_cons_zero, List.getElem_cons_succ]
  refine wpAnyH_ready (rs := [5]) (by kernel_rfl) (by simp) ?_
  refine AllReadyH.cons rfl (fun K hK => ?_) AllReadyH.nil
  go_simp
  (go_at_call 47; refine (pick_any _ r _ _ _ R5.rdr (by omega)).mono ?_; rintro e w6 ⟨k6, rfl, a6, b6, st6⟩; have db6 := db5.far st6.far; have R6 := R5.step st6; have Z6 := Z5.b st6.bel hRB; have c6 : k6 ≤ 50 := (by omega); clear st6 b6 db5 R5 Z5)
  refine hK.out _ _ (⟨db6.c0, db6.c1, db6.c2⟩) (fun hHeld => ?_)
  clear hK K
  try simp only [Act.put, List.setIfInBounds_toArray, List.set_cons_zero, List.set_cons_succ, List.getElem_toArray, List.getElem_cons_zero, List.getElem_cons_succ]
  have ew : IntKind.i64.wrap (c + k6) = c + k6 := IntWalk.i64_in _ (by omega)
  refine wpAnyH_take (i := 6) (v := ?_) rfl (by kernel_rfl) (by kernel_rfl) (by kernel_rfl) (fun _ _ _ h => h) (Or.inl ⟨by rfl, ?_⟩) (by assumption) ?_
  rotate_left
  · intro w hSw
    (try dsimp only at hSw)
    go_simp
    all_goals with_reducible rfl
  try simp only [Act.put, List.setIfInBounds_toArray, List.set_cons_zero, List.set_cons_succ, List.getElem_toArray, List.getElem_cons_zero, List.getElem_cons_succ]
  clear ew
  refine wpAnyH_ready (rs := [7]) (by kernel_rfl) (by simp) ?_
  refine AllReadyH.cons rfl (fun K hK => ?_) AllReadyH.nil
  go_simp
  (go_at_call 49; refine (someSamples_any _ r _ _ _ R6.rdr (by omega) (by omega)).mono ?_; rintro e w7 ⟨vv, l7, rfl, hl0, hl7, hs7, Q7⟩; obtain ⟨a7, c7, rfl, hS7, hc7, hm7, hr7⟩ := Q7.sms (by omega); have db7 := db6.far Q7.far; have Z7 := Z6.b Q7.bel hRB; clear db6 R6 Z6 Q7)
  refine hK.out _ _ (⟨db7.c0, db7.c1, db7.c2⟩) (fun hHeld => ?_)
  clear hK K
  try simp only [Act.put, List.setIfInBounds_toArray, List.set_cons_zero, List.set_cons_succ, List.getElem_toArray, List.getElem_cons_zero, List.getElem_cons_succ]
  have u0 := Z7.c0
  have u1 := Z7.c1
  have u2 := Z7.c2
  have v0 := Z7.f0
  have v1 := Z7.f1
  have v2 := Z7.f2
  have hx7 : 0 < l7.length → ∀ x, a7 = some x → x.block ≠ w.heap.size := fun h x hx => by have := hr7 h x hx; have := hRB; omega
  have HS := Lib.hid (((hS7.otherR (i := 0) (v := .int .i64 o) hx7).otherR (i := 1) (v := .int .i64 p) hx7).otherR (i := 2) (v := .int .i64 c) hx7)
  have HZ := Lib.hid (Z7.fin (.int .i64 o) (.int .i64 p) (.int .i64 c))
  have db8 := ((db7.other (i := 0) (v := .int .i64 o) (Ne.symm hDR)).other (i := 1) (v := .int .i64 p) (Ne.symm hDR)).other (i := 2) (v := .int .i64 c) (Ne.symm hDR)
  clear Z7 hS7 hx7 hr7
  refine wpAnyH_ready (rs := [8]) (by kernel_rfl) (by simp) ?_
  refine AllReadyH.cons rfl (fun K hK => ?_) AllReadyH.nil
  go_simp
  skip
  refine hK.out _ _ (⟨db8.c0, db8.c1, db8.c2⟩) (fun hHeld => ?_)
  clear hK K
  try simp only [Act.put, List.setIfInBounds_toArray, List.set_cons_zero, List.set_cons_succ, List.getElem_toArray, List.getElem_cons_zero, List.getElem_cons_succ]
  refine wpAnyH_take (i := 9) (v := ?_) rfl (by kernel_rfl) (by kernel_rfl) (by kernel_rfl) (fun _ _ _ h => h) (Or.inl ⟨by rfl, ?_⟩) (by assumption) ?_
  rotate_left
  · intro w hSw
    (try dsimp only at hSw)
    go_simp
    all_goals with_reducible rfl
  try simp only [Act.put, List.setIfInBounds_toArray, List.set_cons_zero, List.set_cons_succ, List.getElem_toArray, List.getElem_cons_zero, List.getElem_cons_succ]
  refine wpAnyH_done (by kernel_rfl) ?_ _
  go_wp2
  exact bodyPost_ret (v := .tuple #[.agg #[.int .i64 o, .int .i64 p, .int .i64 c], .slice a7 l7.length c7]) (by simp [results, Try.results16, go_sem, u0, u1, u2]) rfl ⟨o, p, c, a7, c7, l7, rfl, ho, hp, hc, by omega, hc7, hm7, hs7, HS.out.more (by simp), HZ.out, fun hn => by subst hn; simp at hl0⟩
end Go.Proofs.Ytljdnncodgnpcaa
