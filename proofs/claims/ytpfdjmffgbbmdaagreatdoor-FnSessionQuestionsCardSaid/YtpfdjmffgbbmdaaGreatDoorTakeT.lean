/-
  A client asks (chapter 15): the program's TakeToken.
-/
import Derived.Test.YtpfdjmffgbbmdaaGreatDoorMapB
namespace Go.Proofs.YtpfdjmffgbbmdaaGreatDoor
open Go.RowKit Go.Maps Go.Shelf Go.Sort
set_option linter.unusedVariables false
set_option maxRecDepth 100000
/-- Buckets of the call's own, and two truths. -/
def ToldT (w : World) (r : List Q.Sm × Bool × Bool) (e : Ending) (w' : World) : Prop := ∃ a c, e = .returned (.tuple #[.slice a r.1.length c, .bool r.2.1, .bool r.2.2]) ∧ OwQ w.heap.size w' a c r.1 ∧ Below w.heap.size w w'
theorem ToldT.no {w w' : World} (h : Below w.heap.size w w') : ToldT w ([], false, false) (.returned (.tuple #[.slice none 0 0, .bool false, .bool false])) w' := ⟨none, 0, rfl, OwQ.nil _ _, h⟩
theorem tk_zero_in {l : List Q.Sm} {cl t : Int} (hv : B.bv l = true) (ht : 0 ≤ t) (h : B.tk (B.bk l cl) t = 0) : 0 ≤ cl ∧ cl ≤ 99 := by
  rcases hf : B.fnd l cl with _ | p
  · have : B.bk l cl = (cl, 5, 0) := by unfold B.bk; rw [hf]; rfl
    have e := B.tk_new ht cl
    rw [this] at h; omega
  · obtain ⟨hp, e⟩ := B.fnd_mem hf
    have := (B.bv_mem hv hp).1
    rw [e] at this; exact this
theorem aft_in {l : List Q.Sm} {cl t : Int} (h : B.bv (B.aft l cl t) = true) : 0 ≤ cl ∧ cl ≤ 99 := (B.bv_mem h (B.put_mem.2 (.inl rfl))).1
set_option maxHeartbeats 8000000 in
theorem TT_impl (n c : Nat) (a : Option Addr) (l : List Q.Sm) (cl t : Int) (w : World) (h : Sms w.heap.size w a n l) (hw : (Lit.int .i64 cl).wf = true) : Calls Tryz.prog 99 #[.slice a n c, .int .i64 cl, .int .i64 t] w (ToldT w (B.tt l cl t)) := by
  have k1 := vb_impl n c a l w h
  rcases hv : B.bv l with _ | _
  · rw [B.tt_no (fun q => by have := q.1; rw [hv] at this; cases this)]
    rw [hv] at k1
    have K1 := Lib.hid k1
    clear k1 hv h
    go_enter Tryz.func99, Tryz.ntmps99
    go_wp2_with fail
    refine K1.out.mono ?_
    rintro e w1 ⟨rfl, b1⟩
    have HB := Lib.hid b1
    clear b1
    go_wp2
    go_ret3
    exact ToldT.no HB.out
  rw [hv] at k1
  have K1 := Lib.hid k1
  have hbk := B.bk_ok hv cl
  have hlen := h.1
  have hl8 := (B.bv_of hv).1
  have K2 := Lib.hid (fun w' (h : Sms w'.heap.size w' a n l) => of_impl n c a l w' h hv)
  have k3 := fun w' b (h : Mp w' b n l) => bk_impl b n l cl w' h hw
  rw [hbk.1] at k3
  have K3 := Lib.hid k3
  have HV := Lib.hid hv
  have HS := Lib.hid h
  have HW := Lib.hid hw
  have HLN := Lib.hid (And.intro hlen hl8)
  rcases inR_cases t (B.bk l cl).2.2 3786479999 with ⟨r0, r1⟩ | ⟨r0, r1⟩
  · have ht : 0 ≤ t ∧ t ≤ 3786479999 := by omega
    have k4 := fun w' => tk_impl cl (B.bk l cl).2.1 (B.bk l cl).2.2 t hbk.2.1 hbk.2.2 (by omega) w'
    have e4 : (cl, (B.bk l cl).2.1, (B.bk l cl).2.2) = B.bk l cl := Prod.ext hbk.1.symm (Prod.ext rfl rfl)
    rw [e4] at k4
    have hle := B.tk_le (B.bk l cl) t
    have hge := B.tk_pos (p := B.bk l cl) hbk.2.1.1 t
    have hz := fun q => tk_zero_in (cl := cl) hv ht.1 q
    have hmay : ∀ (q : 0 ≤ cl ∧ cl ≤ 99), B.may l cl t := fun q => ⟨hv, q, r1⟩
    have htz := fun (q : B.tk (B.bk l cl) t = 0) => B.tt_zero (hmay (hz q)) q
    have hty := fun (q : B.tk (B.bk l cl) t ≠ 0) (v : B.bv (B.aft l cl t) = true) => B.tt_yes (hmay (aft_in v)) q v
    have htb := fun (q : B.tk (B.bk l cl) t ≠ 0) (v : B.bv (B.aft l cl t) = false) => B.tt_bad (l := l) (c := cl) (t := t) q v
    have haft : B.aft l cl t = B.put l (cl, B.tk (B.bk l cl) t - 1, t) := rfl
    have k5 := fun w' => inR_impl t (B.bk l cl).2.2 3786479999 w'
    simp only [r0] at k5
    have K5 := Lib.hid k5
    generalize B.tk (B.bk l cl) t = T at *
    generalize (B.bk l cl).2.1 = x at *
    generalize (B.bk l cl).2.2 = y at *
    generalize B.aft l cl t = AF at *
    have K4 := Lib.hid k4
    have HTZ := Lib.hid htz
    have HTY := Lib.hid hty
    have HTB := Lib.hid htb
    have HAF := Lib.hid haft
    clear k1 k3 k4 k5 hv h hw hbk e4 hz hmay htz hty htb haft r0 r1 ht hlen hl8
    go_enter Tryz.func99, Tryz.ntmps99
    go_wp2_with fail
    refine K1.out.mono ?_
    rintro e w1 ⟨rfl, b1⟩
    have S1 := HS.out.keepB b1
    have HB1 := Lib.hid b1
    clear b1
    go_wp2_with fail
    refine (K2.out _ S1).mono ?_
    rintro e w2 ⟨rfl, M2, b2⟩
    have HB2 := Lib.hid (HB1.out.trans (b2.mono HB1.out.size))
    clear b2 S1
    go_wp2_with fail
    refine (K3.out _ _ M2).mono ?_
    rintro e w3 ⟨rfl, b3⟩
    have HB3 := Lib.hid (HB2.out.trans (b3.mono HB2.out.size))
    have M3 := M2.b b3
    clear b3 M2
    have HM4 := Lib.hid (M3.al (.cells #[.int .i64 cl, .int .i64 x, .int .i64 y] 116))
    have HB4 := Lib.hid (HB3.out.alloc HB3.out.size (.cells #[.int .i64 cl, .int .i64 x, .int .i64 y] 116))
    clear M3
    go_wp2_with (go_at_call 33; refine (K5.out _).mono ?_; rintro e w' ⟨rfl, rfl⟩)
    refine (K4.out _).mono ?_
    rintro e w5 ⟨rfl, b5⟩
    have HM5 := Lib.hid (HM4.out.b b5)
    have HB5 := Lib.hid (HB4.out.trans (b5.mono HB4.out.size))
    clear b5
    by_cases hT : T = 0
    · subst hT
      have k6 := so_impl _ n l w5 HM5.out (by have := HLN.out.2; omega) (B.bv_asc HV.out) (fun p hp => wfC (by have := (B.bv_mem HV.out hp).1; omega))
      have K6 := Lib.hid k6
      clear k6
      go_wp2_with fail
      refine K6.out.mono ?_
      rintro e w6 ⟨a6, c6, rfl, O6, b6⟩
      have F := Lib.hid (And.intro (O6.more HB5.out.size) (HB5.out.trans (b6.mono HB5.out.size)))
      clear O6 b6
      go_wp2
      go_ret3
      have e0 := HTZ.out (by first | rfl | trivial)
      unfold ToldT
      rw [e0]
      exact ⟨a6, c6, rfl, F.out⟩
    · have hT' : (T == 0) = false := beq_eq_false_iff_ne.2 hT
      have t1 : -9223372036854775808 ≤ T - 1 ∧ T - 1 ≤ 9223372036854775807 := by omega
      have HP := Lib.hid (B.E_put (B.bv_asc HV.out) (cl, T - 1, t))
      have HNB := Lib.hid (show n < maxLen by have := HLN.out; unfold maxLen; omega)
      have HTT := Lib.hid hT
      clear hT hle hge
      have u1 := IntWalk.wrap64_in _ t1
      clear t1
      go_wp2_with (first | (at_mapUpdate; refine wpList_mapUpdate_own _ rfl _ _ _ 131 rfl 3 116 lawK Tryz.underlying131 B.bkR _ n _ rfl HM5.out HNB.out _ _ (B.key cl) rfl rfl (keyC HW.out) (B.enc (cl, T - 1, t)) [] (B.bkR_mk cl (T - 1) t) ?_))
      intro w6 own6 hg6
      rw [HP.out, ← HAF.out] at own6
      have M6 : Mp w6 _ (n + 1) AF := own6
      have b6 := HB5.out.grown hg6 HB5.out.size (fun j hj => by cases hj; exact HB1.out.size)
      have haa : B.Asc AF := by rw [HAF.out]; exact B.put_asc (B.bv_asc HV.out) _
      have hal : AF.length ≤ 9 := by rw [HAF.out]; have := B.put_len l (cl, T - 1, t); have := HLN.out.2; omega
      have hwf : ∀ p ∈ AF, (Lit.int .i64 p.1).wf = true := fun p hp => by
        rw [HAF.out] at hp
        rcases B.put_mem.1 hp with rfl | ⟨hq, _⟩
        · exact HW.out
        · exact wfC (by have := (B.bv_mem HV.out hq).1; omega)
      have K6 := Lib.hid (so_impl _ (n + 1) AF w6 M6 (by omega) haa hwf)
      have HB6 := Lib.hid b6
      have HAL := Lib.hid hal
      clear own6 hg6 M6 b6 haa hwf hal u1
      go_wp2_with fail
      refine K6.out.mono ?_
      rintro e w7 ⟨a7, c7, rfl, O7, b7⟩
      have S7 := (O7.sms (by have := HAL.out; omega)).1
      have k8 := vb_impl AF.length c7 a7 AF w7 S7
      have HO7 := Lib.hid O7
      have HB7 := Lib.hid (HB6.out.trans (b7.mono HB6.out.size))
      clear O7 b7 S7
      rcases hva : B.bv AF with _ | _
      · rw [hva] at k8
        have HE := Lib.hid (HTB.out HTT.out hva)
        have K8 := Lib.hid k8
        clear k8 hva
        go_wp2_with fail
        refine K8.out.mono ?_
        rintro e w8 ⟨rfl, b8⟩
        have F := Lib.hid (HB7.out.trans (b8.mono HB7.out.size))
        clear b8
        go_wp2
        go_ret3
        rw [HE.out]
        exact ToldT.no F.out
      · rw [hva] at k8
        have HE := Lib.hid (HTY.out HTT.out hva)
        have K8 := Lib.hid k8
        clear k8 hva
        go_wp2_with fail
        refine K8.out.mono ?_
        rintro e w8 ⟨rfl, b8⟩
        have F := Lib.hid (And.intro ((HO7.out.keep b8).more HB6.out.size) (HB7.out.trans (b8.mono HB7.out.size)))
        clear b8
        go_wp2
        go_ret3
        unfold ToldT
        rw [HE.out]
        exact ⟨a7, c7, rfl, F.out⟩
  · rw [B.tt_no (fun q => r1 q.2.2)]
    have k5 := fun w' => inR_impl t (B.bk l cl).2.2 3786479999 w'
    simp only [r0] at k5
    have K5 := Lib.hid k5
    generalize (B.bk l cl).2.1 = x at *
    generalize (B.bk l cl).2.2 = y at *
    clear k1 k3 k5 hv h hw hbk r0 r1 hlen hl8
    go_enter Tryz.func99, Tryz.ntmps99
    go_wp2_with fail
    refine K1.out.mono ?_
    rintro e w1 ⟨rfl, b1⟩
    have S1 := HS.out.keepB b1
    have HB1 := Lib.hid b1
    clear b1
    go_wp2_with fail
    refine (K2.out _ S1).mono ?_
    rintro e w2 ⟨rfl, M2, b2⟩
    have HB2 := Lib.hid (HB1.out.trans (b2.mono HB1.out.size))
    clear b2 S1
    go_wp2_with fail
    refine (K3.out _ _ M2).mono ?_
    rintro e w3 ⟨rfl, b3⟩
    have HB3 := Lib.hid (HB2.out.trans (b3.mono HB2.out.size))
    clear b3 M2
    go_wp2_with (go_at_call 33; refine (K5.out _).mono ?_; rintro e w' ⟨rfl, rfl⟩)
    go_ret3
    exact ToldT.no (HB3.out.alloc HB3.out.size _)
end Go.Proofs.YtpfdjmffgbbmdaaGreatDoor
