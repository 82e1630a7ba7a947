/-
  Limits (chapter 15): the model's TokensAt, TakeToken and DropFull.
-/
import Derived.Test.YtpfdjmffgbbmdaaGreatDoorTakeT
namespace Go.Proofs.YtpfdjmffgbbmdaaGreatDoor
open Go.RowKit
set_option linter.unusedVariables false
set_option maxRecDepth 100000
theorem fnd_at {l : List Q.Sm} (hv : B.bv l = true) {k : Nat} (hk : k < l.length) : B.bk l (Q.of l k) = (Q.of l k, Q.de l k, Q.tm l k) := by
  have hm : (Q.of l k, Q.de l k, Q.tm l k) ∈ l := by rw [← B.getp l k hk]; exact List.getElem_mem hk
  unfold B.bk
  rw [B.fnd_of (B.bv_asc hv) hm]; rfl
theorem fnd_no {l : List Q.Sm} {c : Int} (h : ∀ i, i < l.length → Q.of l i ≠ c) : B.bk l c = (c, 5, 0) := by
  have : B.fnd l c = none := by
    unfold B.fnd
    rw [List.find?_eq_none]
    intro p hp
    obtain ⟨i, hi, e⟩ := List.getElem_of_mem hp
    rw [B.getp l i hi] at e
    have := h i hi
    rw [← e]; simpa using this
  unfold B.bk
  rw [this]; rfl
set_option maxHeartbeats 4000000 in
theorem TA_spec (n c : Nat) (a : Option Addr) (l : List Q.Sm) (cl t : Int) (w : World) (h : Sms w.heap.size w a n l) : Calls Tryz.prog 104 #[.slice a n c, .int .i64 cl, .int .i64 t] w fun e w' => e = .returned (.int .i64 (B.ta l cl t)) ∧ Below w.heap.size w w' := by
  have k1 := vb_spec w.heap.size n c a l w h
  have hn := h.2.1
  rcases hv : B.bv l with _ | _
  · rw [B.ta_no1 hv]
    rw [hv] at k1
    have K1 := Lib.hid k1
    clear k1 hv h
    go_enter Tryz.func104, Tryz.ntmps104
    go_wp2_with fail
    refine K1.out.mono ?_
    rintro e w1 ⟨rfl, q1⟩
    have HB := Lib.hid (q1.below (B := w.heap.size))
    clear q1
    go_wp2
    go_ret
    exact ⟨rfl, HB.out⟩
  rw [hv] at k1
  have K1 := Lib.hid k1
  have k5 := fun w' => vt_spec t w'
  rcases inR_cases t 0 3786479999 with ⟨r0, r1⟩ | ⟨r0, r1⟩
  · simp only [r0] at k5
    have K5 := Lib.hid k5
    have HT := Lib.hid (B.ta_yes (c := cl) hv r1)
    have HV := Lib.hid hv
    have HLN := Lib.hid h.1
    have HS := Lib.hid h
    have HR := Lib.hid r1
    clear k1 k5 hv h r0 r1
    go_enter Tryz.func104, Tryz.ntmps104
    go_wp2_with fail
    refine K1.out.mono ?_
    rintro e w1 ⟨rfl, q1⟩
    have HQ1 := Lib.hid q1
    clear q1
    go_wp2_with (go_at_call 38; refine (K5.out _).mono ?_; rintro e w' ⟨rfl, rfl⟩)
    go_loopw [7] (fun i wr => ∃ k : Nat, k ≤ n ∧ (∀ j, j < k → Q.of l j ≠ cl) ∧ i = .int .i64 k ∧ Same w wr) (fun i _ => n - (intOf i).toNat)
    case atStart => exact ⟨0, Nat.zero_le _, fun j hj => absurd hj (by omega), rfl, HQ1.out⟩
    case round =>
      obtain ⟨k, hk, hno, rfl, hs⟩ := hrel
      have HNO := Lib.hid hno
      clear hno
      by_cases hlt : k < n
      · obtain ⟨b, off, rfl, hb, hc⟩ := (HS.out.same hs).at_ k hlt
        obtain ⟨c0, c1, c2⟩ := hc k hlt
        have hr := B.rng HV.out (i := k) (by have := HLN.out; omega)
        by_cases he : Q.of l k = cl
        · have he' : (Q.of l k == cl) = true := by rw [he]; simp
          have hf := fnd_at HV.out (k := k) (by have := HLN.out; omega)
          have k6 := fun w' => tk_spec (Q.of l k) (Q.de l k) (Q.tm l k) t hr.2.1 hr.2.2 (by have := HR.out; omega) w'
          rw [← hf, he] at k6
          have HE := Lib.hid he
          have K6 := Lib.hid k6
          rw [he] at c0
          generalize Q.de l k = y at *
          generalize Q.tm l k = z at *
          clear hc hr hf k6 he he'
          have he2 : (cl == cl) = true := by simp
          go_wp2_with fail
          refine (K6.out _).mono ?_
          rintro e w5 ⟨rfl, b5⟩
          have HB := Lib.hid ((hs.below (B := w.heap.size)).trans (b5.mono (hs.below (B := w.heap.size)).size))
          clear b5
          go_wp2
          go_ret
          exact ⟨by rw [HT.out]; first | done | rfl, HB.out⟩
        · have he' : (Q.of l k == cl) = false := beq_eq_false_iff_ne.2 he
          have HE := Lib.hid he
          generalize Q.of l k = x at c0 he'
          clear hc hr he
          go_wp2
          go_roundw
          case rel => exact ⟨k + 1, by omega, fun j hj => by
            rcases Nat.lt_or_ge j k with q | q
            · exact HNO.out j q
            · obtain rfl : j = k := by omega
              exact HE.out, by go_num, hs⟩
          case measure => simp [intOf]; omega
      · have hfn := fnd_no (l := l) (c := cl) (fun i hi => HNO.out i (by have := HLN.out; omega))
        have he : B.ta l cl t = 5 := by rw [HT.out, hfn, B.tk_new HR.out.1]
        have HE := Lib.hid he
        clear hfn he
        go_wp2
        go_ret
        exact ⟨by rw [HE.out]; first | done | rfl, hs.below⟩
  · rw [B.ta_no2 r1]
    simp only [r0] at k5
    have K5 := Lib.hid k5
    clear k1 k5 hv h r0 r1
    go_enter Tryz.func104, Tryz.ntmps104
    go_wp2_with fail
    refine K1.out.mono ?_
    rintro e w1 ⟨rfl, q1⟩
    have HB := Lib.hid (q1.below (B := w.heap.size))
    clear q1
    go_wp2_with (go_at_call 38; refine (K5.out _).mono ?_; rintro e w' ⟨rfl, rfl⟩)
    go_ret
    exact ⟨rfl, HB.out⟩
set_option maxHeartbeats 2000000 in
theorem it_spec (B0 n c : Nat) (a : Option Addr) (l : List Q.Sm) (cl t : Int) (w : World) (h : Sms B0 w a n l) (hv : B.bv l = true) (ht : 0 ≤ t) : Calls Tryz.prog 105 #[.slice a n c, .int .i64 cl, .int .i64 t] w fun e w' => e = .returned (.bool (decide ((B.bk l cl).2.2 ≤ t))) ∧ Same w w' := by
  have hn := h.2.1
  have HV := Lib.hid hv
  have HLN := Lib.hid h.1
  have HS := Lib.hid h
  have HT := Lib.hid ht
  clear hv h ht
  go_enter Tryz.func105, Tryz.ntmps105
  go_wp2
  go_loopw [7] (fun i wr => ∃ k : Nat, k ≤ n ∧ (∀ j, j < k → Q.of l j = cl → Q.tm l j ≤ t) ∧ i = .int .i64 k ∧ Same w wr) (fun i _ => n - (intOf i).toNat)
  case atStart => exact ⟨0, Nat.zero_le _, fun j hj => absurd hj (by omega), rfl, Same.refl _⟩
  case round =>
    obtain ⟨k, hk, hno, rfl, hs⟩ := hrel
    have HNO := Lib.hid hno
    clear hno
    by_cases hlt : k < n
    · obtain ⟨b, off, rfl, hb, hc⟩ := (HS.out.same hs).at_ k hlt
      obtain ⟨c0, c1, c2⟩ := hc k hlt
      by_cases he : Q.of l k = cl
      · have hf := fnd_at HV.out (k := k) (by have := HLN.out; omega)
        rw [he] at hf
        by_cases hq : t < Q.tm l k
        · have hq' : decide (t < Q.tm l k) = true := decide_eq_true hq
          have HD := Lib.hid (show decide ((B.bk l cl).2.2 ≤ t) = false from by rw [hf]; exact decide_eq_false (by simp only; omega))
          have he' : (Q.of l k == cl) = true := by rw [he]; simp
          generalize Q.of l k = x at *
          generalize Q.tm l k = z at *
          clear hc hf he hq
          go_wp2
          go_ret
          exact ⟨ret_bool HD.out.symm, hs⟩
        · have hq' : decide (t < Q.tm l k) = false := decide_eq_false hq
          have he' : (Q.of l k == cl) = true := by rw [he]; simp
          have HE := Lib.hid (show Q.tm l k ≤ t by omega)
          generalize Q.of l k = x at c0 he'
          generalize Q.tm l k = z at c2 hq'
          clear hc hf he hq
          go_wp2
          go_roundw
          case rel => exact ⟨k + 1, by omega, fun j hj e => by
            rcases Nat.lt_or_ge j k with q | q
            · exact HNO.out j q e
            · obtain rfl : j = k := by omega
              exact HE.out, by go_num, hs⟩
          case measure => simp [intOf]; omega
      · have he' : (Q.of l k == cl) = false := beq_eq_false_iff_ne.2 he
        have HE := Lib.hid he
        generalize Q.of l k = x at c0 he'
        clear hc he
        go_wp2
        go_roundw
        case rel => exact ⟨k + 1, by omega, fun j hj e => by
          rcases Nat.lt_or_ge j k with q | q
          · exact HNO.out j q e
          · obtain rfl : j = k := by omega
            exact absurd e HE.out, by go_num, hs⟩
        case measure => simp [intOf]; omega
    · have HD := Lib.hid (show decide ((B.bk l cl).2.2 ≤ t) = true from decide_eq_true (by
        by_cases hex : ∃ i, i < l.length ∧ Q.of l i = cl
        · obtain ⟨i, hi, e⟩ := hex
          have hf := fnd_at HV.out hi
          rw [e] at hf
          rw [hf]
          exact HNO.out i (by have := HLN.out; omega) e
        · rw [fnd_no (fun i hi e => hex ⟨i, hi, e⟩)]
          exact HT.out))
      go_wp2
      go_ret
      exact ⟨ret_bool HD.out.symm, hs⟩
theorem flt_snoc (l : List Q.Sm) (f : Q.Sm → Bool) (k : Nat) (h : k < l.length) : (l.take (k + 1)).filter f = (l.take k).filter f ++ (if f (Q.of l k, Q.de l k, Q.tm l k) = true then [(Q.of l k, Q.de l k, Q.tm l k)] else []) := by
  rw [take_snocB l k h, List.filter_append]
  congr 1
  by_cases q : f (Q.of l k, Q.de l k, Q.tm l k) = true
  · rw [if_pos q, List.filter_cons, if_pos q]; rfl
  · rw [if_neg q, List.filter_cons, if_neg q]; rfl
set_option maxHeartbeats 8000000 in
theorem TT_spec (n c : Nat) (a : Option Addr) (l : List Q.Sm) (cl t : Int) (w : World) (h : Sms w.heap.size w a n l) : Calls Tryz.prog 85 #[.slice a n c, .int .i64 cl, .int .i64 t] w (ToldT w (B.tt l cl t)) := by
  have hE := (Below.refl w.heap.size w).alloc (Nat.le_refl _) (.cells #[] 116)
  have hS0 := h.keepB hE
  have O0 := OwQ.made w
  have k1 := TA_spec n c a l cl t _ hS0
  have hn := h.2.1
  have HE := Lib.hid hE
  have HO := Lib.hid O0
  have HS := Lib.hid hS0
  have HLN := Lib.hid h.1
  have HSW := Lib.hid (fun w' (b : Below w.heap.size w w') => h.below b)
  by_cases hbt : B.bv l = true ∧ (0 ≤ t ∧ t ≤ 3786479999)
  · obtain ⟨hv, ht⟩ := hbt
    have hbk := B.bk_ok hv cl
    rw [B.ta_yes hv ht] at k1
    have hge := B.tk_pos (p := B.bk l cl) hbk.2.1.1 t
    have hle := B.tk_le (B.bk l cl) t
    have HV := Lib.hid hv
    have k3 := fun w' (h : Sms w'.heap.size w' a n l) => it_spec w'.heap.size n c a l cl t w' h hv ht.1
    have hmay : ∀ (q : 0 ≤ cl ∧ cl ≤ 99), (B.bk l cl).2.2 ≤ t → B.may l cl t := fun q q2 => ⟨hv, q, q2, ht.2⟩
    have htz := fun (q : 0 ≤ cl ∧ cl ≤ 99) (q2 : (B.bk l cl).2.2 ≤ t) (q3 : B.tk (B.bk l cl) t = 0) => B.tt_zero (hmay q q2) q3
    have hty := fun (q : 0 ≤ cl ∧ cl ≤ 99) (q2 : (B.bk l cl).2.2 ≤ t) (q3 : B.tk (B.bk l cl) t ≠ 0) (v : B.bv (B.aft l cl t) = true) => B.tt_yes (hmay q q2) q3 v
    have htb := fun (q : B.tk (B.bk l cl) t ≠ 0) (v : B.bv (B.aft l cl t) = false) => B.tt_bad (l := l) (c := cl) (t := t) q v
    have haft : B.aft l cl t = B.put l (cl, B.tk (B.bk l cl) t - 1, t) := rfl
    have htno : ¬ ((0 ≤ cl ∧ cl ≤ 99) ∧ (B.bk l cl).2.2 ≤ t) → B.tt l cl t = ([], false, false) := fun q => B.tt_no (fun z => q ⟨z.2.1, z.2.2.1⟩)
    generalize B.tk (B.bk l cl) t = T at *
    generalize (B.bk l cl).2.2 = y at *
    have HTZ := Lib.hid htz
    have HTY0 := Lib.hid hty
    have HTB := Lib.hid htb
    have HAF := Lib.hid haft
    have HNO := Lib.hid htno
    have K1 := Lib.hid k1
    have hT0 : decide (T < 0) = false := decide_eq_false (by omega)
    clear k1 hmay htz hty htb haft htno hv hbk ht hE hS0 O0 h
    rcases inR_cases cl 0 99 with ⟨r0, r1⟩ | ⟨r0, r1⟩
    · have k5 := fun w' => inR_spec cl 0 99 w'
      simp only [r0] at k5
      have K5 := Lib.hid k5
      by_cases hy : y ≤ t
      · simp only [decide_eq_true hy] at k3
        have K3 := Lib.hid k3
        by_cases hT : T = 0
        · have HZ := Lib.hid (HTZ.out r1 hy hT)
          have hT1 : (T == 0) = true := by rw [hT]; rfl
          clear k3 k5 r0 r1 hy hT
          go_enter Tryz.func85, Tryz.ntmps85
          go_wp2_with fail
          refine K1.out.mono ?_
          rintro e w1 ⟨rfl, b1⟩
          have H1 := Lib.hid (And.intro (HO.out.keep b1) (And.intro (HS.out.keepB b1) (HE.out.trans (b1.mono HE.out.size))))
          clear b1
          go_wp2_with (go_at_call 39; refine (K5.out _).mono ?_; rintro e w' ⟨rfl, rfl⟩)
          refine (K3.out _ H1.out.2.1).mono ?_
          rintro e w2 ⟨rfl, q2⟩
          have H2 := Lib.hid (show OwQ w.heap.size w2 (some ⟨w.heap.size, 0, none⟩) 0 [] ∧ Sms w2.heap.size w2 a n l ∧ Below w.heap.size w w2 from ⟨H1.out.1.keep q2.below, H1.out.2.1.keepB q2.below, bel_same H1.out.2.2 q2⟩)
          have HC := Lib.hid (show ([] : List Q.Sm).length + n ≤ 1000 from by have := (B.bv_of HV.out).1; have := HLN.out; simp; omega)
          clear q2
          go_wp2_with (first | (at_builtin; refine wpList_q rfl _ _ rfl w.heap.size rfl rfl H2.out.1 H2.out.2.1 HC.out H2.out.2.2.size l (by simp) ?_))
          intro a6 c6 w6 O6 b6 _
          have F := Lib.hid (And.intro O6 (H2.out.2.2.trans b6))
          clear O6 b6
          go_wp2
          go_ret3
          unfold ToldT
          rw [HZ.out]
          exact ⟨a6, c6, rfl, F.out⟩
        · have HTT := Lib.hid hT
          have HTY := Lib.hid (HTY0.out r1 hy)
          have hT1 : (T == 0) = false := beq_eq_false_iff_ne.2 hT
          have T1 := Lib.hid (show -9223372036854775808 ≤ T - 1 ∧ T - 1 ≤ 9223372036854775807 by omega)
          clear k3 k5 r0 r1 hy hT hge hle
          go_enter Tryz.func85, Tryz.ntmps85
          go_wp2_with fail
          refine K1.out.mono ?_
          rintro e w1 ⟨rfl, b1⟩
          have H1 := Lib.hid (And.intro (HO.out.keep b1) (And.intro (HS.out.keepB b1) (And.intro (HE.out.trans (b1.mono HE.out.size)) (HS.out.below b1))))
          clear b1
          go_wp2_with (go_at_call 39; refine (K5.out _).mono ?_; rintro e w' ⟨rfl, rfl⟩)
          refine (K3.out _ H1.out.2.1).mono ?_
          rintro e w2 ⟨rfl, q2⟩
          have H4 := Lib.hid (show OwQ w.heap.size w2 (some ⟨w.heap.size, 0, none⟩) 0 [] ∧ Sms w.heap.size w2 a n l ∧ Below w.heap.size w w2 from ⟨H1.out.1.keep q2.below, HSW.out w2 (bel_same H1.out.2.2.1 q2), bel_same H1.out.2.2.1 q2⟩)
          have HBASE := Lib.hid (show ([] : List Q.Sm).length ≤ 50 from by simp)
          clear q2
          go_wp2_with fail
          go_loopw [9, 11] (fun o i wr => ∃ (k : Nat) (a' : Option Addr) (c' : Nat) (X : List Q.Sm), X = ([] : List Q.Sm) ++ (l.take k).filter (fun p => decide (p.1 < cl)) ∧ o = .slice a' X.length c' ∧ i = .int .i64 k ∧ k ≤ n ∧ OwQ w.heap.size wr a' c' X ∧ Sms w.heap.size wr a n l ∧ Below w.heap.size w wr) (fun _ i _ => n - (intOf i).toNat)
          case atStart => exact ⟨0, _, _, ([] : List Q.Sm), by simp, by first | rfl | (rw [HAL.out]; done), rfl, Nat.zero_le _, H4.out⟩
          case round =>
            obtain ⟨k, a', c', X, hX, rfl, rfl, hk, O, hS, bl⟩ := hrel
            have HX := Lib.hid hX
            have hXl : X.length ≤ 100 := by
              rw [hX, List.length_append]
              have := List.length_filter_le (fun p => decide (p.1 < cl)) (l.take k)
              have := (B.bv_of HV.out).1
              have := HBASE.out
              rw [List.length_take] at *
              omega
            have HXL := Lib.hid hXl
            clear hX hXl
            by_cases hlt : k < n
            · obtain ⟨b, off, rfl, hb, hc⟩ := hS.at_ k hlt
              obtain ⟨c0, c1, c2⟩ := hc k hlt
              have hfs := flt_snoc l (fun p => decide (p.1 < cl)) k (by have := HLN.out; omega)
              have hfs2 := congrArg (fun Z => ([] : List Q.Sm) ++ Z) hfs
              simp only [← List.append_assoc] at hfs2
              rw [← HX.out] at hfs2
              have hs := bl.size
              have HS := Lib.hid (And.intro hS bl)
              have HO := Lib.hid O
              clear hfs
              by_cases hT : Q.of l k < cl
              · rw [if_pos (decide_eq_true hT)] at hfs2
                have HFS := Lib.hid hfs2
                have hT' : decide (Q.of l k < cl) = true := decide_eq_true hT
                generalize Q.of l k = x at *
                generalize Q.de l k = y at *
                generalize Q.tm l k = z at *
                have HA := Lib.hid (HO.out.keep ((Below.refl _ _).alloc (Nat.le_refl _) (.cells #[.int .i64 x, .int .i64 y, .int .i64 z] 116)))
                clear hc hfs2 hT hS bl O
                go_wp2_with (first | (at_builtin; refine wpList_q rfl _ _ rfl w.heap.size rfl rfl HA.out (Sms.one (B3.new wr x y z 116)) (by have := HXL.out; omega) (by simp; omega) _ HFS.out.symm ?_))
                intro a6 c6 w6 O6 b6 _
                have bw : Below w.heap.size wr w6 := ((Below.refl w.heap.size wr).alloc hs (.cells #[.int .i64 x, .int .i64 y, .int .i64 z] 116)).trans b6
                have F := Lib.hid (And.intro O6 (And.intro (HS.out.1.below bw) (HS.out.2.trans bw)))
                clear O6 b6 bw
                go_wp2
                go_roundw
                case rel => exact ⟨k + 1, a6, c6, _, rfl, by first | rfl | (rw [HFS.out]; done) | (rw [HFS.out]; simp; done) | (have := congrArg List.length HFS.out; simp at this ⊢; done) | (have := congrArg List.length HFS.out; simp at this ⊢; omega), by go_num, by omega, F.out⟩
                case measure => simp [intOf]; omega
              · rw [if_neg (by simpa using hT), List.append_nil] at hfs2
                have HFS := Lib.hid hfs2
                have hT' : decide (Q.of l k < cl) = false := decide_eq_false hT
                generalize Q.of l k = x at *
                generalize Q.de l k = y at *
                generalize Q.tm l k = z at *
                have HF5 := Lib.hid (And.intro HO.out HS.out)
                clear hc hfs2 hT hS bl O
                go_wp2
                go_roundw
                case rel => exact ⟨k + 1, a', c', X, HFS.out.symm, rfl, by go_num, by omega, HF5.out⟩
                case measure => simp [intOf]; omega
            · have hkn : k = n := by omega
              have e : X = ([] : List Q.Sm) ++ l.filter (fun p => decide (p.1 < cl)) := by
                rw [HX.out, hkn, ← HLN.out, List.take_length]
              have hXl := HXL.out
              have HO := Lib.hid (O.keep ((Below.refl _ _).alloc (Nat.le_refl _) (.cells #[.int .i64 cl, .int .i64 (T - 1), .int .i64 t] 116)))
              have hs := bl.size
              have HS := Lib.hid (And.intro hS bl)
              rw [List.nil_append] at e
              have HE1 := Lib.hid e
              have HXX := Lib.hid (show X ++ [(cl, T - 1, t)] = l.filter (fun p => decide (p.1 < cl)) ++ [(cl, T - 1, t)] by rw [e])
              clear O hS bl e hXl
              have u1 := IntWalk.wrap64_in _ T1.out
              go_wp2_with (first | (at_builtin; refine wpList_q rfl _ _ rfl w.heap.size rfl rfl HO.out (Sms.one (B3.new wr cl (T - 1) t 116)) (by have := HXL.out; clear u1; omega) (by clear u1; simp; omega) _ HXX.out ?_))
              intro a6 c6 w6 O6 b6 _
              have bw : Below w.heap.size wr w6 := ((Below.refl w.heap.size wr).alloc hs (.cells #[.int .i64 cl, .int .i64 (T - 1), .int .i64 t] 116)).trans b6
              have F6 := Lib.hid (And.intro O6 (And.intro (HS.out.1.below bw) (HS.out.2.trans bw)))
              have HBASE := Lib.hid (show (l.filter (fun p => decide (p.1 < cl)) ++ [(cl, T - 1, t)]).length ≤ 50 from by
                rw [List.length_append]
                have := List.length_filter_le (fun p => decide (p.1 < cl)) l
                have := (B.bv_of HV.out).1
                simp only [List.length_cons, List.length_nil]
                omega)
              obtain ⟨A1, hA1⟩ : ∃ A1, l.filter (fun p => decide (p.1 < cl)) ++ [(cl, T - 1, t)] = A1 := ⟨_, rfl⟩
              have HPUT := Lib.hid (show A1 ++ l.filter (fun p => decide (cl < p.1)) = B.aft l cl t from by rw [← hA1, HAF.out]; simp [B.put])
              rw [hA1] at F6 HBASE
              have HAL := Lib.hid (show (l.filter (fun p => decide (p.1 < cl))).length + 1 = A1.length from by rw [← hA1]; simp)
              clear O6 b6 bw u1 HO HS hA1 HXX HE1 HXL HX
              go_wp2_with fail
              go_loopw [9, 12] (fun o i wr => ∃ (k : Nat) (a' : Option Addr) (c' : Nat) (X : List Q.Sm), X = A1 ++ (l.take k).filter (fun p => decide (cl < p.1)) ∧ o = .slice a' X.length c' ∧ i = .int .i64 k ∧ k ≤ n ∧ OwQ w.heap.size wr a' c' X ∧ Sms w.heap.size wr a n l ∧ Below w.heap.size w wr) (fun _ i _ => n - (intOf i).toNat)
              case atStart => exact ⟨0, _, _, A1, by simp, by first | rfl | (rw [HAL.out]; done), rfl, Nat.zero_le _, F6.out⟩
              case round =>
                obtain ⟨k, a', c', X, hX, rfl, rfl, hk, O, hS, bl⟩ := hrel
                have HX := Lib.hid hX
                have hXl : X.length ≤ 100 := by
                  rw [hX, List.length_append]
                  have := List.length_filter_le (fun p => decide (cl < p.1)) (l.take k)
                  have := (B.bv_of HV.out).1
                  have := HBASE.out
                  rw [List.length_take] at *
                  omega
                have HXL := Lib.hid hXl
                clear hX hXl
                by_cases hlt : k < n
                · obtain ⟨b, off, rfl, hb, hc⟩ := hS.at_ k hlt
                  obtain ⟨c0, c1, c2⟩ := hc k hlt
                  have hfs := flt_snoc l (fun p => decide (cl < p.1)) k (by have := HLN.out; omega)
                  have hfs2 := congrArg (fun Z => A1 ++ Z) hfs
                  simp only [← List.append_assoc] at hfs2
                  rw [← HX.out] at hfs2
                  have hs := bl.size
                  have HS := Lib.hid (And.intro hS bl)
                  have HO := Lib.hid O
                  clear hfs
                  by_cases hT : cl < Q.of l k
                  · rw [if_pos (decide_eq_true hT)] at hfs2
                    have HFS := Lib.hid hfs2
                    have hT' : decide (cl < Q.of l k) = true := decide_eq_true hT
                    generalize Q.of l k = x at *
                    generalize Q.de l k = y at *
                    generalize Q.tm l k = z at *
                    have HA := Lib.hid (HO.out.keep ((Below.refl _ _).alloc (Nat.le_refl _) (.cells #[.int .i64 x, .int .i64 y, .int .i64 z] 116)))
                    clear hc hfs2 hT hS bl O
                    go_wp2_with (first | (at_builtin; refine wpList_q rfl _ _ rfl w.heap.size rfl rfl HA.out (Sms.one (B3.new wr x y z 116)) (by have := HXL.out; omega) (by simp; omega) _ HFS.out.symm ?_))
                    intro a6 c6 w6 O6 b6 _
                    have bw : Below w.heap.size wr w6 := ((Below.refl w.heap.size wr).alloc hs (.cells #[.int .i64 x, .int .i64 y, .int .i64 z] 116)).trans b6
                    have F := Lib.hid (And.intro O6 (And.intro (HS.out.1.below bw) (HS.out.2.trans bw)))
                    clear O6 b6 bw
                    go_wp2
                    go_roundw
                    case rel => exact ⟨k + 1, a6, c6, _, rfl, by first | rfl | (rw [HFS.out]; done) | (rw [HFS.out]; simp; done) | (have := congrArg List.length HFS.out; simp at this ⊢; done) | (have := congrArg List.length HFS.out; simp at this ⊢; omega), by go_num, by omega, F.out⟩
                    case measure => simp [intOf]; omega
                  · rw [if_neg (by simpa using hT), List.append_nil] at hfs2
                    have HFS := Lib.hid hfs2
                    have hT' : decide (cl < Q.of l k) = false := decide_eq_false hT
                    generalize Q.of l k = x at *
                    generalize Q.de l k = y at *
                    generalize Q.tm l k = z at *
                    have HF5 := Lib.hid (And.intro HO.out HS.out)
                    clear hc hfs2 hT hS bl O
                    go_wp2
                    go_roundw
                    case rel => exact ⟨k + 1, a', c', X, HFS.out.symm, rfl, by go_num, by omega, HF5.out⟩
                    case measure => simp [intOf]; omega
                · have hkn : k = n := by omega
                  have e : X = A1 ++ l.filter (fun p => decide (cl < p.1)) := by
                    rw [HX.out, hkn, ← HLN.out, List.take_length]
                  have hXl := HXL.out
                  have H3 := Lib.hid (And.intro O (And.intro hS bl))
                  have HEX := Lib.hid e
                  clear O hS bl e hlt
                  obtain ⟨Y, hY⟩ : ∃ Y, B.aft l cl t = Y := ⟨_, rfl⟩
                  have HYE := Lib.hid (show X = Y from by rw [← hY, HEX.out]; exact HPUT.out)
                  rw [hY] at HTY HTB
                  obtain rfl := HYE.out
                  have S7 := (H3.out.1.sms (by have := HXL.out; omega)).1
                  have k8 := vb_spec _ X.length c' a' X wr S7
                  rcases hva : B.bv X with _ | _
                  · rw [hva] at k8
                    have HE8 := Lib.hid (HTB.out HTT.out hva)
                    have K8 := Lib.hid k8
                    clear k8 hva S7
                    go_wp2_with fail
                    refine K8.out.mono ?_
                    rintro e w8 ⟨rfl, q8⟩
                    have F := Lib.hid (bel_same H3.out.2.2 q8)
                    clear q8
                    go_wp2
                    go_ret3
                    rw [HE8.out]
                    exact ToldT.no F.out
                  · rw [hva] at k8
                    have HE8 := Lib.hid (HTY.out HTT.out hva)
                    have K8 := Lib.hid k8
                    clear k8 hva S7
                    go_wp2_with fail
                    refine K8.out.mono ?_
                    rintro e w8 ⟨rfl, q8⟩
                    have F := Lib.hid (And.intro (H3.out.1.keep q8.below) (bel_same H3.out.2.2 q8))
                    clear q8
                    go_wp2
                    go_ret3
                    unfold ToldT
                    rw [HE8.out]
                    exact ⟨a', c', rfl, F.out⟩
      · have HZ := Lib.hid (HNO.out (fun q => hy q.2))
        simp only [decide_eq_false hy] at k3
        have K3 := Lib.hid k3
        clear k3 k5 r0 r1 hy
        go_enter Tryz.func85, Tryz.ntmps85
        go_wp2_with fail
        refine K1.out.mono ?_
        rintro e w1 ⟨rfl, b1⟩
        have H1 := Lib.hid (And.intro (HS.out.keepB b1) (HE.out.trans (b1.mono HE.out.size)))
        clear b1
        go_wp2_with (go_at_call 39; refine (K5.out _).mono ?_; rintro e w' ⟨rfl, rfl⟩)
        refine (K3.out _ H1.out.1).mono ?_
        rintro e w2 ⟨rfl, q2⟩
        have F := Lib.hid (bel_same H1.out.2 q2)
        clear q2
        go_wp2
        go_ret3
        rw [HZ.out]
        exact ToldT.no F.out
    · have k5 := fun w' => inR_spec cl 0 99 w'
      simp only [r0] at k5
      have K5 := Lib.hid k5
      have HZ := Lib.hid (HNO.out (fun q => r1 q.1))
      clear k3 k5 r0 r1
      go_enter Tryz.func85, Tryz.ntmps85
      go_wp2_with fail
      refine K1.out.mono ?_
      rintro e w1 ⟨rfl, b1⟩
      have H1 := Lib.hid (HE.out.trans (b1.mono HE.out.size))
      clear b1
      go_wp2_with (go_at_call 39; refine (K5.out _).mono ?_; rintro e w' ⟨rfl, rfl⟩)
      go_ret3
      rw [HZ.out]
      exact ToldT.no H1.out
  · have hta : B.ta l cl t = -1 := if_neg hbt
    rw [hta] at k1
    have K1 := Lib.hid k1
    have HZ := Lib.hid (B.tt_no (l := l) (c := cl) (t := t) (fun z => hbt ⟨z.1, by have := (B.bk_ok z.1 cl).2.2.1; have := z.2.2; omega⟩))
    clear k1 hta hbt hE hS0 O0 h
    go_enter Tryz.func85, Tryz.ntmps85
    go_wp2_with fail
    refine K1.out.mono ?_
    rintro e w1 ⟨rfl, b1⟩
    have H1 := Lib.hid (HE.out.trans (b1.mono HE.out.size))
    clear b1
    go_wp2
    go_ret3
    rw [HZ.out]
    exact ToldT.no H1.out
end Go.Proofs.YtpfdjmffgbbmdaaGreatDoor
