/-
  Full buckets are struck out (chapter 15): the program's DropFull, and the library's maps.DeleteFunc at it.
-/
import Derived.Test.YtoaaedbfjbgakaaMapB
import Derived.Lib.SlMapFilter
namespace Go.Proofs.Ytoaaedbfjbgakaa
open Go.RowKit Go.Maps Go.Shelf Go.Sort
set_option linter.unusedVariables false
set_option maxRecDepth 100000
/-- What the predicate says, on data. -/
def pdB (t : Int) (_ : Lit) (d : DataW Unit) : Bool :=
  match d with
  | .agg [.lit (.int _ c), .lit (.int _ x), .lit (.int _ y)] => decide (B.tk (c, x, y) t = 5)
  | _ => false
theorem pdB_enc (t : Int) (k : Lit) (p : B.Bk) : pdB t k (B.enc p) = decide (B.tk p t = 5) := rfl
theorem below_grown {w w' : World} (h : Below w.heap.size w w') : w.grownBy w' none := ⟨h.os, h.tape, h.output, h.size, fun j hj _ => h.block j hj⟩
set_option maxHeartbeats 1000000 in
theorem cl_impl (k x y z t : Int) (bx : Nat) (hy : 0 ≤ y ∧ y ≤ 5) (hz : 0 ≤ z ∧ z ≤ 3786479999) (ht : 0 ≤ t ∧ t ≤ 3786479999) (W : World) (hx : W.cell? ⟨bx, 0, none⟩ = some (.int .i64 t)) : Calls Try.prog 48 (#[.int .i64 k, .agg #[.int .i64 x, .int .i64 y, .int .i64 z]] ++ #[.pointer (some ⟨bx, 0, none⟩)]) W fun e w' => e = .returned (.bool (decide (B.tk (x, y, z) t = 5))) ∧ Below W.heap.size W w' := by
  have K := Lib.hid (fun w' => tk_impl x y z t hy hz (by omega) w')
  have hbx : bx < W.heap.size := World.block_lt_of_cell? _ _ hx
  have hx2 : (W.alloc (.cells #[.int .i64 x, .int .i64 y, .int .i64 z] 37)).cell? ⟨bx, 0, none⟩ = some (.int .i64 t) := (((Below.refl W.heap.size W).alloc (Nat.le_refl _) _).cell (p := ⟨bx, 0, none⟩) hbx).trans hx
  have hb1 := Lib.hid ((Below.refl W.heap.size W).alloc (Nat.le_refl _) (.cells #[.int .i64 x, .int .i64 y, .int .i64 z] 37))
  generalize B.tk (x, y, z) t = T at *
  clear hy hz ht hx
  go_enter Try.func48, Try.ntmps48
  go_wp2_with fail
  refine (K.out _).mono ?_
  rintro e w2 ⟨rfl, b2⟩
  have HB := Lib.hid (hb1.out.trans (b2.mono hb1.out.size))
  clear b2
  by_cases hT : T = 5
  · have h1 : (T == 5) = true := by rw [hT]; rfl
    have HT := Lib.hid (decide_eq_true hT)
    clear hT
    go_wp2
    go_ret
    exact ⟨by rw [HT.out]; first | done | rfl, HB.out⟩
  · have h1 : (T == 5) = false := beq_eq_false_iff_ne.2 hT
    have HT := Lib.hid (decide_eq_false hT)
    clear hT
    go_wp2
    go_ret
    exact ⟨by rw [HT.out]; first | done | rfl, HB.out⟩
theorem in_l {l : List B.Bk} {pd : Lit → DataW Unit → Bool} {left : Lit → Bool} {kl : Lit} {p : B.Bk} (h : ∀ zd, (Fk pd (l.map B.ent) left).atKey kl zd = B.enc p) : p ∈ l := by
  have h0 := h .nil
  unfold Fk DataW.atKey at h0
  simp only at h0
  split at h0
  · rename_i q hq
    have hm := List.mem_of_find?_eq_some hq
    rw [List.mem_filter] at hm
    obtain ⟨r, hr, e⟩ := List.mem_map.1 hm.1
    rw [← e] at h0
    have : r = p := B.enc_inj h0
    rw [← this]; exact hr
  · exact absurd h0 (by simp [B.enc])
set_option maxHeartbeats 4000000 in
theorem de_impl (b n bx : Nat) (l : List B.Bk) (t : Int) (w : World) (hown : Mp w b n l) (hv : B.bv l = true) (ht : 0 ≤ t ∧ t ≤ 3786479999) (hx : w.cell? ⟨bx, 0, none⟩ = some (.int .i64 t)) (hbb : bx ≠ b) :
    Calls Try.prog 47 #[.map (some b), .func (.func 48) #[] #[.pointer (some ⟨bx, 0, none⟩)]] w fun e w' => e = .returned (.tuple #[]) ∧ Mp w' b n (l.filter (fun p => decide (B.tk p t < 5))) ∧ w.grownBy w' (some b) := by
  have eg : ∀ args w, (callFunc 48 args).run Try.prog w = .ok (.enter 48 args) w := enters_of Try.func48 (by kernel_rfl) rfl
  have hown0 : w.ownsMap Try.prog 3 B.bkR b n (B.E l) := hown
  obtain ⟨es0, he0, hap, hkeys⟩ := World.ownsMap.entries hown0 lawK
  have hes : es0 = l.map B.ent := by unfold B.E at he0; injection he0 with he0; exact he0.symm
  subst hes
  have HV := Lib.hid hv
  have HT := Lib.hid ht
  have HX := Lib.hid hx
  clear hv ht hx he0
  go_enter Try.func47, Try.ntmps47
  go_wp2_with (first
    | (at_range; refine wpList_range_own _ rfl _ 55 rfl 3 37 lawK Try.underlying55 B.bkR b n _ rfl hown0 ?_; intro w0 hrg0 hg0 hs0)
    | go_in)
  go_frame
  go_loopw [8] (fun _ wr => ∃ (left : Lit → Bool) (cnt : Nat), wr.ranges Try.prog 3 B.bkR b w.heap.size n (Fk (pdB t) (l.map B.ent) left) left cnt ∧ w.grownBy wr (some b))
    (fun _ wr => wr.rangeLeft b w.heap.size)
  case atStart => exact ⟨_, _, by rw [Fk_start hkeys]; exact hrg0, hg0.but _⟩
  case round =>
    obtain ⟨left, cnt, hrg, hgw⟩ := hrel
    go_wp2_with (first
      | (at_next; refine wpList_next_ranges (α := Int) (β := B.Bk) _ rfl _ rfl 3 lawK B.bkR (fun x => .int .i64 x) (fun p => .agg #[.int .i64 p.1, .int .i64 p.2.1, .int .i64 p.2.2]) (fun key kl hk => by obtain ⟨x, hx, _⟩ := Maps.keyOf_i64 Try.underlying3 hk; exact ⟨x, hx⟩) (fun v _ hv => by obtain ⟨p, hp, _⟩ := B.bkR_inv hv; exact ⟨p, hp⟩) b w.heap.size n _ _ _ rfl hrg ?_ ?_)
      | go_in)
    · intro _ hl0
      have hfin : Mp wr b n (l.filter (fun p => decide (B.tk p t < 5))) := by
        have h1 := hrg.owns
        rw [Fk_end hl0] at h1
        have h2 := B.E_del (pdB t) l
        unfold B.E at h2
        rw [h2] at h1
        have h3 : l.filter (fun p => !pdB t (B.key p.1) (B.enc p)) = l.filter (fun p => decide (B.tk p t < 5)) := List.filter_congr (fun p _ => by
          rw [pdB_enc]
          have := B.tk_le p t
          by_cases q : B.tk p t = 5
          · simp [q]
          · have : B.tk p t < 5 := by omega
            simp [q, this])
        rw [h3] at h1
        exact h1
      go_wp2
      go_end0
      exact ⟨rfl, hfin, hgw⟩
    · intro x p1 p2 p3 kl yd yp w1 cnt1 hkey hlx hv hat hrg1 hlt hg1 hs1 hen
      obtain rfl : yd = B.enc (p1, p2, p3) := (congrArg Prod.fst (Option.some.inj hv)).symm
      obtain ⟨p', hp'⟩ : ∃ p' : B.Bk, p' = (p1, p2, p3) := ⟨_, rfl⟩
      obtain rfl : p1 = p'.1 := by rw [hp']
      obtain rfl : p2 = p'.2.1 := by rw [hp']
      obtain rfl : p3 = p'.2.2 := by rw [hp']
      have hp3 : (p'.1, p'.2.1, p'.2.2) = p' := rfl
      rw [hp3] at hat hv
      clear hp'
      have hmem := in_l hat
      have hok := B.bv_mem HV.out hmem
      have hgw1 := hgw.andThen hg1 (fun j hj => by cases hj; exact Or.inl (Nat.le_refl _))
      have hx1 : w1.cell? ⟨bx, 0, none⟩ = some (.int .i64 t) := hgw1.cell HX.out (fun e => by have := Option.some.inj e; simp at this; omega)
      have hx2 : (w1.alloc (.cells #[.int .i64 p'.1, .int .i64 p'.2.1, .int .i64 p'.2.2] 37)).cell? ⟨bx, 0, none⟩ = some (.int .i64 t) := (((Below.refl w1.heap.size w1).alloc (Nat.le_refl _) _).cell (p := ⟨bx, 0, none⟩) (World.block_lt_of_cell? _ _ hx1)).trans hx1
      have hc := cl_impl x p'.1 p'.2.1 p'.2.2 t bx hok.2.1 hok.2.2 HT.out _ hx2
      have hrgA := hrg1.kept (World.grownBy_alloc w1 (.cells #[.int .i64 p'.1, .int .i64 p'.2.1, .int .i64 p'.2.2] 37) none) (by simp) (by simp)
      have hgA := hgw1.andThen (World.grownBy_alloc w1 (.cells #[.int .i64 p'.1, .int .i64 p'.2.1, .int .i64 p'.2.2] 37) none) (fun j hj => by cases hj)
      have hpd : pdB t kl (B.enc p') = decide (B.tk p' t = 5) := rfl
      rw [hp3] at hc
      clear hx1 hx2 hok hmem
      rcases hd : decide (B.tk p' t = 5) with _ | _
      · rw [hd] at hc hpd
        go_wp2_with (first
          | (go_at_fn 48; refine hc.mono ?_; rintro e w2 ⟨rfl, b2⟩)
          | go_in)
        have hrg2 := hrgA.kept (below_grown b2) (by simp) (by simp)
        go_roundw
        case rel => exact ⟨_, cnt1, by rw [← Fk_stays hap (lawK.key hkey) hlx hpd hat]; exact hrg2, hgA.andThen (below_grown b2) (fun j hj => by cases hj)⟩
        case measure => rw [hrg2.left_eq, hrg.left_eq]; exact hlt
      · rw [hd] at hc hpd
        go_wp2_with (first
          | (go_at_fn 48; refine hc.mono ?_; rintro e w2 ⟨rfl, b2⟩; have hrg2 := hrgA.kept (below_grown b2) (by simp) (by simp))
          | (at_delete; refine wpList_delete_ranges _ rfl _ _ 55 3 rfl 37 lawK Try.underlying55 B.bkR b w.heap.size n _ _ _ rfl hrg2 _ _ rfl hkey ?_; intro w3 cnt3 hrg3 hle hturn; go_frame)
          | go_in)
        rw [strike_twice] at hrg3
        go_roundw
        case rel => exact ⟨_, cnt3, by rw [← Fk_struck hap (lawK.key hkey) hlx hpd hat]; exact hrg3, (hgA.andThen (below_grown b2) (fun j hj => by cases hj)).andThen hturn.grown (fun j hj => by cases hj; exact Or.inr rfl)⟩
        case measure => rw [hrg3.left_eq, hrg.left_eq]; omega
set_option maxHeartbeats 4000000 in
theorem DF_impl (n c : Nat) (a : Option Addr) (l : List Q.Sm) (t : Int) (w : World) (h : Sms w.heap.size w a n l) : Calls Try.prog 26 #[.slice a n c, .int .i64 t] w (ToldB w (B.df l t)) := by
  have hb0 := (Below.refl w.heap.size w).alloc (Nat.le_refl _) (.cells #[.int .i64 t] 3)
  have hS0 := h.keepB hb0
  have x0 : (w.alloc (.cells #[.int .i64 t] 3)).cell? ⟨w.heap.size, 0, none⟩ = some (.int .i64 t) := by simp
  have k1 := vb_impl n c a l _ hS0
  have HB0 := Lib.hid hb0
  have HS0 := Lib.hid hS0
  have X0 := Lib.hid x0
  have hsz : (w.alloc (.cells #[.int .i64 t] 3)).heap.size = w.heap.size + 1 := by simp
  have HSZ := Lib.hid hsz
  clear hb0 hS0 hsz
  rcases hv : B.bv l with _ | _
  · rw [B.df_no1 hv]
    rw [hv] at k1
    have K1 := Lib.hid k1
    clear k1 hv h
    go_enter Try.func26, Try.ntmps26
    go_wp2_with fail
    refine K1.out.mono ?_
    rintro e w1 ⟨rfl, b1⟩
    have HB := Lib.hid (HB0.out.trans (b1.mono HB0.out.size))
    clear b1
    go_wp2
    go_ret
    exact ToldB.nil HB.out
  rw [hv] at k1
  have K1 := Lib.hid k1
  have k5 := fun w' => inR_impl t 0 3786479999 w'
  rcases inR_cases t 0 3786479999 with ⟨r0, r1⟩ | ⟨r0, r1⟩
  · rw [B.df_yes hv r1]
    simp only [r0] at k5
    have K5 := Lib.hid k5
    have K2 := Lib.hid (fun w' (h : Sms w'.heap.size w' a n l) => of_impl n c a l w' h hv)
    have K3 := Lib.hid (fun w' b bx (h : Mp w' b n l) (hx : w'.cell? ⟨bx, 0, none⟩ = some (.int .i64 t)) (hbb : bx ≠ b) => de_impl b n bx l t w' h hv r1 hx hbb)
    have hal : (l.filter (fun p => decide (B.tk p t < 5))).length ≤ 900 := by
      have := List.length_filter_le (fun p => decide (B.tk p t < 5)) l
      have := (B.bv_of hv).1
      omega
    have haa : B.Asc (l.filter (fun p => decide (B.tk p t < 5))) := List.Pairwise.filter _ (B.bv_asc hv)
    have hwf : ∀ p ∈ l.filter (fun p => decide (B.tk p t < 5)), (Lit.int .i64 p.1).wf = true := fun p hp => wfC (by have := (B.bv_mem hv (List.mem_filter.1 hp).1).1; omega)
    generalize l.filter (fun p => decide (B.tk p t < 5)) = F at *
    have K4 := Lib.hid (fun w' b (h : Mp w' b n F) => so_impl b n F w' h hal haa hwf)
    clear k1 k5 hv h r0 r1 hal haa hwf
    go_enter Try.func26, Try.ntmps26
    go_wp2_with fail
    refine K1.out.mono ?_
    rintro e w1 ⟨rfl, b1⟩
    have S1 := HS0.out.keepB b1
    have HB1 := Lib.hid (HB0.out.trans (b1.mono HB0.out.size))
    have x1 : w1.cell? ⟨w.heap.size, 0, none⟩ = some (.int .i64 t) := (b1.cell (p := ⟨w.heap.size, 0, none⟩) (by simp)).trans X0.out
    have hs1 : w.heap.size < w1.heap.size := by have := b1.size; have := HSZ.out; omega
    clear b1 x0
    go_wp2_with (go_at_call 36; refine (K5.out _).mono ?_; rintro e w' ⟨rfl, rfl⟩)
    refine (K2.out _ S1).mono ?_
    rintro e w2 ⟨rfl, M2, b2⟩
    have HB2 := Lib.hid (HB1.out.trans (b2.mono HB1.out.size))
    have x2 : w2.cell? ⟨w.heap.size, 0, none⟩ = some (.int .i64 t) := (b2.cell (p := ⟨w.heap.size, 0, none⟩) hs1).trans x1
    clear b2 S1 x1
    go_wp2_with fail
    refine (K3.out _ _ _ M2 x2 (by omega)).mono ?_
    rintro e w3 ⟨rfl, M3, g3⟩
    have HB3 := Lib.hid (HB2.out.grown g3 HB2.out.size (fun j hj => by cases hj; omega))
    clear g3 M2 x2
    go_wp2_with fail
    refine (K4.out _ _ M3).mono ?_
    rintro e w4 ⟨a4, c4, rfl, O4, b4⟩
    have FF := Lib.hid (And.intro (O4.more HB3.out.size) (HB3.out.trans (b4.mono HB3.out.size)))
    clear O4 b4 M3
    go_wp2
    go_ret
    exact ⟨a4, c4, rfl, FF.out⟩
  · rw [B.df_no2 r1]
    simp only [r0] at k5
    have K5 := Lib.hid k5
    clear k1 k5 hv h r0 r1
    go_enter Try.func26, Try.ntmps26
    go_wp2_with fail
    refine K1.out.mono ?_
    rintro e w1 ⟨rfl, b1⟩
    have HB := Lib.hid (HB0.out.trans (b1.mono HB0.out.size))
    have x1 : w1.cell? ⟨w.heap.size, 0, none⟩ = some (.int .i64 t) := (b1.cell (p := ⟨w.heap.size, 0, none⟩) (by simp)).trans X0.out
    clear b1 x0
    go_wp2_with (go_at_call 36; refine (K5.out _).mono ?_; rintro e w' ⟨rfl, rfl⟩)
    go_ret
    exact ToldB.nil HB.out
end Go.Proofs.Ytoaaedbfjbgakaa
