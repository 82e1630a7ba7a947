/-
  Buckets in a map (chapter 15): a map filled from a list, a client's bucket, the buckets in order, those struck out.
-/
import Derived.Test.YtpfdjmffgbbmdaaGreatDoorBuck
import Derived.Test.YtpfdjmffgbbmdaaGreatDoorMapM
import Derived.Test.YtpfdjmffgbbmdaaGreatDoorP3
import Derived.Test.YtpfdjmffgbbmdaaGreatDoorShelfB
import Derived.Maps.OwnOps
import Derived.Maps.OwnSet
import Derived.Maps.RangeWalk
import Derived.Laws.IdiomRangeMap
import Derived.Deep.LoopGhost
namespace Go.Proofs.YtpfdjmffgbbmdaaGreatDoor
open Go.RowKit Go.Maps Go.Shelf Go.Sort
set_option linter.unusedVariables false
set_option maxRecDepth 100000
theorem lawK : Keyed Tryz.prog 3 := int_keyed Tryz.underlying3
theorem zeroBk (w : World) : (zeroValue 116).run Tryz.prog w = .ok (.agg #[.int .i64 0, .int .i64 0, .int .i64 0]) w := by kernel_rfl
/-- Block b is a map that holds a list's buckets. -/
def Mp (w : World) (b n : Nat) (l : List B.Bk) : Prop := w.ownsMap Tryz.prog 3 B.bkR b n (B.E l)
theorem Mp.b {w w' : World} {b n : Nat} {l : List B.Bk} (h : Mp w b n l) (hb : Below w.heap.size w w') : Mp w' b n l :=
  World.ownsMap.kept (row := none) h ⟨hb.os, hb.tape, hb.output, hb.size, fun j hj _ => hb.block j hj⟩ (by simp)
theorem Mp.al {w : World} {b n : Nat} {l : List B.Bk} (h : Mp w b n l) (o : Obj) : Mp (w.alloc o) b n l := World.ownsMap.alloc h o
theorem keyC {c : Int} (h : (Lit.int .i64 c).wf = true) : keyOf Tryz.prog 3 (.int .i64 c) = some (B.key c) := keyOf_int_mk Tryz.underlying3 h
theorem wfC {c : Int} (h : -9000000000000000000 ≤ c ∧ c ≤ 9000000000000000000) : (Lit.int .i64 c).wf = true := WalkArith.wf_i64 (by omega)
theorem take_snocB (l : List B.Bk) (k : Nat) (h : k < l.length) : l.take (k + 1) = l.take k ++ [(Q.of l k, Q.de l k, Q.tm l k)] := by
  rw [List.take_add_one, Q.get l k h]; simp
theorem E_stepB {l : List B.Bk} (hv : B.bv l = true) {k : Nat} (h : k < l.length) : (B.E (l.take k)).put (B.key (Q.of l k)) (B.enc (Q.of l k, Q.de l k, Q.tm l k)) = B.E (l.take (k + 1)) := by
  have ha := B.bv_asc hv
  have hs := take_snocB l k h
  have ha1 : B.Asc (l.take (k + 1)) := by unfold B.Asc at *; exact ha.sublist (List.take_sublist _ _)
  have ha0 : B.Asc (l.take k) := by unfold B.Asc at *; exact ha.sublist (List.take_sublist _ _)
  rw [B.E_put ha0 (Q.of l k, Q.de l k, Q.tm l k)]
  congr 1
  rw [hs]
  refine B.put_last (fun q hq => ?_)
  unfold B.Asc at ha1
  rw [hs, List.pairwise_append] at ha1
  exact ha1.2.2 q hq _ (List.mem_singleton.2 rfl)
set_option maxHeartbeats 2000000 in
theorem of_impl (n c : Nat) (a : Option Addr) (l : List Q.Sm) (w : World) (h : Sms w.heap.size w a n l) (hv : B.bv l = true) : Calls Tryz.prog 123 #[.slice a n c] w fun e w' => e = .returned (.map (some w.heap.size)) ∧ Mp w' w.heap.size n l ∧ Below w.heap.size w w' := by
  have hl := h.1
  have hn := h.2.1
  have HL := Lib.hid hl
  have HV := Lib.hid hv
  have hmm := @run_makeMap Tryz.prog
  have h1 := h.below ((Below.refl w.heap.size w).alloc (Nat.le_refl _) (.map #[] 0))
  have m1 : Mp (w.alloc (.map #[] 0)) w.heap.size 0 (l.take 0) := World.ownsMap_made w _ _ _
  have b1 := (Below.refl w.heap.size w).alloc (Nat.le_refl _) (.map #[] 0)
  have H1 := Lib.hid (And.intro m1 (And.intro h1 b1))
  clear hl hv h1 m1 b1 h
  go_enter Tryz.func123, Tryz.ntmps123
  go_wp2
  go_loopw [9] (fun i wr => ∃ k : Nat, k ≤ n ∧ i = .int .i64 k ∧ Mp wr w.heap.size k (l.take k) ∧ Sms w.heap.size wr a n l ∧ Below w.heap.size w wr) (fun i _ => n - (intOf i).toNat)
  case atStart => exact ⟨0, Nat.zero_le _, rfl, H1.out⟩
  case round =>
    obtain ⟨k, hk, rfl, hM, hS, bl⟩ := hrel
    by_cases hlt : k < n
    · obtain ⟨b, off, rfl, hb, hc⟩ := hS.at_ k hlt
      obtain ⟨c0, c1, c2⟩ := hc k hlt
      have hr := B.rng HV.out (i := k) (by have := HL.out; omega)
      have HK := Lib.hid (keyC (wfC (c := Q.of l k) (by have := hr.1; omega)))
      have HE := Lib.hid (E_stepB HV.out (k := k) (by have := HL.out; omega))
      have hs := bl.size
      have hM1 := hM.al (.cells #[.int .i64 (Q.of l k), .int .i64 (Q.de l k), .int .i64 (Q.tm l k)] 116)
      have hA := (Below.refl w.heap.size wr).alloc hs (.cells #[.int .i64 (Q.of l k), .int .i64 (Q.de l k), .int .i64 (Q.tm l k)] 116)
      have HM := Lib.hid hM1
      have HB := Lib.hid (And.intro (hS.below hA) (bl.trans hA))
      generalize Q.of l k = x at *
      generalize Q.de l k = y at *
      generalize Q.tm l k = z at *
      clear hM hM1 hS bl hA hc hr
      go_wp2_with (first | (at_mapUpdate; refine wpList_mapUpdate_own _ rfl _ _ _ 131 rfl 3 116 lawK Tryz.underlying131 B.bkR w.heap.size k _ rfl HM.out (by unfold maxLen; omega) _ _ (B.key x) rfl rfl HK.out (B.enc (x, y, z)) [] (B.bkR_mk x y z) ?_))
      intro w5 own5 hg5
      rw [HE.out] at own5
      have hs5 := hg5.size
      have b5 : Below w.heap.size (wr.alloc (.cells #[.int .i64 x, .int .i64 y, .int .i64 z] 116)) w5 := (Below.refl _ _).grown hg5 (by simp; omega) (fun j hj => by cases hj; exact Nat.le_refl _)
      have F := Lib.hid (And.intro (show Mp w5 w.heap.size (k + 1) (l.take (k + 1)) from own5) (And.intro (HB.out.1.below b5) (HB.out.2.trans b5)))
      clear own5 hg5 hs5 b5
      go_wp2
      go_roundw
      case rel => exact ⟨k + 1, by omega, by go_num, F.out⟩
      case measure => simp [intOf]; omega
    · obtain rfl : k = n := by omega
      have F := Lib.hid (show Mp wr w.heap.size k l ∧ Below w.heap.size w wr from ⟨by rw [show l.take k = l from by rw [← HL.out]; exact List.take_length] at hM; exact hM, bl⟩)
      clear hM hS bl
      go_wp2
      go_ret
      exact ⟨rfl, F.out⟩
/-- 'v, ok := m[k]'. -/
theorem look_ok {w : World} {ops : Array Oper} {rest : List Oper} {o : Oper} {a : Act} {R : Exit → Act → World → Prop} (hg : o.guard = none) (m x : Operand) (hop : o.op = Op.lookup 131 m x true)
    (b n : Nat) (l : List B.Bk) (c : Int) (r : B.Bk) (ok : Bool) (hm : a.eval m = .map (some b)) (h : Mp w b n l) (hx : a.eval x = .int .i64 c) (hw : (Lit.int .i64 c).wf = true) (hr : (B.fnd l c).getD (0, 0, 0) = r) (hok : (B.fnd l c).isSome = ok)
    (hK : wpList Tryz.prog ops R rest (a.put o.dst (.tuple #[.agg #[.int .i64 r.1, .int .i64 r.2.1, .int .i64 r.2.2], .bool ok])) w) : wpList Tryz.prog ops R (o :: rest) a w := by
  refine wpList_lookup_own_ok w hg m x 131 hop 3 116 lawK Tryz.underlying131 B.bkR (zeroBk w) (B.enc (0, 0, 0)) [] rfl b n (B.E l) hm h (.int .i64 c) (B.key c) hx (keyC hw) (fun v ps hv => ?_)
  rw [B.E_has, hok]
  rw [B.E_at] at hv
  obtain ⟨p, rfl, e⟩ := B.bkR_inv hv
  have e1 : (match B.fnd l c with | some p => B.enc p | none => B.enc (0, 0, 0)) = B.enc p := congrArg Prod.fst e
  have e2 : p = r := by
    rw [← hr]
    rcases hf : B.fnd l c with _ | q
    · rw [hf] at e1; exact (B.enc_inj e1).symm
    · rw [hf] at e1; exact (B.enc_inj e1).symm
  subst e2
  exact hK
/-- 'm[k]', k a client that is there. -/
theorem look_at {w : World} {ops : Array Oper} {rest : List Oper} {o : Oper} {a : Act} {R : Exit → Act → World → Prop} (hg : o.guard = none) (m x : Operand) (hop : o.op = Op.lookup 131 m x false)
    (b n : Nat) (l : List B.Bk) (c : Int) (r : B.Bk) (hm : a.eval m = .map (some b)) (h : Mp w b n l) (hx : a.eval x = .int .i64 c) (hw : (Lit.int .i64 c).wf = true) (hr : B.fnd l c = some r)
    (hK : wpList Tryz.prog ops R rest (a.put o.dst (.agg #[.int .i64 r.1, .int .i64 r.2.1, .int .i64 r.2.2])) w) : wpList Tryz.prog ops R (o :: rest) a w := by
  refine wpList_plain hg fun K' hK' => ?_
  obtain ⟨v, ps, hrun, hv⟩ := World.ownsMap.lookup h lawK Tryz.underlying131 (zeroBk w) (zd := B.enc (0, 0, 0)) (zp := []) rfl (keyC hw)
  rw [B.E_at, hr] at hv
  obtain ⟨p, rfl, e⟩ := B.bkR_inv hv
  have e2 : p = r := (B.enc_inj (congrArg Prod.fst e : B.enc r = B.enc p)).symm
  subst e2
  unfold Oper.wp
  simp [execOp, hop, hm, hx, hrun, Result.andThen]
  exact hK' _ _ hK
set_option maxHeartbeats 1000000 in
theorem bk_impl (b n : Nat) (l : List B.Bk) (c : Int) (w : World) (h : Mp w b n l) (hw : (Lit.int .i64 c).wf = true) : Calls Tryz.prog 124 #[.map (some b), .int .i64 c] w fun e w' => e = .returned (.agg #[.int .i64 (B.bk l c).1, .int .i64 (B.bk l c).2.1, .int .i64 (B.bk l c).2.2]) ∧ Below w.heap.size w w' := by
  have h1 := h.al (.cells #[.int .i64 0, .int .i64 0, .int .i64 0] 116)
  have H := Lib.hid h1
  have hb1 := (Below.refl w.heap.size w).alloc (Nat.le_refl _) (.cells #[.int .i64 0, .int .i64 0, .int .i64 0] 116)
  rcases hf : B.fnd l c with _ | ⟨x, y, z⟩
  · have e : B.bk l c = (c, 5, 0) := by unfold B.bk; rw [hf]; rfl
    rw [e]
    have HF := Lib.hid hf
    clear e hf h h1 hb1
    go_enter Tryz.func124, Tryz.ntmps124
    go_wp2_with (first | (at_lookup; refine look_ok rfl _ _ rfl b n l c (0, 0, 0) false rfl H.out rfl hw (by rw [HF.out]; rfl) (by rw [HF.out]; rfl) ?_))
    exact bodyPost_ret (v := .agg #[.int .i64 c, .int .i64 5, .int .i64 0]) (by simp [results, Tryz.results124, go_sem]) rfl ⟨rfl, (((Below.refl w.heap.size w).alloc (Nat.le_refl _) _).alloc (by simp) _)⟩
  · have e : B.bk l c = (x, y, z) := by unfold B.bk; rw [hf]; rfl
    rw [e]
    have HF := Lib.hid hf
    clear e hf h h1 hb1
    go_enter Tryz.func124, Tryz.ntmps124
    go_wp2_with (first | (at_lookup; refine look_ok rfl _ _ rfl b n l c (x, y, z) true rfl H.out rfl hw (by rw [HF.out]; rfl) (by rw [HF.out]; rfl) ?_))
    exact bodyPost_ret (v := .agg #[.int .i64 x, .int .i64 y, .int .i64 z]) (by simp [results, Tryz.results124, go_sem]) rfl ⟨rfl, (((Below.refl w.heap.size w).alloc (Nat.le_refl _) _).alloc (by simp) _)⟩
theorem keys_plain (b : Nat) (W : World) : Calls Tryz.prog 141 #[.map (some b)] W fun e w' => e = .returned (.func (.func 149) #[] #[.pointer (some ⟨W.heap.size, 0, none⟩)]) ∧ w' = W.alloc (.cells #[.map (some b)] 131) :=
  (callsIn_wide (n := 5)).1 (AnyZI.keys_in Tryz.keysA Fence.wide 5 trivial rfl (some b) W)
theorem sortsA (m : Nat) : AnyZI.SortsIn Tryz.prog Tryz.sortedA_ren Fence.wide m :=
  ⟨fun blk off cap ss W hH hblk hsz => callsIn_wide.2 (AnyM.slices_Sort_int Tryz.sortA blk off cap ss W hH hblk hsz),
   fun p cap W => callsIn_wide.2 (AnyM.slices_Sort_int_none Tryz.sortA p cap W)⟩
set_option maxHeartbeats 1000000 in
theorem sorted_plain (b n : Nat) (l : List B.Bk) (w : World) (h : Mp w b n l) (hl : l.length ≤ 1000) (ha : B.Asc l) : Calls Tryz.prog 140 #[.func (.func 149) #[] #[.pointer (some ⟨w.heap.size, 0, none⟩)]] (w.alloc (.cells #[.map (some b)] 131)) fun e w' => ∃ a c, e = .returned (.slice a l.length c) ∧ Nums w.heap.size w' a c (l.map (·.1)) ∧ Below w.heap.size w w' := by
  refine (callsIn_wide (n := 5)).1 ?_
  have hbl := World.ownsMap.lt h
  have hseq : SeqGives Fence.wide 2 Tryz.prog 149 #[.pointer (some ⟨w.heap.size, 0, none⟩)] encZ (fun ss => ss.Perm (intKeys (B.E l))) (Maps.size (B.E l)) (w.alloc (.cells #[.map (some b)] 131)) :=
    AnyZI.keys_gives (ρ := Tryz.keysA_ren) { Tryz.keysA with } Fence.wide _ trivial rfl (by omega) w.heap.size b n (B.E l) _ (by simp) (by simp) (by
      obtain ⟨es, clock, hb, Ft, hs, hD⟩ := h
      exact ⟨es, clock, (Below.heap_alloc _ _ b hbl).trans hb, Ft, hs, hD⟩)
  have cS := AnyZI.sorted_in Tryz.sortedA Fence.wide 5 trivial trivial trivial trivial rfl (by omega) (sortsA _) (enters_of Tryz.func148 (by kernel_rfl) rfl) 149 #[.pointer (some ⟨w.heap.size, 0, none⟩)] trivial (enters_of Tryz.func149 (by kernel_rfl) rfl) _ _ (by rw [B.E_size]; unfold maxLen; omega) (by rw [B.E_size]; omega) _ hseq
  refine CallsIn.mono cS ?_
  rintro e w' ⟨v, ss, rfl, hS, hrow, hnil, hb⟩
  rw [B.E_keys] at hS
  have hsl : ss.length = l.length := by have := hS.length_eq; simpa using this
  have hks := B.keys_sorted ha hS
  rw [hks, hsl] at hrow
  have hrow2 : w'.ownsRow w.heap.size 3 1 v l.length (valsC (l.map (·.1))) := by
    refine ⟨hrow.1, ?_⟩
    rcases hrow.2 with hn | ⟨g, cap, cur, hv, hB, rest⟩
    · exact .inl hn
    · exact .inr ⟨g, cap, cur, hv, by simp at hB; omega, rest⟩
  have hlm : (l.map (·.1)).length = l.length := by simp
  rcases hrow2.2 with ⟨hv, hn⟩ | ⟨g, cap, cur, hv, rest⟩
  · refine ⟨none, 0, by rw [hv, hn], ?_, ((Below.refl _ w).alloc (Nat.le_refl _) _).trans (hb.mono (by simp))⟩
    unfold Nums
    rw [hlm, hn]
    rw [hv, hn] at hrow2; exact hrow2
  · refine ⟨some ⟨g, 0, none⟩, cap, by rw [hv], ?_, ((Below.refl _ w).alloc (Nat.le_refl _) _).trans (hb.mono (by simp))⟩
    unfold Nums
    rw [hlm]
    rw [hv] at hrow2; exact hrow2
/-- A list of buckets of the call's own is handed back. -/
def ToldB (w : World) (l : List Q.Sm) (e : Ending) (w' : World) : Prop := ∃ a c, e = .returned (.slice a l.length c) ∧ OwQ w.heap.size w' a c l ∧ Below w.heap.size w w'
theorem ToldB.nil {w w' : World} (h : Below w.heap.size w w') : ToldB w [] (.returned (.slice none 0 0)) w' := ⟨none, 0, rfl, OwQ.nil _ _, h⟩
theorem key_g (l : List B.Bk) (k : Nat) (h : k < l.length) : L.g (l.map (·.1)) k = Q.of l k := by
  unfold L.g Q.of
  rw [List.getD_eq_getElem?_getD, List.getD_eq_getElem?_getD, List.getElem?_map, List.getElem?_eq_getElem h]; rfl
set_option maxHeartbeats 4000000 in
theorem so_impl (b n : Nat) (l : List B.Bk) (w : World) (h : Mp w b n l) (hl : l.length ≤ 900) (ha : B.Asc l) (hwf : ∀ p ∈ l, (Lit.int .i64 p.1).wf = true) : Calls Tryz.prog 126 #[.map (some b)] w (ToldB w l) := by
  have K1 := Lib.hid (keys_plain b w)
  have K2 := Lib.hid (sorted_plain b n l w h (by omega) ha)
  have HM := Lib.hid h
  have HA := Lib.hid (And.intro ha hwf)
  have HL := Lib.hid hl
  clear h ha hwf hl
  go_enter Tryz.func126, Tryz.ntmps126
  go_wp2_with fail
  refine K1.out.mono ?_
  rintro e w0 ⟨rfl, rfl⟩
  go_wp2_with fail
  refine K2.out.mono ?_
  rintro e w1 ⟨a1, c1, rfl, N1, b1⟩
  have hlm : (l.map (·.1)).length = l.length := by simp
  have L1 := N1.lst (by rw [hlm]; have := HL.out; omega)
  rw [hlm] at L1
  have M1 := HM.out.b b1
  obtain ⟨N, hN⟩ : ∃ N, l.length = N := ⟨_, rfl⟩
  have HN := Lib.hid hN
  rw [hN] at L1 ⊢
  have hNb : N ≤ 900 := by rw [← hN]; exact HL.out
  have H1 := Lib.hid (And.intro L1 (And.intro M1 b1))
  clear L1 M1 b1 N1 hlm hN
  go_wp2_with fail
  go_loopw [3, 10] (fun t i wr => ∃ (k : Nat) (a' : Option Addr) (c' : Nat), t = .slice a' (l.take k).length c' ∧ i = .int .i64 k ∧ k ≤ N ∧ OwQ w1.heap.size wr a' c' (l.take k) ∧ Below w1.heap.size w1 wr) (fun _ i _ => N - (intOf i).toNat)
  case atStart => exact ⟨0, none, 0, rfl, rfl, Nat.zero_le _, OwQ.nil _ _, Below.refl _ _⟩
  case round =>
    obtain ⟨k, a', c', rfl, rfl, hk, O, bl⟩ := hrel
    by_cases hlt : k < N
    · obtain ⟨b0, off, rfl, hb, hc⟩ := (H1.out.1.below bl).at_ k hlt
      have ck := hc k hlt
      have hkl : k < l.length := by rw [HN.out]; exact hlt
      rw [key_g l k hkl] at ck
      have hmem : (Q.of l k, Q.de l k, Q.tm l k) ∈ l := by rw [← B.getp l k hkl]; exact List.getElem_mem hkl
      have HF := Lib.hid (B.fnd_of HA.out.1 hmem)
      have HW := Lib.hid (HA.out.2 _ hmem)
      have HX := Lib.hid (take_snocB l k hkl).symm
      have hxl : (l.take k).length = k := by rw [List.length_take]; omega
      have HB := Lib.hid (show (l.take k).length + 1 ≤ 1000 by omega)
      have HO := Lib.hid (O.keep ((Below.refl _ _).alloc (Nat.le_refl _) (.cells #[.int .i64 (Q.of l k), .int .i64 (Q.de l k), .int .i64 (Q.tm l k)] 116)))
      have HM1 := Lib.hid (H1.out.2.1.b bl)
      have hs := bl.size
      have HS := Lib.hid bl
      generalize Q.of l k = x at *
      generalize Q.de l k = y at *
      generalize Q.tm l k = z at *
      obtain ⟨X, hX⟩ : ∃ X, l.take k = X := ⟨_, rfl⟩
      rw [hX] at HO HB HX ⊢
      clear O bl hc hmem hX hxl
      go_wp2_with (first | (at_lookup; refine look_at rfl _ _ rfl b n l x (x, y, z) rfl HM1.out rfl HW.out HF.out ?_) | (at_builtin; refine wpList_q rfl _ _ rfl w1.heap.size rfl rfl HO.out (Sms.one (B3.new wr x y z 116)) HB.out (by simp; omega) (l.take (k + 1)) HX.out ?_))
      intro a5 c5 w5 O5 b5 _
      have bw : Below w1.heap.size wr w5 := ((Below.refl w1.heap.size wr).alloc hs (.cells #[.int .i64 x, .int .i64 y, .int .i64 z] 116)).trans b5
      have F := Lib.hid (And.intro O5 (HS.out.trans bw))
      clear O5 b5 bw HO
      go_wp2
      go_roundw
      case rel => exact ⟨k + 1, a5, c5, by rw [List.length_take], by go_num, by omega, F.out⟩
      case measure => simp [intOf]; omega
    · obtain rfl : k = N := by omega
      have e : l.take k = l := by rw [← HN.out]; exact List.take_length
      rw [e] at O ⊢
      have T := Lib.hid (show ToldB w l (.returned (.slice a' l.length c')) wr from ⟨a', c', rfl, O.more H1.out.2.2.size, H1.out.2.2.trans (bl.mono H1.out.2.2.size)⟩)
      obtain ⟨X, hX⟩ : ∃ X, l = X := ⟨_, rfl⟩
      clear O bl
      go_wp2
      go_ret
      exact T.out
end Go.Proofs.YtpfdjmffgbbmdaaGreatDoor
