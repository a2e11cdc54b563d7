/-
  A neighbour behind an IHU with stamps; Ihu of the table.
-/
import Derived.Test.YtacadlbhgelncaaN11
namespace Go.Proofs.Ytacadlbhgelncaa
open Lk (Hi hcs hcs_one)
open Rk (Rt rcs rtV)
open Go.RowKit Go.Maps
set_option linter.unusedSimpArgs false
set_option linter.unusedVariables false
set_option maxRecDepth 20000
def timedN (n : Ng) (now : Int) (r : Rt) (st : List UInt32) : Ng :=
  match st with
  | x :: y :: _ => if r.on = true ∧ n.hs = true ∧ n.he = now ∧ Rk.smpB (x.toNat : Int) (y.toNat : Int) n.se (Rk.clkZ now) = true then { n with rt := Rk.smZ r.de (if n.hr then n.rt else -1) [Rk.smpZ (x.toNat : Int) (y.toNat : Int) n.se (Rk.clkZ now)], hr := true } else n
  | _ => n
theorem timedN_off {n : Ng} {now : Int} {r : Rt} (st : List UInt32) (h : r.on = false) : timedN n now r st = n := by
  unfold timedN
  split
  · rw [if_neg (by simp [h])]
  · rfl
theorem smp_ok {a b d n : Int} (h : Rk.smpB a b d n = true) : 0 ≤ Rk.smpZ a b d n ∧ Rk.smpZ a b d n ≤ 2147483648 := by
  unfold Rk.smpB at h
  have h' := of_decide_eq_true h
  unfold Rk.smpZ
  rw [if_neg h']
  have := Rk.awayZ_0 b d
  omega
theorem timed_ok {n : Ng} {now : Int} {r : Rt} {st : List UInt32} (ok : n.ok) (ro : r.on = true → r.ok) : (timedN n now r st).ok ∧ (timedN n now r st).i = n.i ∧ (timedN n now r st).a = n.a ∧ ((timedN n now r st).hr = true → n.hr = true ∨ r.on = true) ∧ (timedN n now r st).tx = n.tx := by
  unfold timedN
  split
  · split
    · rename_i hc
      have hr := ro hc.1
      obtain ⟨s0, s1⟩ := smp_ok hc.2.2.2
      have hb := Rk.blZ_ok r.de (if n.hr = true then n.rt else -1) _ hr.d0 hr.d1 (by split; exact ok.rt1; omega) s0 s1
      exact ⟨⟨ok.mo, ok.mj, ok.uo, ok.uj, ok.mg0, ok.mg1, ok.ug0, ok.ug1, ok.ma0, ok.ma1, ok.ua0, ok.ua1, ok.tx0, ok.tx1, hb.1, hb.2⟩, rfl, rfl, fun _ => .inr hc.1, rfl⟩
    · exact ⟨ok, rfl, rfl, fun h => .inl h, rfl⟩
  · exact ⟨ok, rfl, rfl, fun h => .inl h, rfl⟩
section
variable {ops : Array Oper} {rest : List Oper} {op : Oper} {a : Act} {w : World} {Q : Exit → Act → World → Prop}
theorem ldRt0 (x : Operand) (hw : Region.wanted op (yielded ops a.tmps) = true) (ho : op.op = .load 64 x) (b o : Nat) (r : Rt) (hx : a.eval x = .pointer (some ⟨b, o, none⟩)) (hc : w.rangeAt b o (rcs r))
    (h : wpList Try.prog ops Q rest (a.put op.dst (rtV r)) w) : wpList Try.prog ops Q (op :: rest) a w :=
  wpList_step fun K hK => by
    rw [if_pos hw]
    exact wp_load_mid _ x ho b o hx (rcs r) _ hc Try.underlying64 rfl (by rw [infoRt]; rfl) (hK _ _ h)
end
set_option maxHeartbeats 16000000 in
theorem timed_any (n : Ng) (now : Int) (r : Rt) (h : Tl) (w : World) (ok : n.ok) (ro : r.on = true → r.ok) (hS : Sm w h) : Calls Try.prog 35 #[nV n, .int .i64 now, rtV r, .slice h.sa h.sn h.sc] w (Gives w (nV (timedN n now r h.st))) := by
  cases hon : r.on with
  | false => rw [timedN_off _ hon]; exact timed_off n now r _ w hon
  | true =>
  have hro := ro hon
  obtain ⟨on, mi, ma, co, de⟩ := r
  dsimp only at hon
  subst hon
  have hlen := hS.len
  obtain ⟨st, hst⟩ : ∃ st, h.st = st := ⟨_, rfl⟩
  rw [hst] at hlen ⊢
  have hd0 : 1 ≤ de := hro.d0
  have hd1 : de ≤ 256 := hro.d1
  go_enter Try.func35, Try.ntmps35
  go_upto_region 1 with (first
    | (refine alG infoNz rfl rfl ?_; intro g1 X hge hgl hB1 hr1))
  obtain ⟨hB, r0, rR⟩ := row3 (cs := ncs n) (ds := rcs ⟨true, mi, ma, co, de⟩) hB1
  have hg : w.heap.size + 1 < g1 := by simp at hge; omega
  have c0 : X.cell? ⟨w.heap.size + 1, 0, none⟩ = some (.bool true) := rR.cell 0
  have hSX := hS.below hB (Nat.le_refl _)
  have hs := r0.lt
  have hsR := rR.lt
  clear hB1 hge hS ro
  match st, hst, hlen with
  | [], hst, hlen =>
    have hN : timedN n now ⟨true, mi, ma, co, de⟩ [] = n := rfl
    rw [hN]
    have hsn : h.sn = 0 := hlen.symm
    rw [hsn]
    clear hlen hst hSX
    go_wp2_with (first
      | (refine ldN (.tmp 4) rfl rfl _ _ _ rfl r0.range ?_)
      | (refine stN (.tmp 8) (.tmp 31) rfl rfl g1 _ _ rfl rfl hr1 ?_; intro W2 hg2 hr2))
    exact bodyPost_ret (retC rfl _ _ 0 rfl (lvN hr2)) rfl ⟨by first | rfl | (rw [hN]), grown_below hg2 hB (by omega) hB.size⟩
  | [x], hst, hlen =>
    have hN : timedN n now ⟨true, mi, ma, co, de⟩ [x] = n := rfl
    rw [hN]
    have hsn : h.sn = 1 := hlen.symm
    rw [hsn]
    clear hlen hst hSX
    go_wp2_with (first
      | (refine ldN (.tmp 4) rfl rfl _ _ _ rfl r0.range ?_)
      | (refine stN (.tmp 8) (.tmp 31) rfl rfl g1 _ _ rfl rfl hr1 ?_; intro W2 hg2 hr2))
    exact bodyPost_ret (retC rfl _ _ 0 rfl (lvN hr2)) rfl ⟨by first | rfl | (rw [hN]), grown_below hg2 hB (by omega) hB.size⟩
  | x :: y :: ss, hst, hlen =>
    obtain ⟨k, hk⟩ : ∃ k, h.sn = k + 2 := ⟨ss.length, by rw [← hlen]; rfl⟩
    obtain ⟨g, o, hsa, hgX, hcell⟩ : ∃ g o, h.sa = some ⟨g, o, none⟩ ∧ g < X.heap.size ∧ ∀ (j : Nat) (x : UInt32), h.st[j]? = some x → X.cell? ⟨g, o + j, none⟩ = some (.int .u32 (x.toNat : Int)) := hSX.lies.resolve_left (by omega)
    rw [hst] at hcell
    have e0 : X.cell? ⟨g, o, none⟩ = some (.int .u32 (x.toNat : Int)) := hcell 0 x rfl
    have e1 : X.cell? ⟨g, o + 1, none⟩ = some (.int .u32 (y.toNat : Int)) := hcell 1 y rfl
    rw [hk, hsa]
    have hk0 : (0 : Int) < (k : Int) + 2 := by omega
    have hk1 : (1 : Int) < (k : Int) + 2 := by omega
    have hk2 : ¬ ((k + 2 : Nat) : Int) < 2 := by omega
    have HX : Hid (timedN n now ⟨true, mi, ma, co, de⟩ (x :: y :: ss) = if true = true ∧ n.hs = true ∧ n.he = now ∧ Rk.smpB (x.toNat : Int) (y.toNat : Int) n.se (Rk.clkZ now) = true then { n with rt := Rk.smZ de (if n.hr then n.rt else -1) [Rk.smpZ (x.toNat : Int) (y.toNat : Int) n.se (Rk.clkZ now)], hr := true } else n) := rfl
    generalize timedN n now ⟨true, mi, ma, co, de⟩ (x :: y :: ss) = R at *
    generalize (x.toNat : Int) = zx at *
    generalize (y.toNat : Int) = zy at *
    have d31 := (r0.cell 31).trans (nc31 n)
    have d30 := (r0.cell 30).trans (nc30 n)
    have d33 := (r0.cell 33).trans (nc33 n)
    have d32 := (r0.cell 32).trans (nc32 n)
    have d29 := (r0.cell 29).trans (nc29 n)
    clear hcell hlen hSX hst hk hsa hro
    cases hhs : n.hs with
    | false =>
      have hN : R = n := by rw [HX.out, if_neg (by simp [hhs])]
      subst hN
      rw [hhs] at d31
      clear HX
      go_wp2_with (first
        | (refine ldN (.tmp 4) rfl rfl _ _ _ rfl r0.range ?_)
        | (refine stN (.tmp 8) (.tmp 31) rfl rfl g1 _ _ rfl rfl hr1 ?_; intro W2 hg2 hr2))
      exact bodyPost_ret (retC rfl _ _ 0 rfl (lvN hr2)) rfl ⟨by first | rfl | (rw [hN]), grown_below hg2 hB (by omega) hB.size⟩
    | true =>
    rw [hhs] at d31
    by_cases hhe : n.he = now
    · have hq : (n.he != now) = false := by simp [hhe]
      rw [hhe] at d30
      have hq2 : (now != now) = false := by simp
      have HK : Hid (∀ W, Below X.heap.size X W → W.cell? ⟨g, o, none⟩ = some (.int .u32 zx) ∧ W.cell? ⟨g, o + 1, none⟩ = some (.int .u32 zy) ∧ W.cell? ⟨w.heap.size, 29, none⟩ = some (.int .u32 n.se)) := fun W hW => ⟨(hW.cell (p := ⟨g, o, none⟩) hgX).trans e0, (hW.cell (p := ⟨g, o + 1, none⟩) hgX).trans e1, (hW.cell (p := ⟨w.heap.size, 29, none⟩) hs).trans d29⟩
      have hC := Rk.clock_any now
      have hSm := Rk.sample_any zx zy n.se (Rk.clkZ now)
      have HSM : Hid (Rk.smpB zx zy n.se (Rk.clkZ now) = true → 0 ≤ Rk.smpZ zx zy n.se (Rk.clkZ now) ∧ Rk.smpZ zx zy n.se (Rk.clkZ now) ≤ 2147483648) := smp_ok
      generalize Rk.clkZ now = cl at *
      generalize Rk.smpB zx zy n.se cl = sb at *
      generalize Rk.smpZ zx zy n.se cl = sz at *
      go_upto_region 3 with fail
      refine wp_region_noPanic ?_
      refine wp_region_held_drew (S := fun W => Below X.heap.size X W) (by kernel_rfl) ((Below.refl _ _).drew) (fun hHeld => ?_)
      refine take_lit (i := 0) (v := ?_) rfl (by kernel_rfl) (by kernel_rfl) (by kernel_rfl) (fun _ _ _ h => h) (Or.inl ⟨by rfl, ?_⟩) (by assumption) ?_
      rotate_left
      · (intro w hSw; (try dsimp only at hSw); go_simp <;> with_reducible rfl)
      try simp only [Act.put, List.setIfInBounds_toArray, List.set_cons_zero, List.set_cons_succ]
      refine take_lit (i := 1) (v := ?_) rfl (by kernel_rfl) (by kernel_rfl) (by kernel_rfl) (fun _ _ _ h => h) (Or.inl ⟨by rfl, ?_⟩) (by assumption) ?_
      rotate_left
      · (intro w hSw; (try dsimp only at hSw); have z := hk0; go_simp <;> with_reducible rfl)
      try simp only [Act.put, List.setIfInBounds_toArray, List.set_cons_zero, List.set_cons_succ]
      refine take_lit (i := 2) (v := ?_) rfl (by kernel_rfl) (by kernel_rfl) (by kernel_rfl) (fun _ _ _ h => h) (Or.inl ⟨by rfl, ?_⟩) (by assumption) ?_
      rotate_left
      · (intro w hSw; (try dsimp only at hSw); have z := (HK.out _ hSw).1; go_simp <;> with_reducible rfl)
      try simp only [Act.put, List.setIfInBounds_toArray, List.set_cons_zero, List.set_cons_succ]
      refine take_lit (i := 3) (v := ?_) rfl (by kernel_rfl) (by kernel_rfl) (by kernel_rfl) (fun _ _ _ h => h) (Or.inl ⟨by rfl, ?_⟩) (by assumption) ?_
      rotate_left
      · (intro w hSw; (try dsimp only at hSw); go_simp <;> with_reducible rfl)
      try simp only [Act.put, List.setIfInBounds_toArray, List.set_cons_zero, List.set_cons_succ]
      refine take_lit (i := 4) (v := ?_) rfl (by kernel_rfl) (by kernel_rfl) (by kernel_rfl) (fun _ _ _ h => h) (Or.inl ⟨by rfl, ?_⟩) (by assumption) ?_
      rotate_left
      · (intro w hSw; (try dsimp only at hSw); have z := hk1; go_simp <;> with_reducible rfl)
      try simp only [Act.put, List.setIfInBounds_toArray, List.set_cons_zero, List.set_cons_succ]
      refine take_lit (i := 5) (v := ?_) rfl (by kernel_rfl) (by kernel_rfl) (by kernel_rfl) (fun _ _ _ h => h) (Or.inl ⟨by rfl, ?_⟩) (by assumption) ?_
      rotate_left
      · (intro w hSw; (try dsimp only at hSw); have z := (HK.out _ hSw).2.1; go_simp <;> with_reducible rfl)
      try simp only [Act.put, List.setIfInBounds_toArray, List.set_cons_zero, List.set_cons_succ]
      refine take_lit (i := 6) (v := ?_) rfl (by kernel_rfl) (by kernel_rfl) (by kernel_rfl) (fun _ _ _ h => h) (Or.inl ⟨by rfl, ?_⟩) (by assumption) ?_
      rotate_left
      · (intro w hSw; (try dsimp only at hSw); go_simp <;> with_reducible rfl)
      try simp only [Act.put, List.setIfInBounds_toArray, List.set_cons_zero, List.set_cons_succ]
      refine take_lit (i := 7) (v := ?_) rfl (by kernel_rfl) (by kernel_rfl) (by kernel_rfl) (fun _ _ _ h => h) (Or.inl ⟨by rfl, ?_⟩) (by assumption) ?_
      rotate_left
      · (intro w hSw; (try dsimp only at hSw); have z := (HK.out _ hSw).2.2; go_simp <;> with_reducible rfl)
      try simp only [Act.put, List.setIfInBounds_toArray, List.set_cons_zero, List.set_cons_succ]
      refine take_lit (i := 8) (v := ?_) rfl (by kernel_rfl) (by kernel_rfl) (by kernel_rfl) (fun _ _ _ h => h) (Or.inl ⟨by rfl, ?_⟩) (by assumption) ?_
      rotate_left
      · (intro w hSw; (try dsimp only at hSw); go_simp <;> with_reducible rfl)
      try simp only [Act.put, List.setIfInBounds_toArray, List.set_cons_zero, List.set_cons_succ]
      refine wpAnyH_ready (rs := [9]) (by kernel_rfl) (by simp) ?_
      refine cons_lit rfl (fun K hK => ?_) ?_
      · go_simp
        refine (hC _).mono ?_
        rintro e w1 ⟨rfl, rfl⟩
        refine hK.out _ _ ?_ (fun hHeld => ?_)
        · exact hHeld
        clear hK K
        try simp only [Act.put, List.setIfInBounds_toArray, List.set_cons_zero, List.set_cons_succ]
        refine wpAnyH_ready (rs := [10]) (by kernel_rfl) (by simp) ?_
        refine cons_lit rfl (fun K hK => ?_) ?_
        · go_simp
          refine (hSm _).mono ?_
          rintro e w1 ⟨rfl, rfl⟩
          refine hK.out _ _ ?_ (fun hHeld => ?_)
          · exact hHeld
          clear hK K
          try simp only [Act.put, List.setIfInBounds_toArray, List.set_cons_zero, List.set_cons_succ]
          refine take_lit (i := 11) (v := ?_) rfl (by kernel_rfl) (by kernel_rfl) (by kernel_rfl) (fun _ _ _ h => h) (Or.inl ⟨by rfl, ?_⟩) (by assumption) ?_
          rotate_left
          · (intro w hSw; (try dsimp only at hSw); go_simp <;> with_reducible rfl)
          try simp only [Act.put, List.setIfInBounds_toArray, List.set_cons_zero, List.set_cons_succ]
          refine take_lit (i := 12) (v := ?_) rfl (by kernel_rfl) (by kernel_rfl) (by kernel_rfl) (fun _ _ _ h => h) (Or.inl ⟨by rfl, ?_⟩) (by assumption) ?_
          rotate_left
          · (intro w hSw; (try dsimp only at hSw); go_simp <;> with_reducible rfl)
          try simp only [Act.put, List.setIfInBounds_toArray, List.set_cons_zero, List.set_cons_succ]
          refine take_lit (i := 13) (v := ?_) rfl (by kernel_rfl) (by kernel_rfl) (by kernel_rfl) (fun _ _ _ h => h) (Or.inl ⟨by rfl, ?_⟩) (by assumption) ?_
          rotate_left
          · (intro w hSw; (try dsimp only at hSw); go_simp <;> with_reducible rfl)
          try simp only [Act.put, List.setIfInBounds_toArray, List.set_cons_zero, List.set_cons_succ]
          refine take_lit (i := 14) (v := ?_) rfl (by kernel_rfl) (by kernel_rfl) (by kernel_rfl) (fun _ _ _ h => h) (Or.inl ⟨by rfl, ?_⟩) (by assumption) ?_
          rotate_left
          · (intro w hSw; (try dsimp only at hSw); go_simp <;> with_reducible rfl)
          try simp only [Act.put, List.setIfInBounds_toArray, List.set_cons_zero, List.set_cons_succ]
          refine take_lit (i := 15) (v := ?_) rfl (by kernel_rfl) (by kernel_rfl) (by kernel_rfl) (fun _ _ _ h => h) (Or.inl ⟨by rfl, ?_⟩) (by assumption) ?_
          rotate_left
          · (intro w hSw; (try dsimp only at hSw); go_simp <;> with_reducible rfl)
          try simp only [Act.put, List.setIfInBounds_toArray, List.set_cons_zero, List.set_cons_succ]
          refine wpAnyH_done (by kernel_rfl) ?_ _
          refine NoPanic.normal ?_
          go_upto_region 4 with fail
          refine name_world (R := fun W => Code.wp _ _ _ _ W) (P := fun W => Below X.heap.size X W) _ hHeld ?_
          clear hHeld
          rintro Y hHeld
          have b4 := bt hB hHeld
          have q0 := r0.below hHeld hs
          have q1 := hr1.below hHeld hgl
          have qR := rR.below hHeld hsR
          have p33 := (q0.cell 33).trans (nc33 n)
          have p32 := (q0.cell 32).trans (nc32 n)
          clear d29 d30 d31 d32 d33 e0 e1 HK hC hSm c0
          cases sb with
          | false =>
            have hN : R = n := by rw [HX.out, if_neg (by simp)]
            subst hN
            clear HX HSM
            go_wp2_with (first
              | (refine ldN (.tmp 4) rfl rfl _ _ _ rfl q0.range ?_)
              | (refine stN (.tmp 8) (.tmp 48) rfl rfl g1 _ _ rfl rfl q1 ?_; intro W2 hg2 hr2))
            exact bodyPost_ret (retC rfl _ _ 0 rfl (lvN hr2)) rfl ⟨rfl, grown_below hg2 b4 (by omega) b4.size⟩
          | true =>
            obtain ⟨z0, z1⟩ := HSM.out rfl
            have hX := HX.out
            rw [if_pos ⟨rfl, hhs, hhe, rfl⟩] at hX
            have rt1 := ok.rt1
            have hMs : ∀ (ov : Int) (W : World) (tt : TypeId), ov ≤ 2147483648 → Calls Try.prog 57 #[rtV ⟨true, mi, ma, co, de⟩, .int .i64 ov, .slice (some ⟨W.heap.size, 0, none⟩) 1 1] (W.alloc (.cells #[.int .i64 sz] tt)) fun e w' => e = .returned (.int .i64 (Rk.smZ de ov [sz])) ∧ Below W.heap.size W w' := fun ov W tt ho => Rk.smooth_new ⟨true, mi, ma, co, de⟩ ov [sz] _ 1 1 _ W hd0 hd1 ho (by simp; exact ⟨z0, z1⟩) (by omega) rfl tt rfl rfl
            clear HX HSM ok hd0 hd1
            cases hhr : n.hr with
            | false =>
              rw [hhr] at hX p33
              simp only [if_true, if_false, Bool.false_eq_true] at hX
              have hM := fun W tt => hMs (-1) W tt (by omega)
              clear hMs
              generalize Rk.smZ de (-1) [sz] = sm at *
              have HX2 : Hid (R = { n with rt := sm, hr := true }) := hX
              clear hX
              go_wp2_with (first
                | (have kk := r7; refine stN (.tmp 8) (.tmp 60) rfl rfl g1 _ _ rfl rfl q7 ?_; intro W8 g8 r8)
                | (have kk := r7; refine ldN (.tmp 4) rfl rfl _ _ _ rfl r7.range ?_)
                | (have kk := r6; refine stBo (.tmp 59) (.const (.bool true)) rfl rfl _ 33 _ _ rfl rfl r6 (by rw [ncs_len]; omega) ?_; intro W7 g7 r7; rw [(ncs_set _).2.2.2.2.2.2.2.2.2.2] at r7; have q7 := q6.keep g7 (by omega); have b7 := grown_below g7 b6 (Nat.le_refl _) b6.size; clear r6 q6)
                | (have kk := r5; refine st64 (.tmp 58) (.tmp 57) rfl rfl _ 32 _ _ rfl rfl r5 (by rw [ncs_len]; omega) ?_; intro W6 g6 r6; rw [(ncs_set _).2.2.2.2.2.2.2.2.2.1] at r6; have q6 := q5.keep g6 (by omega); have b6 := grown_below g6 b5 (Nat.le_refl _) b5.size; clear r5 q5)
                | (go_at_call 57; refine (hM _ _).mono ?_; rintro e w5 ⟨rfl, hn⟩; have r5 := q0.below hn q0.lt; have q5 := q1.below hn q1.lt; have b5 := bt b4 hn; clear hn)
                | (refine ldRt0 (.tmp 6) rfl rfl _ _ ⟨true, mi, ma, co, de⟩ rfl qR.range ?_))
              exact bodyPost_ret (retC rfl _ _ 0 rfl (lvN r8)) rfl ⟨by rw [HX2.out], grown_below g8 b7 (by omega) b7.size⟩
            | true =>
              rw [hhr] at hX p33
              simp only [if_true, if_false, Bool.false_eq_true] at hX
              have hM := fun W tt => hMs (n.rt) W tt (rt1)
              clear hMs
              generalize Rk.smZ de (n.rt) [sz] = sm at *
              have HX2 : Hid (R = { n with rt := sm, hr := true }) := hX
              clear hX
              go_wp2_with (first
                | (have kk := r7; refine stN (.tmp 8) (.tmp 60) rfl rfl g1 _ _ rfl rfl q7 ?_; intro W8 g8 r8)
                | (have kk := r7; refine ldN (.tmp 4) rfl rfl _ _ _ rfl r7.range ?_)
                | (have kk := r6; refine stBo (.tmp 59) (.const (.bool true)) rfl rfl _ 33 _ _ rfl rfl r6 (by rw [ncs_len]; omega) ?_; intro W7 g7 r7; rw [(ncs_set _).2.2.2.2.2.2.2.2.2.2] at r7; have q7 := q6.keep g7 (by omega); have b7 := grown_below g7 b6 (Nat.le_refl _) b6.size; clear r6 q6)
                | (have kk := r5; refine st64 (.tmp 58) (.tmp 57) rfl rfl _ 32 _ _ rfl rfl r5 (by rw [ncs_len]; omega) ?_; intro W6 g6 r6; rw [(ncs_set _).2.2.2.2.2.2.2.2.2.1] at r6; have q6 := q5.keep g6 (by omega); have b6 := grown_below g6 b5 (Nat.le_refl _) b5.size; clear r5 q5)
                | (go_at_call 57; refine (hM _ _).mono ?_; rintro e w5 ⟨rfl, hn⟩; have r5 := q0.below hn q0.lt; have q5 := q1.below hn q1.lt; have b5 := bt b4 hn; clear hn)
                | (refine ldRt0 (.tmp 6) rfl rfl _ _ ⟨true, mi, ma, co, de⟩ rfl qR.range ?_))
              exact bodyPost_ret (retC rfl _ _ 0 rfl (lvN r8)) rfl ⟨by rw [HX2.out], grown_below g8 b7 (by omega) b7.size⟩
        exact AllReadyH.nil
      exact AllReadyH.nil
    · have hq : (n.he != now) = true := by simp [hhe]
      have hN : R = n := by rw [HX.out, if_neg (by simp [hhe])]
      subst hN
      clear HX
      go_wp2_with (first
        | (refine ldN (.tmp 4) rfl rfl _ _ _ rfl r0.range ?_)
        | (refine stN (.tmp 8) (.tmp 31) rfl rfl g1 _ _ rfl rfl hr1 ?_; intro W2 hg2 hr2))
      exact bodyPost_ret (retC rfl _ _ 0 rfl (lvN hr2)) rfl ⟨by first | rfl | (rw [hN]), grown_below hg2 hB (by omega) hB.size⟩
end Go.Proofs.Ytacadlbhgelncaa
