/-
  An act of the law of RoutePlays on both tables: every kind but a reckoning: both answer alike, and stay alike. (Filled with LASTM=1.)
-/
import Derived.Test.YthofoocknmkdjaaM24
namespace Go.Proofs.Ythofoocknmkdjaa
open Go.RowKit Go.Maps Go.Shelf
set_option linter.unusedSimpArgs false
set_option linter.unusedVariables false
set_option maxRecDepth 20000
section
variable {w : World} {t mb r : Nat} {most : Int} {L L1 K : List Ro} {W : World}
theorem sd_rdrop2 {a1 : Option Addr} {c1 : Nat} (c : Cn w t mb r) (s : Sd w t mb r most L1 K W) (i : Int) (ad : Option Addr) (cd m : Nat) (ds : List Ad) (hm : ds.length = m) (hds : DsW W ad ds) (hl : ds.length ≤ 1000000) (ds0 : List Ad) (he : dropB i ds0 = dropB i ds) (h1 : kN.Own W w.heap.size (.slice a1 (K.filter (dropB i ds0)).length c1) (K.filter (dropB i ds0))) :
    Calls Try.prog 41 #[.pointer (some ⟨r, 0, none⟩), .int .i64 i, .slice ad m cd] W fun e w' => ∃ a3 c3, e = .returned (.slice a3 (K.filter (dropB i ds0)).length c3) ∧ Sd w t mb r most L1 (K.filter fun n => !dropB i ds0 n) w' ∧ SsW w' a1 (K.filter (dropB i ds0)) ∧ SsW w' a3 (K.filter (dropB i ds0)) ∧ (∀ g cs, Row W g 41 cs → Row w' g 41 cs) := by
  subst hm
  rw [he] at h1 ⊢
  refine (rdrop_any s.rb i ad cd ds hds hl s.be.size).mono ?_
  rintro e w' ⟨a3, c3, rfl, g1, hR, hT, hg⟩
  obtain ⟨_, _, hrow, _⟩ := s.rb.ex
  have o1 : kN.Own w' w.heap.size (.slice a1 (K.filter (dropB i ds)).length c1) (K.filter (dropB i ds)) := World.ownsRow.kept h1 hg (.inr (own_ne_row h1 hrow (by decide)))
  exact ⟨a3, c3, rfl, s.rturn c hR hT, ss_of o1, ss_of g1, fun g cs hr => hr.keep hg (row_ne hr hrow (by decide))⟩
theorem row_a35 {g9 : Nat} {x : Ro} (h : Row W g9 41 (ocs x)) : LA W g9 35 x.a := by have := h.ro.a; simpa using this
theorem DsW.one {w : World} {g : Nat} {a : Ad} (h : Row w g 32 (acells a)) : DsW w (some ⟨g, 0, none⟩) [a] :=
  ⟨.inr ⟨g, 0, rfl, h.lt, fun j q hq => by
    match j, hq with
    | 0, rfl => exact h.range⟩⟩
theorem row_q0 {g9 : Nat} {x : Ro} (h : Row W g9 41 (ocs x)) : LQ W g9 0 x.p := h.ro.q
theorem row_c34 {g9 : Nat} {x : Ro} (h : Row W g9 41 (ocs x)) : W.cell? ⟨g9, 34, none⟩ = some (.int .i64 x.i) := (h.cell 34).trans (oc34 x)
theorem row_c83 {g7 : Nat} {x : Ac} (h : Row W g7 43 (acs x)) : W.cell? ⟨g7, 83, none⟩ = some (.bool x.o) := by
  have q : LC W g7 0 x := h.range
  simpa using q.ok
end
/-- Both answered alike, and are alike. -/
def DoQ (w : World) (t mb r : Nat) (most : Int) (n : Nat) (e : Ending) (w' : World) : Prop := e = .returned (.bool true) ∧ ∃ L K, Rel L K ∧ L.length ≤ n ∧ Sd w t mb r most L K w'
set_option maxHeartbeats 32000000 in
theorem do_most {w W0 : World} {t mb r : Nat} {most : Int} {L K : List Ro} (x : Ac) (hfit : AcFit x) (now : Int) (n0 : 0 ≤ now) (n1 : now ≤ 17592186044416) (c : Cn w t mb r) (s0 : Sd w t mb r most L K W0) (hr : Rel L K) (hlL : L.length < 1000000) (k2 : ¬ x.k = 2) :
    Calls Try.prog 12 #[.pointer (some ⟨t, 0, none⟩), .pointer (some ⟨r, 0, none⟩), .int .i64 now, .agg (acs x).toArray] W0 (DoQ w t mb r most (L.length + 1)) := by
  have hlK : K.length < 1000000 := by rw [hr.pm.length_eq]; exact hlL
  have ra := Row.new W0 43 (acs x)
  have ba0 := ba W0 (.cells (acs x).toArray 43)
  go_enter Try.func12, Try.ntmps12
  go_upto_region 1 with fail
  refine name_world (R := fun W => Code.wp _ _ _ _ W) (P := fun W => Below W0.heap.size W0 W ∧ Row W W0.heap.size 43 (acs x)) _ ⟨ba0, ra⟩ ?_
  clear ra ba0
  rintro X ⟨hB, ra⟩
  obtain ⟨g7, hg7⟩ : ∃ g7, W0.heap.size = g7 := ⟨_, rfl⟩
  rw [hg7] at ra ⊢
  have lc : LC X g7 0 x := ra.range
  have ck0 := lc.k
  have lr : LS X g7 2 x.r := by have := lc.r; simpa using this
  go_upto_region 3 with (first
    | (have kk := r2; refine stS (.tmp 9) (.tmp 21) rfl rfl g9 x.r zeroR rfl rfl r2 ?_; intro W3 gr3 r3; have b3 := grown_below gr3 hB2 hge2 hB2.size; have ra3 := ra.below b3 ra.lt; have ck := (show LC W3 g7 0 x from ra3.range).k; clear r2)
    | (refine alG infoRz rfl rfl ?_; intro g9 W2 hge2 hgl2 hB2 r2)
    | (refine ldS (.tmp 20) rfl rfl _ _ x.r rfl lr ?_))
  have s3 : Sd w t mb r most L K W3 := s0.below (bt hB b3)
  have ro := r3
  clear hB ra lc ck0 lr hge2 hgl2 hB2 kk gr3 r3 b3 ck s0 hg7
  have hfw := hfit.w
  have hff := hfit.f
  have c83 := row_c83 ra3
  by_cases k0 : x.k = 0
  · rw [k0]
    have hA := fun W (s : Sd w t mb r most L K W) => sd_tell c s x.r now x.o n0 n1 hfw hff hlL
    have hA2 := fun W (s : Sd w t mb r most (tellR most L now x.r x.o).2.2 K W) => sd_rtell c s x.r now x.o n0 n1 hff hr hlK
    have hlen := tellR_len most L now x.r x.o
    generalize tellR most L now x.r x.o = z at *
    obtain ⟨z1, z2, L7⟩ := z
    have hb1 : (z1 == z1) = true := by simp
    have hb2 : (z2 == z2) = true := by simp
    go_wp2_with (first
      | (go_at_call 30; refine (num_any _ _).mono ?_; rintro e w' ⟨rfl, rfl⟩; (try simp only [Act.put, List.setIfInBounds_toArray, List.set_cons_zero, List.set_cons_succ]))
      | (have kk := s4; go_at_call 35; refine (hA2 _ s4).mono ?_; rintro e w5 ⟨rfl, K7, hr7, s7⟩; clear s4; (try simp only [Act.put, List.setIfInBounds_toArray, List.set_cons_zero, List.set_cons_succ]))
      | (have kk := s3; go_at_call 26; refine (hA _ s3).mono ?_; rintro e w4 ⟨rfl, s4, kp⟩; have ro4 := kp _ _ _ ro; have c83b := row_c83 (kp _ _ _ ra3); clear s3; (try simp only [Act.put, List.setIfInBounds_toArray, List.set_cons_zero, List.set_cons_succ]))
      | (have kk := ro4; refine ldS (.tmp 9) rfl rfl _ _ x.r rfl ro4.ro ?_; (try simp only [Act.put, List.setIfInBounds_toArray, List.set_cons_zero, List.set_cons_succ]))
      | (refine ldS (.tmp 9) rfl rfl _ _ x.r rfl ro.ro ?_; (try simp only [Act.put, List.setIfInBounds_toArray, List.set_cons_zero, List.set_cons_succ])))
    all_goals (go_ret; refine ⟨?_, _, _, hr7, hlen, s7⟩; first | rfl | simp)
  by_cases k1 : x.k = 1
  · rw [k1]
    have hA := fun W (s : Sd w t mb r most L K W) => sd_retract c s now x.r.i x.r.a n0 n1
    have hA2 := fun W (s : Sd w t mb r most (mapR (fun n => retr n now) (mineB x.r.i x.r.a) L) K W) => sd_rretract c s now x.r.i x.r.a n0 n1 hr
    have hlen : (mapR (fun n => retr n now) (mineB x.r.i x.r.a) L).length ≤ L.length + 1 := by rw [mapR_len]; omega
    generalize mapR (fun n => retr n now) (mineB x.r.i x.r.a) L = L7 at *
    generalize ((L.countP (mineB x.r.i x.r.a) : Nat) : Int) = z at *
    have hb1 : (z == z) = true := by simp
    have bd : Below W3.heap.size W3 _ := (Below.refl _ _).drew
    have s6 := s3.below bd
    have q6 := ro.below bd ro.lt
    clear s3
    go_upto_region 8 with fail
    refine wp_region_noPanic ?_
    refine wp_region_M (S := fun W => Row W g9 41 (ocs x.r)) 13 (by kernel_rfl) (q6) (fun hHeld => ?_)
    refine takeM_lit (i := 0) (v := ?_) (F := #[false, true, true, true, true, true, false, true, true, true, true, true, true, false, false, false]) rfl (by kernel_rfl) (by kernel_rfl) (by kernel_rfl) (by kernel_rfl) (fun _ _ _ h => h) (Or.inl ⟨by rfl, ?_⟩) (by assumption) ?_
    rotate_left
    · (intro w hSw; (try dsimp only at hSw); go_simp <;> with_reducible rfl)
    try simp only [Act.put, List.setIfInBounds_toArray, List.set_cons_zero, List.set_cons_succ]
    refine takeM_lit (i := 1) (v := ?_) (F := #[true, false, true, true, true, true, false, true, true, true, true, true, true, false, false, false]) rfl (by kernel_rfl) (by kernel_rfl) (by kernel_rfl) (by kernel_rfl) (fun _ _ _ h => h) (Or.inl ⟨by rfl, ?_⟩) (by assumption) ?_
    rotate_left
    · (intro w hSw; (try dsimp only at hSw); go_simp <;> with_reducible rfl)
    try simp only [Act.put, List.setIfInBounds_toArray, List.set_cons_zero, List.set_cons_succ]
    refine takeM_lit (i := 2) (v := ?_) (F := #[true, true, false, false, true, true, false, true, true, true, true, true, true, false, false, false]) rfl (by kernel_rfl) (by kernel_rfl) (by kernel_rfl) (by kernel_rfl) (fun _ _ _ h => h) (Or.inl ⟨by rfl, ?_⟩) (by assumption) ?_
    rotate_left
    · (intro w hSw; (try dsimp only at hSw); go_simp <;> with_reducible rfl)
    try simp only [Act.put, List.setIfInBounds_toArray, List.set_cons_zero, List.set_cons_succ]
    refine takeM_lit (i := 3) (v := ?_) (F := #[true, true, true, false, true, true, false, true, true, true, true, true, true, false, false, false]) rfl (by kernel_rfl) (by kernel_rfl) (by kernel_rfl) (by kernel_rfl) (fun _ _ _ h => h) (Or.inl ⟨by rfl, ?_⟩) (by assumption) ?_
    rotate_left
    · (intro w hSw; (try dsimp only at hSw); have hz := row_c34 hSw; go_simp <;> with_reducible rfl)
    try simp only [Act.put, List.setIfInBounds_toArray, List.set_cons_zero, List.set_cons_succ]
    refine takeM_lit (i := 4) (v := ?_) (F := #[true, true, true, true, false, false, false, true, true, true, true, true, true, false, false, false]) rfl (by kernel_rfl) (by kernel_rfl) (by kernel_rfl) (by kernel_rfl) (fun _ _ _ h => h) (Or.inl ⟨by rfl, ?_⟩) (by assumption) ?_
    rotate_left
    · (intro w hSw; (try dsimp only at hSw); go_simp <;> with_reducible rfl)
    try simp only [Act.put, List.setIfInBounds_toArray, List.set_cons_zero, List.set_cons_succ]
    refine takeM_lit (i := 5) (F := #[true, true, true, true, true, false, false, true, true, true, true, true, true, false, false, false]) rfl (by kernel_rfl) (by kernel_rfl) (by kernel_rfl) (by kernel_rfl) (fun _ _ _ h => h) (yA x.r.a (fun w h => row_a35 h) (by rfl) rfl rfl) (by assumption) ?_
    try simp only [Act.put, List.setIfInBounds_toArray, List.set_cons_zero, List.set_cons_succ]
    refine takeM_lit (i := 7) (v := ?_) (F := #[true, true, true, true, true, true, true, false, true, true, true, true, true, false, false, false]) rfl (by kernel_rfl) (by kernel_rfl) (by kernel_rfl) (by kernel_rfl) (fun _ _ _ h => h) (Or.inl ⟨by rfl, ?_⟩) (by assumption) ?_
    rotate_left
    · (intro w hSw; (try dsimp only at hSw); go_simp <;> with_reducible rfl)
    try simp only [Act.put, List.setIfInBounds_toArray, List.set_cons_zero, List.set_cons_succ]
    refine takeM_lit (i := 8) (v := ?_) (F := #[true, true, true, true, true, true, true, true, false, true, true, true, true, false, false, false]) rfl (by kernel_rfl) (by kernel_rfl) (by kernel_rfl) (by kernel_rfl) (fun _ _ _ h => h) (Or.inl ⟨by rfl, ?_⟩) (by assumption) ?_
    rotate_left
    · (intro w hSw; (try dsimp only at hSw); go_simp <;> with_reducible rfl)
    try simp only [Act.put, List.setIfInBounds_toArray, List.set_cons_zero, List.set_cons_succ]
    refine takeM_lit (i := 9) (v := ?_) (F := #[true, true, true, true, true, true, true, true, true, false, false, true, true, false, false, false]) rfl (by kernel_rfl) (by kernel_rfl) (by kernel_rfl) (by kernel_rfl) (fun _ _ _ h => h) (Or.inl ⟨by rfl, ?_⟩) (by assumption) ?_
    rotate_left
    · (intro w hSw; (try dsimp only at hSw); go_simp <;> with_reducible rfl)
    try simp only [Act.put, List.setIfInBounds_toArray, List.set_cons_zero, List.set_cons_succ]
    refine takeM_lit (i := 10) (v := ?_) (F := #[true, true, true, true, true, true, true, true, true, true, false, true, true, false, false, false]) rfl (by kernel_rfl) (by kernel_rfl) (by kernel_rfl) (by kernel_rfl) (fun _ _ _ h => h) (Or.inl ⟨by rfl, ?_⟩) (by assumption) ?_
    rotate_left
    · (intro w hSw; (try dsimp only at hSw); have hz := row_c34 hSw; go_simp <;> with_reducible rfl)
    try simp only [Act.put, List.setIfInBounds_toArray, List.set_cons_zero, List.set_cons_succ]
    refine takeM_lit (i := 11) (v := ?_) (F := #[true, true, true, true, true, true, true, true, true, true, true, false, false, false, false, false]) rfl (by kernel_rfl) (by kernel_rfl) (by kernel_rfl) (by kernel_rfl) (fun _ _ _ h => h) (Or.inl ⟨by rfl, ?_⟩) (by assumption) ?_
    rotate_left
    · (intro w hSw; (try dsimp only at hSw); go_simp <;> with_reducible rfl)
    try simp only [Act.put, List.setIfInBounds_toArray, List.set_cons_zero, List.set_cons_succ]
    refine takeM_lit (i := 12) (F := #[true, true, true, true, true, true, true, true, true, true, true, true, false, false, false, false]) rfl (by kernel_rfl) (by kernel_rfl) (by kernel_rfl) (by kernel_rfl) (fun _ _ _ h => h) (yA x.r.a (fun w h => row_a35 h) (by rfl) rfl rfl) (by assumption) ?_
    try simp only [Act.put, List.setIfInBounds_toArray, List.set_cons_zero, List.set_cons_succ]
    refine wpAnyM_ready (rs := [6]) (by kernel_rfl) (by simp) ?_
    refine consM_lit rfl (fun K hK => ?_) ?_
    · go_simp
      refine (hA _ s6).mono ?_
      rintro e wk ⟨rfl, sk, kk⟩
      refine hK.out _ _ (Or.inr ?_) (fun hHeld => ?_)
      · exact kk _ _ _ hHeld
      replace hHeld := hHeld.resolve_left (by decide)
      clear hK K
      try simp only [Act.put, List.setIfInBounds_toArray, List.set_cons_zero, List.set_cons_succ]
      refine wpAnyM_ready (rs := [13]) (by kernel_rfl) (by simp) ?_
      refine consM_lit rfl (fun K hK => ?_) ?_
      · go_simp
        refine (hA2 _ sk).mono ?_
        rintro e w7 ⟨rfl, K7, hr7, s7⟩
        refine hK.out _ _ (Or.inl (by decide)) (fun _ => ?_)
        clear hK K
        try simp only [Act.put, List.setIfInBounds_toArray, List.set_cons_zero, List.set_cons_succ]
        refine wpAnyM_ready (rs := [14]) (by kernel_rfl) (by simp) ?_
        refine consM_lit rfl (fun K hK => ?_) ?_
        · go_simp
          refine hK.out _ _ (Or.inl (by decide)) (fun _ => ?_)
          clear hK K
          try simp only [Act.put, List.setIfInBounds_toArray, List.set_cons_zero, List.set_cons_succ]
          refine wpAnyM_ready (rs := [15]) (by kernel_rfl) (by simp) ?_
          refine consM_lit rfl (fun K hK => ?_) ?_
          · go_simp
            refine hK.out _ _ (Or.inl (by decide)) (fun _ => ?_)
            clear hK K
            try simp only [Act.put, List.setIfInBounds_toArray, List.set_cons_zero, List.set_cons_succ]
            refine wpAnyM_done (by kernel_rfl) ?_ _
            refine NoPanic.normal ?_
            go_wp2_with fail
            go_ret
            refine ⟨?_, _, _, hr7, hlen, s7⟩
            first | rfl | simp
          exact AllReadyM.nil
        exact AllReadyM.nil
      exact AllReadyM.nil
    exact AllReadyM.nil
  by_cases k3 : x.k = 3
  · rw [k3]
    have hA := fun W (s : Sd w t mb r most L K W) => sd_select c s x.r.k hfw
    have hA2 := fun W (s : Sd w t mb r most (selR L x.r.k).2 K W) => sd_rselect c s x.r.k hr
    have hlen : (selR L x.r.k).2.length ≤ L.length + 1 := by rw [sel_room]; omega
    generalize selR L x.r.k = z at *
    obtain ⟨z1, L7⟩ := z
    have hb1 : (z1 == z1) = true := by simp
    have bd : Below W3.heap.size W3 _ := (Below.refl _ _).drew
    have s6 := s3.below bd
    have q6 := ro.below bd ro.lt
    clear s3
    go_upto_region 18 with fail
    refine wp_region_noPanic ?_
    refine wp_region_M (S := fun W => Row W g9 41 (ocs x.r)) 16 (by kernel_rfl) (q6) (fun hHeld => ?_)
    refine takeM_lit (i := 0) (v := ?_) (F := #[false, true, true, true, true, true, true, false, false, true, true, true, true, true, true, true, false, false, false]) rfl (by kernel_rfl) (by kernel_rfl) (by kernel_rfl) (by kernel_rfl) (fun _ _ _ h => h) (Or.inl ⟨by rfl, ?_⟩) (by assumption) ?_
    rotate_left
    · (intro w hSw; (try dsimp only at hSw); go_simp <;> with_reducible rfl)
    try simp only [Act.put, List.setIfInBounds_toArray, List.set_cons_zero, List.set_cons_succ]
    refine takeM_lit (i := 1) (v := ?_) (F := #[true, false, false, true, true, true, true, false, false, true, true, true, true, true, true, true, false, false, false]) rfl (by kernel_rfl) (by kernel_rfl) (by kernel_rfl) (by kernel_rfl) (fun _ _ _ h => h) (Or.inl ⟨by rfl, ?_⟩) (by assumption) ?_
    rotate_left
    · (intro w hSw; (try dsimp only at hSw); go_simp <;> with_reducible rfl)
    try simp only [Act.put, List.setIfInBounds_toArray, List.set_cons_zero, List.set_cons_succ]
    refine takeM_lit (i := 2) (F := #[true, true, false, true, true, true, true, false, false, true, true, true, true, true, true, true, false, false, false]) rfl (by kernel_rfl) (by kernel_rfl) (by kernel_rfl) (by kernel_rfl) (fun _ _ _ h => h) (yQ x.r.p (fun w h => row_q0 h) (by rfl) rfl rfl) (by assumption) ?_
    try simp only [Act.put, List.setIfInBounds_toArray, List.set_cons_zero, List.set_cons_succ]
    refine takeM_lit (i := 3) (v := ?_) (F := #[true, true, true, false, false, true, true, false, false, true, true, true, true, true, true, true, false, false, false]) rfl (by kernel_rfl) (by kernel_rfl) (by kernel_rfl) (by kernel_rfl) (fun _ _ _ h => h) (Or.inl ⟨by rfl, ?_⟩) (by assumption) ?_
    rotate_left
    · (intro w hSw; (try dsimp only at hSw); go_simp <;> with_reducible rfl)
    try simp only [Act.put, List.setIfInBounds_toArray, List.set_cons_zero, List.set_cons_succ]
    refine takeM_lit (i := 4) (v := ?_) (F := #[true, true, true, true, false, true, true, false, false, true, true, true, true, true, true, true, false, false, false]) rfl (by kernel_rfl) (by kernel_rfl) (by kernel_rfl) (by kernel_rfl) (fun _ _ _ h => h) (Or.inl ⟨by rfl, ?_⟩) (by assumption) ?_
    rotate_left
    · (intro w hSw; (try dsimp only at hSw); have hz := row_c34 hSw; go_simp <;> with_reducible rfl)
    try simp only [Act.put, List.setIfInBounds_toArray, List.set_cons_zero, List.set_cons_succ]
    refine takeM_lit (i := 5) (v := ?_) (F := #[true, true, true, true, true, false, false, false, false, true, true, true, true, true, true, true, false, false, false]) rfl (by kernel_rfl) (by kernel_rfl) (by kernel_rfl) (by kernel_rfl) (fun _ _ _ h => h) (Or.inl ⟨by rfl, ?_⟩) (by assumption) ?_
    rotate_left
    · (intro w hSw; (try dsimp only at hSw); go_simp <;> with_reducible rfl)
    try simp only [Act.put, List.setIfInBounds_toArray, List.set_cons_zero, List.set_cons_succ]
    refine takeM_lit (i := 6) (F := #[true, true, true, true, true, true, false, false, false, true, true, true, true, true, true, true, false, false, false]) rfl (by kernel_rfl) (by kernel_rfl) (by kernel_rfl) (by kernel_rfl) (fun _ _ _ h => h) (yA x.r.a (fun w h => row_a35 h) (by rfl) rfl rfl) (by assumption) ?_
    try simp only [Act.put, List.setIfInBounds_toArray, List.set_cons_zero, List.set_cons_succ]
    refine takeM_lit (i := 9) (v := ?_) (F := #[true, true, true, true, true, true, true, true, true, false, true, true, true, true, true, true, false, false, false]) rfl (by kernel_rfl) (by kernel_rfl) (by kernel_rfl) (by kernel_rfl) (fun _ _ _ h => h) (Or.inl ⟨by rfl, ?_⟩) (by assumption) ?_
    rotate_left
    · (intro w hSw; (try dsimp only at hSw); go_simp <;> with_reducible rfl)
    try simp only [Act.put, List.setIfInBounds_toArray, List.set_cons_zero, List.set_cons_succ]
    refine takeM_lit (i := 10) (v := ?_) (F := #[true, true, true, true, true, true, true, true, true, true, false, false, true, true, true, true, false, false, false]) rfl (by kernel_rfl) (by kernel_rfl) (by kernel_rfl) (by kernel_rfl) (fun _ _ _ h => h) (Or.inl ⟨by rfl, ?_⟩) (by assumption) ?_
    rotate_left
    · (intro w hSw; (try dsimp only at hSw); go_simp <;> with_reducible rfl)
    try simp only [Act.put, List.setIfInBounds_toArray, List.set_cons_zero, List.set_cons_succ]
    refine takeM_lit (i := 11) (F := #[true, true, true, true, true, true, true, true, true, true, true, false, true, true, true, true, false, false, false]) rfl (by kernel_rfl) (by kernel_rfl) (by kernel_rfl) (by kernel_rfl) (fun _ _ _ h => h) (yQ x.r.p (fun w h => row_q0 h) (by rfl) rfl rfl) (by assumption) ?_
    try simp only [Act.put, List.setIfInBounds_toArray, List.set_cons_zero, List.set_cons_succ]
    refine takeM_lit (i := 12) (v := ?_) (F := #[true, true, true, true, true, true, true, true, true, true, true, true, false, false, true, true, false, false, false]) rfl (by kernel_rfl) (by kernel_rfl) (by kernel_rfl) (by kernel_rfl) (fun _ _ _ h => h) (Or.inl ⟨by rfl, ?_⟩) (by assumption) ?_
    rotate_left
    · (intro w hSw; (try dsimp only at hSw); go_simp <;> with_reducible rfl)
    try simp only [Act.put, List.setIfInBounds_toArray, List.set_cons_zero, List.set_cons_succ]
    refine takeM_lit (i := 13) (v := ?_) (F := #[true, true, true, true, true, true, true, true, true, true, true, true, true, false, true, true, false, false, false]) rfl (by kernel_rfl) (by kernel_rfl) (by kernel_rfl) (by kernel_rfl) (fun _ _ _ h => h) (Or.inl ⟨by rfl, ?_⟩) (by assumption) ?_
    rotate_left
    · (intro w hSw; (try dsimp only at hSw); have hz := row_c34 hSw; go_simp <;> with_reducible rfl)
    try simp only [Act.put, List.setIfInBounds_toArray, List.set_cons_zero, List.set_cons_succ]
    refine takeM_lit (i := 14) (v := ?_) (F := #[true, true, true, true, true, true, true, true, true, true, true, true, true, true, false, false, false, false, false]) rfl (by kernel_rfl) (by kernel_rfl) (by kernel_rfl) (by kernel_rfl) (fun _ _ _ h => h) (Or.inl ⟨by rfl, ?_⟩) (by assumption) ?_
    rotate_left
    · (intro w hSw; (try dsimp only at hSw); go_simp <;> with_reducible rfl)
    try simp only [Act.put, List.setIfInBounds_toArray, List.set_cons_zero, List.set_cons_succ]
    refine takeM_lit (i := 15) (F := #[true, true, true, true, true, true, true, true, true, true, true, true, true, true, true, false, false, false, false]) rfl (by kernel_rfl) (by kernel_rfl) (by kernel_rfl) (by kernel_rfl) (fun _ _ _ h => h) (yA x.r.a (fun w h => row_a35 h) (by rfl) rfl rfl) (by assumption) ?_
    try simp only [Act.put, List.setIfInBounds_toArray, List.set_cons_zero, List.set_cons_succ]
    refine wpAnyM_ready (rs := [7]) (by kernel_rfl) (by simp) ?_
    refine consM_lit rfl (fun K hK => ?_) ?_
    · go_simp
      refine (hA _ s6).mono ?_
      rintro e wk ⟨rfl, sk, kk⟩
      refine hK.out _ _ (Or.inr ?_) (fun hHeld => ?_)
      · exact kk _ _ _ hHeld
      replace hHeld := hHeld.resolve_left (by decide)
      clear hK K
      try simp only [Act.put, List.setIfInBounds_toArray, List.set_cons_zero, List.set_cons_succ]
      refine wpAnyM_ready (rs := [8]) (by kernel_rfl) (by simp) ?_
      refine consM_lit rfl (fun K hK => ?_) ?_
      · go_simp
        refine (num_any _ _).mono ?_
        rintro e wn ⟨rfl, rfl⟩
        refine hK.out _ _ (Or.inr ?_) (fun hHeld => ?_)
        · exact hHeld
        replace hHeld := hHeld.resolve_left (by decide)
        clear hK K
        try simp only [Act.put, List.setIfInBounds_toArray, List.set_cons_zero, List.set_cons_succ]
        refine wpAnyM_ready (rs := [16]) (by kernel_rfl) (by simp) ?_
        refine consM_lit rfl (fun K hK => ?_) ?_
        · go_simp
          refine (hA2 _ sk).mono ?_
          rintro e w7 ⟨rfl, K7, hr7, s7⟩
          refine hK.out _ _ (Or.inl (by decide)) (fun _ => ?_)
          clear hK K
          try simp only [Act.put, List.setIfInBounds_toArray, List.set_cons_zero, List.set_cons_succ]
          refine wpAnyM_ready (rs := [17]) (by kernel_rfl) (by simp) ?_
          refine consM_lit rfl (fun K hK => ?_) ?_
          · go_simp
            refine hK.out _ _ (Or.inl (by decide)) (fun _ => ?_)
            clear hK K
            try simp only [Act.put, List.setIfInBounds_toArray, List.set_cons_zero, List.set_cons_succ]
            refine wpAnyM_ready (rs := [18]) (by kernel_rfl) (by simp) ?_
            refine consM_lit rfl (fun K hK => ?_) ?_
            · go_simp
              refine hK.out _ _ (Or.inl (by decide)) (fun _ => ?_)
              clear hK K
              try simp only [Act.put, List.setIfInBounds_toArray, List.set_cons_zero, List.set_cons_succ]
              refine wpAnyM_done (by kernel_rfl) ?_ _
              refine NoPanic.normal ?_
              go_wp2_with fail
              go_ret
              refine ⟨?_, _, _, hr7, hlen, s7⟩
              first | rfl | simp
            exact AllReadyM.nil
          exact AllReadyM.nil
        exact AllReadyM.nil
      exact AllReadyM.nil
    exact AllReadyM.nil
  by_cases k4 : x.k = 4
  · rw [k4]
    have hA := fun W (g : Nat) (s : Sd w t mb r most L K W) (h : Row W g 36 (qcells x.r.p ++ qcells x.r.p)) => sd_unselect c s h
    have hA2 := fun W (s : Sd w t mb r most (unL [x.r.p, x.r.p] L).1 K W) => sd_runselect (p := x.r.p) c s hr s3.one
    have hlen : (unL [x.r.p, x.r.p] L).1.length ≤ L.length + 1 := by rw [un_room]; omega
    generalize unL [x.r.p, x.r.p] L = z at *
    obtain ⟨L7, z1⟩ := z
    have hb1 : (z1 == z1) = true := by simp
    have bd : Below W3.heap.size W3 _ := (Below.refl _ _).drew
    have s6 := s3.below bd
    have q6 := ro.below bd ro.lt
    clear s3
    go_upto_region 20 with fail
    refine wp_region_noPanic ?_
    refine wp_region_M (S := fun W => Row W g9 41 (ocs x.r)) 10 (by kernel_rfl) (q6) (fun hHeld => ?_)
    refine takeM_lit (i := 0) (v := ?_) (F := #[false, true, true, true, true, true, false, true, true, true, false, false, false]) rfl (by kernel_rfl) (by kernel_rfl) (by kernel_rfl) (by kernel_rfl) (fun _ _ _ h => h) (Or.inl ⟨by rfl, ?_⟩) (by assumption) ?_
    rotate_left
    · (intro w hSw; (try dsimp only at hSw); go_simp <;> with_reducible rfl)
    try simp only [Act.put, List.setIfInBounds_toArray, List.set_cons_zero, List.set_cons_succ]
    refine takeM_lit (i := 1) (v := ?_) (F := #[true, false, false, true, true, false, false, true, true, true, false, false, false]) rfl (by kernel_rfl) (by kernel_rfl) (by kernel_rfl) (by kernel_rfl) (fun _ _ _ h => h) (Or.inl ⟨by rfl, ?_⟩) (by assumption) ?_
    rotate_left
    · (intro w hSw; (try dsimp only at hSw); go_simp <;> with_reducible rfl)
    try simp only [Act.put, List.setIfInBounds_toArray, List.set_cons_zero, List.set_cons_succ]
    refine takeM_lit (i := 2) (F := #[true, true, false, true, true, false, false, true, true, true, false, false, false]) rfl (by kernel_rfl) (by kernel_rfl) (by kernel_rfl) (by kernel_rfl) (fun _ _ _ h => h) (yQ x.r.p (fun w h => row_q0 h) (by rfl) rfl rfl) (by assumption) ?_
    try simp only [Act.put, List.setIfInBounds_toArray, List.set_cons_zero, List.set_cons_succ]
    refine takeM_lit (i := 3) (v := ?_) (F := #[true, true, true, false, false, false, false, true, true, true, false, false, false]) rfl (by kernel_rfl) (by kernel_rfl) (by kernel_rfl) (by kernel_rfl) (fun _ _ _ h => h) (Or.inl ⟨by rfl, ?_⟩) (by assumption) ?_
    rotate_left
    · (intro w hSw; (try dsimp only at hSw); go_simp <;> with_reducible rfl)
    try simp only [Act.put, List.setIfInBounds_toArray, List.set_cons_zero, List.set_cons_succ]
    refine takeM_lit (i := 4) (F := #[true, true, true, true, false, false, false, true, true, true, false, false, false]) rfl (by kernel_rfl) (by kernel_rfl) (by kernel_rfl) (by kernel_rfl) (fun _ _ _ h => h) (yQ x.r.p (fun w h => row_q0 h) (by rfl) rfl rfl) (by assumption) ?_
    try simp only [Act.put, List.setIfInBounds_toArray, List.set_cons_zero, List.set_cons_succ]
    refine takeM_lit (i := 7) (v := ?_) (F := #[true, true, true, true, true, true, true, false, true, true, false, false, false]) rfl (by kernel_rfl) (by kernel_rfl) (by kernel_rfl) (by kernel_rfl) (fun _ _ _ h => h) (Or.inl ⟨by rfl, ?_⟩) (by assumption) ?_
    rotate_left
    · (intro w hSw; (try dsimp only at hSw); go_simp <;> with_reducible rfl)
    try simp only [Act.put, List.setIfInBounds_toArray, List.set_cons_zero, List.set_cons_succ]
    refine takeM_lit (i := 8) (v := ?_) (F := #[true, true, true, true, true, true, true, true, false, false, false, false, false]) rfl (by kernel_rfl) (by kernel_rfl) (by kernel_rfl) (by kernel_rfl) (fun _ _ _ h => h) (Or.inl ⟨by rfl, ?_⟩) (by assumption) ?_
    rotate_left
    · (intro w hSw; (try dsimp only at hSw); go_simp <;> with_reducible rfl)
    try simp only [Act.put, List.setIfInBounds_toArray, List.set_cons_zero, List.set_cons_succ]
    refine takeM_lit (i := 9) (F := #[true, true, true, true, true, true, true, true, true, false, false, false, false]) rfl (by kernel_rfl) (by kernel_rfl) (by kernel_rfl) (by kernel_rfl) (fun _ _ _ h => h) (yQ x.r.p (fun w h => row_q0 h) (by rfl) rfl rfl) (by assumption) ?_
    try simp only [Act.put, List.setIfInBounds_toArray, List.set_cons_zero, List.set_cons_succ]
    refine wpAnyM_ready (rs := [5]) (by kernel_rfl) (by simp) ?_
    refine consM_lit rfl (fun K hK => ?_) ?_
    · skip
      refine sBsG (T := 56) (U := 36) (n := 2) [(0, .tmp 153), (1, .tmp 155)] (qcells x.r.p ++ qcells x.r.p) (by rfl) rfl (fun w => bsP2 x.r.p w) ?_
      intro W6 r6 b6
      refine hK.out _ _ (Or.inr ?_) (fun hHeld => ?_)
      · exact hHeld.below b6 hHeld.lt
      replace hHeld := hHeld.resolve_left (by decide)
      clear hK K
      try simp only [Act.put, List.setIfInBounds_toArray, List.set_cons_zero, List.set_cons_succ]
      refine wpAnyM_ready (rs := [6]) (by kernel_rfl) (by simp) ?_
      refine consM_lit rfl (fun K hK => ?_) ?_
      · go_simp
        refine (hA _ _ (s6.below b6) r6).mono ?_
        rintro e wk ⟨rfl, sk, kk⟩
        refine hK.out _ _ (Or.inr ?_) (fun hHeld => ?_)
        · exact kk _ _ _ hHeld
        replace hHeld := hHeld.resolve_left (by decide)
        clear hK K
        try simp only [Act.put, List.setIfInBounds_toArray, List.set_cons_zero, List.set_cons_succ]
        refine wpAnyM_ready (rs := [10]) (by kernel_rfl) (by simp) ?_
        refine consM_lit rfl (fun K hK => ?_) ?_
        · go_simp
          refine (hA2 _ sk).mono ?_
          rintro e w7 ⟨rfl, K7, hr7, s7⟩
          refine hK.out _ _ (Or.inl (by decide)) (fun _ => ?_)
          clear hK K
          try simp only [Act.put, List.setIfInBounds_toArray, List.set_cons_zero, List.set_cons_succ]
          refine wpAnyM_ready (rs := [11]) (by kernel_rfl) (by simp) ?_
          refine consM_lit rfl (fun K hK => ?_) ?_
          · go_simp
            refine hK.out _ _ (Or.inl (by decide)) (fun _ => ?_)
            clear hK K
            try simp only [Act.put, List.setIfInBounds_toArray, List.set_cons_zero, List.set_cons_succ]
            refine wpAnyM_ready (rs := [12]) (by kernel_rfl) (by simp) ?_
            refine consM_lit rfl (fun K hK => ?_) ?_
            · go_simp
              refine hK.out _ _ (Or.inl (by decide)) (fun _ => ?_)
              clear hK K
              try simp only [Act.put, List.setIfInBounds_toArray, List.set_cons_zero, List.set_cons_succ]
              refine wpAnyM_done (by kernel_rfl) ?_ _
              refine NoPanic.normal ?_
              go_wp2_with fail
              go_ret
              refine ⟨?_, _, _, hr7, hlen, s7⟩
              first | rfl | simp
            exact AllReadyM.nil
          exact AllReadyM.nil
        exact AllReadyM.nil
      exact AllReadyM.nil
    exact AllReadyM.nil
  by_cases k5 : x.k = 5
  · rw [k5]
    have hA := sd_tick c s3 now n0 n1 hr
    have HLr : Hid ((exT now K).length ≤ 1000000 ∧ (goT now K).length ≤ 1000000) := ⟨by have := exT_len now K; omega, by have := goT_len now K; omega⟩
    have HLn : Hid (∀ L', Rel L' (leftT now K) → L'.length ≤ L.length + 1) := fun L' h => by rw [← h.pm.length_eq]; have := leftT_len now K; have := hr.pm.length_eq; omega
    have HTk : Hid (∀ (W : World) (L1 : List Ro) (a1 a2 : Option Addr) (c1 c2 : Nat), Sd w t mb r most L1 K W → kN.Own W w.heap.size (.slice a1 (exT now K).length c1) (exT now K) → kN.Own W w.heap.size (.slice a2 (goT now K).length c2) (goT now K) → _) := fun W L1 a1 a2 c1 c2 s h1 h2 => sd_rtick c s now n0 n1 h1 h2
    obtain ⟨K7, hK7⟩ : ∃ K7, leftT now K = K7 := ⟨_, rfl⟩
    rw [hK7] at hA HTk HLn
    clear hK7
    generalize exT now K = AG at *
    generalize goT now K = GO at *
    go_wp2_with (first
      | (have kk := s6; go_at_call 13; refine (rsame_any a2 a4 c2 c4 (z2.below k6) (z4.below k6) HLr.out.2).mono ?_; rintro e w7 ⟨rfl, k7⟩; have s7 := s6.below k7; (try simp only [Act.put, List.setIfInBounds_toArray, List.set_cons_zero, List.set_cons_succ]))
      | (go_at_call 13; refine (rsame_any a1 a3 c1 c3 z1 z3 HLr.out.1).mono ?_; rintro e w6 ⟨rfl, k6⟩; have s6 := s5.below k6; (try simp only [Act.put, List.setIfInBounds_toArray, List.set_cons_zero, List.set_cons_succ]))
      | (go_at_call 40; refine (HTk.out _ _ _ _ _ _ s4 o1 o2).mono ?_; rintro e w5 ⟨a3, c3, a4, c4, rfl, s5, z1, z3, z2, z4⟩; (try simp only [Act.put, List.setIfInBounds_toArray, List.set_cons_zero, List.set_cons_succ]))
      | (go_at_call 28; refine hA.mono ?_; rintro e w4 ⟨a1, c1, a2, c2, L7, rfl, hr7, s4, kp, o1, o2⟩; have hlen := HLn.out _ hr7; (try simp only [Act.put, List.setIfInBounds_toArray, List.set_cons_zero, List.set_cons_succ])))
    all_goals (go_ret; refine ⟨?_, _, _, hr7, hlen, s7⟩; first | rfl | simp)
  by_cases k6 : x.k = 6
  · rw [k6]
    have hl7 : (K.filter (dropB x.r.i [])).length ≤ 1000000 := by have := List.length_filter_le (dropB x.r.i []) K; omega
    have hlen : (L.filter fun n => !dropB x.r.i [] n).length ≤ L.length + 1 := by have := List.length_filter_le (fun n => !dropB x.r.i [] n) L; omega
    have hr7 : Rel (L.filter fun n => !dropB x.r.i [] n) (K.filter fun n => !dropB x.r.i [] n) := rel_filter hr _
    have bd : Below W3.heap.size W3 _ := (Below.refl _ _).drew
    have s6 := s3.below bd
    have q6 := ro.below bd ro.lt
    clear s3
    go_upto_region 26 with fail
    refine wp_region_noPanic ?_
    refine wp_region_M (S := fun W => Row W g9 41 (ocs x.r)) 8 (by kernel_rfl) (q6) (fun hHeld => ?_)
    refine takeM_lit (i := 0) (v := ?_) (F := #[false, true, true, false, true, true, true, false, false, false]) rfl (by kernel_rfl) (by kernel_rfl) (by kernel_rfl) (by kernel_rfl) (fun _ _ _ h => h) (Or.inl ⟨by rfl, ?_⟩) (by assumption) ?_
    rotate_left
    · (intro w hSw; (try dsimp only at hSw); go_simp <;> with_reducible rfl)
    try simp only [Act.put, List.setIfInBounds_toArray, List.set_cons_zero, List.set_cons_succ]
    refine takeM_lit (i := 1) (v := ?_) (F := #[true, false, false, false, true, true, true, false, false, false]) rfl (by kernel_rfl) (by kernel_rfl) (by kernel_rfl) (by kernel_rfl) (fun _ _ _ h => h) (Or.inl ⟨by rfl, ?_⟩) (by assumption) ?_
    rotate_left
    · (intro w hSw; (try dsimp only at hSw); go_simp <;> with_reducible rfl)
    try simp only [Act.put, List.setIfInBounds_toArray, List.set_cons_zero, List.set_cons_succ]
    refine takeM_lit (i := 2) (v := ?_) (F := #[true, true, false, false, true, true, true, false, false, false]) rfl (by kernel_rfl) (by kernel_rfl) (by kernel_rfl) (by kernel_rfl) (fun _ _ _ h => h) (Or.inl ⟨by rfl, ?_⟩) (by assumption) ?_
    rotate_left
    · (intro w hSw; (try dsimp only at hSw); have hz := row_c34 hSw; go_simp <;> with_reducible rfl)
    try simp only [Act.put, List.setIfInBounds_toArray, List.set_cons_zero, List.set_cons_succ]
    refine takeM_lit (i := 4) (v := ?_) (F := #[true, true, true, true, false, true, true, false, false, false]) rfl (by kernel_rfl) (by kernel_rfl) (by kernel_rfl) (by kernel_rfl) (fun _ _ _ h => h) (Or.inl ⟨by rfl, ?_⟩) (by assumption) ?_
    rotate_left
    · (intro w hSw; (try dsimp only at hSw); go_simp <;> with_reducible rfl)
    try simp only [Act.put, List.setIfInBounds_toArray, List.set_cons_zero, List.set_cons_succ]
    refine takeM_lit (i := 5) (v := ?_) (F := #[true, true, true, true, true, false, false, false, false, false]) rfl (by kernel_rfl) (by kernel_rfl) (by kernel_rfl) (by kernel_rfl) (fun _ _ _ h => h) (Or.inl ⟨by rfl, ?_⟩) (by assumption) ?_
    rotate_left
    · (intro w hSw; (try dsimp only at hSw); go_simp <;> with_reducible rfl)
    try simp only [Act.put, List.setIfInBounds_toArray, List.set_cons_zero, List.set_cons_succ]
    refine takeM_lit (i := 6) (v := ?_) (F := #[true, true, true, true, true, true, false, false, false, false]) rfl (by kernel_rfl) (by kernel_rfl) (by kernel_rfl) (by kernel_rfl) (fun _ _ _ h => h) (Or.inl ⟨by rfl, ?_⟩) (by assumption) ?_
    rotate_left
    · (intro w hSw; (try dsimp only at hSw); have hz := row_c34 hSw; go_simp <;> with_reducible rfl)
    try simp only [Act.put, List.setIfInBounds_toArray, List.set_cons_zero, List.set_cons_succ]
    refine wpAnyM_ready (rs := [3]) (by kernel_rfl) (by simp) ?_
    refine consM_lit rfl (fun K hK => ?_) ?_
    · go_simp
      refine (sd_drop c s6 x.r.i none 0 0 [] rfl (DsW.nil _ _) (by simp) hr).mono ?_
      rintro e wk ⟨a1, c1, rfl, sk, kk, o1⟩
      refine hK.out _ _ (Or.inr ?_) (fun hHeld => ?_)
      · exact kk _ _ _ hHeld
      replace hHeld := hHeld.resolve_left (by decide)
      clear hK K
      try simp only [Act.put, List.setIfInBounds_toArray, List.set_cons_zero, List.set_cons_succ]
      refine wpAnyM_ready (rs := [7]) (by kernel_rfl) (by simp) ?_
      refine consM_lit rfl (fun K hK => ?_) ?_
      · go_simp
        refine (sd_rdrop2 c sk x.r.i _ _ _ [] rfl (DsW.nil _ _) (by simp) [] rfl o1).mono ?_
        rintro e w6 ⟨a3, c3, rfl, s6', z1, z3, kr⟩
        refine hK.out _ _ (Or.inr ?_) (fun hHeld => ?_)
        · exact kr _ _ hHeld
        replace hHeld := hHeld.resolve_left (by decide)
        clear hK K
        try simp only [Act.put, List.setIfInBounds_toArray, List.set_cons_zero, List.set_cons_succ]
        refine wpAnyM_ready (rs := [8]) (by kernel_rfl) (by simp) ?_
        refine consM_lit rfl (fun K hK => ?_) ?_
        · go_simp
          refine (rsame_any a1 a3 c1 c3 z1 z3 hl7).mono ?_
          rintro e w7 ⟨rfl, k7⟩
          refine hK.out _ _ (Or.inl (by decide)) (fun _ => ?_)
          clear hK K
          try simp only [Act.put, List.setIfInBounds_toArray, List.set_cons_zero, List.set_cons_succ]
          refine wpAnyM_ready (rs := [9]) (by kernel_rfl) (by simp) ?_
          refine consM_lit rfl (fun K hK => ?_) ?_
          · go_simp
            refine hK.out _ _ (Or.inl (by decide)) (fun _ => ?_)
            clear hK K
            try simp only [Act.put, List.setIfInBounds_toArray, List.set_cons_zero, List.set_cons_succ]
            refine wpAnyM_done (by kernel_rfl) ?_ _
            refine NoPanic.normal ?_
            have s7 := s6'.below k7
            go_wp2_with fail
            go_ret
            refine ⟨?_, _, _, hr7, hlen, s7⟩
            first | rfl | simp
          exact AllReadyM.nil
        exact AllReadyM.nil
      exact AllReadyM.nil
    exact AllReadyM.nil
  by_cases k7 : x.k = 7
  · rw [k7]
    have hl7 : (K.filter (dropB x.r.i [x.r.a, x.r.a])).length ≤ 1000000 := by have := List.length_filter_le (dropB x.r.i [x.r.a, x.r.a]) K; omega
    have hlen : (L.filter fun n => !dropB x.r.i [x.r.a, x.r.a] n).length ≤ L.length + 1 := by have := List.length_filter_le (fun n => !dropB x.r.i [x.r.a, x.r.a] n) L; omega
    have hr7 : Rel (L.filter fun n => !dropB x.r.i [x.r.a, x.r.a] n) (K.filter fun n => !dropB x.r.i [x.r.a, x.r.a] n) := rel_filter hr _
    have bd : Below W3.heap.size W3 _ := (Below.refl _ _).drew
    have s6 := s3.below bd
    have q6 := ro.below bd ro.lt
    clear s3
    go_upto_region 28 with fail
    refine wp_region_noPanic ?_
    refine wp_region_M (S := fun W => Row W g9 41 (ocs x.r)) 16 (by kernel_rfl) (q6) (fun hHeld => ?_)
    refine takeM_lit (i := 0) (v := ?_) (F := #[false, true, true, true, true, true, true, true, false, true, true, true, true, true, true, false, false, false]) rfl (by kernel_rfl) (by kernel_rfl) (by kernel_rfl) (by kernel_rfl) (fun _ _ _ h => h) (Or.inl ⟨by rfl, ?_⟩) (by assumption) ?_
    rotate_left
    · (intro w hSw; (try dsimp only at hSw); go_simp <;> with_reducible rfl)
    try simp only [Act.put, List.setIfInBounds_toArray, List.set_cons_zero, List.set_cons_succ]
    refine takeM_lit (i := 1) (v := ?_) (F := #[true, false, false, true, true, true, true, true, false, true, true, true, true, true, true, false, false, false]) rfl (by kernel_rfl) (by kernel_rfl) (by kernel_rfl) (by kernel_rfl) (fun _ _ _ h => h) (Or.inl ⟨by rfl, ?_⟩) (by assumption) ?_
    rotate_left
    · (intro w hSw; (try dsimp only at hSw); go_simp <;> with_reducible rfl)
    try simp only [Act.put, List.setIfInBounds_toArray, List.set_cons_zero, List.set_cons_succ]
    refine takeM_lit (i := 2) (v := ?_) (F := #[true, true, false, true, true, true, true, true, false, true, true, true, true, true, true, false, false, false]) rfl (by kernel_rfl) (by kernel_rfl) (by kernel_rfl) (by kernel_rfl) (fun _ _ _ h => h) (Or.inl ⟨by rfl, ?_⟩) (by assumption) ?_
    rotate_left
    · (intro w hSw; (try dsimp only at hSw); have hz := row_c34 hSw; go_simp <;> with_reducible rfl)
    try simp only [Act.put, List.setIfInBounds_toArray, List.set_cons_zero, List.set_cons_succ]
    refine takeM_lit (i := 3) (v := ?_) (F := #[true, true, true, false, false, true, true, false, false, true, true, true, true, true, true, false, false, false]) rfl (by kernel_rfl) (by kernel_rfl) (by kernel_rfl) (by kernel_rfl) (fun _ _ _ h => h) (Or.inl ⟨by rfl, ?_⟩) (by assumption) ?_
    rotate_left
    · (intro w hSw; (try dsimp only at hSw); go_simp <;> with_reducible rfl)
    try simp only [Act.put, List.setIfInBounds_toArray, List.set_cons_zero, List.set_cons_succ]
    refine takeM_lit (i := 4) (F := #[true, true, true, true, false, true, true, false, false, true, true, true, true, true, true, false, false, false]) rfl (by kernel_rfl) (by kernel_rfl) (by kernel_rfl) (by kernel_rfl) (fun _ _ _ h => h) (yA x.r.a (fun w h => row_a35 h) (by rfl) rfl rfl) (by assumption) ?_
    try simp only [Act.put, List.setIfInBounds_toArray, List.set_cons_zero, List.set_cons_succ]
    refine takeM_lit (i := 5) (v := ?_) (F := #[true, true, true, true, true, false, false, false, false, true, true, true, true, true, true, false, false, false]) rfl (by kernel_rfl) (by kernel_rfl) (by kernel_rfl) (by kernel_rfl) (fun _ _ _ h => h) (Or.inl ⟨by rfl, ?_⟩) (by assumption) ?_
    rotate_left
    · (intro w hSw; (try dsimp only at hSw); go_simp <;> with_reducible rfl)
    try simp only [Act.put, List.setIfInBounds_toArray, List.set_cons_zero, List.set_cons_succ]
    refine takeM_lit (i := 6) (F := #[true, true, true, true, true, true, false, false, false, true, true, true, true, true, true, false, false, false]) rfl (by kernel_rfl) (by kernel_rfl) (by kernel_rfl) (by kernel_rfl) (fun _ _ _ h => h) (yA x.r.a (fun w h => row_a35 h) (by rfl) rfl rfl) (by assumption) ?_
    try simp only [Act.put, List.setIfInBounds_toArray, List.set_cons_zero, List.set_cons_succ]
    refine takeM_lit (i := 9) (v := ?_) (F := #[true, true, true, true, true, true, true, true, true, false, true, true, true, true, true, false, false, false]) rfl (by kernel_rfl) (by kernel_rfl) (by kernel_rfl) (by kernel_rfl) (fun _ _ _ h => h) (Or.inl ⟨by rfl, ?_⟩) (by assumption) ?_
    rotate_left
    · (intro w hSw; (try dsimp only at hSw); go_simp <;> with_reducible rfl)
    try simp only [Act.put, List.setIfInBounds_toArray, List.set_cons_zero, List.set_cons_succ]
    refine takeM_lit (i := 10) (v := ?_) (F := #[true, true, true, true, true, true, true, true, true, true, false, false, true, true, true, false, false, false]) rfl (by kernel_rfl) (by kernel_rfl) (by kernel_rfl) (by kernel_rfl) (fun _ _ _ h => h) (Or.inl ⟨by rfl, ?_⟩) (by assumption) ?_
    rotate_left
    · (intro w hSw; (try dsimp only at hSw); go_simp <;> with_reducible rfl)
    try simp only [Act.put, List.setIfInBounds_toArray, List.set_cons_zero, List.set_cons_succ]
    refine takeM_lit (i := 11) (v := ?_) (F := #[true, true, true, true, true, true, true, true, true, true, true, false, true, true, true, false, false, false]) rfl (by kernel_rfl) (by kernel_rfl) (by kernel_rfl) (by kernel_rfl) (fun _ _ _ h => h) (Or.inl ⟨by rfl, ?_⟩) (by assumption) ?_
    rotate_left
    · (intro w hSw; (try dsimp only at hSw); have hz := row_c34 hSw; go_simp <;> with_reducible rfl)
    try simp only [Act.put, List.setIfInBounds_toArray, List.set_cons_zero, List.set_cons_succ]
    refine takeM_lit (i := 12) (v := ?_) (F := #[true, true, true, true, true, true, true, true, true, true, true, true, false, false, false, false, false, false]) rfl (by kernel_rfl) (by kernel_rfl) (by kernel_rfl) (by kernel_rfl) (fun _ _ _ h => h) (Or.inl ⟨by rfl, ?_⟩) (by assumption) ?_
    rotate_left
    · (intro w hSw; (try dsimp only at hSw); go_simp <;> with_reducible rfl)
    try simp only [Act.put, List.setIfInBounds_toArray, List.set_cons_zero, List.set_cons_succ]
    refine takeM_lit (i := 13) (F := #[true, true, true, true, true, true, true, true, true, true, true, true, true, false, false, false, false, false]) rfl (by kernel_rfl) (by kernel_rfl) (by kernel_rfl) (by kernel_rfl) (fun _ _ _ h => h) (yA x.r.a (fun w h => row_a35 h) (by rfl) rfl rfl) (by assumption) ?_
    try simp only [Act.put, List.setIfInBounds_toArray, List.set_cons_zero, List.set_cons_succ]
    refine wpAnyM_ready (rs := [7, 14]) (by kernel_rfl) (by simp) ?_
    refine consM_lit rfl (fun K hK => ?_) ?_
    · skip
      refine sBsG (T := 81) (U := 32) (n := 2) [(0, .tmp 202), (1, .tmp 204)] (acells x.r.a ++ acells x.r.a) (by rfl) rfl (fun w => bsA2 x.r.a w) ?_
      intro W6 r6 b6
      try (replace s6 := s6.below b6)
      try (replace r9 := r9.below b6 r9.lt)
      refine hK.out _ _ (Or.inr ?_) (fun hHeld => ?_)
      · exact hHeld.below b6 hHeld.lt
      replace hHeld := hHeld.resolve_left (by decide)
      clear hK K
      try simp only [Act.put, List.setIfInBounds_toArray, List.set_cons_zero, List.set_cons_succ]
      refine wpAnyM_ready (rs := [8, 14]) (by kernel_rfl) (by simp) ?_
      refine consM_lit rfl (fun K hK => ?_) ?_
      · go_simp
        refine (sd_drop c s6 x.r.i _ _ 2 [x.r.a, x.r.a] rfl (DsW.two r6) (by simp) hr).mono ?_
        rintro e wk ⟨a1, c1, rfl, sk, kk, o1⟩
        try (replace r9 := kk _ _ _ r9)
        refine hK.out _ _ (Or.inr ?_) (fun hHeld => ?_)
        · exact kk _ _ _ hHeld
        replace hHeld := hHeld.resolve_left (by decide)
        clear hK K
        try simp only [Act.put, List.setIfInBounds_toArray, List.set_cons_zero, List.set_cons_succ]
        refine wpAnyM_ready (rs := [14]) (by kernel_rfl) (by simp) ?_
        refine consM_lit rfl (fun K hK => ?_) ?_
        · skip
          refine sBsG (T := 81) (U := 32) (n := 1) [(0, .tmp 211)] (acells x.r.a) (by rfl) rfl (fun w => bsA1 x.r.a w) ?_
          intro W9 r9 b9
          try (replace s6 := s6.below b9)
          try (replace sk := sk.below b9)
          try (replace o1 := own_below o1 b9)
          try (replace r6 := r6.below b9 r6.lt)
          refine hK.out _ _ (Or.inr ?_) (fun hHeld => ?_)
          · exact hHeld.below b9 hHeld.lt
          replace hHeld := hHeld.resolve_left (by decide)
          clear hK K
          try simp only [Act.put, List.setIfInBounds_toArray, List.set_cons_zero, List.set_cons_succ]
          refine wpAnyM_ready (rs := [15]) (by kernel_rfl) (by simp) ?_
          refine consM_lit rfl (fun K hK => ?_) ?_
          · go_simp
            refine (sd_rdrop2 c sk x.r.i _ _ 1 [x.r.a] rfl (DsW.one r9) (by simp) [x.r.a, x.r.a] (drop_two _ _) o1).mono ?_
            rintro e w6 ⟨a3, c3, rfl, s6', z1, z3, kr⟩
            refine hK.out _ _ (Or.inr ?_) (fun hHeld => ?_)
            · exact kr _ _ hHeld
            replace hHeld := hHeld.resolve_left (by decide)
            clear hK K
            try simp only [Act.put, List.setIfInBounds_toArray, List.set_cons_zero, List.set_cons_succ]
            refine wpAnyM_ready (rs := [16]) (by kernel_rfl) (by simp) ?_
            refine consM_lit rfl (fun K hK => ?_) ?_
            · go_simp
              refine (rsame_any a1 a3 c1 c3 z1 z3 hl7).mono ?_
              rintro e w7 ⟨rfl, k7⟩
              refine hK.out _ _ (Or.inl (by decide)) (fun _ => ?_)
              clear hK K
              try simp only [Act.put, List.setIfInBounds_toArray, List.set_cons_zero, List.set_cons_succ]
              refine wpAnyM_ready (rs := [17]) (by kernel_rfl) (by simp) ?_
              refine consM_lit rfl (fun K hK => ?_) ?_
              · go_simp
                refine hK.out _ _ (Or.inl (by decide)) (fun _ => ?_)
                clear hK K
                try simp only [Act.put, List.setIfInBounds_toArray, List.set_cons_zero, List.set_cons_succ]
                refine wpAnyM_done (by kernel_rfl) ?_ _
                refine NoPanic.normal ?_
                have s7 := s6'.below k7
                go_wp2_with fail
                go_ret
                refine ⟨?_, _, _, hr7, hlen, s7⟩
                first | rfl | simp
              exact AllReadyM.nil
            exact AllReadyM.nil
          exact AllReadyM.nil
        exact AllReadyM.nil
      refine consM_lit rfl (fun K hK => ?_) ?_
      · skip
        refine sBsG (T := 81) (U := 32) (n := 1) [(0, .tmp 211)] (acells x.r.a) (by rfl) rfl (fun w => bsA1 x.r.a w) ?_
        intro W9 r9 b9
        try (replace s6 := s6.below b9)
        try (replace sk := sk.below b9)
        try (replace o1 := own_below o1 b9)
        try (replace r6 := r6.below b9 r6.lt)
        refine hK.out _ _ (Or.inr ?_) (fun hHeld => ?_)
        · exact hHeld.below b9 hHeld.lt
        replace hHeld := hHeld.resolve_left (by decide)
        clear hK K
        try simp only [Act.put, List.setIfInBounds_toArray, List.set_cons_zero, List.set_cons_succ]
        refine wpAnyM_ready (rs := [8]) (by kernel_rfl) (by simp) ?_
        refine consM_lit rfl (fun K hK => ?_) ?_
        · go_simp
          refine (sd_drop c s6 x.r.i _ _ 2 [x.r.a, x.r.a] rfl (DsW.two r6) (by simp) hr).mono ?_
          rintro e wk ⟨a1, c1, rfl, sk, kk, o1⟩
          try (replace r9 := kk _ _ _ r9)
          refine hK.out _ _ (Or.inr ?_) (fun hHeld => ?_)
          · exact kk _ _ _ hHeld
          replace hHeld := hHeld.resolve_left (by decide)
          clear hK K
          try simp only [Act.put, List.setIfInBounds_toArray, List.set_cons_zero, List.set_cons_succ]
          refine wpAnyM_ready (rs := [15]) (by kernel_rfl) (by simp) ?_
          refine consM_lit rfl (fun K hK => ?_) ?_
          · go_simp
            refine (sd_rdrop2 c sk x.r.i _ _ 1 [x.r.a] rfl (DsW.one r9) (by simp) [x.r.a, x.r.a] (drop_two _ _) o1).mono ?_
            rintro e w6 ⟨a3, c3, rfl, s6', z1, z3, kr⟩
            refine hK.out _ _ (Or.inr ?_) (fun hHeld => ?_)
            · exact kr _ _ hHeld
            replace hHeld := hHeld.resolve_left (by decide)
            clear hK K
            try simp only [Act.put, List.setIfInBounds_toArray, List.set_cons_zero, List.set_cons_succ]
            refine wpAnyM_ready (rs := [16]) (by kernel_rfl) (by simp) ?_
            refine consM_lit rfl (fun K hK => ?_) ?_
            · go_simp
              refine (rsame_any a1 a3 c1 c3 z1 z3 hl7).mono ?_
              rintro e w7 ⟨rfl, k7⟩
              refine hK.out _ _ (Or.inl (by decide)) (fun _ => ?_)
              clear hK K
              try simp only [Act.put, List.setIfInBounds_toArray, List.set_cons_zero, List.set_cons_succ]
              refine wpAnyM_ready (rs := [17]) (by kernel_rfl) (by simp) ?_
              refine consM_lit rfl (fun K hK => ?_) ?_
              · go_simp
                refine hK.out _ _ (Or.inl (by decide)) (fun _ => ?_)
                clear hK K
                try simp only [Act.put, List.setIfInBounds_toArray, List.set_cons_zero, List.set_cons_succ]
                refine wpAnyM_done (by kernel_rfl) ?_ _
                refine NoPanic.normal ?_
                have s7 := s6'.below k7
                go_wp2_with fail
                go_ret
                refine ⟨?_, _, _, hr7, hlen, s7⟩
                first | rfl | simp
              exact AllReadyM.nil
            exact AllReadyM.nil
          exact AllReadyM.nil
        exact AllReadyM.nil
      exact AllReadyM.nil
    refine consM_lit rfl (fun K hK => ?_) ?_
    · skip
      refine sBsG (T := 81) (U := 32) (n := 1) [(0, .tmp 211)] (acells x.r.a) (by rfl) rfl (fun w => bsA1 x.r.a w) ?_
      intro W9 r9 b9
      try (replace s6 := s6.below b9)
      try (replace sk := sk.below b9)
      try (replace o1 := own_below o1 b9)
      try (replace r6 := r6.below b9 r6.lt)
      refine hK.out _ _ (Or.inr ?_) (fun hHeld => ?_)
      · exact hHeld.below b9 hHeld.lt
      replace hHeld := hHeld.resolve_left (by decide)
      clear hK K
      try simp only [Act.put, List.setIfInBounds_toArray, List.set_cons_zero, List.set_cons_succ]
      refine wpAnyM_ready (rs := [7]) (by kernel_rfl) (by simp) ?_
      refine consM_lit rfl (fun K hK => ?_) ?_
      · skip
        refine sBsG (T := 81) (U := 32) (n := 2) [(0, .tmp 202), (1, .tmp 204)] (acells x.r.a ++ acells x.r.a) (by rfl) rfl (fun w => bsA2 x.r.a w) ?_
        intro W6 r6 b6
        try (replace s6 := s6.below b6)
        try (replace r9 := r9.below b6 r9.lt)
        refine hK.out _ _ (Or.inr ?_) (fun hHeld => ?_)
        · exact hHeld.below b6 hHeld.lt
        replace hHeld := hHeld.resolve_left (by decide)
        clear hK K
        try simp only [Act.put, List.setIfInBounds_toArray, List.set_cons_zero, List.set_cons_succ]
        refine wpAnyM_ready (rs := [8]) (by kernel_rfl) (by simp) ?_
        refine consM_lit rfl (fun K hK => ?_) ?_
        · go_simp
          refine (sd_drop c s6 x.r.i _ _ 2 [x.r.a, x.r.a] rfl (DsW.two r6) (by simp) hr).mono ?_
          rintro e wk ⟨a1, c1, rfl, sk, kk, o1⟩
          try (replace r9 := kk _ _ _ r9)
          refine hK.out _ _ (Or.inr ?_) (fun hHeld => ?_)
          · exact kk _ _ _ hHeld
          replace hHeld := hHeld.resolve_left (by decide)
          clear hK K
          try simp only [Act.put, List.setIfInBounds_toArray, List.set_cons_zero, List.set_cons_succ]
          refine wpAnyM_ready (rs := [15]) (by kernel_rfl) (by simp) ?_
          refine consM_lit rfl (fun K hK => ?_) ?_
          · go_simp
            refine (sd_rdrop2 c sk x.r.i _ _ 1 [x.r.a] rfl (DsW.one r9) (by simp) [x.r.a, x.r.a] (drop_two _ _) o1).mono ?_
            rintro e w6 ⟨a3, c3, rfl, s6', z1, z3, kr⟩
            refine hK.out _ _ (Or.inr ?_) (fun hHeld => ?_)
            · exact kr _ _ hHeld
            replace hHeld := hHeld.resolve_left (by decide)
            clear hK K
            try simp only [Act.put, List.setIfInBounds_toArray, List.set_cons_zero, List.set_cons_succ]
            refine wpAnyM_ready (rs := [16]) (by kernel_rfl) (by simp) ?_
            refine consM_lit rfl (fun K hK => ?_) ?_
            · go_simp
              refine (rsame_any a1 a3 c1 c3 z1 z3 hl7).mono ?_
              rintro e w7 ⟨rfl, k7⟩
              refine hK.out _ _ (Or.inl (by decide)) (fun _ => ?_)
              clear hK K
              try simp only [Act.put, List.setIfInBounds_toArray, List.set_cons_zero, List.set_cons_succ]
              refine wpAnyM_ready (rs := [17]) (by kernel_rfl) (by simp) ?_
              refine consM_lit rfl (fun K hK => ?_) ?_
              · go_simp
                refine hK.out _ _ (Or.inl (by decide)) (fun _ => ?_)
                clear hK K
                try simp only [Act.put, List.setIfInBounds_toArray, List.set_cons_zero, List.set_cons_succ]
                refine wpAnyM_done (by kernel_rfl) ?_ _
                refine NoPanic.normal ?_
                have s7 := s6'.below k7
                go_wp2_with fail
                go_ret
                refine ⟨?_, _, _, hr7, hlen, s7⟩
                first | rfl | simp
              exact AllReadyM.nil
            exact AllReadyM.nil
          exact AllReadyM.nil
        exact AllReadyM.nil
      exact AllReadyM.nil
    exact AllReadyM.nil
  have k0' : (x.k == 0) = false := by simpa using k0
  have k1' : (x.k == 1) = false := by simpa using k1
  have k2' : (x.k == 2) = false := by simpa using k2
  have k3' : (x.k == 3) = false := by simpa using k3
  have k4' : (x.k == 4) = false := by simpa using k4
  have k5' : (x.k == 5) = false := by simpa using k5
  have k6' : (x.k == 6) = false := by simpa using k6
  have k7' : (x.k == 7) = false := by simpa using k7
  go_wp2_with fail
  go_ret
  exact ⟨rfl, _, _, hr, Nat.le_succ _, s3⟩
end Go.Proofs.Ythofoocknmkdjaa
