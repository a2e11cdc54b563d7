/-
  Tell: what a neighbour tells.
-/
import Derived.Test.YthofoocknmkdjaaM03
import Derived.Test.YthofoocknmkdjaaM05
namespace Go.Proofs.Ythofoocknmkdjaa
open Go.RowKit Go.Maps
set_option linter.unusedSimpArgs false
set_option linter.unusedVariables false
set_option maxRecDepth 20000
theorem retold_inf {old n : Ro} {now : Int} (h : n.r = 65535) : retold old now n = retr old now := if_pos h
theorem retold_fin {old n : Ro} {now : Int} (h : ¬ n.r = 65535) : retold old now n = { old with r := n.r, id := n.id, q := n.q, h := n.h, d := n.d, u := now + n.d } := if_neg h
set_option maxHeartbeats 4000000 in
theorem retold_any (old n : Ro) (now : Int) (w : World) (ha : 0 ≤ now) (hb : now ≤ 17592186044416) (d0 : 1 ≤ n.d) (d1 : n.d ≤ 2147483648) (e0 : 1 ≤ old.d) (e1 : old.d ≤ 2147483648) : Calls Try.prog 48 #[rV old, .int .i64 now, rV n] w (Gives w (rV (retold old now n))) := by
  have hw : wrap64 (now + n.d) = now + n.d := by unfold wrap64; omega
  have hR := fun W => retr_any old now W ha hb e0 e1
  clear d0 d1 e0 e1 ha hb
  obtain ⟨R, HR⟩ : ∃ R, Hid (retold old now n = R) := ⟨_, rfl⟩
  rw [HR.out]
  go_enter Try.func48, Try.ntmps48
  go_upto_region 1 with (first
    | (refine alG infoRz rfl rfl ?_; intro g1 W1 hge hgl hB1 hr1))
  obtain ⟨hB, r0, r1, hs⟩ := stepRow2 hB1
  have hg : w.heap.size + 1 < g1 := by simp at hge; omega
  have c60 : W1.cell? ⟨w.heap.size + 1, 60, none⟩ = some (.int .u16 n.r) := (r1.cell 60).trans (oc60 n)
  clear hB1 hge
  have hne : g1 ≠ w.heap.size := by omega
  have hne1 : g1 ≠ w.heap.size + 1 := by omega
  by_cases hi : n.r = 65535
  · obtain rfl : R = retr old now := by rw [← HR.out, retold_inf hi]
    have hi' : (n.r == 65535) = true := by simpa using hi
    clear hi hw
    go_wp2_with (first
      | (have kk := q2; refine stS (.tmp 6) (.tmp 12) rfl rfl g1 (retr old now) _ rfl rfl q2 ?_; intro W5 g5 q5; clear q2)
      | (have kk := r0; go_at_call 50; refine (hR _).mono ?_; rintro e w2 ⟨rfl, b2⟩; have q2 := hr1.below b2 hr1.lt; clear r0)
      | (have kk := r0; refine ldS (.tmp 3) rfl rfl _ _ old rfl r0.ro ?_))
    have b3 := bt hB b2
    exact bodyPost_ret (retC rfl _ _ 0 rfl (lvS q5)) rfl ⟨rfl, grown_below g5 b3 (by omega) b3.size⟩
  · have HR2 : Hid (R = { old with r := n.r, id := n.id, q := n.q, h := n.h, d := n.d, u := now + n.d }) := by show _ = _; rw [← HR.out, retold_fin hi]
    clear HR
    have hi' : (n.r == 65535) = false := by simpa using hi
    clear hi hR
    have hs0 := r0.lt
    go_upto_region 3 with fail
    refine wp_region_noPanic ?_
    refine wp_region_held_drew (S := fun W => Row W (w.heap.size + 1) 41 (ocs n)) (by kernel_rfl) (r1.drew) (fun hHeld => ?_)
    refine take_lit (i := 0) (v := ?_) rfl (by kernel_rfl) (by kernel_rfl) (by kernel_rfl) (fun _ _ _ h => h) (Or.inl ⟨by rfl, ?_⟩) (by assumption) ?_
    rotate_left
    · (intro w hSw; (try dsimp only at hSw); go_simp <;> with_reducible rfl)
    try simp only [Act.put, List.setIfInBounds_toArray, List.set_cons_zero, List.set_cons_succ]
    refine take_lit (i := 1) (v := ?_) rfl (by kernel_rfl) (by kernel_rfl) (by kernel_rfl) (fun _ _ _ h => h) (Or.inl ⟨by rfl, ?_⟩) (by assumption) ?_
    rotate_left
    · (intro w hSw; (try dsimp only at hSw); have z := (hSw.cell 60).trans (oc60 n); go_simp <;> with_reducible rfl)
    try simp only [Act.put, List.setIfInBounds_toArray, List.set_cons_zero, List.set_cons_succ]
    refine take_lit (i := 2) (v := ?_) rfl (by kernel_rfl) (by kernel_rfl) (by kernel_rfl) (fun _ _ _ h => h) (Or.inl ⟨by rfl, ?_⟩) (by assumption) ?_
    rotate_left
    · (intro w hSw; (try dsimp only at hSw); go_simp <;> with_reducible rfl)
    try simp only [Act.put, List.setIfInBounds_toArray, List.set_cons_zero, List.set_cons_succ]
    refine take_lit (i := 3) rfl (by kernel_rfl) (by kernel_rfl) (by kernel_rfl) (fun _ _ _ h => h) (yI n.id (fun w h => by have := (Row.ro h).id; simpa using this) (by rfl) rfl rfl) (by assumption) ?_
    try simp only [Act.put, List.setIfInBounds_toArray, List.set_cons_zero, List.set_cons_succ]
    refine take_lit (i := 4) (v := ?_) rfl (by kernel_rfl) (by kernel_rfl) (by kernel_rfl) (fun _ _ _ h => h) (Or.inl ⟨by rfl, ?_⟩) (by assumption) ?_
    rotate_left
    · (intro w hSw; (try dsimp only at hSw); go_simp <;> with_reducible rfl)
    try simp only [Act.put, List.setIfInBounds_toArray, List.set_cons_zero, List.set_cons_succ]
    refine take_lit (i := 5) (v := ?_) rfl (by kernel_rfl) (by kernel_rfl) (by kernel_rfl) (fun _ _ _ h => h) (Or.inl ⟨by rfl, ?_⟩) (by assumption) ?_
    rotate_left
    · (intro w hSw; (try dsimp only at hSw); have z := (hSw.cell 59).trans (oc59 n); go_simp <;> with_reducible rfl)
    try simp only [Act.put, List.setIfInBounds_toArray, List.set_cons_zero, List.set_cons_succ]
    refine take_lit (i := 6) (v := ?_) rfl (by kernel_rfl) (by kernel_rfl) (by kernel_rfl) (fun _ _ _ h => h) (Or.inl ⟨by rfl, ?_⟩) (by assumption) ?_
    rotate_left
    · (intro w hSw; (try dsimp only at hSw); go_simp <;> with_reducible rfl)
    try simp only [Act.put, List.setIfInBounds_toArray, List.set_cons_zero, List.set_cons_succ]
    refine take_lit (i := 7) rfl (by kernel_rfl) (by kernel_rfl) (by kernel_rfl) (fun _ _ _ h => h) (yA n.h (fun w h => by have := (Row.ro h).h; simpa using this) (by rfl) rfl rfl) (by assumption) ?_
    try simp only [Act.put, List.setIfInBounds_toArray, List.set_cons_zero, List.set_cons_succ]
    refine take_lit (i := 8) (v := ?_) rfl (by kernel_rfl) (by kernel_rfl) (by kernel_rfl) (fun _ _ _ h => h) (Or.inl ⟨by rfl, ?_⟩) (by assumption) ?_
    rotate_left
    · (intro w hSw; (try dsimp only at hSw); go_simp <;> with_reducible rfl)
    try simp only [Act.put, List.setIfInBounds_toArray, List.set_cons_zero, List.set_cons_succ]
    refine take_lit (i := 9) (v := ?_) rfl (by kernel_rfl) (by kernel_rfl) (by kernel_rfl) (fun _ _ _ h => h) (Or.inl ⟨by rfl, ?_⟩) (by assumption) ?_
    rotate_left
    · (intro w hSw; (try dsimp only at hSw); have z := (hSw.cell 79).trans (oc79 n); go_simp <;> with_reducible rfl)
    try simp only [Act.put, List.setIfInBounds_toArray, List.set_cons_zero, List.set_cons_succ]
    refine take_lit (i := 10) (v := ?_) rfl (by kernel_rfl) (by kernel_rfl) (by kernel_rfl) (fun _ _ _ h => h) (Or.inl ⟨by rfl, ?_⟩) (by assumption) ?_
    rotate_left
    · (intro w hSw; (try dsimp only at hSw); go_simp <;> with_reducible rfl)
    try simp only [Act.put, List.setIfInBounds_toArray, List.set_cons_zero, List.set_cons_succ]
    refine wpAnyH_ready (rs := [11]) (by kernel_rfl) (by simp) ?_
    refine cons_lit rfl (fun K hK => ?_) ?_
    · skip
      refine inS (by rfl) (wp_stRf (.tmp 23) (.tmp 14) rfl w.heap.size n.r old rfl rfl r0.drew ?_)
      intro W2 g2 q2
      have h2 := hHeld.keep g2 (by omega)
      refine hK.out _ _ ?_ (fun hHeld => ?_)
      · exact h2
      clear hK K
      try simp only [Act.put, List.setIfInBounds_toArray, List.set_cons_zero, List.set_cons_succ]
      refine take_lit (i := 12) (v := ?_) rfl (by kernel_rfl) (by kernel_rfl) (by kernel_rfl) (fun _ _ _ h => h) (Or.inl ⟨by rfl, ?_⟩) (by assumption) ?_
      rotate_left
      · (intro w hSw; (try dsimp only at hSw); go_simp <;> with_reducible rfl)
      try simp only [Act.put, List.setIfInBounds_toArray, List.set_cons_zero, List.set_cons_succ]
      refine wpAnyH_ready (rs := [13]) (by kernel_rfl) (by simp) ?_
      refine cons_lit rfl (fun K hK => ?_) ?_
      · skip
        refine inS (by rfl) (wp_stIf (.tmp 24) (.tmp 16) rfl w.heap.size n.id _ rfl rfl q2 ?_)
        intro W3 g3 q3
        have h3 := hHeld.keep g3 (by omega)
        refine hK.out _ _ ?_ (fun hHeld => ?_)
        · exact h3
        clear hK K
        try simp only [Act.put, List.setIfInBounds_toArray, List.set_cons_zero, List.set_cons_succ]
        refine take_lit (i := 14) (v := ?_) rfl (by kernel_rfl) (by kernel_rfl) (by kernel_rfl) (fun _ _ _ h => h) (Or.inl ⟨by rfl, ?_⟩) (by assumption) ?_
        rotate_left
        · (intro w hSw; (try dsimp only at hSw); go_simp <;> with_reducible rfl)
        try simp only [Act.put, List.setIfInBounds_toArray, List.set_cons_zero, List.set_cons_succ]
        refine wpAnyH_ready (rs := [15]) (by kernel_rfl) (by simp) ?_
        refine cons_lit rfl (fun K hK => ?_) ?_
        · skip
          refine inS (by rfl) (wp_stSq (.tmp 25) (.tmp 18) rfl w.heap.size n.q _ rfl rfl q3 ?_)
          intro W4 g4 q4
          have h4 := hHeld.keep g4 (by omega)
          refine hK.out _ _ ?_ (fun hHeld => ?_)
          · exact h4
          clear hK K
          try simp only [Act.put, List.setIfInBounds_toArray, List.set_cons_zero, List.set_cons_succ]
          refine take_lit (i := 16) (v := ?_) rfl (by kernel_rfl) (by kernel_rfl) (by kernel_rfl) (fun _ _ _ h => h) (Or.inl ⟨by rfl, ?_⟩) (by assumption) ?_
          rotate_left
          · (intro w hSw; (try dsimp only at hSw); go_simp <;> with_reducible rfl)
          try simp only [Act.put, List.setIfInBounds_toArray, List.set_cons_zero, List.set_cons_succ]
          refine wpAnyH_ready (rs := [17]) (by kernel_rfl) (by simp) ?_
          refine cons_lit rfl (fun K hK => ?_) ?_
          · skip
            refine inS (by rfl) (wp_stAf (.tmp 26) (.tmp 20) rfl w.heap.size n.h _ rfl rfl q4 ?_)
            intro W5 g5 q5
            have h5 := hHeld.keep g5 (by omega)
            refine hK.out _ _ ?_ (fun hHeld => ?_)
            · exact h5
            clear hK K
            try simp only [Act.put, List.setIfInBounds_toArray, List.set_cons_zero, List.set_cons_succ]
            refine take_lit (i := 18) (v := ?_) rfl (by kernel_rfl) (by kernel_rfl) (by kernel_rfl) (fun _ _ _ h => h) (Or.inl ⟨by rfl, ?_⟩) (by assumption) ?_
            rotate_left
            · (intro w hSw; (try dsimp only at hSw); go_simp <;> with_reducible rfl)
            try simp only [Act.put, List.setIfInBounds_toArray, List.set_cons_zero, List.set_cons_succ]
            refine wpAnyH_ready (rs := [19]) (by kernel_rfl) (by simp) ?_
            refine cons_lit rfl (fun K hK => ?_) ?_
            · skip
              refine inS (by rfl) (wp_stD (.tmp 27) (.tmp 22) rfl w.heap.size n.d _ rfl rfl q5 ?_)
              intro W6 g6 q6
              have h6 := hHeld.keep g6 (by omega)
              refine hK.out _ _ ?_ (fun hHeld => ?_)
              · exact h6
              clear hK K
              try simp only [Act.put, List.setIfInBounds_toArray, List.set_cons_zero, List.set_cons_succ]
              refine wpAnyH_done (by kernel_rfl) ?_ _
              refine NoPanic.normal ?_
              have gA := grownBy_trans (grownBy_trans (grownBy_trans (grownBy_trans g2 g3) g4) g5) g6
              have bA := grown_below gA (hB.trans ((Below.refl _ _).drew.mono hB.size)) (Nat.le_refl _) hB.size
              have k1 := (hr1.drew).keep gA hne
              clear g2 g3 g4 g5 g6 gA q2 q3 q4 q5 h2 h3 h4 h5 h6 r0 r1 hr1 hHeld
              have HR3 : Hid (R = (((((old.sR n.r).sId n.id).sQ n.q).sH n.h).sD n.d).sU (now + n.d)) := HR2.out
              have hO5 : ∃ O5, ((((old.sR n.r).sId n.id).sQ n.q).sH n.h).sD n.d = O5 := ⟨_, rfl⟩
              have c79 : W6.cell? ⟨w.heap.size, 79, none⟩ = some (.int .i64 n.d) := (q6.cell 79).trans (oc79 _)
              generalize hz : now + n.d = z at *
              clear hO5 HR2
              generalize ((((old.sR n.r).sId n.id).sQ n.q).sH n.h).sD n.d = O5 at *
              go_wp2_with (first
                | (have kk := k2; refine stS (.tmp 6) (.tmp 33) rfl rfl g1 R _ rfl rfl k2 ?_; intro W8 g8 q8; clear k2)
                | (have kk := q7; refine ldS (.tmp 3) rfl rfl _ _ R rfl (by rw [HR3.out]; exact q7.ro) ?_)
                | (have kk := q6; (with_reducible refine inL ?_ fun K hK => ?_); (focus rfl); refine wp_stU (.tmp 32) (.tmp 31) rfl w.heap.size z O5 rfl (by first | rfl | exact congrArg (Value.int .i64) hw) q6 ?_; intro W7 g7 q7; refine hK _ _ ?_; have k2 := k1.keep g7 hne; have b7 := grown_below g7 bA (Nat.le_refl _) bA.size; clear q6))
              exact bodyPost_ret (retC rfl _ _ 0 rfl (lvS q8)) rfl ⟨rfl, grown_below g8 b7 (by omega) b7.size⟩
            exact AllReadyH.nil
          exact AllReadyH.nil
        exact AllReadyH.nil
      exact AllReadyH.nil
    exact AllReadyH.nil
end Go.Proofs.Ythofoocknmkdjaa

namespace Go.Proofs.Ythofoocknmkdjaa
open Go.RowKit Go.Maps
set_option linter.unusedSimpArgs false
set_option linter.unusedVariables false
set_option maxRecDepth 20000
/-! ### A route that is not there -/
def madeN (n : Ro) (now : Int) : Ro := { n with m := 65535, u := now + n.d, s := false }
def tellNewR (most : Int) (L : List Ro) (now : Int) (n : Ro) (f : Bool) : Int × Int × List Ro :=
  if n.r = 65535 ∨ f = false then (3, 0, L) else if most ≤ L.length then (0, 6, L) else (1, 0, putN L (madeN n now))
theorem tellNew_any {w : World} {t mb : Nat} {most : Int} {L : List Ro} (h : Tb w t mb most L) (n : Ro) (now : Int) (f : Bool) (ha : 0 ≤ now) (hb : now ≤ 17592186044416) (hi : wfK n.k) (hn : ∀ u, 0 ≤ u → u ≤ 35184372088832 → ({ n with u := u } : Ro).ok) (hl : L.length < 1000000) :
    Calls Try.prog 46 #[.pointer (some ⟨t, 0, none⟩), .int .i64 now, rV n, .bool f] w fun e w' => e = .returned (.tuple #[.int .i64 (tellNewR most L now n f).1, .int .i64 (tellNewR most L now n f).2.1]) ∧ Turn w w' t mb most (tellNewR most L now n f).2.2 := by
  have hd := hn 0 (by omega) (by omega)
  have hd0 : 1 ≤ n.d := hd.d0
  have hd1 : n.d ≤ 2147483648 := hd.d1
  have hw : wrap64 (now + n.d) = now + n.d := by unfold wrap64; omega
  have HR : Hid (tellNewR most L now n f = if n.r = 65535 ∨ f = false then (3, 0, L) else if most ≤ L.length then (0, 6, L) else (1, 0, putN L (madeN n now))) := rfl
  generalize tellNewR most L now n f = R at *
  have hX : ∀ W, Below w.heap.size w W → Turn w W t mb most L := fun W hW => Turn.of h hW
  have hfin : ∀ W, Below w.heap.size w W → Calls Try.prog 47 #[.pointer (some ⟨t, 0, none⟩), rV (madeN n now)] W fun e w' => e = .returned (.tuple #[]) ∧ Turn w w' t mb most (putN L (madeN n now)) := fun W hW => by
    have h1 := hn (now + n.d) (by omega) (by omega)
    refine (put_any (h.below hW) (madeN n now) hi ⟨h1.q0, h1.q1, h1.r0, h1.r1, (by show (0 : Int) ≤ 65535; omega), (by show (65535 : Int) < 65536; omega), h1.u0, h1.u1, h1.d0, h1.d1⟩ (by have := putN_le (L := L) (n := madeN n now); omega)).mono ?_
    rintro e w' ⟨rfl, hT⟩
    exact ⟨rfl, hT.pre hW⟩
  have hr := h.row
  have ht := hr.lt
  have HK : Hid (∀ W, Below w.heap.size w W → W.cell? ⟨t, 1, none⟩ = some (.map (some mb)) ∧ W.cell? ⟨t, 0, none⟩ = some (.int .i64 most) ∧ ∀ ty, (Builtin.len_ #[74] ty #[.map (some mb)]).run Try.prog W = .ok (.int .i64 (L.length : Nat)) W) := fun W hW => ⟨(hr.below hW ht).cell 1, (hr.below hW ht).cell 0, fun ty => (h.below hW).map.len ty⟩
  clear h hn hd hd0 hd1 hl hi hr ha hb
  go_enter Try.func46, Try.ntmps46
  go_upto_region 1 with fail
  refine name_world (R := fun W => Code.wp _ _ _ _ W) (P := fun W => Below w.heap.size w W ∧ Row W w.heap.size 41 (ocs n)) _ ⟨ba _ _, Row.new _ _ _⟩ ?_
  rintro X ⟨hB, r0⟩
  have hs := r0.lt
  have c60 : X.cell? ⟨w.heap.size, 60, none⟩ = some (.int .u16 n.r) := (r0.cell 60).trans (oc60 n)
  have c79 : X.cell? ⟨w.heap.size, 79, none⟩ = some (.int .i64 n.d) := (r0.cell 79).trans (oc79 n)
  by_cases hi : n.r = 65535
  · obtain rfl : R = (3, 0, L) := by rw [HR.out, if_pos (.inl hi)]
    have hi' : (n.r == 65535) = true := by simpa using hi
    clear hi hw hfin HR HK
    go_wp2_with fail
    go_ret2
    exact ⟨rfl, hX _ hB⟩
  · have hi' : (n.r == 65535) = false := by simpa using hi
    cases f with
    | false =>
      obtain rfl : R = (3, 0, L) := by rw [HR.out, if_pos (.inr rfl)]
      clear hi hw hfin HR HK
      go_wp2_with fail
      go_ret2
      exact ⟨rfl, hX _ hB⟩
    | true =>
      replace HR : Hid (R = if most ≤ L.length then (0, 6, L) else (1, 0, putN L (madeN n now))) := by
        show R = _
        rw [HR.out, if_neg (by simp [hi])]
      clear hi
      generalize putN L (madeN n now) = PL at *
      go_upto_region 3 with fail
      generalize hN : L.length = N at *
      refine wp_region_noPanic ?_
      refine wp_region_held_drew (S := fun W => Below X.heap.size X W) (by kernel_rfl) ((Below.refl _ _).drew) (fun hHeld => ?_)
      refine take_lit (i := 0) (v := ?_) rfl (by kernel_rfl) (by kernel_rfl) (by kernel_rfl) (fun _ _ _ h => h) (Or.inl ⟨by rfl, ?_⟩) (by assumption) ?_
      rotate_left
      · (intro w hSw; (try dsimp only at hSw); go_simp <;> with_reducible rfl)
      try simp only [Act.put, List.setIfInBounds_toArray, List.set_cons_zero, List.set_cons_succ]
      refine take_lit (i := 1) (v := ?_) rfl (by kernel_rfl) (by kernel_rfl) (by kernel_rfl) (fun _ _ _ h => h) (Or.inl ⟨by rfl, ?_⟩) (by assumption) ?_
      rotate_left
      · (intro w hSw; (try dsimp only at hSw); go_simp <;> with_reducible rfl)
      try simp only [Act.put, List.setIfInBounds_toArray, List.set_cons_zero, List.set_cons_succ]
      refine take_lit (i := 2) (v := ?_) rfl (by kernel_rfl) (by kernel_rfl) (by kernel_rfl) (fun _ _ _ h => h) (Or.inl ⟨by rfl, ?_⟩) (by assumption) ?_
      rotate_left
      · (intro w hSw; (try dsimp only at hSw); go_simp <;> with_reducible rfl)
      try simp only [Act.put, List.setIfInBounds_toArray, List.set_cons_zero, List.set_cons_succ]
      refine take_lit (i := 3) (v := ?_) rfl (by kernel_rfl) (by kernel_rfl) (by kernel_rfl) (fun _ _ _ h => h) (Or.inl ⟨by rfl, ?_⟩) (by assumption) ?_
      rotate_left
      · (intro w hSw; (try dsimp only at hSw); have z := (HK.out _ (bt hB hSw)).1; go_simp <;> with_reducible rfl)
      try simp only [Act.put, List.setIfInBounds_toArray, List.set_cons_zero, List.set_cons_succ]
      refine take_lit (i := 4) (v := ?_) rfl (by kernel_rfl) (by kernel_rfl) (by kernel_rfl) (fun _ _ _ h => h) (Or.inl ⟨by rfl, ?_⟩) (by assumption) ?_
      rotate_left
      · (intro w hSw; (try dsimp only at hSw); have z := (HK.out _ (bt hB hSw)).2.2; go_simp <;> with_reducible rfl)
      try simp only [Act.put, List.setIfInBounds_toArray, List.set_cons_zero, List.set_cons_succ]
      refine take_lit (i := 5) (v := ?_) rfl (by kernel_rfl) (by kernel_rfl) (by kernel_rfl) (fun _ _ _ h => h) (Or.inl ⟨by rfl, ?_⟩) (by assumption) ?_
      rotate_left
      · (intro w hSw; (try dsimp only at hSw); go_simp <;> with_reducible rfl)
      try simp only [Act.put, List.setIfInBounds_toArray, List.set_cons_zero, List.set_cons_succ]
      refine take_lit (i := 6) (v := ?_) rfl (by kernel_rfl) (by kernel_rfl) (by kernel_rfl) (fun _ _ _ h => h) (Or.inl ⟨by rfl, ?_⟩) (by assumption) ?_
      rotate_left
      · (intro w hSw; (try dsimp only at hSw); go_simp <;> with_reducible rfl)
      try simp only [Act.put, List.setIfInBounds_toArray, List.set_cons_zero, List.set_cons_succ]
      refine take_lit (i := 7) (v := ?_) rfl (by kernel_rfl) (by kernel_rfl) (by kernel_rfl) (fun _ _ _ h => h) (Or.inl ⟨by rfl, ?_⟩) (by assumption) ?_
      rotate_left
      · (intro w hSw; (try dsimp only at hSw); go_simp <;> with_reducible rfl)
      try simp only [Act.put, List.setIfInBounds_toArray, List.set_cons_zero, List.set_cons_succ]
      refine take_lit (i := 8) (v := ?_) rfl (by kernel_rfl) (by kernel_rfl) (by kernel_rfl) (fun _ _ _ h => h) (Or.inl ⟨by rfl, ?_⟩) (by assumption) ?_
      rotate_left
      · (intro w hSw; (try dsimp only at hSw); have z := (HK.out _ (bt hB hSw)).2.1; go_simp <;> with_reducible rfl)
      try simp only [Act.put, List.setIfInBounds_toArray, List.set_cons_zero, List.set_cons_succ]
      refine take_lit (i := 9) (v := ?_) rfl (by kernel_rfl) (by kernel_rfl) (by kernel_rfl) (fun _ _ _ h => h) (Or.inl ⟨by rfl, ?_⟩) (by assumption) ?_
      rotate_left
      · (intro w hSw; (try dsimp only at hSw); go_simp <;> with_reducible rfl)
      try simp only [Act.put, List.setIfInBounds_toArray, List.set_cons_zero, List.set_cons_succ]
      refine wpAnyH_done (by kernel_rfl) ?_ _
      refine NoPanic.normal ?_
      refine name_world (R := fun W => Exit.then _ _ _ _ W) (P := fun W => Below X.heap.size X W) _ hHeld ?_
      clear hHeld
      intro W4 hHeld
      have b4 := bt hB hHeld
      have r04 := r0.below hHeld hs
      have c794 : W4.cell? ⟨w.heap.size, 79, none⟩ = some (.int .i64 n.d) := (r04.cell 79).trans (oc79 n)
      clear hHeld r0 c60 c79 HK
      by_cases hm : most ≤ (N : Int)
      · obtain rfl : R = (0, 6, L) := by rw [HR.out, if_pos hm]
        clear hfin
        go_wp2_with fail
        go_ret2
        exact ⟨rfl, hX _ b4⟩
      · obtain rfl : R = (1, 0, PL) := by rw [HR.out, if_neg hm]
        have hm2 : (N : Int) < most := by omega
        clear hm
        generalize hz : now + n.d = z at *
        have HM : Hid (((n.sM 65535).sU z).sS false = madeN n now) := by unfold madeN; rw [hz]; rfl
        generalize madeN n now = x at *
        go_wp2_with (first
          | (have kk := q3; go_at_call 47; refine (hfin _ b7).mono ?_; rintro e w8 ⟨rfl, hT⟩)
          | (have kk := q3; refine ldS (.tmp 6) rfl rfl _ _ x rfl (by rw [← HM.out]; exact q3.ro) ?_)
          | (have kk := q2; (with_reducible refine inL ?_ fun K hK => ?_); (focus rfl); refine wp_stSe (.tmp 33) (.const (.bool false)) rfl w.heap.size false ((n.sM 65535).sU z) rfl rfl q2 ?_; intro W7 g7 q3; refine hK _ _ ?_; have b7 := grown_below g7 b6 (Nat.le_refl _) b6.size; clear q2)
          | (have kk := q1; (with_reducible refine inL ?_ fun K hK => ?_); (focus rfl); refine wp_stU (.tmp 32) (.tmp 30) rfl w.heap.size z (n.sM 65535) rfl (by rw [← hw]; rfl) q1 ?_; intro W6 g6 q2; refine hK _ _ ?_; have b6 := grown_below g6 b5 (Nat.le_refl _) b5.size; clear q1)
          | (have kk := r04; (with_reducible refine inL ?_ fun K hK => ?_); (focus rfl); refine wp_stMe (.tmp 31) (.const (.int .u16 65535)) rfl w.heap.size 65535 n rfl rfl r04 ?_; intro W5 g5 q1; refine hK _ _ ?_; have b5 := grown_below g5 b4 (Nat.le_refl _) b4.size; clear r04))
        go_ret2
        exact ⟨rfl, hT⟩
end Go.Proofs.Ythofoocknmkdjaa

namespace Go.Proofs.Ythofoocknmkdjaa
open Go.RowKit Go.Maps
set_option linter.unusedSimpArgs false
set_option linter.unusedVariables false
set_option maxRecDepth 20000
/-- The numbers of a route that is handed in. -/
structure Ro.fit (n : Ro) : Prop where
  q0 : 0 ≤ n.q
  q1 : n.q < 65536
  r0 : 0 ≤ n.r
  r1 : n.r < 65536
  m0 : 0 ≤ n.m
  m1 : n.m < 65536
def stayB (old n : Ro) (f : Bool) : Bool := (old.s && !f) && decide (old.id.l = n.id.l)
def tellR (most : Int) (L : List Ro) (now : Int) (n : Ro) (f : Bool) : Int × Int × List Ro :=
  if n.d < 1 ∨ 2147483648 < n.d then (0, 2, L) else match getN L n.k with
  | none => tellNewR most L now n f
  | some old => if stayB old n f = true then (3, 0, L) else (2, 0, putN L (retold old now n))
theorem retold_k (old n : Ro) (now : Int) : (retold old now n).k = old.k := by
  unfold retold retr Ro.k
  split <;> rfl
theorem retold_ok {old n : Ro} {now : Int} (h : old.ok) (hf : n.fit) (d0 : 1 ≤ n.d) (d1 : n.d ≤ 2147483648) (ha : 0 ≤ now) (hb : now ≤ 17592186044416) : (retold old now n).ok := by
  have e0 := h.d0
  have e1 := h.d1
  unfold retold retr
  split
  · exact ⟨h.q0, h.q1, by show (0 : Int) ≤ 65535; omega, by show (65535 : Int) < 65536; omega, h.m0, h.m1, by show 0 ≤ now + old.d; omega, by show now + old.d ≤ 35184372088832; omega, h.d0, h.d1⟩
  · exact ⟨hf.q0, hf.q1, hf.r0, hf.r1, h.m0, h.m1, by show 0 ≤ now + n.d; omega, by show now + n.d ≤ 35184372088832; omega, d0, d1⟩
theorem put_same {L : List Ro} {n old : Ro} (h : getN L n.k = some old) : (putN L n).length = L.length := putN_in (by rw [h]; rfl)
set_option maxHeartbeats 8000000 in
theorem tell_any {w : World} {t mb : Nat} {most : Int} {L : List Ro} (h : Tb w t mb most L) (n : Ro) (now : Int) (f : Bool) (ha : 0 ≤ now) (hb : now ≤ 17592186044416) (hi : wfK n.k) (hf : n.fit) (hl : L.length < 1000000) :
    Calls Try.prog 26 #[.pointer (some ⟨t, 0, none⟩), .int .i64 now, rV n, .bool f] w fun e w' => e = .returned (.tuple #[.int .i64 (tellR most L now n f).1, .int .i64 (tellR most L now n f).2.1]) ∧ Turn w w' t mb most (tellR most L now n f).2.2 := by
  have HR : Hid (tellR most L now n f = if n.d < 1 ∨ 2147483648 < n.d then (0, 2, L) else match getN L n.k with
    | none => tellNewR most L now n f
    | some old => if stayB old n f = true then (3, 0, L) else (2, 0, putN L (retold old now n))) := rfl
  generalize tellR most L now n f = R at *
  have hX : Hid (∀ W, Below w.heap.size w W → Turn w W t mb most L) := fun W hW => Turn.of h hW
  have HT : Hid (Tb w t mb most L) := h
  have HA : Hid (0 ≤ now ∧ now ≤ 17592186044416) := ⟨ha, hb⟩
  have HF : Hid n.fit := hf
  clear h hf ha hb
  go_enter Try.func26, Try.ntmps26
  go_upto_region 1 with fail
  refine name_world (R := fun W => Code.wp _ _ _ _ W) (P := fun W => Below w.heap.size w W ∧ Row W w.heap.size 41 (ocs n)) _ ⟨ba _ _, Row.new _ _ _⟩ ?_
  rintro X ⟨hB, r0⟩
  have hs := r0.lt
  have c79 : X.cell? ⟨w.heap.size, 79, none⟩ = some (.int .i64 n.d) := (r0.cell 79).trans (oc79 n)
  by_cases h1 : n.d < 1
  · obtain rfl : R = (0, 2, L) := by rw [HR.out, if_pos (.inl h1)]
    clear HR HT
    go_wp2_with fail
    go_ret2
    exact ⟨rfl, hX.out _ hB⟩
  by_cases h2 : 2147483648 < n.d
  · obtain rfl : R = (0, 2, L) := by rw [HR.out, if_pos (.inr h2)]
    clear HR HT
    go_wp2_with fail
    go_ret2
    exact ⟨rfl, hX.out _ hB⟩
  replace HR : Hid (R = match getN L n.k with
    | none => tellNewR most L now n f
    | some old => if stayB old n f = true then (3, 0, L) else (2, 0, putN L (retold old now n))) := by
    show R = _
    rw [HR.out, if_neg (by omega)]
  have HD : Hid (1 ≤ n.d ∧ n.d ≤ 2147483648) := ⟨by omega, by omega⟩
  have hG : Calls Try.prog 15 #[.pointer (some ⟨t, 0, none⟩), (Value.agg (qcells n.p).toArray), .int .i64 n.i, (Value.agg (acells n.a).toArray)] X (Gives X (.tuple #[rV ((getN L n.k).getD zeroR), .bool (getN L n.k).isSome])) := get_any (HT.out.below hB) n.k hi
  have c34 : X.cell? ⟨w.heap.size, 34, none⟩ = some (.int .i64 n.i) := (r0.cell 34).trans (oc34 n)
  have hq : LQ X w.heap.size 0 n.p := r0.ro.q
  have hla : LA X w.heap.size 35 n.a := by have := r0.ro.a; simpa using this
  cases hg : getN L n.k with
  | none =>
    have eR : tellNewR most L now n f = R := by rw [HR.out, hg]
    rw [hg] at hG
    have HN : Hid (∀ W, Below X.heap.size X W → Calls Try.prog 46 #[.pointer (some ⟨t, 0, none⟩), .int .i64 now, rV n, .bool f] W fun e w' => e = .returned (.tuple #[.int .i64 R.1, .int .i64 R.2.1]) ∧ Turn w w' t mb most R.2.2) := fun W hW => by
      rw [← eR]
      have hb := bt hB hW
      refine (tellNew_any (HT.out.below hb) n now f HA.out.1 HA.out.2 hi (fun u u0 u1 => ⟨HF.out.q0, HF.out.q1, HF.out.r0, HF.out.r1, HF.out.m0, HF.out.m1, u0, u1, HD.out.1, HD.out.2⟩) hl).mono ?_
      rintro e w' ⟨rfl, hT⟩
      exact ⟨rfl, hT.pre hb⟩
    clear HR hg eR
    go_wp2_with (first
      | (have kk := b4; go_at_call 46; refine (HN.out _ b4).mono ?_; rintro e w5 ⟨rfl, hT⟩)
      | (have kk := b4; refine ldS (.tmp 6) rfl rfl _ _ n rfl (r0.below b4 hs).ro ?_)
      | (have kk := hr2; refine stS (.tmp 10) (.tmp 31) rfl rfl g2 _ _ rfl rfl hr2 ?_; intro W3 g3 r3; have b4 := grown_below g3 b2 hge2' b2.size; clear hr2)
      | (have kk := b1; refine alG infoRz rfl rfl ?_; intro g2 W2 hge2 hgl2 hB2 hr2; have b2 := bt b1 hB2; have hge2' := (Nat.le_trans b1.size hge2); clear b1)
      | (have kk := hG; go_at_call 15; refine hG.mono ?_; rintro e w1 ⟨rfl, b1⟩; clear hG)
      | (have kk := hG; refine ldA (.tmp 28) rfl rfl _ _ n.a rfl hla ?_)
      | (have kk := hG; refine ldQ (.tmp 24) rfl rfl _ _ n.p rfl hq ?_))
    go_ret2
    exact ⟨rfl, hT⟩
  | some old =>
    replace HR : Hid (R = if stayB old n f = true then (3, 0, L) else (2, 0, putN L (retold old now n))) := by
      show R = _
      rw [HR.out, hg]
    rw [hg] at hG
    dsimp only [Option.getD, Option.isSome] at hG
    obtain ⟨hmem, hkk⟩ := getN_some hg
    have HO : Hid old.ok := HT.out.nok old hmem
    have HK : Hid (getN L (retold old now n).k = some old ∧ wfK (retold old now n).k) := by
      show _ ∧ _
      rw [retold_k, hkk]; exact ⟨hg, hi⟩
    clear hg hmem hkk
    go_upto_region 8 with (first
      | (have kk := hr2; refine stS (.tmp 10) (.tmp 31) rfl rfl g2 old _ rfl rfl hr2 ?_; intro W3 g3 r3; have b4 := grown_below g3 b2 hge2' b2.size; clear hr2)
      | (have kk := b1; refine alG infoRz rfl rfl ?_; intro g2 W2 hge2 hgl2 hB2 hr2; have b2 := bt b1 hB2; have hge2' := (Nat.le_trans b1.size hge2); clear b1)
      | (have kk := hG; go_at_call 15; refine hG.mono ?_; rintro e w1 ⟨rfl, b1⟩; clear hG)
      | (have kk := hG; refine ldA (.tmp 28) rfl rfl _ _ n.a rfl hla ?_)
      | (have kk := hG; refine ldQ (.tmp 24) rfl rfl _ _ n.p rfl hq ?_))
    have q0 := r0.below b4 hs
    have hBX := bt hB b4
    clear hq hla c34 c79 r0 hB b4 b2 g3
    have c80 : W3.cell? ⟨g2, 80, none⟩ = some (.bool old.s) := (r3.cell 80).trans (oc80 old)
    have li1 : LI W3 g2 51 old.id := by have := r3.ro.id; simpa using this
    have li2 : LI W3 w.heap.size 51 n.id := by have := q0.ro.id; simpa using this
    have HE := run_eqlI old.id n.id
    cases hst : stayB old n f with
    | true =>
      obtain rfl : R = (3, 0, L) := by rw [HR.out, if_pos hst]
      clear HR
      unfold stayB at hst
      simp only [Bool.and_eq_true, Bool.not_eq_true'] at hst
      obtain ⟨⟨hst1, rfl⟩, hst3⟩ := hst
      rw [hst1] at c80
      rw [hst3] at HE
      clear hst1 hst3
      go_wp2_with (first
        | (refine ldI (.tmp 49) rfl rfl _ _ old.id rfl li1 ?_)
        | (refine ldI (.tmp 51) rfl rfl _ _ n.id rfl li2 ?_))
      go_ret2
      exact ⟨rfl, hX.out _ hBX⟩
    | false =>
      have HR3 : Hid (R = (2, 0, putN L (retold old now n))) := by show R = _; rw [HR.out, if_neg (by rw [hst]; decide)]
      have HP : Hid (∀ W, Below w.heap.size w W → Calls Try.prog 47 #[.pointer (some ⟨t, 0, none⟩), rV (retold old now n)] W fun e w' => e = .returned (.tuple #[]) ∧ Turn w w' t mb most (putN L (retold old now n))) := fun W hW => by
        refine (put_any (HT.out.below hW) (retold old now n) HK.out.2 (retold_ok HO.out HF.out HD.out.1 HD.out.2 HA.out.1 HA.out.2) (by rw [put_same HK.out.1]; omega)).mono ?_
        rintro e w' ⟨rfl, hT⟩
        exact ⟨rfl, hT.pre hW⟩
      have HRe : Hid (∀ W, Calls Try.prog 48 #[rV old, .int .i64 now, rV n] W (Gives W (rV (retold old now n)))) := fun W => retold_any old n now W HA.out.1 HA.out.2 HD.out.1 HD.out.2 HO.out.d0 HO.out.d1
      have hcut : (old.s && !f) = false ∨ decide (old.id.l = n.id.l) = false := by
        unfold stayB at hst
        cases h5 : (old.s && !f)
        · exact .inl rfl
        · rw [h5] at hst
          exact .inr (by simpa using hst)
      clear HR hst HT HK HO HF hX
      generalize retold old now n = x at *
      generalize putN L x = PL at *
      obtain rfl : R = (2, 0, PL) := HR3.out
      generalize old.s = os at *
      generalize decide (old.id.l = n.id.l) = oe at *
      rcases hcut with hcut | rfl
      · cases os with
        | false =>
          clear hcut
          go_wp2_with (first
            | (have kk := q9; go_at_call 47; refine (HP.out _ q9).mono ?_; rintro e w5 ⟨rfl, hT⟩)
            | (have kk := HRe; go_at_call 48; refine (HRe.out _).mono ?_; clear HRe kk; rintro e w5 ⟨rfl, b5⟩; have q9 := bt hBX b5)
            | (have kk := HRe; refine ldS (.tmp 6) rfl rfl _ _ n rfl q0.ro ?_)
            | (have kk := HRe; refine ldS (.tmp 10) rfl rfl _ _ old rfl r3.ro ?_)
            | (refine ldI (.tmp 49) rfl rfl _ _ old.id rfl li1 ?_)
            | (refine ldI (.tmp 51) rfl rfl _ _ n.id rfl li2 ?_))
          go_ret2
          exact ⟨rfl, hT⟩
        | true =>
          obtain rfl : f = true := by simpa using hcut
          clear hcut
          go_wp2_with (first
            | (have kk := q9; go_at_call 47; refine (HP.out _ q9).mono ?_; rintro e w5 ⟨rfl, hT⟩)
            | (have kk := HRe; go_at_call 48; refine (HRe.out _).mono ?_; clear HRe kk; rintro e w5 ⟨rfl, b5⟩; have q9 := bt hBX b5)
            | (have kk := HRe; refine ldS (.tmp 6) rfl rfl _ _ n rfl q0.ro ?_)
            | (have kk := HRe; refine ldS (.tmp 10) rfl rfl _ _ old rfl r3.ro ?_)
            | (refine ldI (.tmp 49) rfl rfl _ _ old.id rfl li1 ?_)
            | (refine ldI (.tmp 51) rfl rfl _ _ n.id rfl li2 ?_))
          go_ret2
          exact ⟨rfl, hT⟩
      · cases os with
        | false =>
          go_wp2_with (first
            | (have kk := q9; go_at_call 47; refine (HP.out _ q9).mono ?_; rintro e w5 ⟨rfl, hT⟩)
            | (have kk := HRe; go_at_call 48; refine (HRe.out _).mono ?_; clear HRe kk; rintro e w5 ⟨rfl, b5⟩; have q9 := bt hBX b5)
            | (have kk := HRe; refine ldS (.tmp 6) rfl rfl _ _ n rfl q0.ro ?_)
            | (have kk := HRe; refine ldS (.tmp 10) rfl rfl _ _ old rfl r3.ro ?_)
            | (refine ldI (.tmp 49) rfl rfl _ _ old.id rfl li1 ?_)
            | (refine ldI (.tmp 51) rfl rfl _ _ n.id rfl li2 ?_))
          go_ret2
          exact ⟨rfl, hT⟩
        | true =>
          cases f with
          | true =>
            go_wp2_with (first
              | (have kk := q9; go_at_call 47; refine (HP.out _ q9).mono ?_; rintro e w5 ⟨rfl, hT⟩)
              | (have kk := HRe; go_at_call 48; refine (HRe.out _).mono ?_; clear HRe kk; rintro e w5 ⟨rfl, b5⟩; have q9 := bt hBX b5)
              | (have kk := HRe; refine ldS (.tmp 6) rfl rfl _ _ n rfl q0.ro ?_)
              | (have kk := HRe; refine ldS (.tmp 10) rfl rfl _ _ old rfl r3.ro ?_)
              | (refine ldI (.tmp 49) rfl rfl _ _ old.id rfl li1 ?_)
              | (refine ldI (.tmp 51) rfl rfl _ _ n.id rfl li2 ?_))
            go_ret2
            exact ⟨rfl, hT⟩
          | false =>
            go_wp2_with (first
              | (have kk := q9; go_at_call 47; refine (HP.out _ q9).mono ?_; rintro e w5 ⟨rfl, hT⟩)
              | (have kk := HRe; go_at_call 48; refine (HRe.out _).mono ?_; clear HRe kk; rintro e w5 ⟨rfl, b5⟩; have q9 := bt hBX b5)
              | (have kk := HRe; refine ldS (.tmp 6) rfl rfl _ _ n rfl q0.ro ?_)
              | (have kk := HRe; refine ldS (.tmp 10) rfl rfl _ _ old rfl r3.ro ?_)
              | (refine ldI (.tmp 49) rfl rfl _ _ old.id rfl li1 ?_)
              | (refine ldI (.tmp 51) rfl rfl _ _ n.id rfl li2 ?_))
            go_ret2
            exact ⟨rfl, hT⟩
end Go.Proofs.Ythofoocknmkdjaa

namespace Go.Proofs.Ythofoocknmkdjaa
open Go.RowKit Go.Maps Go.Shelf
set_option linter.unusedSimpArgs false
set_option linter.unusedVariables false
set_option maxRecDepth 20000
theorem retr_ok {n : Ro} {now : Int} (h : n.ok) (ha : 0 ≤ now) (hb : now ≤ 17592186044416) : (retr n now).ok := by
  have e0 := h.d0
  have e1 := h.d1
  exact ⟨h.q0, h.q1, by show (0 : Int) ≤ 65535; omega, by show (65535 : Int) < 65536; omega, h.m0, h.m1, by show 0 ≤ now + n.d; omega, by show now + n.d ≤ 35184372088832; omega, h.d0, h.d1⟩
/-- A row's element, where it lies. -/
theorem own_elem {w : World} {B : Nat} {a : Option Addr} {n c : Nat} {G : List Ro} (ho : kN.Own w B (.slice a n c) G) (hne : G ≠ []) : ∃ g, a = some ⟨g, 0, none⟩ ∧ B ≤ g ∧ g < w.heap.size ∧ ∀ (j : Nat) (hj : j < G.length), LS w g (j * 81) G[j] := by
  obtain ⟨a', c', e, h⟩ := Kd.own_at ho
  cases e
  obtain ⟨g, e, h1, h2, _, h3⟩ := h hne
  exact ⟨g, e, h1, h2, fun j hj => h3 j G[j] (List.getElem?_eq_getElem hj)⟩
theorem mem_any {L : List Ro} {n : Ro} (h : n ∈ L) : L.any (keyB n.k) = true := List.any_eq_true.2 ⟨n, h, keyB_self n⟩
/-- What a loop over rows that keeps routes anew holds. -/
structure UpI (w : World) (t mb : Nat) (most : Int) (f : Ro → Ro) (L K : List Ro) (B : Nat) (v : Value) (j : Nat) (wr : World) : Prop where
  le : j ≤ K.length
  tn : Turn w wr t mb most (updR f L (K.take j))
  ow : kN.Own wr B v K
  sz : B ≤ wr.heap.size
theorem UpI.put {w : World} {t mb : Nat} {most : Int} {f : Ro → Ro} {L K : List Ro} {B : Nat} {v : Value} {j : Nat} {wr : World} (h : UpI w t mb most f L K B v j wr) (hj : j < K.length) (hf : ∀ n, (f n).k = n.k) (hK : ∀ n ∈ K, n ∈ L) (hL : L.length ≤ 1000000) (hok : ∀ n ∈ K, (f n).ok) (hwf : ∀ n ∈ K, wfK n.k) :
    ∀ W, Below wr.heap.size wr W → Calls Try.prog 47 #[.pointer (some ⟨t, 0, none⟩), rV (f K[j])] W fun e w' => e = .returned (.tuple #[]) ∧ UpI w t mb most f L K B v (j + 1) w' := fun W hb => by
  have hmem := List.getElem_mem hj
  have hlen : (putN (updR f L (K.take j)) (f K[j])).length ≤ 1000000 := by
    rw [← updR_take hj, updR_len hf (fun n hn => mem_any (hK n (List.mem_of_mem_take hn)))]
    exact hL
  have hT := h.tn.post hb
  refine (put_any (h.tn.tb.below hb) (f K[j]) (by rw [hf]; exact hwf _ hmem) (hok _ hmem) hlen).mono ?_
  rintro e w' ⟨rfl, hT2⟩
  refine ⟨rfl, hj, ?_, ?_, ?_⟩
  · rw [updR_take hj]
    exact hT.trans hT2
  · exact hT2.own (h.tn.tb.below hb) (own_below h.ow hb)
  · exact Nat.le_trans h.sz (Nat.le_trans hb.size hT2.gr.size)
set_option maxHeartbeats 8000000 in
theorem retract_any {w : World} {t mb : Nat} {most : Int} {L : List Ro} (h : Tb w t mb most L) (now i : Int) (a : Ad) (ha : 0 ≤ now) (hb : now ≤ 17592186044416) :
    Calls Try.prog 27 #[.pointer (some ⟨t, 0, none⟩), .int .i64 now, .int .i64 i, (Value.agg (acells a).toArray)] w fun e w' => e = .returned (.int .i64 ((L.filter (mineB i a)).length : Nat)) ∧ Turn w w' t mb most (mapR (fun n => retr n now) (mineB i a) L) := by
  have hmf : ∀ (fn : Fn) (first cap : Array Value) (w : World), (Instr.makeFunc fn first cap).run Try.prog w = .ok (.func fn first cap) w := fun _ _ _ _ => rfl
  have hok := h.nok
  have hwf := h.map.wf
  have hnd := h.map.nd
  have hll := h.ll
  have HT : Hid (Tb w t mb most L) := h
  obtain ⟨hB, r0, r1⟩ := low_rows w [.int .i64 i] (acells a) 3 32
  clear h
  go_enter Try.func27, Try.ntmps27
  go_upto_region 1 with fail
  refine name_world (R := fun W => Code.wp _ _ _ _ W) (P := fun W => Below w.heap.size w W ∧ Row W w.heap.size 3 [.int .i64 i] ∧ Row W (w.heap.size + 1) 32 (acells a)) _ ⟨hB, r0, r1⟩ ?_
  clear hB r0 r1
  rintro X ⟨hB, r0, r1⟩
  have hW := where_any (HT.out.below hB) (mineB i a) 49 #[.pointer (some ⟨w.heap.size, 0, none⟩), .pointer (some ⟨w.heap.size + 1, 0, none⟩)] (enters_of Try.func49 (by kernel_rfl) rfl) (fun n _ W hW => retrC_any n i a w.heap.size (w.heap.size + 1) W (r0.below hW r0.lt) (r1.below hW r1.lt))
  clear r0 r1
  go_upto_region 2 with (go_at_call 42; refine hW.mono ?_; rintro e w1 ⟨va, vc, K, rfl, hp, hasc, hO, b1⟩)
  have hKL : ∀ n ∈ K, n ∈ L := fun n hn => (List.mem_filter.1 (hp.mem_iff.1 hn)).1
  have hKn : K.length ≤ 1000000 := by
    rw [hp.length_eq]
    exact Nat.le_trans (List.length_filter_le _ _) hll
  have HF : Hid (updR (fun n => retr n now) L K = mapR (fun n => retr n now) (mineB i a) L ∧ (L.filter (mineB i a)).length = K.length) := ⟨updR_eq (f := fun n => retr n now) (fun _ => rfl) hnd hp, hp.length_eq.symm⟩
  have HU : UpI w t mb most (fun n => retr n now) L K X.heap.size (.slice va K.length vc) 0 w1 := ⟨Nat.zero_le _, Turn.of HT.out (bt hB b1), hO, b1.size⟩
  have HPut : Hid (∀ (j : Nat) (wr : World) (hj : j < K.length), UpI w t mb most (fun n => retr n now) L K X.heap.size (.slice va K.length vc) j wr → ∀ W, Below wr.heap.size wr W → Calls Try.prog 47 #[.pointer (some ⟨t, 0, none⟩), rV (retr K[j] now)] W fun e w' => e = .returned (.tuple #[]) ∧ UpI w t mb most (fun n => retr n now) L K X.heap.size (.slice va K.length vc) (j + 1) w') :=
    fun j wr hj hu => hu.put hj (fun _ => rfl) hKL hll (fun n hn => retr_ok (hok n (hKL n hn)) ha hb) (fun n hn => hwf n (hKL n hn))
  have HRt : Hid (∀ (j : Nat) (hj : j < K.length) (W : World), Calls Try.prog 50 #[rV K[j], .int .i64 now] W (Gives W (rV (retr K[j] now)))) := fun j hj W => retr_any K[j] now W ha hb (hok _ (hKL _ (List.getElem_mem hj))).d0 (hok _ (hKL _ (List.getElem_mem hj))).d1
  clear hok hwf hnd hll hp hasc hKL hO b1 hB hW ha hb HT
  go_wp2_with fail
  go_loopw [17] (fun u wr => ∃ (j : Nat), u = .int .i64 j ∧ UpI w t mb most (fun n => retr n now) L K X.heap.size (.slice va K.length vc) j wr) (fun u _ => K.length - (intOf u).toNat)
  case atStart => exact ⟨0, rfl, HU⟩
  case round =>
    clear HU
    obtain ⟨j, rfl, hu⟩ := hrel
    have hj := hu.le
    by_cases hlt : j < K.length
    · obtain ⟨g, rfl, hg1, hg2, hel⟩ := own_elem hu.ow (fun e => by rw [e] at hlt; simp at hlt)
      have hq := hel j hlt
      have hji : (j : Int) < (K.length : Int) := by omega
      have hw64 : wrap64 ((j : Int) + 1) = (j : Int) + 1 := by unfold wrap64; omega
      have HM : Hid (K.length - ((j : Int) + 1).toNat < K.length - ((j : Int)).toNat) := meas hlt
      have hP := HPut.out j wr hlt hu
      have hR := HRt.out j hlt
      obtain ⟨n, hn⟩ : ∃ n, K[j] = n := ⟨_, rfl⟩
      rw [hn] at hq hP hR
      clear HPut HRt HF hel hu hg1 hj hn hlt hKn
      go_wp2_with (first
        | (have kk := b5; go_at_call 47; refine (hP _ b5).mono ?_; rintro e w6 ⟨rfl, hu⟩)
        | (have kk := b3; go_at_call 50; refine (hR _).mono ?_; rintro e w5 ⟨rfl, b5⟩; replace b5 := bt b3 b5)
        | (have kk := b3; refine ldS (.tmp 11) rfl rfl _ _ n rfl r3.ro ?_)
        | (have kk := r2; refine stS (.tmp 11) (.tmp 20) rfl rfl g2 n _ rfl rfl r2 ?_; intro W3 g3 r3; have b3 := grown_below g3 hB2 hge2 hB2.size; clear r2)
        | (refine alG infoRz rfl rfl ?_; intro g2 W2 hge2 hgl2 hB2 r2)
        | (refine ldS (.tmp 19) rfl rfl _ _ n rfl hq ?_))
      go_roundw
      case rel => exact ⟨j + 1, by first | rfl | go_num, hu⟩
      case measure => rw [hw64]; simp only [intOf]; exact HM.out
    · have hje : j = K.length := by omega
      subst hje
      have hT := hu.tn
      rw [List.take_length] at hT
      rw [HF.out.1] at hT
      clear HPut HRt hu hlt hj
      go_wp2_with fail
      go_ret
      exact ⟨by rw [HF.out.2]; rfl, hT⟩
end Go.Proofs.Ythofoocknmkdjaa
