/-
  The law RttTells returns true for every input.
-/
import Derived.Test.YthcjhglddedjhaaR2
namespace Go.Proofs.Ythcjhglddedjhaa
open Go.RowKit
set_option linter.unusedSimpArgs false
set_option linter.unusedVariables false
theorem take_more {l : List Int} {j : Nat} (h : j < l.length) {P : Int → Prop} (hp : ∀ s ∈ l.take j, P s) (hj : P l[j]) : ∀ s ∈ l.take (j + 1), P s := by
  intro s hs
  rw [List.take_succ_eq_append_getElem h] at hs
  rcases List.mem_append.1 hs with hs | hs
  · exact hp s hs
  · rw [List.mem_singleton.1 hs]; exact hj
def Good (l : List Int) (j : Nat) : Prop := ∀ s ∈ l.take j, 0 ≤ s ∧ s ≤ 2147483648
set_option maxHeartbeats 8000000 in
theorem tells_walk (c : Rt) (a b d now old : Int) (ad : Option Addr) (n k : Nat) (l : List Int) (t : Int) (w : World) (hs : Is w ad n l) :
    Calls Try.prog 3 #[rtV c, .int .u32 a, .int .u32 b, .int .u32 d, .int .u32 now, .int .i64 old, .slice ad n k, .int .i64 t] w (Gives w (.bool true)) := by
  have A0 := fun W => may_any c W
  have A3 := fun W => live_any W
  have K := @mayB_ok c
  have HL : Hid (l.length = n) := hs.len
  generalize mayB c = M at *
  have HB := alloc_b w (.cells #[.bool c.on, .int .i64 c.mi, .int .i64 c.ma, .int .i64 c.co, .int .i64 c.de] 23)
  cases M with
  | false =>
    clear K HL hs
    go_enter Try.func3, Try.ntmps3
    go_wp2_with (first
    | (have kk := A0; go_at_call 7; refine (A0 _).mono ?_; rintro e w1 ⟨rfl, hw⟩; clear A0 kk; replace HB := HB.trans (hw.mono HB.size); clear hw)
    | (have kk := A3; go_at_call 8; refine (A3 _).mono ?_; rintro e w' ⟨rfl, hw⟩; clear A3 kk))
    go_ret
    exact ⟨rfl, HB.trans (hw.mono HB.size)⟩
  | true =>
    by_cases h1 : (n : Int) ≤ 300
    case neg =>
      clear K
      clear HL hs
      go_enter Try.func3, Try.ntmps3
      go_wp2_with (first
      | (have kk := A0; go_at_call 7; refine (A0 _).mono ?_; rintro e w1 ⟨rfl, hw⟩; clear A0 kk; replace HB := HB.trans (hw.mono HB.size); clear hw)
      | (have kk := A3; go_at_call 8; refine (A3 _).mono ?_; rintro e w' ⟨rfl, hw⟩; clear A3 kk))
      go_ret
      exact ⟨rfl, HB.trans (hw.mono HB.size)⟩
    by_cases h3 : old ≤ 2147483648
    case neg =>
      clear K
      clear HL hs
      go_enter Try.func3, Try.ntmps3
      go_wp2_with (first
      | (have kk := A0; go_at_call 7; refine (A0 _).mono ?_; rintro e w1 ⟨rfl, hw⟩; clear A0 kk; replace HB := HB.trans (hw.mono HB.size); clear hw)
      | (have kk := A3; go_at_call 8; refine (A3 _).mono ?_; rintro e w' ⟨rfl, hw⟩; clear A3 kk))
      go_ret
      exact ⟨rfl, HB.trans (hw.mono HB.size)⟩
    by_cases h4 : t ≤ 2147483648
    case neg =>
      clear K
      clear HL hs
      go_enter Try.func3, Try.ntmps3
      go_wp2_with (first
      | (have kk := A0; go_at_call 7; refine (A0 _).mono ?_; rintro e w1 ⟨rfl, hw⟩; clear A0 kk; replace HB := HB.trans (hw.mono HB.size); clear hw)
      | (have kk := A3; go_at_call 8; refine (A3 _).mono ?_; rintro e w' ⟨rfl, hw⟩; clear A3 kk))
      go_ret
      exact ⟨rfl, HB.trans (hw.mono HB.size)⟩
    by_cases h5 : -2147483648 ≤ t
    case neg =>
      clear K
      clear HL hs
      go_enter Try.func3, Try.ntmps3
      go_wp2_with (first
      | (have kk := A0; go_at_call 7; refine (A0 _).mono ?_; rintro e w1 ⟨rfl, hw⟩; clear A0 kk; replace HB := HB.trans (hw.mono HB.size); clear hw)
      | (have kk := A3; go_at_call 8; refine (A3 _).mono ?_; rintro e w' ⟨rfl, hw⟩; clear A3 kk))
      go_ret
      exact ⟨rfl, HB.trans (hw.mono HB.size)⟩
    have ok : Hid c.ok := K rfl
    clear K
    have hs0 : Hid (Is w ad n l) := hs
    clear hs
    go_enter Try.func3, Try.ntmps3
    go_wp2_with (have kk := A0; go_at_call 7; refine (A0 _).mono ?_; rintro e w1 ⟨rfl, hw⟩; clear A0 kk; have r1 := (Row.new w 23 [.bool c.on, .int .i64 c.mi, .int .i64 c.ma, .int .i64 c.co, .int .i64 c.de]).below hw (by simp); replace HB := HB.trans (hw.mono HB.size); clear hw)
    go_loopw [17] (fun i wr => ∃ (j : Nat), j ≤ n ∧ i = .int .i64 j ∧ Good l j ∧ w1 = wr) (fun i _ => n - (intOf i).toNat)
    case atStart => exact ⟨0, Nat.zero_le _, rfl, fun _ h => by simp at h, rfl⟩
    case round =>
      obtain ⟨j, hj, rfl, hm, rfl⟩ := hrel
      by_cases hlt : j < n
      · obtain ⟨g, o, rfl, hg, hl⟩ : ∃ g o, ad = some ⟨g, o, none⟩ ∧ g < w.heap.size ∧ ∀ (j : Nat) (v : Int), l[j]? = some v → w.cell? ⟨g, o + j, none⟩ = some (.int .i64 v) := hs0.out.lies.resolve_left (by omega)
        have hjl : j < l.length := by rw [HL.out]; exact hlt
        have hc : w1.cell? ⟨g, o + j, none⟩ = some (.int .i64 l[j]) := (HB.cell (p := ⟨g, o + j, none⟩) hg).trans (hl j _ (List.getElem?_eq_getElem hjl))
        have hm2 : Hid (Good l j) := hm
        clear hm
        have hji : (j : Int) < (n : Int) := by omega
        obtain ⟨v, hv⟩ : ∃ v, l[j] = v := ⟨_, rfl⟩
        rw [hv] at hc
        replace hv : Hid (l[j] = v) := hv
        by_cases v0 : 0 ≤ v
        case neg =>
          clear hl hm2
          go_wp2_with (have kk := A3; go_at_call 8; refine (A3 _).mono ?_; rintro e w' ⟨rfl, hw⟩; clear A3 kk)
          go_ret
          exact ⟨rfl, HB.trans (hw.mono HB.size)⟩
        by_cases v1 : v ≤ 2147483648
        case neg =>
          clear hl hm2
          go_wp2_with (have kk := A3; go_at_call 8; refine (A3 _).mono ?_; rintro e w' ⟨rfl, hw⟩; clear A3 kk)
          go_ret
          exact ⟨rfl, HB.trans (hw.mono HB.size)⟩
        have hn : Hid (Good l (j + 1)) := take_more hjl hm2.out (by rw [hv.out]; exact ⟨v0, v1⟩)
        clear hm2 hv hl HL
        go_wp2_with (fail)
        go_roundw
        case rel => exact ⟨j + 1, by omega, by go_num, hn.out, by simp⟩
        case measure => simp [intOf]; omega
      · have hll : l.take j = l := List.take_of_length_le (by rw [HL.out]; omega)
        unfold Good at hm
        rw [hll] at hm
        have B1 := fun W => sample_any a b d now W
        have B2 := fun W => rsample_any a b d now W
        have C1 := fun W (hb : Below w.heap.size w W) => smooth_any c old ad n k l W ok.out.d0 ok.out.d1 h3 hm (by omega) (hs0.out.below (Nat.le_refl _) hb)
        have C2 := fun W (hb : Below w.heap.size w W) => rsmooth_any c old ad n k l W ok.out.d0 ok.out.d1 h3 hm (by omega) (hs0.out.below (Nat.le_refl _) hb)
        have C3 := fun W => cost_any c t W ok.out.m0 ok.out.m2 (Int.le_trans (by decide) ok.out.c0) ok.out.c1
        have C4 := fun W => rcost_any c t W ok.out.m0 ok.out.m2 (Int.le_trans (by decide) ok.out.c0) ok.out.c1
        have C5 := fun W => clock_any t W
        have e5 : clkZ t = IntKind.u32.wrap (IntKind.u32.wrap t * 1000) := rfl
        have hji : ¬ (j : Int) < (n : Int) := by omega
        generalize costR c t = x2 at *
        generalize smZ c.de old l = x3 at *
        generalize smpZ a b d now = x4 at *
        generalize smpB a b d now = x5 at *
        obtain ⟨on, mi, ma, co, de⟩ := c
        clear hm hll hs0 HL ok
        go_wp2_with (first
          | (have kk := B1; go_at_call 9; refine (B1 _).mono ?_; rintro e w4 ⟨rfl, rfl⟩; clear B1 kk)
          | (have kk := B2; go_at_call 10; refine (B2 _).mono ?_; rintro e w4 ⟨rfl, rfl⟩; clear B2 kk))
        have HK : Hid (∀ W W', (Below w.heap.size w W ∧ Row W w.heap.size 23 (rcs ⟨on, mi, ma, co, de⟩)) → Below W.heap.size W W' → Below w.heap.size w W' ∧ Row W' w.heap.size 23 (rcs ⟨on, mi, ma, co, de⟩)) := fun W W' h hb => ⟨h.1.trans (hb.mono h.1.size), h.2.below hb h.2.lt⟩
        refine wp_region_noPanic ?_
        refine wp_region_held_drew (S := fun W => Below w.heap.size w W ∧ Row W w.heap.size 23 (rcs ⟨on, mi, ma, co, de⟩)) (by kernel_rfl) (⟨HB.drew, r1⟩) (fun hHeld => ?_)
        refine take_lit (i := 0) (v := ?_) rfl (by kernel_rfl) (by kernel_rfl) (by kernel_rfl) (fun _ _ _ h => h) (Or.inl ⟨by rfl, ?_⟩) (by assumption) ?_
        rotate_left
        · (intro w hSw; (try dsimp only at hSw); go_simp <;> with_reducible rfl)
        try simp only [Act.put, List.setIfInBounds_toArray, List.set_cons_zero, List.set_cons_succ]
        refine take_lit (i := 1) (v := ?_) rfl (by kernel_rfl) (by kernel_rfl) (by kernel_rfl) (fun _ _ _ h => h) (Or.inl ⟨by rfl, ?_⟩) (by assumption) ?_
        rotate_left
        · (intro w hSw; (try dsimp only at hSw); go_simp <;> with_reducible rfl)
        try simp only [Act.put, List.setIfInBounds_toArray, List.set_cons_zero, List.set_cons_succ]
        refine take_lit (i := 2) (v := ?_) rfl (by kernel_rfl) (by kernel_rfl) (by kernel_rfl) (fun _ _ _ h => h) (Or.inl ⟨by rfl, ?_⟩) (by assumption) ?_
        rotate_left
        · (intro w hSw; (try dsimp only at hSw); go_simp <;> with_reducible rfl)
        try simp only [Act.put, List.setIfInBounds_toArray, List.set_cons_zero, List.set_cons_succ]
        refine take_lit (i := 3) (v := ?_) rfl (by kernel_rfl) (by kernel_rfl) (by kernel_rfl) (fun _ _ _ h => h) (Or.inl ⟨by rfl, ?_⟩) (by assumption) ?_
        rotate_left
        · (intro w hSw; (try dsimp only at hSw); go_simp <;> with_reducible rfl)
        try simp only [Act.put, List.setIfInBounds_toArray, List.set_cons_zero, List.set_cons_succ]
        refine take_lit (i := 4) (v := ?_) rfl (by kernel_rfl) (by kernel_rfl) (by kernel_rfl) (fun _ _ _ h => h) (Or.inl ⟨by rfl, ?_⟩) (by assumption) ?_
        rotate_left
        · (intro w hSw; (try dsimp only at hSw); go_simp <;> with_reducible rfl)
        try simp only [Act.put, List.setIfInBounds_toArray, List.set_cons_zero, List.set_cons_succ]
        refine take_lit (i := 5) (v := ?_) rfl (by kernel_rfl) (by kernel_rfl) (by kernel_rfl) (fun _ _ _ h => h) (Or.inl ⟨by rfl, ?_⟩) (by assumption) ?_
        rotate_left
        · (intro w hSw; (try dsimp only at hSw); go_simp <;> with_reducible rfl)
        try simp only [Act.put, List.setIfInBounds_toArray, List.set_cons_zero, List.set_cons_succ]
        refine take_lit (i := 6) (v := ?_) rfl (by kernel_rfl) (by kernel_rfl) (by kernel_rfl) (fun _ _ _ h => h) (Or.inl ⟨by rfl, ?_⟩) (by assumption) ?_
        rotate_left
        · (intro w hSw; (try dsimp only at hSw); go_simp <;> with_reducible rfl)
        try simp only [Act.put, List.setIfInBounds_toArray, List.set_cons_zero, List.set_cons_succ]
        refine take_lit (i := 7) (v := ?_) rfl (by kernel_rfl) (by kernel_rfl) (by kernel_rfl) (fun _ _ _ h => h) (Or.inl ⟨by rfl, ?_⟩) (by assumption) ?_
        rotate_left
        · (intro w hSw; (try dsimp only at hSw); go_simp <;> with_reducible rfl)
        try simp only [Act.put, List.setIfInBounds_toArray, List.set_cons_zero, List.set_cons_succ]
        refine take_lit (i := 8) (v := ?_) rfl (by kernel_rfl) (by kernel_rfl) (by kernel_rfl) (fun _ _ _ h => h) (Or.inl ⟨by rfl, ?_⟩) (by assumption) ?_
        rotate_left
        · (intro w hSw; (try dsimp only at hSw); go_simp <;> with_reducible rfl)
        try simp only [Act.put, List.setIfInBounds_toArray, List.set_cons_zero, List.set_cons_succ]
        refine take_lit (i := 9) rfl (by kernel_rfl) (by kernel_rfl) (by kernel_rfl) (fun _ _ _ h => h) (yR ⟨on, mi, ma, co, de⟩ (fun w h => h.2.range) (by rfl) rfl rfl) (by assumption) ?_
        try simp only [Act.put, List.setIfInBounds_toArray, List.set_cons_zero, List.set_cons_succ]
        refine take_lit (i := 10) (v := ?_) rfl (by kernel_rfl) (by kernel_rfl) (by kernel_rfl) (fun _ _ _ h => h) (Or.inl ⟨by rfl, ?_⟩) (by assumption) ?_
        rotate_left
        · (intro w hSw; (try dsimp only at hSw); go_simp <;> with_reducible rfl)
        try simp only [Act.put, List.setIfInBounds_toArray, List.set_cons_zero, List.set_cons_succ]
        refine take_lit (i := 11) (v := ?_) rfl (by kernel_rfl) (by kernel_rfl) (by kernel_rfl) (fun _ _ _ h => h) (Or.inl ⟨by rfl, ?_⟩) (by assumption) ?_
        rotate_left
        · (intro w hSw; (try dsimp only at hSw); go_simp <;> with_reducible rfl)
        try simp only [Act.put, List.setIfInBounds_toArray, List.set_cons_zero, List.set_cons_succ]
        refine take_lit (i := 13) rfl (by kernel_rfl) (by kernel_rfl) (by kernel_rfl) (fun _ _ _ h => h) (yR ⟨on, mi, ma, co, de⟩ (fun w h => h.2.range) (by rfl) rfl rfl) (by assumption) ?_
        try simp only [Act.put, List.setIfInBounds_toArray, List.set_cons_zero, List.set_cons_succ]
        refine take_lit (i := 14) (v := ?_) rfl (by kernel_rfl) (by kernel_rfl) (by kernel_rfl) (fun _ _ _ h => h) (Or.inl ⟨by rfl, ?_⟩) (by assumption) ?_
        rotate_left
        · (intro w hSw; (try dsimp only at hSw); go_simp <;> with_reducible rfl)
        try simp only [Act.put, List.setIfInBounds_toArray, List.set_cons_zero, List.set_cons_succ]
        refine take_lit (i := 15) (v := ?_) rfl (by kernel_rfl) (by kernel_rfl) (by kernel_rfl) (fun _ _ _ h => h) (Or.inl ⟨by rfl, ?_⟩) (by assumption) ?_
        rotate_left
        · (intro w hSw; (try dsimp only at hSw); go_simp <;> with_reducible rfl)
        try simp only [Act.put, List.setIfInBounds_toArray, List.set_cons_zero, List.set_cons_succ]
        refine wpAnyH_ready (rs := [12]) (by kernel_rfl) (by simp) ?_
        refine cons_lit rfl (fun K hK => ?_) ?_
        · go_simp
          refine (C1 _ hHeld.1).mono ?_
          rintro e w5 ⟨rfl, hB1⟩
          refine hK.out _ _ ?_ (fun hHeld => ?_)
          · exact HK.out _ _ hHeld hB1
          clear hK K
          try simp only [Act.put, List.setIfInBounds_toArray, List.set_cons_zero, List.set_cons_succ]
          refine wpAnyH_ready (rs := [16]) (by kernel_rfl) (by simp) ?_
          refine cons_lit rfl (fun K hK => ?_) ?_
          · go_simp
            refine (C2 _ hHeld.1).mono ?_
            rintro e w5 ⟨rfl, hB1⟩
            refine hK.out _ _ ?_ (fun hHeld => ?_)
            · exact HK.out _ _ hHeld hB1
            clear hK K
            try simp only [Act.put, List.setIfInBounds_toArray, List.set_cons_zero, List.set_cons_succ]
            refine take_lit (i := 17) (v := ?_) rfl (by kernel_rfl) (by kernel_rfl) (by kernel_rfl) (fun _ _ _ h => h) (Or.inl ⟨by rfl, ?_⟩) (by assumption) ?_
            rotate_left
            · (intro w hSw; (try dsimp only at hSw); go_simp <;> with_reducible rfl)
            try simp only [Act.put, List.setIfInBounds_toArray, List.set_cons_zero, List.set_cons_succ]
            refine take_lit (i := 18) (v := ?_) rfl (by kernel_rfl) (by kernel_rfl) (by kernel_rfl) (fun _ _ _ h => h) (Or.inl ⟨by rfl, ?_⟩) (by assumption) ?_
            rotate_left
            · (intro w hSw; (try dsimp only at hSw); go_simp <;> with_reducible rfl)
            try simp only [Act.put, List.setIfInBounds_toArray, List.set_cons_zero, List.set_cons_succ]
            refine take_lit (i := 19) (v := ?_) rfl (by kernel_rfl) (by kernel_rfl) (by kernel_rfl) (fun _ _ _ h => h) (Or.inl ⟨by rfl, ?_⟩) (by assumption) ?_
            rotate_left
            · (intro w hSw; (try dsimp only at hSw); go_simp <;> with_reducible rfl)
            try simp only [Act.put, List.setIfInBounds_toArray, List.set_cons_zero, List.set_cons_succ]
            refine take_lit (i := 20) rfl (by kernel_rfl) (by kernel_rfl) (by kernel_rfl) (fun _ _ _ h => h) (yR ⟨on, mi, ma, co, de⟩ (fun w h => h.2.range) (by rfl) rfl rfl) (by assumption) ?_
            try simp only [Act.put, List.setIfInBounds_toArray, List.set_cons_zero, List.set_cons_succ]
            refine take_lit (i := 21) (v := ?_) rfl (by kernel_rfl) (by kernel_rfl) (by kernel_rfl) (fun _ _ _ h => h) (Or.inl ⟨by rfl, ?_⟩) (by assumption) ?_
            rotate_left
            · (intro w hSw; (try dsimp only at hSw); go_simp <;> with_reducible rfl)
            try simp only [Act.put, List.setIfInBounds_toArray, List.set_cons_zero, List.set_cons_succ]
            refine take_lit (i := 23) rfl (by kernel_rfl) (by kernel_rfl) (by kernel_rfl) (fun _ _ _ h => h) (yR ⟨on, mi, ma, co, de⟩ (fun w h => h.2.range) (by rfl) rfl rfl) (by assumption) ?_
            try simp only [Act.put, List.setIfInBounds_toArray, List.set_cons_zero, List.set_cons_succ]
            refine take_lit (i := 24) (v := ?_) rfl (by kernel_rfl) (by kernel_rfl) (by kernel_rfl) (fun _ _ _ h => h) (Or.inl ⟨by rfl, ?_⟩) (by assumption) ?_
            rotate_left
            · (intro w hSw; (try dsimp only at hSw); go_simp <;> with_reducible rfl)
            try simp only [Act.put, List.setIfInBounds_toArray, List.set_cons_zero, List.set_cons_succ]
            refine wpAnyH_ready (rs := [22]) (by kernel_rfl) (by simp) ?_
            refine cons_lit rfl (fun K hK => ?_) ?_
            · go_simp
              refine (C3 _).mono ?_
              rintro e w5 ⟨rfl, hB1⟩
              refine hK.out _ _ ?_ (fun hHeld => ?_)
              · exact HK.out _ _ hHeld hB1
              clear hK K
              try simp only [Act.put, List.setIfInBounds_toArray, List.set_cons_zero, List.set_cons_succ]
              refine wpAnyH_ready (rs := [25]) (by kernel_rfl) (by simp) ?_
              refine cons_lit rfl (fun K hK => ?_) ?_
              · go_simp
                refine (C4 _).mono ?_
                rintro e w5 ⟨rfl, hB1⟩
                refine hK.out _ _ ?_ (fun hHeld => ?_)
                · exact HK.out _ _ hHeld hB1
                clear hK K
                try simp only [Act.put, List.setIfInBounds_toArray, List.set_cons_zero, List.set_cons_succ]
                refine take_lit (i := 26) (v := ?_) rfl (by kernel_rfl) (by kernel_rfl) (by kernel_rfl) (fun _ _ _ h => h) (Or.inl ⟨by rfl, ?_⟩) (by assumption) ?_
                rotate_left
                · (intro w hSw; (try dsimp only at hSw); go_simp <;> with_reducible rfl)
                try simp only [Act.put, List.setIfInBounds_toArray, List.set_cons_zero, List.set_cons_succ]
                refine take_lit (i := 27) (v := ?_) rfl (by kernel_rfl) (by kernel_rfl) (by kernel_rfl) (fun _ _ _ h => h) (Or.inl ⟨by rfl, ?_⟩) (by assumption) ?_
                rotate_left
                · (intro w hSw; (try dsimp only at hSw); go_simp <;> with_reducible rfl)
                try simp only [Act.put, List.setIfInBounds_toArray, List.set_cons_zero, List.set_cons_succ]
                refine take_lit (i := 28) (v := ?_) rfl (by kernel_rfl) (by kernel_rfl) (by kernel_rfl) (fun _ _ _ h => h) (Or.inl ⟨by rfl, ?_⟩) (by assumption) ?_
                rotate_left
                · (intro w hSw; (try dsimp only at hSw); go_simp <;> with_reducible rfl)
                try simp only [Act.put, List.setIfInBounds_toArray, List.set_cons_zero, List.set_cons_succ]
                refine take_lit (i := 29) (v := ?_) rfl (by kernel_rfl) (by kernel_rfl) (by kernel_rfl) (fun _ _ _ h => h) (Or.inl ⟨by rfl, ?_⟩) (by assumption) ?_
                rotate_left
                · (intro w hSw; (try dsimp only at hSw); go_simp <;> with_reducible rfl)
                try simp only [Act.put, List.setIfInBounds_toArray, List.set_cons_zero, List.set_cons_succ]
                refine take_lit (i := 31) (v := ?_) rfl (by kernel_rfl) (by kernel_rfl) (by kernel_rfl) (fun _ _ _ h => h) (Or.inl ⟨by rfl, ?_⟩) (by assumption) ?_
                rotate_left
                · (intro w hSw; (try dsimp only at hSw); go_simp <;> with_reducible rfl)
                try simp only [Act.put, List.setIfInBounds_toArray, List.set_cons_zero, List.set_cons_succ]
                refine take_lit (i := 32) (v := ?_) rfl (by kernel_rfl) (by kernel_rfl) (by kernel_rfl) (fun _ _ _ h => h) (Or.inl ⟨by rfl, ?_⟩) (by assumption) ?_
                rotate_left
                · (intro w hSw; (try dsimp only at hSw); go_simp <;> with_reducible rfl)
                try simp only [Act.put, List.setIfInBounds_toArray, List.set_cons_zero, List.set_cons_succ]
                refine take_lit (i := 33) (v := ?_) rfl (by kernel_rfl) (by kernel_rfl) (by kernel_rfl) (fun _ _ _ h => h) (Or.inl ⟨by rfl, ?_⟩) (by assumption) ?_
                rotate_left
                · (intro w hSw; (try dsimp only at hSw); go_simp <;> with_reducible rfl)
                try simp only [Act.put, List.setIfInBounds_toArray, List.set_cons_zero, List.set_cons_succ]
                refine wpAnyH_ready (rs := [30]) (by kernel_rfl) (by simp) ?_
                refine cons_lit rfl (fun K hK => ?_) ?_
                · go_simp
                  refine (C5 _).mono ?_
                  rintro e w5 ⟨rfl, rfl⟩
                  refine hK.out _ _ ?_ (fun hHeld => ?_)
                  · exact hHeld
                  clear hK K
                  try simp only [Act.put, List.setIfInBounds_toArray, List.set_cons_zero, List.set_cons_succ]
                  refine take_lit (i := 34) (v := ?_) rfl (by kernel_rfl) (by kernel_rfl) (by kernel_rfl) (fun _ _ _ h => h) (Or.inl ⟨by rfl, ?_⟩) (by assumption) ?_
                  rotate_left
                  · (intro w hSw; (try dsimp only at hSw); go_simp <;> with_reducible rfl)
                  try simp only [Act.put, List.setIfInBounds_toArray, List.set_cons_zero, List.set_cons_succ]
                  refine take_lit (i := 35) (v := ?_) rfl (by kernel_rfl) (by kernel_rfl) (by kernel_rfl) (fun _ _ _ h => h) (Or.inl ⟨by rfl, ?_⟩) (by assumption) ?_
                  rotate_left
                  · (intro w hSw; (try dsimp only at hSw); go_simp <;> with_reducible rfl)
                  try simp only [Act.put, List.setIfInBounds_toArray, List.set_cons_zero, List.set_cons_succ]
                  refine take_lit (i := 36) (v := ?_) rfl (by kernel_rfl) (by kernel_rfl) (by kernel_rfl) (fun _ _ _ h => h) (Or.inl ⟨by rfl, ?_⟩) (by assumption) ?_
                  rotate_left
                  · (intro w hSw; (try dsimp only at hSw); go_simp <;> with_reducible rfl)
                  try simp only [Act.put, List.setIfInBounds_toArray, List.set_cons_zero, List.set_cons_succ]
                  refine wpAnyH_ready (rs := [37]) (by kernel_rfl) (by simp) ?_
                  refine cons_lit rfl (fun K hK => ?_) ?_
                  · go_simp
                    refine (A3 _).mono ?_
                    rintro e w5 ⟨rfl, hB1⟩
                    refine hK.out _ _ ?_ (fun hHeld => ?_)
                    · exact HK.out _ _ hHeld hB1
                    clear hK K
                    try simp only [Act.put, List.setIfInBounds_toArray, List.set_cons_zero, List.set_cons_succ]
                    refine take_lit (i := 38) (v := ?_) rfl (by kernel_rfl) (by kernel_rfl) (by kernel_rfl) (fun _ _ _ h => h) (Or.inl ⟨by rfl, ?_⟩) (by assumption) ?_
                    rotate_left
                    · (intro w hSw; (try dsimp only at hSw); go_simp <;> with_reducible rfl)
                    try simp only [Act.put, List.setIfInBounds_toArray, List.set_cons_zero, List.set_cons_succ]
                    refine take_lit (i := 39) (v := ?_) rfl (by kernel_rfl) (by kernel_rfl) (by kernel_rfl) (fun _ _ _ h => h) (Or.inl ⟨by rfl, ?_⟩) (by assumption) ?_
                    rotate_left
                    · (intro w hSw; (try dsimp only at hSw); go_simp <;> with_reducible rfl)
                    try simp only [Act.put, List.setIfInBounds_toArray, List.set_cons_zero, List.set_cons_succ]
                    refine wpAnyH_done (by kernel_rfl) ?_ _
                    refine NoPanic.normal ?_
                    go_wp2_with (fail)
                    go_ret
                    exact ⟨rfl, hHeld.1⟩
                  exact AllReadyH.nil
                exact AllReadyH.nil
              exact AllReadyH.nil
            exact AllReadyH.nil
          exact AllReadyH.nil
        exact AllReadyH.nil
end Go.Proofs.Ythcjhglddedjhaa
