/-
  The law LinkHears returns true for every input.
-/
import Derived.Test.YtpkjdfdjjobjgaaHe0
namespace Go.Proofs.Ytpkjdfdjjobjgaa
open Go.RowKit
set_option linter.unusedSimpArgs false
theorem hears_long (h : Hi) (ad : Option Addr) (n c : Nat) (w : World) (hn : 300 < n) :
    Calls Try.prog 3 #[.agg #[.int .u16 h.b, .int .u16 h.n, .bool h.k], .slice ad n c] w (Gives w (.bool true)) := by
  obtain ⟨b, m, k⟩ := h
  dsimp only
  have hn' : (300 : Int) < (n : Int) := by omega
  go_enter Try.func3, Try.ntmps3
  go_wp2_with (go_at_call 8; refine (live_any _).mono ?_; rintro e w' ⟨rfl, hw⟩)
  go_ret
  exact ⟨rfl, ((Below.refl _ _).alloc (Nat.le_refl _) _).trans (hw.mono (by simp))⟩
set_option maxHeartbeats 8000000 in
theorem hears_walk (h : Hi) (ad : Option Addr) (n c : Nat) (l : List Ac) (w : World) (ok : h.ok) (hn : n ≤ 300) (hs : Acs w ad n l) :
    Calls Try.prog 3 #[.agg #[.int .u16 h.b, .int .u16 h.n, .bool h.k], .slice ad n c] w (Gives w (.bool true)) := by
  have HL : Hid (l.length = n) := hs.len
  have hn' : ¬ (300 : Int) < (n : Int) := by omega
  have HR : Hid (∀ W, W = (w.alloc (.cells #[.int .u16 h.b, .int .u16 h.n, .bool h.k] 24)).alloc (.cells #[.int .u16 h.b, .int .u16 h.n, .bool h.k] 24) → Below w.heap.size w W ∧ Row W w.heap.size 24 (hcs h) ∧ Row W (w.heap.size + 1) 24 (hcs h)) := by
    rintro W rfl
    have q := Row.new (w.alloc (.cells (hcs h).toArray 24)) 24 (hcs h)
    rw [World.size_alloc] at q
    exact ⟨two_below _ _ _, (Row.new w 24 (hcs h)).alloc _, q⟩
  have okh := ok
  obtain ⟨b, m, k⟩ := h
  dsimp only at HR ⊢
  clear ok
  go_enter Try.func3, Try.ntmps3
  go_wp2
  go_loopw [6] (fun i wr => ∃ j : Nat, j ≤ n ∧ i = .int .i64 j ∧ Below w.heap.size w wr ∧ Row wr w.heap.size 24 (hcs (steps ⟨b, m, k⟩ (l.take j))) ∧ Row wr (w.heap.size + 1) 24 (hcs (steps ⟨b, m, k⟩ (l.take j)))) (fun i _ => n - (intOf i).toNat)
  case atStart => exact ⟨0, Nat.zero_le _, rfl, HR.out _ rfl⟩
  case round =>
    obtain ⟨j, hj, rfl, hX, r0, r1⟩ := hrel
    rename World => X
    clear HR
    by_cases hlt : j < n
    · rcases hs.lies with h0 | ⟨g, o, rfl, hg, hl⟩
      · omega
      have hjl : j < l.length := by rw [HL.out]; exact hlt
      have hq := hl j _ (List.getElem?_eq_getElem hjl)
      have ok := hs.small l[j] (List.getElem_mem hjl)
      have HS : Hid (steps ⟨b, m, k⟩ (l.take (j + 1)) = step (steps ⟨b, m, k⟩ (l.take j)) l[j]) := steps_take _ l j hjl
      have okH := steps_ok okh (l.take j)
      have hji : (j : Int) < (n : Int) := by omega
      generalize l[j] = q at *
      generalize steps ⟨b, m, k⟩ (l.take j) = H at *
      obtain ⟨ms, N, sq⟩ := q
      have HC : Hid (∀ W, Below w.heap.size w W → W.cell? ⟨g, o + j * 3, none⟩ = some (.bool ms) ∧ W.cell? ⟨g, o + j * 3 + 1, none⟩ = some (.int .i64 N) ∧ W.cell? ⟨g, o + j * 3 + 2, none⟩ = some (.int .u16 sq)) := fun W hb =>
        ⟨(hb.cell (p := ⟨g, o + j * 3, none⟩) hg).trans (hq 0 _ rfl), (hb.cell (p := ⟨g, o + j * 3 + 1, none⟩) hg).trans (hq 1 _ rfl), (hb.cell (p := ⟨g, o + j * 3 + 2, none⟩) hg).trans (hq 2 _ rfl)⟩
      have c1 := (HC.out X hX).1
      have c2 := (HC.out X hX).2.1
      have HO : Hid (Ac.ok ⟨ms, N, sq⟩) := ok
      have HH : Hid H.ok := okH
      clear hl hq ok okH hs
      have HK : Hid (∀ W W', (Below w.heap.size w W ∧ Row W w.heap.size 24 (hcs H) ∧ Row W (w.heap.size + 1) 24 (hcs H)) → Below W.heap.size W W' → (Below w.heap.size w W' ∧ Row W' w.heap.size 24 (hcs H) ∧ Row W' (w.heap.size + 1) 24 (hcs H))) :=
        fun W W' h k => ⟨h.1.trans (k.mono h.1.size), h.2.1.below k h.2.1.lt, h.2.2.below k h.2.2.lt⟩
      cases ms with
      | true =>
        by_cases h3 : 300 < N
        · go_wp2_with (go_at_call 8; refine (live_any _).mono ?_; rintro e w' ⟨rfl, hw⟩)
          go_ret
          exact ⟨rfl, hX.trans (hw.mono hX.size)⟩
        · have CM := fun W => miss_any H N W
          have HG : Hid (steps ⟨b, m, k⟩ (l.take (j + 1)) = missH H N) := HS.out
          go_wp2
          refine wp_region_noPanic ?_
          refine wp_region_N (S := fun W => Below w.heap.size w W ∧ Row W w.heap.size 24 (hcs H) ∧ Row W (w.heap.size + 1) 24 (hcs H)) 7 (by kernel_rfl) (⟨hX.drew, r0, r1⟩) (fun hHeld => ?_)
          refine takeN_lit (i := 0) (F := #[false, true, true, true, true, true, false, false]) rfl (by kernel_rfl) (by kernel_rfl) (by kernel_rfl) (by kernel_rfl) (fun _ _ _ h => h) (yH H (fun w h => h.2.1.range) (by rfl) rfl rfl) (by assumption) ?_
          try simp only [Act.put, List.setIfInBounds_toArray, List.set_cons_zero, List.set_cons_succ]
          refine takeN_lit (i := 1) (v := ?_) (F := #[true, false, true, false, false, false, false, false]) rfl (by kernel_rfl) (by kernel_rfl) (by kernel_rfl) (by kernel_rfl) (fun _ _ _ h => h) (Or.inl ⟨by rfl, ?_⟩) (by assumption) ?_
          rotate_left
          · (intro w hSw; (try dsimp only at hSw); go_simp <;> with_reducible rfl)
          try simp only [Act.put, List.setIfInBounds_toArray, List.set_cons_zero, List.set_cons_succ]
          refine takeN_lit (i := 2) (v := ?_) (F := #[true, true, false, false, false, false, false, false]) rfl (by kernel_rfl) (by kernel_rfl) (by kernel_rfl) (by kernel_rfl) (fun _ _ _ h => h) (Or.inl ⟨by rfl, ?_⟩) (by assumption) ?_
          rotate_left
          · (intro w hSw; (try dsimp only at hSw); go_simp <;> with_reducible rfl)
          try simp only [Act.put, List.setIfInBounds_toArray, List.set_cons_zero, List.set_cons_succ]
          refine takeN_lit (i := 3) (v := ?_) (F := #[true, true, true, false, false, false, false, false]) rfl (by kernel_rfl) (by kernel_rfl) (by kernel_rfl) (by kernel_rfl) (fun _ _ _ h => h) (Or.inl ⟨by rfl, ?_⟩) (by assumption) ?_
          rotate_left
          · (intro w hSw; (try dsimp only at hSw); go_simp <;> with_reducible rfl)
          try simp only [Act.put, List.setIfInBounds_toArray, List.set_cons_zero, List.set_cons_succ]
          refine takeN_lit (i := 4) (v := ?_) (F := #[true, true, true, true, false, false, false, false]) rfl (by kernel_rfl) (by kernel_rfl) (by kernel_rfl) (by kernel_rfl) (fun _ _ _ h => h) (Or.inl ⟨by rfl, ?_⟩) (by assumption) ?_
          rotate_left
          · (intro w hSw; (try dsimp only at hSw); go_simp <;> with_reducible rfl)
          try simp only [Act.put, List.setIfInBounds_toArray, List.set_cons_zero, List.set_cons_succ]
          refine takeN_lit (i := 5) (v := ?_) (F := #[true, true, true, true, true, false, false, false]) rfl (by kernel_rfl) (by kernel_rfl) (by kernel_rfl) (by kernel_rfl) (fun _ _ _ h => h) (Or.inl ⟨by rfl, ?_⟩) (by assumption) ?_
          rotate_left
          · (intro w hSw; (try dsimp only at hSw); have c3 := (HC.out _ hSw.1).2.1; go_simp <;> with_reducible rfl)
          try simp only [Act.put, List.setIfInBounds_toArray, List.set_cons_zero, List.set_cons_succ]
          refine wpAnyN_ready (rs := [6]) (by kernel_rfl) (by simp) ?_
          refine consN_lit rfl (fun K hK => ?_) ?_
          · go_simp
            refine (CM _).mono ?_
            rintro e w1 ⟨rfl, hB1⟩
            refine hK.out _ _ (Or.inr ?_) (fun hHeld => ?_)
            · exact HK.out _ _ hHeld hB1
            replace hHeld := hHeld.resolve_left (by decide)
            clear hK K
            try simp only [Act.put, List.setIfInBounds_toArray, List.set_cons_zero, List.set_cons_succ]
            refine wpAnyN_ready (rs := [7]) (by kernel_rfl) (by simp) ?_
            refine consN_lit rfl (fun K hK => ?_) ?_
            · skip
              refine sStH (.tmp 2) (.tmp 37) (by rfl) rfl _ (missH H N) H rfl rfl hHeld.2.1 ?_
              intro w2 hw2 ho2 s0
              refine hK.out _ _ (Or.inl rfl) (fun _ => ?_)
              clear hK K
              try simp only [Act.put, List.setIfInBounds_toArray, List.set_cons_zero, List.set_cons_succ]
              refine wpAnyN_done (by kernel_rfl) ?_ _
              refine NoPanic.normal ?_
              have hX2 : Below w.heap.size w w2 := hHeld.1.trans (hw2.mono (Nat.le_refl _))
              have s1 := ho2 _ _ _ (by omega) hHeld.2.2
              clear hHeld hB1 hw2 ho2 hX r0 r1 c1 c2 HK CM
              go_wp2
              go_loopw [7] (fun i wr => ∃ p : Nat, p ≤ N.toNat ∧ i = .int .i64 p ∧ Below w.heap.size w wr ∧ Row wr w.heap.size 24 (hcs (missH H N)) ∧ Row wr (w.heap.size + 1) 24 (hcs (missN H p))) (fun i _ => N.toNat - (intOf i).toNat)
              case atStart => exact ⟨0, Nat.zero_le _, rfl, hX2, s0, s1⟩
              case round =>
                obtain ⟨p, hp, rfl, hX3, t0, t1⟩ := hrel
                rename World => Y
                clear hX2 s0 s1
                have c2 := (HC.out Y hX3).2.1
                by_cases hpn : (p : Int) < N
                · have okP := missN_ok HH.out p
                  have CR := fun W => rmiss_any (missN H p) W okP.b0 okP.b1
                  have HP : Hid (missN H (p + 1) = miss1 (missN H p)) := rfl
                  clear okP
                  generalize miss1 (missN H p) = G at *
                  generalize missN H p = F at *
                  have z1 : Y.cell? ⟨w.heap.size + 1, 0, none⟩ = some (.int .u16 F.b) := t1.cell 0
                  have z2 : Y.cell? ⟨w.heap.size + 1, 1, none⟩ = some (.int .u16 F.n) := t1.cell 1
                  have z3 : Y.cell? ⟨w.heap.size + 1, 2, none⟩ = some (.bool F.k) := t1.cell 2
                  go_wp2_with (first
                    | (go_at_call 10; refine (CR _).mono ?_; rintro e w3 ⟨rfl, hw⟩; replace t0 := t0.below hw t0.lt; replace t1 := t1.below hw t1.lt; replace hX3 := hX3.trans (hw.mono hX3.size); clear hw z1 z2 z3)
                    | (refine stH (.tmp 5) (.tmp 48) (by rfl) rfl _ G F rfl rfl t1 ?_; intro w4 hw ho v1; replace t0 := ho _ _ _ (by omega) t0; replace hX3 := hX3.trans (hw.mono (by omega)); clear hw ho t1))
                  go_roundw
                  case rel => exact ⟨p + 1, by omega, by go_num, hX3, t0, by rw [HP.out]; exact v1⟩
                  case measure => simp [intOf]; omega
                · have e : missN H p = missH H N := by
                    have hpN : p = N.toNat := by omega
                    rw [missN_eq HH.out, hpN]
                    by_cases hN : 0 ≤ N
                    · rw [Int.toNat_of_nonneg hN]
                    · rw [show N.toNat = 0 by omega]
                      unfold missH
                      rw [if_neg (by omega), if_neg (by omega)]
                  rw [e] at t1
                  have HG2 : Hid (steps ⟨b, m, k⟩ (l.take (j + 1)) = missH H N) := HG.out
                  clear e HG HS
                  generalize missH H N = G at *
                  have z1 : Y.cell? ⟨w.heap.size, 0, none⟩ = some (.int .u16 G.b) := t0.cell 0
                  have z2 : Y.cell? ⟨w.heap.size, 1, none⟩ = some (.int .u16 G.n) := t0.cell 1
                  have z3 : Y.cell? ⟨w.heap.size, 2, none⟩ = some (.bool G.k) := t0.cell 2
                  have z4 : Y.cell? ⟨w.heap.size + 1, 0, none⟩ = some (.int .u16 G.b) := t1.cell 0
                  have z5 : Y.cell? ⟨w.heap.size + 1, 1, none⟩ = some (.int .u16 G.n) := t1.cell 1
                  have z6 : Y.cell? ⟨w.heap.size + 1, 2, none⟩ = some (.bool G.k) := t1.cell 2
                  have hq := eqP
                  have he : ∀ b n k, hiEq ⟨b, n, k⟩ ⟨b, n, k⟩ = true := fun b n k => (hiEq_iff _ _).2 rfl
                  go_wp2
                  go_roundw
                  case rel => exact ⟨j + 1, by omega, by go_num, hX3, by rw [HG2.out]; exact t0, by rw [HG2.out]; exact t1⟩
                  case measure => simp [intOf]; omega
            exact AllReadyN.nil
          exact AllReadyN.nil
      | false =>
        have CH := fun W => hear_any H sq W HH.out
        have CR := fun W => rhear_any H sq W HH.out
        have HG : Hid (steps ⟨b, m, k⟩ (l.take (j + 1)) = hearH H sq) := HS.out
        go_wp2
        refine wp_region_noPanic ?_
        refine wp_region_N (S := fun W => Below w.heap.size w W ∧ Row W w.heap.size 24 (hcs H) ∧ Row W (w.heap.size + 1) 24 (hcs H)) 7 (by kernel_rfl) (⟨hX.drew, r0, r1⟩) (fun hHeld => ?_)
        refine takeN_lit (i := 0) (F := #[false, true, true, true, true, true, false, false]) rfl (by kernel_rfl) (by kernel_rfl) (by kernel_rfl) (by kernel_rfl) (fun _ _ _ h => h) (yH H (fun w h => h.2.1.range) (by rfl) rfl rfl) (by assumption) ?_
        try simp only [Act.put, List.setIfInBounds_toArray, List.set_cons_zero, List.set_cons_succ]
        refine takeN_lit (i := 1) (v := ?_) (F := #[true, false, true, false, false, false, false, false]) rfl (by kernel_rfl) (by kernel_rfl) (by kernel_rfl) (by kernel_rfl) (fun _ _ _ h => h) (Or.inl ⟨by rfl, ?_⟩) (by assumption) ?_
        rotate_left
        · (intro w hSw; (try dsimp only at hSw); go_simp <;> with_reducible rfl)
        try simp only [Act.put, List.setIfInBounds_toArray, List.set_cons_zero, List.set_cons_succ]
        refine takeN_lit (i := 2) (v := ?_) (F := #[true, true, false, false, false, false, false, false]) rfl (by kernel_rfl) (by kernel_rfl) (by kernel_rfl) (by kernel_rfl) (fun _ _ _ h => h) (Or.inl ⟨by rfl, ?_⟩) (by assumption) ?_
        rotate_left
        · (intro w hSw; (try dsimp only at hSw); go_simp <;> with_reducible rfl)
        try simp only [Act.put, List.setIfInBounds_toArray, List.set_cons_zero, List.set_cons_succ]
        refine takeN_lit (i := 3) (v := ?_) (F := #[true, true, true, false, false, false, false, false]) rfl (by kernel_rfl) (by kernel_rfl) (by kernel_rfl) (by kernel_rfl) (fun _ _ _ h => h) (Or.inl ⟨by rfl, ?_⟩) (by assumption) ?_
        rotate_left
        · (intro w hSw; (try dsimp only at hSw); go_simp <;> with_reducible rfl)
        try simp only [Act.put, List.setIfInBounds_toArray, List.set_cons_zero, List.set_cons_succ]
        refine takeN_lit (i := 4) (v := ?_) (F := #[true, true, true, true, false, false, false, false]) rfl (by kernel_rfl) (by kernel_rfl) (by kernel_rfl) (by kernel_rfl) (fun _ _ _ h => h) (Or.inl ⟨by rfl, ?_⟩) (by assumption) ?_
        rotate_left
        · (intro w hSw; (try dsimp only at hSw); go_simp <;> with_reducible rfl)
        try simp only [Act.put, List.setIfInBounds_toArray, List.set_cons_zero, List.set_cons_succ]
        refine takeN_lit (i := 5) (v := ?_) (F := #[true, true, true, true, true, false, false, false]) rfl (by kernel_rfl) (by kernel_rfl) (by kernel_rfl) (by kernel_rfl) (fun _ _ _ h => h) (Or.inl ⟨by rfl, ?_⟩) (by assumption) ?_
        rotate_left
        · (intro w hSw; (try dsimp only at hSw); have c3 := (HC.out _ hSw.1).2.2; go_simp <;> with_reducible rfl)
        try simp only [Act.put, List.setIfInBounds_toArray, List.set_cons_zero, List.set_cons_succ]
        refine wpAnyN_ready (rs := [6]) (by kernel_rfl) (by simp) ?_
        refine consN_lit rfl (fun K hK => ?_) ?_
        · go_simp
          refine (CH _).mono ?_
          rintro e w1 ⟨rfl, hB1⟩
          refine hK.out _ _ (Or.inr ?_) (fun hHeld => ?_)
          · exact HK.out _ _ hHeld hB1
          replace hHeld := hHeld.resolve_left (by decide)
          clear hK K
          try simp only [Act.put, List.setIfInBounds_toArray, List.set_cons_zero, List.set_cons_succ]
          refine wpAnyN_ready (rs := [7]) (by kernel_rfl) (by simp) ?_
          refine consN_lit rfl (fun K hK => ?_) ?_
          · skip
            refine sStH (.tmp 2) (.tmp 55) (by rfl) rfl _ (hearH H sq) H rfl rfl hHeld.2.1 ?_
            intro w2 hw2 ho2 s0
            refine hK.out _ _ (Or.inl rfl) (fun _ => ?_)
            clear hK K
            try simp only [Act.put, List.setIfInBounds_toArray, List.set_cons_zero, List.set_cons_succ]
            refine wpAnyN_done (by kernel_rfl) ?_ _
            refine NoPanic.normal ?_
            have hX2 : Below w.heap.size w w2 := hHeld.1.trans (hw2.mono (Nat.le_refl _))
            have s1 := ho2 _ _ _ (by omega) hHeld.2.2
            clear hHeld hB1 hw2 ho2 hX r0 r1 c1 c2 CH HK HS
            generalize hearH H sq = G at *
            have HK : Hid (∀ W W', (Below w.heap.size w W ∧ Row W w.heap.size 24 (hcs G) ∧ Row W (w.heap.size + 1) 24 (hcs H)) → Below W.heap.size W W' → (Below w.heap.size w W' ∧ Row W' w.heap.size 24 (hcs G) ∧ Row W' (w.heap.size + 1) 24 (hcs H))) :=
              fun W W' h k => ⟨h.1.trans (k.mono h.1.size), h.2.1.below k h.2.1.lt, h.2.2.below k h.2.2.lt⟩
            go_wp2
            refine wp_region_noPanic ?_
            refine wp_region_N (S := fun W => Below w.heap.size w W ∧ Row W w.heap.size 24 (hcs G) ∧ Row W (w.heap.size + 1) 24 (hcs H)) 7 (by kernel_rfl) (⟨hX2.drew, s0, s1⟩) (fun hHeld => ?_)
            refine takeN_lit (i := 0) (F := #[false, true, true, true, true, true, false, false]) rfl (by kernel_rfl) (by kernel_rfl) (by kernel_rfl) (by kernel_rfl) (fun _ _ _ h => h) (yH H (fun w h => h.2.2.range) (by rfl) rfl rfl) (by assumption) ?_
            try simp only [Act.put, List.setIfInBounds_toArray, List.set_cons_zero, List.set_cons_succ]
            refine takeN_lit (i := 1) (v := ?_) (F := #[true, false, true, false, false, false, false, false]) rfl (by kernel_rfl) (by kernel_rfl) (by kernel_rfl) (by kernel_rfl) (fun _ _ _ h => h) (Or.inl ⟨by rfl, ?_⟩) (by assumption) ?_
            rotate_left
            · (intro w hSw; (try dsimp only at hSw); go_simp <;> with_reducible rfl)
            try simp only [Act.put, List.setIfInBounds_toArray, List.set_cons_zero, List.set_cons_succ]
            refine takeN_lit (i := 2) (v := ?_) (F := #[true, true, false, false, false, false, false, false]) rfl (by kernel_rfl) (by kernel_rfl) (by kernel_rfl) (by kernel_rfl) (fun _ _ _ h => h) (Or.inl ⟨by rfl, ?_⟩) (by assumption) ?_
            rotate_left
            · (intro w hSw; (try dsimp only at hSw); go_simp <;> with_reducible rfl)
            try simp only [Act.put, List.setIfInBounds_toArray, List.set_cons_zero, List.set_cons_succ]
            refine takeN_lit (i := 3) (v := ?_) (F := #[true, true, true, false, false, false, false, false]) rfl (by kernel_rfl) (by kernel_rfl) (by kernel_rfl) (by kernel_rfl) (fun _ _ _ h => h) (Or.inl ⟨by rfl, ?_⟩) (by assumption) ?_
            rotate_left
            · (intro w hSw; (try dsimp only at hSw); go_simp <;> with_reducible rfl)
            try simp only [Act.put, List.setIfInBounds_toArray, List.set_cons_zero, List.set_cons_succ]
            refine takeN_lit (i := 4) (v := ?_) (F := #[true, true, true, true, false, false, false, false]) rfl (by kernel_rfl) (by kernel_rfl) (by kernel_rfl) (by kernel_rfl) (fun _ _ _ h => h) (Or.inl ⟨by rfl, ?_⟩) (by assumption) ?_
            rotate_left
            · (intro w hSw; (try dsimp only at hSw); go_simp <;> with_reducible rfl)
            try simp only [Act.put, List.setIfInBounds_toArray, List.set_cons_zero, List.set_cons_succ]
            refine takeN_lit (i := 5) (v := ?_) (F := #[true, true, true, true, true, false, false, false]) rfl (by kernel_rfl) (by kernel_rfl) (by kernel_rfl) (by kernel_rfl) (fun _ _ _ h => h) (Or.inl ⟨by rfl, ?_⟩) (by assumption) ?_
            rotate_left
            · (intro w hSw; (try dsimp only at hSw); have c3 := (HC.out _ hSw.1).2.2; go_simp <;> with_reducible rfl)
            try simp only [Act.put, List.setIfInBounds_toArray, List.set_cons_zero, List.set_cons_succ]
            refine wpAnyN_ready (rs := [6]) (by kernel_rfl) (by simp) ?_
            refine consN_lit rfl (fun K hK => ?_) ?_
            · go_simp
              refine (CR _).mono ?_
              rintro e w3 ⟨rfl, hB3⟩
              refine hK.out _ _ (Or.inr ?_) (fun hHeld => ?_)
              · exact HK.out _ _ hHeld hB3
              replace hHeld := hHeld.resolve_left (by decide)
              clear hK K
              try simp only [Act.put, List.setIfInBounds_toArray, List.set_cons_zero, List.set_cons_succ]
              refine wpAnyN_ready (rs := [7]) (by kernel_rfl) (by simp) ?_
              refine consN_lit rfl (fun K hK => ?_) ?_
              · skip
                refine sStH (.tmp 5) (.tmp 62) (by rfl) rfl _ G H rfl rfl hHeld.2.2 ?_
                intro Y hw4 ho4 t1
                refine hK.out _ _ (Or.inl rfl) (fun _ => ?_)
                clear hK K
                try simp only [Act.put, List.setIfInBounds_toArray, List.set_cons_zero, List.set_cons_succ]
                refine wpAnyN_done (by kernel_rfl) ?_ _
                refine NoPanic.normal ?_
                have hX3 : Below w.heap.size w Y := hHeld.1.trans (hw4.mono (by omega))
                have t0 := ho4 _ _ _ (by omega) hHeld.2.1
                clear hHeld hB3 hw4 ho4 hX2 s0 s1 CR HK
                have z1 : Y.cell? ⟨w.heap.size, 0, none⟩ = some (.int .u16 G.b) := t0.cell 0
                have z2 : Y.cell? ⟨w.heap.size, 1, none⟩ = some (.int .u16 G.n) := t0.cell 1
                have z3 : Y.cell? ⟨w.heap.size, 2, none⟩ = some (.bool G.k) := t0.cell 2
                have z4 : Y.cell? ⟨w.heap.size + 1, 0, none⟩ = some (.int .u16 G.b) := t1.cell 0
                have z5 : Y.cell? ⟨w.heap.size + 1, 1, none⟩ = some (.int .u16 G.n) := t1.cell 1
                have z6 : Y.cell? ⟨w.heap.size + 1, 2, none⟩ = some (.bool G.k) := t1.cell 2
                have hq := eqP
                have he : ∀ b n k, hiEq ⟨b, n, k⟩ ⟨b, n, k⟩ = true := fun b n k => (hiEq_iff _ _).2 rfl
                go_wp2
                go_roundw
                case rel => exact ⟨j + 1, by omega, by go_num, hX3, by rw [HG.out]; exact t0, by rw [HG.out]; exact t1⟩
                case measure => simp [intOf]; omega
              exact AllReadyN.nil
            exact AllReadyN.nil
          exact AllReadyN.nil
        exact AllReadyN.nil
    · have hji : ¬ (j : Int) < (n : Int) := by omega
      go_wp2_with (go_at_call 8; refine (live_any _).mono ?_; rintro e w' ⟨rfl, hw⟩)
      go_ret
      exact ⟨rfl, hX.trans (hw.mono hX.size)⟩
theorem hears_any (h : Hi) (ad : Option Addr) (n c : Nat) (l : List Ac) (w : World) (ok : h.ok) (hs : Acs w ad n l) :
    Calls Try.prog 3 #[.agg #[.int .u16 h.b, .int .u16 h.n, .bool h.k], .slice ad n c] w (Gives w (.bool true)) := by
  by_cases hn : 300 < n
  · exact hears_long h ad n c w hn
  · exact hears_walk h ad n c l w ok (by omega) hs
end Go.Proofs.Ytpkjdfdjjobjgaa
