/-
  The contract of the document's Same where two lists of lines are the same.
-/
import Derived.Test.YtldpocbnkggnnaaDoorL1
import Derived.Test.YtldpocbnkggnnaaDoorD0
namespace Go.Proofs.YtldpocbnkggnnaaDoor
open Go.RowKit
set_option linter.unusedSimpArgs false
set_option maxRecDepth 20000
/-- Lines as a source. -/
structure LS (w : World) (a : Option Addr) (ls : List Ln) : Prop where
  get : ∀ j (h : j < ls.length), ∃ g, a = some ⟨g, 0, none⟩ ∧ w.cell? ⟨g, j * 2, none⟩ = some (.int .i64 (ls[j].n : Int)) ∧ w.cell? ⟨g, j * 2 + 1, none⟩ = some (.slice ls[j].a ls[j].k ls[j].c)
  wd : ∀ x ∈ ls, Src w x.a x.k x.c (scells x.ws)
theorem LS.below {w w' : World} {a : Option Addr} {ls : List Ln} (h : LS w a ls) (hb : Below w.heap.size w w') : LS w' a ls := ⟨fun j hj => by
    obtain ⟨g, h1, h2, h3⟩ := h.get j hj
    have l1 := World.block_lt_of_cell? _ _ h2
    exact ⟨g, h1, (hb.cell (p := ⟨g, j * 2, none⟩) l1).trans h2, (hb.cell (p := ⟨g, j * 2 + 1, none⟩) l1).trans h3⟩, fun x hx => (h.wd x hx).stay hb⟩
theorem LS.of {w : World} {B B' : Nat} {a : Option Addr} {n c : Nat} {ls : List Ln} (h : w.ownsRow B 52 2 (.slice a n c) n (lcs ls)) (hw : Wds B' w ls) : LS w a ls := by
  refine ⟨fun j hj => ?_, fun x hx => ?_⟩
  · have hl := h.1
    rw [lcs_len] at hl
    rcases h.2 with ⟨e, h0⟩ | ⟨g, cap, cur, e, hb, hh, hr⟩
    · omega
    · cases e
      have g0 := lcs_get ls j ls[j] (List.getElem?_eq_getElem hj) 0 (by decide)
      have g1 := lcs_get ls j ls[j] (List.getElem?_eq_getElem hj) 1 (by decide)
      have k0 := h.cells (g := g) rfl (j * 2) _ g0
      have k1 := h.cells (g := g) rfl (j * 2 + 1) _ g1
      refine ⟨g, rfl, ?_, ?_⟩
      · simpa [Addr.add_lit] using k0
      · simpa [Addr.add_lit] using k1
  · obtain ⟨a1, c1, e, hs, _⟩ := Src.ofOwn (hw x hx)
    cases e
    exact hs
set_option maxHeartbeats 2000000 in
theorem same_true (ls ks : List Ln) (hK : ls.map lkey = ks.map lkey) (a b : Option Addr) (c d : Nat) (w : World) (ha : LS w a ls) (hb : LS w b ks) (hn : ls.length ≤ 1000000) (hw : ∀ x ∈ ls, x.ws.length ≤ 1000000) :
    Calls Tryd.prog 15 #[.slice a ls.length c, .slice b ks.length d] w fun e w' => e = .returned (.bool true) ∧ Below w.heap.size w w' := by
  have HL : Hid (ls.length = ks.length) := by show _ = _; have := congrArg List.length hK; simpa using this
  rw [← HL.out]
  obtain ⟨n, hnn⟩ : ∃ n, n = ls.length := ⟨_, rfl⟩
  rw [← hnn] at hn ⊢
  have HN : Hid (n = ls.length) := hnn
  clear hnn
  have HJ : Hid (∀ j (h : j < n), ∃ (g g' : Nat) (N : Nat) (aw bw : Option Addr) (kw cw dw : Nat) (ws : List (List UInt8)), a = some ⟨g, 0, none⟩ ∧ b = some ⟨g', 0, none⟩ ∧ w.cell? ⟨g, j * 2, none⟩ = some (.int .i64 (N : Int)) ∧ w.cell? ⟨g', j * 2, none⟩ = some (.int .i64 (N : Int)) ∧ w.cell? ⟨g, j * 2 + 1, none⟩ = some (.slice aw kw cw) ∧ w.cell? ⟨g', j * 2 + 1, none⟩ = some (.slice bw kw dw) ∧ Src w aw kw cw (scells ws) ∧ Src w bw kw dw (scells ws) ∧ kw ≤ 1000000) := fun j hj => by
    have j1 : j < ls.length := by rw [← HN.out]; exact hj
    have j2 : j < ks.length := by rw [← HL.out]; exact j1
    obtain ⟨g, e1, h1, h2⟩ := ha.get j j1
    obtain ⟨g', e2, h3, h4⟩ := hb.get j j2
    have hk : lkey ls[j] = lkey ks[j] := by
      have e1 : (ls.map lkey)[j]? = some (lkey ls[j]) := by rw [List.getElem?_map, List.getElem?_eq_getElem j1]; rfl
      have e2 : (ks.map lkey)[j]? = some (lkey ks[j]) := by rw [List.getElem?_map, List.getElem?_eq_getElem j2]; rfl
      rw [hK, e2] at e1
      exact (Option.some.inj e1).symm
    have s1 := ha.wd _ (List.getElem_mem j1)
    have s2 := hb.wd _ (List.getElem_mem j2)
    have hN : ls[j].n = ks[j].n := congrArg Prod.fst hk
    have hW : ls[j].ws = ks[j].ws := congrArg Prod.snd hk
    have hlk : ls[j].k = ks[j].k := by rw [s1.slen, s2.slen, hW]
    have hwl := hw _ (List.getElem_mem j1)
    refine ⟨g, g', ls[j].n, ls[j].a, ks[j].a, ls[j].k, ls[j].c, ks[j].c, ls[j].ws, e1, e2, h1, by rw [hN]; exact h3, h2, by rw [hlk]; exact h4, s1, by rw [hlk, hW]; exact s2, by rw [s1.slen]; exact hwl⟩
  clear ha hb hw hK
  have e1 : ((n : Int) == (n : Int)) = true := by simp
  go_enter Tryd.func15, Tryd.ntmps15
  go_wp2
  go_loopw [5] (fun i wr => ∃ (j : Nat), j ≤ n ∧ i = .int .i64 j ∧ Below w.heap.size w wr) (fun i _ => n - (intOf i).toNat)
  case atStart => exact ⟨0, Nat.zero_le _, rfl, Below.refl _ _⟩
  case round =>
    obtain ⟨j, hj, rfl, hb⟩ := hrel
    have w1 : wrap64 ((j : Int) + 1) = (j : Int) + 1 := by unfold wrap64; omega
    by_cases hlt : j < n
    · obtain ⟨g, g', N, aw, bw, kw, cw, dw, ws, rfl, rfl, c1, c2, c3, c4, s1, s2, hkw⟩ := HJ.out j hlt
      have H1 : Hid (∀ W, Below w.heap.size w W → W.cell? ⟨g, j * 2, none⟩ = some (.int .i64 (N : Int))) := fun W h => (h.cell (p := ⟨g, j * 2, none⟩) (World.block_lt_of_cell? _ _ c1)).trans c1
      have H2 : Hid (∀ W, Below w.heap.size w W → W.cell? ⟨g', j * 2, none⟩ = some (.int .i64 (N : Int))) := fun W h => (h.cell (p := ⟨g', j * 2, none⟩) (World.block_lt_of_cell? _ _ c2)).trans c2
      have H3 : Hid (∀ W, Below w.heap.size w W → W.cell? ⟨g, j * 2 + 1, none⟩ = some (.slice aw kw cw)) := fun W h => (h.cell (p := ⟨g, j * 2 + 1, none⟩) (World.block_lt_of_cell? _ _ c3)).trans c3
      have H4 : Hid (∀ W, Below w.heap.size w W → W.cell? ⟨g', j * 2 + 1, none⟩ = some (.slice bw kw dw)) := fun W h => (h.cell (p := ⟨g', j * 2 + 1, none⟩) (World.block_lt_of_cell? _ _ c4)).trans c4
      have hT := fun W (h : Below w.heap.size w W) => texts_any ws ws aw bw kw cw kw dw W (s1.stay h) (s2.stay h) (by omega) (by omega)
      rw [decide_eq_true rfl] at hT
      clear c1 c2 c3 c4 s1 s2
      have k0 : (j : Int) < (n : Int) := by omega
      have k1 : (0 : Int) ≤ (j : Int) := by omega
      go_wp2
      refine wp_region_noPanic ?_
      refine wp_region_held_drew (S := fun W => Below w.heap.size w W) (by kernel_rfl) (hb.drew) (fun hHeld => ?_)
      refine take_lit (i := 0) (v := ?_) rfl (by kernel_rfl) (by kernel_rfl) (by kernel_rfl) (fun _ _ _ h => h) (Or.inl ⟨by rfl, ?_⟩) (by assumption) ?_
      rotate_left
      · (intro w hSw; (try dsimp only at hSw); go_simp <;> with_reducible rfl)
      try simp only [Act.put, List.setIfInBounds_toArray, List.set_cons_zero, List.set_cons_succ]
      refine take_lit (i := 1) (v := ?_) rfl (by kernel_rfl) (by kernel_rfl) (by kernel_rfl) (fun _ _ _ h => h) (Or.inl ⟨by rfl, ?_⟩) (by assumption) ?_
      rotate_left
      · (intro w hSw; (try dsimp only at hSw); go_simp <;> with_reducible rfl)
      try simp only [Act.put, List.setIfInBounds_toArray, List.set_cons_zero, List.set_cons_succ]
      refine take_lit (i := 2) (v := ?_) rfl (by kernel_rfl) (by kernel_rfl) (by kernel_rfl) (fun _ _ _ h => h) (Or.inl ⟨by rfl, ?_⟩) (by assumption) ?_
      rotate_left
      · (intro w hSw; (try dsimp only at hSw); go_simp <;> with_reducible rfl)
      try simp only [Act.put, List.setIfInBounds_toArray, List.set_cons_zero, List.set_cons_succ]
      refine take_lit (i := 3) (v := ?_) rfl (by kernel_rfl) (by kernel_rfl) (by kernel_rfl) (fun _ _ _ h => h) (Or.inl ⟨by rfl, ?_⟩) (by assumption) ?_
      rotate_left
      · (intro w hSw; (try dsimp only at hSw); go_simp <;> with_reducible rfl)
      try simp only [Act.put, List.setIfInBounds_toArray, List.set_cons_zero, List.set_cons_succ]
      refine take_lit (i := 4) (v := ?_) rfl (by kernel_rfl) (by kernel_rfl) (by kernel_rfl) (fun _ _ _ h => h) (Or.inl ⟨by rfl, ?_⟩) (by assumption) ?_
      rotate_left
      · (intro w hSw; (try dsimp only at hSw); have hc := H1.out _ hSw; go_simp <;> with_reducible rfl)
      try simp only [Act.put, List.setIfInBounds_toArray, List.set_cons_zero, List.set_cons_succ]
      refine take_lit (i := 5) (v := ?_) rfl (by kernel_rfl) (by kernel_rfl) (by kernel_rfl) (fun _ _ _ h => h) (Or.inl ⟨by rfl, ?_⟩) (by assumption) ?_
      rotate_left
      · (intro w hSw; (try dsimp only at hSw); go_simp <;> with_reducible rfl)
      try simp only [Act.put, List.setIfInBounds_toArray, List.set_cons_zero, List.set_cons_succ]
      refine take_lit (i := 6) (v := ?_) rfl (by kernel_rfl) (by kernel_rfl) (by kernel_rfl) (fun _ _ _ h => h) (Or.inl ⟨by rfl, ?_⟩) (by assumption) ?_
      rotate_left
      · (intro w hSw; (try dsimp only at hSw); go_simp <;> with_reducible rfl)
      try simp only [Act.put, List.setIfInBounds_toArray, List.set_cons_zero, List.set_cons_succ]
      refine take_lit (i := 7) (v := ?_) rfl (by kernel_rfl) (by kernel_rfl) (by kernel_rfl) (fun _ _ _ h => h) (Or.inl ⟨by rfl, ?_⟩) (by assumption) ?_
      rotate_left
      · (intro w hSw; (try dsimp only at hSw); go_simp <;> with_reducible rfl)
      try simp only [Act.put, List.setIfInBounds_toArray, List.set_cons_zero, List.set_cons_succ]
      refine take_lit (i := 8) (v := ?_) rfl (by kernel_rfl) (by kernel_rfl) (by kernel_rfl) (fun _ _ _ h => h) (Or.inl ⟨by rfl, ?_⟩) (by assumption) ?_
      rotate_left
      · (intro w hSw; (try dsimp only at hSw); go_simp <;> with_reducible rfl)
      try simp only [Act.put, List.setIfInBounds_toArray, List.set_cons_zero, List.set_cons_succ]
      refine take_lit (i := 9) (v := ?_) rfl (by kernel_rfl) (by kernel_rfl) (by kernel_rfl) (fun _ _ _ h => h) (Or.inl ⟨by rfl, ?_⟩) (by assumption) ?_
      rotate_left
      · (intro w hSw; (try dsimp only at hSw); have hc := H2.out _ hSw; go_simp <;> with_reducible rfl)
      try simp only [Act.put, List.setIfInBounds_toArray, List.set_cons_zero, List.set_cons_succ]
      refine take_lit (i := 10) (v := ?_) rfl (by kernel_rfl) (by kernel_rfl) (by kernel_rfl) (fun _ _ _ h => h) (Or.inl ⟨by rfl, ?_⟩) (by assumption) ?_
      rotate_left
      · (intro w hSw; (try dsimp only at hSw); go_simp <;> with_reducible rfl)
      try simp only [Act.put, List.setIfInBounds_toArray, List.set_cons_zero, List.set_cons_succ]
      refine take_lit (i := 11) (v := ?_) rfl (by kernel_rfl) (by kernel_rfl) (by kernel_rfl) (fun _ _ _ h => h) (Or.inl ⟨by rfl, ?_⟩) (by assumption) ?_
      rotate_left
      · (intro w hSw; (try dsimp only at hSw); go_simp <;> with_reducible rfl)
      try simp only [Act.put, List.setIfInBounds_toArray, List.set_cons_zero, List.set_cons_succ]
      refine take_lit (i := 12) (v := ?_) rfl (by kernel_rfl) (by kernel_rfl) (by kernel_rfl) (fun _ _ _ h => h) (Or.inl ⟨by rfl, ?_⟩) (by assumption) ?_
      rotate_left
      · (intro w hSw; (try dsimp only at hSw); go_simp <;> with_reducible rfl)
      try simp only [Act.put, List.setIfInBounds_toArray, List.set_cons_zero, List.set_cons_succ]
      refine take_lit (i := 13) (v := ?_) rfl (by kernel_rfl) (by kernel_rfl) (by kernel_rfl) (fun _ _ _ h => h) (Or.inl ⟨by rfl, ?_⟩) (by assumption) ?_
      rotate_left
      · (intro w hSw; (try dsimp only at hSw); go_simp <;> with_reducible rfl)
      try simp only [Act.put, List.setIfInBounds_toArray, List.set_cons_zero, List.set_cons_succ]
      refine take_lit (i := 14) (v := ?_) rfl (by kernel_rfl) (by kernel_rfl) (by kernel_rfl) (fun _ _ _ h => h) (Or.inl ⟨by rfl, ?_⟩) (by assumption) ?_
      rotate_left
      · (intro w hSw; (try dsimp only at hSw); go_simp <;> with_reducible rfl)
      try simp only [Act.put, List.setIfInBounds_toArray, List.set_cons_zero, List.set_cons_succ]
      refine take_lit (i := 15) (v := ?_) rfl (by kernel_rfl) (by kernel_rfl) (by kernel_rfl) (fun _ _ _ h => h) (Or.inl ⟨by rfl, ?_⟩) (by assumption) ?_
      rotate_left
      · (intro w hSw; (try dsimp only at hSw); go_simp <;> with_reducible rfl)
      try simp only [Act.put, List.setIfInBounds_toArray, List.set_cons_zero, List.set_cons_succ]
      refine take_lit (i := 16) (v := ?_) rfl (by kernel_rfl) (by kernel_rfl) (by kernel_rfl) (fun _ _ _ h => h) (Or.inl ⟨by rfl, ?_⟩) (by assumption) ?_
      rotate_left
      · (intro w hSw; (try dsimp only at hSw); have hc := H3.out _ hSw; go_simp <;> with_reducible rfl)
      try simp only [Act.put, List.setIfInBounds_toArray, List.set_cons_zero, List.set_cons_succ]
      refine take_lit (i := 17) (v := ?_) rfl (by kernel_rfl) (by kernel_rfl) (by kernel_rfl) (fun _ _ _ h => h) (Or.inl ⟨by rfl, ?_⟩) (by assumption) ?_
      rotate_left
      · (intro w hSw; (try dsimp only at hSw); go_simp <;> with_reducible rfl)
      try simp only [Act.put, List.setIfInBounds_toArray, List.set_cons_zero, List.set_cons_succ]
      refine take_lit (i := 18) (v := ?_) rfl (by kernel_rfl) (by kernel_rfl) (by kernel_rfl) (fun _ _ _ h => h) (Or.inl ⟨by rfl, ?_⟩) (by assumption) ?_
      rotate_left
      · (intro w hSw; (try dsimp only at hSw); go_simp <;> with_reducible rfl)
      try simp only [Act.put, List.setIfInBounds_toArray, List.set_cons_zero, List.set_cons_succ]
      refine take_lit (i := 19) (v := ?_) rfl (by kernel_rfl) (by kernel_rfl) (by kernel_rfl) (fun _ _ _ h => h) (Or.inl ⟨by rfl, ?_⟩) (by assumption) ?_
      rotate_left
      · (intro w hSw; (try dsimp only at hSw); go_simp <;> with_reducible rfl)
      try simp only [Act.put, List.setIfInBounds_toArray, List.set_cons_zero, List.set_cons_succ]
      refine take_lit (i := 20) (v := ?_) rfl (by kernel_rfl) (by kernel_rfl) (by kernel_rfl) (fun _ _ _ h => h) (Or.inl ⟨by rfl, ?_⟩) (by assumption) ?_
      rotate_left
      · (intro w hSw; (try dsimp only at hSw); go_simp <;> with_reducible rfl)
      try simp only [Act.put, List.setIfInBounds_toArray, List.set_cons_zero, List.set_cons_succ]
      refine take_lit (i := 21) (v := ?_) rfl (by kernel_rfl) (by kernel_rfl) (by kernel_rfl) (fun _ _ _ h => h) (Or.inl ⟨by rfl, ?_⟩) (by assumption) ?_
      rotate_left
      · (intro w hSw; (try dsimp only at hSw); have hc := H4.out _ hSw; go_simp <;> with_reducible rfl)
      try simp only [Act.put, List.setIfInBounds_toArray, List.set_cons_zero, List.set_cons_succ]
      refine wpAnyH_ready (rs := [22]) (by kernel_rfl) (by simp) ?_
      refine cons_lit rfl (fun K hK => ?_) ?_
      · go_simp
        refine (hT _ hHeld).mono ?_
        rintro e w2 ⟨rfl, hB2⟩
        refine hK.out _ _ ?_ (fun hHeld => ?_)
        · exact hHeld.trans (hB2.mono hHeld.size)
        clear hK K
        try simp only [Act.put, List.setIfInBounds_toArray, List.set_cons_zero, List.set_cons_succ]
        refine take_lit (i := 23) (v := ?_) rfl (by kernel_rfl) (by kernel_rfl) (by kernel_rfl) (fun _ _ _ h => h) (Or.inl ⟨by rfl, ?_⟩) (by assumption) ?_
        rotate_left
        · (intro w hSw; (try dsimp only at hSw); go_simp <;> with_reducible rfl)
        try simp only [Act.put, List.setIfInBounds_toArray, List.set_cons_zero, List.set_cons_succ]
        refine take_lit (i := 24) (v := ?_) rfl (by kernel_rfl) (by kernel_rfl) (by kernel_rfl) (fun _ _ _ h => h) (Or.inl ⟨by rfl, ?_⟩) (by assumption) ?_
        rotate_left
        · (intro w hSw; (try dsimp only at hSw); go_simp <;> with_reducible rfl)
        try simp only [Act.put, List.setIfInBounds_toArray, List.set_cons_zero, List.set_cons_succ]
        refine wpAnyH_done (by kernel_rfl) ?_ _
        refine NoPanic.normal ?_
        go_wp2
        go_roundw
        case rel => exact ⟨j + 1, by omega, by go_num, hHeld⟩
        case measure => simp [intOf]; omega
      exact AllReadyH.nil
    · obtain rfl : n = j := by omega
      go_wp2
      go_ret
      exact ⟨rfl, hb⟩
end Go.Proofs.YtldpocbnkggnnaaDoor
