/-
  A queue: Copy, for every queue.
-/
import Derived.Test.YtkamcnjofpamhaaTLive
import Derived.Test.YtkamcnjofpamhaaTUq
namespace Go.Proofs.Ytkamcnjofpamhaa
open Go.RowKit Go.Maps
set_option linter.unusedSimpArgs false
/-- One more stands at the end of a line. -/
theorem St.grow {w w1 : World} {q : Nat} {m v v' : Value} {L : List Tm} {t : Tm} {g : Nat} {cap : Nat} (h : St w q m v L) (ht : Tim w t L.length) (o : Obj)
    (hg : (w.alloc o).grownBy w1 v.ownBlock) (hv : v' = .slice (some ⟨g, 0, none⟩) (L.length + 1) cap) (hown : w1.ownsRow 0 64 1 v' (L.length + 1) (ptrs L ++ [.pointer (some ⟨t.b, 0, none⟩)])) :
    St (w1.setCell ⟨q, 0, none⟩ v') q m v' (L ++ [t]) ∧ Frm (fun k => k = q ∨ v.ownBlock = some k) w (w1.setCell ⟨q, 0, none⟩ v') ∧ w1.heap[q]? = some (.cells #[v, m] 63 (0, 0)) := by
  have hqt : q ≠ t.b := by
    intro e
    have h1 : w.heap[t.b]? = _ := ht
    rw [← e, h.que] at h1
    simp at h1
  have hot : ∀ g, v.ownBlock = some g → g ≠ t.b ∧ g ≠ q ∧ g < w.heap.size ∧ ∀ s ∈ L, s.b ≠ g := by
    intro g hg
    obtain ⟨cur, hc⟩ := row_tag h.line hg
    refine ⟨fun e => ?_, fun e => h.row_que hc e.symm, (Array.getElem?_eq_some_iff.1 hc).1, fun s hs e => ?_⟩
    · have h1 : w.heap[t.b]? = _ := ht
      rw [← e, hc] at h1
      simp at h1
    · obtain ⟨j, hj, rfl⟩ := List.getElem_of_mem hs
      exact h.not_row hj hc e.symm
  have hq : q < w.heap.size := (Array.getElem?_eq_some_iff.1 h.que).1
  have hk : ∀ k, k < w.heap.size → v.ownBlock ≠ some k → w1.heap[k]? = w.heap[k]? := by
    intro k h1 h3
    rw [hg.block k (by simp; omega) (fun e => h3 e.symm), Below.heap_alloc _ _ _ (by simpa using h1)]
  have q1 : w1.heap[q]? = some (.cells #[v, m] 63 (0, 0)) := (hk q hq (fun e => (hot _ e).2.1 rfl)).trans h.que
  have q2 : w1.heap[t.b]? = some (.cells (tcells t L.length) 69 (0, 0)) := (hk _ ht.lt (fun e => (hot _ e).1 rfl)).trans ht
  subst hv
  obtain ⟨cur, hcur⟩ := row_tag hown rfl
  have hgq : g ≠ q := by
    intro e
    rw [e, q1] at hcur
    simp at hcur
  refine ⟨⟨?_, ?_, ?_⟩, ⟨hg.os, hg.tape, hg.output, by have := hg.size; simp at this; simp; omega, ?_⟩, q1⟩
  · rw [set_block q1 _]
    simp
  · rw [show (L ++ [t]).length = L.length + 1 by simp, show ptrs (L ++ [t]) = ptrs L ++ [.pointer (some ⟨t.b, 0, none⟩)] by simp [ptrs]]
    refine World.ownsRow.kept (row := some q) hown ⟨rfl, rfl, rfl, by simp, fun k hk hne => set_other (fun e => hne (congrArg some e)) _⟩ (.inr ?_)
    intro e
    exact hgq (by simpa [Value.ownBlock] using e)
  · intro j hj
    by_cases hjl : j < L.length
    · rw [List.getElem_append_left hjl]
      have ht := h.tim j hjl
      have hm := List.getElem_mem hjl
      refine (set_other (fun e => h.not_que hjl e.symm) _).trans ((hk _ ht.lt (fun e => (hot _ e).2.2.2 _ hm rfl)).trans ht)
    · have : j = L.length := by simp at hj; omega
      subst this
      simp only [List.getElem_append_right (Nat.le_refl _), Nat.sub_self, List.getElem_cons_zero]
      exact (set_other (fun e => hqt e.symm) _).trans q2
  · intro k hk' hn
    rw [set_other (fun e => hn (.inl e))]
    exact hk k hk' (fun e => hn (.inr e))
/-- What Copy tells. -/
def Copied (w : World) (L : List Tm) (e : Ending) (w' : World) : Prop := e = .returned (.pointer (some ⟨w.heap.size + 1, 0, none⟩)) ∧ ∃ L', Lv w.heap.size w' (w.heap.size + 1) w.heap.size L' ∧ L'.map nt = L.map nt ∧ Below w.heap.size w w'
/-- What the rounds of Copy keep. -/
structure CpAt (w W : World) (L : List Tm) (i : Nat) : Prop where
  ex : ∃ v K, Qd W (w.heap.size + 1) w.heap.size v K ∧ (∀ k, FootQ (w.heap.size + 1) w.heap.size v K k → w.heap.size ≤ k) ∧ K.map nt = (L.take i).map nt
  bel : Below w.heap.size w W
set_option maxHeartbeats 4000000 in
set_option maxRecDepth 100000 in
theorem copy_any (w : World) (q mb : Nat) (v : Value) (L : List Tm) (h : Qd w q mb v L) (hL : L.length ≤ 10000) : Calls Try.prog 18 #[.pointer (some ⟨q, 0, none⟩)] w (Copied w L) := by
  obtain ⟨a, cap, rfl⟩ := h.st.shape
  have hq : q < w.heap.size := (Array.getElem?_eq_some_iff.1 h.st.que).1
  have c0 : w.cell? ⟨q, 0, none⟩ = some (.slice a L.length cap) := one_cell h.st.que rfl
  have HT : Hid (∀ j (hj : j < L.length), ∃ g, a = some ⟨g, 0, none⟩ ∧ g < w.heap.size ∧ w.cell? ⟨g, j, none⟩ = some (.pointer (some ⟨L[j].b, 0, none⟩)) ∧ Tim w L[j] j) := fun i hi => by
    obtain ⟨g, cp, cur, e, h3, _, _, _, h7⟩ := h.st.row (by omega)
    cases e
    exact ⟨g, rfl, (Array.getElem?_eq_some_iff.1 h3).1, one_cell h3 (row_at h7 i hi), h.st.tim i hi⟩
  have HN : Hid ((L.map Tm.nm).Nodup ∧ ∀ t ∈ L, t.nm.size ≤ maxLen) := ⟨h.mp.nd, h.mp.sz⟩
  have N := new_any w
  obtain ⟨i0, hI, hz0, hz1, hz2⟩ := info_parts infoP
  clear h
  go_enter Try.func18, Try.ntmps18
  go_wp2_with (go_at_call 10; refine N.mono ?_; rintro e w1 ⟨rfl, q1, b1⟩; have c1 : w1.cell? ⟨q, 0, none⟩ = some (.slice a L.length cap) := (b1.cell (p := ⟨q, 0, none⟩) hq).trans c0; clear N)
  go_loopw [15] (fun u wr => ∃ i : Nat, u = .int .i64 i ∧ i ≤ L.length ∧ CpAt w wr L i) (fun u _ => L.length - (intOf u).toNat)
  case atStart => exact ⟨0, rfl, Nat.zero_le _, ⟨_, [], q1, (by
    rintro k ((e | e | ⟨s, hs, e⟩) | e)
    · omega
    · cases e
    · cases hs
    · omega), rfl⟩, b1⟩
  case round =>
    clear q1 b1 c1 c0
    obtain ⟨i, rfl, hi, H⟩ := hrel
    by_cases hlt : i < L.length
    · have hlt' : (i : Int) < (L.length : Int) := by omega
      obtain ⟨g, rfl, hg, k1, k2⟩ := HT.out i hlt
      obtain ⟨v, K, hQ, hF, hK⟩ := H.ex
      have bel := H.bel
      have d1 : wr.cell? ⟨g, i, none⟩ = some (.pointer (some ⟨L[i].b, 0, none⟩)) := (bel.cell (p := ⟨g, i, none⟩) hg).trans k1
      have hT : Tim wr L[i] i := (bel.block _ k2.lt).trans k2
      have d2 : wr.cell? ⟨L[i].b, 0, none⟩ = some (.int .i64 L[i].tm) := one_cell hT rfl
      have d3 : wr.cell? ⟨L[i].b, 1, none⟩ = some (.string L[i].nm) := one_cell hT rfl
      have d4 : wr.cell? ⟨L[i].b, 2, none⟩ = some (.int .i64 i) := one_cell hT rfl
      obtain ⟨t, hKi⟩ : ∃ t, L[i] = t := ⟨_, rfl⟩
      rw [hKi] at d1 d2 d3 d4
      have HB : Hid (Below w.heap.size w wr) := bel
      have hKl : K.length = i := by have := congrArg List.length hK; simp at this; omega
      obtain ⟨va, vc, rfl⟩ := hQ.st.shape
      have hnm : t.nm.size ≤ maxLen := HN.out.2 t (hKi ▸ List.getElem_mem hlt)
      have hnew : ∀ s ∈ K, s.nm ≠ t.nm := by
        intro s hs e
        have h1 : nt s ∈ (L.take i).map nt := hK ▸ List.mem_map_of_mem hs
        obtain ⟨x, hx, ex⟩ := List.mem_map.1 h1
        have h2 : x.nm = t.nm := by have := congrArg Prod.fst ex; exact this.trans e
        obtain ⟨k, hk, rfl⟩ := List.mem_iff_getElem.1 hx
        have hk' : k < i := by simp at hk; omega
        have hn := HN.out.1
        rw [List.nodup_iff_pairwise_ne, List.pairwise_iff_getElem] at hn
        refine hn k i (by simp; omega) (by simp; omega) hk' ?_
        simp only [List.getElem_map]
        rw [hKi, ← h2, List.getElem_take]
      have hB1 := (Below.refl wr.heap.size wr).alloc (Nat.le_refl _) (.cells #[.int .i64 t.tm, .string t.nm, .int .i64 i] 69)
      have X1 := hQ.below hB1
      have hT1 : Tim (wr.alloc (.cells #[.int .i64 t.tm, .string t.nm, .int .i64 i] 69)) ⟨wr.heap.size, t.tm, t.nm⟩ i := new_block wr _ _
      have e1 : (wr.alloc (.cells #[.int .i64 t.tm, .string t.nm, .int .i64 i] 69)).cell? ⟨w.heap.size + 1, 0, none⟩ = some (.slice va K.length vc) := one_cell X1.st.que rfl
      have HO : Hid (((wr.alloc (.cells #[.int .i64 t.tm, .string t.nm, .int .i64 i] 69)).alloc (.cells #[.pointer (some ⟨wr.heap.size, 0, none⟩)] 64)).ownsRow 0 64 1 (.slice va K.length vc) K.length (ptrs K)) := X1.st.line.alloc _
      have HG : Hid (∀ g' cap' w2, ((wr.alloc (.cells #[.int .i64 t.tm, .string t.nm, .int .i64 i] 69)).alloc (.cells #[.pointer (some ⟨wr.heap.size, 0, none⟩)] 64)).grownBy w2 (Value.slice va K.length vc).ownBlock → w2.ownsRow 0 64 1 (.slice (some ⟨g', 0, none⟩) (K.length + 1) cap') (K.length + 1) (ptrs K ++ [.pointer (some ⟨wr.heap.size, 0, none⟩)]) → ((Value.slice (some ⟨g', 0, none⟩) (K.length + 1) cap').ownBlock = (Value.slice va K.length vc).ownBlock ∨ wr.heap.size ≤ g') →
          w2.cell? ⟨w.heap.size + 1, 0, none⟩ = some (.slice va K.length vc) ∧ w2.frozen? ⟨w.heap.size + 1, 0, none⟩ = false ∧ (w2.setCell ⟨w.heap.size + 1, 0, none⟩ (.slice (some ⟨g', 0, none⟩) (K.length + 1) cap')).cell? ⟨w.heap.size + 1, 1, none⟩ = some (.map (some w.heap.size)) ∧ (w2.setCell ⟨w.heap.size + 1, 0, none⟩ (.slice (some ⟨g', 0, none⟩) (K.length + 1) cap')).cell? ⟨wr.heap.size, 1, none⟩ = some (.string t.nm) ∧
          ∃ D, (w2.setCell ⟨w.heap.size + 1, 0, none⟩ (.slice (some ⟨g', 0, none⟩) (K.length + 1) cap')).drew.ownsMap Try.prog 9 ptrElem w.heap.size K.length D ∧ ∀ w4, w4.ownsMap Try.prog 9 ptrElem w.heap.size (K.length + 1) (D.put (key t.nm) (.lit (.int .i64 (wr.heap.size : Nat)))) → (w2.setCell ⟨w.heap.size + 1, 0, none⟩ (.slice (some ⟨g', 0, none⟩) (K.length + 1) cap')).drew.grownBy w4 (some w.heap.size) → CpAt w w4 L (i + 1)) := by
        intro g' cap' w2 hg2 ho2 hl2
        obtain ⟨s3, F3, q3⟩ := X1.st.grow (t := ⟨wr.heap.size, t.tm, t.nm⟩) (by rw [hKl]; exact hT1) _ hg2 rfl ho2
        have hmq : ¬ (w.heap.size = w.heap.size + 1 ∨ (Value.slice va K.length vc).ownBlock = some w.heap.size) := by
          rintro (e | e)
          · omega
          · exact X1.map_not (.inr (.inl e))
        have m3 := X1.mp.same (F3.block _ X1.mp.lt hmq)
        have m3' : Mp (w2.setCell ⟨w.heap.size + 1, 0, none⟩ (.slice (some ⟨g', 0, none⟩) (K.length + 1) cap')).drew w.heap.size K := m3.same rfl
        have ht3 := s3.tim K.length (by simp)
        simp only [List.getElem_append_right (Nat.le_refl _), Nat.sub_self, List.getElem_cons_zero] at ht3
        obtain ⟨D, hD, _⟩ := m3'.ex
        refine ⟨one_cell q3 rfl, one_free q3, one_cell s3.que rfl, one_cell ht3 rfl, D, hD, fun w4 o4 g4 => ?_⟩
        have m4 : Mp w4 w.heap.size (K ++ [⟨wr.heap.size, t.tm, t.nm⟩]) := m3'.put (t := ⟨wr.heap.size, t.tm, t.nm⟩) hnm hnew hD o4
        have F4 : Frm (fun k => k = w.heap.size) (w2.setCell ⟨w.heap.size + 1, 0, none⟩ (.slice (some ⟨g', 0, none⟩) (K.length + 1) cap')) w4 := (Frm.refl _ _).drew.grown g4 (fun k hk => by cases hk; exact .inl rfl)
        have hnf : ∀ k, Foot (w.heap.size + 1) (.slice (some ⟨g', 0, none⟩) (K.length + 1) cap') (K ++ [⟨wr.heap.size, t.tm, t.nm⟩]) k → k ≠ w.heap.size := by
          rintro k (e | e | ⟨s, hs, e⟩) rfl
          · omega
          · obtain ⟨cur, hc⟩ := row_tag s3.line e
            exact m3.not_cells hc rfl
          · obtain ⟨j, hj, rfl⟩ := List.getElem_of_mem hs
            exact m3.not_cells (s3.tim j hj) e
        have hsz := HB.out.size
        refine ⟨⟨_, _, ⟨s3.frm F4 hnf, m4⟩, ?_, ?_⟩, ?_⟩
        · rintro k ((e | e | ⟨s, hs, e⟩) | e)
          · omega
          · rcases hl2 with h5 | h5
            · exact hF k (.inl (.inr (.inl (h5 ▸ e))))
            · simp [Value.ownBlock] at e
              omega
          · rcases List.mem_append.1 hs with h5 | h5
            · exact hF k (.inl (.inr (.inr ⟨s, h5, e⟩)))
            · simp at h5
              rw [h5] at e
              simp at e
              omega
          · omega
        · rw [List.map_append, hK, List.take_add_one, List.getElem?_eq_getElem hlt, hKi, List.map_append]
          rfl
        · have b1 : Below w.heap.size w (wr.alloc (.cells #[.int .i64 t.tm, .string t.nm, .int .i64 i] 69)) := HB.out.alloc hsz _
          have b3 := b1.trans (F3.below b1.size (fun k hk => by
            rcases hk with e | e
            · omega
            · exact hF k (.inl (.inr (.inl e)))))
          exact b3.trans (F4.below b3.size (fun k hk => by rw [hk]; exact Nat.le_refl _))
      have hkey := keyOf_nm hnm
      have hval : ptrElem (.pointer (some ⟨wr.heap.size, 0, none⟩)) = some (.lit (.int .i64 (wr.heap.size : Nat)), []) := rfl
      have hK4 : K.length ≤ 10000 := by omega
      clear H hT k1 k2 hQ hF hK hKi bel X1 hT1 hB1 hnew hnm hKl
      go_wp2_with (first
        | (at_builtin; refine wpList_append_own_at _ rfl _ _ 61 rfl 0 64 i0 (.pointer none) 1 8 Try.underlying61 hI hz0 hz1 hz2 rfl (by decide) (.slice va K.length vc) K.length (ptrs K) rfl HO.out ⟨wr.heap.size + 1, 0, none⟩ 1 1 [.pointer (some ⟨wr.heap.size, 0, none⟩)] rfl rfl (by have := cell_one_new (wr.alloc (.cells #[.int .i64 t.tm, .string t.nm, .int .i64 i] 69)) (.pointer (some ⟨wr.heap.size, 0, none⟩)) 64; simpa using this) (by simp [Value.oneCell']) (by unfold maxLen; omega) (by omega) (Nat.zero_le _) ?_; intro v' w2 hown hgrow _ hloc; obtain ⟨g', cap', rfl⟩ := row_succ hown; obtain ⟨f1, f2, f3, f4, D, hD, HE⟩ := HG.out _ _ _ hgrow hown (by rcases hloc with e | e; exact .inl e; (refine .inr ?_; simp [Value.ownBlock] at e; omega)); clear hgrow hown hloc HG HO))
      obtain ⟨w4, hrun, hown4, hgrow4⟩ := hD.update law Try.underlying59 (by unfold maxLen; omega) hkey hval
      have HZ : Hid (CpAt w w4 L (i + 1)) := HE _ hown4 hgrow4
      clear hD HE hown4 hgrow4 hkey hval
      go_region
      all_goals
        go_wp2
        go_roundw
        case rel => exact ⟨i + 1, by simp [wrap64], by omega, HZ.out⟩
        case measure => simp [intOf]; omega
    · obtain rfl : i = L.length := by omega
      have hlt' : ¬ (L.length : Int) < (L.length : Int) := by omega
      obtain ⟨v, K, hQ, hF, hK⟩ := H.ex
      have bel := H.bel
      rw [List.take_length] at hK
      clear H
      go_wp2
      go_ret
      exact ⟨rfl, K, ⟨v, hQ, hF⟩, hK, bel⟩
end Go.Proofs.Ytkamcnjofpamhaa
