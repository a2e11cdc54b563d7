/-
  The line's own Push and Pop, for every line.
-/
import Derived.Test.YtkamcnjofpamhaaTSt
import Derived.Maps.AppendAt
namespace Go.Proofs.Ytkamcnjofpamhaa
open Go.RowKit
set_option linter.unusedSimpArgs false
theorem St.shape {w : World} {q : Nat} {m v : Value} {L : List Tm} (h : St w q m v L) : ∃ a cap, v = .slice a L.length cap := by
  rcases h.line.2 with ⟨rfl, h0⟩ | ⟨g, cap, _, rfl, _⟩
  · exact ⟨none, 0, by rw [h0]⟩
  · exact ⟨_, _, rfl⟩
theorem infoP : (Try.prog.info? 64).map (fun i => (i.zero, i.size, i.bytes)) = some (some (.pointer none), 1, 8) := by kernel_rfl
/-- What Push leaves. -/
def Pushed (w w' : World) (q : Nat) (m v : Value) (L : List Tm) (t : Tm) : Prop :=
  ∃ v', St w' q m v' (L ++ [t]) ∧ Frm (fun k => k = q ∨ v.ownBlock = some k ∨ k = t.b) w w' ∧ (v'.ownBlock = v.ownBlock ∨ ∃ k, v'.ownBlock = some k ∧ w.heap.size ≤ k)
theorem ta_any (b : Nat) (w : World) : (Instr.typeAssert (.iface 64 (.pointer (some ⟨b, 0, none⟩))) 20 64 false).run Try.prog w = .ok (.pointer (some ⟨b, 0, none⟩)) w := by kernel_rfl
theorem row_tag {w : World} {v : Value} {n g : Nat} {xs : List Value} (h : w.ownsRow 0 64 1 v n xs) (hg : v.ownBlock = some g) : ∃ cur, w.heap[g]? = some (.cells cur 64 (0, 0)) := by
  rcases h.2 with ⟨rfl, _⟩ | ⟨g', cap, cur, rfl, _, h3, _⟩
  · cases hg
  · cases hg
    exact ⟨cur, h3⟩
theorem row_succ {w : World} {v : Value} {n : Nat} {xs : List Value} (h : w.ownsRow 0 64 1 v (n + 1) xs) : ∃ g cap, v = .slice (some ⟨g, 0, none⟩) (n + 1) cap := by
  rcases h.2 with ⟨_, h0⟩ | ⟨g, cap, _, rfl, _⟩
  · omega
  · exact ⟨g, cap, rfl⟩
set_option maxRecDepth 100000 in
theorem push_line (w : World) (q : Nat) (m v : Value) (L : List Tm) (t : Tm) (p : Int) (h : St w q m v L) (ht : Tim w t p) (hfr : ∀ s ∈ L, s.b ≠ t.b) (hl : L.length ≤ 100000) : Calls Try.prog 87 #[.pointer (some ⟨q, 0, none⟩), .iface 64 (.pointer (some ⟨t.b, 0, none⟩))] w (fun e w' => e = .returned (.tuple #[]) ∧ Pushed w w' q m v L t) := by
  obtain ⟨a, cap, rfl⟩ := h.shape
  obtain ⟨i0, hi, hz0, hz1, hz2⟩ := info_parts infoP
  have hqt : q ≠ t.b := by
    intro e
    have h1 : w.heap[t.b]? = _ := ht
    rw [← e, h.que] at h1
    simp at h1
  have hot : ∀ g, (Value.slice a L.length cap).ownBlock = some g → g ≠ t.b ∧ g ≠ q ∧ g < w.heap.size ∧ ∀ s ∈ L, s.b ≠ g := by
    intro g hg
    obtain ⟨cur, hc⟩ := row_tag h.line hg
    refine ⟨fun e => ?_, fun e => h.row_que hc e.symm, (Array.getElem?_eq_some_iff.1 hc).1, fun s hs e => ?_⟩
    · have h1 : w.heap[t.b]? = _ := ht
      rw [← e, hc] at h1
      simp at h1
    · obtain ⟨j, hj, rfl⟩ := List.getElem_of_mem hs
      exact h.not_row hj hc e.symm
  have HO : Hid (((w.setCell ⟨t.b, 2, none⟩ (.int .i64 L.length)).alloc (.cells #[.pointer (some ⟨t.b, 0, none⟩)] 64)).ownsRow 0 64 1 (.slice a L.length cap) L.length (ptrs L)) := by
    have hk : (w.setCell ⟨t.b, 2, none⟩ (.int .i64 L.length)).ownsRow 0 64 1 (.slice a L.length cap) L.length (ptrs L) :=
      World.ownsRow.kept (row := some t.b) h.line ⟨rfl, rfl, rfl, by simp, fun k hk hne => set_other (fun e => hne (congrArg some e)) _⟩ (.inr (fun e => (hot _ e).1 rfl))
    exact hk.alloc _
  have c1 : w.cell? ⟨q, 0, none⟩ = some (.slice a L.length cap) := one_cell h.que rfl
  have c2 : w.cell? ⟨t.b, 2, none⟩ = some (.int .i64 p) := one_cell ht rfl
  have c3 : w.frozen? ⟨t.b, 2, none⟩ = false := one_free ht
  have HH : Hid (St w q m (.slice a L.length cap) L ∧ Tim w t p ∧ ∀ g, (Value.slice a L.length cap).ownBlock = some g → g ≠ t.b ∧ g ≠ q ∧ g < w.heap.size ∧ ∀ s ∈ L, s.b ≠ g) := ⟨h, ht, hot⟩
  have HQ : Hid (∀ w1, ((w.setCell ⟨t.b, 2, none⟩ (.int .i64 L.length)).alloc (.cells #[.pointer (some ⟨t.b, 0, none⟩)] 64)).grownBy w1 (Value.slice a L.length cap).ownBlock → w1.heap[q]? = some (.cells #[.slice a L.length cap, m] 63 (0, 0)) ∧ w1.heap[t.b]? = some (.cells (tcells t L.length) 69 (0, 0)) ∧ (∀ k, k < w.heap.size → k ≠ t.b → (Value.slice a L.length cap).ownBlock ≠ some k → w1.heap[k]? = w.heap[k]?) ∧ w.heap.size < w1.heap.size) := by
    intro w1 hg
    have hq : q < w.heap.size := (Array.getElem?_eq_some_iff.1 h.que).1
    have hk : ∀ k, k < w.heap.size → k ≠ t.b → (Value.slice a L.length cap).ownBlock ≠ some k → w1.heap[k]? = w.heap[k]? := by
      intro k h1 h2 h3
      rw [hg.block k (by simp; omega) (fun e => h3 e.symm), Below.heap_alloc _ _ _ (by simpa using h1), set_other h2]
    refine ⟨(hk q hq hqt (fun e => (hot _ e).2.1 rfl)).trans h.que, ?_, hk, by have := hg.size; simp at this; omega⟩
    rw [hg.block t.b (by have := ht.lt; simp; omega) (fun e => (hot _ e.symm).1 rfl), Below.heap_alloc _ _ _ (by simpa using ht.lt), set_block (show w.heap[t.b]? = some (.cells (tcells t p) 69 (0, 0)) from ht) _]
    simp [tcells]
  have ta := ta_any t.b
  clear h ht hot
  go_enter Try.func87, Try.ntmps87
  go_wp2_with (first
    | (at_builtin; refine wpList_append_own_at _ rfl _ _ 61 rfl 0 64 i0 (.pointer none) 1 8 Try.underlying61 hi hz0 hz1 hz2 rfl (by decide) (.slice a L.length cap) L.length (ptrs L) rfl HO.out ⟨w.heap.size, 0, none⟩ 1 1 [.pointer (some ⟨t.b, 0, none⟩)] rfl rfl (by have := cell_one_new (w.setCell ⟨t.b, 2, none⟩ (.int .i64 L.length)) (.pointer (some ⟨t.b, 0, none⟩)) 64; simpa using this) (by simp [Value.oneCell']) (by unfold maxLen; omega) (by omega) (Nat.zero_le _) ?_; intro v' w1 hown hgrow _ hloc; obtain ⟨g', cap', rfl⟩ := row_succ hown; have c5 : w1.cell? ⟨q, 0, none⟩ = some (.slice a L.length cap) := one_cell (HQ.out _ hgrow).1 rfl; have c6 : w1.frozen? ⟨q, 0, none⟩ = false := one_free (HQ.out _ hgrow).1))
  go_end0
  obtain ⟨hS, hT, hot⟩ := HH.out
  obtain ⟨q1, q2, q3, q4⟩ := HQ.out _ hgrow
  obtain ⟨cur, hcur⟩ := row_tag hown rfl
  have hgq : g' ≠ q := by
    intro e
    rw [e, q1] at hcur
    simp at hcur
  refine ⟨rfl, .slice (some ⟨g', 0, none⟩) (L.length + 1) cap', ⟨?_, ?_, ?_⟩, ⟨hgrow.os, hgrow.tape, hgrow.output, by simp; omega, ?_⟩, ?_⟩
  · rw [set_block q1 _]
    simp
  · rw [show (L ++ [t]).length = L.length + 1 by simp, show ptrs (L ++ [t]) = ptrs L ++ [.pointer (some ⟨t.b, 0, none⟩)] by simp [ptrs]]
    refine World.ownsRow.kept (row := some q) hown ⟨rfl, rfl, rfl, by simp, fun k hk hne => set_other (fun e => hne (congrArg some e)) _⟩ (.inr ?_)
    intro e
    exact hgq (by simpa [Value.ownBlock] using e)
  · intro j hj
    by_cases hjl : j < L.length
    · rw [List.getElem_append_left hjl]
      have ht := hS.tim j hjl
      have hm := List.getElem_mem hjl
      refine (set_other (fun e => hS.not_que hjl e.symm) _).trans ((q3 _ ht.lt (hfr _ hm) (fun e => (hot _ e).2.2.2 _ hm rfl)).trans ht)
    · have : j = L.length := by simp at hj; omega
      subst this
      simp only [List.getElem_append_right (Nat.le_refl _), Nat.sub_self, List.getElem_cons_zero]
      exact (set_other (fun e => hqt e.symm) _).trans q2
  · intro k hk hn
    rw [set_other (fun e => hn (.inl e))]
    exact q3 k hk (fun e => hn (.inr (.inr e))) (fun e => hn (.inr (.inl e)))
  · rcases hloc with e | e
    · exact .inl e
    · exact .inr ⟨_, e, by simp⟩
/-- What Pop leaves. -/
def Popped (w w' : World) (q : Nat) (m v : Value) (L : List Tm) (t : Tm) : Prop :=
  ∃ v', St w' q m v' L ∧ Frm (fun k => k = q ∨ v.ownBlock = some k) w w' ∧ v'.ownBlock = v.ownBlock ∧ Tim w' t L.length
set_option maxRecDepth 100000 in
theorem pop_line (w : World) (q : Nat) (m v : Value) (L : List Tm) (t : Tm) (h : St w q m v (L ++ [t])) (hl : L.length ≤ 100000) : Calls Try.prog 86 #[.pointer (some ⟨q, 0, none⟩)] w (fun e w' => e = .returned (.iface 64 (.pointer (some ⟨t.b, 0, none⟩))) ∧ Popped w w' q m v L t) := by
  obtain ⟨g, cap, cur, rfl, hg, h4, h5, h6, h7⟩ := h.row (by simp)
  have hlen : (L ++ [t]).length = L.length + 1 := by simp
  have hlast : cur[L.length]? = some (.pointer (some ⟨t.b, 0, none⟩)) := by
    have := row_at h7 L.length (by simp)
    simpa using this
  have hqg := h.row_que hg
  have ht : Tim w t L.length := by
    have := h.tim L.length (by simp)
    simpa using this
  have hgt : g ≠ t.b := by
    intro e
    have h1 : w.heap[t.b]? = _ := ht
    rw [← e, hg] at h1
    simp at h1
  have hqt : q ≠ t.b := by
    intro e
    have h1 : w.heap[t.b]? = _ := ht
    rw [← e, h.que] at h1
    simp at h1
  rw [hlen] at h h4 h7 ⊢
  have c1 : w.cell? ⟨q, 0, none⟩ = some (.slice (some ⟨g, 0, none⟩) (L.length + 1) cap) := one_cell h.que rfl
  have c2 : w.cell? ⟨g, L.length, none⟩ = some (.pointer (some ⟨t.b, 0, none⟩)) := one_cell hg hlast
  have c3 : w.frozen? ⟨g, L.length, none⟩ = false := one_free hg
  have c4 : w.frozen? ⟨q, 0, none⟩ = false := one_free h.que
  have n1 : (⟨g, L.length, none⟩ : Addr) ≠ ⟨q, 0, none⟩ := by intro e; injection e with e1; exact hqg e1.symm
  have c5 : (w.setCell ⟨g, L.length, none⟩ (.pointer none)).cell? ⟨q, 0, none⟩ = some (.slice (some ⟨g, 0, none⟩) (L.length + 1) cap) := by
    rw [World.cell?_setCell_other _ _ _ _ n1]; exact c1
  have HH : Hid (St w q m (.slice (some ⟨g, 0, none⟩) (L.length + 1) cap) (L ++ [t]) ∧ w.heap[g]? = some (.cells cur 64 (0, 0)) ∧ Tim w t L.length ∧ L.length + 1 ≤ cap ∧ cap ≤ maxLen ∧ cur.size = cap ∧ cur.toList.take (L.length + 1) = ptrs (L ++ [t]) ∧ q ≠ g ∧ g ≠ t.b ∧ q ≠ t.b) := ⟨h, hg, ht, h4, h5, h6, h7, hqg, hgt, hqt⟩
  clear h hg ht h5 h6 h7 hlast hgt hqt hlen n1
  go_enter Try.func86, Try.ntmps86
  go_wp2
  go_ret
  obtain ⟨hS, hg, hT, h4', h5, h6, h7, hqg', hgt, hqt⟩ := HH.out
  refine ⟨rfl, .slice (some ⟨g, 0, none⟩) L.length cap, ⟨?_, ?_, ?_⟩, ?_, rfl, ?_⟩
  · rw [set_block (by rw [set_other hqg']; exact hS.que) _]
    simp
  · refine ⟨by rw [ptrs_len]; omega, .inr ⟨g, cap, cur.setIfInBounds L.length (.pointer none), rfl, Nat.zero_le _, ?_, by omega, h5, by simp [h6], ?_⟩⟩
    · rw [set_other (fun e => hqg' e.symm), set_block hg _]
    · rw [Nat.mul_one, Array.toList_setIfInBounds, take_set, List.set_eq_of_length_le (by rw [List.length_take]; omega)]
      have e1 : (cur.toList.take (L.length + 1)).take L.length = ptrs L := by rw [h7]; simp [ptrs]
      rw [List.take_take] at e1
      rwa [Nat.min_eq_left (by omega)] at e1
  · intro j hj
    have hj' : j < (L ++ [t]).length := by simp; omega
    have ht := hS.tim j hj'
    have e : (L ++ [t])[j] = L[j] := List.getElem_append_left hj
    have n1 := hS.not_row hj' hg
    have n2 := hS.not_que hj'
    rw [e] at ht n1 n2
    exact (set_other (fun e => n2 e.symm) _).trans ((set_other (fun e => n1 e.symm) _).trans ht)
  · exact ((Frm.refl _ _).setCell (.inl (.inr rfl)) _).setCell (.inl (.inl rfl)) _
  · exact (set_other (fun e => hqt e.symm) _).trans ((set_other (fun e => hgt e.symm) _).trans hT)
end Go.Proofs.Ytkamcnjofpamhaa
