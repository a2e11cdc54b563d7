/-
  A queue: Set, for every queue.
-/
import Derived.Test.YtkamcnjofpamhaaTTake
namespace Go.Proofs.Ytkamcnjofpamhaa
open Go.RowKit Go.Maps
set_option linter.unusedSimpArgs false
theorem Qd.map_not {w : World} {q mb : Nat} {v : Value} {L : List Tm} (h : Qd w q mb v L) : ¬ Foot q v L mb := by
  rintro (e | e | ⟨s, hs, e⟩)
  · exact h.mp.not_cells h.st.que e.symm
  · obtain ⟨cur, hc⟩ := row_tag h.st.line e
    exact h.mp.not_cells hc rfl
  · obtain ⟨j, hj, rfl⟩ := List.getElem_of_mem hs
    exact h.mp.not_cells (h.st.tim j hj) e
/-- What is left where the time of one turns. -/
def Turned (w w' : World) (q mb : Nat) (v : Value) (L : List Tm) (K : List Tm) : Prop := Qd w' q mb v K ∧ Frm (FootQ q mb v L) w w'
theorem St.setAt {w : World} {q : Nat} {m v : Value} {L : List Tm} (h : St w q m v L) {j : Nat} (hj : j < L.length) (a : Int) : St (w.setCell ⟨L[j].b, 0, none⟩ (.int .i64 a)) q m v (setAt L j a) := by
  have hl := setAt_len L j a
  have hp : ptrs (Go.Proofs.Ytkamcnjofpamhaa.setAt L j a) = ptrs L := by
    have := congrArg (List.map (fun p : Nat × ByteArray => Value.pointer (some ⟨p.1, 0, none⟩))) (setAt_bn (L := L) (j := j) (a := a))
    simpa [ptrs, List.map_map, Function.comp_def] using this
  refine ⟨(set_other (h.not_que hj) _).trans h.que, ?_, fun k hk => ?_⟩
  · rw [hl, hp]
    refine World.ownsRow.kept (row := some L[j].b) h.line ⟨rfl, rfl, rfl, by simp, fun k hk hne => set_other (fun e => hne (congrArg some e)) _⟩ (.inr ?_)
    intro e
    obtain ⟨cur, hc⟩ := row_tag h.line e
    exact h.not_row hj hc rfl
  · have hk' : k < L.length := by rw [hl] at hk; exact hk
    obtain ⟨e1, e2, e3⟩ := setAt_at (a := a) hj hk' hk
    have ht : w.heap[L[k].b]? = some (.cells (tcells L[k] k) 69 (0, 0)) := h.tim k hk'
    unfold Tim
    rw [e1]
    by_cases hkj : k = j
    · subst hkj
      rw [set_block ht _]
      simp [tcells, e2, e3]
    · rw [set_other (h.apart hk' hj hkj), ht]
      simp [tcells, e2, e3, hkj]
theorem set_nil (w : World) (s : ByteArray) (a : Int) : Calls Try.prog 12 #[.pointer none, .string s, .int .i64 a] w (Gives w (.int .i64 7)) := by
  go_enter Try.func12, Try.ntmps12
  go_wp2
  go_ret
  exact ⟨rfl, Below.refl _ _⟩
theorem set_full (w : World) (q mb : Nat) (v : Value) (L : List Tm) (s : ByteArray) (a : Int) (h : Qd w q mb v L) (hs : s.size ≤ maxLen) (hn : ∀ t ∈ L, t.nm ≠ s) (hL : 4096 ≤ L.length) : Calls Try.prog 12 #[.pointer (some ⟨q, 0, none⟩), .string s, .int .i64 a] w (Gives w (.int .i64 6)) := by
  have hlk := h.mp.miss hs hn
  obtain ⟨ad, cap, rfl⟩ := h.st.shape
  have c0 : w.cell? ⟨q, 0, none⟩ = some (.slice ad L.length cap) := one_cell h.st.que rfl
  have c1 : w.cell? ⟨q, 1, none⟩ = some (.map (some mb)) := one_cell h.st.que rfl
  have e1 : (4096 : Int) ≤ (L.length : Int) := by omega
  clear h hn
  go_enter Try.func12, Try.ntmps12
  go_wp2
  go_ret
  exact ⟨rfl, Below.refl _ _⟩
set_option maxHeartbeats 1000000 in
set_option maxRecDepth 100000 in
theorem set_hit (w : World) (q mb : Nat) (v : Value) (L : List Tm) (j : Nat) (a : Int) (h : Qd w q mb v L) (hj : j < L.length) (hl : L.length ≤ 10000) : Calls Try.prog 12 #[.pointer (some ⟨q, 0, none⟩), .string L[j].nm, .int .i64 a] w (fun e w' => e = .returned (.int .i64 0) ∧ Turned w w' q mb v L (fixF (setAt L j a) j L.length)) := by
  have hlk := h.mp.hit (List.getElem_mem hj)
  have c1 : w.cell? ⟨q, 1, none⟩ = some (.map (some mb)) := one_cell h.st.que rfl
  have hT := h.st.tim j hj
  have c2 : w.cell? ⟨L[j].b, 0, none⟩ = some (.int .i64 L[j].tm) := one_cell hT rfl
  have c3 : w.frozen? ⟨L[j].b, 0, none⟩ = false := one_free hT
  have c4 : (w.setCell ⟨L[j].b, 0, none⟩ (.int .i64 a)).cell? ⟨L[j].b, 2, none⟩ = some (.int .i64 j) := by
    rw [World.cell?_setCell_other _ _ _ _ (by simp)]
    exact one_cell hT rfl
  have hS := h.st.setAt hj a
  have hl2 := setAt_len L j a
  have F := heap_fix (w.setCell ⟨L[j].b, 0, none⟩ (.int .i64 a)).drew q (.map (some mb)) v (setAt L j a) j ⟨hS.que, hS.line, hS.tim⟩ (by omega) (by omega)
  have HA : Hid (∀ w', St w' q (.map (some mb)) v (fixF (setAt L j a) j L.length) → Frm (Foot q v (setAt L j a)) (w.setCell ⟨L[j].b, 0, none⟩ (.int .i64 a)).drew w' → Turned w w' q mb v L (fixF (setAt L j a) j L.length)) := by
    intro w' h1 hF
    have hf : Frm (Foot q v L) w w' := ((Frm.refl (Foot q v L) w).setCell (p := ⟨L[j].b, 0, none⟩) (.inl (.inr (.inr ⟨_, List.getElem_mem hj, rfl⟩))) (.int .i64 a)).drew.trans hF (fun k hk => by
      left
      rcases hk with e | e | ⟨s, hs, e⟩
      · exact .inl e
      · exact .inr (.inl e)
      · obtain ⟨i, hi, rfl⟩ := List.getElem_of_mem hs
        have hi' : i < L.length := by rw [hl2] at hi; exact hi
        exact .inr (.inr ⟨L[i], List.getElem_mem hi', by rw [← e]; exact (setAt_at (a := a) hj hi' hi).1.symm⟩))
    exact ⟨⟨h1, ((h.mp.bn setAt_bn).perm (fixF_perm _ _ _)).same (hf.block _ h.mp.lt h.map_not)⟩, hf.mono (fun k hk => .inl (.inl hk))⟩
  rw [hl2] at F
  clear h hT hS hl2
  generalize L[j] = t at *
  generalize fixF (setAt L j a) j L.length = K at *
  go_enter Try.func12, Try.ntmps12
  go_wp2
  go_region_with (go_at_call 27; refine F.mono ?_; rintro e w1 ⟨rfl, h1, hF1⟩)
  all_goals (go_wp2; go_ret; exact ⟨rfl, HA.out _ h1 hF1⟩)
/-- What is left where one is added. -/
def Added (w w' : World) (q mb : Nat) (v : Value) (L : List Tm) (K : List Tm) : Prop := ∃ v', Qd w' q mb v' K ∧ Frm (FootQ q mb v L) w w' ∧ Own w v v'
set_option maxHeartbeats 1000000 in
set_option maxRecDepth 100000 in
theorem set_new (w : World) (q mb : Nat) (v : Value) (L : List Tm) (s : ByteArray) (a : Int) (h : Qd w q mb v L) (hs : s.size ≤ maxLen) (hn : ∀ t ∈ L, t.nm ≠ s) (hL : L.length < 4096) : Calls Try.prog 12 #[.pointer (some ⟨q, 0, none⟩), .string s, .int .i64 a] w (fun e w' => e = .returned (.int .i64 0) ∧ Added w w' q mb v L (upF L.length (L ++ [⟨w.heap.size, a, s⟩]) L.length)) := by
  have hlk := h.mp.miss hs hn
  obtain ⟨ad, cap, rfl⟩ := h.st.shape
  obtain ⟨t, ht⟩ : ∃ t : Tm, t = ⟨w.heap.size, a, s⟩ := ⟨_, rfl⟩
  rw [← ht]
  have c0 : w.cell? ⟨q, 0, none⟩ = some (.slice ad L.length cap) := one_cell h.st.que rfl
  have c1 : w.cell? ⟨q, 1, none⟩ = some (.map (some mb)) := one_cell h.st.que rfl
  have e1 : ¬ (4096 : Int) ≤ (L.length : Int) := by omega
  have hB := (Below.refl w.heap.size w).alloc (Nat.le_refl _) (.cells #[.int .i64 a, .string s, .int .i64 0] 69)
  have hX := h.below hB
  obtain ⟨D, hD, _⟩ := hX.mp.ex
  have hkey := keyOf_nm hs
  have hval : ptrElem (.pointer (some ⟨w.heap.size, 0, none⟩)) = some (.lit (.int .i64 (w.heap.size : Nat)), []) := rfl
  have hnew := new_block w #[.int .i64 a, .string s, .int .i64 0] 69
  have c2 : (w.alloc (.cells #[.int .i64 a, .string s, .int .i64 0] 69)).cell? ⟨q, 1, none⟩ = some (.map (some mb)) := one_cell hX.st.que rfl
  have HA : Hid (∀ w1, w1.ownsMap Try.prog 9 ptrElem mb (L.length + 1) (D.put (key s) (.lit (.int .i64 (w.heap.size : Nat)))) → (w.alloc (.cells #[.int .i64 a, .string s, .int .i64 0] 69)).grownBy w1 (some mb) → Calls Try.prog 28 #[.iface 71 (.pointer (some ⟨q, 0, none⟩)), .iface 64 (.pointer (some ⟨w.heap.size, 0, none⟩))] w1 (fun e w' => e = .returned (.tuple #[]) ∧ Added w w' q mb (.slice ad L.length cap) L (upF L.length (L ++ [t]) L.length))) := by
    intro w1 h1 hg
    have hF1 : Frm (fun k => k = mb) (w.alloc (.cells #[.int .i64 a, .string s, .int .i64 0] 69)) w1 := (Frm.refl _ _).grown hg (fun k hk => by cases hk; exact .inl rfl)
    have s1 : St w1 q (.map (some mb)) (.slice ad L.length cap) L := hX.st.frm hF1 (fun k hk e => by subst e; exact hX.map_not hk)
    have hmb : w.heap.size ≠ mb := fun e => by have := h.mp.lt; omega
    have hT : Tim w1 t 0 := by
      rw [ht]
      exact (hF1.block _ (by simp) hmb).trans hnew
    have m1 : Mp w1 mb (L ++ [t]) := hX.mp.put (t := t) (by rw [ht]; exact hs) (by rw [ht]; exact hn) hD (by rw [ht]; exact h1)
    have hfresh : ∀ x ∈ L, x.b ≠ t.b := by
      intro x hx e
      obtain ⟨j, hj, rfl⟩ := List.getElem_of_mem hx
      have := (h.st.tim j hj).lt
      rw [e, ht] at this
      simp at this
    have P := heap_push w1 q (.map (some mb)) _ L t 0 s1 hT hfresh (by omega)
    rw [show t.b = w.heap.size by rw [ht]] at P
    refine P.mono ?_
    rintro e w2 ⟨rfl, v', s2, F2, o2⟩
    have hmb2 : w2.heap[mb]? = w1.heap[mb]? := F2.block _ m1.lt (fun hk => by
      rcases hk with hk | hk
      · exact h.map_not hk
      · exact hmb hk.symm)
    refine ⟨rfl, v', ⟨s2, (m1.perm (upF_perm _ _ _)).same hmb2⟩, ?_, ?_⟩
    · have F0 : Frm (FootQ q mb (.slice ad L.length cap) L) w w1 := (Frm.of_below hB).trans hF1 (fun k hk => .inl (.inr hk))
      exact F0.trans F2 (fun k hk => by
        rcases hk with hk | hk
        · exact .inl (.inl hk)
        · exact .inr (by omega))
    · rcases o2 with e | ⟨k, e, hk⟩
      · exact .inl e
      · exact .inr ⟨k, e, by have := F2.size; have := hF1.size; simp at this; omega⟩
  clear h hn hX hnew
  generalize upF L.length (L ++ [t]) L.length = K at *
  clear ht
  go_enter Try.func12, Try.ntmps12
  go_wp2_with (first
    | (at_mapUpdate; refine wpList_mapUpdate_own _ rfl _ _ _ 59 rfl 9 64 law Try.underlying59 ptrElem mb L.length D rfl hD (by unfold maxLen; omega) _ _ (key s) rfl rfl hkey _ [] hval ?_; intro w1 hown1 hgrow1; have P := HA.out w1 hown1 hgrow1)
    | (go_at_call 28; refine P.mono ?_; rintro e w2 ⟨rfl, hAd⟩))
  go_ret
  exact ⟨rfl, hAd⟩
end Go.Proofs.Ytkamcnjofpamhaa
