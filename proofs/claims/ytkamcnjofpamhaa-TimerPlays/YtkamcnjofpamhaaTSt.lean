/-
  A queue in memory: the line, its timers with their places, and what two that change places leave.
-/
import Derived.Test.YtkamcnjofpamhaaTLine
namespace Go.Proofs.Ytkamcnjofpamhaa
open Go.RowKit
set_option linter.unusedSimpArgs false
/-- What lies outside S, and lay there, lies as it lay. -/
structure Frm (S : Nat → Prop) (w w' : World) : Prop where
  os : w'.os = w.os
  tape : w'.tape = w.tape
  output : w'.output = w.output
  size : w.heap.size ≤ w'.heap.size
  block : ∀ k, k < w.heap.size → ¬ S k → w'.heap[k]? = w.heap[k]?
theorem Frm.refl (S : Nat → Prop) (w : World) : Frm S w w := ⟨rfl, rfl, rfl, Nat.le_refl _, fun _ _ _ => rfl⟩
theorem Frm.trans {S S' : Nat → Prop} {a b c : World} (h : Frm S a b) (k : Frm S' b c) (hs : ∀ k, S' k → S k ∨ a.heap.size ≤ k) : Frm S a c :=
  ⟨k.os.trans h.os, k.tape.trans h.tape, k.output.trans h.output, Nat.le_trans h.size k.size, fun i hi hn => (k.block i (Nat.lt_of_lt_of_le hi h.size) (fun h' => by rcases hs i h' with h1 | h1; exact hn h1; omega)).trans (h.block i hi hn)⟩
theorem Frm.mono {S S' : Nat → Prop} {a b : World} (h : Frm S a b) (hs : ∀ k, S k → S' k ∨ a.heap.size ≤ k) : Frm S' a b :=
  ⟨h.os, h.tape, h.output, h.size, fun i hi hn => h.block i hi (fun h' => by rcases hs i h' with h1 | h1; exact hn h1; omega)⟩
theorem Frm.of_below {S : Nat → Prop} {w w' : World} (h : Below w.heap.size w w') : Frm S w w' := ⟨h.os, h.tape, h.output, h.size, fun k hk _ => h.block k hk⟩
theorem Frm.below {S : Nat → Prop} {w w' : World} {B : Nat} (h : Frm S w w') (hB : B ≤ w.heap.size) (hs : ∀ k, S k → B ≤ k) : Below B w w' :=
  ⟨h.os, h.tape, h.output, h.size, fun k hk => h.block k (by omega) (fun h' => by have := hs k h'; omega)⟩
theorem Frm.alloc {S : Nat → Prop} {a w : World} (h : Frm S a w) (o : Obj) : Frm S a (w.alloc o) :=
  ⟨h.os, h.tape, h.output, by have := h.size; simp; omega, fun k hk hn => (Below.heap_alloc _ _ _ (by have := h.size; omega)).trans (h.block k hk hn)⟩
theorem Frm.drew {S : Nat → Prop} {a w : World} (h : Frm S a w) : Frm S a w.drew := ⟨h.os, h.tape, h.output, h.size, h.block⟩
theorem Frm.setCell {S : Nat → Prop} {a w : World} (h : Frm S a w) {p : Addr} (hp : S p.block ∨ a.heap.size ≤ p.block) (u : Value) : Frm S a (w.setCell p u) :=
  ⟨h.os, h.tape, h.output, by have := h.size; simp; omega, fun k hk hn => (Below.heap_setCell _ _ _ _ (fun e => by subst e; rcases hp with h1 | h1; exact hn h1; omega)).trans (h.block k hk hn)⟩
theorem Frm.grown {S : Nat → Prop} {a w w' : World} {row : Option Nat} (h : Frm S a w) (hg : w.grownBy w' row) (hr : ∀ k, row = some k → S k ∨ a.heap.size ≤ k) : Frm S a w' :=
  ⟨hg.os.trans h.os, hg.tape.trans h.tape, hg.output.trans h.output, Nat.le_trans h.size hg.size, fun k hk hn => (hg.block k (Nat.lt_of_lt_of_le hk h.size) (fun e => by rcases hr k e.symm with h1 | h1; exact hn h1; omega)).trans (h.block k hk hn)⟩
theorem set_block {w : World} {b i : Nat} {arr : Array Value} {T : TypeId} {f : Nat × Nat} (h : w.heap[b]? = some (.cells arr T f)) (v : Value) : (w.setCell ⟨b, i, none⟩ v).heap[b]? = some (.cells (arr.setIfInBounds i v) T f) := by
  simp only [World.setCell, Array.getElem?_modify]
  simp [h]
theorem set_other {w : World} {b c i : Nat} (h : b ≠ c) (v : Value) : (w.setCell ⟨c, i, none⟩ v).heap[b]? = w.heap[b]? := Below.heap_setCell _ _ _ _ h
def ptrs (L : List Tm) : List Value := L.map fun t => Value.pointer (some ⟨t.b, 0, none⟩)
theorem ptrs_len (L : List Tm) : (ptrs L).length = L.length := by simp [ptrs]
structure St (w : World) (q : Nat) (m v : Value) (L : List Tm) : Prop where
  que : w.heap[q]? = some (.cells #[v, m] 63 (0, 0))
  line : w.ownsRow 0 64 1 v L.length (ptrs L)
  tim : ∀ (j : Nat) (h : j < L.length), Tim w L[j] j
/-- What belongs to a queue's line. -/
def Foot (q : Nat) (v : Value) (L : List Tm) (k : Nat) : Prop := k = q ∨ v.ownBlock = some k ∨ ∃ t ∈ L, t.b = k
theorem St.row {w : World} {q : Nat} {m v : Value} {L : List Tm} (h : St w q m v L) (hl : 0 < L.length) : ∃ g cap cur, v = .slice (some ⟨g, 0, none⟩) L.length cap ∧ w.heap[g]? = some (.cells cur 64 (0, 0)) ∧ L.length ≤ cap ∧ cap ≤ maxLen ∧ cur.size = cap ∧ cur.toList.take L.length = ptrs L := by
  rcases h.line.2 with ⟨_, h0⟩ | ⟨g, cap, cur, h1, _, h3, h4, h5, h6, h7⟩
  · omega
  · exact ⟨g, cap, cur, h1, h3, h4, h5, by omega, by simpa using h7⟩
theorem row_at {L : List Tm} {cur : Array Value} {n : Nat} (h : cur.toList.take n = ptrs L) (j : Nat) (hj : j < L.length) : cur[j]? = some (.pointer (some ⟨L[j].b, 0, none⟩)) := by
  have e : (cur.toList.take n)[j]? = (ptrs L)[j]? := by rw [h]
  have hl : (cur.toList.take n).length = L.length := by rw [h, ptrs_len]
  rw [List.getElem?_take_of_lt (by simp at hl; omega)] at e
  rw [← Array.getElem?_toList, e]
  simp [ptrs, hj]
theorem St.apart {w : World} {q : Nat} {m v : Value} {L : List Tm} (h : St w q m v L) {i j : Nat} (hi : i < L.length) (hj : j < L.length) (hne : i ≠ j) : L[i].b ≠ L[j].b := by
  intro e
  have h1 := h.tim i hi
  have h2 := h.tim j hj
  unfold Tim at h1 h2
  rw [e, h2] at h1
  simp [tcells] at h1
  omega
theorem St.not_row {w : World} {q : Nat} {m v : Value} {L : List Tm} (h : St w q m v L) {i g : Nat} {cur : Array Value} {f : Nat × Nat} (hi : i < L.length) (hg : w.heap[g]? = some (.cells cur 64 f)) : g ≠ L[i].b := by
  intro e
  have h1 := h.tim i hi
  unfold Tim at h1
  rw [← e, hg] at h1
  simp at h1
theorem St.not_que {w : World} {q : Nat} {m v : Value} {L : List Tm} (h : St w q m v L) {i : Nat} (hi : i < L.length) : q ≠ L[i].b := by
  intro e
  have h1 := h.tim i hi
  unfold Tim at h1
  rw [← e, h.que] at h1
  simp at h1
theorem St.row_que {w : World} {q : Nat} {m v : Value} {L : List Tm} (h : St w q m v L) {g : Nat} {cur : Array Value} {f : Nat × Nat} (hg : w.heap[g]? = some (.cells cur 64 f)) : q ≠ g := by
  intro e
  rw [← e, h.que] at hg
  simp at hg
/-- Two change places. -/
def swp (L : List Tm) (i j : Nat) : List Tm := match L[i]?, L[j]? with | some a, some b => (L.set i b).set j a | _, _ => L
theorem swp_eq {L : List Tm} {i j : Nat} (hi : i < L.length) (hj : j < L.length) : swp L i j = (L.set i L[j]).set j L[i] := by
  simp [swp, hi, hj]
theorem swp_len (L : List Tm) (i j : Nat) : (swp L i j).length = L.length := by
  unfold swp
  split <;> simp
theorem swp_perm (L : List Tm) (i j : Nat) : (swp L i j).Perm L := by
  by_cases hi : i < L.length
  · by_cases hj : j < L.length
    · rw [swp_eq hi hj]
      have := Array.swap_perm (xs := L.toArray) (i := i) (j := j) (by simpa using hi) (by simpa using hj)
      rw [Array.perm_iff_toList_perm] at this
      simpa [Array.swap] using this
    · have : swp L i j = L := by unfold swp; rw [List.getElem?_eq_none (by omega : L.length ≤ j)]; split <;> simp_all
      rw [this]
  · have : swp L i j = L := by unfold swp; rw [List.getElem?_eq_none (by omega : L.length ≤ i)]
    rw [this]
theorem swp_at {L : List Tm} {i j : Nat} (hi : i < L.length) (hj : j < L.length) (k : Nat) (hk : k < (swp L i j).length) : (swp L i j)[k] = if k = j then L[i] else if k = i then L[j] else L[k]'(by rw [swp_len] at hk; exact hk) := by
  have e := swp_eq hi hj
  simp only [e]
  rw [List.getElem_set]
  by_cases h1 : j = k
  · rw [if_pos h1, if_pos h1.symm]
  · rw [if_neg h1, if_neg (fun h => h1 h.symm), List.getElem_set]
    by_cases h2 : i = k
    · rw [if_pos h2, if_pos h2.symm]
    · rw [if_neg h2, if_neg (fun h => h2 h.symm)]
theorem take_set {α : Type} (l : List α) (n i : Nat) (x : α) : (l.set i x).take n = (l.take n).set i x := by
  apply List.ext_getElem?
  intro k
  by_cases hk : k < n
  · rw [List.getElem?_take_of_lt hk, List.getElem?_set, List.getElem?_set]
    simp only [List.getElem?_take_of_lt hk, List.length_take]
    by_cases h1 : i = k
    · rw [if_pos h1, if_pos h1]
      subst h1
      by_cases h2 : i < l.length
      · rw [if_pos h2, if_pos (by omega)]
      · rw [if_neg h2, if_neg (by omega)]
    · rw [if_neg h1, if_neg h1]
  · rw [List.getElem?_eq_none (by simp; omega), List.getElem?_eq_none (by simp; omega)]
theorem St.swap {w : World} {q : Nat} {m v : Value} {L : List Tm} (h : St w q m v L) {g cap i j : Nat} (hv : v = .slice (some ⟨g, 0, none⟩) L.length cap) (hi : i < L.length) (hj : j < L.length) (hne : i ≠ j) :
    St (swW w g i j L[i] L[j]) q m v (swp L i j) ∧ Frm (Foot q v L) w (swW w g i j L[i] L[j]) := by
  obtain ⟨g', cap', cur, hv', hg, h4, h5, h6, h7⟩ := h.row (by omega)
  rw [hv] at hv'
  cases hv'
  have ngi := h.not_row hi hg
  have ngj := h.not_row hj hg
  have nqi := h.not_que hi
  have nqj := h.not_que hj
  have nqg := h.row_que hg
  have nij := h.apart hi hj hne
  have hci := row_at h7 i hi
  have hcj := row_at h7 j hj
  refine ⟨⟨?_, ?_, ?_⟩, ?_⟩
  · show (((((w.setCell _ _).setCell _ _).setCell _ _).setCell _ _)).heap[q]? = _
    rw [set_other nqi, set_other nqj, set_other nqg, set_other nqg]
    exact h.que
  · rw [swp_len]
    refine ⟨by rw [ptrs_len, swp_len]; omega, .inr ⟨g, cap, (cur.setIfInBounds i (.pointer (some ⟨L[j].b, 0, none⟩))).setIfInBounds j (.pointer (some ⟨L[i].b, 0, none⟩)), hv, Nat.zero_le _, ?_, h4, h5, by simp [h6], ?_⟩⟩
    · show (((((w.setCell _ _).setCell _ _).setCell _ _).setCell _ _)).heap[g]? = _
      rw [set_other ngi, set_other ngj, set_block (set_block hg _) _]
    · rw [Nat.mul_one, Array.toList_setIfInBounds, Array.toList_setIfInBounds, take_set, take_set, h7, swp_eq hi hj]
      simp [ptrs, List.map_set]
  · intro k hk
    have hk' : k < L.length := by rw [swp_len] at hk; exact hk
    rw [swp_at hi hj k hk]
    unfold Tim
    show (((((w.setCell _ _).setCell _ _).setCell _ _).setCell _ _)).heap[_]? = _
    by_cases h1 : k = j
    · rw [if_pos h1]
      have ht : w.heap[L[i].b]? = _ := h.tim i hi
      rw [set_block (by rw [set_other nij, set_other (fun e => ngi e.symm), set_other (fun e => ngi e.symm)]; exact ht) _]
      simp [tcells, h1]
    · rw [if_neg h1]
      by_cases h2 : k = i
      · rw [if_pos h2]
        have ht : w.heap[L[j].b]? = _ := h.tim j hj
        rw [set_other (fun e => nij e.symm), set_block (by rw [set_other (fun e => ngj e.symm), set_other (fun e => ngj e.symm)]; exact ht) _]
        simp [tcells, h2]
      · rw [if_neg h2, set_other (h.apart hk' hi h2), set_other (h.apart hk' hj h1), set_other (fun e => h.not_row hk' hg e.symm), set_other (fun e => h.not_row hk' hg e.symm)]
        exact h.tim k hk'
  · exact ((((Frm.refl _ _).setCell (.inl (.inr (.inl (by rw [hv]; rfl)))) _).setCell (.inl (.inr (.inl (by rw [hv]; rfl)))) _).setCell (.inl (.inr (.inr ⟨_, List.getElem_mem hj, rfl⟩))) _).setCell (.inl (.inr (.inr ⟨_, List.getElem_mem hi, rfl⟩))) _ |>.drew.drew
theorem St.below {w w' : World} {q : Nat} {m v : Value} {L : List Tm} (h : St w q m v L) (hb : Below w.heap.size w w') : St w' q m v L :=
  ⟨(hb.block q (Array.getElem?_eq_some_iff.1 h.que).1).trans h.que, h.line.kept (row := none) ⟨hb.os, hb.tape, hb.output, hb.size, fun i hi _ => hb.block i hi⟩ (by cases v.ownBlock <;> simp), fun j hj => (h.tim j hj).below hb⟩
theorem St.frm {w w' : World} {q : Nat} {m v : Value} {L : List Tm} {S : Nat → Prop} (h : St w q m v L) (hf : Frm S w w') (hd : ∀ k, Foot q v L k → ¬ S k) : St w' q m v L := by
  refine ⟨(hf.block q (Array.getElem?_eq_some_iff.1 h.que).1 (hd q (.inl rfl))).trans h.que, ?_, fun j hj => (hf.block _ (h.tim j hj).lt (hd _ (.inr (.inr ⟨_, List.getElem_mem hj, rfl⟩)))).trans (h.tim j hj)⟩
  refine ⟨h.line.1, ?_⟩
  rcases h.line.2 with h0 | ⟨g, cap, cur, h1, h2, h3, h4⟩
  · exact .inl h0
  · exact .inr ⟨g, cap, cur, h1, h2, (hf.block g (Array.getElem?_eq_some_iff.1 h3).1 (hd g (.inr (.inl (by rw [h1]; rfl))))).trans h3, h4⟩
theorem Foot.perm {q : Nat} {v : Value} {L L' : List Tm} (hp : L'.Perm L) {k : Nat} (h : Foot q v L' k) : Foot q v L k := by
  rcases h with h | h | ⟨t, ht, e⟩
  · exact .inl h
  · exact .inr (.inl h)
  · exact .inr (.inr ⟨t, hp.mem_iff.1 ht, e⟩)
theorem St.foot_lt {w : World} {q : Nat} {m v : Value} {L : List Tm} (h : St w q m v L) {k : Nat} (hk : Foot q v L k) : k < w.heap.size := by
  rcases hk with rfl | hk | ⟨t, ht, rfl⟩
  · exact (Array.getElem?_eq_some_iff.1 h.que).1
  · exact (h.line.lt k hk).2
  · obtain ⟨j, hj, rfl⟩ := List.getElem_of_mem ht
    exact (h.tim j hj).lt
/-- Does the one at a come ahead of the one at b? -/
def les (L : List Tm) (a b : Nat) : Bool := match L[a]?, L[b]? with | some s, some t => decide (cmpT s t < 0) | _, _ => false
theorem les_eq {L : List Tm} {a b : Nat} (ha : a < L.length) (hb : b < L.length) : les L a b = decide (cmpT L[a] L[b] < 0) := by
  simp [les, ha, hb]
theorem St.less {w : World} {q : Nat} {m v : Value} {L : List Tm} (h : St w q m v L) {i j : Nat} (hi : i < L.length) (hj : j < L.length) : Calls Try.prog 84 #[v, .int .i64 i, .int .i64 j] w (Gives w (.bool (les L i j))) := by
  obtain ⟨g, cap, cur, rfl, hg, h4, h5, h6, h7⟩ := h.row (by omega)
  rw [les_eq hi hj]
  exact less_any g L.length cap i j L[i] L[j] i j w hi hj (one_cell hg (row_at h7 i hi)) (one_cell hg (row_at h7 j hj)) (h.tim i hi) (h.tim j hj)
theorem St.swaps {w : World} {q : Nat} {m v : Value} {L : List Tm} (h : St w q m v L) {i j : Nat} (hi : i < L.length) (hj : j < L.length) (hne : i ≠ j) :
    Calls Try.prog 85 #[v, .int .i64 i, .int .i64 j] w (fun e w' => e = .returned (.tuple #[]) ∧ St w' q m v (swp L i j) ∧ Frm (Foot q v L) w w') := by
  obtain ⟨g, cap, cur, hv, hg, h4, h5, h6, h7⟩ := h.row (by omega)
  have hs := h.swap hv hi hj hne
  subst hv
  refine (swap_any g L.length cap i j L[i] L[j] i j w hi hj hne (one_cell hg (row_at h7 i hi)) (one_cell hg (row_at h7 j hj)) (h.tim i hi) (h.tim j hj) (one_free hg) (one_free hg) (h.apart hi hj hne) (h.not_row hi hg) (h.not_row hj hg)).mono ?_
  rintro e w' ⟨rfl, rfl⟩
  exact ⟨rfl, hs⟩
end Go.Proofs.Ytkamcnjofpamhaa
