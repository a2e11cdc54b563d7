/-
  A queue by what it tells: names and times, in any order.
-/
import Derived.Test.YtkamcnjofpamhaaTCp
import Derived.Test.YtkamcnjofpamhaaTOrdB
import Derived.Test.YtkamcnjofpamhaaTLst
namespace Go.Proofs.Ytkamcnjofpamhaa
open Go.RowKit Go.Maps
set_option linter.unusedSimpArgs false
theorem srt2_of {K : List Tm} (h : Srt K) : Srt2 (K.map nt) := by
  unfold Srt2
  rw [List.pairwise_iff_getElem]
  intro i j hi hj hij
  simp only [List.getElem_map]
  exact h i j (by simpa using hi) (by simpa using hj) hij
/-- Those of other names. -/
def out (s : ByteArray) (D : List (ByteArray × Int)) : List (ByteArray × Int) := D.filter fun d => !nmB d.1 s
theorem out_map (s : ByteArray) (L : List Tm) : out s (L.map nt) = (L.filter fun t => !nmB t.nm s).map nt := by
  unfold out
  rw [List.filter_map]
  rfl
theorem out_not {s : ByteArray} {D : List (ByteArray × Int)} (h : ∀ d ∈ D, d.1 ≠ s) : out s D = D := by
  unfold out
  rw [List.filter_eq_self]
  intro d hd
  rw [nmB_false (h d hd)]
  rfl
theorem out_cons_eq (s : ByteArray) (a : Int) (D : List (ByteArray × Int)) : out s ((s, a) :: D) = out s D := by
  unfold out
  rw [List.filter_cons, if_neg (by simp [nmB_iff.2 rfl])]
theorem out_cons_ne {s : ByteArray} {d : ByteArray × Int} (h : d.1 ≠ s) (D : List (ByteArray × Int)) : out s (d :: D) = d :: out s D := by
  unfold out
  rw [List.filter_cons, if_pos (by rw [nmB_false h]; rfl)]
theorem out_append (s : ByteArray) (D E : List (ByteArray × Int)) : out s (D ++ E) = out s D ++ out s E := by
  unfold out
  rw [List.filter_append]
theorem out_out (s : ByteArray) (D : List (ByteArray × Int)) : out s (out s D) = out s D := by
  unfold out
  rw [List.filter_filter]
  simp
theorem out_again (s : ByteArray) (a : Int) (D : List (ByteArray × Int)) : out s (out s D ++ [(s, a)]) = out s D := by
  rw [out_append, out_out, show out s [(s, a)] = [] from out_cons_eq s a [], List.append_nil]
theorem out_mem {s : ByteArray} {D : List (ByteArray × Int)} {d : ByteArray × Int} : d ∈ out s D ↔ d ∈ D ∧ d.1 ≠ s := by
  unfold out
  rw [List.mem_filter]
  constructor
  · rintro ⟨h1, h2⟩
    refine ⟨h1, fun e => ?_⟩
    rw [nmB_iff.2 e] at h2
    cases h2
  · rintro ⟨h1, h2⟩
    exact ⟨h1, by rw [nmB_false h2]; rfl⟩
theorem out_perm {s : ByteArray} {D E : List (ByteArray × Int)} (h : D.Perm E) : (out s D).Perm (out s E) := h.filter _
theorem out_len (s : ByteArray) (D : List (ByteArray × Int)) : (out s D).length ≤ D.length := List.length_filter_le _ _
theorem perm_set {s : ByteArray} (a : Int) : ∀ (D : List (ByteArray × Int)) (j : Nat) (hj : j < D.length), (D.map Prod.fst).Nodup → D[j].1 = s → (D.set j (s, a)).Perm (out s D ++ [(s, a)])
  | [], _, hj, _, _ => absurd hj (by simp)
  | d :: D, 0, _, hn, e => by
    have e' : d.1 = s := e
    rw [List.map_cons, List.nodup_cons] at hn
    have h1 : out s (d :: D) = D := by
      have : d = (s, d.2) := by rw [← e']
      rw [this, out_cons_eq]
      exact out_not (fun x hx q => hn.1 (by rw [e', ← q]; exact List.mem_map_of_mem hx))
    rw [h1, List.set_cons_zero]
    exact (List.perm_append_comm (l₁ := [(s, a)]) (l₂ := D))
  | d :: D, j + 1, hj, hn, e => by
    rw [List.map_cons, List.nodup_cons] at hn
    have hj' : j < D.length := by simpa using hj
    have e' : D[j].1 = s := e
    have hd : d.1 ≠ s := fun q => hn.1 (by rw [q, ← e']; exact List.mem_map_of_mem (List.getElem_mem hj'))
    rw [out_cons_ne hd, List.set_cons_succ, List.cons_append]
    exact (perm_set a D j hj' hn.2 e').cons _
/-- A queue that tells these. -/
def Qp (n : Nat) (W : World) (q mb : Nat) (D : List (ByteArray × Int)) : Prop := ∃ L, Lv n W q mb L ∧ Hp L L.length ∧ (L.map nt).Perm D
theorem Qp.perm {n : Nat} {W : World} {q mb : Nat} {D E : List (ByteArray × Int)} (h : Qp n W q mb D) (hp : D.Perm E) : Qp n W q mb E := by
  obtain ⟨L, h1, h2, h3⟩ := h
  exact ⟨L, h1, h2, h3.trans hp⟩
theorem Qp.below {n : Nat} {W W' : World} {q mb : Nat} {D : List (ByteArray × Int)} (h : Qp n W q mb D) (hb : Below W.heap.size W W') : Qp n W' q mb D := by
  obtain ⟨L, h1, h2, h3⟩ := h
  exact ⟨L, h1.below hb, h2, h3⟩
theorem Qp.nodup {n : Nat} {W : World} {q mb : Nat} {D : List (ByteArray × Int)} (h : Qp n W q mb D) : (D.map Prod.fst).Nodup := by
  obtain ⟨L, h1, h2, h3⟩ := h
  have := (h3.map Prod.fst).nodup_iff.1
  rw [List.map_map] at this
  exact this h1.nd
theorem Qp.set {n : Nat} {W : World} {q mb : Nat} {D : List (ByteArray × Int)} (h : Qp n W q mb D) (hl : n ≤ W.heap.size) (s : ByteArray) (a : Int) (hs : s.size ≤ maxLen) (hm : D.length ≤ 10000) (hD : D.length < 4096 ∨ ∃ d ∈ D, d.1 = s) :
    Calls Try.prog 12 #[.pointer (some ⟨q, 0, none⟩), .string s, .int .i64 a] W (fun e w' => e = .returned (.int .i64 0) ∧ Qp n w' q mb (out s D ++ [(s, a)]) ∧ Kp n W w') := by
  have hnd := h.nodup
  obtain ⟨L, h1, h2, h3⟩ := h
  have hlen : L.length = D.length := by have := h3.length_eq; simpa using this
  by_cases hin : ∃ t ∈ L, t.nm = s
  · obtain ⟨t, ht, hn⟩ := hin
    obtain ⟨j, hj, hjt⟩ := List.getElem_of_mem ht
    have S := h1.set_hit hl j hj a (by omega)
    rw [hjt, hn] at S
    refine S.mono fun e w' ⟨e1, e2, e3⟩ => ⟨e1, ⟨_, e2, ?_, ?_⟩, e3⟩
    · rw [(fixF_perm _ _ _).length_eq, setAt_len]; exact set_heap L j a hj h2
    · refine ((fixF_perm _ _ _).map nt).trans ?_
      rw [setAt_eq hj, List.map_set]
      have hj2 : j < (L.map nt).length := by simpa using hj
      have e5 : (L.map nt)[j].1 = s := by rw [List.getElem_map, hjt]; exact hn
      have e4 : nt ⟨L[j].b, a, L[j].nm⟩ = (s, a) := by rw [hjt]; show (t.nm, a) = _; rw [hn]
      rw [e4]
      refine (perm_set a (L.map nt) j hj2 ?_ e5).trans (List.Perm.append (out_perm h3) (List.Perm.refl _))
      exact (h3.map Prod.fst).nodup_iff.2 hnd
  · have hno : ∀ t ∈ L, t.nm ≠ s := fun t ht e => hin ⟨t, ht, e⟩
    have hD4 : L.length < 4096 := by
      rcases hD with hD | ⟨d, hd, e⟩
      · omega
      · obtain ⟨t, ht, rfl⟩ := List.mem_map.1 (h3.mem_iff.2 hd)
        exact absurd e (hno t ht)
    have S := h1.set_new hl s a hs hno hD4
    refine S.mono fun e w' ⟨e1, e2, e3⟩ => ⟨e1, ⟨_, e2, ?_, ?_⟩, e3⟩
    · rw [(upF_perm _ _ _).length_eq, List.length_append]; exact push_heap L _ h2
    · refine ((upF_perm _ _ _).map nt).trans ?_
      rw [List.map_append]
      have : out s D = D := out_not (fun d hd e => by
        obtain ⟨t, ht, rfl⟩ := List.mem_map.1 (h3.mem_iff.2 hd)
        exact hno t ht e)
      rw [this]
      exact List.Perm.append h3 (List.Perm.refl _)
theorem Qp.set_full {n : Nat} {W : World} {q mb : Nat} {D : List (ByteArray × Int)} (h : Qp n W q mb D) (hl : n ≤ W.heap.size) (s : ByteArray) (a : Int) (hs : s.size ≤ maxLen) (hn : ∀ d ∈ D, d.1 ≠ s) (hD : 4096 ≤ D.length) :
    Calls Try.prog 12 #[.pointer (some ⟨q, 0, none⟩), .string s, .int .i64 a] W (fun e w' => e = .returned (.int .i64 6) ∧ Qp n w' q mb D ∧ Kp n W w') := by
  obtain ⟨L, h1, h2, h3⟩ := h
  have hlen : L.length = D.length := by have := h3.length_eq; simpa using this
  exact (h1.set_full hl s a hs (fun t ht e => hn (nt t) (h3.mem_iff.1 (List.mem_map_of_mem ht)) e) (by omega)).mono fun e w' ⟨e1, e2, e3⟩ => ⟨e1, ⟨L, e2, h2, h3⟩, e3⟩
/-- The first of a heap is the first of what is told in order. -/
theorem head_nt {L : List Tm} {d : ByteArray × Int} {E : List (ByteArray × Int)} (hH : Hp L L.length) (hp : (L.map nt).Perm (d :: E)) (hs : Srt2 (d :: E)) : ∃ h : 0 < L.length, nt L[0] = d ∧ ((remF L 0).dropLast.map nt).Perm E := by
  have hlen : L.length = E.length + 1 := by have := hp.length_eq; simpa using this
  have h0 : 0 < L.length := by omega
  have hd : nt L[0] = d := by
    have h1 : d ∈ L.map nt := hp.mem_iff.2 (by simp)
    obtain ⟨t, ht, rfl⟩ := List.mem_map.1 h1
    obtain ⟨k, hk, rfl⟩ := List.mem_iff_getElem.1 ht
    have hr := hH.root k hk
    rw [el_at hk, el_at h0] at hr
    have h2 : nt L[0] ∈ nt L[k] :: E := hp.mem_iff.1 (List.mem_map_of_mem (List.getElem_mem h0))
    rcases List.mem_cons.1 h2 with h3 | h3
    · exact h3
    · unfold Srt2 at hs
      rw [List.pairwise_cons] at hs
      exact ah2_tri (hs.1 _ h3) hr
  refine ⟨h0, hd, ?_⟩
  have h4 := ((rest_perm L h0).map nt).symm.trans hp
  rw [List.map_append, List.map_cons, List.map_nil, hd] at h4
  exact ((List.perm_append_comm (l₁ := [d]) (l₂ := ((remF L 0).dropLast.map nt))).trans h4).cons_inv
theorem Qp.pop_none {n : Nat} {W : World} {q mb : Nat} (h : Qp n W q mb []) (hl : n ≤ W.heap.size) (a : Int) : Calls Try.prog 16 #[.pointer (some ⟨q, 0, none⟩), .int .i64 a] W (fun e w' => e = .returned noDue ∧ Qp n w' q mb [] ∧ Kp n W w') := by
  obtain ⟨L, h1, h2, h3⟩ := h
  obtain rfl : L = [] := by have := h3.length_eq; simpa using this
  exact (h1.pop_none hl a).mono fun e w' ⟨e1, e2, e3⟩ => ⟨e1, ⟨[], e2, h2, h3⟩, e3⟩
theorem Qp.pop_late {n : Nat} {W : World} {q mb : Nat} {d : ByteArray × Int} {E : List (ByteArray × Int)} (h : Qp n W q mb (d :: E)) (hs : Srt2 (d :: E)) (hl : n ≤ W.heap.size) (a : Int) (ha : ¬ d.2 ≤ a) : Calls Try.prog 16 #[.pointer (some ⟨q, 0, none⟩), .int .i64 a] W (fun e w' => e = .returned noDue ∧ Qp n w' q mb (d :: E) ∧ Kp n W w') := by
  obtain ⟨L, h1, h2, h3⟩ := h
  obtain ⟨h0, hd, _⟩ := head_nt h2 h3 hs
  exact (h1.pop_late hl a h0 (by rw [show L[0].tm = d.2 by rw [← hd]; rfl]; exact ha)).mono fun e w' ⟨e1, e2, e3⟩ => ⟨e1, ⟨L, e2, h2, h3⟩, e3⟩
theorem Qp.pop_due {n : Nat} {W : World} {q mb : Nat} {d : ByteArray × Int} {E : List (ByteArray × Int)} (h : Qp n W q mb (d :: E)) (hs : Srt2 (d :: E)) (hl : n ≤ W.heap.size) (a : Int) (hm : (d :: E).length ≤ 10000) (ha : d.2 ≤ a) : Calls Try.prog 16 #[.pointer (some ⟨q, 0, none⟩), .int .i64 a] W (fun e w' => e = .returned (.tuple #[dueV d.1 d.2, .bool true]) ∧ Qp n w' q mb E ∧ Kp n W w') := by
  obtain ⟨L, h1, h2, h3⟩ := h
  have hlen : L.length = (d :: E).length := by have := h3.length_eq; simpa using this
  obtain ⟨h0, hd, hr⟩ := head_nt h2 h3 hs
  have e1 : L[0].tm = d.2 := by rw [← hd]; rfl
  have e2 : L[0].nm = d.1 := by rw [← hd]; rfl
  have P := h1.pop_due hl a h0 (by omega) (by rw [e1]; exact ha)
  rw [e1, e2] at P
  have hl2 : (remF L 0).dropLast.length = L.length - 1 := by rw [List.length_dropLast, (remF_perm L 0).length_eq]
  exact P.mono fun e w' ⟨e1, e2, e3⟩ => ⟨e1, ⟨_, e2, by rw [hl2]; exact pop_heap L h0 h2, hr⟩, e3⟩
/-- Whatever is popped, fewer are left. -/
theorem Qp.pop_any {n : Nat} {W : World} {q mb : Nat} {D : List (ByteArray × Int)} (h : Qp n W q mb D) (hs : Srt2 D) (hl : n ≤ W.heap.size) (a : Int) (hm : D.length ≤ 10000) : Calls Try.prog 16 #[.pointer (some ⟨q, 0, none⟩), .int .i64 a] W (fun e w' => (∃ r, e = .returned r) ∧ ∃ E, Qp n w' q mb E ∧ Srt2 E ∧ E.length ≤ D.length ∧ Kp n W w') := by
  cases D with
  | nil => exact (h.pop_none hl a).mono fun e w' ⟨e1, e2, e3⟩ => ⟨⟨_, e1⟩, [], e2, hs, Nat.le_refl _, e3⟩
  | cons d E =>
    by_cases ha : d.2 ≤ a
    · exact (h.pop_due hs hl a hm ha).mono fun e w' ⟨e1, e2, e3⟩ => ⟨⟨_, e1⟩, E, e2, (List.pairwise_cons.1 hs).2, by simp, e3⟩
    · exact (h.pop_late hs hl a ha).mono fun e w' ⟨e1, e2, e3⟩ => ⟨⟨_, e1⟩, d :: E, e2, hs, Nat.le_refl _, e3⟩
theorem hp_nt {L K : List Tm} (e : K.map nt = L.map nt) (h : Hp L L.length) : Hp K K.length := by
  have hl : K.length = L.length := by have := congrArg List.length e; simpa using this
  have he : ∀ k, k < L.length → nt (el K k) = nt (el L k) := fun k hk => by
    rw [el_at hk, el_at (by omega)]
    have : (K.map nt)[k]? = (L.map nt)[k]? := by rw [e]
    simpa [hk, hl] using this
  intro k k0 kn
  rw [← ah_nt, he k (by omega), he _ (by omega), ah_nt]
  exact h k k0 (by omega)
theorem Qp.copy {n : Nat} {W : World} {q mb : Nat} {D : List (ByteArray × Int)} (h : Qp n W q mb D) (hm : D.length ≤ 10000) : Calls Try.prog 18 #[.pointer (some ⟨q, 0, none⟩)] W (fun e w' => e = .returned (.pointer (some ⟨W.heap.size + 1, 0, none⟩)) ∧ Qp W.heap.size w' (W.heap.size + 1) W.heap.size D ∧ Below W.heap.size W w') := by
  obtain ⟨L, ⟨v, h1, _⟩, h2, h3⟩ := h
  have hlen : L.length = D.length := by have := h3.length_eq; simpa using this
  refine (copy_any W q mb v L h1 (by omega)).mono ?_
  rintro e w' ⟨rfl, K, k1, k2, k3⟩
  exact ⟨rfl, ⟨K, k1, hp_nt k2 h2, by rw [k2]; exact h3⟩, k3⟩
/-- The cells of what is told. -/
def dcs (E : List (ByteArray × Int)) : List Value := E.flatMap fun d => [.string d.1, .int .i64 d.2]
theorem dcells_nt (K : List Tm) : dcells K = dcs (K.map nt) := by
  unfold dcells dcs
  rw [List.flatMap_map]
  rfl
/-- What List tells, where this is what is told in order. -/
def Told (W : World) (E : List (ByteArray × Int)) (e : Ending) (w' : World) : Prop := ∃ a c, e = .returned (.slice a E.length c) ∧ w'.ownsRow W.heap.size 39 2 (.slice a E.length c) E.length (dcs E) ∧ Below W.heap.size W w'
theorem Qp.list {n : Nat} {W : World} {q mb : Nat} {D : List (ByteArray × Int)} (h : Qp n W q mb D) (hs : Srt2 D) (hm : D.length ≤ 10000) : Calls Try.prog 20 #[.pointer (some ⟨q, 0, none⟩)] W (Told W D) := by
  obtain ⟨L, ⟨v, h1, _⟩, h2, h3⟩ := h
  have hlen : L.length = D.length := by have := h3.length_eq; simpa using this
  refine (list_any W q mb v L h1 (by omega)).mono ?_
  rintro e w' ⟨a, c, K, rfl, k1, k2, k3, k4⟩
  have he : K.map nt = D := srt2_eq (srt2_of k2) hs ((k1.map nt).trans h3)
  have hl : K.length = D.length := by have := congrArg List.length he; simpa using this
  rw [dcells_nt, he, hl] at k3
  rw [hl]
  exact ⟨a, c, rfl, k3, k4⟩
theorem Qp.list_some {n : Nat} {W : World} {q mb : Nat} {D : List (ByteArray × Int)} (h : Qp n W q mb D) (hm : D.length ≤ 10000) : Calls Try.prog 20 #[.pointer (some ⟨q, 0, none⟩)] W (fun e w' => ∃ E, Srt2 E ∧ E.Perm D ∧ Told W E e w') := by
  obtain ⟨L, ⟨v, h1, _⟩, h2, h3⟩ := h
  have hlen : L.length = D.length := by have := h3.length_eq; simpa using this
  refine (list_any W q mb v L h1 (by omega)).mono ?_
  rintro e w' ⟨a, c, K, rfl, k1, k2, k3, k4⟩
  refine ⟨K.map nt, srt2_of k2, (k1.map nt).trans h3, a, c, by simp, ?_, k4⟩
  rw [dcells_nt] at k3
  simpa using k3
theorem Qp.len {n : Nat} {W : World} {q mb : Nat} {D : List (ByteArray × Int)} (h : Qp n W q mb D) : Calls Try.prog 24 #[.pointer (some ⟨q, 0, none⟩)] W (fun e w' => e = .returned (.int .i64 D.length) ∧ W = w') := by
  obtain ⟨L, ⟨v, h1, _⟩, h2, h3⟩ := h
  have hlen : L.length = D.length := by have := h3.length_eq; simpa using this
  rw [← hlen]
  exact qlen_any W q mb v L h1
end Go.Proofs.Ytkamcnjofpamhaa
