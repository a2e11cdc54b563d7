/-
  A queue: take, Pop, Next, At, for every queue.
-/
import Derived.Test.YtkamcnjofpamhaaTQueue
namespace Go.Proofs.Ytkamcnjofpamhaa
open Go.RowKit Go.Maps
set_option linter.unusedSimpArgs false
/-- What is left where one is taken away. -/
def Taken (w w' : World) (q mb : Nat) (v : Value) (L : List Tm) (t : Tm) (K : List Tm) : Prop :=
  ∃ v' p, Qd w' q mb v' K ∧ Frm (FootQ q mb v L) w w' ∧ v'.ownBlock = v.ownBlock ∧ Tim w' t p
theorem Frm.turned {S : Nat → Prop} {a w w' : World} {b : Nat} (h : Frm S a w) (ht : w.mapTurned w' b) (hb : S b) : Frm S a w' := h.grown ht.grown (fun k hk => by cases hk; exact .inl hb)
set_option maxHeartbeats 1000000 in
set_option maxRecDepth 100000 in
theorem take_any (w : World) (q mb : Nat) (v : Value) (L : List Tm) (i : Nat) (h : Qd w q mb v L) (hi : i < L.length) (hl : L.length ≤ 10000) : Calls Try.prog 30 #[.pointer (some ⟨q, 0, none⟩), .int .i64 i] w (fun e w' => e = .returned (.pointer (some ⟨L[i].b, 0, none⟩)) ∧ Taken w w' q mb v L L[i] (remF L i).dropLast) := by
  have R := heap_remove w q (.map (some mb)) v L i h.st hi hl
  have hs := remF_split L i hi
  have hp := remF_perm L i
  obtain ⟨t, ht⟩ : ∃ t, L[i] = t := ⟨_, rfl⟩
  obtain ⟨K, hK⟩ : ∃ K, (remF L i).dropLast = K := ⟨_, rfl⟩
  rw [ht, hK] at R hs
  rw [ht, hK]
  rw [hs] at hp
  have hmem : t ∈ L := ht ▸ List.getElem_mem hi
  have HA : Hid (∀ w1, Removed w w1 q (.map (some mb)) v L t K → ∃ w2, (Builtin.delete_ #[59, 9] 0 #[.map (some mb), .string t.nm]).run Try.prog w1.drew = .ok (.tuple #[]) w2 ∧ Taken w w2 q mb v L t K ∧ w1.cell? ⟨q, 1, none⟩ = some (.map (some mb)) ∧ w1.cell? ⟨t.b, 1, none⟩ = some (.string t.nm)) := by
    rintro w1 ⟨v', p, h1, hF, ho, hT⟩
    have hnf : ¬ Foot q v L mb := by
      rintro (e | e | ⟨s, hs, e⟩)
      · exact h.mp.not_cells h.st.que e.symm
      · obtain ⟨cur, hc⟩ := row_tag h.st.line e
        exact h.mp.not_cells hc rfl
      · obtain ⟨j, hj, rfl⟩ := List.getElem_of_mem hs
        exact h.mp.not_cells (h.st.tim j hj) e
    have mp1 := h.mp.same (hF.block _ h.mp.lt hnf)
    obtain ⟨D, hD, _⟩ := mp1.ex
    obtain ⟨w2, hr, hw2, hturn⟩ := hD.drew.drop law Try.underlying59 (keyOf_nm (mp1.sz t hmem)) 0
    have hF2 : Frm (fun k => k = mb) w1 w2 := (Frm.refl _ w1).drew.turned hturn rfl
    refine ⟨w2, hr, ⟨v', p, ⟨h1.frm hF2 ?_, mp1.del hp hD hw2⟩, (hF.mono (fun k hk => .inl (.inl hk))).drew.turned hturn (.inr rfl), ho, ?_⟩, one_cell h1.que rfl, one_cell hT rfl⟩
    · intro k hk e
      subst e
      rcases hk with e | e | ⟨s, hs, e⟩
      · exact mp1.not_cells h1.que e.symm
      · obtain ⟨cur, hc⟩ := row_tag h1.line e
        exact mp1.not_cells hc rfl
      · obtain ⟨j, hj, rfl⟩ := List.getElem_of_mem hs
        exact mp1.not_cells (h1.tim j hj) e
    · exact (hF2.block _ hT.lt (mp1.not_cells hT)).trans hT
  have ta := ta_any t.b
  clear h hp hs ht hmem hK
  go_enter Try.func30, Try.ntmps30
  go_wp2_with (go_at_call 39; refine R.mono ?_; rintro e w1 ⟨rfl, hR⟩; obtain ⟨w2, hdel, hT, c1, c2⟩ := HA.out _ hR)
  go_region
  go_wp2
  go_ret
  exact ⟨rfl, hT⟩
theorem retCT {P : Program} {fn : Func} {p u : Tmp} {ty : TypeId} {v : Value} {w : World} (h : fn.results = #[.cell p ty, .tmp u]) (tmps : Array Value) (b o : Nat) (hp : tmps.getD p undef = .pointer (some ⟨b, o, none⟩))
    (hl : (loadVar ty ⟨b, o, none⟩).run P w = .ok v w) : (results fn tmps).run P w = .ok (.tuple #[v, tmps.getD u undef]) w := by
  simp only [results, h]
  rw [Array.getD_eq_getD_getElem?] at hp
  simp [Sem.run_bind, hp, asAddr, hl, Result.andThen]
def dueV (s : ByteArray) (a : Int) : Value := .agg #[.string s, .int .i64 a]
def noDue : Value := .tuple #[dueV ⟨#[]⟩ 0, .bool false]
theorem at_nil (w : World) (s : ByteArray) : Calls Try.prog 22 #[.pointer none, .string s] w (Gives w (.tuple #[.int .i64 0, .bool false])) := by
  go_enter Try.func22, Try.ntmps22
  go_wp2
  go_ret2
  exact ⟨rfl, Below.refl _ _⟩
theorem next_nil (w : World) : Calls Try.prog 21 #[.pointer none] w (Gives w noDue) := by
  go_enter Try.func21, Try.ntmps21
  go_wp2_with (go_at_call 24; refine (qlen_nil _).mono ?_; rintro e w1 ⟨rfl, rfl⟩)
  refine bodyPost_ret (retCT rfl _ w.heap.size 0 rfl (lvDue (Row.new w 39 [_, _]))) rfl ?_
  exact ⟨rfl, (Below.refl _ _).alloc (Nat.le_refl _) _⟩
theorem pop_nil (w : World) (a : Int) : Calls Try.prog 16 #[.pointer none, .int .i64 a] w (Gives w noDue) := by
  go_enter Try.func16, Try.ntmps16
  go_wp2_with (go_at_call 24; refine (qlen_nil _).mono ?_; rintro e w1 ⟨rfl, rfl⟩)
  refine bodyPost_ret (retCT rfl _ w.heap.size 0 rfl (lvDue (Row.new w 39 [_, _]))) rfl ?_
  exact ⟨rfl, (Below.refl _ _).alloc (Nat.le_refl _) _⟩
theorem pop_none (w : World) (q mb : Nat) (v : Value) (a : Int) (h : Qd w q mb v []) : Calls Try.prog 16 #[.pointer (some ⟨q, 0, none⟩), .int .i64 a] w (Gives w noDue) := by
  have hL := fun W hW => qlen_any W q mb v [] (h.below hW)
  clear h
  go_enter Try.func16, Try.ntmps16
  go_wp2_with (go_at_call 24; refine (hL _ ((Below.refl _ _).alloc (Nat.le_refl _) _)).mono ?_; rintro e w1 ⟨rfl, rfl⟩)
  refine bodyPost_ret (retCT rfl _ w.heap.size 0 rfl (lvDue (Row.new w 39 [_, _]))) rfl ?_
  exact ⟨rfl, (Below.refl _ _).alloc (Nat.le_refl _) _⟩
theorem at_hit (w : World) (q mb : Nat) (v : Value) (L : List Tm) (h : Qd w q mb v L) (t : Tm) (ht : t ∈ L) : Calls Try.prog 22 #[.pointer (some ⟨q, 0, none⟩), .string t.nm] w (Gives w (.tuple #[.int .i64 t.tm, .bool true])) := by
  have hlk := h.mp.hit ht
  have c1 : w.cell? ⟨q, 1, none⟩ = some (.map (some mb)) := one_cell h.st.que rfl
  have c2 : w.cell? ⟨t.b, 0, none⟩ = some (.int .i64 t.tm) := by
    obtain ⟨j, hj, rfl⟩ := List.getElem_of_mem ht
    exact one_cell (h.st.tim j hj) rfl
  clear h ht
  go_enter Try.func22, Try.ntmps22
  go_wp2
  go_ret2
  exact ⟨rfl, Below.refl _ _⟩
theorem at_miss (w : World) (q mb : Nat) (v : Value) (L : List Tm) (h : Qd w q mb v L) (s : ByteArray) (hs : s.size ≤ maxLen) (hn : ∀ t ∈ L, t.nm ≠ s) : Calls Try.prog 22 #[.pointer (some ⟨q, 0, none⟩), .string s] w (Gives w (.tuple #[.int .i64 0, .bool false])) := by
  have hlk := h.mp.miss hs hn
  have c1 : w.cell? ⟨q, 1, none⟩ = some (.map (some mb)) := one_cell h.st.que rfl
  clear h hn
  go_enter Try.func22, Try.ntmps22
  go_wp2
  go_ret2
  exact ⟨rfl, Below.refl _ _⟩
set_option maxRecDepth 100000 in
theorem pop_late (w : World) (q mb : Nat) (v : Value) (L : List Tm) (a : Int) (h : Qd w q mb v L) (hL : 0 < L.length) (hd : ¬ L[0].tm ≤ a) : Calls Try.prog 16 #[.pointer (some ⟨q, 0, none⟩), .int .i64 a] w (Gives w noDue) := by
  obtain ⟨g, cap, cur, hv, hg, h4, h5, h6, h7⟩ := h.st.row hL
  have hB := (Below.refl w.heap.size w).alloc (Nat.le_refl _) (.cells #[.string ⟨#[]⟩, .int .i64 0] 39)
  have h1 := h.below hB
  have hLn := qlen_any _ q mb v L h1
  have c1 : (w.alloc (.cells #[.string ⟨#[]⟩, .int .i64 0] 39)).cell? ⟨q, 0, none⟩ = some v := one_cell h1.st.que rfl
  have c2 : (w.alloc (.cells #[.string ⟨#[]⟩, .int .i64 0] 39)).cell? ⟨g, 0, none⟩ = some (.pointer (some ⟨L[0].b, 0, none⟩)) := one_cell ((hB.block _ (Array.getElem?_eq_some_iff.1 hg).1).trans hg) (row_at h7 0 hL)
  have c3 : (w.alloc (.cells #[.string ⟨#[]⟩, .int .i64 0] 39)).cell? ⟨L[0].b, 0, none⟩ = some (.int .i64 L[0].tm) := one_cell (h1.st.tim 0 hL) rfl
  have e0 : ((L.length : Int) == 0) = false := by rw [beq_eq_false_iff_ne]; omega
  have e1 : (0 : Int) < (L.length : Int) := by omega
  have r := Row.new w 39 [.string ⟨#[]⟩, .int .i64 0]
  rw [hv] at c1
  rw [show (([.string ⟨#[]⟩, .int .i64 0] : List Value).toArray) = #[.string ⟨#[]⟩, .int .i64 0] from rfl] at r
  generalize L[0] = t at *
  have hd' : decide (t.tm ≤ a) = false := decide_eq_false hd
  clear h h1 hg h7 hv hd
  go_enter Try.func16, Try.ntmps16
  go_wp2
  exact bodyPost_ret (retCT rfl _ w.heap.size 0 rfl (lvDue (r.alloc _))) rfl ⟨rfl, hB.alloc (by simp) _⟩
theorem due_ex (w : World) (a b : Int) : Calls Try.prog 31 #[.agg #[.int .i64 a], .int .i64 b] w (fun e w' => e = .returned (.bool (decide (a ≤ b))) ∧ w.alloc (.cells #[.int .i64 a] 67) = w') := by
  go_enter Try.func31, Try.ntmps31
  go_wp2
  go_ret
  exact ⟨rfl, rfl⟩
set_option maxHeartbeats 1000000 in
set_option maxRecDepth 100000 in
theorem pop_due (w : World) (q mb : Nat) (v : Value) (L : List Tm) (a : Int) (h : Qd w q mb v L) (hL : 0 < L.length) (hl : L.length ≤ 10000) (hd : L[0].tm ≤ a) : Calls Try.prog 16 #[.pointer (some ⟨q, 0, none⟩), .int .i64 a] w (fun e w' => e = .returned (.tuple #[dueV L[0].nm L[0].tm, .bool true]) ∧ Taken w w' q mb v L L[0] (remF L 0).dropLast) := by
  obtain ⟨g, cap, cur, hv, hg, h4, h5, h6, h7⟩ := h.st.row hL
  have hB := (Below.refl w.heap.size w).alloc (Nat.le_refl _) (.cells #[.string ⟨#[]⟩, .int .i64 0] 39)
  have h1 := h.below hB
  have c1 : (w.alloc (.cells #[.string ⟨#[]⟩, .int .i64 0] 39)).cell? ⟨q, 0, none⟩ = some v := one_cell h1.st.que rfl
  have c2 : (w.alloc (.cells #[.string ⟨#[]⟩, .int .i64 0] 39)).cell? ⟨g, 0, none⟩ = some (.pointer (some ⟨L[0].b, 0, none⟩)) := one_cell ((hB.block _ (Array.getElem?_eq_some_iff.1 hg).1).trans hg) (row_at h7 0 hL)
  have c3 : (w.alloc (.cells #[.string ⟨#[]⟩, .int .i64 0] 39)).cell? ⟨L[0].b, 0, none⟩ = some (.int .i64 L[0].tm) := one_cell (h1.st.tim 0 hL) rfl
  have e0 : ((L.length : Int) == 0) = false := by rw [beq_eq_false_iff_ne]; omega
  have e1 : (0 : Int) < (L.length : Int) := by omega
  have r := Row.new w 39 [.string ⟨#[]⟩, .int .i64 0]
  rw [show (([.string ⟨#[]⟩, .int .i64 0] : List Value).toArray) = #[.string ⟨#[]⟩, .int .i64 0] from rfl] at r
  have r' := r.alloc (.cells #[.int .i64 L[0].tm] 67)
  have hB2 := hB.alloc (by simp) (.cells #[.int .i64 L[0].tm] 67)
  have h2 := h.below hB2
  have T := take_any _ q mb v L 0 h2 hL hl
  change Calls Try.prog _ #[_, .int .i64 0] _ _ at T
  have hLn := qlen_any _ q mb v L h1
  have HF : Hid (∀ k, FootQ q mb v L k → k < w.heap.size) := fun k hk => h.foot_lt hk
  rw [hv] at c1
  generalize L[0] = t at *
  generalize (remF L 0).dropLast = K at *
  have hd' : decide (t.tm ≤ a) = true := decide_eq_true hd
  have HE : Hid (∀ w3, Taken ((w.alloc (.cells #[.string ⟨#[]⟩, .int .i64 0] 39)).alloc (.cells #[.int .i64 t.tm] 67)) w3 q mb v L t K → Row w3 w.heap.size 39 [.string ⟨#[]⟩, .int .i64 0] ∧ (∃ p, Tim w3 t p) ∧ ∀ w4, Below w3.heap.size w3 w4 → ∀ x y, Taken w ((w4.setCell ⟨w.heap.size, 0, none⟩ x).setCell ⟨w.heap.size, 1, none⟩ y) q mb v L t K) := by
    rintro w3 ⟨v', p, q3, F3, o3, t3⟩
    refine ⟨(F3.block _ (by simp; omega) (fun hk => Nat.lt_irrefl _ (HF.out _ hk))).trans r', ⟨p, t3⟩, fun w4 hB4 x y => ?_⟩
    have hfr : Frm (fun k => k = w.heap.size) w3 ((w4.setCell ⟨w.heap.size, 0, none⟩ x).setCell ⟨w.heap.size, 1, none⟩ y) := ((Frm.of_below (S := fun k => k = w.heap.size) hB4).setCell (p := ⟨w.heap.size, 0, none⟩) (.inl rfl) x).setCell (p := ⟨w.heap.size, 1, none⟩) (.inl rfl) y
    have hT3 : t.b ≠ w.heap.size := by
      intro e
      have hr : w3.heap[w.heap.size]? = _ := (F3.block _ (by simp; omega) (fun hk => Nat.lt_irrefl _ (HF.out _ hk))).trans r'
      have h3 : w3.heap[t.b]? = _ := t3
      rw [e, hr] at h3
      simp at h3
    refine ⟨v', p, q3.frm hfr ?_, ?_, o3, (hfr.block _ t3.lt hT3).trans t3⟩
    · intro k hk e
      subst e
      have hr : w3.heap[w.heap.size]? = _ := (F3.block _ (by simp; omega) (fun hk => Nat.lt_irrefl _ (HF.out _ hk))).trans r'
      rcases hk with (e | e | ⟨s, hs, e⟩) | e
      · have := q3.st.que
        rw [← e, hr] at this
        simp at this
      · obtain ⟨cur', hc⟩ := row_tag q3.st.line e
        rw [hr] at hc
        simp at hc
      · obtain ⟨j, hj, rfl⟩ := List.getElem_of_mem hs
        have h3 : w3.heap[_]? = _ := q3.st.tim j hj
        rw [e, hr] at h3
        simp at h3
      · exact q3.mp.not_cells hr e
    · exact ((Frm.of_below hB2).trans F3 (fun k hk => .inl hk)).trans hfr (fun k hk => .inr (by omega))
  clear h h1 hg h7 hv hd h2 r r' hB
  go_enter Try.func16, Try.ntmps16
  go_wp2_with (first
    | (go_at_call 24; refine hLn.mono ?_; rintro e w1 ⟨rfl, rfl⟩)
    | (go_at_call 31; refine (due_ex _ _ _).mono ?_; rintro e w2 ⟨rfl, rfl⟩; rw [hd'])
    | (go_at_call 30; refine T.mono ?_; rintro e w3 ⟨rfl, hT⟩; obtain ⟨r3, ⟨p, t3⟩, hN⟩ := HE.out _ hT)
    | (go_at_call 32; refine (told_any _ t p t3).mono ?_; rintro e w4 ⟨rfl, hB4⟩; have r4 := r3.below hB4 r3.lt; have d0 : w4.cell? ⟨w.heap.size, 0, none⟩ = some (.string ⟨#[]⟩) := r4.cell 0; have d1 : w4.cell? ⟨w.heap.size, 1, none⟩ = some (.int .i64 0) := r4.cell 1; have f0 := r4.frozen 0; have f1 := r4.frozen 1))
  exact bodyPost_ret (retCT rfl _ w.heap.size 0 rfl (lvDue ((r4.set 0 _).set 1 _))) rfl ⟨rfl, hN _ hB4 _ _⟩
end Go.Proofs.Ytkamcnjofpamhaa
