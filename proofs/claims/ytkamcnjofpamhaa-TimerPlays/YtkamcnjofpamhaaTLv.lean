/-
  A queue of the call's own, in the words that the laws need.
-/
import Derived.Test.YtkamcnjofpamhaaTCancel
namespace Go.Proofs.Ytkamcnjofpamhaa
open Go.RowKit Go.Maps
set_option linter.unusedSimpArgs false
/-- A queue whose blocks all lie from n on. -/
def Lv (n : Nat) (W : World) (q mb : Nat) (L : List Tm) : Prop := ∃ v, Qd W q mb v L ∧ ∀ k, FootQ q mb v L k → n ≤ k
/-- What was there below n, and cells of other types, lie as they lay. -/
structure Kp (n : Nat) (W W' : World) : Prop where
  below : Below n W W'
  cells : ∀ (g : Nat) (arr : Array Value) (T : TypeId), W.heap[g]? = some (.cells arr T (0, 0)) → T ≠ 63 → T ≠ 64 → T ≠ 69 → W'.heap[g]? = some (.cells arr T (0, 0))
theorem Kp.trans {n : Nat} {a b c : World} (h : Kp n a b) (k : Kp n b c) : Kp n a c := ⟨h.below.trans k.below, fun g arr T h0 h1 h2 h3 => k.cells g arr T (h.cells g arr T h0 h1 h2 h3) h1 h2 h3⟩
theorem Kp.of_below {n : Nat} {W W' : World} (h : Below W.heap.size W W') (hn : n ≤ W.heap.size) : Kp n W W' := ⟨h.mono hn, fun g _ _ h0 _ _ _ => (h.block g (Array.getElem?_eq_some_iff.1 h0).1).trans h0⟩
theorem Qd.not_foot {w : World} {q mb : Nat} {v : Value} {L : List Tm} (h : Qd w q mb v L) {g : Nat} {arr : Array Value} {T : TypeId} {f : Nat × Nat} (h0 : w.heap[g]? = some (.cells arr T f)) (h1 : T ≠ 63) (h2 : T ≠ 64) (h3 : T ≠ 69) : ¬ FootQ q mb v L g := by
  rintro ((e | e | ⟨s, hs, e⟩) | e)
  · have := h.st.que
    rw [← e, h0] at this
    simp at this
    exact h1 this.2.1
  · obtain ⟨cur, hc⟩ := row_tag h.st.line e
    rw [h0] at hc
    simp at hc
    exact h2 hc.2.1
  · obtain ⟨j, hj, rfl⟩ := List.getElem_of_mem hs
    have h3' : w.heap[_]? = _ := h.st.tim j hj
    rw [e, h0] at h3'
    simp at h3'
    exact h3 h3'.2.1
  · exact h.mp.not_cells h0 e
theorem Qd.kp {w w' : World} {q mb : Nat} {v : Value} {L : List Tm} {n : Nat} (h : Qd w q mb v L) (hn : ∀ k, FootQ q mb v L k → n ≤ k) (hl : n ≤ w.heap.size) (hF : Frm (FootQ q mb v L) w w') : Kp n w w' :=
  ⟨hF.below hl hn, fun g _ _ h0 h1 h2 h3 => (hF.block g (Array.getElem?_eq_some_iff.1 h0).1 (h.not_foot h0 h1 h2 h3)).trans h0⟩
theorem Lv.below {n : Nat} {W W' : World} {q mb : Nat} {L : List Tm} (h : Lv n W q mb L) (hb : Below W.heap.size W W') : Lv n W' q mb L := by
  obtain ⟨v, h1, h2⟩ := h
  exact ⟨v, h1.below hb, h2⟩
/-- What a call on a queue leaves. -/
def Post (n : Nat) (W : World) (q mb : Nat) (L : List Tm) (r : Value) (e : Ending) (w' : World) : Prop := e = .returned r ∧ Lv n w' q mb L ∧ Kp n W w'
theorem Lv.same {n : Nat} {W : World} {q mb : Nat} {L : List Tm} (h : Lv n W q mb L) (hl : n ≤ W.heap.size) {r : Value} {e : Ending} {w' : World} (hg : Gives W r e w') : Post n W q mb L r e w' := ⟨hg.1, h.below hg.2, Kp.of_below hg.2 hl⟩
theorem lv_new (w : World) : Calls Try.prog 10 #[] w (Post w.heap.size w (w.heap.size + 1) w.heap.size [] (.pointer (some ⟨w.heap.size + 1, 0, none⟩))) :=
  (new_any w).mono fun e w' ⟨h1, h2, h3⟩ => ⟨h1, ⟨_, h2, by
    rintro k ((e | e | ⟨s, hs, e⟩) | e)
    · omega
    · cases e
    · cases hs
    · omega⟩, Kp.of_below h3 (Nat.le_refl _)⟩
theorem Lv.len {n : Nat} {W : World} {q mb : Nat} {L : List Tm} (h : Lv n W q mb L) (hl : n ≤ W.heap.size) : Calls Try.prog 24 #[.pointer (some ⟨q, 0, none⟩)] W (Post n W q mb L (.int .i64 L.length)) := by
  obtain ⟨v, h1, h2⟩ := h
  exact (qlen_any W q mb v L h1).mono fun e w' ⟨e1, e2⟩ => by subst e2; exact ⟨e1, ⟨v, h1, h2⟩, Kp.of_below (Below.refl _ _) hl⟩
theorem Taken.post {n : Nat} {W w' : World} {q mb : Nat} {v : Value} {L K : List Tm} {t : Tm} {e : Ending} {r : Value} (h1 : Qd W q mb v L) (h2 : ∀ k, FootQ q mb v L k → n ≤ k) (hl : n ≤ W.heap.size) (hK : ∀ t ∈ K, t ∈ L) (he : e = .returned r) (h : Taken W w' q mb v L t K) : Post n W q mb K r e w' := by
  obtain ⟨v', p, q3, F3, o3, _⟩ := h
  exact ⟨he, ⟨v', q3, fun k hk => h2 k (foot_sub o3 hK hk)⟩, h1.kp h2 hl F3⟩
theorem drop_mem {L : List Tm} {i : Nat} : ∀ t ∈ (remF L i).dropLast, t ∈ L := fun _ ht => (remF_perm L i).mem_iff.1 (List.dropLast_subset _ ht)
theorem Lv.pop_due {n : Nat} {W : World} {q mb : Nat} {L : List Tm} (h : Lv n W q mb L) (hl : n ≤ W.heap.size) (a : Int) (hL : 0 < L.length) (hm : L.length ≤ 10000) (hd : L[0].tm ≤ a) : Calls Try.prog 16 #[.pointer (some ⟨q, 0, none⟩), .int .i64 a] W (Post n W q mb (remF L 0).dropLast (.tuple #[dueV L[0].nm L[0].tm, .bool true])) := by
  obtain ⟨v, h1, h2⟩ := h
  exact (Go.Proofs.Ytkamcnjofpamhaa.pop_due W q mb v L a h1 hL hm hd).mono fun e w' ⟨e1, e2⟩ => e2.post h1 h2 hl drop_mem e1
theorem Lv.pop_late {n : Nat} {W : World} {q mb : Nat} {L : List Tm} (h : Lv n W q mb L) (hl : n ≤ W.heap.size) (a : Int) (hL : 0 < L.length) (hd : ¬ L[0].tm ≤ a) : Calls Try.prog 16 #[.pointer (some ⟨q, 0, none⟩), .int .i64 a] W (Post n W q mb L noDue) := by
  obtain ⟨v, h1, h2⟩ := h
  exact (Go.Proofs.Ytkamcnjofpamhaa.pop_late W q mb v L a h1 hL hd).mono fun e w' hg => Lv.same ⟨v, h1, h2⟩ hl hg
theorem Lv.pop_none {n : Nat} {W : World} {q mb : Nat} (h : Lv n W q mb []) (hl : n ≤ W.heap.size) (a : Int) : Calls Try.prog 16 #[.pointer (some ⟨q, 0, none⟩), .int .i64 a] W (Post n W q mb [] noDue) := by
  obtain ⟨v, h1, h2⟩ := h
  exact (Go.Proofs.Ytkamcnjofpamhaa.pop_none W q mb v a h1).mono fun e w' hg => Lv.same ⟨v, h1, h2⟩ hl hg
theorem Lv.set_new {n : Nat} {W : World} {q mb : Nat} {L : List Tm} (h : Lv n W q mb L) (hl : n ≤ W.heap.size) (s : ByteArray) (a : Int) (hs : s.size ≤ maxLen) (hn : ∀ t ∈ L, t.nm ≠ s) (hL : L.length < 4096) : Calls Try.prog 12 #[.pointer (some ⟨q, 0, none⟩), .string s, .int .i64 a] W (Post n W q mb (upF L.length (L ++ [⟨W.heap.size, a, s⟩]) L.length) (.int .i64 0)) := by
  obtain ⟨v, h1, h2⟩ := h
  refine (Go.Proofs.Ytkamcnjofpamhaa.set_new W q mb v L s a h1 hs hn hL).mono fun e w' ⟨e1, v', q3, F3, o3⟩ => ⟨e1, ⟨v', q3, fun k hk => ?_⟩, h1.kp h2 hl F3⟩
  rcases hk with (e | e | ⟨t, ht, e⟩) | e
  · exact h2 k (.inl (.inl e))
  · rcases o3 with e' | ⟨k', e', hk'⟩
    · exact h2 k (.inl (.inr (.inl (e' ▸ e))))
    · rw [e'] at e
      cases e
      omega
  · have := (upF_perm _ _ _).mem_iff.1 ht
    rcases List.mem_append.1 this with h5 | h5
    · exact h2 k (.inl (.inr (.inr ⟨t, h5, e⟩)))
    · simp at h5
      rw [h5] at e
      simp at e
      omega
  · exact h2 k (.inr e)
theorem Lv.set_hit {n : Nat} {W : World} {q mb : Nat} {L : List Tm} (h : Lv n W q mb L) (hl : n ≤ W.heap.size) (j : Nat) (hj : j < L.length) (a : Int) (hm : L.length ≤ 10000) : Calls Try.prog 12 #[.pointer (some ⟨q, 0, none⟩), .string L[j].nm, .int .i64 a] W (Post n W q mb (fixF (setAt L j a) j L.length) (.int .i64 0)) := by
  obtain ⟨v, h1, h2⟩ := h
  refine (Go.Proofs.Ytkamcnjofpamhaa.set_hit W q mb v L j a h1 hj hm).mono fun e w' ⟨e1, q3, F3⟩ => ⟨e1, ⟨v, q3, fun k hk => ?_⟩, h1.kp h2 hl F3⟩
  rcases hk with (e | e | ⟨t, ht, e⟩) | e
  · exact h2 k (.inl (.inl e))
  · exact h2 k (.inl (.inr (.inl e)))
  · have := (fixF_perm _ _ _).mem_iff.1 ht
    obtain ⟨i, hi, rfl⟩ := List.getElem_of_mem this
    have hi' : i < L.length := by rw [setAt_len] at hi; exact hi
    exact h2 k (.inl (.inr (.inr ⟨L[i], List.getElem_mem hi', by rw [← e]; exact (setAt_at (a := a) hj hi' hi).1.symm⟩)))
  · exact h2 k (.inr e)
theorem Lv.set_full {n : Nat} {W : World} {q mb : Nat} {L : List Tm} (h : Lv n W q mb L) (hl : n ≤ W.heap.size) (s : ByteArray) (a : Int) (hs : s.size ≤ maxLen) (hn : ∀ t ∈ L, t.nm ≠ s) (hL : 4096 ≤ L.length) : Calls Try.prog 12 #[.pointer (some ⟨q, 0, none⟩), .string s, .int .i64 a] W (Post n W q mb L (.int .i64 6)) := by
  obtain ⟨v, h1, h2⟩ := h
  exact (Go.Proofs.Ytkamcnjofpamhaa.set_full W q mb v L s a h1 hs hn hL).mono fun e w' hg => Lv.same ⟨v, h1, h2⟩ hl hg
theorem num_any (w : World) (a : Int) : Calls Try.prog 11 #[.int .i64 a] w (fun e w' => e = .returned (.int .i64 a) ∧ w = w') := by
  go_enter Try.func11, Try.ntmps11
  go_wp2
  go_ret
  exact ⟨rfl, rfl⟩
theorem jit_one (w : World) : Calls Try.prog 25 #[.int .i64 1000, .int .i64 7] w (fun e w' => e = .returned (.int .i64 993) ∧ w = w') := by
  go_enter Try.func25, Try.ntmps25
  go_wp2
  go_ret
  exact ⟨rfl, rfl⟩
def sa : ByteArray := ⟨#[97]⟩
def sb : ByteArray := ⟨#[98]⟩
def sc : ByteArray := ⟨#[99]⟩
theorem live1 (x y : Nat) : upF 1 ([(⟨x, 5, sb⟩ : Tm)] ++ [⟨y, 5, sa⟩]) 1 = [⟨y, 5, sa⟩, ⟨x, 5, sb⟩] := by kernel_rfl
theorem live2 (x y z : Nat) : upF 2 ([(⟨y, 5, sa⟩ : Tm), ⟨x, 5, sb⟩] ++ [⟨z, 3, sc⟩]) 2 = [⟨z, 3, sc⟩, ⟨x, 5, sb⟩, ⟨y, 5, sa⟩] := by kernel_rfl
theorem live3 (x y z : Nat) : (remF [(⟨z, 3, sc⟩ : Tm), ⟨x, 5, sb⟩, ⟨y, 5, sa⟩] 0).dropLast = [⟨y, 5, sa⟩, ⟨x, 5, sb⟩] := by kernel_rfl
theorem live4 (x y : Nat) : (remF [(⟨y, 5, sa⟩ : Tm), ⟨x, 5, sb⟩] 0).dropLast = [⟨x, 5, sb⟩] := by kernel_rfl
end Go.Proofs.Ytkamcnjofpamhaa
