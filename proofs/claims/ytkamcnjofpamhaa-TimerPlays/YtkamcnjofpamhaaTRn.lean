/-
  A queue by what it tells: Next, At, Cancel.
-/
import Derived.Test.YtkamcnjofpamhaaTQp
import Derived.Test.YtkamcnjofpamhaaTCnH
import Derived.Test.YtkamcnjofpamhaaTCanW
namespace Go.Proofs.Ytkamcnjofpamhaa
open Go.RowKit
set_option linter.unusedSimpArgs false
theorem next_none (w : World) (q mb : Nat) (v : Value) (h : Qd w q mb v []) : Calls Try.prog 21 #[.pointer (some ⟨q, 0, none⟩)] w (Gives w noDue) := by
  have hB := (Below.refl w.heap.size w).alloc (Nat.le_refl _) (.cells #[.string ⟨#[]⟩, .int .i64 0] 39)
  have hLn := qlen_any _ q mb v [] (h.below hB)
  have r := Row.new w 39 [.string ⟨#[]⟩, .int .i64 0]
  clear h
  go_enter Try.func21, Try.ntmps21
  go_wp2_with (go_at_call 24; refine hLn.mono ?_; rintro e w1 ⟨rfl, rfl⟩)
  exact bodyPost_ret (retCT rfl _ w.heap.size 0 rfl (lvDue r)) rfl ⟨rfl, hB⟩
set_option maxHeartbeats 1000000 in
theorem next_some (w : World) (q mb : Nat) (v : Value) (L : List Tm) (h : Qd w q mb v L) (hL : 0 < L.length) : Calls Try.prog 21 #[.pointer (some ⟨q, 0, none⟩)] w (Gives w (.tuple #[dueV L[0].nm L[0].tm, .bool true])) := by
  obtain ⟨g, cap, cur, hv, hg, h4, h5, h6, h7⟩ := h.st.row hL
  have hB := (Below.refl w.heap.size w).alloc (Nat.le_refl _) (.cells #[.string ⟨#[]⟩, .int .i64 0] 39)
  have h1 := h.below hB
  have hLn := qlen_any _ q mb v L h1
  have c1 : (w.alloc (.cells #[.string ⟨#[]⟩, .int .i64 0] 39)).cell? ⟨q, 0, none⟩ = some v := one_cell h1.st.que rfl
  have c2 : (w.alloc (.cells #[.string ⟨#[]⟩, .int .i64 0] 39)).cell? ⟨g, 0, none⟩ = some (.pointer (some ⟨L[0].b, 0, none⟩)) := one_cell ((hB.block _ (Array.getElem?_eq_some_iff.1 hg).1).trans hg) (row_at h7 0 hL)
  have hTl := told_any _ L[0] 0 (h1.st.tim 0 hL)
  have e0 : ((L.length : Int) == 0) = false := by rw [beq_eq_false_iff_ne]; omega
  have e1 : (0 : Int) < (L.length : Int) := by omega
  have r := Row.new w 39 [.string ⟨#[]⟩, .int .i64 0]
  rw [show (([.string ⟨#[]⟩, .int .i64 0] : List Value).toArray) = #[.string ⟨#[]⟩, .int .i64 0] from rfl] at r
  rw [hv] at c1
  generalize L[0] = t at *
  clear h h1 hg h7 hv
  go_enter Try.func21, Try.ntmps21
  go_wp2_with (first
    | (go_at_call 24; refine hLn.mono ?_; rintro e w1 ⟨rfl, rfl⟩)
    | (go_at_call 32; refine hTl.mono ?_; rintro e w4 ⟨rfl, hB4⟩; have r4 := r.below hB4 r.lt; have d0 : w4.cell? ⟨w.heap.size, 0, none⟩ = some (.string ⟨#[]⟩) := r4.cell 0; have d1 : w4.cell? ⟨w.heap.size, 1, none⟩ = some (.int .i64 0) := r4.cell 1; have f0 := r4.frozen 0; have f1 := r4.frozen 1))
  have b4 : Below w.heap.size w w4 := hB.trans (hB4.mono hB.size)
  exact bodyPost_ret (retCT rfl _ w.heap.size 0 rfl (lvDue ((r4.set 0 _).set 1 _))) rfl ⟨rfl, (b4.setCell (p := ⟨w.heap.size, 0, none⟩) (Nat.le_refl _) _).setCell (p := ⟨w.heap.size, 1, none⟩) (Nat.le_refl _) _⟩
theorem Qp.next_none {n : Nat} {W : World} {q mb : Nat} (h : Qp n W q mb []) : Calls Try.prog 21 #[.pointer (some ⟨q, 0, none⟩)] W (Gives W noDue) := by
  obtain ⟨L, ⟨v, h1, _⟩, h2, h3⟩ := h
  obtain rfl : L = [] := by have := h3.length_eq; simpa using this
  exact Go.Proofs.Ytkamcnjofpamhaa.next_none W q mb v h1
theorem Qp.next_some {n : Nat} {W : World} {q mb : Nat} {d : ByteArray × Int} {E : List (ByteArray × Int)} (h : Qp n W q mb (d :: E)) (hs : Srt2 (d :: E)) : Calls Try.prog 21 #[.pointer (some ⟨q, 0, none⟩)] W (Gives W (.tuple #[dueV d.1 d.2, .bool true])) := by
  obtain ⟨L, ⟨v, h1, _⟩, h2, h3⟩ := h
  obtain ⟨h0, hd, _⟩ := head_nt h2 h3 hs
  have := Go.Proofs.Ytkamcnjofpamhaa.next_some W q mb v L h1 h0
  rw [show L[0].tm = d.2 by rw [← hd]; rfl, show L[0].nm = d.1 by rw [← hd]; rfl] at this
  exact this
theorem Qp.at_hit {n : Nat} {W : World} {q mb : Nat} {D : List (ByteArray × Int)} (h : Qp n W q mb D) (d : ByteArray × Int) (hd : d ∈ D) : Calls Try.prog 22 #[.pointer (some ⟨q, 0, none⟩), .string d.1] W (Gives W (.tuple #[.int .i64 d.2, .bool true])) := by
  obtain ⟨L, ⟨v, h1, _⟩, h2, h3⟩ := h
  obtain ⟨t, ht, rfl⟩ := List.mem_map.1 (h3.mem_iff.2 hd)
  exact Go.Proofs.Ytkamcnjofpamhaa.at_hit W q mb v L h1 t ht
theorem Qp.at_miss {n : Nat} {W : World} {q mb : Nat} {D : List (ByteArray × Int)} (h : Qp n W q mb D) (s : ByteArray) (hs : s.size ≤ maxLen) (hn : ∀ d ∈ D, d.1 ≠ s) : Calls Try.prog 22 #[.pointer (some ⟨q, 0, none⟩), .string s] W (Gives W (.tuple #[.int .i64 0, .bool false])) := by
  obtain ⟨L, ⟨v, h1, _⟩, h2, h3⟩ := h
  exact Go.Proofs.Ytkamcnjofpamhaa.at_miss W q mb v L h1 s hs (fun t ht e => hn (nt t) (h3.mem_iff.1 (List.mem_map_of_mem ht)) e)
/-- Two names, the same, are cancelled. -/
theorem Qp.cancel {n : Nat} {W : World} {q mb : Nat} {D : List (ByteArray × Int)} (h : Qp n W q mb D) (hl : n ≤ W.heap.size) (hm : D.length ≤ 10000) (s : ByteArray) (hs : s.size ≤ maxLen) (g c : Nat) (cur : Array Value) (hg : W.heap[g]? = some (.cells cur 9 (0, 0))) (h0 : cur[0]? = some (.string s)) (h1 : cur[1]? = some (.string s)) :
    Calls Try.prog 15 #[.pointer (some ⟨q, 0, none⟩), .slice (some ⟨g, 0, none⟩) 2 c] W (fun e w' => e = .returned (.int .i64 ((D.length : Int) - ((out s D).length : Int))) ∧ Qp n w' q mb (out s D) ∧ Kp n W w') := by
  obtain ⟨L, ⟨v, k1, k2⟩, k3, k4⟩ := h
  have hlen : L.length = D.length := by have := k4.length_eq; simpa using this
  have hN : Names W (FootQ q mb v L) (some ⟨g, 0, none⟩) [s, s] := by
    refine ⟨fun x hx => ?_, fun j hj => ⟨g, rfl, (Array.getElem?_eq_some_iff.1 hg).1, k1.not_foot hg (by decide) (by decide) (by decide), ?_⟩⟩
    · simp at hx; rw [hx]; exact hs
    · match j, hj with
      | 0, _ => exact one_cell hg h0
      | 1, _ => exact one_cell hg h1
      | j + 2, hj => exact absurd hj (by simp)
  refine (cancel_hp W q mb v L (some ⟨g, 0, none⟩) c [s, s] k1 (by omega) hN (by simp) k3).mono ?_
  rintro e w' ⟨K, rfl, ⟨v', q3, hp, F3, o3⟩, hK⟩
  have hpo : (K.map nt).Perm (out s D) := by
    rw [left_two] at hp
    have := hp.map nt
    rw [← out_map] at this
    exact this.trans (out_perm k4)
  have hKl : K.length = (out s D).length := by have := hpo.length_eq; simpa using this
  exact ⟨by rw [hlen, hKl], ⟨K, ⟨v', q3, fun k hk => k2 k (foot_sub o3 (left_sub hp) hk)⟩, hK, hpo⟩, k1.kp k2 hl F3⟩
end Go.Proofs.Ytkamcnjofpamhaa
