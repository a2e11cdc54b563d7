/-
  What TimerPlays stands on besides.
-/
import Derived.Test.YtkamcnjofpamhaaTRt
import Derived.Test.YtkamcnjofpamhaaTRn
import Derived.Test.YtkamcnjofpamhaaTSame
import Derived.Test.YtkamcnjofpamhaaTApW
namespace Go.Proofs.Ytkamcnjofpamhaa
open Go.RowKit
set_option linter.unusedSimpArgs false
theorem Qp.drew {n : Nat} {W : World} {q mb : Nat} {D : List (ByteArray × Int)} (h : Qp n W q mb D) : Qp n W.drew q mb D := h.below (Below.refl _ _).drew
theorem Rq.drew {W : World} {r : Nat} {a : Option Addr} {c : Nat} {E : List (ByteArray × Int)} (h : Rq W r a c E) : Rq W.drew r a c E := h.below (Below.refl _ _).drew
/-- Whatever is popped, a queue is left. -/
theorem Qp.pop_free {n : Nat} {W : World} {q mb : Nat} {D : List (ByteArray × Int)} (h : Qp n W q mb D) (hl : n ≤ W.heap.size) (a : Int) (hm : D.length ≤ 10000) : Calls Try.prog 16 #[.pointer (some ⟨q, 0, none⟩), .int .i64 a] W (fun e w' => (∃ r, e = .returned r) ∧ Kp n W w') := by
  obtain ⟨L, h1, h2, h3⟩ := h
  have hlen : L.length = D.length := by have := h3.length_eq; simpa using this
  by_cases h0 : 0 < L.length
  · by_cases hd : L[0].tm ≤ a
    · exact (h1.pop_due hl a h0 (by omega) hd).mono fun e w' ⟨e1, _, e3⟩ => ⟨⟨_, e1⟩, e3⟩
    · exact (h1.pop_late hl a h0 hd).mono fun e w' ⟨e1, _, e3⟩ => ⟨⟨_, e1⟩, e3⟩
  · obtain rfl : L = [] := List.eq_nil_of_length_eq_zero (by omega)
    exact (h1.pop_none hl a).mono fun e w' ⟨e1, _, e3⟩ => ⟨⟨_, e1⟩, e3⟩
theorem out_count {D : List (ByteArray × Int)} {s : ByteArray} (hn : (D.map Prod.fst).Nodup) : ((D.any fun d => nmB d.1 s) = true ∧ (D.length : Int) - ((out s D).length : Int) = 1) ∨ ((D.any fun d => nmB d.1 s) = false ∧ (D.length : Int) - ((out s D).length : Int) = 0) := by
  by_cases hin : ∃ d ∈ D, d.1 = s
  · obtain ⟨d, hd, hs⟩ := hin
    obtain ⟨k, hk, rfl⟩ := List.mem_iff_getElem.1 hd
    left
    refine ⟨List.any_eq_true.2 ⟨_, hd, nmB_iff.2 hs⟩, ?_⟩
    rw [out_hit hk hs hn]
    simp
    omega
  · have hno : ∀ d ∈ D, d.1 ≠ s := fun d hd e => hin ⟨d, hd, e⟩
    right
    refine ⟨?_, by rw [out_not hno]; omega⟩
    rw [List.any_eq_false]
    intro d hd
    rw [nmB_false (hno d hd)]
    simp
theorem run_bsS (s t : ByteArray) (w : World) : (Instr.buildSlice 57 2 #[(0, .string s), (1, .string t)]).run Try.prog w = .ok (.slice (some ⟨w.heap.size, 0, none⟩) 2 2) (w.alloc (.cells #[.string s, .string t] 9)) := by kernel_rfl
theorem sBsS {ops : Array Oper} {op : Oper} {a : Act} {w : World} {K : Act → World → Prop} {Q : Exit → Act → World → Prop} {E : Prop} (x y : Operand) (s t : ByteArray) (hw : Region.wanted op (yielded ops a.tmps) = true) (ho : op.op = .buildSlice 57 2 #[(0, x), (1, y)]) (hx : a.eval x = .string s) (hy : a.eval y = .string t)
    (h : ∀ W, W.heap[w.heap.size]? = some (.cells #[.string s, .string t] 9 (0, 0)) → Below w.heap.size w W → K (a.put op.dst (.slice (some ⟨w.heap.size, 0, none⟩) 2 2)) W) : if Region.wanted op (yielded ops a.tmps) = true then Oper.wp Try.prog op a w K Q else E := by
  rw [if_pos hw]
  unfold Oper.wp execOp
  simp only [ho, List.map_toArray, List.map_cons, List.map_nil, Sem.run_bind, hx, hy, run_bsS, Result.andThen_ok, Sem.run_pure]
  exact h _ (new_block w _ _) ((Below.refl _ _).alloc (Nat.le_refl _) _)
theorem Rq.new (W : World) : Rq (W.alloc (.cells #[.slice none 0 0] 31)) W.heap.size none 0 [] :=
  ⟨new_block W _ _, Nat.le_refl _, .inl ⟨rfl, rfl⟩⟩
theorem RowAt.duesAt {W : World} {a : Option Addr} {c : Nat} {E : List (ByteArray × Int)} (h : RowAt W a c E) : DuesAt W a E := fun i hi => by
  obtain ⟨g, o, h1, h2, h3⟩ := h.dues i hi
  exact ⟨g, o, h1, h2, h3⟩
/-- What is known in a round: both queues tell the same. -/
structure Pl (w : World) (r : Nat) (E : List (ByteArray × Int)) (W : World) : Prop where
  q : Qp w.heap.size W (w.heap.size + 1) w.heap.size E
  r : ∃ a c, Rq W r a c E
  b : Below w.heap.size w W
  s : Srt2 E
theorem Pl.drew {w : World} {r : Nat} {E : List (ByteArray × Int)} {W : World} (h : Pl w r E W) : Pl w r E W.drew := ⟨h.q.drew, by obtain ⟨a, c, h1⟩ := h.r; exact ⟨a, c, h1.drew⟩, h.b.drew, h.s⟩
theorem Pl.below {w : World} {r : Nat} {E : List (ByteArray × Int)} {W W' : World} (h : Pl w r E W) (hb : Below W.heap.size W W') : Pl w r E W' := ⟨h.q.below hb, by obtain ⟨a, c, h1⟩ := h.r; exact ⟨a, c, h1.below hb⟩, h.b.trans (hb.mono h.b.size), h.s⟩
end Go.Proofs.Ytkamcnjofpamhaa
