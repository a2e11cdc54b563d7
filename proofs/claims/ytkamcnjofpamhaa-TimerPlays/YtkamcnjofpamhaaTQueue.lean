/-
  A queue: New, Len, take, told, dueBy, for every queue.
-/
import Derived.Test.YtkamcnjofpamhaaTMap
namespace Go.Proofs.Ytkamcnjofpamhaa
open Go.RowKit Go.Maps
set_option linter.unusedSimpArgs false
theorem retC {P : Program} {fn : Func} {p : Tmp} {ty : TypeId} {v : Value} {w : World} (h : fn.results = #[.cell p ty]) (tmps : Array Value) (b o : Nat) (hp : tmps.getD p undef = .pointer (some ⟨b, o, none⟩))
    (hl : (loadVar ty ⟨b, o, none⟩).run P w = .ok v w) : (results fn tmps).run P w = .ok v w := by
  simp only [results, h]
  rw [Array.getD_eq_getD_getElem?] at hp
  simp [Sem.run_bind, hp, asAddr, hl, Result.andThen]
/-- A block of the call's own that holds these cells. -/
def Row (w : World) (g : Nat) (t : TypeId) (cs : List Value) : Prop := w.heap[g]? = some (.cells cs.toArray t (0, 0))
theorem Row.lt {w : World} {g : Nat} {t : TypeId} {cs : List Value} (h : Row w g t cs) : g < w.heap.size := (Array.getElem?_eq_some_iff.1 h).1
theorem Row.new (w : World) (t : TypeId) (cs : List Value) : Row (w.alloc (.cells cs.toArray t)) w.heap.size t cs := by
  show (w.heap.push _)[w.heap.size]? = _
  simp
theorem Row.alloc {w : World} {g : Nat} {t : TypeId} {cs : List Value} (h : Row w g t cs) (o : Obj) : Row (w.alloc o) g t cs := by
  show (w.heap.push _)[g]? = _
  rw [Array.getElem?_push_lt h.lt]
  exact (Array.getElem?_eq_getElem h.lt).symm.trans h
theorem Row.drew {w : World} {g : Nat} {t : TypeId} {cs : List Value} (h : Row w g t cs) : Row w.drew g t cs := h
theorem Row.below {w w' : World} {B g : Nat} {t : TypeId} {cs : List Value} (h : Row w g t cs) (hb : Below B w w') (hlt : g < B) : Row w' g t cs := (hb.block g hlt).trans h
theorem Row.cell {w : World} {g : Nat} {t : TypeId} {cs : List Value} (h : Row w g t cs) (j : Nat) : w.cell? ⟨g, j, none⟩ = cs[j]? := by
  rw [cell_of_row w g j cs.toArray t (0, 0) h]; simp
theorem Row.frozen {w : World} {g : Nat} {t : TypeId} {cs : List Value} (h : Row w g t cs) (j : Nat) : w.frozen? ⟨g, j, none⟩ = false := by
  unfold Row at h
  simp [World.frozen?, h]
theorem Row.range {w : World} {g : Nat} {t : TypeId} {cs : List Value} (h : Row w g t cs) : w.rangeAt g 0 cs := fun j v hv => by rw [Nat.zero_add, h.cell]; exact hv
theorem Row.there {w : World} {g : Nat} {t : TypeId} {cs : List Value} {n : Nat} (h : Row w g t cs) (hn : n ≤ cs.length) : w.there g 0 n := fun j hj => by
  rw [Nat.zero_add, h.cell, h.frozen]
  exact ⟨by simp; omega, rfl⟩
theorem Row.set {w : World} {g : Nat} {t : TypeId} {cs : List Value} (h : Row w g t cs) (j : Nat) (v : Value) : Row (w.setCell ⟨g, j, none⟩ v) g t (cs.set j v) := by
  unfold Row at *
  simp [World.setCell, Array.getElem?_modify, h]
theorem Row.setOther {w : World} {g : Nat} {t : TypeId} {cs : List Value} (h : Row w g t cs) (g' j : Nat) (v : Value) (hne : g' ≠ g) : Row (w.setCell ⟨g', j, none⟩ v) g t cs := by
  unfold Row at *
  simp [World.setCell, Array.getElem?_modify, h, hne]
theorem below_setCells {B : Nat} {w0 : World} (g : Nat) (h : B ≤ g) : ∀ (vs : List Value) (o : Nat) (w : World), Below B w0 w → Below B w0 (w.setCells g o vs)
  | [], _, _, hb => hb
  | v :: r, o, w, hb => by
    rw [World.setCells]
    exact below_setCells g h r (o + 1) _ (hb.setCell (p := ⟨g, o, none⟩) h v)

theorem infoDue : (Try.prog.info? 39).map (·.size) = some 2 := by kernel_rfl
theorem lvDue {w : World} {g : Nat} {s : ByteArray} {a : Int} (h : Row w g 39 [.string s, .int .i64 a]) : (loadVar 39 ⟨g, 0, none⟩).run Try.prog w = .ok (.agg #[.string s, .int .i64 a]) w :=
  run_loadVar_mid w g 0 _ [.string s, .int .i64 a] _ h.range Try.underlying39 rfl (by rw [infoDue]; rfl)
structure Qd (w : World) (q mb : Nat) (v : Value) (L : List Tm) : Prop where
  st : St w q (.map (some mb)) v L
  mp : Mp w mb L
def FootQ (q mb : Nat) (v : Value) (L : List Tm) (k : Nat) : Prop := Foot q v L k ∨ k = mb
theorem Qd.foot_lt {w : World} {q mb : Nat} {v : Value} {L : List Tm} (h : Qd w q mb v L) {k : Nat} (hk : FootQ q mb v L k) : k < w.heap.size := by
  rcases hk with hk | rfl
  · exact h.st.foot_lt hk
  · exact h.mp.lt
theorem Qd.frm {w w' : World} {q mb : Nat} {v : Value} {L : List Tm} {S : Nat → Prop} (h : Qd w q mb v L) (hf : Frm S w w') (hd : ∀ k, FootQ q mb v L k → ¬ S k) : Qd w' q mb v L :=
  ⟨h.st.frm hf (fun k hk => hd k (.inl hk)), h.mp.same (hf.block _ h.mp.lt (hd _ (.inr rfl)))⟩
theorem Qd.below {w w' : World} {q mb : Nat} {v : Value} {L : List Tm} (h : Qd w q mb v L) (hb : Below w.heap.size w w') : Qd w' q mb v L :=
  ⟨h.st.below hb, h.mp.same (hb.block _ h.mp.lt)⟩
theorem new_any (w : World) : Calls Try.prog 10 #[] w (fun e w' => e = .returned (.pointer (some ⟨w.heap.size + 1, 0, none⟩)) ∧ Qd w' (w.heap.size + 1) w.heap.size (.slice none 0 0) [] ∧ Below w.heap.size w w') := by
  have hmm := @run_makeMap Try.prog
  go_enter Try.func10, Try.ntmps10
  go_wp2
  go_ret
  refine ⟨rfl, ⟨⟨?_, World.ownsRow_nil _ _ _ _, fun j hj => absurd hj (by simp)⟩, ⟨by simp, (fun _ h => by cases h), .map [], ?_, rfl, ?_, fun _ h => by cases h⟩⟩, ((Below.refl _ _).alloc (Nat.le_refl _) _).alloc (by simp) _⟩
  · have := new_block (w.alloc (.map #[] 0)) #[.slice none 0 0, .map (some w.heap.size)] 63
    simpa using this
  · exact (World.ownsMap_made w _ _ _).alloc _
  · intro s
    simp [has]
theorem qlen_any (w : World) (q mb : Nat) (v : Value) (L : List Tm) (h : Qd w q mb v L) : Calls Try.prog 24 #[.pointer (some ⟨q, 0, none⟩)] w (fun e w' => e = .returned (.int .i64 L.length) ∧ w = w') := by
  obtain ⟨a, cap, rfl⟩ := h.st.shape
  have c1 : w.cell? ⟨q, 0, none⟩ = some (.slice a L.length cap) := one_cell h.st.que rfl
  clear h
  go_enter Try.func24, Try.ntmps24
  go_wp2
  go_ret
  exact ⟨rfl, rfl⟩
theorem qlen_nil (w : World) : Calls Try.prog 24 #[.pointer none] w (fun e w' => e = .returned (.int .i64 0) ∧ w = w') := by
  go_enter Try.func24, Try.ntmps24
  go_wp2
  go_ret
  exact ⟨rfl, rfl⟩
theorem due_any (w : World) (a b : Int) : Calls Try.prog 31 #[.agg #[.int .i64 a], .int .i64 b] w (Gives w (.bool (decide (a ≤ b)))) := by
  go_enter Try.func31, Try.ntmps31
  go_wp2
  go_ret
  exact ⟨rfl, (Below.refl _ _).alloc (Nat.le_refl _) _⟩
theorem told_any (w : World) (t : Tm) (p : Int) (h : Tim w t p) : Calls Try.prog 32 #[.pointer (some ⟨t.b, 0, none⟩)] w (Gives w (.agg #[.string t.nm, .int .i64 t.tm])) := by
  have c0 : w.cell? ⟨t.b, 0, none⟩ = some (.int .i64 t.tm) := one_cell h rfl
  have c1 : w.cell? ⟨t.b, 1, none⟩ = some (.string t.nm) := one_cell h rfl
  have hl := h.lt
  clear h
  go_enter Try.func32, Try.ntmps32
  go_wp2
  go_region
  go_wp2
  refine bodyPost_ret (retC rfl _ w.heap.size 0 rfl (lvDue (Row.drew (Row.new w 39 [_, _])))) rfl ?_
  exact ⟨rfl, ((Below.refl _ _).alloc (Nat.le_refl _) _).drew⟩
end Go.Proofs.Ytkamcnjofpamhaa
