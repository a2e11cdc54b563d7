/-
  The kernel's table in memory: a map of maps.
-/
import Derived.Test.YtadnnjngflphjaaB3
namespace Go.Proofs.Ytadnnjngflphjaa
open Go.RowKit Go.Maps
set_option linter.unusedSimpArgs false
set_option linter.unusedVariables false
/-- A map that leads from each destination to a map of its own. -/
structure Tw (w : World) (b mb : Nat) (L : List Ob) : Prop where
  out : Mp mO w mb L
  inn : ∀ o ∈ L, ∃ r, o.r = some r ∧ Mp mI w r o.S ∧ r ≠ mb ∧ b ≤ r
  dis : (L.map Ob.r).Nodup
  own : ∀ o ∈ L, ∀ h ∈ o.S, h.e.p.d = o.d
  lb : b ≤ mb
theorem Tw.good {w : World} {b mb : Nat} {L : List Ob} (h : Tw w b mb L) : Good L :=
  ⟨h.out.nd, h.own, fun o ho => by obtain ⟨r, _, m, _⟩ := h.inn o ho; exact m.nd⟩
/-- What keeps every map keeps the table. -/
theorem Tw.kept {w w' : World} {b mb : Nat} {L : List Ob} (h : Tw w b mb L) (k : ∀ (i : Nat) (es : Array MapEntry) (cl : Nat), w.heap[i]? = some (Obj.map es cl) → w'.heap[i]? = w.heap[i]?) : Tw w' b mb L := by
  refine ⟨?_, fun o ho => ?_, h.dis, h.own, h.lb⟩
  · obtain ⟨es, cl, e⟩ := h.out.obj
    exact h.out.same (k _ _ _ e)
  · obtain ⟨r, e1, m, e2, e3⟩ := h.inn o ho
    obtain ⟨es, cl, e⟩ := m.obj
    exact ⟨r, e1, m.same (k _ _ _ e), e2, e3⟩
theorem Tw.below {w w' : World} {b mb : Nat} {L : List Ob} (h : Tw w b mb L) (hb : Below w.heap.size w w') : Tw w' b mb L :=
  h.kept fun i es cl e => hb.block i (Array.getElem?_eq_some_iff.1 e).1
theorem Tw.keep {w w' : World} {b mb g : Nat} {L : List Ob} {t : TypeId} {cs : List Value} (h : Tw w b mb L) (hr : Row w g t cs) (hg : w.grownBy w' (some g)) : Tw w' b mb L :=
  h.kept fun i es cl e => hg.block i (Array.getElem?_eq_some_iff.1 e).1 (fun e' => by
    cases e'
    unfold Row at hr
    rw [e] at hr
    cases hr)
theorem Tw.lt {w : World} {b mb : Nat} {L : List Ob} (h : Tw w b mb L) : mb < w.heap.size := h.out.lt
/-- The map that a destination leads to. -/
theorem Tw.get {w : World} {b mb : Nat} {L : List Ob} (h : Tw w b mb L) {d : Pf} {o : Ob} (hg : getN mO L d = some o) : o ∈ L ∧ o.d = d ∧ ∃ r, o.r = some r ∧ Mp mI w r o.S ∧ r ≠ mb ∧ b ≤ r := by
  obtain ⟨h1, h2⟩ := getN_some hg
  exact ⟨h1, h2, h.inn o h1⟩
theorem dis_one {L : List Ob} (h : (L.map Ob.r).Nodup) {o o' : Ob} (ho : o ∈ L) (ho' : o' ∈ L) (e : o.r = o'.r) : o = o' := by
  obtain ⟨i, hi, rfl⟩ := List.getElem_of_mem ho
  obtain ⟨j, hj, rfl⟩ := List.getElem_of_mem ho'
  have : i = j := (List.getElem_inj (i := i) (j := j) (h₀ := by simpa using hi) (h₁ := by simpa using hj) h).1 (by simpa using e)
  subst this; rfl
/-- One of the maps turns. -/
theorem Tw.turn {w w' : World} {b mb r : Nat} {L : List Ob} {o : Ob} {S : List Hd} (h : Tw w b mb L) (ho : o ∈ L) (hr : o.r = some r) (hm : Mp mI w' r S) (hg : w.grownBy w' (some r)) (hs : ∀ x ∈ S, x.e.p.d = o.d) : Tw w' b mb (upS L o.d S) := by
  obtain ⟨r', hr', _, e2, e3⟩ := h.inn o ho
  obtain rfl : r' = r := by rw [hr] at hr'; cases hr'; rfl
  have hmem := fun x => mem_upS (S := S) h.out.nd ho rfl (x := x)
  refine ⟨?_, fun x hx => ?_, by rw [upS_r]; exact h.dis, fun x hx => ?_, h.lb⟩
  · refine Mp.resp (L := L) ?_ (upS_kv _ _ _)
    exact h.out.keep hg (Ne.symm e2)
  · rcases (hmem x).1 hx with rfl | ⟨h1, h2⟩
    · exact ⟨r', hr, hm, e2, e3⟩
    · obtain ⟨q, k1, k2, k3, k4⟩ := h.inn x h1
      refine ⟨q, k1, k2.keep hg ?_, k3, k4⟩
      intro e
      subst e
      exact h2 (by rw [dis_one h.dis h1 ho (by rw [k1, hr])])
  · rcases (hmem x).1 hx with rfl | ⟨h1, _⟩
    · exact hs
    · exact h.own x h1
theorem Tw.put {w : World} {b mb r : Nat} {L : List Ob} {o : Ob} (h : Tw w b mb L) (n : Hd) (hg : getN mO L n.e.p.d = some o) (hr : o.r = some r) (hi : wfP n.e.p.s) (hl : o.S.length < maxLen) : ∃ w', (Instr.mapUpdate 74 (.map (some r)) (Value.agg (pcells n.e.p.s).toArray) (hV n)).run Try.prog w = .ok () w' ∧ Tw w' b mb (upS L o.d (putN mI o.S n)) ∧ w.grownBy w' (some r) ∧ b ≤ r := by
  obtain ⟨ho, hd, r', hr', m, e2, e3⟩ := h.get hg
  obtain rfl : r' = r := by rw [hr] at hr'; cases hr'; rfl
  obtain ⟨w', h1, h2, h3⟩ := m.put n hi hl
  refine ⟨w', h1, h.turn ho hr h2 h3 fun x hx => ?_, h3, e3⟩
  rcases mem_putN.1 hx with rfl | ⟨hx, _⟩
  · exact hd.symm
  · exact h.own o ho x hx
theorem Tw.new {w : World} {b mb r : Nat} {L : List Ob} (h : Tw w b mb L) (d : Pf) (hg : getN mO L d = none) (hm : Mp mI w r []) (hr : ∀ o ∈ L, o.r ≠ some r) (hrm : r ≠ mb) (hb : b ≤ r) (hi : wfP d) (hl : L.length < maxLen) : ∃ w', (Instr.mapUpdate 61 (.map (some mb)) (Value.agg (pcells d).toArray) (.map (some r))).run Try.prog w = .ok () w' ∧ Tw w' b mb (L ++ [⟨d, some r, []⟩]) ∧ w.grownBy w' (some mb) := by
  obtain ⟨w', h1, h2, h3⟩ := h.out.put ⟨d, some r, []⟩ hi hl
  rw [putO_none hg] at h2
  refine ⟨w', h1, ⟨h2, fun o ho => ?_, ?_, fun o ho => ?_, h.lb⟩, h3⟩
  · rcases List.mem_append.1 ho with h4 | h4
    · obtain ⟨q, k1, k2, k3, k4⟩ := h.inn o h4
      exact ⟨q, k1, k2.keep h3 k3, k3, k4⟩
    · simp at h4; subst h4
      exact ⟨r, rfl, hm.keep h3 hrm, hrm, hb⟩
  · rw [List.map_append, List.nodup_append]
    refine ⟨h.dis, by simp, ?_⟩
    intro x hx y hy
    obtain ⟨o, ho, rfl⟩ := List.mem_map.1 hx
    simp at hy
    subst hy
    exact hr o ho
  · rcases List.mem_append.1 ho with h4 | h4
    · exact h.own o h4
    · simp at h4; subst h4
      intro x hx; cases hx
theorem Tw.del {w : World} {b mb r : Nat} {L : List Ob} {o : Ob} (h : Tw w b mb L) (p : Pr) (hg : getN mO L p.d = some o) (hr : o.r = some r) (hi : wfP p.s) (ty : TypeId) : ∃ w', (Builtin.delete_ #[74, 33] ty #[.map (some r), (Value.agg (pcells p.s).toArray)]).run Try.prog w = .ok (.tuple #[]) w' ∧ Tw w' b mb (upS L o.d (delN mI o.S p.s)) ∧ w.grownBy w' (some r) ∧ b ≤ r := by
  obtain ⟨ho, hd, r', hr', m, e2, e3⟩ := h.get hg
  obtain rfl : r' = r := by rw [hr] at hr'; cases hr'; rfl
  obtain ⟨w', h1, h2, h3⟩ := m.del hi ty
  exact ⟨w', h1, h.turn ho hr h2 h3 fun x hx => h.own o ho x (mem_delN.1 hx).1, h3, e3⟩
theorem Tw.drop {w : World} {b mb : Nat} {L : List Ob} (h : Tw w b mb L) (d : Pf) (hi : wfP d) (ty : TypeId) : ∃ w', (Builtin.delete_ #[61, 33] ty #[.map (some mb), (Value.agg (pcells d).toArray)]).run Try.prog w = .ok (.tuple #[]) w' ∧ Tw w' b mb (delN mO L d) ∧ w.grownBy w' (some mb) := by
  obtain ⟨w', h1, h2, h3⟩ := h.out.del hi ty
  have hs : (delN mO L d).Sublist L := List.filter_sublist
  refine ⟨w', h1, ⟨h2, fun o ho => ?_, List.Sublist.nodup (hs.map _) h.dis, fun o ho => h.own o (hs.subset ho), h.lb⟩, h3⟩
  obtain ⟨q, k1, k2, k3, k4⟩ := h.inn o (hs.subset ho)
  exact ⟨q, k1, k2.keep h3 k3, k3, k4⟩
/-- The table of a kernel: which number are to fail, what is held. -/
def KRow (w : World) (k : Nat) (n : Int) (mb : Nat) : Prop := Row w k 63 [.int .i64 n, .map (some mb)]
theorem KRow.c0 {w : World} {k mb : Nat} {n : Int} (h : KRow w k n mb) : w.cell? ⟨k, 0, none⟩ = some (.int .i64 n) := h.cell 0
theorem KRow.c1 {w : World} {k mb : Nat} {n : Int} (h : KRow w k n mb) : w.cell? ⟨k, 1, none⟩ = some (.map (some mb)) := h.cell 1
/-- A kernel in memory. -/
structure Tk (w : World) (b k : Nat) (n : Int) (mb : Nat) (L : List Ob) : Prop where
  row : KRow w k n mb
  tw : Tw w b mb L
  lk : b ≤ k
theorem Tk.below {w w' : World} {b k mb : Nat} {n : Int} {L : List Ob} (h : Tk w b k n mb L) (hb : Below w.heap.size w w') : Tk w' b k n mb L := ⟨h.row.below hb h.row.lt, h.tw.below hb, h.lk⟩
theorem Tk.rowmap {w : World} {b k mb : Nat} {n : Int} {L : List Ob} (h : Tk w b k n mb L) {i : Nat} {es : Array MapEntry} {cl : Nat} (e : w.heap[i]? = some (Obj.map es cl)) : k ≠ i := by
  intro e'
  subst e'
  have := h.row
  unfold KRow Row at this
  rw [e] at this
  cases this
/-- What is held, in whatever order; no destination without any. -/
def Kn (w : World) (b k : Nat) (n : Int) (F : List Hd) : Prop := ∃ mb L, Tk w b k n mb L ∧ (∀ o ∈ L, o.S ≠ []) ∧ F.Perm (flat L)
theorem Kn.below {w w' : World} {b k : Nat} {n : Int} {F : List Hd} (h : Kn w b k n F) (hb : Below w.heap.size w w') : Kn w' b k n F := by
  obtain ⟨mb, L, h1, h2, h3⟩ := h
  exact ⟨mb, L, h1.below hb, h2, h3⟩
theorem Kn.nd {w : World} {b k : Nat} {n : Int} {F : List Hd} (h : Kn w b k n F) : (F.map hp).Nodup := by
  obtain ⟨mb, L, h1, h2, h3⟩ := h
  exact (h3.map _).nodup_iff.2 h1.tw.good.nodup
theorem len_flat {L : List Ob} (h : ∀ o ∈ L, o.S ≠ []) : L.length ≤ (flat L).length := by
  induction L with
  | nil => simp
  | cons o L ih =>
    have h1 := ih fun x hx => h x (List.mem_cons_of_mem _ hx)
    have h2 := List.length_pos_iff.2 (h o (by simp))
    unfold flat at *
    rw [List.flatMap_cons, List.length_append, List.length_cons]
    omega
theorem len_own {L : List Ob} {o : Ob} (h : o ∈ L) : o.S.length ≤ (flat L).length := by
  induction L with
  | nil => cases h
  | cons x L ih =>
    unfold flat at *
    rw [List.flatMap_cons, List.length_append]
    rcases List.mem_cons.1 h with rfl | h
    · omega
    · have := ih h; omega
end Go.Proofs.Ytadnnjngflphjaa
