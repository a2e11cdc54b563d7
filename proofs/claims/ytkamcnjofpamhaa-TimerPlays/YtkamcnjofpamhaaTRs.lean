/-
  The document's queue: Pop.
-/
import Derived.Test.YtkamcnjofpamhaaTRc
namespace Go.Proofs.Ytkamcnjofpamhaa
open Go.RowKit
set_option linter.unusedSimpArgs false
theorem rpop_none (W : World) (r : Nat) (a : Option Addr) (c : Nat) (now : Int) (h : Rq W r a c []) : Calls Try.prog 17 #[.pointer (some ⟨r, 0, none⟩), .int .i64 now] W (RPost W r [] noDue) := by
  have hr := h.lt
  have hB := (Below.refl W.heap.size W).alloc (Nat.le_refl _) (.cells #[.string ⟨#[]⟩, .int .i64 0] 39)
  have c0 : (W.alloc (.cells #[.string ⟨#[]⟩, .int .i64 0] 39)).cell? ⟨r, 0, none⟩ = some (.slice a 0 c) := (hB.cell (p := ⟨r, 0, none⟩) hr).trans (one_cell h.que rfl)
  have HR : Hid (Rq (W.alloc (.cells #[.string ⟨#[]⟩, .int .i64 0] 39)) r a c []) := h.below hB
  have rr := Row.new W 39 [.string ⟨#[]⟩, .int .i64 0]
  clear h
  go_enter Try.func17, Try.ntmps17
  go_wp2
  exact bodyPost_ret (retCT rfl _ W.heap.size 0 rfl (lvDue rr)) rfl ⟨rfl, a, c, HR.out, Frm.of_below hB⟩
theorem rpop_late (W : World) (r : Nat) (a : Option Addr) (c : Nat) (now : Int) (d : ByteArray × Int) (E : List (ByteArray × Int)) (h : Rq W r a c (d :: E)) (hE : E.length ≤ 100000) (hd : now < d.2) : Calls Try.prog 17 #[.pointer (some ⟨r, 0, none⟩), .int .i64 now] W (RPost W r (d :: E) noDue) := by
  have hr := h.lt
  have hB := (Below.refl W.heap.size W).alloc (Nat.le_refl _) (.cells #[.string ⟨#[]⟩, .int .i64 0] 39)
  have h' := h.below hB
  obtain ⟨g, o, rfl, d1, d2⟩ := h'.row.dues 0 (by simp)
  have c0 : (W.alloc (.cells #[.string ⟨#[]⟩, .int .i64 0] 39)).cell? ⟨r, 0, none⟩ = some (.slice (some ⟨g, o, none⟩) (E.length + 1) c) := one_cell h'.que rfl
  have d3 : (W.alloc (.cells #[.string ⟨#[]⟩, .int .i64 0] 39)).cell? ⟨g, o + 1, none⟩ = some (.int .i64 d.2) := d2
  have HR : Hid (Rq (W.alloc (.cells #[.string ⟨#[]⟩, .int .i64 0] 39)) r (some ⟨g, o, none⟩) c (d :: E)) := h'
  have rr := Row.new W 39 [.string ⟨#[]⟩, .int .i64 0]
  have e0 : (((E.length + 1 : Nat) : Int) == 0) = false := by rw [beq_eq_false_iff_ne]; omega
  have e1 : (0 : Int) < ((E.length + 1 : Nat) : Int) := by omega
  have e2 : ((E.length : Int) + 1 == 0) = false := by rw [beq_eq_false_iff_ne]; omega
  have e3 : (0 : Int) < (E.length : Int) + 1 := by omega
  clear h h' d1 d2
  go_enter Try.func17, Try.ntmps17
  go_wp2
  exact bodyPost_ret (retCT rfl _ W.heap.size 0 rfl (lvDue rr)) rfl ⟨rfl, _, c, HR.out, Frm.of_below hB⟩
theorem Rq.tail {W : World} {r g o c : Nat} {d : ByteArray × Int} {E : List (ByteArray × Int)} {X Y : Obj} (h : Rq W r (some ⟨g, o, none⟩) c (d :: E)) (A : Option Addr) (c' : Nat) (hA : c = 1 ∧ A = some ⟨g, o, none⟩ ∧ c' = 0 ∨ c ≠ 1 ∧ A = some ⟨g, o + 2, none⟩ ∧ c' = c - 1) :
    Rq (((W.setCell ⟨r, 0, none⟩ (.slice A E.length c')).alloc X).alloc Y) r A c' E ∧ Frm (fun j => j = r) W (((W.setCell ⟨r, 0, none⟩ (.slice A E.length c')).alloc X).alloc Y) := by
  have hF : Frm (fun j => j = r) W (W.setCell ⟨r, 0, none⟩ (.slice A E.length c')) := (Frm.refl (fun j => j = r) W).setCell (p := ⟨r, 0, none⟩) (.inl rfl) _
  refine ⟨?_, (hF.alloc X).alloc Y⟩
  have h1 : Rq (W.setCell ⟨r, 0, none⟩ (.slice A E.length c')) r A c' E := by
    refine ⟨by rw [set_block h.que _]; simp, ?_⟩
    rcases h.row.2 with ⟨h0, _⟩ | ⟨g', o', arr, e, h2, h3⟩
    · cases h0
    · cases e
      have hne : g ≠ r := fun e => by rw [e, h.que] at h2; simp at h2
      have h2' : (W.setCell ⟨r, 0, none⟩ (.slice A E.length c')).heap[g]? = some (.cells arr 39 (0, 0)) := (set_other hne _).trans h2
      have hl := h.row.1
      simp at hl
      rcases hA with ⟨e1, rfl, rfl⟩ | ⟨e1, rfl, rfl⟩
      · have hE : E = [] := List.eq_nil_of_length_eq_zero (by omega)
        subst hE
        exact ⟨Nat.le_refl _, .inr ⟨g, o, arr, rfl, h2', fun j x hx => by simp at hx⟩⟩
      · refine ⟨by omega, .inr ⟨g, o + 2, arr, rfl, h2', fun j x hx => ?_⟩⟩
        have := h3 (j + 1) x (by simpa using hx)
        rw [show o + (j + 1) * 2 = o + 2 + j * 2 by omega] at this
        exact this
  exact (h1.below ((Below.refl _ _).alloc (Nat.le_refl _) X)).below ((Below.refl _ _).alloc (Nat.le_refl _) Y)
set_option maxHeartbeats 1000000 in
theorem rpop_due (W : World) (r : Nat) (a : Option Addr) (c : Nat) (now : Int) (d : ByteArray × Int) (E : List (ByteArray × Int)) (h : Rq W r a c (d :: E)) (hE : E.length ≤ 100000) (hd : ¬ now < d.2) : Calls Try.prog 17 #[.pointer (some ⟨r, 0, none⟩), .int .i64 now] W (RPost W r E (.tuple #[dueV d.1 d.2, .bool true])) := by
  have hr := h.lt
  have hB := (Below.refl W.heap.size W).alloc (Nat.le_refl _) (.cells #[.string ⟨#[]⟩, .int .i64 0] 39)
  have h' := h.below hB
  obtain ⟨g, o, rfl, d1, d2⟩ := h'.row.dues 0 (by simp)
  have c0 : (W.alloc (.cells #[.string ⟨#[]⟩, .int .i64 0] 39)).cell? ⟨r, 0, none⟩ = some (.slice (some ⟨g, o, none⟩) (E.length + 1) c) := one_cell h'.que rfl
  have d3 : (W.alloc (.cells #[.string ⟨#[]⟩, .int .i64 0] 39)).cell? ⟨g, o + 1, none⟩ = some (.int .i64 d.2) := d2
  have d4 : (W.alloc (.cells #[.string ⟨#[]⟩, .int .i64 0] 39)).cell? ⟨g, o, none⟩ = some (.string d.1) := d1
  have hB2 := hB.alloc (by simp) (.cells #[.string d.1, .int .i64 d.2] 39)
  have h2 := h.below hB2
  have c1 : ((W.alloc (.cells #[.string ⟨#[]⟩, .int .i64 0] 39)).alloc (.cells #[.string d.1, .int .i64 d.2] 39)).cell? ⟨r, 0, none⟩ = some (.slice (some ⟨g, o, none⟩) (E.length + 1) c) := one_cell h2.que rfl
  have c2 : ((W.alloc (.cells #[.string ⟨#[]⟩, .int .i64 0] 39)).alloc (.cells #[.string d.1, .int .i64 d.2] 39)).frozen? ⟨r, 0, none⟩ = false := one_free h2.que
  have HP : Hid (∀ A c', (c = 1 ∧ A = some ⟨g, o, none⟩ ∧ c' = 0 ∨ c ≠ 1 ∧ A = some ⟨g, o + 2, none⟩ ∧ c' = c - 1) → Rq (((W.setCell ⟨r, 0, none⟩ (.slice A E.length c')).alloc (.cells #[.string d.1, .int .i64 d.2] 39)).alloc (.cells #[.string d.1, .int .i64 d.2] 39)) r A c' E ∧ Frm (fun j => j = r) W (((W.setCell ⟨r, 0, none⟩ (.slice A E.length c')).alloc (.cells #[.string d.1, .int .i64 d.2] 39)).alloc (.cells #[.string d.1, .int .i64 d.2] 39))) := h.tail
  have RR : Hid (∀ v, Row (((W.setCell ⟨r, 0, none⟩ v).alloc (.cells #[.string d.1, .int .i64 d.2] 39)).alloc (.cells #[.string d.1, .int .i64 d.2] 39)) W.heap.size 39 [.string d.1, .int .i64 d.2]) := fun v => by
    have := (Row.new (W.setCell ⟨r, 0, none⟩ v) 39 [.string d.1, .int .i64 d.2]).alloc (.cells #[.string d.1, .int .i64 d.2] 39)
    simpa using this
  have e0 : (((E.length + 1 : Nat) : Int) == 0) = false := by rw [beq_eq_false_iff_ne]; omega
  have e1 : (0 : Int) < ((E.length + 1 : Nat) : Int) := by omega
  have e2 : ((E.length : Int) + 1 == 0) = false := by rw [beq_eq_false_iff_ne]; omega
  have e3 : (0 : Int) < (E.length : Int) + 1 := by omega
  have e4 : (1 : Int) ≤ (E.length : Int) + 1 := by omega
  clear h h' h2 d1 d2
  go_enter Try.func17, Try.ntmps17
  go_wp2
  · subst h
    obtain ⟨z1, z2⟩ := HP.out (some ⟨g, o, none⟩) 0 (.inl ⟨rfl, rfl, rfl⟩)
    exact bodyPost_ret (retCT rfl _ W.heap.size 0 rfl (lvDue (RR.out _))) rfl ⟨rfl, _, _, z1, z2⟩
  · obtain ⟨z1, z2⟩ := HP.out (some ⟨g, o + 2, none⟩) (c - 1) (.inr ⟨h, rfl, rfl⟩)
    exact bodyPost_ret (retCT rfl _ W.heap.size 0 rfl (lvDue (RR.out _))) rfl ⟨rfl, _, _, z1, z2⟩
end Go.Proofs.Ytkamcnjofpamhaa
