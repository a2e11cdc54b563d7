/-
  The orders of package addr: Compare, ComparePrefix, ComparePair, for every input.
-/
import Derived.Test.YtimpopolkofdgabDoorFam
import Derived.Test.YtimpopolkofdgabDoorShelf
import Derived.Lib.Bytealg
import Derived.Lib.BytesEntry
import Derived.Laws.Externs
namespace Go.Proofs.YtimpopolkofdgabDoor
open Go.RowKit
set_option linter.unusedSimpArgs false
set_option maxRecDepth 20000

/-- The first of two numbers that is not 0. -/
def orI (x y : Int) : Int := if x = 0 then y else x
theorem orInt (x y : Int) (t : TypeId) (w : World) : Calls Tryd.prog 34 #[.slice (some ⟨w.heap.size, 0, none⟩) 2 2] (w.alloc (.cells #[.int .i64 x, .int .i64 y] t)) fun e w' => e = .returned (.int .i64 (orI x y)) ∧ w' = w.alloc (.cells #[.int .i64 x, .int .i64 y] t) := by
  have hR := Row.new w t [.int .i64 x, .int .i64 y]
  have c0 := hR.cell 0
  have c1 := hR.cell 1
  simp only [List.getElem?_cons_zero, List.getElem?_cons_succ] at c0 c1
  have HE : Hid (orI x y = if x = 0 then y else x) := rfl
  refine name_world (R := fun W => Calls _ _ _ W fun e w' => e = _ ∧ w' = W) (P := fun W => W.cell? ⟨w.heap.size, 0, none⟩ = some (.int .i64 x) ∧ W.cell? ⟨w.heap.size, 1, none⟩ = some (.int .i64 y)) _ ⟨c0, c1⟩ ?_
  clear hR c0 c1
  rintro W ⟨c0, c1⟩
  go_enter Tryd.func34, Tryd.ntmps34
  go_wp2
  go_loopw [8] (fun i wr => wr = W ∧ (i = .int .i64 0 ∨ i = .int .i64 1 ∧ x = 0 ∨ i = .int .i64 2 ∧ x = 0 ∧ y = 0)) (fun i _ => 2 - (intOf i).toNat)
  case atStart => exact ⟨rfl, .inl rfl⟩
  case round =>
    obtain ⟨rfl, rfl | ⟨rfl, h⟩ | ⟨rfl, h, h'⟩⟩ := hrel
    · by_cases hx : x = 0
      · have hx' : (x != 0) = false := by simp [hx]
        have HX : Hid (x = 0) := hx
        clear hx
        go_wp2
        go_roundw
        case rel => exact ⟨trivial, .inr (.inl ⟨by go_num, HX.out⟩)⟩
        case measure => simp [intOf]
      · have hx' : (x != 0) = true := by simp [hx]
        have HX : Hid (x ≠ 0) := hx
        clear hx
        go_wp2
        go_ret
        exact ⟨by rw [HE.out, if_neg HX.out]; rfl, rfl⟩
    · have HX : Hid (x = 0) := h
      clear h
      by_cases hx : y = 0
      · have hx' : (y != 0) = false := by simp [hx]
        have HY : Hid (y = 0) := hx
        clear hx
        go_wp2
        go_roundw
        case rel => exact ⟨trivial, .inr (.inr ⟨by go_num, HX.out, HY.out⟩)⟩
        case measure => simp [intOf]
      · have hx' : (y != 0) = true := by simp [hx]
        clear hx
        go_wp2
        go_ret
        exact ⟨by rw [HE.out, if_pos HX.out]; rfl, rfl⟩
    · have HX : Hid (x = 0) := h
      have HY : Hid (y = 0) := h'
      clear h h'
      go_wp2
      go_ret
      exact ⟨by rw [HE.out, if_pos HX.out, HY.out]; rfl, rfl⟩

theorem loadX (l : List UInt8) (b : Nat) (w : World) (h : w.rangeAt b 0 (bcells l)) : (Extern.Bytes.loadBytes ⟨b, 0, none⟩ l.length .empty).run Tryd.prog w = .ok ⟨l.toArray⟩ w := by
  have := Lib.run_loadBytesX (P := Tryd.prog) (w := w) (l.map fun b => (b.toNat : Int)) ⟨b, 0, none⟩ .empty (fun j x hx => by
    rw [Addr.add_mid]
    rw [List.getElem?_map] at hx
    cases hj : l[j]? with
    | none => rw [hj] at hx; cases hx
    | some c => rw [hj] at hx; cases hx; exact h j _ (bcells_get hj))
  have e : Lib.bytesOf (l.map fun b => (b.toNat : Int)) = l := by
    unfold Lib.bytesOf
    rw [List.map_map]
    conv => rhs; rw [← List.map_id l]
    apply List.map_congr_left
    intro x _
    simp
  rw [e] at this
  simpa using this
theorem bcmp (l m : List UInt8) (b1 b2 c1 c2 n1 n2 : Nat) (w : World) (hn1 : n1 = l.length) (hn2 : n2 = m.length) (h1 : w.rangeAt b1 0 (bcells l)) (h2 : w.rangeAt b2 0 (bcells m)) : Calls Tryd.prog 33 #[.slice (some ⟨b1, 0, none⟩) n1 c1, .slice (some ⟨b2, 0, none⟩) n2 c2] w fun e w' => e = .returned (.int .i64 (Lib.compareBytes l m)) ∧ w' = w := by
  have hx : (callFunc 47 #[.slice (some ⟨b1, 0, none⟩) n1 c1, .slice (some ⟨b2, 0, none⟩) n2 c2]).run Tryd.prog w = .ok (.value (.int .i64 (Lib.compareBytes l m))) w := by
    rw [run_callFunc_extern Tryd.func47 (by kernel_rfl) (by kernel_rfl) (by kernel_rfl) (e := Extern.BytealgCompare.compare) (by kernel_rfl)]
    subst hn1 hn2
    have e1 := loadX l b1 w h1
    have e2 := loadX m b2 w h2
    change ((Sem.run Tryd.prog (do pure (goInt (Extern.BytealgCompare.cmp (← Extern.Bytes.bytesOf (.slice (some ⟨b1, 0, none⟩) l.length c1)) (← Extern.Bytes.bytesOf (.slice (some ⟨b2, 0, none⟩) m.length c2))))) w).andThen fun v w' => .ok (Next.value v) w') = _
    simp only [Extern.Bytes.bytesOf, Sem.run_bind, e1, e2, Result.andThen_ok, Sem.run_pure, Lib.cmp_eq]
    simp [goInt]
  clear h1 h2 hn1 hn2
  go_enter Tryd.func33, Tryd.ntmps33
  go_wp2
  go_ret
  exact ⟨rfl, rfl⟩

/-- The order of addresses. -/
def cmpA (a b : Ad) : Int := Lib.compareBytes a.l b.l
theorem compare_any (a b : Ad) (w : World) : Calls Tryd.prog 21 #[(Value.agg (acells a).toArray), (Value.agg (acells b).toArray)] w (Gives w (.int .i64 (cmpA a b))) := by
  go_enter Tryd.func21, Tryd.ntmps21
  go_wp2
  refine name_world (R := fun W => Code.wp _ _ _ _ W) (P := fun W => Below w.heap.size w W ∧ LA W w.heap.size 0 a ∧ LA W (w.heap.size + 1) 0 b ∧ w.heap.size + 1 < W.heap.size) _ ⟨bt (ba _ _) (ba _ _), (LA.new _ _ _).alloc _, by have := LA.new (w.alloc (.cells (acells a).toArray 23)) b 23; simpa using this, by simp⟩ ?_
  rintro X ⟨hB, hP, hA, hs⟩
  have HK : Hid (∀ W, Below X.heap.size X W → Below X.heap.size X W ∧ LA W w.heap.size 0 a ∧ LA W (w.heap.size + 1) 0 b) := fun W h => ⟨h, hP.below h (by omega), hA.below h hs⟩
  refine wp_region_noPanic ?_
  refine wp_region_held_drew (S := fun W => Below X.heap.size X W ∧ LA W w.heap.size 0 a ∧ LA W (w.heap.size + 1) 0 b) (by kernel_rfl) (HK.out _ (Below.refl _ _).drew) (fun hHeld => ?_)
  refine take_lit (i := 0) (v := ?_) rfl (by kernel_rfl) (by kernel_rfl) (by kernel_rfl) (fun _ _ _ h => h) (Or.inl ⟨by rfl, ?_⟩) (by assumption) ?_
  rotate_left
  · (intro w hSw; (try dsimp only at hSw); go_simp <;> with_reducible rfl)
  try simp only [Act.put, List.setIfInBounds_toArray, List.set_cons_zero, List.set_cons_succ]
  refine take_lit (i := 1) (v := ?_) rfl (by kernel_rfl) (by kernel_rfl) (by kernel_rfl) (fun _ _ _ h => h) (Or.inl ⟨by rfl, ?_⟩) (by assumption) ?_
  rotate_left
  · (intro w hSw; (try dsimp only at hSw); go_simp <;> with_reducible rfl)
  try simp only [Act.put, List.setIfInBounds_toArray, List.set_cons_zero, List.set_cons_succ]
  refine wpAnyH_ready (rs := [2]) (by kernel_rfl) (by simp) ?_
  refine cons_lit rfl (fun K hK => ?_) ?_
  · go_simp
    refine (bcmp a.l b.l _ _ _ _ _ _ _ a.len.symm b.len.symm hHeld.2.1 hHeld.2.2).mono ?_
    rintro e w1 ⟨rfl, rfl⟩
    refine hK.out _ _ ?_ (fun hHeld => ?_)
    · exact hHeld
    clear hK K
    try simp only [Act.put, List.setIfInBounds_toArray, List.set_cons_zero, List.set_cons_succ]
    refine take_lit (i := 3) (v := ?_) rfl (by kernel_rfl) (by kernel_rfl) (by kernel_rfl) (fun _ _ _ h => h) (Or.inl ⟨by rfl, ?_⟩) (by assumption) ?_
    rotate_left
    · (intro w hSw; (try dsimp only at hSw); go_simp <;> with_reducible rfl)
    try simp only [Act.put, List.setIfInBounds_toArray, List.set_cons_zero, List.set_cons_succ]
    refine wpAnyH_done (by kernel_rfl) ?_ _
    refine NoPanic.normal ?_
    go_wp2
    go_ret
    exact ⟨rfl, hB.trans (hHeld.1.mono (by omega))⟩
  exact AllReadyH.nil
/-- The order of prefixes, and of pairs. -/
def cmpP (p q : Pf) : Int := orI (cmpA p.a q.a) (Lib.compareInt p.n q.n)
def cmpQ (p q : Pr) : Int := orI (cmpP p.d q.d) (cmpP p.s q.s)
end Go.Proofs.YtimpopolkofdgabDoor
