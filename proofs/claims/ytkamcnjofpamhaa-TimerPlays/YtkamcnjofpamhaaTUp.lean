/-
  The heap's up and down: what they leave of a line, for every line.
-/
import Derived.Test.YtkamcnjofpamhaaTSt
namespace Go.Proofs.Ytkamcnjofpamhaa
open Go.RowKit
set_option linter.unusedSimpArgs false
theorem ld_line (a : Addr) (w : World) (x : Option Addr) (n c : Nat) (h : w.cell? a = some (.slice x n c)) : (loadVar 61 a).run Try.prog w = .ok (.slice x n c) w := by
  go_simp
theorem und : ∀ w, (underlying 71).run Try.prog w = .ok (.pointer 61) w := fun w => by kernel_rfl
theorem wrapNil (a : Addr) (w : World) (s : String) : (Builtin.ssaWrapNilChk_ #[71] 71 #[.pointer (some a), strVal "", strVal s]).run Try.prog w = .ok (.pointer (some a)) w := by rfl
theorem m_at (name : String) (f : Nat) (htab : (Try.prog.info? 71).bind (fun t => (t.methods.find? (·.name == name)).map (fun m => (m.path.toList, m.func))) = some ([], some (f, false)))
    (a : Addr) (w : World) (x : Option Addr) (n c : Nat) (h : w.cell? a = some (.slice x n c)) : (method 235 71 (.pointer (some a)) name).run Try.prog w = .ok (f, .slice x n c) w := by
  obtain ⟨t, ht, h2⟩ := Option.bind_eq_some_iff.1 htab
  obtain ⟨mm, hm, h3⟩ := Option.map_eq_some_iff.1 h2
  simp only [Prod.mk.injEq] at h3
  have hp : mm.path.isEmpty = true := by
    have := h3.1
    simpa using this
  show (method (234 + 1) _ _ _).run _ _ = _
  unfold method
  have ht2 : (typeInfo 71).run Try.prog w = .ok t w := by
    simp [typeInfo, Sem.run_bind, ht]
  simp only [Sem.run_bind, ht2, Result.andThen_ok, hm, h3.1, h3.2, follow, Sem.run_pure, receiverAt, und, hp]
  simp [Place.get, Sem.run_bind, wrapNil, asAddr, ld_line a w x n c h]
theorem m_len {a : Addr} {w : World} {x : Option Addr} {n c : Nat} (h : w.cell? a = some (.slice x n c)) : (method 235 71 (.pointer (some a)) "Len").run Try.prog w = .ok (83, .slice x n c) w :=
  m_at "Len" _ (by kernel_rfl) a w x n c h
theorem m_less {a : Addr} {w : World} {x : Option Addr} {n c : Nat} (h : w.cell? a = some (.slice x n c)) : (method 235 71 (.pointer (some a)) "Less").run Try.prog w = .ok (84, .slice x n c) w :=
  m_at "Less" _ (by kernel_rfl) a w x n c h
theorem m_swap {a : Addr} {w : World} {x : Option Addr} {n c : Nat} (h : w.cell? a = some (.slice x n c)) : (method 235 71 (.pointer (some a)) "Swap").run Try.prog w = .ok (85, .slice x n c) w :=
  m_at "Swap" _ (by kernel_rfl) a w x n c h
theorem m_push (a : Addr) (w : World) : (method 235 71 (.pointer (some a)) "Push").run Try.prog w = .ok (87, .pointer (some a)) w := by kernel_rfl
theorem m_pop (a : Addr) (w : World) : (method 235 71 (.pointer (some a)) "Pop").run Try.prog w = .ok (86, .pointer (some a)) w := by kernel_rfl
theorem half (j : Nat) : (((j : Int)) - 1).tdiv 2 = (((j - 1) / 2 : Nat) : Int) := by
  cases j with
  | zero => rfl
  | succ k =>
    rw [show ((k + 1 : Nat) : Int) - 1 = (k : Int) by omega, Int.tdiv_eq_ediv_of_nonneg (by omega)]
    simp
/-- What up leaves. -/
def upF : Nat → List Tm → Nat → List Tm
  | 0, L, _ => L
  | f + 1, L, j => if (j - 1) / 2 = j then L else if les L j ((j - 1) / 2) then upF f (swp L ((j - 1) / 2) j) ((j - 1) / 2) else L
theorem upF_perm : ∀ (f : Nat) (L : List Tm) (j : Nat), (upF f L j).Perm L
  | 0, L, _ => List.Perm.refl L
  | f + 1, L, j => by
    unfold upF
    split
    · exact List.Perm.refl L
    · split
      · exact (upF_perm f _ _).trans (swp_perm L _ _)
      · exact List.Perm.refl L
set_option maxRecDepth 100000 in
theorem up_any (w : World) (q : Nat) (m v : Value) (L : List Tm) (j : Nat) (h : St w q m v L) (hj : j < L.length) (hl : L.length ≤ 100000) : Calls Try.prog 38 #[.iface 71 (.pointer (some ⟨q, 0, none⟩)), .int .i64 j] w (fun e w' => e = .returned (.tuple #[]) ∧ St w' q m v (upF j L j) ∧ Frm (Foot q v L) w w') := by
  obtain ⟨g, cap, cur, rfl, _⟩ := h.row (by omega)
  obtain ⟨v, hv⟩ : ∃ v : Value, v = .slice (some ⟨g, 0, none⟩) L.length cap := ⟨_, rfl⟩
  rw [← hv] at h ⊢
  have HV : Hid (v = .slice (some ⟨g, 0, none⟩) L.length cap) := hv
  clear hv
  go_enter Try.func38, Try.ntmps38
  go_wp2
  go_loopw [1] (fun u wr => ∃ (j' : Nat) (L' : List Tm) (f : Nat), u = .int .i64 j' ∧ L'.Perm L ∧ j' < L.length ∧ St wr q m v L' ∧ Frm (Foot q v L) w wr ∧ j' ≤ f ∧ Hid (upF f L' j' = upF j L j)) (fun u _ => (intOf u).toNat)
  case atStart => exact ⟨j, L, j, rfl, List.Perm.refl _, hj, h, Frm.refl _ _, Nat.le_refl _, rfl⟩
  case round =>
    obtain ⟨j', L', f, rfl, hp, hj', h', hF, hf, HE⟩ := hrel
    have hl' : L'.length = L.length := hp.length_eq
    have c1 : wr.cell? ⟨q, 0, none⟩ = some v := one_cell h'.que rfl
    have e2 := half j'
    by_cases h0 : (j' - 1) / 2 = j'
    · have hj0 : j' = 0 := by omega
      subst hj0
      clear h0 e2
      go_wp2
      go_end0
      have HE' := HE.out
      have : upF f L' 0 = L' := by cases f <;> simp [upF]
      rw [this] at HE'
      exact ⟨rfl, HE' ▸ h', hF⟩
    · obtain ⟨i, hi⟩ : ∃ i, (j' - 1) / 2 = i := ⟨_, rfl⟩
      rw [hi] at e2 h0
      have hij : i < j' := by omega
      have h0' : ((i : Int) == (j' : Int)) = false := by rw [beq_eq_false_iff_ne]; omega
      obtain ⟨f', rfl⟩ : ∃ f', f = f' + 1 := ⟨f - 1, by omega⟩
      have HU : Hid (upF (f' + 1) L' j' = if les L' j' i then upF f' (swp L' i j') i else L') := by
        show upF (f' + 1) L' j' = _
        rw [upF, hi, if_neg h0]
      have hS := h'.less (i := j') (j := i) (by omega) (by omega)
      clear hi
      have HM : Hid (∀ W, St W q m v L' → (method 235 71 (.pointer (some ⟨q, 0, none⟩)) "Less").run Try.prog W = .ok (84, v) W ∧ (method 235 71 (.pointer (some ⟨q, 0, none⟩)) "Swap").run Try.prog W = .ok (85, v) W) := by
        intro W hW
        have c : W.cell? ⟨q, 0, none⟩ = some v := one_cell hW.que rfl
        rw [HV.out] at c ⊢
        exact ⟨m_less c, m_swap c⟩
      have m1 := (HM.out wr h').1
      cases hles : les L' j' i with
      | false =>
        rw [hles] at hS
        go_wp2_with (go_at_call 84; refine hS.mono ?_; rintro e w1 ⟨rfl, hB1⟩)
        go_end0
        have HE' := HE.out
        rw [HU.out, hles] at HE'
        exact ⟨rfl, (by rw [← HE']; exact h'.below hB1), hF.trans (Frm.of_below (S := Foot q v L) hB1) (fun k hk => .inl hk)⟩
      | true =>
        rw [hles] at hS
        go_wp2_with (first
          | (go_at_call 84; refine hS.mono ?_; rintro e w1 ⟨rfl, hB1⟩; have h1 := h'.below hB1; have m2 := (HM.out w1 h1).2)
          | (go_at_call 85; refine (h1.swaps (i := i) (j := j') (by omega) (by omega) (by omega)).mono ?_; rintro e w2 ⟨rfl, h2, hF2⟩))
        go_roundw
        case rel =>
          refine ⟨i, swp L' i j', f', rfl, (swp_perm _ _ _).trans hp, by omega, h2, (hF.trans (Frm.of_below (S := Foot q v L) hB1) (fun k hk => .inl hk)).trans hF2 (fun k hk => .inl (Foot.perm hp hk)), by omega, ?_⟩
          have HE' := HE.out
          rw [HU.out, hles] at HE'
          exact HE'
        case measure => simp [intOf]; omega
end Go.Proofs.Ytkamcnjofpamhaa
