/-
  The entries of a map, in order: fib.sorted.
-/
import Derived.Test.YtiihlgcafppehaaF4
import Derived.Test.YtiihlgcafppehaaF6
namespace Go.Proofs.Ytiihlgcafppehaa
open Go.RowKit Go.Maps Go.Shelf
set_option linter.unusedSimpArgs false
set_option linter.unusedVariables false
set_option maxRecDepth 20000
theorem sorted_any (Bm mb : Nat) (L : List En) (w : World) (hL : L.length ≤ 1000000) (h1 : Bm < w.heap.size) (c1 : w.cell? ⟨Bm, 0, none⟩ = some (.map (some mb))) (hm : Mp mE w mb L) :
    Calls Try.prog 45 #[.func (.func 63) #[] #[.pointer (some ⟨Bm, 0, none⟩)], .func (.func 47) #[] #[]] w fun e w' => ∃ r K, e = .returned r ∧ K.Perm L ∧ Asc K ∧ kE.Own w' (w.heap.size + 1) r K ∧ Below w.heap.size w w' := by
  have hA := collect_any Bm mb L w hL h1 c1 hm
  have hnd := hm.nd
  have hS0 := fun (ad : Option Addr) (c : Nat) (W : World) => sort_one ad 0 c (.func (.func 47) #[] #[]) W (by omega)
  have hS := fun (xs : List En) (v : Value) (W : World) (hp : xs.Perm L) (hO : kE.Own W (w.heap.size + 1) v xs) (hne : xs ≠ []) => sort_any xs hO hne (by rw [hp.length_eq]; exact hL) ((hp.map _).nodup_iff.2 hnd)
  clear hm c1 h1 hnd
  go_enter Try.func45, Try.ntmps45
  go_wp2_with (first
    | (go_at_call 61; refine hA.mono ?_; rintro e w1 ⟨r, xs, rfl, hp, hO, hB⟩; obtain ⟨va, vc, rfl, _⟩ := Kd.own_at hO; by_cases hx : xs = [])
    | (have kk := hx; go_at_call 62; subst hx; refine (hS0 _ _ _).mono ?_; rintro e w2 ⟨rfl, b2⟩; have hK : ∃ K, List.Perm K L ∧ Asc K ∧ kE.Own w2 (w.heap.size + 1) (.slice va ([] : List En).length vc) K := (⟨[], hp, List.Pairwise.nil, own_below hO b2⟩); replace hB := bt hB b2)
    | (have kk := hx; go_at_call 62; refine (hS xs _ _ hp hO hx).mono ?_; rintro e w2 ⟨rfl, K, hp2, ha, hO2, b2⟩; have hl : K.length = xs.length := (hp2.length_eq); have hK : ∃ K, List.Perm K L ∧ Asc K ∧ kE.Own w2 (w.heap.size + 1) (.slice va xs.length vc) K := (⟨K, hp2.trans hp, ha, hO2⟩); replace hB := below_more hB b2))
  all_goals
    go_ret
    obtain ⟨K, k1, k2, k3⟩ := hK
    exact ⟨_, K, rfl, k1, k2, k3, hB⟩
theorem Asc.head {x : En} {K : List En} (h : Asc (x :: K)) : ∀ y ∈ K, cmpN x y < 0 := (List.pairwise_cons.1 h).1
theorem Asc.unique : ∀ {K K' : List En}, Asc K → Asc K' → K.Perm K' → K = K'
  | [], K', _, _, hp => (hp.nil_eq)
  | x :: K, [], _, _, hp => by have := hp.length_eq; simp at this
  | x :: K, y :: K', h, h', hp => by
    have hxy : x = y := by
      have h1 : x ∈ y :: K' := hp.mem_iff.1 (by simp)
      have h2 : y ∈ x :: K := hp.mem_iff.2 (by simp)
      rcases List.mem_cons.1 h1 with e | e
      · exact e
      · rcases List.mem_cons.1 h2 with e2 | e2
        · exact e2.symm
        · have a := h.head y e2
          have b := h'.head x e
          have c := cmpN_neg x y
          omega
    subst hxy
    rw [Asc.unique (List.pairwise_cons.1 h).2 (List.pairwise_cons.1 h').2 (List.Perm.cons_inv hp)]
/-- The entries of a map of pairs, in order. -/
theorem sorted_fib {w : World} {mb : Nat} {L : List En} (h : Mp mE w mb L) (hL : L.length ≤ 1000000) : Calls Try.prog 30 #[.map (some mb)] w fun e w' => ∃ a c K, e = .returned (.slice a K.length c) ∧ K.Perm L ∧ Asc K ∧ kE.Own w' w.heap.size (.slice a K.length c) K ∧ Below w.heap.size w w' := by
  have hV := vals_any mb
  have hS : Calls Try.prog 45 #[.func (.func 63) #[] #[.pointer (some ⟨w.heap.size, 0, none⟩)], .func (.func 47) #[] #[]] (w.alloc (.cells #[.map (some mb)] 67)) fun e w' => ∃ r K, e = .returned r ∧ K.Perm L ∧ Asc K ∧ kE.Own w' w.heap.size r K ∧ Below w.heap.size w w' := by
    have r0 := Row.new w 67 [.map (some mb)]
    refine (sorted_any w.heap.size mb L _ hL (by simp) (r0.cell 0) (h.below (ba _ _) h.lt)).mono ?_
    rintro e w' ⟨r, K, rfl, k1, k2, hO, hB⟩
    exact ⟨r, K, rfl, k1, k2, Kd.own_up hO (by simp; omega), bt (ba _ _) hB⟩
  clear h
  go_enter Try.func30, Try.ntmps30
  go_wp2_with (first
    | (go_at_call 45; refine hS.mono ?_; rintro e w2 ⟨r, K, rfl, k1, k2, hO, hB⟩; obtain ⟨va, vc, rfl, _⟩ := Kd.own_at hO)
    | (refine (hV _).mono ?_; rintro e w1 ⟨rfl, rfl⟩))
  go_ret
  exact ⟨_, _, K, rfl, k1, k2, hO, hB⟩
end Go.Proofs.Ytiihlgcafppehaa
