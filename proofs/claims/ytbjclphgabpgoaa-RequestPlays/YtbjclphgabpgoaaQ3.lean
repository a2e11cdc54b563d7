/-
  The document's table: Next, Feasible, Touch, Same.
-/
import Derived.Test.YtbjclphgabpgoaaQ2
import Derived.Test.YtbjclphgabpgoaaR7
namespace Go.Proofs.Ytbjclphgabpgoaa
open Go.RowKit Go.Maps Go.Shelf
set_option linter.unusedSimpArgs false
set_option linter.unusedVariables false
set_option maxRecDepth 20000
theorem NextIs.step {K : List Sr} {j : Nat} {f : Int} (hj : j < K.length) : (NextIs (K.take j) f false → NextIs (K.take (j + 1)) (K[j].t) true) ∧ (NextIs (K.take j) f true → K[j].t < f → NextIs (K.take (j + 1)) (K[j].t) true) ∧ (NextIs (K.take j) f true → f ≤ K[j].t → NextIs (K.take (j + 1)) f true) := by
  rw [List.take_succ_eq_append_getElem hj]
  refine ⟨fun h => ?_, fun h h2 => h.less h2, fun h h2 => h.more h2⟩
  rcases h with ⟨h, _⟩ | ⟨h, _⟩
  · exact NextIs.first h
  · cases h
set_option maxHeartbeats 8000000 in
theorem rnext_any {w : World} {B r : Nat} {most : Int} {K : List Sr} (h : Rb w B r most K) : Calls Try.prog 24 #[.pointer (some ⟨r, 0, none⟩)] w fun e w' => ∃ f b, e = .returned (.tuple #[.int .i64 f, .bool b]) ∧ NextIs K f b ∧ w = w' := by
  have hll := h.ll
  have hok := h.ok
  obtain ⟨ad, c, L1, L0, L2⟩ := h.lies
  have cL := L1 w (Below.refl _ _)
  clear h L1 L0
  go_enter Try.func24, Try.ntmps24
  go_wp2_with fail
  go_loopw [4, 5, 6] (fun v u z wr => ∃ (j : Nat) (f : Int) (b : Bool), j ≤ K.length ∧ z = .int .i64 j ∧ v = .int .i64 f ∧ u = .bool b ∧ NextIs (K.take j) f b ∧ w = wr) (fun _ _ v _ => K.length - (intOf v).toNat)
  case atStart => exact ⟨0, 0, false, Nat.zero_le _, rfl, rfl, rfl, .inl ⟨by simp, rfl, rfl⟩, rfl⟩
  case round =>
    obtain ⟨j, f, b, hj, rfl, rfl, rfl, hN, rfl⟩ := hrel
    by_cases hlt : j < K.length
    · obtain ⟨g, rfl, hc⟩ := L2 (by intro e; rw [e] at hlt; simp at hlt)
      have hq := (hc _ (Below.refl _ _) j _ (List.getElem?_eq_getElem hlt)).at_
      have hji : (j : Int) < (K.length : Int) := by omega
      have hw64 : wrap64 ((j : Int) + 1) = (j : Int) + 1 := by unfold wrap64; omega
      have HJ : Hid (j + 1 ≤ K.length) := hlt
      have HM : Hid (K.length - ((j : Int) + 1).toNat < K.length - ((j : Int)).toNat) := meas hlt
      have HS : Hid ((NextIs (K.take j) f false → NextIs (K.take (j + 1)) (K[j].t) true) ∧ (NextIs (K.take j) f true → K[j].t < f → NextIs (K.take (j + 1)) (K[j].t) true) ∧ (NextIs (K.take j) f true → f ≤ K[j].t → NextIs (K.take (j + 1)) f true)) := NextIs.step hlt
      have ok := hok K[j] (List.getElem_mem hlt)
      clear hc L2 ok hok
      generalize K[j].t = e at *
      have HN : Hid (NextIs (K.take j) f b) := hN
      clear hN
      cases b with
      | false =>
        go_wp2_with fail
        go_roundw
        case rel => exact ⟨j + 1, e, true, HJ.out, by first | rfl | go_num, by rfl, rfl, HS.out.1 HN.out, by first | rfl | trivial⟩
        case measure => first | (rw [hw64]; simp only [intOf]; exact HM.out) | (simp only [intOf]; exact HM.out)
      | true =>
        by_cases hl : e < f
        · go_wp2_with fail
          go_roundw
          case rel => exact ⟨j + 1, e, true, HJ.out, by first | rfl | go_num, by rfl, rfl, HS.out.2.1 HN.out hl, by first | rfl | trivial⟩
          case measure => first | (rw [hw64]; simp only [intOf]; exact HM.out) | (simp only [intOf]; exact HM.out)
        · have HL : Hid (f ≤ e) := by show f ≤ e; omega
          go_wp2_with fail
          go_roundw
          case rel => exact ⟨j + 1, f, true, HJ.out, by first | rfl | go_num, rfl, rfl, HS.out.2.2 HN.out HL.out, by first | rfl | trivial⟩
          case measure => first | (rw [hw64]; simp only [intOf]; exact HM.out) | (simp only [intOf]; exact HM.out)
    · have hjl : j = K.length := by omega
      subst hjl
      rw [List.take_length] at hN
      clear L2 hok
      go_wp2_with fail
      go_ret2
      exact ⟨f, b, rfl, hN, rfl⟩
/-- What a place tells. -/
theorem fnd_some {K : List Sr} {p : Pr} {i : Id8} : (fndI K p i = -1 ∧ getN K p i = none) ∨ ∃ (k : Nat) (n : Sr), fndI K p i = k ∧ K[k]? = some n ∧ getN K p i = some n := by
  unfold fndI getN
  cases hf : K.findIdx? (keyB p i) with
  | none =>
    left
    refine ⟨rfl, ?_⟩
    rw [List.findIdx?_eq_none_iff] at hf
    rw [List.find?_eq_none]
    intro x hx
    simp [hf x hx]
  | some k =>
    right
    obtain ⟨hk, h1, h2⟩ := List.findIdx?_eq_some_iff_getElem.1 hf
    refine ⟨k, K[k], rfl, List.getElem?_eq_getElem hk, ?_⟩
    have e : K = K.take k ++ K[k] :: K.drop (k + 1) := by rw [← List.drop_eq_getElem_cons hk, List.take_append_drop]
    conv => lhs; rw [e]
    rw [List.find?_append, List.find?_eq_none.2]
    · rw [List.find?_cons_of_pos h1]; rfl
    · intro x hx
      obtain ⟨a, ha, rfl⟩ := List.mem_take_iff_getElem.1 hx
      exact h2 a (by omega)
theorem rown_any (o a : Int) (w : World) (o0 : 0 ≤ o) (o1 : o < 65536) (a0 : 0 ≤ a) (a1 : a < 65536) : Calls Try.prog 12 #[.int .u16 o, .int .u16 a] w fun e w' => e = .returned (.int .u16 (ownZ o a)) ∧ w = w' := by
  have hL := Sn.rless_any o a w o0 o1 a0 a1
  have hW : IntKind.u16.wrap (o + 1) = Sn.plusZ o 1 := Sn.wrap16 _
  unfold ownZ
  generalize Sn.lessB o a = b at *
  cases b with
  | true =>
    go_enter Try.func12, Try.ntmps12
    go_wp2_with (go_at_call 28; refine hL.mono ?_; rintro e w1 ⟨rfl, rfl⟩)
    go_ret
    exact ⟨by rw [← hW]; rfl, rfl⟩
  | false =>
    go_enter Try.func12, Try.ntmps12
    go_wp2_with (go_at_call 28; refine hL.mono ?_; rintro e w1 ⟨rfl, rfl⟩)
    go_ret
    exact ⟨rfl, rfl⟩
/-- Requests in memory. -/
structure SsW (w : World) (ad : Option Addr) (K : List Sr) : Prop where
  lies : K ≠ [] → ∃ g, ad = some ⟨g, 0, none⟩ ∧ g < w.heap.size ∧ ∀ (j : Nat) (n : Sr), K[j]? = some n → LS w g (j * 45) n
theorem SsW.below {w w' : World} {ad : Option Addr} {K : List Sr} (h : SsW w ad K) (hb : Below w.heap.size w w') : SsW w' ad K :=
  ⟨fun hne => by
    obtain ⟨g, e, hg, hc⟩ := h.lies hne
    exact ⟨g, e, Nat.lt_of_lt_of_le hg hb.size, fun j n hj => rangeAt_below (hc j n hj) hb hg⟩⟩
theorem SsW.own {w : World} {B : Nat} {v : Value} {K : List Sr} (h : kN.Own w B v K) : ∃ ad c, v = .slice ad K.length c ∧ SsW w ad K := by
  obtain ⟨ad, c, e, hat⟩ := Kd.own_at h
  refine ⟨ad, c, e, ⟨fun hne => ?_⟩⟩
  obtain ⟨g, e2, _, hg, _, hc⟩ := hat hne
  exact ⟨g, e2, hg, hc⟩
set_option maxHeartbeats 8000000 in
theorem rsame_any {w : World} {K : List Sr} (a1 a2 : Option Addr) (c1 c2 : Nat) (h1 : SsW w a1 K) (h2 : SsW w a2 K) (hl : K.length ≤ 1000000) : Calls Try.prog 22 #[.slice a1 K.length c1, .slice a2 K.length c2] w (Gives w (.bool true)) := by
  go_enter Try.func22, Try.ntmps22
  go_wp2_with fail
  go_loopw [5] (fun v wr => ∃ j : Nat, j ≤ K.length ∧ v = .int .i64 j ∧ Below w.heap.size w wr) (fun v _ => K.length - (intOf v).toNat)
  case atStart => exact ⟨0, Nat.zero_le _, rfl, Below.refl _ _⟩
  case round =>
    obtain ⟨j, hj, rfl, hb⟩ := hrel
    by_cases hlt : j < K.length
    · obtain ⟨g1, rfl, k1, hc1⟩ := (h1.below hb).lies (by intro e; rw [e] at hlt; simp at hlt)
      obtain ⟨g2, rfl, k2, hc2⟩ := (h2.below hb).lies (by intro e; rw [e] at hlt; simp at hlt)
      have q1 := hc1 j _ (List.getElem?_eq_getElem hlt)
      have q2 := hc2 j _ (List.getElem?_eq_getElem hlt)
      have hji : (j : Int) < (K.length : Int) := by omega
      have hw64 : wrap64 ((j : Int) + 1) = (j : Int) + 1 := by unfold wrap64; omega
      have HJ : Hid (j + 1 ≤ K.length) := hlt
      have HM : Hid (K.length - ((j : Int) + 1).toNat < K.length - ((j : Int)).toNat) := meas hlt
      clear hc1 hc2 h1 h2
      generalize K[j] = n at *
      have hEq : ∀ W, (binOp .neq 67 (sV n) (sV n)).run Try.prog W = .ok (.bool false) W := fun W => by rw [run_neqS, eqSr_self]; rfl
      have gEq := fun op a b W => guardS op a b n n W
      go_upto_region 6 with fail
      refine wp_region_noPanic ?_
      refine wp_region_held_drew (S := fun W => Below wr.heap.size wr W) (by kernel_rfl) ((Below.refl _ _).drew) (fun hHeld => ?_)
      refine take_lit (i := 0) (v := ?_) rfl (by kernel_rfl) (by kernel_rfl) (by kernel_rfl) (fun _ _ _ h => h) (Or.inl ⟨by rfl, ?_⟩) (by assumption) ?_
      rotate_left
      · (intro w hSw; (try dsimp only at hSw); go_simp <;> with_reducible rfl)
      try simp only [Act.put, List.setIfInBounds_toArray, List.set_cons_zero, List.set_cons_succ]
      refine take_lit (i := 1) (v := ?_) rfl (by kernel_rfl) (by kernel_rfl) (by kernel_rfl) (fun _ _ _ h => h) (Or.inl ⟨by rfl, ?_⟩) (by assumption) ?_
      rotate_left
      · (intro w hSw; (try dsimp only at hSw); go_simp <;> with_reducible rfl)
      try simp only [Act.put, List.setIfInBounds_toArray, List.set_cons_zero, List.set_cons_succ]
      refine take_lit (i := 2) (v := ?_) rfl (by kernel_rfl) (by kernel_rfl) (by kernel_rfl) (fun _ _ _ h => h) (Or.inl ⟨by rfl, ?_⟩) (by assumption) ?_
      rotate_left
      · (intro w hSw; (try dsimp only at hSw); go_simp <;> with_reducible rfl)
      try simp only [Act.put, List.setIfInBounds_toArray, List.set_cons_zero, List.set_cons_succ]
      refine take_lit (i := 3) rfl (by kernel_rfl) (by kernel_rfl) (by kernel_rfl) (fun _ _ _ h => h) (yS n (fun w h => q1.below h k1) (by rfl) rfl rfl) (by assumption) ?_
      try simp only [Act.put, List.setIfInBounds_toArray, List.set_cons_zero, List.set_cons_succ]
      refine take_lit (i := 4) (v := ?_) rfl (by kernel_rfl) (by kernel_rfl) (by kernel_rfl) (fun _ _ _ h => h) (Or.inl ⟨by rfl, ?_⟩) (by assumption) ?_
      rotate_left
      · (intro w hSw; (try dsimp only at hSw); go_simp <;> with_reducible rfl)
      try simp only [Act.put, List.setIfInBounds_toArray, List.set_cons_zero, List.set_cons_succ]
      refine take_lit (i := 5) (v := ?_) rfl (by kernel_rfl) (by kernel_rfl) (by kernel_rfl) (fun _ _ _ h => h) (Or.inl ⟨by rfl, ?_⟩) (by assumption) ?_
      rotate_left
      · (intro w hSw; (try dsimp only at hSw); go_simp <;> with_reducible rfl)
      try simp only [Act.put, List.setIfInBounds_toArray, List.set_cons_zero, List.set_cons_succ]
      refine take_lit (i := 6) (v := ?_) rfl (by kernel_rfl) (by kernel_rfl) (by kernel_rfl) (fun _ _ _ h => h) (Or.inl ⟨by rfl, ?_⟩) (by assumption) ?_
      rotate_left
      · (intro w hSw; (try dsimp only at hSw); go_simp <;> with_reducible rfl)
      try simp only [Act.put, List.setIfInBounds_toArray, List.set_cons_zero, List.set_cons_succ]
      refine take_lit (i := 7) rfl (by kernel_rfl) (by kernel_rfl) (by kernel_rfl) (fun _ _ _ h => h) (yS n (fun w h => q2.below h k2) (by rfl) rfl rfl) (by assumption) ?_
      try simp only [Act.put, List.setIfInBounds_toArray, List.set_cons_zero, List.set_cons_succ]
      refine take_lit (i := 8) (v := ?_) rfl (by kernel_rfl) (by kernel_rfl) (by kernel_rfl) (fun _ _ _ h => h) (Or.inl ⟨by rfl, ?_⟩) (by assumption) ?_
      rotate_left
      · (intro w hSw; (try dsimp only at hSw); have z := hEq w; have z2 := fun op x y => gEq op x y w; go_simp <;> with_reducible rfl)
      try simp only [Act.put, List.setIfInBounds_toArray, List.set_cons_zero, List.set_cons_succ]
      refine wpAnyH_done (by kernel_rfl) ?_ _
      refine NoPanic.normal ?_
      have hb2 := bt hb hHeld
      clear hHeld hEq gEq q1 q2
      go_wp2_with fail
      go_roundw
      case rel => exact ⟨j + 1, HJ.out, by first | rfl | go_num, hb2⟩
      case measure => first | (rw [hw64]; simp only [intOf]; exact HM.out) | (simp only [intOf]; exact HM.out)
    · have hjl : j = K.length := by omega
      subst hjl
      clear h1 h2
      go_wp2_with fail
      go_ret
      exact ⟨rfl, hb⟩
end Go.Proofs.Ytbjclphgabpgoaa
