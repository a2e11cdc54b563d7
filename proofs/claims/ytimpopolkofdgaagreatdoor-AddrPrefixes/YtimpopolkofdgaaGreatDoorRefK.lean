/-
  The document's Parse, for every text; and that it is the program's.
-/
import Derived.Test.YtimpopolkofdgaaGreatDoorRefJ
import Derived.Test.YtimpopolkofdgaaGreatDoorParse
namespace Go.Proofs.YtimpopolkofdgaaGreatDoor
open Go.RowKit
set_option linter.unusedSimpArgs false
set_option maxRecDepth 20000
theorem first_two (l : List UInt8) : (∀ k, ¬ twoAt l k) ∨ ∃ p, twoAt l p ∧ ∀ k, k < p → ¬ twoAt l k := by
  by_cases h : ∃ p, twoAt l p
  · right
    obtain ⟨p, hp⟩ := h
    induction p using Nat.strongRecOn with
    | ind p ih =>
      by_cases h' : ∃ k, k < p ∧ twoAt l k
      · obtain ⟨k, hk, hk'⟩ := h'
        exact ih k hk hk'
      · exact ⟨p, hp, fun k hk hk' => h' ⟨k, hk, hk'⟩⟩
  · left
    exact fun k hk => h ⟨k, hk⟩
theorem rsix_any (t : ByteArray) (w : World) (hlim : t.size ≤ 1000000) : Calls Tryz.prog 52 #[.string t] w (Gives w (sixV t.data.toList)) := by
  rcases first_two t.data.toList with h | ⟨p, hp, h⟩
  · exact rsix_none t w hlim h
  · exact rsix_two t w hlim p hp h
theorem idx_mem (c : UInt8) : ∀ l : List UInt8, -1 ≤ Lib.indexByte l c ∧ (0 ≤ Lib.indexByte l c ↔ c ∈ l)
  | [] => by simp [Lib.indexByte]
  | x :: l => by
    obtain ⟨h1, h2⟩ := idx_mem c l
    by_cases hx : x = c
    · simp [Lib.indexByte, hx]
    · have hx' : (x == c) = false := by simpa using hx
      have hxc : ¬ c = x := fun e => hx e.symm
      simp only [Lib.indexByte, hx', List.mem_cons, hxc, false_or]
      by_cases he : Lib.indexByte l c = -1
      · simp [he]
        intro hm
        have := h2.2 hm
        omega
      · have he' : (Lib.indexByte l c == -1) = false := by simpa using he
        simp only [he']
        simp
        exact ⟨by omega, ⟨fun _ => h2.1 (by omega), fun _ => by omega⟩⟩
theorem mem_pieces (c x : UInt8) (hx : x ≠ c) : ∀ s : List UInt8, x ∈ s → ∃ p ∈ pieces c s, x ∈ p
  | [], h => by simp at h
  | y :: s, h => by
    simp only [pieces]
    by_cases hy : y = c
    · rw [if_pos hy]
      rcases List.mem_cons.1 h with h | h
      · exact absurd (h.trans hy) hx
      · obtain ⟨p, hp, hxp⟩ := mem_pieces c x hx s h
        exact ⟨p, by simp [hp], hxp⟩
    · rw [if_neg hy]
      rcases List.mem_cons.1 h with h | h
      · subst h
        split
        · exact ⟨[x], by simp, by simp⟩
        · exact ⟨_, List.mem_cons_self .., by simp⟩
      · obtain ⟨p, hp, hxp⟩ := mem_pieces c x hx s h
        split
        · rename_i e; rw [e] at hp; simp at hp
        · rename_i q qs e
          rw [e] at hp
          rcases List.mem_cons.1 hp with hp | hp
          · subst hp
            exact ⟨_, List.mem_cons_self .., by simp [hxp]⟩
          · exact ⟨p, by simp [hp], hxp⟩
theorem pu_bad (b : Nat) (c : UInt8) (hc : dig c = none) : ∀ (l : List UInt8) (acc : Nat), c ∈ l → pu b acc l = none
  | [], _, h => by simp at h
  | x :: l, acc, h => by
    simp only [pu]
    rcases List.mem_cons.1 h with h | h
    · rw [← h, hc]
    · split
      · split
        · exact pu_bad b c hc l _ h
        · rfl
      · rfl
theorem num_bad {p : List UInt8} (h : (58 : UInt8) ∈ p) : numS p = none := by
  unfold numS puE
  split
  · rename_i u hu
    split at hu
    · cases hu
    · rw [pu_bad 10 58 (by decide) p 0 h] at hu
      cases hu
  · rfl
theorem ptsGo_bad {p : List UInt8} (hn : numS p = none) : ∀ (ps : List (List UInt8)) (acc : List UInt8), p ∈ ps → ptsGo ps acc = none
  | [], _, h => by simp at h
  | q :: ps, acc, h => by
    simp only [ptsGo]
    rcases List.mem_cons.1 h with h | h
    · rw [← h, hn]
    · split
      · split
        · exact ptsGo_bad hn ps _ h
        · rfl
      · rfl
theorem pts_colon {s : List UInt8} (h : (58 : UInt8) ∈ s) : pts s = none := by
  obtain ⟨p, hp, hm⟩ := mem_pieces 46 58 (by decide) s h
  unfold pts
  rw [ptsGo_bad (num_bad hm) _ _ hp]
  rfl
theorem six_plain {s : List UInt8} (h : (58 : UInt8) ∉ s) : sixI s = none := by
  have hi := idx_mem 58 s
  have hno : ∀ k, ¬ twoAt s k := fun k hk => h (List.mem_of_getElem? hk.1)
  unfold sixI
  rw [idx_none s hno, if_neg (by decide)]
  unfold sixN grpI
  by_cases h0 : s = []
  · rw [if_pos h0]; rfl
  · rw [if_neg h0, pieces_none 58 s (fun i hi => h (List.mem_of_getElem? hi))]
    simp only [hexL]
    cases hexS s with
    | none => rfl
    | some u => rfl
theorem prs_ref (s : List UInt8) : prs s = match pts s with | some a => some a | none => (sixI s).map adOf := by
  unfold prs inG
  have hi := (idx_mem 58 s).2
  by_cases h : (58 : UInt8) ∈ s
  · rw [decide_eq_true (hi.2 h), if_pos rfl, pts_colon h, six_eq]
  · rw [decide_eq_false (fun q => h (hi.1 q)), if_neg (by simp), six_plain h]
    cases pts s <;> rfl
theorem rowA {w : World} {g : Nat} {t : TypeId} {a : Ad} (h : Row w g t (acells a)) : LA w g 0 a := h.range
set_option maxHeartbeats 800000 in
theorem rparse_any (t : ByteArray) (w : World) (hlim : t.size ≤ 1000000) : Calls Tryz.prog 8 #[.string t] w (Gives w (prsV t.data.toList)) := by
  have h4 := fun W => rfour_any t W hlim
  have h6 := fun W => rsix_any t W hlim
  have hP := prs_ref t.data.toList
  unfold fourV at h4
  unfold sixV at h6
  have hV : prsV t.data.toList = match prs t.data.toList with | some a => .tuple #[(Value.agg (acells a).toArray), .int .i64 0] | none => .tuple #[(Value.agg (acells zeroA).toArray), .int .i64 20] := rfl
  rw [hP] at hV
  clear hP
  generalize prsV t.data.toList = V at *
  generalize pts t.data.toList = R4 at *
  generalize sixI t.data.toList = R6 at *
  have rz := Row.new w 23 (acells zeroA)
  have hb := ba w (.cells (acells zeroA).toArray 23)
  cases R4 with
  | some a =>
    dsimp only at h4 hV
    clear h6
    go_enter Tryz.func8, Tryz.ntmps8
    go_wp2_with (first
      | (have kk := r4; clear kk; (with_reducible refine ldA (.tmp 4) ?_ rfl _ _ a ?_ (rowA r4) ?_); (focus rfl); (focus rfl))
      | (have kk := r4; clear kk; refine stA (.tmp 2) (.tmp 21) (by rfl) rfl _ _ a rfl rfl (rz.there (by rw [acells_len]; omega)) ?_)
      | (have kk := hW; clear kk; refine stAq (.tmp 4) (.tmp 9) (by rfl) rfl _ _ a rfl rfl (Row.there (Row.new _ _ _) (by simp)) ?_; intro w3 hw3; have hst := hw3.out ▸ storedRow w1 _ _ a (by simp); clear hw3; obtain ⟨hB, r4, -⟩ := hst; replace rz := rz.below hB rz.lt; replace hb := bt hb hB; clear hB)
      | (go_at_call 51; refine (h4 _).mono ?_; rintro e w1 ⟨rfl, hW⟩; replace rz := rz.below hW rz.lt; replace hb := bt hb hW))
    exact bodyPost_ret (retCT rfl _ _ 0 rfl (lvA (LA.stored (rz.there (by rw [acells_len]; omega))))) rfl ⟨by rw [hV]; rfl, below_setCells _ (Nat.le_refl _) _ _ _ hb⟩
  | none =>
    dsimp only at h4 hV
    cases R6 with
    | some L =>
      dsimp only [Option.map] at h6 hV
      go_enter Tryz.func8, Tryz.ntmps8
      go_wp2_with (first
        | (have kk := h66; clear kk; refine stA (.tmp 4) (.tmp 16) (by rfl) rfl _ _ (adOf L) rfl rfl (r4.there (by rw [acells_len]; omega)) ?_; refine Hid.out ?_)
        | (have kk := hW; clear kk; refine stAq (.tmp 4) (.tmp 9) (by rfl) rfl _ _ zeroA rfl rfl (Row.there (Row.new _ _ _) (by simp)) ?_; intro w3 hw3; have hst := hw3.out ▸ storedRow w1 _ _ zeroA (by simp); clear hw3; obtain ⟨hB, r4, -⟩ := hst; replace rz := rz.below hB rz.lt; replace hb := bt hb hB; clear hB hW)
        | (go_at_call 51; refine (h4 _).mono ?_; rintro e w1 ⟨rfl, hW⟩; replace rz := rz.below hW rz.lt; replace hb := bt hb hW; have hzl : w.heap.size < w1.heap.size := rz.lt)
        | (go_at_call 52; refine (h6 _).mono ?_; rintro e w4 ⟨rfl, hW⟩; replace r4 := r4.below hW r4.lt; replace rz := rz.below hW rz.lt; replace hb := bt hb hW; clear hW; have h66 := h6; clear h6))
      unfold Hid
      refine name_world (R := fun W => wpList _ _ _ _ _ W) (P := fun W => Below w.heap.size w W ∧ Row W w.heap.size 23 (acells zeroA) ∧ Row W w1.heap.size 23 (acells (adOf L))) _ ⟨below_setCells _ (Nat.le_of_lt hzl) _ _ _ hb, ?_, ?_⟩ ?_
      · exact rz.setCellsOther _ (by omega) _ _
      · exact r4.setCells _ (by rw [acells_len, acells_len])
      clear hb rz r4
      rintro Y ⟨hb, rz, r4⟩
      go_wp2_with (first
        | ((with_reducible refine ldA (.tmp 4) ?_ rfl _ _ (adOf L) ?_ (rowA r4) ?_); (focus rfl); (focus rfl))
        | (refine stA (.tmp 2) (.tmp 21) (by rfl) rfl _ _ (adOf L) rfl rfl (rz.there (by rw [acells_len]; omega)) ?_))
      exact bodyPost_ret (retCT rfl _ _ 0 rfl (lvA (LA.stored (rz.there (by rw [acells_len]; omega))))) rfl ⟨by rw [hV]; rfl, below_setCells _ (Nat.le_refl _) _ _ _ hb⟩
    | none =>
      dsimp only [Option.map] at h6 hV
      obtain ⟨z, h6⟩ : ∃ z : Ad, ∀ W, Calls Tryz.prog 52 #[.string t] W (Gives W (.tuple #[(Value.agg (acells z).toArray), .bool false])) := ⟨zeroA, h6⟩
      go_enter Tryz.func8, Tryz.ntmps8
      go_wp2_with (first
        | (have kk := h66; clear kk; refine stA (.tmp 4) (.tmp 16) (by rfl) rfl _ _ z rfl rfl (r4.there (by rw [acells_len]; omega)) ?_; refine Hid.out ?_)
        | (have kk := hW; clear kk; refine stAq (.tmp 4) (.tmp 9) (by rfl) rfl _ _ zeroA rfl rfl (Row.there (Row.new _ _ _) (by simp)) ?_; intro w3 hw3; have hst := hw3.out ▸ storedRow w1 _ _ zeroA (by simp); clear hw3; obtain ⟨hB, r4, -⟩ := hst; replace rz := rz.below hB rz.lt; replace hb := bt hb hB; clear hB hW)
        | (go_at_call 51; refine (h4 _).mono ?_; rintro e w1 ⟨rfl, hW⟩; replace rz := rz.below hW rz.lt; replace hb := bt hb hW; have hzl : w.heap.size < w1.heap.size := rz.lt)
        | (go_at_call 52; refine (h6 _).mono ?_; rintro e w4 ⟨rfl, hW⟩; replace r4 := r4.below hW r4.lt; replace rz := rz.below hW rz.lt; replace hb := bt hb hW; clear hW; have h66 := h6; clear h6))
      unfold Hid
      refine name_world (R := fun W => wpList _ _ _ _ _ W) (P := fun W => Below w.heap.size w W ∧ Row W w.heap.size 23 (acells zeroA) ∧ Row W w1.heap.size 23 (acells z)) _ ⟨below_setCells _ (Nat.le_of_lt hzl) _ _ _ hb, ?_, ?_⟩ ?_
      · exact rz.setCellsOther _ (by omega) _ _
      · exact r4.setCells _ (by rw [acells_len, acells_len])
      clear hb rz r4
      rintro Y ⟨hb, rz, r4⟩
      go_wp2_with (refine stA (.tmp 2) (.tmp 20) (by rfl) rfl _ _ zeroA rfl rfl (rz.there (by rw [acells_len]; omega)) ?_)
      exact bodyPost_ret (retCT rfl _ _ 0 rfl (lvA (LA.stored (rz.there (by rw [acells_len]; omega))))) rfl ⟨by rw [hV]; rfl, below_setCells _ (Nat.le_refl _) _ _ _ hb⟩
end Go.Proofs.YtimpopolkofdgaaGreatDoor
