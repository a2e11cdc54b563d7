/-
  The document's ParsePrefix, for every text.
-/
import Derived.Test.YtimpopolkofdgaaGreatDoorRefT
import Derived.Test.YtimpopolkofdgaaGreatDoorRefK
import Derived.Test.YtimpopolkofdgaaGreatDoorRefB
import Derived.Test.YtimpopolkofdgaaGreatDoorPrefix
namespace Go.Proofs.YtimpopolkofdgaaGreatDoor
open Go.RowKit Go.Shelf
set_option linter.unusedSimpArgs false
set_option maxRecDepth 20000
theorem pu_slash (b : Nat) : ∀ (l : List UInt8) (acc : Nat), (47 : UInt8) ∈ l → pu b acc l = none
  | [], _, h => by cases h
  | c :: r, acc, h => by
    simp only [pu]
    by_cases hc : c = 47
    · subst hc
      have : dig 47 = none := by decide
      rw [this]
    · have hr : (47 : UInt8) ∈ r := by
        rcases List.mem_cons.1 h with h | h
        · exact absurd h.symm hc
        · exact h
      cases dig c with
      | none => rfl
      | some d =>
        dsimp only
        split
        · exact pu_slash b r _ hr
        · rfl
theorem num_slash {l : List UInt8} (h : (47 : UInt8) ∈ l) : numS l = none := by
  unfold numS puE
  rw [if_neg (by rintro rfl; cases h), pu_slash 10 l 0 h]
theorem pieces_mem (c : UInt8) : ∀ (l : List UInt8), (pieces c l).length ≠ 1 → c ∈ l := by
  intro l h
  rcases pieces_cut c l with ⟨_, h2⟩ | ⟨i, h1, h2, h3⟩
  · rw [h2] at h; exact absurd rfl h
  · have := (idx_mem c l).2.1 (by rw [h1]; omega)
    exact this
/-- What a text is as a prefix, by its pieces. -/
theorem prf_many {l : List UInt8} (h : (pieces 47 l).length ≠ 2) : prf l = (zeroP, 20) := by
  unfold prf
  rcases cut_one 47 l with ⟨h1, h2⟩ | ⟨p, r, h1, h2, _⟩
  · rw [h1]
    have : numS [] = none := by decide
    simp only [this]
    cases prs l <;> rfl
  · rw [h1]
    rw [h2] at h
    have := num_slash (pieces_mem 47 r (by simpa using h))
    simp only [this]
    cases prs p <;> rfl
theorem prf_two {l x y : List UInt8} (h : pieces 47 l = [x, y]) : prf l = match prs x, numS y with
    | some a, some n => if chk ⟨a, if inG x = true then (n : Int) else (n : Int) + 96⟩ = 0 then (⟨a, if inG x = true then (n : Int) else (n : Int) + 96⟩, 0) else (zeroP, 21)
    | _, _ => (zeroP, 20) := by
  unfold prf
  rcases cut_one 47 l with ⟨h1, h2⟩ | ⟨p, r, h1, h2, _⟩
  · rw [h2] at h; cases h
  · rw [h1]
    rw [h2] at h
    have e1 : p = x := (List.cons.inj h).1
    have e2 : pieces 47 r = [y] := (List.cons.inj h).2
    have e3 : r = y := by
      rcases cut_one 47 r with ⟨_, h4⟩ | ⟨p', r', _, h4, _⟩
      · rw [h4] at e2; exact (List.cons.inj e2).1
      · rw [h4] at e2
        have := (List.cons.inj e2).2
        rcases cut_one 47 r' with ⟨_, h5⟩ | ⟨_, _, _, h5, _⟩
        · rw [h5] at this; cases this
        · rw [h5] at this; cases this
    subst e1 e3
    rfl
theorem inG_pts {x : List UInt8} {a : Ad} (h : pts x = some a) : inG x = false := by
  unfold inG
  have hi := (idx_mem 58 x).2
  by_cases hm : (58 : UInt8) ∈ x
  · rw [pts_colon hm] at h; cases h
  · exact decide_eq_false (fun q => hm (hi.1 q))
theorem inG_six {x : List UInt8} (h : pts x = none) (h2 : (prs x).isSome = true) : inG x = true := by
  unfold inG
  have hi := (idx_mem 58 x).2
  by_cases hm : (58 : UInt8) ∈ x
  · exact decide_eq_true (hi.2 hm)
  · unfold prs inG at h2
    rw [decide_eq_false (fun q => hm (hi.1 q)), if_neg (by simp), h] at h2
    cases h2
theorem chk_far {a : Ad} {n : Int} (h : 128 < n) : chk ⟨a, n⟩ = 21 := by
  unfold chk
  rw [if_neg (fun q => absurd q.2.1 (by show ¬ n ≤ 128; omega))]
theorem row_zeroP (w : World) (ob : Obj) (h : ob = .cells (pcells zeroP).toArray 35) : Row (w.alloc ob) w.heap.size 35 (pcells zeroP) := by
  subst h; exact Row.new w _ _
theorem bt_le {a b c : World} (h : a.heap.size ≤ b.heap.size) (_ : Below a.heap.size a c) : a.heap.size ≤ b.heap.size := h
/-- What is known behind the cut: the two texts, the answer's block. -/
structure PV (w w2 : World) (g : Nat) (x y : List UInt8) : Prop where
  out : ∀ W, Below w2.heap.size w2 W → W.cell? ⟨g, 0, none⟩ = some (.string (str x)) ∧ W.cell? ⟨g, 1, none⟩ = some (.string (str y)) ∧ Row W w.heap.size 35 (pcells zeroP) ∧ Below w.heap.size w W
theorem pv_of {w w2 : World} {v : Value} {x y : List UInt8} (hown : w2.ownsRow (w.heap.size + 1) 9 1 v 2 (scells [x, y])) (hB : Below (w.heap.size + 1) (w.alloc (.cells (pcells zeroP).toArray 35)) w2) : ∃ cg : Nat × Nat, v = .slice (some ⟨cg.1, 0, none⟩) 2 cg.2 ∧ PV w w2 cg.1 x y := by
  rcases hown.2 with ⟨_, h0⟩ | ⟨g, cap, cur, rfl, hg, hh, _⟩
  · cases h0
  · have hlt := (Array.getElem?_eq_some_iff.1 hh).1
    refine ⟨(g, cap), rfl, ⟨fun W hW => ?_⟩⟩
    have k0 : w2.cell? ⟨g, 0, none⟩ = some (.string (str x)) := by
      have := hown.cells (g := g) rfl 0 _ rfl
      rwa [Addr.add_mid, Nat.zero_add] at this
    have k1 : w2.cell? ⟨g, 1, none⟩ = some (.string (str y)) := by
      have := hown.cells (g := g) rfl 1 _ rfl
      rwa [Addr.add_mid, Nat.zero_add] at this
    have rz := (Row.new w 35 (pcells zeroP)).below hB (Nat.lt_succ_self _)
    have hz := hB.size
    simp only [World.size_alloc] at hz
    exact ⟨(hW.cell (p := ⟨g, 0, none⟩) hlt).trans k0, (hW.cell (p := ⟨g, 1, none⟩) hlt).trans k1, rz.below hW (by omega), ((ba w _).trans (hB.mono (by omega))).trans (hW.mono (by omega))⟩
set_option maxHeartbeats 4000000 in
theorem rparseP_any (t : ByteArray) (w : World) (hlim : t.size ≤ 1000000) : Calls Tryz.prog 15 #[.string t] w (Gives w (.tuple #[(Value.agg (pcells ((prf t.data.toList).1)).toArray), .int .i64 (prf t.data.toList).2])) := by
  have hCut := fun W => rcut_any t 47 W hlim
  have hCut : ∀ W, Calls Tryz.prog 60 #[.string t, .int .u8 47] W _ := hCut
  have hll : t.data.toList.length = t.size := Lib.size_eq t
  have hpl := pieces_len 47 t.data.toList
  by_cases h2 : (pieces 47 t.data.toList).length = 2
  · obtain ⟨x, y, hxy⟩ : ∃ x y, pieces 47 t.data.toList = [x, y] := by
      match hp : pieces 47 t.data.toList, h2 with
      | [x, y], _ => exact ⟨x, y, rfl⟩
    have hPF := prf_two hxy
    rw [hxy] at hCut
    have hlx : x.length ≤ 1000000 := by have := hpl x (by rw [hxy]; simp); omega
    have hly : y.length ≤ 1000000 := by have := hpl y (by rw [hxy]; simp); omega
    have h4 := fun W => rfour_any (str x) W hlx
    have h6 := fun W => rsix_any (str x) W hlx
    have hD := fun W => rdec_any (str y) W
    simp only [show (str x).data.toList = x from rfl] at h4 h6
    simp only [show (str y).data.toList = y from rfl] at hD
    have hR := prs_ref x
    have HV : Hid (∀ w2 v, w2.ownsRow (w.heap.size + 1) 9 1 v 2 (scells [x, y]) → Below (w.heap.size + 1) (w.alloc (.cells (pcells zeroP).toArray 35)) w2 → ∃ cg : Nat × Nat, v = .slice (some ⟨cg.1, 0, none⟩) 2 cg.2 ∧ PV w w2 cg.1 x y) := fun w2 v h1 h2 => pv_of h1 h2
    generalize prf t.data.toList = F at *
    clear hxy h2 hpl hll
    unfold fourV at h4
    unfold sixV at h6
    unfold numV at hD
    cases h4c : pts x with
    | some a =>
      rw [h4c] at h4 hR
      dsimp only at h4 hR
      have hg := inG_pts h4c
      rw [hR, hg] at hPF
      clear h6 hR hg h4c
      have hal := acells_len a
      have hfs := foldSize a
      cases hnc : numS y with
      | none =>
        rw [hnc] at hD hPF
        dsimp only at hD hPF
        have HF : Hid (F = (zeroP, 20)) := hPF
        clear hPF hnc
        go_enter Tryz.func15, Tryz.ntmps15
        go_wp2_with (first
          | (refine stP (.tmp 2) (.tmp 47) (by rfl) rfl _ _ zeroP rfl rfl (rz.there (by rw [pcells_len]; omega)) ?_)
          | (go_at_call 61; refine (hD _).mono ?_; rintro e wd ⟨rfl, rfl⟩; have kd := c1)
          | (have kk := kf; clear kk; refine stAq (.tmp 5) (.tmp 23) (by rfl) rfl _ _ a rfl rfl (Row.there (Row.new _ _ _) (by simp)) ?_; intro w4 hw4; have hst := hw4.out ▸ storedRow w3 _ _ a (by simp); clear hw4; obtain ⟨hB4, r5, -⟩ := hst; replace g2 := bt g2 hB4; clear c0 c1 rz hb; obtain ⟨c0, c1, rz, hb⟩ := HC.out _ g2; have h5lt : w2.heap.size ≤ w3.heap.size := hB3.size; clear hB3 kf)
          | (go_at_call 51; refine (h4 _).mono ?_; rintro e w3 ⟨rfl, hB3⟩; replace g2 := bt g2 hB3; clear c0 c1 rz hb; obtain ⟨c0, c1, rz, hb⟩ := HC.out _ g2; have kf := hB3)
          | (go_at_call 60; refine (hCut _).mono ?_; rintro e w2 ⟨v, rfl, hown, hB2⟩; obtain ⟨⟨g, cap⟩, rfl, HC⟩ := HV.out _ _ (by simpa using hown) (by simp only [World.size_alloc] at hB2; exact hB2); have g0 := Nat.le_refl w2.heap.size; have g2 := Below.refl w2.heap.size w2; obtain ⟨c0, c1, rz, hb⟩ := HC.out _ g2))
        refine bodyPost_ret (retCT rfl _ _ 0 rfl (lvP (LP.stored (rz.there (by rw [pcells_len]; omega))))) rfl ⟨by rw [HF.out]; rfl, below_setCells _ (Nat.le_refl _) _ _ _ hb⟩
      | some n =>
        have hnn := numS_le hnc
        rw [hnc] at hD hPF
        dsimp only at hD hPF
        simp only [Bool.false_eq_true, if_false] at hPF
        rw [Int.add_comm] at hPF
        clear hnc
        by_cases h32 : 32 < n
        · have HF : Hid (F = (zeroP, 21)) := by
            show _ = _
            rw [hPF, chk_far (by omega)]; rfl
          have h32' : (32 : Int) < (n : Int) := by omega
          clear hPF
          go_enter Tryz.func15, Tryz.ntmps15
          go_wp2_with (first
            | (refine stP (.tmp 2) (.tmp 61) (by rfl) rfl _ _ zeroP rfl rfl (rz.there (by rw [pcells_len]; omega)) ?_)
            | (refine stPq (.tmp 11) (.tmp 52) (by rfl) rfl _ _ ⟨a, 96 + (n : Int)⟩ rfl (buildP a (96 + (n : Int))) (Row.there (Row.new _ _ _) (by simp)) ?_; intro w8 hw8; have hst := hw8.out ▸ storedRowP w4 _ _ ⟨a, 96 + (n : Int)⟩ (by simp); clear hw8; obtain ⟨hB8, r8, -⟩ := hst; replace g2 := bt g2 hB8; clear c0 c1 rz hb; obtain ⟨c0, c1, rz, hb⟩ := HC.out _ g2; have k8 := r8)
            | (have kk := kd; clear kk; refine ldA (.tmp 5) (by rfl) rfl _ _ a rfl r5.range ?_)
            | (go_at_call 61; refine (hD _).mono ?_; rintro e wd ⟨rfl, rfl⟩; have kd := c1)
            | (have kk := kf; clear kk; refine stAq (.tmp 5) (.tmp 23) (by rfl) rfl _ _ a rfl rfl (Row.there (Row.new _ _ _) (by simp)) ?_; intro w4 hw4; have hst := hw4.out ▸ storedRow w3 _ _ a (by simp); clear hw4; obtain ⟨hB4, r5, -⟩ := hst; replace g2 := bt g2 hB4; clear c0 c1 rz hb; obtain ⟨c0, c1, rz, hb⟩ := HC.out _ g2; have h5lt : w2.heap.size ≤ w3.heap.size := hB3.size; clear hB3 kf)
            | (go_at_call 51; refine (h4 _).mono ?_; rintro e w3 ⟨rfl, hB3⟩; replace g2 := bt g2 hB3; clear c0 c1 rz hb; obtain ⟨c0, c1, rz, hb⟩ := HC.out _ g2; have kf := hB3)
            | (go_at_call 60; refine (hCut _).mono ?_; rintro e w2 ⟨v, rfl, hown, hB2⟩; obtain ⟨⟨g, cap⟩, rfl, HC⟩ := HV.out _ _ (by simpa using hown) (by simp only [World.size_alloc] at hB2; exact hB2); have g0 := Nat.le_refl w2.heap.size; have g2 := Below.refl w2.heap.size w2; obtain ⟨c0, c1, rz, hb⟩ := HC.out _ g2))
          refine bodyPost_ret (retCT rfl _ _ 0 rfl (lvP (LP.stored (rz.there (by rw [pcells_len]; omega))))) rfl ⟨by rw [HF.out]; rfl, below_setCells _ (Nat.le_refl _) _ _ _ hb⟩
        · have h32' : ¬ (32 : Int) < (n : Int) := by omega
          have hCk := rcheck_any ⟨a, 96 + (n : Int)⟩
          rcases chk_or ⟨a, 96 + (n : Int)⟩ with ⟨hk, _⟩ | hk
          · rw [hk] at hCk hPF
            have HF : Hid (F = (⟨a, 96 + (n : Int)⟩, 0)) := hPF
            clear hPF hk
            go_enter Tryz.func15, Tryz.ntmps15
            go_wp2_with (first
              | (refine stP (.tmp 2) (.tmp 62) (by rfl) rfl _ _ ⟨a, 96 + (n : Int)⟩ rfl rfl (rz.there (by rw [pcells_len]; omega)) ?_)
              | (have kk := k8; clear kk; (try rw [decide_eq_false (show ¬ ((32 : Int) < (n : Int)) by omega)]); (try rw [decide_eq_false (show ¬ ((128 : Int) < (n : Int)) by omega)]); refine ldP (.tmp 11) (by rfl) rfl _ _ ⟨a, 96 + (n : Int)⟩ rfl r8.range ?_)
              | (go_at_call 19; refine (hCk _).mono ?_; rintro e w9 ⟨rfl, hB9⟩; replace g2 := bt g2 hB9; clear c0 c1 rz hb; obtain ⟨c0, c1, rz, hb⟩ := HC.out _ g2; replace r8 := r8.below hB9 r8.lt)
              | (refine stPq (.tmp 11) (.tmp 52) (by rfl) rfl _ _ ⟨a, 96 + (n : Int)⟩ rfl (buildP a (96 + (n : Int))) (Row.there (Row.new _ _ _) (by simp)) ?_; intro w8 hw8; have hst := hw8.out ▸ storedRowP w4 _ _ ⟨a, 96 + (n : Int)⟩ (by simp); clear hw8; obtain ⟨hB8, r8, -⟩ := hst; replace g2 := bt g2 hB8; clear c0 c1 rz hb; obtain ⟨c0, c1, rz, hb⟩ := HC.out _ g2; have k8 := r8)
              | (have kk := kd; clear kk; refine ldA (.tmp 5) (by rfl) rfl _ _ a rfl r5.range ?_)
              | (go_at_call 61; refine (hD _).mono ?_; rintro e wd ⟨rfl, rfl⟩; have kd := c1)
              | (have kk := kf; clear kk; refine stAq (.tmp 5) (.tmp 23) (by rfl) rfl _ _ a rfl rfl (Row.there (Row.new _ _ _) (by simp)) ?_; intro w4 hw4; have hst := hw4.out ▸ storedRow w3 _ _ a (by simp); clear hw4; obtain ⟨hB4, r5, -⟩ := hst; replace g2 := bt g2 hB4; clear c0 c1 rz hb; obtain ⟨c0, c1, rz, hb⟩ := HC.out _ g2; have h5lt : w2.heap.size ≤ w3.heap.size := hB3.size; clear hB3 kf)
              | (go_at_call 51; refine (h4 _).mono ?_; rintro e w3 ⟨rfl, hB3⟩; replace g2 := bt g2 hB3; clear c0 c1 rz hb; obtain ⟨c0, c1, rz, hb⟩ := HC.out _ g2; have kf := hB3)
              | (go_at_call 60; refine (hCut _).mono ?_; rintro e w2 ⟨v, rfl, hown, hB2⟩; obtain ⟨⟨g, cap⟩, rfl, HC⟩ := HV.out _ _ (by simpa using hown) (by simp only [World.size_alloc] at hB2; exact hB2); have g0 := Nat.le_refl w2.heap.size; have g2 := Below.refl w2.heap.size w2; obtain ⟨c0, c1, rz, hb⟩ := HC.out _ g2))
            refine bodyPost_ret (retCT rfl _ _ 0 rfl (lvP (LP.stored (rz.there (by rw [pcells_len]; omega))))) rfl ⟨by rw [HF.out]; rfl, below_setCells _ (Nat.le_refl _) _ _ _ hb⟩
          · rw [hk] at hCk hPF
            have HF : Hid (F = (zeroP, 21)) := hPF
            clear hPF hk
            go_enter Tryz.func15, Tryz.ntmps15
            go_wp2_with (first
              | (refine stP (.tmp 2) (.tmp 61) (by rfl) rfl _ _ zeroP rfl rfl (rz.there (by rw [pcells_len]; omega)) ?_)
              | (have kk := k8; clear kk; (try rw [decide_eq_false (show ¬ ((32 : Int) < (n : Int)) by omega)]); (try rw [decide_eq_false (show ¬ ((128 : Int) < (n : Int)) by omega)]); refine ldP (.tmp 11) (by rfl) rfl _ _ ⟨a, 96 + (n : Int)⟩ rfl r8.range ?_)
              | (go_at_call 19; refine (hCk _).mono ?_; rintro e w9 ⟨rfl, hB9⟩; replace g2 := bt g2 hB9; clear c0 c1 rz hb; obtain ⟨c0, c1, rz, hb⟩ := HC.out _ g2; replace r8 := r8.below hB9 r8.lt)
              | (refine stPq (.tmp 11) (.tmp 52) (by rfl) rfl _ _ ⟨a, 96 + (n : Int)⟩ rfl (buildP a (96 + (n : Int))) (Row.there (Row.new _ _ _) (by simp)) ?_; intro w8 hw8; have hst := hw8.out ▸ storedRowP w4 _ _ ⟨a, 96 + (n : Int)⟩ (by simp); clear hw8; obtain ⟨hB8, r8, -⟩ := hst; replace g2 := bt g2 hB8; clear c0 c1 rz hb; obtain ⟨c0, c1, rz, hb⟩ := HC.out _ g2; have k8 := r8)
              | (have kk := kd; clear kk; refine ldA (.tmp 5) (by rfl) rfl _ _ a rfl r5.range ?_)
              | (go_at_call 61; refine (hD _).mono ?_; rintro e wd ⟨rfl, rfl⟩; have kd := c1)
              | (have kk := kf; clear kk; refine stAq (.tmp 5) (.tmp 23) (by rfl) rfl _ _ a rfl rfl (Row.there (Row.new _ _ _) (by simp)) ?_; intro w4 hw4; have hst := hw4.out ▸ storedRow w3 _ _ a (by simp); clear hw4; obtain ⟨hB4, r5, -⟩ := hst; replace g2 := bt g2 hB4; clear c0 c1 rz hb; obtain ⟨c0, c1, rz, hb⟩ := HC.out _ g2; have h5lt : w2.heap.size ≤ w3.heap.size := hB3.size; clear hB3 kf)
              | (go_at_call 51; refine (h4 _).mono ?_; rintro e w3 ⟨rfl, hB3⟩; replace g2 := bt g2 hB3; clear c0 c1 rz hb; obtain ⟨c0, c1, rz, hb⟩ := HC.out _ g2; have kf := hB3)
              | (go_at_call 60; refine (hCut _).mono ?_; rintro e w2 ⟨v, rfl, hown, hB2⟩; obtain ⟨⟨g, cap⟩, rfl, HC⟩ := HV.out _ _ (by simpa using hown) (by simp only [World.size_alloc] at hB2; exact hB2); have g0 := Nat.le_refl w2.heap.size; have g2 := Below.refl w2.heap.size w2; obtain ⟨c0, c1, rz, hb⟩ := HC.out _ g2))
            refine bodyPost_ret (retCT rfl _ _ 0 rfl (lvP (LP.stored (rz.there (by rw [pcells_len]; omega))))) rfl ⟨by rw [HF.out]; rfl, below_setCells _ (Nat.le_refl _) _ _ _ hb⟩
    | none =>
      rw [h4c] at h4 hR
      dsimp only at h4 hR
      cases h6c : sixI x with
      | some L =>
        rw [h6c] at h6 hR
        dsimp only [Option.map] at h6 hR
        have hg := inG_six h4c (by rw [hR]; rfl)
        rw [hR, hg] at hPF
        clear hR hg h4c h6c
        generalize adOf L = a at *
        have hal := acells_len a
        have hfs := foldSize a
        cases hnc : numS y with
        | none =>
          rw [hnc] at hD hPF
          dsimp only at hD hPF
          have HF : Hid (F = (zeroP, 20)) := hPF
          clear hPF hnc
          go_enter Tryz.func15, Tryz.ntmps15
          go_wp2_with (first
            | (refine stP (.tmp 2) (.tmp 47) (by rfl) rfl _ _ zeroP rfl rfl (rz.there (by rw [pcells_len]; omega)) ?_)
            | (go_at_call 61; refine (hD _).mono ?_; rintro e wd ⟨rfl, rfl⟩; have kd := c1)
            | (have kk := ks; clear kk; refine stAq (.tmp 5) (.tmp 32) (by rfl) rfl _ _ a rfl rfl (r5.there (by rw [acells_len]; omega)) ?_; intro w6 hw6; have g6 : Below w2.heap.size w2 w6 := hw6.out ▸ below_setCells _ h5lt _ _ _ g2; replace r5 : Row w6 w3.heap.size 23 (acells a) := hw6.out ▸ r5.setCells _ ((acells_len _).trans (acells_len _).symm); clear hw6 g2 ks hB5; have g2 := g6; clear g6 c0 c1 rz hb; obtain ⟨c0, c1, rz, hb⟩ := HC.out _ g2)
            | (go_at_call 52; refine (h6 _).mono ?_; rintro e w5 ⟨rfl, hB5⟩; replace g2 := bt g2 hB5; clear c0 c1 rz hb; obtain ⟨c0, c1, rz, hb⟩ := HC.out _ g2; replace r5 := r5.below hB5 r5.lt; have ks := hB5)
            | (have kk := kf; clear kk; refine stAq (.tmp 5) (.tmp 23) (by rfl) rfl _ _ zeroA rfl rfl (Row.there (Row.new _ _ _) (by simp)) ?_; intro w4 hw4; have hst := hw4.out ▸ storedRow w3 _ _ zeroA (by simp); clear hw4; obtain ⟨hB4, r5, -⟩ := hst; replace g2 := bt g2 hB4; clear c0 c1 rz hb; obtain ⟨c0, c1, rz, hb⟩ := HC.out _ g2; have h5lt : w2.heap.size ≤ w3.heap.size := hB3.size; clear hB3 kf)
            | (go_at_call 51; refine (h4 _).mono ?_; rintro e w3 ⟨rfl, hB3⟩; replace g2 := bt g2 hB3; clear c0 c1 rz hb; obtain ⟨c0, c1, rz, hb⟩ := HC.out _ g2; have kf := hB3)
            | (go_at_call 60; refine (hCut _).mono ?_; rintro e w2 ⟨v, rfl, hown, hB2⟩; obtain ⟨⟨g, cap⟩, rfl, HC⟩ := HV.out _ _ (by simpa using hown) (by simp only [World.size_alloc] at hB2; exact hB2); have g0 := Nat.le_refl w2.heap.size; have g2 := Below.refl w2.heap.size w2; obtain ⟨c0, c1, rz, hb⟩ := HC.out _ g2))
          refine bodyPost_ret (retCT rfl _ _ 0 rfl (lvP (LP.stored (rz.there (by rw [pcells_len]; omega))))) rfl ⟨by rw [HF.out]; rfl, below_setCells _ (Nat.le_refl _) _ _ _ hb⟩
        | some n =>
          have hnn := numS_le hnc
          rw [hnc] at hD hPF
          dsimp only at hD hPF
          simp only [if_true] at hPF
          clear hnc
          by_cases h128 : 128 < n
          · have HF : Hid (F = (zeroP, 21)) := by
              show _ = _
              rw [hPF, chk_far (by omega)]; rfl
            have h128' : (128 : Int) < (n : Int) := by omega
            clear hPF
            go_enter Tryz.func15, Tryz.ntmps15
            go_wp2_with (first
              | (refine stP (.tmp 2) (.tmp 61) (by rfl) rfl _ _ zeroP rfl rfl (rz.there (by rw [pcells_len]; omega)) ?_)
              | (refine stPq (.tmp 11) (.tmp 52) (by rfl) rfl _ _ ⟨a, (n : Int)⟩ rfl (buildP a (n : Int)) (Row.there (Row.new _ _ _) (by simp)) ?_; intro w8 hw8; have hst := hw8.out ▸ storedRowP w6 _ _ ⟨a, (n : Int)⟩ (by simp); clear hw8; obtain ⟨hB8, r8, -⟩ := hst; replace g2 := bt g2 hB8; clear c0 c1 rz hb; obtain ⟨c0, c1, rz, hb⟩ := HC.out _ g2; have k8 := r8)
              | (have kk := kd; clear kk; refine ldA (.tmp 5) (by rfl) rfl _ _ a rfl r5.range ?_)
              | (go_at_call 61; refine (hD _).mono ?_; rintro e wd ⟨rfl, rfl⟩; have kd := c1)
              | (have kk := ks; clear kk; refine stAq (.tmp 5) (.tmp 32) (by rfl) rfl _ _ a rfl rfl (r5.there (by rw [acells_len]; omega)) ?_; intro w6 hw6; have g6 : Below w2.heap.size w2 w6 := hw6.out ▸ below_setCells _ h5lt _ _ _ g2; replace r5 : Row w6 w3.heap.size 23 (acells a) := hw6.out ▸ r5.setCells _ ((acells_len _).trans (acells_len _).symm); clear hw6 g2 ks hB5; have g2 := g6; clear g6 c0 c1 rz hb; obtain ⟨c0, c1, rz, hb⟩ := HC.out _ g2)
              | (go_at_call 52; refine (h6 _).mono ?_; rintro e w5 ⟨rfl, hB5⟩; replace g2 := bt g2 hB5; clear c0 c1 rz hb; obtain ⟨c0, c1, rz, hb⟩ := HC.out _ g2; replace r5 := r5.below hB5 r5.lt; have ks := hB5)
              | (have kk := kf; clear kk; refine stAq (.tmp 5) (.tmp 23) (by rfl) rfl _ _ zeroA rfl rfl (Row.there (Row.new _ _ _) (by simp)) ?_; intro w4 hw4; have hst := hw4.out ▸ storedRow w3 _ _ zeroA (by simp); clear hw4; obtain ⟨hB4, r5, -⟩ := hst; replace g2 := bt g2 hB4; clear c0 c1 rz hb; obtain ⟨c0, c1, rz, hb⟩ := HC.out _ g2; have h5lt : w2.heap.size ≤ w3.heap.size := hB3.size; clear hB3 kf)
              | (go_at_call 51; refine (h4 _).mono ?_; rintro e w3 ⟨rfl, hB3⟩; replace g2 := bt g2 hB3; clear c0 c1 rz hb; obtain ⟨c0, c1, rz, hb⟩ := HC.out _ g2; have kf := hB3)
              | (go_at_call 60; refine (hCut _).mono ?_; rintro e w2 ⟨v, rfl, hown, hB2⟩; obtain ⟨⟨g, cap⟩, rfl, HC⟩ := HV.out _ _ (by simpa using hown) (by simp only [World.size_alloc] at hB2; exact hB2); have g0 := Nat.le_refl w2.heap.size; have g2 := Below.refl w2.heap.size w2; obtain ⟨c0, c1, rz, hb⟩ := HC.out _ g2))
            refine bodyPost_ret (retCT rfl _ _ 0 rfl (lvP (LP.stored (rz.there (by rw [pcells_len]; omega))))) rfl ⟨by rw [HF.out]; rfl, below_setCells _ (Nat.le_refl _) _ _ _ hb⟩
          · have h128' : ¬ (128 : Int) < (n : Int) := by omega
            have hCk := rcheck_any ⟨a, (n : Int)⟩
            rcases chk_or ⟨a, (n : Int)⟩ with ⟨hk, _⟩ | hk
            · rw [hk] at hCk hPF
              have HF : Hid (F = (⟨a, (n : Int)⟩, 0)) := hPF
              clear hPF hk
              go_enter Tryz.func15, Tryz.ntmps15
              go_wp2_with (first
                | (refine stP (.tmp 2) (.tmp 62) (by rfl) rfl _ _ ⟨a, (n : Int)⟩ rfl rfl (rz.there (by rw [pcells_len]; omega)) ?_)
                | (have kk := k8; clear kk; (try rw [decide_eq_false (show ¬ ((32 : Int) < (n : Int)) by omega)]); (try rw [decide_eq_false (show ¬ ((128 : Int) < (n : Int)) by omega)]); refine ldP (.tmp 11) (by rfl) rfl _ _ ⟨a, (n : Int)⟩ rfl r8.range ?_)
                | (go_at_call 19; refine (hCk _).mono ?_; rintro e w9 ⟨rfl, hB9⟩; replace g2 := bt g2 hB9; clear c0 c1 rz hb; obtain ⟨c0, c1, rz, hb⟩ := HC.out _ g2; replace r8 := r8.below hB9 r8.lt)
                | (refine stPq (.tmp 11) (.tmp 52) (by rfl) rfl _ _ ⟨a, (n : Int)⟩ rfl (buildP a (n : Int)) (Row.there (Row.new _ _ _) (by simp)) ?_; intro w8 hw8; have hst := hw8.out ▸ storedRowP w6 _ _ ⟨a, (n : Int)⟩ (by simp); clear hw8; obtain ⟨hB8, r8, -⟩ := hst; replace g2 := bt g2 hB8; clear c0 c1 rz hb; obtain ⟨c0, c1, rz, hb⟩ := HC.out _ g2; have k8 := r8)
                | (have kk := kd; clear kk; refine ldA (.tmp 5) (by rfl) rfl _ _ a rfl r5.range ?_)
                | (go_at_call 61; refine (hD _).mono ?_; rintro e wd ⟨rfl, rfl⟩; have kd := c1)
                | (have kk := ks; clear kk; refine stAq (.tmp 5) (.tmp 32) (by rfl) rfl _ _ a rfl rfl (r5.there (by rw [acells_len]; omega)) ?_; intro w6 hw6; have g6 : Below w2.heap.size w2 w6 := hw6.out ▸ below_setCells _ h5lt _ _ _ g2; replace r5 : Row w6 w3.heap.size 23 (acells a) := hw6.out ▸ r5.setCells _ ((acells_len _).trans (acells_len _).symm); clear hw6 g2 ks hB5; have g2 := g6; clear g6 c0 c1 rz hb; obtain ⟨c0, c1, rz, hb⟩ := HC.out _ g2)
                | (go_at_call 52; refine (h6 _).mono ?_; rintro e w5 ⟨rfl, hB5⟩; replace g2 := bt g2 hB5; clear c0 c1 rz hb; obtain ⟨c0, c1, rz, hb⟩ := HC.out _ g2; replace r5 := r5.below hB5 r5.lt; have ks := hB5)
                | (have kk := kf; clear kk; refine stAq (.tmp 5) (.tmp 23) (by rfl) rfl _ _ zeroA rfl rfl (Row.there (Row.new _ _ _) (by simp)) ?_; intro w4 hw4; have hst := hw4.out ▸ storedRow w3 _ _ zeroA (by simp); clear hw4; obtain ⟨hB4, r5, -⟩ := hst; replace g2 := bt g2 hB4; clear c0 c1 rz hb; obtain ⟨c0, c1, rz, hb⟩ := HC.out _ g2; have h5lt : w2.heap.size ≤ w3.heap.size := hB3.size; clear hB3 kf)
                | (go_at_call 51; refine (h4 _).mono ?_; rintro e w3 ⟨rfl, hB3⟩; replace g2 := bt g2 hB3; clear c0 c1 rz hb; obtain ⟨c0, c1, rz, hb⟩ := HC.out _ g2; have kf := hB3)
                | (go_at_call 60; refine (hCut _).mono ?_; rintro e w2 ⟨v, rfl, hown, hB2⟩; obtain ⟨⟨g, cap⟩, rfl, HC⟩ := HV.out _ _ (by simpa using hown) (by simp only [World.size_alloc] at hB2; exact hB2); have g0 := Nat.le_refl w2.heap.size; have g2 := Below.refl w2.heap.size w2; obtain ⟨c0, c1, rz, hb⟩ := HC.out _ g2))
              refine bodyPost_ret (retCT rfl _ _ 0 rfl (lvP (LP.stored (rz.there (by rw [pcells_len]; omega))))) rfl ⟨by rw [HF.out]; rfl, below_setCells _ (Nat.le_refl _) _ _ _ hb⟩
            · rw [hk] at hCk hPF
              have HF : Hid (F = (zeroP, 21)) := hPF
              clear hPF hk
              go_enter Tryz.func15, Tryz.ntmps15
              go_wp2_with (first
                | (refine stP (.tmp 2) (.tmp 61) (by rfl) rfl _ _ zeroP rfl rfl (rz.there (by rw [pcells_len]; omega)) ?_)
                | (have kk := k8; clear kk; (try rw [decide_eq_false (show ¬ ((32 : Int) < (n : Int)) by omega)]); (try rw [decide_eq_false (show ¬ ((128 : Int) < (n : Int)) by omega)]); refine ldP (.tmp 11) (by rfl) rfl _ _ ⟨a, (n : Int)⟩ rfl r8.range ?_)
                | (go_at_call 19; refine (hCk _).mono ?_; rintro e w9 ⟨rfl, hB9⟩; replace g2 := bt g2 hB9; clear c0 c1 rz hb; obtain ⟨c0, c1, rz, hb⟩ := HC.out _ g2; replace r8 := r8.below hB9 r8.lt)
                | (refine stPq (.tmp 11) (.tmp 52) (by rfl) rfl _ _ ⟨a, (n : Int)⟩ rfl (buildP a (n : Int)) (Row.there (Row.new _ _ _) (by simp)) ?_; intro w8 hw8; have hst := hw8.out ▸ storedRowP w6 _ _ ⟨a, (n : Int)⟩ (by simp); clear hw8; obtain ⟨hB8, r8, -⟩ := hst; replace g2 := bt g2 hB8; clear c0 c1 rz hb; obtain ⟨c0, c1, rz, hb⟩ := HC.out _ g2; have k8 := r8)
                | (have kk := kd; clear kk; refine ldA (.tmp 5) (by rfl) rfl _ _ a rfl r5.range ?_)
                | (go_at_call 61; refine (hD _).mono ?_; rintro e wd ⟨rfl, rfl⟩; have kd := c1)
                | (have kk := ks; clear kk; refine stAq (.tmp 5) (.tmp 32) (by rfl) rfl _ _ a rfl rfl (r5.there (by rw [acells_len]; omega)) ?_; intro w6 hw6; have g6 : Below w2.heap.size w2 w6 := hw6.out ▸ below_setCells _ h5lt _ _ _ g2; replace r5 : Row w6 w3.heap.size 23 (acells a) := hw6.out ▸ r5.setCells _ ((acells_len _).trans (acells_len _).symm); clear hw6 g2 ks hB5; have g2 := g6; clear g6 c0 c1 rz hb; obtain ⟨c0, c1, rz, hb⟩ := HC.out _ g2)
                | (go_at_call 52; refine (h6 _).mono ?_; rintro e w5 ⟨rfl, hB5⟩; replace g2 := bt g2 hB5; clear c0 c1 rz hb; obtain ⟨c0, c1, rz, hb⟩ := HC.out _ g2; replace r5 := r5.below hB5 r5.lt; have ks := hB5)
                | (have kk := kf; clear kk; refine stAq (.tmp 5) (.tmp 23) (by rfl) rfl _ _ zeroA rfl rfl (Row.there (Row.new _ _ _) (by simp)) ?_; intro w4 hw4; have hst := hw4.out ▸ storedRow w3 _ _ zeroA (by simp); clear hw4; obtain ⟨hB4, r5, -⟩ := hst; replace g2 := bt g2 hB4; clear c0 c1 rz hb; obtain ⟨c0, c1, rz, hb⟩ := HC.out _ g2; have h5lt : w2.heap.size ≤ w3.heap.size := hB3.size; clear hB3 kf)
                | (go_at_call 51; refine (h4 _).mono ?_; rintro e w3 ⟨rfl, hB3⟩; replace g2 := bt g2 hB3; clear c0 c1 rz hb; obtain ⟨c0, c1, rz, hb⟩ := HC.out _ g2; have kf := hB3)
                | (go_at_call 60; refine (hCut _).mono ?_; rintro e w2 ⟨v, rfl, hown, hB2⟩; obtain ⟨⟨g, cap⟩, rfl, HC⟩ := HV.out _ _ (by simpa using hown) (by simp only [World.size_alloc] at hB2; exact hB2); have g0 := Nat.le_refl w2.heap.size; have g2 := Below.refl w2.heap.size w2; obtain ⟨c0, c1, rz, hb⟩ := HC.out _ g2))
              refine bodyPost_ret (retCT rfl _ _ 0 rfl (lvP (LP.stored (rz.there (by rw [pcells_len]; omega))))) rfl ⟨by rw [HF.out]; rfl, below_setCells _ (Nat.le_refl _) _ _ _ hb⟩
      | none =>
        rw [h6c] at h6 hR
        dsimp only [Option.map] at h6 hR
        have HF : Hid (F = (zeroP, 20)) := by
          show _ = _
          rw [hPF, hR]
        obtain ⟨nv, nb, hD'⟩ : ∃ (nv : Int) (nb : Bool), ∀ W, Calls Tryz.prog 61 #[.string (str y), .int .i64 3] W fun e w' => e = .returned (.tuple #[.int .i64 nv, .bool nb]) ∧ W = w' := by
          cases hn : numS y with
          | none => rw [hn] at hD; exact ⟨_, _, hD⟩
          | some u => rw [hn] at hD; exact ⟨_, _, hD⟩
        clear hD
        have hD := hD'
        clear hD' hPF hR h4c h6c
        go_enter Tryz.func15, Tryz.ntmps15
        go_wp2_with (first
          | (refine stP (.tmp 2) (.tmp 47) (by rfl) rfl _ _ zeroP rfl rfl (rz.there (by rw [pcells_len]; omega)) ?_)
          | (go_at_call 61; refine (hD _).mono ?_; rintro e wd ⟨rfl, rfl⟩; have kd := c1)
          | (have kk := ks; clear kk; refine stAq (.tmp 5) (.tmp 32) (by rfl) rfl _ _ zeroA rfl rfl (r5.there (by rw [acells_len]; omega)) ?_; intro w6 hw6; have g6 : Below w2.heap.size w2 w6 := hw6.out ▸ below_setCells _ h5lt _ _ _ g2; replace r5 : Row w6 w3.heap.size 23 (acells zeroA) := hw6.out ▸ r5.setCells _ ((acells_len _).trans (acells_len _).symm); clear hw6 g2 ks hB5; have g2 := g6; clear g6 c0 c1 rz hb; obtain ⟨c0, c1, rz, hb⟩ := HC.out _ g2)
          | (go_at_call 52; refine (h6 _).mono ?_; rintro e w5 ⟨rfl, hB5⟩; replace g2 := bt g2 hB5; clear c0 c1 rz hb; obtain ⟨c0, c1, rz, hb⟩ := HC.out _ g2; replace r5 := r5.below hB5 r5.lt; have ks := hB5)
          | (have kk := kf; clear kk; refine stAq (.tmp 5) (.tmp 23) (by rfl) rfl _ _ zeroA rfl rfl (Row.there (Row.new _ _ _) (by simp)) ?_; intro w4 hw4; have hst := hw4.out ▸ storedRow w3 _ _ zeroA (by simp); clear hw4; obtain ⟨hB4, r5, -⟩ := hst; replace g2 := bt g2 hB4; clear c0 c1 rz hb; obtain ⟨c0, c1, rz, hb⟩ := HC.out _ g2; have h5lt : w2.heap.size ≤ w3.heap.size := hB3.size; clear hB3 kf)
          | (go_at_call 51; refine (h4 _).mono ?_; rintro e w3 ⟨rfl, hB3⟩; replace g2 := bt g2 hB3; clear c0 c1 rz hb; obtain ⟨c0, c1, rz, hb⟩ := HC.out _ g2; have kf := hB3)
          | (go_at_call 60; refine (hCut _).mono ?_; rintro e w2 ⟨v, rfl, hown, hB2⟩; obtain ⟨⟨g, cap⟩, rfl, HC⟩ := HV.out _ _ (by simpa using hown) (by simp only [World.size_alloc] at hB2; exact hB2); have g0 := Nat.le_refl w2.heap.size; have g2 := Below.refl w2.heap.size w2; obtain ⟨c0, c1, rz, hb⟩ := HC.out _ g2))
        refine bodyPost_ret (retCT rfl _ _ 0 rfl (lvP (LP.stored (rz.there (by rw [pcells_len]; omega))))) rfl ⟨by rw [HF.out]; rfl, below_setCells _ (Nat.le_refl _) _ _ _ hb⟩
  · have hPF := prf_many h2
    have h2' : ¬ ((pieces 47 t.data.toList).length : Int) = 2 := by omega
    have h2'' : (((pieces 47 t.data.toList).length : Int) == 2) = false := beq_eq_false_iff_ne.2 h2'
    have HF : Hid (prf t.data.toList = (zeroP, 20)) := hPF
    generalize prf t.data.toList = F at *
    have hps : (pieces 47 t.data.toList).length ≤ 2000000 := by have := pieces_count 47 t.data.toList; omega
    have HR : Hid (∀ w2 v, w2.ownsRow (w.heap.size + 1) 9 1 v (pieces 47 t.data.toList).length (scells (pieces 47 t.data.toList)) → Below (w.heap.size + 1) (w.alloc (.cells (pcells zeroP).toArray 35)) w2 → (∃ a c, v = .slice a (pieces 47 t.data.toList).length c) ∧ Row w2 w.heap.size 35 (pcells zeroP) ∧ Below w.heap.size w w2) := fun w2 v h1 h2 => by
      have hz := h2.size
      simp only [World.size_alloc] at hz
      refine ⟨?_, (Row.new w 35 (pcells zeroP)).below h2 (Nat.lt_succ_self _), (ba w _).trans (h2.mono (by omega))⟩
      rcases h1.2 with ⟨rfl, h0⟩ | ⟨g, cap, cur, rfl, _⟩
      · exact ⟨none, 0, by rw [h0]⟩
      · exact ⟨_, _, rfl⟩
    clear hPF h2 hpl hll
    generalize pieces 47 t.data.toList = PS at *
    go_enter Tryz.func15, Tryz.ntmps15
    go_wp2_with (first
      | (refine stP (.tmp 2) (.tmp 17) (by rfl) rfl _ _ zeroP rfl rfl (rz.there (by rw [pcells_len]; omega)) ?_)
      | (go_at_call 60; refine (hCut _).mono ?_; rintro e w2 ⟨v, rfl, hown, hB2⟩; obtain ⟨⟨a2, c2, rfl⟩, rz, hb⟩ := HR.out _ _ (by simpa using hown) (by simp only [World.size_alloc] at hB2; exact hB2)))
    refine bodyPost_ret (retCT rfl _ _ 0 rfl (lvP (LP.stored (rz.there (by rw [pcells_len]; omega))))) rfl ⟨by rw [HF.out]; rfl, below_setCells _ (Nat.le_refl _) _ _ _ hb⟩
end Go.Proofs.YtimpopolkofdgaaGreatDoor
