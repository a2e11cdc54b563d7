/-
  The document's own orders: of addresses, prefixes, pairs, and of routers.
-/
import Derived.Test.YtbjclphgabpgoaaQE
namespace Go.Proofs.Ytbjclphgabpgoaa
open Go.RowKit
set_option linter.unusedSimpArgs false
set_option linter.unusedVariables false
set_option maxRecDepth 20000
theorem below_drewN {B : Nat} {w0 w : World} (h : Below B w0 w) : ∀ n, Below B w0 (w.drewN n)
  | 0 => h
  | n + 1 => (below_drewN h n).drew
theorem cb_at : ∀ (l m : List UInt8) (i : Nat) (x y : UInt8), (∀ j, j < i → l[j]? = m[j]?) → l[i]? = some x → m[i]? = some y → x ≠ y → l.length = m.length → Lib.compareBytes l m = if x < y then -1 else 1
  | [], _, _, _, _, _, h, _, _, _ => by simp at h
  | _ :: _, [], _, _, _, _, _, h, _, _ => by simp at h
  | a :: l, b :: m, 0, x, y, _, hx, hy, hne, _ => by
    simp at hx hy
    subst hx hy
    unfold Lib.compareBytes
    by_cases h : a < b
    · rw [if_pos h, if_pos h]
    · rw [if_neg h, if_neg h, if_pos]
      rw [UInt8.lt_iff_toNat_lt] at h ⊢
      have : a.toNat ≠ b.toNat := fun e => hne (UInt8.toNat.inj e)
      omega
  | a :: l, b :: m, i + 1, x, y, hj, hx, hy, hne, hl => by
    have h0 : a = b := by simpa using hj 0 (by omega)
    subst h0
    have hn : ¬ a < a := by rw [UInt8.lt_iff_toNat_lt]; omega
    have ih := cb_at l m i x y (fun j hji => by simpa using hj (j + 1) (by omega)) (by simpa using hx) (by simpa using hy) hne (by simpa using hl)
    unfold Lib.compareBytes
    rw [if_neg hn, if_neg hn, ih]
theorem cb_same : ∀ (l : List UInt8), Lib.compareBytes l l = 0
  | [] => rfl
  | a :: l => by
    have hn : ¬ a < a := by rw [UInt8.lt_iff_toNat_lt]; omega
    unfold Lib.compareBytes
    rw [if_neg hn, if_neg hn, cb_same l]
theorem rcompare_any (a b : Ad) (w : World) : Calls Try.prog 44 #[(Value.agg (acells a).toArray), (Value.agg (acells b).toArray)] w (Gives w (.int .i64 (cmpA a b))) := by
  have HL : Hid (∀ i x y, (∀ j, j < i → a.l[j]? = b.l[j]?) → a.l[i]? = some x → b.l[i]? = some y → x ≠ y → cmpA a b = if x < y then -1 else 1) := fun i x y h1 h2 h3 h4 => cb_at a.l b.l i x y h1 h2 h3 h4 (by rw [a.len, b.len])
  have HE : Hid ((∀ j, j < 16 → a.l[j]? = b.l[j]?) → cmpA a b = 0) := fun h => by
    have e : a.l = b.l := by
      apply List.ext_getElem?
      intro j
      by_cases hj : j < 16
      · exact h j hj
      · rw [List.getElem?_eq_none (by rw [a.len]; omega), List.getElem?_eq_none (by rw [b.len]; omega)]
    unfold cmpA
    rw [e, cb_same]
  generalize cmpA a b = f at *
  go_enter Try.func44, Try.ntmps44
  go_wp2
  refine name_world (R := fun W => Code.wp _ _ _ _ W) (P := fun W => Below w.heap.size w W ∧ LA W w.heap.size 0 a ∧ LA W (w.heap.size + 1) 0 b) _ ⟨bt (ba _ _) (ba _ _), (LA.new _ _ _).alloc _, by have := LA.new (w.alloc (.cells (acells a).toArray 34)) b 34; simpa using this⟩ ?_
  rintro X ⟨hb, hA, hB⟩
  go_loopw [5] (fun i wr => ∃ j : Nat, j ≤ 16 ∧ i = .int .i64 j ∧ (∀ i, i < j → a.l[i]? = b.l[i]?) ∧ ∃ nq, wr = X.drewN nq) (fun i _ => 16 - (intOf i).toNat)
  case atStart => exact ⟨0, by omega, rfl, (fun i hi => by omega), 0, rfl⟩
  case round =>
    obtain ⟨j, hj, rfl, hok, nq0, rfl⟩ := hrel
    by_cases hlt : j < 16
    · obtain ⟨x, hx⟩ : ∃ x, a.l[j]? = some x := ⟨_, List.getElem?_eq_getElem (by rw [a.len]; omega)⟩
      obtain ⟨y, hy⟩ : ∃ y, b.l[j]? = some y := ⟨_, List.getElem?_eq_getElem (by rw [b.len]; omega)⟩
      have hc : X.cell? ⟨w.heap.size, j, none⟩ = some (.int .u8 x.toNat) := by simpa using hA j _ (bcells_get hx)
      have hd : X.cell? ⟨w.heap.size + 1, j, none⟩ = some (.int .u8 y.toNat) := by simpa using hB j _ (bcells_get hy)
      have hzx := x.toNat_lt
      have hzy := y.toNat_lt
      have HF : Hid (x ≠ y → f = if x < y then -1 else 1) := HL.out j x y hok hx hy
      have HN : Hid (x = y → ∀ i, i < j + 1 → a.l[i]? = b.l[i]?) := fun h i hi => by
        by_cases hij : i < j
        · exact hok i hij
        · obtain rfl : i = j := by omega
          rw [hx, hy, h]
      clear hok hx hy HL HE hA hB
      by_cases hxy : x = y
      · subst hxy
        go_wp2
        go_quiet (fail)
        go_wp2
        go_roundw
        case rel => exact ⟨j + 1, by omega, by go_num, HN.out trivial, nq0 + nq, rfl⟩
        case measure => simp [intOf]; omega
      · have hne : x.toNat ≠ y.toNat := fun h => hxy (UInt8.toNat.inj h)
        have hne' : ¬ (x.toNat : Int) = (y.toNat : Int) := by omega
        have hF : f = if x.toNat < y.toNat then -1 else 1 := by have := HF.out hxy; simpa only [UInt8.lt_iff_toNat_lt] using this
        by_cases hlt2 : x.toNat < y.toNat
        · have hl2 : (x.toNat : Int) < (y.toNat : Int) := by omega
          rw [if_pos hlt2] at hF
          subst hF
          go_wp2
          go_quiet (fail)
          go_wp2
          go_quiet (fail)
          go_wp2
          go_ret
          exact ⟨rfl, below_drewN (below_drewN (below_drewN hb _) _) _⟩
        · have hl2 : ¬ (x.toNat : Int) < (y.toNat : Int) := by omega
          rw [if_neg hlt2] at hF
          subst hF
          go_wp2
          go_quiet (fail)
          go_wp2
          go_quiet (fail)
          go_wp2
          go_ret
          exact ⟨rfl, below_drewN (below_drewN (below_drewN hb _) _) _⟩
    · obtain rfl : j = 16 := by omega
      have e0 := HE.out hok
      subst e0
      go_wp2
      go_ret
      exact ⟨rfl, below_drewN hb _⟩
theorem rcompareP_any (p q : Pf) (w : World) : Calls Try.prog 41 #[(Value.agg (pcells p).toArray), (Value.agg (pcells q).toArray)] w (Gives w (.int .i64 (cmpP p q))) := by
  have hC := rcompare_any p.a q.a
  obtain ⟨c, hc⟩ : ∃ c, cmpA p.a q.a = c := ⟨_, rfl⟩
  obtain ⟨n, hn⟩ : ∃ n, p.n = n := ⟨_, rfl⟩
  obtain ⟨m, hm⟩ : ∃ n, q.n = n := ⟨_, rfl⟩
  rw [hc] at hC
  have HF : Hid (cmpP p q = if c ≠ 0 then c else if n < m then -1 else if m < n then 1 else 0) := by
    show _ = _
    unfold cmpP orI
    rw [hc, hn, hm]
    by_cases h : c = 0
    · rw [if_pos h, if_neg (by simpa using h)]
      unfold cmpI
      rfl
    · rw [if_neg h, if_pos h]
  have hP := (LP.new w p 36).alloc (.cells (pcells q).toArray 36)
  have hQ : LP ((w.alloc (.cells (pcells p).toArray 36)).alloc (.cells (pcells q).toArray 36)) (w.heap.size + 1) 0 q := by
    have := LP.new (w.alloc (.cells (pcells p).toArray 36)) q 36
    simpa using this
  generalize cmpP p q = f at *
  by_cases h0 : c = 0
  · subst h0
    rw [if_neg (by simp)] at HF
    by_cases h1 : n < m
    · rw [if_pos h1] at HF
      go_enter Try.func41, Try.ntmps41
      go_wp2_with (first
        | (refine ldA (.tmp 6) rfl rfl _ _ p.a rfl hP.a ?_)
        | (refine ldA (.tmp 8) rfl rfl _ _ q.a rfl hQ.a ?_)
        | (go_at_call 44; refine (hC _).mono ?_; rintro e w1 ⟨rfl, hB1⟩; have hP1 : LP w1 w.heap.size 0 p := hP.below hB1 (by simp; omega); have hQ1 : LP w1 (w.heap.size + 1) 0 q := hQ.below hB1 (by simp); have c1 := hP1.n; have c2 := hQ1.n; rw [hn] at c1; rw [hm] at c2; simp only [Nat.zero_add] at c1 c2))
      go_ret
      exact ⟨by rw [HF.out]; rfl, bt (bt (ba _ _) (ba _ _)) hB1⟩
    · rw [if_neg h1] at HF
      by_cases h2 : m < n
      · rw [if_pos h2] at HF
        go_enter Try.func41, Try.ntmps41
        go_wp2_with (first
          | (refine ldA (.tmp 6) rfl rfl _ _ p.a rfl hP.a ?_)
          | (refine ldA (.tmp 8) rfl rfl _ _ q.a rfl hQ.a ?_)
          | (go_at_call 44; refine (hC _).mono ?_; rintro e w1 ⟨rfl, hB1⟩; have hP1 : LP w1 w.heap.size 0 p := hP.below hB1 (by simp; omega); have hQ1 : LP w1 (w.heap.size + 1) 0 q := hQ.below hB1 (by simp); have c1 := hP1.n; have c2 := hQ1.n; rw [hn] at c1; rw [hm] at c2; simp only [Nat.zero_add] at c1 c2))
        go_ret
        exact ⟨by rw [HF.out]; rfl, bt (bt (ba _ _) (ba _ _)) hB1⟩
      · rw [if_neg h2] at HF
        go_enter Try.func41, Try.ntmps41
        go_wp2_with (first
          | (refine ldA (.tmp 6) rfl rfl _ _ p.a rfl hP.a ?_)
          | (refine ldA (.tmp 8) rfl rfl _ _ q.a rfl hQ.a ?_)
          | (go_at_call 44; refine (hC _).mono ?_; rintro e w1 ⟨rfl, hB1⟩; have hP1 : LP w1 w.heap.size 0 p := hP.below hB1 (by simp; omega); have hQ1 : LP w1 (w.heap.size + 1) 0 q := hQ.below hB1 (by simp); have c1 := hP1.n; have c2 := hQ1.n; rw [hn] at c1; rw [hm] at c2; simp only [Nat.zero_add] at c1 c2))
        go_ret
        exact ⟨by rw [HF.out]; rfl, bt (bt (ba _ _) (ba _ _)) hB1⟩
  · rw [if_pos h0] at HF
    have h0' : (c == 0) = false := by simpa using h0
    have h0'' : ¬ c = 0 := h0
    go_enter Try.func41, Try.ntmps41
    go_wp2_with (first
      | (refine ldA (.tmp 6) rfl rfl _ _ p.a rfl hP.a ?_)
      | (refine ldA (.tmp 8) rfl rfl _ _ q.a rfl hQ.a ?_)
      | (go_at_call 44; refine (hC _).mono ?_; rintro e w1 ⟨rfl, hB1⟩))
    go_ret
    exact ⟨by rw [HF.out]; rfl, bt (bt (ba _ _) (ba _ _)) hB1⟩
theorem rids_any (a b : Id8) (w : World) : Calls Try.prog 33 #[idV a, idV b] w (Gives w (.int .i64 (Lib.compareBytes a.l b.l))) := by
  have HL : Hid (∀ i x y, (∀ j, j < i → a.l[j]? = b.l[j]?) → a.l[i]? = some x → b.l[i]? = some y → x ≠ y → Lib.compareBytes a.l b.l = if x < y then -1 else 1) := fun i x y h1 h2 h3 h4 => cb_at a.l b.l i x y h1 h2 h3 h4 (by rw [a.len, b.len])
  have HE : Hid ((∀ j, j < 8 → a.l[j]? = b.l[j]?) → Lib.compareBytes a.l b.l = 0) := fun h => by
    have e : a.l = b.l := by
      apply List.ext_getElem?
      intro j
      by_cases hj : j < 8
      · exact h j hj
      · rw [List.getElem?_eq_none (by rw [a.len]; omega), List.getElem?_eq_none (by rw [b.len]; omega)]
    rw [e, cb_same]
  generalize Lib.compareBytes a.l b.l = f at *
  go_enter Try.func33, Try.ntmps33
  go_wp2
  refine name_world (R := fun W => Code.wp _ _ _ _ W) (P := fun W => Below w.heap.size w W ∧ LI W w.heap.size 0 a ∧ LI W (w.heap.size + 1) 0 b) _ ⟨bt (ba _ _) (ba _ _), (LI.new _ _ _).alloc _, by have := LI.new (w.alloc (.cells (icells a).toArray 40)) b 40; simpa using this⟩ ?_
  rintro X ⟨hb, hA, hB⟩
  go_loopw [5] (fun i wr => ∃ j : Nat, j ≤ 8 ∧ i = .int .i64 j ∧ (∀ i, i < j → a.l[i]? = b.l[i]?) ∧ ∃ nq, wr = X.drewN nq) (fun i _ => 8 - (intOf i).toNat)
  case atStart => exact ⟨0, by omega, rfl, (fun i hi => by omega), 0, rfl⟩
  case round =>
    obtain ⟨j, hj, rfl, hok, nq0, rfl⟩ := hrel
    by_cases hlt : j < 8
    · obtain ⟨x, hx⟩ : ∃ x, a.l[j]? = some x := ⟨_, List.getElem?_eq_getElem (by rw [a.len]; omega)⟩
      obtain ⟨y, hy⟩ : ∃ y, b.l[j]? = some y := ⟨_, List.getElem?_eq_getElem (by rw [b.len]; omega)⟩
      have hc : X.cell? ⟨w.heap.size, j, none⟩ = some (.int .u8 x.toNat) := by simpa using hA j _ (bcells_get hx)
      have hd : X.cell? ⟨w.heap.size + 1, j, none⟩ = some (.int .u8 y.toNat) := by simpa using hB j _ (bcells_get hy)
      have hzx := x.toNat_lt
      have hzy := y.toNat_lt
      have HF : Hid (x ≠ y → f = if x < y then -1 else 1) := HL.out j x y hok hx hy
      have HN : Hid (x = y → ∀ i, i < j + 1 → a.l[i]? = b.l[i]?) := fun h i hi => by
        by_cases hij : i < j
        · exact hok i hij
        · obtain rfl : i = j := by omega
          rw [hx, hy, h]
      clear hok hx hy HL HE hA hB
      by_cases hxy : x = y
      · subst hxy
        go_wp2
        go_quiet (fail)
        go_wp2
        go_roundw
        case rel => exact ⟨j + 1, by omega, by go_num, HN.out trivial, nq0 + nq, rfl⟩
        case measure => simp [intOf]; omega
      · have hne : x.toNat ≠ y.toNat := fun h => hxy (UInt8.toNat.inj h)
        have hne' : ¬ (x.toNat : Int) = (y.toNat : Int) := by omega
        have hF : f = if x.toNat < y.toNat then -1 else 1 := by have := HF.out hxy; simpa only [UInt8.lt_iff_toNat_lt] using this
        by_cases hlt2 : x.toNat < y.toNat
        · have hl2 : (x.toNat : Int) < (y.toNat : Int) := by omega
          rw [if_pos hlt2] at hF
          subst hF
          go_wp2
          go_quiet (fail)
          go_wp2
          go_quiet (fail)
          go_wp2
          go_ret
          exact ⟨rfl, below_drewN (below_drewN (below_drewN hb _) _) _⟩
        · have hl2 : ¬ (x.toNat : Int) < (y.toNat : Int) := by omega
          rw [if_neg hlt2] at hF
          subst hF
          go_wp2
          go_quiet (fail)
          go_wp2
          go_quiet (fail)
          go_wp2
          go_ret
          exact ⟨rfl, below_drewN (below_drewN (below_drewN hb _) _) _⟩
    · obtain rfl : j = 8 := by omega
      have e0 := HE.out hok
      subst e0
      go_wp2
      go_ret
      exact ⟨rfl, below_drewN hb _⟩
theorem rcompareQ_any (p q : Pr) (w : World) : Calls Try.prog 32 #[(Value.agg (qcells p).toArray), (Value.agg (qcells q).toArray)] w (Gives w (.int .i64 (cmpQ p q))) := by
  have C1 := rcompareP_any p.d q.d
  have C2 := rcompareP_any p.s q.s
  have HE : Hid (cmpQ p q = orI (cmpP p.d q.d) (cmpP p.s q.s)) := rfl
  obtain ⟨hB, r0, r1⟩ := low_rows w (qcells p) (qcells q) 38 38
  generalize cmpQ p q = R at *
  generalize cmpP p.d q.d = x at *
  generalize cmpP p.s q.s = y at *
  go_enter Try.func32, Try.ntmps32
  go_upto_region 1 with fail
  refine name_world (R := fun W => Code.wp _ _ _ _ W) (P := fun W => Below w.heap.size w W ∧ LQ W w.heap.size 0 p ∧ LQ W (w.heap.size + 1) 0 q ∧ w.heap.size + 1 < W.heap.size) _ ⟨hB, r0.range, r1.range, r1.lt⟩ ?_
  clear hB r0 r1
  rintro X ⟨hB, hP, hQ, hs⟩
  have hs0 : w.heap.size < X.heap.size := by omega
  by_cases h0 : x = 0
  · have h0' : (x != 0) = false := by simpa using h0
    have hR : R = y := by rw [HE.out]; unfold orI; rw [if_pos h0]
    subst hR
    clear h0 HE
    go_wp2_with (first
      | (have kk := hB1; go_at_call 41; refine (C2 _).mono ?_; rintro e w2 ⟨rfl, hB2⟩)
      | (have kk := hB1; refine ldP (.tmp 14) rfl rfl _ _ p.s rfl (hP.below hB1 hs0).s ?_)
      | (have kk := hB1; refine ldP (.tmp 16) rfl rfl _ _ q.s rfl (hQ.below hB1 hs).s ?_)
      | (go_at_call 41; refine (C1 _).mono ?_; rintro e w1 ⟨rfl, hB1⟩)
      | (refine ldP (.tmp 6) rfl rfl _ _ p.d rfl hP.d ?_)
      | (refine ldP (.tmp 8) rfl rfl _ _ q.d rfl hQ.d ?_))
    go_ret
    exact ⟨rfl, bt hB (bt hB1 hB2)⟩
  · have h0' : (x != 0) = true := by simpa using h0
    have hR : R = x := by rw [HE.out]; unfold orI; rw [if_neg h0]
    subst hR
    clear h0 HE
    go_wp2_with (first
      | (go_at_call 41; refine (C1 _).mono ?_; rintro e w1 ⟨rfl, hB1⟩)
      | (refine ldP (.tmp 6) rfl rfl _ _ p.d rfl hP.d ?_)
      | (refine ldP (.tmp 8) rfl rfl _ _ q.d rfl hQ.d ?_))
    go_ret
    exact ⟨rfl, bt hB hB1⟩
end Go.Proofs.Ytbjclphgabpgoaa
