/-
  At: the first time at which something that failed may be tried again. Drained: has the kernel just what is wanted?
-/
import Derived.Test.YtiihlgcafppehaaFJ
namespace Go.Proofs.Ytiihlgcafppehaa
open Go.RowKit Go.Maps Go.Shelf
set_option linter.unusedSimpArgs false
set_option linter.unusedVariables false
set_option maxRecDepth 20000
/-- What has come of the times, and what is left. -/
def CollT (L : List (Pr × Int)) (left : Lit → Bool) (ss : List (Pr × Int)) : Prop := ∃ rs : List (Pr × Int), (ss ++ rs).Perm L ∧ ∀ l, left l = true ↔ ∃ n ∈ rs, kl n.1 = l
theorem CollT.step {L : List (Pr × Int)} {left : Lit → Bool} {ss : List (Pr × Int)} (h : CollT L left ss) (hw : ∀ n ∈ L, wfQ n.1) (hd : (L.map Prod.fst).Nodup) {l : Lit} (hl : left l = true) : ∃ n, n ∈ L ∧ kl n.1 = l ∧ CollT L (fun z => left z && !z.sameKey l) (ss ++ [n]) := by
  obtain ⟨rs, hp, hr⟩ := h
  obtain ⟨n, hn, rfl⟩ := (hr l).1 hl
  obtain ⟨r1, r2, rfl⟩ := List.append_of_mem hn
  have hL : ∀ m, m ∈ ss ++ (r1 ++ n :: r2) ↔ m ∈ L := fun m => hp.mem_iff
  have hnL : n ∈ L := (hL n).1 (by simp)
  refine ⟨n, hnL, rfl, r1 ++ r2, ?_, fun z => ?_⟩
  · refine List.Perm.trans ?_ hp
    rw [List.append_assoc]
    exact List.Perm.append_left ss (by simpa using (List.perm_middle (a := n) (l₁ := r1) (l₂ := r2)).symm)
  · have hnd : ((ss ++ (r1 ++ n :: r2)).map Prod.fst).Nodup := (hp.map _).nodup_iff.2 hd
    have hne : ∀ m ∈ r1 ++ r2, kl m.1 ≠ kl n.1 := by
      intro m hm e
      have hmL : m ∈ L := (hL m).1 (by simp at hm ⊢; rcases hm with h | h <;> simp [h])
      have ek : m.1 = n.1 := kl_inj (hw m hmL) (hw n hnL) e
      rw [List.map_append, List.nodup_append] at hnd
      have h2 := hnd.2.1
      rw [List.map_append, List.map_cons] at h2
      have h3 := (List.perm_middle (a := n.1) (l₁ := r1.map Prod.fst) (l₂ := r2.map Prod.fst)).nodup_iff.1 h2
      rw [List.nodup_cons] at h3
      apply h3.1
      rw [← ek, ← List.map_append]
      exact List.mem_map_of_mem hm
    rw [Bool.and_eq_true, hr]
    constructor
    · rintro ⟨⟨m, hm, rfl⟩, hs⟩
      refine ⟨m, ?_, rfl⟩
      rcases List.mem_append.1 hm with h | h
      · exact List.mem_append_left _ h
      · rcases List.mem_cons.1 h with rfl | h
        · rw [WideAt.sameKey_self (kl_key (hw m hnL))] at hs
          cases hs
        · exact List.mem_append_right _ h
    · rintro ⟨m, hm, rfl⟩
      refine ⟨⟨m, ?_, rfl⟩, ?_⟩
      · rcases List.mem_append.1 hm with h | h
        · exact List.mem_append_left _ h
        · exact List.mem_append_right _ (List.mem_cons_of_mem _ h)
      · rw [sameKey_ne (hne m hm)]; rfl
theorem CollT.done {L : List (Pr × Int)} {left : Lit → Bool} {ss : List (Pr × Int)} (h : CollT L left ss) (hl : ∀ l, left l = false) : ss.Perm L := by
  obtain ⟨rs, hp, hr⟩ := h
  cases rs with
  | nil => simpa using hp
  | cons n r =>
    have := (hr (kl n.1)).2 ⟨n, by simp, rfl⟩
    rw [hl] at this
    cases this
/-- The first of the times of those about which something is to be done. -/
def AtIs (W H : List En) (L : List (Pr × Int)) (f : Int) (b : Bool) : Prop := (b = false ∧ f = 0 ∧ ∀ m ∈ L, todR W H m.1 = none) ∨ (b = true ∧ (∃ n ∈ L, todR W H n.1 ≠ none ∧ f = n.2) ∧ ∀ m ∈ L, todR W H m.1 ≠ none → f ≤ m.2)
section
variable {W H : List En} {ss L : List (Pr × Int)} {n : Pr × Int} {f : Int} {b : Bool}
theorem AtIs.perm (h : AtIs W H ss f b) (hp : ss.Perm L) : AtIs W H L f b := by
  rcases h with ⟨h1, h2, h3⟩ | ⟨h1, ⟨n, hn, h2⟩, h3⟩
  · exact .inl ⟨h1, h2, fun m hm => h3 m (hp.mem_iff.2 hm)⟩
  · exact .inr ⟨h1, ⟨n, hp.mem_iff.1 hn, h2⟩, fun m hm => h3 m (hp.mem_iff.2 hm)⟩
theorem AtIs.pass (h : AtIs W H ss f b) (hn : todR W H n.1 = none) : AtIs W H (ss ++ [n]) f b := by
  rcases h with ⟨h1, h2, h3⟩ | ⟨h1, ⟨m, hm, h2⟩, h3⟩
  · refine .inl ⟨h1, h2, fun m hm => ?_⟩
    rcases List.mem_append.1 hm with e | e
    · exact h3 m e
    · simp at e; subst e; exact hn
  · refine .inr ⟨h1, ⟨m, by simp [hm], h2⟩, fun k hk hd => ?_⟩
    rcases List.mem_append.1 hk with e | e
    · exact h3 k e hd
    · simp at e; subst e; exact absurd hn hd
theorem AtIs.first (h : AtIs W H ss f false) (hn : todR W H n.1 ≠ none) : AtIs W H (ss ++ [n]) n.2 true := by
  rcases h with ⟨_, _, h3⟩ | ⟨h1, _⟩
  · refine .inr ⟨rfl, ⟨n, by simp, hn, rfl⟩, fun m hm hd => ?_⟩
    rcases List.mem_append.1 hm with e | e
    · exact absurd (h3 m e) hd
    · simp at e; subst e; exact Int.le_refl _
  · cases h1
theorem AtIs.less (h : AtIs W H ss f true) (hn : todR W H n.1 ≠ none) (hl : n.2 < f) : AtIs W H (ss ++ [n]) n.2 true := by
  rcases h with ⟨h1, _⟩ | ⟨_, _, h3⟩
  · cases h1
  · refine .inr ⟨rfl, ⟨n, by simp, hn, rfl⟩, fun m hm hd => ?_⟩
    rcases List.mem_append.1 hm with e | e
    · have := h3 m e hd; omega
    · simp at e; subst e; exact Int.le_refl _
theorem AtIs.more (h : AtIs W H ss f true) (hl : f ≤ n.2) : AtIs W H (ss ++ [n]) f true := by
  rcases h with ⟨h1, _⟩ | ⟨_, ⟨k, hk, h2⟩, h3⟩
  · cases h1
  · refine .inr ⟨rfl, ⟨k, by simp [hk], h2⟩, fun m hm hd => ?_⟩
    rcases List.mem_append.1 hm with e | e
    · exact h3 m e hd
    · simp at e; subst e; exact hl
end
set_option maxHeartbeats 16000000 in
theorem at_any {w : World} {f : Nat} {x : Fv} {W H : List En} {A : List (Pr × Int)} (h : Fb w f x W H A) : Calls Try.prog 24 #[.pointer (some ⟨f, 0, none⟩)] w fun e w' => ∃ t b, e = .returned (.tuple #[.int .i64 t, .bool b]) ∧ AtIs W H A t b ∧ Below w.heap.size w w' := by
  obtain ⟨D, hown, hsz, hhas, hat⟩ := h.ma.ex
  have hwf : ∀ n ∈ A, wfQ n.1 := h.ma.wf
  have hnd : (A.map Prod.fst).Nodup := h.ma.nd
  replace hhas : ∀ l : Lit, Go.Maps.has D l = true ↔ ∃ n ∈ A, kl n.1 = l := hhas
  replace hat : ∀ n ∈ A, ∀ z, D.atKey (kl n.1) z = .held (.int .i64 n.2) := hat
  have c2 : w.cell? ⟨f, 2, none⟩ = some (.map (some x.mA)) := h.row.f2
  have hTo := fun V (hV : Below w.heap.size w V) p hi => todo_any (h.below hV) p hi
  clear h
  go_enter Try.func24, Try.ntmps24
  go_wp2_with (first
    | (at_range; refine wpList_range_own _ rfl _ 76 rfl 34 3 keyLaw Try.underlying76 elV x.mA A.length D rfl hown ?_; intro w0 hrg0 hg0 hs0))
  try go_frame
  go_loopw [4, 5] (fun v u wr => ∃ (t : Int) (b : Bool) (left : Lit → Bool) (cnt : Nat) (ss : List (Pr × Int)), v = .int .i64 t ∧ u = .bool b ∧ wr.ranges Try.prog 34 elV x.mA w.heap.size A.length D left cnt ∧ CollT A left ss ∧ AtIs W H ss t b ∧ Below w.heap.size w wr)
    (fun _ _ wr => wr.rangeLeft x.mA w.heap.size)
  case atStart => exact ⟨0, false, _, _, [], rfl, rfl, hrg0, ⟨A, by simp, hhas⟩, .inl ⟨rfl, rfl, by simp⟩, below_keepO (Below.refl _ _) hg0 (by simp) (Nat.le_refl _)⟩
  case round =>
    clear hrg0 hg0 hown hhas hsz c2
    obtain ⟨t, b, left, cnt, ss, rfl, rfl, hrg, hC, hN, hB⟩ := hrel
    go_wp2_with (first
      | (at_next; refine wpList_next_ranges _ rfl _ rfl 34 keyLaw elV id id (fun key _ _ => ⟨key, rfl⟩) (fun v _ _ => ⟨v, rfl⟩) x.mA w.heap.size A.length _ _ _ rfl hrg ?_ ?_))
    · intro _ hl0
      have hN2 := hN.perm (hC.done hl0)
      clear hat hwf hnd hC hN
      go_wp2_with fail
      go_ret2
      exact ⟨t, b, rfl, hN2, hB⟩
    · intro y c lk yd yp w1 cnt1 hkey hlk hv hat1 hrg1 hlt hg1 hs1 hen
      obtain ⟨n, hnL, rfl, hC2⟩ := hC.step hwf hnd hlk
      obtain rfl : y = (Value.agg (qcells n.1).toArray) := keyLaw.inj hkey (key_some n.1 (hwf n hnL))
      have hc : c = .int .i64 n.2 := by
        have e := hat1 (.held (.int .i64 n.2))
        rw [hat n hnL] at e
        have hv' : some (DataW.held c, ([] : List MemPlace)) = some (yd, yp) := hv
        cases hv'
        injection e with e
        exact e.symm
      subst hc
      have hB1 : Below w.heap.size w w1 := below_keepO hB hg1 (fun g hg e => by cases e; omega) hB.size
      have HC : Hid (CollT A (fun z => left z && !z.sameKey (kl n.1)) (ss ++ [n])) := hC2
      have HCN : Hid (wr.rangeLeft x.mA w.heap.size = cnt) := hrg.left_eq
      have HLT : Hid (cnt1 < cnt) := hlt
      have HN : Hid (AtIs W H ss t b) := hN
      have HGo : Hid (∀ V, Below w1.heap.size w1 V → V.ranges Try.prog 34 elV x.mA w.heap.size A.length D (fun z => left z && !z.sameKey (kl n.1)) cnt1 ∧ Below w.heap.size w V) := fun V hV => by
        have hg : w1.grownBy V none := ⟨hV.os, hV.tape, hV.output, hV.size, fun i hi _ => hV.block i hi⟩
        exact ⟨hrg1.kept hg (by simp) (by simp), hB1.trans (hV.mono hB1.size)⟩
      have hTn := fun V hV => hTo V hV n.1 (hwf n hnL)
      have HX : Hid (∀ q, todR W H n.1 = some q → todR W H n.1 ≠ none) := fun q h e => by rw [e] at h; cases h
      clear hC hC2 hN hrg hlt hrg1 hB hg1 hs1 hat hat1 hv hkey hlk hwf hnd hTo
      cases ho : todR W H n.1 with
      | none =>
        rw [ho] at hTn
        go_wp2_with (first
          | (have kk := q8; (with_reducible refine stO (.tmp 8) (.tmp 26) ?_ ?_ g8 zeroO zeroO ?_ ?_ ?_ ?_); (focus rfl); (focus rfl); (focus rfl); (focus rfl); (focus exact q8); intro W7 gr7 r7; have b7 := bt b5 (grown_below gr7 (bt k6 b8) (Nat.le_trans k6.size h8) (bt k6 b8).size); clear q8)
          | (have kk := k6; (with_reducible refine alG infoOz ?_ ?_ ?_); (focus rfl); (focus rfl); intro g8 W8 h8 l8 b8 q8)
          | (have kk := q6; go_at_call 41; refine (hTn _ (hB1.trans (b5.mono hB1.size))).mono ?_; rintro e W6 ⟨rfl, k6⟩)
          | (have kk := q6; (with_reducible refine ldQ (.tmp 6) ?_ ?_ g6 0 n.1 ?_ ?_ ?_); (focus rfl); (focus rfl); (focus rfl); (focus exact q6.range))
          | (have kk := r6; (with_reducible refine stQ0 (.tmp 6) (.tmp 20) ?_ ?_ g6 n.1 zeroQ ?_ ?_ ?_ ?_); (focus rfl); (focus rfl); (focus rfl); (focus rfl); (focus exact r6); intro W5 gr5 q6; have b5 := grown_below gr5 b6 h6 b6.size; clear r6)
          | ((with_reducible refine alG infoQz ?_ ?_ ?_); (focus rfl); (focus rfl); intro g6 W4 h6 l6 b6 r6))
        obtain ⟨hrg6, hB6⟩ := HGo.out _ b7
        go_roundw
        case rel => exact ⟨_, _, _, cnt1, ss ++ [n], rfl, rfl, hrg6, HC.out, HN.out.pass ho, hB6⟩
        case measure => rw [hrg6.left_eq, HCN.out]; exact HLT.out
      | some q =>
        have hq := HX.out q ho
        rw [ho] at hTn
        cases b with
        | false =>
          go_wp2_with (first
            | (have kk := q8; (with_reducible refine stO (.tmp 8) (.tmp 26) ?_ ?_ g8 q zeroO ?_ ?_ ?_ ?_); (focus rfl); (focus rfl); (focus rfl); (focus rfl); (focus exact q8); intro W7 gr7 r7; have b7 := bt b5 (grown_below gr7 (bt k6 b8) (Nat.le_trans k6.size h8) (bt k6 b8).size); clear q8)
            | (have kk := k6; (with_reducible refine alG infoOz ?_ ?_ ?_); (focus rfl); (focus rfl); intro g8 W8 h8 l8 b8 q8)
            | (have kk := q6; go_at_call 41; refine (hTn _ (hB1.trans (b5.mono hB1.size))).mono ?_; rintro e W6 ⟨rfl, k6⟩)
            | (have kk := q6; (with_reducible refine ldQ (.tmp 6) ?_ ?_ g6 0 n.1 ?_ ?_ ?_); (focus rfl); (focus rfl); (focus rfl); (focus exact q6.range))
            | (have kk := r6; (with_reducible refine stQ0 (.tmp 6) (.tmp 20) ?_ ?_ g6 n.1 zeroQ ?_ ?_ ?_ ?_); (focus rfl); (focus rfl); (focus rfl); (focus rfl); (focus exact r6); intro W5 gr5 q6; have b5 := grown_below gr5 b6 h6 b6.size; clear r6)
            | ((with_reducible refine alG infoQz ?_ ?_ ?_); (focus rfl); (focus rfl); intro g6 W4 h6 l6 b6 r6))
          obtain ⟨hrg6, hB6⟩ := HGo.out _ b7
          go_roundw
          case rel => exact ⟨_, _, _, cnt1, ss ++ [n], rfl, rfl, hrg6, HC.out, HN.out.first hq, hB6⟩
          case measure => rw [hrg6.left_eq, HCN.out]; exact HLT.out
        | true =>
          by_cases hl : n.2 < t
          · go_wp2_with (first
              | (have kk := q8; (with_reducible refine stO (.tmp 8) (.tmp 26) ?_ ?_ g8 q zeroO ?_ ?_ ?_ ?_); (focus rfl); (focus rfl); (focus rfl); (focus rfl); (focus exact q8); intro W7 gr7 r7; have b7 := bt b5 (grown_below gr7 (bt k6 b8) (Nat.le_trans k6.size h8) (bt k6 b8).size); clear q8)
              | (have kk := k6; (with_reducible refine alG infoOz ?_ ?_ ?_); (focus rfl); (focus rfl); intro g8 W8 h8 l8 b8 q8)
              | (have kk := q6; go_at_call 41; refine (hTn _ (hB1.trans (b5.mono hB1.size))).mono ?_; rintro e W6 ⟨rfl, k6⟩)
              | (have kk := q6; (with_reducible refine ldQ (.tmp 6) ?_ ?_ g6 0 n.1 ?_ ?_ ?_); (focus rfl); (focus rfl); (focus rfl); (focus exact q6.range))
              | (have kk := r6; (with_reducible refine stQ0 (.tmp 6) (.tmp 20) ?_ ?_ g6 n.1 zeroQ ?_ ?_ ?_ ?_); (focus rfl); (focus rfl); (focus rfl); (focus rfl); (focus exact r6); intro W5 gr5 q6; have b5 := grown_below gr5 b6 h6 b6.size; clear r6)
              | ((with_reducible refine alG infoQz ?_ ?_ ?_); (focus rfl); (focus rfl); intro g6 W4 h6 l6 b6 r6))
            obtain ⟨hrg6, hB6⟩ := HGo.out _ b7
            go_roundw
            case rel => exact ⟨_, _, _, cnt1, ss ++ [n], rfl, rfl, hrg6, HC.out, HN.out.less hq hl, hB6⟩
            case measure => rw [hrg6.left_eq, HCN.out]; exact HLT.out
          · go_wp2_with (first
              | (have kk := q8; (with_reducible refine stO (.tmp 8) (.tmp 26) ?_ ?_ g8 q zeroO ?_ ?_ ?_ ?_); (focus rfl); (focus rfl); (focus rfl); (focus rfl); (focus exact q8); intro W7 gr7 r7; have b7 := bt b5 (grown_below gr7 (bt k6 b8) (Nat.le_trans k6.size h8) (bt k6 b8).size); clear q8)
              | (have kk := k6; (with_reducible refine alG infoOz ?_ ?_ ?_); (focus rfl); (focus rfl); intro g8 W8 h8 l8 b8 q8)
              | (have kk := q6; go_at_call 41; refine (hTn _ (hB1.trans (b5.mono hB1.size))).mono ?_; rintro e W6 ⟨rfl, k6⟩)
              | (have kk := q6; (with_reducible refine ldQ (.tmp 6) ?_ ?_ g6 0 n.1 ?_ ?_ ?_); (focus rfl); (focus rfl); (focus rfl); (focus exact q6.range))
              | (have kk := r6; (with_reducible refine stQ0 (.tmp 6) (.tmp 20) ?_ ?_ g6 n.1 zeroQ ?_ ?_ ?_ ?_); (focus rfl); (focus rfl); (focus rfl); (focus rfl); (focus exact r6); intro W5 gr5 q6; have b5 := grown_below gr5 b6 h6 b6.size; clear r6)
              | ((with_reducible refine alG infoQz ?_ ?_ ?_); (focus rfl); (focus rfl); intro g6 W4 h6 l6 b6 r6))
            obtain ⟨hrg6, hB6⟩ := HGo.out _ b7
            go_roundw
            case rel => exact ⟨_, _, _, cnt1, ss ++ [n], rfl, rfl, hrg6, HC.out, HN.out.more (by omega), hB6⟩
            case measure => rw [hrg6.left_eq, HCN.out]; exact HLT.out
end Go.Proofs.Ytiihlgcafppehaa
