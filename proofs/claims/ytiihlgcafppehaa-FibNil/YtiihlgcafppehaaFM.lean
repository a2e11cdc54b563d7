/-
  Drained: has the kernel just what is wanted?
-/
import Derived.Test.YtiihlgcafppehaaFL
namespace Go.Proofs.Ytiihlgcafppehaa
open Go.RowKit Go.Maps Go.Shelf
set_option linter.unusedSimpArgs false
set_option linter.unusedVariables false
set_option maxRecDepth 20000
/-- Is an entry there as it is? -/
def okE (W : List En) (n : En) : Bool := match getN mE W n.p with | some m => eqEn n m | none => false
def eqM (H W : List En) : Bool := decide (H.length = W.length) && H.all (okE W)
theorem eqM_no {H W : List En} {n : En} (h : n ∈ H) (k : okE W n = false) : eqM H W = false := by
  unfold eqM
  rw [Bool.and_eq_false_iff]
  exact .inr (List.all_eq_false.2 ⟨n, h, by rw [k]; decide⟩)
theorem eqM_yes {H W : List En} (h : H.length = W.length) (k : ∀ n ∈ H, okE W n = true) : eqM H W = true := by
  unfold eqM
  rw [decide_eq_true h, Bool.true_and]
  exact List.all_eq_true.2 k
theorem eqM_len {H W : List En} (h : H.length ≠ W.length) : eqM H W = false := by
  unfold eqM
  rw [decide_eq_false h, Bool.false_and]
set_option maxHeartbeats 16000000 in
theorem equal_any {w : World} {mH mW : Nat} {H W : List En} (hH : Mp mE w mH H) (hW : Mp mE w mW W) : Calls Try.prog 40 #[.map (some mH), .map (some mW)] w (Gives w (.bool (eqM H W))) := by
  have hl1 : ∀ ty, (Builtin.len_ #[67] ty #[.map (some mH)]).run Try.prog w = .ok (.int .i64 (H.length : Nat)) w := fun ty => hH.len ty
  have hl2 : ∀ ty, (Builtin.len_ #[67] ty #[.map (some mW)]).run Try.prog w = .ok (.int .i64 (W.length : Nat)) w := fun ty => hW.len ty
  by_cases hlen : H.length = W.length
  · have hne : ((H.length : Int) != (W.length : Int)) = false := by rw [hlen]; simp
    obtain ⟨D, hown, hsz, hhas, hat⟩ := hH.ex
    have hwf : ∀ n ∈ H, wfQ n.p := hH.wf
    have hnd : (H.map En.p).Nodup := hH.nd
    replace hhas : ∀ l : Lit, Go.Maps.has D l = true ↔ ∃ n ∈ H, kl n.p = l := hhas
    replace hat : ∀ n ∈ H, ∀ z, D.atKey (kl n.p) z = .held (eV n) := hat
    have hlk : ∀ p, wfQ p → ∀ V, Below w.heap.size w V → (Instr.lookup 67 (.map (some mW)) (Value.agg (qcells p).toArray) true).run Try.prog V = .ok (.tuple #[eV ((getN mE W p).getD zeroE), .bool (getN mE W p).isSome]) V := fun p hi V hV => (hW.below hV hW.lt).look hi
    clear hH hW
    go_enter Try.func40, Try.ntmps40
    go_wp2_with (first
      | (at_range; refine wpList_range_own _ rfl _ 67 rfl 34 36 keyLaw Try.underlying67 elV mH H.length D rfl hown ?_; intro w0 hrg0 hg0 hs0))
    try go_frame
    go_loopw [5] (fun _ wr => ∃ (left : Lit → Bool) (cnt : Nat) (ss : List En), wr.ranges Try.prog 34 elV mH w.heap.size H.length D left cnt ∧ Coll H left ss ∧ (∀ n ∈ ss, okE W n = true) ∧ Below w.heap.size w wr)
      (fun _ wr => wr.rangeLeft mH w.heap.size)
    case atStart => exact ⟨_, _, [], hrg0, ⟨H, by simp, hhas⟩, by simp, below_keepO (Below.refl _ _) hg0 (by simp) (Nat.le_refl _)⟩
    case round =>
      clear hrg0 hg0 hown hhas hsz hl1 hl2
      obtain ⟨left, cnt, ss, hrg, hC, hN, hB⟩ := hrel
      go_wp2_with (first
        | (at_next; refine wpList_next_ranges _ rfl _ rfl 34 keyLaw elV id id (fun key _ _ => ⟨key, rfl⟩) (fun v _ _ => ⟨v, rfl⟩) mH w.heap.size H.length _ _ _ rfl hrg ?_ ?_))
      · intro _ hl0
        have hp := hC.done hl0
        have hY := eqM_yes hlen fun n hn => hN n (hp.mem_iff.2 hn)
        clear hat hwf hnd hC hN hlk
        go_wp2_with fail
        go_ret
        exact ⟨by rw [hY]; rfl, hB⟩
      · intro y c lk yd yp w1 cnt1 hkey hlk1 hv hat1 hrg1 hlt hg1 hs1 hen
        obtain ⟨n, hnL, rfl, hC2⟩ := hC.step hwf hnd hlk1
        obtain rfl : y = (Value.agg (qcells n.p).toArray) := keyLaw.inj hkey (key_some n.p (hwf n hnL))
        have hc : c = eV n := by
          have e := hat1 (.held (eV n))
          rw [hat n hnL] at e
          have hv' : some (DataW.held c, ([] : List MemPlace)) = some (yd, yp) := hv
          cases hv'
          injection e with e
          exact e.symm
        subst hc
        have hB1 : Below w.heap.size w w1 := below_keepO hB hg1 (fun g hg e => by cases e; omega) hB.size
        have HC : Hid (Coll H (fun z => left z && !z.sameKey (kl n.p)) (ss ++ [n])) := hC2
        have HCN : Hid (wr.rangeLeft mH w.heap.size = cnt) := hrg.left_eq
        have HLT : Hid (cnt1 < cnt) := hlt
        have HN : Hid (okE W n = true → ∀ m ∈ ss ++ [n], okE W m = true) := fun h m hm => by
          rcases List.mem_append.1 hm with e | e
          · exact hN m e
          · simp at e; subst e; exact h
        have HF : Hid (okE W n = false → eqM H W = false) := fun h => eqM_no hnL h
        have HGo : Hid (∀ V, Below w1.heap.size w1 V → V.ranges Try.prog 34 elV mH w.heap.size H.length D (fun z => left z && !z.sameKey (kl n.p)) cnt1 ∧ Below w.heap.size w V) := fun V hV => by
          have hg : w1.grownBy V none := ⟨hV.os, hV.tape, hV.output, hV.size, fun i hi _ => hV.block i hi⟩
          exact ⟨by first | exact hrg1.kept hg (by simp) (by simp) | (rw [hlen]; exact hrg1.kept hg (by simp) (by simp)), hB1.trans (hV.mono hB1.size)⟩
        have HE : Hid (okE W n = match getN mE W n.p with | some m => eqEn n m | none => false) := rfl
        have hlkn := fun V hV => hlk n.p (hwf n hnL) V hV
        clear hC hC2 hN hrg hlt hrg1 hB hg1 hs1 hat hat1 hv hkey hlk1 hwf hnd hlk hnL
        cases ho : getN mE W n.p with
        | none =>
          rw [ho] at hlkn
          have hokf : okE W n = false := by rw [HE.out, ho]
          have hR := HF.out hokf
          go_wp2_with (first
            | (have kk := q7; (with_reducible refine stE (.tmp 7) (.tmp 25) ?_ ?_ g7 zeroE zeroE ?_ ?_ ?_ ?_); (focus rfl); (focus rfl); (focus rfl); (focus rfl); (focus exact q7); intro W8 gr8 r8; have b7 := bt b5 (grown_below gr8 b8 h8 b8.size); have r68 := (r66.below b8 r66.lt).keep gr8 (fun e => by have := r66.lt; omega); clear q7)
            | (have kk := r66; (with_reducible refine alG infoEz ?_ ?_ ?_); (focus rfl); (focus rfl); intro g7 V8 h8 l8 b8 q7)
            | (have kk := r66; (with_reducible refine lkG (.tmp 22) (.tmp 23) ?_ ?_ ?_ ?_ (hlkn _ (hB1.trans (b5.mono hB1.size))) ?_); (focus rfl); (focus rfl); (focus rfl); (focus rfl))
            | (have kk := r66; (with_reducible refine ldQ (.tmp 5) ?_ ?_ g5 0 n.p ?_ ?_ ?_); (focus rfl); (focus rfl); (focus rfl); (focus exact r56.range))
            | (have kk := q55; (with_reducible refine stE (.tmp 6) (.tmp 20) ?_ ?_ g6 n zeroE ?_ ?_ ?_ ?_); (focus rfl); (focus rfl); (focus rfl); (focus rfl); (focus exact (q6.keep gr5 (fun e => by omega))); intro W6 gr6 r66; have b5 := grown_below gr6 b55 h66 b55.size; have r56 := q55.keep gr6 (fun e => by omega); clear q55)
            | (have kk := q6; (with_reducible refine stQ0 (.tmp 5) (.tmp 19) ?_ ?_ g5 n.p zeroQ ?_ ?_ ?_ ?_); (focus rfl); (focus rfl); (focus rfl); (focus rfl); (focus exact (r5.below b6 l5)); intro W5 gr5 q55; have b55 := grown_below gr5 (bt b4 b6) h5 (bt b4 b6).size; have h66 : w1.heap.size ≤ g6 := Nat.le_trans b4.size h6; clear r5)
            | (have kk := r5; (with_reducible refine alG infoEz ?_ ?_ ?_); (focus rfl); (focus rfl); intro g6 W4 h6 l6 b6 q6)
            | ((with_reducible refine alG infoQz ?_ ?_ ?_); (focus rfl); (focus rfl); intro g5 W3 h5 l5 b4 r5))
          go_ret
          exact ⟨by rw [hR]; rfl, (HGo.out _ b7).2⟩
        | some m =>
          rw [ho] at hlkn
          have hEQ : ∀ V, (binOp .neq 36 (eV n) (eV m)).run Try.prog V = .ok (.bool (!eqEn n m)) V := fun V => run_neqE n m V
          have gEQ := fun op p q V => guardE op p q n m V
          have hoke : okE W n = eqEn n m := by rw [HE.out, ho]
          cases hb : eqEn n m with
          | true =>
            rw [hb] at hEQ hoke
            go_wp2_with (first
              | (have kk := r68; (with_reducible refine ldE (.tmp 7) ?_ ?_ g7 0 m ?_ ?_ ?_); (focus rfl); (focus rfl); (focus rfl); (focus exact r8.en))
              | (have kk := r68; (with_reducible refine ldE (.tmp 6) ?_ ?_ g6 0 n ?_ ?_ ?_); (focus rfl); (focus rfl); (focus rfl); (focus exact r68.en))
              | (have kk := q7; (with_reducible refine stE (.tmp 7) (.tmp 25) ?_ ?_ g7 m zeroE ?_ ?_ ?_ ?_); (focus rfl); (focus rfl); (focus rfl); (focus rfl); (focus exact q7); intro W8 gr8 r8; have b7 := bt b5 (grown_below gr8 b8 h8 b8.size); have r68 := (r66.below b8 r66.lt).keep gr8 (fun e => by have := r66.lt; omega); clear q7)
              | (have kk := r66; (with_reducible refine alG infoEz ?_ ?_ ?_); (focus rfl); (focus rfl); intro g7 V8 h8 l8 b8 q7)
              | (have kk := r66; (with_reducible refine lkG (.tmp 22) (.tmp 23) ?_ ?_ ?_ ?_ (hlkn _ (hB1.trans (b5.mono hB1.size))) ?_); (focus rfl); (focus rfl); (focus rfl); (focus rfl))
              | (have kk := r66; (with_reducible refine ldQ (.tmp 5) ?_ ?_ g5 0 n.p ?_ ?_ ?_); (focus rfl); (focus rfl); (focus rfl); (focus exact r56.range))
              | (have kk := q55; (with_reducible refine stE (.tmp 6) (.tmp 20) ?_ ?_ g6 n zeroE ?_ ?_ ?_ ?_); (focus rfl); (focus rfl); (focus rfl); (focus rfl); (focus exact (q6.keep gr5 (fun e => by omega))); intro W6 gr6 r66; have b5 := grown_below gr6 b55 h66 b55.size; have r56 := q55.keep gr6 (fun e => by omega); clear q55)
              | (have kk := q6; (with_reducible refine stQ0 (.tmp 5) (.tmp 19) ?_ ?_ g5 n.p zeroQ ?_ ?_ ?_ ?_); (focus rfl); (focus rfl); (focus rfl); (focus rfl); (focus exact (r5.below b6 l5)); intro W5 gr5 q55; have b55 := grown_below gr5 (bt b4 b6) h5 (bt b4 b6).size; have h66 : w1.heap.size ≤ g6 := Nat.le_trans b4.size h6; clear r5)
              | (have kk := r5; (with_reducible refine alG infoEz ?_ ?_ ?_); (focus rfl); (focus rfl); intro g6 W4 h6 l6 b6 q6)
              | ((with_reducible refine alG infoQz ?_ ?_ ?_); (focus rfl); (focus rfl); intro g5 W3 h5 l5 b4 r5))
            obtain ⟨hrg6, hB6⟩ := HGo.out _ b7
            go_roundw
            case rel => exact ⟨_, cnt1, ss ++ [n], hrg6, HC.out, HN.out hoke, hB6⟩
            case measure => rw [hrg6.left_eq, HCN.out]; exact HLT.out
          | false =>
            rw [hb] at hEQ hoke
            have hR := HF.out hoke
            go_wp2_with (first
              | (have kk := r68; (with_reducible refine ldE (.tmp 7) ?_ ?_ g7 0 m ?_ ?_ ?_); (focus rfl); (focus rfl); (focus rfl); (focus exact r8.en))
              | (have kk := r68; (with_reducible refine ldE (.tmp 6) ?_ ?_ g6 0 n ?_ ?_ ?_); (focus rfl); (focus rfl); (focus rfl); (focus exact r68.en))
              | (have kk := q7; (with_reducible refine stE (.tmp 7) (.tmp 25) ?_ ?_ g7 m zeroE ?_ ?_ ?_ ?_); (focus rfl); (focus rfl); (focus rfl); (focus rfl); (focus exact q7); intro W8 gr8 r8; have b7 := bt b5 (grown_below gr8 b8 h8 b8.size); have r68 := (r66.below b8 r66.lt).keep gr8 (fun e => by have := r66.lt; omega); clear q7)
              | (have kk := r66; (with_reducible refine alG infoEz ?_ ?_ ?_); (focus rfl); (focus rfl); intro g7 V8 h8 l8 b8 q7)
              | (have kk := r66; (with_reducible refine lkG (.tmp 22) (.tmp 23) ?_ ?_ ?_ ?_ (hlkn _ (hB1.trans (b5.mono hB1.size))) ?_); (focus rfl); (focus rfl); (focus rfl); (focus rfl))
              | (have kk := r66; (with_reducible refine ldQ (.tmp 5) ?_ ?_ g5 0 n.p ?_ ?_ ?_); (focus rfl); (focus rfl); (focus rfl); (focus exact r56.range))
              | (have kk := q55; (with_reducible refine stE (.tmp 6) (.tmp 20) ?_ ?_ g6 n zeroE ?_ ?_ ?_ ?_); (focus rfl); (focus rfl); (focus rfl); (focus rfl); (focus exact (q6.keep gr5 (fun e => by omega))); intro W6 gr6 r66; have b5 := grown_below gr6 b55 h66 b55.size; have r56 := q55.keep gr6 (fun e => by omega); clear q55)
              | (have kk := q6; (with_reducible refine stQ0 (.tmp 5) (.tmp 19) ?_ ?_ g5 n.p zeroQ ?_ ?_ ?_ ?_); (focus rfl); (focus rfl); (focus rfl); (focus rfl); (focus exact (r5.below b6 l5)); intro W5 gr5 q55; have b55 := grown_below gr5 (bt b4 b6) h5 (bt b4 b6).size; have h66 : w1.heap.size ≤ g6 := Nat.le_trans b4.size h6; clear r5)
              | (have kk := r5; (with_reducible refine alG infoEz ?_ ?_ ?_); (focus rfl); (focus rfl); intro g6 W4 h6 l6 b6 q6)
              | ((with_reducible refine alG infoQz ?_ ?_ ?_); (focus rfl); (focus rfl); intro g5 W3 h5 l5 b4 r5))
            go_ret
            exact ⟨by rw [hR]; rfl, (HGo.out _ b7).2⟩
  · have hne : ((H.length : Int) != (W.length : Int)) = true := by simp; omega
    have hR := eqM_len hlen
    clear hH hW
    go_enter Try.func40, Try.ntmps40
    go_wp2_with fail
    go_ret
    exact ⟨by rw [hR]; rfl, Below.refl _ _⟩
theorem drained_any {w : World} {f : Nat} {x : Fv} {W H : List En} {A : List (Pr × Int)} (h : Fb w f x W H A) : Calls Try.prog 22 #[.pointer (some ⟨f, 0, none⟩)] w (Gives w (.bool (x.d.k == 0 && eqM H W))) := by
  have hb := fun V (hV : Below w.heap.size w V) => busy_any (h.below hV)
  have hE := fun V (hV : Below w.heap.size w V) => equal_any (h.below hV).mh (h.below hV).mw
  have HK : Hid (∀ V, Below w.heap.size w V → V.cell? ⟨f, 0, none⟩ = some (.map (some x.mW)) ∧ V.cell? ⟨f, 1, none⟩ = some (.map (some x.mH))) := fun V hV => ⟨(h.below hV).row.f0, (h.below hV).row.f1⟩
  clear h
  generalize eqM H W = q at *
  by_cases hk : x.d.k = 0
  · rw [show (x.d.k != 0) = false by rw [hk]; rfl] at hb
    rw [show (x.d.k == 0) = true by rw [hk]; rfl]
    clear hk
    go_enter Try.func22, Try.ntmps22
    go_upto_region 1 with fail
    refine wp_region_noPanic ?_
    refine wp_region_held_drew (S := fun V => Below w.heap.size w V) (by kernel_rfl) ((Below.refl _ _).drew) (fun hHeld => ?_)
    refine take_lit (i := 0) (v := ?_) rfl (by kernel_rfl) (by kernel_rfl) (by kernel_rfl) (fun _ _ _ h => h) (Or.inl ⟨by rfl, ?_⟩) (by assumption) ?_
    rotate_left
    · (intro w hSw; (try dsimp only at hSw); go_simp <;> with_reducible rfl)
    try simp only [Act.put, List.setIfInBounds_toArray, List.set_cons_zero, List.set_cons_succ]
    refine take_lit (i := 1) (v := ?_) rfl (by kernel_rfl) (by kernel_rfl) (by kernel_rfl) (fun _ _ _ h => h) (Or.inl ⟨by rfl, ?_⟩) (by assumption) ?_
    rotate_left
    · (intro w hSw; (try dsimp only at hSw); go_simp <;> with_reducible rfl)
    try simp only [Act.put, List.setIfInBounds_toArray, List.set_cons_zero, List.set_cons_succ]
    refine take_lit (i := 2) (v := ?_) rfl (by kernel_rfl) (by kernel_rfl) (by kernel_rfl) (fun _ _ _ h => h) (Or.inl ⟨by rfl, ?_⟩) (by assumption) ?_
    rotate_left
    · (intro w hSw; (try dsimp only at hSw); go_simp <;> with_reducible rfl)
    try simp only [Act.put, List.setIfInBounds_toArray, List.set_cons_zero, List.set_cons_succ]
    refine take_lit (i := 3) (v := ?_) rfl (by kernel_rfl) (by kernel_rfl) (by kernel_rfl) (fun _ _ _ h => h) (Or.inl ⟨by rfl, ?_⟩) (by assumption) ?_
    rotate_left
    · (intro w hSw; (try dsimp only at hSw); go_simp <;> with_reducible rfl)
    try simp only [Act.put, List.setIfInBounds_toArray, List.set_cons_zero, List.set_cons_succ]
    refine wpAnyH_ready (rs := [4]) (by kernel_rfl) (by simp) ?_
    refine cons_lit rfl (fun K hK => ?_) ?_
    · go_simp
      refine (hb _ hHeld).mono ?_
      rintro e w1 ⟨rfl, rfl⟩
      refine hK.out _ _ ?_ (fun hHeld => ?_)
      · exact hHeld
      clear hK K
      try simp only [Act.put, List.setIfInBounds_toArray, List.set_cons_zero, List.set_cons_succ]
      refine take_lit (i := 5) (v := ?_) rfl (by kernel_rfl) (by kernel_rfl) (by kernel_rfl) (fun _ _ _ h => h) (Or.inl ⟨by rfl, ?_⟩) (by assumption) ?_
      rotate_left
      · (intro w hSw; (try dsimp only at hSw); go_simp <;> with_reducible rfl)
      try simp only [Act.put, List.setIfInBounds_toArray, List.set_cons_zero, List.set_cons_succ]
      refine take_lit (i := 6) (v := ?_) rfl (by kernel_rfl) (by kernel_rfl) (by kernel_rfl) (fun _ _ _ h => h) (Or.inl ⟨by rfl, ?_⟩) (by assumption) ?_
      rotate_left
      · (intro w hSw; (try dsimp only at hSw); go_simp <;> with_reducible rfl)
      try simp only [Act.put, List.setIfInBounds_toArray, List.set_cons_zero, List.set_cons_succ]
      refine take_lit (i := 7) (v := ?_) rfl (by kernel_rfl) (by kernel_rfl) (by kernel_rfl) (fun _ _ _ h => h) (Or.inl ⟨by rfl, ?_⟩) (by assumption) ?_
      rotate_left
      · (intro w hSw; (try dsimp only at hSw); go_simp <;> with_reducible rfl)
      try simp only [Act.put, List.setIfInBounds_toArray, List.set_cons_zero, List.set_cons_succ]
      refine take_lit (i := 8) (v := ?_) rfl (by kernel_rfl) (by kernel_rfl) (by kernel_rfl) (fun _ _ _ h => h) (Or.inl ⟨by rfl, ?_⟩) (by assumption) ?_
      rotate_left
      · (intro w hSw; (try dsimp only at hSw); go_simp <;> with_reducible rfl)
      try simp only [Act.put, List.setIfInBounds_toArray, List.set_cons_zero, List.set_cons_succ]
      refine take_lit (i := 9) (v := ?_) rfl (by kernel_rfl) (by kernel_rfl) (by kernel_rfl) (fun _ _ _ h => h) (Or.inl ⟨by rfl, ?_⟩) (by assumption) ?_
      rotate_left
      · (intro w hSw; (try dsimp only at hSw); go_simp <;> with_reducible rfl)
      try simp only [Act.put, List.setIfInBounds_toArray, List.set_cons_zero, List.set_cons_succ]
      refine take_lit (i := 10) (v := ?_) rfl (by kernel_rfl) (by kernel_rfl) (by kernel_rfl) (fun _ _ _ h => h) (Or.inl ⟨by rfl, ?_⟩) (by assumption) ?_
      rotate_left
      · (intro w hSw; (try dsimp only at hSw); have z := (HK.out _ hSw).2; go_simp <;> with_reducible rfl)
      try simp only [Act.put, List.setIfInBounds_toArray, List.set_cons_zero, List.set_cons_succ]
      refine take_lit (i := 11) (v := ?_) rfl (by kernel_rfl) (by kernel_rfl) (by kernel_rfl) (fun _ _ _ h => h) (Or.inl ⟨by rfl, ?_⟩) (by assumption) ?_
      rotate_left
      · (intro w hSw; (try dsimp only at hSw); go_simp <;> with_reducible rfl)
      try simp only [Act.put, List.setIfInBounds_toArray, List.set_cons_zero, List.set_cons_succ]
      refine take_lit (i := 12) (v := ?_) rfl (by kernel_rfl) (by kernel_rfl) (by kernel_rfl) (fun _ _ _ h => h) (Or.inl ⟨by rfl, ?_⟩) (by assumption) ?_
      rotate_left
      · (intro w hSw; (try dsimp only at hSw); go_simp <;> with_reducible rfl)
      try simp only [Act.put, List.setIfInBounds_toArray, List.set_cons_zero, List.set_cons_succ]
      refine take_lit (i := 13) (v := ?_) rfl (by kernel_rfl) (by kernel_rfl) (by kernel_rfl) (fun _ _ _ h => h) (Or.inl ⟨by rfl, ?_⟩) (by assumption) ?_
      rotate_left
      · (intro w hSw; (try dsimp only at hSw); go_simp <;> with_reducible rfl)
      try simp only [Act.put, List.setIfInBounds_toArray, List.set_cons_zero, List.set_cons_succ]
      refine take_lit (i := 14) (v := ?_) rfl (by kernel_rfl) (by kernel_rfl) (by kernel_rfl) (fun _ _ _ h => h) (Or.inl ⟨by rfl, ?_⟩) (by assumption) ?_
      rotate_left
      · (intro w hSw; (try dsimp only at hSw); have z := (HK.out _ hSw).1; go_simp <;> with_reducible rfl)
      try simp only [Act.put, List.setIfInBounds_toArray, List.set_cons_zero, List.set_cons_succ]
      refine wpAnyH_ready (rs := [15]) (by kernel_rfl) (by simp) ?_
      refine cons_lit rfl (fun K hK => ?_) ?_
      · go_simp
        refine (hE _ hHeld).mono ?_
        rintro e w2 ⟨rfl, k2⟩
        refine hK.out _ _ ?_ (fun hHeld => ?_)
        · exact bt hHeld k2
        clear hK K
        try simp only [Act.put, List.setIfInBounds_toArray, List.set_cons_zero, List.set_cons_succ]
        refine take_lit (i := 16) (v := ?_) rfl (by kernel_rfl) (by kernel_rfl) (by kernel_rfl) (fun _ _ _ h => h) (Or.inl ⟨by rfl, ?_⟩) (by assumption) ?_
        rotate_left
        · (intro w hSw; (try dsimp only at hSw); go_simp <;> with_reducible rfl)
        try simp only [Act.put, List.setIfInBounds_toArray, List.set_cons_zero, List.set_cons_succ]
        refine take_lit (i := 17) (v := ?_) rfl (by kernel_rfl) (by kernel_rfl) (by kernel_rfl) (fun _ _ _ h => h) (Or.inl ⟨by rfl, ?_⟩) (by assumption) ?_
        rotate_left
        · (intro w hSw; (try dsimp only at hSw); go_simp <;> with_reducible rfl)
        try simp only [Act.put, List.setIfInBounds_toArray, List.set_cons_zero, List.set_cons_succ]
        refine take_lit (i := 18) (v := ?_) rfl (by kernel_rfl) (by kernel_rfl) (by kernel_rfl) (fun _ _ _ h => h) (Or.inl ⟨by rfl, ?_⟩) (by assumption) ?_
        rotate_left
        · (intro w hSw; (try dsimp only at hSw); go_simp <;> with_reducible rfl)
        try simp only [Act.put, List.setIfInBounds_toArray, List.set_cons_zero, List.set_cons_succ]
        refine wpAnyH_done (by kernel_rfl) ?_ _
        refine NoPanic.normal ?_
        go_wp2_with fail
        go_ret
        exact ⟨by simp, hHeld⟩
      exact AllReadyH.nil
    exact AllReadyH.nil
  · rw [show (x.d.k != 0) = true by simpa using hk] at hb
    rw [show (x.d.k == 0) = false by simpa using hk]
    clear hk hE
    go_enter Try.func22, Try.ntmps22
    go_upto_region 1 with fail
    refine wp_region_noPanic ?_
    refine wp_region_held_drew (S := fun V => Below w.heap.size w V) (by kernel_rfl) ((Below.refl _ _).drew) (fun hHeld => ?_)
    refine take_lit (i := 0) (v := ?_) rfl (by kernel_rfl) (by kernel_rfl) (by kernel_rfl) (fun _ _ _ h => h) (Or.inl ⟨by rfl, ?_⟩) (by assumption) ?_
    rotate_left
    · (intro w hSw; (try dsimp only at hSw); go_simp <;> with_reducible rfl)
    try simp only [Act.put, List.setIfInBounds_toArray, List.set_cons_zero, List.set_cons_succ]
    refine take_lit (i := 1) (v := ?_) rfl (by kernel_rfl) (by kernel_rfl) (by kernel_rfl) (fun _ _ _ h => h) (Or.inl ⟨by rfl, ?_⟩) (by assumption) ?_
    rotate_left
    · (intro w hSw; (try dsimp only at hSw); go_simp <;> with_reducible rfl)
    try simp only [Act.put, List.setIfInBounds_toArray, List.set_cons_zero, List.set_cons_succ]
    refine take_lit (i := 2) (v := ?_) rfl (by kernel_rfl) (by kernel_rfl) (by kernel_rfl) (fun _ _ _ h => h) (Or.inl ⟨by rfl, ?_⟩) (by assumption) ?_
    rotate_left
    · (intro w hSw; (try dsimp only at hSw); go_simp <;> with_reducible rfl)
    try simp only [Act.put, List.setIfInBounds_toArray, List.set_cons_zero, List.set_cons_succ]
    refine take_lit (i := 3) (v := ?_) rfl (by kernel_rfl) (by kernel_rfl) (by kernel_rfl) (fun _ _ _ h => h) (Or.inl ⟨by rfl, ?_⟩) (by assumption) ?_
    rotate_left
    · (intro w hSw; (try dsimp only at hSw); go_simp <;> with_reducible rfl)
    try simp only [Act.put, List.setIfInBounds_toArray, List.set_cons_zero, List.set_cons_succ]
    refine wpAnyH_ready (rs := [4]) (by kernel_rfl) (by simp) ?_
    refine cons_lit rfl (fun K hK => ?_) ?_
    · go_simp
      refine (hb _ hHeld).mono ?_
      rintro e w1 ⟨rfl, rfl⟩
      refine hK.out _ _ ?_ (fun hHeld => ?_)
      · exact hHeld
      clear hK K
      try simp only [Act.put, List.setIfInBounds_toArray, List.set_cons_zero, List.set_cons_succ]
      refine take_lit (i := 5) (v := ?_) rfl (by kernel_rfl) (by kernel_rfl) (by kernel_rfl) (fun _ _ _ h => h) (Or.inl ⟨by rfl, ?_⟩) (by assumption) ?_
      rotate_left
      · (intro w hSw; (try dsimp only at hSw); go_simp <;> with_reducible rfl)
      try simp only [Act.put, List.setIfInBounds_toArray, List.set_cons_zero, List.set_cons_succ]
      refine take_lit (i := 6) (v := ?_) rfl (by kernel_rfl) (by kernel_rfl) (by kernel_rfl) (fun _ _ _ h => h) (Or.inl ⟨by rfl, ?_⟩) (by assumption) ?_
      rotate_left
      · (intro w hSw; (try dsimp only at hSw); go_simp <;> with_reducible rfl)
      try simp only [Act.put, List.setIfInBounds_toArray, List.set_cons_zero, List.set_cons_succ]
      refine take_lit (i := 7) rfl (by kernel_rfl) (by kernel_rfl) (by kernel_rfl) (fun _ _ _ h => h) (Or.inr ⟨by rfl, rfl⟩) (by assumption) ?_
      try simp only [Act.put, List.setIfInBounds_toArray, List.set_cons_zero, List.set_cons_succ]
      refine take_lit (i := 8) rfl (by kernel_rfl) (by kernel_rfl) (by kernel_rfl) (fun _ _ _ h => h) (Or.inr ⟨by rfl, rfl⟩) (by assumption) ?_
      try simp only [Act.put, List.setIfInBounds_toArray, List.set_cons_zero, List.set_cons_succ]
      refine take_lit (i := 9) rfl (by kernel_rfl) (by kernel_rfl) (by kernel_rfl) (fun _ _ _ h => h) (Or.inr ⟨by rfl, rfl⟩) (by assumption) ?_
      try simp only [Act.put, List.setIfInBounds_toArray, List.set_cons_zero, List.set_cons_succ]
      refine take_lit (i := 10) rfl (by kernel_rfl) (by kernel_rfl) (by kernel_rfl) (fun _ _ _ h => h) (Or.inr ⟨by rfl, rfl⟩) (by assumption) ?_
      try simp only [Act.put, List.setIfInBounds_toArray, List.set_cons_zero, List.set_cons_succ]
      refine take_lit (i := 11) rfl (by kernel_rfl) (by kernel_rfl) (by kernel_rfl) (fun _ _ _ h => h) (Or.inr ⟨by rfl, rfl⟩) (by assumption) ?_
      try simp only [Act.put, List.setIfInBounds_toArray, List.set_cons_zero, List.set_cons_succ]
      refine take_lit (i := 12) rfl (by kernel_rfl) (by kernel_rfl) (by kernel_rfl) (fun _ _ _ h => h) (Or.inr ⟨by rfl, rfl⟩) (by assumption) ?_
      try simp only [Act.put, List.setIfInBounds_toArray, List.set_cons_zero, List.set_cons_succ]
      refine take_lit (i := 13) rfl (by kernel_rfl) (by kernel_rfl) (by kernel_rfl) (fun _ _ _ h => h) (Or.inr ⟨by rfl, rfl⟩) (by assumption) ?_
      try simp only [Act.put, List.setIfInBounds_toArray, List.set_cons_zero, List.set_cons_succ]
      refine take_lit (i := 14) rfl (by kernel_rfl) (by kernel_rfl) (by kernel_rfl) (fun _ _ _ h => h) (Or.inr ⟨by rfl, rfl⟩) (by assumption) ?_
      try simp only [Act.put, List.setIfInBounds_toArray, List.set_cons_zero, List.set_cons_succ]
      refine take_lit (i := 15) rfl (by kernel_rfl) (by kernel_rfl) (by kernel_rfl) (fun _ _ _ h => h) (Or.inr ⟨by rfl, rfl⟩) (by assumption) ?_
      try simp only [Act.put, List.setIfInBounds_toArray, List.set_cons_zero, List.set_cons_succ]
      refine take_lit (i := 16) (v := ?_) rfl (by kernel_rfl) (by kernel_rfl) (by kernel_rfl) (fun _ _ _ h => h) (Or.inl ⟨by rfl, ?_⟩) (by assumption) ?_
      rotate_left
      · (intro w hSw; (try dsimp only at hSw); go_simp <;> with_reducible rfl)
      try simp only [Act.put, List.setIfInBounds_toArray, List.set_cons_zero, List.set_cons_succ]
      refine take_lit (i := 17) (v := ?_) rfl (by kernel_rfl) (by kernel_rfl) (by kernel_rfl) (fun _ _ _ h => h) (Or.inl ⟨by rfl, ?_⟩) (by assumption) ?_
      rotate_left
      · (intro w hSw; (try dsimp only at hSw); go_simp <;> with_reducible rfl)
      try simp only [Act.put, List.setIfInBounds_toArray, List.set_cons_zero, List.set_cons_succ]
      refine take_lit (i := 18) (v := ?_) rfl (by kernel_rfl) (by kernel_rfl) (by kernel_rfl) (fun _ _ _ h => h) (Or.inl ⟨by rfl, ?_⟩) (by assumption) ?_
      rotate_left
      · (intro w hSw; (try dsimp only at hSw); go_simp <;> with_reducible rfl)
      try simp only [Act.put, List.setIfInBounds_toArray, List.set_cons_zero, List.set_cons_succ]
      refine wpAnyH_done (by kernel_rfl) ?_ _
      refine NoPanic.normal ?_
      go_wp2_with fail
      go_ret
      exact ⟨by simp, hHeld⟩
    exact AllReadyH.nil
end Go.Proofs.Ytiihlgcafppehaa
