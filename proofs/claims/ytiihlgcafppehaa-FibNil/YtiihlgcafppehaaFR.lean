/-
  Expand of one entry and of none.
-/
import Derived.Test.YtiihlgcafppehaaFQ
namespace Go.Proofs.Ytiihlgcafppehaa
open Go.RowKit Go.Maps Go.Shelf
set_option linter.unusedSimpArgs false
set_option linter.unusedVariables false
set_option maxRecDepth 20000
theorem tabR_one {e : En} (hk : Fa.chkQ e.p = 0) : tabR [e] = [e] := by
  show tabS [] e = [e]
  unfold tabS
  rw [if_pos ⟨rfl, hk⟩]
  rfl
/-- Expand under way: what is left is one entry. -/
structure Xs (w : World) (gs mb : Nat) (e : En) (V : World) : Prop where
  l : LE V gs 0 e
  g : gs < V.heap.size
  m : MpI V mb
  b : Below w.heap.size w V
theorem Xs.below {w V V' : World} {gs mb : Nat} {e : En} (h : Xs w gs mb e V) (hb : Below V.heap.size V V') : Xs w gs mb e V' :=
  ⟨h.l.below hb h.g, Nat.lt_of_lt_of_le h.g hb.size, h.m.below hb, bt h.b hb⟩
theorem MpI.ne {w : World} {mb g T : Nat} {cs : List Value} (h : MpI w mb) (hr : Row w g T cs) : g ≠ mb := by
  obtain ⟨es, cl, hb, _⟩ := h
  intro e
  subst e
  unfold Row at hr
  rw [hr] at hb
  cases hb
def lenV (v : Value) : Nat := match v with | .slice _ n _ => n | _ => 0
theorem expand_none {w : World} (ad : Option Addr) (c : Nat) : Calls Try.prog 13 #[.slice ad 0 c] w (Gives w (.slice none 0 0)) := by
  have hmk := run_mkI w
  go_enter Try.func13, Try.ntmps13
  go_upto_region 3 with fail
  refine name_world (R := fun W => Code.wp _ _ _ _ W) (P := fun W => Below w.heap.size w W) _ (ba _ _) ?_
  intro X bX
  clear hmk
  have hT := table_any (w := X) ad c ([] : List En) ⟨.inl rfl⟩ (by simp) (by simp)
  go_wp2_with (first
    | (go_at_call 30; refine hs.mono ?_; rintro e' w2 ⟨a2, c2, rfl, b2⟩)
    | (go_at_call 31; refine hT.mono ?_; rintro e' w1 ⟨mb, rfl, m1, h1, b1⟩; have hs := sorted_fib0 m1))
  have b3 := bt bX (bt b1 b2)
  clear hT hs m1 b1 b2
  go_loopw [3, 5] (fun v u wr => v = .slice none 0 0 ∧ u = .slice a2 0 c2 ∧ Below w.heap.size w wr) (fun _ _ _ => 0)
  case atStart => exact ⟨rfl, rfl, b3⟩
  case round =>
    obtain ⟨rfl, rfl, bR⟩ := hrel
    go_wp2_with fail
    go_ret
    exact ⟨rfl, bR⟩
set_option maxHeartbeats 8000000 in
theorem expand_one {w : World} (ad : Option Addr) (c : Nat) {e : En} (hl : EsW w ad [e]) (hf : wfQ e.p) (hk : Fa.chkQ e.p = 0) : Calls Try.prog 13 #[.slice ad 1 c] w fun e' w' => ∃ g' c', e' = .returned (.slice (some ⟨g', 0, none⟩) 1 c') ∧ kE.Own w' w.heap.size (.slice (some ⟨g', 0, none⟩) 1 c') [e] ∧ Below w.heap.size w w' := by
  have hmk := run_mkI w
  have hCS := covS_nil
  have hLS := lastS_nil
  have hPF := Fa.pfam_any e.p.d
  go_enter Try.func13, Try.ntmps13
  go_upto_region 3 with fail
  refine name_world (R := fun W => Code.wp _ _ _ _ W) (P := fun W => Below w.heap.size w W ∧ MpI W w.heap.size) _ ⟨ba _ _, World.ownsMap_made _ _ _ _⟩ ?_
  rintro X ⟨bX, mX⟩
  clear hmk
  have hT := table_any (w := X) ad c [e] (hl.below bX) (by simpa using hf) (by simp)
  rw [tabR_one hk] at hT
  clear hl hf hk
  go_wp2_with (first
    | (go_at_call 30; refine hs.mono ?_; rintro e' w2 ⟨gs, cs, rfl, o2, b2⟩)
    | (go_at_call 31; refine hT.mono ?_; rintro e' w1 ⟨mb, rfl, m1, h1, b1⟩; have hs := sorted_fib1 m1))
  have b3 := bt bX (bt b1 b2)
  have m3 := mX.below (bt b1 b2)
  have o3 := Kd.own_up o2 (Nat.le_trans bX.size b1.size)
  clear hT hs m1 b1 b2 o2 mX bX
  go_loopw [3, 5] (fun v u wr => ((v = .slice none 0 0 ∧ u = .slice (some ⟨gs, 0, none⟩) 1 cs ∧ kE.Own wr w.heap.size (.slice (some ⟨gs, 0, none⟩) 1 cs) [e] ∧ MpI wr w.heap.size) ∨ (∃ g' c' a' n', v = .slice (some ⟨g', 0, none⟩) 1 c' ∧ kE.Own wr w.heap.size (.slice (some ⟨g', 0, none⟩) 1 c') [e] ∧ u = .slice a' 0 n')) ∧ Below w.heap.size w wr) (fun _ u _ => lenV u)
  case atStart => exact ⟨.inl ⟨rfl, rfl, o3, m3⟩, b3⟩
  case round =>
    clear o3 m3 b3
    obtain ⟨⟨rfl, rfl, oR, mR⟩ | ⟨g', c', a', n', rfl, oR, rfl⟩, bR⟩ := hrel
    · have hsl := (EsW.own oR).2
      have hx0 : LE wr gs 0 e ∧ gs < wr.heap.size := by
        rcases hsl.lies with h | ⟨g2, o2, h, hg2, hc⟩
        · cases h
        · cases h
          exact ⟨by simpa using hc 0 e rfl, hg2⟩
      have hx : Xs w gs w.heap.size e wr := ⟨hx0.1, hx0.2, mR, bR⟩
      have hSD := sameDst_one (c := cs) hx0.1 hx0.2
      clear hsl hx0 mR bR oR
      go_upto_region 6 with (go_at_call 32; refine hSD.mono ?_; rintro e' W1 ⟨rfl, k1⟩)
      have x1 := hx.below k1
      clear hSD k1 hx
      go_upto_region 7 with fail
      generalize (if cs = 1 then (some ⟨gs, 0, none⟩ : Option Addr) else some ⟨gs, 51, none⟩) = rA
      have hD := dstOf_any (w := W1) (n := 1) (c := cs) (by omega) x1.l x1.g
      go_upto_region 8 with (first
        | (have kk := r7; (with_reducible refine stP0 (.tmp 7) (.tmp 25) ?_ ?_ g7 e.p.d ⟨zeroA, 0⟩ ?_ ?_ ?_ ?_); (focus rfl); (focus rfl); (focus rfl); (focus rfl); (focus exact r7); intro W4 gr4 q7; have x4 := (x1.below k2).below (grown_below gr4 b7 h7 b7.size); clear r7)
        | (have kk := k2; (with_reducible refine alG infoPz0 ?_ ?_ ?_); (focus rfl); (focus rfl); intro g7 W3 h7 l7 b7 r7)
        | (go_at_call 33; refine hD.mono ?_; rintro e' W2 ⟨rfl, k2⟩))
      clear hD k2 x1 gr4 b7 h7 l7
      go_upto_region 9 with (first
        | (have kk := q7; (with_reducible refine ldP (.tmp 7) ?_ ?_ g7 0 e.p.d ?_ ?_ ?_); (focus rfl); (focus rfl); (focus rfl); (focus exact q7.range))
        | (go_at_call 10; refine (hPF _).mono ?_; rintro e' W5 ⟨rfl, k5⟩))
      have x5 := x4.below k5
      have q57 := q7.below k5 q7.lt
      clear q7 x4 k5 hPF
      have hLk := x5.m.look e.p.d
      go_upto_region 10 with (first
        | (have kk := q57; (with_reducible refine lkG (.tmp 28) (.tmp 29) ?_ ?_ ?_ ?_ hLk ?_); (focus rfl); (focus rfl); (focus rfl); (focus rfl))
        | (have kk := q57; (with_reducible refine ldP (.tmp 7) ?_ ?_ g7 0 e.p.d ?_ ?_ ?_); (focus rfl); (focus rfl); (focus rfl); (focus exact q57.range))
        | (go_at_call 34; refine (hCS _ _ _).mono ?_; rintro e' W6 ⟨rfl, k6⟩))
      have x6 := x5.below k6
      clear x5 k6 hLk q57 hCS
      go_upto_region 11 with (first
        | (go_at_call 36; refine (hLS _).mono ?_; rintro e' W7 ⟨rfl, k7⟩; have x7 := x6.below k7; have hWi := within_one (c := cs) x7.l x7.g)
        | (have kk := x7; go_at_call 35; refine hWi.mono ?_; rintro e' W8 ⟨g8, c8, rfl, o8, k8⟩))
      have x8 := x7.below k8
      have o8w := Kd.own_up o8 x7.b.size
      clear x6 k7 hWi o8 k8 x7 hLS
      obtain ⟨hB8, cs8, h38⟩ := own_rowE o8w
      have hne8 := x8.m.ne h38
      clear h38
      go_upto_region 12 with (first
        | (have kk := u12; (with_reducible refine muG (.tmp 37) (.tmp 38) (.tmp 42) ?_ ?_ ?_ ?_ ?_ u12 ?_); (focus rfl); (focus rfl); (focus rfl); (focus rfl); (focus rfl))
        | (have kk := r9; at_builtin; refine apS (.tmp 39) (.tmp 41) (by rfl) rfl rfl _ 1 _ rfl rfl r9 ?_; intro v10 W10 b10; have x10 := (x8.below b9).below b10; have o10 := own_below (own_below o8w b9) b10; obtain ⟨W11, u12, gr11⟩ := x10.m.put e.p.d v10; clear r9)
        | (have kk := o8w; (with_reducible refine bsG (T := 71) (U := 22) (n := 1) [(0, .tmp 40)] [.slice (some ⟨g8, 0, none⟩) 1 c8] ?_ ?_ ?_ ?_); (focus rfl); (focus rfl); (focus exact (fun w => bsS1 (some ⟨g8, 0, none⟩) 1 c8 w)); intro W9 r9 b9))
      have o11 := World.ownsRow.kept o10 gr11 (.inr (by simp only [Value.ownBlock]; intro h; exact hne8 (Option.some.inj h)))
      have b11 := grown_below gr11 x10.b (Nat.le_refl _) x10.b.size
      clear u12 gr11 o10 x10 b10 b9 x8 o8w hne8
      have hE8 : LE W11 g8 0 e ∧ g8 < W11.heap.size := by
        rcases (EsW.own o11).2.lies with h | ⟨g2, o2, h, hg2, hc⟩
        · cases h
        · cases h
          exact ⟨by simpa using hc 0 e rfl, hg2⟩
      clear o11
      go_wp2_with (at_builtin; refine apE (.tmp 43) (.tmp 44) (by rfl) rfl w.heap.size (.slice none 0 0) [] rfl (World.ownsRow_nil _ _ _ _) g8 0 c8 e rfl hE8.1 (by simp) b11.size ?_; intro v12 W12 o12 gr12; have b12 := bt b11 (⟨gr12.os, gr12.tape, gr12.output, gr12.size, fun i hi => gr12.block i hi (by simp [Value.ownBlock])⟩ : Below W11.heap.size W11 W12); obtain ⟨a12, c12, rfl, hat⟩ := Kd.own_at o12; obtain ⟨gg12, rfl, _⟩ := hat (by simp))
      go_roundw
      case rel => exact ⟨.inr ⟨gg12, c12, rA, cs - 1, rfl, o12, rfl⟩, b12⟩
      case measure => simp [lenV]
    · go_wp2_with fail
      go_ret
      exact ⟨_, _, rfl, oR, bR⟩
end Go.Proofs.Ytiihlgcafppehaa
