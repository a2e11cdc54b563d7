/-
  The document's PrefixFamily and CheckPair, for every prefix and pair.
-/
import Derived.Test.YtdibjgcokebfbaaGreatM07
import Derived.Test.YtdibjgcokebfbaaGreatM09
import Derived.Test.YtdibjgcokebfbaaGreatM08
import Derived.Test.YtdibjgcokebfbaaGreatM03
namespace Go.Proofs.YtdibjgcokebfbaaGreat
open Go.RowKit
set_option linter.unusedSimpArgs false
set_option maxRecDepth 20000
theorem rpfam_any (p : Pf) (w : World) : Calls Tryz.prog 53 #[(Value.agg (pcells p).toArray)] w (Gives w (.int .i64 (famP p))) := by
  have h0 := LP.new w p 40
  have h1 := h0.n
  have h2 := h0.a
  have hF := rfamily_any p.a
  obtain ⟨f, hf⟩ : ∃ f, famA p.a = f := ⟨_, rfl⟩
  obtain ⟨n, hn⟩ : ∃ n, p.n = n := ⟨_, rfl⟩
  rw [hf] at hF
  have HF : Hid (famP p = if 96 ≤ n ∧ f = 4 then 4 else 6) := by show _ = _; simp [famP, hf, hn]
  rw [hn] at h1
  simp only [Nat.zero_add] at h1
  clear hf hn
  go_enter Tryz.func53, Tryz.ntmps53
  go_wp2_with (first
    | (refine ldA (.tmp 7) rfl rfl _ _ p.a rfl h2 ?_)
    | (go_at_call 52; refine (hF _).mono ?_; rintro e w1 ⟨rfl, hB1⟩))
  · have h : f = 4 := by simpa using ‹(f == 4) = true›
    have h' : 96 ≤ n := by assumption
    go_ret
    exact ⟨by rw [HF.out, if_pos ⟨h', h⟩]; rfl, bt (ba _ _) hB1⟩
  · have h : ¬ f = 4 := by simpa using ‹(f == 4) = false›
    go_ret
    exact ⟨by rw [HF.out, if_neg (fun q => h q.2)]; rfl, bt (ba _ _) hB1⟩
  · have h : n < 96 := by assumption
    go_ret
    exact ⟨by rw [HF.out, if_neg (fun q => absurd q.1 (by omega))]; rfl, ba _ _⟩
theorem chk_02 (p : Pf) : chk p = 0 ∨ chk p = 21 := by
  unfold chk
  repeat' split
  all_goals simp
theorem rcheckQ_d (p : Pr) (w : World) (h : chk p.d = 21) : Calls Tryz.prog 31 #[(Value.agg (qcells p).toArray)] w (Gives w (.int .i64 21)) := by
  have hCd := rcheck_any p.d
  rw [h] at hCd
  go_enter Tryz.func31, Tryz.ntmps31
  go_wp2
  refine name_world (R := fun W => Code.wp _ _ _ _ W) (P := fun W => Below w.heap.size w W ∧ LQ W w.heap.size 0 p ∧ w.heap.size < W.heap.size) _ ⟨ba _ _, LQ.new _ _ _, by simp⟩ ?_
  rintro X ⟨hB, hP, hs⟩
  have HK : Hid (∀ W, Below X.heap.size X W → Below X.heap.size X W ∧ LQ W w.heap.size 0 p) := fun W h => ⟨h, hP.below h hs⟩
  refine wp_region_noPanic ?_
  refine wp_region_held_drew (S := fun W => Below X.heap.size X W ∧ LQ W w.heap.size 0 p) (by kernel_rfl) (HK.out _ (Below.refl _ _).drew) (fun hHeld => ?_)
  refine tA 0 ?_
  refine tL 1 rfl (yP p.d (fun w h => h.2.d) (by rfl) rfl rfl) ?_
  refine r1 2 fun K hK => ?_
  go_simp
  refine (hCd _).mono ?_
  rintro e w1 ⟨rfl, hB1⟩
  refine oK hK (by exact HK.out _ (hHeld.1.trans (hB1.mono hHeld.1.size))) fun hHeld => ?_
  clear hK K
  refine tA 3 ?_
  refine tA 4 ?_
  refine tN 5 ?_
  refine tN 6 ?_
  refine tN 7 ?_
  refine tN 8 ?_
  refine tA 9 ?_
  refine tA 10 ?_
  refine tN 11 ?_
  refine tN 12 ?_
  refine tN 13 ?_
  refine tN 14 ?_
  refine tN 15 ?_
  refine tN 16 ?_
  refine tN 17 ?_
  refine tA 18 ?_
  refine dN ?_
  refine NoPanic.normal ?_
  go_wp2
  go_ret
  exact ⟨rfl, hB.trans (hHeld.1.mono hB.size)⟩
theorem rcheckQ_s (p : Pr) (w : World) (h : chk p.d = 0) (h2 : chk p.s = 21) : Calls Tryz.prog 31 #[(Value.agg (qcells p).toArray)] w (Gives w (.int .i64 21)) := by
  have hCd := rcheck_any p.d
  rw [h] at hCd
  have hCs := rcheck_any p.s
  rw [h2] at hCs
  go_enter Tryz.func31, Tryz.ntmps31
  go_wp2
  refine name_world (R := fun W => Code.wp _ _ _ _ W) (P := fun W => Below w.heap.size w W ∧ LQ W w.heap.size 0 p ∧ w.heap.size < W.heap.size) _ ⟨ba _ _, LQ.new _ _ _, by simp⟩ ?_
  rintro X ⟨hB, hP, hs⟩
  have HK : Hid (∀ W, Below X.heap.size X W → Below X.heap.size X W ∧ LQ W w.heap.size 0 p) := fun W h => ⟨h, hP.below h hs⟩
  refine wp_region_noPanic ?_
  refine wp_region_held_drew (S := fun W => Below X.heap.size X W ∧ LQ W w.heap.size 0 p) (by kernel_rfl) (HK.out _ (Below.refl _ _).drew) (fun hHeld => ?_)
  refine tA 0 ?_
  refine tL 1 rfl (yP p.d (fun w h => h.2.d) (by rfl) rfl rfl) ?_
  refine r1 2 fun K hK => ?_
  go_simp
  refine (hCd _).mono ?_
  rintro e w1 ⟨rfl, hB1⟩
  refine oK hK (by exact HK.out _ (hHeld.1.trans (hB1.mono hHeld.1.size))) fun hHeld => ?_
  clear hK K
  refine tA 3 ?_
  refine tA 4 ?_
  refine tA 5 ?_
  refine tL 6 rfl (yP p.s (fun w h => h.2.s) (by rfl) rfl rfl) ?_
  refine r1 7 fun K hK => ?_
  go_simp
  refine (hCs _).mono ?_
  rintro e w2 ⟨rfl, hB2⟩
  refine oK hK (by exact HK.out _ (hHeld.1.trans (hB2.mono hHeld.1.size))) fun hHeld => ?_
  clear hK K
  refine tA 8 ?_
  refine tA 9 ?_
  refine tA 10 ?_
  refine tN 11 ?_
  refine tN 12 ?_
  refine tN 13 ?_
  refine tN 14 ?_
  refine tN 15 ?_
  refine tN 16 ?_
  refine tN 17 ?_
  refine tA 18 ?_
  refine dN ?_
  refine NoPanic.normal ?_
  go_wp2
  go_ret
  exact ⟨rfl, hB.trans (hHeld.1.mono hB.size)⟩
theorem rcheckQ_n (p : Pr) (w : World) (h : chk p.d = 0) (h2 : chk p.s = 0) (h3 : famP p.d ≠ famP p.s) : Calls Tryz.prog 31 #[(Value.agg (qcells p).toArray)] w (Gives w (.int .i64 21)) := by
  have hCd := rcheck_any p.d
  rw [h] at hCd
  have hCs := rcheck_any p.s
  rw [h2] at hCs
  have hFd := rpfam_any p.d
  have hFs := rpfam_any p.s
  generalize famP p.d = u at *
  generalize famP p.s = v at *
  have h3b : (u != v) = true := by simpa using h3
  go_enter Tryz.func31, Tryz.ntmps31
  go_wp2
  refine name_world (R := fun W => Code.wp _ _ _ _ W) (P := fun W => Below w.heap.size w W ∧ LQ W w.heap.size 0 p ∧ w.heap.size < W.heap.size) _ ⟨ba _ _, LQ.new _ _ _, by simp⟩ ?_
  rintro X ⟨hB, hP, hs⟩
  have HK : Hid (∀ W, Below X.heap.size X W → Below X.heap.size X W ∧ LQ W w.heap.size 0 p) := fun W h => ⟨h, hP.below h hs⟩
  refine wp_region_noPanic ?_
  refine wp_region_held_drew (S := fun W => Below X.heap.size X W ∧ LQ W w.heap.size 0 p) (by kernel_rfl) (HK.out _ (Below.refl _ _).drew) (fun hHeld => ?_)
  refine tA 0 ?_
  refine tL 1 rfl (yP p.d (fun w h => h.2.d) (by rfl) rfl rfl) ?_
  refine r1 2 fun K hK => ?_
  go_simp
  refine (hCd _).mono ?_
  rintro e w1 ⟨rfl, hB1⟩
  refine oK hK (by exact HK.out _ (hHeld.1.trans (hB1.mono hHeld.1.size))) fun hHeld => ?_
  clear hK K
  refine tA 3 ?_
  refine tA 4 ?_
  refine tA 5 ?_
  refine tL 6 rfl (yP p.s (fun w h => h.2.s) (by rfl) rfl rfl) ?_
  refine r1 7 fun K hK => ?_
  go_simp
  refine (hCs _).mono ?_
  rintro e w2 ⟨rfl, hB2⟩
  refine oK hK (by exact HK.out _ (hHeld.1.trans (hB2.mono hHeld.1.size))) fun hHeld => ?_
  clear hK K
  refine tA 8 ?_
  refine tA 9 ?_
  refine tA 10 ?_
  refine tA 11 ?_
  refine tL 12 rfl (yP p.d (fun w h => h.2.d) (by rfl) rfl rfl) ?_
  refine tA 14 ?_
  refine tL 15 rfl (yP p.s (fun w h => h.2.s) (by rfl) rfl rfl) ?_
  refine r1 13 fun K hK => ?_
  go_simp
  refine (hFd _).mono ?_
  rintro e w3 ⟨rfl, hB3⟩
  refine oK hK (by exact HK.out _ (hHeld.1.trans (hB3.mono hHeld.1.size))) fun hHeld => ?_
  clear hK K
  refine r1 16 fun K hK => ?_
  go_simp
  refine (hFs _).mono ?_
  rintro e w4 ⟨rfl, hB4⟩
  refine oK hK (by exact HK.out _ (hHeld.1.trans (hB4.mono hHeld.1.size))) fun hHeld => ?_
  clear hK K
  refine tA 17 ?_
  refine tA 18 ?_
  refine dN ?_
  refine NoPanic.normal ?_
  go_wp2
  go_ret
  exact ⟨rfl, hB.trans (hHeld.1.mono hB.size)⟩
theorem rcheckQ_y (p : Pr) (w : World) (h : chk p.d = 0) (h2 : chk p.s = 0) (h3 : famP p.d = famP p.s) : Calls Tryz.prog 31 #[(Value.agg (qcells p).toArray)] w (Gives w (.int .i64 0)) := by
  have hCd := rcheck_any p.d
  rw [h] at hCd
  have hCs := rcheck_any p.s
  rw [h2] at hCs
  have hFd := rpfam_any p.d
  have hFs := rpfam_any p.s
  rw [h3] at hFd
  generalize famP p.s = u at *
  go_enter Tryz.func31, Tryz.ntmps31
  go_wp2
  refine name_world (R := fun W => Code.wp _ _ _ _ W) (P := fun W => Below w.heap.size w W ∧ LQ W w.heap.size 0 p ∧ w.heap.size < W.heap.size) _ ⟨ba _ _, LQ.new _ _ _, by simp⟩ ?_
  rintro X ⟨hB, hP, hs⟩
  have HK : Hid (∀ W, Below X.heap.size X W → Below X.heap.size X W ∧ LQ W w.heap.size 0 p) := fun W h => ⟨h, hP.below h hs⟩
  refine wp_region_noPanic ?_
  refine wp_region_held_drew (S := fun W => Below X.heap.size X W ∧ LQ W w.heap.size 0 p) (by kernel_rfl) (HK.out _ (Below.refl _ _).drew) (fun hHeld => ?_)
  refine tA 0 ?_
  refine tL 1 rfl (yP p.d (fun w h => h.2.d) (by rfl) rfl rfl) ?_
  refine r1 2 fun K hK => ?_
  go_simp
  refine (hCd _).mono ?_
  rintro e w1 ⟨rfl, hB1⟩
  refine oK hK (by exact HK.out _ (hHeld.1.trans (hB1.mono hHeld.1.size))) fun hHeld => ?_
  clear hK K
  refine tA 3 ?_
  refine tA 4 ?_
  refine tA 5 ?_
  refine tL 6 rfl (yP p.s (fun w h => h.2.s) (by rfl) rfl rfl) ?_
  refine r1 7 fun K hK => ?_
  go_simp
  refine (hCs _).mono ?_
  rintro e w2 ⟨rfl, hB2⟩
  refine oK hK (by exact HK.out _ (hHeld.1.trans (hB2.mono hHeld.1.size))) fun hHeld => ?_
  clear hK K
  refine tA 8 ?_
  refine tA 9 ?_
  refine tA 10 ?_
  refine tA 11 ?_
  refine tL 12 rfl (yP p.d (fun w h => h.2.d) (by rfl) rfl rfl) ?_
  refine tA 14 ?_
  refine tL 15 rfl (yP p.s (fun w h => h.2.s) (by rfl) rfl rfl) ?_
  refine r1 13 fun K hK => ?_
  go_simp
  refine (hFd _).mono ?_
  rintro e w3 ⟨rfl, hB3⟩
  refine oK hK (by exact HK.out _ (hHeld.1.trans (hB3.mono hHeld.1.size))) fun hHeld => ?_
  clear hK K
  refine r1 16 fun K hK => ?_
  go_simp
  refine (hFs _).mono ?_
  rintro e w4 ⟨rfl, hB4⟩
  refine oK hK (by exact HK.out _ (hHeld.1.trans (hB4.mono hHeld.1.size))) fun hHeld => ?_
  clear hK K
  refine tA 17 ?_
  refine tA 18 ?_
  refine dN ?_
  refine NoPanic.normal ?_
  go_wp2
  go_ret
  exact ⟨rfl, hB.trans (hHeld.1.mono hB.size)⟩
theorem rcheckQ_any (p : Pr) (w : World) : Calls Tryz.prog 31 #[(Value.agg (qcells p).toArray)] w (Gives w (.int .i64 (chkQ p))) := by
  unfold chkQ
  rcases chk_02 p.d with h | h
  · rcases chk_02 p.s with h2 | h2
    · have e : orI (chk p.d) (chk p.s) = 0 := by rw [h, h2]; decide
      rw [e, if_neg (by simp)]
      by_cases h3 : famP p.d = famP p.s
      · rw [if_pos h3]; exact rcheckQ_y p w h h2 h3
      · rw [if_neg h3]; exact rcheckQ_n p w h h2 h3
    · have e : orI (chk p.d) (chk p.s) = 21 := by rw [h, h2]; decide
      rw [e, if_pos (by simp)]; exact rcheckQ_s p w h h2
  · have e : orI (chk p.d) (chk p.s) = 21 := by rcases chk_02 p.s with h2 | h2 <;> rw [h, h2] <;> decide
    rw [e, if_pos (by simp)]; exact rcheckQ_d p w h
end Go.Proofs.YtdibjgcokebfbaaGreat

namespace Go.Proofs.YtdibjgcokebfbaaGreat
open Go.RowKit
set_option linter.unusedSimpArgs false
set_option maxRecDepth 20000
theorem run_slH (b o h : Nat) (h2 : h ≤ 16) (w : World) : (Instr.sliceAt 23 (.pointer (some ⟨b, o, none⟩)) none (some (.int .i64 (h : Int))) none).run Tryz.prog w = .ok (.slice (some ⟨b, o, none⟩) h 16) w := by
  obtain ⟨i0, hi, hz0, hz1, hz2⟩ := info_parts info5
  rw [run_sliceAt_array_h w _ _ (by rw [arrA, elemA]; exact Tryz.underlying23) .i64 (h : Int) (by omega) (by rw [arrA]; omega), arrA, elemA]
  simp [sizeOf, typeInfo, hi, hz1, slicedAt, Addr.add_mid]
theorem ySH {ops : Array Oper} {S : World → Prop} {op : Oper} {a : Act} (x hi : Operand) (b o h : Nat) (zh : Int) (hw : Region.wanted op (yielded ops a.tmps) = true) (ho : op.op = .slice 23 x none (some hi) none) (hx : a.eval x = .pointer (some ⟨b, o, none⟩)) (hhi : a.eval hi = .int .i64 zh) (eh : zh = h) (h2 : h ≤ 16) : YieldsIf Tryz.prog ops S op (.slice (some ⟨b, o, none⟩) h 16) a :=
  .inl ⟨hw, fun w _ => by
    subst eh
    have := run_slH b o h h2 w
    unfold execOp
    simp only [ho, Option.map, hx, hhi, Sem.run_bind, this, Result.andThen_ok, Sem.run_pure]⟩
set_option maxHeartbeats 4000000 in
theorem rprefix7_any (p : Pf) (w : World) (h0 : 0 ≤ p.n) (h1 : p.n ≤ 128) : Calls Tryz.prog 59 #[(Value.agg (pcells p).toArray)] w (Pfxd w (pfxE p) (pfxN p) (pfxL p)) := by
  have RP := Row.new w 40 (pcells p)
  have HF := rpfam_any p
  have hf := famP_or2 p
  have h4 : famP p = 4 → 96 ≤ p.n := fun h => by unfold famP at h; split at h <;> simp_all
  obtain ⟨N, hN⟩ : ∃ N : Nat, p.n = N := ⟨p.n.toNat, by omega⟩
  have HC : Hid (∀ W, Row W w.heap.size 40 (pcells p) → W.cell? ⟨w.heap.size, 16, none⟩ = some (.int .i64 (N : Int))) := fun W r => by
    have := LP.n (w := W) (b := w.heap.size) (o := 0) (p := p) r.range
    rw [Nat.zero_add, hN] at this
    exact this
  unfold pfxE pfxN pfxL
  rw [hN] at h0 h1 h4
  rw [hN, Int.toNat_natCast]
  clear hN
  generalize famP p = f at *
  rcases hf with rfl | rfl
  · have h96 := h4 rfl
    have hM : 96 ≤ N := by omega
    obtain ⟨M, rfl⟩ : ∃ M, N = 96 + M := ⟨N - 96, by omega⟩
    have q0 : wrap64 (((96 + M : Nat) : Int) - 96) = (M : Int) := by unfold wrap64; omega
    clear h4
    go_enter Tryz.func59, Tryz.ntmps59
    go_wp2_with (first
      | (go_at_call 53; refine (HF _).mono ?_; rintro e w1 ⟨rfl, b1⟩; have r1 := RP.below b1 RP.lt; have c16 := HC.out _ r1)
      | (refine ldP (.tmp 1) (by rfl) rfl w.heap.size 0 p rfl RP.range ?_))
    have rX := r1.below (bd w1) r1.lt
    have bX := bt (bt (ba w (.cells (pcells p).toArray 40)) b1) (bd w1)
    have q1 : IntKind.i64.wrap (12 + IntKind.i64.wrap ((IntKind.i64.wrap (96 + (M : Int) - 96 + 7)).tdiv 8)) = ((12 + (M + 7) / 8 : Nat) : Int) := by rw [IntWalk.i64_in (96 + (M : Int) - 96 + 7) (by omega), IntWalk.i64_quo _ _ (by omega), IntWalk.i64_in _ (by omega)]; omega
    have q2 : IntKind.u8.wrap (96 + (M : Int) - 96) = ((M : Nat) : Int) := by rw [IntKind.wrap_u8]; omega
    clear c16 r1 q0
    refine wp_region_noPanic ?_
    refine wp_region_held_drew (S := fun W => Row W w.heap.size 40 (pcells p)) (by kernel_rfl) (rX) (fun hHeld => ?_)
    refine tA 0 ?_
    refine tA 1 ?_
    refine tA 2 ?_
    refine tA 3 ?_
    refine tA 4 ?_
    refine tA 5 ?_
    refine tA 6 ?_
    refine tL 7 rfl (ySA (.tmp 14) (.const (.int .i64 12)) (.tmp 18) w.heap.size 0 12 (12 + (M + 7) / 8) _ _ (by rfl) rfl rfl rfl rfl rfl (by first | exact q1 | omega) (by omega) (by omega) (by omega)) ?_
    refine tA 8 ?_
    refine tA 9 ?_
    refine tA 10 ?_
    refine dN ?_
    refine NoPanic.normal ?_
    go_wp2
    go_ret3
    have q4 : 96 + M - 96 = M := by omega
    have q5 : (96 + M + 7) / 8 - 12 = (M + 7) / 8 := by omega
    rw [q4, q5]
    exact ⟨some ⟨w.heap.size, 12, none⟩, (M + 7) / 8, 4, rfl, rX.partP 12 _ _ (by omega), bX⟩
  · go_enter Tryz.func59, Tryz.ntmps59
    go_wp2_with (first
      | (go_at_call 53; refine (HF _).mono ?_; rintro e w1 ⟨rfl, b1⟩; have r1 := RP.below b1 RP.lt; have c16 := HC.out _ r1)
      | (refine ldP (.tmp 1) (by rfl) rfl w.heap.size 0 p rfl RP.range ?_))
    have rX := r1.below (bd w1) r1.lt
    have bX := bt (bt (ba w (.cells (pcells p).toArray 40)) b1) (bd w1)
    have q1 : IntKind.i64.wrap ((IntKind.i64.wrap ((N : Int) + 7)).tdiv 8) = (((N + 7) / 8 : Nat) : Int) := by rw [IntWalk.i64_in ((N : Int) + 7) (by omega), IntWalk.i64_quo _ _ (by omega)]; omega
    have q2 : IntKind.u8.wrap (N : Int) = ((N : Nat) : Int) := by rw [IntKind.wrap_u8]; omega
    clear c16 r1
    refine wp_region_noPanic ?_
    refine wp_region_held_drew (S := fun W => Row W w.heap.size 40 (pcells p)) (by kernel_rfl) (rX) (fun hHeld => ?_)
    refine tA 0 ?_
    refine tA 1 ?_ (hv := by intro w hSw; (try dsimp only at hSw); have hm := HC.out _ hSw; go_simp <;> with_reducible rfl)
    refine tA 2 ?_
    refine tA 3 ?_
    refine tA 4 ?_
    refine tA 5 ?_ (hv := by intro w hSw; (try dsimp only at hSw); have hm := HC.out _ hSw; go_simp <;> with_reducible rfl)
    refine tA 6 ?_
    refine tA 7 ?_
    refine tL 8 rfl (ySH (.tmp 23) (.tmp 27) w.heap.size 0 ((N + 7) / 8) _ (by rfl) rfl rfl rfl (by first | exact q1 | omega) (by omega)) ?_
    refine tA 9 ?_
    refine tA 10 ?_
    refine tA 11 ?_
    refine dN ?_
    refine NoPanic.normal ?_
    go_wp2
    go_ret3
    exact ⟨_, _, _, by first | rfl | (rw [q2]; rfl) | (simp; done), rX.partP 0 _ _ (by omega), bX⟩
end Go.Proofs.YtdibjgcokebfbaaGreat

namespace Go.Proofs.YtdibjgcokebfbaaGreat
open Go.RowKit
set_option linter.unusedSimpArgs false
set_option maxRecDepth 20000
theorem rany_any (f : Int) (w : World) : Calls Tryz.prog 121 #[.int .i64 f] w (Gives w (Value.agg (pcells (anyP f)).toArray)) := by
  by_cases h : f = 4
  · have h' : (f == 4) = true := by simpa using h
    rw [show anyP f = ⟨mapA, 96⟩ by simp [anyP, h]]
    clear h
    go_enter Tryz.func121, Tryz.ntmps121
    go_wp2
    exact bodyPost_ret (retC rfl _ w.heap.size 0 rfl (lvP (LP.new w ⟨mapA, 96⟩ _))) rfl ⟨rfl, (Below.refl _ _).alloc (Nat.le_refl _) _⟩
  · have h' : (f == 4) = false := by simpa using h
    rw [show anyP f = ⟨zeroA, 0⟩ by simp [anyP, h]]
    clear h
    go_enter Tryz.func121, Tryz.ntmps121
    go_wp2
    exact bodyPost_ret (retC rfl _ w.heap.size 0 rfl (lvP (LP.new w ⟨zeroA, 0⟩ _))) rfl ⟨rfl, (Below.refl _ _).alloc (Nat.le_refl _) _⟩
theorem rspecific_any (p : Pr) (w : World) : Calls Tryz.prog 94 #[(Value.agg (qcells p).toArray)] w (Gives w (.bool (spec p))) := by
  have hF := rpfam_any p.s
  obtain ⟨f, hf⟩ : ∃ f, famP p.s = f := ⟨_, rfl⟩
  rw [hf] at hF
  have hY := rany_any f
  obtain ⟨q, hq⟩ : ∃ q, anyP f = q := ⟨_, rfl⟩
  rw [hq] at hY
  have he := eqP 9997 p.s q
  obtain ⟨b, hb⟩ : ∃ b, (decide (p.s.a.l = q.a.l) && decide (p.s.n = q.n)) = b := ⟨_, rfl⟩
  rw [hb] at he
  have HF : Hid (spec p = !b) := by show _ = _; simp only [spec, hf, hq, hb]
  clear hf hq hb
  go_enter Tryz.func94, Tryz.ntmps94
  go_wp2
  refine name_world (R := fun W => Code.wp _ _ _ _ W) (P := fun W => Below w.heap.size w W ∧ LQ W w.heap.size 0 p ∧ w.heap.size < W.heap.size) _ ⟨ba _ _, LQ.new _ _ _, by simp⟩ ?_
  rintro X ⟨hB, hP, hs⟩
  have HK : Hid (∀ W, Below X.heap.size X W → Below X.heap.size X W ∧ LQ W w.heap.size 0 p) := fun W h => ⟨h, hP.below h hs⟩
  refine wp_region_noPanic ?_
  refine wp_region_held_drew (S := fun W => Below X.heap.size X W ∧ LQ W w.heap.size 0 p) (by kernel_rfl) (HK.out _ (Below.refl _ _).drew) (fun hHeld => ?_)
  refine tA 0 ?_
  refine tL 1 rfl (yP p.s (fun w h => h.2.s) (by rfl) rfl rfl) ?_
  refine tA 2 ?_
  refine tL 3 rfl (yP p.s (fun w h => h.2.s) (by rfl) rfl rfl) ?_
  refine r1 4 fun K hK => ?_
  go_simp
  refine (hF _).mono ?_
  rintro e w1 ⟨rfl, hB1⟩
  refine oK hK (by exact HK.out _ (hHeld.1.trans (hB1.mono hHeld.1.size))) fun hHeld => ?_
  clear hK K
  refine r1 5 fun K hK => ?_
  go_simp
  refine (hY _).mono ?_
  rintro e w2 ⟨rfl, hB2⟩
  refine oK hK (by exact HK.out _ (hHeld.1.trans (hB2.mono hHeld.1.size))) fun hHeld => ?_
  clear hK K
  refine tA 6 ?_
  refine tA 7 ?_
  refine dN ?_
  refine NoPanic.normal ?_
  go_wp2
  go_ret
  exact ⟨by rw [HF.out]; rfl, hB.trans (hHeld.1.mono hB.size)⟩
/-- A slice that was just made is the call's own. -/
theorem own_row {W : World} {g B n : Nat} {cs : List Value} (h : Row W g 5 cs) (hn : cs.length = n) (h1 : n ≤ 1000000) (hB : B ≤ g) : W.ownsRow B 5 1 (.slice (some ⟨g, 0, none⟩) n n) n cs :=
  ⟨by omega, .inr ⟨g, n, cs.toArray, rfl, hB, h, Nat.le_refl _, by unfold maxLen; omega, by simp [hn], by simp [← hn]⟩⟩
set_option maxHeartbeats 4000000 in
theorem rsource7_any (p : Pr) (w : World) (h0 : 0 ≤ p.s.n) (h1 : p.s.n ≤ 128) : Calls Tryz.prog 60 #[(Value.agg (qcells p).toArray)] w (LaidN w (srcL p)) := by
  have RP := Row.new w 42 (qcells p)
  have HS := rspecific_any p
  have HX := fun W => rprefix7_any p.s W h0 h1
  have hN : pfxN p.s < 256 := by unfold pfxN; split <;> omega
  have hL := pfxL_len p.s
  unfold srcL
  generalize spec p = b at *
  generalize pfxE p.s = x at *
  generalize pfxN p.s = z at *
  generalize pfxL p.s = y at *
  clear h0 h1
  cases b
  · go_enter Tryz.func60, Tryz.ntmps60
    go_wp2_with (first
      | (go_at_call 94; refine (HS _).mono ?_; rintro e w1 ⟨rfl, b1⟩)
      | (refine ldQ (.tmp 1) (by rfl) rfl w.heap.size 0 p rfl RP.range ?_))
    go_ret
    exact ⟨none, 0, 0, rfl, World.ownsRow_nil _ _ _ _, bt (ba _ _) b1⟩
  · have HY : Hid (y.length ≤ 16) := hL
    have ez : bcells [UInt8.ofNat z] = [.int .u8 (z : Int)] := by simp [bcells]; omega
    clear hL hN
    go_enter Tryz.func60, Tryz.ntmps60
    go_upto_region 4 with (first
      | (go_at_call 59; have kk := b1; refine (HX _).mono ?_; rintro e w2 ⟨s, n, c, rfl, s2, b2⟩)
      | (have kk := b1; refine ldP (.tmp 10) (by rfl) rfl w.heap.size 17 p.s rfl (LQ.s (RP.below b1 RP.lt).range) ?_)
      | (go_at_call 94; refine (HS _).mono ?_; rintro e w1 ⟨rfl, b1⟩)
      | (refine ldQ (.tmp 1) (by rfl) rfl w.heap.size 0 p rfl RP.range ?_))
    have hy := s2.blen
    have r3 := Row.new w2 5 [.int .u8 (z : Int)]
    have o3 := own_row (n := 1) r3 rfl (by decide) (Nat.le_refl _)
    have HYn : Hid (1 + n ≤ 140737488355328 ∧ 1 + n ≤ 255) := by have := HY.out; constructor <;> omega
    have B3 := bt (bt (bt (ba w (.cells (qcells p).toArray 42)) b1) b2) (ba w2 (.cells #[.int .u8 (z : Int)] 5))
    clear HY hy
    go_wp2_with (first
      | (go_at_call 36; have kk := o4; refine (rjoin7_any 128 (by decide) a4 _ c4 _ _ s4 HYn.out.2).mono ?_; rintro e w5 ⟨a5, n5, c5, rfl, o5, b5⟩)
      | (at_builtin; refine append_src rfl (.tmp 17) (.tmp 18) rfl w2.heap.size _ 1 [.int .u8 (z : Int)] rfl o3 s n c (bcells y) rfl (s2.alloc _) (bcells_one y) HYn.out.1 (by simp) ?_; intro v4 w4 o4 g4 _; rw [← ez, ← bcells_append] at o4; obtain ⟨a4, c4, rfl⟩ := own_shape o4; obtain ⟨_, _, e4, s4, _⟩ := Src.ofOwn o4; cases e4))
    go_ret
    have B4 := B3.grown g4 B3.size (fun k hk => by have := (o3.lt k hk).1; have := (bt (bt (ba w (.cells (qcells p).toArray 42)) b1) b2).size; omega)
    exact ⟨a5, n5, c5, rfl, own_le o5 B4.size, bt B4 b5⟩
end Go.Proofs.YtdibjgcokebfbaaGreat

namespace Go.Proofs.YtdibjgcokebfbaaGreat
open Go.RowKit
set_option linter.unusedSimpArgs false
set_option maxRecDepth 20000

/-- A Tlv that may be: what its piece needs. -/
structure TOk (k : TK) : Prop where
  fit : TFit k
  nam : namB k.ty = true
  st : k.st.length ≤ 2
  d0 : 0 ≤ k.pr.d.n
  d1 : k.pr.d.n ≤ 128
  s0 : 0 ≤ k.pr.s.n
  s1 : k.pr.s.n ≤ 128
theorem namB_cases' {y : Nat} (h : namB y = true) : y = 2 ∨ y = 3 ∨ y = 4 ∨ y = 5 ∨ y = 8 ∨ y = 9 ∨ y = 10 := by simpa [namB] using h
theorem body_any (t : Tl) (w : World) (ht : TSrc w t) (h : TOk t.key) : Calls Tryz.prog 66 #[.agg (tcells t).toArray] w (LaidN w (bodL t.key)) := by
  have hn : t.sn ≤ 2 := by rw [TSrc.len ht]; exact h.st
  rcases namB_cases' h.nam with hy | hy | hy | hy | hy | hy | hy
  · exact body_2 t w h.fit hy
  · exact body_3 t w h.fit hy
  · exact body_4 t w ht h.fit hy hn
  · exact body_5 t w ht h.fit hy hn
  · exact body_8 t w h.fit hy (.inr ⟨h.d0, h.d1⟩) h.s0 h.s1
  · exact body_9 t w hy (.inr ⟨h.d0, h.d1⟩) h.s0 h.s1
  · exact body_10 t w h.fit hy (.inr ⟨h.d0, h.d1⟩) h.s0 h.s1
/-- A piece in memory of the call's own. -/
def Pcd (w : World) (p : PK) (e : Ending) (w' : World) : Prop := ∃ a n c, e = .returned (.agg #[.int .u8 (p.1.toNat : Int), .slice a n c]) ∧ w'.ownsRow w.heap.size 5 1 (.slice a n c) n (bcells p.2) ∧ Below w.heap.size w w'
section
variable {ops : Array Oper} {op : Oper} {a : Act} {w : World} {K : Act → World → Prop} {Q : Exit → Act → World → Prop} {E : Prop}
theorem sStR (x y : Operand) (hw : Region.wanted op (yielded ops a.tmps) = true) (ho : op.op = .store 94 x y) (b : Nat) (u v u' v' : Value) (hx : a.eval x = .pointer (some ⟨b, 0, none⟩)) (hy : a.eval y = .agg #[u, v]) (hr : Row w b 94 [u', v'])
    (h1 : u.oneCell' = true) (h2 : v.oneCell' = true)
    (h : ∀ w', w.grownBy w' (some b) → Row w' b 94 [u, v] → K (a.put op.dst undef) w') : if Region.wanted op (yielded ops a.tmps) = true then Oper.wp Tryz.prog op a w K Q else E := by
  rw [if_pos hw]
  refine wp_store_mid _ x y ho b 0 _ hx hy (by simpa using hr.there (n := 2) (by simp)) (by rw [infoR]; simp) (all_oneCell_toArray (cs := [u, v]) (by intro z hz; simp at hz; rcases hz with rfl | rfl <;> assumption)) (h _ ?_ ?_)
  · have k := grownBy_trans (grownBy_setCell w b 0 u) (grownBy_setCell _ b 1 v)
    simpa [World.setCells] using k
  · have q := (hr.set 0 u).set 1 v
    simpa [World.setCells] using q
end
/-- Behind the store of a piece: it, its body, and what was below. -/
theorem Pcd.of {w W W' : World} {l : List UInt8} {a : Option Addr} {n c g : Nat} {cs : List Value} (hB : Below w.heap.size w W) (hg : W.grownBy W' (some g)) (hr : Row W g 94 cs) (hge : w.heap.size ≤ g) (ho : W.ownsRow w.heap.size 5 1 (.slice a n c) n (bcells l)) : w.heap.size ≤ g ∧ W'.ownsRow w.heap.size 5 1 (.slice a n c) n (bcells l) ∧ Below w.heap.size w W' :=
  ⟨hge, own_keep ho hg (.inl fun e => own_ne ho hr ne51 e.symm), hB.grown hg hB.size (fun k hk => by cases hk; exact hge)⟩
theorem routerPiece_any (i : Id8) (w : World) : Calls Tryz.prog 86 #[.agg (icells i).toArray] w (Pcd w (rtrK i)) := by
  have RI := (Row.new w 38 (icells i)).alloc (.cells #[.int .u8 0, .slice none 0 0] 94)
  have RR := two_newR w (.cells (icells i).toArray 38) 94 [.int .u8 0, .slice none 0 0]
  have BX := bt (ba w (.cells (icells i).toArray 38)) (ba _ (.cells #[.int .u8 0, .slice none 0 0] 94))
  have HI : Hid (i.l.length ≤ 1000) := by show _ ≤ _; rw [i.len]; decide
  have HB : Hid (∀ x ∈ [0], x < 65536) := fun x hx => by simp at hx; subst hx; decide
  obtain ⟨LL, HE0⟩ : ∃ LL, [] ++ List.flatMap hw [0] ++ i.l = LL := ⟨_, rfl⟩
  have HE : Hid ([] ++ List.flatMap hw [0] ++ i.l = LL) := HE0
  clear HE0
  have HK : Hid (rtrK i = (6, LL)) := by show _ = _; rw [← HE.out]; rfl
  rw [HK.out]
  clear HK
  go_enter Tryz.func86, Tryz.ntmps86
  go_wp2
  refine name_world (R := fun W => Code.wp _ _ _ _ W) (P := fun W => Below w.heap.size w W ∧ Row W w.heap.size 38 (icells i) ∧ Row W (w.heap.size + 1) 94 [.int .u8 0, .slice none 0 0]) _ ⟨BX, RI, RR⟩ ?_
  rintro X ⟨hB, hR, hP⟩
  have rX := hR.below (bd X) hR.lt
  have pX := hP.below (bd X) hP.lt
  have bX := bt hB (bd X)
  clear hR hB hP BX RR RI
  refine wp_region_noPanic ?_
  refine wp_region_held_drew (S := fun W => Row W w.heap.size 38 (icells i)) (by kernel_rfl) (rX) (fun hHeld => ?_)
  refine tA 2 ?_
  refine rM [0,3] ?_
  refine cL (fun K hK => ?_) ?_
  · skip
    refine sBS [(0, .const (.int .u16 0))] (n16 [0]) (by rfl) rfl (rb16_1 _) rfl ?_
    intro g0 w0 s0 d0
    replace bX := bt bX d0
    replace rX := rX.below d0 rX.lt
    replace pX := pX.below d0 pX.lt
    try replace s3 := s3.below d0 s3.lt
    clear d0
    refine oK hK (by exact rX) fun hHeld => ?_
    clear hK K
    refine rM [1,3] ?_
    refine cL (fun K hK => ?_) ?_
    · skip
      go_simp
      refine (callsN (put16_n none 0 0 [] (some ⟨g0, 0, none⟩) 1 1 [0] _ (Src.nil _) s0 HB.out (by simp) (by simp))).mono ?_
      rintro e w1 ⟨a1, n1, c1, rfl, o1, d1⟩
      have s1 := own_srcP o1
      replace bX := bt bX d1
      replace rX := rX.below d1 rX.lt
      replace pX := pX.below d1 pX.lt
      try replace s3 := s3.below d1 s3.lt
      clear d1 o1
      refine oK hK (by exact rX) fun hHeld => ?_
      clear hK K
      refine r1 3 fun K hK => ?_
      refine sBS [(0, .tmp 5)] (svcells [⟨some ⟨w.heap.size, 0, none⟩, 8, 8, i.l⟩]) (by rfl) rfl (rbS_1 ⟨some ⟨w.heap.size, 0, none⟩, 8, 8, i.l⟩) rfl ?_
      intro g3 w3 s3 d3
      replace bX := bt bX d3
      replace rX := rX.below d3 rX.lt
      replace pX := pX.below d3 pX.lt
      try replace s0 := s0.below d3 s0.lt
      try replace s1 := s1.below d3 s1.lt
      clear d3
      refine oK hK (by exact rX) fun hHeld => ?_
      clear hK K
      refine r1 4 fun K hK => ?_
      go_simp
      refine (callsN (putb_1 a1 _ c1 _ (some ⟨g3, 0, none⟩) ⟨some ⟨w.heap.size, 0, none⟩, 8, 8, i.l⟩ _ s1 s3 (Row.part (pre := []) (mid := icells i) (post := []) (by simpa using rX) 8 rfl (icells_len i)) (by simp [hw_len]) HI.out)).mono ?_
      rintro e w4 ⟨a4, n4, c4, rfl, o4, d4⟩
      have z4 := bX.size
      replace bX := bt bX d4
      replace rX := rX.below d4 rX.lt
      replace pX := pX.below d4 pX.lt
      replace o4 := own_cast HE.out (own_le o4 z4)
      clear d4
      refine oK hK (by exact rX) fun hHeld => ?_
      clear hK K
      refine tA 5 ?_
      refine r1 6 fun K hK => ?_
      refine sStR (.tmp 2) (.tmp 8) (by rfl) rfl (w.heap.size + 1) (.int .u8 6) (.slice a4 _ c4) _ _ rfl rfl pX rfl rfl ?_
      intro w6 g6 r6
      obtain ⟨z6, o6, b6⟩ := Pcd.of bX g6 pX (Nat.le_succ _) o4
      replace rX := rX.grown g6 (by simp)
      refine oK hK (by exact rX) fun hHeld => ?_
      clear hK K
      refine dN ?_
      refine NoPanic.normal ?_
      go_wp2
      exact bodyPost_ret (retC rfl _ _ 0 rfl (lvR r6.range)) rfl ⟨a4, n4, c4, rfl, o6, b6⟩
    refine cE fun K hK => ?_
    refine sBS [(0, .tmp 5)] (svcells [⟨some ⟨w.heap.size, 0, none⟩, 8, 8, i.l⟩]) (by rfl) rfl (rbS_1 ⟨some ⟨w.heap.size, 0, none⟩, 8, 8, i.l⟩) rfl ?_
    intro g3 w3 s3 d3
    replace bX := bt bX d3
    replace rX := rX.below d3 rX.lt
    replace pX := pX.below d3 pX.lt
    try replace s0 := s0.below d3 s0.lt
    try replace s1 := s1.below d3 s1.lt
    clear d3
    refine oK hK (by exact rX) fun hHeld => ?_
    clear hK K
    refine r1 1 fun K hK => ?_
    go_simp
    refine (callsN (put16_n none 0 0 [] (some ⟨g0, 0, none⟩) 1 1 [0] _ (Src.nil _) s0 HB.out (by simp) (by simp))).mono ?_
    rintro e w1 ⟨a1, n1, c1, rfl, o1, d1⟩
    have s1 := own_srcP o1
    replace bX := bt bX d1
    replace rX := rX.below d1 rX.lt
    replace pX := pX.below d1 pX.lt
    try replace s3 := s3.below d1 s3.lt
    clear d1 o1
    refine oK hK (by exact rX) fun hHeld => ?_
    clear hK K
    refine r1 4 fun K hK => ?_
    go_simp
    refine (callsN (putb_1 a1 _ c1 _ (some ⟨g3, 0, none⟩) ⟨some ⟨w.heap.size, 0, none⟩, 8, 8, i.l⟩ _ s1 s3 (Row.part (pre := []) (mid := icells i) (post := []) (by simpa using rX) 8 rfl (icells_len i)) (by simp [hw_len]) HI.out)).mono ?_
    rintro e w4 ⟨a4, n4, c4, rfl, o4, d4⟩
    have z4 := bX.size
    replace bX := bt bX d4
    replace rX := rX.below d4 rX.lt
    replace pX := pX.below d4 pX.lt
    replace o4 := own_cast HE.out (own_le o4 z4)
    clear d4
    refine oK hK (by exact rX) fun hHeld => ?_
    clear hK K
    refine tA 5 ?_
    refine r1 6 fun K hK => ?_
    refine sStR (.tmp 2) (.tmp 8) (by rfl) rfl (w.heap.size + 1) (.int .u8 6) (.slice a4 _ c4) _ _ rfl rfl pX rfl rfl ?_
    intro w6 g6 r6
    obtain ⟨z6, o6, b6⟩ := Pcd.of bX g6 pX (Nat.le_succ _) o4
    replace rX := rX.grown g6 (by simp)
    refine oK hK (by exact rX) fun hHeld => ?_
    clear hK K
    refine dN ?_
    refine NoPanic.normal ?_
    go_wp2
    exact bodyPost_ret (retC rfl _ _ 0 rfl (lvR r6.range)) rfl ⟨a4, n4, c4, rfl, o6, b6⟩
  refine cE fun K hK => ?_
  refine sBS [(0, .tmp 5)] (svcells [⟨some ⟨w.heap.size, 0, none⟩, 8, 8, i.l⟩]) (by rfl) rfl (rbS_1 ⟨some ⟨w.heap.size, 0, none⟩, 8, 8, i.l⟩) rfl ?_
  intro g3 w3 s3 d3
  replace bX := bt bX d3
  replace rX := rX.below d3 rX.lt
  replace pX := pX.below d3 pX.lt
  try replace s0 := s0.below d3 s0.lt
  try replace s1 := s1.below d3 s1.lt
  clear d3
  refine oK hK (by exact rX) fun hHeld => ?_
  clear hK K
  refine r1 0 fun K hK => ?_
  refine sBS [(0, .const (.int .u16 0))] (n16 [0]) (by rfl) rfl (rb16_1 _) rfl ?_
  intro g0 w0 s0 d0
  replace bX := bt bX d0
  replace rX := rX.below d0 rX.lt
  replace pX := pX.below d0 pX.lt
  try replace s3 := s3.below d0 s3.lt
  clear d0
  refine oK hK (by exact rX) fun hHeld => ?_
  clear hK K
  refine r1 1 fun K hK => ?_
  go_simp
  refine (callsN (put16_n none 0 0 [] (some ⟨g0, 0, none⟩) 1 1 [0] _ (Src.nil _) s0 HB.out (by simp) (by simp))).mono ?_
  rintro e w1 ⟨a1, n1, c1, rfl, o1, d1⟩
  have s1 := own_srcP o1
  replace bX := bt bX d1
  replace rX := rX.below d1 rX.lt
  replace pX := pX.below d1 pX.lt
  try replace s3 := s3.below d1 s3.lt
  clear d1 o1
  refine oK hK (by exact rX) fun hHeld => ?_
  clear hK K
  refine r1 4 fun K hK => ?_
  go_simp
  refine (callsN (putb_1 a1 _ c1 _ (some ⟨g3, 0, none⟩) ⟨some ⟨w.heap.size, 0, none⟩, 8, 8, i.l⟩ _ s1 s3 (Row.part (pre := []) (mid := icells i) (post := []) (by simpa using rX) 8 rfl (icells_len i)) (by simp [hw_len]) HI.out)).mono ?_
  rintro e w4 ⟨a4, n4, c4, rfl, o4, d4⟩
  have z4 := bX.size
  replace bX := bt bX d4
  replace rX := rX.below d4 rX.lt
  replace pX := pX.below d4 pX.lt
  replace o4 := own_cast HE.out (own_le o4 z4)
  clear d4
  refine oK hK (by exact rX) fun hHeld => ?_
  clear hK K
  refine tA 5 ?_
  refine r1 6 fun K hK => ?_
  refine sStR (.tmp 2) (.tmp 8) (by rfl) rfl (w.heap.size + 1) (.int .u8 6) (.slice a4 _ c4) _ _ rfl rfl pX rfl rfl ?_
  intro w6 g6 r6
  obtain ⟨z6, o6, b6⟩ := Pcd.of bX g6 pX (Nat.le_succ _) o4
  replace rX := rX.grown g6 (by simp)
  refine oK hK (by exact rX) fun hHeld => ?_
  clear hK K
  refine dN ?_
  refine NoPanic.normal ?_
  go_wp2
  exact bodyPost_ret (retC rfl _ _ 0 rfl (lvR r6.range)) rfl ⟨a4, n4, c4, rfl, o6, b6⟩
theorem hopPiece_any (x : Ad) (w : World) : Calls Tryz.prog 87 #[(Value.agg (acells x).toArray)] w (Pcd w (hopK x)) := by
  have RI := (Row.new w 23 (acells x)).alloc (.cells #[.int .u8 0, .slice none 0 0] 94)
  have RR := two_newR w (.cells (acells x).toArray 23) 94 [.int .u8 0, .slice none 0 0]
  have BX := bt (ba w (.cells (acells x).toArray 23)) (ba _ (.cells #[.int .u8 0, .slice none 0 0] 94))
  have HA := kaddress_any x
  obtain ⟨LL, HE0⟩ : ∃ LL, [] ++ List.map UInt8.ofNat [(adrE x).toNat, 0] ++ adrL x = LL := ⟨_, rfl⟩
  have HE : Hid ([] ++ List.map UInt8.ofNat [(adrE x).toNat, 0] ++ adrL x = LL) := HE0
  clear HE0
  have HK : Hid (hopK x = (7, LL)) := by show _ = _; rw [← HE.out]; unfold hopK; simp
  rw [HK.out]
  clear HK
  have HL : Hid ((adrL x).length ≤ 1000) := Nat.le_trans (adrL_len x) (by decide)
  have HX : Hid (∀ z ∈ [(adrE x).toNat, 0], z < 256) := fun z hz => by simp at hz; rcases hz with rfl | rfl; exact (adrE x).toNat_lt; decide
  generalize adrE x = E at *
  generalize adrL x = L at *
  go_enter Tryz.func87, Tryz.ntmps87
  go_wp2_with (first
    | (have kk := b3; refine stR (.tmp 2) (.tmp 16) (by rfl) rfl (w.heap.size + 1) (.int .u8 7) (.slice a3 _ c3) _ _ rfl rfl p3 rfl rfl ?_; intro w6 g6 r6)
    | (go_at_call 91; have kk := b2; refine (callsN (putb_1 a2 _ c2 _ (some ⟨w2.heap.size, 0, none⟩) ⟨s, n, c, L⟩ _ (s2.alloc _) (new_src_of w2 #[.slice s n c] 46) (sl2.alloc _) (by simp) HL.out)).mono ?_; rintro e w3 ⟨a3, n3, c3, rfl, o3, b3⟩; have p3 := (p2.alloc (.cells #[.slice s n c] 46)).below b3 (p2.alloc _).lt)
    | (go_at_call 90; have kk := b1; refine (callsN (put8_n none 0 0 [] (some ⟨w1.heap.size, 0, none⟩) 2 2 [E.toNat, 0] _ (Src.nil _) (new_src_of w1 #[.int .u8 (E.toNat : Int), .int .u8 0] 5) HX.out (by simp) (by simp))).mono ?_; rintro e w2 ⟨a2, n2, c2, rfl, o2, b2⟩; have s2 := own_srcP o2; have sl2 := (sl.alloc (.cells #[.int .u8 (E.toNat : Int), .int .u8 0] 5)).below b2 (sl.alloc _).lt; have p2 := (p1.alloc (.cells #[.int .u8 (E.toNat : Int), .int .u8 0] 5)).below b2 (p1.alloc _).lt)
    | (go_at_call 119; refine (HA _).mono ?_; rintro e w1 ⟨s, n, c, rfl, sl, b1⟩; have p1 := RR.below b1 RR.lt)
    | (refine ldA (.tmp 1) (by rfl) rfl w.heap.size 0 x rfl RI.range ?_))
  have B := bt (bt (bt (bt BX b1) (ba _ _)) b2) (ba w2 (.cells #[.slice s n c] 46))
  have B3 := bt B b3
  obtain ⟨z6, o6, b6⟩ := Pcd.of B3 g6 p3 (Nat.le_succ _) (own_cast HE.out (own_le o3 B.size))
  exact bodyPost_ret (retC rfl _ _ 0 rfl (lvR r6.range)) rfl ⟨a3, n3, c3, rfl, o6, b6⟩
theorem piece_any (t : Tl) (w : World) (ht : TSrc w t) (h : TOk t.key) : Calls Tryz.prog 39 #[.agg (tcells t).toArray] w (Pcd w (pieK t.key)) := by
  have RI := (Row.new w 45 (tcells t)).alloc (.cells #[.int .u8 0, .slice none 0 0] 94)
  have RR := two_newR w (.cells (tcells t).toArray 45) 94 [.int .u8 0, .slice none 0 0]
  have BX := bt (ba w (.cells (tcells t).toArray 45)) (ba _ (.cells #[.int .u8 0, .slice none 0 0] 94))
  have hty : t.ty < 256 := h.fit.ty
  have HY : Hid (((UInt8.ofNat t.ty).toNat : Int) = (t.ty : Int)) := by show _ = _; simp; omega
  have HB : Hid (∀ W, Src W t.sa t.sn t.sc (wcells t.st) → Calls Tryz.prog 66 #[.agg (tcells t).toArray] W (LaidN W (bodL t.key))) := fun W hW => body_any t W hW h
  have HE : Hid (pieK t.key = (UInt8.ofNat t.ty, bodL t.key)) := (rfl : _ = _)
  rw [HE.out]
  have sT : Src _ t.sa t.sn t.sc (wcells t.st) := (Src.alloc ht (.cells (tcells t).toArray 45)).alloc (.cells #[.int .u8 0, .slice none 0 0] 94)
  clear HE hty h ht
  generalize bodL t.key = L at *
  go_enter Tryz.func39, Tryz.ntmps39
  go_wp2
  refine name_world (R := fun W => Code.wp _ _ _ _ W) (P := fun W => Below w.heap.size w W ∧ Row W w.heap.size 45 (tcells t) ∧ Row W (w.heap.size + 1) 94 [.int .u8 0, .slice none 0 0] ∧ Src W t.sa t.sn t.sc (wcells t.st)) _ ⟨BX, RI, RR, sT⟩ ?_
  clear sT
  rintro X ⟨hB, hR, hP, hT⟩
  have rX := hR.below (bd X) hR.lt
  have pX := hP.below (bd X) hP.lt
  have bX := bt hB (bd X)
  have sT := Src.below hT (bd X) (Src.lt hT)
  clear hR hB hP BX RR RI hT
  refine wp_region_noPanic ?_
  refine wp_region_held_drew (S := fun W => Row W w.heap.size 45 (tcells t)) (by kernel_rfl) (rX) (fun hHeld => ?_)
  refine tA 0 ?_
  refine tA 1 ?_ (hv := by intro w hSw; (try dsimp only at hSw); have hm : w.cell? ⟨_, 0, none⟩ = some (.int .u8 (t.ty : Int)) := hSw.cell 0; go_simp <;> with_reducible rfl)
  refine tL 2 rfl (yT t (fun W hW => hW) (by rfl) rfl rfl) ?_
  refine r1 3 fun K hK => ?_
  go_simp
  refine (HB.out _ sT).mono ?_
  rintro e w4 ⟨a4, n4, c4, rfl, o4, d4⟩
  have z4 := bX.size
  replace bX := bt bX d4
  replace rX := rX.below d4 rX.lt
  replace pX := pX.below d4 pX.lt
  replace o4 := own_le o4 z4
  clear d4
  refine oK hK (by exact rX) fun hHeld => ?_
  clear hK K
  refine tA 4 ?_
  refine r1 5 fun K hK => ?_
  refine sStR (.tmp 2) (.tmp 7) (by rfl) rfl (w.heap.size + 1) (.int .u8 (t.ty : Int)) (.slice a4 _ c4) _ _ rfl rfl pX rfl rfl ?_
  intro w6 g6 r6
  obtain ⟨z6, o6, b6⟩ := Pcd.of bX g6 pX (Nat.le_succ _) o4
  replace rX := rX.grown g6 (by simp)
  refine oK hK (by exact rX) fun hHeld => ?_
  clear hK K
  refine dN ?_
  refine NoPanic.normal ?_
  go_wp2
  exact bodyPost_ret (retC rfl _ _ 0 rfl (lvR r6.range)) rfl ⟨a4, n4, c4, by first | rfl | (rw [HY.out]; done) | (rw [HY.out]; rfl), o6, b6⟩
/-- How many bytes pieces have. -/
def lenQ (ps : List Pc) : Nat := (ps.map fun p => 2 + p.n).sum
theorem lenQ_take (ps : List Pc) (j : Nat) (hj : j < ps.length) : lenQ (ps.take (j + 1)) = lenQ (ps.take j) + (2 + ps[j].n) := by
  unfold lenQ
  rw [List.take_succ_eq_append_getElem hj, List.map_append, List.sum_append]; simp
theorem lenQ_le (ps : List Pc) (j : Nat) : lenQ (ps.take j) ≤ lenQ ps := by
  have h : lenQ ps = lenQ (ps.take j) + lenQ (ps.drop j) := by
    unfold lenQ
    rw [← List.sum_append, ← List.map_append, List.take_append_drop]
  omega
theorem length_any (a : Option Addr) (n c : Nat) (ps : List Pc) (w : World) (hs : Rws w a n ps) (hn : n ≤ 140737488355328) (hN : lenQ ps ≤ 140737488355328) :
    Calls Tryz.prog 38 #[.slice a n c] w fun e w' => e = .returned (.int .i64 (lenQ ps : Int)) ∧ Below w.heap.size w w' := by
  have HN : Hid (n = ps.length) := hs.len.symm
  have HT : Hid (lenQ (ps.take n) = lenQ ps) := by show _ = _; rw [List.take_of_length_le (by have := HN.out; omega)]
  go_enter Tryz.func38, Tryz.ntmps38
  go_wp2
  go_loopw [3, 8] (fun v i wr => ∃ (j z : Nat), j ≤ n ∧ i = .int .i64 j ∧ v = .int .i64 (z : Int) ∧ Hid (z = lenQ (ps.take j)) ∧ Below w.heap.size w wr) (fun _ i _ => n - (intOf i).toNat)
  case atStart => exact ⟨0, 0, Nat.zero_le _, rfl, rfl, (rfl : _ = _), Below.refl _ _⟩
  case round =>
    obtain ⟨j, z, hj, rfl, rfl, hz, hb⟩ := hrel
    by_cases hlt : j < n
    · have hjk : j < ps.length := by have := HN.out; omega
      obtain ⟨g, o, rfl, c0, c1⟩ := (hs.below hb).at hjk
      have HZ := lenQ_take ps j hjk
      have HL := lenQ_le ps (j + 1)
      rw [HZ, ← hz.out] at HL
      have HZ' : Hid (lenQ (ps.take (j + 1)) = z + (2 + ps[j].n)) := by show _ = _; rw [HZ, ← hz.out]
      have hb2 := hb.size
      clear HZ
      generalize ps[j].t.toNat = pt at *
      generalize ps[j].a = pa at *
      generalize ps[j].n = pn at *
      generalize ps[j].c = pc at *
      have h1 : (z : Int) + (2 + (pn : Int)) ≤ 140737488355328 := by omega
      go_wp2
      go_roundw
      case rel => exact ⟨j + 1, z + (2 + pn), by omega, by go_num, by go_num, HZ'.out.symm, hb.alloc hb2 _⟩
      case measure => simp [intOf]; omega
    · obtain rfl : n = j := by omega
      go_wp2
      go_ret
      exact ⟨by rw [hz.out, HT.out]; rfl, hb⟩
end Go.Proofs.YtdibjgcokebfbaaGreat
