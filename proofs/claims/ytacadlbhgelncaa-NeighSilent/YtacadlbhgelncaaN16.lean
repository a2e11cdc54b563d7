/-
  Tick of the table, where there is one neighbour and it stays.
-/
import Derived.Test.YtacadlbhgelncaaN15
namespace Go.Proofs.Ytacadlbhgelncaa
open Lk (Hi hcs hcs_one)
open Rk (Rt rcs rtV)
open Go.RowKit Go.Maps Go.Shelf
set_option linter.unusedSimpArgs false
set_option linter.unusedVariables false
set_option maxRecDepth 20000
theorem late_ok (g t : Int) (g0 : 0 ≤ g) (g1 : g ≤ 655350) (t1 : t ≤ 1125899906842624) : ∀ (f : Nat) (h : Hi) (a : Int), h.ok → (h.b ≠ 0 → h.k = true) → -1125899906842624 ≤ a → a ≤ 2251799813685248 →
    (late f h g a t).1.ok ∧ ((late f h g a t).1.b ≠ 0 → (late f h g a t).1.k = true) ∧ -1125899906842624 ≤ (late f h g a t).2 ∧ (late f h g a t).2 ≤ 2251799813685248
  | 0, h, a, o, k, a0, a1 => ⟨o, k, a0, a1⟩
  | f + 1, h, a, o, k, a0, a1 => by
    rw [late]
    split
    · rename_i hc
      have hb : h.b ≠ 0 := by
        intro e
        have := hc.1
        simp [awB, e] at this
      have hm := miss_half (k hb)
      have b0 := o.b0
      have b1 := o.b1
      refine late_ok g t g0 g1 t1 f _ _ ?_ ?_ (by omega) (by have := hc.2; omega)
      · rw [hm]
        exact ⟨by show 0 ≤ h.b / 2; omega, by show h.b / 2 < 65536; omega, by show 0 ≤ (h.n + 1) % 65536; omega, by show (h.n + 1) % 65536 < 65536; omega⟩
      · rw [hm]; intro _; rfl
    · exact ⟨o, k, a0, a1⟩
theorem aged_ok {n : Ng} (t : Int) (ok : n.ok) (t1 : t ≤ 1125899906842624) : (agedN n t).ok := by
  obtain ⟨p1, p2, p3, p4⟩ := late_ok n.mg t ok.mg0 ok.mg1 t1 16 n.m n.ma ok.mo ok.mj ok.ma0 ok.ma1
  obtain ⟨q1, q2, q3, q4⟩ := late_ok n.ug t ok.ug0 ok.ug1 t1 16 n.u n.ua ok.uo ok.uj ok.ua0 ok.ua1
  exact ⟨p1, p2, q1, q2, ok.mg0, ok.mg1, ok.ug0, ok.ug1, p3, p4, q3, q4, by show 0 ≤ (if _ then (65535 : Int) else n.tx); split; omega; exact ok.tx0, by show (if _ then (65535 : Int) else n.tx) < 65536; split; omega; exact ok.tx1, ok.rt0, ok.rt1⟩
theorem putN_one {n a : Ng} (h1 : a.i = n.i) (h2 : a.a = n.a) : putN [n] a = [a] := by
  have hk : keyB a.i a.a n = true := keyB_iff.2 ⟨h1.symm, h2.symm⟩
  simp [putN, hk]
set_option maxHeartbeats 8000000 in
theorem tick_stay {w : World} {t mb : Nat} {most : Int} {F : List Fc} {n : Ng} (h : Tb w t mb most F [n]) (now : Int) (t1 : now ≤ 1125899906842624) (hs : ¬ ((agedN n now).m.b = 0 ∧ (agedN n now).u.b = 0)) :
    Calls Try.prog 12 #[.pointer (some ⟨t, 0, none⟩), .int .i64 now] w fun e w' => e = .returned (.slice none 0 0) ∧ Turn w w' t mb most F [agedN n now] := by
  have hnk := h.nok n (by simp)
  have hLi := list_one h (by simp)
  have hA := fun W => aged_any n now W hnk.1 t1
  have hPut : ∀ W, Below w.heap.size w W → Calls Try.prog 25 #[.pointer (some ⟨t, 0, none⟩), nV (agedN n now)] W fun e w' => e = .returned (.tuple #[]) ∧ Turn w w' t mb most F [agedN n now] := fun W hW => by
    have e := putN_one (n := n) (a := agedN n now) rfl rfl
    refine (put_any (h.below hW) (agedN n now) (h.map.wf n (by simp)) ⟨aged_ok now hnk.1 t1, hnk.2.1, hnk.2.2.1, hnk.2.2.2⟩ (by rw [e]; simp)).mono ?_
    rintro e' w' ⟨rfl, hh⟩
    rw [e] at hh
    exact ⟨rfl, hh.pre hW⟩
  generalize agedN n now = a at *
  clear h hnk t1
  go_enter Try.func12, Try.ntmps12
  go_wp2_with (go_at_call 13; refine hLi.mono ?_; rintro e w1 ⟨r, rfl, hO, hB⟩; obtain ⟨va, vc, rfl, hat⟩ := Kd.own_at hO; obtain ⟨g, rfl, hgB, hgl, _, hc⟩ := hat (by simp); have hq := hc 0 n rfl; clear hc hat hO)
  have hq' : w1.rangeAt g (0 * 34) (ncs n) := hq
  clear hq hLi
  go_loopw [5, 11] (fun v i wr => v = .slice none 0 0 ∧ ((i = .int .i64 0 ∧ w1 = wr) ∨ (i = .int .i64 1 ∧ Turn w wr t mb most F [a]))) (fun _ i _ => 1 - (intOf i).toNat)
  case atStart => exact ⟨rfl, .inl ⟨rfl, rfl⟩⟩
  case round =>
    obtain ⟨rfl, ⟨rfl, rfl⟩ | ⟨rfl, hT⟩⟩ := hrel
    · by_cases hm : a.m.b = 0
      · have hu : a.u.b ≠ 0 := fun e => hs ⟨hm, e⟩
        have hm' : (a.m.b == 0) = true := by simpa using hm
        have hu' : (a.u.b == 0) = false := by simpa using hu
        go_wp2_with (first
          | (have kk := r5; go_at_call 25; refine (hPut _ (bt hB b5)).mono ?_; rintro e w6 ⟨rfl, hT⟩)
          | (have kk := r5; refine ldN (.tmp 7) rfl rfl _ _ _ rfl r5.range ?_)
          | (have kk := r4; refine stN (.tmp 7) (.tmp 17) rfl rfl g2 a _ rfl rfl r4 ?_; intro W5 g5 r5; have b5 := grown_below g5 b4 hge2 b4.size; have c17 := (r5.cell 17).trans (nc17 _); have c20 := (r5.cell 20).trans (nc20 _); clear r4)
          | (have kk := r3; go_at_call 27; refine (hA _).mono ?_; rintro e w4 ⟨rfl, bA⟩; have r4 := r3.below bA r3.lt; have b4 := bt b3 bA; clear r3)
          | (have kk := r3; refine ldN (.tmp 7) rfl rfl _ _ _ rfl r3.range ?_)
          | (have kk := r2; refine stN (.tmp 7) (.tmp 14) rfl rfl g2 n _ rfl rfl r2 ?_; intro W3 g3 r3; have b3 := grown_below g3 hB2 hge2 hB2.size; clear r2)
          | (refine alG infoNz rfl rfl ?_; intro g2 W2 hge2 hgl2 hB2 r2)
          | (refine ldN (.tmp 13) rfl rfl _ _ n rfl hq' ?_))
        go_roundw
        case rel => exact ⟨rfl, .inr ⟨rfl, hT⟩⟩
        case measure => simp [intOf]
      · have hm' : (a.m.b == 0) = false := by simpa using hm
        go_wp2_with (first
          | (have kk := r5; go_at_call 25; refine (hPut _ (bt hB b5)).mono ?_; rintro e w6 ⟨rfl, hT⟩)
          | (have kk := r5; refine ldN (.tmp 7) rfl rfl _ _ _ rfl r5.range ?_)
          | (have kk := r4; refine stN (.tmp 7) (.tmp 17) rfl rfl g2 a _ rfl rfl r4 ?_; intro W5 g5 r5; have b5 := grown_below g5 b4 hge2 b4.size; have c17 := (r5.cell 17).trans (nc17 _); have c20 := (r5.cell 20).trans (nc20 _); clear r4)
          | (have kk := r3; go_at_call 27; refine (hA _).mono ?_; rintro e w4 ⟨rfl, bA⟩; have r4 := r3.below bA r3.lt; have b4 := bt b3 bA; clear r3)
          | (have kk := r3; refine ldN (.tmp 7) rfl rfl _ _ _ rfl r3.range ?_)
          | (have kk := r2; refine stN (.tmp 7) (.tmp 14) rfl rfl g2 n _ rfl rfl r2 ?_; intro W3 g3 r3; have b3 := grown_below g3 hB2 hge2 hB2.size; clear r2)
          | (refine alG infoNz rfl rfl ?_; intro g2 W2 hge2 hgl2 hB2 r2)
          | (refine ldN (.tmp 13) rfl rfl _ _ n rfl hq' ?_))
        go_roundw
        case rel => exact ⟨rfl, .inr ⟨rfl, hT⟩⟩
        case measure => simp [intOf]
    · go_wp2_with fail
      go_ret
      exact ⟨rfl, hT⟩
end Go.Proofs.Ytacadlbhgelncaa
