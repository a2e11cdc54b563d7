/-
  NeighNil of package culvertlaw13: on a nil Table each call answers as the document says, and live holds; for every input, with no condition.
-/
import Derived.Test.YtacadlbhgelncaaM02
import Derived.OpenShut
import Derived.ChangeOld
import Derived.Below
import Derived.SizedLaws
import Derived.ShutString
import Derived.Deep.Slices
import Derived.Deep.SlicePairs
import Derived.Deep.Strs
namespace Go.Proofs.Ytacadlbhgelncaa
open Go.RowKit Go.Maps Go.Shelf
set_option linter.unusedSimpArgs false
set_option linter.unusedVariables false
set_option maxRecDepth 20000
theorem late_ok (g t : Int) (g0 : 0 ≤ g) (g1 : g ≤ 655350) (t1 : t ≤ 1125899906842624) : ∀ (f : Nat) (h : Hi) (a : Int), h.ok → (h.b ≠ 0 → h.k = true) → -1125899906842624 ≤ a → a ≤ 2251799813685248 →
    (late f h g a t).1.ok ∧ ((late f h g a t).1.b ≠ 0 → (late f h g a t).1.k = true) ∧ -1125899906842624 ≤ (late f h g a t).2 ∧ (late f h g a t).2 ≤ 2251799813685248
  | 0, h, a, o, k, a0, a1 => ⟨o, k, a0, a1⟩
  | f + 1, h, a, o, k, a0, a1 => by
    rw [late]
    split
    · rename_i hc
      have hb : h.b ≠ 0 := by
        intro e
        have := hc.1
        simp [awB, e] at this
      have hm := miss_half (k hb)
      have b0 := o.b0
      have b1 := o.b1
      refine late_ok g t g0 g1 t1 f _ _ ?_ ?_ (by omega) (by have := hc.2; omega)
      · rw [hm]
        exact ⟨by show 0 ≤ h.b / 2; omega, by show h.b / 2 < 65536; omega, by show 0 ≤ (h.n + 1) % 65536; omega, by show (h.n + 1) % 65536 < 65536; omega⟩
      · rw [hm]; intro _; rfl
    · exact ⟨o, k, a0, a1⟩
theorem aged_ok {n : Ng} (t : Int) (ok : n.ok) (t1 : t ≤ 1125899906842624) : (agedN n t).ok := by
  obtain ⟨p1, p2, p3, p4⟩ := late_ok n.mg t ok.mg0 ok.mg1 t1 16 n.m n.ma ok.mo ok.mj ok.ma0 ok.ma1
  obtain ⟨q1, q2, q3, q4⟩ := late_ok n.ug t ok.ug0 ok.ug1 t1 16 n.u n.ua ok.uo ok.uj ok.ua0 ok.ua1
  exact ⟨p1, p2, q1, q2, ok.mg0, ok.mg1, ok.ug0, ok.ug1, p3, p4, q3, q4, by show 0 ≤ (if _ then (65535 : Int) else n.tx); split; omega; exact ok.tx0, by show (if _ then (65535 : Int) else n.tx) < 65536; split; omega; exact ok.tx1, ok.rt0, ok.rt1⟩
theorem putN_one {n a : Ng} (h1 : a.i = n.i) (h2 : a.a = n.a) : putN [n] a = [a] := by
  have hk : keyB a.i a.a n = true := keyB_iff.2 ⟨h1.symm, h2.symm⟩
  simp [putN, hk]
set_option maxHeartbeats 8000000 in
theorem tick_stay {w : World} {t mb : Nat} {most : Int} {F : List Fc} {n : Ng} (h : Tb w t mb most F [n]) (now : Int) (t1 : now ≤ 1125899906842624) (hs : ¬ ((agedN n now).m.b = 0 ∧ (agedN n now).u.b = 0)) :
    Calls Try.prog 12 #[.pointer (some ⟨t, 0, none⟩), .int .i64 now] w fun e w' => e = .returned (.slice none 0 0) ∧ Turn w w' t mb most F [agedN n now] := by
  have hnk := h.nok n (by simp)
  have hLi := list_one h (by simp)
  have hA := fun W => aged_any n now W hnk.1 t1
  have hPut : ∀ W, Below w.heap.size w W → Calls Try.prog 25 #[.pointer (some ⟨t, 0, none⟩), nV (agedN n now)] W fun e w' => e = .returned (.tuple #[]) ∧ Turn w w' t mb most F [agedN n now] := fun W hW => by
    have e := putN_one (n := n) (a := agedN n now) rfl rfl
    refine (put_any (h.below hW) (agedN n now) (h.map.wf n (by simp)) ⟨aged_ok now hnk.1 t1, hnk.2.1, hnk.2.2.1, hnk.2.2.2⟩ (by rw [e]; simp)).mono ?_
    rintro e' w' ⟨rfl, hh⟩
    rw [e] at hh
    exact ⟨rfl, hh.pre hW⟩
  generalize agedN n now = a at *
  clear h hnk t1
  go_enter Try.func12, Try.ntmps12
  go_wp2_with (go_at_call 13; refine hLi.mono ?_; rintro e w1 ⟨r, rfl, hO, hB⟩; obtain ⟨va, vc, rfl, hat⟩ := Kd.own_at hO; obtain ⟨g, rfl, hgB, hgl, _, hc⟩ := hat (by simp); have hq := hc 0 n rfl; clear hc hat hO)
  have hq' : w1.rangeAt g (0 * 34) (ncs n) := hq
  clear hq hLi
  go_loopw [5, 11] (fun v i wr => v = .slice none 0 0 ∧ ((i = .int .i64 0 ∧ w1 = wr) ∨ (i = .int .i64 1 ∧ Turn w wr t mb most F [a]))) (fun _ i _ => 1 - (intOf i).toNat)
  case atStart => exact ⟨rfl, .inl ⟨rfl, rfl⟩⟩
  case round =>
    obtain ⟨rfl, ⟨rfl, rfl⟩ | ⟨rfl, hT⟩⟩ := hrel
    · by_cases hm : a.m.b = 0
      · have hu : a.u.b ≠ 0 := fun e => hs ⟨hm, e⟩
        have hm' : (a.m.b == 0) = true := by simpa using hm
        have hu' : (a.u.b == 0) = false := by simpa using hu
        go_wp2_with (first
          | (have kk := r5; go_at_call 25; refine (hPut _ (bt hB b5)).mono ?_; rintro e w6 ⟨rfl, hT⟩)
          | (have kk := r5; refine ldN (.tmp 7) rfl rfl _ _ _ rfl r5.range ?_)
          | (have kk := r4; refine stN (.tmp 7) (.tmp 17) rfl rfl g2 a _ rfl rfl r4 ?_; intro W5 g5 r5; have b5 := grown_below g5 b4 hge2 b4.size; have c17 := (r5.cell 17).trans (nc17 _); have c20 := (r5.cell 20).trans (nc20 _); clear r4)
          | (have kk := r3; go_at_call 27; refine (hA _).mono ?_; rintro e w4 ⟨rfl, bA⟩; have r4 := r3.below bA r3.lt; have b4 := bt b3 bA; clear r3)
          | (have kk := r3; refine ldN (.tmp 7) rfl rfl _ _ _ rfl r3.range ?_)
          | (have kk := r2; refine stN (.tmp 7) (.tmp 14) rfl rfl g2 n _ rfl rfl r2 ?_; intro W3 g3 r3; have b3 := grown_below g3 hB2 hge2 hB2.size; clear r2)
          | (refine alG infoNz rfl rfl ?_; intro g2 W2 hge2 hgl2 hB2 r2)
          | (refine ldN (.tmp 13) rfl rfl _ _ n rfl hq' ?_))
        go_roundw
        case rel => exact ⟨rfl, .inr ⟨rfl, hT⟩⟩
        case measure => simp [intOf]
      · have hm' : (a.m.b == 0) = false := by simpa using hm
        go_wp2_with (first
          | (have kk := r5; go_at_call 25; refine (hPut _ (bt hB b5)).mono ?_; rintro e w6 ⟨rfl, hT⟩)
          | (have kk := r5; refine ldN (.tmp 7) rfl rfl _ _ _ rfl r5.range ?_)
          | (have kk := r4; refine stN (.tmp 7) (.tmp 17) rfl rfl g2 a _ rfl rfl r4 ?_; intro W5 g5 r5; have b5 := grown_below g5 b4 hge2 b4.size; have c17 := (r5.cell 17).trans (nc17 _); have c20 := (r5.cell 20).trans (nc20 _); clear r4)
          | (have kk := r3; go_at_call 27; refine (hA _).mono ?_; rintro e w4 ⟨rfl, bA⟩; have r4 := r3.below bA r3.lt; have b4 := bt b3 bA; clear r3)
          | (have kk := r3; refine ldN (.tmp 7) rfl rfl _ _ _ rfl r3.range ?_)
          | (have kk := r2; refine stN (.tmp 7) (.tmp 14) rfl rfl g2 n _ rfl rfl r2 ?_; intro W3 g3 r3; have b3 := grown_below g3 hB2 hge2 hB2.size; clear r2)
          | (refine alG infoNz rfl rfl ?_; intro g2 W2 hge2 hgl2 hB2 r2)
          | (refine ldN (.tmp 13) rfl rfl _ _ n rfl hq' ?_))
        go_roundw
        case rel => exact ⟨rfl, .inr ⟨rfl, hT⟩⟩
        case measure => simp [intOf]
    · go_wp2_with fail
      go_ret
      exact ⟨rfl, hT⟩
end Go.Proofs.Ytacadlbhgelncaa

namespace Go.Proofs.Ytacadlbhgelncaa
open Go.RowKit Go.Maps Go.Shelf
set_option linter.unusedSimpArgs false
set_option linter.unusedVariables false
set_option maxRecDepth 20000
theorem Newd.tb {w w' : World} {t mb : Nat} {most : Int} {fa : Value} {F : List Fc} (h : Newd w w' t mb most fa F) (hf : ∀ f ∈ F, f.ok) (hl : F.length ≤ 1000000) : Tb w' t mb most F [] := by
  obtain ⟨ad, c, rfl, hat⟩ := Kd.own_at h.fs
  refine ⟨⟨ad, c, h.row, ?_, ?_⟩, h.map, hf, by simp, hl, by simp⟩
  · by_cases e : F = []
    · exact .inl e
    · obtain ⟨g, rfl, _, hg, _, hc⟩ := hat e
      exact .inr ⟨g, 0, rfl, hg, fun j f hj => by rw [Nat.zero_add]; exact hc j f hj⟩
  · intro g o e
    subst e
    rcases h.fs.2 with ⟨e, _⟩ | ⟨g', cap, cur, e, _, hh, _⟩
    · cases e
    · cases e; exact ⟨_, _, _, hh⟩
def wiA : Ad := ⟨[254, 128, 0, 0, 0, 0, 0, 0, 0, 0, 0, 0, 0, 0, 0, 1], rfl⟩
def frA : Ad := ⟨[254, 128, 0, 0, 0, 0, 0, 0, 0, 0, 0, 0, 0, 0, 0, 2], rfl⟩
def wiC : Ic := ⟨⟨#[101, 48]⟩, 0, 96, 4000, 16000, 1280, wiA, zeroA, ⟨false, 0, 0, 0, 0⟩⟩
theorem bdWA (w : World) : (Instr.build 29 #[(0, .int .u8 254), (1, .int .u8 128), (15, .int .u8 1)]).run Try.prog w = .ok (Value.agg (acells wiA).toArray) w := by kernel_rfl
theorem bdFA (w : World) : (Instr.build 29 #[(0, .int .u8 254), (1, .int .u8 128), (15, .int .u8 2)]).run Try.prog w = .ok (Value.agg (acells frA).toArray) w := by kernel_rfl
theorem bdWC (w : World) : (Instr.build 66 #[(0, .string ⟨#[101, 48]⟩), (2, .int .i64 96), (3, .int .i64 4000), (4, .int .i64 16000), (5, .int .i64 1280), (6, (Value.agg (acells wiA).toArray))]).run Try.prog w = .ok (.agg (ics wiC).toArray) w := by kernel_rfl
theorem bsC1 (w : World) : (Instr.buildSlice 22 1 #[(0, .agg (ics wiC).toArray)]).run Try.prog w = .ok (.slice (some ⟨w.heap.size, 0, none⟩) 1 1) (w.alloc (.cells (ics wiC).toArray 66)) := by kernel_rfl
theorem wired_any (w : World) : Calls Try.prog 23 #[] w (Gives w (.agg (ics wiC).toArray)) := by
  go_enter Try.func23, Try.ntmps23
  go_wp2_with (first
    | (have kk := r2; refine stC (.tmp 0) (.tmp 2) rfl rfl g2 wiC _ rfl rfl r2 ?_; intro W3 g3 r3)
    | (have kk := r2; (with_reducible refine bdG (T := 66) (v := .agg (ics wiC).toArray) [(0, .const (.string ⟨#[101, 48]⟩)), (2, .const (.int .i64 96)), (3, .const (.int .i64 4000)), (4, .const (.int .i64 16000)), (5, .const (.int .i64 1280)), (6, .tmp 1)] ?_ ?_ ?_ ?_); (focus rfl); (focus rfl); (focus exact bdWC _))
    | (have kk := r2; (with_reducible refine bdG (T := 29) (v := (Value.agg (acells wiA).toArray)) [(0, .const (.int .u8 254)), (1, .const (.int .u8 128)), (15, .const (.int .u8 1))] ?_ ?_ ?_ ?_); (focus rfl); (focus rfl); (focus exact bdWA _))
    | (refine alG infoCz rfl rfl ?_; intro g2 W2 hge2 hgl2 hB2 r2))
  exact bodyPost_ret (retC rfl _ _ 0 rfl (lvC r3)) rfl ⟨rfl, grown_below g3 hB2 hge2 hB2.size⟩
theorem num_any (e : Int) (w : World) : Calls Try.prog 18 #[.int .i64 e] w fun x w' => x = .returned (.int .i64 e) ∧ w = w' := by
  go_enter Try.func18, Try.ntmps18
  go_wp2
  go_ret
  exact ⟨by first | rfl | simp, rfl⟩
def fcL : Fc := faceI wiC
def tlH (j : Nat) : Tl := { zeroT with ty := 4, seq := j, intv := 400 }
def tlI : Tl := { zeroT with ty := 5, rx := 96, intv := 1200 }
theorem bdH (j : Nat) (w : World) : (Instr.build 39 #[(0, .int .u8 4), (3, .int .u16 (j : Int)), (2, .int .u16 400)]).run Try.prog w = .ok (.agg (tcells (tlH j)).toArray) w := by kernel_rfl
theorem bdI (w : World) : (Instr.build 39 #[(0, .int .u8 5), (4, .int .u16 96), (2, .int .u16 1200)]).run Try.prog w = .ok (.agg (tcells tlI).toArray) w := by kernel_rfl
def stL : Nat → List Ng
  | 0 => []
  | j + 1 => (helloR 4 [fcL] (stL j) (j * 4000) 0 frA (tlH j)).2
def n3 : Ng := match stL 3 with | [n] => n | _ => zeroN
theorem st3 : stL 3 = [n3] := by kernel_rfl
theorem he0 : (helloR 4 [fcL] (stL 0) ((0 : Nat) * 4000) 0 frA (tlH 0)).1 = 0 := by kernel_rfl
theorem he1 : (helloR 4 [fcL] (stL 1) ((1 : Nat) * 4000) 0 frA (tlH 1)).1 = 0 := by kernel_rfl
theorem he2 : (helloR 4 [fcL] (stL 2) ((2 : Nat) * 4000) 0 frA (tlH 2)).1 = 0 := by kernel_rfl
theorem co3 : costT [fcL] [n3] 0 frA = 65535 := by kernel_rfl
theorem rx3 : rxT [fcL] [n3] 0 frA = 96 := by kernel_rfl
def n4 : Ng := toldN n3 8000 tlI
theorem ih4 : ihuR [fcL] [n3] 0 frA tlI n4 = (0, [n4]) := by kernel_rfl
theorem co4 : costT [fcL] [n4] 0 frA = 96 := by kernel_rfl
def n5 : Ng := agedN n4 14000
theorem co5 : costT [fcL] [n5] 0 frA = 96 := by kernel_rfl
def n6 : Ng := agedN n5 18000
theorem co6 : costT [fcL] [n6] 0 frA = 65535 := by kernel_rfl
theorem li5 : decide (n5.m.b = 0 ∧ n5.u.b = 0) = false := by kernel_rfl
theorem li6 : decide (n6.m.b = 0 ∧ n6.u.b = 0) = false := by kernel_rfl
theorem hr3 : n3.hr = false := by kernel_rfl
theorem len_st (j : Nat) (hj : j ≤ 3) : (stL j).length < 1000000 := by
  match j, hj with
  | 0, _ => decide
  | 1, _ => exact of_decide_eq_true (by kernel_rfl)
  | 2, _ => exact of_decide_eq_true (by kernel_rfl)
  | 3, _ => exact of_decide_eq_true (by kernel_rfl)
end Go.Proofs.Ytacadlbhgelncaa

namespace Go.Proofs.Ytacadlbhgelncaa
open Go.RowKit Go.Maps Go.Shelf
set_option linter.unusedSimpArgs false
set_option linter.unusedVariables false
set_option maxRecDepth 20000
/-- live's table under way. -/
structure Liv (w W : World) (t mb g : Nat) (L : List Ng) : Prop where
  tb : Tb W t mb 4 [fcL] L
  mt : w.heap.size ≤ mb
  bl : Below w.heap.size w W
  fr : Row W g 29 (acells frA)
theorem Liv.turn {w W W' : World} {t mb g : Nat} {L L' : List Ng} (h : Liv w W t mb g L) (k : Turn W W' t mb 4 [fcL] L') : Liv w W' t mb g L' :=
  ⟨k.tb, h.mt, k.below h.bl h.mt h.bl.size, k.row h.fr (h.tb.map.ne_row h.fr)⟩
theorem Liv.below {w W W' : World} {t mb g : Nat} {L : List Ng} (h : Liv w W t mb g L) (k : Below W.heap.size W W') : Liv w W' t mb g L := h.turn (Turn.of h.tb k)
theorem wfI0 : wfI 0 := by unfold wfI; rfl
theorem fcL_ok : ∀ f ∈ [fcL], f.ok := by
  intro f hf
  simp at hf
  subst hf
  exact ⟨of_decide_eq_true (by kernel_rfl), of_decide_eq_true (by kernel_rfl), fun h => by cases h⟩
theorem tlH_fit (j : Nat) (hj : j < 3) : (tlH j).fit := ⟨by show (400 : Nat) < 65536; omega, by show j < 65536; omega, by show (0 : Nat) < 65536; omega⟩
theorem tlI_fit : tlI.fit := ⟨by show (1200 : Nat) < 65536; omega, by show (0 : Nat) < 65536; omega, by show (96 : Nat) < 65536; omega⟩
theorem he_at (j : Nat) (hj : j < 3) : (helloR 4 [fcL] (stL j) ((j : Int) * 4000) 0 frA (tlH j)).1 = 0 := by
  match j, hj with
  | 0, _ => exact he0
  | 1, _ => exact he1
  | 2, _ => exact he2
theorem hello_l {w W : World} {t mb g j : Nat} (h : Liv w W t mb g (stL j)) (hj : j < 3) : Calls Try.prog 11 #[.pointer (some ⟨t, 0, none⟩), .int .i64 ((j : Int) * 4000), .int .i64 0, (Value.agg (acells frA).toArray), .agg (tcells (tlH j)).toArray] W fun e w' => e = .returned (.int .i64 0) ∧ Liv w w' t mb g (stL (j + 1)) := by
  refine (hello_any h.tb ((j : Int) * 4000) 0 frA (tlH j) wfI0 (tlH_fit j hj) (by omega) (by omega) ⟨rfl, .inl rfl⟩ (len_st j (by omega))).mono ?_
  rintro e w' ⟨rfl, hT⟩
  exact ⟨by rw [he_at j hj], h.turn hT⟩
theorem cost_l {w W : World} {t mb g : Nat} {n : Ng} {c : Int} (h : Liv w W t mb g [n]) (hn : n.hr = false) (hc : costT [fcL] [n] 0 frA = c) : Calls Try.prog 20 #[.pointer (some ⟨t, 0, none⟩), .int .i64 0, (Value.agg (acells frA).toArray)] W fun e w' => e = .returned (.int .u16 c) ∧ Liv w w' t mb g [n] := by
  refine (cost_tab h.tb 0 frA wfI0 (fun m hm => ?_)).mono ?_
  · have := (getN_some hm).1
    simp at this
    rw [this]; exact hn
  · rintro e w' ⟨rfl, hB⟩
    exact ⟨by rw [hc], h.below hB⟩
theorem rx_l {w W : World} {t mb g : Nat} {n : Ng} {c : Int} (h : Liv w W t mb g [n]) (hc : rxT [fcL] [n] 0 frA = c) : Calls Try.prog 19 #[.pointer (some ⟨t, 0, none⟩), .int .i64 0, (Value.agg (acells frA).toArray)] W fun e w' => e = .returned (.int .u16 c) ∧ Liv w w' t mb g [n] := by
  refine (rx_tab h.tb 0 frA wfI0).mono ?_
  rintro e w' ⟨rfl, hB⟩
  exact ⟨by rw [hc], h.below hB⟩
theorem ihu_l {w W : World} {t mb g : Nat} (h : Liv w W t mb g [n3]) : Calls Try.prog 14 #[.pointer (some ⟨t, 0, none⟩), .int .i64 8000, .int .i64 0, (Value.agg (acells frA).toArray), .agg (tcells tlI).toArray] W fun e w' => e = .returned (.int .i64 0) ∧ Liv w w' t mb g [n4] := by
  refine (ihu_any h.tb 8000 0 frA tlI n4 wfI0 tlI_fit (by omega) (by omega) ⟨rfl, .inl rfl⟩ (by simp) (fun n hn f hf => ?_)).mono ?_
  · have e1 := (getN_some hn)
    have e2 : n = n3 := by simpa using e1.1
    subst e2
    have e3 : f = fcL := by simpa using hf.symm
    subst e3
    have ok3 := (h.tb.nok n3 (by simp)).1
    refine ⟨fun W' _ => timed_off n4 8000 fcL.r _ W' rfl, ?_, e1.2.1, e1.2.2, fun h => ?_⟩
    · exact ⟨ok3.mo, ok3.mj, ok3.uo, ok3.uj, ok3.mg0, ok3.mg1, ok3.ug0, ok3.ug1, ok3.ma0, ok3.ma1, ok3.ua0, ok3.ua1, of_decide_eq_true (by kernel_rfl), of_decide_eq_true (by kernel_rfl), ok3.rt0, ok3.rt1⟩
    · have e4 : n4.hr = false := hr3
      rw [e4] at h; cases h
  · rintro e w' ⟨rfl, hT⟩
    rw [ih4] at hT
    exact ⟨by rw [ih4], h.turn hT⟩
theorem tick_l {w W : World} {t mb g : Nat} {n : Ng} (h : Liv w W t mb g [n]) (now : Int) (t1 : now ≤ 1125899906842624) (hs : decide ((agedN n now).m.b = 0 ∧ (agedN n now).u.b = 0) = false) : Calls Try.prog 12 #[.pointer (some ⟨t, 0, none⟩), .int .i64 now] W fun e w' => e = .returned (.slice none 0 0) ∧ Liv w w' t mb g [agedN n now] := by
  refine (tick_stay h.tb now t1 (of_decide_eq_false hs)).mono ?_
  rintro e w' ⟨rfl, hT⟩
  exact ⟨rfl, h.turn hT⟩
theorem list_l {w W : World} {t mb g : Nat} {n : Ng} (h : Liv w W t mb g [n]) : Calls Try.prog 13 #[.pointer (some ⟨t, 0, none⟩)] W fun e w' => ∃ ad c, e = .returned (.slice ad 1 c) ∧ Liv w w' t mb g [n] := by
  refine (list_one h.tb (by simp)).mono ?_
  rintro e w' ⟨r, rfl, hO, hB⟩
  obtain ⟨ad, c, rfl, _⟩ := Kd.own_at hO
  exact ⟨ad, c, rfl, h.below hB⟩
theorem new_l {w W : World} {p : Nat} (hW : Below w.heap.size w W) (r0 : Row W p 66 (ics wiC)) : Calls Try.prog 10 #[.int .i64 4, .slice (some ⟨p, 0, none⟩) 1 1] W fun e w' => ∃ t mb, e = .returned (.pointer (some ⟨t, 0, none⟩)) ∧ Tb w' t mb 4 [fcL] [] ∧ w.heap.size ≤ mb ∧ Below w.heap.size w w' := by
  have hc : CsW W (some ⟨p, 0, none⟩) [wiC] := ⟨.inr ⟨_, 0, rfl, r0.lt, fun j q hq => by
    match j with
    | 0 => cases hq; exact r0.range
    | j + 1 => simp at hq⟩⟩
  refine (new_any 4 _ 1 [wiC] _ hc (by simp)).mono ?_
  rintro e w' ⟨t, mb, fa, rfl, h1, h2, hN⟩
  have hs := hW.size
  exact ⟨t, mb, rfl, hN.tb fcL_ok (by simp), by omega, bt hW hN.bl⟩
set_option maxHeartbeats 8000000 in
theorem live_any (w : World) : Calls Try.prog 9 #[] w fun e w' => e = .returned (.bool true) ∧ Below w.heap.size w w' := by
  go_enter Try.func9, Try.ntmps9
  go_wp2_with (first
    | (have kk := r3; refine stA0 (.tmp 2) (.tmp 8) rfl rfl g3 frA _ rfl rfl rfl r3 ?_; intro W4 g4 r4; clear r3)
    | (have kk := hT2; refine alG infoAz rfl rfl ?_; intro g3 W3 hge3 hgl3 hB3 r3)
    | (have kk := hT2; (with_reducible refine bdG (T := 29) (v := (Value.agg (acells frA).toArray)) [(0, .const (.int .u8 254)), (1, .const (.int .u8 128)), (15, .const (.int .u8 2))] ?_ ?_ ?_ ?_); (focus rfl); (focus rfl); (focus exact bdFA _))
    | (have kk := r2; go_at_call 10; refine (new_l (bt b1 b2) r2).mono ?_; rintro e w2 ⟨t, mb, rfl, hT2, hmb, bN⟩; clear b1 r2 b2)
    | (have kk := b1; (with_reducible refine bsG (T := 22) (U := 66) (n := 1) [(0, .tmp 5)] (ics wiC) ?_ ?_ ?_ ?_); (focus rfl); (focus rfl); (focus exact (fun w => bsC1 w)); intro W2 r2 b2)
    | (go_at_call 23; refine (wired_any _).mono ?_; rintro e w1 ⟨rfl, b1⟩))
  have h0 : Liv w W4 t mb g3 (stL 0) := by
    have e := hT2.own hB3 g4 hge3
    exact ⟨e, hmb, grown_below g4 (bt bN hB3) (by have := bN.size; omega) (by have := bN.size; have := hB3.size; omega), r4⟩
  clear hT2 hmb bN hB3 g4 r4 hge3 hgl3
  go_loopw [3] (fun i wr => ∃ j : Nat, j ≤ 3 ∧ i = .int .i64 (j : Int) ∧ Liv w wr t mb g3 (stL j)) (fun i _ => 3 - (intOf i).toNat)
  case atStart => exact ⟨0, by omega, rfl, h0⟩
  case round =>
    obtain ⟨j, hj, rfl, hL⟩ := hrel
    by_cases hlt : j < 3
    · have hji : (j : Int) < 3 := by omega
      have hw1 : wrap64 ((j : Int) * 4000) = (j : Int) * 4000 := by unfold wrap64; omega
      have hw2 : wrap64 ((j : Int) + 1) = (j : Int) + 1 := by unfold wrap64; omega
      have hw3 : IntKind.u16.wrap (j : Int) = (j : Int) := by simp [IntKind.wrap, IntKind.signed, IntKind.bits]; omega
      have hHe := hello_l hL hlt
      have hfr := hL.fr
      clear h0
      go_wp2_with (first
        | (have kk := hL5; go_at_call 18; refine (num_any _ _).mono ?_; rintro e w6 ⟨rfl, rfl⟩)
        | (have kk := hHe; go_at_call 11; refine hHe.mono ?_; rintro e w5 ⟨rfl, hL5⟩; clear hHe)
        | (have kk := hHe; (with_reducible refine bdG (T := 39) (v := .agg (tcells (tlH j)).toArray) [(0, .const (.int .u8 4)), (3, .tmp 20), (2, .const (.int .u16 400))] ?_ ?_ ?_ ?_); (focus rfl); (focus rfl); (focus exact bdH j _))
        | (refine ldA (.tmp 2) rfl rfl _ _ frA rfl hfr.range ?_))
      go_roundw
      case rel => exact ⟨j + 1, by omega, by first | rfl | go_num, hL5⟩
      case measure => simp [intOf]; omega
    · obtain rfl : j = 3 := by omega
      rw [st3] at hL
      clear h0
      have hC3 := fun (W : World) (h : Liv w W t mb g3 [n3]) => cost_l h hr3 co3
      have hR3 := fun (W : World) (h : Liv w W t mb g3 [n3]) => rx_l h rx3
      have hI3 := fun (W : World) (h : Liv w W t mb g3 [n3]) => ihu_l h
      have hC4 := fun (W : World) (h : Liv w W t mb g3 [n4]) => cost_l (c := 96) h (show n4.hr = false from hr3) co4
      have hT4 := fun (W : World) (h : Liv w W t mb g3 [n4]) => tick_l h 14000 (by omega) li5
      have hC5 := fun (W : World) (h : Liv w W t mb g3 [n5]) => cost_l (c := 96) h (show n5.hr = false from hr3) co5
      have hT5 := fun (W : World) (h : Liv w W t mb g3 [n5]) => tick_l h 18000 (by omega) li6
      have hC6 := fun (W : World) (h : Liv w W t mb g3 [n6]) => cost_l (c := 65535) h (show n6.hr = false from hr3) co6
      go_wp2_with (first
        | (have kk := k7; go_at_call 13; refine (list_l k7).mono ?_; rintro e w8 ⟨ad, c, rfl, k8⟩; clear k7)
        | (have kk := k6; go_at_call 20; refine (hC6 _ k6).mono ?_; rintro e w7 ⟨rfl, k7⟩; clear k6)
        | (have kk := k5; go_at_call 12; refine (hT5 _ k5).mono ?_; rintro e w6 ⟨rfl, k6⟩; clear k5; have fr := k6.fr)
        | (have kk := k4; go_at_call 20; refine (hC5 _ k4).mono ?_; rintro e w5 ⟨rfl, k5⟩; clear k4)
        | (have kk := k3; go_at_call 12; refine (hT4 _ k3).mono ?_; rintro e w4 ⟨rfl, k4⟩; clear k3; have fr := k4.fr)
        | (have kk := k2; go_at_call 20; refine (hC4 _ k2).mono ?_; rintro e w3 ⟨rfl, k3⟩; clear k2)
        | (have kk := k2; go_at_call 18; refine (num_any _ _).mono ?_; rintro e w6 ⟨rfl, rfl⟩)
        | (have kk := k1; go_at_call 14; refine (hI3 _ k1).mono ?_; rintro e w2 ⟨rfl, k2⟩; clear k1; have fr := k2.fr)
        | (have kk := k1; (with_reducible refine bdG (T := 39) (v := .agg (tcells tlI).toArray) [(0, .const (.int .u8 5)), (4, .const (.int .u16 96)), (2, .const (.int .u16 1200))] ?_ ?_ ?_ ?_); (focus rfl); (focus rfl); (focus exact bdI _))
        | (have kk := k0; go_at_call 19; refine (hR3 _ k0).mono ?_; rintro e w1 ⟨rfl, k1⟩; clear k0; have fr := k1.fr)
        | (have kk := hL; go_at_call 20; refine (hC3 _ hL).mono ?_; rintro e w0 ⟨rfl, k0⟩; have fr := k0.fr; clear hL)
        | (have kk := fr; refine ldA (.tmp 2) rfl rfl _ _ frA rfl fr.range ?_)
        | (have kk := hL; refine ldA (.tmp 2) rfl rfl _ _ frA rfl hL.fr.range ?_))
      go_ret
      exact ⟨rfl, k8.bl⟩
end Go.Proofs.Ytacadlbhgelncaa

namespace Go.Proofs.Ytacadlbhgelncaa
open Go.RowKit Go.Maps Go.Shelf
set_option linter.unusedSimpArgs false
set_option linter.unusedVariables false
set_option maxRecDepth 20000
theorem hello_nil (now i : Int) (c : Ad) (h : Tl) (w : World) : Calls Try.prog 11 #[.pointer none, .int .i64 now, .int .i64 i, (Value.agg (acells c).toArray), .agg (tcells h).toArray] w (Gives w (.int .i64 7)) := by
  go_enter Try.func11, Try.ntmps11
  go_wp2
  go_ret
  exact ⟨rfl, bt (ba _ _) (ba _ _)⟩
theorem ihu_nil (now i : Int) (c : Ad) (h : Tl) (w : World) : Calls Try.prog 14 #[.pointer none, .int .i64 now, .int .i64 i, (Value.agg (acells c).toArray), .agg (tcells h).toArray] w (Gives w (.int .i64 7)) := by
  go_enter Try.func14, Try.ntmps14
  go_wp2
  go_ret
  exact ⟨rfl, bt (ba _ _) (ba _ _)⟩
theorem next_nil (w : World) : Calls Try.prog 15 #[.pointer none] w (Gives w (.tuple #[.int .i64 0, .bool false])) := by
  go_enter Try.func15, Try.ntmps15
  go_wp2
  go_ret2
  exact ⟨rfl, Below.refl _ _⟩
theorem drop_nil (v : Value) (w : World) : Calls Try.prog 21 #[.pointer none, v] w (Gives w (.int .i64 0)) := by
  go_enter Try.func21, Try.ntmps21
  go_wp2
  go_ret
  exact ⟨rfl, Below.refl _ _⟩
theorem tick_nil (now : Int) (w : World) : Calls Try.prog 12 #[.pointer none, .int .i64 now] w (Gives w (.slice none 0 0)) := by
  go_enter Try.func12, Try.ntmps12
  go_wp2_with (go_at_call 13; refine (list_nil _).mono ?_; rintro e w1 ⟨rfl, rfl⟩)
  go_loopw [5, 11] (fun v i wr => v = .slice none 0 0 ∧ i = .int .i64 0 ∧ w = wr) (fun _ _ _ => 0)
  case atStart => exact ⟨rfl, rfl, rfl⟩
  case round =>
    obtain ⟨rfl, rfl, rfl⟩ := hrel
    go_wp2
    go_ret
    exact ⟨rfl, Below.refl _ _⟩
theorem gv_none : getV none = .tuple #[nV zeroN, .bool false] := rfl
theorem rx_nil (i : Int) (c : Ad) (w : World) : Calls Try.prog 19 #[.pointer none, .int .i64 i, (Value.agg (acells c).toArray)] w (Gives w (.int .u16 65535)) := by
  have hG := get_nil i c
  rw [gv_none] at hG
  have r0 := Row.new w 29 (acells c)
  go_enter Try.func19, Try.ntmps19
  go_upto_region 1 with fail
  refine name_world (R := fun W => Code.wp _ _ _ _ W) (P := fun W => Below w.heap.size w W ∧ Row W w.heap.size 29 (acells c)) _ ⟨ba _ _, r0⟩ ?_
  clear r0
  rintro X ⟨hB, r0⟩
  go_wp2_with (first
    | (have kk := r2; refine stN _ _ rfl rfl g2 zeroN _ rfl rfl r2 ?_; intro W3 g3 r3; have b3 := grown_below g3 (bt b1 hB2) (Nat.le_trans b1.size hge2) (bt b1 hB2).size; clear r2)
    | (have kk := b1; refine alG infoNz rfl rfl ?_; intro g2 W2 hge2 hgl2 hB2 r2)
    | (go_at_call 17; refine (hG _).mono ?_; rintro e w1 ⟨rfl, b1⟩)
    | (refine ldA _ rfl rfl _ _ c rfl r0.range ?_))
  go_ret
  exact ⟨rfl, bt hB b3⟩
theorem cost_nil (i : Int) (c : Ad) (w : World) : Calls Try.prog 20 #[.pointer none, .int .i64 i, (Value.agg (acells c).toArray)] w (Gives w (.int .u16 65535)) := by
  have hG := get_nil i c
  rw [gv_none] at hG
  have r0 := Row.new w 29 (acells c)
  go_enter Try.func20, Try.ntmps20
  go_upto_region 1 with fail
  refine name_world (R := fun W => Code.wp _ _ _ _ W) (P := fun W => Below w.heap.size w W ∧ Row W w.heap.size 29 (acells c)) _ ⟨ba _ _, r0⟩ ?_
  clear r0
  rintro X ⟨hB, r0⟩
  go_wp2_with (first
    | (have kk := r2; refine stN _ _ rfl rfl g2 zeroN _ rfl rfl r2 ?_; intro W3 g3 r3; have b3 := grown_below g3 (bt b1 hB2) (Nat.le_trans b1.size hge2) (bt b1 hB2).size; clear r2)
    | (have kk := b1; refine alG infoNz rfl rfl ?_; intro g2 W2 hge2 hgl2 hB2 r2)
    | (go_at_call 17; refine (hG _).mono ?_; rintro e w1 ⟨rfl, b1⟩)
    | (refine ldA _ rfl rfl _ _ c rfl r0.range ?_))
  go_ret
  exact ⟨rfl, bt hB b3⟩
set_option maxHeartbeats 8000000 in
theorem nil_walk (i : Int) (c : Ad) (h : Tl) (w : World) : Calls Try.prog 5 #[.int .i64 i, (Value.agg (acells c).toArray), .agg (tcells h).toArray] w (Gives w (.bool true)) := by
  have hG := get_nil i c
  rw [gv_none] at hG
  obtain ⟨hB, r0, rT⟩ := low_rows w (acells c) (tcells h) 29 39
  go_enter Try.func5, Try.ntmps5
  go_upto_region 2 with fail
  refine name_world (R := fun W => Code.wp _ _ _ _ W) (P := fun W => Below w.heap.size w W ∧ Row W w.heap.size 29 (acells c) ∧ Row W (w.heap.size + 1) 39 (tcells h)) _ ⟨hB, r0, rT⟩ ?_
  clear hB r0 rT
  rintro X ⟨hB, r0, rT⟩
  have hs := r0.lt
  have hsT := rT.lt
  have hb := Below.refl X.heap.size X
  go_wp2_with (first
    | (go_at_call 17; refine (hG _).mono ?_; rintro e w1 ⟨rfl, hn⟩; replace hb := bt hb hn; clear hn)
    | (go_at_call 15; refine (next_nil _).mono ?_; rintro e w1 ⟨rfl, hn⟩; replace hb := bt hb hn; clear hn)
    | (go_at_call 11; refine (hello_nil _ _ _ _ _).mono ?_; rintro e w1 ⟨rfl, hn⟩; replace hb := bt hb hn; clear hn)
    | (go_at_call 14; refine (ihu_nil _ _ _ _ _).mono ?_; rintro e w1 ⟨rfl, hn⟩; replace hb := bt hb hn; clear hn)
    | (go_at_call 18; refine (num_any _ _).mono ?_; rintro e w6 ⟨rfl, rfl⟩)
    | (go_at_call 12; refine (tick_nil _ _).mono ?_; rintro e w1 ⟨rfl, hn⟩; replace hb := bt hb hn; clear hn)
    | (go_at_call 19; refine (rx_nil _ _ _).mono ?_; rintro e w1 ⟨rfl, hn⟩; replace hb := bt hb hn; clear hn)
    | (go_at_call 20; refine (cost_nil _ _ _).mono ?_; rintro e w1 ⟨rfl, hn⟩; replace hb := bt hb hn; clear hn)
    | (go_at_call 13; refine (list_nil _).mono ?_; rintro e w1 ⟨rfl, rfl⟩)
    | (go_at_call 21; refine (drop_nil _ _).mono ?_; rintro e w1 ⟨rfl, hn⟩; replace hb := bt (bt hb (ba _ _)) hn; clear hn)
    | (go_at_call 9; refine (live_any _).mono ?_; rintro e w1 ⟨rfl, hn⟩; replace hb := bt hb hn; clear hn)
    | (have kk := r2; refine stN (.tmp 8) (.tmp 17) rfl rfl g2 zeroN _ rfl rfl r2 ?_; intro W3 g3 r3; replace hb := grown_below g3 (bt hb hB2) (Nat.le_trans hb.size hge2) (bt hb hB2).size; clear r2)
    | (refine alG infoNz rfl rfl ?_; intro g2 W2 hge2 hgl2 hB2 r2)
    | (refine ldA (.tmp 4) rfl rfl _ _ c rfl (r0.below hb hs).range ?_)
    | (refine ldT (.tmp 5) rfl rfl _ h rfl (rT.below hb hsT) ?_))
  go_ret
  exact ⟨rfl, bt hB hb⟩
end Go.Proofs.Ytacadlbhgelncaa

namespace Go.Proofs.Ytacadlbhgelncaa
set_option maxRecDepth 100000
set_option linter.unusedVariables false
theorem okWide_arr {P : Program} {w : World} {r : Reach} {b t n : Nat} {e : TypeId} {v : Value} (ht : P.underlying t = some (.array n e)) (h : Value.okWide P w r b t v) : ∃ cs, v = .agg cs := by
  simp only [Value.okWide, ht] at h
  obtain ⟨cs, h1, _⟩ := h
  exact ⟨cs, h1⟩
open Go.RowKit Go.ChangeShapes Go.WideShapes Go.ChangeAt Go.Deep
theorem own : ownKnob Try.prog.godebug = none := by kernel_rfl
theorem laid_out : laidOutB Try.prog = true := by kernel_rfl
theorem nat_of16 {z : Int} (h : (Lit.int .u16 z).wf = true) : ∃ n : Nat, z = n ∧ n < 65536 := by
  obtain ⟨h0, h1⟩ := bounds_u16 h
  exact ⟨z.toNat, by omega, by omega⟩
section
variable {H : Type} {enc : TypeId × Value → H} {w : World} {base : Nat} {spare : Nat → Bool} {held : Bool}
theorem bytes_of (m : Nat) : ∀ (cs : List Value) (xs : List (DataW H × List MemPlace)), cs.length = xs.length → (∀ i, i < xs.length → DataW.trod enc Try.prog w base spare held m 5 ((cs.drop i).take 1) = xs[i]?) → ∃ l : List UInt8, cs = bcells l
  | [], _, _, _ => ⟨[], rfl⟩
  | c :: r, [], h, _ => by simp at h
  | c :: r, x :: ys, h, k => by
    obtain ⟨l, rfl⟩ := bytes_of m r ys (by simpa using h) (fun i hi => by have := k (i + 1) (by simp; omega); simpa using this)
    obtain ⟨n, e1, _, hw⟩ := DataW.trod_int Try.underlying5 (show DataW.trod enc Try.prog w base spare held m 5 [c] = some x by simpa using k 0 (by simp))
    obtain ⟨h0, h1⟩ := bounds_u8 hw
    simp only [List.cons.injEq, and_true] at e1
    refine ⟨UInt8.ofNat n.toNat :: l, ?_⟩
    rw [e1]
    show _ = Value.int .u8 ((UInt8.ofNat n.toNat).toNat : Int) :: bcells l
    have : (UInt8.ofNat n.toNat).toNat = n.toNat := by simp; omega
    rw [this]
    congr 2
    omega
theorem cellsA : Try.prog.cellsOf 29 = 16 := by kernel_rfl
theorem cellsP : Try.prog.cellsOf 34 = 17 := by kernel_rfl
theorem cellsQ : Try.prog.cellsOf 36 = 34 := by kernel_rfl
theorem cells_u8 : Try.prog.cellsOf 5 = 1 := by kernel_rfl
theorem cells_int : Try.prog.cellsOf 3 = 1 := by kernel_rfl
theorem ad_of {fuel : Nat} {cs : List Value} {x : DataW H × List MemPlace} (h : DataW.trod enc Try.prog w base spare held fuel 29 cs = some x) : ∃ a : Ad, cs = acells a := by
  obtain ⟨xs, m, _, _, hl, hn, hel⟩ := DataW.trod_array Try.underlying29 h
  rw [cells_u8] at hel
  obtain ⟨l, rfl⟩ := bytes_of m cs xs (by rw [hl, hn, cellsA]) (fun i hi => by have := hel i (by omega); rwa [Nat.mul_one] at this)
  exact ⟨⟨l, by rw [bcells_length, cellsA] at hl; exact hl⟩, rfl⟩
theorem pf_of {fuel : Nat} {cs : List Value} {x : DataW H × List MemPlace} (h : DataW.trod enc Try.prog w base spare held fuel 34 cs = some x) : ∃ p : Pf, cs = pcells p ∧ -9223372036854775808 ≤ p.n ∧ p.n ≤ 9223372036854775807 := by
  obtain ⟨y0, y1, n, _, hl, h0, h1⟩ := trod_struct2 Try.underlying34 h
  dsimp only at h0 h1
  rw [cellsA] at h0
  rw [cells_int] at h1
  rw [cellsP] at hl
  obtain ⟨a, ha⟩ := ad_of h0
  obtain ⟨k, e1, _, hw⟩ := DataW.trod_int Try.underlying3 h1
  refine ⟨⟨a, k⟩, ?_, bounds_i64 hw⟩
  rw [pcells, ← ha, ← e1, List.drop_zero]
  have : (cs.drop 16).take 1 = cs.drop 16 := List.take_of_length_le (by simp; omega)
  rw [this, List.take_append_drop]
theorem pr_of {fuel : Nat} {cs : List Value} {x : DataW H × List MemPlace} (h : DataW.trod enc Try.prog w base spare held fuel 36 cs = some x) : ∃ q : Pr, cs = qcells q ∧ (-9223372036854775808 ≤ q.d.n ∧ q.d.n ≤ 9223372036854775807) ∧ -9223372036854775808 ≤ q.s.n ∧ q.s.n ≤ 9223372036854775807 := by
  obtain ⟨y0, y1, n, _, hl, h0, h1⟩ := trod_struct2 Try.underlying36 h
  dsimp only at h0 h1
  rw [cellsP] at h0 h1
  rw [cellsQ] at hl
  obtain ⟨d, hd, d1⟩ := pf_of h0
  obtain ⟨s, hs, s1⟩ := pf_of h1
  refine ⟨⟨d, s⟩, ?_, d1, s1⟩
  rw [qcells, ← hd, ← hs, List.drop_zero]
  have : (cs.drop 17).take 17 = cs.drop 17 := List.take_of_length_le (by simp; omega)
  rw [this, List.take_append_drop]
theorem cells_bool : Try.prog.cellsOf 4 = 1 := by kernel_rfl
theorem cells_I : Try.prog.cellsOf 32 = 8 := by kernel_rfl
theorem cells_u16 : Try.prog.cellsOf 30 = 1 := by kernel_rfl
theorem cells_L : Try.prog.cellsOf 37 = 1 := by kernel_rfl
theorem cells_T : Try.prog.cellsOf 39 = 68 := by kernel_rfl
theorem cells_u32 : Try.prog.cellsOf 53 = 1 := by kernel_rfl
theorem id_of {fuel : Nat} {cs : List Value} {x : DataW H × List MemPlace} (h : DataW.trod enc Try.prog w base spare held fuel 32 cs = some x) : ∃ a : Id8, cs = icells a := by
  obtain ⟨xs, m, _, _, hl, hn, hel⟩ := DataW.trod_array Try.underlying32 h
  rw [cells_u8] at hel
  obtain ⟨l, rfl⟩ := bytes_of m cs xs (by rw [hl, hn, cells_I]) (fun i hi => by have := hel i (by omega); rwa [Nat.mul_one] at this)
  exact ⟨⟨l, by rw [bcells_length, cells_I] at hl; exact hl⟩, rfl⟩
theorem st_of {fuel : Nat} {cs : List Value} {x : DataW H × List MemPlace} (h : DataW.trod enc Try.prog w base spare held fuel 37 cs = some x) : ∃ a n c, ∃ st : List UInt32, cs = [.slice a n c] ∧ st.length = n ∧ (n = 0 ∨ ∃ g o, a = some ⟨g, o, none⟩ ∧ g < w.heap.size ∧ ∀ (j : Nat) (x : UInt32), st[j]? = some x → w.cell? ⟨g, o + j, none⟩ = some (.int .u32 (x.toNat : Int))) ∧ n ≤ maxLen := by
  rcases open_ints Try.underlying37 Try.underlying53 cells_u32 h with ⟨hcs, _⟩ | ⟨x, l, c, zs, hcs, _, hl, hm, hz, _, hcell, hwz⟩
  · exact ⟨none, 0, 0, [], hcs, rfl, .inl rfl, Nat.zero_le _⟩
  · have hlz : l ≤ zs.length := by rw [hz]; split <;> omega
    refine ⟨some x, l, c, (zs.take l).map fun z => UInt32.ofNat z.toNat, hcs, by simp; omega, ?_, by omega⟩
    by_cases h0 : l = 0
    · exact .inl h0
    · obtain ⟨b, o, rfl, hc⟩ := ints_at hcell (by omega)
      refine .inr ⟨b, o, rfl, World.block_lt_of_cell? _ _ (hc 0 (by omega)), fun j v hv => ?_⟩
      have hj : j < l := by have := (List.getElem?_eq_some_iff.1 hv).1; simp at this; omega
      rw [List.getElem?_map, List.getElem?_take_of_lt hj] at hv
      have hjz : j < zs.length := by omega
      rw [hc j hjz]
      rw [List.getElem?_eq_getElem hjz] at hv
      cases hv
      have hb := bounds_u32 (hwz _ (List.getElem_mem hjz))
      simp [hjz]
      omega
theorem drop_split (cs : List Value) (o n m : Nat) (h : o + n = m) : cs.drop o = (cs.drop o).take n ++ cs.drop m := by
  rw [← h, ← List.drop_drop, List.take_append_drop]
theorem nat_of8 {z : Int} (h : (Lit.int .u8 z).wf = true) : ∃ n : Nat, z = n ∧ n < 256 := by
  obtain ⟨h0, h1⟩ := bounds_u8 h
  exact ⟨z.toNat, by omega, by omega⟩
theorem tl_of {fuel : Nat} {cs : List Value} {x : DataW H × List MemPlace} (h : DataW.trod enc Try.prog w base spare held fuel 39 cs = some x) : ∃ t : Tl, cs = tcells t ∧ Sm w t ∧ t.fit ∧ t.ty < 256 ∧ t.sn ≤ maxLen := by
  obtain ⟨xs, n, _, _, hl, hlen, hf⟩ := DataW.trod_struct Try.underlying39 h
  rw [cells_T] at hl
  match xs, hlen with
  | [y0, y1, y2, y3, y4, y5, y6, y7, y8, y9, y10, y11, y12], _ =>
    have f0 : DataW.trod enc Try.prog w base spare held n 5 ((cs.drop 0).take (Try.prog.cellsOf 5)) = some y0 := hf 0 _ rfl
    have f1 : DataW.trod enc Try.prog w base spare held n 30 ((cs.drop 1).take (Try.prog.cellsOf 30)) = some y1 := hf 1 _ rfl
    have f2 : DataW.trod enc Try.prog w base spare held n 30 ((cs.drop 2).take (Try.prog.cellsOf 30)) = some y2 := hf 2 _ rfl
    have f3 : DataW.trod enc Try.prog w base spare held n 30 ((cs.drop 3).take (Try.prog.cellsOf 30)) = some y3 := hf 3 _ rfl
    have f4 : DataW.trod enc Try.prog w base spare held n 30 ((cs.drop 4).take (Try.prog.cellsOf 30)) = some y4 := hf 4 _ rfl
    have f5 : DataW.trod enc Try.prog w base spare held n 30 ((cs.drop 5).take (Try.prog.cellsOf 30)) = some y5 := hf 5 _ rfl
    have f6 : DataW.trod enc Try.prog w base spare held n 5 ((cs.drop 6).take (Try.prog.cellsOf 5)) = some y6 := hf 6 _ rfl
    have f7 : DataW.trod enc Try.prog w base spare held n 4 ((cs.drop 7).take (Try.prog.cellsOf 4)) = some y7 := hf 7 _ rfl
    have f8 : DataW.trod enc Try.prog w base spare held n 4 ((cs.drop 8).take (Try.prog.cellsOf 4)) = some y8 := hf 8 _ rfl
    have f9 : DataW.trod enc Try.prog w base spare held n 32 ((cs.drop 9).take (Try.prog.cellsOf 32)) = some y9 := hf 9 _ rfl
    have f10 : DataW.trod enc Try.prog w base spare held n 29 ((cs.drop 17).take (Try.prog.cellsOf 29)) = some y10 := hf 10 _ rfl
    have f11 : DataW.trod enc Try.prog w base spare held n 36 ((cs.drop 33).take (Try.prog.cellsOf 36)) = some y11 := hf 11 _ rfl
    have f12 : DataW.trod enc Try.prog w base spare held n 37 ((cs.drop 67).take (Try.prog.cellsOf 37)) = some y12 := hf 12 _ rfl
    rw [cells_u8] at f0 f6
    rw [cells_u16] at f1 f2 f3 f4 f5
    rw [cells_bool] at f7 f8
    rw [cells_I] at f9
    rw [cellsA] at f10
    rw [cellsQ] at f11
    rw [cells_L] at f12
    obtain ⟨z0, e0, _, w0⟩ := DataW.trod_int Try.underlying5 f0
    obtain ⟨z1, e1, _, w1⟩ := DataW.trod_int Try.underlying30 f1
    obtain ⟨z2, e2, _, w2⟩ := DataW.trod_int Try.underlying30 f2
    obtain ⟨z3, e3, _, w3⟩ := DataW.trod_int Try.underlying30 f3
    obtain ⟨z4, e4, _, w4⟩ := DataW.trod_int Try.underlying30 f4
    obtain ⟨z5, e5, _, w5⟩ := DataW.trod_int Try.underlying30 f5
    obtain ⟨z6, e6, _, w6⟩ := DataW.trod_int Try.underlying5 f6
    obtain ⟨b7, e7, _⟩ := DataW.trod_bool Try.underlying4 f7
    obtain ⟨b8, e8, _⟩ := DataW.trod_bool Try.underlying4 f8
    obtain ⟨i9, e9⟩ := id_of f9
    obtain ⟨a10, e10⟩ := ad_of f10
    obtain ⟨q11, e11, _⟩ := pr_of f11
    obtain ⟨sa, sn, sc, st, e12, hst1, hst2, hst3⟩ := st_of f12
    obtain ⟨n0, rfl, k0⟩ := nat_of8 w0
    obtain ⟨n1, rfl, k1⟩ := nat_of16 w1
    obtain ⟨n2, rfl, k2⟩ := nat_of16 w2
    obtain ⟨n3, rfl, k3⟩ := nat_of16 w3
    obtain ⟨n4, rfl, k4⟩ := nat_of16 w4
    obtain ⟨n5, rfl, k5⟩ := nat_of16 w5
    obtain ⟨n6, rfl, k6⟩ := nat_of8 w6
    refine ⟨⟨n0, n1, n2, n3, n4, n5, n6, b7, b8, i9, a10, q11, sa, sn, sc, st⟩, ?_, ⟨hst1, hst2⟩, ⟨k2, k3, k4⟩, k0, hst3⟩
    have g0 := drop_split cs 0 1 1 rfl
    have g1 := drop_split cs 1 1 2 rfl
    have g2 := drop_split cs 2 1 3 rfl
    have g3 := drop_split cs 3 1 4 rfl
    have g4 := drop_split cs 4 1 5 rfl
    have g5 := drop_split cs 5 1 6 rfl
    have g6 := drop_split cs 6 1 7 rfl
    have g7 := drop_split cs 7 1 8 rfl
    have g8 := drop_split cs 8 1 9 rfl
    have g9 := drop_split cs 9 8 17 rfl
    have g10 := drop_split cs 17 16 33 rfl
    have g11 := drop_split cs 33 34 67 rfl
    have g12 := drop_split cs 67 1 68 rfl
    have gl : cs.drop 68 = [] := List.drop_eq_nil_of_le (by omega)
    rw [gl, e12] at g12
    rw [g12, e11] at g11
    rw [g11, e10] at g10
    rw [g10, e9] at g9
    rw [g9, e8] at g8
    rw [g8, e7] at g7
    rw [g7, e6] at g6
    rw [g6, e5] at g5
    rw [g5, e4] at g4
    rw [g4, e3] at g3
    rw [g3, e2] at g2
    rw [g2, e1] at g1
    rw [g1, e0] at g0
    rw [List.drop_zero] at g0
    rw [g0]
    simp [tcells, tnum]
variable {r : Reach} {b0 : Nat} {v : Value} {d : DataW H} {p : List MemPlace}
theorem openA (hv : Value.okWide Try.prog w r b0 29 v) (h : DataW.Trod enc Try.prog w base spare held 29 v d p) : ∃ a : Ad, v = (Value.agg (acells a).toArray) := by
  obtain ⟨cs, rfl⟩ := okWide_arr Try.underlying29 hv
  obtain ⟨fuel, hf⟩ := h
  obtain ⟨a, ha⟩ := ad_of hf
  exact ⟨a, by rw [← ha]; simp [Value.cells]⟩
theorem openT (hv : Value.okWide Try.prog w r b0 39 v) (h : DataW.Trod enc Try.prog w base spare held 39 v d p) : ∃ t : Tl, v = .agg (tcells t).toArray ∧ Sm w t ∧ t.fit ∧ t.ty < 256 ∧ t.sn ≤ maxLen := by
  obtain ⟨cs, rfl, _⟩ := okWide_struct Try.underlying39 hv
  obtain ⟨fuel, hf⟩ := h
  obtain ⟨t, ht, h1, h2⟩ := tl_of hf
  exact ⟨t, by rw [← ht]; simp [Value.cells], h1, h2⟩
end
/-- The readings of arguments stay where nothing that was there is written. -/
theorem all_stay {H : Type} {enc : TypeId × Value → H} {P : Program} (hl : laidOutB P = true) {W W' : World} (hb : Below W.heap.size W W') : ∀ (ts : List TypeId) (vs : List Value) (ds : List (DataW H)) (p : List MemPlace), (ts.all fun t => P.readableRec t && decide (t < P.types.size)) = true → DataW.TrodAll enc P W 0 (fun _ => true) true ts vs ds p → DataW.TrodAll enc P W' 0 (fun b => decide (b < W.heap.size)) true ts vs ds p
  | [], vs, ds, p, _, h => by
    obtain ⟨rfl, rfl, rfl⟩ := trodAll_nil h
    exact trodAll_mk0
  | t :: ts, vs, ds, p, hr, h => by
    obtain ⟨v0, vs0, d0, ds0, p0, q0, rfl, rfl, rfl, h0, r0⟩ := trodAll_cons h
    simp only [List.all_cons, Bool.and_eq_true, decide_eq_true_eq] at hr
    refine trodAll_cons_mk (Below.trod hl hr.1.1 hr.1.2 h0 hb ?_) (all_stay hl hb ts vs0 ds0 q0 (by simpa using hr.2) r0)
    obtain ⟨m, hm⟩ := h0
    exact DataW.trod_lt m _ _ _ hm
end Go.Proofs.Ytacadlbhgelncaa

namespace Go.Proofs.Ytacadlbhgelncaa.neighNil
open Go.ChangeShapes Go.WideShapes Go.ChangeAt Go.RowKit
open Go.ChangeMaps (open_string)
set_option maxRecDepth 100000 in
theorem lifted (os : Os) (started : os.Started) (H : Type) (enc : TypeId × Value → H) :
    ReturnsInHanded {} Try.checked os 5 .any (Rows.neighNilSpec.pre6 enc Try.prog Try.f5 Rows.neighNilRow.domain false) (Rows.neighNilSpec.post enc Try.prog Try.f5 false true false false) := by
  refine returnsInHanded_of_change (C := Try.checked) own started (by kernel_rfl) Try.func5
    (ChangeSpec.witness6 (enc := enc) (C := Try.checked) false ⟨#[], #[.int .i64 0, (Value.agg (acells zeroA).toArray), .agg (tcells zeroT).toArray], []⟩ 8 (by kernel_rfl) (by kernel_rfl) (by kernel_rfl) (by kernel_rfl)) ?_
  intro W base args ds gs before hval0 hW hcnd _
  have hval : ∀ (j : Nat) t v, Try.f5.params[j]? = some t → args[j]? = some v → Value.okWide Try.prog W .any base t v := hval0
  have hW' := hW
  obtain ⟨p, q, hA0, hV, rfl, hfz, hnd⟩ := hW
  have hA : DataW.TrodAll enc Try.prog W 0 (fun _ => true) true Try.f5.params.toList args.toList ds p := hA0
  have kA := hA
  rw [Try.params5] at hA hval
  obtain ⟨v0, vs0, d0, ds0, p0, q0, hargs, rfl, rfl, h0, r0⟩ := trodAll_cons hA
  obtain ⟨v1, vs1, d1, ds1, p1, q1, rfl, rfl, rfl, h1, r1⟩ := trodAll_cons r0
  obtain ⟨v2, vs2, d2, ds2, p2, q2, rfl, rfl, rfl, h2, r2⟩ := trodAll_cons r1
  obtain ⟨rfl, rfl, rfl⟩ := trodAll_nil r2
  obtain rfl : args = #[v0, v1, v2] := by cases args; simp_all
  obtain ⟨rfl, rfl⟩ := trodVars_none hV
  obtain ⟨a0, rfl, _, _, w0⟩ := open_int Try.underlying3 (hval 0 3 v0 rfl rfl) h0
  obtain ⟨a1, rfl⟩ := openA (hval 1 29 v1 rfl rfl) h1
  obtain ⟨a2, rfl, s2, f2, y2, m2⟩ := openT (hval 2 39 v2 rfl rfl) h2
  clear hA0 hval0
  refine (nil_walk a0 a1 a2 W).mono fun e W' ⟨he, bel⟩ => ?_
  subst he
  exact ⟨_, rfl, _, _, _, [], _, [], hW', trodAll_mk1 (shut_bool Try.underlying4 _), all_stay laid_out bel _ _ _ _ (by kernel_rfl) kA, rfl, bel.frame _, fun h => by cases h⟩
theorem over : Rows.neighNilRow.holds Try.pinned (OpenSpec.ofChange Rows.neighNilSpec) :=
  OpenClaim.holds_of_wide 5 Try.f5 rfl rfl rfl rfl rfl rfl rfl ⟨rfl, rfl, rfl, rfl, rfl⟩ rfl rfl rfl rfl rfl (by kernel_rfl) Try.func5 (by kernel_rfl)
    (of_decide_eq_true (by kernel_rfl)) (by unfold Func.isWrapper; first | (rw [if_pos (by decide +kernel)]; kernel_rfl) | (rw [if_neg (by decide +kernel)]; exact ⟨rfl, rfl⟩))
    (fun os started H enc _ => lifted os started H enc)
end Go.Proofs.Ytacadlbhgelncaa.neighNil
namespace Go.Proofs.Ytacadlbhgelncaa
/-- The statement. -/
theorem neighNil_holds : Rows.NeighNilSaid := neighNil.over
#print axioms neighNil_holds
end Go.Proofs.Ytacadlbhgelncaa
