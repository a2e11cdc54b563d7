/-
  live of the laws of neigh: it answers true.
-/
import Derived.Test.YtacadlbhgelncaaN17
namespace Go.Proofs.Ytacadlbhgelncaa
open Lk (Hi hcs hcs_one)
open Rk (Rt rcs rtV)
open Go.RowKit Go.Maps Go.Shelf
set_option linter.unusedSimpArgs false
set_option linter.unusedVariables false
set_option maxRecDepth 20000
/-- live's table under way. -/
structure Liv (w W : World) (t mb g : Nat) (L : List Ng) : Prop where
  tb : Tb W t mb 4 [fcL] L
  mt : w.heap.size ≤ mb
  bl : Below w.heap.size w W
  fr : Row W g 29 (acells frA)
theorem Liv.turn {w W W' : World} {t mb g : Nat} {L L' : List Ng} (h : Liv w W t mb g L) (k : Turn W W' t mb 4 [fcL] L') : Liv w W' t mb g L' :=
  ⟨k.tb, h.mt, k.below h.bl h.mt h.bl.size, k.row h.fr (h.tb.map.ne_row h.fr)⟩
theorem Liv.below {w W W' : World} {t mb g : Nat} {L : List Ng} (h : Liv w W t mb g L) (k : Below W.heap.size W W') : Liv w W' t mb g L := h.turn (Turn.of h.tb k)
theorem wfI0 : wfI 0 := by unfold wfI; rfl
theorem fcL_ok : ∀ f ∈ [fcL], f.ok := by
  intro f hf
  simp at hf
  subst hf
  exact ⟨of_decide_eq_true (by kernel_rfl), of_decide_eq_true (by kernel_rfl), fun h => by cases h⟩
theorem tlH_fit (j : Nat) (hj : j < 3) : (tlH j).fit := ⟨by show (400 : Nat) < 65536; omega, by show j < 65536; omega, by show (0 : Nat) < 65536; omega⟩
theorem tlI_fit : tlI.fit := ⟨by show (1200 : Nat) < 65536; omega, by show (0 : Nat) < 65536; omega, by show (96 : Nat) < 65536; omega⟩
theorem he_at (j : Nat) (hj : j < 3) : (helloR 4 [fcL] (stL j) ((j : Int) * 4000) 0 frA (tlH j)).1 = 0 := by
  match j, hj with
  | 0, _ => exact he0
  | 1, _ => exact he1
  | 2, _ => exact he2
theorem hello_l {w W : World} {t mb g j : Nat} (h : Liv w W t mb g (stL j)) (hj : j < 3) : Calls Try.prog 11 #[.pointer (some ⟨t, 0, none⟩), .int .i64 ((j : Int) * 4000), .int .i64 0, (Value.agg (acells frA).toArray), .agg (tcells (tlH j)).toArray] W fun e w' => e = .returned (.int .i64 0) ∧ Liv w w' t mb g (stL (j + 1)) := by
  refine (hello_any h.tb ((j : Int) * 4000) 0 frA (tlH j) wfI0 (tlH_fit j hj) (by omega) (by omega) ⟨rfl, .inl rfl⟩ (len_st j (by omega))).mono ?_
  rintro e w' ⟨rfl, hT⟩
  exact ⟨by rw [he_at j hj], h.turn hT⟩
theorem cost_l {w W : World} {t mb g : Nat} {n : Ng} {c : Int} (h : Liv w W t mb g [n]) (hn : n.hr = false) (hc : costT [fcL] [n] 0 frA = c) : Calls Try.prog 20 #[.pointer (some ⟨t, 0, none⟩), .int .i64 0, (Value.agg (acells frA).toArray)] W fun e w' => e = .returned (.int .u16 c) ∧ Liv w w' t mb g [n] := by
  refine (cost_tab h.tb 0 frA wfI0 (fun m hm => ?_)).mono ?_
  · have := (getN_some hm).1
    simp at this
    rw [this]; exact hn
  · rintro e w' ⟨rfl, hB⟩
    exact ⟨by rw [hc], h.below hB⟩
theorem rx_l {w W : World} {t mb g : Nat} {n : Ng} {c : Int} (h : Liv w W t mb g [n]) (hc : rxT [fcL] [n] 0 frA = c) : Calls Try.prog 19 #[.pointer (some ⟨t, 0, none⟩), .int .i64 0, (Value.agg (acells frA).toArray)] W fun e w' => e = .returned (.int .u16 c) ∧ Liv w w' t mb g [n] := by
  refine (rx_tab h.tb 0 frA wfI0).mono ?_
  rintro e w' ⟨rfl, hB⟩
  exact ⟨by rw [hc], h.below hB⟩
theorem ihu_l {w W : World} {t mb g : Nat} (h : Liv w W t mb g [n3]) : Calls Try.prog 14 #[.pointer (some ⟨t, 0, none⟩), .int .i64 8000, .int .i64 0, (Value.agg (acells frA).toArray), .agg (tcells tlI).toArray] W fun e w' => e = .returned (.int .i64 0) ∧ Liv w w' t mb g [n4] := by
  refine (ihu_any h.tb 8000 0 frA tlI n4 wfI0 tlI_fit (by omega) (by omega) ⟨rfl, .inl rfl⟩ (by simp) (fun n hn f hf => ?_)).mono ?_
  · have e1 := (getN_some hn)
    have e2 : n = n3 := by simpa using e1.1
    subst e2
    have e3 : f = fcL := by simpa using hf.symm
    subst e3
    have ok3 := (h.tb.nok n3 (by simp)).1
    refine ⟨fun W' _ => timed_off n4 8000 fcL.r _ W' rfl, ?_, e1.2.1, e1.2.2, fun h => ?_⟩
    · exact ⟨ok3.mo, ok3.mj, ok3.uo, ok3.uj, ok3.mg0, ok3.mg1, ok3.ug0, ok3.ug1, ok3.ma0, ok3.ma1, ok3.ua0, ok3.ua1, of_decide_eq_true (by kernel_rfl), of_decide_eq_true (by kernel_rfl), ok3.rt0, ok3.rt1⟩
    · have e4 : n4.hr = false := hr3
      rw [e4] at h; cases h
  · rintro e w' ⟨rfl, hT⟩
    rw [ih4] at hT
    exact ⟨by rw [ih4], h.turn hT⟩
theorem tick_l {w W : World} {t mb g : Nat} {n : Ng} (h : Liv w W t mb g [n]) (now : Int) (t1 : now ≤ 1125899906842624) (hs : decide ((agedN n now).m.b = 0 ∧ (agedN n now).u.b = 0) = false) : Calls Try.prog 12 #[.pointer (some ⟨t, 0, none⟩), .int .i64 now] W fun e w' => e = .returned (.slice none 0 0) ∧ Liv w w' t mb g [agedN n now] := by
  refine (tick_stay h.tb now t1 (of_decide_eq_false hs)).mono ?_
  rintro e w' ⟨rfl, hT⟩
  exact ⟨rfl, h.turn hT⟩
theorem list_l {w W : World} {t mb g : Nat} {n : Ng} (h : Liv w W t mb g [n]) : Calls Try.prog 13 #[.pointer (some ⟨t, 0, none⟩)] W fun e w' => ∃ ad c, e = .returned (.slice ad 1 c) ∧ Liv w w' t mb g [n] := by
  refine (list_one h.tb (by simp)).mono ?_
  rintro e w' ⟨r, rfl, hO, hB⟩
  obtain ⟨ad, c, rfl, _⟩ := Kd.own_at hO
  exact ⟨ad, c, rfl, h.below hB⟩
theorem new_l {w W : World} {p : Nat} (hW : Below w.heap.size w W) (r0 : Row W p 66 (ics wiC)) : Calls Try.prog 10 #[.int .i64 4, .slice (some ⟨p, 0, none⟩) 1 1] W fun e w' => ∃ t mb, e = .returned (.pointer (some ⟨t, 0, none⟩)) ∧ Tb w' t mb 4 [fcL] [] ∧ w.heap.size ≤ mb ∧ Below w.heap.size w w' := by
  have hc : CsW W (some ⟨p, 0, none⟩) [wiC] := ⟨.inr ⟨_, 0, rfl, r0.lt, fun j q hq => by
    match j with
    | 0 => cases hq; exact r0.range
    | j + 1 => simp at hq⟩⟩
  refine (new_any 4 _ 1 [wiC] _ hc (by simp)).mono ?_
  rintro e w' ⟨t, mb, fa, rfl, h1, h2, hN⟩
  have hs := hW.size
  exact ⟨t, mb, rfl, hN.tb fcL_ok (by simp), by omega, bt hW hN.bl⟩
set_option maxHeartbeats 8000000 in
theorem live_any (w : World) : Calls Try.prog 9 #[] w fun e w' => e = .returned (.bool true) ∧ Below w.heap.size w w' := by
  go_enter Try.func9, Try.ntmps9
  go_wp2_with (first
    | (have kk := r3; refine stA0 (.tmp 2) (.tmp 8) rfl rfl g3 frA _ rfl rfl rfl r3 ?_; intro W4 g4 r4; clear r3)
    | (have kk := hT2; refine alG infoAz rfl rfl ?_; intro g3 W3 hge3 hgl3 hB3 r3)
    | (have kk := hT2; (with_reducible refine bdG (T := 29) (v := (Value.agg (acells frA).toArray)) [(0, .const (.int .u8 254)), (1, .const (.int .u8 128)), (15, .const (.int .u8 2))] ?_ ?_ ?_ ?_); (focus rfl); (focus rfl); (focus exact bdFA _))
    | (have kk := r2; go_at_call 10; refine (new_l (bt b1 b2) r2).mono ?_; rintro e w2 ⟨t, mb, rfl, hT2, hmb, bN⟩; clear b1 r2 b2)
    | (have kk := b1; (with_reducible refine bsG (T := 22) (U := 66) (n := 1) [(0, .tmp 5)] (ics wiC) ?_ ?_ ?_ ?_); (focus rfl); (focus rfl); (focus exact (fun w => bsC1 w)); intro W2 r2 b2)
    | (go_at_call 23; refine (wired_any _).mono ?_; rintro e w1 ⟨rfl, b1⟩))
  have h0 : Liv w W4 t mb g3 (stL 0) := by
    have e := hT2.own hB3 g4 hge3
    exact ⟨e, hmb, grown_below g4 (bt bN hB3) (by have := bN.size; omega) (by have := bN.size; have := hB3.size; omega), r4⟩
  clear hT2 hmb bN hB3 g4 r4 hge3 hgl3
  go_loopw [3] (fun i wr => ∃ j : Nat, j ≤ 3 ∧ i = .int .i64 (j : Int) ∧ Liv w wr t mb g3 (stL j)) (fun i _ => 3 - (intOf i).toNat)
  case atStart => exact ⟨0, by omega, rfl, h0⟩
  case round =>
    obtain ⟨j, hj, rfl, hL⟩ := hrel
    by_cases hlt : j < 3
    · have hji : (j : Int) < 3 := by omega
      have hw1 : wrap64 ((j : Int) * 4000) = (j : Int) * 4000 := by unfold wrap64; omega
      have hw2 : wrap64 ((j : Int) + 1) = (j : Int) + 1 := by unfold wrap64; omega
      have hw3 : IntKind.u16.wrap (j : Int) = (j : Int) := by simp [IntKind.wrap, IntKind.signed, IntKind.bits]; omega
      have hHe := hello_l hL hlt
      have hfr := hL.fr
      clear h0
      go_wp2_with (first
        | (have kk := hL5; go_at_call 18; refine (num_any _ _).mono ?_; rintro e w6 ⟨rfl, rfl⟩)
        | (have kk := hHe; go_at_call 11; refine hHe.mono ?_; rintro e w5 ⟨rfl, hL5⟩; clear hHe)
        | (have kk := hHe; (with_reducible refine bdG (T := 39) (v := .agg (tcells (tlH j)).toArray) [(0, .const (.int .u8 4)), (3, .tmp 20), (2, .const (.int .u16 400))] ?_ ?_ ?_ ?_); (focus rfl); (focus rfl); (focus exact bdH j _))
        | (refine ldA (.tmp 2) rfl rfl _ _ frA rfl hfr.range ?_))
      go_roundw
      case rel => exact ⟨j + 1, by omega, by first | rfl | go_num, hL5⟩
      case measure => simp [intOf]; omega
    · obtain rfl : j = 3 := by omega
      rw [st3] at hL
      clear h0
      have hC3 := fun (W : World) (h : Liv w W t mb g3 [n3]) => cost_l h hr3 co3
      have hR3 := fun (W : World) (h : Liv w W t mb g3 [n3]) => rx_l h rx3
      have hI3 := fun (W : World) (h : Liv w W t mb g3 [n3]) => ihu_l h
      have hC4 := fun (W : World) (h : Liv w W t mb g3 [n4]) => cost_l (c := 96) h (show n4.hr = false from hr3) co4
      have hT4 := fun (W : World) (h : Liv w W t mb g3 [n4]) => tick_l h 14000 (by omega) li5
      have hC5 := fun (W : World) (h : Liv w W t mb g3 [n5]) => cost_l (c := 96) h (show n5.hr = false from hr3) co5
      have hT5 := fun (W : World) (h : Liv w W t mb g3 [n5]) => tick_l h 18000 (by omega) li6
      have hC6 := fun (W : World) (h : Liv w W t mb g3 [n6]) => cost_l (c := 65535) h (show n6.hr = false from hr3) co6
      go_wp2_with (first
        | (have kk := k7; go_at_call 13; refine (list_l k7).mono ?_; rintro e w8 ⟨ad, c, rfl, k8⟩; clear k7)
        | (have kk := k6; go_at_call 20; refine (hC6 _ k6).mono ?_; rintro e w7 ⟨rfl, k7⟩; clear k6)
        | (have kk := k5; go_at_call 12; refine (hT5 _ k5).mono ?_; rintro e w6 ⟨rfl, k6⟩; clear k5; have fr := k6.fr)
        | (have kk := k4; go_at_call 20; refine (hC5 _ k4).mono ?_; rintro e w5 ⟨rfl, k5⟩; clear k4)
        | (have kk := k3; go_at_call 12; refine (hT4 _ k3).mono ?_; rintro e w4 ⟨rfl, k4⟩; clear k3; have fr := k4.fr)
        | (have kk := k2; go_at_call 20; refine (hC4 _ k2).mono ?_; rintro e w3 ⟨rfl, k3⟩; clear k2)
        | (have kk := k2; go_at_call 18; refine (num_any _ _).mono ?_; rintro e w6 ⟨rfl, rfl⟩)
        | (have kk := k1; go_at_call 14; refine (hI3 _ k1).mono ?_; rintro e w2 ⟨rfl, k2⟩; clear k1; have fr := k2.fr)
        | (have kk := k1; (with_reducible refine bdG (T := 39) (v := .agg (tcells tlI).toArray) [(0, .const (.int .u8 5)), (4, .const (.int .u16 96)), (2, .const (.int .u16 1200))] ?_ ?_ ?_ ?_); (focus rfl); (focus rfl); (focus exact bdI _))
        | (have kk := k0; go_at_call 19; refine (hR3 _ k0).mono ?_; rintro e w1 ⟨rfl, k1⟩; clear k0; have fr := k1.fr)
        | (have kk := hL; go_at_call 20; refine (hC3 _ hL).mono ?_; rintro e w0 ⟨rfl, k0⟩; have fr := k0.fr; clear hL)
        | (have kk := fr; refine ldA (.tmp 2) rfl rfl _ _ frA rfl fr.range ?_)
        | (have kk := hL; refine ldA (.tmp 2) rfl rfl _ _ frA rfl hL.fr.range ?_))
      go_ret
      exact ⟨rfl, k8.bl⟩
end Go.Proofs.Ytacadlbhgelncaa
