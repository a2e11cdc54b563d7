/-
  The walk of NeighDrops.
-/
import Derived.Test.YtacadlbhgelncaaN25
import Derived.Test.YtacadlbhgelncaaN26
import Derived.Test.YtacadlbhgelncaaN28
namespace Go.Proofs.Ytacadlbhgelncaa
open Lk (Hi hcs hcs_one)
open Rk (Rt rcs rtV)
open Go.RowKit Go.Maps Go.Shelf
set_option linter.unusedSimpArgs false
set_option linter.unusedVariables false
set_option maxRecDepth 20000
/-- Not on this interface. -/
def neI (i : Int) (n : Ng) : Bool := n.i != i
theorem kept_one (L : List Ng) (i : Int) : keptL L [i] = L.filter (neI i) := by
  unfold keptL neI
  apply List.filter_congr
  intro n _
  by_cases e : n.i = i
  · simp [e]
  · have : ¬ i = n.i := fun h => e h.symm
    simp [e, this]
theorem kept_twice (L : List Ng) (i : Int) : keptL (L.filter (neI i)) [i] = L.filter (neI i) := by
  rw [kept_one, List.filter_filter]
  congr 1
  funext n
  simp
theorem drop_one {w W : World} {t mb : Nat} {most : Int} {F : List Fc} {L : List Ng} (h : Stt w W t mb most F L) (hF : F.length ≤ 8) (i : Int) (tt : TypeId) :
    Calls Try.prog 21 #[.pointer (some ⟨t, 0, none⟩), .slice (some ⟨W.heap.size, 0, none⟩) 1 1] (W.alloc (.cells #[.int .i64 i] tt)) fun e w' => e = .returned (.int .i64 ((L.length : Int) - ((L.filter (neI i)).length : Int))) ∧ Stt w w' t mb most F (L.filter (neI i)) ∧ W.grownBy w' (some mb) := by
  have r0 := Row.new W tt [.int .i64 i]
  have s1 := h.below (ba W (.cells #[.int .i64 i] tt))
  refine (drop_any s1.tb hF (some ⟨W.heap.size, 0, none⟩) 1 [i] ⟨.inr ⟨_, 0, rfl, r0.lt, fun j v hv => ?_⟩⟩ (by simp)).mono ?_
  · match j with
    | 0 => cases hv; exact r0.cell 0
    | j + 1 => simp at hv
  · rw [kept_one]
    rintro e w' ⟨rfl, hT⟩
    refine ⟨rfl, s1.turn hT, ?_⟩
    have hg := hT.grown
    have hb := ba W (.cells #[.int .i64 i] tt)
    exact ⟨hg.os.trans hb.os, hg.tape.trans hb.tape, hg.output.trans hb.output, Nat.le_trans hb.size hg.size, fun k hk hne => (hg.block k (Nat.lt_of_lt_of_le hk hb.size) hne).trans (hb.block k hk)⟩
theorem drop_two {w W : World} {t mb : Nat} {most : Int} {F : List Fc} {L : List Ng} {i : Int} (h : Stt w W t mb most F (L.filter (neI i))) (hF : F.length ≤ 8) (tt : TypeId) :
    Calls Try.prog 21 #[.pointer (some ⟨t, 0, none⟩), .slice (some ⟨W.heap.size, 0, none⟩) 1 1] (W.alloc (.cells #[.int .i64 i] tt)) fun e w' => e = .returned (.int .i64 0) ∧ Below w.heap.size w w' := by
  refine (drop_one h hF i tt).mono ?_
  rintro e w' ⟨rfl, hs, _⟩
  refine ⟨?_, hs.bl⟩
  have : (L.filter (neI i)).filter (neI i) = L.filter (neI i) := by rw [← kept_one]; exact kept_twice L i
  rw [this]
  simp
set_option maxHeartbeats 16000000 in
theorem drops_walk (ad : Option Addr) (k : Nat) (l : List Ic) (am : Option Addr) (km : Nat) (m : List Ac) (i : Int) (w : World) (hl : CsW w ad l) (hk : l.length ≤ k) (hkm : k ≤ maxLen) (hm : AsW w am m) (hmo : ∀ x ∈ m, x.h.fit ∧ wfI x.i) (hmm : m.length ≤ maxLen) :
    Calls Try.prog 6 #[.slice ad l.length k, .slice am m.length km, .int .i64 i] w (Gives w (.bool true)) := by
  have hRi := right_any ad k l am km m w hl hk hkm hm hmm
  have HL : ∀ W, Below w.heap.size w W → Calls Try.prog 9 #[] W fun e w' => e = .returned (.bool true) ∧ Below w.heap.size w w' := fun W hW => (live_any W).mono (by
    rintro e w' ⟨rfl, hn⟩
    exact ⟨rfl, bt hW hn⟩)
  have hlw : ∀ W, Below w.heap.size w W → CsW W ad l := fun W hW => hl.below hW
  have hmw : ∀ W, Below w.heap.size w W → AsW W am m := fun W hW => hm.below hW
  clear hl hk hkm hm hmm
  go_enter Try.func6, Try.ntmps6
  go_upto_region 3 with (first
    | (have kk := hb; go_at_call 9; refine (HL _ hb).mono ?_; rintro e wl ⟨rfl, hn⟩)
    | (go_at_call 8; refine hRi.mono ?_; rintro e w1 ⟨b, rfl, hr, hb⟩; cases b))
  · go_ret
    exact ⟨rfl, hn⟩
  obtain ⟨hok, hl8, hm120, hac⟩ := hr (by simp)
  have hNew := new_s (X := w) 120 ad k l hb (hlw _ hb) hl8 hok
  have hF8 : (l.map faceI).length ≤ 8 := by rw [List.length_map]; exact hl8
  clear hr hRi hlw hok hl8
  generalize l.map faceI = F at *
  go_upto_region 7 with (first
    | (go_at_call 10; refine hNew.mono ?_; rintro e w3 ⟨t, mb, rfl, s0⟩; clear hNew))
  go_wp2_with fail
  go_loopw [8, 9] (fun nv iv wr => ∃ (j : Nat) (nw : Int) (L : List Ng), j ≤ m.length ∧ iv = .int .i64 j ∧ nv = .int .i64 nw ∧ 0 ≤ nw ∧ nw ≤ j * 1073741824 ∧ Stt w wr t mb 120 F L ∧ (L.length : Int) ≤ 120) (fun _ iv _ => m.length - (intOf iv).toNat)
  case atStart => exact ⟨0, 0, [], by omega, rfl, rfl, by omega, by omega, s0, by simp⟩
  case round =>
    clear s0
    obtain ⟨j, nw, L, hj, rfl, rfl, n0, n1, sL, hLm⟩ := hrel
    by_cases hlt : j < m.length
    · rcases (hmw _ sL.bl).lies with h0 | ⟨mg, mo, rfl, hmg, hcs⟩
      · rw [h0] at hlt; simp at hlt
      have hxo := hac m[j] (List.getElem_mem hlt)
      have hxf := hmo m[j] (List.getElem_mem hlt)
      have hxs : ∀ W, Below w.heap.size w W → Sm W m[j].h := fun W hW => (hmw W hW).st m[j] (List.getElem_mem hlt)
      have hji : (j : Int) < (m.length : Int) := by omega
      have hw64 : wrap64 ((j : Int) + 1) = (j : Int) + 1 := by unfold wrap64; omega
      have HJ : Hid (j + 1 ≤ m.length) := hlt
      have HM : Hid (m.length - ((j : Int) + 1).toNat < m.length - ((j : Int)).toNat) := meas hlt
      have hjm : j ≤ 119 := by omega
      have HXM : Hid (∀ W, Below w.heap.size w W → W.rangeAt mg (mo + j * 87) (acs m[j])) := fun W hW => by
        rcases (hmw W hW).lies with h0 | ⟨g', o', e, _, hc'⟩
        · rw [h0] at hlt; simp at hlt
        · cases e
          exact hc' j m[j] (List.getElem?_eq_getElem hlt)
      generalize m[j] = x at *
      have ht1 : nw + x.g ≤ 1125899906842624 := by have := hxo.g1; omega
      have ht0 : 0 ≤ nw + x.g := by have := hxo.g0; omega
      have HN : Hid (nw + x.g ≤ ((j + 1 : Nat) : Int) * 1073741824) := by show _ ≤ _; have := hxo.g1; omega
      have hLk : L.length < 1000000 := by omega
      have hHe := fun W (hS : Stt w W t mb 120 F L) => hello_s hS (nw + x.g) x.i x.a x.h hxf.2 hxf.1 ht0 ht1 (hxs W hS.bl) hLk
      have HR1 : Hid (((helloR 120 F L (nw + x.g) x.i x.a x.h).2.length : Int) ≤ 120) := hello_len _ _ _ _ hLm
      have n2 := ht0
      have HLm : Hid ((L.length : Int) ≤ 120) := hLm
      generalize hnt : nw + x.g = nt at *
      have hwn : wrap64 (nw + x.g) = nt := by rw [hnt]; unfold wrap64; omega
      clear hnt
      generalize helloR 120 F L nt x.i x.a x.h = hR at *
      have HKc : Hid (∀ W, Below w.heap.size w W → W.cell? ⟨mg, mo + j * 87, none⟩ = some (.int .i64 x.k) ∧ W.cell? ⟨mg, mo + j * 87 + 1, none⟩ = some (.int .i64 x.g) ∧ W.cell? ⟨mg, mo + j * 87 + 2, none⟩ = some (.int .i64 x.i)) := fun W hW => by
        obtain ⟨a0, a1, a2, _⟩ := acs_cells (HXM.out W hW)
        exact ⟨a0, a1, a2⟩
      obtain ⟨x0, x1, x2⟩ := HKc.out _ sL.bl
      clear hcs hxo hxf hxs hLk hj hlt hjm n1 n0 ht1 ht0 hac hmo hLm
      by_cases k0 : x.k = 0
      · have e0 : (x.k == 0) = true := by simp [k0]
        clear k0
        go_upto_region 12 with fail
        refine wp_region_noPanic ?_
        refine wp_region_N (S := fun W => Stt w W t mb 120 F L) 17 (by kernel_rfl) (sL.below (Below.refl _ _).drew) (fun hHeld => ?_)
        refine takeN_lit (i := 0) (v := ?_) (F := #[false, true, true, true, true, true, true, true, true, true, true, true, true, true, true, true, true, false]) rfl (by kernel_rfl) (by kernel_rfl) (by kernel_rfl) (by kernel_rfl) (fun _ _ _ h => h) (Or.inl ⟨by rfl, ?_⟩) (by assumption) ?_
        rotate_left
        · (intro w hSw; (try dsimp only at hSw); go_simp <;> with_reducible rfl)
        try simp only [Act.put, List.setIfInBounds_toArray, List.set_cons_zero, List.set_cons_succ]
        refine takeN_lit (i := 1) (v := ?_) (F := #[true, false, true, true, true, true, true, true, true, true, true, true, true, true, true, true, true, false]) rfl (by kernel_rfl) (by kernel_rfl) (by kernel_rfl) (by kernel_rfl) (fun _ _ _ h => h) (Or.inl ⟨by rfl, ?_⟩) (by assumption) ?_
        rotate_left
        · (intro w hSw; (try dsimp only at hSw); go_simp <;> with_reducible rfl)
        try simp only [Act.put, List.setIfInBounds_toArray, List.set_cons_zero, List.set_cons_succ]
        refine takeN_lit (i := 2) (v := ?_) (F := #[true, true, false, true, false, false, false, true, true, true, true, true, true, true, true, true, true, false]) rfl (by kernel_rfl) (by kernel_rfl) (by kernel_rfl) (by kernel_rfl) (fun _ _ _ h => h) (Or.inl ⟨by rfl, ?_⟩) (by assumption) ?_
        rotate_left
        · (intro w hSw; (try dsimp only at hSw); go_simp <;> with_reducible rfl)
        try simp only [Act.put, List.setIfInBounds_toArray, List.set_cons_zero, List.set_cons_succ]
        refine takeN_lit (i := 3) (v := ?_) (F := #[true, true, true, false, false, false, false, true, true, true, true, true, true, true, true, true, true, false]) rfl (by kernel_rfl) (by kernel_rfl) (by kernel_rfl) (by kernel_rfl) (fun _ _ _ h => h) (Or.inl ⟨by rfl, ?_⟩) (by assumption) ?_
        rotate_left
        · (intro w hSw; (try dsimp only at hSw); go_simp <;> with_reducible rfl)
        try simp only [Act.put, List.setIfInBounds_toArray, List.set_cons_zero, List.set_cons_succ]
        refine takeN_lit (i := 4) (v := ?_) (F := #[true, true, true, true, false, false, false, true, true, true, true, true, true, true, true, true, true, false]) rfl (by kernel_rfl) (by kernel_rfl) (by kernel_rfl) (by kernel_rfl) (fun _ _ _ h => h) (Or.inl ⟨by rfl, ?_⟩) (by assumption) ?_
        rotate_left
        · (intro w hSw; (try dsimp only at hSw); have z := hji; go_simp <;> with_reducible rfl)
        try simp only [Act.put, List.setIfInBounds_toArray, List.set_cons_zero, List.set_cons_succ]
        refine takeN_lit (i := 5) (v := ?_) (F := #[true, true, true, true, true, false, false, true, true, true, true, true, true, true, true, true, true, false]) rfl (by kernel_rfl) (by kernel_rfl) (by kernel_rfl) (by kernel_rfl) (fun _ _ _ h => h) (Or.inl ⟨by rfl, ?_⟩) (by assumption) ?_
        rotate_left
        · (intro w hSw; (try dsimp only at hSw); go_simp <;> with_reducible rfl)
        try simp only [Act.put, List.setIfInBounds_toArray, List.set_cons_zero, List.set_cons_succ]
        refine takeN_lit (i := 6) (v := ?_) (F := #[true, true, true, true, true, true, false, true, true, true, true, true, true, true, true, true, true, false]) rfl (by kernel_rfl) (by kernel_rfl) (by kernel_rfl) (by kernel_rfl) (fun _ _ _ h => h) (Or.inl ⟨by rfl, ?_⟩) (by assumption) ?_
        rotate_left
        · (intro w hSw; (try dsimp only at hSw); have z := (HKc.out _ hSw.bl).2.2; go_simp <;> with_reducible rfl)
        try simp only [Act.put, List.setIfInBounds_toArray, List.set_cons_zero, List.set_cons_succ]
        refine takeN_lit (i := 7) (v := ?_) (F := #[true, true, true, true, true, true, true, false, true, false, false, false, true, true, true, true, true, false]) rfl (by kernel_rfl) (by kernel_rfl) (by kernel_rfl) (by kernel_rfl) (fun _ _ _ h => h) (Or.inl ⟨by rfl, ?_⟩) (by assumption) ?_
        rotate_left
        · (intro w hSw; (try dsimp only at hSw); go_simp <;> with_reducible rfl)
        try simp only [Act.put, List.setIfInBounds_toArray, List.set_cons_zero, List.set_cons_succ]
        refine takeN_lit (i := 8) (v := ?_) (F := #[true, true, true, true, true, true, true, true, false, false, false, false, true, true, true, true, true, false]) rfl (by kernel_rfl) (by kernel_rfl) (by kernel_rfl) (by kernel_rfl) (fun _ _ _ h => h) (Or.inl ⟨by rfl, ?_⟩) (by assumption) ?_
        rotate_left
        · (intro w hSw; (try dsimp only at hSw); go_simp <;> with_reducible rfl)
        try simp only [Act.put, List.setIfInBounds_toArray, List.set_cons_zero, List.set_cons_succ]
        refine takeN_lit (i := 9) (v := ?_) (F := #[true, true, true, true, true, true, true, true, true, false, false, false, true, true, true, true, true, false]) rfl (by kernel_rfl) (by kernel_rfl) (by kernel_rfl) (by kernel_rfl) (fun _ _ _ h => h) (Or.inl ⟨by rfl, ?_⟩) (by assumption) ?_
        rotate_left
        · (intro w hSw; (try dsimp only at hSw); have z := hji; go_simp <;> with_reducible rfl)
        try simp only [Act.put, List.setIfInBounds_toArray, List.set_cons_zero, List.set_cons_succ]
        refine takeN_lit (i := 10) (v := ?_) (F := #[true, true, true, true, true, true, true, true, true, true, false, false, true, true, true, true, true, false]) rfl (by kernel_rfl) (by kernel_rfl) (by kernel_rfl) (by kernel_rfl) (fun _ _ _ h => h) (Or.inl ⟨by rfl, ?_⟩) (by assumption) ?_
        rotate_left
        · (intro w hSw; (try dsimp only at hSw); go_simp <;> with_reducible rfl)
        try simp only [Act.put, List.setIfInBounds_toArray, List.set_cons_zero, List.set_cons_succ]
        refine takeN_lit (i := 11) (F := #[true, true, true, true, true, true, true, true, true, true, true, false, true, true, true, true, true, false]) rfl (by kernel_rfl) (by kernel_rfl) (by kernel_rfl) (by kernel_rfl) (fun _ _ _ h => h) (yA x.a (fun w h => acs_a (HXM.out _ h.bl)) (by rfl) rfl rfl) (by assumption) ?_
        try simp only [Act.put, List.setIfInBounds_toArray, List.set_cons_zero, List.set_cons_succ]
        refine takeN_lit (i := 12) (v := ?_) (F := #[true, true, true, true, true, true, true, true, true, true, true, true, false, true, false, false, false, false]) rfl (by kernel_rfl) (by kernel_rfl) (by kernel_rfl) (by kernel_rfl) (fun _ _ _ h => h) (Or.inl ⟨by rfl, ?_⟩) (by assumption) ?_
        rotate_left
        · (intro w hSw; (try dsimp only at hSw); go_simp <;> with_reducible rfl)
        try simp only [Act.put, List.setIfInBounds_toArray, List.set_cons_zero, List.set_cons_succ]
        refine takeN_lit (i := 13) (v := ?_) (F := #[true, true, true, true, true, true, true, true, true, true, true, true, true, false, false, false, false, false]) rfl (by kernel_rfl) (by kernel_rfl) (by kernel_rfl) (by kernel_rfl) (fun _ _ _ h => h) (Or.inl ⟨by rfl, ?_⟩) (by assumption) ?_
        rotate_left
        · (intro w hSw; (try dsimp only at hSw); go_simp <;> with_reducible rfl)
        try simp only [Act.put, List.setIfInBounds_toArray, List.set_cons_zero, List.set_cons_succ]
        refine takeN_lit (i := 14) (v := ?_) (F := #[true, true, true, true, true, true, true, true, true, true, true, true, true, true, false, false, false, false]) rfl (by kernel_rfl) (by kernel_rfl) (by kernel_rfl) (by kernel_rfl) (fun _ _ _ h => h) (Or.inl ⟨by rfl, ?_⟩) (by assumption) ?_
        rotate_left
        · (intro w hSw; (try dsimp only at hSw); have z := hji; go_simp <;> with_reducible rfl)
        try simp only [Act.put, List.setIfInBounds_toArray, List.set_cons_zero, List.set_cons_succ]
        refine takeN_lit (i := 15) (v := ?_) (F := #[true, true, true, true, true, true, true, true, true, true, true, true, true, true, true, false, false, false]) rfl (by kernel_rfl) (by kernel_rfl) (by kernel_rfl) (by kernel_rfl) (fun _ _ _ h => h) (Or.inl ⟨by rfl, ?_⟩) (by assumption) ?_
        rotate_left
        · (intro w hSw; (try dsimp only at hSw); go_simp <;> with_reducible rfl)
        try simp only [Act.put, List.setIfInBounds_toArray, List.set_cons_zero, List.set_cons_succ]
        refine takeN_lit (i := 16) (F := #[true, true, true, true, true, true, true, true, true, true, true, true, true, true, true, true, false, false]) rfl (by kernel_rfl) (by kernel_rfl) (by kernel_rfl) (by kernel_rfl) (fun _ _ _ h => h) (yTm x.h (fun w h => acs_h (HXM.out _ h.bl)) (by rfl) rfl rfl) (by assumption) ?_
        try simp only [Act.put, List.setIfInBounds_toArray, List.set_cons_zero, List.set_cons_succ]
        refine wpAnyN_ready (rs := [17]) (by kernel_rfl) (by simp) ?_
        refine consN_lit rfl (fun K hK => ?_) ?_
        · go_simp
          refine (hHe _ hHeld).mono ?_
          rintro e w5 ⟨rfl, s5⟩
          refine hK.out _ _ (Or.inl rfl) (fun _ => ?_)
          clear hK K
          try simp only [Act.put, List.setIfInBounds_toArray, List.set_cons_zero, List.set_cons_succ]
          refine wpAnyN_done (by kernel_rfl) ?_ _
          refine NoPanic.normal ?_
          clear x0 x1 x2 sL hHeld
          go_wp2_with fail
          go_roundw
          case rel => exact ⟨j + 1, nt, hR.2, HJ.out, by first | rfl | go_num, by first | rfl | rw [hwn], n2, HN.out, s5, HR1.out⟩
          case measure => (try rw [hw64]); simp only [intOf]; exact HM.out
        exact AllReadyN.nil
      · have e0 : (x.k == 0) = false := by simp [k0]
        clear k0 hHe
        go_wp2_with fail
        go_roundw
        case rel => exact ⟨j + 1, nt, L, HJ.out, by first | rfl | go_num, by first | rfl | rw [hwn], n2, HN.out, sL, HLm.out⟩
        case measure => (try rw [hw64]); simp only [intOf]; exact HM.out
    · have hji : ¬ (j : Int) < (m.length : Int) := by omega
      have hLi := list_any sL.tb
      clear hmo hac hlt hj n0 n1
      go_upto_region 15 with (first
        | (have kk := hLi; go_at_call 13; refine hLi.mono ?_; rintro e w5 ⟨r, K, rfl, hp, hasc, hO, hB5⟩; clear hLi kk; obtain ⟨va, vc, rfl, hat⟩ := Kd.own_at hO))
      have s5 := sL.below hB5
      have HKl : Hid (K.length = L.length) := hp.length_eq
      have hK120 : K.length ≤ 120 := by have := HKl.out; omega
      have hNs := (NsW.of hO).1
      have i0 : kN.Own w5 w5.heap.size (.slice none 0 0) ((K.take 0).filter (neI i)) := World.ownsRow_nil _ _ _ _
      clear hO hat sL hLm
      go_wp2_with fail
      go_loopw [10, 12] (fun v iv wr => ∃ (q : Nat) (ga : Option Addr) (gl gc : Nat), v = .slice ga gl gc ∧ q ≤ K.length ∧ iv = .int .i64 q ∧ kN.Own wr w5.heap.size (.slice ga gl gc) ((K.take q).filter (neI i)) ∧ Below w5.heap.size w5 wr) (fun _ iv _ => K.length - (intOf iv).toNat)
      case atStart => exact ⟨0, none, 0, 0, rfl, Nat.zero_le _, rfl, i0, Below.refl _ _⟩
      case round =>
        clear i0
        obtain ⟨q, ga, gl, gc, rfl, hq, rfl, hO, hb6⟩ := hrel
        by_cases hlq : q < K.length
        · rcases (hNs.below hb6).lies with h0 | ⟨g, o, rfl, hg, hc⟩
          · rw [h0] at hlq; simp at hlq
          have hx := hc q K[q] (List.getElem?_eq_getElem hlq)
          have HS : Hid (K.take (q + 1) = K.take q ++ [K[q]]) := List.take_succ_eq_append_getElem hlq
          have hqi : (q : Int) < (K.length : Int) := by omega
          have hw64 : wrap64 ((q : Int) + 1) = (q : Int) + 1 := by unfold wrap64; omega
          have HJ : Hid (q + 1 ≤ K.length) := hlq
          have HM : Hid (K.length - ((q : Int) + 1).toNat < K.length - ((q : Int)).toNat) := meas hlq
          have HGl : Hid (((K.take q).filter (neI i)).length ≤ 10000000) := by
            have := List.length_filter_le (neI i) (K.take q)
            rw [List.length_take] at this
            show _ ≤ _
            omega
          generalize K[q] = n at *
          have c0 : wr.cell? ⟨g, o + q * 34, none⟩ = some (.int .i64 n.i) := hx 0 _ (nc0 n)
          have hgN : neI i n = (n.i != i) := rfl
          clear hc hlq hq
          cases hne : (n.i != i) with
          | false =>
            have HD : Hid ((K.take (q + 1)).filter (neI i) = (K.take q).filter (neI i)) := by
              show _ = _
              rw [HS.out, List.filter_append]
              simp [hgN, hne]
            have HO : Hid (kN.Own wr w5.heap.size (.slice ga gl gc) ((K.take q).filter (neI i))) := hO
            clear HS hgN hO
            go_wp2_with fail
            go_roundw
            case rel => exact ⟨q + 1, ga, gl, gc, rfl, HJ.out, by first | rfl | go_num, by rw [HD.out]; exact HO.out, hb6⟩
            case measure => (try rw [hw64]); simp only [intOf]; exact HM.out
          | true =>
            have HD : Hid ((K.take (q + 1)).filter (neI i) = (K.take q).filter (neI i) ++ [n]) := by
              show _ = _
              rw [HS.out, List.filter_append]
              simp [hgN, hne]
            have hsz := hb6.size
            clear HS hgN
            go_wp2_with (first
              | (have kk := r6; refine kN.append (.tmp 74) (.tmp 79) rfl rfl w5.heap.size (.slice ga gl gc) _ rfl hO6 _ 1 n rfl r6 HGl.out hz6 ?_; intro v7 W7 o7 g7; clear kk r6; obtain ⟨a7, c7, rfl, _⟩ := Kd.own_at o7; rw [← HD.out] at o7 ⊢; generalize ((K.take (q + 1)).filter (neI i)).length = gl7 at o7 ⊢)
              | ((with_reducible refine bsG (T := 44) (U := 55) (n := 1) [(0, .tmp 78)] (ncs n) ?_ ?_ ?_ ?_); (focus rfl); (focus rfl); (focus exact (fun w => bsN1 n w)); intro W6 r6 b6; have hO6 := own_below hO b6; have hz6 : w5.heap.size ≤ W6.heap.size := (Nat.le_trans hsz b6.size))
              | (refine ldN (.tmp 77) rfl rfl _ _ n rfl hx ?_))
            have hb7 : Below w5.heap.size w5 W7 := below_keepO (bt hb6 b6) g7 (fun b hb => own_ne_lt hO6 hb) hz6
            go_roundw
            case rel => exact ⟨q + 1, a7, gl7, c7, rfl, HJ.out, by first | rfl | go_num, o7, hb7⟩
            case measure => (try rw [hw64]); simp only [intOf]; exact HM.out
        · have hql : q = K.length := by omega
          rw [hql, List.take_length] at hO
          have hqi : ¬ (q : Int) < (K.length : Int) := by omega
          have s6 := s5.below hb6
          obtain ⟨ga', gc', eg, _⟩ := Kd.own_at hO
          have hgl : gl = (K.filter (neI i)).length := by cases eg; rfl
          subst hgl
          clear eg
          have hpG : (K.filter (neI i)).Perm (L.filter (neI i)) := hp.filter _
          have HU : Hid (∀ K8 : List Ng, K8.Perm (L.filter (neI i)) → Asc K8 → K.filter (neI i) = K8) := fun K8 p8 a8 => Asc.unique (List.Pairwise.filter _ hasc) a8 (hpG.trans p8.symm)
          have hGl : (K.filter (neI i)).length ≤ 1000000 := by have := List.length_filter_le (neI i) K; omega
          obtain ⟨d, hd⟩ : ∃ d, (L.length : Int) - ((L.filter (neI i)).length : Int) = d := ⟨_, rfl⟩
          have hD1 := fun tt => drop_one s6 hF8 i tt
          rw [hd] at hD1
          have hsub : wrap64 ((K.length : Int) - ((K.filter (neI i)).length : Int)) = d := by
            have h1 := HKl.out
            have h2 := hpG.length_eq
            have h3 := List.length_filter_le (neI i) K
            rw [← hd, ← h2, ← h1]
            unfold wrap64
            omega
          have hD2 := fun W (hS : Stt w W t mb 120 F (L.filter (neI i))) tt => drop_two hS hF8 tt
          have HLi : Hid (∀ W, Stt w W t mb 120 F (L.filter (neI i)) → Calls Try.prog 13 #[.pointer (some ⟨t, 0, none⟩)] W fun e w' => ∃ r K, e = .returned r ∧ K.Perm (L.filter (neI i)) ∧ Asc K ∧ kN.Own w' W.heap.size r K ∧ Below W.heap.size W w') := fun W hS => list_any hS.tb
          have HOm : Hid (∀ W, wr.grownBy W (some mb) → kN.Own W w5.heap.size (.slice ga (K.filter (neI i)).length gc) (K.filter (neI i))) := fun W hg => own_map s6.tb.map hg hO
          clear hpG hd hasc hp hO s5 s6 HKl hK120 hql hlq hq hNs
          generalize L.filter (neI i) = Lf at *
          generalize hG : K.filter (neI i) = G at *
          clear hG
          go_wp2_with (first
            | (have kk := b10; go_at_call 9; refine (HL _ b10).mono ?_; rintro e wl ⟨rfl, hn⟩)
            | (have kk := s9; go_at_call 21; refine (hD2 _ s9 _).mono ?_; rintro e w10 ⟨rfl, b10⟩; clear s9)
            | (have kk := s8; go_at_call 16; refine (same_any _ _ G _ _ G _ hNL hNG hGl).mono ?_; rintro e w9 ⟨b, rfl, hiff, b9⟩; obtain rfl : b = true := (hiff.2 rfl); have s9 := s8.below b9; clear s8 kk hNL hNG)
            | (have kk := s7; go_at_call 13; refine (HLi.out _ s7).mono ?_; rintro e w8 ⟨r8, K8, rfl, p8, a8, o8, b8⟩; have e8 := HU.out K8 p8 a8; subst e8; obtain ⟨la, lc, rfl, _⟩ := Kd.own_at o8; have s8 := s7.below b8; have hNL := (NsW.of o8).1; have hNG := (NsW.of (own_below hO7 b8)).1; clear s7 kk o8 p8 a8 hO7)
            | (have kk := hD1; go_at_call 21; refine (hD1 _).mono ?_; rintro e w7 ⟨rfl, s7, g7⟩; have hO7 := HOm.out _ g7; clear hD1 kk g7))
          go_ret
          exact ⟨rfl, hn⟩
end Go.Proofs.Ytacadlbhgelncaa
