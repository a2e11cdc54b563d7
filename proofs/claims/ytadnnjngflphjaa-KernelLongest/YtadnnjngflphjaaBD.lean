/-
  list of any kernel.
-/
import Derived.Test.YtadnnjngflphjaaBC
namespace Go.Proofs.Ytadnnjngflphjaa
open Go.RowKit Go.Maps Go.Shelf
set_option linter.unusedSimpArgs false
set_option linter.unusedVariables false
set_option maxRecDepth 20000
set_option maxHeartbeats 32000000 in
theorem list_tk {w : World} {b k mb : Nat} {n : Int} {L : List Ob} (T : Tk w b k n mb L) (i : Bool) (hF : (flat L).length ≤ 1000000) :
    Calls Try.prog 36 #[.pointer (some ⟨k, 0, none⟩), .bool i] w (ListE w (sel i (flat L))) := by
  obtain ⟨D, hown, hsz, hhas, hat⟩ := T.tw.out.ex
  have hwf := T.tw.out.wf
  have hnd := T.tw.out.nd
  have hmb := T.tw.lt
  have c1 := T.row.c1
  have HT : Hid (Tw w b mb L) := T.tw
  have HN : Hid (((sel i (flat L)).map En.p).Nodup) := sel_nd T.tw.good.nodup
  replace hhas : ∀ l : Lit, Go.Maps.has D l = true ↔ ∃ n ∈ L, kp (mO.key n) = l := hhas
  replace hat : ∀ n ∈ L, ∀ z, D.atKey (kp (mO.key n)) z = .held (.map n.r) := hat
  clear T
  go_enter Try.func36, Try.ntmps36
  go_wp2_with (first
    | (at_range; refine wpList_range_own _ rfl _ 61 rfl 33 74 keyLawP Try.underlying61 elV mb L.length D rfl hown ?_; intro w0 hrg0 hg0 hs0))
  go_frame
  go_loopw [5] (fun v wr => ∃ (left : Lit → Bool) (cnt : Nat) (ss : List Ob) (G : List En) (ga : Option Addr) (gl gc : Nat), v = .slice ga gl gc ∧ wr.ranges Try.prog 33 elV mb w.heap.size L.length D left cnt ∧ Col mO L left ss ∧ Below w.heap.size w wr ∧ kE.Own wr (w.heap.size + 1) (.slice ga gl gc) G ∧ G.Perm (sel i (flat ss)))
    (fun _ wr => wr.rangeLeft mb w.heap.size)
  case atStart => exact ⟨_, _, [], [], none, 0, 0, rfl, hrg0, ⟨L, by simp, hhas⟩, below_keepO (Below.refl _ _) hg0 (by simp) (Nat.le_refl _), World.ownsRow_nil _ _ _ _, .refl _⟩
  case round =>
    clear hrg0 hg0 hown hhas hsz c1
    obtain ⟨left, cnt, ss, G, ga, gl, gc, rfl, hrg, hC, hB, hO, hG⟩ := hrel
    have hsz1 : w.heap.size + 1 ≤ wr.heap.size := hrg.lt
    go_wp2_with (first
      | (at_next; refine wpList_next_ranges _ rfl _ rfl 33 keyLawP elV id id (fun key _ _ => ⟨key, rfl⟩) (fun v _ _ => ⟨v, rfl⟩) mb w.heap.size L.length _ _ _ rfl hrg ?_ ?_))
    · intro _ hl0
      have hp := hC.done hl0
      have HP : Hid (G.Perm (sel i (flat L))) := hG.trans (sel_perm (flat_perm hp))
      have hnd2 : (G.map En.p).Nodup := (HP.out.map _).nodup_iff.2 HN.out
      have hlen : G.length ≤ 1000000 := by
        have h1 := HP.out.length_eq
        have h2 := sel_len i (flat L)
        omega
      clear hat hwf hnd hC hrg hp hG HN HT
      obtain ⟨ga', gc', e, _⟩ := Kd.own_at hO
      obtain ⟨rfl, rfl, rfl⟩ : ga = ga' ∧ gl = G.length ∧ gc = gc' := by cases e; exact ⟨rfl, rfl, rfl⟩
      clear e
      have hS := sortr_any G hO hlen hnd2 hsz1
      go_wp2_with (go_at_call 49; refine hS.mono ?_; rintro e w2 ⟨rfl, K, hp2, ha, hO2, b2⟩)
      go_ret
      have hl : K.length = G.length := hp2.length_eq
      exact ⟨_, _, K, by rw [hl]; rfl, hp2.trans HP.out, ha, Kd.own_up hO2 (by omega), below_more hB b2⟩
    · intro x c lk yd yp w1 cnt1 hkey hlk hv hat1 hrg1 hlt hg1 hs1 hen
      obtain ⟨o, hoL, rfl, hC2⟩ := hC.step hwf hnd hlk
      have hc : c = .map o.r := by
        have e := hat1 (.held (.map o.r))
        rw [hat o hoL] at e
        have hv' : some (DataW.held c, ([] : List MemPlace)) = some (yd, yp) := hv
        cases hv'
        injection e with e
        exact e.symm
      subst hc
      obtain ⟨r, er, _⟩ := HT.out.inn o hoL
      rw [er] at hen ⊢
      have hB1 : Below w.heap.size w w1 := below_keepO hB hg1 (fun g hg e => by cases e; omega) hB.size
      have hO1 : kE.Own w1 (w.heap.size + 1) (.slice ga gl gc) G := World.ownsRow.kept hO hg1 (.inr (own_ne_lt hO (by omega)))
      have hsz2 : w.heap.size + 1 ≤ w1.heap.size := hrg1.lt
      have HCN : Hid (wr.rangeLeft mb w.heap.size = cnt) := hrg.left_eq
      have HLT : Hid (cnt1 < cnt) := hlt
      have HC : Hid (Col mO L (fun z => left z && !z.sameKey (kp (mO.key o))) (ss ++ [o])) := hC2
      have HLN : Hid ((flat ss).length + o.S.length ≤ 1000000) := by
        have h1 := hC2.len
        rw [flat_append, flat_one, List.length_append] at h1
        show _ ≤ _
        omega
      clear hC hC2 hrg hlt hB hO hat hat1 hv hkey hlk hwf hnd hg1 hs1
      obtain ⟨r', er', m, _, _⟩ := (HT.out.below hB1).inn o hoL
      obtain rfl : r = r' := by rw [er] at er'; cases er'; rfl
      obtain ⟨D2, hown2, hsz3, hhas2, hat2⟩ := m.ex
      have hwf2 := m.wf
      have hnd2 := m.nd
      have hrl := m.lt
      have hrb : r < w.heap.size := by
        obtain ⟨q, eq, mq, _⟩ := HT.out.inn o hoL
        rw [er] at eq
        cases eq
        exact mq.lt
      replace hhas2 : ∀ l : Lit, Go.Maps.has D2 l = true ↔ ∃ n ∈ o.S, kp (mI.key n) = l := hhas2
      replace hat2 : ∀ n ∈ o.S, ∀ z, D2.atKey (kp (mI.key n)) z = .held (hV n) := hat2
      clear m er'
      go_wp2_with (first
        | (at_range; refine wpList_range_own _ rfl _ 74 rfl 33 67 keyLawP Try.underlying74 elV r o.S.length D2 rfl hown2 ?_; intro w2 hrgI hgI hsI))
      have bI : Below w1.heap.size w1 w2 := below_keepO (Below.refl _ _) hgI (by simp) (Nat.le_refl _)
      have hrgO := hrg1.kept hgI (by simp) (by simp)
      have hO2 := own_below hO1 bI
      have hB2 := bt hB1 bI
      clear hen
      go_frame
      go_loopw [5] (fun v wr2 => ∃ (left2 : Lit → Bool) (cnt2 : Nat) (rs : List Hd) (G2 : List En) (ga : Option Addr) (gl gc : Nat), v = .slice ga gl gc ∧ wr2.ranges Try.prog 33 elV mb w.heap.size L.length D (fun z => left z && !z.sameKey (kp (mO.key o))) cnt1 ∧ wr2.ranges Try.prog 33 elV r w1.heap.size o.S.length D2 left2 cnt2 ∧ Col mI o.S left2 rs ∧ Below w.heap.size w wr2 ∧ kE.Own wr2 (w.heap.size + 1) (.slice ga gl gc) G2 ∧ G2.Perm (sel i (flat ss ++ rs)))
        (fun _ wr2 => wr2.rangeLeft r w1.heap.size)
      case atStart => exact ⟨_, _, [], G, ga, gl, gc, rfl, hrgO, hrgI, ⟨o.S, by simp, hhas2⟩, hB2, hO2, by simpa using hG⟩
      case round =>
        clear hrgO hrgI bI hO2 hB2 hgI hsI hown2 hhas2 hsz3 hO1 hB1 hrg1 hG
        obtain ⟨left2, cnt2, rs, G2, ga, gl, gc, rfl, hrgO, hrgI, hCI, hB, hO, hG⟩ := hrel
        have hsz4 : w.heap.size + 1 ≤ wr.heap.size := hrgO.lt
        go_wp2_with (first
          | (at_next; refine wpList_next_ranges _ rfl _ rfl 33 keyLawP elV id id (fun key _ _ => ⟨key, rfl⟩) (fun v _ _ => ⟨v, rfl⟩) r w1.heap.size o.S.length _ _ _ rfl hrgI ?_ ?_))
        · intro _ hl0
          have hp := hCI.done hl0
          have HG : Hid (G2.Perm (sel i (flat (ss ++ [o])))) := by
            have h2 := hG.trans (sel_perm (List.Perm.append_left (flat ss) hp))
            show _
            rw [flat_append, flat_one]
            exact h2
          clear hp hG hCI hrgI hat2 hwf2 hnd2
          go_wp2_with fail
          go_roundw
          case rel => exact ⟨_, cnt1, ss ++ [o], G2, ga, gl, gc, rfl, hrgO, HC.out, hB, hO, HG.out⟩
          case measure => rw [hrgO.left_eq, HCN.out]; exact HLT.out
        · intro x2 c2 lk2 yd2 yp2 w3 cnt3 hkey2 hlk2 hv2 hat3 hrgI3 hlt2 hg3 hs3 hen2
          obtain ⟨n, hnS, rfl, hC3⟩ := hCI.step hwf2 hnd2 hlk2
          have hc : c2 = hV n := by
            have e := hat3 (.held (hV n))
            rw [hat2 n hnS] at e
            have hv' : some (DataW.held c2, ([] : List MemPlace)) = some (yd2, yp2) := hv2
            cases hv'
            injection e with e
            exact e.symm
          subst hc
          obtain ⟨ob, hob1, hob2⟩ := hrgI.iter_walk
          have hrgO3 := hrgO.kept hg3 (fun e => by have e' := Option.some.inj e; omega) (fun e => by have e' := Option.some.inj e; omega)
          have hB3 : Below w.heap.size w w3 := below_keepO hB hg3 (fun g hg e => by cases e; omega) hB.size
          have hO3 : kE.Own w3 (w.heap.size + 1) (.slice ga gl gc) G2 := World.ownsRow.kept hO hg3 (.inr (own_ne_obj hO hob1 hob2))
          have hsz5 : w.heap.size + 1 ≤ w3.heap.size := hrgO3.lt
          have HCN2 : Hid (wr.rangeLeft r w1.heap.size = cnt2) := hrgI.left_eq
          have HLT2 : Hid (cnt3 < cnt2) := hlt2
          have HC2 : Hid (Col mI o.S (fun z => left2 z && !z.sameKey (kp (mI.key n))) (rs ++ [n])) := hC3
          have hlen : Hid (G2.length ≤ 10000000) := by
            have h1 := hG.length_eq
            have h2 := sel_len i (flat ss ++ rs)
            have h3 := hCI.len1
            have h4 := HLN.out
            rw [List.length_append] at h2
            show _ ≤ _
            omega
          have HGo : Hid (∀ W, Below w3.heap.size w3 W → W.ranges Try.prog 33 elV mb w.heap.size L.length D (fun z => left z && !z.sameKey (kp (mO.key o))) cnt1 ∧ W.ranges Try.prog 33 elV r w1.heap.size o.S.length D2 (fun z => left2 z && !z.sameKey (kp (mI.key n))) cnt3 ∧ Below w.heap.size w W ∧ kE.Own W (w.heap.size + 1) (.slice ga gl gc) G2) := fun W hW => by
            have hg : w3.grownBy W none := ⟨hW.os, hW.tape, hW.output, hW.size, fun i hi _ => hW.block i hi⟩
            exact ⟨hrgO3.kept hg (by simp) (by simp), hrgI3.kept hg (by simp) (by simp), hB3.trans (hW.mono hB3.size), own_below hO3 hW⟩
          have HG : Hid ((sel i [n] = [] → G2.Perm (sel i (flat ss ++ (rs ++ [n])))) ∧ (sel i [n] = [n.e] → (G2 ++ [n.e]).Perm (sel i (flat ss ++ (rs ++ [n]))))) := by
            refine ⟨fun h => ?_, fun h => ?_⟩
            · rw [← List.append_assoc, sel_append, h, List.append_nil]; exact hG
            · rw [← List.append_assoc, sel_append, h]; exact hG.append_right _
          clear hrgO hrgI hB hO hG hCI hC3 hrgO3 hrgI3 hO3 hB3 hat2 hat3 hkey2 hlk2 hv2 hlt2 hg3 hs3 hob1 hob2 hwf2 hnd2
          by_cases hs : n.b = i
          · have hz : (n.b == i) = true := by simpa using hs
            have HP : Hid ((G2 ++ [n.e]).Perm (sel i (flat ss ++ (rs ++ [n])))) := HG.out.2 (sel_yes hs)
            clear HG
            go_wp2_with (first
              | (have kk := r6; at_builtin; refine kE.append (.tmp 31) (.tmp 34) rfl rfl (w.heap.size + 1) (.slice ga gl gc) G2 rfl hO6 _ 1 n.e rfl r6 hlen.out hz6 ?_; intro v7 W7 o7 g7; obtain ⟨a7, c7, rfl, _⟩ := Kd.own_at o7)
              | (have kk := b3; (with_reducible refine bsG (T := 27) (U := 37) (n := 1) [(0, .tmp 33)] (ecs n.e) ?_ ?_ ?_ ?_); (focus rfl); (focus rfl); (focus exact (fun w => bsN1 n.e w)); intro W6 r6 b6; replace b3 := bt b3 b6; obtain ⟨hrgO6, hrgI6, hB6, hO6⟩ := HGo.out _ b3; have hz6 : w.heap.size + 1 ≤ W6.heap.size := (Nat.le_trans hsz5 b3.size))
              | (have kk := r3; (with_reducible refine ldE (.tmp 32) ?_ ?_ g9 0 n.e ?_ ?_ ?_); (focus rfl); (focus rfl); (focus rfl); (focus exact r3.hd.e))
              | (have kk := q9; (with_reducible refine stH (.tmp 9) (.tmp 26) ?_ ?_ g9 n zeroH ?_ ?_ ?_ ?_); (focus rfl); (focus rfl); (focus rfl); (focus rfl); (focus exact q9); intro W3 g3 r3; have b3 := grown_below g3 b9 h9 b9.size; have f3 := r3.hd.b_; clear q9)
              | (refine alG infoHz rfl rfl ?_; intro g9 W2 h9 l9 b9 q9))
            obtain ⟨ob, hob1, hob2⟩ := hrgI6.iter_walk
            have hrgO7 := hrgO6.kept g7 (Ne.symm (own_ne_lt (g := mb) hO6 (by omega))) (Ne.symm (own_ne_lt (g := w.heap.size) hO6 (by omega)))
            have hrgI7 := hrgI6.kept g7 (Ne.symm (own_ne_lt (g := r) hO6 (by omega))) (Ne.symm (own_ne_obj hO6 hob1 hob2))
            have hB7 := below_keepO hB6 g7 (fun g hg => own_ne_lt hO6 (by omega)) hB6.size
            go_roundw
            case rel => exact ⟨_, cnt3, rs ++ [n], G2 ++ [n.e], a7, _, c7, rfl, hrgO7, hrgI7, HC2.out, hB7, by have o8 := o7; rw [List.length_append] at o8; exact o8, HP.out⟩
            case measure => rw [hrgI7.left_eq, HCN2.out]; exact HLT2.out
          · have hz : (n.b == i) = false := by simpa using hs
            have HP : Hid (G2.Perm (sel i (flat ss ++ (rs ++ [n])))) := HG.out.1 (sel_no hs)
            clear HG
            go_wp2_with (first
              | (have kk := q9; (with_reducible refine stH (.tmp 9) (.tmp 26) ?_ ?_ g9 n zeroH ?_ ?_ ?_ ?_); (focus rfl); (focus rfl); (focus rfl); (focus rfl); (focus exact q9); intro W3 g3 r3; have b3 := grown_below g3 b9 h9 b9.size; have f3 := r3.hd.b_; clear q9)
              | (refine alG infoHz rfl rfl ?_; intro g9 W2 h9 l9 b9 q9))
            obtain ⟨hrgO6, hrgI6, hB6, hO6⟩ := HGo.out _ b3
            go_roundw
            case rel => exact ⟨_, cnt3, rs ++ [n], G2, ga, gl, gc, rfl, hrgO6, hrgI6, HC2.out, hB6, hO6, HP.out⟩
            case measure => rw [hrgI6.left_eq, HCN2.out]; exact HLT2.out
theorem list_any {w : World} {b k : Nat} {n : Int} {F : List Hd} (h : Kn w b k n F) (i : Bool) (hF : F.length ≤ 1000000) : Calls Try.prog 36 #[.pointer (some ⟨k, 0, none⟩), .bool i] w (ListE w (sel i F)) := by
  obtain ⟨mb, L, T, _, hpm⟩ := h
  refine (list_tk T i (by rw [← hpm.length_eq]; exact hF)).mono ?_
  rintro e w' ⟨a, c, K, h1, h2, h3⟩
  exact ⟨a, c, K, h1, h2.trans (sel_perm hpm).symm, h3⟩
theorem List_any {w : World} {b k : Nat} {n : Int} {F : List Hd} (h : Kn w b k n F) (hF : F.length ≤ 1000000) : Calls Try.prog 17 #[.pointer (some ⟨k, 0, none⟩)] w (ListE w (sel false F)) := by
  have hL := list_any h false hF
  go_enter Try.func17, Try.ntmps17
  go_wp2_with (go_at_call 36; refine hL.mono ?_; rintro e w' ⟨a, c, K, rfl, h1, h2, h3, h4⟩)
  go_ret
  exact ⟨a, c, K, rfl, h1, h2, h3, h4⟩
theorem Imported_any {w : World} {b k : Nat} {n : Int} {F : List Hd} (h : Kn w b k n F) (hF : F.length ≤ 1000000) : Calls Try.prog 18 #[.pointer (some ⟨k, 0, none⟩)] w (ListE w (sel true F)) := by
  have hL := list_any h true hF
  go_enter Try.func18, Try.ntmps18
  go_wp2_with (go_at_call 36; refine hL.mono ?_; rintro e w' ⟨a, c, K, rfl, h1, h2, h3, h4⟩)
  go_ret
  exact ⟨a, c, K, rfl, h1, h2, h3, h4⟩
theorem List_nil (w : World) : Calls Try.prog 17 #[.pointer none] w fun e w' => e = .returned (.slice none 0 0) ∧ w = w' := by
  have hL := list_nil false w
  go_enter Try.func17, Try.ntmps17
  go_wp2_with (go_at_call 36; refine hL.mono ?_; rintro e w' ⟨rfl, rfl⟩)
  go_ret
  exact ⟨rfl, rfl⟩
theorem Imported_nil (w : World) : Calls Try.prog 18 #[.pointer none] w fun e w' => e = .returned (.slice none 0 0) ∧ w = w' := by
  have hL := list_nil true w
  go_enter Try.func18, Try.ntmps18
  go_wp2_with (go_at_call 36; refine hL.mono ?_; rintro e w' ⟨rfl, rfl⟩)
  go_ret
  exact ⟨rfl, rfl⟩
end Go.Proofs.Ytadnnjngflphjaa
