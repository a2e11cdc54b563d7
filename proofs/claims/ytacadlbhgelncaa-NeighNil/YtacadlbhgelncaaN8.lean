/-
  Hello of the table.
-/
import Derived.Test.YtacadlbhgelncaaN7
namespace Go.Proofs.Ytacadlbhgelncaa
open Lk (Hi hcs hcs_one)
open Rk (Rt rcs rtV)
open Go.RowKit Go.Maps
set_option linter.unusedSimpArgs false
set_option linter.unusedVariables false
set_option maxRecDepth 20000
theorem Turn.of {w w' : World} {t mb : Nat} {most : Int} {F : List Fc} {L : List Ng} (h : Tb w t mb most F L) (hb : Below w.heap.size w w') : Turn w w' t mb most F L :=
  ⟨h.below hb, hb.os, hb.tape, hb.output, hb.size, fun i hi _ => hb.block i hi⟩
theorem Turn.pre {w w1 w' : World} {t mb : Nat} {most : Int} {F : List Fc} {L : List Ng} (hb : Below w.heap.size w w1) (h : Turn w1 w' t mb most F L) : Turn w w' t mb most F L :=
  ⟨h.tb, h.os.trans hb.os, h.tape.trans hb.tape, h.out.trans hb.output, Nat.le_trans hb.size h.size, fun i hi hne => (h.block i (Nat.lt_of_lt_of_le hi hb.size) hne).trans (hb.block i hi)⟩
theorem heard_ok {n : Ng} {now : Int} {h : Tl} (ok : n.ok) (hf : h.fit) (t0 : 0 ≤ now) (t1 : now ≤ 1125899906842624) : (heardN n now h).ok := by
  have i1 := hf.i1
  have ga : 0 ≤ gapAt now h.intv ∧ gapAt now h.intv ≤ 2251799813685248 := by
    unfold gapAt
    split
    · omega
    · rw [Int.tdiv_eq_ediv_of_nonneg (by omega)]; omega
  unfold heardN
  split
  · exact ⟨ok.mo, ok.mj, Lk.hear_ok _ ok.uo, fun _ => rfl, ok.mg0, ok.mg1, by dsimp only; omega, by dsimp only; omega, ok.ma0, ok.ma1, by dsimp only; omega, by dsimp only; omega, ok.tx0, ok.tx1, ok.rt0, ok.rt1⟩
  · exact ⟨Lk.hear_ok _ ok.mo, fun _ => rfl, ok.uo, ok.uj, by dsimp only; omega, by dsimp only; omega, ok.ug0, ok.ug1, by dsimp only; omega, by dsimp only; omega, ok.ua0, ok.ua1, ok.tx0, ok.tx1, ok.rt0, ok.rt1⟩
theorem greet_ok {n : Ng} {now : Int} {h : Tl} (ok : n.ok) (hf : h.fit) (t0 : 0 ≤ now) (t1 : now ≤ 1125899906842624) : (greetN n now h).ok := by
  have k := heard_ok (h := h) ok hf t0 t1
  unfold greetN
  split
  · exact k
  · exact ⟨k.mo, k.mj, k.uo, k.uj, k.mg0, k.mg1, k.ug0, k.ug1, k.ma0, k.ma1, k.ua0, k.ua1, k.tx0, k.tx1, k.rt0, k.rt1⟩
theorem greet_key (n : Ng) (now : Int) (h : Tl) : (greetN n now h).i = n.i ∧ (greetN n now h).a = n.a ∧ (greetN n now h).hr = n.hr := by
  unfold greetN heardN
  split <;> split <;> exact ⟨rfl, rfl, rfl⟩
theorem new_ok (i : Int) (c : Ad) : (newN i c).ok := ⟨⟨by simp [newN], by simp [newN], by simp [newN], by simp [newN]⟩, fun h => absurd rfl h, ⟨by simp [newN], by simp [newN], by simp [newN], by simp [newN]⟩, fun h => absurd rfl h, by simp [newN], by simp [newN], by simp [newN], by simp [newN], by simp [newN], by simp [newN], by simp [newN], by simp [newN], by simp [newN], by simp [newN], by simp [newN], by simp [newN]⟩
/-- What Hello answers, and who is there then. -/
def helloR (most : Int) (F : List Fc) (L : List Ng) (now i : Int) (c : Ad) (h : Tl) : Int × List Ng :=
  if (decide (0 ≤ i) && decide (i < F.length)) = false ∨ h.ty ≠ 4 then (2, L) else
  match getN L i c with
  | some n => (0, putN L (greetN n now h))
  | none => if most ≤ L.length then (6, L) else (0, putN L (greetN (newN i c) now h))
theorem putN_le (L : List Ng) (n : Ng) : (putN L n).length ≤ L.length + 1 := by rw [putN_len]; split <;> omega
set_option maxHeartbeats 8000000 in
theorem hello_any {w : World} {t mb : Nat} {most : Int} {F : List Fc} {L : List Ng} (h : Tb w t mb most F L) (now i : Int) (c : Ad) (hl : Tl) (hi : wfI i) (hf : hl.fit) (t0 : 0 ≤ now) (t1 : now ≤ 1125899906842624) (hS : Sm w hl) (hL : L.length < 1000000) :
    Calls Try.prog 11 #[.pointer (some ⟨t, 0, none⟩), .int .i64 now, .int .i64 i, (Value.agg (acells c).toArray), .agg (tcells hl).toArray] w fun e w' => e = .returned (.int .i64 (helloR most F L now i c hl).1) ∧ Turn w w' t mb most F (helloR most F L now i c hl).2 := by
  have hT : ∀ W, Below w.heap.size w W → Tb W t mb most F L := fun W hW => h.below hW
  have hHas := fun W hW => hasIf_any (hT W hW) i
  have hGet := fun W hW => get_any (hT W hW) i c hi
  have k0 : (tcells hl)[0]? = some (.int .u8 (hl.ty : Int)) := rfl
  have HR : Hid (helloR most F L now i c hl = if (decide (0 ≤ i) && decide (i < F.length)) = false ∨ hl.ty ≠ 4 then ((2 : Int), L) else match getN L i c with | some n => ((0 : Int), putN L (greetN n now hl)) | none => if most ≤ L.length then ((6 : Int), L) else ((0 : Int), putN L (greetN (newN i c) now hl))) := rfl
  have HI : Hid ((decide (0 ≤ i) && decide (i < F.length)) = true → 0 ≤ i ∧ i < F.length) := fun h => by simpa using h
  generalize helloR most F L now i c hl = R at *
  generalize (decide (0 ≤ i) && decide (i < F.length)) = hb at *
  go_enter Try.func11, Try.ntmps11
  go_upto_region 3 with fail
  obtain ⟨hB, r0, rT⟩ := low_rows w (acells c) (tcells hl) 29 39
  refine name_world (R := fun W => Code.wp _ _ _ _ W) (P := fun W => Below w.heap.size w W ∧ Row W w.heap.size 29 (acells c) ∧ Row W (w.heap.size + 1) 39 (tcells hl)) _ ⟨hB, r0, rT⟩ ?_
  clear hB r0 rT
  rintro X ⟨hB, r0, rT⟩
  have hs := r0.lt
  have hsT := rT.lt
  have cT0 := (rT.cell 0).trans k0
  replace hHas := hHas X hB
  cases hb with
  | false =>
    obtain rfl : R = (2, L) := by rw [HR.out, if_pos (.inl rfl)]
    clear HR HI k0
    go_wp2_with (first
      | (go_at_call 24; refine hHas.mono ?_; rintro e w1 ⟨rfl, rfl⟩))
    go_ret
    exact ⟨rfl, Turn.of h hB⟩
  | true =>
  by_cases hty : hl.ty = 4
  · have hIF := HI.out rfl
    have hty' : ((hl.ty : Int) != 4) = false := by simp; omega
    have hR := HR.out
    rw [if_neg (by simp [hty])] at hR
    clear HR HI k0
    go_upto_region 5 with (first
      | (go_at_call 24; refine hHas.mono ?_; rintro e w1 ⟨rfl, rfl⟩))
    obtain ⟨G, hG⟩ : ∃ G, getN L i c = G := ⟨_, rfl⟩
    rw [hG] at hR
    replace hGet := hGet X hB
    rw [hG] at hGet
    have hgv : getV G = .tuple #[nV (G.getD zeroN), .bool G.isSome] := rfl
    rw [hgv] at hGet
    clear hgv
    have hX : ∀ W, Below X.heap.size X W → Tb W t mb most F L := fun W hW => hT W (bt hB hW)
    have hSX := hS.below hB (Nat.le_refl _)
    have hfin : ∀ (n : Ng) (W : World), Below X.heap.size X W → n.ok → n.i = i → n.a = c → (n.hr = true → ∀ f, F[i.toNat]? = some f → f.r.on = true) → Calls Try.prog 25 #[.pointer (some ⟨t, 0, none⟩), nV (greetN n now hl)] W fun e w' => e = .returned (.tuple #[]) ∧ Turn w w' t mb most F (putN L (greetN n now hl)) := fun n W hW ok e1 e2 e3 => by
      obtain ⟨q1, q2, q3⟩ := greet_key n now hl
      refine (put_any (hX W hW) (greetN n now hl) (by rw [q1, e1]; exact hi) ⟨greet_ok ok hf t0 t1, by rw [q1, e1]; exact hIF.1, by rw [q1, e1]; exact hIF.2, by rw [q1, q3, e1]; exact e3⟩ (by have := putN_le L (greetN n now hl); omega)).mono ?_
      rintro e w' ⟨rfl, hh⟩
      exact ⟨rfl, hh.pre (bt hB hW)⟩
    have hgr : ∀ (n : Ng) (W : World), Below X.heap.size X W → n.ok → Calls Try.prog 26 #[nV n, .int .i64 now, .agg (tcells hl).toArray] W (Gives W (nV (greetN n now hl))) := fun n W hW ok => greeted_any n now hl W ok hf t0 t1 (hSX.below hW (Nat.le_refl _))
    cases G with
    | some n =>
      have hno := (getN_some hG)
      have hnk := h.nok n hno.1
      obtain rfl : R = (0, putN L (greetN n now hl)) := hR
      have hgr1 := fun W hW => hgr n W hW hnk.1
      have hfin1 := fun W hW => hfin n W hW hnk.1 hno.2.1 hno.2.2 (hno.2.1 ▸ hnk.2.2.2)
      clear hgr hfin hnk hno hG hT hX hSX hS hf
      dsimp only [Option.getD_some, Option.isSome_some] at hGet
      go_wp2_with (first
        | (have kk := bG; go_at_call 25; refine (hfin1 _ (bt b3 bG)).mono ?_; rintro e w5 ⟨rfl, hh⟩)
        | (have kk := r3; go_at_call 26; refine (hgr1 _ b3).mono ?_; rintro e w4 ⟨rfl, bG⟩)
        | (have kk := r3; refine ldT (.tmp 9) rfl rfl _ hl rfl (rT.below b3 hsT) ?_)
        | (have kk := r3; refine ldN (.tmp 11) rfl rfl _ _ _ rfl r3.range ?_)
        | (have kk := r2; refine stN (.tmp 11) (.tmp 29) rfl rfl g2 n _ rfl rfl r2 ?_; intro W3 g3 r3; have b3 := grown_below g3 b2 (Nat.le_trans b1.size hge2) b2.size; clear r2)
        | (have kk := b1; refine alG infoNz rfl rfl ?_; intro g2 W2 hge2 hgl2 hB2 r2; have b2 := bt b1 hB2)
        | (go_at_call 17; refine hGet.mono ?_; rintro e w1 ⟨rfl, b1⟩)
        | (refine ldA (.tmp 8) rfl rfl _ _ c rfl r0.range ?_))
      go_ret
      exact ⟨rfl, hh⟩
    | none =>
      replace hR : R = if most ≤ L.length then ((6 : Int), L) else (0, putN L (greetN (newN i c) now hl)) := hR
      have hgr1 := fun W hW => hgr (newN i c) W hW (new_ok i c)
      have hfin1 := fun W hW => hfin (newN i c) W hW (new_ok i c) rfl rfl (fun h => by cases h)
      dsimp only [Option.getD_none, Option.isSome_none] at hGet
      have HK : Hid (∀ W, Below X.heap.size X W → W.cell? ⟨t, 2, none⟩ = some (.map (some mb)) ∧ W.cell? ⟨t, 0, none⟩ = some (.int .i64 most) ∧ ∀ ty, (Builtin.len_ #[74] ty #[.map (some mb)]).run Try.prog W = .ok (.int .i64 (L.length : Nat)) W) := fun W hW => by
        obtain ⟨fa, fc, hr, _⟩ := (hX W hW).ex
        exact ⟨hr.cell 2, hr.cell 0, fun ty => (hX W hW).map.len ty⟩
      clear hgr hfin hG hT hX hSX hS hf
      generalize L.length = N at *
      go_upto_region 7 with (first
        | (have kk := r2; refine stN (.tmp 11) (.tmp 29) rfl rfl g2 zeroN _ rfl rfl r2 ?_; intro W3 g3 r3; have b3 := grown_below g3 b2 (Nat.le_trans b1.size hge2) b2.size; clear r2)
        | (have kk := b1; refine alG infoNz rfl rfl ?_; intro g2 W2 hge2 hgl2 hB2 r2; have b2 := bt b1 hB2)
        | (go_at_call 17; refine hGet.mono ?_; rintro e w1 ⟨rfl, b1⟩)
        | (refine ldA (.tmp 8) rfl rfl _ _ c rfl r0.range ?_))
      have HW : ∀ W, Below W3.heap.size W3 W → W.cell? ⟨t, 2, none⟩ = some (.map (some mb)) ∧ W.cell? ⟨t, 0, none⟩ = some (.int .i64 most) ∧ ∀ ty, (Builtin.len_ #[74] ty #[.map (some mb)]).run Try.prog W = .ok (.int .i64 (N : Nat)) W := fun W hW => HK.out W (bt b3 hW)
      refine wp_region_noPanic ?_
      refine wp_region_held_drew (S := fun W => Below W3.heap.size W3 W) (by kernel_rfl) ((Below.refl _ _).drew) (fun hHeld => ?_)
      refine take_lit (i := 0) (v := ?_) rfl (by kernel_rfl) (by kernel_rfl) (by kernel_rfl) (fun _ _ _ h => h) (Or.inl ⟨by rfl, ?_⟩) (by assumption) ?_
      rotate_left
      · (intro w hSw; (try dsimp only at hSw); go_simp <;> with_reducible rfl)
      try simp only [Act.put, List.setIfInBounds_toArray, List.set_cons_zero, List.set_cons_succ]
      refine take_lit (i := 1) (v := ?_) rfl (by kernel_rfl) (by kernel_rfl) (by kernel_rfl) (fun _ _ _ h => h) (Or.inl ⟨by rfl, ?_⟩) (by assumption) ?_
      rotate_left
      · (intro w hSw; (try dsimp only at hSw); go_simp <;> with_reducible rfl)
      try simp only [Act.put, List.setIfInBounds_toArray, List.set_cons_zero, List.set_cons_succ]
      refine take_lit (i := 2) (v := ?_) rfl (by kernel_rfl) (by kernel_rfl) (by kernel_rfl) (fun _ _ _ h => h) (Or.inl ⟨by rfl, ?_⟩) (by assumption) ?_
      rotate_left
      · (intro w hSw; (try dsimp only at hSw); go_simp <;> with_reducible rfl)
      try simp only [Act.put, List.setIfInBounds_toArray, List.set_cons_zero, List.set_cons_succ]
      refine take_lit (i := 3) (v := ?_) rfl (by kernel_rfl) (by kernel_rfl) (by kernel_rfl) (fun _ _ _ h => h) (Or.inl ⟨by rfl, ?_⟩) (by assumption) ?_
      rotate_left
      · (intro w hSw; (try dsimp only at hSw); have z := (HW _ hSw).1; go_simp <;> with_reducible rfl)
      try simp only [Act.put, List.setIfInBounds_toArray, List.set_cons_zero, List.set_cons_succ]
      refine take_lit (i := 4) (v := ?_) rfl (by kernel_rfl) (by kernel_rfl) (by kernel_rfl) (fun _ _ _ h => h) (Or.inl ⟨by rfl, ?_⟩) (by assumption) ?_
      rotate_left
      · (intro w hSw; (try dsimp only at hSw); have z := (HW _ hSw).2.2; go_simp <;> with_reducible rfl)
      try simp only [Act.put, List.setIfInBounds_toArray, List.set_cons_zero, List.set_cons_succ]
      refine take_lit (i := 5) (v := ?_) rfl (by kernel_rfl) (by kernel_rfl) (by kernel_rfl) (fun _ _ _ h => h) (Or.inl ⟨by rfl, ?_⟩) (by assumption) ?_
      rotate_left
      · (intro w hSw; (try dsimp only at hSw); go_simp <;> with_reducible rfl)
      try simp only [Act.put, List.setIfInBounds_toArray, List.set_cons_zero, List.set_cons_succ]
      refine take_lit (i := 6) (v := ?_) rfl (by kernel_rfl) (by kernel_rfl) (by kernel_rfl) (fun _ _ _ h => h) (Or.inl ⟨by rfl, ?_⟩) (by assumption) ?_
      rotate_left
      · (intro w hSw; (try dsimp only at hSw); go_simp <;> with_reducible rfl)
      try simp only [Act.put, List.setIfInBounds_toArray, List.set_cons_zero, List.set_cons_succ]
      refine take_lit (i := 7) (v := ?_) rfl (by kernel_rfl) (by kernel_rfl) (by kernel_rfl) (fun _ _ _ h => h) (Or.inl ⟨by rfl, ?_⟩) (by assumption) ?_
      rotate_left
      · (intro w hSw; (try dsimp only at hSw); go_simp <;> with_reducible rfl)
      try simp only [Act.put, List.setIfInBounds_toArray, List.set_cons_zero, List.set_cons_succ]
      refine take_lit (i := 8) (v := ?_) rfl (by kernel_rfl) (by kernel_rfl) (by kernel_rfl) (fun _ _ _ h => h) (Or.inl ⟨by rfl, ?_⟩) (by assumption) ?_
      rotate_left
      · (intro w hSw; (try dsimp only at hSw); have z := (HW _ hSw).2.1; go_simp <;> with_reducible rfl)
      try simp only [Act.put, List.setIfInBounds_toArray, List.set_cons_zero, List.set_cons_succ]
      refine take_lit (i := 9) (v := ?_) rfl (by kernel_rfl) (by kernel_rfl) (by kernel_rfl) (fun _ _ _ h => h) (Or.inl ⟨by rfl, ?_⟩) (by assumption) ?_
      rotate_left
      · (intro w hSw; (try dsimp only at hSw); go_simp <;> with_reducible rfl)
      try simp only [Act.put, List.setIfInBounds_toArray, List.set_cons_zero, List.set_cons_succ]
      refine wpAnyH_done (by kernel_rfl) ?_ _
      refine NoPanic.normal ?_
      have b4 := bt b3 hHeld
      have r4 := r3.below hHeld r3.lt
      have hge4 : X.heap.size ≤ g2 := Nat.le_trans b1.size hge2
      have r04 := r0.below b4 hs
      have rT4 := rT.below b4 hsT
      have hsT4 := rT4.lt
      clear HK HW r3 hGet cT0 hHas hB2 g3
      by_cases hm : most ≤ (N : Int)
      · rw [if_pos hm] at hR
        subst hR
        go_wp2_with fail
        go_ret
        exact ⟨rfl, Turn.of h (bt hB b4)⟩
      · rw [if_neg hm] at hR
        subst hR
        have hm' : (N : Int) < most := by omega
        clear hm
        go_wp2_with (first
          | (have kk := bG; go_at_call 25; refine (hfin1 _ (bt b5 bG)).mono ?_; rintro e w5 ⟨rfl, hh⟩)
          | (have kk := r5; go_at_call 26; refine (hgr1 _ b5).mono ?_; rintro e w4 ⟨rfl, bG⟩)
          | (have kk := r5; refine ldT (.tmp 9) rfl rfl _ hl rfl (rT.below b5 hsT) ?_)
          | (have kk := r5; refine ldN (.tmp 11) rfl rfl _ _ _ rfl r5.range ?_)
          | (refine ldA (.tmp 8) rfl rfl _ _ c rfl r04.range ?_)
          | ((with_reducible refine bdG (T := 55) (v := nV (newN i c)) [(0, .tmp 43), (1, .tmp 44), (8, .const (.int .u16 65535))] ?_ ?_ ?_ ?_); (focus rfl); (focus rfl); (focus exact bdNn i c _))
          | (refine stN (.tmp 11) (.tmp 45) rfl rfl g2 (newN i c) _ rfl rfl r4 ?_; intro W5 g5 r5; have b5 := grown_below g5 b4 hge4 b4.size))
        go_ret
        exact ⟨rfl, hh⟩
  · obtain rfl : R = (2, L) := by rw [HR.out, if_pos (.inr hty)]
    have hty' : ((hl.ty : Int) != 4) = true := by simp; omega
    clear HR HI k0
    go_wp2_with (first
      | (go_at_call 24; refine hHas.mono ?_; rintro e w1 ⟨rfl, rfl⟩))
    go_ret
    exact ⟨rfl, Turn.of h hB⟩
end Go.Proofs.Ytacadlbhgelncaa
