/-
  The document's queue: Set.
-/
import Derived.Test.YtkamcnjofpamhaaTRs
namespace Go.Proofs.Ytkamcnjofpamhaa
open Go.RowKit
set_option linter.unusedSimpArgs false
theorem ah2_irrefl (a : ByteArray × Int) : ¬ Ah2 a a := ah_irrefl ⟨0, a.2, a.1⟩
theorem ah2_trans {a b c : ByteArray × Int} (h : Ah2 a b) (k : Ah2 b c) : Ah2 a c := ah_trans (s := ⟨0, a.2, a.1⟩) (t := ⟨0, b.2, b.1⟩) (u := ⟨0, c.2, c.1⟩) h k
theorem ah2_asymm {a b : ByteArray × Int} (h : Ah2 a b) : ¬ Ah2 b a := fun k => ah2_irrefl a (ah2_trans h k)
theorem ah2_ntrans {a b c : ByteArray × Int} (h : ¬ Ah2 a b) (k : ¬ Ah2 b c) : ¬ Ah2 a c := ah_ntrans (s := ⟨0, a.2, a.1⟩) (t := ⟨0, b.2, b.1⟩) (u := ⟨0, c.2, c.1⟩) h k
/-- One is put at its place. -/
theorem srt_ins {E : List (ByteArray × Int)} {d : ByteArray × Int} {k : Nat} (h : Srt2 E) (hk : k ≤ E.length) (h1 : ∀ j (hj : j < E.length), k ≤ j → Ah2 d E[j]) (h2 : 0 < k → ∀ hk' : k - 1 < E.length, ¬ Ah2 d E[k - 1]) : Srt2 (E.take k ++ [d] ++ E.drop k) := by
  have hp := List.pairwise_iff_getElem.1 h
  have hT : (E.take k).Pairwise (fun a b => ¬ Ah2 b a) := h.sublist (List.take_sublist _ _)
  have hD : (E.drop k).Pairwise (fun a b => ¬ Ah2 b a) := h.sublist (List.drop_sublist _ _)
  have hTd : ∀ x ∈ E.take k, ¬ Ah2 d x := by
    intro x hx
    obtain ⟨j, hj, rfl⟩ := List.mem_iff_getElem.1 hx
    have hj' : j < k := by simp at hj; omega
    rw [List.getElem_take]
    have h3 := h2 (by omega) (by omega)
    by_cases e : j = k - 1
    · subst e; exact h3
    · exact ah2_ntrans h3 (hp j (k - 1) (by omega) (by omega) (by omega))
  have hdD : ∀ x ∈ E.drop k, ¬ Ah2 x d := by
    intro x hx
    obtain ⟨j, hj, rfl⟩ := List.mem_iff_getElem.1 hx
    rw [List.getElem_drop]
    exact ah2_asymm (h1 _ _ (by omega))
  have hTD : ∀ x ∈ E.take k, ∀ y ∈ E.drop k, ¬ Ah2 y x := by
    intro x hx y hy
    obtain ⟨i, hi, rfl⟩ := List.mem_iff_getElem.1 hx
    obtain ⟨j, hj, rfl⟩ := List.mem_iff_getElem.1 hy
    rw [List.getElem_take, List.getElem_drop]
    have hi' : i < k := by simp at hi; omega
    exact hp i (k + j) (by omega) (by simp at hj; omega) (by omega)
  unfold Srt2
  rw [List.pairwise_append, List.pairwise_append]
  refine ⟨⟨hT, by simp, fun x hx y hy => ?_⟩, hD, fun x hx y hy => ?_⟩
  · simp at hy; subst hy; exact hTd x hx
  · rcases List.mem_append.1 hx with q | q
    · exact hTD x q y hy
    · simp at q; subst q; exact hdD y hy
theorem perm_ins (E : List (ByteArray × Int)) (d : ByteArray × Int) (k : Nat) : (E.take k ++ [d] ++ E.drop k).Perm (E ++ [d]) := by
  have h := List.take_append_drop k E
  rw [List.append_assoc]
  refine (List.Perm.append_left _ (List.perm_append_comm (l₁ := [d]) (l₂ := E.drop k))).trans ?_
  rw [← List.append_assoc, h]
theorem out_hit {E : List (ByteArray × Int)} {s : ByteArray} {k : Nat} (hk : k < E.length) (hs : E[k].1 = s) (hn : (E.map Prod.fst).Nodup) : out s E = E.take k ++ E.drop (k + 1) := by
  have h0 : E = E.take k ++ E[k] :: E.drop (k + 1) := by rw [List.getElem_cons_drop, List.take_append_drop]
  rw [List.nodup_iff_pairwise_ne, List.pairwise_iff_getElem] at hn
  have e1 : out s (E.take k) = E.take k := out_not (fun d hd e => by
    obtain ⟨j, hj, rfl⟩ := List.mem_iff_getElem.1 hd
    have hj' : j < k := by simp at hj; omega
    rw [List.getElem_take] at e
    exact hn j k (by simp; omega) (by simpa using hk) hj' (by simp [e, hs]))
  have e2 : out s (E.drop (k + 1)) = E.drop (k + 1) := out_not (fun d hd e => by
    obtain ⟨j, hj, rfl⟩ := List.mem_iff_getElem.1 hd
    rw [List.getElem_drop] at e
    exact hn k (k + 1 + j) (by simpa using hk) (by simp at hj ⊢; omega) (by omega) (by simp [e, hs]))
  have e3 : out s (E[k] :: E.drop (k + 1)) = out s (E.drop (k + 1)) := by
    rw [show E[k] = (s, E[k].2) by rw [← hs], out_cons_eq]
  conv => lhs; rw [h0]
  rw [out_append, e1, e3, e2]
theorem first_is {E : List (ByteArray × Int)} {s : ByteArray} {k : Nat} (hk : k < E.length) (hs : E[k].1 = s) (hn : (E.map Prod.fst).Nodup) : ∀ j (hj : j < k), (E[j]'(by omega)).1 ≠ s := by
  intro j hj e
  rw [List.nodup_iff_pairwise_ne, List.pairwise_iff_getElem] at hn
  exact hn j k (by simp; omega) (by simpa using hk) hj (by simp [e, hs])
theorem srt_out {E : List (ByteArray × Int)} (s : ByteArray) (h : Srt2 E) : Srt2 (out s E) := h.sublist List.filter_sublist
/-- The document's Cancel, by names. -/
theorem rcancel (W : World) (r : Nat) (a : Option Addr) (c : Nat) (E : List (ByteArray × Int)) (s : ByteArray) (h : Rq W r a c E) (hE : E.length ≤ 100000) (hn : (E.map Prod.fst).Nodup) :
    Calls Try.prog 14 #[.pointer (some ⟨r, 0, none⟩), .string s] W (RPost W r (out s E) (.bool (E.any fun d => nmB d.1 s))) := by
  by_cases hin : ∃ d ∈ E, d.1 = s
  · obtain ⟨d, hd, hs⟩ := hin
    obtain ⟨k, hk, rfl⟩ := List.mem_iff_getElem.1 hd
    have e1 : (E.any fun d => nmB d.1 s) = true := List.any_eq_true.2 ⟨_, hd, nmB_iff.2 hs⟩
    rw [e1, out_hit hk hs hn]
    exact rcancel_hit W r a c E s h hE k hk hs (first_is hk hs hn)
  · have hno : ∀ d ∈ E, d.1 ≠ s := fun d hd e => hin ⟨d, hd, e⟩
    have e1 : (E.any fun d => nmB d.1 s) = false := by
      rw [List.any_eq_false]
      intro d hd
      rw [nmB_false (hno d hd)]
      simp
    rw [e1, out_not hno]
    exact rcancel_miss W r a c E s h hE hno
/-- The document's Find, by names. -/
theorem rfind (r : Nat) (a : Option Addr) (c : Nat) (E : List (ByteArray × Int)) (s : ByteArray) (hE : E.length ≤ 100000) (hn : (E.map Prod.fst).Nodup) :
    ∃ fk : Int, (fk = -1 ∧ (∀ d ∈ E, d.1 ≠ s) ∨ ∃ (k : Nat) (hk : k < E.length), fk = k ∧ E[k].1 = s) ∧ ∀ W', Rq W' r a c E → Calls Try.prog 23 #[.pointer (some ⟨r, 0, none⟩), .string s] W' (fun e w' => e = .returned (.int .i64 fk) ∧ W' = w') := by
  by_cases hin : ∃ d ∈ E, d.1 = s
  · obtain ⟨d, hd, hs⟩ := hin
    obtain ⟨k, hk, rfl⟩ := List.mem_iff_getElem.1 hd
    exact ⟨k, .inr ⟨k, hk, rfl, hs⟩, fun W' h' => find_hit W' r a c E s h' hE k hk hs (first_is hk hs hn)⟩
  · have hno : ∀ d ∈ E, d.1 ≠ s := fun d hd e => hin ⟨d, hd, e⟩
    exact ⟨-1, .inl ⟨rfl, hno⟩, fun W' h' => find_miss W' r a c E s h' hE hno⟩
set_option maxHeartbeats 8000000 in
set_option maxRecDepth 100000 in
theorem rset (W : World) (r : Nat) (a : Option Addr) (c : Nat) (E : List (ByteArray × Int)) (s : ByteArray) (t : Int) (h : Rq W r a c E) (hE : E.length < 4096) (hn : (E.map Prod.fst).Nodup) (hs : Srt2 E) :
    Calls Try.prog 13 #[.pointer (some ⟨r, 0, none⟩), .string s, .int .i64 t] W (fun e w' => ∃ F, RPost W r F (.int .i64 0) e w' ∧ Srt2 F ∧ F.Perm (out s E ++ [(s, t)])) := by
  obtain ⟨fk, hfk, FD⟩ := rfind r a c E s (by omega) hn
  have FW := FD W h
  have RC := rcancel W r a c E s h (by omega) hn
  have c0 : W.cell? ⟨r, 0, none⟩ = some (.slice a E.length c) := one_cell h.que rfl
  have HS : Hid (Srt2 (out s E) ∧ (out s E).length ≤ 5000) := ⟨srt_out s hs, by have := out_len s E; omega⟩
  have hl : ¬ (4096 : Int) ≤ (E.length : Int) := by omega
  obtain ⟨E0, hE0⟩ : ∃ E0, out s E = E0 := ⟨_, rfl⟩
  rw [hE0] at RC HS ⊢
  have hfk' : fk < 0 ∨ ¬ fk < 0 := by omega
  clear h hn hs FD hfk hE0
  rcases hfk' with hf | hf
  · go_enter Try.func13, Try.ntmps13
    go_wp2_with (first
      | (go_at_call 14; refine RC.mono ?_; rintro e w2 ⟨rfl, a2, c2, R2, F2⟩; have d0 := (R2.below ((Below.refl w2.heap.size w2).alloc (Nat.le_refl _) (.cells #[.string s, .int .i64 t] 39))); have d1 : (w2.alloc (.cells #[.string s, .int .i64 t] 39)).cell? ⟨r, 0, none⟩ = some (.slice a2 E0.length c2) := one_cell d0.que rfl; clear RC)
      | (go_at_call 23; refine FW.mono ?_; rintro e w1 ⟨rfl, rfl⟩; clear FW))
    have r0 : Row (w2.alloc (.cells #[.string s, .int .i64 t] 39)) w2.heap.size 39 [.string s, .int .i64 t] := Row.new w2 _ _
    have F0 : Frm (fun j => j = r) W (w2.alloc (.cells #[.string s, .int .i64 t] 39)) := F2.alloc _
    obtain ⟨dB, hdB⟩ : ∃ dB, w2.heap.size = dB := ⟨_, rfl⟩
    obtain ⟨Wd, hWd⟩ : ∃ V, w2.alloc (.cells #[.string s, .int .i64 t] 39) = V := ⟨_, rfl⟩
    rw [hWd] at d0 r0 F0 d1
    rw [hdB] at r0
    simp only [hWd, hdB]
    have HD : Hid (Rq Wd r a2 c2 E0 ∧ Row Wd dB 39 [.string s, .int .i64 t] ∧ Frm (fun j => j = r) W Wd) := ⟨d0, r0, F0⟩
    clear d0 r0 F0 F2 R2 hWd hdB d1
    go_loopw [8] (fun u V => ∃ k : Nat, u = .int .i64 k ∧ k ≤ E0.length ∧ Below Wd.heap.size Wd V ∧ Hid (∀ j (hj : j < E0.length), k ≤ j → Ah2 (s, t) E0[j])) (fun u _ => (intOf u).toNat)
    case atStart => exact ⟨E0.length, rfl, Nat.le_refl _, Below.refl _ _, fun j hj hk => by omega⟩
    case round =>
      obtain ⟨k, rfl, hk, bV, HK⟩ := hrel
      have rV : Rq wr r a2 c2 E0 := HD.out.1.below bV
      have dV : Row wr dB 39 [.string s, .int .i64 t] := (HD.out.2.1.below bV HD.out.2.1.lt)
      have z0 := dV.cell 0
      have z1 := dV.cell 1
      simp only [List.getElem?_cons_zero, List.getElem?_cons_succ] at z0 z1
      have c3 : wr.cell? ⟨r, 0, none⟩ = some (.slice a2 E0.length c2) := one_cell rV.que rfl
      have hrl := rV.lt
      have hdl := dV.lt
      by_cases hgo : 0 < k ∧ ∃ hk' : k - 1 < E0.length, Ah2 (s, t) E0[k - 1]
      · obtain ⟨hk0, hk1, hah⟩ := hgo
        have hk0' : (0 : Int) < (k : Int) := by omega
        obtain ⟨g, o, rfl, y0, y1⟩ := rV.row.dues (k - 1) hk1
        have haB : ahB (s, t) E0[k - 1] = true := (ahB_iff _ _).2 hah
        have HK2 : Hid (∀ j (hj : j < E0.length), k - 1 ≤ j → Ah2 (s, t) E0[j]) := fun j hj hkj => by
          by_cases e : j = k - 1
          · subst e; exact hah
          · exact HK.out j hj (by omega)
        obtain ⟨x, hx⟩ : ∃ x, E0[k - 1] = x := ⟨_, rfl⟩
        rw [hx] at y0 y1 haB
        have hw : wrap64 ((k : Int) - 1) = (k : Int) - 1 := by have := HS.out.2; unfold wrap64; omega
        have hw2 : IntKind.i64.wrap ((k : Int) - 1) = (k : Int) - 1 := (IntWalk.i64_left _).trans hw
        have hn1 : ((k : Int) - 1).toNat = k - 1 := by omega
        have x1 : (0 : Int) ≤ (k : Int) - 1 := by omega
        have x2 : (k : Int) - 1 < (E0.length : Int) := by omega
        have x3 : (1 : Int) ≤ (k : Int) := by omega
        have bD : Below wr.heap.size wr wr.drew := (Below.refl _ _).drew
        clear rV dV HK hah hk1 hx
        go_wp2
        refine wp_region_noPanic ?_
        refine wp_region_held_drew (S := fun V => Below wr.heap.size wr V) (by kernel_rfl) (bD) (fun hHeld => ?_)
        refine take_lit (i := 0) (v := ?_) rfl (by kernel_rfl) (by kernel_rfl) (by kernel_rfl) (fun _ _ _ h => h) (Or.inl ⟨by rfl, ?_⟩) (by assumption) ?_
        rotate_left
        · (intro w hSw; (try dsimp only at hSw); go_simp <;> with_reducible rfl)
        try simp only [Act.put, List.setIfInBounds_toArray, List.set_cons_zero, List.set_cons_succ]
        refine take_lit (i := 1) (v := ?_) rfl (by kernel_rfl) (by kernel_rfl) (by kernel_rfl) (fun _ _ _ h => h) (Or.inl ⟨by rfl, ?_⟩) (by assumption) ?_
        rotate_left
        · (intro w hSw; (try dsimp only at hSw); go_simp <;> with_reducible rfl)
        try simp only [Act.put, List.setIfInBounds_toArray, List.set_cons_zero, List.set_cons_succ]
        refine take_lit (i := 2) (v := ?_) rfl (by kernel_rfl) (by kernel_rfl) (by kernel_rfl) (fun _ _ _ h => h) (Or.inl ⟨by rfl, ?_⟩) (by assumption) ?_
        rotate_left
        · (intro w hSw; (try dsimp only at hSw); go_simp <;> with_reducible rfl)
        try simp only [Act.put, List.setIfInBounds_toArray, List.set_cons_zero, List.set_cons_succ]
        refine take_lit (i := 3) (v := ?_) rfl (by kernel_rfl) (by kernel_rfl) (by kernel_rfl) (fun _ _ _ h => h) (Or.inl ⟨by rfl, ?_⟩) (by assumption) ?_
        rotate_left
        · (intro w hSw; (try dsimp only at hSw); have q0 := (hSw.cell (p := ⟨dB, 0, none⟩) hdl).trans z0; have q1 := (hSw.cell (p := ⟨dB, 1, none⟩) hdl).trans z1; go_simp <;> with_reducible rfl)
        try simp only [Act.put, List.setIfInBounds_toArray, List.set_cons_zero, List.set_cons_succ]
        refine take_lit (i := 4) (v := ?_) rfl (by kernel_rfl) (by kernel_rfl) (by kernel_rfl) (fun _ _ _ h => h) (Or.inl ⟨by rfl, ?_⟩) (by assumption) ?_
        rotate_left
        · (intro w hSw; (try dsimp only at hSw); go_simp <;> with_reducible rfl)
        try simp only [Act.put, List.setIfInBounds_toArray, List.set_cons_zero, List.set_cons_succ]
        refine take_lit (i := 5) (v := ?_) rfl (by kernel_rfl) (by kernel_rfl) (by kernel_rfl) (fun _ _ _ h => h) (Or.inl ⟨by rfl, ?_⟩) (by assumption) ?_
        rotate_left
        · (intro w hSw; (try dsimp only at hSw); go_simp <;> with_reducible rfl)
        try simp only [Act.put, List.setIfInBounds_toArray, List.set_cons_zero, List.set_cons_succ]
        refine take_lit (i := 6) (v := ?_) rfl (by kernel_rfl) (by kernel_rfl) (by kernel_rfl) (fun _ _ _ h => h) (Or.inl ⟨by rfl, ?_⟩) (by assumption) ?_
        rotate_left
        · (intro w hSw; (try dsimp only at hSw); go_simp <;> with_reducible rfl)
        try simp only [Act.put, List.setIfInBounds_toArray, List.set_cons_zero, List.set_cons_succ]
        refine take_lit (i := 7) (v := ?_) rfl (by kernel_rfl) (by kernel_rfl) (by kernel_rfl) (fun _ _ _ h => h) (Or.inl ⟨by rfl, ?_⟩) (by assumption) ?_
        rotate_left
        · (intro w hSw; (try dsimp only at hSw); have q0 := (hSw.cell (p := ⟨r, 0, none⟩) hrl).trans c3; go_simp <;> with_reducible rfl)
        try simp only [Act.put, List.setIfInBounds_toArray, List.set_cons_zero, List.set_cons_succ]
        refine take_lit (i := 8) (v := ?_) rfl (by kernel_rfl) (by kernel_rfl) (by kernel_rfl) (fun _ _ _ h => h) (Or.inl ⟨by rfl, ?_⟩) (by assumption) ?_
        rotate_left
        · (intro w hSw; (try dsimp only at hSw); go_simp <;> with_reducible rfl)
        try simp only [Act.put, List.setIfInBounds_toArray, List.set_cons_zero, List.set_cons_succ]
        refine take_lit (i := 9) (v := ?_) rfl (by kernel_rfl) (by kernel_rfl) (by kernel_rfl) (fun _ _ _ h => h) (Or.inl ⟨by rfl, ?_⟩) (by assumption) ?_
        rotate_left
        · (intro w hSw; (try dsimp only at hSw); go_simp <;> with_reducible rfl)
        try simp only [Act.put, List.setIfInBounds_toArray, List.set_cons_zero, List.set_cons_succ]
        refine take_lit (i := 10) (v := ?_) rfl (by kernel_rfl) (by kernel_rfl) (by kernel_rfl) (fun _ _ _ h => h) (Or.inl ⟨by rfl, ?_⟩) (by assumption) ?_
        rotate_left
        · (intro w hSw; (try dsimp only at hSw); go_simp <;> with_reducible rfl)
        try simp only [Act.put, List.setIfInBounds_toArray, List.set_cons_zero, List.set_cons_succ]
        refine take_lit (i := 11) (v := ?_) rfl (by kernel_rfl) (by kernel_rfl) (by kernel_rfl) (fun _ _ _ h => h) (Or.inl ⟨by rfl, ?_⟩) (by assumption) ?_
        rotate_left
        · (intro w hSw; (try dsimp only at hSw); have q0 := (hSw.cell (p := ⟨g, o + (k - 1) * 2, none⟩) (World.block_lt_of_cell? _ _ y0)).trans y0; have q1 := (hSw.cell (p := ⟨g, o + (k - 1) * 2 + 1, none⟩) (World.block_lt_of_cell? _ _ y1)).trans y1; go_simp <;> with_reducible rfl)
        try simp only [Act.put, List.setIfInBounds_toArray, List.set_cons_zero, List.set_cons_succ]
        refine wpAnyH_ready (rs := [12]) (by kernel_rfl) (by simp) ?_
        refine cons_lit rfl (fun K hK => ?_) ?_
        · go_simp
          refine (ahead_any (s, t) x _).mono ?_
          rintro e w4 ⟨rfl, b4⟩
          rw [haB]
          refine hK.out _ _ ?_ (fun hHeld => ?_)
          · exact hHeld.trans (b4.mono hHeld.size)
          clear hK K
          try simp only [Act.put, List.setIfInBounds_toArray, List.set_cons_zero, List.set_cons_succ]
          refine take_lit (i := 13) (v := ?_) rfl (by kernel_rfl) (by kernel_rfl) (by kernel_rfl) (fun _ _ _ h => h) (Or.inl ⟨by rfl, ?_⟩) (by assumption) ?_
          rotate_left
          · (intro w hSw; (try dsimp only at hSw); go_simp <;> with_reducible rfl)
          try simp only [Act.put, List.setIfInBounds_toArray, List.set_cons_zero, List.set_cons_succ]
          refine wpAnyH_done (by kernel_rfl) ?_ _
          refine NoPanic.normal ?_
          go_wp2
          go_roundw
          case rel => exact ⟨k - 1, by simp; omega, by omega, bV.trans (hHeld.mono bV.size), HK2⟩
          case measure => simp [intOf]; omega
        exact AllReadyH.nil
      · have HG : Hid (0 < k → ∀ hk' : k - 1 < E0.length, ¬ Ah2 (s, t) E0[k - 1]) := fun h0 h1 h2 => hgo ⟨h0, h1, h2⟩
        have HI : Hid (Srt2 (E0.take k ++ [(s, t)] ++ E0.drop k)) := srt_ins HS.out.1 hk HK.out HG.out
        by_cases hk0 : k = 0
        · have hkn : ¬ 0 < k := by omega
          have hkz : ¬ (0 : Int) < (k : Int) := by omega
          clear hk0
          have bD : Below wr.heap.size wr wr.drew := (Below.refl _ _).drew
          clear hgo HK HG
          go_wp2
          refine wp_region_noPanic ?_
          refine wp_region_held_drew (S := fun V => Below wr.heap.size wr V) (by kernel_rfl) (bD) (fun hHeld => ?_)
          refine take_lit (i := 0) (v := ?_) rfl (by kernel_rfl) (by kernel_rfl) (by kernel_rfl) (fun _ _ _ h => h) (Or.inl ⟨by rfl, ?_⟩) (by assumption) ?_
          rotate_left
          · (intro w hSw; (try dsimp only at hSw); go_simp <;> with_reducible rfl)
          try simp only [Act.put, List.setIfInBounds_toArray, List.set_cons_zero, List.set_cons_succ]
          refine take_lit (i := 1) (v := ?_) rfl (by kernel_rfl) (by kernel_rfl) (by kernel_rfl) (fun _ _ _ h => h) (Or.inl ⟨by rfl, ?_⟩) (by assumption) ?_
          rotate_left
          · (intro w hSw; (try dsimp only at hSw); go_simp <;> with_reducible rfl)
          try simp only [Act.put, List.setIfInBounds_toArray, List.set_cons_zero, List.set_cons_succ]
          refine take_lit (i := 2) (v := ?_) rfl (by kernel_rfl) (by kernel_rfl) (by kernel_rfl) (fun _ _ _ h => h) (Or.inl ⟨by rfl, ?_⟩) (by assumption) ?_
          rotate_left
          · (intro w hSw; (try dsimp only at hSw); go_simp <;> with_reducible rfl)
          try simp only [Act.put, List.setIfInBounds_toArray, List.set_cons_zero, List.set_cons_succ]
          refine take_lit (i := 3) rfl (by kernel_rfl) (by kernel_rfl) (by kernel_rfl) (fun _ _ _ h => h) (Or.inr ⟨by rfl, rfl⟩) (by assumption) ?_
          try simp only [Act.put, List.setIfInBounds_toArray, List.set_cons_zero, List.set_cons_succ]
          refine take_lit (i := 4) rfl (by kernel_rfl) (by kernel_rfl) (by kernel_rfl) (fun _ _ _ h => h) (Or.inr ⟨by rfl, rfl⟩) (by assumption) ?_
          try simp only [Act.put, List.setIfInBounds_toArray, List.set_cons_zero, List.set_cons_succ]
          refine take_lit (i := 5) rfl (by kernel_rfl) (by kernel_rfl) (by kernel_rfl) (fun _ _ _ h => h) (Or.inr ⟨by rfl, rfl⟩) (by assumption) ?_
          try simp only [Act.put, List.setIfInBounds_toArray, List.set_cons_zero, List.set_cons_succ]
          refine take_lit (i := 6) rfl (by kernel_rfl) (by kernel_rfl) (by kernel_rfl) (fun _ _ _ h => h) (Or.inr ⟨by rfl, rfl⟩) (by assumption) ?_
          try simp only [Act.put, List.setIfInBounds_toArray, List.set_cons_zero, List.set_cons_succ]
          refine take_lit (i := 7) rfl (by kernel_rfl) (by kernel_rfl) (by kernel_rfl) (fun _ _ _ h => h) (Or.inr ⟨by rfl, rfl⟩) (by assumption) ?_
          try simp only [Act.put, List.setIfInBounds_toArray, List.set_cons_zero, List.set_cons_succ]
          refine take_lit (i := 8) rfl (by kernel_rfl) (by kernel_rfl) (by kernel_rfl) (fun _ _ _ h => h) (Or.inr ⟨by rfl, rfl⟩) (by assumption) ?_
          try simp only [Act.put, List.setIfInBounds_toArray, List.set_cons_zero, List.set_cons_succ]
          refine take_lit (i := 9) rfl (by kernel_rfl) (by kernel_rfl) (by kernel_rfl) (fun _ _ _ h => h) (Or.inr ⟨by rfl, rfl⟩) (by assumption) ?_
          try simp only [Act.put, List.setIfInBounds_toArray, List.set_cons_zero, List.set_cons_succ]
          refine take_lit (i := 10) rfl (by kernel_rfl) (by kernel_rfl) (by kernel_rfl) (fun _ _ _ h => h) (Or.inr ⟨by rfl, rfl⟩) (by assumption) ?_
          try simp only [Act.put, List.setIfInBounds_toArray, List.set_cons_zero, List.set_cons_succ]
          refine take_lit (i := 11) rfl (by kernel_rfl) (by kernel_rfl) (by kernel_rfl) (fun _ _ _ h => h) (Or.inr ⟨by rfl, rfl⟩) (by assumption) ?_
          try simp only [Act.put, List.setIfInBounds_toArray, List.set_cons_zero, List.set_cons_succ]
          refine take_lit (i := 12) rfl (by kernel_rfl) (by kernel_rfl) (by kernel_rfl) (fun _ _ _ h => h) (Or.inr ⟨by rfl, rfl⟩) (by assumption) ?_
          try simp only [Act.put, List.setIfInBounds_toArray, List.set_cons_zero, List.set_cons_succ]
          refine take_lit (i := 13) (v := ?_) rfl (by kernel_rfl) (by kernel_rfl) (by kernel_rfl) (fun _ _ _ h => h) (Or.inl ⟨by rfl, ?_⟩) (by assumption) ?_
          rotate_left
          · (intro w hSw; (try dsimp only at hSw); go_simp <;> with_reducible rfl)
          try simp only [Act.put, List.setIfInBounds_toArray, List.set_cons_zero, List.set_cons_succ]
          refine wpAnyH_done (by kernel_rfl) ?_ _
          refine NoPanic.normal ?_
          rcases rV.row.2 with ⟨rfl, rfl⟩ | ⟨g, o, arr, rfl, _, _⟩
          · skip
            have hE0 : E0 = [] := List.eq_nil_of_length_eq_zero (by have := rV.row.1; omega)
            subst hE0
            obtain rfl : k = 0 := by simpa using hk
            have HV : Hid (Rq wr r none 0 []) := rV
            have HT : Hid (∀ V, Below wr.heap.size wr V → SrcD V none 0 (([] : List (ByteArray × Int)).take 0)) := fun V hV => ⟨rfl, fun _ => rfl, fun p hp => by cases hp⟩
            have HU : Hid (∀ V, Below wr.heap.size wr V → SrcD V none 0 (([] : List (ByteArray × Int)).drop 0)) := fun V hV => ⟨rfl, fun _ => rfl, fun p hp => by cases hp⟩
            clear rV dV
            go_wp2
            refine wp_region_noPanic ?_
            refine wp_region_N (S := fun V => Below wr.heap.size wr V) 21 (by kernel_rfl) (hHeld.drew) (fun hHeld => ?_)
            refine takeN_lit (i := 0) (v := ?_) (F := #[false, true, true, true, true, true, true, true, true, true, true, true, true, true, true, true, true, true, true, false, false, false]) rfl (by kernel_rfl) (by kernel_rfl) (by kernel_rfl) (by kernel_rfl) (fun _ _ _ h => h) (Or.inl ⟨by rfl, ?_⟩) (by assumption) ?_
            rotate_left
            · (intro w hSw; (try dsimp only at hSw); go_simp <;> with_reducible rfl)
            try simp only [Act.put, List.setIfInBounds_toArray, List.set_cons_zero, List.set_cons_succ]
            refine takeN_lit (i := 2) (v := ?_) (F := #[true, true, false, false, false, false, true, false, false, true, true, false, true, true, true, true, true, true, false, false, false, false]) rfl (by kernel_rfl) (by kernel_rfl) (by kernel_rfl) (by kernel_rfl) (fun _ _ _ h => h) (Or.inl ⟨by rfl, ?_⟩) (by assumption) ?_
            rotate_left
            · (intro w hSw; (try dsimp only at hSw); go_simp <;> with_reducible rfl)
            try simp only [Act.put, List.setIfInBounds_toArray, List.set_cons_zero, List.set_cons_succ]
            refine takeN_lit (i := 3) (v := ?_) (F := #[true, true, true, false, false, false, true, false, false, true, true, false, true, true, true, true, true, true, false, false, false, false]) rfl (by kernel_rfl) (by kernel_rfl) (by kernel_rfl) (by kernel_rfl) (fun _ _ _ h => h) (Or.inl ⟨by rfl, ?_⟩) (by assumption) ?_
            rotate_left
            · (intro w hSw; (try dsimp only at hSw); go_simp <;> with_reducible rfl)
            try simp only [Act.put, List.setIfInBounds_toArray, List.set_cons_zero, List.set_cons_succ]
            refine takeN_lit (i := 4) (v := ?_) (F := #[true, true, true, true, false, false, true, false, false, true, true, false, true, true, true, true, true, true, false, false, false, false]) rfl (by kernel_rfl) (by kernel_rfl) (by kernel_rfl) (by kernel_rfl) (fun _ _ _ h => h) (Or.inl ⟨by rfl, ?_⟩) (by assumption) ?_
            rotate_left
            · (intro w hSw; (try dsimp only at hSw); go_simp <;> with_reducible rfl)
            try simp only [Act.put, List.setIfInBounds_toArray, List.set_cons_zero, List.set_cons_succ]
            refine takeN_lit (i := 5) (v := ?_) (F := #[true, true, true, true, true, false, true, false, false, true, true, false, true, true, true, true, true, true, false, false, false, false]) rfl (by kernel_rfl) (by kernel_rfl) (by kernel_rfl) (by kernel_rfl) (fun _ _ _ h => h) (Or.inl ⟨by rfl, ?_⟩) (by assumption) ?_
            rotate_left
            · (intro w hSw; (try dsimp only at hSw); have q0 := (hSw.cell (p := ⟨r, 0, none⟩) hrl).trans c3; go_simp <;> with_reducible rfl)
            try simp only [Act.put, List.setIfInBounds_toArray, List.set_cons_zero, List.set_cons_succ]
            refine takeN_lit (i := 6) (v := ?_) (F := #[true, true, true, true, true, true, false, false, false, true, true, false, true, true, true, true, true, true, false, false, false, false]) rfl (by kernel_rfl) (by kernel_rfl) (by kernel_rfl) (by kernel_rfl) (fun _ _ _ h => h) (Or.inl ⟨by rfl, ?_⟩) (by assumption) ?_
            rotate_left
            · (intro w hSw; (try dsimp only at hSw); go_simp <;> with_reducible rfl)
            try simp only [Act.put, List.setIfInBounds_toArray, List.set_cons_zero, List.set_cons_succ]
            refine takeN_lit (i := 7) (v := ?_) (F := #[true, true, true, true, true, true, true, false, false, true, true, false, true, true, true, true, true, true, false, false, false, false]) rfl (by kernel_rfl) (by kernel_rfl) (by kernel_rfl) (by kernel_rfl) (fun _ _ _ h => h) (Or.inl ⟨by rfl, ?_⟩) (by assumption) ?_
            rotate_left
            · (intro w hSw; (try dsimp only at hSw); go_simp <;> with_reducible rfl)
            try simp only [Act.put, List.setIfInBounds_toArray, List.set_cons_zero, List.set_cons_succ]
            refine takeN_lit (i := 9) (v := ?_) (F := #[true, true, true, true, true, true, true, true, true, false, false, false, true, true, true, true, true, true, false, false, false, false]) rfl (by kernel_rfl) (by kernel_rfl) (by kernel_rfl) (by kernel_rfl) (fun _ _ _ h => h) (Or.inl ⟨by rfl, ?_⟩) (by assumption) ?_
            rotate_left
            · (intro w hSw; (try dsimp only at hSw); have q0 := (hSw.cell (p := ⟨dB, 0, none⟩) hdl).trans z0; have q1 := (hSw.cell (p := ⟨dB, 1, none⟩) hdl).trans z1; go_simp <;> with_reducible rfl)
            try simp only [Act.put, List.setIfInBounds_toArray, List.set_cons_zero, List.set_cons_succ]
            refine takeN_lit (i := 12) (v := ?_) (F := #[true, true, true, true, true, true, true, true, true, true, true, true, false, false, false, false, true, false, false, false, false, false]) rfl (by kernel_rfl) (by kernel_rfl) (by kernel_rfl) (by kernel_rfl) (fun _ _ _ h => h) (Or.inl ⟨by rfl, ?_⟩) (by assumption) ?_
            rotate_left
            · (intro w hSw; (try dsimp only at hSw); go_simp <;> with_reducible rfl)
            try simp only [Act.put, List.setIfInBounds_toArray, List.set_cons_zero, List.set_cons_succ]
            refine takeN_lit (i := 13) (v := ?_) (F := #[true, true, true, true, true, true, true, true, true, true, true, true, true, false, false, false, true, false, false, false, false, false]) rfl (by kernel_rfl) (by kernel_rfl) (by kernel_rfl) (by kernel_rfl) (fun _ _ _ h => h) (Or.inl ⟨by rfl, ?_⟩) (by assumption) ?_
            rotate_left
            · (intro w hSw; (try dsimp only at hSw); go_simp <;> with_reducible rfl)
            try simp only [Act.put, List.setIfInBounds_toArray, List.set_cons_zero, List.set_cons_succ]
            refine takeN_lit (i := 14) (v := ?_) (F := #[true, true, true, true, true, true, true, true, true, true, true, true, true, true, false, false, true, false, false, false, false, false]) rfl (by kernel_rfl) (by kernel_rfl) (by kernel_rfl) (by kernel_rfl) (fun _ _ _ h => h) (Or.inl ⟨by rfl, ?_⟩) (by assumption) ?_
            rotate_left
            · (intro w hSw; (try dsimp only at hSw); go_simp <;> with_reducible rfl)
            try simp only [Act.put, List.setIfInBounds_toArray, List.set_cons_zero, List.set_cons_succ]
            refine takeN_lit (i := 15) (v := ?_) (F := #[true, true, true, true, true, true, true, true, true, true, true, true, true, true, true, false, true, false, false, false, false, false]) rfl (by kernel_rfl) (by kernel_rfl) (by kernel_rfl) (by kernel_rfl) (fun _ _ _ h => h) (Or.inl ⟨by rfl, ?_⟩) (by assumption) ?_
            rotate_left
            · (intro w hSw; (try dsimp only at hSw); have q0 := (hSw.cell (p := ⟨r, 0, none⟩) hrl).trans c3; go_simp <;> with_reducible rfl)
            try simp only [Act.put, List.setIfInBounds_toArray, List.set_cons_zero, List.set_cons_succ]
            refine takeN_lit (i := 16) (v := ?_) (F := #[true, true, true, true, true, true, true, true, true, true, true, true, true, true, true, true, false, false, false, false, false, false]) rfl (by kernel_rfl) (by kernel_rfl) (by kernel_rfl) (by kernel_rfl) (fun _ _ _ h => h) (Or.inl ⟨by rfl, ?_⟩) (by assumption) ?_
            rotate_left
            · (intro w hSw; (try dsimp only at hSw); go_simp <;> with_reducible rfl)
            try simp only [Act.put, List.setIfInBounds_toArray, List.set_cons_zero, List.set_cons_succ]
            refine takeN_lit (i := 17) (v := ?_) (F := #[true, true, true, true, true, true, true, true, true, true, true, true, true, true, true, true, true, false, false, false, false, false]) rfl (by kernel_rfl) (by kernel_rfl) (by kernel_rfl) (by kernel_rfl) (fun _ _ _ h => h) (Or.inl ⟨by rfl, ?_⟩) (by assumption) ?_
            rotate_left
            · (intro w hSw; (try dsimp only at hSw); go_simp <;> with_reducible rfl)
            try simp only [Act.put, List.setIfInBounds_toArray, List.set_cons_zero, List.set_cons_succ]
            refine wpAnyN_ready (rs := [1, 10]) (by kernel_rfl) (by simp) ?_
            refine consN_lit rfl (fun K hK => ?_) ?_
            · skip
              refine sBs0 (by rfl) rfl ?_
              intro W1 o1 b1 l1
              replace o1 := own_base o1 hHeld.size
              try replace s10 := s10.kept (cell_some b1)
              try have m10 := Nat.lt_of_lt_of_le l10 b1.size
              refine hK.out _ _ (Or.inr ?_) (fun hHeld => ?_)
              · exact hHeld.trans (b1.mono hHeld.size)
              replace hHeld := hHeld.resolve_left (by decide)
              clear hK K
              try simp only [Act.put, List.setIfInBounds_toArray, List.set_cons_zero, List.set_cons_succ]
              refine wpAnyN_ready (rs := [8, 10]) (by kernel_rfl) (by simp) ?_
              refine consN_lit rfl (fun K hK => ?_) ?_
              · skip
                refine sAppD (.tmp 49) (.tmp 55) (by rfl) rfl wr.heap.size _ 0 [] (by rfl) o1 none 0 0 (([] : List (ByteArray × Int)).take 0) (by rfl) (fun _ => rfl) (HT.out _ hHeld) (by have := HS.out.2; omega) hHeld.size ?_
                intro v8 W8 o8 g8
                rw [Nat.zero_add, List.nil_append] at o8
                try replace s10 := s10.grown g8 (by intro e; simp only [Value.ownBlock, Option.some.injEq] at e; omega) (by omega)
                refine hK.out _ _ (Or.inr ?_) (fun hHeld => ?_)
                · exact hHeld.grown g8 hHeld.size (fun j hj => ownS_base o1 j hj)
                replace hHeld := hHeld.resolve_left (by decide)
                clear hK K
                try simp only [Act.put, List.setIfInBounds_toArray, List.set_cons_zero, List.set_cons_succ]
                refine wpAnyN_ready (rs := [10]) (by kernel_rfl) (by simp) ?_
                refine consN_lit rfl (fun K hK => ?_) ?_
                · skip
                  refine sBs1 (.tmp 57) s t (by rfl) rfl (by rfl) ?_
                  intro W10 s10 b10 l10
                  try replace o8 := ownS_below o8 b10
                  try replace o1 := ownS_below o1 b10
                  refine hK.out _ _ (Or.inr ?_) (fun hHeld => ?_)
                  · exact hHeld.trans (b10.mono hHeld.size)
                  replace hHeld := hHeld.resolve_left (by decide)
                  clear hK K
                  try simp only [Act.put, List.setIfInBounds_toArray, List.set_cons_zero, List.set_cons_succ]
                  refine wpAnyN_ready (rs := [11]) (by kernel_rfl) (by simp) ?_
                  refine consN_lit rfl (fun K hK => ?_) ?_
                  · skip
                    refine sAppD (.tmp 56) (.tmp 58) (by rfl) rfl wr.heap.size v8 0 (([] : List (ByteArray × Int)).take 0) (by rfl) o8 (some ⟨_, 0, none⟩) 1 1 [(s, t)] (by rfl) (fun h => by cases h) s10 (by have := HS.out.2; omega) hHeld.size ?_
                    intro v11 W11 o11 g11
                    refine hK.out _ _ (Or.inr ?_) (fun hHeld => ?_)
                    · exact hHeld.grown g11 hHeld.size (fun j hj => ownS_base o8 j hj)
                    replace hHeld := hHeld.resolve_left (by decide)
                    clear hK K
                    try simp only [Act.put, List.setIfInBounds_toArray, List.set_cons_zero, List.set_cons_succ]
                    refine wpAnyN_ready (rs := [18]) (by kernel_rfl) (by simp) ?_
                    refine consN_lit rfl (fun K hK => ?_) ?_
                    · skip
                      refine sAppD (.tmp 59) (.tmp 65) (by rfl) rfl wr.heap.size v11 (0 + 1) (([] : List (ByteArray × Int)).take 0 ++ [(s, t)]) (by rfl) o11 none 0 0 (([] : List (ByteArray × Int)).drop 0) (by rfl) (fun _ => rfl) (HU.out _ hHeld) (by have := HS.out.2; omega) hHeld.size ?_
                      intro v18 W18 o18 g18
                      obtain ⟨a18, c18, rfl⟩ := ownS_shape o18
                      refine hK.out _ _ (Or.inr ?_) (fun hHeld => ?_)
                      · exact hHeld.grown g18 hHeld.size (fun j hj => ownS_base o11 j hj)
                      replace hHeld := hHeld.resolve_left (by decide)
                      clear hK K
                      try simp only [Act.put, List.setIfInBounds_toArray, List.set_cons_zero, List.set_cons_succ]
                      refine takeN_lit (i := 19) (v := ?_) (F := #[true, true, true, true, true, true, true, true, true, true, true, true, true, true, true, true, true, true, true, false, false, false]) rfl (by kernel_rfl) (by kernel_rfl) (by kernel_rfl) (by kernel_rfl) (fun _ _ _ h => h) (Or.inl ⟨by rfl, ?_⟩) (by assumption) ?_
                      rotate_left
                      · (intro w hSw; (try dsimp only at hSw); go_simp <;> with_reducible rfl)
                      try simp only [Act.put, List.setIfInBounds_toArray, List.set_cons_zero, List.set_cons_succ]
                      refine takeN_lit (i := 20) (v := ?_) (F := #[true, true, true, true, true, true, true, true, true, true, true, true, true, true, true, true, true, true, true, true, false, false]) rfl (by kernel_rfl) (by kernel_rfl) (by kernel_rfl) (by kernel_rfl) (fun _ _ _ h => h) (Or.inl ⟨by rfl, ?_⟩) (by assumption) ?_
                      rotate_left
                      · (intro w hSw; (try dsimp only at hSw); go_simp <;> with_reducible rfl)
                      try simp only [Act.put, List.setIfInBounds_toArray, List.set_cons_zero, List.set_cons_succ]
                      refine wpAnyN_ready (rs := [21]) (by kernel_rfl) (by simp) ?_
                      refine consN_lit rfl (fun K hK => ?_) ?_
                      · skip
                        refine sStL (.tmp 68) (.tmp 66) rfl (by rfl) r a18 _ c18 _ ((hHeld.cell (p := ⟨r, 0, none⟩) hrl).trans c3) (one_free ((hHeld.block r hrl).trans HV.out.que)) (by rfl) (by rfl) ?_
                        refine hK.out _ _ (Or.inl rfl) (fun _ => ?_)
                        clear hK K
                        try simp only [Act.put, List.setIfInBounds_toArray, List.set_cons_zero, List.set_cons_succ]
                        refine wpAnyN_done (by kernel_rfl) ?_ _
                        refine NoPanic.normal ?_
                        obtain ⟨z1, z2⟩ := HV.out.store (D := ([] : List (ByteArray × Int)).take 0 ++ [(s, t)] ++ ([] : List (ByteArray × Int)).drop 0) hHeld o18 rfl
                        have z3 := (HD.out.2.2.trans (Frm.of_below (S := fun j => j = r) bV) (fun _ h => .inl h)).trans z2 (fun _ h => .inl h)
                        go_wp2
                        all_goals
                          go_ret
                          first | exact ⟨_, ⟨rfl, _, _, z1, z3⟩, HI.out, perm_ins [] (s, t) 0⟩ | exact ⟨⟨rfl, _, _, z1, z3⟩, HI.out⟩
                      exact AllReadyN.nil
                    exact AllReadyN.nil
                  exact AllReadyN.nil
                exact AllReadyN.nil
              refine consN_lit rfl (fun K hK => ?_) ?_
              · skip
                refine sBs1 (.tmp 57) s t (by rfl) rfl (by rfl) ?_
                intro W10 s10 b10 l10
                try replace o8 := ownS_below o8 b10
                try replace o1 := ownS_below o1 b10
                refine hK.out _ _ (Or.inr ?_) (fun hHeld => ?_)
                · exact hHeld.trans (b10.mono hHeld.size)
                replace hHeld := hHeld.resolve_left (by decide)
                clear hK K
                try simp only [Act.put, List.setIfInBounds_toArray, List.set_cons_zero, List.set_cons_succ]
                refine wpAnyN_ready (rs := [8]) (by kernel_rfl) (by simp) ?_
                refine consN_lit rfl (fun K hK => ?_) ?_
                · skip
                  refine sAppD (.tmp 49) (.tmp 55) (by rfl) rfl wr.heap.size _ 0 [] (by rfl) o1 none 0 0 (([] : List (ByteArray × Int)).take 0) (by rfl) (fun _ => rfl) (HT.out _ hHeld) (by have := HS.out.2; omega) hHeld.size ?_
                  intro v8 W8 o8 g8
                  rw [Nat.zero_add, List.nil_append] at o8
                  try replace s10 := s10.grown g8 (by intro e; simp only [Value.ownBlock, Option.some.injEq] at e; omega) (by omega)
                  refine hK.out _ _ (Or.inr ?_) (fun hHeld => ?_)
                  · exact hHeld.grown g8 hHeld.size (fun j hj => ownS_base o1 j hj)
                  replace hHeld := hHeld.resolve_left (by decide)
                  clear hK K
                  try simp only [Act.put, List.setIfInBounds_toArray, List.set_cons_zero, List.set_cons_succ]
                  refine wpAnyN_ready (rs := [11]) (by kernel_rfl) (by simp) ?_
                  refine consN_lit rfl (fun K hK => ?_) ?_
                  · skip
                    refine sAppD (.tmp 56) (.tmp 58) (by rfl) rfl wr.heap.size v8 0 (([] : List (ByteArray × Int)).take 0) (by rfl) o8 (some ⟨_, 0, none⟩) 1 1 [(s, t)] (by rfl) (fun h => by cases h) s10 (by have := HS.out.2; omega) hHeld.size ?_
                    intro v11 W11 o11 g11
                    refine hK.out _ _ (Or.inr ?_) (fun hHeld => ?_)
                    · exact hHeld.grown g11 hHeld.size (fun j hj => ownS_base o8 j hj)
                    replace hHeld := hHeld.resolve_left (by decide)
                    clear hK K
                    try simp only [Act.put, List.setIfInBounds_toArray, List.set_cons_zero, List.set_cons_succ]
                    refine wpAnyN_ready (rs := [18]) (by kernel_rfl) (by simp) ?_
                    refine consN_lit rfl (fun K hK => ?_) ?_
                    · skip
                      refine sAppD (.tmp 59) (.tmp 65) (by rfl) rfl wr.heap.size v11 (0 + 1) (([] : List (ByteArray × Int)).take 0 ++ [(s, t)]) (by rfl) o11 none 0 0 (([] : List (ByteArray × Int)).drop 0) (by rfl) (fun _ => rfl) (HU.out _ hHeld) (by have := HS.out.2; omega) hHeld.size ?_
                      intro v18 W18 o18 g18
                      obtain ⟨a18, c18, rfl⟩ := ownS_shape o18
                      refine hK.out _ _ (Or.inr ?_) (fun hHeld => ?_)
                      · exact hHeld.grown g18 hHeld.size (fun j hj => ownS_base o11 j hj)
                      replace hHeld := hHeld.resolve_left (by decide)
                      clear hK K
                      try simp only [Act.put, List.setIfInBounds_toArray, List.set_cons_zero, List.set_cons_succ]
                      refine takeN_lit (i := 19) (v := ?_) (F := #[true, true, true, true, true, true, true, true, true, true, true, true, true, true, true, true, true, true, true, false, false, false]) rfl (by kernel_rfl) (by kernel_rfl) (by kernel_rfl) (by kernel_rfl) (fun _ _ _ h => h) (Or.inl ⟨by rfl, ?_⟩) (by assumption) ?_
                      rotate_left
                      · (intro w hSw; (try dsimp only at hSw); go_simp <;> with_reducible rfl)
                      try simp only [Act.put, List.setIfInBounds_toArray, List.set_cons_zero, List.set_cons_succ]
                      refine takeN_lit (i := 20) (v := ?_) (F := #[true, true, true, true, true, true, true, true, true, true, true, true, true, true, true, true, true, true, true, true, false, false]) rfl (by kernel_rfl) (by kernel_rfl) (by kernel_rfl) (by kernel_rfl) (fun _ _ _ h => h) (Or.inl ⟨by rfl, ?_⟩) (by assumption) ?_
                      rotate_left
                      · (intro w hSw; (try dsimp only at hSw); go_simp <;> with_reducible rfl)
                      try simp only [Act.put, List.setIfInBounds_toArray, List.set_cons_zero, List.set_cons_succ]
                      refine wpAnyN_ready (rs := [21]) (by kernel_rfl) (by simp) ?_
                      refine consN_lit rfl (fun K hK => ?_) ?_
                      · skip
                        refine sStL (.tmp 68) (.tmp 66) rfl (by rfl) r a18 _ c18 _ ((hHeld.cell (p := ⟨r, 0, none⟩) hrl).trans c3) (one_free ((hHeld.block r hrl).trans HV.out.que)) (by rfl) (by rfl) ?_
                        refine hK.out _ _ (Or.inl rfl) (fun _ => ?_)
                        clear hK K
                        try simp only [Act.put, List.setIfInBounds_toArray, List.set_cons_zero, List.set_cons_succ]
                        refine wpAnyN_done (by kernel_rfl) ?_ _
                        refine NoPanic.normal ?_
                        obtain ⟨z1, z2⟩ := HV.out.store (D := ([] : List (ByteArray × Int)).take 0 ++ [(s, t)] ++ ([] : List (ByteArray × Int)).drop 0) hHeld o18 rfl
                        have z3 := (HD.out.2.2.trans (Frm.of_below (S := fun j => j = r) bV) (fun _ h => .inl h)).trans z2 (fun _ h => .inl h)
                        go_wp2
                        all_goals
                          go_ret
                          first | exact ⟨_, ⟨rfl, _, _, z1, z3⟩, HI.out, perm_ins [] (s, t) 0⟩ | exact ⟨⟨rfl, _, _, z1, z3⟩, HI.out⟩
                      exact AllReadyN.nil
                    exact AllReadyN.nil
                  exact AllReadyN.nil
                exact AllReadyN.nil
              exact AllReadyN.nil
            refine consN_lit rfl (fun K hK => ?_) ?_
            · skip
              refine sBs1 (.tmp 57) s t (by rfl) rfl (by rfl) ?_
              intro W10 s10 b10 l10
              try replace o8 := ownS_below o8 b10
              try replace o1 := ownS_below o1 b10
              refine hK.out _ _ (Or.inr ?_) (fun hHeld => ?_)
              · exact hHeld.trans (b10.mono hHeld.size)
              replace hHeld := hHeld.resolve_left (by decide)
              clear hK K
              try simp only [Act.put, List.setIfInBounds_toArray, List.set_cons_zero, List.set_cons_succ]
              refine wpAnyN_ready (rs := [1]) (by kernel_rfl) (by simp) ?_
              refine consN_lit rfl (fun K hK => ?_) ?_
              · skip
                refine sBs0 (by rfl) rfl ?_
                intro W1 o1 b1 l1
                replace o1 := own_base o1 hHeld.size
                try replace s10 := s10.kept (cell_some b1)
                try have m10 := Nat.lt_of_lt_of_le l10 b1.size
                refine hK.out _ _ (Or.inr ?_) (fun hHeld => ?_)
                · exact hHeld.trans (b1.mono hHeld.size)
                replace hHeld := hHeld.resolve_left (by decide)
                clear hK K
                try simp only [Act.put, List.setIfInBounds_toArray, List.set_cons_zero, List.set_cons_succ]
                refine wpAnyN_ready (rs := [8]) (by kernel_rfl) (by simp) ?_
                refine consN_lit rfl (fun K hK => ?_) ?_
                · skip
                  refine sAppD (.tmp 49) (.tmp 55) (by rfl) rfl wr.heap.size _ 0 [] (by rfl) o1 none 0 0 (([] : List (ByteArray × Int)).take 0) (by rfl) (fun _ => rfl) (HT.out _ hHeld) (by have := HS.out.2; omega) hHeld.size ?_
                  intro v8 W8 o8 g8
                  rw [Nat.zero_add, List.nil_append] at o8
                  try replace s10 := s10.grown g8 (by intro e; simp only [Value.ownBlock, Option.some.injEq] at e; omega) (by omega)
                  refine hK.out _ _ (Or.inr ?_) (fun hHeld => ?_)
                  · exact hHeld.grown g8 hHeld.size (fun j hj => ownS_base o1 j hj)
                  replace hHeld := hHeld.resolve_left (by decide)
                  clear hK K
                  try simp only [Act.put, List.setIfInBounds_toArray, List.set_cons_zero, List.set_cons_succ]
                  refine wpAnyN_ready (rs := [11]) (by kernel_rfl) (by simp) ?_
                  refine consN_lit rfl (fun K hK => ?_) ?_
                  · skip
                    refine sAppD (.tmp 56) (.tmp 58) (by rfl) rfl wr.heap.size v8 0 (([] : List (ByteArray × Int)).take 0) (by rfl) o8 (some ⟨_, 0, none⟩) 1 1 [(s, t)] (by rfl) (fun h => by cases h) s10 (by have := HS.out.2; omega) hHeld.size ?_
                    intro v11 W11 o11 g11
                    refine hK.out _ _ (Or.inr ?_) (fun hHeld => ?_)
                    · exact hHeld.grown g11 hHeld.size (fun j hj => ownS_base o8 j hj)
                    replace hHeld := hHeld.resolve_left (by decide)
                    clear hK K
                    try simp only [Act.put, List.setIfInBounds_toArray, List.set_cons_zero, List.set_cons_succ]
                    refine wpAnyN_ready (rs := [18]) (by kernel_rfl) (by simp) ?_
                    refine consN_lit rfl (fun K hK => ?_) ?_
                    · skip
                      refine sAppD (.tmp 59) (.tmp 65) (by rfl) rfl wr.heap.size v11 (0 + 1) (([] : List (ByteArray × Int)).take 0 ++ [(s, t)]) (by rfl) o11 none 0 0 (([] : List (ByteArray × Int)).drop 0) (by rfl) (fun _ => rfl) (HU.out _ hHeld) (by have := HS.out.2; omega) hHeld.size ?_
                      intro v18 W18 o18 g18
                      obtain ⟨a18, c18, rfl⟩ := ownS_shape o18
                      refine hK.out _ _ (Or.inr ?_) (fun hHeld => ?_)
                      · exact hHeld.grown g18 hHeld.size (fun j hj => ownS_base o11 j hj)
                      replace hHeld := hHeld.resolve_left (by decide)
                      clear hK K
                      try simp only [Act.put, List.setIfInBounds_toArray, List.set_cons_zero, List.set_cons_succ]
                      refine takeN_lit (i := 19) (v := ?_) (F := #[true, true, true, true, true, true, true, true, true, true, true, true, true, true, true, true, true, true, true, false, false, false]) rfl (by kernel_rfl) (by kernel_rfl) (by kernel_rfl) (by kernel_rfl) (fun _ _ _ h => h) (Or.inl ⟨by rfl, ?_⟩) (by assumption) ?_
                      rotate_left
                      · (intro w hSw; (try dsimp only at hSw); go_simp <;> with_reducible rfl)
                      try simp only [Act.put, List.setIfInBounds_toArray, List.set_cons_zero, List.set_cons_succ]
                      refine takeN_lit (i := 20) (v := ?_) (F := #[true, true, true, true, true, true, true, true, true, true, true, true, true, true, true, true, true, true, true, true, false, false]) rfl (by kernel_rfl) (by kernel_rfl) (by kernel_rfl) (by kernel_rfl) (fun _ _ _ h => h) (Or.inl ⟨by rfl, ?_⟩) (by assumption) ?_
                      rotate_left
                      · (intro w hSw; (try dsimp only at hSw); go_simp <;> with_reducible rfl)
                      try simp only [Act.put, List.setIfInBounds_toArray, List.set_cons_zero, List.set_cons_succ]
                      refine wpAnyN_ready (rs := [21]) (by kernel_rfl) (by simp) ?_
                      refine consN_lit rfl (fun K hK => ?_) ?_
                      · skip
                        refine sStL (.tmp 68) (.tmp 66) rfl (by rfl) r a18 _ c18 _ ((hHeld.cell (p := ⟨r, 0, none⟩) hrl).trans c3) (one_free ((hHeld.block r hrl).trans HV.out.que)) (by rfl) (by rfl) ?_
                        refine hK.out _ _ (Or.inl rfl) (fun _ => ?_)
                        clear hK K
                        try simp only [Act.put, List.setIfInBounds_toArray, List.set_cons_zero, List.set_cons_succ]
                        refine wpAnyN_done (by kernel_rfl) ?_ _
                        refine NoPanic.normal ?_
                        obtain ⟨z1, z2⟩ := HV.out.store (D := ([] : List (ByteArray × Int)).take 0 ++ [(s, t)] ++ ([] : List (ByteArray × Int)).drop 0) hHeld o18 rfl
                        have z3 := (HD.out.2.2.trans (Frm.of_below (S := fun j => j = r) bV) (fun _ h => .inl h)).trans z2 (fun _ h => .inl h)
                        go_wp2
                        all_goals
                          go_ret
                          first | exact ⟨_, ⟨rfl, _, _, z1, z3⟩, HI.out, perm_ins [] (s, t) 0⟩ | exact ⟨⟨rfl, _, _, z1, z3⟩, HI.out⟩
                      exact AllReadyN.nil
                    exact AllReadyN.nil
                  exact AllReadyN.nil
                exact AllReadyN.nil
              exact AllReadyN.nil
            exact AllReadyN.nil
          · skip
            have HV : Hid (Rq wr r (some ⟨g, o, none⟩) c2 E0) := rV
            have HT : Hid (∀ V, Below wr.heap.size wr V → SrcD V (some ⟨g, o, none⟩) k (E0.take k)) := fun V hV => by
              have := rV.row.src rfl 0 k
              rw [List.drop_zero, List.length_take, Nat.min_eq_left hk, Nat.zero_mul, Nat.add_zero] at this
              exact this.kept (cell_some hV)
            have HU : Hid (∀ V, Below wr.heap.size wr V → SrcD V (if c2 = k then some ⟨g, o, none⟩ else some ⟨g, o + k * 2, none⟩) (E0.length - k) (E0.drop k)) := fun V hV => src_from rV.row hV k
            have hcap := rV.row.1
            have x4 : (0 : Int) ≤ (k : Int) := by omega
            have x5 : (k : Int) ≤ (c2 : Int) := by omega
            have x6 : (k : Int) ≤ (E0.length : Int) := by omega
            have x7 : (E0.length : Int) ≤ (c2 : Int) := by omega
            have x8 : k ≤ c2 := by omega
            clear rV dV
            go_wp2
            refine wp_region_noPanic ?_
            refine wp_region_N (S := fun V => Below wr.heap.size wr V) 21 (by kernel_rfl) (hHeld.drew) (fun hHeld => ?_)
            refine takeN_lit (i := 0) (v := ?_) (F := #[false, true, true, true, true, true, true, true, true, true, true, true, true, true, true, true, true, true, true, false, false, false]) rfl (by kernel_rfl) (by kernel_rfl) (by kernel_rfl) (by kernel_rfl) (fun _ _ _ h => h) (Or.inl ⟨by rfl, ?_⟩) (by assumption) ?_
            rotate_left
            · (intro w hSw; (try dsimp only at hSw); go_simp <;> with_reducible rfl)
            try simp only [Act.put, List.setIfInBounds_toArray, List.set_cons_zero, List.set_cons_succ]
            refine takeN_lit (i := 2) (v := ?_) (F := #[true, true, false, false, false, false, true, false, false, true, true, false, true, true, true, true, true, true, false, false, false, false]) rfl (by kernel_rfl) (by kernel_rfl) (by kernel_rfl) (by kernel_rfl) (fun _ _ _ h => h) (Or.inl ⟨by rfl, ?_⟩) (by assumption) ?_
            rotate_left
            · (intro w hSw; (try dsimp only at hSw); go_simp <;> with_reducible rfl)
            try simp only [Act.put, List.setIfInBounds_toArray, List.set_cons_zero, List.set_cons_succ]
            refine takeN_lit (i := 3) (v := ?_) (F := #[true, true, true, false, false, false, true, false, false, true, true, false, true, true, true, true, true, true, false, false, false, false]) rfl (by kernel_rfl) (by kernel_rfl) (by kernel_rfl) (by kernel_rfl) (fun _ _ _ h => h) (Or.inl ⟨by rfl, ?_⟩) (by assumption) ?_
            rotate_left
            · (intro w hSw; (try dsimp only at hSw); go_simp <;> with_reducible rfl)
            try simp only [Act.put, List.setIfInBounds_toArray, List.set_cons_zero, List.set_cons_succ]
            refine takeN_lit (i := 4) (v := ?_) (F := #[true, true, true, true, false, false, true, false, false, true, true, false, true, true, true, true, true, true, false, false, false, false]) rfl (by kernel_rfl) (by kernel_rfl) (by kernel_rfl) (by kernel_rfl) (fun _ _ _ h => h) (Or.inl ⟨by rfl, ?_⟩) (by assumption) ?_
            rotate_left
            · (intro w hSw; (try dsimp only at hSw); go_simp <;> with_reducible rfl)
            try simp only [Act.put, List.setIfInBounds_toArray, List.set_cons_zero, List.set_cons_succ]
            refine takeN_lit (i := 5) (v := ?_) (F := #[true, true, true, true, true, false, true, false, false, true, true, false, true, true, true, true, true, true, false, false, false, false]) rfl (by kernel_rfl) (by kernel_rfl) (by kernel_rfl) (by kernel_rfl) (fun _ _ _ h => h) (Or.inl ⟨by rfl, ?_⟩) (by assumption) ?_
            rotate_left
            · (intro w hSw; (try dsimp only at hSw); have q0 := (hSw.cell (p := ⟨r, 0, none⟩) hrl).trans c3; go_simp <;> with_reducible rfl)
            try simp only [Act.put, List.setIfInBounds_toArray, List.set_cons_zero, List.set_cons_succ]
            refine takeN_lit (i := 6) (v := ?_) (F := #[true, true, true, true, true, true, false, false, false, true, true, false, true, true, true, true, true, true, false, false, false, false]) rfl (by kernel_rfl) (by kernel_rfl) (by kernel_rfl) (by kernel_rfl) (fun _ _ _ h => h) (Or.inl ⟨by rfl, ?_⟩) (by assumption) ?_
            rotate_left
            · (intro w hSw; (try dsimp only at hSw); go_simp <;> with_reducible rfl)
            try simp only [Act.put, List.setIfInBounds_toArray, List.set_cons_zero, List.set_cons_succ]
            refine takeN_lit (i := 7) (v := ?_) (F := #[true, true, true, true, true, true, true, false, false, true, true, false, true, true, true, true, true, true, false, false, false, false]) rfl (by kernel_rfl) (by kernel_rfl) (by kernel_rfl) (by kernel_rfl) (fun _ _ _ h => h) (Or.inl ⟨by rfl, ?_⟩) (by assumption) ?_
            rotate_left
            · (intro w hSw; (try dsimp only at hSw); go_simp <;> with_reducible rfl)
            try simp only [Act.put, List.setIfInBounds_toArray, List.set_cons_zero, List.set_cons_succ]
            refine takeN_lit (i := 9) (v := ?_) (F := #[true, true, true, true, true, true, true, true, true, false, false, false, true, true, true, true, true, true, false, false, false, false]) rfl (by kernel_rfl) (by kernel_rfl) (by kernel_rfl) (by kernel_rfl) (fun _ _ _ h => h) (Or.inl ⟨by rfl, ?_⟩) (by assumption) ?_
            rotate_left
            · (intro w hSw; (try dsimp only at hSw); have q0 := (hSw.cell (p := ⟨dB, 0, none⟩) hdl).trans z0; have q1 := (hSw.cell (p := ⟨dB, 1, none⟩) hdl).trans z1; go_simp <;> with_reducible rfl)
            try simp only [Act.put, List.setIfInBounds_toArray, List.set_cons_zero, List.set_cons_succ]
            refine takeN_lit (i := 12) (v := ?_) (F := #[true, true, true, true, true, true, true, true, true, true, true, true, false, false, false, false, true, false, false, false, false, false]) rfl (by kernel_rfl) (by kernel_rfl) (by kernel_rfl) (by kernel_rfl) (fun _ _ _ h => h) (Or.inl ⟨by rfl, ?_⟩) (by assumption) ?_
            rotate_left
            · (intro w hSw; (try dsimp only at hSw); go_simp <;> with_reducible rfl)
            try simp only [Act.put, List.setIfInBounds_toArray, List.set_cons_zero, List.set_cons_succ]
            refine takeN_lit (i := 13) (v := ?_) (F := #[true, true, true, true, true, true, true, true, true, true, true, true, true, false, false, false, true, false, false, false, false, false]) rfl (by kernel_rfl) (by kernel_rfl) (by kernel_rfl) (by kernel_rfl) (fun _ _ _ h => h) (Or.inl ⟨by rfl, ?_⟩) (by assumption) ?_
            rotate_left
            · (intro w hSw; (try dsimp only at hSw); go_simp <;> with_reducible rfl)
            try simp only [Act.put, List.setIfInBounds_toArray, List.set_cons_zero, List.set_cons_succ]
            refine takeN_lit (i := 14) (v := ?_) (F := #[true, true, true, true, true, true, true, true, true, true, true, true, true, true, false, false, true, false, false, false, false, false]) rfl (by kernel_rfl) (by kernel_rfl) (by kernel_rfl) (by kernel_rfl) (fun _ _ _ h => h) (Or.inl ⟨by rfl, ?_⟩) (by assumption) ?_
            rotate_left
            · (intro w hSw; (try dsimp only at hSw); go_simp <;> with_reducible rfl)
            try simp only [Act.put, List.setIfInBounds_toArray, List.set_cons_zero, List.set_cons_succ]
            refine takeN_lit (i := 15) (v := ?_) (F := #[true, true, true, true, true, true, true, true, true, true, true, true, true, true, true, false, true, false, false, false, false, false]) rfl (by kernel_rfl) (by kernel_rfl) (by kernel_rfl) (by kernel_rfl) (fun _ _ _ h => h) (Or.inl ⟨by rfl, ?_⟩) (by assumption) ?_
            rotate_left
            · (intro w hSw; (try dsimp only at hSw); have q0 := (hSw.cell (p := ⟨r, 0, none⟩) hrl).trans c3; go_simp <;> with_reducible rfl)
            try simp only [Act.put, List.setIfInBounds_toArray, List.set_cons_zero, List.set_cons_succ]
            refine takeN_lit (i := 16) (v := ?_) (F := #[true, true, true, true, true, true, true, true, true, true, true, true, true, true, true, true, false, false, false, false, false, false]) rfl (by kernel_rfl) (by kernel_rfl) (by kernel_rfl) (by kernel_rfl) (fun _ _ _ h => h) (Or.inl ⟨by rfl, ?_⟩) (by assumption) ?_
            rotate_left
            · (intro w hSw; (try dsimp only at hSw); go_simp <;> with_reducible rfl)
            try simp only [Act.put, List.setIfInBounds_toArray, List.set_cons_zero, List.set_cons_succ]
            refine takeN_lit (i := 17) (v := ?_) (F := #[true, true, true, true, true, true, true, true, true, true, true, true, true, true, true, true, true, false, false, false, false, false]) rfl (by kernel_rfl) (by kernel_rfl) (by kernel_rfl) (by kernel_rfl) (fun _ _ _ h => h) (Or.inl ⟨by rfl, ?_⟩) (by assumption) ?_
            rotate_left
            · (intro w hSw; (try dsimp only at hSw); go_simp <;> with_reducible rfl)
            try simp only [Act.put, List.setIfInBounds_toArray, List.set_cons_zero, List.set_cons_succ]
            refine wpAnyN_ready (rs := [1, 10]) (by kernel_rfl) (by simp) ?_
            refine consN_lit rfl (fun K hK => ?_) ?_
            · skip
              refine sBs0 (by rfl) rfl ?_
              intro W1 o1 b1 l1
              replace o1 := own_base o1 hHeld.size
              try replace s10 := s10.kept (cell_some b1)
              try have m10 := Nat.lt_of_lt_of_le l10 b1.size
              refine hK.out _ _ (Or.inr ?_) (fun hHeld => ?_)
              · exact hHeld.trans (b1.mono hHeld.size)
              replace hHeld := hHeld.resolve_left (by decide)
              clear hK K
              try simp only [Act.put, List.setIfInBounds_toArray, List.set_cons_zero, List.set_cons_succ]
              refine wpAnyN_ready (rs := [8, 10]) (by kernel_rfl) (by simp) ?_
              refine consN_lit rfl (fun K hK => ?_) ?_
              · skip
                refine sAppD (.tmp 49) (.tmp 55) (by rfl) rfl wr.heap.size _ 0 [] (by rfl) o1 (some ⟨g, o, none⟩) k c2 (E0.take k) (by rfl) (fun h => by cases h) (HT.out _ hHeld) (by have := HS.out.2; omega) hHeld.size ?_
                intro v8 W8 o8 g8
                rw [Nat.zero_add, List.nil_append] at o8
                try replace s10 := s10.grown g8 (by intro e; simp only [Value.ownBlock, Option.some.injEq] at e; omega) (by omega)
                refine hK.out _ _ (Or.inr ?_) (fun hHeld => ?_)
                · exact hHeld.grown g8 hHeld.size (fun j hj => ownS_base o1 j hj)
                replace hHeld := hHeld.resolve_left (by decide)
                clear hK K
                try simp only [Act.put, List.setIfInBounds_toArray, List.set_cons_zero, List.set_cons_succ]
                refine wpAnyN_ready (rs := [10]) (by kernel_rfl) (by simp) ?_
                refine consN_lit rfl (fun K hK => ?_) ?_
                · skip
                  refine sBs1 (.tmp 57) s t (by rfl) rfl (by rfl) ?_
                  intro W10 s10 b10 l10
                  try replace o8 := ownS_below o8 b10
                  try replace o1 := ownS_below o1 b10
                  refine hK.out _ _ (Or.inr ?_) (fun hHeld => ?_)
                  · exact hHeld.trans (b10.mono hHeld.size)
                  replace hHeld := hHeld.resolve_left (by decide)
                  clear hK K
                  try simp only [Act.put, List.setIfInBounds_toArray, List.set_cons_zero, List.set_cons_succ]
                  refine wpAnyN_ready (rs := [11]) (by kernel_rfl) (by simp) ?_
                  refine consN_lit rfl (fun K hK => ?_) ?_
                  · skip
                    refine sAppD (.tmp 56) (.tmp 58) (by rfl) rfl wr.heap.size v8 k (E0.take k) (by rfl) o8 (some ⟨_, 0, none⟩) 1 1 [(s, t)] (by rfl) (fun h => by cases h) s10 (by have := HS.out.2; omega) hHeld.size ?_
                    intro v11 W11 o11 g11
                    refine hK.out _ _ (Or.inr ?_) (fun hHeld => ?_)
                    · exact hHeld.grown g11 hHeld.size (fun j hj => ownS_base o8 j hj)
                    replace hHeld := hHeld.resolve_left (by decide)
                    clear hK K
                    try simp only [Act.put, List.setIfInBounds_toArray, List.set_cons_zero, List.set_cons_succ]
                    refine wpAnyN_ready (rs := [18]) (by kernel_rfl) (by simp) ?_
                    refine consN_lit rfl (fun K hK => ?_) ?_
                    · skip
                      refine sAppD (.tmp 59) (.tmp 65) (by rfl) rfl wr.heap.size v11 (k + 1) (E0.take k ++ [(s, t)]) (by rfl) o11 (if c2 = k then some ⟨g, o, none⟩ else some ⟨g, o + k * 2, none⟩) (E0.length - k) (c2 - k) (E0.drop k) (by rfl) (fun h => absurd h ite_some) (HU.out _ hHeld) (by have := HS.out.2; omega) hHeld.size ?_
                      intro v18 W18 o18 g18
                      obtain ⟨a18, c18, rfl⟩ := ownS_shape o18
                      refine hK.out _ _ (Or.inr ?_) (fun hHeld => ?_)
                      · exact hHeld.grown g18 hHeld.size (fun j hj => ownS_base o11 j hj)
                      replace hHeld := hHeld.resolve_left (by decide)
                      clear hK K
                      try simp only [Act.put, List.setIfInBounds_toArray, List.set_cons_zero, List.set_cons_succ]
                      refine takeN_lit (i := 19) (v := ?_) (F := #[true, true, true, true, true, true, true, true, true, true, true, true, true, true, true, true, true, true, true, false, false, false]) rfl (by kernel_rfl) (by kernel_rfl) (by kernel_rfl) (by kernel_rfl) (fun _ _ _ h => h) (Or.inl ⟨by rfl, ?_⟩) (by assumption) ?_
                      rotate_left
                      · (intro w hSw; (try dsimp only at hSw); go_simp <;> with_reducible rfl)
                      try simp only [Act.put, List.setIfInBounds_toArray, List.set_cons_zero, List.set_cons_succ]
                      refine takeN_lit (i := 20) (v := ?_) (F := #[true, true, true, true, true, true, true, true, true, true, true, true, true, true, true, true, true, true, true, true, false, false]) rfl (by kernel_rfl) (by kernel_rfl) (by kernel_rfl) (by kernel_rfl) (fun _ _ _ h => h) (Or.inl ⟨by rfl, ?_⟩) (by assumption) ?_
                      rotate_left
                      · (intro w hSw; (try dsimp only at hSw); go_simp <;> with_reducible rfl)
                      try simp only [Act.put, List.setIfInBounds_toArray, List.set_cons_zero, List.set_cons_succ]
                      refine wpAnyN_ready (rs := [21]) (by kernel_rfl) (by simp) ?_
                      refine consN_lit rfl (fun K hK => ?_) ?_
                      · skip
                        refine sStL (.tmp 68) (.tmp 66) rfl (by rfl) r a18 _ c18 _ ((hHeld.cell (p := ⟨r, 0, none⟩) hrl).trans c3) (one_free ((hHeld.block r hrl).trans HV.out.que)) (by rfl) (by rfl) ?_
                        refine hK.out _ _ (Or.inl rfl) (fun _ => ?_)
                        clear hK K
                        try simp only [Act.put, List.setIfInBounds_toArray, List.set_cons_zero, List.set_cons_succ]
                        refine wpAnyN_done (by kernel_rfl) ?_ _
                        refine NoPanic.normal ?_
                        obtain ⟨z1, z2⟩ := HV.out.store (D := E0.take k ++ [(s, t)] ++ E0.drop k) hHeld o18 (by simp; omega)
                        have z3 := (HD.out.2.2.trans (Frm.of_below (S := fun j => j = r) bV) (fun _ h => .inl h)).trans z2 (fun _ h => .inl h)
                        go_wp2
                        all_goals
                          go_ret
                          first | exact ⟨_, ⟨rfl, _, _, z1, z3⟩, HI.out, perm_ins E0 (s, t) k⟩ | exact ⟨⟨rfl, _, _, z1, z3⟩, HI.out⟩
                      exact AllReadyN.nil
                    exact AllReadyN.nil
                  exact AllReadyN.nil
                exact AllReadyN.nil
              refine consN_lit rfl (fun K hK => ?_) ?_
              · skip
                refine sBs1 (.tmp 57) s t (by rfl) rfl (by rfl) ?_
                intro W10 s10 b10 l10
                try replace o8 := ownS_below o8 b10
                try replace o1 := ownS_below o1 b10
                refine hK.out _ _ (Or.inr ?_) (fun hHeld => ?_)
                · exact hHeld.trans (b10.mono hHeld.size)
                replace hHeld := hHeld.resolve_left (by decide)
                clear hK K
                try simp only [Act.put, List.setIfInBounds_toArray, List.set_cons_zero, List.set_cons_succ]
                refine wpAnyN_ready (rs := [8]) (by kernel_rfl) (by simp) ?_
                refine consN_lit rfl (fun K hK => ?_) ?_
                · skip
                  refine sAppD (.tmp 49) (.tmp 55) (by rfl) rfl wr.heap.size _ 0 [] (by rfl) o1 (some ⟨g, o, none⟩) k c2 (E0.take k) (by rfl) (fun h => by cases h) (HT.out _ hHeld) (by have := HS.out.2; omega) hHeld.size ?_
                  intro v8 W8 o8 g8
                  rw [Nat.zero_add, List.nil_append] at o8
                  try replace s10 := s10.grown g8 (by intro e; simp only [Value.ownBlock, Option.some.injEq] at e; omega) (by omega)
                  refine hK.out _ _ (Or.inr ?_) (fun hHeld => ?_)
                  · exact hHeld.grown g8 hHeld.size (fun j hj => ownS_base o1 j hj)
                  replace hHeld := hHeld.resolve_left (by decide)
                  clear hK K
                  try simp only [Act.put, List.setIfInBounds_toArray, List.set_cons_zero, List.set_cons_succ]
                  refine wpAnyN_ready (rs := [11]) (by kernel_rfl) (by simp) ?_
                  refine consN_lit rfl (fun K hK => ?_) ?_
                  · skip
                    refine sAppD (.tmp 56) (.tmp 58) (by rfl) rfl wr.heap.size v8 k (E0.take k) (by rfl) o8 (some ⟨_, 0, none⟩) 1 1 [(s, t)] (by rfl) (fun h => by cases h) s10 (by have := HS.out.2; omega) hHeld.size ?_
                    intro v11 W11 o11 g11
                    refine hK.out _ _ (Or.inr ?_) (fun hHeld => ?_)
                    · exact hHeld.grown g11 hHeld.size (fun j hj => ownS_base o8 j hj)
                    replace hHeld := hHeld.resolve_left (by decide)
                    clear hK K
                    try simp only [Act.put, List.setIfInBounds_toArray, List.set_cons_zero, List.set_cons_succ]
                    refine wpAnyN_ready (rs := [18]) (by kernel_rfl) (by simp) ?_
                    refine consN_lit rfl (fun K hK => ?_) ?_
                    · skip
                      refine sAppD (.tmp 59) (.tmp 65) (by rfl) rfl wr.heap.size v11 (k + 1) (E0.take k ++ [(s, t)]) (by rfl) o11 (if c2 = k then some ⟨g, o, none⟩ else some ⟨g, o + k * 2, none⟩) (E0.length - k) (c2 - k) (E0.drop k) (by rfl) (fun h => absurd h ite_some) (HU.out _ hHeld) (by have := HS.out.2; omega) hHeld.size ?_
                      intro v18 W18 o18 g18
                      obtain ⟨a18, c18, rfl⟩ := ownS_shape o18
                      refine hK.out _ _ (Or.inr ?_) (fun hHeld => ?_)
                      · exact hHeld.grown g18 hHeld.size (fun j hj => ownS_base o11 j hj)
                      replace hHeld := hHeld.resolve_left (by decide)
                      clear hK K
                      try simp only [Act.put, List.setIfInBounds_toArray, List.set_cons_zero, List.set_cons_succ]
                      refine takeN_lit (i := 19) (v := ?_) (F := #[true, true, true, true, true, true, true, true, true, true, true, true, true, true, true, true, true, true, true, false, false, false]) rfl (by kernel_rfl) (by kernel_rfl) (by kernel_rfl) (by kernel_rfl) (fun _ _ _ h => h) (Or.inl ⟨by rfl, ?_⟩) (by assumption) ?_
                      rotate_left
                      · (intro w hSw; (try dsimp only at hSw); go_simp <;> with_reducible rfl)
                      try simp only [Act.put, List.setIfInBounds_toArray, List.set_cons_zero, List.set_cons_succ]
                      refine takeN_lit (i := 20) (v := ?_) (F := #[true, true, true, true, true, true, true, true, true, true, true, true, true, true, true, true, true, true, true, true, false, false]) rfl (by kernel_rfl) (by kernel_rfl) (by kernel_rfl) (by kernel_rfl) (fun _ _ _ h => h) (Or.inl ⟨by rfl, ?_⟩) (by assumption) ?_
                      rotate_left
                      · (intro w hSw; (try dsimp only at hSw); go_simp <;> with_reducible rfl)
                      try simp only [Act.put, List.setIfInBounds_toArray, List.set_cons_zero, List.set_cons_succ]
                      refine wpAnyN_ready (rs := [21]) (by kernel_rfl) (by simp) ?_
                      refine consN_lit rfl (fun K hK => ?_) ?_
                      · skip
                        refine sStL (.tmp 68) (.tmp 66) rfl (by rfl) r a18 _ c18 _ ((hHeld.cell (p := ⟨r, 0, none⟩) hrl).trans c3) (one_free ((hHeld.block r hrl).trans HV.out.que)) (by rfl) (by rfl) ?_
                        refine hK.out _ _ (Or.inl rfl) (fun _ => ?_)
                        clear hK K
                        try simp only [Act.put, List.setIfInBounds_toArray, List.set_cons_zero, List.set_cons_succ]
                        refine wpAnyN_done (by kernel_rfl) ?_ _
                        refine NoPanic.normal ?_
                        obtain ⟨z1, z2⟩ := HV.out.store (D := E0.take k ++ [(s, t)] ++ E0.drop k) hHeld o18 (by simp; omega)
                        have z3 := (HD.out.2.2.trans (Frm.of_below (S := fun j => j = r) bV) (fun _ h => .inl h)).trans z2 (fun _ h => .inl h)
                        go_wp2
                        all_goals
                          go_ret
                          first | exact ⟨_, ⟨rfl, _, _, z1, z3⟩, HI.out, perm_ins E0 (s, t) k⟩ | exact ⟨⟨rfl, _, _, z1, z3⟩, HI.out⟩
                      exact AllReadyN.nil
                    exact AllReadyN.nil
                  exact AllReadyN.nil
                exact AllReadyN.nil
              exact AllReadyN.nil
            refine consN_lit rfl (fun K hK => ?_) ?_
            · skip
              refine sBs1 (.tmp 57) s t (by rfl) rfl (by rfl) ?_
              intro W10 s10 b10 l10
              try replace o8 := ownS_below o8 b10
              try replace o1 := ownS_below o1 b10
              refine hK.out _ _ (Or.inr ?_) (fun hHeld => ?_)
              · exact hHeld.trans (b10.mono hHeld.size)
              replace hHeld := hHeld.resolve_left (by decide)
              clear hK K
              try simp only [Act.put, List.setIfInBounds_toArray, List.set_cons_zero, List.set_cons_succ]
              refine wpAnyN_ready (rs := [1]) (by kernel_rfl) (by simp) ?_
              refine consN_lit rfl (fun K hK => ?_) ?_
              · skip
                refine sBs0 (by rfl) rfl ?_
                intro W1 o1 b1 l1
                replace o1 := own_base o1 hHeld.size
                try replace s10 := s10.kept (cell_some b1)
                try have m10 := Nat.lt_of_lt_of_le l10 b1.size
                refine hK.out _ _ (Or.inr ?_) (fun hHeld => ?_)
                · exact hHeld.trans (b1.mono hHeld.size)
                replace hHeld := hHeld.resolve_left (by decide)
                clear hK K
                try simp only [Act.put, List.setIfInBounds_toArray, List.set_cons_zero, List.set_cons_succ]
                refine wpAnyN_ready (rs := [8]) (by kernel_rfl) (by simp) ?_
                refine consN_lit rfl (fun K hK => ?_) ?_
                · skip
                  refine sAppD (.tmp 49) (.tmp 55) (by rfl) rfl wr.heap.size _ 0 [] (by rfl) o1 (some ⟨g, o, none⟩) k c2 (E0.take k) (by rfl) (fun h => by cases h) (HT.out _ hHeld) (by have := HS.out.2; omega) hHeld.size ?_
                  intro v8 W8 o8 g8
                  rw [Nat.zero_add, List.nil_append] at o8
                  try replace s10 := s10.grown g8 (by intro e; simp only [Value.ownBlock, Option.some.injEq] at e; omega) (by omega)
                  refine hK.out _ _ (Or.inr ?_) (fun hHeld => ?_)
                  · exact hHeld.grown g8 hHeld.size (fun j hj => ownS_base o1 j hj)
                  replace hHeld := hHeld.resolve_left (by decide)
                  clear hK K
                  try simp only [Act.put, List.setIfInBounds_toArray, List.set_cons_zero, List.set_cons_succ]
                  refine wpAnyN_ready (rs := [11]) (by kernel_rfl) (by simp) ?_
                  refine consN_lit rfl (fun K hK => ?_) ?_
                  · skip
                    refine sAppD (.tmp 56) (.tmp 58) (by rfl) rfl wr.heap.size v8 k (E0.take k) (by rfl) o8 (some ⟨_, 0, none⟩) 1 1 [(s, t)] (by rfl) (fun h => by cases h) s10 (by have := HS.out.2; omega) hHeld.size ?_
                    intro v11 W11 o11 g11
                    refine hK.out _ _ (Or.inr ?_) (fun hHeld => ?_)
                    · exact hHeld.grown g11 hHeld.size (fun j hj => ownS_base o8 j hj)
                    replace hHeld := hHeld.resolve_left (by decide)
                    clear hK K
                    try simp only [Act.put, List.setIfInBounds_toArray, List.set_cons_zero, List.set_cons_succ]
                    refine wpAnyN_ready (rs := [18]) (by kernel_rfl) (by simp) ?_
                    refine consN_lit rfl (fun K hK => ?_) ?_
                    · skip
                      refine sAppD (.tmp 59) (.tmp 65) (by rfl) rfl wr.heap.size v11 (k + 1) (E0.take k ++ [(s, t)]) (by rfl) o11 (if c2 = k then some ⟨g, o, none⟩ else some ⟨g, o + k * 2, none⟩) (E0.length - k) (c2 - k) (E0.drop k) (by rfl) (fun h => absurd h ite_some) (HU.out _ hHeld) (by have := HS.out.2; omega) hHeld.size ?_
                      intro v18 W18 o18 g18
                      obtain ⟨a18, c18, rfl⟩ := ownS_shape o18
                      refine hK.out _ _ (Or.inr ?_) (fun hHeld => ?_)
                      · exact hHeld.grown g18 hHeld.size (fun j hj => ownS_base o11 j hj)
                      replace hHeld := hHeld.resolve_left (by decide)
                      clear hK K
                      try simp only [Act.put, List.setIfInBounds_toArray, List.set_cons_zero, List.set_cons_succ]
                      refine takeN_lit (i := 19) (v := ?_) (F := #[true, true, true, true, true, true, true, true, true, true, true, true, true, true, true, true, true, true, true, false, false, false]) rfl (by kernel_rfl) (by kernel_rfl) (by kernel_rfl) (by kernel_rfl) (fun _ _ _ h => h) (Or.inl ⟨by rfl, ?_⟩) (by assumption) ?_
                      rotate_left
                      · (intro w hSw; (try dsimp only at hSw); go_simp <;> with_reducible rfl)
                      try simp only [Act.put, List.setIfInBounds_toArray, List.set_cons_zero, List.set_cons_succ]
                      refine takeN_lit (i := 20) (v := ?_) (F := #[true, true, true, true, true, true, true, true, true, true, true, true, true, true, true, true, true, true, true, true, false, false]) rfl (by kernel_rfl) (by kernel_rfl) (by kernel_rfl) (by kernel_rfl) (fun _ _ _ h => h) (Or.inl ⟨by rfl, ?_⟩) (by assumption) ?_
                      rotate_left
                      · (intro w hSw; (try dsimp only at hSw); go_simp <;> with_reducible rfl)
                      try simp only [Act.put, List.setIfInBounds_toArray, List.set_cons_zero, List.set_cons_succ]
                      refine wpAnyN_ready (rs := [21]) (by kernel_rfl) (by simp) ?_
                      refine consN_lit rfl (fun K hK => ?_) ?_
                      · skip
                        refine sStL (.tmp 68) (.tmp 66) rfl (by rfl) r a18 _ c18 _ ((hHeld.cell (p := ⟨r, 0, none⟩) hrl).trans c3) (one_free ((hHeld.block r hrl).trans HV.out.que)) (by rfl) (by rfl) ?_
                        refine hK.out _ _ (Or.inl rfl) (fun _ => ?_)
                        clear hK K
                        try simp only [Act.put, List.setIfInBounds_toArray, List.set_cons_zero, List.set_cons_succ]
                        refine wpAnyN_done (by kernel_rfl) ?_ _
                        refine NoPanic.normal ?_
                        obtain ⟨z1, z2⟩ := HV.out.store (D := E0.take k ++ [(s, t)] ++ E0.drop k) hHeld o18 (by simp; omega)
                        have z3 := (HD.out.2.2.trans (Frm.of_below (S := fun j => j = r) bV) (fun _ h => .inl h)).trans z2 (fun _ h => .inl h)
                        go_wp2
                        all_goals
                          go_ret
                          first | exact ⟨_, ⟨rfl, _, _, z1, z3⟩, HI.out, perm_ins E0 (s, t) k⟩ | exact ⟨⟨rfl, _, _, z1, z3⟩, HI.out⟩
                      exact AllReadyN.nil
                    exact AllReadyN.nil
                  exact AllReadyN.nil
                exact AllReadyN.nil
              exact AllReadyN.nil
            exact AllReadyN.nil
        · have hk0' : (0 : Int) < (k : Int) := by omega
          have hkn : 0 < k := by omega
          obtain ⟨g, o, rfl, y0, y1⟩ := rV.row.dues (k - 1) (by omega)
          have haB : ahB (s, t) (E0[k - 1]'(by omega)) = false := by
            cases hq : ahB (s, t) (E0[k - 1]'(by omega)) with
            | false => rfl
            | true => exact absurd ((ahB_iff _ _).1 hq) (HG.out (by omega) (by omega))
          obtain ⟨x, hx⟩ : ∃ x, E0[k - 1]'(by omega) = x := ⟨_, rfl⟩
          rw [hx] at y0 y1 haB
          have hw : wrap64 ((k : Int) - 1) = (k : Int) - 1 := by have := HS.out.2; unfold wrap64; omega
          have hw2 : IntKind.i64.wrap ((k : Int) - 1) = (k : Int) - 1 := (IntWalk.i64_left _).trans hw
          have hn1 : ((k : Int) - 1).toNat = k - 1 := by omega
          have x1 : (0 : Int) ≤ (k : Int) - 1 := by omega
          have x2 : (k : Int) - 1 < (E0.length : Int) := by omega
          have x3 : (1 : Int) ≤ (k : Int) := by omega
          have bD : Below wr.heap.size wr wr.drew := (Below.refl _ _).drew
          clear hgo HK HG hx
          go_wp2
          refine wp_region_noPanic ?_
          refine wp_region_held_drew (S := fun V => Below wr.heap.size wr V) (by kernel_rfl) (bD) (fun hHeld => ?_)
          refine take_lit (i := 0) (v := ?_) rfl (by kernel_rfl) (by kernel_rfl) (by kernel_rfl) (fun _ _ _ h => h) (Or.inl ⟨by rfl, ?_⟩) (by assumption) ?_
          rotate_left
          · (intro w hSw; (try dsimp only at hSw); go_simp <;> with_reducible rfl)
          try simp only [Act.put, List.setIfInBounds_toArray, List.set_cons_zero, List.set_cons_succ]
          refine take_lit (i := 1) (v := ?_) rfl (by kernel_rfl) (by kernel_rfl) (by kernel_rfl) (fun _ _ _ h => h) (Or.inl ⟨by rfl, ?_⟩) (by assumption) ?_
          rotate_left
          · (intro w hSw; (try dsimp only at hSw); go_simp <;> with_reducible rfl)
          try simp only [Act.put, List.setIfInBounds_toArray, List.set_cons_zero, List.set_cons_succ]
          refine take_lit (i := 2) (v := ?_) rfl (by kernel_rfl) (by kernel_rfl) (by kernel_rfl) (fun _ _ _ h => h) (Or.inl ⟨by rfl, ?_⟩) (by assumption) ?_
          rotate_left
          · (intro w hSw; (try dsimp only at hSw); go_simp <;> with_reducible rfl)
          try simp only [Act.put, List.setIfInBounds_toArray, List.set_cons_zero, List.set_cons_succ]
          refine take_lit (i := 3) (v := ?_) rfl (by kernel_rfl) (by kernel_rfl) (by kernel_rfl) (fun _ _ _ h => h) (Or.inl ⟨by rfl, ?_⟩) (by assumption) ?_
          rotate_left
          · (intro w hSw; (try dsimp only at hSw); have q0 := (hSw.cell (p := ⟨dB, 0, none⟩) hdl).trans z0; have q1 := (hSw.cell (p := ⟨dB, 1, none⟩) hdl).trans z1; go_simp <;> with_reducible rfl)
          try simp only [Act.put, List.setIfInBounds_toArray, List.set_cons_zero, List.set_cons_succ]
          refine take_lit (i := 4) (v := ?_) rfl (by kernel_rfl) (by kernel_rfl) (by kernel_rfl) (fun _ _ _ h => h) (Or.inl ⟨by rfl, ?_⟩) (by assumption) ?_
          rotate_left
          · (intro w hSw; (try dsimp only at hSw); go_simp <;> with_reducible rfl)
          try simp only [Act.put, List.setIfInBounds_toArray, List.set_cons_zero, List.set_cons_succ]
          refine take_lit (i := 5) (v := ?_) rfl (by kernel_rfl) (by kernel_rfl) (by kernel_rfl) (fun _ _ _ h => h) (Or.inl ⟨by rfl, ?_⟩) (by assumption) ?_
          rotate_left
          · (intro w hSw; (try dsimp only at hSw); go_simp <;> with_reducible rfl)
          try simp only [Act.put, List.setIfInBounds_toArray, List.set_cons_zero, List.set_cons_succ]
          refine take_lit (i := 6) (v := ?_) rfl (by kernel_rfl) (by kernel_rfl) (by kernel_rfl) (fun _ _ _ h => h) (Or.inl ⟨by rfl, ?_⟩) (by assumption) ?_
          rotate_left
          · (intro w hSw; (try dsimp only at hSw); go_simp <;> with_reducible rfl)
          try simp only [Act.put, List.setIfInBounds_toArray, List.set_cons_zero, List.set_cons_succ]
          refine take_lit (i := 7) (v := ?_) rfl (by kernel_rfl) (by kernel_rfl) (by kernel_rfl) (fun _ _ _ h => h) (Or.inl ⟨by rfl, ?_⟩) (by assumption) ?_
          rotate_left
          · (intro w hSw; (try dsimp only at hSw); have q0 := (hSw.cell (p := ⟨r, 0, none⟩) hrl).trans c3; go_simp <;> with_reducible rfl)
          try simp only [Act.put, List.setIfInBounds_toArray, List.set_cons_zero, List.set_cons_succ]
          refine take_lit (i := 8) (v := ?_) rfl (by kernel_rfl) (by kernel_rfl) (by kernel_rfl) (fun _ _ _ h => h) (Or.inl ⟨by rfl, ?_⟩) (by assumption) ?_
          rotate_left
          · (intro w hSw; (try dsimp only at hSw); go_simp <;> with_reducible rfl)
          try simp only [Act.put, List.setIfInBounds_toArray, List.set_cons_zero, List.set_cons_succ]
          refine take_lit (i := 9) (v := ?_) rfl (by kernel_rfl) (by kernel_rfl) (by kernel_rfl) (fun _ _ _ h => h) (Or.inl ⟨by rfl, ?_⟩) (by assumption) ?_
          rotate_left
          · (intro w hSw; (try dsimp only at hSw); go_simp <;> with_reducible rfl)
          try simp only [Act.put, List.setIfInBounds_toArray, List.set_cons_zero, List.set_cons_succ]
          refine take_lit (i := 10) (v := ?_) rfl (by kernel_rfl) (by kernel_rfl) (by kernel_rfl) (fun _ _ _ h => h) (Or.inl ⟨by rfl, ?_⟩) (by assumption) ?_
          rotate_left
          · (intro w hSw; (try dsimp only at hSw); go_simp <;> with_reducible rfl)
          try simp only [Act.put, List.setIfInBounds_toArray, List.set_cons_zero, List.set_cons_succ]
          refine take_lit (i := 11) (v := ?_) rfl (by kernel_rfl) (by kernel_rfl) (by kernel_rfl) (fun _ _ _ h => h) (Or.inl ⟨by rfl, ?_⟩) (by assumption) ?_
          rotate_left
          · (intro w hSw; (try dsimp only at hSw); have q0 := (hSw.cell (p := ⟨g, o + (k - 1) * 2, none⟩) (World.block_lt_of_cell? _ _ y0)).trans y0; have q1 := (hSw.cell (p := ⟨g, o + (k - 1) * 2 + 1, none⟩) (World.block_lt_of_cell? _ _ y1)).trans y1; go_simp <;> with_reducible rfl)
          try simp only [Act.put, List.setIfInBounds_toArray, List.set_cons_zero, List.set_cons_succ]
          refine wpAnyH_ready (rs := [12]) (by kernel_rfl) (by simp) ?_
          refine cons_lit rfl (fun K hK => ?_) ?_
          · go_simp
            refine (ahead_any (s, t) x _).mono ?_
            rintro e w4 ⟨rfl, b4⟩
            rw [haB]
            refine hK.out _ _ ?_ (fun hHeld => ?_)
            · exact hHeld.trans (b4.mono hHeld.size)
            clear hK K
            try simp only [Act.put, List.setIfInBounds_toArray, List.set_cons_zero, List.set_cons_succ]
            refine take_lit (i := 13) (v := ?_) rfl (by kernel_rfl) (by kernel_rfl) (by kernel_rfl) (fun _ _ _ h => h) (Or.inl ⟨by rfl, ?_⟩) (by assumption) ?_
            rotate_left
            · (intro w hSw; (try dsimp only at hSw); go_simp <;> with_reducible rfl)
            try simp only [Act.put, List.setIfInBounds_toArray, List.set_cons_zero, List.set_cons_succ]
            refine wpAnyH_done (by kernel_rfl) ?_ _
            refine NoPanic.normal ?_
            have HV : Hid (Rq wr r (some ⟨g, o, none⟩) c2 E0) := rV
            have HT : Hid (∀ V, Below wr.heap.size wr V → SrcD V (some ⟨g, o, none⟩) k (E0.take k)) := fun V hV => by
              have := rV.row.src rfl 0 k
              rw [List.drop_zero, List.length_take, Nat.min_eq_left hk, Nat.zero_mul, Nat.add_zero] at this
              exact this.kept (cell_some hV)
            have HU : Hid (∀ V, Below wr.heap.size wr V → SrcD V (if c2 = k then some ⟨g, o, none⟩ else some ⟨g, o + k * 2, none⟩) (E0.length - k) (E0.drop k)) := fun V hV => src_from rV.row hV k
            have hcap := rV.row.1
            have x4 : (0 : Int) ≤ (k : Int) := by omega
            have x5 : (k : Int) ≤ (c2 : Int) := by omega
            have x6 : (k : Int) ≤ (E0.length : Int) := by omega
            have x7 : (E0.length : Int) ≤ (c2 : Int) := by omega
            have x8 : k ≤ c2 := by omega
            clear rV dV
            go_wp2
            refine wp_region_noPanic ?_
            refine wp_region_N (S := fun V => Below wr.heap.size wr V) 21 (by kernel_rfl) (hHeld.drew) (fun hHeld => ?_)
            refine takeN_lit (i := 0) (v := ?_) (F := #[false, true, true, true, true, true, true, true, true, true, true, true, true, true, true, true, true, true, true, false, false, false]) rfl (by kernel_rfl) (by kernel_rfl) (by kernel_rfl) (by kernel_rfl) (fun _ _ _ h => h) (Or.inl ⟨by rfl, ?_⟩) (by assumption) ?_
            rotate_left
            · (intro w hSw; (try dsimp only at hSw); go_simp <;> with_reducible rfl)
            try simp only [Act.put, List.setIfInBounds_toArray, List.set_cons_zero, List.set_cons_succ]
            refine takeN_lit (i := 2) (v := ?_) (F := #[true, true, false, false, false, false, true, false, false, true, true, false, true, true, true, true, true, true, false, false, false, false]) rfl (by kernel_rfl) (by kernel_rfl) (by kernel_rfl) (by kernel_rfl) (fun _ _ _ h => h) (Or.inl ⟨by rfl, ?_⟩) (by assumption) ?_
            rotate_left
            · (intro w hSw; (try dsimp only at hSw); go_simp <;> with_reducible rfl)
            try simp only [Act.put, List.setIfInBounds_toArray, List.set_cons_zero, List.set_cons_succ]
            refine takeN_lit (i := 3) (v := ?_) (F := #[true, true, true, false, false, false, true, false, false, true, true, false, true, true, true, true, true, true, false, false, false, false]) rfl (by kernel_rfl) (by kernel_rfl) (by kernel_rfl) (by kernel_rfl) (fun _ _ _ h => h) (Or.inl ⟨by rfl, ?_⟩) (by assumption) ?_
            rotate_left
            · (intro w hSw; (try dsimp only at hSw); go_simp <;> with_reducible rfl)
            try simp only [Act.put, List.setIfInBounds_toArray, List.set_cons_zero, List.set_cons_succ]
            refine takeN_lit (i := 4) (v := ?_) (F := #[true, true, true, true, false, false, true, false, false, true, true, false, true, true, true, true, true, true, false, false, false, false]) rfl (by kernel_rfl) (by kernel_rfl) (by kernel_rfl) (by kernel_rfl) (fun _ _ _ h => h) (Or.inl ⟨by rfl, ?_⟩) (by assumption) ?_
            rotate_left
            · (intro w hSw; (try dsimp only at hSw); go_simp <;> with_reducible rfl)
            try simp only [Act.put, List.setIfInBounds_toArray, List.set_cons_zero, List.set_cons_succ]
            refine takeN_lit (i := 5) (v := ?_) (F := #[true, true, true, true, true, false, true, false, false, true, true, false, true, true, true, true, true, true, false, false, false, false]) rfl (by kernel_rfl) (by kernel_rfl) (by kernel_rfl) (by kernel_rfl) (fun _ _ _ h => h) (Or.inl ⟨by rfl, ?_⟩) (by assumption) ?_
            rotate_left
            · (intro w hSw; (try dsimp only at hSw); have q0 := (hSw.cell (p := ⟨r, 0, none⟩) hrl).trans c3; go_simp <;> with_reducible rfl)
            try simp only [Act.put, List.setIfInBounds_toArray, List.set_cons_zero, List.set_cons_succ]
            refine takeN_lit (i := 6) (v := ?_) (F := #[true, true, true, true, true, true, false, false, false, true, true, false, true, true, true, true, true, true, false, false, false, false]) rfl (by kernel_rfl) (by kernel_rfl) (by kernel_rfl) (by kernel_rfl) (fun _ _ _ h => h) (Or.inl ⟨by rfl, ?_⟩) (by assumption) ?_
            rotate_left
            · (intro w hSw; (try dsimp only at hSw); go_simp <;> with_reducible rfl)
            try simp only [Act.put, List.setIfInBounds_toArray, List.set_cons_zero, List.set_cons_succ]
            refine takeN_lit (i := 7) (v := ?_) (F := #[true, true, true, true, true, true, true, false, false, true, true, false, true, true, true, true, true, true, false, false, false, false]) rfl (by kernel_rfl) (by kernel_rfl) (by kernel_rfl) (by kernel_rfl) (fun _ _ _ h => h) (Or.inl ⟨by rfl, ?_⟩) (by assumption) ?_
            rotate_left
            · (intro w hSw; (try dsimp only at hSw); go_simp <;> with_reducible rfl)
            try simp only [Act.put, List.setIfInBounds_toArray, List.set_cons_zero, List.set_cons_succ]
            refine takeN_lit (i := 9) (v := ?_) (F := #[true, true, true, true, true, true, true, true, true, false, false, false, true, true, true, true, true, true, false, false, false, false]) rfl (by kernel_rfl) (by kernel_rfl) (by kernel_rfl) (by kernel_rfl) (fun _ _ _ h => h) (Or.inl ⟨by rfl, ?_⟩) (by assumption) ?_
            rotate_left
            · (intro w hSw; (try dsimp only at hSw); have q0 := (hSw.cell (p := ⟨dB, 0, none⟩) hdl).trans z0; have q1 := (hSw.cell (p := ⟨dB, 1, none⟩) hdl).trans z1; go_simp <;> with_reducible rfl)
            try simp only [Act.put, List.setIfInBounds_toArray, List.set_cons_zero, List.set_cons_succ]
            refine takeN_lit (i := 12) (v := ?_) (F := #[true, true, true, true, true, true, true, true, true, true, true, true, false, false, false, false, true, false, false, false, false, false]) rfl (by kernel_rfl) (by kernel_rfl) (by kernel_rfl) (by kernel_rfl) (fun _ _ _ h => h) (Or.inl ⟨by rfl, ?_⟩) (by assumption) ?_
            rotate_left
            · (intro w hSw; (try dsimp only at hSw); go_simp <;> with_reducible rfl)
            try simp only [Act.put, List.setIfInBounds_toArray, List.set_cons_zero, List.set_cons_succ]
            refine takeN_lit (i := 13) (v := ?_) (F := #[true, true, true, true, true, true, true, true, true, true, true, true, true, false, false, false, true, false, false, false, false, false]) rfl (by kernel_rfl) (by kernel_rfl) (by kernel_rfl) (by kernel_rfl) (fun _ _ _ h => h) (Or.inl ⟨by rfl, ?_⟩) (by assumption) ?_
            rotate_left
            · (intro w hSw; (try dsimp only at hSw); go_simp <;> with_reducible rfl)
            try simp only [Act.put, List.setIfInBounds_toArray, List.set_cons_zero, List.set_cons_succ]
            refine takeN_lit (i := 14) (v := ?_) (F := #[true, true, true, true, true, true, true, true, true, true, true, true, true, true, false, false, true, false, false, false, false, false]) rfl (by kernel_rfl) (by kernel_rfl) (by kernel_rfl) (by kernel_rfl) (fun _ _ _ h => h) (Or.inl ⟨by rfl, ?_⟩) (by assumption) ?_
            rotate_left
            · (intro w hSw; (try dsimp only at hSw); go_simp <;> with_reducible rfl)
            try simp only [Act.put, List.setIfInBounds_toArray, List.set_cons_zero, List.set_cons_succ]
            refine takeN_lit (i := 15) (v := ?_) (F := #[true, true, true, true, true, true, true, true, true, true, true, true, true, true, true, false, true, false, false, false, false, false]) rfl (by kernel_rfl) (by kernel_rfl) (by kernel_rfl) (by kernel_rfl) (fun _ _ _ h => h) (Or.inl ⟨by rfl, ?_⟩) (by assumption) ?_
            rotate_left
            · (intro w hSw; (try dsimp only at hSw); have q0 := (hSw.cell (p := ⟨r, 0, none⟩) hrl).trans c3; go_simp <;> with_reducible rfl)
            try simp only [Act.put, List.setIfInBounds_toArray, List.set_cons_zero, List.set_cons_succ]
            refine takeN_lit (i := 16) (v := ?_) (F := #[true, true, true, true, true, true, true, true, true, true, true, true, true, true, true, true, false, false, false, false, false, false]) rfl (by kernel_rfl) (by kernel_rfl) (by kernel_rfl) (by kernel_rfl) (fun _ _ _ h => h) (Or.inl ⟨by rfl, ?_⟩) (by assumption) ?_
            rotate_left
            · (intro w hSw; (try dsimp only at hSw); go_simp <;> with_reducible rfl)
            try simp only [Act.put, List.setIfInBounds_toArray, List.set_cons_zero, List.set_cons_succ]
            refine takeN_lit (i := 17) (v := ?_) (F := #[true, true, true, true, true, true, true, true, true, true, true, true, true, true, true, true, true, false, false, false, false, false]) rfl (by kernel_rfl) (by kernel_rfl) (by kernel_rfl) (by kernel_rfl) (fun _ _ _ h => h) (Or.inl ⟨by rfl, ?_⟩) (by assumption) ?_
            rotate_left
            · (intro w hSw; (try dsimp only at hSw); go_simp <;> with_reducible rfl)
            try simp only [Act.put, List.setIfInBounds_toArray, List.set_cons_zero, List.set_cons_succ]
            refine wpAnyN_ready (rs := [1, 10]) (by kernel_rfl) (by simp) ?_
            refine consN_lit rfl (fun K hK => ?_) ?_
            · skip
              refine sBs0 (by rfl) rfl ?_
              intro W1 o1 b1 l1
              replace o1 := own_base o1 hHeld.size
              try replace s10 := s10.kept (cell_some b1)
              try have m10 := Nat.lt_of_lt_of_le l10 b1.size
              refine hK.out _ _ (Or.inr ?_) (fun hHeld => ?_)
              · exact hHeld.trans (b1.mono hHeld.size)
              replace hHeld := hHeld.resolve_left (by decide)
              clear hK K
              try simp only [Act.put, List.setIfInBounds_toArray, List.set_cons_zero, List.set_cons_succ]
              refine wpAnyN_ready (rs := [8, 10]) (by kernel_rfl) (by simp) ?_
              refine consN_lit rfl (fun K hK => ?_) ?_
              · skip
                refine sAppD (.tmp 49) (.tmp 55) (by rfl) rfl wr.heap.size _ 0 [] (by rfl) o1 (some ⟨g, o, none⟩) k c2 (E0.take k) (by rfl) (fun h => by cases h) (HT.out _ hHeld) (by have := HS.out.2; omega) hHeld.size ?_
                intro v8 W8 o8 g8
                rw [Nat.zero_add, List.nil_append] at o8
                try replace s10 := s10.grown g8 (by intro e; simp only [Value.ownBlock, Option.some.injEq] at e; omega) (by omega)
                refine hK.out _ _ (Or.inr ?_) (fun hHeld => ?_)
                · exact hHeld.grown g8 hHeld.size (fun j hj => ownS_base o1 j hj)
                replace hHeld := hHeld.resolve_left (by decide)
                clear hK K
                try simp only [Act.put, List.setIfInBounds_toArray, List.set_cons_zero, List.set_cons_succ]
                refine wpAnyN_ready (rs := [10]) (by kernel_rfl) (by simp) ?_
                refine consN_lit rfl (fun K hK => ?_) ?_
                · skip
                  refine sBs1 (.tmp 57) s t (by rfl) rfl (by rfl) ?_
                  intro W10 s10 b10 l10
                  try replace o8 := ownS_below o8 b10
                  try replace o1 := ownS_below o1 b10
                  refine hK.out _ _ (Or.inr ?_) (fun hHeld => ?_)
                  · exact hHeld.trans (b10.mono hHeld.size)
                  replace hHeld := hHeld.resolve_left (by decide)
                  clear hK K
                  try simp only [Act.put, List.setIfInBounds_toArray, List.set_cons_zero, List.set_cons_succ]
                  refine wpAnyN_ready (rs := [11]) (by kernel_rfl) (by simp) ?_
                  refine consN_lit rfl (fun K hK => ?_) ?_
                  · skip
                    refine sAppD (.tmp 56) (.tmp 58) (by rfl) rfl wr.heap.size v8 k (E0.take k) (by rfl) o8 (some ⟨_, 0, none⟩) 1 1 [(s, t)] (by rfl) (fun h => by cases h) s10 (by have := HS.out.2; omega) hHeld.size ?_
                    intro v11 W11 o11 g11
                    refine hK.out _ _ (Or.inr ?_) (fun hHeld => ?_)
                    · exact hHeld.grown g11 hHeld.size (fun j hj => ownS_base o8 j hj)
                    replace hHeld := hHeld.resolve_left (by decide)
                    clear hK K
                    try simp only [Act.put, List.setIfInBounds_toArray, List.set_cons_zero, List.set_cons_succ]
                    refine wpAnyN_ready (rs := [18]) (by kernel_rfl) (by simp) ?_
                    refine consN_lit rfl (fun K hK => ?_) ?_
                    · skip
                      refine sAppD (.tmp 59) (.tmp 65) (by rfl) rfl wr.heap.size v11 (k + 1) (E0.take k ++ [(s, t)]) (by rfl) o11 (if c2 = k then some ⟨g, o, none⟩ else some ⟨g, o + k * 2, none⟩) (E0.length - k) (c2 - k) (E0.drop k) (by rfl) (fun h => absurd h ite_some) (HU.out _ hHeld) (by have := HS.out.2; omega) hHeld.size ?_
                      intro v18 W18 o18 g18
                      obtain ⟨a18, c18, rfl⟩ := ownS_shape o18
                      refine hK.out _ _ (Or.inr ?_) (fun hHeld => ?_)
                      · exact hHeld.grown g18 hHeld.size (fun j hj => ownS_base o11 j hj)
                      replace hHeld := hHeld.resolve_left (by decide)
                      clear hK K
                      try simp only [Act.put, List.setIfInBounds_toArray, List.set_cons_zero, List.set_cons_succ]
                      refine takeN_lit (i := 19) (v := ?_) (F := #[true, true, true, true, true, true, true, true, true, true, true, true, true, true, true, true, true, true, true, false, false, false]) rfl (by kernel_rfl) (by kernel_rfl) (by kernel_rfl) (by kernel_rfl) (fun _ _ _ h => h) (Or.inl ⟨by rfl, ?_⟩) (by assumption) ?_
                      rotate_left
                      · (intro w hSw; (try dsimp only at hSw); go_simp <;> with_reducible rfl)
                      try simp only [Act.put, List.setIfInBounds_toArray, List.set_cons_zero, List.set_cons_succ]
                      refine takeN_lit (i := 20) (v := ?_) (F := #[true, true, true, true, true, true, true, true, true, true, true, true, true, true, true, true, true, true, true, true, false, false]) rfl (by kernel_rfl) (by kernel_rfl) (by kernel_rfl) (by kernel_rfl) (fun _ _ _ h => h) (Or.inl ⟨by rfl, ?_⟩) (by assumption) ?_
                      rotate_left
                      · (intro w hSw; (try dsimp only at hSw); go_simp <;> with_reducible rfl)
                      try simp only [Act.put, List.setIfInBounds_toArray, List.set_cons_zero, List.set_cons_succ]
                      refine wpAnyN_ready (rs := [21]) (by kernel_rfl) (by simp) ?_
                      refine consN_lit rfl (fun K hK => ?_) ?_
                      · skip
                        refine sStL (.tmp 68) (.tmp 66) rfl (by rfl) r a18 _ c18 _ ((hHeld.cell (p := ⟨r, 0, none⟩) hrl).trans c3) (one_free ((hHeld.block r hrl).trans HV.out.que)) (by rfl) (by rfl) ?_
                        refine hK.out _ _ (Or.inl rfl) (fun _ => ?_)
                        clear hK K
                        try simp only [Act.put, List.setIfInBounds_toArray, List.set_cons_zero, List.set_cons_succ]
                        refine wpAnyN_done (by kernel_rfl) ?_ _
                        refine NoPanic.normal ?_
                        obtain ⟨z1, z2⟩ := HV.out.store (D := E0.take k ++ [(s, t)] ++ E0.drop k) hHeld o18 (by simp; omega)
                        have z3 := (HD.out.2.2.trans (Frm.of_below (S := fun j => j = r) bV) (fun _ h => .inl h)).trans z2 (fun _ h => .inl h)
                        go_wp2
                        all_goals
                          go_ret
                          first | exact ⟨_, ⟨rfl, _, _, z1, z3⟩, HI.out, perm_ins E0 (s, t) k⟩ | exact ⟨⟨rfl, _, _, z1, z3⟩, HI.out⟩
                      exact AllReadyN.nil
                    exact AllReadyN.nil
                  exact AllReadyN.nil
                exact AllReadyN.nil
              refine consN_lit rfl (fun K hK => ?_) ?_
              · skip
                refine sBs1 (.tmp 57) s t (by rfl) rfl (by rfl) ?_
                intro W10 s10 b10 l10
                try replace o8 := ownS_below o8 b10
                try replace o1 := ownS_below o1 b10
                refine hK.out _ _ (Or.inr ?_) (fun hHeld => ?_)
                · exact hHeld.trans (b10.mono hHeld.size)
                replace hHeld := hHeld.resolve_left (by decide)
                clear hK K
                try simp only [Act.put, List.setIfInBounds_toArray, List.set_cons_zero, List.set_cons_succ]
                refine wpAnyN_ready (rs := [8]) (by kernel_rfl) (by simp) ?_
                refine consN_lit rfl (fun K hK => ?_) ?_
                · skip
                  refine sAppD (.tmp 49) (.tmp 55) (by rfl) rfl wr.heap.size _ 0 [] (by rfl) o1 (some ⟨g, o, none⟩) k c2 (E0.take k) (by rfl) (fun h => by cases h) (HT.out _ hHeld) (by have := HS.out.2; omega) hHeld.size ?_
                  intro v8 W8 o8 g8
                  rw [Nat.zero_add, List.nil_append] at o8
                  try replace s10 := s10.grown g8 (by intro e; simp only [Value.ownBlock, Option.some.injEq] at e; omega) (by omega)
                  refine hK.out _ _ (Or.inr ?_) (fun hHeld => ?_)
                  · exact hHeld.grown g8 hHeld.size (fun j hj => ownS_base o1 j hj)
                  replace hHeld := hHeld.resolve_left (by decide)
                  clear hK K
                  try simp only [Act.put, List.setIfInBounds_toArray, List.set_cons_zero, List.set_cons_succ]
                  refine wpAnyN_ready (rs := [11]) (by kernel_rfl) (by simp) ?_
                  refine consN_lit rfl (fun K hK => ?_) ?_
                  · skip
                    refine sAppD (.tmp 56) (.tmp 58) (by rfl) rfl wr.heap.size v8 k (E0.take k) (by rfl) o8 (some ⟨_, 0, none⟩) 1 1 [(s, t)] (by rfl) (fun h => by cases h) s10 (by have := HS.out.2; omega) hHeld.size ?_
                    intro v11 W11 o11 g11
                    refine hK.out _ _ (Or.inr ?_) (fun hHeld => ?_)
                    · exact hHeld.grown g11 hHeld.size (fun j hj => ownS_base o8 j hj)
                    replace hHeld := hHeld.resolve_left (by decide)
                    clear hK K
                    try simp only [Act.put, List.setIfInBounds_toArray, List.set_cons_zero, List.set_cons_succ]
                    refine wpAnyN_ready (rs := [18]) (by kernel_rfl) (by simp) ?_
                    refine consN_lit rfl (fun K hK => ?_) ?_
                    · skip
                      refine sAppD (.tmp 59) (.tmp 65) (by rfl) rfl wr.heap.size v11 (k + 1) (E0.take k ++ [(s, t)]) (by rfl) o11 (if c2 = k then some ⟨g, o, none⟩ else some ⟨g, o + k * 2, none⟩) (E0.length - k) (c2 - k) (E0.drop k) (by rfl) (fun h => absurd h ite_some) (HU.out _ hHeld) (by have := HS.out.2; omega) hHeld.size ?_
                      intro v18 W18 o18 g18
                      obtain ⟨a18, c18, rfl⟩ := ownS_shape o18
                      refine hK.out _ _ (Or.inr ?_) (fun hHeld => ?_)
                      · exact hHeld.grown g18 hHeld.size (fun j hj => ownS_base o11 j hj)
                      replace hHeld := hHeld.resolve_left (by decide)
                      clear hK K
                      try simp only [Act.put, List.setIfInBounds_toArray, List.set_cons_zero, List.set_cons_succ]
                      refine takeN_lit (i := 19) (v := ?_) (F := #[true, true, true, true, true, true, true, true, true, true, true, true, true, true, true, true, true, true, true, false, false, false]) rfl (by kernel_rfl) (by kernel_rfl) (by kernel_rfl) (by kernel_rfl) (fun _ _ _ h => h) (Or.inl ⟨by rfl, ?_⟩) (by assumption) ?_
                      rotate_left
                      · (intro w hSw; (try dsimp only at hSw); go_simp <;> with_reducible rfl)
                      try simp only [Act.put, List.setIfInBounds_toArray, List.set_cons_zero, List.set_cons_succ]
                      refine takeN_lit (i := 20) (v := ?_) (F := #[true, true, true, true, true, true, true, true, true, true, true, true, true, true, true, true, true, true, true, true, false, false]) rfl (by kernel_rfl) (by kernel_rfl) (by kernel_rfl) (by kernel_rfl) (fun _ _ _ h => h) (Or.inl ⟨by rfl, ?_⟩) (by assumption) ?_
                      rotate_left
                      · (intro w hSw; (try dsimp only at hSw); go_simp <;> with_reducible rfl)
                      try simp only [Act.put, List.setIfInBounds_toArray, List.set_cons_zero, List.set_cons_succ]
                      refine wpAnyN_ready (rs := [21]) (by kernel_rfl) (by simp) ?_
                      refine consN_lit rfl (fun K hK => ?_) ?_
                      · skip
                        refine sStL (.tmp 68) (.tmp 66) rfl (by rfl) r a18 _ c18 _ ((hHeld.cell (p := ⟨r, 0, none⟩) hrl).trans c3) (one_free ((hHeld.block r hrl).trans HV.out.que)) (by rfl) (by rfl) ?_
                        refine hK.out _ _ (Or.inl rfl) (fun _ => ?_)
                        clear hK K
                        try simp only [Act.put, List.setIfInBounds_toArray, List.set_cons_zero, List.set_cons_succ]
                        refine wpAnyN_done (by kernel_rfl) ?_ _
                        refine NoPanic.normal ?_
                        obtain ⟨z1, z2⟩ := HV.out.store (D := E0.take k ++ [(s, t)] ++ E0.drop k) hHeld o18 (by simp; omega)
                        have z3 := (HD.out.2.2.trans (Frm.of_below (S := fun j => j = r) bV) (fun _ h => .inl h)).trans z2 (fun _ h => .inl h)
                        go_wp2
                        all_goals
                          go_ret
                          first | exact ⟨_, ⟨rfl, _, _, z1, z3⟩, HI.out, perm_ins E0 (s, t) k⟩ | exact ⟨⟨rfl, _, _, z1, z3⟩, HI.out⟩
                      exact AllReadyN.nil
                    exact AllReadyN.nil
                  exact AllReadyN.nil
                exact AllReadyN.nil
              exact AllReadyN.nil
            refine consN_lit rfl (fun K hK => ?_) ?_
            · skip
              refine sBs1 (.tmp 57) s t (by rfl) rfl (by rfl) ?_
              intro W10 s10 b10 l10
              try replace o8 := ownS_below o8 b10
              try replace o1 := ownS_below o1 b10
              refine hK.out _ _ (Or.inr ?_) (fun hHeld => ?_)
              · exact hHeld.trans (b10.mono hHeld.size)
              replace hHeld := hHeld.resolve_left (by decide)
              clear hK K
              try simp only [Act.put, List.setIfInBounds_toArray, List.set_cons_zero, List.set_cons_succ]
              refine wpAnyN_ready (rs := [1]) (by kernel_rfl) (by simp) ?_
              refine consN_lit rfl (fun K hK => ?_) ?_
              · skip
                refine sBs0 (by rfl) rfl ?_
                intro W1 o1 b1 l1
                replace o1 := own_base o1 hHeld.size
                try replace s10 := s10.kept (cell_some b1)
                try have m10 := Nat.lt_of_lt_of_le l10 b1.size
                refine hK.out _ _ (Or.inr ?_) (fun hHeld => ?_)
                · exact hHeld.trans (b1.mono hHeld.size)
                replace hHeld := hHeld.resolve_left (by decide)
                clear hK K
                try simp only [Act.put, List.setIfInBounds_toArray, List.set_cons_zero, List.set_cons_succ]
                refine wpAnyN_ready (rs := [8]) (by kernel_rfl) (by simp) ?_
                refine consN_lit rfl (fun K hK => ?_) ?_
                · skip
                  refine sAppD (.tmp 49) (.tmp 55) (by rfl) rfl wr.heap.size _ 0 [] (by rfl) o1 (some ⟨g, o, none⟩) k c2 (E0.take k) (by rfl) (fun h => by cases h) (HT.out _ hHeld) (by have := HS.out.2; omega) hHeld.size ?_
                  intro v8 W8 o8 g8
                  rw [Nat.zero_add, List.nil_append] at o8
                  try replace s10 := s10.grown g8 (by intro e; simp only [Value.ownBlock, Option.some.injEq] at e; omega) (by omega)
                  refine hK.out _ _ (Or.inr ?_) (fun hHeld => ?_)
                  · exact hHeld.grown g8 hHeld.size (fun j hj => ownS_base o1 j hj)
                  replace hHeld := hHeld.resolve_left (by decide)
                  clear hK K
                  try simp only [Act.put, List.setIfInBounds_toArray, List.set_cons_zero, List.set_cons_succ]
                  refine wpAnyN_ready (rs := [11]) (by kernel_rfl) (by simp) ?_
                  refine consN_lit rfl (fun K hK => ?_) ?_
                  · skip
                    refine sAppD (.tmp 56) (.tmp 58) (by rfl) rfl wr.heap.size v8 k (E0.take k) (by rfl) o8 (some ⟨_, 0, none⟩) 1 1 [(s, t)] (by rfl) (fun h => by cases h) s10 (by have := HS.out.2; omega) hHeld.size ?_
                    intro v11 W11 o11 g11
                    refine hK.out _ _ (Or.inr ?_) (fun hHeld => ?_)
                    · exact hHeld.grown g11 hHeld.size (fun j hj => ownS_base o8 j hj)
                    replace hHeld := hHeld.resolve_left (by decide)
                    clear hK K
                    try simp only [Act.put, List.setIfInBounds_toArray, List.set_cons_zero, List.set_cons_succ]
                    refine wpAnyN_ready (rs := [18]) (by kernel_rfl) (by simp) ?_
                    refine consN_lit rfl (fun K hK => ?_) ?_
                    · skip
                      refine sAppD (.tmp 59) (.tmp 65) (by rfl) rfl wr.heap.size v11 (k + 1) (E0.take k ++ [(s, t)]) (by rfl) o11 (if c2 = k then some ⟨g, o, none⟩ else some ⟨g, o + k * 2, none⟩) (E0.length - k) (c2 - k) (E0.drop k) (by rfl) (fun h => absurd h ite_some) (HU.out _ hHeld) (by have := HS.out.2; omega) hHeld.size ?_
                      intro v18 W18 o18 g18
                      obtain ⟨a18, c18, rfl⟩ := ownS_shape o18
                      refine hK.out _ _ (Or.inr ?_) (fun hHeld => ?_)
                      · exact hHeld.grown g18 hHeld.size (fun j hj => ownS_base o11 j hj)
                      replace hHeld := hHeld.resolve_left (by decide)
                      clear hK K
                      try simp only [Act.put, List.setIfInBounds_toArray, List.set_cons_zero, List.set_cons_succ]
                      refine takeN_lit (i := 19) (v := ?_) (F := #[true, true, true, true, true, true, true, true, true, true, true, true, true, true, true, true, true, true, true, false, false, false]) rfl (by kernel_rfl) (by kernel_rfl) (by kernel_rfl) (by kernel_rfl) (fun _ _ _ h => h) (Or.inl ⟨by rfl, ?_⟩) (by assumption) ?_
                      rotate_left
                      · (intro w hSw; (try dsimp only at hSw); go_simp <;> with_reducible rfl)
                      try simp only [Act.put, List.setIfInBounds_toArray, List.set_cons_zero, List.set_cons_succ]
                      refine takeN_lit (i := 20) (v := ?_) (F := #[true, true, true, true, true, true, true, true, true, true, true, true, true, true, true, true, true, true, true, true, false, false]) rfl (by kernel_rfl) (by kernel_rfl) (by kernel_rfl) (by kernel_rfl) (fun _ _ _ h => h) (Or.inl ⟨by rfl, ?_⟩) (by assumption) ?_
                      rotate_left
                      · (intro w hSw; (try dsimp only at hSw); go_simp <;> with_reducible rfl)
                      try simp only [Act.put, List.setIfInBounds_toArray, List.set_cons_zero, List.set_cons_succ]
                      refine wpAnyN_ready (rs := [21]) (by kernel_rfl) (by simp) ?_
                      refine consN_lit rfl (fun K hK => ?_) ?_
                      · skip
                        refine sStL (.tmp 68) (.tmp 66) rfl (by rfl) r a18 _ c18 _ ((hHeld.cell (p := ⟨r, 0, none⟩) hrl).trans c3) (one_free ((hHeld.block r hrl).trans HV.out.que)) (by rfl) (by rfl) ?_
                        refine hK.out _ _ (Or.inl rfl) (fun _ => ?_)
                        clear hK K
                        try simp only [Act.put, List.setIfInBounds_toArray, List.set_cons_zero, List.set_cons_succ]
                        refine wpAnyN_done (by kernel_rfl) ?_ _
                        refine NoPanic.normal ?_
                        obtain ⟨z1, z2⟩ := HV.out.store (D := E0.take k ++ [(s, t)] ++ E0.drop k) hHeld o18 (by simp; omega)
                        have z3 := (HD.out.2.2.trans (Frm.of_below (S := fun j => j = r) bV) (fun _ h => .inl h)).trans z2 (fun _ h => .inl h)
                        go_wp2
                        all_goals
                          go_ret
                          first | exact ⟨_, ⟨rfl, _, _, z1, z3⟩, HI.out, perm_ins E0 (s, t) k⟩ | exact ⟨⟨rfl, _, _, z1, z3⟩, HI.out⟩
                      exact AllReadyN.nil
                    exact AllReadyN.nil
                  exact AllReadyN.nil
                exact AllReadyN.nil
              exact AllReadyN.nil
            exact AllReadyN.nil
          exact AllReadyH.nil
  · go_enter Try.func13, Try.ntmps13
    go_wp2_with (first
      | (go_at_call 14; refine RC.mono ?_; rintro e w2 ⟨rfl, a2, c2, R2, F2⟩; have d0 := (R2.below ((Below.refl w2.heap.size w2).alloc (Nat.le_refl _) (.cells #[.string s, .int .i64 t] 39))); have d1 : (w2.alloc (.cells #[.string s, .int .i64 t] 39)).cell? ⟨r, 0, none⟩ = some (.slice a2 E0.length c2) := one_cell d0.que rfl; clear RC)
      | (go_at_call 23; refine FW.mono ?_; rintro e w1 ⟨rfl, rfl⟩; clear FW))
    have r0 : Row (w2.alloc (.cells #[.string s, .int .i64 t] 39)) w2.heap.size 39 [.string s, .int .i64 t] := Row.new w2 _ _
    have F0 : Frm (fun j => j = r) W (w2.alloc (.cells #[.string s, .int .i64 t] 39)) := F2.alloc _
    obtain ⟨dB, hdB⟩ : ∃ dB, w2.heap.size = dB := ⟨_, rfl⟩
    obtain ⟨Wd, hWd⟩ : ∃ V, w2.alloc (.cells #[.string s, .int .i64 t] 39) = V := ⟨_, rfl⟩
    rw [hWd] at d0 r0 F0 d1
    rw [hdB] at r0
    simp only [hWd, hdB]
    have HD : Hid (Rq Wd r a2 c2 E0 ∧ Row Wd dB 39 [.string s, .int .i64 t] ∧ Frm (fun j => j = r) W Wd) := ⟨d0, r0, F0⟩
    clear d0 r0 F0 F2 R2 hWd hdB d1
    go_loopw [8] (fun u V => ∃ k : Nat, u = .int .i64 k ∧ k ≤ E0.length ∧ Below Wd.heap.size Wd V ∧ Hid (∀ j (hj : j < E0.length), k ≤ j → Ah2 (s, t) E0[j])) (fun u _ => (intOf u).toNat)
    case atStart => exact ⟨E0.length, rfl, Nat.le_refl _, Below.refl _ _, fun j hj hk => by omega⟩
    case round =>
      obtain ⟨k, rfl, hk, bV, HK⟩ := hrel
      have rV : Rq wr r a2 c2 E0 := HD.out.1.below bV
      have dV : Row wr dB 39 [.string s, .int .i64 t] := (HD.out.2.1.below bV HD.out.2.1.lt)
      have z0 := dV.cell 0
      have z1 := dV.cell 1
      simp only [List.getElem?_cons_zero, List.getElem?_cons_succ] at z0 z1
      have c3 : wr.cell? ⟨r, 0, none⟩ = some (.slice a2 E0.length c2) := one_cell rV.que rfl
      have hrl := rV.lt
      have hdl := dV.lt
      by_cases hgo : 0 < k ∧ ∃ hk' : k - 1 < E0.length, Ah2 (s, t) E0[k - 1]
      · obtain ⟨hk0, hk1, hah⟩ := hgo
        have hk0' : (0 : Int) < (k : Int) := by omega
        obtain ⟨g, o, rfl, y0, y1⟩ := rV.row.dues (k - 1) hk1
        have haB : ahB (s, t) E0[k - 1] = true := (ahB_iff _ _).2 hah
        have HK2 : Hid (∀ j (hj : j < E0.length), k - 1 ≤ j → Ah2 (s, t) E0[j]) := fun j hj hkj => by
          by_cases e : j = k - 1
          · subst e; exact hah
          · exact HK.out j hj (by omega)
        obtain ⟨x, hx⟩ : ∃ x, E0[k - 1] = x := ⟨_, rfl⟩
        rw [hx] at y0 y1 haB
        have hw : wrap64 ((k : Int) - 1) = (k : Int) - 1 := by have := HS.out.2; unfold wrap64; omega
        have hw2 : IntKind.i64.wrap ((k : Int) - 1) = (k : Int) - 1 := (IntWalk.i64_left _).trans hw
        have hn1 : ((k : Int) - 1).toNat = k - 1 := by omega
        have x1 : (0 : Int) ≤ (k : Int) - 1 := by omega
        have x2 : (k : Int) - 1 < (E0.length : Int) := by omega
        have x3 : (1 : Int) ≤ (k : Int) := by omega
        have bD : Below wr.heap.size wr wr.drew := (Below.refl _ _).drew
        clear rV dV HK hah hk1 hx
        go_wp2
        refine wp_region_noPanic ?_
        refine wp_region_held_drew (S := fun V => Below wr.heap.size wr V) (by kernel_rfl) (bD) (fun hHeld => ?_)
        refine take_lit (i := 0) (v := ?_) rfl (by kernel_rfl) (by kernel_rfl) (by kernel_rfl) (fun _ _ _ h => h) (Or.inl ⟨by rfl, ?_⟩) (by assumption) ?_
        rotate_left
        · (intro w hSw; (try dsimp only at hSw); go_simp <;> with_reducible rfl)
        try simp only [Act.put, List.setIfInBounds_toArray, List.set_cons_zero, List.set_cons_succ]
        refine take_lit (i := 1) (v := ?_) rfl (by kernel_rfl) (by kernel_rfl) (by kernel_rfl) (fun _ _ _ h => h) (Or.inl ⟨by rfl, ?_⟩) (by assumption) ?_
        rotate_left
        · (intro w hSw; (try dsimp only at hSw); go_simp <;> with_reducible rfl)
        try simp only [Act.put, List.setIfInBounds_toArray, List.set_cons_zero, List.set_cons_succ]
        refine take_lit (i := 2) (v := ?_) rfl (by kernel_rfl) (by kernel_rfl) (by kernel_rfl) (fun _ _ _ h => h) (Or.inl ⟨by rfl, ?_⟩) (by assumption) ?_
        rotate_left
        · (intro w hSw; (try dsimp only at hSw); go_simp <;> with_reducible rfl)
        try simp only [Act.put, List.setIfInBounds_toArray, List.set_cons_zero, List.set_cons_succ]
        refine take_lit (i := 3) (v := ?_) rfl (by kernel_rfl) (by kernel_rfl) (by kernel_rfl) (fun _ _ _ h => h) (Or.inl ⟨by rfl, ?_⟩) (by assumption) ?_
        rotate_left
        · (intro w hSw; (try dsimp only at hSw); have q0 := (hSw.cell (p := ⟨dB, 0, none⟩) hdl).trans z0; have q1 := (hSw.cell (p := ⟨dB, 1, none⟩) hdl).trans z1; go_simp <;> with_reducible rfl)
        try simp only [Act.put, List.setIfInBounds_toArray, List.set_cons_zero, List.set_cons_succ]
        refine take_lit (i := 4) (v := ?_) rfl (by kernel_rfl) (by kernel_rfl) (by kernel_rfl) (fun _ _ _ h => h) (Or.inl ⟨by rfl, ?_⟩) (by assumption) ?_
        rotate_left
        · (intro w hSw; (try dsimp only at hSw); go_simp <;> with_reducible rfl)
        try simp only [Act.put, List.setIfInBounds_toArray, List.set_cons_zero, List.set_cons_succ]
        refine take_lit (i := 5) (v := ?_) rfl (by kernel_rfl) (by kernel_rfl) (by kernel_rfl) (fun _ _ _ h => h) (Or.inl ⟨by rfl, ?_⟩) (by assumption) ?_
        rotate_left
        · (intro w hSw; (try dsimp only at hSw); go_simp <;> with_reducible rfl)
        try simp only [Act.put, List.setIfInBounds_toArray, List.set_cons_zero, List.set_cons_succ]
        refine take_lit (i := 6) (v := ?_) rfl (by kernel_rfl) (by kernel_rfl) (by kernel_rfl) (fun _ _ _ h => h) (Or.inl ⟨by rfl, ?_⟩) (by assumption) ?_
        rotate_left
        · (intro w hSw; (try dsimp only at hSw); go_simp <;> with_reducible rfl)
        try simp only [Act.put, List.setIfInBounds_toArray, List.set_cons_zero, List.set_cons_succ]
        refine take_lit (i := 7) (v := ?_) rfl (by kernel_rfl) (by kernel_rfl) (by kernel_rfl) (fun _ _ _ h => h) (Or.inl ⟨by rfl, ?_⟩) (by assumption) ?_
        rotate_left
        · (intro w hSw; (try dsimp only at hSw); have q0 := (hSw.cell (p := ⟨r, 0, none⟩) hrl).trans c3; go_simp <;> with_reducible rfl)
        try simp only [Act.put, List.setIfInBounds_toArray, List.set_cons_zero, List.set_cons_succ]
        refine take_lit (i := 8) (v := ?_) rfl (by kernel_rfl) (by kernel_rfl) (by kernel_rfl) (fun _ _ _ h => h) (Or.inl ⟨by rfl, ?_⟩) (by assumption) ?_
        rotate_left
        · (intro w hSw; (try dsimp only at hSw); go_simp <;> with_reducible rfl)
        try simp only [Act.put, List.setIfInBounds_toArray, List.set_cons_zero, List.set_cons_succ]
        refine take_lit (i := 9) (v := ?_) rfl (by kernel_rfl) (by kernel_rfl) (by kernel_rfl) (fun _ _ _ h => h) (Or.inl ⟨by rfl, ?_⟩) (by assumption) ?_
        rotate_left
        · (intro w hSw; (try dsimp only at hSw); go_simp <;> with_reducible rfl)
        try simp only [Act.put, List.setIfInBounds_toArray, List.set_cons_zero, List.set_cons_succ]
        refine take_lit (i := 10) (v := ?_) rfl (by kernel_rfl) (by kernel_rfl) (by kernel_rfl) (fun _ _ _ h => h) (Or.inl ⟨by rfl, ?_⟩) (by assumption) ?_
        rotate_left
        · (intro w hSw; (try dsimp only at hSw); go_simp <;> with_reducible rfl)
        try simp only [Act.put, List.setIfInBounds_toArray, List.set_cons_zero, List.set_cons_succ]
        refine take_lit (i := 11) (v := ?_) rfl (by kernel_rfl) (by kernel_rfl) (by kernel_rfl) (fun _ _ _ h => h) (Or.inl ⟨by rfl, ?_⟩) (by assumption) ?_
        rotate_left
        · (intro w hSw; (try dsimp only at hSw); have q0 := (hSw.cell (p := ⟨g, o + (k - 1) * 2, none⟩) (World.block_lt_of_cell? _ _ y0)).trans y0; have q1 := (hSw.cell (p := ⟨g, o + (k - 1) * 2 + 1, none⟩) (World.block_lt_of_cell? _ _ y1)).trans y1; go_simp <;> with_reducible rfl)
        try simp only [Act.put, List.setIfInBounds_toArray, List.set_cons_zero, List.set_cons_succ]
        refine wpAnyH_ready (rs := [12]) (by kernel_rfl) (by simp) ?_
        refine cons_lit rfl (fun K hK => ?_) ?_
        · go_simp
          refine (ahead_any (s, t) x _).mono ?_
          rintro e w4 ⟨rfl, b4⟩
          rw [haB]
          refine hK.out _ _ ?_ (fun hHeld => ?_)
          · exact hHeld.trans (b4.mono hHeld.size)
          clear hK K
          try simp only [Act.put, List.setIfInBounds_toArray, List.set_cons_zero, List.set_cons_succ]
          refine take_lit (i := 13) (v := ?_) rfl (by kernel_rfl) (by kernel_rfl) (by kernel_rfl) (fun _ _ _ h => h) (Or.inl ⟨by rfl, ?_⟩) (by assumption) ?_
          rotate_left
          · (intro w hSw; (try dsimp only at hSw); go_simp <;> with_reducible rfl)
          try simp only [Act.put, List.setIfInBounds_toArray, List.set_cons_zero, List.set_cons_succ]
          refine wpAnyH_done (by kernel_rfl) ?_ _
          refine NoPanic.normal ?_
          go_wp2
          go_roundw
          case rel => exact ⟨k - 1, by simp; omega, by omega, bV.trans (hHeld.mono bV.size), HK2⟩
          case measure => simp [intOf]; omega
        exact AllReadyH.nil
      · have HG : Hid (0 < k → ∀ hk' : k - 1 < E0.length, ¬ Ah2 (s, t) E0[k - 1]) := fun h0 h1 h2 => hgo ⟨h0, h1, h2⟩
        have HI : Hid (Srt2 (E0.take k ++ [(s, t)] ++ E0.drop k)) := srt_ins HS.out.1 hk HK.out HG.out
        by_cases hk0 : k = 0
        · have hkn : ¬ 0 < k := by omega
          have hkz : ¬ (0 : Int) < (k : Int) := by omega
          clear hk0
          have bD : Below wr.heap.size wr wr.drew := (Below.refl _ _).drew
          clear hgo HK HG
          go_wp2
          refine wp_region_noPanic ?_
          refine wp_region_held_drew (S := fun V => Below wr.heap.size wr V) (by kernel_rfl) (bD) (fun hHeld => ?_)
          refine take_lit (i := 0) (v := ?_) rfl (by kernel_rfl) (by kernel_rfl) (by kernel_rfl) (fun _ _ _ h => h) (Or.inl ⟨by rfl, ?_⟩) (by assumption) ?_
          rotate_left
          · (intro w hSw; (try dsimp only at hSw); go_simp <;> with_reducible rfl)
          try simp only [Act.put, List.setIfInBounds_toArray, List.set_cons_zero, List.set_cons_succ]
          refine take_lit (i := 1) (v := ?_) rfl (by kernel_rfl) (by kernel_rfl) (by kernel_rfl) (fun _ _ _ h => h) (Or.inl ⟨by rfl, ?_⟩) (by assumption) ?_
          rotate_left
          · (intro w hSw; (try dsimp only at hSw); go_simp <;> with_reducible rfl)
          try simp only [Act.put, List.setIfInBounds_toArray, List.set_cons_zero, List.set_cons_succ]
          refine take_lit (i := 2) (v := ?_) rfl (by kernel_rfl) (by kernel_rfl) (by kernel_rfl) (fun _ _ _ h => h) (Or.inl ⟨by rfl, ?_⟩) (by assumption) ?_
          rotate_left
          · (intro w hSw; (try dsimp only at hSw); go_simp <;> with_reducible rfl)
          try simp only [Act.put, List.setIfInBounds_toArray, List.set_cons_zero, List.set_cons_succ]
          refine take_lit (i := 3) rfl (by kernel_rfl) (by kernel_rfl) (by kernel_rfl) (fun _ _ _ h => h) (Or.inr ⟨by rfl, rfl⟩) (by assumption) ?_
          try simp only [Act.put, List.setIfInBounds_toArray, List.set_cons_zero, List.set_cons_succ]
          refine take_lit (i := 4) rfl (by kernel_rfl) (by kernel_rfl) (by kernel_rfl) (fun _ _ _ h => h) (Or.inr ⟨by rfl, rfl⟩) (by assumption) ?_
          try simp only [Act.put, List.setIfInBounds_toArray, List.set_cons_zero, List.set_cons_succ]
          refine take_lit (i := 5) rfl (by kernel_rfl) (by kernel_rfl) (by kernel_rfl) (fun _ _ _ h => h) (Or.inr ⟨by rfl, rfl⟩) (by assumption) ?_
          try simp only [Act.put, List.setIfInBounds_toArray, List.set_cons_zero, List.set_cons_succ]
          refine take_lit (i := 6) rfl (by kernel_rfl) (by kernel_rfl) (by kernel_rfl) (fun _ _ _ h => h) (Or.inr ⟨by rfl, rfl⟩) (by assumption) ?_
          try simp only [Act.put, List.setIfInBounds_toArray, List.set_cons_zero, List.set_cons_succ]
          refine take_lit (i := 7) rfl (by kernel_rfl) (by kernel_rfl) (by kernel_rfl) (fun _ _ _ h => h) (Or.inr ⟨by rfl, rfl⟩) (by assumption) ?_
          try simp only [Act.put, List.setIfInBounds_toArray, List.set_cons_zero, List.set_cons_succ]
          refine take_lit (i := 8) rfl (by kernel_rfl) (by kernel_rfl) (by kernel_rfl) (fun _ _ _ h => h) (Or.inr ⟨by rfl, rfl⟩) (by assumption) ?_
          try simp only [Act.put, List.setIfInBounds_toArray, List.set_cons_zero, List.set_cons_succ]
          refine take_lit (i := 9) rfl (by kernel_rfl) (by kernel_rfl) (by kernel_rfl) (fun _ _ _ h => h) (Or.inr ⟨by rfl, rfl⟩) (by assumption) ?_
          try simp only [Act.put, List.setIfInBounds_toArray, List.set_cons_zero, List.set_cons_succ]
          refine take_lit (i := 10) rfl (by kernel_rfl) (by kernel_rfl) (by kernel_rfl) (fun _ _ _ h => h) (Or.inr ⟨by rfl, rfl⟩) (by assumption) ?_
          try simp only [Act.put, List.setIfInBounds_toArray, List.set_cons_zero, List.set_cons_succ]
          refine take_lit (i := 11) rfl (by kernel_rfl) (by kernel_rfl) (by kernel_rfl) (fun _ _ _ h => h) (Or.inr ⟨by rfl, rfl⟩) (by assumption) ?_
          try simp only [Act.put, List.setIfInBounds_toArray, List.set_cons_zero, List.set_cons_succ]
          refine take_lit (i := 12) rfl (by kernel_rfl) (by kernel_rfl) (by kernel_rfl) (fun _ _ _ h => h) (Or.inr ⟨by rfl, rfl⟩) (by assumption) ?_
          try simp only [Act.put, List.setIfInBounds_toArray, List.set_cons_zero, List.set_cons_succ]
          refine take_lit (i := 13) (v := ?_) rfl (by kernel_rfl) (by kernel_rfl) (by kernel_rfl) (fun _ _ _ h => h) (Or.inl ⟨by rfl, ?_⟩) (by assumption) ?_
          rotate_left
          · (intro w hSw; (try dsimp only at hSw); go_simp <;> with_reducible rfl)
          try simp only [Act.put, List.setIfInBounds_toArray, List.set_cons_zero, List.set_cons_succ]
          refine wpAnyH_done (by kernel_rfl) ?_ _
          refine NoPanic.normal ?_
          rcases rV.row.2 with ⟨rfl, rfl⟩ | ⟨g, o, arr, rfl, _, _⟩
          · skip
            have hE0 : E0 = [] := List.eq_nil_of_length_eq_zero (by have := rV.row.1; omega)
            subst hE0
            obtain rfl : k = 0 := by simpa using hk
            have HV : Hid (Rq wr r none 0 []) := rV
            have HT : Hid (∀ V, Below wr.heap.size wr V → SrcD V none 0 (([] : List (ByteArray × Int)).take 0)) := fun V hV => ⟨rfl, fun _ => rfl, fun p hp => by cases hp⟩
            have HU : Hid (∀ V, Below wr.heap.size wr V → SrcD V none 0 (([] : List (ByteArray × Int)).drop 0)) := fun V hV => ⟨rfl, fun _ => rfl, fun p hp => by cases hp⟩
            clear rV dV
            go_wp2
            refine wp_region_noPanic ?_
            refine wp_region_N (S := fun V => Below wr.heap.size wr V) 21 (by kernel_rfl) (hHeld.drew) (fun hHeld => ?_)
            refine takeN_lit (i := 0) (v := ?_) (F := #[false, true, true, true, true, true, true, true, true, true, true, true, true, true, true, true, true, true, true, false, false, false]) rfl (by kernel_rfl) (by kernel_rfl) (by kernel_rfl) (by kernel_rfl) (fun _ _ _ h => h) (Or.inl ⟨by rfl, ?_⟩) (by assumption) ?_
            rotate_left
            · (intro w hSw; (try dsimp only at hSw); go_simp <;> with_reducible rfl)
            try simp only [Act.put, List.setIfInBounds_toArray, List.set_cons_zero, List.set_cons_succ]
            refine takeN_lit (i := 2) (v := ?_) (F := #[true, true, false, false, false, false, true, false, false, true, true, false, true, true, true, true, true, true, false, false, false, false]) rfl (by kernel_rfl) (by kernel_rfl) (by kernel_rfl) (by kernel_rfl) (fun _ _ _ h => h) (Or.inl ⟨by rfl, ?_⟩) (by assumption) ?_
            rotate_left
            · (intro w hSw; (try dsimp only at hSw); go_simp <;> with_reducible rfl)
            try simp only [Act.put, List.setIfInBounds_toArray, List.set_cons_zero, List.set_cons_succ]
            refine takeN_lit (i := 3) (v := ?_) (F := #[true, true, true, false, false, false, true, false, false, true, true, false, true, true, true, true, true, true, false, false, false, false]) rfl (by kernel_rfl) (by kernel_rfl) (by kernel_rfl) (by kernel_rfl) (fun _ _ _ h => h) (Or.inl ⟨by rfl, ?_⟩) (by assumption) ?_
            rotate_left
            · (intro w hSw; (try dsimp only at hSw); go_simp <;> with_reducible rfl)
            try simp only [Act.put, List.setIfInBounds_toArray, List.set_cons_zero, List.set_cons_succ]
            refine takeN_lit (i := 4) (v := ?_) (F := #[true, true, true, true, false, false, true, false, false, true, true, false, true, true, true, true, true, true, false, false, false, false]) rfl (by kernel_rfl) (by kernel_rfl) (by kernel_rfl) (by kernel_rfl) (fun _ _ _ h => h) (Or.inl ⟨by rfl, ?_⟩) (by assumption) ?_
            rotate_left
            · (intro w hSw; (try dsimp only at hSw); go_simp <;> with_reducible rfl)
            try simp only [Act.put, List.setIfInBounds_toArray, List.set_cons_zero, List.set_cons_succ]
            refine takeN_lit (i := 5) (v := ?_) (F := #[true, true, true, true, true, false, true, false, false, true, true, false, true, true, true, true, true, true, false, false, false, false]) rfl (by kernel_rfl) (by kernel_rfl) (by kernel_rfl) (by kernel_rfl) (fun _ _ _ h => h) (Or.inl ⟨by rfl, ?_⟩) (by assumption) ?_
            rotate_left
            · (intro w hSw; (try dsimp only at hSw); have q0 := (hSw.cell (p := ⟨r, 0, none⟩) hrl).trans c3; go_simp <;> with_reducible rfl)
            try simp only [Act.put, List.setIfInBounds_toArray, List.set_cons_zero, List.set_cons_succ]
            refine takeN_lit (i := 6) (v := ?_) (F := #[true, true, true, true, true, true, false, false, false, true, true, false, true, true, true, true, true, true, false, false, false, false]) rfl (by kernel_rfl) (by kernel_rfl) (by kernel_rfl) (by kernel_rfl) (fun _ _ _ h => h) (Or.inl ⟨by rfl, ?_⟩) (by assumption) ?_
            rotate_left
            · (intro w hSw; (try dsimp only at hSw); go_simp <;> with_reducible rfl)
            try simp only [Act.put, List.setIfInBounds_toArray, List.set_cons_zero, List.set_cons_succ]
            refine takeN_lit (i := 7) (v := ?_) (F := #[true, true, true, true, true, true, true, false, false, true, true, false, true, true, true, true, true, true, false, false, false, false]) rfl (by kernel_rfl) (by kernel_rfl) (by kernel_rfl) (by kernel_rfl) (fun _ _ _ h => h) (Or.inl ⟨by rfl, ?_⟩) (by assumption) ?_
            rotate_left
            · (intro w hSw; (try dsimp only at hSw); go_simp <;> with_reducible rfl)
            try simp only [Act.put, List.setIfInBounds_toArray, List.set_cons_zero, List.set_cons_succ]
            refine takeN_lit (i := 9) (v := ?_) (F := #[true, true, true, true, true, true, true, true, true, false, false, false, true, true, true, true, true, true, false, false, false, false]) rfl (by kernel_rfl) (by kernel_rfl) (by kernel_rfl) (by kernel_rfl) (fun _ _ _ h => h) (Or.inl ⟨by rfl, ?_⟩) (by assumption) ?_
            rotate_left
            · (intro w hSw; (try dsimp only at hSw); have q0 := (hSw.cell (p := ⟨dB, 0, none⟩) hdl).trans z0; have q1 := (hSw.cell (p := ⟨dB, 1, none⟩) hdl).trans z1; go_simp <;> with_reducible rfl)
            try simp only [Act.put, List.setIfInBounds_toArray, List.set_cons_zero, List.set_cons_succ]
            refine takeN_lit (i := 12) (v := ?_) (F := #[true, true, true, true, true, true, true, true, true, true, true, true, false, false, false, false, true, false, false, false, false, false]) rfl (by kernel_rfl) (by kernel_rfl) (by kernel_rfl) (by kernel_rfl) (fun _ _ _ h => h) (Or.inl ⟨by rfl, ?_⟩) (by assumption) ?_
            rotate_left
            · (intro w hSw; (try dsimp only at hSw); go_simp <;> with_reducible rfl)
            try simp only [Act.put, List.setIfInBounds_toArray, List.set_cons_zero, List.set_cons_succ]
            refine takeN_lit (i := 13) (v := ?_) (F := #[true, true, true, true, true, true, true, true, true, true, true, true, true, false, false, false, true, false, false, false, false, false]) rfl (by kernel_rfl) (by kernel_rfl) (by kernel_rfl) (by kernel_rfl) (fun _ _ _ h => h) (Or.inl ⟨by rfl, ?_⟩) (by assumption) ?_
            rotate_left
            · (intro w hSw; (try dsimp only at hSw); go_simp <;> with_reducible rfl)
            try simp only [Act.put, List.setIfInBounds_toArray, List.set_cons_zero, List.set_cons_succ]
            refine takeN_lit (i := 14) (v := ?_) (F := #[true, true, true, true, true, true, true, true, true, true, true, true, true, true, false, false, true, false, false, false, false, false]) rfl (by kernel_rfl) (by kernel_rfl) (by kernel_rfl) (by kernel_rfl) (fun _ _ _ h => h) (Or.inl ⟨by rfl, ?_⟩) (by assumption) ?_
            rotate_left
            · (intro w hSw; (try dsimp only at hSw); go_simp <;> with_reducible rfl)
            try simp only [Act.put, List.setIfInBounds_toArray, List.set_cons_zero, List.set_cons_succ]
            refine takeN_lit (i := 15) (v := ?_) (F := #[true, true, true, true, true, true, true, true, true, true, true, true, true, true, true, false, true, false, false, false, false, false]) rfl (by kernel_rfl) (by kernel_rfl) (by kernel_rfl) (by kernel_rfl) (fun _ _ _ h => h) (Or.inl ⟨by rfl, ?_⟩) (by assumption) ?_
            rotate_left
            · (intro w hSw; (try dsimp only at hSw); have q0 := (hSw.cell (p := ⟨r, 0, none⟩) hrl).trans c3; go_simp <;> with_reducible rfl)
            try simp only [Act.put, List.setIfInBounds_toArray, List.set_cons_zero, List.set_cons_succ]
            refine takeN_lit (i := 16) (v := ?_) (F := #[true, true, true, true, true, true, true, true, true, true, true, true, true, true, true, true, false, false, false, false, false, false]) rfl (by kernel_rfl) (by kernel_rfl) (by kernel_rfl) (by kernel_rfl) (fun _ _ _ h => h) (Or.inl ⟨by rfl, ?_⟩) (by assumption) ?_
            rotate_left
            · (intro w hSw; (try dsimp only at hSw); go_simp <;> with_reducible rfl)
            try simp only [Act.put, List.setIfInBounds_toArray, List.set_cons_zero, List.set_cons_succ]
            refine takeN_lit (i := 17) (v := ?_) (F := #[true, true, true, true, true, true, true, true, true, true, true, true, true, true, true, true, true, false, false, false, false, false]) rfl (by kernel_rfl) (by kernel_rfl) (by kernel_rfl) (by kernel_rfl) (fun _ _ _ h => h) (Or.inl ⟨by rfl, ?_⟩) (by assumption) ?_
            rotate_left
            · (intro w hSw; (try dsimp only at hSw); go_simp <;> with_reducible rfl)
            try simp only [Act.put, List.setIfInBounds_toArray, List.set_cons_zero, List.set_cons_succ]
            refine wpAnyN_ready (rs := [1, 10]) (by kernel_rfl) (by simp) ?_
            refine consN_lit rfl (fun K hK => ?_) ?_
            · skip
              refine sBs0 (by rfl) rfl ?_
              intro W1 o1 b1 l1
              replace o1 := own_base o1 hHeld.size
              try replace s10 := s10.kept (cell_some b1)
              try have m10 := Nat.lt_of_lt_of_le l10 b1.size
              refine hK.out _ _ (Or.inr ?_) (fun hHeld => ?_)
              · exact hHeld.trans (b1.mono hHeld.size)
              replace hHeld := hHeld.resolve_left (by decide)
              clear hK K
              try simp only [Act.put, List.setIfInBounds_toArray, List.set_cons_zero, List.set_cons_succ]
              refine wpAnyN_ready (rs := [8, 10]) (by kernel_rfl) (by simp) ?_
              refine consN_lit rfl (fun K hK => ?_) ?_
              · skip
                refine sAppD (.tmp 49) (.tmp 55) (by rfl) rfl wr.heap.size _ 0 [] (by rfl) o1 none 0 0 (([] : List (ByteArray × Int)).take 0) (by rfl) (fun _ => rfl) (HT.out _ hHeld) (by have := HS.out.2; omega) hHeld.size ?_
                intro v8 W8 o8 g8
                rw [Nat.zero_add, List.nil_append] at o8
                try replace s10 := s10.grown g8 (by intro e; simp only [Value.ownBlock, Option.some.injEq] at e; omega) (by omega)
                refine hK.out _ _ (Or.inr ?_) (fun hHeld => ?_)
                · exact hHeld.grown g8 hHeld.size (fun j hj => ownS_base o1 j hj)
                replace hHeld := hHeld.resolve_left (by decide)
                clear hK K
                try simp only [Act.put, List.setIfInBounds_toArray, List.set_cons_zero, List.set_cons_succ]
                refine wpAnyN_ready (rs := [10]) (by kernel_rfl) (by simp) ?_
                refine consN_lit rfl (fun K hK => ?_) ?_
                · skip
                  refine sBs1 (.tmp 57) s t (by rfl) rfl (by rfl) ?_
                  intro W10 s10 b10 l10
                  try replace o8 := ownS_below o8 b10
                  try replace o1 := ownS_below o1 b10
                  refine hK.out _ _ (Or.inr ?_) (fun hHeld => ?_)
                  · exact hHeld.trans (b10.mono hHeld.size)
                  replace hHeld := hHeld.resolve_left (by decide)
                  clear hK K
                  try simp only [Act.put, List.setIfInBounds_toArray, List.set_cons_zero, List.set_cons_succ]
                  refine wpAnyN_ready (rs := [11]) (by kernel_rfl) (by simp) ?_
                  refine consN_lit rfl (fun K hK => ?_) ?_
                  · skip
                    refine sAppD (.tmp 56) (.tmp 58) (by rfl) rfl wr.heap.size v8 0 (([] : List (ByteArray × Int)).take 0) (by rfl) o8 (some ⟨_, 0, none⟩) 1 1 [(s, t)] (by rfl) (fun h => by cases h) s10 (by have := HS.out.2; omega) hHeld.size ?_
                    intro v11 W11 o11 g11
                    refine hK.out _ _ (Or.inr ?_) (fun hHeld => ?_)
                    · exact hHeld.grown g11 hHeld.size (fun j hj => ownS_base o8 j hj)
                    replace hHeld := hHeld.resolve_left (by decide)
                    clear hK K
                    try simp only [Act.put, List.setIfInBounds_toArray, List.set_cons_zero, List.set_cons_succ]
                    refine wpAnyN_ready (rs := [18]) (by kernel_rfl) (by simp) ?_
                    refine consN_lit rfl (fun K hK => ?_) ?_
                    · skip
                      refine sAppD (.tmp 59) (.tmp 65) (by rfl) rfl wr.heap.size v11 (0 + 1) (([] : List (ByteArray × Int)).take 0 ++ [(s, t)]) (by rfl) o11 none 0 0 (([] : List (ByteArray × Int)).drop 0) (by rfl) (fun _ => rfl) (HU.out _ hHeld) (by have := HS.out.2; omega) hHeld.size ?_
                      intro v18 W18 o18 g18
                      obtain ⟨a18, c18, rfl⟩ := ownS_shape o18
                      refine hK.out _ _ (Or.inr ?_) (fun hHeld => ?_)
                      · exact hHeld.grown g18 hHeld.size (fun j hj => ownS_base o11 j hj)
                      replace hHeld := hHeld.resolve_left (by decide)
                      clear hK K
                      try simp only [Act.put, List.setIfInBounds_toArray, List.set_cons_zero, List.set_cons_succ]
                      refine takeN_lit (i := 19) (v := ?_) (F := #[true, true, true, true, true, true, true, true, true, true, true, true, true, true, true, true, true, true, true, false, false, false]) rfl (by kernel_rfl) (by kernel_rfl) (by kernel_rfl) (by kernel_rfl) (fun _ _ _ h => h) (Or.inl ⟨by rfl, ?_⟩) (by assumption) ?_
                      rotate_left
                      · (intro w hSw; (try dsimp only at hSw); go_simp <;> with_reducible rfl)
                      try simp only [Act.put, List.setIfInBounds_toArray, List.set_cons_zero, List.set_cons_succ]
                      refine takeN_lit (i := 20) (v := ?_) (F := #[true, true, true, true, true, true, true, true, true, true, true, true, true, true, true, true, true, true, true, true, false, false]) rfl (by kernel_rfl) (by kernel_rfl) (by kernel_rfl) (by kernel_rfl) (fun _ _ _ h => h) (Or.inl ⟨by rfl, ?_⟩) (by assumption) ?_
                      rotate_left
                      · (intro w hSw; (try dsimp only at hSw); go_simp <;> with_reducible rfl)
                      try simp only [Act.put, List.setIfInBounds_toArray, List.set_cons_zero, List.set_cons_succ]
                      refine wpAnyN_ready (rs := [21]) (by kernel_rfl) (by simp) ?_
                      refine consN_lit rfl (fun K hK => ?_) ?_
                      · skip
                        refine sStL (.tmp 68) (.tmp 66) rfl (by rfl) r a18 _ c18 _ ((hHeld.cell (p := ⟨r, 0, none⟩) hrl).trans c3) (one_free ((hHeld.block r hrl).trans HV.out.que)) (by rfl) (by rfl) ?_
                        refine hK.out _ _ (Or.inl rfl) (fun _ => ?_)
                        clear hK K
                        try simp only [Act.put, List.setIfInBounds_toArray, List.set_cons_zero, List.set_cons_succ]
                        refine wpAnyN_done (by kernel_rfl) ?_ _
                        refine NoPanic.normal ?_
                        obtain ⟨z1, z2⟩ := HV.out.store (D := ([] : List (ByteArray × Int)).take 0 ++ [(s, t)] ++ ([] : List (ByteArray × Int)).drop 0) hHeld o18 rfl
                        have z3 := (HD.out.2.2.trans (Frm.of_below (S := fun j => j = r) bV) (fun _ h => .inl h)).trans z2 (fun _ h => .inl h)
                        go_wp2
                        all_goals
                          go_ret
                          first | exact ⟨_, ⟨rfl, _, _, z1, z3⟩, HI.out, perm_ins [] (s, t) 0⟩ | exact ⟨⟨rfl, _, _, z1, z3⟩, HI.out⟩
                      exact AllReadyN.nil
                    exact AllReadyN.nil
                  exact AllReadyN.nil
                exact AllReadyN.nil
              refine consN_lit rfl (fun K hK => ?_) ?_
              · skip
                refine sBs1 (.tmp 57) s t (by rfl) rfl (by rfl) ?_
                intro W10 s10 b10 l10
                try replace o8 := ownS_below o8 b10
                try replace o1 := ownS_below o1 b10
                refine hK.out _ _ (Or.inr ?_) (fun hHeld => ?_)
                · exact hHeld.trans (b10.mono hHeld.size)
                replace hHeld := hHeld.resolve_left (by decide)
                clear hK K
                try simp only [Act.put, List.setIfInBounds_toArray, List.set_cons_zero, List.set_cons_succ]
                refine wpAnyN_ready (rs := [8]) (by kernel_rfl) (by simp) ?_
                refine consN_lit rfl (fun K hK => ?_) ?_
                · skip
                  refine sAppD (.tmp 49) (.tmp 55) (by rfl) rfl wr.heap.size _ 0 [] (by rfl) o1 none 0 0 (([] : List (ByteArray × Int)).take 0) (by rfl) (fun _ => rfl) (HT.out _ hHeld) (by have := HS.out.2; omega) hHeld.size ?_
                  intro v8 W8 o8 g8
                  rw [Nat.zero_add, List.nil_append] at o8
                  try replace s10 := s10.grown g8 (by intro e; simp only [Value.ownBlock, Option.some.injEq] at e; omega) (by omega)
                  refine hK.out _ _ (Or.inr ?_) (fun hHeld => ?_)
                  · exact hHeld.grown g8 hHeld.size (fun j hj => ownS_base o1 j hj)
                  replace hHeld := hHeld.resolve_left (by decide)
                  clear hK K
                  try simp only [Act.put, List.setIfInBounds_toArray, List.set_cons_zero, List.set_cons_succ]
                  refine wpAnyN_ready (rs := [11]) (by kernel_rfl) (by simp) ?_
                  refine consN_lit rfl (fun K hK => ?_) ?_
                  · skip
                    refine sAppD (.tmp 56) (.tmp 58) (by rfl) rfl wr.heap.size v8 0 (([] : List (ByteArray × Int)).take 0) (by rfl) o8 (some ⟨_, 0, none⟩) 1 1 [(s, t)] (by rfl) (fun h => by cases h) s10 (by have := HS.out.2; omega) hHeld.size ?_
                    intro v11 W11 o11 g11
                    refine hK.out _ _ (Or.inr ?_) (fun hHeld => ?_)
                    · exact hHeld.grown g11 hHeld.size (fun j hj => ownS_base o8 j hj)
                    replace hHeld := hHeld.resolve_left (by decide)
                    clear hK K
                    try simp only [Act.put, List.setIfInBounds_toArray, List.set_cons_zero, List.set_cons_succ]
                    refine wpAnyN_ready (rs := [18]) (by kernel_rfl) (by simp) ?_
                    refine consN_lit rfl (fun K hK => ?_) ?_
                    · skip
                      refine sAppD (.tmp 59) (.tmp 65) (by rfl) rfl wr.heap.size v11 (0 + 1) (([] : List (ByteArray × Int)).take 0 ++ [(s, t)]) (by rfl) o11 none 0 0 (([] : List (ByteArray × Int)).drop 0) (by rfl) (fun _ => rfl) (HU.out _ hHeld) (by have := HS.out.2; omega) hHeld.size ?_
                      intro v18 W18 o18 g18
                      obtain ⟨a18, c18, rfl⟩ := ownS_shape o18
                      refine hK.out _ _ (Or.inr ?_) (fun hHeld => ?_)
                      · exact hHeld.grown g18 hHeld.size (fun j hj => ownS_base o11 j hj)
                      replace hHeld := hHeld.resolve_left (by decide)
                      clear hK K
                      try simp only [Act.put, List.setIfInBounds_toArray, List.set_cons_zero, List.set_cons_succ]
                      refine takeN_lit (i := 19) (v := ?_) (F := #[true, true, true, true, true, true, true, true, true, true, true, true, true, true, true, true, true, true, true, false, false, false]) rfl (by kernel_rfl) (by kernel_rfl) (by kernel_rfl) (by kernel_rfl) (fun _ _ _ h => h) (Or.inl ⟨by rfl, ?_⟩) (by assumption) ?_
                      rotate_left
                      · (intro w hSw; (try dsimp only at hSw); go_simp <;> with_reducible rfl)
                      try simp only [Act.put, List.setIfInBounds_toArray, List.set_cons_zero, List.set_cons_succ]
                      refine takeN_lit (i := 20) (v := ?_) (F := #[true, true, true, true, true, true, true, true, true, true, true, true, true, true, true, true, true, true, true, true, false, false]) rfl (by kernel_rfl) (by kernel_rfl) (by kernel_rfl) (by kernel_rfl) (fun _ _ _ h => h) (Or.inl ⟨by rfl, ?_⟩) (by assumption) ?_
                      rotate_left
                      · (intro w hSw; (try dsimp only at hSw); go_simp <;> with_reducible rfl)
                      try simp only [Act.put, List.setIfInBounds_toArray, List.set_cons_zero, List.set_cons_succ]
                      refine wpAnyN_ready (rs := [21]) (by kernel_rfl) (by simp) ?_
                      refine consN_lit rfl (fun K hK => ?_) ?_
                      · skip
                        refine sStL (.tmp 68) (.tmp 66) rfl (by rfl) r a18 _ c18 _ ((hHeld.cell (p := ⟨r, 0, none⟩) hrl).trans c3) (one_free ((hHeld.block r hrl).trans HV.out.que)) (by rfl) (by rfl) ?_
                        refine hK.out _ _ (Or.inl rfl) (fun _ => ?_)
                        clear hK K
                        try simp only [Act.put, List.setIfInBounds_toArray, List.set_cons_zero, List.set_cons_succ]
                        refine wpAnyN_done (by kernel_rfl) ?_ _
                        refine NoPanic.normal ?_
                        obtain ⟨z1, z2⟩ := HV.out.store (D := ([] : List (ByteArray × Int)).take 0 ++ [(s, t)] ++ ([] : List (ByteArray × Int)).drop 0) hHeld o18 rfl
                        have z3 := (HD.out.2.2.trans (Frm.of_below (S := fun j => j = r) bV) (fun _ h => .inl h)).trans z2 (fun _ h => .inl h)
                        go_wp2
                        all_goals
                          go_ret
                          first | exact ⟨_, ⟨rfl, _, _, z1, z3⟩, HI.out, perm_ins [] (s, t) 0⟩ | exact ⟨⟨rfl, _, _, z1, z3⟩, HI.out⟩
                      exact AllReadyN.nil
                    exact AllReadyN.nil
                  exact AllReadyN.nil
                exact AllReadyN.nil
              exact AllReadyN.nil
            refine consN_lit rfl (fun K hK => ?_) ?_
            · skip
              refine sBs1 (.tmp 57) s t (by rfl) rfl (by rfl) ?_
              intro W10 s10 b10 l10
              try replace o8 := ownS_below o8 b10
              try replace o1 := ownS_below o1 b10
              refine hK.out _ _ (Or.inr ?_) (fun hHeld => ?_)
              · exact hHeld.trans (b10.mono hHeld.size)
              replace hHeld := hHeld.resolve_left (by decide)
              clear hK K
              try simp only [Act.put, List.setIfInBounds_toArray, List.set_cons_zero, List.set_cons_succ]
              refine wpAnyN_ready (rs := [1]) (by kernel_rfl) (by simp) ?_
              refine consN_lit rfl (fun K hK => ?_) ?_
              · skip
                refine sBs0 (by rfl) rfl ?_
                intro W1 o1 b1 l1
                replace o1 := own_base o1 hHeld.size
                try replace s10 := s10.kept (cell_some b1)
                try have m10 := Nat.lt_of_lt_of_le l10 b1.size
                refine hK.out _ _ (Or.inr ?_) (fun hHeld => ?_)
                · exact hHeld.trans (b1.mono hHeld.size)
                replace hHeld := hHeld.resolve_left (by decide)
                clear hK K
                try simp only [Act.put, List.setIfInBounds_toArray, List.set_cons_zero, List.set_cons_succ]
                refine wpAnyN_ready (rs := [8]) (by kernel_rfl) (by simp) ?_
                refine consN_lit rfl (fun K hK => ?_) ?_
                · skip
                  refine sAppD (.tmp 49) (.tmp 55) (by rfl) rfl wr.heap.size _ 0 [] (by rfl) o1 none 0 0 (([] : List (ByteArray × Int)).take 0) (by rfl) (fun _ => rfl) (HT.out _ hHeld) (by have := HS.out.2; omega) hHeld.size ?_
                  intro v8 W8 o8 g8
                  rw [Nat.zero_add, List.nil_append] at o8
                  try replace s10 := s10.grown g8 (by intro e; simp only [Value.ownBlock, Option.some.injEq] at e; omega) (by omega)
                  refine hK.out _ _ (Or.inr ?_) (fun hHeld => ?_)
                  · exact hHeld.grown g8 hHeld.size (fun j hj => ownS_base o1 j hj)
                  replace hHeld := hHeld.resolve_left (by decide)
                  clear hK K
                  try simp only [Act.put, List.setIfInBounds_toArray, List.set_cons_zero, List.set_cons_succ]
                  refine wpAnyN_ready (rs := [11]) (by kernel_rfl) (by simp) ?_
                  refine consN_lit rfl (fun K hK => ?_) ?_
                  · skip
                    refine sAppD (.tmp 56) (.tmp 58) (by rfl) rfl wr.heap.size v8 0 (([] : List (ByteArray × Int)).take 0) (by rfl) o8 (some ⟨_, 0, none⟩) 1 1 [(s, t)] (by rfl) (fun h => by cases h) s10 (by have := HS.out.2; omega) hHeld.size ?_
                    intro v11 W11 o11 g11
                    refine hK.out _ _ (Or.inr ?_) (fun hHeld => ?_)
                    · exact hHeld.grown g11 hHeld.size (fun j hj => ownS_base o8 j hj)
                    replace hHeld := hHeld.resolve_left (by decide)
                    clear hK K
                    try simp only [Act.put, List.setIfInBounds_toArray, List.set_cons_zero, List.set_cons_succ]
                    refine wpAnyN_ready (rs := [18]) (by kernel_rfl) (by simp) ?_
                    refine consN_lit rfl (fun K hK => ?_) ?_
                    · skip
                      refine sAppD (.tmp 59) (.tmp 65) (by rfl) rfl wr.heap.size v11 (0 + 1) (([] : List (ByteArray × Int)).take 0 ++ [(s, t)]) (by rfl) o11 none 0 0 (([] : List (ByteArray × Int)).drop 0) (by rfl) (fun _ => rfl) (HU.out _ hHeld) (by have := HS.out.2; omega) hHeld.size ?_
                      intro v18 W18 o18 g18
                      obtain ⟨a18, c18, rfl⟩ := ownS_shape o18
                      refine hK.out _ _ (Or.inr ?_) (fun hHeld => ?_)
                      · exact hHeld.grown g18 hHeld.size (fun j hj => ownS_base o11 j hj)
                      replace hHeld := hHeld.resolve_left (by decide)
                      clear hK K
                      try simp only [Act.put, List.setIfInBounds_toArray, List.set_cons_zero, List.set_cons_succ]
                      refine takeN_lit (i := 19) (v := ?_) (F := #[true, true, true, true, true, true, true, true, true, true, true, true, true, true, true, true, true, true, true, false, false, false]) rfl (by kernel_rfl) (by kernel_rfl) (by kernel_rfl) (by kernel_rfl) (fun _ _ _ h => h) (Or.inl ⟨by rfl, ?_⟩) (by assumption) ?_
                      rotate_left
                      · (intro w hSw; (try dsimp only at hSw); go_simp <;> with_reducible rfl)
                      try simp only [Act.put, List.setIfInBounds_toArray, List.set_cons_zero, List.set_cons_succ]
                      refine takeN_lit (i := 20) (v := ?_) (F := #[true, true, true, true, true, true, true, true, true, true, true, true, true, true, true, true, true, true, true, true, false, false]) rfl (by kernel_rfl) (by kernel_rfl) (by kernel_rfl) (by kernel_rfl) (fun _ _ _ h => h) (Or.inl ⟨by rfl, ?_⟩) (by assumption) ?_
                      rotate_left
                      · (intro w hSw; (try dsimp only at hSw); go_simp <;> with_reducible rfl)
                      try simp only [Act.put, List.setIfInBounds_toArray, List.set_cons_zero, List.set_cons_succ]
                      refine wpAnyN_ready (rs := [21]) (by kernel_rfl) (by simp) ?_
                      refine consN_lit rfl (fun K hK => ?_) ?_
                      · skip
                        refine sStL (.tmp 68) (.tmp 66) rfl (by rfl) r a18 _ c18 _ ((hHeld.cell (p := ⟨r, 0, none⟩) hrl).trans c3) (one_free ((hHeld.block r hrl).trans HV.out.que)) (by rfl) (by rfl) ?_
                        refine hK.out _ _ (Or.inl rfl) (fun _ => ?_)
                        clear hK K
                        try simp only [Act.put, List.setIfInBounds_toArray, List.set_cons_zero, List.set_cons_succ]
                        refine wpAnyN_done (by kernel_rfl) ?_ _
                        refine NoPanic.normal ?_
                        obtain ⟨z1, z2⟩ := HV.out.store (D := ([] : List (ByteArray × Int)).take 0 ++ [(s, t)] ++ ([] : List (ByteArray × Int)).drop 0) hHeld o18 rfl
                        have z3 := (HD.out.2.2.trans (Frm.of_below (S := fun j => j = r) bV) (fun _ h => .inl h)).trans z2 (fun _ h => .inl h)
                        go_wp2
                        all_goals
                          go_ret
                          first | exact ⟨_, ⟨rfl, _, _, z1, z3⟩, HI.out, perm_ins [] (s, t) 0⟩ | exact ⟨⟨rfl, _, _, z1, z3⟩, HI.out⟩
                      exact AllReadyN.nil
                    exact AllReadyN.nil
                  exact AllReadyN.nil
                exact AllReadyN.nil
              exact AllReadyN.nil
            exact AllReadyN.nil
          · skip
            have HV : Hid (Rq wr r (some ⟨g, o, none⟩) c2 E0) := rV
            have HT : Hid (∀ V, Below wr.heap.size wr V → SrcD V (some ⟨g, o, none⟩) k (E0.take k)) := fun V hV => by
              have := rV.row.src rfl 0 k
              rw [List.drop_zero, List.length_take, Nat.min_eq_left hk, Nat.zero_mul, Nat.add_zero] at this
              exact this.kept (cell_some hV)
            have HU : Hid (∀ V, Below wr.heap.size wr V → SrcD V (if c2 = k then some ⟨g, o, none⟩ else some ⟨g, o + k * 2, none⟩) (E0.length - k) (E0.drop k)) := fun V hV => src_from rV.row hV k
            have hcap := rV.row.1
            have x4 : (0 : Int) ≤ (k : Int) := by omega
            have x5 : (k : Int) ≤ (c2 : Int) := by omega
            have x6 : (k : Int) ≤ (E0.length : Int) := by omega
            have x7 : (E0.length : Int) ≤ (c2 : Int) := by omega
            have x8 : k ≤ c2 := by omega
            clear rV dV
            go_wp2
            refine wp_region_noPanic ?_
            refine wp_region_N (S := fun V => Below wr.heap.size wr V) 21 (by kernel_rfl) (hHeld.drew) (fun hHeld => ?_)
            refine takeN_lit (i := 0) (v := ?_) (F := #[false, true, true, true, true, true, true, true, true, true, true, true, true, true, true, true, true, true, true, false, false, false]) rfl (by kernel_rfl) (by kernel_rfl) (by kernel_rfl) (by kernel_rfl) (fun _ _ _ h => h) (Or.inl ⟨by rfl, ?_⟩) (by assumption) ?_
            rotate_left
            · (intro w hSw; (try dsimp only at hSw); go_simp <;> with_reducible rfl)
            try simp only [Act.put, List.setIfInBounds_toArray, List.set_cons_zero, List.set_cons_succ]
            refine takeN_lit (i := 2) (v := ?_) (F := #[true, true, false, false, false, false, true, false, false, true, true, false, true, true, true, true, true, true, false, false, false, false]) rfl (by kernel_rfl) (by kernel_rfl) (by kernel_rfl) (by kernel_rfl) (fun _ _ _ h => h) (Or.inl ⟨by rfl, ?_⟩) (by assumption) ?_
            rotate_left
            · (intro w hSw; (try dsimp only at hSw); go_simp <;> with_reducible rfl)
            try simp only [Act.put, List.setIfInBounds_toArray, List.set_cons_zero, List.set_cons_succ]
            refine takeN_lit (i := 3) (v := ?_) (F := #[true, true, true, false, false, false, true, false, false, true, true, false, true, true, true, true, true, true, false, false, false, false]) rfl (by kernel_rfl) (by kernel_rfl) (by kernel_rfl) (by kernel_rfl) (fun _ _ _ h => h) (Or.inl ⟨by rfl, ?_⟩) (by assumption) ?_
            rotate_left
            · (intro w hSw; (try dsimp only at hSw); go_simp <;> with_reducible rfl)
            try simp only [Act.put, List.setIfInBounds_toArray, List.set_cons_zero, List.set_cons_succ]
            refine takeN_lit (i := 4) (v := ?_) (F := #[true, true, true, true, false, false, true, false, false, true, true, false, true, true, true, true, true, true, false, false, false, false]) rfl (by kernel_rfl) (by kernel_rfl) (by kernel_rfl) (by kernel_rfl) (fun _ _ _ h => h) (Or.inl ⟨by rfl, ?_⟩) (by assumption) ?_
            rotate_left
            · (intro w hSw; (try dsimp only at hSw); go_simp <;> with_reducible rfl)
            try simp only [Act.put, List.setIfInBounds_toArray, List.set_cons_zero, List.set_cons_succ]
            refine takeN_lit (i := 5) (v := ?_) (F := #[true, true, true, true, true, false, true, false, false, true, true, false, true, true, true, true, true, true, false, false, false, false]) rfl (by kernel_rfl) (by kernel_rfl) (by kernel_rfl) (by kernel_rfl) (fun _ _ _ h => h) (Or.inl ⟨by rfl, ?_⟩) (by assumption) ?_
            rotate_left
            · (intro w hSw; (try dsimp only at hSw); have q0 := (hSw.cell (p := ⟨r, 0, none⟩) hrl).trans c3; go_simp <;> with_reducible rfl)
            try simp only [Act.put, List.setIfInBounds_toArray, List.set_cons_zero, List.set_cons_succ]
            refine takeN_lit (i := 6) (v := ?_) (F := #[true, true, true, true, true, true, false, false, false, true, true, false, true, true, true, true, true, true, false, false, false, false]) rfl (by kernel_rfl) (by kernel_rfl) (by kernel_rfl) (by kernel_rfl) (fun _ _ _ h => h) (Or.inl ⟨by rfl, ?_⟩) (by assumption) ?_
            rotate_left
            · (intro w hSw; (try dsimp only at hSw); go_simp <;> with_reducible rfl)
            try simp only [Act.put, List.setIfInBounds_toArray, List.set_cons_zero, List.set_cons_succ]
            refine takeN_lit (i := 7) (v := ?_) (F := #[true, true, true, true, true, true, true, false, false, true, true, false, true, true, true, true, true, true, false, false, false, false]) rfl (by kernel_rfl) (by kernel_rfl) (by kernel_rfl) (by kernel_rfl) (fun _ _ _ h => h) (Or.inl ⟨by rfl, ?_⟩) (by assumption) ?_
            rotate_left
            · (intro w hSw; (try dsimp only at hSw); go_simp <;> with_reducible rfl)
            try simp only [Act.put, List.setIfInBounds_toArray, List.set_cons_zero, List.set_cons_succ]
            refine takeN_lit (i := 9) (v := ?_) (F := #[true, true, true, true, true, true, true, true, true, false, false, false, true, true, true, true, true, true, false, false, false, false]) rfl (by kernel_rfl) (by kernel_rfl) (by kernel_rfl) (by kernel_rfl) (fun _ _ _ h => h) (Or.inl ⟨by rfl, ?_⟩) (by assumption) ?_
            rotate_left
            · (intro w hSw; (try dsimp only at hSw); have q0 := (hSw.cell (p := ⟨dB, 0, none⟩) hdl).trans z0; have q1 := (hSw.cell (p := ⟨dB, 1, none⟩) hdl).trans z1; go_simp <;> with_reducible rfl)
            try simp only [Act.put, List.setIfInBounds_toArray, List.set_cons_zero, List.set_cons_succ]
            refine takeN_lit (i := 12) (v := ?_) (F := #[true, true, true, true, true, true, true, true, true, true, true, true, false, false, false, false, true, false, false, false, false, false]) rfl (by kernel_rfl) (by kernel_rfl) (by kernel_rfl) (by kernel_rfl) (fun _ _ _ h => h) (Or.inl ⟨by rfl, ?_⟩) (by assumption) ?_
            rotate_left
            · (intro w hSw; (try dsimp only at hSw); go_simp <;> with_reducible rfl)
            try simp only [Act.put, List.setIfInBounds_toArray, List.set_cons_zero, List.set_cons_succ]
            refine takeN_lit (i := 13) (v := ?_) (F := #[true, true, true, true, true, true, true, true, true, true, true, true, true, false, false, false, true, false, false, false, false, false]) rfl (by kernel_rfl) (by kernel_rfl) (by kernel_rfl) (by kernel_rfl) (fun _ _ _ h => h) (Or.inl ⟨by rfl, ?_⟩) (by assumption) ?_
            rotate_left
            · (intro w hSw; (try dsimp only at hSw); go_simp <;> with_reducible rfl)
            try simp only [Act.put, List.setIfInBounds_toArray, List.set_cons_zero, List.set_cons_succ]
            refine takeN_lit (i := 14) (v := ?_) (F := #[true, true, true, true, true, true, true, true, true, true, true, true, true, true, false, false, true, false, false, false, false, false]) rfl (by kernel_rfl) (by kernel_rfl) (by kernel_rfl) (by kernel_rfl) (fun _ _ _ h => h) (Or.inl ⟨by rfl, ?_⟩) (by assumption) ?_
            rotate_left
            · (intro w hSw; (try dsimp only at hSw); go_simp <;> with_reducible rfl)
            try simp only [Act.put, List.setIfInBounds_toArray, List.set_cons_zero, List.set_cons_succ]
            refine takeN_lit (i := 15) (v := ?_) (F := #[true, true, true, true, true, true, true, true, true, true, true, true, true, true, true, false, true, false, false, false, false, false]) rfl (by kernel_rfl) (by kernel_rfl) (by kernel_rfl) (by kernel_rfl) (fun _ _ _ h => h) (Or.inl ⟨by rfl, ?_⟩) (by assumption) ?_
            rotate_left
            · (intro w hSw; (try dsimp only at hSw); have q0 := (hSw.cell (p := ⟨r, 0, none⟩) hrl).trans c3; go_simp <;> with_reducible rfl)
            try simp only [Act.put, List.setIfInBounds_toArray, List.set_cons_zero, List.set_cons_succ]
            refine takeN_lit (i := 16) (v := ?_) (F := #[true, true, true, true, true, true, true, true, true, true, true, true, true, true, true, true, false, false, false, false, false, false]) rfl (by kernel_rfl) (by kernel_rfl) (by kernel_rfl) (by kernel_rfl) (fun _ _ _ h => h) (Or.inl ⟨by rfl, ?_⟩) (by assumption) ?_
            rotate_left
            · (intro w hSw; (try dsimp only at hSw); go_simp <;> with_reducible rfl)
            try simp only [Act.put, List.setIfInBounds_toArray, List.set_cons_zero, List.set_cons_succ]
            refine takeN_lit (i := 17) (v := ?_) (F := #[true, true, true, true, true, true, true, true, true, true, true, true, true, true, true, true, true, false, false, false, false, false]) rfl (by kernel_rfl) (by kernel_rfl) (by kernel_rfl) (by kernel_rfl) (fun _ _ _ h => h) (Or.inl ⟨by rfl, ?_⟩) (by assumption) ?_
            rotate_left
            · (intro w hSw; (try dsimp only at hSw); go_simp <;> with_reducible rfl)
            try simp only [Act.put, List.setIfInBounds_toArray, List.set_cons_zero, List.set_cons_succ]
            refine wpAnyN_ready (rs := [1, 10]) (by kernel_rfl) (by simp) ?_
            refine consN_lit rfl (fun K hK => ?_) ?_
            · skip
              refine sBs0 (by rfl) rfl ?_
              intro W1 o1 b1 l1
              replace o1 := own_base o1 hHeld.size
              try replace s10 := s10.kept (cell_some b1)
              try have m10 := Nat.lt_of_lt_of_le l10 b1.size
              refine hK.out _ _ (Or.inr ?_) (fun hHeld => ?_)
              · exact hHeld.trans (b1.mono hHeld.size)
              replace hHeld := hHeld.resolve_left (by decide)
              clear hK K
              try simp only [Act.put, List.setIfInBounds_toArray, List.set_cons_zero, List.set_cons_succ]
              refine wpAnyN_ready (rs := [8, 10]) (by kernel_rfl) (by simp) ?_
              refine consN_lit rfl (fun K hK => ?_) ?_
              · skip
                refine sAppD (.tmp 49) (.tmp 55) (by rfl) rfl wr.heap.size _ 0 [] (by rfl) o1 (some ⟨g, o, none⟩) k c2 (E0.take k) (by rfl) (fun h => by cases h) (HT.out _ hHeld) (by have := HS.out.2; omega) hHeld.size ?_
                intro v8 W8 o8 g8
                rw [Nat.zero_add, List.nil_append] at o8
                try replace s10 := s10.grown g8 (by intro e; simp only [Value.ownBlock, Option.some.injEq] at e; omega) (by omega)
                refine hK.out _ _ (Or.inr ?_) (fun hHeld => ?_)
                · exact hHeld.grown g8 hHeld.size (fun j hj => ownS_base o1 j hj)
                replace hHeld := hHeld.resolve_left (by decide)
                clear hK K
                try simp only [Act.put, List.setIfInBounds_toArray, List.set_cons_zero, List.set_cons_succ]
                refine wpAnyN_ready (rs := [10]) (by kernel_rfl) (by simp) ?_
                refine consN_lit rfl (fun K hK => ?_) ?_
                · skip
                  refine sBs1 (.tmp 57) s t (by rfl) rfl (by rfl) ?_
                  intro W10 s10 b10 l10
                  try replace o8 := ownS_below o8 b10
                  try replace o1 := ownS_below o1 b10
                  refine hK.out _ _ (Or.inr ?_) (fun hHeld => ?_)
                  · exact hHeld.trans (b10.mono hHeld.size)
                  replace hHeld := hHeld.resolve_left (by decide)
                  clear hK K
                  try simp only [Act.put, List.setIfInBounds_toArray, List.set_cons_zero, List.set_cons_succ]
                  refine wpAnyN_ready (rs := [11]) (by kernel_rfl) (by simp) ?_
                  refine consN_lit rfl (fun K hK => ?_) ?_
                  · skip
                    refine sAppD (.tmp 56) (.tmp 58) (by rfl) rfl wr.heap.size v8 k (E0.take k) (by rfl) o8 (some ⟨_, 0, none⟩) 1 1 [(s, t)] (by rfl) (fun h => by cases h) s10 (by have := HS.out.2; omega) hHeld.size ?_
                    intro v11 W11 o11 g11
                    refine hK.out _ _ (Or.inr ?_) (fun hHeld => ?_)
                    · exact hHeld.grown g11 hHeld.size (fun j hj => ownS_base o8 j hj)
                    replace hHeld := hHeld.resolve_left (by decide)
                    clear hK K
                    try simp only [Act.put, List.setIfInBounds_toArray, List.set_cons_zero, List.set_cons_succ]
                    refine wpAnyN_ready (rs := [18]) (by kernel_rfl) (by simp) ?_
                    refine consN_lit rfl (fun K hK => ?_) ?_
                    · skip
                      refine sAppD (.tmp 59) (.tmp 65) (by rfl) rfl wr.heap.size v11 (k + 1) (E0.take k ++ [(s, t)]) (by rfl) o11 (if c2 = k then some ⟨g, o, none⟩ else some ⟨g, o + k * 2, none⟩) (E0.length - k) (c2 - k) (E0.drop k) (by rfl) (fun h => absurd h ite_some) (HU.out _ hHeld) (by have := HS.out.2; omega) hHeld.size ?_
                      intro v18 W18 o18 g18
                      obtain ⟨a18, c18, rfl⟩ := ownS_shape o18
                      refine hK.out _ _ (Or.inr ?_) (fun hHeld => ?_)
                      · exact hHeld.grown g18 hHeld.size (fun j hj => ownS_base o11 j hj)
                      replace hHeld := hHeld.resolve_left (by decide)
                      clear hK K
                      try simp only [Act.put, List.setIfInBounds_toArray, List.set_cons_zero, List.set_cons_succ]
                      refine takeN_lit (i := 19) (v := ?_) (F := #[true, true, true, true, true, true, true, true, true, true, true, true, true, true, true, true, true, true, true, false, false, false]) rfl (by kernel_rfl) (by kernel_rfl) (by kernel_rfl) (by kernel_rfl) (fun _ _ _ h => h) (Or.inl ⟨by rfl, ?_⟩) (by assumption) ?_
                      rotate_left
                      · (intro w hSw; (try dsimp only at hSw); go_simp <;> with_reducible rfl)
                      try simp only [Act.put, List.setIfInBounds_toArray, List.set_cons_zero, List.set_cons_succ]
                      refine takeN_lit (i := 20) (v := ?_) (F := #[true, true, true, true, true, true, true, true, true, true, true, true, true, true, true, true, true, true, true, true, false, false]) rfl (by kernel_rfl) (by kernel_rfl) (by kernel_rfl) (by kernel_rfl) (fun _ _ _ h => h) (Or.inl ⟨by rfl, ?_⟩) (by assumption) ?_
                      rotate_left
                      · (intro w hSw; (try dsimp only at hSw); go_simp <;> with_reducible rfl)
                      try simp only [Act.put, List.setIfInBounds_toArray, List.set_cons_zero, List.set_cons_succ]
                      refine wpAnyN_ready (rs := [21]) (by kernel_rfl) (by simp) ?_
                      refine consN_lit rfl (fun K hK => ?_) ?_
                      · skip
                        refine sStL (.tmp 68) (.tmp 66) rfl (by rfl) r a18 _ c18 _ ((hHeld.cell (p := ⟨r, 0, none⟩) hrl).trans c3) (one_free ((hHeld.block r hrl).trans HV.out.que)) (by rfl) (by rfl) ?_
                        refine hK.out _ _ (Or.inl rfl) (fun _ => ?_)
                        clear hK K
                        try simp only [Act.put, List.setIfInBounds_toArray, List.set_cons_zero, List.set_cons_succ]
                        refine wpAnyN_done (by kernel_rfl) ?_ _
                        refine NoPanic.normal ?_
                        obtain ⟨z1, z2⟩ := HV.out.store (D := E0.take k ++ [(s, t)] ++ E0.drop k) hHeld o18 (by simp; omega)
                        have z3 := (HD.out.2.2.trans (Frm.of_below (S := fun j => j = r) bV) (fun _ h => .inl h)).trans z2 (fun _ h => .inl h)
                        go_wp2
                        all_goals
                          go_ret
                          first | exact ⟨_, ⟨rfl, _, _, z1, z3⟩, HI.out, perm_ins E0 (s, t) k⟩ | exact ⟨⟨rfl, _, _, z1, z3⟩, HI.out⟩
                      exact AllReadyN.nil
                    exact AllReadyN.nil
                  exact AllReadyN.nil
                exact AllReadyN.nil
              refine consN_lit rfl (fun K hK => ?_) ?_
              · skip
                refine sBs1 (.tmp 57) s t (by rfl) rfl (by rfl) ?_
                intro W10 s10 b10 l10
                try replace o8 := ownS_below o8 b10
                try replace o1 := ownS_below o1 b10
                refine hK.out _ _ (Or.inr ?_) (fun hHeld => ?_)
                · exact hHeld.trans (b10.mono hHeld.size)
                replace hHeld := hHeld.resolve_left (by decide)
                clear hK K
                try simp only [Act.put, List.setIfInBounds_toArray, List.set_cons_zero, List.set_cons_succ]
                refine wpAnyN_ready (rs := [8]) (by kernel_rfl) (by simp) ?_
                refine consN_lit rfl (fun K hK => ?_) ?_
                · skip
                  refine sAppD (.tmp 49) (.tmp 55) (by rfl) rfl wr.heap.size _ 0 [] (by rfl) o1 (some ⟨g, o, none⟩) k c2 (E0.take k) (by rfl) (fun h => by cases h) (HT.out _ hHeld) (by have := HS.out.2; omega) hHeld.size ?_
                  intro v8 W8 o8 g8
                  rw [Nat.zero_add, List.nil_append] at o8
                  try replace s10 := s10.grown g8 (by intro e; simp only [Value.ownBlock, Option.some.injEq] at e; omega) (by omega)
                  refine hK.out _ _ (Or.inr ?_) (fun hHeld => ?_)
                  · exact hHeld.grown g8 hHeld.size (fun j hj => ownS_base o1 j hj)
                  replace hHeld := hHeld.resolve_left (by decide)
                  clear hK K
                  try simp only [Act.put, List.setIfInBounds_toArray, List.set_cons_zero, List.set_cons_succ]
                  refine wpAnyN_ready (rs := [11]) (by kernel_rfl) (by simp) ?_
                  refine consN_lit rfl (fun K hK => ?_) ?_
                  · skip
                    refine sAppD (.tmp 56) (.tmp 58) (by rfl) rfl wr.heap.size v8 k (E0.take k) (by rfl) o8 (some ⟨_, 0, none⟩) 1 1 [(s, t)] (by rfl) (fun h => by cases h) s10 (by have := HS.out.2; omega) hHeld.size ?_
                    intro v11 W11 o11 g11
                    refine hK.out _ _ (Or.inr ?_) (fun hHeld => ?_)
                    · exact hHeld.grown g11 hHeld.size (fun j hj => ownS_base o8 j hj)
                    replace hHeld := hHeld.resolve_left (by decide)
                    clear hK K
                    try simp only [Act.put, List.setIfInBounds_toArray, List.set_cons_zero, List.set_cons_succ]
                    refine wpAnyN_ready (rs := [18]) (by kernel_rfl) (by simp) ?_
                    refine consN_lit rfl (fun K hK => ?_) ?_
                    · skip
                      refine sAppD (.tmp 59) (.tmp 65) (by rfl) rfl wr.heap.size v11 (k + 1) (E0.take k ++ [(s, t)]) (by rfl) o11 (if c2 = k then some ⟨g, o, none⟩ else some ⟨g, o + k * 2, none⟩) (E0.length - k) (c2 - k) (E0.drop k) (by rfl) (fun h => absurd h ite_some) (HU.out _ hHeld) (by have := HS.out.2; omega) hHeld.size ?_
                      intro v18 W18 o18 g18
                      obtain ⟨a18, c18, rfl⟩ := ownS_shape o18
                      refine hK.out _ _ (Or.inr ?_) (fun hHeld => ?_)
                      · exact hHeld.grown g18 hHeld.size (fun j hj => ownS_base o11 j hj)
                      replace hHeld := hHeld.resolve_left (by decide)
                      clear hK K
                      try simp only [Act.put, List.setIfInBounds_toArray, List.set_cons_zero, List.set_cons_succ]
                      refine takeN_lit (i := 19) (v := ?_) (F := #[true, true, true, true, true, true, true, true, true, true, true, true, true, true, true, true, true, true, true, false, false, false]) rfl (by kernel_rfl) (by kernel_rfl) (by kernel_rfl) (by kernel_rfl) (fun _ _ _ h => h) (Or.inl ⟨by rfl, ?_⟩) (by assumption) ?_
                      rotate_left
                      · (intro w hSw; (try dsimp only at hSw); go_simp <;> with_reducible rfl)
                      try simp only [Act.put, List.setIfInBounds_toArray, List.set_cons_zero, List.set_cons_succ]
                      refine takeN_lit (i := 20) (v := ?_) (F := #[true, true, true, true, true, true, true, true, true, true, true, true, true, true, true, true, true, true, true, true, false, false]) rfl (by kernel_rfl) (by kernel_rfl) (by kernel_rfl) (by kernel_rfl) (fun _ _ _ h => h) (Or.inl ⟨by rfl, ?_⟩) (by assumption) ?_
                      rotate_left
                      · (intro w hSw; (try dsimp only at hSw); go_simp <;> with_reducible rfl)
                      try simp only [Act.put, List.setIfInBounds_toArray, List.set_cons_zero, List.set_cons_succ]
                      refine wpAnyN_ready (rs := [21]) (by kernel_rfl) (by simp) ?_
                      refine consN_lit rfl (fun K hK => ?_) ?_
                      · skip
                        refine sStL (.tmp 68) (.tmp 66) rfl (by rfl) r a18 _ c18 _ ((hHeld.cell (p := ⟨r, 0, none⟩) hrl).trans c3) (one_free ((hHeld.block r hrl).trans HV.out.que)) (by rfl) (by rfl) ?_
                        refine hK.out _ _ (Or.inl rfl) (fun _ => ?_)
                        clear hK K
                        try simp only [Act.put, List.setIfInBounds_toArray, List.set_cons_zero, List.set_cons_succ]
                        refine wpAnyN_done (by kernel_rfl) ?_ _
                        refine NoPanic.normal ?_
                        obtain ⟨z1, z2⟩ := HV.out.store (D := E0.take k ++ [(s, t)] ++ E0.drop k) hHeld o18 (by simp; omega)
                        have z3 := (HD.out.2.2.trans (Frm.of_below (S := fun j => j = r) bV) (fun _ h => .inl h)).trans z2 (fun _ h => .inl h)
                        go_wp2
                        all_goals
                          go_ret
                          first | exact ⟨_, ⟨rfl, _, _, z1, z3⟩, HI.out, perm_ins E0 (s, t) k⟩ | exact ⟨⟨rfl, _, _, z1, z3⟩, HI.out⟩
                      exact AllReadyN.nil
                    exact AllReadyN.nil
                  exact AllReadyN.nil
                exact AllReadyN.nil
              exact AllReadyN.nil
            refine consN_lit rfl (fun K hK => ?_) ?_
            · skip
              refine sBs1 (.tmp 57) s t (by rfl) rfl (by rfl) ?_
              intro W10 s10 b10 l10
              try replace o8 := ownS_below o8 b10
              try replace o1 := ownS_below o1 b10
              refine hK.out _ _ (Or.inr ?_) (fun hHeld => ?_)
              · exact hHeld.trans (b10.mono hHeld.size)
              replace hHeld := hHeld.resolve_left (by decide)
              clear hK K
              try simp only [Act.put, List.setIfInBounds_toArray, List.set_cons_zero, List.set_cons_succ]
              refine wpAnyN_ready (rs := [1]) (by kernel_rfl) (by simp) ?_
              refine consN_lit rfl (fun K hK => ?_) ?_
              · skip
                refine sBs0 (by rfl) rfl ?_
                intro W1 o1 b1 l1
                replace o1 := own_base o1 hHeld.size
                try replace s10 := s10.kept (cell_some b1)
                try have m10 := Nat.lt_of_lt_of_le l10 b1.size
                refine hK.out _ _ (Or.inr ?_) (fun hHeld => ?_)
                · exact hHeld.trans (b1.mono hHeld.size)
                replace hHeld := hHeld.resolve_left (by decide)
                clear hK K
                try simp only [Act.put, List.setIfInBounds_toArray, List.set_cons_zero, List.set_cons_succ]
                refine wpAnyN_ready (rs := [8]) (by kernel_rfl) (by simp) ?_
                refine consN_lit rfl (fun K hK => ?_) ?_
                · skip
                  refine sAppD (.tmp 49) (.tmp 55) (by rfl) rfl wr.heap.size _ 0 [] (by rfl) o1 (some ⟨g, o, none⟩) k c2 (E0.take k) (by rfl) (fun h => by cases h) (HT.out _ hHeld) (by have := HS.out.2; omega) hHeld.size ?_
                  intro v8 W8 o8 g8
                  rw [Nat.zero_add, List.nil_append] at o8
                  try replace s10 := s10.grown g8 (by intro e; simp only [Value.ownBlock, Option.some.injEq] at e; omega) (by omega)
                  refine hK.out _ _ (Or.inr ?_) (fun hHeld => ?_)
                  · exact hHeld.grown g8 hHeld.size (fun j hj => ownS_base o1 j hj)
                  replace hHeld := hHeld.resolve_left (by decide)
                  clear hK K
                  try simp only [Act.put, List.setIfInBounds_toArray, List.set_cons_zero, List.set_cons_succ]
                  refine wpAnyN_ready (rs := [11]) (by kernel_rfl) (by simp) ?_
                  refine consN_lit rfl (fun K hK => ?_) ?_
                  · skip
                    refine sAppD (.tmp 56) (.tmp 58) (by rfl) rfl wr.heap.size v8 k (E0.take k) (by rfl) o8 (some ⟨_, 0, none⟩) 1 1 [(s, t)] (by rfl) (fun h => by cases h) s10 (by have := HS.out.2; omega) hHeld.size ?_
                    intro v11 W11 o11 g11
                    refine hK.out _ _ (Or.inr ?_) (fun hHeld => ?_)
                    · exact hHeld.grown g11 hHeld.size (fun j hj => ownS_base o8 j hj)
                    replace hHeld := hHeld.resolve_left (by decide)
                    clear hK K
                    try simp only [Act.put, List.setIfInBounds_toArray, List.set_cons_zero, List.set_cons_succ]
                    refine wpAnyN_ready (rs := [18]) (by kernel_rfl) (by simp) ?_
                    refine consN_lit rfl (fun K hK => ?_) ?_
                    · skip
                      refine sAppD (.tmp 59) (.tmp 65) (by rfl) rfl wr.heap.size v11 (k + 1) (E0.take k ++ [(s, t)]) (by rfl) o11 (if c2 = k then some ⟨g, o, none⟩ else some ⟨g, o + k * 2, none⟩) (E0.length - k) (c2 - k) (E0.drop k) (by rfl) (fun h => absurd h ite_some) (HU.out _ hHeld) (by have := HS.out.2; omega) hHeld.size ?_
                      intro v18 W18 o18 g18
                      obtain ⟨a18, c18, rfl⟩ := ownS_shape o18
                      refine hK.out _ _ (Or.inr ?_) (fun hHeld => ?_)
                      · exact hHeld.grown g18 hHeld.size (fun j hj => ownS_base o11 j hj)
                      replace hHeld := hHeld.resolve_left (by decide)
                      clear hK K
                      try simp only [Act.put, List.setIfInBounds_toArray, List.set_cons_zero, List.set_cons_succ]
                      refine takeN_lit (i := 19) (v := ?_) (F := #[true, true, true, true, true, true, true, true, true, true, true, true, true, true, true, true, true, true, true, false, false, false]) rfl (by kernel_rfl) (by kernel_rfl) (by kernel_rfl) (by kernel_rfl) (fun _ _ _ h => h) (Or.inl ⟨by rfl, ?_⟩) (by assumption) ?_
                      rotate_left
                      · (intro w hSw; (try dsimp only at hSw); go_simp <;> with_reducible rfl)
                      try simp only [Act.put, List.setIfInBounds_toArray, List.set_cons_zero, List.set_cons_succ]
                      refine takeN_lit (i := 20) (v := ?_) (F := #[true, true, true, true, true, true, true, true, true, true, true, true, true, true, true, true, true, true, true, true, false, false]) rfl (by kernel_rfl) (by kernel_rfl) (by kernel_rfl) (by kernel_rfl) (fun _ _ _ h => h) (Or.inl ⟨by rfl, ?_⟩) (by assumption) ?_
                      rotate_left
                      · (intro w hSw; (try dsimp only at hSw); go_simp <;> with_reducible rfl)
                      try simp only [Act.put, List.setIfInBounds_toArray, List.set_cons_zero, List.set_cons_succ]
                      refine wpAnyN_ready (rs := [21]) (by kernel_rfl) (by simp) ?_
                      refine consN_lit rfl (fun K hK => ?_) ?_
                      · skip
                        refine sStL (.tmp 68) (.tmp 66) rfl (by rfl) r a18 _ c18 _ ((hHeld.cell (p := ⟨r, 0, none⟩) hrl).trans c3) (one_free ((hHeld.block r hrl).trans HV.out.que)) (by rfl) (by rfl) ?_
                        refine hK.out _ _ (Or.inl rfl) (fun _ => ?_)
                        clear hK K
                        try simp only [Act.put, List.setIfInBounds_toArray, List.set_cons_zero, List.set_cons_succ]
                        refine wpAnyN_done (by kernel_rfl) ?_ _
                        refine NoPanic.normal ?_
                        obtain ⟨z1, z2⟩ := HV.out.store (D := E0.take k ++ [(s, t)] ++ E0.drop k) hHeld o18 (by simp; omega)
                        have z3 := (HD.out.2.2.trans (Frm.of_below (S := fun j => j = r) bV) (fun _ h => .inl h)).trans z2 (fun _ h => .inl h)
                        go_wp2
                        all_goals
                          go_ret
                          first | exact ⟨_, ⟨rfl, _, _, z1, z3⟩, HI.out, perm_ins E0 (s, t) k⟩ | exact ⟨⟨rfl, _, _, z1, z3⟩, HI.out⟩
                      exact AllReadyN.nil
                    exact AllReadyN.nil
                  exact AllReadyN.nil
                exact AllReadyN.nil
              exact AllReadyN.nil
            exact AllReadyN.nil
        · have hk0' : (0 : Int) < (k : Int) := by omega
          have hkn : 0 < k := by omega
          obtain ⟨g, o, rfl, y0, y1⟩ := rV.row.dues (k - 1) (by omega)
          have haB : ahB (s, t) (E0[k - 1]'(by omega)) = false := by
            cases hq : ahB (s, t) (E0[k - 1]'(by omega)) with
            | false => rfl
            | true => exact absurd ((ahB_iff _ _).1 hq) (HG.out (by omega) (by omega))
          obtain ⟨x, hx⟩ : ∃ x, E0[k - 1]'(by omega) = x := ⟨_, rfl⟩
          rw [hx] at y0 y1 haB
          have hw : wrap64 ((k : Int) - 1) = (k : Int) - 1 := by have := HS.out.2; unfold wrap64; omega
          have hw2 : IntKind.i64.wrap ((k : Int) - 1) = (k : Int) - 1 := (IntWalk.i64_left _).trans hw
          have hn1 : ((k : Int) - 1).toNat = k - 1 := by omega
          have x1 : (0 : Int) ≤ (k : Int) - 1 := by omega
          have x2 : (k : Int) - 1 < (E0.length : Int) := by omega
          have x3 : (1 : Int) ≤ (k : Int) := by omega
          have bD : Below wr.heap.size wr wr.drew := (Below.refl _ _).drew
          clear hgo HK HG hx
          go_wp2
          refine wp_region_noPanic ?_
          refine wp_region_held_drew (S := fun V => Below wr.heap.size wr V) (by kernel_rfl) (bD) (fun hHeld => ?_)
          refine take_lit (i := 0) (v := ?_) rfl (by kernel_rfl) (by kernel_rfl) (by kernel_rfl) (fun _ _ _ h => h) (Or.inl ⟨by rfl, ?_⟩) (by assumption) ?_
          rotate_left
          · (intro w hSw; (try dsimp only at hSw); go_simp <;> with_reducible rfl)
          try simp only [Act.put, List.setIfInBounds_toArray, List.set_cons_zero, List.set_cons_succ]
          refine take_lit (i := 1) (v := ?_) rfl (by kernel_rfl) (by kernel_rfl) (by kernel_rfl) (fun _ _ _ h => h) (Or.inl ⟨by rfl, ?_⟩) (by assumption) ?_
          rotate_left
          · (intro w hSw; (try dsimp only at hSw); go_simp <;> with_reducible rfl)
          try simp only [Act.put, List.setIfInBounds_toArray, List.set_cons_zero, List.set_cons_succ]
          refine take_lit (i := 2) (v := ?_) rfl (by kernel_rfl) (by kernel_rfl) (by kernel_rfl) (fun _ _ _ h => h) (Or.inl ⟨by rfl, ?_⟩) (by assumption) ?_
          rotate_left
          · (intro w hSw; (try dsimp only at hSw); go_simp <;> with_reducible rfl)
          try simp only [Act.put, List.setIfInBounds_toArray, List.set_cons_zero, List.set_cons_succ]
          refine take_lit (i := 3) (v := ?_) rfl (by kernel_rfl) (by kernel_rfl) (by kernel_rfl) (fun _ _ _ h => h) (Or.inl ⟨by rfl, ?_⟩) (by assumption) ?_
          rotate_left
          · (intro w hSw; (try dsimp only at hSw); have q0 := (hSw.cell (p := ⟨dB, 0, none⟩) hdl).trans z0; have q1 := (hSw.cell (p := ⟨dB, 1, none⟩) hdl).trans z1; go_simp <;> with_reducible rfl)
          try simp only [Act.put, List.setIfInBounds_toArray, List.set_cons_zero, List.set_cons_succ]
          refine take_lit (i := 4) (v := ?_) rfl (by kernel_rfl) (by kernel_rfl) (by kernel_rfl) (fun _ _ _ h => h) (Or.inl ⟨by rfl, ?_⟩) (by assumption) ?_
          rotate_left
          · (intro w hSw; (try dsimp only at hSw); go_simp <;> with_reducible rfl)
          try simp only [Act.put, List.setIfInBounds_toArray, List.set_cons_zero, List.set_cons_succ]
          refine take_lit (i := 5) (v := ?_) rfl (by kernel_rfl) (by kernel_rfl) (by kernel_rfl) (fun _ _ _ h => h) (Or.inl ⟨by rfl, ?_⟩) (by assumption) ?_
          rotate_left
          · (intro w hSw; (try dsimp only at hSw); go_simp <;> with_reducible rfl)
          try simp only [Act.put, List.setIfInBounds_toArray, List.set_cons_zero, List.set_cons_succ]
          refine take_lit (i := 6) (v := ?_) rfl (by kernel_rfl) (by kernel_rfl) (by kernel_rfl) (fun _ _ _ h => h) (Or.inl ⟨by rfl, ?_⟩) (by assumption) ?_
          rotate_left
          · (intro w hSw; (try dsimp only at hSw); go_simp <;> with_reducible rfl)
          try simp only [Act.put, List.setIfInBounds_toArray, List.set_cons_zero, List.set_cons_succ]
          refine take_lit (i := 7) (v := ?_) rfl (by kernel_rfl) (by kernel_rfl) (by kernel_rfl) (fun _ _ _ h => h) (Or.inl ⟨by rfl, ?_⟩) (by assumption) ?_
          rotate_left
          · (intro w hSw; (try dsimp only at hSw); have q0 := (hSw.cell (p := ⟨r, 0, none⟩) hrl).trans c3; go_simp <;> with_reducible rfl)
          try simp only [Act.put, List.setIfInBounds_toArray, List.set_cons_zero, List.set_cons_succ]
          refine take_lit (i := 8) (v := ?_) rfl (by kernel_rfl) (by kernel_rfl) (by kernel_rfl) (fun _ _ _ h => h) (Or.inl ⟨by rfl, ?_⟩) (by assumption) ?_
          rotate_left
          · (intro w hSw; (try dsimp only at hSw); go_simp <;> with_reducible rfl)
          try simp only [Act.put, List.setIfInBounds_toArray, List.set_cons_zero, List.set_cons_succ]
          refine take_lit (i := 9) (v := ?_) rfl (by kernel_rfl) (by kernel_rfl) (by kernel_rfl) (fun _ _ _ h => h) (Or.inl ⟨by rfl, ?_⟩) (by assumption) ?_
          rotate_left
          · (intro w hSw; (try dsimp only at hSw); go_simp <;> with_reducible rfl)
          try simp only [Act.put, List.setIfInBounds_toArray, List.set_cons_zero, List.set_cons_succ]
          refine take_lit (i := 10) (v := ?_) rfl (by kernel_rfl) (by kernel_rfl) (by kernel_rfl) (fun _ _ _ h => h) (Or.inl ⟨by rfl, ?_⟩) (by assumption) ?_
          rotate_left
          · (intro w hSw; (try dsimp only at hSw); go_simp <;> with_reducible rfl)
          try simp only [Act.put, List.setIfInBounds_toArray, List.set_cons_zero, List.set_cons_succ]
          refine take_lit (i := 11) (v := ?_) rfl (by kernel_rfl) (by kernel_rfl) (by kernel_rfl) (fun _ _ _ h => h) (Or.inl ⟨by rfl, ?_⟩) (by assumption) ?_
          rotate_left
          · (intro w hSw; (try dsimp only at hSw); have q0 := (hSw.cell (p := ⟨g, o + (k - 1) * 2, none⟩) (World.block_lt_of_cell? _ _ y0)).trans y0; have q1 := (hSw.cell (p := ⟨g, o + (k - 1) * 2 + 1, none⟩) (World.block_lt_of_cell? _ _ y1)).trans y1; go_simp <;> with_reducible rfl)
          try simp only [Act.put, List.setIfInBounds_toArray, List.set_cons_zero, List.set_cons_succ]
          refine wpAnyH_ready (rs := [12]) (by kernel_rfl) (by simp) ?_
          refine cons_lit rfl (fun K hK => ?_) ?_
          · go_simp
            refine (ahead_any (s, t) x _).mono ?_
            rintro e w4 ⟨rfl, b4⟩
            rw [haB]
            refine hK.out _ _ ?_ (fun hHeld => ?_)
            · exact hHeld.trans (b4.mono hHeld.size)
            clear hK K
            try simp only [Act.put, List.setIfInBounds_toArray, List.set_cons_zero, List.set_cons_succ]
            refine take_lit (i := 13) (v := ?_) rfl (by kernel_rfl) (by kernel_rfl) (by kernel_rfl) (fun _ _ _ h => h) (Or.inl ⟨by rfl, ?_⟩) (by assumption) ?_
            rotate_left
            · (intro w hSw; (try dsimp only at hSw); go_simp <;> with_reducible rfl)
            try simp only [Act.put, List.setIfInBounds_toArray, List.set_cons_zero, List.set_cons_succ]
            refine wpAnyH_done (by kernel_rfl) ?_ _
            refine NoPanic.normal ?_
            have HV : Hid (Rq wr r (some ⟨g, o, none⟩) c2 E0) := rV
            have HT : Hid (∀ V, Below wr.heap.size wr V → SrcD V (some ⟨g, o, none⟩) k (E0.take k)) := fun V hV => by
              have := rV.row.src rfl 0 k
              rw [List.drop_zero, List.length_take, Nat.min_eq_left hk, Nat.zero_mul, Nat.add_zero] at this
              exact this.kept (cell_some hV)
            have HU : Hid (∀ V, Below wr.heap.size wr V → SrcD V (if c2 = k then some ⟨g, o, none⟩ else some ⟨g, o + k * 2, none⟩) (E0.length - k) (E0.drop k)) := fun V hV => src_from rV.row hV k
            have hcap := rV.row.1
            have x4 : (0 : Int) ≤ (k : Int) := by omega
            have x5 : (k : Int) ≤ (c2 : Int) := by omega
            have x6 : (k : Int) ≤ (E0.length : Int) := by omega
            have x7 : (E0.length : Int) ≤ (c2 : Int) := by omega
            have x8 : k ≤ c2 := by omega
            clear rV dV
            go_wp2
            refine wp_region_noPanic ?_
            refine wp_region_N (S := fun V => Below wr.heap.size wr V) 21 (by kernel_rfl) (hHeld.drew) (fun hHeld => ?_)
            refine takeN_lit (i := 0) (v := ?_) (F := #[false, true, true, true, true, true, true, true, true, true, true, true, true, true, true, true, true, true, true, false, false, false]) rfl (by kernel_rfl) (by kernel_rfl) (by kernel_rfl) (by kernel_rfl) (fun _ _ _ h => h) (Or.inl ⟨by rfl, ?_⟩) (by assumption) ?_
            rotate_left
            · (intro w hSw; (try dsimp only at hSw); go_simp <;> with_reducible rfl)
            try simp only [Act.put, List.setIfInBounds_toArray, List.set_cons_zero, List.set_cons_succ]
            refine takeN_lit (i := 2) (v := ?_) (F := #[true, true, false, false, false, false, true, false, false, true, true, false, true, true, true, true, true, true, false, false, false, false]) rfl (by kernel_rfl) (by kernel_rfl) (by kernel_rfl) (by kernel_rfl) (fun _ _ _ h => h) (Or.inl ⟨by rfl, ?_⟩) (by assumption) ?_
            rotate_left
            · (intro w hSw; (try dsimp only at hSw); go_simp <;> with_reducible rfl)
            try simp only [Act.put, List.setIfInBounds_toArray, List.set_cons_zero, List.set_cons_succ]
            refine takeN_lit (i := 3) (v := ?_) (F := #[true, true, true, false, false, false, true, false, false, true, true, false, true, true, true, true, true, true, false, false, false, false]) rfl (by kernel_rfl) (by kernel_rfl) (by kernel_rfl) (by kernel_rfl) (fun _ _ _ h => h) (Or.inl ⟨by rfl, ?_⟩) (by assumption) ?_
            rotate_left
            · (intro w hSw; (try dsimp only at hSw); go_simp <;> with_reducible rfl)
            try simp only [Act.put, List.setIfInBounds_toArray, List.set_cons_zero, List.set_cons_succ]
            refine takeN_lit (i := 4) (v := ?_) (F := #[true, true, true, true, false, false, true, false, false, true, true, false, true, true, true, true, true, true, false, false, false, false]) rfl (by kernel_rfl) (by kernel_rfl) (by kernel_rfl) (by kernel_rfl) (fun _ _ _ h => h) (Or.inl ⟨by rfl, ?_⟩) (by assumption) ?_
            rotate_left
            · (intro w hSw; (try dsimp only at hSw); go_simp <;> with_reducible rfl)
            try simp only [Act.put, List.setIfInBounds_toArray, List.set_cons_zero, List.set_cons_succ]
            refine takeN_lit (i := 5) (v := ?_) (F := #[true, true, true, true, true, false, true, false, false, true, true, false, true, true, true, true, true, true, false, false, false, false]) rfl (by kernel_rfl) (by kernel_rfl) (by kernel_rfl) (by kernel_rfl) (fun _ _ _ h => h) (Or.inl ⟨by rfl, ?_⟩) (by assumption) ?_
            rotate_left
            · (intro w hSw; (try dsimp only at hSw); have q0 := (hSw.cell (p := ⟨r, 0, none⟩) hrl).trans c3; go_simp <;> with_reducible rfl)
            try simp only [Act.put, List.setIfInBounds_toArray, List.set_cons_zero, List.set_cons_succ]
            refine takeN_lit (i := 6) (v := ?_) (F := #[true, true, true, true, true, true, false, false, false, true, true, false, true, true, true, true, true, true, false, false, false, false]) rfl (by kernel_rfl) (by kernel_rfl) (by kernel_rfl) (by kernel_rfl) (fun _ _ _ h => h) (Or.inl ⟨by rfl, ?_⟩) (by assumption) ?_
            rotate_left
            · (intro w hSw; (try dsimp only at hSw); go_simp <;> with_reducible rfl)
            try simp only [Act.put, List.setIfInBounds_toArray, List.set_cons_zero, List.set_cons_succ]
            refine takeN_lit (i := 7) (v := ?_) (F := #[true, true, true, true, true, true, true, false, false, true, true, false, true, true, true, true, true, true, false, false, false, false]) rfl (by kernel_rfl) (by kernel_rfl) (by kernel_rfl) (by kernel_rfl) (fun _ _ _ h => h) (Or.inl ⟨by rfl, ?_⟩) (by assumption) ?_
            rotate_left
            · (intro w hSw; (try dsimp only at hSw); go_simp <;> with_reducible rfl)
            try simp only [Act.put, List.setIfInBounds_toArray, List.set_cons_zero, List.set_cons_succ]
            refine takeN_lit (i := 9) (v := ?_) (F := #[true, true, true, true, true, true, true, true, true, false, false, false, true, true, true, true, true, true, false, false, false, false]) rfl (by kernel_rfl) (by kernel_rfl) (by kernel_rfl) (by kernel_rfl) (fun _ _ _ h => h) (Or.inl ⟨by rfl, ?_⟩) (by assumption) ?_
            rotate_left
            · (intro w hSw; (try dsimp only at hSw); have q0 := (hSw.cell (p := ⟨dB, 0, none⟩) hdl).trans z0; have q1 := (hSw.cell (p := ⟨dB, 1, none⟩) hdl).trans z1; go_simp <;> with_reducible rfl)
            try simp only [Act.put, List.setIfInBounds_toArray, List.set_cons_zero, List.set_cons_succ]
            refine takeN_lit (i := 12) (v := ?_) (F := #[true, true, true, true, true, true, true, true, true, true, true, true, false, false, false, false, true, false, false, false, false, false]) rfl (by kernel_rfl) (by kernel_rfl) (by kernel_rfl) (by kernel_rfl) (fun _ _ _ h => h) (Or.inl ⟨by rfl, ?_⟩) (by assumption) ?_
            rotate_left
            · (intro w hSw; (try dsimp only at hSw); go_simp <;> with_reducible rfl)
            try simp only [Act.put, List.setIfInBounds_toArray, List.set_cons_zero, List.set_cons_succ]
            refine takeN_lit (i := 13) (v := ?_) (F := #[true, true, true, true, true, true, true, true, true, true, true, true, true, false, false, false, true, false, false, false, false, false]) rfl (by kernel_rfl) (by kernel_rfl) (by kernel_rfl) (by kernel_rfl) (fun _ _ _ h => h) (Or.inl ⟨by rfl, ?_⟩) (by assumption) ?_
            rotate_left
            · (intro w hSw; (try dsimp only at hSw); go_simp <;> with_reducible rfl)
            try simp only [Act.put, List.setIfInBounds_toArray, List.set_cons_zero, List.set_cons_succ]
            refine takeN_lit (i := 14) (v := ?_) (F := #[true, true, true, true, true, true, true, true, true, true, true, true, true, true, false, false, true, false, false, false, false, false]) rfl (by kernel_rfl) (by kernel_rfl) (by kernel_rfl) (by kernel_rfl) (fun _ _ _ h => h) (Or.inl ⟨by rfl, ?_⟩) (by assumption) ?_
            rotate_left
            · (intro w hSw; (try dsimp only at hSw); go_simp <;> with_reducible rfl)
            try simp only [Act.put, List.setIfInBounds_toArray, List.set_cons_zero, List.set_cons_succ]
            refine takeN_lit (i := 15) (v := ?_) (F := #[true, true, true, true, true, true, true, true, true, true, true, true, true, true, true, false, true, false, false, false, false, false]) rfl (by kernel_rfl) (by kernel_rfl) (by kernel_rfl) (by kernel_rfl) (fun _ _ _ h => h) (Or.inl ⟨by rfl, ?_⟩) (by assumption) ?_
            rotate_left
            · (intro w hSw; (try dsimp only at hSw); have q0 := (hSw.cell (p := ⟨r, 0, none⟩) hrl).trans c3; go_simp <;> with_reducible rfl)
            try simp only [Act.put, List.setIfInBounds_toArray, List.set_cons_zero, List.set_cons_succ]
            refine takeN_lit (i := 16) (v := ?_) (F := #[true, true, true, true, true, true, true, true, true, true, true, true, true, true, true, true, false, false, false, false, false, false]) rfl (by kernel_rfl) (by kernel_rfl) (by kernel_rfl) (by kernel_rfl) (fun _ _ _ h => h) (Or.inl ⟨by rfl, ?_⟩) (by assumption) ?_
            rotate_left
            · (intro w hSw; (try dsimp only at hSw); go_simp <;> with_reducible rfl)
            try simp only [Act.put, List.setIfInBounds_toArray, List.set_cons_zero, List.set_cons_succ]
            refine takeN_lit (i := 17) (v := ?_) (F := #[true, true, true, true, true, true, true, true, true, true, true, true, true, true, true, true, true, false, false, false, false, false]) rfl (by kernel_rfl) (by kernel_rfl) (by kernel_rfl) (by kernel_rfl) (fun _ _ _ h => h) (Or.inl ⟨by rfl, ?_⟩) (by assumption) ?_
            rotate_left
            · (intro w hSw; (try dsimp only at hSw); go_simp <;> with_reducible rfl)
            try simp only [Act.put, List.setIfInBounds_toArray, List.set_cons_zero, List.set_cons_succ]
            refine wpAnyN_ready (rs := [1, 10]) (by kernel_rfl) (by simp) ?_
            refine consN_lit rfl (fun K hK => ?_) ?_
            · skip
              refine sBs0 (by rfl) rfl ?_
              intro W1 o1 b1 l1
              replace o1 := own_base o1 hHeld.size
              try replace s10 := s10.kept (cell_some b1)
              try have m10 := Nat.lt_of_lt_of_le l10 b1.size
              refine hK.out _ _ (Or.inr ?_) (fun hHeld => ?_)
              · exact hHeld.trans (b1.mono hHeld.size)
              replace hHeld := hHeld.resolve_left (by decide)
              clear hK K
              try simp only [Act.put, List.setIfInBounds_toArray, List.set_cons_zero, List.set_cons_succ]
              refine wpAnyN_ready (rs := [8, 10]) (by kernel_rfl) (by simp) ?_
              refine consN_lit rfl (fun K hK => ?_) ?_
              · skip
                refine sAppD (.tmp 49) (.tmp 55) (by rfl) rfl wr.heap.size _ 0 [] (by rfl) o1 (some ⟨g, o, none⟩) k c2 (E0.take k) (by rfl) (fun h => by cases h) (HT.out _ hHeld) (by have := HS.out.2; omega) hHeld.size ?_
                intro v8 W8 o8 g8
                rw [Nat.zero_add, List.nil_append] at o8
                try replace s10 := s10.grown g8 (by intro e; simp only [Value.ownBlock, Option.some.injEq] at e; omega) (by omega)
                refine hK.out _ _ (Or.inr ?_) (fun hHeld => ?_)
                · exact hHeld.grown g8 hHeld.size (fun j hj => ownS_base o1 j hj)
                replace hHeld := hHeld.resolve_left (by decide)
                clear hK K
                try simp only [Act.put, List.setIfInBounds_toArray, List.set_cons_zero, List.set_cons_succ]
                refine wpAnyN_ready (rs := [10]) (by kernel_rfl) (by simp) ?_
                refine consN_lit rfl (fun K hK => ?_) ?_
                · skip
                  refine sBs1 (.tmp 57) s t (by rfl) rfl (by rfl) ?_
                  intro W10 s10 b10 l10
                  try replace o8 := ownS_below o8 b10
                  try replace o1 := ownS_below o1 b10
                  refine hK.out _ _ (Or.inr ?_) (fun hHeld => ?_)
                  · exact hHeld.trans (b10.mono hHeld.size)
                  replace hHeld := hHeld.resolve_left (by decide)
                  clear hK K
                  try simp only [Act.put, List.setIfInBounds_toArray, List.set_cons_zero, List.set_cons_succ]
                  refine wpAnyN_ready (rs := [11]) (by kernel_rfl) (by simp) ?_
                  refine consN_lit rfl (fun K hK => ?_) ?_
                  · skip
                    refine sAppD (.tmp 56) (.tmp 58) (by rfl) rfl wr.heap.size v8 k (E0.take k) (by rfl) o8 (some ⟨_, 0, none⟩) 1 1 [(s, t)] (by rfl) (fun h => by cases h) s10 (by have := HS.out.2; omega) hHeld.size ?_
                    intro v11 W11 o11 g11
                    refine hK.out _ _ (Or.inr ?_) (fun hHeld => ?_)
                    · exact hHeld.grown g11 hHeld.size (fun j hj => ownS_base o8 j hj)
                    replace hHeld := hHeld.resolve_left (by decide)
                    clear hK K
                    try simp only [Act.put, List.setIfInBounds_toArray, List.set_cons_zero, List.set_cons_succ]
                    refine wpAnyN_ready (rs := [18]) (by kernel_rfl) (by simp) ?_
                    refine consN_lit rfl (fun K hK => ?_) ?_
                    · skip
                      refine sAppD (.tmp 59) (.tmp 65) (by rfl) rfl wr.heap.size v11 (k + 1) (E0.take k ++ [(s, t)]) (by rfl) o11 (if c2 = k then some ⟨g, o, none⟩ else some ⟨g, o + k * 2, none⟩) (E0.length - k) (c2 - k) (E0.drop k) (by rfl) (fun h => absurd h ite_some) (HU.out _ hHeld) (by have := HS.out.2; omega) hHeld.size ?_
                      intro v18 W18 o18 g18
                      obtain ⟨a18, c18, rfl⟩ := ownS_shape o18
                      refine hK.out _ _ (Or.inr ?_) (fun hHeld => ?_)
                      · exact hHeld.grown g18 hHeld.size (fun j hj => ownS_base o11 j hj)
                      replace hHeld := hHeld.resolve_left (by decide)
                      clear hK K
                      try simp only [Act.put, List.setIfInBounds_toArray, List.set_cons_zero, List.set_cons_succ]
                      refine takeN_lit (i := 19) (v := ?_) (F := #[true, true, true, true, true, true, true, true, true, true, true, true, true, true, true, true, true, true, true, false, false, false]) rfl (by kernel_rfl) (by kernel_rfl) (by kernel_rfl) (by kernel_rfl) (fun _ _ _ h => h) (Or.inl ⟨by rfl, ?_⟩) (by assumption) ?_
                      rotate_left
                      · (intro w hSw; (try dsimp only at hSw); go_simp <;> with_reducible rfl)
                      try simp only [Act.put, List.setIfInBounds_toArray, List.set_cons_zero, List.set_cons_succ]
                      refine takeN_lit (i := 20) (v := ?_) (F := #[true, true, true, true, true, true, true, true, true, true, true, true, true, true, true, true, true, true, true, true, false, false]) rfl (by kernel_rfl) (by kernel_rfl) (by kernel_rfl) (by kernel_rfl) (fun _ _ _ h => h) (Or.inl ⟨by rfl, ?_⟩) (by assumption) ?_
                      rotate_left
                      · (intro w hSw; (try dsimp only at hSw); go_simp <;> with_reducible rfl)
                      try simp only [Act.put, List.setIfInBounds_toArray, List.set_cons_zero, List.set_cons_succ]
                      refine wpAnyN_ready (rs := [21]) (by kernel_rfl) (by simp) ?_
                      refine consN_lit rfl (fun K hK => ?_) ?_
                      · skip
                        refine sStL (.tmp 68) (.tmp 66) rfl (by rfl) r a18 _ c18 _ ((hHeld.cell (p := ⟨r, 0, none⟩) hrl).trans c3) (one_free ((hHeld.block r hrl).trans HV.out.que)) (by rfl) (by rfl) ?_
                        refine hK.out _ _ (Or.inl rfl) (fun _ => ?_)
                        clear hK K
                        try simp only [Act.put, List.setIfInBounds_toArray, List.set_cons_zero, List.set_cons_succ]
                        refine wpAnyN_done (by kernel_rfl) ?_ _
                        refine NoPanic.normal ?_
                        obtain ⟨z1, z2⟩ := HV.out.store (D := E0.take k ++ [(s, t)] ++ E0.drop k) hHeld o18 (by simp; omega)
                        have z3 := (HD.out.2.2.trans (Frm.of_below (S := fun j => j = r) bV) (fun _ h => .inl h)).trans z2 (fun _ h => .inl h)
                        go_wp2
                        all_goals
                          go_ret
                          first | exact ⟨_, ⟨rfl, _, _, z1, z3⟩, HI.out, perm_ins E0 (s, t) k⟩ | exact ⟨⟨rfl, _, _, z1, z3⟩, HI.out⟩
                      exact AllReadyN.nil
                    exact AllReadyN.nil
                  exact AllReadyN.nil
                exact AllReadyN.nil
              refine consN_lit rfl (fun K hK => ?_) ?_
              · skip
                refine sBs1 (.tmp 57) s t (by rfl) rfl (by rfl) ?_
                intro W10 s10 b10 l10
                try replace o8 := ownS_below o8 b10
                try replace o1 := ownS_below o1 b10
                refine hK.out _ _ (Or.inr ?_) (fun hHeld => ?_)
                · exact hHeld.trans (b10.mono hHeld.size)
                replace hHeld := hHeld.resolve_left (by decide)
                clear hK K
                try simp only [Act.put, List.setIfInBounds_toArray, List.set_cons_zero, List.set_cons_succ]
                refine wpAnyN_ready (rs := [8]) (by kernel_rfl) (by simp) ?_
                refine consN_lit rfl (fun K hK => ?_) ?_
                · skip
                  refine sAppD (.tmp 49) (.tmp 55) (by rfl) rfl wr.heap.size _ 0 [] (by rfl) o1 (some ⟨g, o, none⟩) k c2 (E0.take k) (by rfl) (fun h => by cases h) (HT.out _ hHeld) (by have := HS.out.2; omega) hHeld.size ?_
                  intro v8 W8 o8 g8
                  rw [Nat.zero_add, List.nil_append] at o8
                  try replace s10 := s10.grown g8 (by intro e; simp only [Value.ownBlock, Option.some.injEq] at e; omega) (by omega)
                  refine hK.out _ _ (Or.inr ?_) (fun hHeld => ?_)
                  · exact hHeld.grown g8 hHeld.size (fun j hj => ownS_base o1 j hj)
                  replace hHeld := hHeld.resolve_left (by decide)
                  clear hK K
                  try simp only [Act.put, List.setIfInBounds_toArray, List.set_cons_zero, List.set_cons_succ]
                  refine wpAnyN_ready (rs := [11]) (by kernel_rfl) (by simp) ?_
                  refine consN_lit rfl (fun K hK => ?_) ?_
                  · skip
                    refine sAppD (.tmp 56) (.tmp 58) (by rfl) rfl wr.heap.size v8 k (E0.take k) (by rfl) o8 (some ⟨_, 0, none⟩) 1 1 [(s, t)] (by rfl) (fun h => by cases h) s10 (by have := HS.out.2; omega) hHeld.size ?_
                    intro v11 W11 o11 g11
                    refine hK.out _ _ (Or.inr ?_) (fun hHeld => ?_)
                    · exact hHeld.grown g11 hHeld.size (fun j hj => ownS_base o8 j hj)
                    replace hHeld := hHeld.resolve_left (by decide)
                    clear hK K
                    try simp only [Act.put, List.setIfInBounds_toArray, List.set_cons_zero, List.set_cons_succ]
                    refine wpAnyN_ready (rs := [18]) (by kernel_rfl) (by simp) ?_
                    refine consN_lit rfl (fun K hK => ?_) ?_
                    · skip
                      refine sAppD (.tmp 59) (.tmp 65) (by rfl) rfl wr.heap.size v11 (k + 1) (E0.take k ++ [(s, t)]) (by rfl) o11 (if c2 = k then some ⟨g, o, none⟩ else some ⟨g, o + k * 2, none⟩) (E0.length - k) (c2 - k) (E0.drop k) (by rfl) (fun h => absurd h ite_some) (HU.out _ hHeld) (by have := HS.out.2; omega) hHeld.size ?_
                      intro v18 W18 o18 g18
                      obtain ⟨a18, c18, rfl⟩ := ownS_shape o18
                      refine hK.out _ _ (Or.inr ?_) (fun hHeld => ?_)
                      · exact hHeld.grown g18 hHeld.size (fun j hj => ownS_base o11 j hj)
                      replace hHeld := hHeld.resolve_left (by decide)
                      clear hK K
                      try simp only [Act.put, List.setIfInBounds_toArray, List.set_cons_zero, List.set_cons_succ]
                      refine takeN_lit (i := 19) (v := ?_) (F := #[true, true, true, true, true, true, true, true, true, true, true, true, true, true, true, true, true, true, true, false, false, false]) rfl (by kernel_rfl) (by kernel_rfl) (by kernel_rfl) (by kernel_rfl) (fun _ _ _ h => h) (Or.inl ⟨by rfl, ?_⟩) (by assumption) ?_
                      rotate_left
                      · (intro w hSw; (try dsimp only at hSw); go_simp <;> with_reducible rfl)
                      try simp only [Act.put, List.setIfInBounds_toArray, List.set_cons_zero, List.set_cons_succ]
                      refine takeN_lit (i := 20) (v := ?_) (F := #[true, true, true, true, true, true, true, true, true, true, true, true, true, true, true, true, true, true, true, true, false, false]) rfl (by kernel_rfl) (by kernel_rfl) (by kernel_rfl) (by kernel_rfl) (fun _ _ _ h => h) (Or.inl ⟨by rfl, ?_⟩) (by assumption) ?_
                      rotate_left
                      · (intro w hSw; (try dsimp only at hSw); go_simp <;> with_reducible rfl)
                      try simp only [Act.put, List.setIfInBounds_toArray, List.set_cons_zero, List.set_cons_succ]
                      refine wpAnyN_ready (rs := [21]) (by kernel_rfl) (by simp) ?_
                      refine consN_lit rfl (fun K hK => ?_) ?_
                      · skip
                        refine sStL (.tmp 68) (.tmp 66) rfl (by rfl) r a18 _ c18 _ ((hHeld.cell (p := ⟨r, 0, none⟩) hrl).trans c3) (one_free ((hHeld.block r hrl).trans HV.out.que)) (by rfl) (by rfl) ?_
                        refine hK.out _ _ (Or.inl rfl) (fun _ => ?_)
                        clear hK K
                        try simp only [Act.put, List.setIfInBounds_toArray, List.set_cons_zero, List.set_cons_succ]
                        refine wpAnyN_done (by kernel_rfl) ?_ _
                        refine NoPanic.normal ?_
                        obtain ⟨z1, z2⟩ := HV.out.store (D := E0.take k ++ [(s, t)] ++ E0.drop k) hHeld o18 (by simp; omega)
                        have z3 := (HD.out.2.2.trans (Frm.of_below (S := fun j => j = r) bV) (fun _ h => .inl h)).trans z2 (fun _ h => .inl h)
                        go_wp2
                        all_goals
                          go_ret
                          first | exact ⟨_, ⟨rfl, _, _, z1, z3⟩, HI.out, perm_ins E0 (s, t) k⟩ | exact ⟨⟨rfl, _, _, z1, z3⟩, HI.out⟩
                      exact AllReadyN.nil
                    exact AllReadyN.nil
                  exact AllReadyN.nil
                exact AllReadyN.nil
              exact AllReadyN.nil
            refine consN_lit rfl (fun K hK => ?_) ?_
            · skip
              refine sBs1 (.tmp 57) s t (by rfl) rfl (by rfl) ?_
              intro W10 s10 b10 l10
              try replace o8 := ownS_below o8 b10
              try replace o1 := ownS_below o1 b10
              refine hK.out _ _ (Or.inr ?_) (fun hHeld => ?_)
              · exact hHeld.trans (b10.mono hHeld.size)
              replace hHeld := hHeld.resolve_left (by decide)
              clear hK K
              try simp only [Act.put, List.setIfInBounds_toArray, List.set_cons_zero, List.set_cons_succ]
              refine wpAnyN_ready (rs := [1]) (by kernel_rfl) (by simp) ?_
              refine consN_lit rfl (fun K hK => ?_) ?_
              · skip
                refine sBs0 (by rfl) rfl ?_
                intro W1 o1 b1 l1
                replace o1 := own_base o1 hHeld.size
                try replace s10 := s10.kept (cell_some b1)
                try have m10 := Nat.lt_of_lt_of_le l10 b1.size
                refine hK.out _ _ (Or.inr ?_) (fun hHeld => ?_)
                · exact hHeld.trans (b1.mono hHeld.size)
                replace hHeld := hHeld.resolve_left (by decide)
                clear hK K
                try simp only [Act.put, List.setIfInBounds_toArray, List.set_cons_zero, List.set_cons_succ]
                refine wpAnyN_ready (rs := [8]) (by kernel_rfl) (by simp) ?_
                refine consN_lit rfl (fun K hK => ?_) ?_
                · skip
                  refine sAppD (.tmp 49) (.tmp 55) (by rfl) rfl wr.heap.size _ 0 [] (by rfl) o1 (some ⟨g, o, none⟩) k c2 (E0.take k) (by rfl) (fun h => by cases h) (HT.out _ hHeld) (by have := HS.out.2; omega) hHeld.size ?_
                  intro v8 W8 o8 g8
                  rw [Nat.zero_add, List.nil_append] at o8
                  try replace s10 := s10.grown g8 (by intro e; simp only [Value.ownBlock, Option.some.injEq] at e; omega) (by omega)
                  refine hK.out _ _ (Or.inr ?_) (fun hHeld => ?_)
                  · exact hHeld.grown g8 hHeld.size (fun j hj => ownS_base o1 j hj)
                  replace hHeld := hHeld.resolve_left (by decide)
                  clear hK K
                  try simp only [Act.put, List.setIfInBounds_toArray, List.set_cons_zero, List.set_cons_succ]
                  refine wpAnyN_ready (rs := [11]) (by kernel_rfl) (by simp) ?_
                  refine consN_lit rfl (fun K hK => ?_) ?_
                  · skip
                    refine sAppD (.tmp 56) (.tmp 58) (by rfl) rfl wr.heap.size v8 k (E0.take k) (by rfl) o8 (some ⟨_, 0, none⟩) 1 1 [(s, t)] (by rfl) (fun h => by cases h) s10 (by have := HS.out.2; omega) hHeld.size ?_
                    intro v11 W11 o11 g11
                    refine hK.out _ _ (Or.inr ?_) (fun hHeld => ?_)
                    · exact hHeld.grown g11 hHeld.size (fun j hj => ownS_base o8 j hj)
                    replace hHeld := hHeld.resolve_left (by decide)
                    clear hK K
                    try simp only [Act.put, List.setIfInBounds_toArray, List.set_cons_zero, List.set_cons_succ]
                    refine wpAnyN_ready (rs := [18]) (by kernel_rfl) (by simp) ?_
                    refine consN_lit rfl (fun K hK => ?_) ?_
                    · skip
                      refine sAppD (.tmp 59) (.tmp 65) (by rfl) rfl wr.heap.size v11 (k + 1) (E0.take k ++ [(s, t)]) (by rfl) o11 (if c2 = k then some ⟨g, o, none⟩ else some ⟨g, o + k * 2, none⟩) (E0.length - k) (c2 - k) (E0.drop k) (by rfl) (fun h => absurd h ite_some) (HU.out _ hHeld) (by have := HS.out.2; omega) hHeld.size ?_
                      intro v18 W18 o18 g18
                      obtain ⟨a18, c18, rfl⟩ := ownS_shape o18
                      refine hK.out _ _ (Or.inr ?_) (fun hHeld => ?_)
                      · exact hHeld.grown g18 hHeld.size (fun j hj => ownS_base o11 j hj)
                      replace hHeld := hHeld.resolve_left (by decide)
                      clear hK K
                      try simp only [Act.put, List.setIfInBounds_toArray, List.set_cons_zero, List.set_cons_succ]
                      refine takeN_lit (i := 19) (v := ?_) (F := #[true, true, true, true, true, true, true, true, true, true, true, true, true, true, true, true, true, true, true, false, false, false]) rfl (by kernel_rfl) (by kernel_rfl) (by kernel_rfl) (by kernel_rfl) (fun _ _ _ h => h) (Or.inl ⟨by rfl, ?_⟩) (by assumption) ?_
                      rotate_left
                      · (intro w hSw; (try dsimp only at hSw); go_simp <;> with_reducible rfl)
                      try simp only [Act.put, List.setIfInBounds_toArray, List.set_cons_zero, List.set_cons_succ]
                      refine takeN_lit (i := 20) (v := ?_) (F := #[true, true, true, true, true, true, true, true, true, true, true, true, true, true, true, true, true, true, true, true, false, false]) rfl (by kernel_rfl) (by kernel_rfl) (by kernel_rfl) (by kernel_rfl) (fun _ _ _ h => h) (Or.inl ⟨by rfl, ?_⟩) (by assumption) ?_
                      rotate_left
                      · (intro w hSw; (try dsimp only at hSw); go_simp <;> with_reducible rfl)
                      try simp only [Act.put, List.setIfInBounds_toArray, List.set_cons_zero, List.set_cons_succ]
                      refine wpAnyN_ready (rs := [21]) (by kernel_rfl) (by simp) ?_
                      refine consN_lit rfl (fun K hK => ?_) ?_
                      · skip
                        refine sStL (.tmp 68) (.tmp 66) rfl (by rfl) r a18 _ c18 _ ((hHeld.cell (p := ⟨r, 0, none⟩) hrl).trans c3) (one_free ((hHeld.block r hrl).trans HV.out.que)) (by rfl) (by rfl) ?_
                        refine hK.out _ _ (Or.inl rfl) (fun _ => ?_)
                        clear hK K
                        try simp only [Act.put, List.setIfInBounds_toArray, List.set_cons_zero, List.set_cons_succ]
                        refine wpAnyN_done (by kernel_rfl) ?_ _
                        refine NoPanic.normal ?_
                        obtain ⟨z1, z2⟩ := HV.out.store (D := E0.take k ++ [(s, t)] ++ E0.drop k) hHeld o18 (by simp; omega)
                        have z3 := (HD.out.2.2.trans (Frm.of_below (S := fun j => j = r) bV) (fun _ h => .inl h)).trans z2 (fun _ h => .inl h)
                        go_wp2
                        all_goals
                          go_ret
                          first | exact ⟨_, ⟨rfl, _, _, z1, z3⟩, HI.out, perm_ins E0 (s, t) k⟩ | exact ⟨⟨rfl, _, _, z1, z3⟩, HI.out⟩
                      exact AllReadyN.nil
                    exact AllReadyN.nil
                  exact AllReadyN.nil
                exact AllReadyN.nil
              exact AllReadyN.nil
            exact AllReadyN.nil
          exact AllReadyH.nil
end Go.Proofs.Ytkamcnjofpamhaa
