/-
  addr.printGroups: what it answers for every address.
-/
import Derived.Test.YtimpopolkofdgaaGreatDoorJoin
import Derived.Test.YtimpopolkofdgaaGreatDoorZeros
namespace Go.Proofs.YtimpopolkofdgaaGreatDoor
open Go.RowKit Go.Shelf
set_option linter.unusedSimpArgs false
set_option maxRecDepth 20000
/-- An address of IPv6 as a text. -/
def pgS (a : Ad) : List UInt8 := if (lzF a.l 8).1 = (lzF a.l 8).2 then joinG a.l else joinG (a.l.take (lzF a.l 8).1) ++ [58, 58] ++ joinG (a.l.drop (lzF a.l 8).2)
theorem zrl_even : ∀ (l : List UInt8), zrl l % 2 = 0
  | [] => rfl
  | [_] => by simp [zrl]
  | a :: b :: r => by
    have := zrl_even r
    simp only [zrl]
    split <;> omega
theorem lzF_even (l : List UInt8) : ∀ k, (lzF l k).1 % 2 = 0 ∧ (lzF l k).2 % 2 = 0
  | 0 => by simp [lzF]
  | k + 1 => by
    have ih := lzF_even l k
    have := zrl_even (l.drop (2 * k))
    simp only [lzF]
    split
    · simp; omega
    · exact ih
theorem joinG_len (l : List UInt8) (h : l.length ≤ 16) : (joinG l).length ≤ 40 := by
  have := join_len 4 58 (grps l) (grps_all l)
  rw [grps_len] at this
  unfold joinG
  omega
theorem sliceAll (g : Nat) (W : World) : (Instr.sliceAt 23 (.pointer (some ⟨g, 0, none⟩)) none none none).run Tryz.prog W = .ok (.slice (some ⟨g, 0, none⟩) 16 16) W := by
  have hal : Tryz.prog.arrayLen 23 = 16 := by simp [Program.arrayLen, Tryz.underlying23]
  rw [run_sliceAt_array_all W 23 ⟨g, 0, none⟩ (by simp [Program.arrayLen, Program.elem, Tryz.underlying23]), hal]
  go_simp
theorem sliceHi (g f : Nat) (hf : f ≤ 16) (W : World) : (Instr.sliceAt 23 (.pointer (some ⟨g, 0, none⟩)) none (some (.int .i64 (f : Int))) none).run Tryz.prog W = .ok (.slice (some ⟨g, 0, none⟩) f 16) W := by
  have hal : Tryz.prog.arrayLen 23 = 16 := by simp [Program.arrayLen, Tryz.underlying23]
  rw [run_sliceAt_array_h W 23 ⟨g, 0, none⟩ (by simp [Program.arrayLen, Program.elem, Tryz.underlying23]) .i64 (f : Int) (by omega) (by rw [hal]; omega), hal]
  go_simp
theorem sliceLo (g t : Nat) (ht : t ≤ 16) (W : World) : (Instr.sliceAt 23 (.pointer (some ⟨g, 0, none⟩)) (some (.int .i64 (t : Int))) none none).run Tryz.prog W = .ok (.slice (some ⟨g, if 16 = t then 0 else t, none⟩) (16 - t) (16 - t)) W := by
  have hal : Tryz.prog.arrayLen 23 = 16 := by simp [Program.arrayLen, Tryz.underlying23]
  rw [run_sliceAt_array_l W 23 ⟨g, 0, none⟩ (by simp [Program.arrayLen, Program.elem, Tryz.underlying23]) .i64 (t : Int) (by omega) (by rw [hal]; omega), hal]
  go_simp
  split <;> simp
theorem str_app (a b : List UInt8) : str a ++ str b = str (a ++ b) := by
  unfold str
  apply ByteArray.ext
  simp
set_option maxHeartbeats 4000000 in
theorem pg_any (a : Ad) (w : World) (hT : Tz w) (hs8 : 8 ≤ w.heap.size) : Calls Tryz.prog 55 #[(Value.agg (acells a).toArray)] w (Gives w (.string (str (pgS a)))) := by
  have hA := LA.new w a 23
  have hB0 := ba w (.cells (acells a).toArray 23)
  have hle := lzF_le a.l a.len 8 (by omega)
  have hev := lzF_even a.l 8
  have hZ := lz_any a
  have hcell : ∀ W, Below (w.heap.size + 1) (w.alloc (.cells (acells a).toArray 23)) W → ∀ j x, a.l[j]? = some x → W.cell? ⟨w.heap.size, j, none⟩ = some (.int .u8 (x.toNat : Int)) := fun W hb j x hx => by
    have := hA j _ (bcells_get hx)
    rw [Nat.zero_add] at this
    exact (hb.cell (p := ⟨w.heap.size, j, none⟩) (Nat.lt_succ_self _)).trans this
  have HX : Hid (pgS a = if (lzF a.l 8).1 = (lzF a.l 8).2 then joinG a.l else joinG (a.l.take (lzF a.l 8).1) ++ [58, 58] ++ joinG (a.l.drop (lzF a.l 8).2)) := rfl
  obtain ⟨f, hf⟩ : ∃ f, f = (lzF a.l 8).1 := ⟨_, rfl⟩
  obtain ⟨t, ht⟩ : ∃ t, t = (lzF a.l 8).2 := ⟨_, rfl⟩
  rw [← hf, ← ht] at hle hev hZ HX
  clear hf ht
  by_cases hft : f = t
  · subst hft
    rw [if_pos rfl] at HX
    have hj : ∀ W, Below (w.heap.size + 1) (w.alloc (.cells (acells a).toArray 23)) W → Tz W → 8 ≤ W.heap.size → w.heap.size < W.heap.size → _ := fun W hb hT' h8 hlt => joinGroups_any a.l w.heap.size 0 16 16 W a.len (by omega) (by omega) (fun j x hx => by rw [Nat.zero_add]; exact hcell W hb j x hx) (.inr hlt) hT' h8
    clear hcell hle hev
    have hsl := sliceAll w.heap.size
    go_enter Tryz.func55, Tryz.ntmps55
    go_wp2_with (first
      | (refine ldA (.tmp 1) rfl rfl _ _ a rfl hA ?_)
      | (go_at_call 79; have z1 := hB1.size; simp at z1; refine (hj _ (hB1.mono (by simp)) (hT.keep (hB0.trans (hB1.mono (by simp))) hs8) (by omega) (by omega)).mono ?_; rintro e w2 ⟨rfl, hB2⟩)
      | (go_at_call 78; refine (hZ _).mono ?_; rintro e w1 ⟨rfl, hB1⟩))
    go_ret
    exact ⟨by rw [HX.out]; rfl, bt (bt hB0 hB1) hB2⟩
  · rw [if_neg hft] at HX
    have hJ1 : ∀ W, Below (w.heap.size + 1) (w.alloc (.cells (acells a).toArray 23)) W → Tz W → 8 ≤ W.heap.size → w.heap.size < W.heap.size → _ := fun W hb hT' h8 hlt => joinGroups_any (a.l.take f) w.heap.size 0 f 16 W (by rw [List.length_take, a.len]; omega) hev.1 (by omega) (fun j x hx => by
      rw [Nat.zero_add]
      refine hcell W hb j x ?_
      have hj := (List.getElem?_eq_some_iff.1 hx).1
      rw [List.length_take] at hj
      rw [List.getElem?_take_of_lt (by omega)] at hx
      exact hx) (.inr hlt) hT' h8
    have hJ2 : ∀ W, Below (w.heap.size + 1) (w.alloc (.cells (acells a).toArray 23)) W → Tz W → 8 ≤ W.heap.size → w.heap.size < W.heap.size → _ := fun W hb hT' h8 hlt => joinGroups_any (a.l.drop t) w.heap.size (if 16 = t then 0 else t) (16 - t) (16 - t) W (by rw [List.length_drop, a.len]) (by omega) (by omega) (fun j x hx => by
      have hj := (List.getElem?_eq_some_iff.1 hx).1
      rw [List.length_drop, a.len] at hj
      rw [if_neg (by omega)]
      rw [List.getElem?_drop] at hx
      exact hcell W hb _ x hx) (.inr hlt) hT' h8
    have HJ : Hid (∀ W, Below (w.heap.size + 1) (w.alloc (.cells (acells a).toArray 23)) W → Tz W ∧ 8 ≤ W.heap.size ∧ w.heap.size < W.heap.size) := fun W hb => by
      have hz := hb.size
      simp at hz
      exact ⟨hT.keep (hB0.trans (hb.mono (by omega))) hs8, by omega, by omega⟩
    have hsl1 := sliceHi w.heap.size f (by omega)
    have hsl2 := sliceLo w.heap.size t (by omega)
    have hl1 := joinG_len (a.l.take f) (by rw [List.length_take, a.len]; omega)
    have hl2 := joinG_len (a.l.drop t) (by rw [List.length_drop, a.len]; omega)
    obtain ⟨p, hp⟩ : ∃ p, p = joinG (a.l.take f) := ⟨_, rfl⟩
    obtain ⟨q, hq⟩ : ∃ q, q = joinG (a.l.drop t) := ⟨_, rfl⟩
    rw [← hp] at hJ1 HX hl1
    rw [← hq] at hJ2 HX hl2
    have hn1 : ¬ 9223372036854775807 < p.length + 2 := by omega
    have hn2 : ¬ 9223372036854775807 < p.length + 2 + q.length := by omega
    have hfe : ((f : Int) == (t : Int)) = false := by simp; omega
    have hB0' : Below (w.heap.size + 1) (w.alloc (.cells (acells a).toArray 23)) (w.alloc (.cells (acells a).toArray 23)) := Below.refl _ _
    clear hcell hle hev hp hq hft
    obtain ⟨o, ho⟩ : ∃ o, o = if 16 = t then 0 else t := ⟨_, rfl⟩
    rw [← ho] at hsl2 hJ2
    clear ho
    go_enter Tryz.func55, Tryz.ntmps55
    go_wp2_with (first
      | (refine ldA (.tmp 1) rfl rfl _ _ a rfl hA ?_)
      | (go_at_call 78; refine (hZ _).mono ?_; rintro e w1 ⟨rfl, hB1⟩))
    have hB1' : Below (w.heap.size + 1) (w.alloc (.cells (acells a).toArray 23)) w1 := hB1.mono (by simp)
    clear hZ hB1 hB0'
    refine wp_region_noPanic ?_
    refine wp_region_held_drew (S := fun W => Below (w.heap.size + 1) (w.alloc (.cells (acells a).toArray 23)) W) (by kernel_rfl) (hB1'.drew) (fun hHeld => ?_)
    refine take_lit (i := 0) (v := ?_) rfl (by kernel_rfl) (by kernel_rfl) (by kernel_rfl) (fun _ _ _ h => h) (Or.inl ⟨by rfl, ?_⟩) (by assumption) ?_
    rotate_left
    · (intro w hSw; (try dsimp only at hSw); go_simp <;> with_reducible rfl)
    try simp only [Act.put, List.setIfInBounds_toArray, List.set_cons_zero, List.set_cons_succ]
    refine take_lit (i := 1) (v := ?_) rfl (by kernel_rfl) (by kernel_rfl) (by kernel_rfl) (fun _ _ _ h => h) (Or.inl ⟨by rfl, ?_⟩) (by assumption) ?_
    rotate_left
    · (intro w hSw; (try dsimp only at hSw); go_simp <;> with_reducible rfl)
    try simp only [Act.put, List.setIfInBounds_toArray, List.set_cons_zero, List.set_cons_succ]
    refine take_lit (i := 4) (v := ?_) rfl (by kernel_rfl) (by kernel_rfl) (by kernel_rfl) (fun _ _ _ h => h) (Or.inl ⟨by rfl, ?_⟩) (by assumption) ?_
    rotate_left
    · (intro w hSw; (try dsimp only at hSw); go_simp <;> with_reducible rfl)
    try simp only [Act.put, List.setIfInBounds_toArray, List.set_cons_zero, List.set_cons_succ]
    refine take_lit (i := 5) (v := ?_) rfl (by kernel_rfl) (by kernel_rfl) (by kernel_rfl) (fun _ _ _ h => h) (Or.inl ⟨by rfl, ?_⟩) (by assumption) ?_
    rotate_left
    · (intro w hSw; (try dsimp only at hSw); go_simp <;> with_reducible rfl)
    try simp only [Act.put, List.setIfInBounds_toArray, List.set_cons_zero, List.set_cons_succ]
    refine wpAnyH_ready (rs := [2]) (by kernel_rfl) (by simp) ?_
    refine cons_lit rfl (fun K hK => ?_) ?_
    · go_simp
      have hh := HJ.out _ hHeld
      refine (hJ1 _ hHeld hh.1 hh.2.1 hh.2.2).mono ?_
      rintro e w2 ⟨rfl, hB2⟩
      refine hK.out _ _ ?_ (fun hHeld => ?_)
      · exact hHeld.trans (hB2.mono (Nat.le_trans (by simp) hHeld.size))
      clear hK K
      try simp only [Act.put, List.setIfInBounds_toArray, List.set_cons_zero, List.set_cons_succ]
      refine take_lit (i := 3) (v := ?_) rfl (by kernel_rfl) (by kernel_rfl) (by kernel_rfl) (fun _ _ _ h => h) (Or.inl ⟨by rfl, ?_⟩) (by assumption) ?_
      rotate_left
      · (intro w hSw; (try dsimp only at hSw); go_simp <;> with_reducible rfl)
      try simp only [Act.put, List.setIfInBounds_toArray, List.set_cons_zero, List.set_cons_succ]
      refine wpAnyH_ready (rs := [6]) (by kernel_rfl) (by simp) ?_
      refine cons_lit rfl (fun K hK => ?_) ?_
      · go_simp
        have hh := HJ.out _ hHeld
        refine (hJ2 _ hHeld hh.1 hh.2.1 hh.2.2).mono ?_
        rintro e w3 ⟨rfl, hB3⟩
        refine hK.out _ _ ?_ (fun hHeld => ?_)
        · exact hHeld.trans (hB3.mono (Nat.le_trans (by simp) hHeld.size))
        clear hK K
        try simp only [Act.put, List.setIfInBounds_toArray, List.set_cons_zero, List.set_cons_succ]
        refine take_lit (i := 7) (v := ?_) rfl (by kernel_rfl) (by kernel_rfl) (by kernel_rfl) (fun _ _ _ h => h) (Or.inl ⟨by rfl, ?_⟩) (by assumption) ?_
        rotate_left
        · (intro w hSw; (try dsimp only at hSw); go_simp <;> with_reducible rfl)
        try simp only [Act.put, List.setIfInBounds_toArray, List.set_cons_zero, List.set_cons_succ]
        refine take_lit (i := 8) (v := ?_) rfl (by kernel_rfl) (by kernel_rfl) (by kernel_rfl) (fun _ _ _ h => h) (Or.inl ⟨by rfl, ?_⟩) (by assumption) ?_
        rotate_left
        · (intro w hSw; (try dsimp only at hSw); go_simp <;> with_reducible rfl)
        try simp only [Act.put, List.setIfInBounds_toArray, List.set_cons_zero, List.set_cons_succ]
        refine wpAnyH_done (by kernel_rfl) ?_ _
        refine NoPanic.normal ?_
        go_wp2
        go_ret
        exact ⟨by rw [HX.out, ← str_app, ← str_app]; rfl, hB0.trans (hHeld.mono (by omega))⟩
      exact AllReadyH.nil
    exact AllReadyH.nil
end Go.Proofs.YtimpopolkofdgaaGreatDoor
