/-
  As many timers as there may be, and one more.
-/
import Derived.Test.YtkamcnjofpamhaaTNilW
namespace Go.Proofs.Ytkamcnjofpamhaa
open Go.RowKit Go.Maps
set_option linter.unusedSimpArgs false
/-- The name of the timer at place k. -/
def nmOf (k : Nat) : ByteArray := ⟨#[116]⟩ ++ ⟨#[UInt8.ofNat (k / 256), UInt8.ofNat k]⟩
theorem nmOf_data (k : Nat) : (nmOf k).data = #[116, UInt8.ofNat (k / 256), UInt8.ofNat k] := by
  unfold nmOf
  rw [ByteArray.data_append]
  rfl
theorem nmOf_zero : nmOf 0 = ⟨#[116, 0, 0]⟩ := by
  have h := nmOf_data 0
  cases hn : nmOf 0 with
  | mk d =>
    rw [hn] at h
    dsimp only at h
    rw [h]
    rfl
theorem nmOf_size (k : Nat) : (nmOf k).size ≤ maxLen := by
  have e : (nmOf k).size = (nmOf k).data.size := rfl
  rw [e, nmOf_data]
  show 3 ≤ maxLen
  unfold maxLen
  omega
theorem nmOf_inj {i j : Nat} (hi : i < 65536) (hj : j < 65536) (h : nmOf i = nmOf j) : i = j := by
  have h1 := congrArg (fun s : ByteArray => s.data.toList) h
  simp only [nmOf_data] at h1
  simp at h1
  have h2 := congrArg UInt8.toNat h1.1
  have h3 := congrArg UInt8.toNat h1.2
  simp at h2 h3
  omega
/-- As many as there may be of the first i. -/
def Filled (L : List Tm) (i : Nat) : Prop := L.length = min i 4096 ∧ (∀ t ∈ L, ∃ k, k < min i 4096 ∧ t.nm = nmOf k) ∧ ∀ k, k < min i 4096 → ∃ t ∈ L, t.nm = nmOf k
theorem Filled.more {L : List Tm} {i : Nat} (h : Filled L i) (hi : i < 4096) {L' : List Tm} {t : Tm} (hp : L'.Perm (L ++ [t])) (ht : t.nm = nmOf i) : Filled L' (i + 1) := by
  obtain ⟨h1, h2, h3⟩ := h
  refine ⟨by rw [hp.length_eq]; simp; omega, fun s hs => ?_, fun k hk => ?_⟩
  · rcases List.mem_append.1 (hp.mem_iff.1 hs) with h5 | h5
    · obtain ⟨k, hk, e⟩ := h2 s h5
      exact ⟨k, by omega, e⟩
    · simp at h5
      exact ⟨i, by omega, by rw [h5]; exact ht⟩
  · by_cases hki : k = i
    · exact ⟨t, hp.mem_iff.2 (by simp), by rw [hki]; exact ht⟩
    · obtain ⟨s, hs, e⟩ := h3 k (by omega)
      exact ⟨s, hp.mem_iff.2 (List.mem_append_left _ hs), e⟩
theorem Filled.full {L : List Tm} {i : Nat} (h : Filled L i) (hi : 4096 ≤ i) : Filled L (i + 1) := by
  obtain ⟨h1, h2, h3⟩ := h
  have e : min (i + 1) 4096 = min i 4096 := by omega
  exact ⟨by omega, by rw [e]; exact h2, by rw [e]; exact h3⟩
theorem Filled.fresh {L : List Tm} {i : Nat} (h : Filled L i) (hi : i < 65536) (hm : min i 4096 ≤ i) : ∀ t ∈ L, t.nm ≠ nmOf i := by
  intro t ht e
  obtain ⟨k, hk, e'⟩ := h.2.1 t ht
  have := nmOf_inj (by omega) hi (e'.symm.trans e)
  omega
/-- One round's call. -/
theorem set_round {n : Nat} {W : World} {q mb : Nat} {L : List Tm} (h : Lv n W q mb L) (hl : n ≤ W.heap.size) (i : Nat) (hi : i < 65536) (hF : Filled L i) : Calls Try.prog 12 #[.pointer (some ⟨q, 0, none⟩), .string (nmOf i), .int .i64 i] W (fun e w' => e = .returned (.int .i64 (if i < 4096 then 0 else 6)) ∧ ∃ L', Lv n w' q mb L' ∧ Kp n W w' ∧ Filled L' (i + 1)) := by
  have hs := nmOf_size i
  have hlen := hF.1
  by_cases hc : i < 4096
  · rw [if_pos hc]
    exact (h.set_new hl (nmOf i) i hs (hF.fresh hi (by omega)) (by omega)).mono fun e w' ⟨h1, h2, h3⟩ => ⟨h1, _, h2, h3, hF.more hc (upF_perm _ _ _) rfl⟩
  · rw [if_neg hc]
    exact (h.set_full hl (nmOf i) i hs (hF.fresh hi (by omega)) (by omega)).mono fun e w' ⟨h1, h2, h3⟩ => ⟨h1, _, h2, h3, hF.full (by omega)⟩
theorem name_conv (W : World) (i : Nat) : (convert 51 9 (.slice (some ⟨W.heap.size, 0, none⟩) 2 2)).run Try.prog (W.alloc (.cells #[.int .u8 ((i / 256 % 256 : Nat) : Int), .int .u8 ((i % 256 : Nat) : Int)] 5)) = .ok (.string ⟨#[UInt8.ofNat (i / 256), UInt8.ofNat i]⟩) (W.alloc (.cells #[.int .u8 ((i / 256 % 256 : Nat) : Int), .int .u8 ((i % 256 : Nat) : Int)] 5)) := by
  refine run_convert_bytes_back _ 51 9 5 ⟨W.heap.size, 0, none⟩ 2 [UInt8.ofNat (i / 256), UInt8.ofNat i] Try.underlying51 Try.underlying5 Try.underlying9 (fun k hk => ?_)
  match k, hk with
  | 0, _ => exact one_cell (new_block W _ _) (by simp)
  | 1, _ => exact one_cell (new_block W _ _) (by simp)
theorem fin {w W W' : World} (k : Kp w.heap.size w W) (hl : w.heap.size ≤ w.heap.size) (b : Below W.heap.size W W') : Below w.heap.size w W' := k.below.trans (b.mono (k.le hl))
theorem meas (m i : Nat) (h : i < m) : m - (intOf (.int .i64 ((i : Int) + 1))).toNat < m - (intOf (.int .i64 (i : Int))).toNat := by
  simp [intOf]; omega
theorem nxt (i : Nat) : Value.int .i64 ((i : Int) + 1) = .int .i64 ((i + 1 : Nat) : Int) := by
  congr 1
set_option maxHeartbeats 4000000 in
set_option maxRecDepth 100000 in
theorem many_few (m : Nat) (b : Bool) (w : World) (hm : m ≤ 50) : Calls Try.prog 4 #[.int .i64 m, .bool b] w (Gives w (.bool true)) := by
    have HM : Hid (m ≤ 4098) := Nat.le_trans hm (by decide)
    have q1 : ¬ (m : Int) < 0 := by omega
    have q2 : ¬ 4098 < (m : Int) := by omega
    have q3 : ¬ 50 < (m : Int) := by omega
    clear hm
    have N := lv_new w
    go_enter Try.func4, Try.ntmps4
    go_wp2_with (go_at_call 10; refine N.mono ?_; rintro e w1 ⟨rfl, l1, k1⟩; clear N)
    clear q1 q2 q3
    go_loopw [6] (fun u wr => ∃ (i : Nat) (L : List Tm), u = .int .i64 i ∧ i ≤ m ∧ Lv w.heap.size wr (w.heap.size + 1) w.heap.size L ∧ Kp w.heap.size w wr ∧ Hid (Filled L i)) (fun u _ => m - (intOf u).toNat)
    case atStart => exact ⟨0, [], rfl, Nat.zero_le _, l1, k1, rfl, (fun _ h => by cases h), fun k hk => by simp at hk⟩
    case round =>
      obtain ⟨i, L, rfl, hi, hL, hK, HF⟩ := hrel
      by_cases hlt : i < m
      · have hlt' : (i : Int) < (m : Int) := by omega
        have HB : Hid (i < 4098 ∧ i < m) := ⟨by have := HM.out; omega, hlt⟩
        have e1 : IntKind.u8.wrap ((i : Int) / 256) = ((i / 256 % 256 : Nat) : Int) := by
          simp only [IntKind.wrap, IntKind.signed, IntKind.bits]
          simp
        have e2 : IntKind.u8.wrap (i : Int) = ((i % 256 : Nat) : Int) := by
          simp only [IntKind.wrap, IntKind.signed, IntKind.bits]
          simp
        have e3 : wrap64 ((i : Int) + 1) = (i : Int) + 1 := by have := HB.out; unfold wrap64; omega
        have HE : Hid (wrap64 ((i : Int) + 1) = (i : Int) + 1) := e3
        have cv := name_conv wr i
        have hal := hL.alloc (.cells #[.int .u8 ((i / 256 % 256 : Nat) : Int), .int .u8 ((i % 256 : Nat) : Int)] 5)
        have SR := set_round hal (leA (hK.le (Nat.le_refl _)) _) i (by have := HB.out; omega) HF.out
        have hKa := hK.alloc (hK.le (Nat.le_refl _)) (.cells #[.int .u8 ((i / 256 % 256 : Nat) : Int), .int .u8 ((i % 256 : Nat) : Int)] 5)
        generalize ((i / 256 % 256 : Nat) : Int) = x at *
        generalize ((i % 256 : Nat) : Int) = y at *
        clear hi hlt hal
        by_cases hc : i < 4096
        · have hc' : (i : Int) < 4096 := by omega
          rw [if_pos hc] at SR
          clear hc
          go_wp2_with (first
            | (go_at_call 11; refine (num_any _ _).mono ?_; rintro e wn ⟨rfl, rfl⟩)
            | (go_at_call 12; refine SR.mono ?_; rintro e w2 ⟨rfl, L2, l2, k2, f2⟩))
          go_roundw
          case rel => exact ⟨i + 1, L2, (by first | exact nxt i | (rw [HE.out]; exact nxt i)), HB.out.2, l2, hKa.trans k2, f2⟩
          case measure => first | exact meas m i HB.out.2 | (rw [HE.out]; exact meas m i HB.out.2)
        · have hc' : decide ((i : Int) < 4096) = false := decide_eq_false (by omega)
          rw [if_neg hc] at SR
          clear hc
          go_wp2_with (first
            | (go_at_call 11; refine (num_any _ _).mono ?_; rintro e wn ⟨rfl, rfl⟩)
            | (go_at_call 12; refine SR.mono ?_; rintro e w2 ⟨rfl, L2, l2, k2, f2⟩))
          go_roundw
          case rel => exact ⟨i + 1, L2, (by first | exact nxt i | (rw [HE.out]; exact nxt i)), HB.out.2, l2, hKa.trans k2, f2⟩
          case measure => first | exact meas m i HB.out.2 | (rw [HE.out]; exact meas m i HB.out.2)
      · have him : i = m := by omega
        subst him
        have hz := hK.le (Nat.le_refl _)
        have hLn := HF.out.1
        clear hi hlt l1 k1
        by_cases hag : b = true ∧ 0 < i
        · obtain ⟨hb, hp⟩ := hag
          obtain ⟨t, ht, hnm⟩ := HF.out.2.2 0 (by omega)
          rw [nmOf_zero] at hnm
          obtain ⟨j, hj, hjt⟩ := List.getElem_of_mem ht
          have SH := hL.set_hit hz j hj 7 (by omega)
          rw [hjt, hnm] at SH
          have hl2 : (fixF (setAt L j 7) j L.length).length = L.length := by rw [(fixF_perm _ _ _).length_eq, setAt_len]
          generalize fixF (setAt L j 7) j L.length = L2 at *
          subst hb
          clear ht hnm hj hjt HF
          by_cases hc : i ≤ 4096
          · have hc' : (i : Int) ≤ 4096 := by omega
            have hl3 : (L2.length : Int) = (i : Int) := by omega
            clear hLn hl2 hc
            go_wp2_with (first
              | (go_at_call 11; refine (num_any _ _).mono ?_; rintro e wn ⟨rfl, rfl⟩)
              | (go_at_call 12; refine SH.mono ?_; rintro e w2 ⟨rfl, l2, k2⟩; have z2 := k2.le hz)
              | (go_at_call 24; refine (l2.len z2).mono ?_; rintro e w3 ⟨rfl, l3, k3⟩; rw [hl3])
              | (go_at_call 9; refine (live_any _).mono ?_; rintro e w9 ⟨rfl, b9⟩))
            go_ret
            exact ⟨rfl, fin ((hK.trans k2).trans k3) (Nat.le_refl _) b9⟩
          · have hc' : ¬ (i : Int) ≤ 4096 := by omega
            have hl3 : (L2.length : Int) = 4096 := by omega
            clear hLn hl2 hc
            go_wp2_with (first
              | (go_at_call 11; refine (num_any _ _).mono ?_; rintro e wn ⟨rfl, rfl⟩)
              | (go_at_call 12; refine SH.mono ?_; rintro e w2 ⟨rfl, l2, k2⟩; have z2 := k2.le hz)
              | (go_at_call 24; refine (l2.len z2).mono ?_; rintro e w3 ⟨rfl, l3, k3⟩; rw [hl3])
              | (go_at_call 9; refine (live_any _).mono ?_; rintro e w9 ⟨rfl, b9⟩))
            go_ret
            exact ⟨rfl, fin ((hK.trans k2).trans k3) (Nat.le_refl _) b9⟩
        · clear HF
          by_cases hb : b = true
          · have hi0 : i = 0 := by
              by_cases h0 : 0 < i
              · exact absurd ⟨hb, h0⟩ hag
              · omega
            have hl3 : (L.length : Int) = 0 := by omega
            subst hb hi0
            clear hag hLn HM
            go_wp2_with (first
              | (go_at_call 24; refine (hL.len hz).mono ?_; rintro e w3 ⟨rfl, l3, k3⟩; rw [hl3])
              | (go_at_call 9; refine (live_any _).mono ?_; rintro e w9 ⟨rfl, b9⟩))
            go_ret
            exact ⟨rfl, fin (hK.trans k3) (Nat.le_refl _) b9⟩
          · have hb' : b = false := by simpa using hb
            subst hb'
            clear hag hb
            by_cases hc : i ≤ 4096
            · have hc' : (i : Int) ≤ 4096 := by omega
              have hl3 : (L.length : Int) = (i : Int) := by omega
              clear hLn hc
              go_wp2_with (first
                | (go_at_call 24; refine (hL.len hz).mono ?_; rintro e w3 ⟨rfl, l3, k3⟩; rw [hl3])
                | (go_at_call 9; refine (live_any _).mono ?_; rintro e w9 ⟨rfl, b9⟩))
              go_ret
              exact ⟨rfl, fin (hK.trans k3) (Nat.le_refl _) b9⟩
            · have hc' : ¬ (i : Int) ≤ 4096 := by omega
              have hl3 : (L.length : Int) = 4096 := by omega
              clear hLn hc
              go_wp2_with (first
                | (go_at_call 24; refine (hL.len hz).mono ?_; rintro e w3 ⟨rfl, l3, k3⟩; rw [hl3])
                | (go_at_call 9; refine (live_any _).mono ?_; rintro e w9 ⟨rfl, b9⟩))
              go_ret
              exact ⟨rfl, fin (hK.trans k3) (Nat.le_refl _) b9⟩
set_option maxHeartbeats 4000000 in
set_option maxRecDepth 100000 in
theorem many_lots (m : Nat) (b : Bool) (w : World) (hm : 4094 ≤ m) (hm' : m ≤ 4098) : Calls Try.prog 4 #[.int .i64 m, .bool b] w (Gives w (.bool true)) := by
    have HM : Hid (m ≤ 4098) := hm'
    have q1 : ¬ (m : Int) < 0 := by omega
    have q2 : ¬ 4098 < (m : Int) := by omega
    have q3 : 50 < (m : Int) := by omega
    have q4 : ¬ (m : Int) < 4094 := by omega
    clear hm hm'
    have N := lv_new w
    go_enter Try.func4, Try.ntmps4
    go_wp2_with (go_at_call 10; refine N.mono ?_; rintro e w1 ⟨rfl, l1, k1⟩; clear N)
    clear q1 q2 q3 q4
    go_loopw [6] (fun u wr => ∃ (i : Nat) (L : List Tm), u = .int .i64 i ∧ i ≤ m ∧ Lv w.heap.size wr (w.heap.size + 1) w.heap.size L ∧ Kp w.heap.size w wr ∧ Hid (Filled L i)) (fun u _ => m - (intOf u).toNat)
    case atStart => exact ⟨0, [], rfl, Nat.zero_le _, l1, k1, rfl, (fun _ h => by cases h), fun k hk => by simp at hk⟩
    case round =>
      obtain ⟨i, L, rfl, hi, hL, hK, HF⟩ := hrel
      by_cases hlt : i < m
      · have hlt' : (i : Int) < (m : Int) := by omega
        have HB : Hid (i < 4098 ∧ i < m) := ⟨by have := HM.out; omega, hlt⟩
        have e1 : IntKind.u8.wrap ((i : Int) / 256) = ((i / 256 % 256 : Nat) : Int) := by
          simp only [IntKind.wrap, IntKind.signed, IntKind.bits]
          simp
        have e2 : IntKind.u8.wrap (i : Int) = ((i % 256 : Nat) : Int) := by
          simp only [IntKind.wrap, IntKind.signed, IntKind.bits]
          simp
        have e3 : wrap64 ((i : Int) + 1) = (i : Int) + 1 := by have := HB.out; unfold wrap64; omega
        have HE : Hid (wrap64 ((i : Int) + 1) = (i : Int) + 1) := e3
        have cv := name_conv wr i
        have hal := hL.alloc (.cells #[.int .u8 ((i / 256 % 256 : Nat) : Int), .int .u8 ((i % 256 : Nat) : Int)] 5)
        have SR := set_round hal (leA (hK.le (Nat.le_refl _)) _) i (by have := HB.out; omega) HF.out
        have hKa := hK.alloc (hK.le (Nat.le_refl _)) (.cells #[.int .u8 ((i / 256 % 256 : Nat) : Int), .int .u8 ((i % 256 : Nat) : Int)] 5)
        generalize ((i / 256 % 256 : Nat) : Int) = x at *
        generalize ((i % 256 : Nat) : Int) = y at *
        clear hi hlt hal
        by_cases hc : i < 4096
        · have hc' : (i : Int) < 4096 := by omega
          rw [if_pos hc] at SR
          clear hc
          go_wp2_with (first
            | (go_at_call 11; refine (num_any _ _).mono ?_; rintro e wn ⟨rfl, rfl⟩)
            | (go_at_call 12; refine SR.mono ?_; rintro e w2 ⟨rfl, L2, l2, k2, f2⟩))
          go_roundw
          case rel => exact ⟨i + 1, L2, (by first | exact nxt i | (rw [HE.out]; exact nxt i)), HB.out.2, l2, hKa.trans k2, f2⟩
          case measure => first | exact meas m i HB.out.2 | (rw [HE.out]; exact meas m i HB.out.2)
        · have hc' : decide ((i : Int) < 4096) = false := decide_eq_false (by omega)
          rw [if_neg hc] at SR
          clear hc
          go_wp2_with (first
            | (go_at_call 11; refine (num_any _ _).mono ?_; rintro e wn ⟨rfl, rfl⟩)
            | (go_at_call 12; refine SR.mono ?_; rintro e w2 ⟨rfl, L2, l2, k2, f2⟩))
          go_roundw
          case rel => exact ⟨i + 1, L2, (by first | exact nxt i | (rw [HE.out]; exact nxt i)), HB.out.2, l2, hKa.trans k2, f2⟩
          case measure => first | exact meas m i HB.out.2 | (rw [HE.out]; exact meas m i HB.out.2)
      · have him : i = m := by omega
        subst him
        have hz := hK.le (Nat.le_refl _)
        have hLn := HF.out.1
        clear hi hlt l1 k1
        by_cases hag : b = true ∧ 0 < i
        · obtain ⟨hb, hp⟩ := hag
          obtain ⟨t, ht, hnm⟩ := HF.out.2.2 0 (by omega)
          rw [nmOf_zero] at hnm
          obtain ⟨j, hj, hjt⟩ := List.getElem_of_mem ht
          have SH := hL.set_hit hz j hj 7 (by omega)
          rw [hjt, hnm] at SH
          have hl2 : (fixF (setAt L j 7) j L.length).length = L.length := by rw [(fixF_perm _ _ _).length_eq, setAt_len]
          generalize fixF (setAt L j 7) j L.length = L2 at *
          subst hb
          clear ht hnm hj hjt HF
          by_cases hc : i ≤ 4096
          · have hc' : (i : Int) ≤ 4096 := by omega
            have hl3 : (L2.length : Int) = (i : Int) := by omega
            clear hLn hl2 hc
            go_wp2_with (first
              | (go_at_call 11; refine (num_any _ _).mono ?_; rintro e wn ⟨rfl, rfl⟩)
              | (go_at_call 12; refine SH.mono ?_; rintro e w2 ⟨rfl, l2, k2⟩; have z2 := k2.le hz)
              | (go_at_call 24; refine (l2.len z2).mono ?_; rintro e w3 ⟨rfl, l3, k3⟩; rw [hl3])
              | (go_at_call 9; refine (live_any _).mono ?_; rintro e w9 ⟨rfl, b9⟩))
            go_ret
            exact ⟨rfl, fin ((hK.trans k2).trans k3) (Nat.le_refl _) b9⟩
          · have hc' : ¬ (i : Int) ≤ 4096 := by omega
            have hl3 : (L2.length : Int) = 4096 := by omega
            clear hLn hl2 hc
            go_wp2_with (first
              | (go_at_call 11; refine (num_any _ _).mono ?_; rintro e wn ⟨rfl, rfl⟩)
              | (go_at_call 12; refine SH.mono ?_; rintro e w2 ⟨rfl, l2, k2⟩; have z2 := k2.le hz)
              | (go_at_call 24; refine (l2.len z2).mono ?_; rintro e w3 ⟨rfl, l3, k3⟩; rw [hl3])
              | (go_at_call 9; refine (live_any _).mono ?_; rintro e w9 ⟨rfl, b9⟩))
            go_ret
            exact ⟨rfl, fin ((hK.trans k2).trans k3) (Nat.le_refl _) b9⟩
        · clear HF
          by_cases hb : b = true
          · have hi0 : i = 0 := by
              by_cases h0 : 0 < i
              · exact absurd ⟨hb, h0⟩ hag
              · omega
            have hl3 : (L.length : Int) = 0 := by omega
            subst hb hi0
            clear hag hLn HM
            go_wp2_with (first
              | (go_at_call 24; refine (hL.len hz).mono ?_; rintro e w3 ⟨rfl, l3, k3⟩; rw [hl3])
              | (go_at_call 9; refine (live_any _).mono ?_; rintro e w9 ⟨rfl, b9⟩))
            go_ret
            exact ⟨rfl, fin (hK.trans k3) (Nat.le_refl _) b9⟩
          · have hb' : b = false := by simpa using hb
            subst hb'
            clear hag hb
            by_cases hc : i ≤ 4096
            · have hc' : (i : Int) ≤ 4096 := by omega
              have hl3 : (L.length : Int) = (i : Int) := by omega
              clear hLn hc
              go_wp2_with (first
                | (go_at_call 24; refine (hL.len hz).mono ?_; rintro e w3 ⟨rfl, l3, k3⟩; rw [hl3])
                | (go_at_call 9; refine (live_any _).mono ?_; rintro e w9 ⟨rfl, b9⟩))
              go_ret
              exact ⟨rfl, fin (hK.trans k3) (Nat.le_refl _) b9⟩
            · have hc' : ¬ (i : Int) ≤ 4096 := by omega
              have hl3 : (L.length : Int) = 4096 := by omega
              clear hLn hc
              go_wp2_with (first
                | (go_at_call 24; refine (hL.len hz).mono ?_; rintro e w3 ⟨rfl, l3, k3⟩; rw [hl3])
                | (go_at_call 9; refine (live_any _).mono ?_; rintro e w9 ⟨rfl, b9⟩))
              go_ret
              exact ⟨rfl, fin (hK.trans k3) (Nat.le_refl _) b9⟩
set_option maxHeartbeats 4000000 in
set_option maxRecDepth 100000 in
theorem many_out (n : Int) (b : Bool) (w : World) (h : ¬ (0 ≤ n ∧ n ≤ 4098 ∧ ¬ (50 < n ∧ n < 4094))) : Calls Try.prog 4 #[.int .i64 n, .bool b] w (Gives w (.bool true)) := by
  by_cases h1 : n < 0
  · go_enter Try.func4, Try.ntmps4
    go_wp2_with (go_at_call 9; refine (live_any _).mono ?_; rintro e w9 ⟨rfl, b9⟩)
    go_ret
    exact ⟨rfl, b9⟩
  · by_cases h2 : 4098 < n
    · clear h
      go_enter Try.func4, Try.ntmps4
      go_wp2_with (go_at_call 9; refine (live_any _).mono ?_; rintro e w9 ⟨rfl, b9⟩)
      go_ret
      exact ⟨rfl, b9⟩
    · have h3 : 50 < n := by omega
      have h4 : n < 4094 := by omega
      clear h
      go_enter Try.func4, Try.ntmps4
      go_wp2_with (go_at_call 9; refine (live_any _).mono ?_; rintro e w9 ⟨rfl, b9⟩)
      go_ret
      exact ⟨rfl, b9⟩
theorem many_walk (n : Int) (b : Bool) (w : World) : Calls Try.prog 4 #[.int .i64 n, .bool b] w (Gives w (.bool true)) := by
  by_cases h : 0 ≤ n ∧ n ≤ 4098 ∧ ¬ (50 < n ∧ n < 4094)
  · obtain ⟨m, rfl⟩ : ∃ m : Nat, n = m := ⟨n.toNat, by omega⟩
    by_cases h5 : m ≤ 50
    · exact many_few m b w h5
    · exact many_lots m b w (by omega) (by omega)
  · exact many_out n b w h
end Go.Proofs.Ytkamcnjofpamhaa
