/-
  The law TlvBack returns true for every list of pieces and every number.
-/
import Derived.Test.YtgkonglkfjbmnaaSm
import Derived.Test.YtgkonglkfjbmnaaTrW
namespace Go.Proofs.Ytgkonglkfjbmnaa
open Go.RowKit
set_option linter.unusedSimpArgs false

theorem Src.pre {w : World} {a : Option Addr} {n c : Nat} {L : List UInt8} (h : Src w a n c (bcells L)) (p : Nat) (hp : p ≤ L.length) : Src w a p c (bcells (L.take p)) := by
  refine ⟨by simp [bcells]; omega, fun ha => ?_, fun ad had j u hu => h.cell ad had j u ?_⟩
  · have := h.bare ha; have := h.blen; omega
  · unfold bcells at *
    rw [List.map_take, List.getElem?_take] at hu
    split at hu
    · exact hu
    · cases hu
theorem slice_preB (a : Option Addr) (n c p : Nat) (hp : p ≤ c) (h0 : a = none → c = 0) (w : World) : (Instr.slice 22 (.slice a n c) none (some (.int .i64 (p : Int))) none).run Try.prog w = .ok (.slice a p c) w := by
  have h1 : (0 : Int) ≤ (p : Int) := by omega
  have h2 : (p : Int) ≤ (c : Int) := by omega
  cases a with
  | none =>
    obtain rfl := h0 rfl
    obtain rfl : p = 0 := by omega
    go_simp
  | some ad => go_simp
theorem slice_preR (a : Option Addr) (n c p : Nat) (hp : p ≤ c) (h0 : a = none → c = 0) (w : World) : (Instr.slice 35 (.slice a n c) none (some (.int .i64 (p : Int))) none).run Try.prog w = .ok (.slice a p c) w := by
  have h1 : (0 : Int) ≤ (p : Int) := by omega
  have h2 : (p : Int) ≤ (c : Int) := by omega
  cases a with
  | none =>
    obtain rfl := h0 rfl
    obtain rfl : p = 0 := by omega
    go_simp
  | some ad => go_simp
theorem own_cap {w : World} {B : Nat} {e : TypeId} {s : Nat} {a : Option Addr} {n c : Nat} {xs : List Value} (h : w.ownsRow B e s (.slice a n c) n xs) : n ≤ c ∧ (a = none → c = 0) := by
  rcases h.2 with ⟨h1, h2⟩ | ⟨g, cap, cur, h1, _, _, h4, _⟩
  · cases h1; exact ⟨by omega, fun _ => rfl⟩
  · cases h1; exact ⟨h4, fun h => by cases h⟩
theorem Rws.pre {w : World} {a : Option Addr} {n : Nat} {ps : List Pc} (h : Rws w a n ps) (k : Nat) (hk : k ≤ n) : Rws w a k (ps.take k) := by
  refine ⟨by have := h.len; simp; omega, fun hne => ?_, fun p hp => h.body p (List.mem_of_mem_take hp)⟩
  obtain ⟨g, o, e, hg, hr⟩ := h.place (by rintro rfl; exact hne (by simp))
  refine ⟨g, o, e, hg, fun j p hp => hr j p ?_⟩
  rw [List.getElem?_take] at hp
  split at hp
  · exact hp
  · cases hp

theorem back_huge (a : Option Addr) (n c : Nat) (ps : List Pc) (cut : Int) (w : World) (hs : Rws w a n ps) (h : hugB ps = true) :
    Calls Try.prog 5 #[.slice a n c, .int .i64 cut] w fun e w' => e = .returned (.bool true) ∧ Below w.heap.size w w' := by
  have HH : Hid (Calls Try.prog 14 #[.slice a n c] w fun e w' => e = .returned (.bool true) ∧ w = w') := by
    have := huge_any a n c ps w hs
    rw [h] at this
    exact this
  clear h hs
  go_enter Try.func5, Try.ntmps5
  go_wp2_with (first
    | (go_at_call 14; refine HH.out.mono ?_; rintro e w' ⟨rfl, rfl⟩)
    | (go_at_call 8; refine (live_any _).mono ?_; rintro e w' ⟨rfl, hw⟩))
  go_ret
  exact ⟨rfl, hw⟩
theorem back_err (a : Option Addr) (n c : Nat) (ps : List Pc) (cut : Int) (w : World) (hs : Rws w a n ps) (hn : n ≤ 300) (h : hugB ps = false) (he : chkE ps ≠ 0) :
    Calls Try.prog 5 #[.slice a n c, .int .i64 cut] w fun e w' => e = .returned (.bool true) ∧ Below w.heap.size w w' := by
  have HH : Hid (Calls Try.prog 14 #[.slice a n c] w fun e w' => e = .returned (.bool false) ∧ w = w') := by
    have := huge_any a n c ps w hs
    rw [h] at this
    exact this
  have HJ : Hid (Calls Try.prog 15 #[.slice a n c] w fun e w' => e = .returned (.tuple #[.slice none 0 0, .int .i64 (chkE ps)]) ∧ Below w.heap.size w w') := join_err a n c ps w hs (by omega) he
  generalize chkE ps = z at *
  have he' : (z == 0) = false := by simpa using he
  have he2 : ¬ z = 0 := he
  clear h hs he
  go_enter Try.func5, Try.ntmps5
  go_wp2_with (first
    | (go_at_call 14; refine HH.out.mono ?_; rintro e w' ⟨rfl, rfl⟩)
    | (go_at_call 15; refine HJ.out.mono ?_; rintro e w1 ⟨rfl, b1⟩)
    | (go_at_call 13; refine (num_any _ _).mono ?_; rintro e wn ⟨rfl, rfl⟩)
    | (go_at_call 8; refine (live_any _).mono ?_; rintro e w2 ⟨rfl, b2⟩))
  go_ret
  exact ⟨rfl, b1.trans (b2.mono b1.size)⟩
theorem back_big (a : Option Addr) (n c : Nat) (ps : List Pc) (cut : Int) (w : World) (hs : Rws w a n ps) (hn : n ≤ 300) (h : hugB ps = false) (he : chkE ps = 0) (hN : 65535 < (joinL ps).length) :
    Calls Try.prog 5 #[.slice a n c, .int .i64 cut] w fun e w' => e = .returned (.bool true) ∧ Below w.heap.size w w' := by
  have HH : Hid (Calls Try.prog 14 #[.slice a n c] w fun e w' => e = .returned (.bool false) ∧ w = w') := by
    have := huge_any a n c ps w hs
    rw [h] at this
    exact this
  have HJ : Hid (Calls Try.prog 15 #[.slice a n c] w (Joined w (joinL ps))) := join_ok a n c ps w hs (by omega) he (by have := joinL_bound ps hs.fit he; have := hs.len; omega)
  unfold Joined at HJ
  generalize joinL ps = L at *
  have hN' : (65535 : Int) < (L.length : Int) := by omega
  generalize L.length = N at *
  clear h hs he
  go_enter Try.func5, Try.ntmps5
  go_wp2_with (first
    | (go_at_call 14; refine HH.out.mono ?_; rintro e w' ⟨rfl, rfl⟩)
    | (go_at_call 15; refine HJ.out.mono ?_; rintro e w1 ⟨a1, c1, rfl, own1, b1⟩)
    | (go_at_call 13; refine (num_any _ _).mono ?_; rintro e wn ⟨rfl, rfl⟩)
    | (go_at_call 8; refine (live_any _).mono ?_; rintro e w2 ⟨rfl, b2⟩))
  go_ret
  exact ⟨rfl, b1.trans (b2.mono b1.size)⟩

/-- What the calls of the law answer where the pieces may be. -/
structure Bk (a : Option Addr) (n c : Nat) (ps : List Pc) (w : World) (L : List UInt8) (N M : Nat) : Prop where
  hug : Calls Try.prog 14 #[.slice a n c] w fun e w' => e = .returned (.bool false) ∧ w = w'
  join : Calls Try.prog 15 #[.slice a n c] w fun e w' => ∃ a' c', e = .returned (.tuple #[.slice a' N c', .int .i64 0]) ∧ w'.ownsRow w.heap.size 5 1 (.slice a' N c') N (bcells L) ∧ Below w.heap.size w w'
  split : ∀ W a c, Src W a N c (bcells L) → Calls Try.prog 17 #[.slice a N c] W fun e w' => ∃ a' c' qs, e = .returned (.tuple #[.slice a' n c', .int .i64 0]) ∧ keys ps = keys qs ∧ Rws w' a' n qs ∧ Below W.heap.size W w'
  packet : ∀ W a c, Src W a N c (bcells L) → Calls Try.prog 9 #[.slice a N c] W fun e w' => ∃ a' c', e = .returned (.tuple #[.slice a' M c', .int .i64 0]) ∧ Src w' a' M c' (bcells (pkL L)) ∧ Below W.heap.size W w'
  opn : ∀ W a c, Src W a M c (bcells (pkL L)) → Calls Try.prog 11 #[.slice a M c] W fun e w' => ∃ a1 c1 a2 c2, e = .returned (.tuple #[.slice a1 N c1, .slice a2 0 c2, .int .i64 0]) ∧ Src w' a1 N c1 (bcells L) ∧ Below W.heap.size W w'
  small : n ≤ 300 ∧ N ≤ 65535
theorem Bk.of {a : Option Addr} {n c : Nat} {ps : List Pc} {w : World} (hs : Rws w a n ps) (hn : n ≤ 300) (h : hugB ps = false) (he : chkE ps = 0) (hN : (joinL ps).length ≤ 65535) : Bk a n c ps w (joinL ps) (joinL ps).length (pkL (joinL ps)).length := by
  have hf := hs.fit
  have hsp := spl_join ps hf he
  refine ⟨?_, join_ok a n c ps w hs (by omega) he (by omega), fun W a c h => ?_, fun W a c h => ?_, fun W a c h => ?_, hn, hN⟩
  · have := huge_any a n c ps w hs
    rw [h] at this
    exact this
  · refine (split_any a _ c _ W h (by omega)).mono ?_
    rintro e w' ⟨a', c', qs, rfl, hk, ho, hb, _, hbel⟩
    rw [hsp] at hk ⊢
    have hl : qs.length = n := by rw [← keys_len, hk, keys_len, hs.len]
    have := own_rws ho hb
    rw [hl] at this ⊢
    exact ⟨a', c', qs, rfl, hk.symm, this, hbel⟩
  · refine (packet_ok a _ c _ W h hN).mono ?_
    rintro e w' ⟨a', c', rfl, ho, hb⟩
    exact ⟨a', c', rfl, own_src ho, hb⟩
  · refine (open_any a _ c _ W h (by rw [pkL_len]; omega)).mono ?_
    rintro e w' ⟨a1, c1, a2, c2, rfl, s1, _, hb⟩
    obtain ⟨e1, e2, e3⟩ := open_pk (joinL ps) [] hN
    rw [List.append_nil] at e1 e2 e3
    have s1 := s1.1
    rw [e2] at s1
    rw [e1, e2, e3]
    exact ⟨a1, c1, a2, c2, rfl, s1, hb⟩
theorem Src.stay {w w' : World} {a : Option Addr} {n c : Nat} {xs : List Value} (h : Src w a n c xs) (hb : Below w.heap.size w w') : Src w' a n c xs := h.below hb h.lt

set_option maxHeartbeats 1000000 in
theorem back_nocut (a : Option Addr) (n c : Nat) (ps : List Pc) (L : List UInt8) (N M : Nat) (cut : Int) (w : World) (hs : Rws w a n ps) (H : Bk a n c ps w L N M) (hcut : cut < 0 ∨ (N : Int) < cut) :
    Calls Try.prog 5 #[.slice a n c, .int .i64 cut] w fun e w' => e = .returned (.bool true) ∧ Below w.heap.size w w' := by
  obtain ⟨hn3, hN6⟩ := H.small
  have hN6' : ¬ (65535 : Int) < (N : Int) := by omega
  by_cases hc0 : cut < 0
  · clear hcut
    go_enter Try.func5, Try.ntmps5
    go_wp2_with (first
      | (go_at_call 21; refine (same_yes a n c ps a2 n c2 qs _ (hs.below g4) ((r2.below b3).below b4) hk (by omega)).mono ?_; rintro e w5 ⟨rfl, b5⟩; have g5 := g4.trans (b5.mono g4.size); have t1 := (s4.stay b5).str; have t2 := ((((own_src own1).stay b2).stay b3).stay b4 |>.stay b5).str)
      | (go_at_call 11; refine (H.opn _ _ _ s3).mono ?_; rintro e w4 ⟨a4, c4, a5, c5, rfl, s4, b4⟩; have g4 := g3.trans (b4.mono g3.size))
      | (go_at_call 9; refine (H.packet _ _ _ ((own_src own1).stay b2)).mono ?_; rintro e w3 ⟨a3, c3, rfl, s3, b3⟩; have g3 := g2.trans (b3.mono g2.size))
      | (go_at_call 17; refine (H.split _ _ _ (own_src own1)).mono ?_; rintro e w2 ⟨a2, c2, qs, rfl, hk, r2, b2⟩; have g2 := b1.trans (b2.mono b1.size))
      | (go_at_call 15; refine H.join.mono ?_; rintro e w1 ⟨a1, c1, rfl, own1, b1⟩)
      | (go_at_call 14; refine H.hug.mono ?_; rintro e w' ⟨rfl, rfl⟩)
      | (go_at_call 13; refine (num_any _ _).mono ?_; rintro e wn ⟨rfl, rfl⟩)
      | (go_at_call 8; refine (live_any _).mono ?_; rintro e w6 ⟨rfl, b6⟩))
    go_ret
    exact ⟨rfl, g5.trans (b6.mono g5.size)⟩
  · have hc1 : (N : Int) < cut := by omega
    clear hcut
    go_enter Try.func5, Try.ntmps5
    go_wp2_with (first
      | (go_at_call 21; refine (same_yes a n c ps a2 n c2 qs _ (hs.below g4) ((r2.below b3).below b4) hk (by omega)).mono ?_; rintro e w5 ⟨rfl, b5⟩; have g5 := g4.trans (b5.mono g4.size); have t1 := (s4.stay b5).str; have t2 := ((((own_src own1).stay b2).stay b3).stay b4 |>.stay b5).str)
      | (go_at_call 11; refine (H.opn _ _ _ s3).mono ?_; rintro e w4 ⟨a4, c4, a5, c5, rfl, s4, b4⟩; have g4 := g3.trans (b4.mono g3.size))
      | (go_at_call 9; refine (H.packet _ _ _ ((own_src own1).stay b2)).mono ?_; rintro e w3 ⟨a3, c3, rfl, s3, b3⟩; have g3 := g2.trans (b3.mono g2.size))
      | (go_at_call 17; refine (H.split _ _ _ (own_src own1)).mono ?_; rintro e w2 ⟨a2, c2, qs, rfl, hk, r2, b2⟩; have g2 := b1.trans (b2.mono b1.size))
      | (go_at_call 15; refine H.join.mono ?_; rintro e w1 ⟨a1, c1, rfl, own1, b1⟩)
      | (go_at_call 14; refine H.hug.mono ?_; rintro e w' ⟨rfl, rfl⟩)
      | (go_at_call 13; refine (num_any _ _).mono ?_; rintro e wn ⟨rfl, rfl⟩)
      | (go_at_call 8; refine (live_any _).mono ?_; rintro e w6 ⟨rfl, b6⟩))
    go_ret
    exact ⟨rfl, g5.trans (b6.mono g5.size)⟩
set_option maxHeartbeats 1000000 in
theorem back_cut (a : Option Addr) (n c : Nat) (ps : List Pc) (L : List UInt8) (N M k : Nat) (w : World) (hs : Rws w a n ps) (hcap : n ≤ c) (hnone : a = none → c = 0) (H : Bk a n c ps w L N M) (hL : L.length = N) (hk : k ≤ N) (hpre : ∀ qs : List Pc, keys qs = (splL (L.take k)).1 → qs.length ≤ n ∧ keys qs = keys (ps.take qs.length)) :
    Calls Try.prog 5 #[.slice a n c, .int .i64 (k : Int)] w fun e w' => e = .returned (.bool true) ∧ Below w.heap.size w w' := by
  obtain ⟨hn3, hN6⟩ := H.small
  have hN6' : ¬ (65535 : Int) < (N : Int) := by omega
  have HP : Hid (∀ qs : List Pc, keys qs = (splL (L.take k)).1 → qs.length ≤ n ∧ keys qs = keys (ps.take qs.length)) := hpre
  have HLn : Hid (L.length = N) := hL
  have HS : Hid (∀ W a c, Src W a k c (bcells (L.take k)) → Calls Try.prog 17 #[.slice a k c] W fun e w' => ∃ a' c' m z qs, e = .returned (.tuple #[.slice a' m c', .int .i64 z]) ∧ keys qs = (splL (L.take k)).1 ∧ Rws w' a' m qs ∧ m ≤ n ∧ Below W.heap.size W w') := by
    intro W a c h
    refine (split_any a k c _ W h (by omega)).mono ?_
    rintro e w' ⟨a', c', qs, rfl, hk, ho, hb, _, hbel⟩
    exact ⟨a', c', _, _, qs, rfl, hk, own_rws ho hb, (hpre qs hk).1, hbel⟩
  clear hpre hL
  go_enter Try.func5, Try.ntmps5
  go_wp2_with (first
    | (go_at_call 21; have kk := r6; refine (same_yes a6 m6 c6 rs a m6 c (ps.take m6) _ r6 ((hs.below g6).pre m6 hm6) hkk (by omega)).mono ?_; rintro e w7 ⟨rfl, b7⟩; have g7 := g6.trans (b7.mono g6.size))
    | (go_at_call 21; refine (same_yes a n c ps a2 n c2 qs _ (hs.below g4) ((r2.below b3).below b4) hk2 (by omega)).mono ?_; rintro e w5 ⟨rfl, b5⟩; have g5 := g4.trans (b5.mono g4.size); have t1 := (s4.stay b5).str; have t2 := ((((own_src own1).stay b2).stay b3).stay b4 |>.stay b5).str; have sl1 := slice_preB a1 N c1 k (by have := (own_cap own1).1; omega) (own_cap own1).2)
    | (go_at_call 11; refine (H.opn _ _ _ s3).mono ?_; rintro e w4 ⟨a4, c4, a5, c5, rfl, s4, b4⟩; have g4 := g3.trans (b4.mono g3.size))
    | (go_at_call 9; refine (H.packet _ _ _ ((own_src own1).stay b2)).mono ?_; rintro e w3 ⟨a3, c3, rfl, s3, b3⟩; have g3 := g2.trans (b3.mono g2.size))
    | (go_at_call 17; have kk := g5; refine (HS.out _ _ _ ((((((own_src own1).stay b2).stay b3).stay b4).stay b5).pre k (by rw [HLn.out]; exact hk))).mono ?_; rintro e w6 ⟨a6, c6, m6, z6, rs, rfl, hk6, r6, hm6, b6⟩; have g6 := g5.trans (b6.mono g5.size); have sl2 := slice_preR a n c m6 (by omega) hnone; have hml : rs.length = m6 := r6.len; have hkk : keys rs = keys (ps.take m6) := hml ▸ (HP.out rs hk6).2; clear hml)
    | (go_at_call 17; refine (H.split _ _ _ (own_src own1)).mono ?_; rintro e w2 ⟨a2, c2, qs, rfl, hk2, r2, b2⟩; have g2 := b1.trans (b2.mono b1.size))
    | (go_at_call 15; refine H.join.mono ?_; rintro e w1 ⟨a1, c1, rfl, own1, b1⟩)
    | (go_at_call 14; refine H.hug.mono ?_; rintro e w' ⟨rfl, rfl⟩)
    | (go_at_call 13; refine (num_any _ _).mono ?_; rintro e wn ⟨rfl, rfl⟩)
    | (go_at_call 8; refine (live_any _).mono ?_; rintro e w8 ⟨rfl, b8⟩))
  go_ret
  exact ⟨rfl, g7.trans (b8.mono g7.size)⟩
theorem back_any (a : Option Addr) (n c : Nat) (ps : List Pc) (cut : Int) (w : World) (hs : Rws w a n ps) (hcap : n ≤ c ∧ (a = none → c = 0)) :
    Calls Try.prog 5 #[.slice a n c, .int .i64 cut] w fun e w' => e = .returned (.bool true) ∧ Below w.heap.size w w' := by
  have hlen := hs.len
  cases h : hugB ps with
  | true => exact back_huge a n c ps cut w hs h
  | false =>
    have hn : n ≤ 300 := by
      unfold hugB at h
      simp at h
      omega
    by_cases he : chkE ps = 0
    · by_cases hN : (joinL ps).length ≤ 65535
      · have H := Bk.of (c := c) hs hn h he hN
        by_cases hc : cut < 0 ∨ ((joinL ps).length : Int) < cut
        · exact back_nocut a n c ps _ _ _ cut w hs H hc
        · obtain ⟨k, rfl⟩ : ∃ k : Nat, cut = k := ⟨cut.toNat, by omega⟩
          refine back_cut a n c ps _ _ _ k w hs hcap.1 hcap.2 H rfl (by omega) (fun qs hq => ?_)
          have hp := spl_take _ (joinL ps) k (Nat.le_refl _)
          rw [spl_join ps hs.fit he, ← hq] at hp
          have hle := hp.length_le
          rw [keys_len, keys_len] at hle
          refine ⟨by omega, ?_⟩
          rw [keys_take, ← keys_len qs]
          exact List.prefix_iff_eq_take.1 hp
      · exact back_big a n c ps cut w hs hn h he (by omega)
    · exact back_err a n c ps cut w hs hn h he
end Go.Proofs.Ytgkonglkfjbmnaa
