/-
  The law TlvPackets returns true for every two slices of bytes.
-/
import Derived.Test.YtgkonglkfjbmnaaRefO
namespace Go.Proofs.Ytgkonglkfjbmnaa
open Go.RowKit
set_option linter.unusedSimpArgs false

/-- append([]byte{}, b...): a copy. -/
theorem append_new {w : World} {ops : Array Oper} {rest : List Oper} {o : Oper} {a : Act} {Q : Exit → Act → World → Prop} (hgd : o.guard = none) (s x : Operand)
    (ho : o.op = .call { callee := .builtin .append, args := #[s, x], argTypes := #[22, 22] })
    (hs : a.eval s = .slice (some ⟨w.heap.size, 0, none⟩) 0 0) (ad : Option Addr) (m c : Nat) (l : List UInt8) (hx : a.eval x = .slice ad m c) (hsrc : Src w ad m c (bcells l)) (hbytes : m ≤ 140737488355328)
    (h : ∀ a' c' w', Src w' a' m c' (bcells l) → Below w.heap.size w w' → wpList Try.prog ops Q rest (a.put o.dst (.slice a' m c')) w') : wpList Try.prog ops Q (o :: rest) a (w.alloc (.cells #[] 5)) := by
  refine append_src hgd s x ho w.heap.size _ 0 [] hs (World.ownsRow_made w #[] 0 (Nat.le_refl _) (by unfold maxLen; omega) rfl) ad m c (bcells l) hx (hsrc.alloc _) (bcells_one l) (by omega) (by simp) ?_
  intro v' w1 hown hg _
  simp only [Nat.zero_add, List.nil_append] at hown
  obtain ⟨a', c', hv, hs', hlt⟩ := Src.ofOwn hown
  subst hv
  exact h a' c' w1 hs' (((Below.refl _ _).alloc (Nat.le_refl _) _).grown hg (by simp) (fun k hk => by cases hk; exact Nat.le_refl _))

/-- What both Packets answer. -/
def pkP (l : List UInt8) : List UInt8 := if l.length ≤ 65535 then pkL l else []
def pkE (l : List UInt8) : Int := if l.length ≤ 65535 then 0 else 1
def Pkd (w : World) (l : List UInt8) (e : Ending) (w' : World) : Prop :=
  ∃ a c, e = .returned (.tuple #[.slice a (pkP l).length c, .int .i64 (pkE l)]) ∧ Src w' a (pkP l).length c (bcells (pkP l)) ∧ Below w.heap.size w w'
theorem pkd_ok {w w' : World} {l : List UInt8} {e : Ending} (hl : l.length ≤ 65535) (h : Packed w l e w') : Pkd w l e w' := by
  have e1 : pkP l = pkL l := by unfold pkP; rw [if_pos hl]
  have e2 : pkE l = 0 := by unfold pkE; rw [if_pos hl]
  obtain ⟨a, c, rfl, h1, h2⟩ := h
  unfold Pkd
  rw [e1, e2]
  exact ⟨a, c, rfl, own_src h1, h2⟩
theorem pkd_long {w : World} {l : List UInt8} (hl : ¬ l.length ≤ 65535) : Pkd w l (.returned (.tuple #[.slice none 0 0, .int .i64 1])) w := by
  have e1 : pkP l = [] := by unfold pkP; rw [if_neg hl]
  have e2 : pkE l = 1 := by unfold pkE; rw [if_neg hl]
  unfold Pkd
  rw [e1, e2]
  exact ⟨none, 0, rfl, Src.nil _, Below.refl _ _⟩
theorem packet_any (a : Option Addr) (n c : Nat) (l : List UInt8) (w : World) (hs : Src w a n c (bcells l)) : Calls Try.prog 9 #[.slice a n c] w (Pkd w l) := by
  have hlen := hs.blen
  by_cases hn : n ≤ 65535
  · exact (packet_ok a n c l w hs hn).mono fun e w' h => pkd_ok (by omega) h
  · refine (packet_long a n c w (by omega)).mono ?_
    rintro e w' ⟨rfl, rfl⟩
    exact pkd_long (by omega)
theorem rpacket_any (a : Option Addr) (n c : Nat) (l : List UInt8) (w : World) (hs : Src w a n c (bcells l)) : Calls Try.prog 10 #[.slice a n c] w (Pkd w l) := by
  have hlen := hs.blen
  by_cases hn : n ≤ 65535
  · exact (rpacket_ok a n c l w hs hn).mono fun e w' h => pkd_ok (by omega) h
  · refine (rpacket_long a n c w (by omega)).mono ?_
    rintro e w' ⟨rfl, rfl⟩
    exact pkd_long (by omega)

theorem packets_long (a0 : Option Addr) (n0 c0 : Nat) (a1 : Option Addr) (n1 c1 : Nat) (w : World) (h : 70000 < n0 ∨ 70000 < n1) :
    Calls Try.prog 3 #[.slice a0 n0 c0, .slice a1 n1 c1] w fun e w' => e = .returned (.bool true) ∧ Below w.heap.size w w' := by
  by_cases h0 : 70000 < n0
  · have h0' : (70000 : Int) < (n0 : Int) := by omega
    clear h
    go_enter Try.func3, Try.ntmps3
    go_wp2_with (go_at_call 8; refine (live_any _).mono ?_; rintro e w' ⟨rfl, hw⟩)
    go_ret
    exact ⟨rfl, hw⟩
  · have h0' : ¬ (70000 : Int) < (n0 : Int) := by omega
    have h1' : (70000 : Int) < (n1 : Int) := by omega
    clear h
    go_enter Try.func3, Try.ntmps3
    go_wp2_with (go_at_call 8; refine (live_any _).mono ?_; rintro e w' ⟨rfl, hw⟩)
    go_ret
    exact ⟨rfl, hw⟩

set_option maxHeartbeats 1000000 in
theorem packets_walk (a0 : Option Addr) (n0 c0 : Nat) (l : List UInt8) (a1 : Option Addr) (n1 c1 : Nat) (m : List UInt8) (w : World) (h0 : Src w a0 n0 c0 (bcells l)) (h1 : Src w a1 n1 c1 (bcells m)) (hc : n1 ≤ c1) (k0 : n0 ≤ 70000) (k1 : n1 ≤ 70000) :
    Calls Try.prog 3 #[.slice a0 n0 c0, .slice a1 n1 c1] w fun e w' => e = .returned (.bool true) ∧ Below w.heap.size w w' := by
  have P1 : Hid (∀ W a c, Src W a n0 c (bcells l) → Calls Try.prog 9 #[.slice a n0 c] W (Pkd W l)) := fun W a c h => packet_any a n0 c l W h
  have P2 : Hid (∀ W a c, Src W a n0 c (bcells l) → Calls Try.prog 10 #[.slice a n0 c] W (Pkd W l)) := fun W a c h => rpacket_any a n0 c l W h
  have P3 : Hid (∀ W a c, Src W a n1 c (bcells m) → Calls Try.prog 11 #[.slice a n1 c] W (Opened W m)) := fun W a c h => open_any a n1 c m W h (by omega)
  have P4 : Hid (∀ W, Src W a1 n1 c1 (bcells m) → Calls Try.prog 12 #[.slice a1 n1 c1] W (ROpened W m)) := fun W h => ropen_any a1 n1 c1 m W h hc (by omega)
  unfold Pkd at P1 P2
  unfold Opened at P3
  unfold ROpened at P4
  generalize pkP l = PL at *
  generalize pkE l = PE at *
  generalize opB m = OB at *
  generalize opT m = OT at *
  generalize opE m = OE at *
  clear hc
  go_enter Try.func3, Try.ntmps3
  go_wp2_with (first
    | (go_at_call 13; refine (num_any _ _).mono ?_; rintro e wn ⟨rfl, rfl⟩)
    | (go_at_call 8; refine (live_any _).mono ?_; rintro e w7 ⟨rfl, b7⟩)
    | (go_at_call 12; refine (P4.out _ (h1.below g5 h1.lt)).mono ?_; rintro e w6 ⟨a6, c6, a7, c7, rfl, s6, s7, b6⟩; have g6 := g5.trans (b6.mono g5.size); have t1 := ((((s2.below b3 s2.lt).below b4 (s2.below b3 s2.lt).lt).below b5 ((s2.below b3 s2.lt).below b4 (s2.below b3 s2.lt).lt).lt).below b6 (((s2.below b3 s2.lt).below b4 (s2.below b3 s2.lt).lt).below b5 ((s2.below b3 s2.lt).below b4 (s2.below b3 s2.lt).lt).lt).lt).str; have t2 := (((s3.below b4 s3.lt).below b5 (s3.below b4 s3.lt).lt).below b6 ((s3.below b4 s3.lt).below b5 (s3.below b4 s3.lt).lt).lt).str; have t3 := (s5.1.below b6 s5.1.lt).str; have t4 := (s5'.1.below b6 s5'.1.lt).str; have t5 := s6.str; have t6 := s7.str)
    | (go_at_call 11; refine (P3.out _ _ _ s4).mono ?_; rintro e w5 ⟨a5, c5, a5', c5', rfl, s5, s5', b5⟩; have g5 := g4.trans (b5.mono g4.size))
    | (at_builtin; have kk := g3; refine append_new rfl (.tmp 37) (.tmp 38) rfl rfl a1 n1 c1 m rfl (h1.below g3 h1.lt) (by omega) ?_; intro a4 c4 w4 s4 b4; have g4 := g3.trans (b4.mono g3.size))
    | (go_at_call 10; refine (P2.out _ _ _ (h0.below g2 h0.lt)).mono ?_; rintro e w3 ⟨a3, c3, rfl, s3, b3⟩; have g3 := g2.trans (b3.mono g2.size))
    | (go_at_call 9; refine (P1.out _ _ _ s1).mono ?_; rintro e w2 ⟨a2, c2, rfl, s2, b2⟩; have g2 := b1.trans (b2.mono b1.size))
    | (at_builtin; refine append_new rfl (.tmp 25) (.tmp 26) rfl rfl a0 n0 c0 l rfl h0 (by omega) ?_; intro a1' c1' w1 s1 b1))
  go_ret
  exact ⟨rfl, g6.trans (b7.mono g6.size)⟩
theorem packets_any (a0 : Option Addr) (n0 c0 : Nat) (l : List UInt8) (a1 : Option Addr) (n1 c1 : Nat) (m : List UInt8) (w : World) (h0 : Src w a0 n0 c0 (bcells l)) (h1 : Src w a1 n1 c1 (bcells m)) (hc : n1 ≤ c1) :
    Calls Try.prog 3 #[.slice a0 n0 c0, .slice a1 n1 c1] w fun e w' => e = .returned (.bool true) ∧ Below w.heap.size w w' := by
  by_cases h : 70000 < n0 ∨ 70000 < n1
  · exact packets_long a0 n0 c0 a1 n1 c1 w h
  · exact packets_walk a0 n0 c0 l a1 n1 c1 m w h0 h1 hc (by omega) (by omega)
end Go.Proofs.Ytgkonglkfjbmnaa
