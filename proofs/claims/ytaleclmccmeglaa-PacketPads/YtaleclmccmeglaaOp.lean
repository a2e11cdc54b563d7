/-
  The contract of tlv.Open for every bytes within memory.
-/
import Derived.Test.YtaleclmccmeglaaPk
namespace Go.Proofs.Ytaleclmccmeglaa
open Go.RowKit
variable {bv : Option Addr}

/-- A list of bytes that was answered: new memory. -/
def Own (w w' : World) (a : Option Addr) (c : Nat) (l : List UInt8) : Prop := Src w' a l.length c (bcells l) ∧ (∀ ad, a = some ad → w.heap.size ≤ ad.block)

/-- What Open tells: the error, the body, the trailer. -/
def opE (l : List UInt8) : Int :=
  match l with
  | a :: b :: c :: d :: r => if a ≠ 42 then 50 else if b ≠ 2 then 51 else if r.length < c.toNat * 256 + d.toNat then 52 else 0
  | _ => 3
def opB (l : List UInt8) : List UInt8 := if opE l = 0 then match l with
  | _ :: _ :: c :: d :: r => r.take (c.toNat * 256 + d.toNat)
  | _ => []
  else []
def opT (l : List UInt8) : List UInt8 := if opE l = 0 then match l with
  | _ :: _ :: c :: d :: r => r.drop (c.toNat * 256 + d.toNat)
  | _ => []
  else []
def Opened (w : World) (l : List UInt8) (e : Ending) (w' : World) : Prop :=
  ∃ a c b d, e = .returned (.tuple #[.slice a (opB l).length c, .slice b (opT l).length d, .int .i64 (opE l)]) ∧ Own w w' a c (opB l) ∧ Own w w' b d (opT l) ∧ Below w.heap.size w w'

theorem tk_short {l : List UInt8} {p : Nat} {k : Int} (h : ((l.length - p : Nat) : Int) < k) : tkB l p 0 k = [] ∧ tkE l p 0 k = 3 := by
  constructor
  · unfold tkB; rw [if_neg (by omega)]
  · unfold tkE; rw [if_neg (by simp), if_neg (by omega), if_neg (by omega)]
theorem tk_there {l : List UInt8} {p : Nat} {k : Int} (h0 : 0 ≤ k) (h : k ≤ ((l.length - p : Nat) : Int)) : tkB l p 0 k = (l.drop p).take k.toNat ∧ tkE l p 0 k = 0 := by
  constructor
  · unfold tkB; rw [if_pos (by omega)]
  · unfold tkE; rw [if_neg (by simp), if_neg (by omega), if_pos (by omega)]
theorem tk_err {l : List UInt8} {p : Nat} {y n : Int} (h : y ≠ 0) : tkB l p y n = [] ∧ tkE l p y n = y := by
  unfold tkB tkE
  rw [if_neg (by omega), if_pos h]
  exact ⟨rfl, rfl⟩
def Wk8 (l : List UInt8) (p : Nat) (y : Int) (q : Nat) (z : Int) : Prop := (y ≠ 0 → z = y) ∧ (y = 0 → l.length < p + 1 → z = 3) ∧ (y = 0 → p + 1 ≤ l.length → z = 0 ∧ q = p + 1)
def Wk16 (l : List UInt8) (p : Nat) (y z : Int) : Prop := (y ≠ 0 → z = y) ∧ (y = 0 → l.length < p + 2 → z = 3)
/-- Numbers that are read, whether they are there or not. -/
theorem u8_weak (g : Nat) (l : List UInt8) (p : Nat) (y : Int) (w : World) (h : Rd w g bv l p y) :
    Calls Try.prog 35 #[.pointer (some ⟨g, 0, none⟩)] w fun e w' => ∃ (m q : Nat) (z : Int), m < 256 ∧ e = .returned (.int .u8 m) ∧ Now w w' g bv l q z ∧ Wk8 l p y q z := by
  refine (u8_any g l p y w h).mono ?_
  rintro e w' ⟨rfl, hn⟩
  refine ⟨_, _, _, by simpa using nv_lt_of l p 1 y, rfl, hn, ⟨fun hy => (tk_err hy).2, ?_, ?_⟩⟩
  · rintro rfl hl
    exact (tk_short (by omega)).2
  · rintro rfl hl
    obtain ⟨e1, e2⟩ := tk_there (l := l) (p := p) (k := 1) (by omega) (by omega)
    exact ⟨e2, by rw [e1]; simp; omega⟩
theorem u16_weak (g : Nat) (l : List UInt8) (p : Nat) (y : Int) (w : World) (h : Rd w g bv l p y) :
    Calls Try.prog 36 #[.pointer (some ⟨g, 0, none⟩)] w fun e w' => ∃ (m q : Nat) (z : Int), m < 65536 ∧ e = .returned (.int .u16 m) ∧ Now w w' g bv l q z ∧ Wk16 l p y z := by
  refine (u16_any g l p y w h).mono ?_
  rintro e w' ⟨rfl, hn⟩
  refine ⟨_, _, _, by simpa using nv_lt_of l p 2 y, rfl, hn, ⟨fun hy => (tk_err hy).2, ?_⟩⟩
  rintro rfl hl
  exact (tk_short (by omega)).2
theorem now_below {B : Nat} {a b c : World} {g : Nat} {l : List UInt8} {p : Nat} {y : Int} (hb : Below B a b) (hs : B ≤ b.heap.size) (hg : B ≤ g) (h : Now b c g bv l p y) : Below B a c := hb.grown h.grown hs (fun k hk => by cases hk; exact hg)

theorem short3 {l : List UInt8} {p1 p2 : Nat} {y1 y2 y3 : Int} (hl : l.length < 4) (h1 : Wk8 l 0 0 p1 y1) (h2 : Wk8 l p1 y1 p2 y2) (h3 : Wk16 l p2 y2 y3) : y3 = 3 := by
  obtain ⟨_, hB1, hC1⟩ := h1
  obtain ⟨hA2, hB2, hC2⟩ := h2
  obtain ⟨hA3, hB3⟩ := h3
  replace hB1 := hB1 rfl
  replace hC1 := hC1 rfl
  omega
theorem open_short (a : Option Addr) (n c : Nat) (l : List UInt8) (w : World) (hs : Src w a n c (bcells l)) (hl : l.length < 4) :
    Calls Try.prog 18 #[.slice a n c] w fun e w' => e = .returned (.tuple #[.slice none 0 0, .slice none 0 0, .int .i64 3]) ∧ Below w.heap.size w w' := by
  have hn : n ≤ 140737488355328 := by have := hs.blen; omega
  go_enter Try.func18, Try.ntmps18
  go_wp2_with (first
    | (go_at_call 37; have k := hn4; (have hy3 : y3 = 3 := short3 hl hA1 hA2 hA3; subst hy3; refine (why_any g l _ _ _ hn4.rd).mono ?_; rintro e w5 ⟨rfl, hn5⟩))
    | (go_at_call 36; have k := hn3; refine (u16_weak g l _ _ _ hn3.rd).mono ?_; rintro e w4 ⟨m3, p3, y3, hm3, rfl, hn4, hA3⟩)
    | (go_at_call 35; have k := hn2; refine (u8_weak g l _ _ _ hn2.rd).mono ?_; rintro e w3 ⟨m2, p2, y2, hm2, rfl, hn3, hA2⟩)
    | (go_at_call 35; refine (u8_weak g l 0 0 _ hr1).mono ?_; rintro e w2 ⟨m1, p1, y1, hm1, rfl, hn2, hA1⟩)
    | (go_at_call 34; refine (new_any a n c l w hs hn).mono ?_; rintro e w1 ⟨g, bv, rfl, hg1, hv1, hr1, hb1⟩))
  go_ret3
  have b2 := now_below hb1 hb1.size hg1 hn2
  have b3 := now_below b2 b2.size hg1 hn3
  have b4 := now_below b3 b3.size hg1 hn4
  exact ⟨rfl, now_below b4 b4.size hg1 hn5⟩
/-- The four first bytes, read. -/
theorem hd1 {g : Nat} {w : World} {a b c d : UInt8} {r : List UInt8} (h : Rd w g bv (a :: b :: c :: d :: r) 0 0) : Calls Try.prog 35 #[.pointer (some ⟨g, 0, none⟩)] w fun e w' => e = .returned (.int .u8 (a.toNat : Int)) ∧ Now w w' g bv (a :: b :: c :: d :: r) 1 0 := by
  have h := u8_any g _ 0 0 w h
  obtain ⟨e1, e2⟩ := tk_there (l := a :: b :: c :: d :: r) (p := 0) (k := 1) (by omega) (by simp; omega)
  rw [e1, e2] at h
  simpa [nv] using h
theorem hd2 {g : Nat} {w : World} {a b c d : UInt8} {r : List UInt8} (h : Rd w g bv (a :: b :: c :: d :: r) 1 0) : Calls Try.prog 35 #[.pointer (some ⟨g, 0, none⟩)] w fun e w' => e = .returned (.int .u8 (b.toNat : Int)) ∧ Now w w' g bv (a :: b :: c :: d :: r) 2 0 := by
  have h := u8_any g _ 1 0 w h
  obtain ⟨e1, e2⟩ := tk_there (l := a :: b :: c :: d :: r) (p := 1) (k := 1) (by omega) (by simp; omega)
  rw [e1, e2] at h
  simpa [nv] using h
theorem hd3 {g : Nat} {w : World} {a b c d : UInt8} {r : List UInt8} (h : Rd w g bv (a :: b :: c :: d :: r) 2 0) : Calls Try.prog 36 #[.pointer (some ⟨g, 0, none⟩)] w fun e w' => e = .returned (.int .u16 ((c.toNat * 256 + d.toNat : Nat) : Int)) ∧ Now w w' g bv (a :: b :: c :: d :: r) 4 0 := by
  have h := u16_any g _ 2 0 w h
  obtain ⟨e1, e2⟩ := tk_there (l := a :: b :: c :: d :: r) (p := 2) (k := 2) (by omega) (by simp; omega)
  rw [e1, e2] at h
  simpa [nv] using h
theorem own_nil (w w' : World) : Own w w' none 0 [] := ⟨Src.nil _, fun _ h => by cases h⟩
theorem opened_err {w w' : World} {l : List UInt8} {z : Int} (hz : opE l = z) (h0 : z ≠ 0) (hb : Below w.heap.size w w') : Opened w l (.returned (.tuple #[.slice none 0 0, .slice none 0 0, .int .i64 z])) w' := by
  have e1 : opB l = [] := by unfold opB; rw [if_neg (by omega)]
  have e2 : opT l = [] := by unfold opT; rw [if_neg (by omega)]
  unfold Opened
  rw [e1, e2, hz]
  exact ⟨none, 0, none, 0, rfl, own_nil _ _, own_nil _ _, hb⟩

/-- What a reader of a packet's bytes tells: the first four, and how many are left. -/
structure Hd4 (L : List UInt8) (m v N ρ : Nat) : Prop where
  one : ∀ g bv w, Rd w g bv L 0 0 → Calls Try.prog 35 #[.pointer (some ⟨g, 0, none⟩)] w fun e w' => e = .returned (.int .u8 (m : Int)) ∧ Now w w' g bv L 1 0
  two : ∀ g bv w, Rd w g bv L 1 0 → Calls Try.prog 35 #[.pointer (some ⟨g, 0, none⟩)] w fun e w' => e = .returned (.int .u8 (v : Int)) ∧ Now w w' g bv L 2 0
  four : ∀ g bv w, Rd w g bv L 2 0 → Calls Try.prog 36 #[.pointer (some ⟨g, 0, none⟩)] w fun e w' => e = .returned (.int .u16 (N : Int)) ∧ Now w w' g bv L 4 0
  left : ∀ g bv w, Rd w g bv L 4 0 → Calls Try.prog 38 #[.pointer (some ⟨g, 0, none⟩)] w fun e w' => e = .returned (.int .i64 (ρ : Int)) ∧ Now w w' g bv L 4 0
  why : ∀ g bv w, Rd w g bv L 4 0 → Calls Try.prog 37 #[.pointer (some ⟨g, 0, none⟩)] w fun e w' => e = .returned (.tuple #[.int .i64 0, .int .i64 0]) ∧ Now w w' g bv L 4 0
theorem Hd4.of (a b c d : UInt8) (r : List UInt8) : Hd4 (a :: b :: c :: d :: r) a.toNat b.toNat (c.toNat * 256 + d.toNat) r.length :=
  ⟨fun _ _ _ h => hd1 h, fun _ _ _ h => hd2 h, fun _ _ _ h => hd3 h, fun g bv w h => by
    have h := left_any g _ _ _ w h
    simpa using h, fun g bv w h => by
    have h := why_any g _ _ _ w h
    simpa using h⟩

theorem open_52 (a : Option Addr) (n c : Nat) (L : List UInt8) (m v N ρ : Nat) (w : World) (hs : Src w a n c (bcells L)) (hn : n ≤ 140737488355328) (H : Hd4 L m v N ρ) (hN : N < 65536) (h1 : m = 42) (h2 : v = 2) (h3 : ρ < N) :
    Calls Try.prog 18 #[.slice a n c] w fun e w' => e = .returned (.tuple #[.slice none 0 0, .slice none 0 0, .int .i64 52]) ∧ Below w.heap.size w w' := by
  subst h1 h2
  go_enter Try.func18, Try.ntmps18
  go_wp2_with (first
    | (go_at_call 38; have k := hn5; refine (H.left _ _ _ hn5.rd).mono ?_; rintro e w6 ⟨rfl, hn6⟩)
    | (go_at_call 37; have k := hn4; refine (H.why _ _ _ hn4.rd).mono ?_; rintro e w5 ⟨rfl, hn5⟩)
    | (go_at_call 36; have k := hn3; refine (H.four _ _ _ hn3.rd).mono ?_; rintro e w4 ⟨rfl, hn4⟩)
    | (go_at_call 35; have k := hn2; refine (H.two _ _ _ hn2.rd).mono ?_; rintro e w3 ⟨rfl, hn3⟩)
    | (go_at_call 35; refine (H.one _ _ _ hr1).mono ?_; rintro e w2 ⟨rfl, hn2⟩)
    | (go_at_call 34; refine (new_any a n c _ w hs hn).mono ?_; rintro e w1 ⟨g, bv, rfl, hg1, hv1, hr1, hb1⟩))
  go_ret3
  have b2 := now_below hb1 hb1.size hg1 hn2
  have b3 := now_below b2 b2.size hg1 hn3
  have b4 := now_below b3 b3.size hg1 hn4
  have b5 := now_below b4 b4.size hg1 hn5
  exact ⟨rfl, now_below b5 b5.size hg1 hn6⟩
theorem open_51 (a : Option Addr) (n c : Nat) (L : List UInt8) (m v N ρ : Nat) (w : World) (hs : Src w a n c (bcells L)) (hn : n ≤ 140737488355328) (H : Hd4 L m v N ρ) (hN : N < 65536) (h1 : m = 42) (h2 : v ≠ 2) :
    Calls Try.prog 18 #[.slice a n c] w fun e w' => e = .returned (.tuple #[.slice none 0 0, .slice none 0 0, .int .i64 51]) ∧ Below w.heap.size w w' := by
  subst h1
  go_enter Try.func18, Try.ntmps18
  go_wp2_with (first
    | (go_at_call 37; have k := hn4; refine (H.why _ _ _ hn4.rd).mono ?_; rintro e w5 ⟨rfl, hn5⟩)
    | (go_at_call 36; have k := hn3; refine (H.four _ _ _ hn3.rd).mono ?_; rintro e w4 ⟨rfl, hn4⟩)
    | (go_at_call 35; have k := hn2; refine (H.two _ _ _ hn2.rd).mono ?_; rintro e w3 ⟨rfl, hn3⟩)
    | (go_at_call 35; refine (H.one _ _ _ hr1).mono ?_; rintro e w2 ⟨rfl, hn2⟩)
    | (go_at_call 34; refine (new_any a n c _ w hs hn).mono ?_; rintro e w1 ⟨g, bv, rfl, hg1, hv1, hr1, hb1⟩))
  go_ret3
  have b2 := now_below hb1 hb1.size hg1 hn2
  have b3 := now_below b2 b2.size hg1 hn3
  have b4 := now_below b3 b3.size hg1 hn4
  exact ⟨rfl, now_below b4 b4.size hg1 hn5⟩
theorem open_50 (a : Option Addr) (n c : Nat) (L : List UInt8) (m v N ρ : Nat) (w : World) (hs : Src w a n c (bcells L)) (hn : n ≤ 140737488355328) (H : Hd4 L m v N ρ) (hN : N < 65536) (h1 : m ≠ 42) :
    Calls Try.prog 18 #[.slice a n c] w fun e w' => e = .returned (.tuple #[.slice none 0 0, .slice none 0 0, .int .i64 50]) ∧ Below w.heap.size w w' := by
  go_enter Try.func18, Try.ntmps18
  go_wp2_with (first
    | (go_at_call 37; have k := hn4; refine (H.why _ _ _ hn4.rd).mono ?_; rintro e w5 ⟨rfl, hn5⟩)
    | (go_at_call 36; have k := hn3; refine (H.four _ _ _ hn3.rd).mono ?_; rintro e w4 ⟨rfl, hn4⟩)
    | (go_at_call 35; have k := hn2; refine (H.two _ _ _ hn2.rd).mono ?_; rintro e w3 ⟨rfl, hn3⟩)
    | (go_at_call 35; refine (H.one _ _ _ hr1).mono ?_; rintro e w2 ⟨rfl, hn2⟩)
    | (go_at_call 34; refine (new_any a n c _ w hs hn).mono ?_; rintro e w1 ⟨g, bv, rfl, hg1, hv1, hr1, hb1⟩))
  go_ret3
  have b2 := now_below hb1 hb1.size hg1 hn2
  have b3 := now_below b2 b2.size hg1 hn3
  have b4 := now_below b3 b3.size hg1 hn4
  exact ⟨rfl, now_below b4 b4.size hg1 hn5⟩

/-- What the reader hands out: the body, then the rest. -/
theorem hd_body {g : Nat} {w : World} {L : List UInt8} {N : Nat} (hl : 4 + N ≤ L.length) (h : Rd w g bv L 4 0) :
    Calls Try.prog 39 #[.pointer (some ⟨g, 0, none⟩), .int .i64 N] w fun e w' => ∃ a c, e = .returned (.slice a N c) ∧ Src w' a N c (bcells ((L.drop 4).take N)) ∧ (∀ ad, a = some ad → w.heap.size ≤ ad.block) ∧ Now w w' g bv L (4 + N) 0 := by
  have h := bytes_any g L 4 0 N w h
  obtain ⟨e1, e2⟩ := tk_there (l := L) (p := 4) (k := N) (by omega) (by omega)
  have e3 : ((L.drop 4).take N).length = N := by simp; omega
  simp only [Int.toNat_natCast] at e1
  rw [e1, e2, e3] at h
  exact h
theorem hd_rest {g : Nat} {w : World} {L : List UInt8} {p : Nat} (h : Rd w g bv L p 0) :
    Calls Try.prog 40 #[.pointer (some ⟨g, 0, none⟩)] w fun e w' => ∃ a c, e = .returned (.slice a (L.length - p) c) ∧ Src w' a (L.length - p) c (bcells (L.drop p)) ∧ (∀ ad, a = some ad → w.heap.size ≤ ad.block) ∧ Now w w' g bv L L.length 0 := by
  have hle := h.le
  have h := rest_any g L p 0 w h
  obtain ⟨e1, e2⟩ := tk_there (l := L) (p := p) (k := (L.length - p : Nat)) (by omega) (by omega)
  have e3 : tkB L p 0 (L.length - p : Nat) = L.drop p := by rw [e1]; simp [List.take_of_length_le]
  have e4 : (L.drop p).length = L.length - p := by simp
  have e5 : p + (L.length - p) = L.length := by omega
  rw [e3, e2, e4, e5] at h
  exact h
theorem open_0 (a : Option Addr) (n c : Nat) (L : List UInt8) (m v N ρ : Nat) (w : World) (hs : Src w a n c (bcells L)) (hn : n ≤ 140737488355328) (H : Hd4 L m v N ρ) (hN : N < 65536) (h1 : m = 42) (h2 : v = 2) (h3 : N ≤ ρ) (hL : ρ + 4 = L.length) :
    Calls Try.prog 18 #[.slice a n c] w fun e w' => ∃ a1 c1 a2 c2 : _, e = .returned (.tuple #[.slice a1 N c1, .slice a2 (L.length - (4 + N)) c2, .int .i64 0]) ∧ Src w' a1 N c1 (bcells ((L.drop 4).take N)) ∧ Src w' a2 (L.length - (4 + N)) c2 (bcells (L.drop (4 + N))) ∧ (∀ ad, a1 = some ad → w.heap.size ≤ ad.block) ∧ (∀ ad, a2 = some ad → w.heap.size ≤ ad.block) ∧ Below w.heap.size w w' := by
  subst h1 h2
  have HL : Hid (ρ + 4 = L.length) := hL
  clear hL
  go_enter Try.func18, Try.ntmps18
  go_wp2_with (first
    | (go_at_call 40; have k := hn7; refine (hd_rest hn7.rd).mono ?_; rintro e w8 ⟨a2, c2, rfl, hs8, hge8, hn8⟩)
    | (go_at_call 39; have k := hn6; refine (hd_body (N := N) (by have := HL.out; omega) hn6.rd).mono ?_; rintro e w7 ⟨a1, c1, rfl, hs7, hge7, hn7⟩)
    | (go_at_call 38; have k := hn5; refine (H.left _ _ _ hn5.rd).mono ?_; rintro e w6 ⟨rfl, hn6⟩)
    | (go_at_call 37; have k := hn4; refine (H.why _ _ _ hn4.rd).mono ?_; rintro e w5 ⟨rfl, hn5⟩)
    | (go_at_call 36; have k := hn3; refine (H.four _ _ _ hn3.rd).mono ?_; rintro e w4 ⟨rfl, hn4⟩)
    | (go_at_call 35; have k := hn2; refine (H.two _ _ _ hn2.rd).mono ?_; rintro e w3 ⟨rfl, hn3⟩)
    | (go_at_call 35; refine (H.one _ _ _ hr1).mono ?_; rintro e w2 ⟨rfl, hn2⟩)
    | (go_at_call 34; refine (new_any a n c _ w hs hn).mono ?_; rintro e w1 ⟨g, bv, rfl, hg1, hv1, hr1, hb1⟩))
  go_ret3
  have b2 := now_below hb1 hb1.size hg1 hn2
  have b3 := now_below b2 b2.size hg1 hn3
  have b4 := now_below b3 b3.size hg1 hn4
  have b5 := now_below b4 b4.size hg1 hn5
  have b6 := now_below b5 b5.size hg1 hn6
  have b7 := now_below b6 b6.size hg1 hn7
  have b8 := now_below b7 b7.size hg1 hn8
  have glt := hn6.rd.lt
  refine ⟨a1, c1, a2, c2, rfl, hs7.grown hn8.grown (fun ad had _ e => ?_), hs8, fun ad had => Nat.le_trans b6.size (hge7 ad had), fun ad had => Nat.le_trans b7.size (hge8 ad had), b8⟩
  have := hge7 ad had
  cases e
  omega

/-- tlv.Open. -/
theorem open_any (a : Option Addr) (n c : Nat) (l : List UInt8) (w : World) (hs : Src w a n c (bcells l)) (hn : n ≤ 140737488355328) : Calls Try.prog 18 #[.slice a n c] w (Opened w l) := by
  by_cases hl : l.length < 4
  · refine (open_short a n c l w hs hl).mono ?_
    rintro e w' ⟨rfl, hb⟩
    refine opened_err ?_ (by decide) hb
    match l, hl with
    | [], _ => rfl
    | [_], _ => rfl
    | [_, _], _ => rfl
    | [_, _, _], _ => rfl
  · obtain ⟨m, v, x, y, r, rfl⟩ : ∃ m v x y r, l = m :: v :: x :: y :: r := by
      match l, hl with
      | m :: v :: x :: y :: r, _ => exact ⟨m, v, x, y, r, rfl⟩
      | [], h => exact absurd (by simp) h
      | [_], h => exact absurd (by simp) h
      | [_, _], h => exact absurd (by simp) h
      | [_, _, _], h => exact absurd (by simp) h
    have hx := x.toNat_lt
    have hy := y.toNat_lt
    have e1 : m = 42 ↔ m.toNat = 42 := UInt8.toNat_inj.symm
    have e2 : v = 2 ↔ v.toNat = 2 := UInt8.toNat_inj.symm
    have H := Hd4.of m v x y r
    by_cases h1 : m = 42
    · by_cases h2 : v = 2
      · by_cases h3 : r.length < x.toNat * 256 + y.toNat
        · refine (open_52 a n c _ _ _ _ _ w hs hn H (by omega) (e1.1 h1) (e2.1 h2) h3).mono ?_
          rintro e w' ⟨rfl, hb⟩
          exact opened_err (by simp [opE, h1, h2, h3]) (by decide) hb
        · refine (open_0 a n c _ _ _ _ _ w hs hn H (by omega) (e1.1 h1) (e2.1 h2) (by omega) (by simp)).mono ?_
          rintro e w' ⟨a1, c1, a2, c2, rfl, hs1, hs2, g1, g2, hb⟩
          have z : opE (m :: v :: x :: y :: r) = 0 := by simp only [opE]; rw [if_neg (by simp [h1]), if_neg (by simp [h2]), if_neg h3]
          have zB : opB (m :: v :: x :: y :: r) = r.take (x.toNat * 256 + y.toNat) := by unfold opB; rw [if_pos z]
          have zT : opT (m :: v :: x :: y :: r) = r.drop (x.toNat * 256 + y.toNat) := by unfold opT; rw [if_pos z]
          have lB : (opB (m :: v :: x :: y :: r)).length = x.toNat * 256 + y.toNat := by rw [zB]; simp; omega
          have lT : (opT (m :: v :: x :: y :: r)).length = (m :: v :: x :: y :: r).length - (4 + (x.toNat * 256 + y.toNat)) := by rw [zT]; simp; omega
          have dT : (m :: v :: x :: y :: r).drop (4 + (x.toNat * 256 + y.toNat)) = opT (m :: v :: x :: y :: r) := by rw [zT, ← List.drop_drop]; rfl
          have dB : ((m :: v :: x :: y :: r).drop 4).take (x.toNat * 256 + y.toNat) = opB (m :: v :: x :: y :: r) := by rw [zB]; rfl
          rw [dB, ← lB] at hs1
          rw [dT, ← lT] at hs2
          exact ⟨a1, c1, a2, c2, by rw [lB, lT, z], ⟨hs1, g1⟩, ⟨hs2, g2⟩, hb⟩
      · refine (open_51 a n c _ _ _ _ _ w hs hn H (by omega) (e1.1 h1) (fun h => h2 (e2.2 h))).mono ?_
        rintro e w' ⟨rfl, hb⟩
        exact opened_err (by simp [opE, h1, h2]) (by decide) hb
    · refine (open_50 a n c _ _ _ _ _ w hs hn H (by omega) (fun h => h1 (e1.2 h))).mono ?_
      rintro e w' ⟨rfl, hb⟩
      exact opened_err (by simp [opE, h1]) (by decide) hb
end Go.Proofs.Ytaleclmccmeglaa
