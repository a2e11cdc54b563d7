/-
  The contract of tlv.Open for every bytes within memory.
-/
import Derived.Test.YtognnfknbkedgaaM01
import Derived.Deep.MidRow
namespace Go.Proofs.Ytognnfknbkedgaa
open Go.RowKit
variable {bv : Option Addr}

/-- A list of bytes that was answered: new memory. -/
def Own (w w' : World) (a : Option Addr) (c : Nat) (l : List UInt8) : Prop := Src w' a l.length c (bcells l) ∧ (∀ ad, a = some ad → w.heap.size ≤ ad.block)

/-- What Open tells: the error, the body, the trailer. -/
def opE (l : List UInt8) : Int :=
  match l with
  | a :: b :: c :: d :: r => if a ≠ 42 then 50 else if b ≠ 2 then 51 else if r.length < c.toNat * 256 + d.toNat then 52 else 0
  | _ => 3
def opB (l : List UInt8) : List UInt8 := if opE l = 0 then match l with
  | _ :: _ :: c :: d :: r => r.take (c.toNat * 256 + d.toNat)
  | _ => []
  else []
def opT (l : List UInt8) : List UInt8 := if opE l = 0 then match l with
  | _ :: _ :: c :: d :: r => r.drop (c.toNat * 256 + d.toNat)
  | _ => []
  else []
def Opened (w : World) (l : List UInt8) (e : Ending) (w' : World) : Prop :=
  ∃ a c b d, e = .returned (.tuple #[.slice a (opB l).length c, .slice b (opT l).length d, .int .i64 (opE l)]) ∧ Own w w' a c (opB l) ∧ Own w w' b d (opT l) ∧ Below w.heap.size w w'

theorem tk_short {l : List UInt8} {p : Nat} {k : Int} (h : ((l.length - p : Nat) : Int) < k) : tkB l p 0 k = [] ∧ tkE l p 0 k = 3 := by
  constructor
  · unfold tkB; rw [if_neg (by omega)]
  · unfold tkE; rw [if_neg (by simp), if_neg (by omega), if_neg (by omega)]
theorem tk_there {l : List UInt8} {p : Nat} {k : Int} (h0 : 0 ≤ k) (h : k ≤ ((l.length - p : Nat) : Int)) : tkB l p 0 k = (l.drop p).take k.toNat ∧ tkE l p 0 k = 0 := by
  constructor
  · unfold tkB; rw [if_pos (by omega)]
  · unfold tkE; rw [if_neg (by simp), if_neg (by omega), if_pos (by omega)]
theorem tk_err {l : List UInt8} {p : Nat} {y n : Int} (h : y ≠ 0) : tkB l p y n = [] ∧ tkE l p y n = y := by
  unfold tkB tkE
  rw [if_neg (by omega), if_pos h]
  exact ⟨rfl, rfl⟩
def Wk8 (l : List UInt8) (p : Nat) (y : Int) (q : Nat) (z : Int) : Prop := (y ≠ 0 → z = y) ∧ (y = 0 → l.length < p + 1 → z = 3) ∧ (y = 0 → p + 1 ≤ l.length → z = 0 ∧ q = p + 1)
def Wk16 (l : List UInt8) (p : Nat) (y z : Int) : Prop := (y ≠ 0 → z = y) ∧ (y = 0 → l.length < p + 2 → z = 3)
/-- Numbers that are read, whether they are there or not. -/
theorem u8_weak (g : Nat) (l : List UInt8) (p : Nat) (y : Int) (w : World) (h : Rd w g bv l p y) :
    Calls Try.prog 47 #[.pointer (some ⟨g, 0, none⟩)] w fun e w' => ∃ (m q : Nat) (z : Int), m < 256 ∧ e = .returned (.int .u8 m) ∧ Now w w' g bv l q z ∧ Wk8 l p y q z := by
  refine (u8_any g l p y w h).mono ?_
  rintro e w' ⟨rfl, hn⟩
  refine ⟨_, _, _, by simpa using nv_lt_of l p 1 y, rfl, hn, ⟨fun hy => (tk_err hy).2, ?_, ?_⟩⟩
  · rintro rfl hl
    exact (tk_short (by omega)).2
  · rintro rfl hl
    obtain ⟨e1, e2⟩ := tk_there (l := l) (p := p) (k := 1) (by omega) (by omega)
    exact ⟨e2, by rw [e1]; simp; omega⟩
theorem u16_weak (g : Nat) (l : List UInt8) (p : Nat) (y : Int) (w : World) (h : Rd w g bv l p y) :
    Calls Try.prog 48 #[.pointer (some ⟨g, 0, none⟩)] w fun e w' => ∃ (m q : Nat) (z : Int), m < 65536 ∧ e = .returned (.int .u16 m) ∧ Now w w' g bv l q z ∧ Wk16 l p y z := by
  refine (u16_any g l p y w h).mono ?_
  rintro e w' ⟨rfl, hn⟩
  refine ⟨_, _, _, by simpa using nv_lt_of l p 2 y, rfl, hn, ⟨fun hy => (tk_err hy).2, ?_⟩⟩
  rintro rfl hl
  exact (tk_short (by omega)).2
theorem now_below {B : Nat} {a b c : World} {g : Nat} {l : List UInt8} {p : Nat} {y : Int} (hb : Below B a b) (hs : B ≤ b.heap.size) (hg : B ≤ g) (h : Now b c g bv l p y) : Below B a c := hb.grown h.grown hs (fun k hk => by cases hk; exact hg)

theorem short3 {l : List UInt8} {p1 p2 : Nat} {y1 y2 y3 : Int} (hl : l.length < 4) (h1 : Wk8 l 0 0 p1 y1) (h2 : Wk8 l p1 y1 p2 y2) (h3 : Wk16 l p2 y2 y3) : y3 = 3 := by
  obtain ⟨_, hB1, hC1⟩ := h1
  obtain ⟨hA2, hB2, hC2⟩ := h2
  obtain ⟨hA3, hB3⟩ := h3
  replace hB1 := hB1 rfl
  replace hC1 := hC1 rfl
  omega
theorem open_short (a : Option Addr) (n c : Nat) (l : List UInt8) (w : World) (hs : Src w a n c (bcells l)) (hl : l.length < 4) :
    Calls Try.prog 30 #[.slice a n c] w fun e w' => e = .returned (.tuple #[.slice none 0 0, .slice none 0 0, .int .i64 3]) ∧ Below w.heap.size w w' := by
  have hn : n ≤ 140737488355328 := by have := hs.blen; omega
  go_enter Try.func30, Try.ntmps30
  go_wp2_with (first
    | (go_at_call 49; have k := hn4; (have hy3 : y3 = 3 := short3 hl hA1 hA2 hA3; subst hy3; refine (why_any g l _ _ _ hn4.rd).mono ?_; rintro e w5 ⟨rfl, hn5⟩))
    | (go_at_call 48; have k := hn3; refine (u16_weak g l _ _ _ hn3.rd).mono ?_; rintro e w4 ⟨m3, p3, y3, hm3, rfl, hn4, hA3⟩)
    | (go_at_call 47; have k := hn2; refine (u8_weak g l _ _ _ hn2.rd).mono ?_; rintro e w3 ⟨m2, p2, y2, hm2, rfl, hn3, hA2⟩)
    | (go_at_call 47; refine (u8_weak g l 0 0 _ hr1).mono ?_; rintro e w2 ⟨m1, p1, y1, hm1, rfl, hn2, hA1⟩)
    | (go_at_call 46; refine (new_any a n c l w hs hn).mono ?_; rintro e w1 ⟨g, bv, rfl, hg1, hv1, hr1, hb1⟩))
  go_ret3
  have b2 := now_below hb1 hb1.size hg1 hn2
  have b3 := now_below b2 b2.size hg1 hn3
  have b4 := now_below b3 b3.size hg1 hn4
  exact ⟨rfl, now_below b4 b4.size hg1 hn5⟩
/-- The four first bytes, read. -/
theorem hd1 {g : Nat} {w : World} {a b c d : UInt8} {r : List UInt8} (h : Rd w g bv (a :: b :: c :: d :: r) 0 0) : Calls Try.prog 47 #[.pointer (some ⟨g, 0, none⟩)] w fun e w' => e = .returned (.int .u8 (a.toNat : Int)) ∧ Now w w' g bv (a :: b :: c :: d :: r) 1 0 := by
  have h := u8_any g _ 0 0 w h
  obtain ⟨e1, e2⟩ := tk_there (l := a :: b :: c :: d :: r) (p := 0) (k := 1) (by omega) (by simp; omega)
  rw [e1, e2] at h
  simpa [nv] using h
theorem hd2 {g : Nat} {w : World} {a b c d : UInt8} {r : List UInt8} (h : Rd w g bv (a :: b :: c :: d :: r) 1 0) : Calls Try.prog 47 #[.pointer (some ⟨g, 0, none⟩)] w fun e w' => e = .returned (.int .u8 (b.toNat : Int)) ∧ Now w w' g bv (a :: b :: c :: d :: r) 2 0 := by
  have h := u8_any g _ 1 0 w h
  obtain ⟨e1, e2⟩ := tk_there (l := a :: b :: c :: d :: r) (p := 1) (k := 1) (by omega) (by simp; omega)
  rw [e1, e2] at h
  simpa [nv] using h
theorem hd3 {g : Nat} {w : World} {a b c d : UInt8} {r : List UInt8} (h : Rd w g bv (a :: b :: c :: d :: r) 2 0) : Calls Try.prog 48 #[.pointer (some ⟨g, 0, none⟩)] w fun e w' => e = .returned (.int .u16 ((c.toNat * 256 + d.toNat : Nat) : Int)) ∧ Now w w' g bv (a :: b :: c :: d :: r) 4 0 := by
  have h := u16_any g _ 2 0 w h
  obtain ⟨e1, e2⟩ := tk_there (l := a :: b :: c :: d :: r) (p := 2) (k := 2) (by omega) (by simp; omega)
  rw [e1, e2] at h
  simpa [nv] using h
theorem own_nil (w w' : World) : Own w w' none 0 [] := ⟨Src.nil _, fun _ h => by cases h⟩
theorem opened_err {w w' : World} {l : List UInt8} {z : Int} (hz : opE l = z) (h0 : z ≠ 0) (hb : Below w.heap.size w w') : Opened w l (.returned (.tuple #[.slice none 0 0, .slice none 0 0, .int .i64 z])) w' := by
  have e1 : opB l = [] := by unfold opB; rw [if_neg (by omega)]
  have e2 : opT l = [] := by unfold opT; rw [if_neg (by omega)]
  unfold Opened
  rw [e1, e2, hz]
  exact ⟨none, 0, none, 0, rfl, own_nil _ _, own_nil _ _, hb⟩

/-- What a reader of a packet's bytes tells: the first four, and how many are left. -/
structure Hd4 (L : List UInt8) (m v N ρ : Nat) : Prop where
  one : ∀ g bv w, Rd w g bv L 0 0 → Calls Try.prog 47 #[.pointer (some ⟨g, 0, none⟩)] w fun e w' => e = .returned (.int .u8 (m : Int)) ∧ Now w w' g bv L 1 0
  two : ∀ g bv w, Rd w g bv L 1 0 → Calls Try.prog 47 #[.pointer (some ⟨g, 0, none⟩)] w fun e w' => e = .returned (.int .u8 (v : Int)) ∧ Now w w' g bv L 2 0
  four : ∀ g bv w, Rd w g bv L 2 0 → Calls Try.prog 48 #[.pointer (some ⟨g, 0, none⟩)] w fun e w' => e = .returned (.int .u16 (N : Int)) ∧ Now w w' g bv L 4 0
  left : ∀ g bv w, Rd w g bv L 4 0 → Calls Try.prog 50 #[.pointer (some ⟨g, 0, none⟩)] w fun e w' => e = .returned (.int .i64 (ρ : Int)) ∧ Now w w' g bv L 4 0
  why : ∀ g bv w, Rd w g bv L 4 0 → Calls Try.prog 49 #[.pointer (some ⟨g, 0, none⟩)] w fun e w' => e = .returned (.tuple #[.int .i64 0, .int .i64 0]) ∧ Now w w' g bv L 4 0
theorem Hd4.of (a b c d : UInt8) (r : List UInt8) : Hd4 (a :: b :: c :: d :: r) a.toNat b.toNat (c.toNat * 256 + d.toNat) r.length :=
  ⟨fun _ _ _ h => hd1 h, fun _ _ _ h => hd2 h, fun _ _ _ h => hd3 h, fun g bv w h => by
    have h := left_any g _ _ _ w h
    simpa using h, fun g bv w h => by
    have h := why_any g _ _ _ w h
    simpa using h⟩

theorem open_52 (a : Option Addr) (n c : Nat) (L : List UInt8) (m v N ρ : Nat) (w : World) (hs : Src w a n c (bcells L)) (hn : n ≤ 140737488355328) (H : Hd4 L m v N ρ) (hN : N < 65536) (h1 : m = 42) (h2 : v = 2) (h3 : ρ < N) :
    Calls Try.prog 30 #[.slice a n c] w fun e w' => e = .returned (.tuple #[.slice none 0 0, .slice none 0 0, .int .i64 52]) ∧ Below w.heap.size w w' := by
  subst h1 h2
  go_enter Try.func30, Try.ntmps30
  go_wp2_with (first
    | (go_at_call 50; have k := hn5; refine (H.left _ _ _ hn5.rd).mono ?_; rintro e w6 ⟨rfl, hn6⟩)
    | (go_at_call 49; have k := hn4; refine (H.why _ _ _ hn4.rd).mono ?_; rintro e w5 ⟨rfl, hn5⟩)
    | (go_at_call 48; have k := hn3; refine (H.four _ _ _ hn3.rd).mono ?_; rintro e w4 ⟨rfl, hn4⟩)
    | (go_at_call 47; have k := hn2; refine (H.two _ _ _ hn2.rd).mono ?_; rintro e w3 ⟨rfl, hn3⟩)
    | (go_at_call 47; refine (H.one _ _ _ hr1).mono ?_; rintro e w2 ⟨rfl, hn2⟩)
    | (go_at_call 46; refine (new_any a n c _ w hs hn).mono ?_; rintro e w1 ⟨g, bv, rfl, hg1, hv1, hr1, hb1⟩))
  go_ret3
  have b2 := now_below hb1 hb1.size hg1 hn2
  have b3 := now_below b2 b2.size hg1 hn3
  have b4 := now_below b3 b3.size hg1 hn4
  have b5 := now_below b4 b4.size hg1 hn5
  exact ⟨rfl, now_below b5 b5.size hg1 hn6⟩
theorem open_51 (a : Option Addr) (n c : Nat) (L : List UInt8) (m v N ρ : Nat) (w : World) (hs : Src w a n c (bcells L)) (hn : n ≤ 140737488355328) (H : Hd4 L m v N ρ) (hN : N < 65536) (h1 : m = 42) (h2 : v ≠ 2) :
    Calls Try.prog 30 #[.slice a n c] w fun e w' => e = .returned (.tuple #[.slice none 0 0, .slice none 0 0, .int .i64 51]) ∧ Below w.heap.size w w' := by
  subst h1
  go_enter Try.func30, Try.ntmps30
  go_wp2_with (first
    | (go_at_call 49; have k := hn4; refine (H.why _ _ _ hn4.rd).mono ?_; rintro e w5 ⟨rfl, hn5⟩)
    | (go_at_call 48; have k := hn3; refine (H.four _ _ _ hn3.rd).mono ?_; rintro e w4 ⟨rfl, hn4⟩)
    | (go_at_call 47; have k := hn2; refine (H.two _ _ _ hn2.rd).mono ?_; rintro e w3 ⟨rfl, hn3⟩)
    | (go_at_call 47; refine (H.one _ _ _ hr1).mono ?_; rintro e w2 ⟨rfl, hn2⟩)
    | (go_at_call 46; refine (new_any a n c _ w hs hn).mono ?_; rintro e w1 ⟨g, bv, rfl, hg1, hv1, hr1, hb1⟩))
  go_ret3
  have b2 := now_below hb1 hb1.size hg1 hn2
  have b3 := now_below b2 b2.size hg1 hn3
  have b4 := now_below b3 b3.size hg1 hn4
  exact ⟨rfl, now_below b4 b4.size hg1 hn5⟩
theorem open_50 (a : Option Addr) (n c : Nat) (L : List UInt8) (m v N ρ : Nat) (w : World) (hs : Src w a n c (bcells L)) (hn : n ≤ 140737488355328) (H : Hd4 L m v N ρ) (hN : N < 65536) (h1 : m ≠ 42) :
    Calls Try.prog 30 #[.slice a n c] w fun e w' => e = .returned (.tuple #[.slice none 0 0, .slice none 0 0, .int .i64 50]) ∧ Below w.heap.size w w' := by
  go_enter Try.func30, Try.ntmps30
  go_wp2_with (first
    | (go_at_call 49; have k := hn4; refine (H.why _ _ _ hn4.rd).mono ?_; rintro e w5 ⟨rfl, hn5⟩)
    | (go_at_call 48; have k := hn3; refine (H.four _ _ _ hn3.rd).mono ?_; rintro e w4 ⟨rfl, hn4⟩)
    | (go_at_call 47; have k := hn2; refine (H.two _ _ _ hn2.rd).mono ?_; rintro e w3 ⟨rfl, hn3⟩)
    | (go_at_call 47; refine (H.one _ _ _ hr1).mono ?_; rintro e w2 ⟨rfl, hn2⟩)
    | (go_at_call 46; refine (new_any a n c _ w hs hn).mono ?_; rintro e w1 ⟨g, bv, rfl, hg1, hv1, hr1, hb1⟩))
  go_ret3
  have b2 := now_below hb1 hb1.size hg1 hn2
  have b3 := now_below b2 b2.size hg1 hn3
  have b4 := now_below b3 b3.size hg1 hn4
  exact ⟨rfl, now_below b4 b4.size hg1 hn5⟩

/-- What the reader hands out: the body, then the rest. -/
theorem hd_body {g : Nat} {w : World} {L : List UInt8} {N : Nat} (hl : 4 + N ≤ L.length) (h : Rd w g bv L 4 0) :
    Calls Try.prog 51 #[.pointer (some ⟨g, 0, none⟩), .int .i64 N] w fun e w' => ∃ a c, e = .returned (.slice a N c) ∧ Src w' a N c (bcells ((L.drop 4).take N)) ∧ (∀ ad, a = some ad → w.heap.size ≤ ad.block) ∧ Now w w' g bv L (4 + N) 0 := by
  have h := bytes_any g L 4 0 N w h
  obtain ⟨e1, e2⟩ := tk_there (l := L) (p := 4) (k := N) (by omega) (by omega)
  have e3 : ((L.drop 4).take N).length = N := by simp; omega
  simp only [Int.toNat_natCast] at e1
  rw [e1, e2, e3] at h
  exact h
theorem hd_rest {g : Nat} {w : World} {L : List UInt8} {p : Nat} (h : Rd w g bv L p 0) :
    Calls Try.prog 52 #[.pointer (some ⟨g, 0, none⟩)] w fun e w' => ∃ a c, e = .returned (.slice a (L.length - p) c) ∧ Src w' a (L.length - p) c (bcells (L.drop p)) ∧ (∀ ad, a = some ad → w.heap.size ≤ ad.block) ∧ Now w w' g bv L L.length 0 := by
  have hle := h.le
  have h := rest_any g L p 0 w h
  obtain ⟨e1, e2⟩ := tk_there (l := L) (p := p) (k := (L.length - p : Nat)) (by omega) (by omega)
  have e3 : tkB L p 0 (L.length - p : Nat) = L.drop p := by rw [e1]; simp [List.take_of_length_le]
  have e4 : (L.drop p).length = L.length - p := by simp
  have e5 : p + (L.length - p) = L.length := by omega
  rw [e3, e2, e4, e5] at h
  exact h
theorem open_0 (a : Option Addr) (n c : Nat) (L : List UInt8) (m v N ρ : Nat) (w : World) (hs : Src w a n c (bcells L)) (hn : n ≤ 140737488355328) (H : Hd4 L m v N ρ) (hN : N < 65536) (h1 : m = 42) (h2 : v = 2) (h3 : N ≤ ρ) (hL : ρ + 4 = L.length) :
    Calls Try.prog 30 #[.slice a n c] w fun e w' => ∃ a1 c1 a2 c2 : _, e = .returned (.tuple #[.slice a1 N c1, .slice a2 (L.length - (4 + N)) c2, .int .i64 0]) ∧ Src w' a1 N c1 (bcells ((L.drop 4).take N)) ∧ Src w' a2 (L.length - (4 + N)) c2 (bcells (L.drop (4 + N))) ∧ (∀ ad, a1 = some ad → w.heap.size ≤ ad.block) ∧ (∀ ad, a2 = some ad → w.heap.size ≤ ad.block) ∧ Below w.heap.size w w' := by
  subst h1 h2
  have HL : Hid (ρ + 4 = L.length) := hL
  clear hL
  go_enter Try.func30, Try.ntmps30
  go_wp2_with (first
    | (go_at_call 52; have k := hn7; refine (hd_rest hn7.rd).mono ?_; rintro e w8 ⟨a2, c2, rfl, hs8, hge8, hn8⟩)
    | (go_at_call 51; have k := hn6; refine (hd_body (N := N) (by have := HL.out; omega) hn6.rd).mono ?_; rintro e w7 ⟨a1, c1, rfl, hs7, hge7, hn7⟩)
    | (go_at_call 50; have k := hn5; refine (H.left _ _ _ hn5.rd).mono ?_; rintro e w6 ⟨rfl, hn6⟩)
    | (go_at_call 49; have k := hn4; refine (H.why _ _ _ hn4.rd).mono ?_; rintro e w5 ⟨rfl, hn5⟩)
    | (go_at_call 48; have k := hn3; refine (H.four _ _ _ hn3.rd).mono ?_; rintro e w4 ⟨rfl, hn4⟩)
    | (go_at_call 47; have k := hn2; refine (H.two _ _ _ hn2.rd).mono ?_; rintro e w3 ⟨rfl, hn3⟩)
    | (go_at_call 47; refine (H.one _ _ _ hr1).mono ?_; rintro e w2 ⟨rfl, hn2⟩)
    | (go_at_call 46; refine (new_any a n c _ w hs hn).mono ?_; rintro e w1 ⟨g, bv, rfl, hg1, hv1, hr1, hb1⟩))
  go_ret3
  have b2 := now_below hb1 hb1.size hg1 hn2
  have b3 := now_below b2 b2.size hg1 hn3
  have b4 := now_below b3 b3.size hg1 hn4
  have b5 := now_below b4 b4.size hg1 hn5
  have b6 := now_below b5 b5.size hg1 hn6
  have b7 := now_below b6 b6.size hg1 hn7
  have b8 := now_below b7 b7.size hg1 hn8
  have glt := hn6.rd.lt
  refine ⟨a1, c1, a2, c2, rfl, hs7.grown hn8.grown (fun ad had _ e => ?_), hs8, fun ad had => Nat.le_trans b6.size (hge7 ad had), fun ad had => Nat.le_trans b7.size (hge8 ad had), b8⟩
  have := hge7 ad had
  cases e
  omega

/-- tlv.Open. -/
theorem open_any (a : Option Addr) (n c : Nat) (l : List UInt8) (w : World) (hs : Src w a n c (bcells l)) (hn : n ≤ 140737488355328) : Calls Try.prog 30 #[.slice a n c] w (Opened w l) := by
  by_cases hl : l.length < 4
  · refine (open_short a n c l w hs hl).mono ?_
    rintro e w' ⟨rfl, hb⟩
    refine opened_err ?_ (by decide) hb
    match l, hl with
    | [], _ => rfl
    | [_], _ => rfl
    | [_, _], _ => rfl
    | [_, _, _], _ => rfl
  · obtain ⟨m, v, x, y, r, rfl⟩ : ∃ m v x y r, l = m :: v :: x :: y :: r := by
      match l, hl with
      | m :: v :: x :: y :: r, _ => exact ⟨m, v, x, y, r, rfl⟩
      | [], h => exact absurd (by simp) h
      | [_], h => exact absurd (by simp) h
      | [_, _], h => exact absurd (by simp) h
      | [_, _, _], h => exact absurd (by simp) h
    have hx := x.toNat_lt
    have hy := y.toNat_lt
    have e1 : m = 42 ↔ m.toNat = 42 := UInt8.toNat_inj.symm
    have e2 : v = 2 ↔ v.toNat = 2 := UInt8.toNat_inj.symm
    have H := Hd4.of m v x y r
    by_cases h1 : m = 42
    · by_cases h2 : v = 2
      · by_cases h3 : r.length < x.toNat * 256 + y.toNat
        · refine (open_52 a n c _ _ _ _ _ w hs hn H (by omega) (e1.1 h1) (e2.1 h2) h3).mono ?_
          rintro e w' ⟨rfl, hb⟩
          exact opened_err (by simp [opE, h1, h2, h3]) (by decide) hb
        · refine (open_0 a n c _ _ _ _ _ w hs hn H (by omega) (e1.1 h1) (e2.1 h2) (by omega) (by simp)).mono ?_
          rintro e w' ⟨a1, c1, a2, c2, rfl, hs1, hs2, g1, g2, hb⟩
          have z : opE (m :: v :: x :: y :: r) = 0 := by simp only [opE]; rw [if_neg (by simp [h1]), if_neg (by simp [h2]), if_neg h3]
          have zB : opB (m :: v :: x :: y :: r) = r.take (x.toNat * 256 + y.toNat) := by unfold opB; rw [if_pos z]
          have zT : opT (m :: v :: x :: y :: r) = r.drop (x.toNat * 256 + y.toNat) := by unfold opT; rw [if_pos z]
          have lB : (opB (m :: v :: x :: y :: r)).length = x.toNat * 256 + y.toNat := by rw [zB]; simp; omega
          have lT : (opT (m :: v :: x :: y :: r)).length = (m :: v :: x :: y :: r).length - (4 + (x.toNat * 256 + y.toNat)) := by rw [zT]; simp; omega
          have dT : (m :: v :: x :: y :: r).drop (4 + (x.toNat * 256 + y.toNat)) = opT (m :: v :: x :: y :: r) := by rw [zT, ← List.drop_drop]; rfl
          have dB : ((m :: v :: x :: y :: r).drop 4).take (x.toNat * 256 + y.toNat) = opB (m :: v :: x :: y :: r) := by rw [zB]; rfl
          rw [dB, ← lB] at hs1
          rw [dT, ← lT] at hs2
          exact ⟨a1, c1, a2, c2, by rw [lB, lT, z], ⟨hs1, g1⟩, ⟨hs2, g2⟩, hb⟩
      · refine (open_51 a n c _ _ _ _ _ w hs hn H (by omega) (e1.1 h1) (fun h => h2 (e2.2 h))).mono ?_
        rintro e w' ⟨rfl, hb⟩
        exact opened_err (by simp [opE, h1, h2]) (by decide) hb
    · refine (open_50 a n c _ _ _ _ _ w hs hn H (by omega) (fun h => h1 (e1.2 h))).mono ?_
      rintro e w' ⟨rfl, hb⟩
      exact opened_err (by simp [opE, h1]) (by decide) hb
end Go.Proofs.Ytognnfknbkedgaa

namespace Go.Proofs.Ytognnfknbkedgaa
open Go.RowKit
set_option linter.unusedSimpArgs false

/-- A piece: its type, where its body lies, its length and room, its bytes. -/
structure Pc where
  t : UInt8
  a : Option Addr
  n : Nat
  c : Nat
  l : List UInt8
def rc (p : Pc) : List Value := [.int .u8 (p.t.toNat : Int), .slice p.a p.n p.c]
def rcs (ps : List Pc) : List Value := ps.flatMap rc
theorem rcs_len (ps : List Pc) : (rcs ps).length = ps.length * 2 := by
  induction ps with
  | nil => rfl
  | cons p ps ih => simp only [rcs, List.flatMap_cons, List.length_append, List.length_cons] at *; rw [ih]; simp [rc]; omega
theorem rcs_append (ps qs : List Pc) : rcs (ps ++ qs) = rcs ps ++ rcs qs := by simp [rcs]
theorem rcs_one (ps : List Pc) : ∀ u ∈ rcs ps, u.oneCell' = true := by
  intro u hu
  obtain ⟨p, _, hu⟩ := List.mem_flatMap.1 hu
  simp [rc] at hu
  rcases hu with rfl | rfl <;> rfl
theorem rcs_get (ps : List Pc) (j : Nat) (p : Pc) (h : ps[j]? = some p) (k : Nat) (hk : k < 2) : (rcs ps)[j * 2 + k]? = (rc p)[k]? := by
  induction ps generalizing j with
  | nil => simp at h
  | cons q ps ih =>
    have e : rcs (q :: ps) = rc q ++ rcs ps := by simp [rcs]
    rw [e]
    cases j with
    | zero =>
      simp at h
      subst h
      rw [List.getElem?_append_left (by simp [rc]; omega)]
      simp
    | succ j =>
      rw [List.getElem?_append_right (by simp [rc]; omega)]
      have e2 : (j + 1) * 2 + k - (rc q).length = j * 2 + k := by simp [rc]; omega
      rw [e2]
      exact ih j (by simpa using h)

theorem infoR : (Try.prog.info? 72).map (·.size) = some 2 := by kernel_rfl
theorem infoR3 : (Try.prog.info? 72).map (fun i => (i.zero, i.size, i.bytes)) = some (some (.agg #[.int .u8 0, .slice none 0 0]), 2, 32) := by kernel_rfl

/-- A block of the call's own that holds these cells. -/
def Row (w : World) (g : Nat) (t : TypeId) (cs : List Value) : Prop := w.heap[g]? = some (.cells cs.toArray t (0, 0))
theorem Row.lt {w : World} {g : Nat} {t : TypeId} {cs : List Value} (h : Row w g t cs) : g < w.heap.size := (Array.getElem?_eq_some_iff.1 h).1
theorem Row.new (w : World) (t : TypeId) (cs : List Value) : Row (w.alloc (.cells cs.toArray t)) w.heap.size t cs := by
  show (w.heap.push _)[w.heap.size]? = _
  simp
theorem Row.below {w w' : World} {B g : Nat} {t : TypeId} {cs : List Value} (h : Row w g t cs) (hb : Below B w w') (hlt : g < B) : Row w' g t cs := (hb.block g hlt).trans h
theorem Row.grown {w w' : World} {g : Nat} {t : TypeId} {cs : List Value} {row : Option Nat} (h : Row w g t cs) (hg : w.grownBy w' row) (hne : some g ≠ row) : Row w' g t cs := (hg.block g h.lt hne).trans h
theorem Row.alloc {w : World} {g : Nat} {t : TypeId} {cs : List Value} (h : Row w g t cs) (o : Obj) : Row (w.alloc o) g t cs := h.grown (World.grownBy_alloc w o none) (by simp)
theorem Row.cell {w : World} {g : Nat} {t : TypeId} {cs : List Value} (h : Row w g t cs) (j : Nat) : w.cell? ⟨g, j, none⟩ = cs[j]? := by
  rw [cell_of_row w g j cs.toArray t (0, 0) h]; simp
theorem Row.frozen {w : World} {g : Nat} {t : TypeId} {cs : List Value} (h : Row w g t cs) (j : Nat) : w.frozen? ⟨g, j, none⟩ = false := by
  unfold Row at h
  simp [World.frozen?, h]
theorem Row.range {w : World} {g : Nat} {t : TypeId} {cs : List Value} (h : Row w g t cs) : w.rangeAt g 0 cs := fun j v hv => by rw [Nat.zero_add, h.cell]; exact hv
theorem Row.there {w : World} {g : Nat} {t : TypeId} {cs : List Value} {n : Nat} (h : Row w g t cs) (hn : n ≤ cs.length) : w.there g 0 n := fun j hj => by
  rw [Nat.zero_add, h.cell, h.frozen]
  exact ⟨by simp; omega, rfl⟩
theorem Row.set {w : World} {g : Nat} {t : TypeId} {cs : List Value} (h : Row w g t cs) (j : Nat) (v : Value) : Row (w.setCell ⟨g, j, none⟩ v) g t (cs.set j v) := by
  unfold Row at *
  simp [World.setCell, Array.getElem?_modify, h]
theorem below_setCells {B : Nat} {w0 : World} (g : Nat) (h : B ≤ g) : ∀ (vs : List Value) (o : Nat) (w : World), Below B w0 w → Below B w0 (w.setCells g o vs)
  | [], _, _, hb => hb
  | v :: r, o, w, hb => by
    rw [World.setCells]
    exact below_setCells g h r (o + 1) _ (hb.setCell (p := ⟨g, o, none⟩) h v)
theorem retC {P : Program} {fn : Func} {p : Tmp} {ty : TypeId} {v : Value} {w : World} (h : fn.results = #[.cell p ty]) (tmps : Array Value) (b o : Nat) (hp : tmps.getD p undef = .pointer (some ⟨b, o, none⟩))
    (hl : (loadVar ty ⟨b, o, none⟩).run P w = .ok v w) : (results fn tmps).run P w = .ok v w := by
  simp only [results, h]
  rw [Array.getD_eq_getD_getElem?] at hp
  simp [Sem.run_bind, hp, asAddr, hl, Result.andThen]
theorem lvR {w : World} {g : Nat} {x y : Value} (h : w.rangeAt g 0 [x, y]) : (loadVar 72 ⟨g, 0, none⟩).run Try.prog w = .ok (.agg #[x, y]) w :=
  run_loadVar_mid w g 0 _ [x, y] _ h Try.underlying72 rfl (by rw [infoR]; rfl)
section
variable {ops : Array Oper} {rest : List Oper} {op : Oper} {a : Act} {w : World} {Q : Exit → Act → World → Prop}
/-- A store of a piece into a block of the call's own. -/
theorem stR (x y : Operand) (hw : Region.wanted op (yielded ops a.tmps) = true) (ho : op.op = .store 72 x y) (b : Nat) (u v u' v' : Value) (hx : a.eval x = .pointer (some ⟨b, 0, none⟩)) (hy : a.eval y = .agg #[u, v]) (hr : Row w b 72 [u', v'])
    (h1 : u.oneCell' = true) (h2 : v.oneCell' = true)
    (h : ∀ w', w.grownBy w' (some b) → Row w' b 72 [u, v] → wpList Try.prog ops Q rest (a.put op.dst undef) w') : wpList Try.prog ops Q (op :: rest) a w :=
  wpList_step fun K hK => by
    rw [if_pos hw]
    refine wp_store_mid _ x y ho b 0 _ hx hy (by simpa using hr.there (n := 2) (by simp)) (by rw [infoR]; simp) (all_oneCell_toArray (cs := [u, v]) (by intro z hz; simp at hz; rcases hz with rfl | rfl <;> assumption)) (hK _ _ (h _ ?_ ?_))
    · have k := grownBy_trans (grownBy_setCell w b 0 u) (grownBy_setCell _ b 1 v)
      simpa [World.setCells] using k
    · have q := (hr.set 0 u).set 1 v
      simpa [World.setCells] using q
end

/-- A slice of pieces. -/
structure Rws (w : World) (a : Option Addr) (n : Nat) (ps : List Pc) : Prop where
  len : ps.length = n
  place : ps ≠ [] → ∃ g o, a = some ⟨g, o, none⟩ ∧ g < w.heap.size ∧ ∀ j p, ps[j]? = some p → w.rangeAt g (o + j * 2) (rc p)
  body : ∀ p ∈ ps, Src w p.a p.n p.c (bcells p.l)
theorem Rws.below {w w' : World} {a : Option Addr} {n : Nat} {ps : List Pc} (h : Rws w a n ps) (hb : Below w.heap.size w w') : Rws w' a n ps :=
  ⟨h.len, fun hne => by
    obtain ⟨g, o, e, hg, hr⟩ := h.place hne
    exact ⟨g, o, e, Nat.lt_of_lt_of_le hg hb.size, fun j p hp i v hv => (hb.cell (p := ⟨g, o + j * 2 + i, none⟩) hg).trans (hr j p hp i v hv)⟩, fun p hp => (h.body p hp).below hb (h.body p hp).lt⟩
theorem Rws.at {w : World} {a : Option Addr} {n : Nat} {ps : List Pc} (h : Rws w a n ps) {j : Nat} (hj : j < ps.length) : ∃ g o, a = some ⟨g, o, none⟩ ∧ w.cell? ⟨g, o + j * 2, none⟩ = some (.int .u8 (ps[j].t.toNat : Int)) ∧ w.cell? ⟨g, o + j * 2 + 1, none⟩ = some (.slice ps[j].a ps[j].n ps[j].c) := by
  obtain ⟨g, o, e, _, hr⟩ := h.place (by rintro rfl; simp at hj)
  have hp := hr j ps[j] (List.getElem?_eq_getElem hj)
  exact ⟨g, o, e, hp 0 _ rfl, hp 1 _ rfl⟩
end Go.Proofs.Ytognnfknbkedgaa

namespace Go.Proofs.Ytognnfknbkedgaa
open Go.RowKit
set_option linter.unusedSimpArgs false

theorem own_ne {w : World} {B : Nat} {e : TypeId} {s : Nat} {v : Value} {n : Nat} {xs : List Value} (h : w.ownsRow B e s v n xs) {g : Nat} {t : TypeId} {cs : List Value} (hr : Row w g t cs) (ht : t ≠ e) : some g ≠ v.ownBlock := by
  intro hv
  rcases h.2 with ⟨rfl, _⟩ | ⟨g', cap, cur, rfl, _, hh, _⟩
  · simp [Value.ownBlock] at hv
  · cases hv
    unfold Row at hr
    rw [hh] at hr
    cases hr
    exact ht rfl
theorem ne51 : (72 : TypeId) ≠ 5 := by decide
end Go.Proofs.Ytognnfknbkedgaa

namespace Go.Proofs.Ytognnfknbkedgaa
open Go.RowKit
set_option linter.unusedSimpArgs false
variable {bv : Option Addr}

theorem u8_at {g : Nat} {l : List UInt8} {p : Nat} {w : World} (h : Rd w g bv l p 0) (hp : p < l.length) :
    Calls Try.prog 47 #[.pointer (some ⟨g, 0, none⟩)] w fun e w' => e = .returned (.int .u8 (l[p].toNat : Int)) ∧ Now w w' g bv l (p + 1) 0 := by
  have h := u8_any g _ p 0 w h
  obtain ⟨e1, e2⟩ := tk_there (l := l) (p := p) (k := 1) (by omega) (by omega)
  have e3 : (l.drop p).take 1 = [l[p]] := by rw [List.drop_eq_getElem_cons hp]; rfl
  rw [e1, e2, show (1 : Int).toNat = 1 from rfl, e3] at h
  simpa [nv] using h
theorem u8_end {g : Nat} {l : List UInt8} {p : Nat} {w : World} (h : Rd w g bv l p 0) (hp : ¬ p < l.length) :
    Calls Try.prog 47 #[.pointer (some ⟨g, 0, none⟩)] w fun e w' => e = .returned (.int .u8 0) ∧ Now w w' g bv l p 3 := by
  have h := u8_any g _ p 0 w h
  obtain ⟨e1, e2⟩ := tk_short (l := l) (p := p) (k := 1) (by omega)
  rw [e1, e2] at h
  simpa [nv] using h
/-- Reader.Bytes, its answer in memory of its own. -/
theorem bytes_own (g : Nat) (l : List UInt8) (p : Nat) (y n : Int) (w : World) (h : Rd w g bv l p y) :
    Calls Try.prog 51 #[.pointer (some ⟨g, 0, none⟩), .int .i64 n] w fun e w' => ∃ a c, e = .returned (.slice a (tkB l p y n).length c) ∧ w'.ownsRow w.heap.size 5 1 (.slice a (tkB l p y n).length c) (tkB l p y n).length (bcells (tkB l p y n)) ∧ Now w w' g bv l (p + (tkB l p y n).length) (tkE l p y n) := by
  have hb := h.big
  have hl := tkB_len l p y n h.le
  go_enter Try.func51, Try.ntmps51
  go_wp2_with (first
    | (go_at_call 76; refine (take_any g l p y n w h).mono ?_; rintro e w0 ⟨a0, c0, rfl, hs0, hn0⟩)
    | (go_at_call 74; refine (clone_any a0 _ c0 (tkB l p y n) w0 hs0 (by omega)).mono ?_; rintro e w1 ⟨a1, c1, rfl, hown, hb1⟩))
  go_ret
  exact ⟨a1, c1, rfl, own_le hown hn0.grown.size, ⟨hn0.rd.below hb1, grownBy_trans hn0.grown (grownBy_below _ hb1)⟩⟩
theorem bytes_ok {g : Nat} {l : List UInt8} {p k : Nat} {w : World} (h : Rd w g bv l p 0) (hk : p + k ≤ l.length) :
    Calls Try.prog 51 #[.pointer (some ⟨g, 0, none⟩), .int .i64 k] w fun e w' => ∃ a c, e = .returned (.slice a k c) ∧ w'.ownsRow w.heap.size 5 1 (.slice a k c) k (bcells ((l.drop p).take k)) ∧ Now w w' g bv l (p + k) 0 := by
  have h := bytes_own g l p 0 k w h
  obtain ⟨e1, e2⟩ := tk_there (l := l) (p := p) (k := k) (by omega) (by omega)
  have e3 : ((l.drop p).take k).length = k := by simp; omega
  simp only [Int.toNat_natCast] at e1
  rw [e1, e2, e3] at h
  exact h
theorem bytes_no {g : Nat} {l : List UInt8} {p : Nat} {y n : Int} {w : World} (h : Rd w g bv l p y) (hn : (y = 0 ∧ ((l.length - p : Nat) : Int) < n) ∨ y = 3) :
    Calls Try.prog 51 #[.pointer (some ⟨g, 0, none⟩), .int .i64 n] w fun e w' => ∃ a c, e = .returned (.slice a 0 c) ∧ Now w w' g bv l p 3 := by
  have h := bytes_own g l p y n w h
  obtain ⟨e1, e2⟩ : tkB l p y n = [] ∧ tkE l p y n = 3 := by
    rcases hn with ⟨rfl, h2⟩ | rfl
    · exact tk_short h2
    · exact tk_err (by decide)
  rw [e1, e2] at h
  refine h.mono ?_
  rintro e w' ⟨a, c, rfl, _, h2⟩
  exact ⟨a, c, rfl, h2⟩
theorem Now.below {w w' w2 : World} {g : Nat} {l : List UInt8} {p : Nat} {y : Int} (h : Now w w' g bv l p y) (hb : Below w'.heap.size w' w2) : Now w w2 g bv l p y := ⟨h.rd.below hb, grownBy_trans h.grown (grownBy_below _ hb)⟩
theorem Now.alloc {w w' : World} {g : Nat} {l : List UInt8} {p : Nat} {y : Int} (h : Now w w' g bv l p y) (o : Obj) : Now w (w'.alloc o) g bv l p y := h.below ((Below.refl _ _).alloc (Nat.le_refl _) _)

theorem Now.fresh {w w1 w2 : World} {g B : Nat} {l : List UInt8} {p p0 : Nat} {y y0 : Int} (h0 : Rd w g bv l p0 y0) (h : Now w w1 g bv l p y) (hg : w1.grownBy w2 (some B)) (hB : w.heap.size ≤ B) : Now w w2 g bv l p y := by
  refine ⟨h.rd.kept hg (fun e => ?_) (fun ad had hl e => ?_), ⟨hg.os.trans h.grown.os, hg.tape.trans h.grown.tape, hg.output.trans h.grown.output, Nat.le_trans h.grown.size hg.size, fun i hi hne => ?_⟩⟩
  · have := h0.lt; cases e; omega
  · have := h0.blt hl ad had; cases e; omega
  · exact (hg.block i (Nat.lt_of_lt_of_le hi h.grown.size) (fun e => by cases e; omega)).trans (h.grown.block i hi hne)
theorem row_now {w w' : World} {g B : Nat} {l : List UInt8} {p : Nat} {y : Int} {t : TypeId} {cs : List Value} (hr : Row w B t cs) (h : Now w w' g bv l p y) (hne : B ≠ g) : Row w' B t cs := hr.grown h.grown (fun e => hne (Option.some.inj e))

theorem own_keep {w w' : World} {B : Nat} {e : TypeId} {s : Nat} {v : Value} {n : Nat} {xs : List Value} {row : Option Nat} (h : w.ownsRow B e s v n xs) (hg : w.grownBy w' row) (hne : v.ownBlock ≠ row ∨ row = none) : w'.ownsRow B e s v n xs := by
  refine ⟨h.1, ?_⟩
  rcases h.2 with h | ⟨g, cap, cur, rfl, h2, h3, h4⟩
  · exact .inl h
  · refine .inr ⟨g, cap, cur, rfl, h2, (hg.block g (lt_of_block h3) ?_).trans h3, h4⟩
    rcases hne with hne | rfl
    · exact hne
    · simp
def NoB (l : List UInt8) (q : Nat) (y : Int) (k : Nat) : Prop := (y = 0 ∧ ((l.length - q : Nat) : Int) < (k : Int)) ∨ y = 3
/-- read, at a Pad1. -/
theorem read_pad {g : Nat} {l : List UInt8} {p : Nat} {w : World} (h : Rd w g bv l p 0) (hp : p < l.length) (h0 : l[p].toNat = 0) :
    Calls Try.prog 53 #[.pointer (some ⟨g, 0, none⟩)] w fun e w' => e = .returned (.agg #[.int .u8 0, .slice none 0 0]) ∧ Now w w' g bv l (p + 1) 0 := by
  have HU : Hid (∀ w', Rd w' g bv l p 0 → Calls Try.prog 47 #[.pointer (some ⟨g, 0, none⟩)] w' fun e w2 => e = .returned (.int .u8 0) ∧ Now w' w2 g bv l (p + 1) 0) := by
    intro w' h'
    have := u8_at h' hp
    rw [h0] at this
    exact this
  clear h0
  have hgl := h.lt
  have hR := Row.new w 72 [.int .u8 0, .slice none 0 0]
  go_enter Try.func53, Try.ntmps53
  go_wp2_with (first
    | (have k := hn1; refine stR (.tmp 2) (.tmp 16) (by rfl) rfl w.heap.size (.int .u8 0) (.slice none 0 0) (.int .u8 0) (.slice none 0 0) rfl rfl ((row_now hR hn1 (by omega)).alloc _) rfl rfl ?_; intro w3 hg3 hr3)
    | (go_at_call 47; refine (HU.out _ (h.now.alloc _).rd).mono ?_; rintro e w1 ⟨rfl, hn1⟩))
  exact bodyPost_ret (retC rfl _ _ 0 rfl (lvR hr3.range)) rfl ⟨rfl, Now.fresh h (((h.now.alloc _).trans hn1).alloc _) hg3 (Nat.le_refl _)⟩

/-- read, where a piece stands. -/
theorem read_yes {g : Nat} {l : List UInt8} {p : Nat} {w : World} (h : Rd w g bv l p 0) (hp : p + 1 < l.length) (h0 : l[p].toNat ≠ 0) (hk : p + 2 + l[p + 1].toNat ≤ l.length) :
    Calls Try.prog 53 #[.pointer (some ⟨g, 0, none⟩)] w fun e w' => ∃ a c, e = .returned (.agg #[.int .u8 (l[p].toNat : Int), .slice a l[p + 1].toNat c]) ∧ w'.ownsRow w.heap.size 5 1 (.slice a l[p + 1].toNat c) l[p + 1].toNat (bcells ((l.drop (p + 2)).take l[p + 1].toNat)) ∧ Now w w' g bv l (p + 2 + l[p + 1].toNat) 0 := by
  have HU1 : Hid (∀ w', Rd w' g bv l p 0 → Calls Try.prog 47 #[.pointer (some ⟨g, 0, none⟩)] w' fun e w2 => e = .returned (.int .u8 (l[p].toNat : Int)) ∧ Now w' w2 g bv l (p + 1) 0) := fun w' h' => u8_at h' (by omega)
  have HU2 : Hid (∀ w', Rd w' g bv l (p + 1) 0 → Calls Try.prog 47 #[.pointer (some ⟨g, 0, none⟩)] w' fun e w2 => e = .returned (.int .u8 (l[p + 1].toNat : Int)) ∧ Now w' w2 g bv l (p + 2) 0) := fun w' h' => u8_at h' hp
  have ht := l[p].toNat_lt
  have hm := l[p + 1].toNat_lt
  generalize l[p].toNat = t at *
  generalize l[p + 1].toNat = k at *
  have h0' : ((t : Int) == 0) = false := by simpa using h0
  have hgl := h.lt
  have hR := Row.new w 72 [.int .u8 0, .slice none 0 0]
  go_enter Try.func53, Try.ntmps53
  go_wp2_with (first
    | (have kk := hn5; refine stR (.tmp 2) (.tmp 16) (by rfl) rfl w.heap.size (.int .u8 (t : Int)) (.slice a5 k c5) (.int .u8 0) (.slice none 0 0) rfl rfl (hq5.grown (grownBy_setCell w5 w1.heap.size 1 _) (fun e => hne5 (Option.some.inj e))) rfl rfl ?_; intro w7 hg7 hr7)
    | (go_at_call 51; have kk := hn4; refine (bytes_ok (k := k) hn4.rd (by omega)).mono ?_; rintro e w5 ⟨a5, c5, rfl, hown5, hn5⟩; have hr5 := row_now hr4 hn5 hne4; have d0 : w5.cell? ⟨w1.heap.size, 0, none⟩ = some (.int .u8 (t : Int)) := hr5.cell 0; have d1 : w5.cell? ⟨w1.heap.size, 1, none⟩ = some (.slice none 0 0) := hr5.cell 1; have d2 := hr5.frozen 1; have hne6 : w.heap.size ≠ g := (by omega); have hne5 : w.heap.size ≠ w1.heap.size := (by have := hn1.grown.size; simp at this; omega); have hq5 : Row w5 w.heap.size 72 [.int .u8 0, .slice none 0 0] := row_now (row_now ((row_now hR hn1 hne6).alloc _) hn4 hne6) hn5 hne6)
    | (go_at_call 47; have kk := hn1; refine (HU2.out _ (hn1.alloc _).rd).mono ?_; rintro e w4 ⟨rfl, hn4⟩; have hne4 : w1.heap.size ≠ g := (by have := hn1.grown.size; simp at this; omega); have hr4 := row_now (Row.new w1 72 [.int .u8 (t : Int), .slice none 0 0]) hn4 hne4)
    | (go_at_call 47; refine (HU1.out _ (h.now.alloc _).rd).mono ?_; rintro e w1 ⟨rfl, hn1⟩))
  have z0 : Now w w5 g bv l (p + 2 + k) 0 := ((((h.now.alloc _).trans hn1).alloc _).trans hn4).trans hn5
  have z1 := Now.fresh h z0 (grownBy_setCell w5 w1.heap.size 1 (.slice a5 k c5)) (by have := hn1.grown.size; simp at this; omega)
  have z2 := Now.fresh h z1 hg7 (Nat.le_refl _)
  have hs4 : w.heap.size ≤ w4.heap.size := ((((h.now.alloc _).trans hn1).alloc _).trans hn4).grown.size
  have o1 := own_keep hown5 (grownBy_setCell w5 w1.heap.size 1 (.slice a5 k c5)) (.inl fun e => own_ne hown5 hr5 ne51 e.symm)
  have o2 := own_keep o1 hg7 (.inl fun e => own_ne o1 (hq5.grown (grownBy_setCell w5 w1.heap.size 1 _) (fun e => hne5 (Option.some.inj e))) ne51 e.symm)
  exact bodyPost_ret (retC rfl _ _ 0 rfl (lvR hr7.range)) rfl ⟨a5, c5, rfl, own_le o2 hs4, z2⟩

/-- read, where the bytes end within a piece. -/
theorem read_no {g : Nat} {l : List UInt8} {p : Nat} {w : World} (h : Rd w g bv l p 0) (hp : p < l.length) (h0 : l[p].toNat ≠ 0) (hk : ∀ hp1 : p + 1 < l.length, l.length < p + 2 + l[p + 1].toNat) :
    Calls Try.prog 53 #[.pointer (some ⟨g, 0, none⟩)] w fun e w' => ∃ t a c q, e = .returned (.agg #[.int .u8 t, .slice a 0 c]) ∧ Now w w' g bv l q 3 := by
  have HU1 : Hid (∀ w', Rd w' g bv l p 0 → Calls Try.prog 47 #[.pointer (some ⟨g, 0, none⟩)] w' fun e w2 => e = .returned (.int .u8 (l[p].toNat : Int)) ∧ Now w' w2 g bv l (p + 1) 0) := fun w' h' => u8_at h' (by omega)
  have HU2 : Hid (∀ w', Rd w' g bv l (p + 1) 0 → Calls Try.prog 47 #[.pointer (some ⟨g, 0, none⟩)] w' fun e w2 => ∃ (k q : Nat) (y : Int), k < 256 ∧ e = .returned (.int .u8 (k : Int)) ∧ Now w' w2 g bv l q y ∧ NoB l q y k) := by
    intro w' h'
    by_cases hp1 : p + 1 < l.length
    · refine (u8_at h' hp1).mono ?_
      rintro e w2 ⟨rfl, hn⟩
      exact ⟨_, _, _, l[p + 1].toNat_lt, rfl, hn, .inl ⟨rfl, by have := hk hp1; omega⟩⟩
    · refine (u8_end h' hp1).mono ?_
      rintro e w2 ⟨rfl, hn⟩
      exact ⟨0, _, _, by decide, rfl, hn, .inr rfl⟩
  have ht := l[p].toNat_lt
  clear hk
  generalize l[p].toNat = t at *
  have h0' : ((t : Int) == 0) = false := by simpa using h0
  have hgl := h.lt
  have hR := Row.new w 72 [.int .u8 0, .slice none 0 0]
  go_enter Try.func53, Try.ntmps53
  go_wp2_with (first
    | (have kk := hn5; refine stR (.tmp 2) (.tmp 16) (by rfl) rfl w.heap.size (.int .u8 (t : Int)) (.slice a5 0 c5) (.int .u8 0) (.slice none 0 0) rfl rfl (hq5.grown (grownBy_setCell w5 w1.heap.size 1 _) (fun e => hne5 (Option.some.inj e))) rfl rfl ?_; intro w7 hg7 hr7)
    | (go_at_call 51; have kk := hn4; refine (bytes_no hn4.rd hB).mono ?_; rintro e w5 ⟨a5, c5, rfl, hn5⟩; have hr5 := row_now hr4 hn5 hne4; have d0 : w5.cell? ⟨w1.heap.size, 0, none⟩ = some (.int .u8 (t : Int)) := hr5.cell 0; have d1 : w5.cell? ⟨w1.heap.size, 1, none⟩ = some (.slice none 0 0) := hr5.cell 1; have d2 := hr5.frozen 1; have hne6 : w.heap.size ≠ g := (by omega); have hne5 : w.heap.size ≠ w1.heap.size := (by have := hn1.grown.size; simp at this; omega); have hq5 : Row w5 w.heap.size 72 [.int .u8 0, .slice none 0 0] := row_now (row_now ((row_now hR hn1 hne6).alloc _) hn4 hne6) hn5 hne6)
    | (go_at_call 47; have kk := hn1; refine (HU2.out _ (hn1.alloc _).rd).mono ?_; rintro e w4 ⟨k, q, y, hk256, rfl, hn4, hB⟩; have hne4 : w1.heap.size ≠ g := (by have := hn1.grown.size; simp at this; omega); have hr4 := row_now (Row.new w1 72 [.int .u8 (t : Int), .slice none 0 0]) hn4 hne4)
    | (go_at_call 47; refine (HU1.out _ (h.now.alloc _).rd).mono ?_; rintro e w1 ⟨rfl, hn1⟩))
  have z0 : Now w w5 g bv l q 3 := ((((h.now.alloc _).trans hn1).alloc _).trans hn4).trans hn5
  have z1 := Now.fresh h z0 (grownBy_setCell w5 w1.heap.size 1 (.slice a5 0 c5)) (by have := hn1.grown.size; simp at this; omega)
  have z2 := Now.fresh h z1 hg7 (Nat.le_refl _)
  exact bodyPost_ret (retC rfl _ _ 0 rfl (lvR hr7.range)) rfl ⟨t, a5, c5, q, rfl, z2⟩
end Go.Proofs.Ytognnfknbkedgaa
