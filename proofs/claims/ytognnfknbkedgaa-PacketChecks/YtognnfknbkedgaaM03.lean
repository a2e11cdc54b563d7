/-
  Bytes as pieces, and the contract of tlv.Split for every bytes.
-/
import Derived.Test.YtognnfknbkedgaaM02
namespace Go.Proofs.Ytognnfknbkedgaa
open Go.RowKit
set_option linter.unusedSimpArgs false
variable {bv : Option Addr}

/-- The pieces that bytes are, and the error. -/
def spl : Nat → List UInt8 → List (UInt8 × List UInt8) × Int
  | 0, _ => ([], 0)
  | _ + 1, [] => ([], 0)
  | f + 1, t :: r => if t.toNat = 0 then ((0, []) :: (spl f r).1, (spl f r).2) else match r with
    | [] => ([], 52)
    | k :: s => if s.length < k.toNat then ([], 52) else ((t, s.take k.toNat) :: (spl f (s.drop k.toNat)).1, (spl f (s.drop k.toNat)).2)
theorem spl_fuel : ∀ (f g : Nat) (l : List UInt8), l.length ≤ f → l.length ≤ g → spl f l = spl g l
  | 0, 0, _, _, _ => rfl
  | 0, g + 1, l, h, _ => by
    obtain rfl : l = [] := List.eq_nil_of_length_eq_zero (by omega)
    rfl
  | f + 1, 0, l, _, h => by
    obtain rfl : l = [] := List.eq_nil_of_length_eq_zero (by omega)
    rfl
  | f + 1, g + 1, [], _, _ => rfl
  | f + 1, g + 1, t :: r, h1, h2 => by
    simp only [List.length_cons] at h1 h2
    unfold spl
    rw [spl_fuel f g r (by omega) (by omega)]
    cases r with
    | nil => rfl
    | cons k s =>
      simp only [List.length_cons] at h1 h2
      simp only
      rw [spl_fuel f g (s.drop k.toNat) (by simp; omega) (by simp; omega)]
def splL (l : List UInt8) : List (UInt8 × List UInt8) × Int := spl l.length l
theorem spl_eq (f : Nat) (l : List UInt8) (h : l.length ≤ f) : spl f l = splL l := spl_fuel f l.length l h (Nat.le_refl _)
theorem splL_cons (t : UInt8) (r : List UInt8) : splL (t :: r) = if t.toNat = 0 then ((0, []) :: (splL r).1, (splL r).2) else match r with
    | [] => ([], 52)
    | k :: s => if s.length < k.toNat then ([], 52) else ((t, s.take k.toNat) :: (splL (s.drop k.toNat)).1, (splL (s.drop k.toNat)).2) := by
  show spl (r.length + 1) (t :: r) = _
  unfold spl
  rw [spl_eq r.length r (Nat.le_refl _)]
  cases r with
  | nil => rfl
  | cons k s =>
    simp only
    rw [spl_eq _ (s.drop k.toNat) (by simp; omega)]
/-- At a place of the bytes. -/
theorem spl_pad {l : List UInt8} {p : Nat} (hp : p < l.length) (h0 : l[p].toNat = 0) : splL (l.drop p) = ((0, []) :: (splL (l.drop (p + 1))).1, (splL (l.drop (p + 1))).2) := by
  rw [List.drop_eq_getElem_cons hp, splL_cons, if_pos h0]
theorem spl_yes {l : List UInt8} {p : Nat} (hp : p + 1 < l.length) (h0 : l[p].toNat ≠ 0) (hk : p + 2 + l[p + 1].toNat ≤ l.length) : splL (l.drop p) = ((l[p], (l.drop (p + 2)).take l[p + 1].toNat) :: (splL (l.drop (p + 2 + l[p + 1].toNat))).1, (splL (l.drop (p + 2 + l[p + 1].toNat))).2) := by
  rw [List.drop_eq_getElem_cons (show p < l.length by omega), splL_cons, if_neg h0, List.drop_eq_getElem_cons hp]
  simp only
  rw [if_neg (by simp; omega), List.drop_drop]
theorem spl_no {l : List UInt8} {p : Nat} (hp : p < l.length) (h0 : l[p].toNat ≠ 0) (hk : ∀ hp1 : p + 1 < l.length, l.length < p + 2 + l[p + 1].toNat) : splL (l.drop p) = ([], 52) := by
  rw [List.drop_eq_getElem_cons hp, splL_cons, if_neg h0]
  by_cases hp1 : p + 1 < l.length
  · rw [List.drop_eq_getElem_cons hp1]
    have := hk hp1
    simp only
    rw [if_pos (by simp; omega)]
  · rw [List.drop_of_length_le (by omega)]
theorem spl_end {l : List UInt8} {p : Nat} (hp : l.length ≤ p) : splL (l.drop p) = ([], 0) := by
  rw [List.drop_of_length_le hp]; rfl

/-- Types and bodies of pieces. -/
def keys (ps : List Pc) : List (UInt8 × List UInt8) := ps.map fun p => (p.t, p.l)
/-- Pieces of which each body lies in memory of the call's own. -/
def Bods (B : Nat) (w : World) (ps : List Pc) : Prop := ∀ p ∈ ps, w.ownsRow B 5 1 (.slice p.a p.n p.c) p.n (bcells p.l)
theorem own_apart {w : World} {B B' : Nat} {e e' : TypeId} {s s' : Nat} {v v' : Value} {n n' : Nat} {xs xs' : List Value} (h : w.ownsRow B e s v n xs) (h' : w.ownsRow B' e' s' v' n' xs') (hne : e ≠ e') : v.ownBlock ≠ v'.ownBlock ∨ v'.ownBlock = none := by
  rcases h'.2 with ⟨rfl, _⟩ | ⟨g', cap', cur', rfl, _, hh', _⟩
  · exact .inr rfl
  · left
    rcases h.2 with ⟨rfl, _⟩ | ⟨g, cap, cur, rfl, _, hh, _⟩
    · simp [Value.ownBlock]
    · intro e
      simp [Value.ownBlock] at e
      subst e
      rw [hh] at hh'
      cases hh'
      exact hne rfl
theorem Bods.keep {B : Nat} {w w' : World} {ps : List Pc} {row : Option Nat} (h : Bods B w ps) (hg : w.grownBy w' row) (hne : ∀ p ∈ ps, (Value.slice p.a p.n p.c).ownBlock ≠ row ∨ row = none) : Bods B w' ps := fun p hp => own_keep (h p hp) hg (hne p hp)
theorem Rd.own_ne {w : World} {g : Nat} {l : List UInt8} {p : Nat} {y : Int} {B : Nat} {e : TypeId} {s : Nat} {v : Value} {n : Nat} {xs : List Value} (h : Rd w g bv l p y) (ho : w.ownsRow B e s v n xs) (he : e ≠ 121) : v.ownBlock ≠ some g := by
  obtain ⟨c, hb, _⟩ := h.ex
  intro ev
  rcases ho.2 with ⟨rfl, _⟩ | ⟨g', cap, cur, rfl, _, hh, _⟩
  · simp [Value.ownBlock] at ev
  · cases ev
    rw [hb] at hh
    cases hh
    exact he rfl
theorem Bods.now {B : Nat} {w w' : World} {ps : List Pc} {g : Nat} {l : List UInt8} {p q : Nat} {y z : Int} (h : Bods B w ps) (h0 : Rd w g bv l p y) (hn : Now w w' g bv l q z) : Bods B w' ps := h.keep hn.grown (fun r hr => .inl (h0.own_ne (h r hr) (by decide)))
theorem own_now {B : Nat} {w w' : World} {g : Nat} {l : List UInt8} {p q : Nat} {y z : Int} {e : TypeId} {s : Nat} {v : Value} {n : Nat} {xs : List Value} (h : w.ownsRow B e s v n xs) (h0 : Rd w g bv l p y) (hn : Now w w' g bv l q z) (he : e ≠ 121) : w'.ownsRow B e s v n xs := own_keep h hn.grown (.inl (h0.own_ne h he))
theorem Bods.alloc {B : Nat} {w : World} {ps : List Pc} (h : Bods B w ps) (o : Obj) : Bods B (w.alloc o) ps := fun p hp => (h p hp).alloc o
/-- A slice of pieces in memory of the call's own. -/
theorem own_rws {B : Nat} {w : World} {a : Option Addr} {n c : Nat} {ps : List Pc} (h : w.ownsRow B 72 2 (.slice a n c) n (rcs ps)) (hb : Bods B w ps) : Rws w a n ps := by
  have hl := h.1
  rw [rcs_len] at hl
  refine ⟨by omega, fun hne => ?_, fun p hp => ?_⟩
  · rcases h.2 with ⟨_, h2⟩ | ⟨g, cap, cur, hv, _, hh, _, _, _, ht⟩
    · exact absurd (List.eq_nil_of_length_eq_zero (by omega)) hne
    · cases hv
      refine ⟨g, 0, rfl, lt_of_block hh, fun j p hp k u hu => ?_⟩
      have hk : k < 2 := by have := (List.getElem?_eq_some_iff.1 hu).1; simpa [rc] using this
      have := h.cells rfl (j * 2 + k) u (by rw [rcs_get ps j p hp k hk]; exact hu)
      rw [Addr.add_mid] at this
      rw [Nat.add_assoc]
      exact this
  · obtain ⟨a', c', e, hs, _⟩ := Src.ofOwn (hb p hp)
    cases e
    exact hs
end Go.Proofs.Ytognnfknbkedgaa

namespace Go.Proofs.Ytognnfknbkedgaa
open Go.RowKit
set_option linter.unusedSimpArgs false
variable {bv : Option Addr}

/-- Append a piece to a row of the call's own. -/
theorem append_raw {w : World} {ops : Array Oper} {rest : List Oper} {o : Oper} {a : Act} {Q : Exit → Act → World → Prop} (hgd : o.guard = none) (s x : Operand)
    (ho : o.op = .call { callee := .builtin .append, args := #[s, x], argTypes := #[66, 66] })
    (base : Nat) (v : Value) (n : Nat) (ps : List Pc) (hs : a.eval s = v) (hown : w.ownsRow base 72 2 v n (rcs ps))
    (g : Nat) (p : Pc) (c : Nat) (hx : a.eval x = .slice (some ⟨g, 0, none⟩) 1 c) (hr : Row w g 72 (rc p))
    (hbytes : n + 1 ≤ 4000000000000) (hbase : base ≤ w.heap.size)
    (h : ∀ v' w', w'.ownsRow base 72 2 v' (n + 1) (rcs (ps ++ [p])) → w.grownBy w' v.ownBlock → wpList Try.prog ops Q rest (a.put o.dst v') w') : wpList Try.prog ops Q (o :: rest) a w := by
  obtain ⟨i0, hi, hz0, hz1, hz2⟩ := info_parts infoR3
  refine wpList_append_own w hgd s x 66 ho base 72 i0 (.agg #[.int .u8 0, .slice none 0 0]) 2 32 Try.underlying66 hi hz0 hz1 hz2 rfl (by decide) v n (rcs ps) hs hown ⟨g, 0, none⟩ 1 c (rc p) hx (by simp [rc]) (fun j u hu => ?_) (by have := rcs_one [p]; simpa [rcs] using this) (by unfold maxLen; omega) (by omega) hbase (fun v' w' h1 h2 _ => h v' w' (by rw [rcs_append]; simpa [rcs] using h1) h2)
  rw [Addr.add_mid, Nat.zero_add, hr.cell]
  exact hu
theorem own_shape2 {w : World} {B : Nat} {e : TypeId} {s : Nat} {v : Value} {n : Nat} {xs : List Value} (h : w.ownsRow B e s v n xs) : ∃ a c, v = .slice a n c := by
  rcases h.2 with ⟨rfl, rfl⟩ | ⟨g, cap, cur, rfl, _⟩
  · exact ⟨_, _, rfl⟩
  · exact ⟨_, _, rfl⟩
/-- Where a reader is. -/
def rdAt (w : World) (g : Nat) : Nat := match w.cell? ⟨g, 1, none⟩ with
  | some v => (intOf v).toNat
  | none => 0
theorem Rd.place {w : World} {g : Nat} {l : List UInt8} {p : Nat} {y : Int} (h : Rd w g bv l p y) : rdAt w g = p := by
  obtain ⟨c, _, c1, _⟩ := h.cells
  unfold rdAt
  rw [c1]
  simp [intOf]
/-- octet.New, the bytes in memory of its own. -/
theorem new_own (a : Option Addr) (n c : Nat) (l : List UInt8) (w : World) (hs : Src w a n c (bcells l)) (hn : n ≤ 140737488355328) :
    Calls Try.prog 46 #[.slice a n c] w fun e w' => ∃ g bv, e = .returned (.pointer (some ⟨g, 0, none⟩)) ∧ w.heap.size ≤ g ∧ (∃ d, w'.ownsRow w.heap.size 5 1 (.slice bv l.length d) l.length (bcells l)) ∧ Rd w' g bv l 0 0 ∧ Below w.heap.size w w' := by
  go_enter Try.func46, Try.ntmps46
  go_wp2_with (go_at_call 74; refine (clone_any a n c l w hs hn).mono ?_; rintro e w0 ⟨a0, c0, rfl, hown0, hb0⟩)
  go_ret
  obtain ⟨a1, c1, hv, hs1, hlt⟩ := Src.ofOwn hown0
  cases hv
  refine ⟨_, a0, rfl, hb0.size, ⟨c0, hown0.alloc _⟩, ⟨Nat.zero_le _, by have := hs.blen; omega, ?_, _, heap_alloc_new _ _, ?_, hs1.alloc _⟩, hb0.alloc hb0.size _⟩
  · intro ad had h
    have := (hlt ad had).2
    omega
  · rcases hown0.2 with ⟨h1, h2⟩ | ⟨g, cap, cur, h1, _, _, h4, _⟩
    · omega
    · cases h1; exact h4
/-- What Split tells: so many pieces, the error. -/
def Splits (w : World) (l : List UInt8) (e : Ending) (w' : World) : Prop :=
  ∃ a c ps, e = .returned (.tuple #[.slice a ps.length c, .int .i64 (splL l).2]) ∧ keys ps = (splL l).1 ∧ w'.ownsRow w.heap.size 72 2 (.slice a ps.length c) ps.length (rcs ps) ∧ Bods w.heap.size w' ps ∧ ps.length ≤ l.length ∧ Below w.heap.size w w'
/-- What Split's rounds keep. -/
structure SpAt (w wr : World) (g : Nat) (bv : Option Addr) (l : List UInt8) (v : Value) (p : Nat) (ps : List Pc) : Prop where
  rd : Rd wr g bv l p 0
  own : wr.ownsRow w.heap.size 72 2 v ps.length (rcs ps)
  bods : Bods w.heap.size wr ps
  bel : Below w.heap.size w wr
  le : ps.length ≤ p
  k1 : keys ps ++ (splL (l.drop p)).1 = (splL l).1
  k2 : (splL (l.drop p)).2 = (splL l).2
  hg : w.heap.size ≤ g
  byt : ∃ d, wr.ownsRow w.heap.size 5 1 (.slice bv l.length d) l.length (bcells l)
/-- Behind calls that change the reader alone. -/
structure SpIn (w wr : World) (g : Nat) (bv : Option Addr) (l : List UInt8) (v : Value) (p : Nat) (y : Int) (ps : List Pc) : Prop where
  rd : Rd wr g bv l p y
  own : wr.ownsRow w.heap.size 72 2 v ps.length (rcs ps)
  bods : Bods w.heap.size wr ps
  bel : Below w.heap.size w wr
  hg : w.heap.size ≤ g
  byt : ∃ d, wr.ownsRow w.heap.size 5 1 (.slice bv l.length d) l.length (bcells l)
theorem SpAt.inn {w wr : World} {g : Nat} {l : List UInt8} {v : Value} {p : Nat} {ps : List Pc} (h : SpAt w wr g bv l v p ps) : SpIn w wr g bv l v p 0 ps := ⟨h.rd, h.own, h.bods, h.bel, h.hg, h.byt⟩
theorem SpIn.now {w wr w' : World} {g : Nat} {l : List UInt8} {v : Value} {p q : Nat} {y z : Int} {ps : List Pc} (h : SpIn w wr g bv l v p y ps) (hn : Now wr w' g bv l q z) : SpIn w w' g bv l v q z ps :=
  ⟨hn.rd, own_now h.own h.rd hn (by decide), h.bods.now h.rd hn, now_below h.bel h.bel.size h.hg hn, h.hg, by obtain ⟨d, hd⟩ := h.byt; exact ⟨d, own_now hd h.rd hn (by decide)⟩⟩
theorem SpIn.alloc {w wr : World} {g : Nat} {l : List UInt8} {v : Value} {p : Nat} {y : Int} {ps : List Pc} (h : SpIn w wr g bv l v p y ps) (o : Obj) : SpIn w (wr.alloc o) g bv l v p y ps := h.now (h.rd.now.alloc o)
theorem SpIn.next {w w4 w5 : World} {g : Nat} {l : List UInt8} {u v : Value} {q : Nat} {ps : List Pc} {pc : Pc} (h : SpIn w w4 g bv l u q 0 ps) (hp : w4.ownsRow w.heap.size 5 1 (.slice pc.a pc.n pc.c) pc.n (bcells pc.l)) (own5 : w5.ownsRow w.heap.size 72 2 v (ps.length + 1) (rcs (ps ++ [pc]))) (hg5 : w4.grownBy w5 u.ownBlock)
    (hle : ps.length + 1 ≤ q) (k1 : keys (ps ++ [pc]) ++ (splL (l.drop q)).1 = (splL l).1) (k2 : (splL (l.drop q)).2 = (splL l).2) : SpAt w w5 g bv l v q (ps ++ [pc]) := by
  obtain ⟨d, hd⟩ := h.byt
  have ap := fun {B n : Nat} {v : Value} {xs : List Value} (h' : w4.ownsRow B 5 1 v n xs) => own_apart h' h.own (fun e => ne51 e.symm)
  have k0 : Bods w.heap.size w4 (ps ++ [pc]) := by
    intro r hr
    rcases List.mem_append.1 hr with hr | hr
    · exact h.bods r hr
    · obtain rfl : r = pc := by simpa using hr
      exact hp
  refine ⟨h.rd.kept hg5 (fun e => h.rd.own_ne h.own (by decide) e.symm) (fun ad had hl e => ?_), by simpa using own5, k0.keep hg5 (fun r hr => ap (k0 r hr)), h.bel.grown hg5 h.bel.size (fun k hk => (h.own.lt k hk).1), by simpa using hle, k1, k2, h.hg, d, own_keep hd hg5 (ap hd)⟩
  subst had
  rcases ap hd with hx | hx
  · exact hx e
  · rw [hx] at e; cases e
theorem SpIn.done {w w4 : World} {g : Nat} {l : List UInt8} {u : Value} {q : Nat} {y : Int} {ps : List Pc} (h : SpIn w w4 g bv l u q y ps) {z : Int} (hz : z = (splL l).2) (hk : keys ps = (splL l).1) (hle : ps.length ≤ l.length) : Splits w l (.returned (.tuple #[u, .int .i64 z])) w4 := by
  obtain ⟨a1, c1, rfl⟩ := own_shape2 h.own
  subst hz
  exact ⟨a1, c1, ps, rfl, hk, h.own, h.bods, hle, h.bel⟩

theorem split_any (a : Option Addr) (n c : Nat) (l : List UInt8) (w : World) (hs : Src w a n c (bcells l)) (hn : n ≤ 3000000000000) : Calls Try.prog 31 #[.slice a n c] w (Splits w l) := by
  have HN : Hid (n = l.length) := hs.blen
  go_enter Try.func31, Try.ntmps31
  go_wp2_with (go_at_call 46; refine (new_own a n c l w hs (by omega)).mono ?_; rintro e w1 ⟨g, bv, rfl, hg1, hv1, hr1, hb1⟩)
  go_loopw [4] (fun v wr => ∃ p ps, SpAt w wr g bv l v p ps) (fun _ wr => n - rdAt wr g)
  case atStart => exact ⟨0, [], hr1, World.ownsRow_nil _ _ _ _, (fun _ h => by cases h), hb1, Nat.le_refl _, by simp [keys], by simp, hg1, hv1⟩
  case round =>
    clear hr1 hb1 hv1 hs
    obtain ⟨p, ps, H⟩ := hrel
    have hpl := H.rd.le
    have hat := H.rd.place
    have hple := H.le
    have hk1 := H.k1
    have hk2 := H.k2
    have H2 := H.inn
    clear H
    by_cases hlt : p < l.length
    · have hL : Hid (∀ w0, Rd w0 g bv l p 0 → Calls Try.prog 50 #[.pointer (some ⟨g, 0, none⟩)] w0 fun e w' => ∃ k : Nat, 0 < k ∧ e = .returned (.int .i64 k) ∧ Now w0 w' g bv l p 0) := fun w0 h0 => by
        refine (left_any g l p 0 w0 h0).mono ?_
        rintro e w' ⟨rfl, h⟩
        exact ⟨l.length - p, by omega, rfl, h⟩
      by_cases h0 : l[p].toNat = 0
      · rw [spl_pad hlt h0] at hk1 hk2
        have HR : Hid (∀ w0, Rd w0 g bv l p 0 → Calls Try.prog 53 #[.pointer (some ⟨g, 0, none⟩)] w0 fun e w' => e = .returned (.agg #[.int .u8 0, .slice none 0 0]) ∧ Now w0 w' g bv l (p + 1) 0) := fun w0 hr => read_pad hr hlt h0
        have HK : Hid (keys (ps ++ [⟨0, none, 0, 0, []⟩]) ++ (splL (l.drop (p + 1))).1 = (splL l).1 ∧ (splL (l.drop (p + 1))).2 = (splL l).2) := ⟨by rw [← hk1]; simp [keys], hk2⟩
        clear h0 hk1 hk2
        go_wp2_with (first
          | (at_builtin; have kk := H4; refine append_raw rfl (.tmp 24) (.tmp 26) rfl w.heap.size u4 ps.length ps rfl (H4.own.alloc _) w4.heap.size ⟨0, none, 0, 0, []⟩ 1 rfl (Row.new w4 _ _) (by have := HN.out; omega) (by have := H4.bel.size; simp; omega) ?_; intro v5 w5 own5 hg5)
          | (go_at_call 49; have kk := H3; refine (why_any g l (p + 1) 0 _ (H3.alloc _).rd).mono ?_; rintro e w4 ⟨rfl, hn4⟩; have H4 := (H3.alloc (.cells #[.int .u8 0, .slice none 0 0] 72)).now hn4; have r4 := row_now (Row.new w3 72 [.int .u8 0, .slice none 0 0]) hn4 (by have := H3.rd.lt; omega); have c0 : w4.cell? ⟨w3.heap.size, 0, none⟩ = some (.int .u8 0) := r4.cell 0; have c1 : w4.cell? ⟨w3.heap.size, 1, none⟩ = some (.slice none 0 0) := r4.cell 1)
          | (go_at_call 53; refine (HR.out _ hn2.rd).mono ?_; rintro e w3 ⟨rfl, hn3⟩; have H3 := (H2.now hn2).now hn3)
          | (go_at_call 50; refine (hL.out _ H2.rd).mono ?_; rintro e w2 ⟨k, hk, rfl, hn2⟩))
        go_roundw
        case rel => exact ⟨p + 1, _, (H4.alloc _).next (World.ownsRow_nil _ _ _ _) own5 hg5 (by omega) HK.out.1 HK.out.2⟩
        case measure =>
          have := ((H4.alloc _).next (World.ownsRow_nil _ _ _ _) own5 hg5 (by omega) HK.out.1 HK.out.2).rd.place
          have := HN.out
          omega
      · by_cases hk : ∃ hp1 : p + 1 < l.length, p + 2 + l[p + 1].toNat ≤ l.length
        · obtain ⟨hp1, hk⟩ := hk
          rw [spl_yes hp1 h0 hk] at hk1 hk2
          have HR : Hid (∀ w0, Rd w0 g bv l p 0 → Calls Try.prog 53 #[.pointer (some ⟨g, 0, none⟩)] w0 fun e w' => ∃ a c, e = .returned (.agg #[.int .u8 (l[p].toNat : Int), .slice a l[p + 1].toNat c]) ∧ w'.ownsRow w0.heap.size 5 1 (.slice a l[p + 1].toNat c) l[p + 1].toNat (bcells ((l.drop (p + 2)).take l[p + 1].toNat)) ∧ Now w0 w' g bv l (p + 2 + l[p + 1].toNat) 0) := fun w0 hr => read_yes hr hp1 h0 hk
          have HK : Hid (∀ a c, keys (ps ++ [⟨l[p], a, l[p + 1].toNat, c, (l.drop (p + 2)).take l[p + 1].toNat⟩]) ++ (splL (l.drop (p + 2 + l[p + 1].toNat))).1 = (splL l).1 ∧ (splL (l.drop (p + 2 + l[p + 1].toNat))).2 = (splL l).2) := fun a c => ⟨by rw [← hk1]; simp [keys], hk2⟩
          clear hk1 hk2
          generalize l[p] = t at *
          generalize l[p + 1].toNat = k at *
          generalize hD : (l.drop (p + 2)).take k = D at *
          clear hD
          go_wp2_with (first
            | (at_builtin; have kk := H4; refine append_raw rfl (.tmp 24) (.tmp 26) rfl w.heap.size u4 ps.length ps rfl (H4.own.alloc _) w4.heap.size ⟨t, a3, k, c3, D⟩ 1 rfl (Row.new w4 _ _) (by have := HN.out; omega) (by have := H4.bel.size; simp; omega) ?_; intro v5 w5 own5 hg5)
            | (go_at_call 49; have kk := H3; refine (why_any g l (p + 2 + k) 0 _ (H3.alloc _).rd).mono ?_; rintro e w4 ⟨rfl, hn4⟩; have H4 := (H3.alloc (.cells #[.int .u8 (t.toNat : Int), .slice a3 k c3] 72)).now hn4; have r4 := row_now (Row.new w3 72 [.int .u8 (t.toNat : Int), .slice a3 k c3]) hn4 (by have := H3.rd.lt; omega); have c0 : w4.cell? ⟨w3.heap.size, 0, none⟩ = some (.int .u8 (t.toNat : Int)) := r4.cell 0; have c1 : w4.cell? ⟨w3.heap.size, 1, none⟩ = some (.slice a3 k c3) := r4.cell 1; have o4 := own_now (o3.alloc (.cells #[.int .u8 (t.toNat : Int), .slice a3 k c3] 72)) (H3.alloc _).rd hn4 (by decide))
            | (go_at_call 53; refine (HR.out _ hn2.rd).mono ?_; rintro e w3 ⟨a3, c3, rfl, o3, hn3⟩; have H3 := (H2.now hn2).now hn3)
            | (go_at_call 50; refine (hL.out _ H2.rd).mono ?_; rintro e w2 ⟨kq, hkq, rfl, hn2⟩))
          have o5 : w4.ownsRow w.heap.size 5 1 (.slice a3 k c3) k (bcells D) := own_le o4 (H2.now hn2).bel.size
          go_roundw
          case rel => exact ⟨p + 2 + k, _, (H4.alloc _).next (pc := ⟨t, a3, k, c3, D⟩) (o5.alloc _) own5 hg5 (by omega) (HK.out a3 c3).1 (HK.out a3 c3).2⟩
          case measure =>
            have := ((H4.alloc _).next (pc := ⟨t, a3, k, c3, D⟩) (o5.alloc _) own5 hg5 (by omega) (HK.out a3 c3).1 (HK.out a3 c3).2).rd.place
            have := HN.out
            omega
        · have hk' : ∀ hp1 : p + 1 < l.length, l.length < p + 2 + l[p + 1].toNat := fun hp1 => by
            by_cases hq : p + 2 + l[p + 1].toNat ≤ l.length
            · exact absurd ⟨hp1, hq⟩ hk
            · omega
          rw [spl_no hlt h0 hk'] at hk1 hk2
          have HR : Hid (∀ w0, Rd w0 g bv l p 0 → Calls Try.prog 53 #[.pointer (some ⟨g, 0, none⟩)] w0 fun e w' => ∃ t a c q, e = .returned (.agg #[.int .u8 t, .slice a 0 c]) ∧ Now w0 w' g bv l q 3) := fun w0 hr => read_no hr hlt h0 hk'
          have HK : Hid (keys ps = (splL l).1 ∧ (52 : Int) = (splL l).2) := ⟨by rw [← hk1]; simp, hk2⟩
          clear hk1 hk2 hk hk' h0
          go_wp2_with (first
            | (go_at_call 49; have kk := H3; refine (why_any g l q 3 _ (H3.alloc _).rd).mono ?_; rintro e w4 ⟨rfl, hn4⟩; have H4 := (H3.alloc _).now hn4)
            | (go_at_call 53; refine (HR.out _ hn2.rd).mono ?_; rintro e w3 ⟨t, a3, c3, q, rfl, hn3⟩; have H3 := (H2.now hn2).now hn3)
            | (go_at_call 50; refine (hL.out _ H2.rd).mono ?_; rintro e w2 ⟨kq, hkq, rfl, hn2⟩))
          go_ret2
          exact H4.done HK.out.2 HK.out.1 (by omega)
    · have hL : ((l.length - p : Nat) : Int) = 0 := by omega
      have HL : Hid (∀ w0, Rd w0 g bv l p 0 → Calls Try.prog 50 #[.pointer (some ⟨g, 0, none⟩)] w0 fun e w' => e = .returned (.int .i64 0) ∧ Now w0 w' g bv l p 0) := fun w0 h0 => by
        have := left_any g l p 0 w0 h0
        rw [hL] at this
        exact this
      rw [spl_end (l := l) (p := p) (by omega)] at hk1 hk2
      have HK : Hid (keys ps = (splL l).1 ∧ (0 : Int) = (splL l).2) := ⟨by rw [← hk1]; simp, hk2⟩
      clear hL hk1 hk2
      go_wp2_with (go_at_call 50; refine (HL.out _ H2.rd).mono ?_; rintro e w2 ⟨rfl, hn2⟩)
      go_ret2
      exact (H2.now hn2).done HK.out.2 HK.out.1 (by omega)
end Go.Proofs.Ytognnfknbkedgaa

namespace Go.Proofs.Ytognnfknbkedgaa
open Go.RowKit
set_option linter.unusedSimpArgs false

/-- Whether a type is named; all 256 of them. -/
def knB (ts : List UInt8) (i : Nat) : Bool := ts.any fun t => t.toNat == i
def kn (ts : List UInt8) : List Value := (List.range 256).map fun i => .bool (knB ts i)
theorem kn_len (ts : List UInt8) : (kn ts).length = 256 := by simp [kn]
theorem kn_get (ts : List UInt8) (i : Nat) (h : i < 256) : (kn ts)[i]? = some (.bool (knB ts i)) := by simp [kn, h]
theorem kn_set (ts : List UInt8) (j : Nat) (hj : j < ts.length) : (kn (ts.take j)).set ts[j].toNat (.bool true) = kn (ts.take (j + 1)) := by
  apply List.ext_getElem?
  intro i
  have ht := ts[j].toNat_lt
  by_cases hi : i < 256
  · rw [kn_get _ i hi, List.getElem?_set]
    have e : knB (ts.take (j + 1)) i = (knB (ts.take j) i || ts[j].toNat == i) := by
      unfold knB
      rw [List.take_succ_eq_append_getElem hj, List.any_append]
      simp
    rw [e]
    by_cases h : ts[j].toNat = i
    · rw [if_pos h, if_pos (by rw [kn_len]; omega)]
      simp [h]
    · rw [if_neg h, kn_get _ i hi]
      simp [h]
  · rw [List.getElem?_eq_none (by rw [List.length_set, kn_len]; omega), List.getElem?_eq_none (by rw [kn_len]; omega)]
def zerK : List Value := List.replicate 256 (.bool false)
theorem zerK_kn : zerK = kn [] := by
  apply List.ext_getElem?
  intro i
  by_cases hi : i < 256
  · rw [kn_get _ i hi]; unfold zerK; rw [List.getElem?_replicate, if_pos hi]; rfl
  · rw [List.getElem?_eq_none (by unfold zerK; rw [List.length_replicate]; omega), List.getElem?_eq_none (by rw [kn_len]; omega)]
theorem infoK : (Try.prog.info? 160).map (fun i => (i.zero, i.size, i.bytes)) = some (some (.agg zerK.toArray), 256, 256) := by kernel_rfl
theorem infoKs : (Try.prog.info? 160).map (·.size) = some 256 := by kernel_rfl
theorem run_alK (w : World) : (Instr.alloc 160 true (.tuple #[])).run Try.prog w = .ok (.pointer (some ⟨w.heap.size, 0, none⟩)) (w.alloc (.cells zerK.toArray 160)) := by
  obtain ⟨i, hi, hz, _, _⟩ := info_parts infoK
  generalize zerK.toArray = Z at *
  simp [Instr.alloc, zeroValue, typeInfo, hi, hz, newVar, newRow, newObj, Value.cells]
  rfl
theorem Row.setCells {t : TypeId} {g : Nat} : ∀ (vs pre : List Value) (w : World) (cs : List Value), Row w g t (pre ++ cs) → vs.length = cs.length → Row (w.setCells g pre.length vs) g t (pre ++ vs)
  | [], pre, w, cs, h, hl => by
    have : cs = [] := List.eq_nil_of_length_eq_zero hl.symm
    subst this
    exact h
  | v :: vs, pre, w, [], h, hl => by simp at hl
  | v :: vs, pre, w, c :: cs, h, hl => by
    rw [World.setCells]
    have h1 := h.set pre.length v
    have e : (pre ++ c :: cs).set pre.length v = (pre ++ [v]) ++ cs := by simp
    rw [e] at h1
    have h2 := Row.setCells vs (pre ++ [v]) _ cs h1 (by simpa using hl)
    rw [List.length_append] at h2
    simpa using h2
theorem grownBy_setCells (g : Nat) : ∀ (vs : List Value) (o : Nat) (w : World), w.grownBy (w.setCells g o vs) (some g)
  | [], _, w => World.grownBy.refl _ _
  | v :: r, o, w => by
    rw [World.setCells]
    exact grownBy_trans (grownBy_setCell w g o v) (grownBy_setCells g r (o + 1) _)
section
variable {ops : Array Oper} {rest : List Oper} {op : Oper} {a : Act} {w : World} {Q : Exit → Act → World → Prop}
theorem alK (hw : Region.wanted op (yielded ops a.tmps) = true) (ho : op.op = .alloc 160)
    (h : ∀ W, Below w.heap.size w W → Row W w.heap.size 160 (kn []) → wpList Try.prog ops Q rest (a.put op.dst (.pointer (some ⟨w.heap.size, 0, none⟩))) W) : wpList Try.prog ops Q (op :: rest) a w :=
  wpList_step fun K hK => by
    rw [if_pos hw]
    unfold Oper.wp execOp
    simp only [ho, Sem.run_bind, run_alK, Result.andThen_ok, Sem.run_pure]
    exact hK _ _ (h _ ((Below.refl _ _).alloc (Nat.le_refl _) _) (zerK_kn ▸ Row.new w _ _))
theorem ldK (x : Operand) (hw : Region.wanted op (yielded ops a.tmps) = true) (ho : op.op = .load 160 x) (b : Nat) (ts : List UInt8) (hx : a.eval x = .pointer (some ⟨b, 0, none⟩)) (hr : Row w b 160 (kn ts))
    (h : wpList Try.prog ops Q rest (a.put op.dst (.agg (kn ts).toArray)) w) : wpList Try.prog ops Q (op :: rest) a w :=
  wpList_step fun K hK => by
    rw [if_pos hw]
    exact wp_load_mid _ x ho b 0 hx (kn ts) _ hr.range Try.underlying160 rfl (by rw [infoKs, kn_len]) (hK _ _ h)
theorem stK (x y : Operand) (hw : Region.wanted op (yielded ops a.tmps) = true) (ho : op.op = .store 160 x y) (b : Nat) (ts us : List UInt8) (hx : a.eval x = .pointer (some ⟨b, 0, none⟩)) (hy : a.eval y = .agg (kn ts).toArray) (hr : Row w b 160 (kn us))
    (h : ∀ W, w.grownBy W (some b) → Row W b 160 (kn ts) → wpList Try.prog ops Q rest (a.put op.dst undef) W) : wpList Try.prog ops Q (op :: rest) a w :=
  wpList_step fun K hK => by
    rw [if_pos hw]
    refine wp_store_mid _ x y ho b 0 _ hx hy (by simpa using hr.there (n := (kn ts).length) (by rw [kn_len, kn_len]; exact Nat.le_refl _)) (by rw [infoKs]; simp [kn_len]) (all_oneCell_toArray (cs := kn ts) (by intro z hz; obtain ⟨_, _, rfl⟩ := List.mem_map.1 hz; rfl)) (hK _ _ (h _ (grownBy_setCells b _ _ _) ?_))
    have := Row.setCells (kn ts) [] w (kn us) hr (by rw [kn_len, kn_len])
    simpa using this
end
theorem lvK {w : World} {g : Nat} {ts : List UInt8} (h : Row w g 160 (kn ts)) : (loadVar 160 ⟨g, 0, none⟩).run Try.prog w = .ok (.agg (kn ts).toArray) w :=
  run_loadVar_mid w g 0 _ (kn ts) _ h.range Try.underlying160 rfl (by rw [infoKs, kn_len])

theorem set_any (a : Option Addr) (n c : Nat) (ts : List UInt8) (w : World) (hs : Src w a n c (bcells ts)) (hn : n ≤ 140737488355328) :
    Calls Try.prog 110 #[.slice a n c] w fun e w' => e = .returned (.agg (kn ts).toArray) ∧ Below w.heap.size w w' := by
  have HN : Hid (n = ts.length) := hs.blen
  go_enter Try.func110, Try.ntmps110
  go_wp2_with (first
    | (have k := r1; refine alK (by rfl) rfl ?_; intro w2 b2 r2; have r1' := r1.below b2 r1.lt; clear r1)
    | (refine alK (by rfl) rfl ?_; intro w1 b1 r1))
  have hlt1 : w.heap.size < w1.heap.size := k.lt
  go_loopw [8] (fun i wr => ∃ j : Nat, j ≤ n ∧ i = .int .i64 j ∧ Row wr w1.heap.size 160 (kn (ts.take j)) ∧ Row wr w.heap.size 160 (kn []) ∧ Below w.heap.size w wr) (fun i _ => n - (intOf i).toNat)
  case atStart => exact ⟨0, Nat.zero_le _, rfl, by simpa using r2, r1', b1.trans (b2.mono b1.size)⟩
  case round =>
    clear r2 r1' b2 k
    obtain ⟨j, hj, rfl, r2, r1, hb⟩ := hrel
    by_cases hlt : j < n
    · have hjk : j < ts.length := by have := HN.out; omega
      have hsw := hs.below hb hs.lt
      cases a with
      | none => exact absurd (hs.bare rfl).1 (by omega)
      | some ad =>
        have c0 := hsw.byteAt j hjk
        have HK := kn_set ts j hjk
        have ht := ts[j].toNat_lt
        generalize ts[j].toNat = t at *
        have c1 : wr.cell? ⟨w1.heap.size, t, none⟩ = some (.bool (knB (ts.take j) t)) := by rw [r2.cell]; exact kn_get _ _ ht
        have f1 := r2.frozen t
        have R2 : Hid (Row wr w1.heap.size 160 (kn (ts.take j))) := r2
        have R1 : Hid (Row wr w.heap.size 160 (kn [])) := r1
        have HK' : Hid ((kn (ts.take j)).set t (.bool true) = kn (ts.take (j + 1))) := HK
        clear HK r1 r2
        go_wp2
        go_roundw
        case rel => exact ⟨j + 1, by omega, by go_num, HK'.out ▸ R2.out.set t (.bool true), R1.out.grown (grownBy_setCell _ _ _ _) (fun e => by have := Option.some.inj e; omega), hb.setCell (p := ⟨w1.heap.size, t, none⟩) (Nat.le_of_lt hlt1) _⟩
        case measure => simp [intOf]; omega
    · obtain rfl : n = j := by omega
      have e : ts.take n = ts := List.take_of_length_le (by have := HN.out; omega)
      rw [e] at r2
      go_wp2_with (first
        | (refine stK (.tmp 2) (.tmp 15) (by rfl) rfl w.heap.size ts [] rfl rfl r1 ?_; intro w4 hg4 r4)
        | (refine ldK (.tmp 3) (by rfl) rfl w1.heap.size ts rfl r2 ?_))
      exact bodyPost_ret (retC rfl _ _ 0 rfl (lvK r4)) rfl ⟨rfl, hb.grown hg4 hb.size (fun k hk => by cases hk; exact Nat.le_refl _)⟩
end Go.Proofs.Ytognnfknbkedgaa

namespace Go.Proofs.Ytognnfknbkedgaa
open Go.RowKit
set_option linter.unusedSimpArgs false

/-- Which pieces are told; whether all that must be known are. -/
def selB (ts : List UInt8) (p : Pc) : Bool := decide (1 < p.t.toNat) && knB ts p.t.toNat
def mustB (ts : List UInt8) (p : Pc) : Bool := decide (p.t.toNat < 128) || knB ts p.t.toNat
def sel (ts : List UInt8) (ps : List Pc) : List Pc := ps.filter (selB ts)
theorem sel_take (ts : List UInt8) (ps : List Pc) (j : Nat) (hj : j < ps.length) : sel ts (ps.take (j + 1)) = sel ts (ps.take j) ++ (if selB ts ps[j] then [ps[j]] else []) := by
  unfold sel
  rw [List.take_succ_eq_append_getElem hj, List.filter_append]
  congr 1
  cases h : selB ts ps[j] <;> simp [h]
theorem must_take (ts : List UInt8) (ps : List Pc) (j : Nat) (hj : j < ps.length) : (ps.take (j + 1)).all (mustB ts) = ((ps.take j).all (mustB ts) && mustB ts ps[j]) := by
  rw [List.take_succ_eq_append_getElem hj, List.all_append]; simp
theorem sel_le (ts : List UInt8) (ps : List Pc) : (sel ts ps).length ≤ ps.length := List.length_filter_le _ _
/-- What Sub tells. -/
def Subs (w : World) (ts l : List UInt8) (e : Ending) (w' : World) : Prop :=
  ∃ a c ps, keys ps = (splL l).1 ∧ e = .returned (.tuple #[.slice a (sel ts ps).length c, .bool (ps.all (mustB ts)), .int .i64 (splL l).2]) ∧ w'.ownsRow w.heap.size 72 2 (.slice a (sel ts ps).length c) (sel ts ps).length (rcs (sel ts ps)) ∧ Bods w.heap.size w' ps ∧ ps.length ≤ l.length ∧ Below w.heap.size w w'
theorem Bods.below {B : Nat} {w w' : World} {ps : List Pc} (h : Bods B w ps) (hb : Below w.heap.size w w') : Bods B w' ps := h.keep (grownBy_below none hb) (fun _ _ => .inr rfl)

theorem two_newR (w : World) (o : Obj) (t : TypeId) (cs : List Value) : Row ((w.alloc o).alloc (.cells cs.toArray t)) (w.heap.size + 1) t cs := by
  have := Row.new (w.alloc o) t cs
  rwa [World.size_alloc] at this
set_option maxHeartbeats 1000000 in
theorem sub_any (a0 : Option Addr) (n0 c0 : Nat) (ts : List UInt8) (a1 : Option Addr) (n1 c1 : Nat) (l : List UInt8) (w : World) (h0 : Src w a0 n0 c0 (bcells ts)) (h1 : Src w a1 n1 c1 (bcells l)) (hn0 : n0 ≤ 140737488355328) (hn1 : n1 ≤ 3000000000000) :
    Calls Try.prog 100 #[.slice a0 n0 c0, .slice a1 n1 c1] w (Subs w ts l) := by
  have HN : Hid (n1 = l.length) := h1.blen
  obtain ⟨z, HZ⟩ : ∃ z, Hid (z = (splL l).2) := ⟨_, rfl⟩
  have HSP : Hid (∀ W a c, Src W a n1 c (bcells l) → Calls Try.prog 31 #[.slice a n1 c] W fun e w' => ∃ a c ps n, Hid (n = ps.length) ∧ e = .returned (.tuple #[.slice a n c, .int .i64 z]) ∧ keys ps = (splL l).1 ∧ Rws w' a n ps ∧ Bods W.heap.size w' ps ∧ ps.length ≤ l.length ∧ Below W.heap.size W w') := by
    intro W a c h
    refine (split_any a n1 c l W h hn1).mono ?_
    rintro e w' ⟨a, c, ps, rfl, k1, k2, k3, k4, k5⟩
    rw [HZ.out]
    exact ⟨a, c, ps, _, (rfl : _ = _), rfl, k1, own_rws k2 k3, k3, k4, k5⟩
  go_enter Try.func100, Try.ntmps100
  go_wp2_with (first
    | (go_at_call 31; refine (HSP.out _ _ _ (h1.below g3 h1.lt)).mono ?_; rintro e w4 ⟨a4, c4, ps, n, hn4, rfl, hk, r4, bo4, hle, b4⟩; have g4 := g3.trans (b4.mono g3.size); have K4 := K3.below b4 K3.lt)
    | (refine stK (.tmp 7) (.tmp 15) (by rfl) rfl w1.heap.size ts [] rfl rfl K2 ?_; intro w3 hg3 K3; have g3 := (b1.trans (b2.mono b1.size)).grown hg3 (Nat.le_trans b1.size b2.size) (fun k hk => by cases hk; exact b1.size))
    | (refine alK (by rfl) rfl ?_; intro w2 b2 K2)
    | (go_at_call 110; refine (set_any a0 n0 c0 ts w h0 hn0).mono ?_; rintro e w1 ⟨rfl, b1⟩))
  have hlt1 : w1.heap.size < w4.heap.size := K4.lt
  have hnn : n ≤ 3000000000000 := by have := hn4.out; have := HN.out; omega
  go_loopw [10, 11, 23] (fun v en i wr => ∃ (j m : Nat) (b : Bool), j ≤ n ∧ i = .int .i64 j ∧ en = .bool b ∧ Hid (b = (ps.take j).all (mustB ts)) ∧ Hid (m = (sel ts (ps.take j)).length) ∧ m ≤ j ∧ wr.ownsRow w4.heap.size 72 2 v m (rcs (sel ts (ps.take j))) ∧ Below w4.heap.size w4 wr) (fun _ _ i _ => n - (intOf i).toNat)
  case atStart => exact ⟨0, 0, true, Nat.zero_le _, rfl, rfl, (rfl : _ = _), (rfl : _ = _), Nat.le_refl _, World.ownsRow_nil _ _ _ _, Below.refl _ _⟩
  case round =>
    obtain ⟨j, m, b, hj, rfl, rfl, hbm, hm, hmj, hown, hb⟩ := hrel
    by_cases hlt : j < n
    · have hjk : j < ps.length := by have := hn4.out; omega
      obtain ⟨g, o, rfl, c0, c1⟩ := (r4.below hb).at hjk
      have HS := sel_take ts ps j hjk
      have HM := must_take ts ps j hjk
      rw [← hbm.out] at HM
      generalize ps[j] = p at *
      obtain ⟨t, pa, pn, pc, pl⟩ := p
      have ht := t.toNat_lt
      have K6 := ((K4.below hb hlt1).alloc (.cells #[.int .u8 (t.toNat : Int), .slice pa pn pc] 72)).cell t.toNat
      rw [kn_get _ _ ht] at K6
      have eS : selB ts ⟨t, pa, pn, pc, pl⟩ = (decide (1 < t.toNat) && knB ts t.toNat) := rfl
      have eM : mustB ts ⟨t, pa, pn, pc, pl⟩ = (decide (t.toNat < 128) || knB ts t.toNat) := rfl
      rw [eS] at HS
      rw [eM] at HM
      have hbs := hb.size
      have HS' : Hid (sel ts (ps.take (j + 1)) = sel ts (ps.take j) ++ if (decide (1 < t.toNat) && knB ts t.toNat) = true then [⟨t, pa, pn, pc, pl⟩] else []) := HS
      have HM' : Hid ((ps.take (j + 1)).all (mustB ts) = (b && (decide (t.toNat < 128) || knB ts t.toNat))) := HM
      clear HS HM eS eM
      generalize knB ts t.toNat = q at *
      simp only at c0 c1
      by_cases h0 : t.toNat ≤ 1
      · have hsame : sel ts (ps.take (j + 1)) = sel ts (ps.take j) := by rw [HS'.out, decide_eq_false (by omega)]; simp
        have hmust : (ps.take (j + 1)).all (mustB ts) = b := by rw [HM'.out, decide_eq_true (by omega)]; simp
        have HH : Hid (sel ts (ps.take (j + 1)) = sel ts (ps.take j) ∧ (ps.take (j + 1)).all (mustB ts) = b) := ⟨hsame, hmust⟩
        clear hsame hmust HS' HM'
        by_cases h00 : t.toNat = 0
        · rw [h00] at c0 K6 ht
          clear h0
          go_wp2
          go_roundw
          case rel => exact ⟨j + 1, m, b, by omega, by go_num, rfl, HH.out.2.symm, by show _ = _; rw [HH.out.1]; exact hm.out, by omega, by rw [HH.out.1]; exact hown.alloc _, hb.alloc hbs _⟩
          case measure => simp [intOf]; omega
        · have h01 : t.toNat = 1 := by omega
          rw [h01] at c0 K6 ht
          clear h0 h00
          go_wp2
          go_roundw
          case rel => exact ⟨j + 1, m, b, by omega, by go_num, rfl, HH.out.2.symm, by show _ = _; rw [HH.out.1]; exact hm.out, by omega, by rw [HH.out.1]; exact hown.alloc _, hb.alloc hbs _⟩
          case measure => simp [intOf]; omega
      · have n0 : ((t.toNat : Int) == 0) = false := by simp; omega
        have n1 : ((t.toNat : Int) == 1) = false := by simp; omega
        have n2 : ¬ (t.toNat : Int) = 0 := by omega
        have n3 : ¬ (t.toNat : Int) = 1 := by omega
        have HS2 : Hid (sel ts (ps.take (j + 1)) = sel ts (ps.take j) ++ if q = true then [⟨t, pa, pn, pc, pl⟩] else []) := by show _ = _; rw [HS'.out, decide_eq_true (by omega)]; simp
        clear HS'
        by_cases h128 : t.toNat < 128
        · have HM2 : Hid ((ps.take (j + 1)).all (mustB ts) = b) := by show _ = _; rw [HM'.out, decide_eq_true h128]; simp
          have h128' : ¬ (128 : Int) ≤ (t.toNat : Int) := by omega
          clear HM'
          cases q with
          | true =>
            go_wp2_with (at_builtin; refine append_raw rfl (.tmp 49) (.tmp 51) rfl w4.heap.size u10 m (sel ts (ps.take j)) rfl ((hown.alloc _).alloc _) (wr.heap.size + 1) ⟨t, pa, pn, pc, pl⟩ 1 rfl (two_newR wr _ _ _) (by have := HN.out; omega) (by have := hb.size; simp; omega) ?_; intro v6 w6 own6 hg6)
            go_roundw
            case rel => exact ⟨j + 1, m + 1, b, by omega, by go_num, rfl, HM2.out.symm, by show _ = _; rw [HS2.out, hm.out]; simp, by omega, by rw [HS2.out]; simpa using own6, ((hb.alloc hbs _).alloc (by simp; omega) _).grown hg6 (by simp; omega) (fun k hk => (hown.lt k hk).1)⟩
            case measure => simp [intOf]; omega
          | false =>
            go_wp2
            go_roundw
            case rel => exact ⟨j + 1, m, b, by omega, by go_num, rfl, HM2.out.symm, by show _ = _; rw [HS2.out]; simpa using hm.out, by omega, by rw [HS2.out]; simpa using hown.alloc _, hb.alloc hbs _⟩
            case measure => simp [intOf]; omega
        · have h128' : (128 : Int) ≤ (t.toNat : Int) := by omega
          have HM2 : Hid ((ps.take (j + 1)).all (mustB ts) = (b && q)) := by show _ = _; rw [HM'.out, decide_eq_false h128]; simp
          clear HM'
          cases q with
          | true =>
            cases b with
            | true =>
              go_wp2_with (at_builtin; refine append_raw rfl (.tmp 49) (.tmp 51) rfl w4.heap.size u10 m (sel ts (ps.take j)) rfl ((hown.alloc _).alloc _) (wr.heap.size + 1) ⟨t, pa, pn, pc, pl⟩ 1 rfl (two_newR wr _ _ _) (by have := HN.out; omega) (by have := hb.size; simp; omega) ?_; intro v6 w6 own6 hg6)
              go_roundw
              case rel => exact ⟨j + 1, m + 1, true, by omega, by go_num, rfl, HM2.out.symm, by show _ = _; rw [HS2.out, hm.out]; simp, by omega, by rw [HS2.out]; simpa using own6, ((hb.alloc hbs _).alloc (by simp; omega) _).grown hg6 (by simp; omega) (fun k hk => (hown.lt k hk).1)⟩
              case measure => simp [intOf]; omega
            | false =>
              go_wp2_with (at_builtin; refine append_raw rfl (.tmp 49) (.tmp 51) rfl w4.heap.size u10 m (sel ts (ps.take j)) rfl ((hown.alloc _).alloc _) (wr.heap.size + 1) ⟨t, pa, pn, pc, pl⟩ 1 rfl (two_newR wr _ _ _) (by have := HN.out; omega) (by have := hb.size; simp; omega) ?_; intro v6 w6 own6 hg6)
              go_roundw
              case rel => exact ⟨j + 1, m + 1, false, by omega, by go_num, rfl, HM2.out.symm, by show _ = _; rw [HS2.out, hm.out]; simp, by omega, by rw [HS2.out]; simpa using own6, ((hb.alloc hbs _).alloc (by simp; omega) _).grown hg6 (by simp; omega) (fun k hk => (hown.lt k hk).1)⟩
              case measure => simp [intOf]; omega
          | false =>
            cases b with
            | true =>
              go_wp2
              go_roundw
              case rel => exact ⟨j + 1, m, false, by omega, by go_num, rfl, HM2.out.symm, by show _ = _; rw [HS2.out]; simpa using hm.out, by omega, by rw [HS2.out]; simpa using hown.alloc _, hb.alloc hbs _⟩
              case measure => simp [intOf]; omega
            | false =>
              go_wp2
              go_roundw
              case rel => exact ⟨j + 1, m, false, by omega, by go_num, rfl, HM2.out.symm, by show _ = _; rw [HS2.out]; simpa using hm.out, by omega, by rw [HS2.out]; simpa using hown.alloc _, hb.alloc hbs _⟩
              case measure => simp [intOf]; omega
    · obtain rfl : n = j := by omega
      go_wp2
      go_ret3
      have e : ps.take n = ps := List.take_of_length_le (by have := hn4.out; omega)
      rw [e] at hown hm hbm
      obtain ⟨a6, c6, rfl⟩ := own_shape2 hown
      have em := hm.out
      subst em
      have eb := hbm.out
      subst eb
      have ez := HZ.out
      subst ez
      exact ⟨a6, c6, ps, hk, rfl, own_le hown g4.size, (fun p hp => own_le ((bo4.below hb) p hp) g3.size), hle, g4.trans (hb.mono g4.size)⟩
end Go.Proofs.Ytognnfknbkedgaa
