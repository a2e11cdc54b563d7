/-
  The contract of tlv.Split for every bytes.
-/
import Derived.Test.YtaleclmccmeglaaSpl
namespace Go.Proofs.Ytaleclmccmeglaa
open Go.RowKit
set_option linter.unusedSimpArgs false
variable {bv : Option Addr}

/-- Append a piece to a row of the call's own. -/
theorem append_raw {w : World} {ops : Array Oper} {rest : List Oper} {o : Oper} {a : Act} {Q : Exit → Act → World → Prop} (hgd : o.guard = none) (s x : Operand)
    (ho : o.op = .call { callee := .builtin .append, args := #[s, x], argTypes := #[54, 54] })
    (base : Nat) (v : Value) (n : Nat) (ps : List Pc) (hs : a.eval s = v) (hown : w.ownsRow base 60 2 v n (rcs ps))
    (g : Nat) (p : Pc) (c : Nat) (hx : a.eval x = .slice (some ⟨g, 0, none⟩) 1 c) (hr : Row w g 60 (rc p))
    (hbytes : n + 1 ≤ 4000000000000) (hbase : base ≤ w.heap.size)
    (h : ∀ v' w', w'.ownsRow base 60 2 v' (n + 1) (rcs (ps ++ [p])) → w.grownBy w' v.ownBlock → wpList Try.prog ops Q rest (a.put o.dst v') w') : wpList Try.prog ops Q (o :: rest) a w := by
  obtain ⟨i0, hi, hz0, hz1, hz2⟩ := info_parts infoR3
  refine wpList_append_own w hgd s x 54 ho base 60 i0 (.agg #[.int .u8 0, .slice none 0 0]) 2 32 Try.underlying54 hi hz0 hz1 hz2 rfl (by decide) v n (rcs ps) hs hown ⟨g, 0, none⟩ 1 c (rc p) hx (by simp [rc]) (fun j u hu => ?_) (by have := rcs_one [p]; simpa [rcs] using this) (by unfold maxLen; omega) (by omega) hbase (fun v' w' h1 h2 _ => h v' w' (by rw [rcs_append]; simpa [rcs] using h1) h2)
  rw [Addr.add_mid, Nat.zero_add, hr.cell]
  exact hu
theorem own_shape2 {w : World} {B : Nat} {e : TypeId} {s : Nat} {v : Value} {n : Nat} {xs : List Value} (h : w.ownsRow B e s v n xs) : ∃ a c, v = .slice a n c := by
  rcases h.2 with ⟨rfl, rfl⟩ | ⟨g, cap, cur, rfl, _⟩
  · exact ⟨_, _, rfl⟩
  · exact ⟨_, _, rfl⟩
/-- Where a reader is. -/
def rdAt (w : World) (g : Nat) : Nat := match w.cell? ⟨g, 1, none⟩ with
  | some v => (intOf v).toNat
  | none => 0
theorem Rd.place {w : World} {g : Nat} {l : List UInt8} {p : Nat} {y : Int} (h : Rd w g bv l p y) : rdAt w g = p := by
  obtain ⟨c, _, c1, _⟩ := h.cells
  unfold rdAt
  rw [c1]
  simp [intOf]
/-- octet.New, the bytes in memory of its own. -/
theorem new_own (a : Option Addr) (n c : Nat) (l : List UInt8) (w : World) (hs : Src w a n c (bcells l)) (hn : n ≤ 140737488355328) :
    Calls Try.prog 34 #[.slice a n c] w fun e w' => ∃ g bv, e = .returned (.pointer (some ⟨g, 0, none⟩)) ∧ w.heap.size ≤ g ∧ (∃ d, w'.ownsRow w.heap.size 5 1 (.slice bv l.length d) l.length (bcells l)) ∧ Rd w' g bv l 0 0 ∧ Below w.heap.size w w' := by
  go_enter Try.func34, Try.ntmps34
  go_wp2_with (go_at_call 67; refine (clone_any a n c l w hs hn).mono ?_; rintro e w0 ⟨a0, c0, rfl, hown0, hb0⟩)
  go_ret
  obtain ⟨a1, c1, hv, hs1, hlt⟩ := Src.ofOwn hown0
  cases hv
  refine ⟨_, a0, rfl, hb0.size, ⟨c0, hown0.alloc _⟩, ⟨Nat.zero_le _, by have := hs.blen; omega, ?_, _, heap_alloc_new _ _, ?_, hs1.alloc _⟩, hb0.alloc hb0.size _⟩
  · intro ad had h
    have := (hlt ad had).2
    omega
  · rcases hown0.2 with ⟨h1, h2⟩ | ⟨g, cap, cur, h1, _, _, h4, _⟩
    · omega
    · cases h1; exact h4
/-- What Split tells: so many pieces, the error. -/
def Splits (w : World) (l : List UInt8) (e : Ending) (w' : World) : Prop :=
  ∃ a c ps, e = .returned (.tuple #[.slice a ps.length c, .int .i64 (splL l).2]) ∧ keys ps = (splL l).1 ∧ w'.ownsRow w.heap.size 60 2 (.slice a ps.length c) ps.length (rcs ps) ∧ Bods w.heap.size w' ps ∧ ps.length ≤ l.length ∧ Below w.heap.size w w'
/-- What Split's rounds keep. -/
structure SpAt (w wr : World) (g : Nat) (bv : Option Addr) (l : List UInt8) (v : Value) (p : Nat) (ps : List Pc) : Prop where
  rd : Rd wr g bv l p 0
  own : wr.ownsRow w.heap.size 60 2 v ps.length (rcs ps)
  bods : Bods w.heap.size wr ps
  bel : Below w.heap.size w wr
  le : ps.length ≤ p
  k1 : keys ps ++ (splL (l.drop p)).1 = (splL l).1
  k2 : (splL (l.drop p)).2 = (splL l).2
  hg : w.heap.size ≤ g
  byt : ∃ d, wr.ownsRow w.heap.size 5 1 (.slice bv l.length d) l.length (bcells l)
/-- Behind calls that change the reader alone. -/
structure SpIn (w wr : World) (g : Nat) (bv : Option Addr) (l : List UInt8) (v : Value) (p : Nat) (y : Int) (ps : List Pc) : Prop where
  rd : Rd wr g bv l p y
  own : wr.ownsRow w.heap.size 60 2 v ps.length (rcs ps)
  bods : Bods w.heap.size wr ps
  bel : Below w.heap.size w wr
  hg : w.heap.size ≤ g
  byt : ∃ d, wr.ownsRow w.heap.size 5 1 (.slice bv l.length d) l.length (bcells l)
theorem SpAt.inn {w wr : World} {g : Nat} {l : List UInt8} {v : Value} {p : Nat} {ps : List Pc} (h : SpAt w wr g bv l v p ps) : SpIn w wr g bv l v p 0 ps := ⟨h.rd, h.own, h.bods, h.bel, h.hg, h.byt⟩
theorem SpIn.now {w wr w' : World} {g : Nat} {l : List UInt8} {v : Value} {p q : Nat} {y z : Int} {ps : List Pc} (h : SpIn w wr g bv l v p y ps) (hn : Now wr w' g bv l q z) : SpIn w w' g bv l v q z ps :=
  ⟨hn.rd, own_now h.own h.rd hn (by decide), h.bods.now h.rd hn, now_below h.bel h.bel.size h.hg hn, h.hg, by obtain ⟨d, hd⟩ := h.byt; exact ⟨d, own_now hd h.rd hn (by decide)⟩⟩
theorem SpIn.alloc {w wr : World} {g : Nat} {l : List UInt8} {v : Value} {p : Nat} {y : Int} {ps : List Pc} (h : SpIn w wr g bv l v p y ps) (o : Obj) : SpIn w (wr.alloc o) g bv l v p y ps := h.now (h.rd.now.alloc o)
theorem SpIn.next {w w4 w5 : World} {g : Nat} {l : List UInt8} {u v : Value} {q : Nat} {ps : List Pc} {pc : Pc} (h : SpIn w w4 g bv l u q 0 ps) (hp : w4.ownsRow w.heap.size 5 1 (.slice pc.a pc.n pc.c) pc.n (bcells pc.l)) (own5 : w5.ownsRow w.heap.size 60 2 v (ps.length + 1) (rcs (ps ++ [pc]))) (hg5 : w4.grownBy w5 u.ownBlock)
    (hle : ps.length + 1 ≤ q) (k1 : keys (ps ++ [pc]) ++ (splL (l.drop q)).1 = (splL l).1) (k2 : (splL (l.drop q)).2 = (splL l).2) : SpAt w w5 g bv l v q (ps ++ [pc]) := by
  obtain ⟨d, hd⟩ := h.byt
  have ap := fun {B n : Nat} {v : Value} {xs : List Value} (h' : w4.ownsRow B 5 1 v n xs) => own_apart h' h.own (fun e => ne51 e.symm)
  have k0 : Bods w.heap.size w4 (ps ++ [pc]) := by
    intro r hr
    rcases List.mem_append.1 hr with hr | hr
    · exact h.bods r hr
    · obtain rfl : r = pc := by simpa using hr
      exact hp
  refine ⟨h.rd.kept hg5 (fun e => h.rd.own_ne h.own (by decide) e.symm) (fun ad had hl e => ?_), by simpa using own5, k0.keep hg5 (fun r hr => ap (k0 r hr)), h.bel.grown hg5 h.bel.size (fun k hk => (h.own.lt k hk).1), by simpa using hle, k1, k2, h.hg, d, own_keep hd hg5 (ap hd)⟩
  subst had
  rcases ap hd with hx | hx
  · exact hx e
  · rw [hx] at e; cases e
theorem SpIn.done {w w4 : World} {g : Nat} {l : List UInt8} {u : Value} {q : Nat} {y : Int} {ps : List Pc} (h : SpIn w w4 g bv l u q y ps) {z : Int} (hz : z = (splL l).2) (hk : keys ps = (splL l).1) (hle : ps.length ≤ l.length) : Splits w l (.returned (.tuple #[u, .int .i64 z])) w4 := by
  obtain ⟨a1, c1, rfl⟩ := own_shape2 h.own
  subst hz
  exact ⟨a1, c1, ps, rfl, hk, h.own, h.bods, hle, h.bel⟩

theorem split_any (a : Option Addr) (n c : Nat) (l : List UInt8) (w : World) (hs : Src w a n c (bcells l)) (hn : n ≤ 3000000000000) : Calls Try.prog 19 #[.slice a n c] w (Splits w l) := by
  have HN : Hid (n = l.length) := hs.blen
  go_enter Try.func19, Try.ntmps19
  go_wp2_with (go_at_call 34; refine (new_own a n c l w hs (by omega)).mono ?_; rintro e w1 ⟨g, bv, rfl, hg1, hv1, hr1, hb1⟩)
  go_loopw [4] (fun v wr => ∃ p ps, SpAt w wr g bv l v p ps) (fun _ wr => n - rdAt wr g)
  case atStart => exact ⟨0, [], hr1, World.ownsRow_nil _ _ _ _, (fun _ h => by cases h), hb1, Nat.le_refl _, by simp [keys], by simp, hg1, hv1⟩
  case round =>
    clear hr1 hb1 hv1 hs
    obtain ⟨p, ps, H⟩ := hrel
    have hpl := H.rd.le
    have hat := H.rd.place
    have hple := H.le
    have hk1 := H.k1
    have hk2 := H.k2
    have H2 := H.inn
    clear H
    by_cases hlt : p < l.length
    · have hL : Hid (∀ w0, Rd w0 g bv l p 0 → Calls Try.prog 38 #[.pointer (some ⟨g, 0, none⟩)] w0 fun e w' => ∃ k : Nat, 0 < k ∧ e = .returned (.int .i64 k) ∧ Now w0 w' g bv l p 0) := fun w0 h0 => by
        refine (left_any g l p 0 w0 h0).mono ?_
        rintro e w' ⟨rfl, h⟩
        exact ⟨l.length - p, by omega, rfl, h⟩
      by_cases h0 : l[p].toNat = 0
      · rw [spl_pad hlt h0] at hk1 hk2
        have HR : Hid (∀ w0, Rd w0 g bv l p 0 → Calls Try.prog 41 #[.pointer (some ⟨g, 0, none⟩)] w0 fun e w' => e = .returned (.agg #[.int .u8 0, .slice none 0 0]) ∧ Now w0 w' g bv l (p + 1) 0) := fun w0 hr => read_pad hr hlt h0
        have HK : Hid (keys (ps ++ [⟨0, none, 0, 0, []⟩]) ++ (splL (l.drop (p + 1))).1 = (splL l).1 ∧ (splL (l.drop (p + 1))).2 = (splL l).2) := ⟨by rw [← hk1]; simp [keys], hk2⟩
        clear h0 hk1 hk2
        go_wp2_with (first
          | (at_builtin; have kk := H4; refine append_raw rfl (.tmp 24) (.tmp 26) rfl w.heap.size u4 ps.length ps rfl (H4.own.alloc _) w4.heap.size ⟨0, none, 0, 0, []⟩ 1 rfl (Row.new w4 _ _) (by have := HN.out; omega) (by have := H4.bel.size; simp; omega) ?_; intro v5 w5 own5 hg5)
          | (go_at_call 37; have kk := H3; refine (why_any g l (p + 1) 0 _ (H3.alloc _).rd).mono ?_; rintro e w4 ⟨rfl, hn4⟩; have H4 := (H3.alloc (.cells #[.int .u8 0, .slice none 0 0] 60)).now hn4; have r4 := row_now (Row.new w3 60 [.int .u8 0, .slice none 0 0]) hn4 (by have := H3.rd.lt; omega); have c0 : w4.cell? ⟨w3.heap.size, 0, none⟩ = some (.int .u8 0) := r4.cell 0; have c1 : w4.cell? ⟨w3.heap.size, 1, none⟩ = some (.slice none 0 0) := r4.cell 1)
          | (go_at_call 41; refine (HR.out _ hn2.rd).mono ?_; rintro e w3 ⟨rfl, hn3⟩; have H3 := (H2.now hn2).now hn3)
          | (go_at_call 38; refine (hL.out _ H2.rd).mono ?_; rintro e w2 ⟨k, hk, rfl, hn2⟩))
        go_roundw
        case rel => exact ⟨p + 1, _, (H4.alloc _).next (World.ownsRow_nil _ _ _ _) own5 hg5 (by omega) HK.out.1 HK.out.2⟩
        case measure =>
          have := ((H4.alloc _).next (World.ownsRow_nil _ _ _ _) own5 hg5 (by omega) HK.out.1 HK.out.2).rd.place
          have := HN.out
          omega
      · by_cases hk : ∃ hp1 : p + 1 < l.length, p + 2 + l[p + 1].toNat ≤ l.length
        · obtain ⟨hp1, hk⟩ := hk
          rw [spl_yes hp1 h0 hk] at hk1 hk2
          have HR : Hid (∀ w0, Rd w0 g bv l p 0 → Calls Try.prog 41 #[.pointer (some ⟨g, 0, none⟩)] w0 fun e w' => ∃ a c, e = .returned (.agg #[.int .u8 (l[p].toNat : Int), .slice a l[p + 1].toNat c]) ∧ w'.ownsRow w0.heap.size 5 1 (.slice a l[p + 1].toNat c) l[p + 1].toNat (bcells ((l.drop (p + 2)).take l[p + 1].toNat)) ∧ Now w0 w' g bv l (p + 2 + l[p + 1].toNat) 0) := fun w0 hr => read_yes hr hp1 h0 hk
          have HK : Hid (∀ a c, keys (ps ++ [⟨l[p], a, l[p + 1].toNat, c, (l.drop (p + 2)).take l[p + 1].toNat⟩]) ++ (splL (l.drop (p + 2 + l[p + 1].toNat))).1 = (splL l).1 ∧ (splL (l.drop (p + 2 + l[p + 1].toNat))).2 = (splL l).2) := fun a c => ⟨by rw [← hk1]; simp [keys], hk2⟩
          clear hk1 hk2
          generalize l[p] = t at *
          generalize l[p + 1].toNat = k at *
          generalize hD : (l.drop (p + 2)).take k = D at *
          clear hD
          go_wp2_with (first
            | (at_builtin; have kk := H4; refine append_raw rfl (.tmp 24) (.tmp 26) rfl w.heap.size u4 ps.length ps rfl (H4.own.alloc _) w4.heap.size ⟨t, a3, k, c3, D⟩ 1 rfl (Row.new w4 _ _) (by have := HN.out; omega) (by have := H4.bel.size; simp; omega) ?_; intro v5 w5 own5 hg5)
            | (go_at_call 37; have kk := H3; refine (why_any g l (p + 2 + k) 0 _ (H3.alloc _).rd).mono ?_; rintro e w4 ⟨rfl, hn4⟩; have H4 := (H3.alloc (.cells #[.int .u8 (t.toNat : Int), .slice a3 k c3] 60)).now hn4; have r4 := row_now (Row.new w3 60 [.int .u8 (t.toNat : Int), .slice a3 k c3]) hn4 (by have := H3.rd.lt; omega); have c0 : w4.cell? ⟨w3.heap.size, 0, none⟩ = some (.int .u8 (t.toNat : Int)) := r4.cell 0; have c1 : w4.cell? ⟨w3.heap.size, 1, none⟩ = some (.slice a3 k c3) := r4.cell 1; have o4 := own_now (o3.alloc (.cells #[.int .u8 (t.toNat : Int), .slice a3 k c3] 60)) (H3.alloc _).rd hn4 (by decide))
            | (go_at_call 41; refine (HR.out _ hn2.rd).mono ?_; rintro e w3 ⟨a3, c3, rfl, o3, hn3⟩; have H3 := (H2.now hn2).now hn3)
            | (go_at_call 38; refine (hL.out _ H2.rd).mono ?_; rintro e w2 ⟨kq, hkq, rfl, hn2⟩))
          have o5 : w4.ownsRow w.heap.size 5 1 (.slice a3 k c3) k (bcells D) := own_le o4 (H2.now hn2).bel.size
          go_roundw
          case rel => exact ⟨p + 2 + k, _, (H4.alloc _).next (pc := ⟨t, a3, k, c3, D⟩) (o5.alloc _) own5 hg5 (by omega) (HK.out a3 c3).1 (HK.out a3 c3).2⟩
          case measure =>
            have := ((H4.alloc _).next (pc := ⟨t, a3, k, c3, D⟩) (o5.alloc _) own5 hg5 (by omega) (HK.out a3 c3).1 (HK.out a3 c3).2).rd.place
            have := HN.out
            omega
        · have hk' : ∀ hp1 : p + 1 < l.length, l.length < p + 2 + l[p + 1].toNat := fun hp1 => by
            by_cases hq : p + 2 + l[p + 1].toNat ≤ l.length
            · exact absurd ⟨hp1, hq⟩ hk
            · omega
          rw [spl_no hlt h0 hk'] at hk1 hk2
          have HR : Hid (∀ w0, Rd w0 g bv l p 0 → Calls Try.prog 41 #[.pointer (some ⟨g, 0, none⟩)] w0 fun e w' => ∃ t a c q, e = .returned (.agg #[.int .u8 t, .slice a 0 c]) ∧ Now w0 w' g bv l q 3) := fun w0 hr => read_no hr hlt h0 hk'
          have HK : Hid (keys ps = (splL l).1 ∧ (52 : Int) = (splL l).2) := ⟨by rw [← hk1]; simp, hk2⟩
          clear hk1 hk2 hk hk' h0
          go_wp2_with (first
            | (go_at_call 37; have kk := H3; refine (why_any g l q 3 _ (H3.alloc _).rd).mono ?_; rintro e w4 ⟨rfl, hn4⟩; have H4 := (H3.alloc _).now hn4)
            | (go_at_call 41; refine (HR.out _ hn2.rd).mono ?_; rintro e w3 ⟨t, a3, c3, q, rfl, hn3⟩; have H3 := (H2.now hn2).now hn3)
            | (go_at_call 38; refine (hL.out _ H2.rd).mono ?_; rintro e w2 ⟨kq, hkq, rfl, hn2⟩))
          go_ret2
          exact H4.done HK.out.2 HK.out.1 (by omega)
    · have hL : ((l.length - p : Nat) : Int) = 0 := by omega
      have HL : Hid (∀ w0, Rd w0 g bv l p 0 → Calls Try.prog 38 #[.pointer (some ⟨g, 0, none⟩)] w0 fun e w' => e = .returned (.int .i64 0) ∧ Now w0 w' g bv l p 0) := fun w0 h0 => by
        have := left_any g l p 0 w0 h0
        rw [hL] at this
        exact this
      rw [spl_end (l := l) (p := p) (by omega)] at hk1 hk2
      have HK : Hid (keys ps = (splL l).1 ∧ (0 : Int) = (splL l).2) := ⟨by rw [← hk1]; simp, hk2⟩
      clear hL hk1 hk2
      go_wp2_with (go_at_call 38; refine (HL.out _ H2.rd).mono ?_; rintro e w2 ⟨rfl, hn2⟩)
      go_ret2
      exact (H2.now hn2).done HK.out.2 HK.out.1 (by omega)
end Go.Proofs.Ytaleclmccmeglaa
