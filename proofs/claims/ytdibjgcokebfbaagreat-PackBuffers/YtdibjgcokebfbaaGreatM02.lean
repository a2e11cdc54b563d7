/-
  The contract of PutBytes for every slices of bytes within memory.
-/
import Derived.Test.YtdibjgcokebfbaaGreatM01
import Derived.Deep.MidRow
namespace Go.Proofs.YtdibjgcokebfbaaGreat
open Go.RowKit

/-- A slice of bytes among others: where it lies, its length, its room, its bytes. -/
structure Part where
  a : Option Addr
  n : Nat
  c : Nat
  l : List UInt8
def svcells (ps : List Part) : List Value := ps.map fun q => .slice q.a q.n q.c
def Parts (w : World) (ps : List Part) : Prop := ∀ q ∈ ps, Src w q.a q.n q.c (bcells q.l)
def flat (ps : List Part) : List UInt8 := ps.flatMap Part.l
theorem Parts.below {w w' : World} {ps : List Part} (h : Parts w ps) (hb : Below w.heap.size w w') : Parts w' ps := fun q hq => (h q hq).below hb (h q hq).lt
theorem Src.plen {w : World} {a : Option Addr} {n c : Nat} {ps : List Part} (hs : Src w a n c (svcells ps)) : n = ps.length := by simpa [svcells] using hs.len.symm
theorem Src.partAt {w : World} {ad : Addr} {n c : Nat} {ps : List Part} (h : Src w (some ad) n c (svcells ps)) (j : Nat) (hj : j < ps.length) : w.cell? (ad.add j) = some (.slice ps[j].a ps[j].n ps[j].c) :=
  h.cell ad rfl j _ (by simp [svcells, hj])
theorem flat_take (ps : List Part) (j : Nat) (hj : j < ps.length) : flat (ps.take (j + 1)) = flat (ps.take j) ++ ps[j].l := by
  unfold flat
  rw [List.take_succ_eq_append_getElem hj, List.flatMap_append]; simp
theorem flat_le (ps : List Part) (j : Nat) : (flat (ps.take j)).length ≤ (flat ps).length := by
  have h : flat ps = flat (ps.take j) ++ flat (ps.drop j) := by
    unfold flat
    rw [← List.flatMap_append, List.take_append_drop]
  rw [h]
  simp

set_option maxHeartbeats 1000000 in
theorem putb_any (a : Option Addr) (n c : Nat) (l : List UInt8) (b : Option Addr) (m d : Nat) (ps : List Part) (w : World) (hs : Src w a n c (bcells l)) (ht : Src w b m d (svcells ps)) (hp : Parts w ps) (hm : m ≤ 140737488355328) (hn : n + (flat ps).length ≤ 140737488355328) :
    Calls Tryz.prog 91 #[.slice a n c, .slice b m d] w (Laid w (l ++ flat ps)) := by
  have HM : Hid (m = ps.length) := ht.plen
  have HN : Hid (n = l.length) := hs.blen
  obtain ⟨F, hF⟩ : ∃ F, Hid (F = (flat ps).length) := ⟨_, rfl⟩
  have hnF : n + F ≤ 140737488355328 := by have := hF.out; omega
  go_enter Tryz.func91, Tryz.ntmps91
  go_wp2
  go_loopw [5, 13] (fun s i wr => ∃ j : Nat, j ≤ m ∧ i = .int .i64 j ∧ s = .int .i64 ((flat (ps.take j)).length : Int) ∧ w = wr) (fun _ i _ => m - (intOf i).toNat)
  case atStart => exact ⟨0, Nat.zero_le _, rfl, rfl, rfl⟩
  case round =>
    obtain ⟨j, hj, rfl, rfl, rfl⟩ := hrel
    by_cases hlt : j < m
    · cases b with
      | none => exact absurd (ht.bare rfl).1 (by omega)
      | some ad =>
        have hjk : j < ps.length := by have := HM.out; omega
        have hc := ht.partAt j hjk
        have hq := hp ps[j] (List.getElem_mem hjk)
        have hft := flat_take ps j hjk
        have hle := flat_le ps (j + 1)
        have hbl := hq.blen
        rw [hft, List.length_append] at hle
        generalize hV : (flat (ps.take j)).length = V at *
        have HS : Hid ((flat (ps.take (j + 1))).length = V + ps[j].n) := by show _ = _; rw [hft, List.length_append, hV, hbl]
        have hb2 : V + ps[j].n ≤ 140737488355328 := by have := hF.out; omega
        generalize ps[j].a = qa at *
        generalize ps[j].n = qn at *
        generalize ps[j].c = qc at *
        clear hft hle hbl hV hq
        go_wp2
        go_roundw
        case rel => exact ⟨j + 1, by omega, by go_num, by rw [HS.out]; go_num, trivial⟩
        case measure => simp [intOf]; omega
    · obtain rfl : m = j := by omega
      have e : (flat (ps.take m)).length = F := by rw [List.take_of_length_le (by have := HM.out; omega)]; exact hF.out.symm
      rw [e]
      clear e
      go_wp2_with (go_at_call 120; refine (room_any a n c l F _ hs hnF).mono ?_; intro e w0 hl0; obtain ⟨a0, c0, rfl, hown0, hb0⟩ := hl0)
      go_loopw [8, 27] (fun v i wr => ∃ j : Nat, j ≤ m ∧ i = .int .i64 j ∧ wr.ownsRow w.heap.size 5 1 v (l.length + (flat (ps.take j)).length) (bcells (l ++ flat (ps.take j))) ∧ Below w.heap.size w wr) (fun _ i _ => m - (intOf i).toNat)
      case atStart => exact ⟨0, Nat.zero_le _, rfl, by simpa [flat] using hown0, hb0⟩
      case round =>
        clear hown0 hb0
        obtain ⟨j, hj, rfl, hown, hbl⟩ := hrel
        by_cases hlt : j < m
        · cases b with
          | none => exact absurd (ht.bare rfl).1 (by omega)
          | some ad =>
            have hjk : j < ps.length := by have := HM.out; omega
            have hc := (ht.below hbl ht.lt).partAt j hjk
            have hq := (hp.below hbl) ps[j] (List.getElem_mem hjk)
            have hft := flat_take ps j hjk
            have hle := flat_le ps (j + 1)
            have hq2 := hq.blen
            rw [hft, List.length_append] at hle
            have HS : Hid ((flat (ps.take (j + 1))).length = (flat (ps.take j)).length + ps[j].n ∧ bcells (l ++ flat (ps.take (j + 1))) = bcells (l ++ flat (ps.take j)) ++ bcells ps[j].l) := ⟨by rw [hft, List.length_append, hq2], by rw [hft, ← List.append_assoc, bcells_append _ ps[j].l]⟩
            have hb2 : l.length + (flat (ps.take j)).length + ps[j].n ≤ 140737488355328 := by have := hF.out; have := HN.out; omega
            generalize ps[j].a = qa at *
            generalize ps[j].n = qn at *
            generalize ps[j].c = qc at *
            generalize ps[j].l = ql at *
            clear hft hle hq2
            go_wp2_with (at_builtin; refine append_src rfl (.tmp 31) (.tmp 32) rfl w.heap.size _ (l.length + (flat (ps.take j)).length) _ rfl hown qa qn qc (bcells ql) rfl hq (bcells_one ql) hb2 hbl.size ?_; intro v' w1 hown1 hg1 _)
            go_roundw
            case rel => exact ⟨j + 1, by omega, by go_num, by rw [HS.out.1, HS.out.2, ← Nat.add_assoc]; exact hown1, hbl.grown hg1 hbl.size (ownBlock_ge hown)⟩
            case measure => simp [intOf]; omega
        · obtain rfl : m = j := by omega
          go_wp2
          go_ret
          rw [List.take_of_length_le (by have := HM.out; omega)] at hown
          exact Laid.mk (n := l.length + (flat ps).length) (by simp) hown hbl
end Go.Proofs.YtdibjgcokebfbaaGreat

namespace Go.Proofs.YtdibjgcokebfbaaGreat
open Go.RowKit

/-- The bytes of a packet with that body. -/
def pkL (l : List UInt8) : List UInt8 := [42, 2] ++ be16 (UInt16.ofNat l.length) ++ l
theorem pkL_len (l : List UInt8) : (pkL l).length = l.length + 4 := by simp [pkL, be16]

theorem own_le {w : World} {B B' : Nat} {e : TypeId} {s : Nat} {v : Value} {n : Nat} {xs : List Value} (h : w.ownsRow B e s v n xs) (hb : B' ≤ B) : w.ownsRow B' e s v n xs := by
  refine ⟨h.1, ?_⟩
  rcases h.2 with h | ⟨g, cap, cur, h1, h2, h3⟩
  · exact .inl h
  · exact .inr ⟨g, cap, cur, h1, Nat.le_trans hb h2, h3⟩
/-- What Packet answers. -/
def Packed (w : World) (l : List UInt8) (e : Ending) (w' : World) : Prop :=
  ∃ a c, e = .returned (.tuple #[.slice a (pkL l).length c, .int .i64 0]) ∧ w'.ownsRow w.heap.size 5 1 (.slice a (pkL l).length c) (pkL l).length (bcells (pkL l)) ∧ Below w.heap.size w w'

theorem packet_ok (a : Option Addr) (n c : Nat) (l : List UInt8) (w : World) (hs : Src w a n c (bcells l)) (hn : n ≤ 65535) :
    Calls Tryz.prog 51 #[.slice a n c] w (Packed w l) := by
  have HL : Hid (n = l.length) := hs.blen
  have hh : hcells [UInt16.ofNat n] = [.int .u16 (n : Int)] := by simp [hcells]; omega
  have HH : Hid (hcells [UInt16.ofNat n] = [.int .u16 (n : Int)]) := hh
  clear hh
  go_enter Tryz.func51, Tryz.ntmps51
  go_wp2_with (first
    | (go_at_call 91; have k := hs5; refine (putb_any a2 _ c2 _ (some ⟨w2.heap.size, 0, none⟩) 1 1 [⟨a, n, c, l⟩] _ (hs5.alloc _) (new_src_of w2 #[.slice a n c] 46) (by intro q hq; simp at hq; subst hq; exact (hs4.below hb2 hs4.lt).alloc _) (by decide) (by simp [flat, be16]; have := HL.out; omega)).mono ?_; rintro e w3 ⟨a3, c3, rfl, hown3, hb3⟩)
    | (go_at_call 89; have k := hs2; refine (put16_any a1 2 c1 [42, 2] (some ⟨w1.heap.size, 0, none⟩) 1 1 [UInt16.ofNat n] _ (hs2.alloc _) (by rw [HH.out]; exact new_src_of w1 #[.int .u16 n] 36) (by decide)).mono ?_; rintro e w2 ⟨a2, c2, rfl, hown2, hb2⟩; obtain ⟨_, _, hv2, hs5, hlt2⟩ := Src.ofOwn hown2; cases hv2; have hs4 := hs3.alloc (.cells #[.int .u16 n] 36))
    | (go_at_call 90; refine (put8_any none 0 0 [] (some ⟨w.heap.size, 0, none⟩) 2 2 [42, 2] _ (Src.nil _) (new_src w #[.int .u8 42, .int .u8 2]) (by decide)).mono ?_; rintro e w1 ⟨a1, c1, rfl, hown1, hb1⟩; obtain ⟨_, _, hv1, hs2, hlt1⟩ := Src.ofOwn hown1; cases hv1; have hs3 := (hs.alloc (.cells #[.int .u8 42, .int .u8 2] 5)).below hb1 (hs.alloc (.cells #[.int .u8 42, .int .u8 2] 5)).lt))
  go_ret2
  have e : [42, 2] ++ List.flatMap be16 [UInt16.ofNat n] ++ flat [⟨a, n, c, l⟩] = pkL l := by rw [HL.out]; simp [pkL, flat]
  have e2 : (be16 (UInt16.ofNat n)).length + (flat [⟨a, n, c, l⟩]).length + 1 + 1 = (pkL l).length := by rw [← e]; simp
  rw [e] at hown3
  refine ⟨a3, c3, by rw [← e2]; rfl, ?_, ?_⟩
  · refine own_le hown3 ?_
    have s1 := hb1.size
    have s2 := hb2.size
    simp only [World.size_alloc] at *
    omega
  · have s1 := hb1.size
    have s2 := hb2.size
    simp only [World.size_alloc] at s1 s2
    have k1 : Below w.heap.size w w1 := ((Below.refl _ _).alloc (Nat.le_refl _) _).trans (hb1.mono (by simp))
    have k2 : Below w.heap.size w w2 := (k1.alloc (by omega) _).trans (hb2.mono (by simp; omega))
    exact (k2.alloc (by omega) _).trans (hb3.mono (by simp; omega))
end Go.Proofs.YtdibjgcokebfbaaGreat

namespace Go.Proofs.YtdibjgcokebfbaaGreat
open Go.RowKit
variable {bv : Option Addr}

/-- A list of bytes that was answered: new memory. -/
def Own (w w' : World) (a : Option Addr) (c : Nat) (l : List UInt8) : Prop := Src w' a l.length c (bcells l) ∧ (∀ ad, a = some ad → w.heap.size ≤ ad.block)

/-- What Open tells: the error, the body, the trailer. -/
def opE (l : List UInt8) : Int :=
  match l with
  | a :: b :: c :: d :: r => if a ≠ 42 then 50 else if b ≠ 2 then 51 else if r.length < c.toNat * 256 + d.toNat then 52 else 0
  | _ => 3
def opB (l : List UInt8) : List UInt8 := if opE l = 0 then match l with
  | _ :: _ :: c :: d :: r => r.take (c.toNat * 256 + d.toNat)
  | _ => []
  else []
def opT (l : List UInt8) : List UInt8 := if opE l = 0 then match l with
  | _ :: _ :: c :: d :: r => r.drop (c.toNat * 256 + d.toNat)
  | _ => []
  else []
def Opened (w : World) (l : List UInt8) (e : Ending) (w' : World) : Prop :=
  ∃ a c b d, e = .returned (.tuple #[.slice a (opB l).length c, .slice b (opT l).length d, .int .i64 (opE l)]) ∧ Own w w' a c (opB l) ∧ Own w w' b d (opT l) ∧ Below w.heap.size w w'

theorem tk_short {l : List UInt8} {p : Nat} {k : Int} (h : ((l.length - p : Nat) : Int) < k) : tkB l p 0 k = [] ∧ tkE l p 0 k = 3 := by
  constructor
  · unfold tkB; rw [if_neg (by omega)]
  · unfold tkE; rw [if_neg (by simp), if_neg (by omega), if_neg (by omega)]
theorem tk_there {l : List UInt8} {p : Nat} {k : Int} (h0 : 0 ≤ k) (h : k ≤ ((l.length - p : Nat) : Int)) : tkB l p 0 k = (l.drop p).take k.toNat ∧ tkE l p 0 k = 0 := by
  constructor
  · unfold tkB; rw [if_pos (by omega)]
  · unfold tkE; rw [if_neg (by simp), if_neg (by omega), if_pos (by omega)]
theorem tk_err {l : List UInt8} {p : Nat} {y n : Int} (h : y ≠ 0) : tkB l p y n = [] ∧ tkE l p y n = y := by
  unfold tkB tkE
  rw [if_neg (by omega), if_pos h]
  exact ⟨rfl, rfl⟩
def Wk8 (l : List UInt8) (p : Nat) (y : Int) (q : Nat) (z : Int) : Prop := (y ≠ 0 → z = y) ∧ (y = 0 → l.length < p + 1 → z = 3) ∧ (y = 0 → p + 1 ≤ l.length → z = 0 ∧ q = p + 1)
def Wk16 (l : List UInt8) (p : Nat) (y z : Int) : Prop := (y ≠ 0 → z = y) ∧ (y = 0 → l.length < p + 2 → z = 3)
/-- Numbers that are read, whether they are there or not. -/
theorem u8_weak (g : Nat) (l : List UInt8) (p : Nat) (y : Int) (w : World) (h : Rd w g bv l p y) :
    Calls Tryz.prog 68 #[.pointer (some ⟨g, 0, none⟩)] w fun e w' => ∃ (m q : Nat) (z : Int), m < 256 ∧ e = .returned (.int .u8 m) ∧ Now w w' g bv l q z ∧ Wk8 l p y q z := by
  refine (u8_any g l p y w h).mono ?_
  rintro e w' ⟨rfl, hn⟩
  refine ⟨_, _, _, by simpa using nv_lt_of l p 1 y, rfl, hn, ⟨fun hy => (tk_err hy).2, ?_, ?_⟩⟩
  · rintro rfl hl
    exact (tk_short (by omega)).2
  · rintro rfl hl
    obtain ⟨e1, e2⟩ := tk_there (l := l) (p := p) (k := 1) (by omega) (by omega)
    exact ⟨e2, by rw [e1]; simp; omega⟩
theorem u16_weak (g : Nat) (l : List UInt8) (p : Nat) (y : Int) (w : World) (h : Rd w g bv l p y) :
    Calls Tryz.prog 69 #[.pointer (some ⟨g, 0, none⟩)] w fun e w' => ∃ (m q : Nat) (z : Int), m < 65536 ∧ e = .returned (.int .u16 m) ∧ Now w w' g bv l q z ∧ Wk16 l p y z := by
  refine (u16_any g l p y w h).mono ?_
  rintro e w' ⟨rfl, hn⟩
  refine ⟨_, _, _, by simpa using nv_lt_of l p 2 y, rfl, hn, ⟨fun hy => (tk_err hy).2, ?_⟩⟩
  rintro rfl hl
  exact (tk_short (by omega)).2
theorem now_below {B : Nat} {a b c : World} {g : Nat} {l : List UInt8} {p : Nat} {y : Int} (hb : Below B a b) (hs : B ≤ b.heap.size) (hg : B ≤ g) (h : Now b c g bv l p y) : Below B a c := hb.grown h.grown hs (fun k hk => by cases hk; exact hg)

theorem short3 {l : List UInt8} {p1 p2 : Nat} {y1 y2 y3 : Int} (hl : l.length < 4) (h1 : Wk8 l 0 0 p1 y1) (h2 : Wk8 l p1 y1 p2 y2) (h3 : Wk16 l p2 y2 y3) : y3 = 3 := by
  obtain ⟨_, hB1, hC1⟩ := h1
  obtain ⟨hA2, hB2, hC2⟩ := h2
  obtain ⟨hA3, hB3⟩ := h3
  replace hB1 := hB1 rfl
  replace hC1 := hC1 rfl
  omega
theorem open_short (a : Option Addr) (n c : Nat) (l : List UInt8) (w : World) (hs : Src w a n c (bcells l)) (hl : l.length < 4) :
    Calls Tryz.prog 41 #[.slice a n c] w fun e w' => e = .returned (.tuple #[.slice none 0 0, .slice none 0 0, .int .i64 3]) ∧ Below w.heap.size w w' := by
  have hn : n ≤ 140737488355328 := by have := hs.blen; omega
  go_enter Tryz.func41, Tryz.ntmps41
  go_wp2_with (first
    | (go_at_call 70; have k := hn4; (have hy3 : y3 = 3 := short3 hl hA1 hA2 hA3; subst hy3; refine (why_any g l _ _ _ hn4.rd).mono ?_; rintro e w5 ⟨rfl, hn5⟩))
    | (go_at_call 69; have k := hn3; refine (u16_weak g l _ _ _ hn3.rd).mono ?_; rintro e w4 ⟨m3, p3, y3, hm3, rfl, hn4, hA3⟩)
    | (go_at_call 68; have k := hn2; refine (u8_weak g l _ _ _ hn2.rd).mono ?_; rintro e w3 ⟨m2, p2, y2, hm2, rfl, hn3, hA2⟩)
    | (go_at_call 68; refine (u8_weak g l 0 0 _ hr1).mono ?_; rintro e w2 ⟨m1, p1, y1, hm1, rfl, hn2, hA1⟩)
    | (go_at_call 67; refine (new_any a n c l w hs hn).mono ?_; rintro e w1 ⟨g, bv, rfl, hg1, hv1, hr1, hb1⟩))
  go_ret3
  have b2 := now_below hb1 hb1.size hg1 hn2
  have b3 := now_below b2 b2.size hg1 hn3
  have b4 := now_below b3 b3.size hg1 hn4
  exact ⟨rfl, now_below b4 b4.size hg1 hn5⟩
/-- The four first bytes, read. -/
theorem hd1 {g : Nat} {w : World} {a b c d : UInt8} {r : List UInt8} (h : Rd w g bv (a :: b :: c :: d :: r) 0 0) : Calls Tryz.prog 68 #[.pointer (some ⟨g, 0, none⟩)] w fun e w' => e = .returned (.int .u8 (a.toNat : Int)) ∧ Now w w' g bv (a :: b :: c :: d :: r) 1 0 := by
  have h := u8_any g _ 0 0 w h
  obtain ⟨e1, e2⟩ := tk_there (l := a :: b :: c :: d :: r) (p := 0) (k := 1) (by omega) (by simp; omega)
  rw [e1, e2] at h
  simpa [nv] using h
theorem hd2 {g : Nat} {w : World} {a b c d : UInt8} {r : List UInt8} (h : Rd w g bv (a :: b :: c :: d :: r) 1 0) : Calls Tryz.prog 68 #[.pointer (some ⟨g, 0, none⟩)] w fun e w' => e = .returned (.int .u8 (b.toNat : Int)) ∧ Now w w' g bv (a :: b :: c :: d :: r) 2 0 := by
  have h := u8_any g _ 1 0 w h
  obtain ⟨e1, e2⟩ := tk_there (l := a :: b :: c :: d :: r) (p := 1) (k := 1) (by omega) (by simp; omega)
  rw [e1, e2] at h
  simpa [nv] using h
theorem hd3 {g : Nat} {w : World} {a b c d : UInt8} {r : List UInt8} (h : Rd w g bv (a :: b :: c :: d :: r) 2 0) : Calls Tryz.prog 69 #[.pointer (some ⟨g, 0, none⟩)] w fun e w' => e = .returned (.int .u16 ((c.toNat * 256 + d.toNat : Nat) : Int)) ∧ Now w w' g bv (a :: b :: c :: d :: r) 4 0 := by
  have h := u16_any g _ 2 0 w h
  obtain ⟨e1, e2⟩ := tk_there (l := a :: b :: c :: d :: r) (p := 2) (k := 2) (by omega) (by simp; omega)
  rw [e1, e2] at h
  simpa [nv] using h
theorem own_nil (w w' : World) : Own w w' none 0 [] := ⟨Src.nil _, fun _ h => by cases h⟩
theorem opened_err {w w' : World} {l : List UInt8} {z : Int} (hz : opE l = z) (h0 : z ≠ 0) (hb : Below w.heap.size w w') : Opened w l (.returned (.tuple #[.slice none 0 0, .slice none 0 0, .int .i64 z])) w' := by
  have e1 : opB l = [] := by unfold opB; rw [if_neg (by omega)]
  have e2 : opT l = [] := by unfold opT; rw [if_neg (by omega)]
  unfold Opened
  rw [e1, e2, hz]
  exact ⟨none, 0, none, 0, rfl, own_nil _ _, own_nil _ _, hb⟩

/-- What a reader of a packet's bytes tells: the first four, and how many are left. -/
structure Hd4 (L : List UInt8) (m v N ρ : Nat) : Prop where
  one : ∀ g bv w, Rd w g bv L 0 0 → Calls Tryz.prog 68 #[.pointer (some ⟨g, 0, none⟩)] w fun e w' => e = .returned (.int .u8 (m : Int)) ∧ Now w w' g bv L 1 0
  two : ∀ g bv w, Rd w g bv L 1 0 → Calls Tryz.prog 68 #[.pointer (some ⟨g, 0, none⟩)] w fun e w' => e = .returned (.int .u8 (v : Int)) ∧ Now w w' g bv L 2 0
  four : ∀ g bv w, Rd w g bv L 2 0 → Calls Tryz.prog 69 #[.pointer (some ⟨g, 0, none⟩)] w fun e w' => e = .returned (.int .u16 (N : Int)) ∧ Now w w' g bv L 4 0
  left : ∀ g bv w, Rd w g bv L 4 0 → Calls Tryz.prog 71 #[.pointer (some ⟨g, 0, none⟩)] w fun e w' => e = .returned (.int .i64 (ρ : Int)) ∧ Now w w' g bv L 4 0
  why : ∀ g bv w, Rd w g bv L 4 0 → Calls Tryz.prog 70 #[.pointer (some ⟨g, 0, none⟩)] w fun e w' => e = .returned (.tuple #[.int .i64 0, .int .i64 0]) ∧ Now w w' g bv L 4 0
theorem Hd4.of (a b c d : UInt8) (r : List UInt8) : Hd4 (a :: b :: c :: d :: r) a.toNat b.toNat (c.toNat * 256 + d.toNat) r.length :=
  ⟨fun _ _ _ h => hd1 h, fun _ _ _ h => hd2 h, fun _ _ _ h => hd3 h, fun g bv w h => by
    have h := left_any g _ _ _ w h
    simpa using h, fun g bv w h => by
    have h := why_any g _ _ _ w h
    simpa using h⟩

theorem open_52 (a : Option Addr) (n c : Nat) (L : List UInt8) (m v N ρ : Nat) (w : World) (hs : Src w a n c (bcells L)) (hn : n ≤ 140737488355328) (H : Hd4 L m v N ρ) (hN : N < 65536) (h1 : m = 42) (h2 : v = 2) (h3 : ρ < N) :
    Calls Tryz.prog 41 #[.slice a n c] w fun e w' => e = .returned (.tuple #[.slice none 0 0, .slice none 0 0, .int .i64 52]) ∧ Below w.heap.size w w' := by
  subst h1 h2
  go_enter Tryz.func41, Tryz.ntmps41
  go_wp2_with (first
    | (go_at_call 71; have k := hn5; refine (H.left _ _ _ hn5.rd).mono ?_; rintro e w6 ⟨rfl, hn6⟩)
    | (go_at_call 70; have k := hn4; refine (H.why _ _ _ hn4.rd).mono ?_; rintro e w5 ⟨rfl, hn5⟩)
    | (go_at_call 69; have k := hn3; refine (H.four _ _ _ hn3.rd).mono ?_; rintro e w4 ⟨rfl, hn4⟩)
    | (go_at_call 68; have k := hn2; refine (H.two _ _ _ hn2.rd).mono ?_; rintro e w3 ⟨rfl, hn3⟩)
    | (go_at_call 68; refine (H.one _ _ _ hr1).mono ?_; rintro e w2 ⟨rfl, hn2⟩)
    | (go_at_call 67; refine (new_any a n c _ w hs hn).mono ?_; rintro e w1 ⟨g, bv, rfl, hg1, hv1, hr1, hb1⟩))
  go_ret3
  have b2 := now_below hb1 hb1.size hg1 hn2
  have b3 := now_below b2 b2.size hg1 hn3
  have b4 := now_below b3 b3.size hg1 hn4
  have b5 := now_below b4 b4.size hg1 hn5
  exact ⟨rfl, now_below b5 b5.size hg1 hn6⟩
theorem open_51 (a : Option Addr) (n c : Nat) (L : List UInt8) (m v N ρ : Nat) (w : World) (hs : Src w a n c (bcells L)) (hn : n ≤ 140737488355328) (H : Hd4 L m v N ρ) (hN : N < 65536) (h1 : m = 42) (h2 : v ≠ 2) :
    Calls Tryz.prog 41 #[.slice a n c] w fun e w' => e = .returned (.tuple #[.slice none 0 0, .slice none 0 0, .int .i64 51]) ∧ Below w.heap.size w w' := by
  subst h1
  go_enter Tryz.func41, Tryz.ntmps41
  go_wp2_with (first
    | (go_at_call 70; have k := hn4; refine (H.why _ _ _ hn4.rd).mono ?_; rintro e w5 ⟨rfl, hn5⟩)
    | (go_at_call 69; have k := hn3; refine (H.four _ _ _ hn3.rd).mono ?_; rintro e w4 ⟨rfl, hn4⟩)
    | (go_at_call 68; have k := hn2; refine (H.two _ _ _ hn2.rd).mono ?_; rintro e w3 ⟨rfl, hn3⟩)
    | (go_at_call 68; refine (H.one _ _ _ hr1).mono ?_; rintro e w2 ⟨rfl, hn2⟩)
    | (go_at_call 67; refine (new_any a n c _ w hs hn).mono ?_; rintro e w1 ⟨g, bv, rfl, hg1, hv1, hr1, hb1⟩))
  go_ret3
  have b2 := now_below hb1 hb1.size hg1 hn2
  have b3 := now_below b2 b2.size hg1 hn3
  have b4 := now_below b3 b3.size hg1 hn4
  exact ⟨rfl, now_below b4 b4.size hg1 hn5⟩
theorem open_50 (a : Option Addr) (n c : Nat) (L : List UInt8) (m v N ρ : Nat) (w : World) (hs : Src w a n c (bcells L)) (hn : n ≤ 140737488355328) (H : Hd4 L m v N ρ) (hN : N < 65536) (h1 : m ≠ 42) :
    Calls Tryz.prog 41 #[.slice a n c] w fun e w' => e = .returned (.tuple #[.slice none 0 0, .slice none 0 0, .int .i64 50]) ∧ Below w.heap.size w w' := by
  go_enter Tryz.func41, Tryz.ntmps41
  go_wp2_with (first
    | (go_at_call 70; have k := hn4; refine (H.why _ _ _ hn4.rd).mono ?_; rintro e w5 ⟨rfl, hn5⟩)
    | (go_at_call 69; have k := hn3; refine (H.four _ _ _ hn3.rd).mono ?_; rintro e w4 ⟨rfl, hn4⟩)
    | (go_at_call 68; have k := hn2; refine (H.two _ _ _ hn2.rd).mono ?_; rintro e w3 ⟨rfl, hn3⟩)
    | (go_at_call 68; refine (H.one _ _ _ hr1).mono ?_; rintro e w2 ⟨rfl, hn2⟩)
    | (go_at_call 67; refine (new_any a n c _ w hs hn).mono ?_; rintro e w1 ⟨g, bv, rfl, hg1, hv1, hr1, hb1⟩))
  go_ret3
  have b2 := now_below hb1 hb1.size hg1 hn2
  have b3 := now_below b2 b2.size hg1 hn3
  have b4 := now_below b3 b3.size hg1 hn4
  exact ⟨rfl, now_below b4 b4.size hg1 hn5⟩

/-- What the reader hands out: the body, then the rest. -/
theorem hd_body {g : Nat} {w : World} {L : List UInt8} {N : Nat} (hl : 4 + N ≤ L.length) (h : Rd w g bv L 4 0) :
    Calls Tryz.prog 72 #[.pointer (some ⟨g, 0, none⟩), .int .i64 N] w fun e w' => ∃ a c, e = .returned (.slice a N c) ∧ Src w' a N c (bcells ((L.drop 4).take N)) ∧ (∀ ad, a = some ad → w.heap.size ≤ ad.block) ∧ Now w w' g bv L (4 + N) 0 := by
  have h := bytes_any g L 4 0 N w h
  obtain ⟨e1, e2⟩ := tk_there (l := L) (p := 4) (k := N) (by omega) (by omega)
  have e3 : ((L.drop 4).take N).length = N := by simp; omega
  simp only [Int.toNat_natCast] at e1
  rw [e1, e2, e3] at h
  exact h
theorem hd_rest {g : Nat} {w : World} {L : List UInt8} {p : Nat} (h : Rd w g bv L p 0) :
    Calls Tryz.prog 73 #[.pointer (some ⟨g, 0, none⟩)] w fun e w' => ∃ a c, e = .returned (.slice a (L.length - p) c) ∧ Src w' a (L.length - p) c (bcells (L.drop p)) ∧ (∀ ad, a = some ad → w.heap.size ≤ ad.block) ∧ Now w w' g bv L L.length 0 := by
  have hle := h.le
  have h := rest_any g L p 0 w h
  obtain ⟨e1, e2⟩ := tk_there (l := L) (p := p) (k := (L.length - p : Nat)) (by omega) (by omega)
  have e3 : tkB L p 0 (L.length - p : Nat) = L.drop p := by rw [e1]; simp [List.take_of_length_le]
  have e4 : (L.drop p).length = L.length - p := by simp
  have e5 : p + (L.length - p) = L.length := by omega
  rw [e3, e2, e4, e5] at h
  exact h
theorem open_0 (a : Option Addr) (n c : Nat) (L : List UInt8) (m v N ρ : Nat) (w : World) (hs : Src w a n c (bcells L)) (hn : n ≤ 140737488355328) (H : Hd4 L m v N ρ) (hN : N < 65536) (h1 : m = 42) (h2 : v = 2) (h3 : N ≤ ρ) (hL : ρ + 4 = L.length) :
    Calls Tryz.prog 41 #[.slice a n c] w fun e w' => ∃ a1 c1 a2 c2 : _, e = .returned (.tuple #[.slice a1 N c1, .slice a2 (L.length - (4 + N)) c2, .int .i64 0]) ∧ Src w' a1 N c1 (bcells ((L.drop 4).take N)) ∧ Src w' a2 (L.length - (4 + N)) c2 (bcells (L.drop (4 + N))) ∧ (∀ ad, a1 = some ad → w.heap.size ≤ ad.block) ∧ (∀ ad, a2 = some ad → w.heap.size ≤ ad.block) ∧ Below w.heap.size w w' := by
  subst h1 h2
  have HL : Hid (ρ + 4 = L.length) := hL
  clear hL
  go_enter Tryz.func41, Tryz.ntmps41
  go_wp2_with (first
    | (go_at_call 73; have k := hn7; refine (hd_rest hn7.rd).mono ?_; rintro e w8 ⟨a2, c2, rfl, hs8, hge8, hn8⟩)
    | (go_at_call 72; have k := hn6; refine (hd_body (N := N) (by have := HL.out; omega) hn6.rd).mono ?_; rintro e w7 ⟨a1, c1, rfl, hs7, hge7, hn7⟩)
    | (go_at_call 71; have k := hn5; refine (H.left _ _ _ hn5.rd).mono ?_; rintro e w6 ⟨rfl, hn6⟩)
    | (go_at_call 70; have k := hn4; refine (H.why _ _ _ hn4.rd).mono ?_; rintro e w5 ⟨rfl, hn5⟩)
    | (go_at_call 69; have k := hn3; refine (H.four _ _ _ hn3.rd).mono ?_; rintro e w4 ⟨rfl, hn4⟩)
    | (go_at_call 68; have k := hn2; refine (H.two _ _ _ hn2.rd).mono ?_; rintro e w3 ⟨rfl, hn3⟩)
    | (go_at_call 68; refine (H.one _ _ _ hr1).mono ?_; rintro e w2 ⟨rfl, hn2⟩)
    | (go_at_call 67; refine (new_any a n c _ w hs hn).mono ?_; rintro e w1 ⟨g, bv, rfl, hg1, hv1, hr1, hb1⟩))
  go_ret3
  have b2 := now_below hb1 hb1.size hg1 hn2
  have b3 := now_below b2 b2.size hg1 hn3
  have b4 := now_below b3 b3.size hg1 hn4
  have b5 := now_below b4 b4.size hg1 hn5
  have b6 := now_below b5 b5.size hg1 hn6
  have b7 := now_below b6 b6.size hg1 hn7
  have b8 := now_below b7 b7.size hg1 hn8
  have glt := hn6.rd.lt
  refine ⟨a1, c1, a2, c2, rfl, hs7.grown hn8.grown (fun ad had _ e => ?_), hs8, fun ad had => Nat.le_trans b6.size (hge7 ad had), fun ad had => Nat.le_trans b7.size (hge8 ad had), b8⟩
  have := hge7 ad had
  cases e
  omega

/-- tlv.Open. -/
theorem open_any (a : Option Addr) (n c : Nat) (l : List UInt8) (w : World) (hs : Src w a n c (bcells l)) (hn : n ≤ 140737488355328) : Calls Tryz.prog 41 #[.slice a n c] w (Opened w l) := by
  by_cases hl : l.length < 4
  · refine (open_short a n c l w hs hl).mono ?_
    rintro e w' ⟨rfl, hb⟩
    refine opened_err ?_ (by decide) hb
    match l, hl with
    | [], _ => rfl
    | [_], _ => rfl
    | [_, _], _ => rfl
    | [_, _, _], _ => rfl
  · obtain ⟨m, v, x, y, r, rfl⟩ : ∃ m v x y r, l = m :: v :: x :: y :: r := by
      match l, hl with
      | m :: v :: x :: y :: r, _ => exact ⟨m, v, x, y, r, rfl⟩
      | [], h => exact absurd (by simp) h
      | [_], h => exact absurd (by simp) h
      | [_, _], h => exact absurd (by simp) h
      | [_, _, _], h => exact absurd (by simp) h
    have hx := x.toNat_lt
    have hy := y.toNat_lt
    have e1 : m = 42 ↔ m.toNat = 42 := UInt8.toNat_inj.symm
    have e2 : v = 2 ↔ v.toNat = 2 := UInt8.toNat_inj.symm
    have H := Hd4.of m v x y r
    by_cases h1 : m = 42
    · by_cases h2 : v = 2
      · by_cases h3 : r.length < x.toNat * 256 + y.toNat
        · refine (open_52 a n c _ _ _ _ _ w hs hn H (by omega) (e1.1 h1) (e2.1 h2) h3).mono ?_
          rintro e w' ⟨rfl, hb⟩
          exact opened_err (by simp [opE, h1, h2, h3]) (by decide) hb
        · refine (open_0 a n c _ _ _ _ _ w hs hn H (by omega) (e1.1 h1) (e2.1 h2) (by omega) (by simp)).mono ?_
          rintro e w' ⟨a1, c1, a2, c2, rfl, hs1, hs2, g1, g2, hb⟩
          have z : opE (m :: v :: x :: y :: r) = 0 := by simp only [opE]; rw [if_neg (by simp [h1]), if_neg (by simp [h2]), if_neg h3]
          have zB : opB (m :: v :: x :: y :: r) = r.take (x.toNat * 256 + y.toNat) := by unfold opB; rw [if_pos z]
          have zT : opT (m :: v :: x :: y :: r) = r.drop (x.toNat * 256 + y.toNat) := by unfold opT; rw [if_pos z]
          have lB : (opB (m :: v :: x :: y :: r)).length = x.toNat * 256 + y.toNat := by rw [zB]; simp; omega
          have lT : (opT (m :: v :: x :: y :: r)).length = (m :: v :: x :: y :: r).length - (4 + (x.toNat * 256 + y.toNat)) := by rw [zT]; simp; omega
          have dT : (m :: v :: x :: y :: r).drop (4 + (x.toNat * 256 + y.toNat)) = opT (m :: v :: x :: y :: r) := by rw [zT, ← List.drop_drop]; rfl
          have dB : ((m :: v :: x :: y :: r).drop 4).take (x.toNat * 256 + y.toNat) = opB (m :: v :: x :: y :: r) := by rw [zB]; rfl
          rw [dB, ← lB] at hs1
          rw [dT, ← lT] at hs2
          exact ⟨a1, c1, a2, c2, by rw [lB, lT, z], ⟨hs1, g1⟩, ⟨hs2, g2⟩, hb⟩
      · refine (open_51 a n c _ _ _ _ _ w hs hn H (by omega) (e1.1 h1) (fun h => h2 (e2.2 h))).mono ?_
        rintro e w' ⟨rfl, hb⟩
        exact opened_err (by simp [opE, h1, h2]) (by decide) hb
    · refine (open_50 a n c _ _ _ _ _ w hs hn H (by omega) (fun h => h1 (e1.2 h))).mono ?_
      rintro e w' ⟨rfl, hb⟩
      exact opened_err (by simp [opE, h1]) (by decide) hb
end Go.Proofs.YtdibjgcokebfbaaGreat

namespace Go.Proofs.YtdibjgcokebfbaaGreat
open Go.RowKit
set_option linter.unusedSimpArgs false

/-- A piece: its type, where its body lies, its length and room, its bytes. -/
structure Pc where
  t : UInt8
  a : Option Addr
  n : Nat
  c : Nat
  l : List UInt8
def rc (p : Pc) : List Value := [.int .u8 (p.t.toNat : Int), .slice p.a p.n p.c]
def rcs (ps : List Pc) : List Value := ps.flatMap rc
theorem rcs_len (ps : List Pc) : (rcs ps).length = ps.length * 2 := by
  induction ps with
  | nil => rfl
  | cons p ps ih => simp only [rcs, List.flatMap_cons, List.length_append, List.length_cons] at *; rw [ih]; simp [rc]; omega
theorem rcs_append (ps qs : List Pc) : rcs (ps ++ qs) = rcs ps ++ rcs qs := by simp [rcs]
theorem rcs_one (ps : List Pc) : ∀ u ∈ rcs ps, u.oneCell' = true := by
  intro u hu
  obtain ⟨p, _, hu⟩ := List.mem_flatMap.1 hu
  simp [rc] at hu
  rcases hu with rfl | rfl <;> rfl
theorem rcs_get (ps : List Pc) (j : Nat) (p : Pc) (h : ps[j]? = some p) (k : Nat) (hk : k < 2) : (rcs ps)[j * 2 + k]? = (rc p)[k]? := by
  induction ps generalizing j with
  | nil => simp at h
  | cons q ps ih =>
    have e : rcs (q :: ps) = rc q ++ rcs ps := by simp [rcs]
    rw [e]
    cases j with
    | zero =>
      simp at h
      subst h
      rw [List.getElem?_append_left (by simp [rc]; omega)]
      simp
    | succ j =>
      rw [List.getElem?_append_right (by simp [rc]; omega)]
      have e2 : (j + 1) * 2 + k - (rc q).length = j * 2 + k := by simp [rc]; omega
      rw [e2]
      exact ih j (by simpa using h)

theorem infoR : (Tryz.prog.info? 94).map (·.size) = some 2 := by kernel_rfl
theorem infoR3 : (Tryz.prog.info? 94).map (fun i => (i.zero, i.size, i.bytes)) = some (some (.agg #[.int .u8 0, .slice none 0 0]), 2, 32) := by kernel_rfl

/-- A block of the call's own that holds these cells. -/
def Row (w : World) (g : Nat) (t : TypeId) (cs : List Value) : Prop := w.heap[g]? = some (.cells cs.toArray t (0, 0))
theorem Row.lt {w : World} {g : Nat} {t : TypeId} {cs : List Value} (h : Row w g t cs) : g < w.heap.size := (Array.getElem?_eq_some_iff.1 h).1
theorem Row.new (w : World) (t : TypeId) (cs : List Value) : Row (w.alloc (.cells cs.toArray t)) w.heap.size t cs := by
  show (w.heap.push _)[w.heap.size]? = _
  simp
theorem Row.below {w w' : World} {B g : Nat} {t : TypeId} {cs : List Value} (h : Row w g t cs) (hb : Below B w w') (hlt : g < B) : Row w' g t cs := (hb.block g hlt).trans h
theorem Row.grown {w w' : World} {g : Nat} {t : TypeId} {cs : List Value} {row : Option Nat} (h : Row w g t cs) (hg : w.grownBy w' row) (hne : some g ≠ row) : Row w' g t cs := (hg.block g h.lt hne).trans h
theorem Row.alloc {w : World} {g : Nat} {t : TypeId} {cs : List Value} (h : Row w g t cs) (o : Obj) : Row (w.alloc o) g t cs := h.grown (World.grownBy_alloc w o none) (by simp)
theorem Row.cell {w : World} {g : Nat} {t : TypeId} {cs : List Value} (h : Row w g t cs) (j : Nat) : w.cell? ⟨g, j, none⟩ = cs[j]? := by
  rw [cell_of_row w g j cs.toArray t (0, 0) h]; simp
theorem Row.frozen {w : World} {g : Nat} {t : TypeId} {cs : List Value} (h : Row w g t cs) (j : Nat) : w.frozen? ⟨g, j, none⟩ = false := by
  unfold Row at h
  simp [World.frozen?, h]
theorem Row.range {w : World} {g : Nat} {t : TypeId} {cs : List Value} (h : Row w g t cs) : w.rangeAt g 0 cs := fun j v hv => by rw [Nat.zero_add, h.cell]; exact hv
theorem Row.there {w : World} {g : Nat} {t : TypeId} {cs : List Value} {n : Nat} (h : Row w g t cs) (hn : n ≤ cs.length) : w.there g 0 n := fun j hj => by
  rw [Nat.zero_add, h.cell, h.frozen]
  exact ⟨by simp; omega, rfl⟩
theorem Row.set {w : World} {g : Nat} {t : TypeId} {cs : List Value} (h : Row w g t cs) (j : Nat) (v : Value) : Row (w.setCell ⟨g, j, none⟩ v) g t (cs.set j v) := by
  unfold Row at *
  simp [World.setCell, Array.getElem?_modify, h]
theorem below_setCells {B : Nat} {w0 : World} (g : Nat) (h : B ≤ g) : ∀ (vs : List Value) (o : Nat) (w : World), Below B w0 w → Below B w0 (w.setCells g o vs)
  | [], _, _, hb => hb
  | v :: r, o, w, hb => by
    rw [World.setCells]
    exact below_setCells g h r (o + 1) _ (hb.setCell (p := ⟨g, o, none⟩) h v)
theorem retC {P : Program} {fn : Func} {p : Tmp} {ty : TypeId} {v : Value} {w : World} (h : fn.results = #[.cell p ty]) (tmps : Array Value) (b o : Nat) (hp : tmps.getD p undef = .pointer (some ⟨b, o, none⟩))
    (hl : (loadVar ty ⟨b, o, none⟩).run P w = .ok v w) : (results fn tmps).run P w = .ok v w := by
  simp only [results, h]
  rw [Array.getD_eq_getD_getElem?] at hp
  simp [Sem.run_bind, hp, asAddr, hl, Result.andThen]
theorem lvR {w : World} {g : Nat} {x y : Value} (h : w.rangeAt g 0 [x, y]) : (loadVar 94 ⟨g, 0, none⟩).run Tryz.prog w = .ok (.agg #[x, y]) w :=
  run_loadVar_mid w g 0 _ [x, y] _ h Tryz.underlying94 rfl (by rw [infoR]; rfl)
section
variable {ops : Array Oper} {rest : List Oper} {op : Oper} {a : Act} {w : World} {Q : Exit → Act → World → Prop}
/-- A load of a piece. -/
theorem ldR (x : Operand) (hw : Region.wanted op (yielded ops a.tmps) = true) (ho : op.op = .load 94 x) (b o : Nat) (u v : Value) (hx : a.eval x = .pointer (some ⟨b, o, none⟩)) (hc : w.rangeAt b o [u, v])
    (h : wpList Tryz.prog ops Q rest (a.put op.dst (.agg #[u, v])) w) : wpList Tryz.prog ops Q (op :: rest) a w :=
  wpList_step fun K hK => by
    rw [if_pos hw]
    exact wp_load_mid _ x ho b o hx [u, v] _ hc Tryz.underlying94 rfl (by rw [infoR]; rfl) (hK _ _ h)
/-- A store of a piece into a block of the call's own. -/
theorem stR (x y : Operand) (hw : Region.wanted op (yielded ops a.tmps) = true) (ho : op.op = .store 94 x y) (b : Nat) (u v u' v' : Value) (hx : a.eval x = .pointer (some ⟨b, 0, none⟩)) (hy : a.eval y = .agg #[u, v]) (hr : Row w b 94 [u', v'])
    (h1 : u.oneCell' = true) (h2 : v.oneCell' = true)
    (h : ∀ w', w.grownBy w' (some b) → Row w' b 94 [u, v] → wpList Tryz.prog ops Q rest (a.put op.dst undef) w') : wpList Tryz.prog ops Q (op :: rest) a w :=
  wpList_step fun K hK => by
    rw [if_pos hw]
    refine wp_store_mid _ x y ho b 0 _ hx hy (by simpa using hr.there (n := 2) (by simp)) (by rw [infoR]; simp) (all_oneCell_toArray (cs := [u, v]) (by intro z hz; simp at hz; rcases hz with rfl | rfl <;> assumption)) (hK _ _ (h _ ?_ ?_))
    · have k := grownBy_trans (grownBy_setCell w b 0 u) (grownBy_setCell _ b 1 v)
      simpa [World.setCells] using k
    · have q := (hr.set 0 u).set 1 v
      simpa [World.setCells] using q
end

/-- A slice of pieces. -/
structure Rws (w : World) (a : Option Addr) (n : Nat) (ps : List Pc) : Prop where
  len : ps.length = n
  place : ps ≠ [] → ∃ g o, a = some ⟨g, o, none⟩ ∧ g < w.heap.size ∧ ∀ j p, ps[j]? = some p → w.rangeAt g (o + j * 2) (rc p)
  body : ∀ p ∈ ps, Src w p.a p.n p.c (bcells p.l)
theorem Rws.below {w w' : World} {a : Option Addr} {n : Nat} {ps : List Pc} (h : Rws w a n ps) (hb : Below w.heap.size w w') : Rws w' a n ps :=
  ⟨h.len, fun hne => by
    obtain ⟨g, o, e, hg, hr⟩ := h.place hne
    exact ⟨g, o, e, Nat.lt_of_lt_of_le hg hb.size, fun j p hp i v hv => (hb.cell (p := ⟨g, o + j * 2 + i, none⟩) hg).trans (hr j p hp i v hv)⟩, fun p hp => (h.body p hp).below hb (h.body p hp).lt⟩
theorem Rws.at {w : World} {a : Option Addr} {n : Nat} {ps : List Pc} (h : Rws w a n ps) {j : Nat} (hj : j < ps.length) : ∃ g o, a = some ⟨g, o, none⟩ ∧ w.cell? ⟨g, o + j * 2, none⟩ = some (.int .u8 (ps[j].t.toNat : Int)) ∧ w.cell? ⟨g, o + j * 2 + 1, none⟩ = some (.slice ps[j].a ps[j].n ps[j].c) := by
  obtain ⟨g, o, e, _, hr⟩ := h.place (by rintro rfl; simp at hj)
  have hp := hr j ps[j] (List.getElem?_eq_getElem hj)
  exact ⟨g, o, e, hp 0 _ rfl, hp 1 _ rfl⟩
/-- What check tells. -/
def badP (p : Pc) : Bool := p.t == 0 && decide (0 < p.n)
def longP (p : Pc) : Bool := decide (255 < p.n)
def chkE (ps : List Pc) : Int := if ps.any badP then 2 else if ps.any longP then 1 else 0
theorem any_take (f : Pc → Bool) (ps : List Pc) (j : Nat) (hj : j < ps.length) : (ps.take (j + 1)).any f = ((ps.take j).any f || f ps[j]) := by
  rw [List.take_succ_eq_append_getElem hj, List.any_append]; simp
theorem any_at (f : Pc → Bool) (ps : List Pc) (j : Nat) (hj : j < ps.length) (h : f ps[j] = true) : ps.any f = true := List.any_eq_true.2 ⟨ps[j], List.getElem_mem hj, h⟩

theorem check_any (a : Option Addr) (n c : Nat) (ps : List Pc) (w : World) (hs : Rws w a n ps) (hn : n ≤ 140737488355328) :
    Calls Tryz.prog 88 #[.slice a n c] w fun e w' => e = .returned (.int .i64 (chkE ps)) ∧ Below w.heap.size w w' := by
  have HN : Hid (n = ps.length) := hs.len.symm
  go_enter Tryz.func88, Tryz.ntmps88
  go_wp2
  go_loopw [3, 8] (fun v i wr => ∃ (j : Nat) (z : Int), j ≤ n ∧ i = .int .i64 j ∧ v = .int .i64 z ∧ Hid (z = if (ps.take j).any longP then 1 else 0) ∧ Hid ((ps.take j).any badP = false) ∧ Below w.heap.size w wr) (fun _ i _ => n - (intOf i).toNat)
  case atStart => exact ⟨0, 0, Nat.zero_le _, rfl, rfl, (rfl : _ = _), (rfl : _ = _), Below.refl _ _⟩
  case round =>
    obtain ⟨j, z, hj, rfl, rfl, hz, hbad, hb⟩ := hrel
    by_cases hlt : j < n
    · have hjk : j < ps.length := by have := HN.out; omega
      obtain ⟨g, o, rfl, c0, c1⟩ := (hs.below hb).at hjk
      have HB : Hid (badP ps[j] = true → chkE ps = 2) := by intro h; unfold chkE; rw [if_pos (any_at _ _ _ hjk h)]
      have HB2 : Hid (badP ps[j] = false → (ps.take (j + 1)).any badP = false) := by intro h; rw [any_take _ _ _ hjk, hbad.out, h]; rfl
      have HZ : Hid ((if (ps.take (j + 1)).any longP then 1 else 0) = if longP ps[j] then 1 else z) := by
        show _ = _
        rw [any_take _ _ _ hjk, hz.out]
        cases longP ps[j] <;> simp
      have hb2 := hb.size
      have e1 : badP ps[j] = (ps[j].t.toNat == 0 && decide (0 < ps[j].n)) := by
        unfold badP
        congr 1
        rw [Bool.eq_iff_iff]; simp; exact UInt8.toNat_inj.symm
      have e2 : longP ps[j] = decide (255 < ps[j].n) := rfl
      have ht := ps[j].t.toNat_lt
      rw [e1] at HB HB2
      rw [e2] at HZ
      clear e1 e2
      generalize ps[j].t.toNat = pt at *
      generalize ps[j].a = pa at *
      generalize ps[j].n = pn at *
      generalize ps[j].c = pc at *
      by_cases h0 : pt = 0
      · subst h0
        by_cases h1 : 0 < pn
        · go_wp2
          go_ret
          exact ⟨by rw [HB.out (by simp [h1])]; rfl, hb.alloc hb2 _⟩
        · obtain rfl : pn = 0 := by omega
          go_wp2
          go_roundw
          case rel => exact ⟨j + 1, z, by omega, by go_num, rfl, (HZ.out.trans (by simp)).symm, HB2.out (by simp), hb.alloc hb2 _⟩
          case measure => simp [intOf]; omega
      · have h0' : ((pt : Int) == 0) = false := by simpa using h0
        by_cases h1 : 255 < pn
        · go_wp2
          go_roundw
          case rel => exact ⟨j + 1, 1, by omega, by go_num, rfl, (HZ.out.trans (by simp [h1])).symm, HB2.out (by simp [h0]), hb.alloc hb2 _⟩
          case measure => simp [intOf]; omega
        · go_wp2
          go_roundw
          case rel => exact ⟨j + 1, z, by omega, by go_num, rfl, (HZ.out.trans (by simp [h1])).symm, HB2.out (by simp [h0]), hb.alloc hb2 _⟩
          case measure => simp [intOf]; omega
    · obtain rfl : n = j := by omega
      go_wp2
      go_ret
      have e1 := hz.out
      have e2 := hbad.out
      rw [List.take_of_length_le (by have := HN.out; omega)] at e1 e2
      exact ⟨by unfold chkE; rw [e2]; simp [e1], hb⟩
end Go.Proofs.YtdibjgcokebfbaaGreat
