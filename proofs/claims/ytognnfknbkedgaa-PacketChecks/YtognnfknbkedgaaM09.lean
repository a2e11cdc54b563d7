/-
  The contract of prefix of package packet.
-/
import Derived.Test.YtognnfknbkedgaaM06
import Derived.BigRegion
namespace Go.Proofs.Ytognnfknbkedgaa
open Go.RowKit
set_option linter.unusedSimpArgs false
set_option maxRecDepth 20000
variable {bv : Option Addr}

/-- How many bytes so many bits want; the default prefix of an AE. -/
def pfN (plen : Nat) : Nat := (plen + 7) / 8
def pfD (s : St) (ae : Nat) : Option Ad := if ae = 1 then s.d1 else s.d2
/-- Whether a prefix may not be. -/
def pfX (s : St) (ae plen om : Nat) : Bool := !(decide (ae = 1) || decide (ae = 2)) || (decide (8 * (16 - frN ae) < plen) || (decide (pfN plen < om) || (decide (0 < om) && (pfD s ae).isNone)))
/-- The address with the omitted bytes; with those that are read; with zeros behind its bits. -/
def pfA1 (s : St) (ae om : Nat) : Ad := if 0 < om then spA (frA ae) (frN ae) ((((pfD s ae).getD zeroA).l.drop (frN ae)).take om) else frA ae
def pfA2 (s : St) (ae plen om : Nat) (l : List UInt8) (r : RS) : Ad := spA (pfA1 s ae om) (frN ae + om) (tkB l r.p r.y ((pfN plen - om : Nat) : Int))
def mskA (a : Ad) (i k : Nat) : Ad := ⟨a.l.set i (keepB k (a.l.getD i 0)), by rw [List.length_set]; exact a.len⟩
def pfA3 (s : St) (ae plen om : Nat) (l : List UInt8) (r : RS) : Ad := if 0 < plen % 8 then mskA (pfA2 s ae plen om l r) (frN ae + pfN plen - 1) (plen % 8) else pfA2 s ae plen om l r
/-- The prefix that is read, and the reading behind it. -/
def pfP (s : St) (ae plen om : Nat) (l : List UInt8) (r : RS) : Pf := if pfX s ae plen om then zeroP else ⟨pfA3 s ae plen om l r, ((8 * frN ae + plen : Nat) : Int)⟩
def pfR (s : St) (ae plen om : Nat) (l : List UInt8) (r : RS) : RS := if pfX s ae plen om then r.bad else r.adv l ((pfN plen - om : Nat) : Int)
theorem foldSet : ∀ (l arr : List Value) (k : Nat), k + l.length ≤ arr.length → List.foldl (fun (cs : Array Value) (x : Value × Nat) => cs.setIfInBounds x.2 x.1) arr.toArray (l.zipIdx k) = (arr.take k ++ l ++ arr.drop (k + l.length)).toArray
  | [], arr, k, h => by simp
  | x :: l, arr, k, h => by
    simp only [List.length_cons] at h
    rw [List.zipIdx_cons, List.foldl_cons]
    have ih := foldSet l (arr.set k x) (k + 1) (by simp; omega)
    simp only [List.setIfInBounds_toArray] at ih ⊢
    rw [ih]
    congr 1
    have e1 : (arr.set k x).take (k + 1) = arr.take k ++ [x] := by
      rw [List.take_add_one, List.take_set_of_le (Nat.le_refl _), List.getElem?_set_self (by omega)]; rfl
    have e2 : (arr.set k x).drop (k + 1 + l.length) = arr.drop (k + (l.length + 1)) := by
      rw [List.drop_set_of_lt (by omega)]; congr 1; omega
    rw [e1, e2, List.length_cons]
    simp
theorem buildP (a : Ad) (n : Int) : Value.agg ((List.foldl (fun (cs : Array Value) (x : Value × Nat) => cs.setIfInBounds x.2 x.1) #[Value.int .u8 0, Value.int .u8 0, Value.int .u8 0, Value.int .u8 0, Value.int .u8 0, Value.int .u8 0, Value.int .u8 0, Value.int .u8 0, Value.int .u8 0, Value.int .u8 0, Value.int .u8 0, Value.int .u8 0, Value.int .u8 0, Value.int .u8 0, Value.int .u8 0, Value.int .u8 0, Value.int .i64 0] (acells a).zipIdx).setIfInBounds 16 (.int .i64 n)) = (Value.agg (pcells (⟨a, n⟩)).toArray) := by
  have h1 := foldSet (acells a) [Value.int .u8 0, Value.int .u8 0, Value.int .u8 0, Value.int .u8 0, Value.int .u8 0, Value.int .u8 0, Value.int .u8 0, Value.int .u8 0, Value.int .u8 0, Value.int .u8 0, Value.int .u8 0, Value.int .u8 0, Value.int .u8 0, Value.int .u8 0, Value.int .u8 0, Value.int .u8 0, Value.int .i64 0] 0 (by rw [acells_len]; simp)
  rw [acells_len] at h1
  simp only [List.take_zero, List.nil_append, Nat.zero_add] at h1
  rw [h1]
  have h2 : (acells a ++ List.drop 16 [Value.int .u8 0, Value.int .u8 0, Value.int .u8 0, Value.int .u8 0, Value.int .u8 0, Value.int .u8 0, Value.int .u8 0, Value.int .u8 0, Value.int .u8 0, Value.int .u8 0, Value.int .u8 0, Value.int .u8 0, Value.int .u8 0, Value.int .u8 0, Value.int .u8 0, Value.int .u8 0, Value.int .i64 0]).toArray.setIfInBounds 16 (.int .i64 n) = ((acells a ++ [Value.int .i64 0]).set 16 (.int .i64 n)).toArray := by
    simp only [List.drop_succ_cons, List.drop_zero, List.setIfInBounds_toArray]
  rw [h2, List.set_append_right _ _ (by rw [acells_len]; omega), acells_len]
  rfl
theorem foldSize (a : Ad) : (List.foldl (fun (cs : Array Value) (x : Value × Nat) => cs.setIfInBounds x.2 x.1) #[Value.int .u8 0, Value.int .u8 0, Value.int .u8 0, Value.int .u8 0, Value.int .u8 0, Value.int .u8 0, Value.int .u8 0, Value.int .u8 0, Value.int .u8 0, Value.int .u8 0, Value.int .u8 0, Value.int .u8 0, Value.int .u8 0, Value.int .u8 0, Value.int .u8 0, Value.int .u8 0, Value.int .i64 0] (acells a).zipIdx).size = 17 := by
  have h1 := foldSet (acells a) [Value.int .u8 0, Value.int .u8 0, Value.int .u8 0, Value.int .u8 0, Value.int .u8 0, Value.int .u8 0, Value.int .u8 0, Value.int .u8 0, Value.int .u8 0, Value.int .u8 0, Value.int .u8 0, Value.int .u8 0, Value.int .u8 0, Value.int .u8 0, Value.int .u8 0, Value.int .u8 0, Value.int .i64 0] 0 (by rw [acells_len]; simp)
  rw [h1]
  simp [acells_len]
theorem mskA_cells (a : Ad) (i k : Nat) (hk : k < 8) (b : UInt8) (hb : a.l[i]? = some b) : acells (mskA a i k) = (acells a).set i (.int .u8 (bits BinOp.andNot IntKind.u8 (b.toNat : Int) (255 / 2 ^ k))) := by
  unfold acells bcells mskA
  simp only
  rw [List.map_set, keepB_bits b k hk]
  have e : a.l.getD i 0 = b := by simp [List.getD, hb]
  rw [e]

theorem prefix_ae {w : World} {P g : Nat} {l : List UInt8} {r : RS} (ae plen om : Nat) (h1 : ae ≠ 1) (h2 : ae ≠ 2) (hp : Pg w P g) (h : RdS w g bv l r) :
    Calls Try.prog 85 #[.pointer (some ⟨P, 0, none⟩), .int .u8 (ae : Int), .int .i64 (plen : Int), .int .i64 (om : Int)] w fun e w' => e = .returned (Value.agg (pcells zeroP).toArray) ∧ NowS w w' g bv l r.bad := by
  have d1 : ((ae : Int) != 1) = true := by simp; omega
  have d2 : ((ae : Int) != 2) = true := by simp; omega
  have HB : Hid (∀ W, Pg W P g → RdS W g bv l r → Calls Try.prog 83 #[.pointer (some ⟨P, 0, none⟩)] W fun e w' => e = .returned (.tuple #[]) ∧ NowS W w' g bv l r.bad) := fun W h1 h2 => bad_any h1 h2
  have hlt := h.lt
  clear h1 h2
  go_enter Try.func85, Try.ntmps85
  go_wp2_with (first
    | (have kk := hn1; refine stP0 (.tmp 8) (.tmp 23) (by rfl) rfl gA zeroP _ (pcells_len _) rfl rfl (rA.nowS hn1 (by omega)) ?_; intro w3 hg3 r3)
    | (refine bdG [] (by rfl) rfl (bdP0 _) ?_)
    | (go_at_call 83; refine (HB.out _ (hp.below a3) (h.below a3)).mono ?_; rintro e w1 ⟨rfl, hn1⟩)
    | (refine alG infoPz (by rfl) rfl ?_; intro gA wA a1 a2 a3 rA))
  exact bodyPost_ret (retC rfl _ _ 0 rfl (lvP r3.range)) rfl ⟨rfl, (hn1.after a3).fresh h hg3 a1⟩

/-- One that may not be. -/
theorem prefix_bad1 {w : World} {P g : Nat} {l : List UInt8} {r : RS} {s : St} (plen om : Nat) (hpl : plen < 256) (hom : om < 256) (hX : pfX s 1 plen om = true) (hpar : Par w P (some g) s) (h : RdS w g bv l r) :
    Calls Try.prog 85 #[.pointer (some ⟨P, 0, none⟩), .int .u8 1, .int .i64 (plen : Int), .int .i64 (om : Int)] w fun e w' => e = .returned (Value.agg (pcells zeroP).toArray) ∧ NowS w w' g bv l r.bad := by
  have hp := hpar.pg h
  have hPlt := hpar.lt
  have hlt := h.lt
  obtain ⟨_, _, _, ⟨v1, c1, p1⟩, ⟨v2, c2, p2⟩⟩ := hpar.at
  have hf := frame_any 1 (by decide)
  rw [show frA 1 = mapA from rfl, show ((frN 1 : Nat) : Int) = 12 from rfl, show frB 1 = true from rfl] at hf
  have HB : Hid (∀ W, Pg W P g → RdS W g bv l r → Calls Try.prog 83 #[.pointer (some ⟨P, 0, none⟩)] W fun e w' => e = .returned (.tuple #[]) ∧ NowS W w' g bv l r.bad) := fun W h1 h2 => bad_any h1 h2
  obtain ⟨n, hn⟩ : ∃ n, n = pfN plen := ⟨_, rfl⟩
  have hnn : ((plen : Int) + 7) / 8 = (n : Int) := by subst hn; unfold pfN; omega
  have hnt : Int.tdiv ((plen : Int) + 7) 8 = (n : Int) := by rw [Int.tdiv_eq_ediv_of_nonneg (by omega)]; exact hnn
  have hpd : PtA w v1 s.d1 := p1
  have cdv := c1
  have hX2 : 8 * (16 - 12) < plen ∨ n < om ∨ (0 < om ∧ s.d1 = none) := by
    subst hn
    unfold pfX pfD at hX
    simpa [show frN 1 = 12 from rfl] using hX
  clear hn hX c1 c2 p1 p2
  have main : (32 * 8 < plen ∨ ¬ 32 * 8 < plen) := by omega
  clear main
  by_cases q1 : 8 * (16 - 12) < plen
  · have q1' : (32 : Int) < (plen : Int) := by omega
    rcases hpd with ⟨rfl, _⟩ | ⟨b, D, rfl, _, _⟩
    all_goals
      clear q1 hX2
      go_enter Try.func85, Try.ntmps85
      go_wp2_with (first
          | (have kk := hn2; refine stP0 (.tmp 8) (.tmp 60) (by rfl) rfl gA zeroP _ (pcells_len _) rfl rfl (rA2.nowS hn2 (by omega)) ?_; intro w3 hg3 r3)
          | (refine bdG [] (by rfl) rfl (bdP0 _) ?_)
          | (go_at_call 83; have kk := bC; refine (HB.out _ (hp.below bC) (h.below bC)).mono ?_; rintro e w2 ⟨rfl, hn2⟩)
          | (have kk := b3; refine stA0 (.tmp 9) (.tmp 27) (by rfl) rfl gB mapA _ (acells_len _) rfl rfl rB ?_; intro wC hgC rC; have rA2 := (rA1.below b3 (Nat.lt_of_lt_of_le a2 hB1.size)).grown hgC (by intro e; have := hB1.size; cases e; omega); have bC := (bt a4 b3).grown hgC (bt a4 b3).size (fun k hk => by cases hk; exact Nat.le_trans a4.size b1); have cd := (bC.cell (p := ⟨P, 9, none⟩) hPlt).trans cdv)
          | (have kk := hB1; refine alG infoAz (by rfl) rfl ?_; intro gB wB b1 b2 b3 rB)
          | (go_at_call 102; refine (hf _).mono ?_; rintro e w1 ⟨rfl, hB1⟩; have rA1 := rA.below hB1 a2; have a4 := bt a3 hB1)
          | (refine alG infoPz (by rfl) rfl ?_; intro gA wA a1 a2 a3 rA))
      exact bodyPost_ret (retC rfl _ _ 0 rfl (lvP r3.range)) rfl ⟨rfl, (hn2.after bC).fresh h hg3 a1⟩
  · have q1' : ¬ (32 : Int) < (plen : Int) := by omega
    by_cases q2 : n < om
    · have q2' : (n : Int) < (om : Int) := by omega
      rcases hpd with ⟨rfl, _⟩ | ⟨b, D, rfl, _, _⟩
      all_goals
        clear q1 q2 hX2
        go_enter Try.func85, Try.ntmps85
        go_wp2_with (first
            | (have kk := hn2; refine stP0 (.tmp 8) (.tmp 60) (by rfl) rfl gA zeroP _ (pcells_len _) rfl rfl (rA2.nowS hn2 (by omega)) ?_; intro w3 hg3 r3)
            | (refine bdG [] (by rfl) rfl (bdP0 _) ?_)
            | (go_at_call 83; have kk := bC; refine (HB.out _ (hp.below bC) (h.below bC)).mono ?_; rintro e w2 ⟨rfl, hn2⟩)
            | (have kk := b3; refine stA0 (.tmp 9) (.tmp 27) (by rfl) rfl gB mapA _ (acells_len _) rfl rfl rB ?_; intro wC hgC rC; have rA2 := (rA1.below b3 (Nat.lt_of_lt_of_le a2 hB1.size)).grown hgC (by intro e; have := hB1.size; cases e; omega); have bC := (bt a4 b3).grown hgC (bt a4 b3).size (fun k hk => by cases hk; exact Nat.le_trans a4.size b1); have cd := (bC.cell (p := ⟨P, 9, none⟩) hPlt).trans cdv)
            | (have kk := hB1; refine alG infoAz (by rfl) rfl ?_; intro gB wB b1 b2 b3 rB)
            | (go_at_call 102; refine (hf _).mono ?_; rintro e w1 ⟨rfl, hB1⟩; have rA1 := rA.below hB1 a2; have a4 := bt a3 hB1)
            | (refine alG infoPz (by rfl) rfl ?_; intro gA wA a1 a2 a3 rA))
        exact bodyPost_ret (retC rfl _ _ 0 rfl (lvP r3.range)) rfl ⟨rfl, (hn2.after bC).fresh h hg3 a1⟩
    · have q2' : ¬ (n : Int) < (om : Int) := by omega
      obtain ⟨q3, q4⟩ : 0 < om ∧ s.d1 = none := by rcases hX2 with h | h | h; exact absurd h q1; exact absurd h q2; exact h
      have q3' : (0 : Int) < (om : Int) := by omega
      rcases hpd with ⟨rfl, _⟩ | ⟨b, D, rfl, e, _⟩
      · clear q1 q2 hX2 q3 q4
        go_enter Try.func85, Try.ntmps85
        go_wp2_with (first
            | (have kk := hn2; refine stP0 (.tmp 8) (.tmp 60) (by rfl) rfl gA zeroP _ (pcells_len _) rfl rfl (rA2.nowS hn2 (by omega)) ?_; intro w3 hg3 r3)
            | (refine bdG [] (by rfl) rfl (bdP0 _) ?_)
            | (go_at_call 83; have kk := bC; refine (HB.out _ (hp.below bC) (h.below bC)).mono ?_; rintro e w2 ⟨rfl, hn2⟩)
            | (have kk := b3; refine stA0 (.tmp 9) (.tmp 27) (by rfl) rfl gB mapA _ (acells_len _) rfl rfl rB ?_; intro wC hgC rC; have rA2 := (rA1.below b3 (Nat.lt_of_lt_of_le a2 hB1.size)).grown hgC (by intro e; have := hB1.size; cases e; omega); have bC := (bt a4 b3).grown hgC (bt a4 b3).size (fun k hk => by cases hk; exact Nat.le_trans a4.size b1); have cd := (bC.cell (p := ⟨P, 9, none⟩) hPlt).trans cdv)
            | (have kk := hB1; refine alG infoAz (by rfl) rfl ?_; intro gB wB b1 b2 b3 rB)
            | (go_at_call 102; refine (hf _).mono ?_; rintro e w1 ⟨rfl, hB1⟩; have rA1 := rA.below hB1 a2; have a4 := bt a3 hB1)
            | (refine alG infoPz (by rfl) rfl ?_; intro gA wA a1 a2 a3 rA))
        exact bodyPost_ret (retC rfl _ _ 0 rfl (lvP r3.range)) rfl ⟨rfl, (hn2.after bC).fresh h hg3 a1⟩
      · rw [e] at q4; cases q4
/-- One that may not be. -/
theorem prefix_bad2 {w : World} {P g : Nat} {l : List UInt8} {r : RS} {s : St} (plen om : Nat) (hpl : plen < 256) (hom : om < 256) (hX : pfX s 2 plen om = true) (hpar : Par w P (some g) s) (h : RdS w g bv l r) :
    Calls Try.prog 85 #[.pointer (some ⟨P, 0, none⟩), .int .u8 2, .int .i64 (plen : Int), .int .i64 (om : Int)] w fun e w' => e = .returned (Value.agg (pcells zeroP).toArray) ∧ NowS w w' g bv l r.bad := by
  have hp := hpar.pg h
  have hPlt := hpar.lt
  have hlt := h.lt
  obtain ⟨_, _, _, ⟨v1, c1, p1⟩, ⟨v2, c2, p2⟩⟩ := hpar.at
  have hf := frame_any 2 (by decide)
  rw [show frA 2 = zeroA from rfl, show ((frN 2 : Nat) : Int) = 0 from rfl, show frB 2 = true from rfl] at hf
  have HB : Hid (∀ W, Pg W P g → RdS W g bv l r → Calls Try.prog 83 #[.pointer (some ⟨P, 0, none⟩)] W fun e w' => e = .returned (.tuple #[]) ∧ NowS W w' g bv l r.bad) := fun W h1 h2 => bad_any h1 h2
  obtain ⟨n, hn⟩ : ∃ n, n = pfN plen := ⟨_, rfl⟩
  have hnn : ((plen : Int) + 7) / 8 = (n : Int) := by subst hn; unfold pfN; omega
  have hnt : Int.tdiv ((plen : Int) + 7) 8 = (n : Int) := by rw [Int.tdiv_eq_ediv_of_nonneg (by omega)]; exact hnn
  have hpd : PtA w v2 s.d2 := p2
  have cdv := c2
  have hX2 : 8 * (16 - 0) < plen ∨ n < om ∨ (0 < om ∧ s.d2 = none) := by
    subst hn
    unfold pfX pfD at hX
    simpa [show frN 2 = 0 from rfl] using hX
  clear hn hX c1 c2 p1 p2
  have main : (32 * 8 < plen ∨ ¬ 32 * 8 < plen) := by omega
  clear main
  by_cases q1 : 8 * (16 - 0) < plen
  · have q1' : (128 : Int) < (plen : Int) := by omega
    rcases hpd with ⟨rfl, _⟩ | ⟨b, D, rfl, _, _⟩
    all_goals
      clear q1 hX2
      go_enter Try.func85, Try.ntmps85
      go_wp2_with (first
          | (have kk := hn2; refine stP0 (.tmp 8) (.tmp 60) (by rfl) rfl gA zeroP _ (pcells_len _) rfl rfl (rA2.nowS hn2 (by omega)) ?_; intro w3 hg3 r3)
          | (refine bdG [] (by rfl) rfl (bdP0 _) ?_)
          | (go_at_call 83; have kk := bC; refine (HB.out _ (hp.below bC) (h.below bC)).mono ?_; rintro e w2 ⟨rfl, hn2⟩)
          | (have kk := b3; refine stA0 (.tmp 9) (.tmp 27) (by rfl) rfl gB zeroA _ (acells_len _) rfl rfl rB ?_; intro wC hgC rC; have rA2 := (rA1.below b3 (Nat.lt_of_lt_of_le a2 hB1.size)).grown hgC (by intro e; have := hB1.size; cases e; omega); have bC := (bt a4 b3).grown hgC (bt a4 b3).size (fun k hk => by cases hk; exact Nat.le_trans a4.size b1); have cd := (bC.cell (p := ⟨P, 10, none⟩) hPlt).trans cdv)
          | (have kk := hB1; refine alG infoAz (by rfl) rfl ?_; intro gB wB b1 b2 b3 rB)
          | (go_at_call 102; refine (hf _).mono ?_; rintro e w1 ⟨rfl, hB1⟩; have rA1 := rA.below hB1 a2; have a4 := bt a3 hB1)
          | (refine alG infoPz (by rfl) rfl ?_; intro gA wA a1 a2 a3 rA))
      exact bodyPost_ret (retC rfl _ _ 0 rfl (lvP r3.range)) rfl ⟨rfl, (hn2.after bC).fresh h hg3 a1⟩
  · have q1' : ¬ (128 : Int) < (plen : Int) := by omega
    by_cases q2 : n < om
    · have q2' : (n : Int) < (om : Int) := by omega
      rcases hpd with ⟨rfl, _⟩ | ⟨b, D, rfl, _, _⟩
      all_goals
        clear q1 q2 hX2
        go_enter Try.func85, Try.ntmps85
        go_wp2_with (first
            | (have kk := hn2; refine stP0 (.tmp 8) (.tmp 60) (by rfl) rfl gA zeroP _ (pcells_len _) rfl rfl (rA2.nowS hn2 (by omega)) ?_; intro w3 hg3 r3)
            | (refine bdG [] (by rfl) rfl (bdP0 _) ?_)
            | (go_at_call 83; have kk := bC; refine (HB.out _ (hp.below bC) (h.below bC)).mono ?_; rintro e w2 ⟨rfl, hn2⟩)
            | (have kk := b3; refine stA0 (.tmp 9) (.tmp 27) (by rfl) rfl gB zeroA _ (acells_len _) rfl rfl rB ?_; intro wC hgC rC; have rA2 := (rA1.below b3 (Nat.lt_of_lt_of_le a2 hB1.size)).grown hgC (by intro e; have := hB1.size; cases e; omega); have bC := (bt a4 b3).grown hgC (bt a4 b3).size (fun k hk => by cases hk; exact Nat.le_trans a4.size b1); have cd := (bC.cell (p := ⟨P, 10, none⟩) hPlt).trans cdv)
            | (have kk := hB1; refine alG infoAz (by rfl) rfl ?_; intro gB wB b1 b2 b3 rB)
            | (go_at_call 102; refine (hf _).mono ?_; rintro e w1 ⟨rfl, hB1⟩; have rA1 := rA.below hB1 a2; have a4 := bt a3 hB1)
            | (refine alG infoPz (by rfl) rfl ?_; intro gA wA a1 a2 a3 rA))
        exact bodyPost_ret (retC rfl _ _ 0 rfl (lvP r3.range)) rfl ⟨rfl, (hn2.after bC).fresh h hg3 a1⟩
    · have q2' : ¬ (n : Int) < (om : Int) := by omega
      obtain ⟨q3, q4⟩ : 0 < om ∧ s.d2 = none := by rcases hX2 with h | h | h; exact absurd h q1; exact absurd h q2; exact h
      have q3' : (0 : Int) < (om : Int) := by omega
      rcases hpd with ⟨rfl, _⟩ | ⟨b, D, rfl, e, _⟩
      · clear q1 q2 hX2 q3 q4
        go_enter Try.func85, Try.ntmps85
        go_wp2_with (first
            | (have kk := hn2; refine stP0 (.tmp 8) (.tmp 60) (by rfl) rfl gA zeroP _ (pcells_len _) rfl rfl (rA2.nowS hn2 (by omega)) ?_; intro w3 hg3 r3)
            | (refine bdG [] (by rfl) rfl (bdP0 _) ?_)
            | (go_at_call 83; have kk := bC; refine (HB.out _ (hp.below bC) (h.below bC)).mono ?_; rintro e w2 ⟨rfl, hn2⟩)
            | (have kk := b3; refine stA0 (.tmp 9) (.tmp 27) (by rfl) rfl gB zeroA _ (acells_len _) rfl rfl rB ?_; intro wC hgC rC; have rA2 := (rA1.below b3 (Nat.lt_of_lt_of_le a2 hB1.size)).grown hgC (by intro e; have := hB1.size; cases e; omega); have bC := (bt a4 b3).grown hgC (bt a4 b3).size (fun k hk => by cases hk; exact Nat.le_trans a4.size b1); have cd := (bC.cell (p := ⟨P, 10, none⟩) hPlt).trans cdv)
            | (have kk := hB1; refine alG infoAz (by rfl) rfl ?_; intro gB wB b1 b2 b3 rB)
            | (go_at_call 102; refine (hf _).mono ?_; rintro e w1 ⟨rfl, hB1⟩; have rA1 := rA.below hB1 a2; have a4 := bt a3 hB1)
            | (refine alG infoPz (by rfl) rfl ?_; intro gA wA a1 a2 a3 rA))
        exact bodyPost_ret (retC rfl _ _ 0 rfl (lvP r3.range)) rfl ⟨rfl, (hn2.after bC).fresh h hg3 a1⟩
      · rw [e] at q4; cases q4
set_option maxHeartbeats 4000000 in
/-- One that may be. -/
theorem prefix_ok1 {w : World} {P g : Nat} {l : List UInt8} {r : RS} {s : St} (plen om : Nat) (hpl : plen < 256) (hom : om < 256) (hX : pfX s 1 plen om = false) (hpar : Par w P (some g) s) (h : RdS w g bv l r) :
    Calls Try.prog 85 #[.pointer (some ⟨P, 0, none⟩), .int .u8 1, .int .i64 (plen : Int), .int .i64 (om : Int)] w fun e w' => e = .returned (Value.agg (pcells (⟨pfA3 s 1 plen om l r, ((8 * 12 + plen : Nat) : Int)⟩)).toArray) ∧ NowS w w' g bv l (r.adv l ((pfN plen - om : Nat) : Int)) := by
  have hp := hpar.pg h
  have hPlt := hpar.lt
  have hlt := h.lt
  obtain ⟨_, _, _, ⟨v1, c1, p1⟩, ⟨v2, c2, p2⟩⟩ := hpar.at
  have hf := frame_any 1 (by decide)
  rw [show frA 1 = mapA from rfl, show ((frN 1 : Nat) : Int) = 12 from rfl, show frB 1 = true from rfl] at hf
  obtain ⟨n, hn⟩ : ∃ n, n = pfN plen := ⟨_, rfl⟩
  obtain ⟨odd, ho⟩ : ∃ n, n = plen % 8 := ⟨_, rfl⟩
  have hnn : ((plen : Int) + 7) / 8 = (n : Int) := by subst hn; unfold pfN; omega
  have hnt : Int.tdiv ((plen : Int) + 7) 8 = (n : Int) := by rw [Int.tdiv_eq_ediv_of_nonneg (by omega)]; exact hnn
  have hot : Int.tmod (plen : Int) 8 = (odd : Int) := by rw [Int.tmod_eq_emod_of_nonneg (by omega)]; omega
  have hpd : PtA w v1 s.d1 := p1
  have cdv := c1
  have hX2 : ¬ 8 * (16 - 12) < plen ∧ ¬ n < om ∧ (0 < om → s.d1.isSome) := by
    subst hn
    unfold pfX pfD at hX
    simp [show frN 1 = 12 from rfl] at hX
    obtain ⟨k1, k2, k3⟩ := hX
    refine ⟨by omega, by omega, fun h0 => ?_⟩
    cases hs : s.d1 with
    | none => have := k3 h0; rw [hs] at this; simp at this
    | some _ => rfl
  obtain ⟨x1, x2, x3⟩ := hX2
  have hn16 : n ≤ 4 := by subst hn; unfold pfN; omega
  have hodd : odd < 8 := by omega
  have hpos : 0 < odd → 0 < n := by subst hn; unfold pfN; omega
  have q1 : ¬ (32 : Int) < (plen : Int) := by omega
  have q2 : ¬ (n : Int) < (om : Int) := by omega
  have E1 : Hid (pfN plen = n ∧ plen % 8 = odd) := ⟨hn.symm, ho.symm⟩
  have EA1 : Hid (pfA1 s 1 om = if 0 < om then spA mapA 12 (((s.d1.getD zeroA).l.drop 12).take om) else mapA) := rfl
  obtain ⟨A2, hA2⟩ : ∃ A, A = pfA2 s 1 plen om l r := ⟨_, rfl⟩
  have EA2 : Hid (A2 = spA (pfA1 s 1 om) (12 + om) (tkB l r.p r.y ((n - om : Nat) : Int))) := by show _ = _; rw [hA2]; unfold pfA2; rw [E1.out.1]; rfl
  obtain ⟨A3, hA3⟩ : ∃ A, A = pfA3 s 1 plen om l r := ⟨_, rfl⟩
  have EA3 : Hid (A3 = if 0 < odd then mskA A2 (12 + n - 1) odd else A2) := by show _ = _; rw [hA3]; unfold pfA3; rw [E1.out.1, E1.out.2, hA2]; rfl
  rw [E1.out.1, ← hA3, show ((8 * 12 + plen : Nat) : Int) = 96 + (plen : Int) by omega]
  have y1 : IntKind.i64.wrap (12 + (om : Int)) = 12 + (om : Int) := by rw [IntKind.wrap_i64]; omega
  have y2 : IntKind.i64.wrap ((n : Int) - (om : Int)) = (n : Int) - (om : Int) := by rw [IntKind.wrap_i64]; omega
  have y3 : (n : Int) - (om : Int) = ((n - om : Nat) : Int) := by omega
  have y9 : IntKind.i64.wrap ((n - om : Nat) : Int) = ((n - om : Nat) : Int) := by rw [IntKind.wrap_i64]; omega
  have y4 : IntKind.i64.wrap (12 + (n : Int)) = 12 + (n : Int) := by rw [IntKind.wrap_i64]; omega
  clear hn ho hX c1 c2 p1 p2 hA2 hA3
  obtain ⟨A1, hA1⟩ : ∃ A, A = pfA1 s 1 om := ⟨_, rfl⟩
  by_cases h0 : 0 < om
  · have h0' : (0 : Int) < (om : Int) := by omega
    rcases hpd with ⟨rfl, e⟩ | ⟨b, D, rfl, e, rD⟩
    · have := x3 h0; rw [e] at this; cases this
    · have EB : Hid (A1 = spA mapA 12 ((D.l.drop 12).take om)) := by show _ = _; rw [hA1, EA1.out, if_pos h0, e]; rfl
      rw [← hA1] at EA2
      clear e x3 hA1 EA1 h0
      go_enter Try.func85, Try.ntmps85
      go_wp2_with (first
        | (have kk := b3; refine stA0 (.tmp 9) (.tmp 27) (by rfl) rfl gB mapA _ (acells_len _) rfl rfl rB ?_; intro wC hgC rC; have rA2 := (rA1.below b3 (Nat.lt_of_lt_of_le a2 hB1.size)).grown hgC (by intro e; have := hB1.size; cases e; omega); have bC := (bt a4 b3).grown hgC (bt a4 b3).size (fun k hk => by cases hk; exact Nat.le_trans a4.size b1); have cd := (bC.cell (p := ⟨P, 9, none⟩) hPlt).trans cdv)
        | (have kk := hB1; refine alG infoAz (by rfl) rfl ?_; intro gB wB b1 b2 b3 rB)
        | (go_at_call 102; refine (hf _).mono ?_; rintro e w1 ⟨rfl, hB1⟩; have rA1 := rA.below hB1 a2; have a4 := bt a3 hB1)
        | (refine alG infoPz (by rfl) rfl ?_; intro gA wA a1 a2 a3 rA))

      have rD1 := rD.below bC rD.lt
      have hBC : gB < wC.heap.size := rC.lt
      have hsz : w.heap.size ≤ gB := Nat.le_trans a4.size b1
      have hne : gA < gB := by have := hB1.size; omega
      have hbB : b < gB := by have := rD.lt; omega
      have hgB : gB ≠ g := by omega
      have hgA : gA ≠ g := by omega
      have hPB : P < gB := by omega
      have N0 : NowS w wC.drew g bv l r := ((h.below bC).now.after bC).below (bd _)
      have hpD : Pg wC.drew P g := (hp.below bC).below (bd _)
      clear a3 b3 rA kk a4 hB1 rA1 rB b2 cd hgC
      refine wp_region_noPanic ?_
      refine wp_region_held_drew (S := fun _ => True) (by kernel_rfl) (trivial) (fun hHeld => ?_)
      refine tA 0 ?_
      refine tA 1 ?_
      refine tA 2 ?_
      refine tA 3 ?_
      refine tL 4 rfl (ySl (.tmp 9) (some (.tmp 63)) (some (.tmp 66)) none (by rfl) rfl (slA2 gB 12 (12 + om) _ _ rfl (by omega) (by omega) (by omega))) ?_
      refine tA 5 ?_
      refine tA 6 ?_
      refine tA 7 ?_
      refine tL 8 rfl (ySl (.tmp 69) (some (.tmp 70)) none none (by rfl) rfl (slA1 b 12 _ rfl (by omega))) ?_
      refine r1 9 fun K hK => ?_
      refine step_copy_splice rfl (.tmp 67) (.tmp 71) 40 40 rfl 5 Try.underlying40 (by kernel_rfl) _ _ _ _ _ _ rfl rfl gB 12 (acells mapA) 26 (rC.below (bd _) hBC) (bcells ((D.l.drop 12).take om)) (by rw [bcells_length, List.length_take, List.length_drop, D.len]; show _ = min _ _; omega) (fun _ => ⟨by rw [adrIf_ne (by omega)], _, rfl, fun j v hv => ?_⟩) (by rw [bcells_length, acells_len, List.length_take, List.length_drop, D.len]; omega) (bcells_one _) gB _ (Below.refl _ _) (Nat.le_refl _) ?_
      · (rw [adrIf_ne (by omega), Addr.add_mid, (rD1.below (bd _) (by omega)).cell]; rw [← bcells_part] at hv; have := take_get hv; rwa [List.getElem?_drop] at this)
      intro w2 HG2 hB2
      refine oK hK (by trivial) fun hHeld => ?_
      clear hK K
      refine dN ?_
      refine NoPanic.normal ?_
      have rB2 : Row w2 gB 26 (acells A1) := by rw [EB.out, acells_spA _ _ _ (by rw [List.length_take, List.length_drop, D.len]; omega)]; exact HG2.out
      have rA3 : Row w2 gA 28 (pcells zeroP) := (rA2.below (bd _) (by omega)).below hB2 hne
      have N1 : NowS w w2 g bv l r := NowS.low h N0 hB2 hsz
      have hpW : Pg w2 P g := ⟨(hB2.cell (p := ⟨P, 11, none⟩) hPB).trans hpD.c, hpD.ne⟩
      clear HG2 hB2 rA2 N0 hpD bC rD rD1 rC EB hHeld hBC
      go_wp2
      have hrW := N1.rd
      refine wp_region_noPanic ?_
      refine wp_region_held_drew (S := fun W => W.cell? ⟨P, 11, none⟩ = some (.pointer (some ⟨g, 0, none⟩))) (by kernel_rfl) ((hpW.below (bd _)).c) (fun hHeld => ?_)
      refine tA 0 ?_
      refine tA 1 ?_
      refine tA 2 ?_
      refine tL 3 rfl (ySl (.tmp 9) (some (.tmp 75)) none none (by rfl) rfl (slA1 gB (12 + om) _ (by omega) (by omega))) ?_
      refine tA 4 ?_
      refine tA 5 ?_
      refine tA 6 ?_
      refine tA 7 ?_
      refine tA 8 ?_
      refine tA 9 ?_
      refine tA 10 ?_
      refine r1 11 fun K hK => ?_
      go_simp
      refine (bytes_r (n - om) (hrW.below (bd _))).mono ?_
      rintro e w4 ⟨m4, a4, c4, hm4, hle4, rfl, s4, hn4⟩
      have rB4 := (rB2.below (bd _) rB2.lt).nowS hn4 hgB
      have rA4 := (rA3.below (bd _) rA3.lt).nowS hn4 hgA
      refine oK hK (by exact ((hpW.below (bd _)).now hn4).c) fun hHeld => ?_
      clear hK K
      refine r1 12 fun K hK => ?_
      refine step_copy_splice rfl (.tmp 76) (.tmp 84) 40 40 rfl 5 Try.underlying40 (by kernel_rfl) _ _ _ _ _ _ rfl rfl gB (12 + om) (acells A1) 26 rB4 (bcells (tkB l r.p r.y ((n - om : Nat) : Int))) (by rw [bcells_length]; refine hm4.out.symm.trans (Nat.min_eq_left ?_).symm; omega) (fun h5 => ⟨by rw [adrIf_ne (by rw [bcells_length, ← hm4.out] at h5; omega)], s4.pos h5⟩) (by rw [bcells_length, acells_len]; have := tkB_le l r.p r.y (n - om); omega) (bcells_one _) gB w4 (Below.refl _ _) (Nat.le_refl _) ?_
      intro w5 HG5 hB5
      refine oK hK (by exact (hB5.cell (p := ⟨P, 11, none⟩) hPB).trans ‹_›) fun hHeld => ?_
      clear hK K
      refine dN ?_
      refine NoPanic.normal ?_
      have rB5 : Row w5 gB 26 (acells A2) := by rw [EA2.out, acells_spA _ _ _ (by have := tkB_le l r.p r.y (n - om); omega)]; exact HG5.out
      have rA5 : Row w5 gA 28 (pcells zeroP) := rA4.below hB5 hne
      have N5 : NowS w w5 g bv l (r.adv l ((n - om : Nat) : Int)) := NowS.low h (N1.trans (hn4.after (bd _))) hB5 hsz
      clear HG5 hB5 rA4 rB4 hn4 s4 hHeld rB2 rA3 N1 hpW hrW EA2
      by_cases hodd0 : 0 < odd
      · have h6 : (0 : Int) < (odd : Int) := by omega
        have hn0 := hpos hodd0
        obtain ⟨i, hi⟩ : ∃ i, i = 12 + n - 1 := ⟨_, rfl⟩
        obtain ⟨b6, hb6⟩ : ∃ b, A2.l[i]? = some b := ⟨_, List.getElem?_eq_getElem (by rw [A2.len]; omega)⟩
        have c6 : w5.cell? ⟨gB, i, none⟩ = some (.int .u8 b6.toNat) := by rw [rB5.cell]; exact bcells_get hb6
        have f6 := rB5.frozen i
        have y5 : (12 + (n : Int) - 1) = (i : Int) := by omega
        have y6 : IntKind.i64.wrap (12 + (n : Int) - 1) = (i : Int) := by rw [IntKind.wrap_i64]; omega
        have y7 : (i : Int) < 16 := by omega
        have y8 : (0 : Int) ≤ (i : Int) := by omega
        have EA6 : Hid (acells A3 = (acells A2).set i (.int .u8 (bits BinOp.andNot IntKind.u8 (b6.toNat : Int) (255 / 2 ^ odd)))) := by show _ = _; rw [EA3.out, if_pos hodd0, ← hi]; exact mskA_cells A2 i odd hodd b6 hb6
        clear EA3 hi hpos hb6
        go_wp2
        go_region
        refine name_world (R := fun W => Exit.then _ _ _ _ W) (P := fun W3 => Row W3 gB 26 (acells A3) ∧ Row W3 gA 28 (pcells zeroP) ∧ NowS w W3 g bv l (r.adv l ((n - om : Nat) : Int))) _ ⟨by rw [EA6.out]; exact (rB5.set i _).drew, ((rA5.grown (grownBy_setCell w5 gB i _) (fun e => by have := Option.some.inj e; omega)).drew), (N5.fresh h (grownBy_setCell w5 gB i _) hsz).below (bd _)⟩ ?_
        rintro W3 ⟨rB7, rA7, N7⟩
        clear rB5 rA5 N5 c6 f6 EA6
        have hal := acells_len A3
        have hfs := foldSize A3
        go_wp2_with (first
          | (refine stP0 (.tmp 8) (.tmp 105) (by rfl) rfl gA ⟨A3, 96 + (plen : Int)⟩ _ (pcells_len _) rfl (buildP A3 (96 + (plen : Int))) rA7 ?_; intro w8 hg8 r8)
          | (refine ldA (.tmp 9) (by rfl) rfl gB 0 A3 rfl rB7.range ?_))
        exact bodyPost_ret (retC rfl _ _ 0 rfl (lvP r8.range)) rfl ⟨rfl, N7.fresh h hg8 a1⟩
      · have h6 : ¬ (0 : Int) < (odd : Int) := by omega
        obtain rfl : A3 = A2 := by rw [EA3.out, if_neg hodd0]
        clear EA3
        have hal := acells_len A3
        have hfs := foldSize A3
        go_wp2_with (first
          | (refine stP0 (.tmp 8) (.tmp 105) (by rfl) rfl gA ⟨A3, 96 + (plen : Int)⟩ _ (pcells_len _) rfl (buildP A3 (96 + (plen : Int))) rA5 ?_; intro w8 hg8 r8)
          | (refine ldA (.tmp 9) (by rfl) rfl gB 0 A3 rfl rB5.range ?_))
        exact bodyPost_ret (retC rfl _ _ 0 rfl (lvP r8.range)) rfl ⟨rfl, N5.fresh h hg8 a1⟩
  · have h0' : ¬ (0 : Int) < (om : Int) := by omega
    have EB : Hid (A1 = mapA) := by show _ = _; rw [hA1, EA1.out, if_neg h0]
    rw [← hA1] at EA2
    have hcd : ∃ q, v1 = .pointer q := by rcases hpd with ⟨rfl, _⟩ | ⟨b, D, rfl, _, _⟩ <;> exact ⟨_, rfl⟩
    obtain ⟨q, rfl⟩ := hcd
    clear x3 hA1 EA1 h0 hpd
    go_enter Try.func85, Try.ntmps85
    go_wp2_with (first
      | (have kk := b3; refine stA0 (.tmp 9) (.tmp 27) (by rfl) rfl gB mapA _ (acells_len _) rfl rfl rB ?_; intro wC hgC rC; have rA2 := (rA1.below b3 (Nat.lt_of_lt_of_le a2 hB1.size)).grown hgC (by intro e; have := hB1.size; cases e; omega); have bC := (bt a4 b3).grown hgC (bt a4 b3).size (fun k hk => by cases hk; exact Nat.le_trans a4.size b1); have cd := (bC.cell (p := ⟨P, 9, none⟩) hPlt).trans cdv)
      | (have kk := hB1; refine alG infoAz (by rfl) rfl ?_; intro gB wB b1 b2 b3 rB)
      | (go_at_call 102; refine (hf _).mono ?_; rintro e w1 ⟨rfl, hB1⟩; have rA1 := rA.below hB1 a2; have a4 := bt a3 hB1)
      | (refine alG infoPz (by rfl) rfl ?_; intro gA wA a1 a2 a3 rA))
    have hBC : gB < wC.heap.size := rC.lt
    have hsz : w.heap.size ≤ gB := Nat.le_trans a4.size b1
    have hne : gA < gB := by have := hB1.size; omega
    have hgB : gB ≠ g := by omega
    have hgA : gA ≠ g := by omega
    have hPB : P < gB := by omega
    have N1 : NowS w wC g bv l r := (h.below bC).now.after bC
    have hpW : Pg wC P g := hp.below bC
    have rB2 : Row wC gB 26 (acells A1) := by rw [EB.out]; exact rC
    have rA3 := rA2
    clear a3 b3 rA kk a4 hB1 rA1 rB b2 cd hgC rC rA2 bC hBC
    have hrW := N1.rd
    refine wp_region_noPanic ?_
    refine wp_region_held_drew (S := fun W => W.cell? ⟨P, 11, none⟩ = some (.pointer (some ⟨g, 0, none⟩))) (by kernel_rfl) ((hpW.below (bd _)).c) (fun hHeld => ?_)
    refine tA 0 ?_
    refine tA 1 ?_
    refine tA 2 ?_
    refine tL 3 rfl (ySl (.tmp 9) (some (.tmp 75)) none none (by rfl) rfl (slA1 gB (12 + om) _ (by omega) (by omega))) ?_
    refine tA 4 ?_
    refine tA 5 ?_
    refine tA 6 ?_
    refine tA 7 ?_
    refine tA 8 ?_
    refine tA 9 ?_
    refine tA 10 ?_
    refine r1 11 fun K hK => ?_
    go_simp
    refine (bytes_r (n - om) (hrW.below (bd _))).mono ?_
    rintro e w4 ⟨m4, a4, c4, hm4, hle4, rfl, s4, hn4⟩
    have rB4 := (rB2.below (bd _) rB2.lt).nowS hn4 hgB
    have rA4 := (rA3.below (bd _) rA3.lt).nowS hn4 hgA
    refine oK hK (by exact ((hpW.below (bd _)).now hn4).c) fun hHeld => ?_
    clear hK K
    refine r1 12 fun K hK => ?_
    refine step_copy_splice rfl (.tmp 76) (.tmp 84) 40 40 rfl 5 Try.underlying40 (by kernel_rfl) _ _ _ _ _ _ rfl rfl gB (12 + om) (acells A1) 26 rB4 (bcells (tkB l r.p r.y ((n - om : Nat) : Int))) (by rw [bcells_length]; refine hm4.out.symm.trans (Nat.min_eq_left ?_).symm; omega) (fun h5 => ⟨by rw [adrIf_ne (by rw [bcells_length, ← hm4.out] at h5; omega)], s4.pos h5⟩) (by rw [bcells_length, acells_len]; have := tkB_le l r.p r.y (n - om); omega) (bcells_one _) gB w4 (Below.refl _ _) (Nat.le_refl _) ?_
    intro w5 HG5 hB5
    refine oK hK (by exact (hB5.cell (p := ⟨P, 11, none⟩) hPB).trans ‹_›) fun hHeld => ?_
    clear hK K
    refine dN ?_
    refine NoPanic.normal ?_
    have rB5 : Row w5 gB 26 (acells A2) := by rw [EA2.out, acells_spA _ _ _ (by have := tkB_le l r.p r.y (n - om); omega)]; exact HG5.out
    have rA5 : Row w5 gA 28 (pcells zeroP) := rA4.below hB5 hne
    have N5 : NowS w w5 g bv l (r.adv l ((n - om : Nat) : Int)) := NowS.low h (N1.trans (hn4.after (bd _))) hB5 hsz
    clear HG5 hB5 rA4 rB4 hn4 s4 hHeld rB2 rA3 N1 hpW hrW EA2
    by_cases hodd0 : 0 < odd
    · have h6 : (0 : Int) < (odd : Int) := by omega
      have hn0 := hpos hodd0
      obtain ⟨i, hi⟩ : ∃ i, i = 12 + n - 1 := ⟨_, rfl⟩
      obtain ⟨b6, hb6⟩ : ∃ b, A2.l[i]? = some b := ⟨_, List.getElem?_eq_getElem (by rw [A2.len]; omega)⟩
      have c6 : w5.cell? ⟨gB, i, none⟩ = some (.int .u8 b6.toNat) := by rw [rB5.cell]; exact bcells_get hb6
      have f6 := rB5.frozen i
      have y5 : (12 + (n : Int) - 1) = (i : Int) := by omega
      have y6 : IntKind.i64.wrap (12 + (n : Int) - 1) = (i : Int) := by rw [IntKind.wrap_i64]; omega
      have y7 : (i : Int) < 16 := by omega
      have y8 : (0 : Int) ≤ (i : Int) := by omega
      have EA6 : Hid (acells A3 = (acells A2).set i (.int .u8 (bits BinOp.andNot IntKind.u8 (b6.toNat : Int) (255 / 2 ^ odd)))) := by show _ = _; rw [EA3.out, if_pos hodd0, ← hi]; exact mskA_cells A2 i odd hodd b6 hb6
      clear EA3 hi hpos hb6
      go_wp2
      go_region
      refine name_world (R := fun W => Exit.then _ _ _ _ W) (P := fun W3 => Row W3 gB 26 (acells A3) ∧ Row W3 gA 28 (pcells zeroP) ∧ NowS w W3 g bv l (r.adv l ((n - om : Nat) : Int))) _ ⟨by rw [EA6.out]; exact (rB5.set i _).drew, ((rA5.grown (grownBy_setCell w5 gB i _) (fun e => by have := Option.some.inj e; omega)).drew), (N5.fresh h (grownBy_setCell w5 gB i _) hsz).below (bd _)⟩ ?_
      rintro W3 ⟨rB7, rA7, N7⟩
      clear rB5 rA5 N5 c6 f6 EA6
      have hal := acells_len A3
      have hfs := foldSize A3
      go_wp2_with (first
        | (refine stP0 (.tmp 8) (.tmp 105) (by rfl) rfl gA ⟨A3, 96 + (plen : Int)⟩ _ (pcells_len _) rfl (buildP A3 (96 + (plen : Int))) rA7 ?_; intro w8 hg8 r8)
        | (refine ldA (.tmp 9) (by rfl) rfl gB 0 A3 rfl rB7.range ?_))
      exact bodyPost_ret (retC rfl _ _ 0 rfl (lvP r8.range)) rfl ⟨rfl, N7.fresh h hg8 a1⟩
    · have h6 : ¬ (0 : Int) < (odd : Int) := by omega
      obtain rfl : A3 = A2 := by rw [EA3.out, if_neg hodd0]
      clear EA3
      have hal := acells_len A3
      have hfs := foldSize A3
      go_wp2_with (first
        | (refine stP0 (.tmp 8) (.tmp 105) (by rfl) rfl gA ⟨A3, 96 + (plen : Int)⟩ _ (pcells_len _) rfl (buildP A3 (96 + (plen : Int))) rA5 ?_; intro w8 hg8 r8)
        | (refine ldA (.tmp 9) (by rfl) rfl gB 0 A3 rfl rB5.range ?_))
      exact bodyPost_ret (retC rfl _ _ 0 rfl (lvP r8.range)) rfl ⟨rfl, N5.fresh h hg8 a1⟩
set_option maxHeartbeats 4000000 in
/-- One that may be. -/
theorem prefix_ok2 {w : World} {P g : Nat} {l : List UInt8} {r : RS} {s : St} (plen om : Nat) (hpl : plen < 256) (hom : om < 256) (hX : pfX s 2 plen om = false) (hpar : Par w P (some g) s) (h : RdS w g bv l r) :
    Calls Try.prog 85 #[.pointer (some ⟨P, 0, none⟩), .int .u8 2, .int .i64 (plen : Int), .int .i64 (om : Int)] w fun e w' => e = .returned (Value.agg (pcells (⟨pfA3 s 2 plen om l r, ((8 * 0 + plen : Nat) : Int)⟩)).toArray) ∧ NowS w w' g bv l (r.adv l ((pfN plen - om : Nat) : Int)) := by
  have hp := hpar.pg h
  have hPlt := hpar.lt
  have hlt := h.lt
  obtain ⟨_, _, _, ⟨v1, c1, p1⟩, ⟨v2, c2, p2⟩⟩ := hpar.at
  have hf := frame_any 2 (by decide)
  rw [show frA 2 = zeroA from rfl, show ((frN 2 : Nat) : Int) = 0 from rfl, show frB 2 = true from rfl] at hf
  obtain ⟨n, hn⟩ : ∃ n, n = pfN plen := ⟨_, rfl⟩
  obtain ⟨odd, ho⟩ : ∃ n, n = plen % 8 := ⟨_, rfl⟩
  have hnn : ((plen : Int) + 7) / 8 = (n : Int) := by subst hn; unfold pfN; omega
  have hnt : Int.tdiv ((plen : Int) + 7) 8 = (n : Int) := by rw [Int.tdiv_eq_ediv_of_nonneg (by omega)]; exact hnn
  have hot : Int.tmod (plen : Int) 8 = (odd : Int) := by rw [Int.tmod_eq_emod_of_nonneg (by omega)]; omega
  have hpd : PtA w v2 s.d2 := p2
  have cdv := c2
  have hX2 : ¬ 8 * (16 - 0) < plen ∧ ¬ n < om ∧ (0 < om → s.d2.isSome) := by
    subst hn
    unfold pfX pfD at hX
    simp [show frN 2 = 0 from rfl] at hX
    obtain ⟨k1, k2, k3⟩ := hX
    refine ⟨by omega, by omega, fun h0 => ?_⟩
    cases hs : s.d2 with
    | none => have := k3 h0; rw [hs] at this; simp at this
    | some _ => rfl
  obtain ⟨x1, x2, x3⟩ := hX2
  have hn16 : n ≤ 16 := by subst hn; unfold pfN; omega
  have hodd : odd < 8 := by omega
  have hpos : 0 < odd → 0 < n := by subst hn; unfold pfN; omega
  have q1 : ¬ (128 : Int) < (plen : Int) := by omega
  have q2 : ¬ (n : Int) < (om : Int) := by omega
  have E1 : Hid (pfN plen = n ∧ plen % 8 = odd) := ⟨hn.symm, ho.symm⟩
  have EA1 : Hid (pfA1 s 2 om = if 0 < om then spA zeroA 0 (((s.d2.getD zeroA).l.drop 0).take om) else zeroA) := rfl
  obtain ⟨A2, hA2⟩ : ∃ A, A = pfA2 s 2 plen om l r := ⟨_, rfl⟩
  have EA2 : Hid (A2 = spA (pfA1 s 2 om) (0 + om) (tkB l r.p r.y ((n - om : Nat) : Int))) := by show _ = _; rw [hA2]; unfold pfA2; rw [E1.out.1]; rfl
  obtain ⟨A3, hA3⟩ : ∃ A, A = pfA3 s 2 plen om l r := ⟨_, rfl⟩
  have EA3 : Hid (A3 = if 0 < odd then mskA A2 (0 + n - 1) odd else A2) := by show _ = _; rw [hA3]; unfold pfA3; rw [E1.out.1, E1.out.2, hA2]; rfl
  rw [E1.out.1, ← hA3, show ((8 * 0 + plen : Nat) : Int) = (plen : Int) by omega]
  have y1 : IntKind.i64.wrap (om : Int) = (om : Int) := by rw [IntKind.wrap_i64]; omega
  have y2 : IntKind.i64.wrap ((n : Int) - (om : Int)) = (n : Int) - (om : Int) := by rw [IntKind.wrap_i64]; omega
  have y3 : (n : Int) - (om : Int) = ((n - om : Nat) : Int) := by omega
  have y9 : IntKind.i64.wrap ((n - om : Nat) : Int) = ((n - om : Nat) : Int) := by rw [IntKind.wrap_i64]; omega
  have y4 : IntKind.i64.wrap (n : Int) = (n : Int) := by rw [IntKind.wrap_i64]; omega
  clear hn ho hX c1 c2 p1 p2 hA2 hA3
  obtain ⟨A1, hA1⟩ : ∃ A, A = pfA1 s 2 om := ⟨_, rfl⟩
  by_cases h0 : 0 < om
  · have h0' : (0 : Int) < (om : Int) := by omega
    rcases hpd with ⟨rfl, e⟩ | ⟨b, D, rfl, e, rD⟩
    · have := x3 h0; rw [e] at this; cases this
    · have EB : Hid (A1 = spA zeroA 0 ((D.l.drop 0).take om)) := by show _ = _; rw [hA1, EA1.out, if_pos h0, e]; rfl
      rw [← hA1] at EA2
      clear e x3 hA1 EA1 h0
      go_enter Try.func85, Try.ntmps85
      go_wp2_with (first
        | (have kk := b3; refine stA0 (.tmp 9) (.tmp 27) (by rfl) rfl gB zeroA _ (acells_len _) rfl rfl rB ?_; intro wC hgC rC; have rA2 := (rA1.below b3 (Nat.lt_of_lt_of_le a2 hB1.size)).grown hgC (by intro e; have := hB1.size; cases e; omega); have bC := (bt a4 b3).grown hgC (bt a4 b3).size (fun k hk => by cases hk; exact Nat.le_trans a4.size b1); have cd := (bC.cell (p := ⟨P, 10, none⟩) hPlt).trans cdv)
        | (have kk := hB1; refine alG infoAz (by rfl) rfl ?_; intro gB wB b1 b2 b3 rB)
        | (go_at_call 102; refine (hf _).mono ?_; rintro e w1 ⟨rfl, hB1⟩; have rA1 := rA.below hB1 a2; have a4 := bt a3 hB1)
        | (refine alG infoPz (by rfl) rfl ?_; intro gA wA a1 a2 a3 rA))

      have rD1 := rD.below bC rD.lt
      have hBC : gB < wC.heap.size := rC.lt
      have hsz : w.heap.size ≤ gB := Nat.le_trans a4.size b1
      have hne : gA < gB := by have := hB1.size; omega
      have hbB : b < gB := by have := rD.lt; omega
      have hgB : gB ≠ g := by omega
      have hgA : gA ≠ g := by omega
      have hPB : P < gB := by omega
      have N0 : NowS w wC.drew g bv l r := ((h.below bC).now.after bC).below (bd _)
      have hpD : Pg wC.drew P g := (hp.below bC).below (bd _)
      clear a3 b3 rA kk a4 hB1 rA1 rB b2 cd hgC
      refine wp_region_noPanic ?_
      refine wp_region_held_drew (S := fun _ => True) (by kernel_rfl) (trivial) (fun hHeld => ?_)
      refine tA 0 ?_
      refine tA 1 ?_
      refine tA 2 ?_
      refine tA 3 ?_
      refine tL 4 rfl (ySl (.tmp 9) (some (.tmp 63)) (some (.tmp 66)) none (by rfl) rfl (slA2 gB 0 (0 + om) _ _ rfl (by omega) (by omega) (by omega))) ?_
      refine tA 5 ?_
      refine tA 6 ?_
      refine tA 7 ?_
      refine tL 8 rfl (ySl (.tmp 69) (some (.tmp 70)) none none (by rfl) rfl (slA1 b 0 _ rfl (by omega))) ?_
      refine r1 9 fun K hK => ?_
      refine step_copy_splice rfl (.tmp 67) (.tmp 71) 40 40 rfl 5 Try.underlying40 (by kernel_rfl) _ _ _ _ _ _ rfl rfl gB 0 (acells zeroA) 26 (rC.below (bd _) hBC) (bcells ((D.l.drop 0).take om)) (by rw [bcells_length, List.length_take, List.length_drop, D.len]; show _ = min _ _; omega) (fun _ => ⟨by rw [adrIf_ne (by omega)], _, rfl, fun j v hv => ?_⟩) (by rw [bcells_length, acells_len, List.length_take, List.length_drop, D.len]; omega) (bcells_one _) gB _ (Below.refl _ _) (Nat.le_refl _) ?_
      · (rw [adrIf_ne (by omega), Addr.add_mid, (rD1.below (bd _) (by omega)).cell]; rw [← bcells_part] at hv; have := take_get hv; rwa [List.getElem?_drop] at this)
      intro w2 HG2 hB2
      refine oK hK (by trivial) fun hHeld => ?_
      clear hK K
      refine dN ?_
      refine NoPanic.normal ?_
      have rB2 : Row w2 gB 26 (acells A1) := by rw [EB.out, acells_spA _ _ _ (by rw [List.length_take, List.length_drop, D.len]; omega)]; exact HG2.out
      have rA3 : Row w2 gA 28 (pcells zeroP) := (rA2.below (bd _) (by omega)).below hB2 hne
      have N1 : NowS w w2 g bv l r := NowS.low h N0 hB2 hsz
      have hpW : Pg w2 P g := ⟨(hB2.cell (p := ⟨P, 11, none⟩) hPB).trans hpD.c, hpD.ne⟩
      clear HG2 hB2 rA2 N0 hpD bC rD rD1 rC EB hHeld hBC
      go_wp2
      have hrW := N1.rd
      refine wp_region_noPanic ?_
      refine wp_region_held_drew (S := fun W => W.cell? ⟨P, 11, none⟩ = some (.pointer (some ⟨g, 0, none⟩))) (by kernel_rfl) ((hpW.below (bd _)).c) (fun hHeld => ?_)
      refine tA 0 ?_
      refine tA 1 ?_
      refine tA 2 ?_
      refine tL 3 rfl (ySl (.tmp 9) (some (.tmp 75)) none none (by rfl) rfl (slA1 gB (0 + om) _ (by omega) (by omega))) ?_
      refine tA 4 ?_
      refine tA 5 ?_
      refine tA 6 ?_
      refine tA 7 ?_
      refine tA 8 ?_
      refine tA 9 ?_
      refine tA 10 ?_
      refine r1 11 fun K hK => ?_
      go_simp
      refine (bytes_r (n - om) (hrW.below (bd _))).mono ?_
      rintro e w4 ⟨m4, a4, c4, hm4, hle4, rfl, s4, hn4⟩
      have rB4 := (rB2.below (bd _) rB2.lt).nowS hn4 hgB
      have rA4 := (rA3.below (bd _) rA3.lt).nowS hn4 hgA
      refine oK hK (by exact ((hpW.below (bd _)).now hn4).c) fun hHeld => ?_
      clear hK K
      refine r1 12 fun K hK => ?_
      refine step_copy_splice rfl (.tmp 76) (.tmp 84) 40 40 rfl 5 Try.underlying40 (by kernel_rfl) _ _ _ _ _ _ rfl rfl gB (0 + om) (acells A1) 26 rB4 (bcells (tkB l r.p r.y ((n - om : Nat) : Int))) (by rw [bcells_length]; refine hm4.out.symm.trans (Nat.min_eq_left ?_).symm; omega) (fun h5 => ⟨by rw [adrIf_ne (by rw [bcells_length, ← hm4.out] at h5; omega), Nat.zero_add], s4.pos h5⟩) (by rw [bcells_length, acells_len]; have := tkB_le l r.p r.y (n - om); omega) (bcells_one _) gB w4 (Below.refl _ _) (Nat.le_refl _) ?_
      intro w5 HG5 hB5
      refine oK hK (by exact (hB5.cell (p := ⟨P, 11, none⟩) hPB).trans ‹_›) fun hHeld => ?_
      clear hK K
      refine dN ?_
      refine NoPanic.normal ?_
      have rB5 : Row w5 gB 26 (acells A2) := by rw [EA2.out, acells_spA _ _ _ (by have := tkB_le l r.p r.y (n - om); omega)]; exact HG5.out
      have rA5 : Row w5 gA 28 (pcells zeroP) := rA4.below hB5 hne
      have N5 : NowS w w5 g bv l (r.adv l ((n - om : Nat) : Int)) := NowS.low h (N1.trans (hn4.after (bd _))) hB5 hsz
      clear HG5 hB5 rA4 rB4 hn4 s4 hHeld rB2 rA3 N1 hpW hrW EA2
      by_cases hodd0 : 0 < odd
      · have h6 : (0 : Int) < (odd : Int) := by omega
        have hn0 := hpos hodd0
        obtain ⟨i, hi⟩ : ∃ i, i = 0 + n - 1 := ⟨_, rfl⟩
        obtain ⟨b6, hb6⟩ : ∃ b, A2.l[i]? = some b := ⟨_, List.getElem?_eq_getElem (by rw [A2.len]; omega)⟩
        have c6 : w5.cell? ⟨gB, i, none⟩ = some (.int .u8 b6.toNat) := by rw [rB5.cell]; exact bcells_get hb6
        have f6 := rB5.frozen i
        have y5 : ((n : Int) - 1) = (i : Int) := by omega
        have y6 : IntKind.i64.wrap ((n : Int) - 1) = (i : Int) := by rw [IntKind.wrap_i64]; omega
        have y7 : (i : Int) < 16 := by omega
        have y8 : (0 : Int) ≤ (i : Int) := by omega
        have EA6 : Hid (acells A3 = (acells A2).set i (.int .u8 (bits BinOp.andNot IntKind.u8 (b6.toNat : Int) (255 / 2 ^ odd)))) := by show _ = _; rw [EA3.out, if_pos hodd0, ← hi]; exact mskA_cells A2 i odd hodd b6 hb6
        clear EA3 hi hpos hb6
        go_wp2
        go_region
        refine name_world (R := fun W => Exit.then _ _ _ _ W) (P := fun W3 => Row W3 gB 26 (acells A3) ∧ Row W3 gA 28 (pcells zeroP) ∧ NowS w W3 g bv l (r.adv l ((n - om : Nat) : Int))) _ ⟨by rw [EA6.out]; exact (rB5.set i _).drew, ((rA5.grown (grownBy_setCell w5 gB i _) (fun e => by have := Option.some.inj e; omega)).drew), (N5.fresh h (grownBy_setCell w5 gB i _) hsz).below (bd _)⟩ ?_
        rintro W3 ⟨rB7, rA7, N7⟩
        clear rB5 rA5 N5 c6 f6 EA6
        have hal := acells_len A3
        have hfs := foldSize A3
        go_wp2_with (first
          | (refine stP0 (.tmp 8) (.tmp 105) (by rfl) rfl gA ⟨A3, (plen : Int)⟩ _ (pcells_len _) rfl (buildP A3 ((plen : Int))) rA7 ?_; intro w8 hg8 r8)
          | (refine ldA (.tmp 9) (by rfl) rfl gB 0 A3 rfl rB7.range ?_))
        exact bodyPost_ret (retC rfl _ _ 0 rfl (lvP r8.range)) rfl ⟨rfl, N7.fresh h hg8 a1⟩
      · have h6 : ¬ (0 : Int) < (odd : Int) := by omega
        obtain rfl : A3 = A2 := by rw [EA3.out, if_neg hodd0]
        clear EA3
        have hal := acells_len A3
        have hfs := foldSize A3
        go_wp2_with (first
          | (refine stP0 (.tmp 8) (.tmp 105) (by rfl) rfl gA ⟨A3, (plen : Int)⟩ _ (pcells_len _) rfl (buildP A3 ((plen : Int))) rA5 ?_; intro w8 hg8 r8)
          | (refine ldA (.tmp 9) (by rfl) rfl gB 0 A3 rfl rB5.range ?_))
        exact bodyPost_ret (retC rfl _ _ 0 rfl (lvP r8.range)) rfl ⟨rfl, N5.fresh h hg8 a1⟩
  · have h0' : ¬ (0 : Int) < (om : Int) := by omega
    have EB : Hid (A1 = zeroA) := by show _ = _; rw [hA1, EA1.out, if_neg h0]
    rw [← hA1] at EA2
    have hcd : ∃ q, v2 = .pointer q := by rcases hpd with ⟨rfl, _⟩ | ⟨b, D, rfl, _, _⟩ <;> exact ⟨_, rfl⟩
    obtain ⟨q, rfl⟩ := hcd
    clear x3 hA1 EA1 h0 hpd
    go_enter Try.func85, Try.ntmps85
    go_wp2_with (first
      | (have kk := b3; refine stA0 (.tmp 9) (.tmp 27) (by rfl) rfl gB zeroA _ (acells_len _) rfl rfl rB ?_; intro wC hgC rC; have rA2 := (rA1.below b3 (Nat.lt_of_lt_of_le a2 hB1.size)).grown hgC (by intro e; have := hB1.size; cases e; omega); have bC := (bt a4 b3).grown hgC (bt a4 b3).size (fun k hk => by cases hk; exact Nat.le_trans a4.size b1); have cd := (bC.cell (p := ⟨P, 10, none⟩) hPlt).trans cdv)
      | (have kk := hB1; refine alG infoAz (by rfl) rfl ?_; intro gB wB b1 b2 b3 rB)
      | (go_at_call 102; refine (hf _).mono ?_; rintro e w1 ⟨rfl, hB1⟩; have rA1 := rA.below hB1 a2; have a4 := bt a3 hB1)
      | (refine alG infoPz (by rfl) rfl ?_; intro gA wA a1 a2 a3 rA))
    have hBC : gB < wC.heap.size := rC.lt
    have hsz : w.heap.size ≤ gB := Nat.le_trans a4.size b1
    have hne : gA < gB := by have := hB1.size; omega
    have hgB : gB ≠ g := by omega
    have hgA : gA ≠ g := by omega
    have hPB : P < gB := by omega
    have N1 : NowS w wC g bv l r := (h.below bC).now.after bC
    have hpW : Pg wC P g := hp.below bC
    have rB2 : Row wC gB 26 (acells A1) := by rw [EB.out]; exact rC
    have rA3 := rA2
    clear a3 b3 rA kk a4 hB1 rA1 rB b2 cd hgC rC rA2 bC hBC
    have hrW := N1.rd
    refine wp_region_noPanic ?_
    refine wp_region_held_drew (S := fun W => W.cell? ⟨P, 11, none⟩ = some (.pointer (some ⟨g, 0, none⟩))) (by kernel_rfl) ((hpW.below (bd _)).c) (fun hHeld => ?_)
    refine tA 0 ?_
    refine tA 1 ?_
    refine tA 2 ?_
    refine tL 3 rfl (ySl (.tmp 9) (some (.tmp 75)) none none (by rfl) rfl (slA1 gB (0 + om) _ (by omega) (by omega))) ?_
    refine tA 4 ?_
    refine tA 5 ?_
    refine tA 6 ?_
    refine tA 7 ?_
    refine tA 8 ?_
    refine tA 9 ?_
    refine tA 10 ?_
    refine r1 11 fun K hK => ?_
    go_simp
    refine (bytes_r (n - om) (hrW.below (bd _))).mono ?_
    rintro e w4 ⟨m4, a4, c4, hm4, hle4, rfl, s4, hn4⟩
    have rB4 := (rB2.below (bd _) rB2.lt).nowS hn4 hgB
    have rA4 := (rA3.below (bd _) rA3.lt).nowS hn4 hgA
    refine oK hK (by exact ((hpW.below (bd _)).now hn4).c) fun hHeld => ?_
    clear hK K
    refine r1 12 fun K hK => ?_
    refine step_copy_splice rfl (.tmp 76) (.tmp 84) 40 40 rfl 5 Try.underlying40 (by kernel_rfl) _ _ _ _ _ _ rfl rfl gB (0 + om) (acells A1) 26 rB4 (bcells (tkB l r.p r.y ((n - om : Nat) : Int))) (by rw [bcells_length]; refine hm4.out.symm.trans (Nat.min_eq_left ?_).symm; omega) (fun h5 => ⟨by rw [adrIf_ne (by rw [bcells_length, ← hm4.out] at h5; omega), Nat.zero_add], s4.pos h5⟩) (by rw [bcells_length, acells_len]; have := tkB_le l r.p r.y (n - om); omega) (bcells_one _) gB w4 (Below.refl _ _) (Nat.le_refl _) ?_
    intro w5 HG5 hB5
    refine oK hK (by exact (hB5.cell (p := ⟨P, 11, none⟩) hPB).trans ‹_›) fun hHeld => ?_
    clear hK K
    refine dN ?_
    refine NoPanic.normal ?_
    have rB5 : Row w5 gB 26 (acells A2) := by rw [EA2.out, acells_spA _ _ _ (by have := tkB_le l r.p r.y (n - om); omega)]; exact HG5.out
    have rA5 : Row w5 gA 28 (pcells zeroP) := rA4.below hB5 hne
    have N5 : NowS w w5 g bv l (r.adv l ((n - om : Nat) : Int)) := NowS.low h (N1.trans (hn4.after (bd _))) hB5 hsz
    clear HG5 hB5 rA4 rB4 hn4 s4 hHeld rB2 rA3 N1 hpW hrW EA2
    by_cases hodd0 : 0 < odd
    · have h6 : (0 : Int) < (odd : Int) := by omega
      have hn0 := hpos hodd0
      obtain ⟨i, hi⟩ : ∃ i, i = 0 + n - 1 := ⟨_, rfl⟩
      obtain ⟨b6, hb6⟩ : ∃ b, A2.l[i]? = some b := ⟨_, List.getElem?_eq_getElem (by rw [A2.len]; omega)⟩
      have c6 : w5.cell? ⟨gB, i, none⟩ = some (.int .u8 b6.toNat) := by rw [rB5.cell]; exact bcells_get hb6
      have f6 := rB5.frozen i
      have y5 : ((n : Int) - 1) = (i : Int) := by omega
      have y6 : IntKind.i64.wrap ((n : Int) - 1) = (i : Int) := by rw [IntKind.wrap_i64]; omega
      have y7 : (i : Int) < 16 := by omega
      have y8 : (0 : Int) ≤ (i : Int) := by omega
      have EA6 : Hid (acells A3 = (acells A2).set i (.int .u8 (bits BinOp.andNot IntKind.u8 (b6.toNat : Int) (255 / 2 ^ odd)))) := by show _ = _; rw [EA3.out, if_pos hodd0, ← hi]; exact mskA_cells A2 i odd hodd b6 hb6
      clear EA3 hi hpos hb6
      go_wp2
      go_region
      refine name_world (R := fun W => Exit.then _ _ _ _ W) (P := fun W3 => Row W3 gB 26 (acells A3) ∧ Row W3 gA 28 (pcells zeroP) ∧ NowS w W3 g bv l (r.adv l ((n - om : Nat) : Int))) _ ⟨by rw [EA6.out]; exact (rB5.set i _).drew, ((rA5.grown (grownBy_setCell w5 gB i _) (fun e => by have := Option.some.inj e; omega)).drew), (N5.fresh h (grownBy_setCell w5 gB i _) hsz).below (bd _)⟩ ?_
      rintro W3 ⟨rB7, rA7, N7⟩
      clear rB5 rA5 N5 c6 f6 EA6
      have hal := acells_len A3
      have hfs := foldSize A3
      go_wp2_with (first
        | (refine stP0 (.tmp 8) (.tmp 105) (by rfl) rfl gA ⟨A3, (plen : Int)⟩ _ (pcells_len _) rfl (buildP A3 ((plen : Int))) rA7 ?_; intro w8 hg8 r8)
        | (refine ldA (.tmp 9) (by rfl) rfl gB 0 A3 rfl rB7.range ?_))
      exact bodyPost_ret (retC rfl _ _ 0 rfl (lvP r8.range)) rfl ⟨rfl, N7.fresh h hg8 a1⟩
    · have h6 : ¬ (0 : Int) < (odd : Int) := by omega
      obtain rfl : A3 = A2 := by rw [EA3.out, if_neg hodd0]
      clear EA3
      have hal := acells_len A3
      have hfs := foldSize A3
      go_wp2_with (first
        | (refine stP0 (.tmp 8) (.tmp 105) (by rfl) rfl gA ⟨A3, (plen : Int)⟩ _ (pcells_len _) rfl (buildP A3 ((plen : Int))) rA5 ?_; intro w8 hg8 r8)
        | (refine ldA (.tmp 9) (by rfl) rfl gB 0 A3 rfl rB5.range ?_))
      exact bodyPost_ret (retC rfl _ _ 0 rfl (lvP r8.range)) rfl ⟨rfl, N5.fresh h hg8 a1⟩
/-- prefix, whatever is asked. -/
theorem prefix_any {w : World} {P g : Nat} {l : List UInt8} {r : RS} {s : St} (ae plen om : Nat) (hpl : plen < 256) (hom : om < 256) (hpar : Par w P (some g) s) (h : RdS w g bv l r) :
    Calls Try.prog 85 #[.pointer (some ⟨P, 0, none⟩), .int .u8 (ae : Int), .int .i64 (plen : Int), .int .i64 (om : Int)] w fun e w' => e = .returned (Value.agg (pcells (pfP s ae plen om l r)).toArray) ∧ NowS w w' g bv l (pfR s ae plen om l r) := by
  cases hX : pfX s ae plen om with
  | true =>
    have e1 : pfP s ae plen om l r = zeroP := by unfold pfP; rw [hX]; rfl
    have e2 : pfR s ae plen om l r = r.bad := by unfold pfR; rw [hX]; rfl
    rw [e1, e2]
    by_cases h1 : ae = 1
    · subst h1; exact prefix_bad1 plen om hpl hom hX hpar h
    by_cases h2 : ae = 2
    · subst h2; exact prefix_bad2 plen om hpl hom hX hpar h
    · exact prefix_ae ae plen om h1 h2 (hpar.pg h) h
  | false =>
    have e1 : pfP s ae plen om l r = ⟨pfA3 s ae plen om l r, ((8 * frN ae + plen : Nat) : Int)⟩ := by unfold pfP; rw [hX]; rfl
    have e2 : pfR s ae plen om l r = r.adv l ((pfN plen - om : Nat) : Int) := by unfold pfR; rw [hX]; rfl
    rw [e1, e2]
    by_cases h1 : ae = 1
    · subst h1; exact prefix_ok1 plen om hpl hom hX hpar h
    by_cases h2 : ae = 2
    · subst h2; exact prefix_ok2 plen om hpl hom hX hpar h
    · unfold pfX at hX
      simp [h1, h2] at hX
end Go.Proofs.Ytognnfknbkedgaa
