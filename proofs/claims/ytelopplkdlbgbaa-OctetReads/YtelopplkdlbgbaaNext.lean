/-
  What was put is read back: the next number of octet.Reader is the one that lies there.
-/
import Derived.Test.YtelopplkdlbgbaaLive
import Derived.Deep.RegionWith
namespace Go.Proofs.Ytelopplkdlbgbaa
open Go.RowKit
variable {bv : Option Addr}

/-- What lies in the midst. -/
theorem mid_take {α : Type} (A X B : List α) (p k : Nat) (hp : p = A.length) (hk : k = X.length) : ((A ++ X ++ B).drop p).take k = X := by
  subst hp hk
  rw [List.append_assoc, List.drop_left, List.take_left]
theorem tk_mid (A X B : List UInt8) (p k : Nat) (hp : p = A.length) (hk : k = X.length) : tkB (A ++ X ++ B) p 0 k = X ∧ tkE (A ++ X ++ B) p 0 k = 0 := by
  have hl : p + k ≤ (A ++ X ++ B).length := by simp; omega
  constructor
  · unfold tkB
    rw [if_pos (by omega)]
    simpa using mid_take A X B p k hp hk
  · unfold tkE
    rw [if_neg (by simp), if_neg (by omega), if_pos (by omega)]
theorem nv_one (b : UInt8) : nv [b] = b.toNat := by simp [nv]
theorem nv_be16 (v : UInt16) : nv (be16 v) = v.toNat := by
  have := v.toNat_lt
  simp [nv, be16]
  omega
theorem nv_be32 (v : UInt32) : nv (be32 v) = v.toNat := by
  have := v.toNat_lt
  simp [nv, be32]
  omega

/-- The next number is what was put there. -/
theorem next8 {g : Nat} {w : World} {L : List UInt8} {p : Nat} (l : List UInt8) (R : List UInt8) (hL : L = l ++ R) (hp : p < l.length) (h : Rd w g bv L p 0) :
    Calls Try.prog 17 #[.pointer (some ⟨g, 0, none⟩)] w fun e w' => e = .returned (.int .u8 (l[p].toNat : Int)) ∧ Now w w' g bv L (p + 1) 0 := by
  have hs : L = l.take p ++ [l[p]] ++ (l.drop (p + 1) ++ R) := by
    have h1 : l = l.take p ++ [l[p]] ++ l.drop (p + 1) := by simp
    have h2 := congrArg (fun x => x ++ R) h1
    rw [hL]
    refine h2.trans ?_
    simp only [List.append_assoc]
  have e := tk_mid (l.take p) [l[p]] (l.drop (p + 1) ++ R) p 1 (by simp; omega) rfl
  rw [← hs] at e
  have h := u8_any g L p 0 w h
  rw [show ((1 : Nat) : Int) = 1 from rfl] at e
  rw [e.1, e.2, nv_one] at h
  exact h
theorem next16 {g : Nat} {w : World} {L : List UInt8} {p : Nat} (A : List UInt8) (m : List UInt16) (R : List UInt8) (j : Nat) (hL : L = A ++ m.flatMap be16 ++ R) (hj : j < m.length) (hp : p = A.length + 2 * j) (h : Rd w g bv L p 0) :
    Calls Try.prog 19 #[.pointer (some ⟨g, 0, none⟩)] w fun e w' => e = .returned (.int .u16 (m[j].toNat : Int)) ∧ Now w w' g bv L (p + 2) 0 := by
  have hm : m = m.take j ++ [m[j]] ++ m.drop (j + 1) := by simp
  have hs : L = (A ++ (m.take j).flatMap be16) ++ be16 m[j] ++ ((m.drop (j + 1)).flatMap be16 ++ R) := by
    have h2 := congrArg (fun x => A ++ x.flatMap be16 ++ R) hm
    rw [hL]
    refine h2.trans ?_
    simp only [List.flatMap_append, List.flatMap_cons, List.flatMap_nil, List.append_nil, List.append_assoc]
  have e := tk_mid (A ++ (m.take j).flatMap be16) (be16 m[j]) ((m.drop (j + 1)).flatMap be16 ++ R) p 2 (by rw [List.length_append, be16_len]; simp; omega) rfl
  rw [← hs] at e
  have h := u16_any g L p 0 w h
  rw [show ((2 : Nat) : Int) = 2 from rfl] at e
  rw [e.1, e.2, nv_be16] at h
  exact h
theorem next32 {g : Nat} {w : World} {L : List UInt8} {p : Nat} (A : List UInt8) (m : List UInt32) (R : List UInt8) (j : Nat) (hL : L = A ++ m.flatMap be32 ++ R) (hj : j < m.length) (hp : p = A.length + 4 * j) (h : Rd w g bv L p 0) :
    Calls Try.prog 20 #[.pointer (some ⟨g, 0, none⟩)] w fun e w' => e = .returned (.int .u32 (m[j].toNat : Int)) ∧ Now w w' g bv L (p + 4) 0 := by
  have hm : m = m.take j ++ [m[j]] ++ m.drop (j + 1) := by simp
  have hs : L = (A ++ (m.take j).flatMap be32) ++ be32 m[j] ++ ((m.drop (j + 1)).flatMap be32 ++ R) := by
    have h2 := congrArg (fun x => A ++ x.flatMap be32 ++ R) hm
    rw [hL]
    refine h2.trans ?_
    simp only [List.flatMap_append, List.flatMap_cons, List.flatMap_nil, List.append_nil, List.append_assoc]
  have e := tk_mid (A ++ (m.take j).flatMap be32) (be32 m[j]) ((m.drop (j + 1)).flatMap be32 ++ R) p 4 (by rw [List.length_append, be32_len]; simp; omega) rfl
  rw [← hs] at e
  have h := u32_any g L p 0 w h
  rw [show ((4 : Nat) : Int) = 4 from rfl] at e
  rw [e.1, e.2, nv_be32] at h
  exact h
theorem done_end {g : Nat} {w : World} {L : List UInt8} {p : Nat} (hp : p = L.length) (h : Rd w g bv L p 0) : Calls Try.prog 31 #[.pointer (some ⟨g, 0, none⟩)] w fun e w' => e = .returned (.int .i64 0) ∧ Now w w' g bv L p 0 := by
  have h := done_any g L p 0 w h
  have e : dnE L p 0 = 0 := by unfold dnE; rw [if_neg (by omega)]
  rw [e] at h
  exact h
end Go.Proofs.Ytelopplkdlbgbaa
