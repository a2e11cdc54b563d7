/-
  Bytes as pieces: what was joined is split again; of a beginning a beginning.
-/
import Derived.Test.YtgkonglkfjbmnaaSp
namespace Go.Proofs.Ytgkonglkfjbmnaa
open Go.RowKit
set_option linter.unusedSimpArgs false

/-- A piece's length is that of its body. -/
def Fit (ps : List Pc) : Prop := ∀ p ∈ ps, p.n = p.l.length
theorem Rws.fit {w : World} {a : Option Addr} {n : Nat} {ps : List Pc} (h : Rws w a n ps) : Fit ps := fun p hp => (h.body p hp).blen
theorem chk_cons {p : Pc} {ps : List Pc} (h : chkE (p :: ps) = 0) : badP p = false ∧ longP p = false ∧ chkE ps = 0 := by
  unfold chkE at h ⊢
  simp only [List.any_cons] at h
  cases h1 : badP p <;> cases h2 : longP p <;> cases h3 : ps.any badP <;> cases h4 : ps.any longP <;> simp [h1, h2, h3, h4] at h ⊢
theorem spl_join : ∀ (ps : List Pc), Fit ps → chkE ps = 0 → splL (joinL ps) = (keys ps, 0)
  | [], _, _ => rfl
  | p :: ps, hf, hc => by
    obtain ⟨h1, h2, h3⟩ := chk_cons hc
    have hn := hf p (by simp)
    have ih := spl_join ps (fun q hq => hf q (by simp [hq])) h3
    have e : joinL (p :: ps) = encP p ++ joinL ps := by simp [joinL]
    have hk : keys (p :: ps) = (p.t, p.l) :: keys ps := by simp [keys]
    rw [e, hk]
    by_cases h0 : p.t = 0
    · have hb : p.l = [] := by
        apply List.eq_nil_of_length_eq_zero
        unfold badP at h1
        simp [h0] at h1
        omega
      have ee : encP p = [0] := by unfold encP; rw [if_pos h0]
      rw [ee, List.cons_append, List.nil_append, splL_cons, if_pos (by decide), ih, hb, h0]
    · have ee : encP p = p.t :: UInt8.ofNat p.n :: p.l := by unfold encP; rw [if_neg h0]
      have hl : p.n ≤ 255 := by unfold longP at h2; simp at h2; omega
      have hu : (UInt8.ofNat p.n).toNat = p.n := by simp; omega
      have h0' : p.t.toNat ≠ 0 := fun h => h0 (UInt8.toNat_inj.1 h)
      rw [ee, List.cons_append, List.cons_append, splL_cons, if_neg h0']
      simp only
      rw [hu, if_neg (by rw [hn]; simp), hn, List.take_left, List.drop_left, ih]

theorem spl_take : ∀ (f : Nat) (l : List UInt8) (k : Nat), l.length ≤ f → (splL (l.take k)).1 <+: (splL l).1
  | 0, l, k, h => by
    obtain rfl : l = [] := List.eq_nil_of_length_eq_zero (by omega)
    simp [splL_nil]
  | f + 1, [], k, _ => by simp [splL_nil]
  | f + 1, t :: r, 0, _ => by rw [List.take_zero, splL_nil]; exact List.nil_prefix
  | f + 1, t :: r, k + 1, h => by
    simp only [List.length_cons] at h
    rw [List.take_succ_cons, splL_cons, splL_cons]
    by_cases h0 : t.toNat = 0
    · rw [if_pos h0, if_pos h0]
      exact (List.prefix_cons_inj _).2 (spl_take f r k (by omega))
    · rw [if_neg h0, if_neg h0]
      match r, k with
      | [], _ => simp
      | x :: s, 0 => simp
      | x :: s, k + 1 =>
        rw [List.take_succ_cons]
        simp only
        simp only [List.length_cons] at h
        by_cases h1 : s.length < x.toNat
        · rw [if_pos h1, if_pos (by simp; omega)]
          exact List.nil_prefix
        · rw [if_neg h1]
          by_cases h2 : (s.take k).length < x.toNat
          · rw [if_pos h2]
            exact List.nil_prefix
          · rw [if_neg h2]
            simp only [List.length_take] at h2
            have e1 : (s.take k).take x.toNat = s.take x.toNat := by rw [List.take_take, Nat.min_eq_left (by omega)]
            have e2 : (s.take k).drop x.toNat = (s.drop x.toNat).take (k - x.toNat) := by rw [List.drop_take]
            rw [e1, e2]
            exact (List.prefix_cons_inj _).2 (spl_take f (s.drop x.toNat) (k - x.toNat) (by simp; omega))
theorem joinL_bound : ∀ (ps : List Pc), Fit ps → chkE ps = 0 → (joinL ps).length ≤ ps.length * 257
  | [], _, _ => by simp [joinL]
  | p :: ps, hf, hc => by
    obtain ⟨h1, h2, h3⟩ := chk_cons hc
    have hn := hf p (by simp)
    have ih := joinL_bound ps (fun q hq => hf q (by simp [hq])) h3
    have e : joinL (p :: ps) = encP p ++ joinL ps := by simp [joinL]
    have hl : p.n ≤ 255 := by unfold longP at h2; simp at h2; omega
    have : (encP p).length ≤ 257 := by unfold encP; split <;> simp; omega
    rw [e, List.length_append, List.length_cons]
    omega
theorem keys_take (ps : List Pc) (k : Nat) : keys (ps.take k) = (keys ps).take k := by simp [keys]
theorem keys_len (ps : List Pc) : (keys ps).length = ps.length := by simp [keys]
end Go.Proofs.Ytgkonglkfjbmnaa
