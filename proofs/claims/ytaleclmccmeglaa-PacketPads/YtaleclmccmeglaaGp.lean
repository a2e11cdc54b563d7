/-
  Pure facts of what packets tell: Stamps are few; bytes behind bytes; what Parse answers of a body in its packet.
-/
import Derived.Test.YtaleclmccmeglaaLv
namespace Go.Proofs.Ytaleclmccmeglaa
open Go.RowKit
set_option linter.unusedSimpArgs false
set_option maxRecDepth 20000

theorem nums_len : ∀ (n : Nat) (l : List UInt8) (r : RS), (nums n l r).length = n
  | 0, _, _ => rfl
  | n + 1, l, r => by simp [nums, nums_len n]
theorem stF_len (n : Nat) : ∀ ks, (stF n ks).length ≤ n
  | [] => by simp [stF]
  | k :: ks => by
    unfold stF
    split
    · exact stF_len n ks
    · rw [nums_len]; exact Nat.le_refl _
theorem sayK_st (s : St) (t : Nat) (l : List UInt8) : (sayK s t l).st.length ≤ 100000 := by
  have hz : ([] : List UInt32).length ≤ 100000 := by simp
  have h1 := stF_len 1
  have h2 := stF_len 2
  unfold sayK
  split
  · exact hz
  split
  · exact hz
  split
  · exact Nat.le_trans (h1 _) (by omega)
  split
  · exact Nat.le_trans (h2 _) (by omega)
  split
  · unfold upK; split
    · exact hz
    split
    · exact hz
    · exact hz
  split
  · unfold rrK; split
    · exact hz
    · exact hz
  split <;> exact hz
theorem tellL_st : ∀ (ks : List (UInt8 × List UInt8)) (s : St) (k : TK), k ∈ tellL s ks → k.st.length ≤ 100000
  | [], s, k, h => by simp [tellL] at h
  | x :: ks, s, k, h => by
    unfold tellL at h
    rw [List.mem_append] at h
    rcases h with h | h
    · split at h
      · simp at h; subst h; exact sayK_st _ _ _
      · simp at h
    · exact tellL_st ks _ k h
theorem spl_append : ∀ (f : Nat) (l m : List UInt8), l.length ≤ f → (splL l).2 = 0 → splL (l ++ m) = ((splL l).1 ++ (splL m).1, (splL m).2)
  | _, [], m, _, _ => by simp [splL_nil]
  | 0, _ :: _, _, h, _ => by simp at h
  | f + 1, t :: r, m, h, he => by
    simp only [List.length_cons] at h
    rw [List.cons_append]
    rw [splL_cons] at he ⊢
    rw [splL_cons t r]
    by_cases h0 : t.toNat = 0
    · rw [if_pos h0] at he
      rw [if_pos h0, if_pos h0, spl_append f r m (by omega) he]
      rfl
    · rw [if_neg h0] at he
      rw [if_neg h0, if_neg h0]
      match r with
      | [] => simp at he
      | x :: s =>
        simp only [List.cons_append] at he ⊢
        simp only [List.length_cons] at h
        by_cases h1 : s.length < x.toNat
        · rw [if_pos h1] at he; simp at he
        · rw [if_neg h1] at he
          rw [if_neg h1, if_neg (by simp; omega)]
          have e1 : (s ++ m).take x.toNat = s.take x.toNat := List.take_append_of_le_length (by omega)
          have e2 : (s ++ m).drop x.toNat = s.drop x.toNat ++ m := List.drop_append_of_le_length (by omega)
          rw [e1, e2, spl_append f (s.drop x.toNat) m (by simp; omega) he]
          rfl
theorem open_pk (l : List UInt8) (h : l.length ≤ 65535) : opE (pkL l) = 0 ∧ opB (pkL l) = l := by
  have e : pkL l = 42 :: 2 :: UInt8.ofNat ((UInt16.ofNat l.length).toNat / 256) :: UInt8.ofNat (UInt16.ofNat l.length).toNat :: l := by simp [pkL, be16]
  have en : (UInt16.ofNat l.length).toNat = l.length := by simp; omega
  rw [en] at e
  have e2 : (UInt8.ofNat (l.length / 256)).toNat * 256 + (UInt8.ofNat l.length).toNat = l.length := by simp; omega
  have e3 : opE (pkL l) = 0 := by
    rw [e]
    simp only [opE]
    rw [if_neg (by simp), if_neg (by simp), if_neg (by rw [e2]; simp)]
  refine ⟨e3, ?_⟩
  unfold opB
  rw [if_pos e3, e]
  simp only
  rw [e2, List.take_of_length_le (Nat.le_refl _)]
theorem parE_pk (b : List UInt8) (h : b.length ≤ 65535) : parE (pkL b) = (splL b).2 := by
  obtain ⟨h1, h2⟩ := open_pk b h
  unfold parE
  rw [h1, h2]; simp
theorem parL_pk (src : Ad) (b : List UInt8) (h : b.length ≤ 65535) : parL src (pkL b) = tellL (bgS src) (splL b).1 := by
  obtain ⟨h1, h2⟩ := open_pk b h
  unfold parL
  rw [h2]
/-- What Parse answers of a body. -/
structure ToldP (w : World) (a : Option Addr) (n c : Nat) (ts : List Tl) (src : Ad) (b : List UInt8) : Prop where
  key : ts.map Tl.key = tellL (bgS src) (splL b).1
  tlw : TlW w a n ts
  shape : (a = none ∧ n = 0 ∧ c = 0) ∨ ∃ g, a = some ⟨g, 0, none⟩ ∧ n ≤ c ∧ c ≤ maxLen
  le : n ≤ 100000
  st : ∀ t ∈ ts, t.st.length ≤ 100000
theorem ToldP.below {w w' : World} {a : Option Addr} {n c : Nat} {ts : List Tl} {src : Ad} {b : List UInt8} (h : ToldP w a n c ts src b) (hb : Below w.heap.size w w') : ToldP w' a n c ts src b := ⟨h.key, h.tlw.below hb, h.shape, h.le, h.st⟩
theorem parse_pk (src : Ad) (b : List UInt8) (hb : b.length ≤ 65535) {W : World} {a : Option Addr} {n c : Nat} (hs : Src W a n c (bcells (pkL b))) (hn : n ≤ 100000) :
    Calls Try.prog 9 #[(Value.agg (acells src).toArray), .slice a n c] W fun e w' => ∃ a c N ts, e = .returned (.tuple #[.slice a N c, .int .i64 (splL b).2]) ∧ ToldP w' a N c ts src b ∧ Below W.heap.size W w' := by
  refine (parse_any src a n c _ W hs hn).mono ?_
  rintro e w' ⟨a, c, ts, rfl, hk, hl, ht, hbl⟩
  rw [parE_pk b hb]
  have hlen : (pkL b).length ≤ 100000 := by have := hs.blen; omega
  rw [parL_pk src b hb] at hk
  refine ⟨a, c, ts.length, ts, rfl, ⟨hk, ht.tlw, ?_, by omega, fun t h => ?_⟩, hbl⟩
  · rcases ht.own.2 with ⟨h1, _⟩ | ⟨g, cap, cur, h1, _, _, hnc, hcm, _⟩
    · injection h1 with h3 h4 h5
      exact .inl ⟨h3, h4, h5⟩
    · injection h1 with h2 _ h3
      subst h3
      exact .inr ⟨g, h2, hnc, hcm⟩
  · have := tellL_st (splL b).1 (bgS src) t.key (by rw [← hk]; exact List.mem_map_of_mem h)
    exact this
end Go.Proofs.Ytaleclmccmeglaa
