/-
  A law's loop of tales, at rising times: what is there; what taking back makes of a list in order.
-/
import Derived.Test.YthofoocknmkdjaaXL
namespace Go.Proofs.Ythofoocknmkdjaa
open Go.RowKit Go.Maps Go.Shelf
set_option linter.unusedSimpArgs false
set_option linter.unusedVariables false
set_option maxRecDepth 20000
/-- The time and what is there behind some tales. -/
def tlS (x : Int × List Ro) (a : Ac) : Int × List Ro := (x.1 + a.g, if a.k = 0 then (tellR 150 x.2 (x.1 + a.g) a.r a.o).2.2 else x.2)
def tlR (l : List Ac) : Int × List Ro := l.foldl tlS (0, [])
structure TlI (j : Nat) (x : Int × List Ro) : Prop where
  t0 : 0 ≤ x.1
  t1 : x.1 ≤ j * 1073741824
  ll : x.2.length ≤ j
theorem TlI.step {j : Nat} {x : Int × List Ro} {a : Ac} (h : TlI j x) (ha : AcOk a) : TlI (j + 1) (tlS x a) := by
  obtain ⟨a0, a1⟩ := ha
  have t0 := h.t0
  have t1 := h.t1
  refine ⟨?_, ?_, ?_⟩
  · show 0 ≤ x.1 + a.g; omega
  · show x.1 + a.g ≤ _; omega
  · show (if a.k = 0 then (tellR 150 x.2 (x.1 + a.g) a.r a.o).2.2 else x.2).length ≤ j + 1
    have := h.ll
    split
    · have := tellR_len 150 x.2 (x.1 + a.g) a.r a.o
      omega
    · omega
theorem tlR_take {l : List Ac} {j : Nat} (hj : j < l.length) : tlR (l.take (j + 1)) = tlS (tlR (l.take j)) l[j] := by
  unfold tlR
  rw [List.take_succ_eq_append_getElem hj, List.foldl_append]
  rfl
theorem tlR_ok {l : List Ac} (h : ∀ x ∈ l, AcOk x) : ∀ j, j ≤ l.length → TlI j (tlR (l.take j))
  | 0, _ => ⟨by simp [tlR], by simp [tlR], by simp [tlR]⟩
  | j + 1, hj => by
    rw [tlR_take (by omega)]
    exact (tlR_ok h j (by omega)).step (h _ (List.getElem_mem _))
theorem cmpN_keys {x y x' y' : Ro} (h : x.k = x'.k) (h' : y.k = y'.k) : cmpN x y = cmpN x' y' := by
  unfold cmpN
  rw [h, h']
theorem Asc.mapR {K : List Ro} (h : Asc K) (f : Ro → Ro) (so : Ro → Bool) (hf : ∀ n, (f n).k = n.k) : Asc (mapR f so K) := by
  have hk : ∀ n : Ro, (if so n then f n else n).k = n.k := fun n => by split <;> simp [hf]
  unfold Asc Go.Proofs.Ythofoocknmkdjaa.mapR
  rw [List.pairwise_map]
  exact List.Pairwise.imp (fun {a b} hab => by rw [cmpN_keys (hk a) (hk b)]; exact hab) h
theorem perm_mapR {K L : List Ro} (h : K.Perm L) (f : Ro → Ro) (so : Ro → Bool) : (mapR f so K).Perm (mapR f so L) := h.map _
/-- How many of the rest are so. -/
def leftC (p : Ro → Bool) (K : List Ro) (j : Nat) : Int := ((K.filter p).length : Int) - (((K.take j).filter p).length : Int)
theorem leftC_0 (p : Ro → Bool) (K : List Ro) : leftC p K 0 = ((K.filter p).length : Int) := by simp [leftC]
theorem leftC_yes {p : Ro → Bool} {K : List Ro} {j : Nat} (hj : j < K.length) (h : p K[j] = true) : leftC p K (j + 1) = leftC p K j - 1 := by
  unfold leftC
  rw [List.take_succ_eq_append_getElem hj, List.filter_append]
  simp [h]
  omega
theorem leftC_no {p : Ro → Bool} {K : List Ro} {j : Nat} (hj : j < K.length) (h : p K[j] = false) : leftC p K (j + 1) = leftC p K j := by
  unfold leftC
  rw [List.take_succ_eq_append_getElem hj, List.filter_append]
  simp [h]
theorem leftC_end (p : Ro → Bool) (K : List Ro) : leftC p K K.length = 0 := by
  unfold leftC
  rw [List.take_length]
  omega
theorem leftC_le (p : Ro → Bool) (K : List Ro) (j : Nat) : 0 ≤ leftC p K j ∧ leftC p K j ≤ K.length := by
  have h1 := List.length_filter_le p K
  have h2 : ((K.take j).filter p).length ≤ (K.filter p).length := ((List.take_sublist j K).filter p).length_le
  unfold leftC
  omega
theorem retr_none {L : List Ro} (i : Int) (a : Ad) (now : Int) : (mapR (fun n => retr n now) (mineB i a) L).filter (mineB i a) = [] := by
  rw [List.filter_eq_nil_iff]
  intro n hn
  obtain ⟨m, _, rfl⟩ := List.mem_map.1 hn
  by_cases h : mineB i a m = true
  · rw [if_pos h]
    unfold mineB retr
    simp
  · rw [if_neg h]
    exact h
theorem mapR_len (f : Ro → Ro) (so : Ro → Bool) (L : List Ro) : (mapR f so L).length = L.length := by unfold mapR; rw [List.length_map]
/-- List behind a turn of some routes: what List told ahead, turned. -/
theorem list_map {W : World} {t mb : Nat} {most : Int} {L K : List Ro} (hp : K.Perm L) (ha : Asc K) (f : Ro → Ro) (so : Ro → Bool) (hf : ∀ n, (f n).k = n.k) (h : Tb W t mb most (mapR f so L)) :
    Calls Try.prog 14 #[.pointer (some ⟨t, 0, none⟩)] W fun e w' => ∃ a c, e = .returned (.slice a K.length c) ∧ kN.Own w' W.heap.size (.slice a K.length c) (mapR f so K) ∧ Below W.heap.size W w' := by
  refine (list_any h).mono ?_
  rintro e w' ⟨a, c, K', rfl, hp', ha', hO, k⟩
  obtain rfl := Asc.unique (ha.mapR f so hf) ha' ((perm_mapR hp f so).trans hp'.symm)
  rw [mapR_len] at *
  exact ⟨a, c, rfl, hO, k⟩
theorem retract_left {W : World} {t mb : Nat} {most : Int} {L K : List Ro} (hp : K.Perm L) (h : Tb W t mb most L) (now i : Int) (a : Ad) (ha : 0 ≤ now) (hb : now ≤ 17592186044416) :
    Calls Try.prog 27 #[.pointer (some ⟨t, 0, none⟩), .int .i64 now, .int .i64 i, (Value.agg (acells a).toArray)] W fun e w' => e = .returned (.int .i64 (leftC (mineB i a) K 0)) ∧ Turn W w' t mb most (mapR (fun n => retr n now) (mineB i a) L) := by
  refine (retract_any h now i a ha hb).mono ?_
  rintro e w' ⟨rfl, hT⟩
  rw [leftC_0, (hp.filter _).length_eq]
  exact ⟨rfl, hT⟩
theorem retract_zero {W : World} {t mb : Nat} {most : Int} {L : List Ro} (now i : Int) (a : Ad) (ha : 0 ≤ now) (hb : now ≤ 17592186044416) (h : Tb W t mb most (mapR (fun n => retr n now) (mineB i a) L)) :
    Calls Try.prog 27 #[.pointer (some ⟨t, 0, none⟩), .int .i64 now, .int .i64 i, (Value.agg (acells a).toArray)] W fun e w' => e = .returned (.int .i64 0) ∧ ∃ L', Turn W w' t mb most L' := by
  refine (retract_any h now i a ha hb).mono ?_
  rintro e w' ⟨rfl, hT⟩
  rw [retr_none]
  exact ⟨rfl, _, hT⟩
end Go.Proofs.Ythofoocknmkdjaa
