/-
  Retract: a neighbour takes all back.
-/
import Derived.Test.YthofoocknmkdjaaXA
namespace Go.Proofs.Ythofoocknmkdjaa
open Go.RowKit Go.Maps Go.Shelf
set_option linter.unusedSimpArgs false
set_option linter.unusedVariables false
set_option maxRecDepth 20000
/-- A route of this neighbour that is believed. -/
def mineB (i : Int) (a : Ad) (n : Ro) : Bool := (decide (n.i = i) && decide (n.a.l = a.l)) && !decide (n.r = 65535)
set_option maxHeartbeats 4000000 in
theorem retrC_any (n : Ro) (i : Int) (a : Ad) (g h : Nat) (w : World) (hi : Row w g 3 [.int .i64 i]) (ha : Row w h 32 (acells a)) : Calls Try.prog 49 #[rV n, .pointer (some ⟨g, 0, none⟩), .pointer (some ⟨h, 0, none⟩)] w (Gives w (.bool (mineB i a n))) := by
  have r0 := Row.new w 41 (ocs n)
  have r1 := hi.alloc (.cells (ocs n).toArray 41)
  have r2 := ha.alloc (.cells (ocs n).toArray 41)
  have c34 := (r0.cell 34).trans (oc34 n)
  have c60 := (r0.cell 60).trans (oc60 n)
  have c0 := r1.cell 0
  have la : LA (w.alloc (.cells (ocs n).toArray 41)) w.heap.size 35 n.a := by have := r0.ro.a; simpa using this
  have HE := run_eqlA n.a a
  have HR : Hid (mineB i a n = ((decide (n.i = i) && decide (n.a.l = a.l)) && !decide (n.r = 65535))) := rfl
  generalize mineB i a n = R at *
  generalize decide (n.a.l = a.l) = ae at *
  clear hi ha r1
  go_enter Try.func49, Try.ntmps49
  by_cases h1 : n.i = i
  · cases ae with
    | false =>
      obtain rfl : R = false := by rw [HR.out]; simp
      go_wp2_with (first
        | (refine ldA (.tmp 2) rfl rfl _ _ a rfl r2.range ?_)
        | (refine ldA (.tmp 10) rfl rfl _ _ n.a rfl la ?_))
      go_ret
      exact ⟨rfl, ba _ _⟩
    | true =>
      by_cases h2 : n.r = 65535
      · obtain rfl : R = false := by rw [HR.out]; simp [h2]
        go_wp2_with (first
          | (refine ldA (.tmp 2) rfl rfl _ _ a rfl r2.range ?_)
          | (refine ldA (.tmp 10) rfl rfl _ _ n.a rfl la ?_))
        go_ret
        exact ⟨rfl, ba _ _⟩
      · obtain rfl : R = true := by rw [HR.out]; simp [h1, h2]
        have h2' : (n.r != 65535) = true := by simpa using h2
        go_wp2_with (first
          | (refine ldA (.tmp 2) rfl rfl _ _ a rfl r2.range ?_)
          | (refine ldA (.tmp 10) rfl rfl _ _ n.a rfl la ?_))
        go_ret
        exact ⟨rfl, ba _ _⟩
  · obtain rfl : R = false := by rw [HR.out]; simp [h1]
    go_wp2_with (first
      | (refine ldA (.tmp 2) rfl rfl _ _ a rfl r2.range ?_)
      | (refine ldA (.tmp 10) rfl rfl _ _ n.a rfl la ?_))
    go_ret
    exact ⟨rfl, ba _ _⟩
theorem own_map {w w' : World} {mb B : Nat} {L : List Ro} {v : Value} {G : List Ro} (hm : Mp w mb L) (hg : w.grownBy w' (some mb)) (ho : kN.Own w B v G) : kN.Own w' B v G := by
  refine World.ownsRow.kept ho hg ?_
  rcases ho.2 with ⟨rfl, _⟩ | ⟨g, cap, cur, rfl, _, hh, _⟩
  · exact .inl rfl
  · refine .inr fun e => ?_
    obtain ⟨es, cl, h2⟩ := hm.obj
    have e' : g = mb := by simpa [Value.ownBlock] using e
    rw [e', h2] at hh
    cases hh
theorem meas {n j : Nat} (h : j < n) : n - ((j : Int) + 1).toNat < n - ((j : Int)).toNat := by omega
theorem Turn.trans {w w1 w2 : World} {t mb : Nat} {most : Int} {L L' : List Ro} (h : Turn w w1 t mb most L) (k : Turn w1 w2 t mb most L') : Turn w w2 t mb most L' := ⟨k.tb, grownBy_trans h.gr k.gr⟩
theorem Turn.own {w w' : World} {t mb B : Nat} {most : Int} {L L' : List Ro} {v : Value} {G : List Ro} (ht : Turn w w' t mb most L') (hm : Tb w t mb most L) (ho : kN.Own w B v G) : kN.Own w' B v G := own_map hm.map ht.gr ho
theorem own_get {w : World} {B : Nat} {a : Option Addr} {n c : Nat} {G : List Ro} (ho : kN.Own w B (.slice a n c) G) : n = G.length := by
  obtain ⟨a', c', e, _⟩ := Kd.own_at ho
  cases e
  rfl
theorem nd_inj : ∀ {L : List Ro}, (L.map keyN).Nodup → ∀ {m n : Ro}, m ∈ L → n ∈ L → keyN m = keyN n → m = n
  | [], _, _, _, hm, _, _ => by cases hm
  | x :: L, h, m, n, hm, hn, e => by
    rw [List.map_cons, List.nodup_cons] at h
    rcases List.mem_cons.1 hm with e1 | hm1
    · rcases List.mem_cons.1 hn with e2 | hn1
      · rw [e1, e2]
      · exact absurd (by rw [← e1, e]; exact List.mem_map_of_mem hn1) h.1
    · rcases List.mem_cons.1 hn with e2 | hn1
      · exact absurd (by rw [← e2, ← e]; exact List.mem_map_of_mem hm1) h.1
      · exact nd_inj h.2 hm1 hn1 e
/-- Routes are kept anew, one behind another. -/
def updR (f : Ro → Ro) (L K : List Ro) : List Ro := K.foldl (fun L n => putN L (f n)) L
theorem updR_take {f : Ro → Ro} {L K : List Ro} {j : Nat} (hj : j < K.length) : updR f L (K.take (j + 1)) = putN (updR f L (K.take j)) (f K[j]) := by
  unfold updR
  rw [List.take_succ_eq_append_getElem hj, List.foldl_append]
  rfl
theorem any_putN {L : List Ro} {n : Ro} {k : Ky} (h : L.any (keyB k) = true) (hn : L.any (keyB n.k) = true) : (putN L n).any (keyB k) = true := by
  obtain ⟨y, hy, hk⟩ := List.any_eq_true.1 h
  rw [List.any_eq_true]
  cases hb : keyB n.k y
  · exact ⟨y, mem_putN.2 (.inr ⟨hy, hb⟩), hk⟩
  · refine ⟨n, mem_putN.2 (.inl rfl), ?_⟩
    rw [keyB_iff] at *
    rw [← hb, hk]
theorem updR_any {f : Ro → Ro} (hf : ∀ n, (f n).k = n.k) {k : Ky} : ∀ {K L : List Ro}, L.any (keyB k) = true → (∀ n ∈ K, L.any (keyB n.k) = true) → (updR f L K).any (keyB k) = true
  | [], _, h, _ => h
  | n :: K, L, h, hK => by
    have h1 : L.any (keyB (f n).k) = true := by rw [hf]; exact hK n (by simp)
    exact updR_any (K := K) hf (any_putN h h1) (fun m hm => any_putN (hK m (by simp [hm])) h1)
theorem updR_len {f : Ro → Ro} (hf : ∀ n, (f n).k = n.k) : ∀ {K L : List Ro}, (∀ n ∈ K, L.any (keyB n.k) = true) → (updR f L K).length = L.length
  | [], _, _ => rfl
  | n :: K, L, hK => by
    have h1 : L.any (keyB (f n).k) = true := by rw [hf]; exact hK n (by simp)
    have h2 := updR_len (K := K) (L := putN L (f n)) hf (fun m hm => any_putN (hK m (by simp [hm])) h1)
    show (updR f (putN L (f n)) K).length = _
    rw [h2, putN_len, if_pos h1]
theorem updR_map {f : Ro → Ro} (hf : ∀ n, (f n).k = n.k) {L : List Ro} (hnd : (L.map keyN).Nodup) : ∀ (K : List Ro) (D : List Ro), (∀ n ∈ K, n ∈ L) → ((D ++ K).map keyN).Nodup → updR f (L.map fun m => if D.any (keyB m.k) then f m else m) K = L.map fun m => if (D ++ K).any (keyB m.k) then f m else m
  | [], D, _, _ => by simp [updR]
  | n :: K, D, hK, hd => by
    have e : putN (L.map fun m => if D.any (keyB m.k) then f m else m) (f n) = L.map fun m => if (D ++ [n]).any (keyB m.k) then f m else m := by
      have hn := hK n (by simp)
      have kk : ∀ m : Ro, (if D.any (keyB m.k) = true then f m else m).k = m.k := fun m => by split; exact hf m; rfl
      unfold putN
      rw [if_pos]
      · rw [List.map_map]
        apply List.map_congr_left
        intro m hm
        simp only [Function.comp_def]
        by_cases hb : m.k = n.k
        · have hmn : m = n := by
            have := nd_inj hnd hm hn (show keyN m = keyN n from hb)
            exact this
          subst hmn
          rw [if_pos (by rw [keyB_iff, hf]; exact kk m), if_pos (by rw [List.any_append]; simp [keyB_self])]
        · rw [if_neg (by rw [keyB_iff, hf, kk]; exact hb)]
          have : (D ++ [n]).any (keyB m.k) = D.any (keyB m.k) := by
            rw [List.any_append]
            have : keyB m.k n = false := by rw [Bool.eq_false_iff, Ne, keyB_iff]; exact fun h => hb h.symm
            simp [this]
          rw [this]
      · rw [List.any_eq_true]
        exact ⟨_, List.mem_map_of_mem hn, by rw [keyB_iff, hf]; exact kk n⟩
    show updR f (putN _ (f n)) K = _
    rw [e, updR_map hf hnd K (D ++ [n]) (fun m hm => hK m (by simp [hm])) (by simpa using hd)]
    simp
/-- What all that are so become. -/
def mapR (f : Ro → Ro) (so : Ro → Bool) (L : List Ro) : List Ro := L.map fun m => if so m then f m else m
theorem updR_eq {f : Ro → Ro} (hf : ∀ n, (f n).k = n.k) {L K : List Ro} {so : Ro → Bool} (hnd : (L.map keyN).Nodup) (hp : K.Perm (L.filter so)) : updR f L K = mapR f so L := by
  have h1 : ∀ n ∈ K, n ∈ L := fun n hn => (List.mem_filter.1 (hp.mem_iff.1 hn)).1
  have h2 : (K.map keyN).Nodup := (hp.map _).nodup_iff.2 (List.Nodup.sublist (List.Sublist.map _ List.filter_sublist) hnd)
  have := updR_map hf hnd K [] h1 (by simpa using h2)
  simp only [List.nil_append] at this
  have e0 : (L.map fun m => if ([] : List Ro).any (keyB m.k) = true then f m else m) = L := by
    conv => rhs; rw [← List.map_id L]
    apply List.map_congr_left
    intro m _
    simp
  rw [e0] at this
  rw [this]
  apply List.map_congr_left
  intro m hm
  have : K.any (keyB m.k) = so m := by
    rw [Bool.eq_iff_iff, List.any_eq_true]
    constructor
    · rintro ⟨n, hn, hk⟩
      have := nd_inj hnd (h1 n hn) hm (show keyN n = keyN m from keyB_iff.1 hk)
      subst this
      exact (List.mem_filter.1 (hp.mem_iff.1 hn)).2
    · intro hs
      exact ⟨m, hp.mem_iff.2 (List.mem_filter.2 ⟨hm, hs⟩), keyB_self m⟩
  show (if K.any (keyB m.k) = true then f m else m) = _
  by_cases hs : so m = true
  · rw [if_pos (this.trans hs), if_pos hs]
  · rw [if_neg (show ¬ K.any (keyB m.k) = true by rw [this]; exact hs), if_neg hs]
end Go.Proofs.Ythofoocknmkdjaa
