/-
  A queue: Cancel, for every queue and every names.
-/
import Derived.Test.YtkamcnjofpamhaaTSet
namespace Go.Proofs.Ytkamcnjofpamhaa
open Go.RowKit Go.Maps
set_option linter.unusedSimpArgs false
/-- Is it the same name? -/
def nmB (s t : ByteArray) : Bool := s.data.toList == t.data.toList
theorem nmB_iff {s t : ByteArray} : nmB s t = true ↔ s = t := by
  unfold nmB
  constructor
  · intro h
    have h' := eq_of_beq h
    cases s; cases t
    simp at h'
    rw [h']
  · rintro rfl
    simp
theorem nmB_false {s t : ByteArray} (h : s ≠ t) : nmB s t = false := by
  cases hc : nmB s t with
  | false => rfl
  | true => exact absurd (nmB_iff.1 hc) h
/-- Those that are left where these names are cancelled. -/
def left (ns : List ByteArray) (L : List Tm) : List Tm := L.filter fun t => !(ns.any fun s => nmB t.nm s)
structure Names (w : World) (S : Nat → Prop) (a : Option Addr) (ns : List ByteArray) : Prop where
  sz : ∀ s ∈ ns, s.size ≤ maxLen
  at_ : ∀ (j : Nat) (h : j < ns.length), ∃ g, a = some ⟨g, 0, none⟩ ∧ g < w.heap.size ∧ ¬ S g ∧ w.cell? ⟨g, j, none⟩ = some (.string ns[j])
def Cancelled (w w' : World) (q mb : Nat) (v : Value) (L K : List Tm) (ns : List ByteArray) : Prop :=
  ∃ v', Qd w' q mb v' K ∧ K.Perm (left ns L) ∧ Frm (FootQ q mb v L) w w' ∧ v'.ownBlock = v.ownBlock
theorem foot_sub {q mb : Nat} {v v' : Value} {L K : List Tm} (hv : v'.ownBlock = v.ownBlock) (hK : ∀ t ∈ K, t ∈ L) {k : Nat} (h : FootQ q mb v' K k) : FootQ q mb v L k := by
  rcases h with (h | h | ⟨t, ht, e⟩) | h
  · exact .inl (.inl h)
  · exact .inl (.inr (.inl (hv ▸ h)))
  · exact .inl (.inr (.inr ⟨t, hK t ht, e⟩))
  · exact .inr h
theorem left_sub {ns : List ByteArray} {L K : List Tm} (hp : K.Perm (left ns L)) : ∀ t ∈ K, t ∈ L := fun _ ht => (List.mem_filter.1 (hp.mem_iff.1 ht)).1
theorem left_snoc (ns : List ByteArray) (s : ByteArray) (L : List Tm) : left (ns ++ [s]) L = (left ns L).filter fun t => !nmB t.nm s := by
  unfold left
  rw [List.filter_filter]
  apply List.filter_congr
  intro t _
  rw [List.any_append, List.any_cons, List.any_nil, Bool.or_false, Bool.not_or, Bool.and_comm]
theorem left_one {K J : List Tm} {t : Tm} (hnd : (K.map Tm.nm).Nodup) (hp : (J ++ [t]).Perm K) : J.Perm (K.filter fun x => !nmB x.nm t.nm) := by
  have h1 := hp.filter (fun x => !nmB x.nm t.nm)
  rw [List.filter_append] at h1
  have hn : ((J ++ [t]).map Tm.nm).Nodup := (hp.map _).nodup_iff.2 hnd
  rw [List.map_append, List.nodup_append] at hn
  have h2 : (J.filter fun x => !nmB x.nm t.nm) = J := by
    rw [List.filter_eq_self]
    intro x hx
    have := hn.2.2 x.nm (List.mem_map_of_mem hx) t.nm (by simp)
    rw [nmB_false this]
    rfl
  have h3 : ([t].filter fun x => !nmB x.nm t.nm) = [] := by
    rw [List.filter_cons, if_neg (by rw [nmB_iff.2 rfl]; simp)]
    rfl
  rwa [h2, h3, List.append_nil] at h1
set_option maxHeartbeats 2000000 in
set_option maxRecDepth 100000 in
theorem cancel_any (w : World) (q mb : Nat) (v : Value) (L : List Tm) (a : Option Addr) (c : Nat) (ns : List ByteArray) (h : Qd w q mb v L) (hl : L.length ≤ 10000) (hns : Names w (FootQ q mb v L) a ns) (hnl : ns.length ≤ 1000000) : Calls Try.prog 15 #[.pointer (some ⟨q, 0, none⟩), .slice a ns.length c] w (fun e w' => ∃ K, e = .returned (.int .i64 ((L.length : Int) - (K.length : Int))) ∧ Cancelled w w' q mb v L K ns) := by
  obtain ⟨ad, cap, hv⟩ := h.st.shape
  have c0 : w.cell? ⟨q, 0, none⟩ = some v := one_cell h.st.que rfl
  rw [hv] at c0
  have HV : Hid (v = .slice ad L.length cap) := hv
  clear hv
  go_enter Try.func15, Try.ntmps15
  go_wp2
  go_loopw [19] (fun u wr => ∃ (i : Nat) (K : List Tm), u = .int .i64 i ∧ i ≤ ns.length ∧ Cancelled w wr q mb v L K (ns.take i)) (fun u _ => ns.length - (intOf u).toNat)
  case atStart =>
    refine ⟨0, L, rfl, Nat.zero_le _, v, h, ?_, Frm.refl _ _, rfl⟩
    rw [show left (ns.take 0) L = L by unfold left; simp]
  case round =>
    obtain ⟨i, K, rfl, hi, hC⟩ := hrel
    have HC : Hid (Cancelled w wr q mb v L K (ns.take i)) := hC
    obtain ⟨v', hQ, hp, hF, ho⟩ := hC
    have hKl : K.length ≤ L.length := by rw [hp.length_eq]; exact List.length_filter_le _ _
    by_cases hlt : i < ns.length
    · obtain ⟨g, rfl, hg, hgS, hc⟩ := hns.at_ i hlt
      have hcr : wr.cell? ⟨g, i, none⟩ = some (.string ns[i]) := (World.cell?_of_block (w := w) (a := ⟨g, i, none⟩) (hF.block g hg hgS)).trans hc
      have hsz := hns.sz ns[i] (List.getElem_mem hlt)
      have c1 : wr.cell? ⟨q, 1, none⟩ = some (.map (some mb)) := one_cell hQ.st.que rfl
      have hts : ns.take (i + 1) = ns.take i ++ [ns[i]] := List.take_succ_eq_append_getElem hlt
      have hlt' : (i : Int) < (ns.length : Int) := by omega
      by_cases hin : ∃ t ∈ K, t.nm = ns[i]
      · obtain ⟨t, htK, htn⟩ := hin
        obtain ⟨j, hj, hjt⟩ := List.getElem_of_mem htK
        have hlk := hQ.mp.hit htK
        rw [htn] at hlk
        have c2 : wr.cell? ⟨t.b, 2, none⟩ = some (.int .i64 j) := by
          have := hQ.st.tim j hj
          rw [hjt] at this
          exact one_cell this rfl
        have T := take_any wr q mb v' K j hQ hj (by omega)
        have HN : Hid (∀ w1, Taken wr w1 q mb v' K t (remF K j).dropLast → Cancelled w w1 q mb v L (remF K j).dropLast (ns.take (i + 1))) := by
          rintro w1 ⟨v2, p, q2, F2, o2, _⟩
          refine ⟨v2, q2, ?_, hF.trans F2 (fun k hk => .inl (foot_sub ho (left_sub hp) hk)), o2.trans ho⟩
          have hpp : ((remF K j).dropLast ++ [t]).Perm K := by
            have := remF_split K j hj
            rw [hjt] at this
            rw [← this]
            exact remF_perm K j
          have h1 := left_one hQ.mp.nd hpp
          rw [hts, left_snoc, ← htn]
          exact h1.trans (hp.filter _)
        rw [hjt] at T
        generalize (remF K j).dropLast = J at *
        clear hQ hp hF hc hns h hts hjt
        generalize ns[i] = s at *
        go_wp2_with (go_at_call 30; refine T.mono ?_; rintro e w1 ⟨rfl, hT⟩; have hC1 := HN.out _ hT)
        go_roundw
        case rel => exact ⟨i + 1, J, by go_num, by omega, hC1⟩
        case measure => simp [intOf]; omega
      · have hno : ∀ t ∈ K, t.nm ≠ ns[i] := fun t ht e => hin ⟨t, ht, e⟩
        have hlk := hQ.mp.miss hsz hno
        have HN : Hid (Cancelled w wr q mb v L K (ns.take (i + 1))) := by
          refine ⟨v', hQ, ?_, hF, ho⟩
          rw [hts, left_snoc]
          have h1 : (K.filter fun t => !nmB t.nm ns[i]) = K := by
            rw [List.filter_eq_self]
            intro x hx
            rw [nmB_false (hno x hx)]
            rfl
          have h2 := hp.filter (fun t => !nmB t.nm ns[i])
          rwa [h1] at h2
        clear hQ hp hF hc hns h hts hin hno
        generalize ns[i] = s at *
        go_wp2
        go_roundw
        case rel => exact ⟨i + 1, K, by go_num, by omega, HN⟩
        case measure => simp [intOf]; omega
    · have hin : i = ns.length := by omega
      subst hin
      obtain ⟨ad', cap', hv'⟩ := hQ.st.shape
      have c3 : wr.cell? ⟨q, 0, none⟩ = some v' := one_cell hQ.st.que rfl
      rw [hv'] at c3
      clear hv' hQ hp hF ho hns h
      go_wp2
      go_ret
      refine ⟨K, rfl, ?_⟩
      have := HC.out
      rwa [List.take_of_length_le (Nat.le_refl _)] at this
end Go.Proofs.Ytkamcnjofpamhaa
