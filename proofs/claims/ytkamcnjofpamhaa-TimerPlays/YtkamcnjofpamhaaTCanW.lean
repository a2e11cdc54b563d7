/-
  What is cancelled never comes.
-/
import Derived.Test.YtkamcnjofpamhaaTCanB
namespace Go.Proofs.Ytkamcnjofpamhaa
open Go.RowKit Go.Maps
set_option linter.unusedSimpArgs false
theorem infoS : (Try.prog.info? 9).map (fun i => (i.zero, i.size, i.bytes)) = some (some (.string ⟨#[]⟩), 1, 16) := by kernel_rfl
/-- What is known of the queue behind i of the acts. -/
structure Kept (l : List Ac) (L : List Tm) : Prop where
  nm : ∀ x, (∃ t ∈ L, t.nm = x) ↔ ∃ a ∈ l, a.nm = x
  len : L.length ≤ l.length
  tm : ∀ t ∈ L, t.tm ≤ 9223372036854775807
theorem Kept.more {l : List Ac} {L L' : List Tm} {a : Ac} (h : Kept l L) (ha : a.tm ≤ 9223372036854775807) (hS : SetTo L L' a.nm a.tm) : Kept (l ++ [a]) L' := by
  refine ⟨fun x => ?_, ?_, fun t ht => ?_⟩
  · rw [hS.nm, h.nm]
    constructor
    · rintro (rfl | ⟨b, hb, e⟩)
      · exact ⟨a, by simp, rfl⟩
      · exact ⟨b, List.mem_append_left _ hb, e⟩
    · rintro ⟨b, hb, e⟩
      rcases List.mem_append.1 hb with h5 | h5
      · exact .inr ⟨b, h5, e⟩
      · simp at h5
        rw [h5] at e
        exact .inl e.symm
  · have := hS.len
    have := h.len
    simp
    omega
  · rcases hS.tm t ht with e | ⟨u, hu, e⟩
    · rw [e]; exact ha
    · rw [← e]; exact h.tm u hu
/-- Is one of these names the name? -/
def thereB (l : List Ac) (s : ByteArray) : Bool := l.any fun a => nmB a.nm s
theorem there_snoc (l : List Ac) (a : Ac) (s : ByteArray) : thereB (l ++ [a]) s = (thereB l s || nmB a.nm s) := by simp [thereB]
theorem there_iff {l : List Ac} {s : ByteArray} : thereB l s = true ↔ ∃ a ∈ l, a.nm = s := by
  unfold thereB
  rw [List.any_eq_true]
  exact ⟨fun ⟨a, h, e⟩ => ⟨a, h, nmB_iff.1 e⟩, fun ⟨a, h, e⟩ => ⟨a, h, nmB_iff.2 e⟩⟩
theorem Lv.drew {n : Nat} {W : World} {q mb : Nat} {L : List Tm} (h : Lv n W q mb L) : Lv n W.drew q mb L := h.below (Below.refl _ _).drew
theorem nmB_list (a s : ByteArray) : (a.toList == s.toList) = nmB a s := by unfold nmB; rw [ByteArray.toList_eq, ByteArray.toList_eq]
theorem Lv.lenx {n : Nat} {W : World} {q mb : Nat} {L : List Tm} (h : Lv n W q mb L) : Calls Try.prog 24 #[.pointer (some ⟨q, 0, none⟩)] W (fun e w' => e = .returned (.int .i64 L.length) ∧ W = w') := by
  obtain ⟨v, h1, h2⟩ := h
  exact qlen_any W q mb v L h1
theorem pop_facts {K : List Tm} (hnd : (K.map Tm.nm).Nodup) (h0 : 0 < K.length) : ((remF K 0).dropLast ++ [K[0]]).Perm K ∧ (∀ t ∈ (remF K 0).dropLast, t ∈ K ∧ t.nm ≠ K[0].nm) ∧ (remF K 0).dropLast.length + 1 = K.length := by
  have hs := remF_split K 0 h0
  have hp : ((remF K 0).dropLast ++ [K[0]]).Perm K := by
    have := remF_perm K 0
    rw [hs] at this
    exact this
  refine ⟨hp, fun t ht => ⟨hp.mem_iff.1 (List.mem_append_left _ ht), ?_⟩, by have := hp.length_eq; simpa using this⟩
  have hn : (((remF K 0).dropLast ++ [K[0]]).map Tm.nm).Nodup := (hp.map _).nodup_iff.2 hnd
  rw [List.map_append, List.nodup_append] at hn
  exact hn.2.2 _ (List.mem_map_of_mem ht) _ (by simp)
theorem back_facts {K' J M : List Tm} {x : Tm} (hnd : (J.map Tm.nm).Nodup) (hJ : J.Perm (K' ++ [x])) (hM : M.Perm (left [x.nm] J)) : M.Perm K' := by
  have h1 := left_one hnd hJ.symm
  have e : left [x.nm] J = J.filter fun t => !nmB t.nm x.nm := by
    unfold left
    apply List.filter_congr
    intro t _
    simp
  rw [e] at hM
  exact hM.trans h1.symm
theorem block_kp {n : Nat} {W W' : World} {g : Nat} {arr : Array Value} (h : W.heap[g]? = some (.cells arr 39 (0, 0))) (k : Kp n W W') : W'.heap[g]? = some (.cells arr 39 (0, 0)) := k.cells g arr _ h (by decide) (by decide) (by decide)
def nms (l : List Ac) : List ByteArray := l.map Ac.nm
set_option maxHeartbeats 4000000 in
set_option maxRecDepth 100000 in
theorem can_walk (ad : Option Addr) (n c : Nat) (l : List Ac) (s : ByteArray) (w : World) (hl : l.length = n) (hb : ∀ a ∈ l, a.nm.size ≤ maxLen ∧ -9223372036854775808 ≤ a.tm ∧ a.tm ≤ 9223372036854775807) (hm : n = 0 ∨ ∃ g o, ad = some ⟨g, o, none⟩ ∧ g < w.heap.size ∧ ∀ j a, l[j]? = some a → w.rangeAt g (o + j * 3) (acells a)) (hs : s.size ≤ maxLen) :
    Calls Try.prog 8 #[.slice ad n c, .string s] w (Gives w (.bool true)) := by
  by_cases h1 : 200 < n
  · have h1' : (200 : Int) < (n : Int) := by omega
    clear hb hm
    go_enter Try.func8, Try.ntmps8
    go_wp2_with (go_at_call 9; refine (live_any _).mono ?_; rintro e w9 ⟨rfl, b9⟩)
    go_ret
    exact ⟨rfl, b9⟩
  have h1' : ¬ (200 : Int) < (n : Int) := by omega
  by_cases h2 : 5000 < s.size
  · have h2' : (5000 : Int) < (s.size : Int) := by omega
    clear hb hm
    go_enter Try.func8, Try.ntmps8
    go_wp2_with (go_at_call 9; refine (live_any _).mono ?_; rintro e w9 ⟨rfl, b9⟩)
    go_ret
    exact ⟨rfl, b9⟩
  have h2' : ¬ (5000 : Int) < (s.size : Int) := by omega
  have N := lv_new w
  obtain ⟨i0, hi0, hz0, hz1, hz2⟩ := info_parts infoS
  have HL : Hid (l.length = n ∧ n ≤ 200 ∧ s.size ≤ maxLen) := ⟨hl, by omega, hs⟩
  clear hl h1 h2
  go_enter Try.func8, Try.ntmps8
  go_wp2_with (go_at_call 10; refine N.mono ?_; rintro e w1 ⟨rfl, l1, k1⟩; clear N)
  go_loopw [6, 7, 8] (fun v t u wr => ∃ (i : Nat) (L : List Tm), u = .int .i64 i ∧ t = .bool (thereB (l.take i) s) ∧ i ≤ n ∧ Lv w.heap.size wr (w.heap.size + 1) w.heap.size L ∧ Below w.heap.size w wr ∧ wr.ownsRow w.heap.size 9 1 v i (strs (nms (l.take i))) ∧ Hid (Kept (l.take i) L)) (fun _ _ u _ => n - (intOf u).toNat)
  case atStart =>
    refine ⟨0, [], rfl, rfl, Nat.zero_le _, l1, k1.below, World.ownsRow_nil _ _ _ _, ?_⟩
    exact ⟨fun x => by simp, by simp, fun t ht => by cases ht⟩
  case round =>
    obtain ⟨i, L, rfl, rfl, hi, hL, hB, hO, HK⟩ := hrel
    by_cases hlt : i < n
    · have hlt' : (i : Int) < (n : Int) := by omega
      have hil : i < l.length := by rw [HL.out.1]; exact hlt
      rcases hm with h0 | ⟨g, o, rfl, hg, hx⟩
      · omega
      have hr := hx i l[i] (by simp)
      have c1 : wr.cell? ⟨g, o + i * 3 + 1, none⟩ = some (.string l[i].nm) := (hB.cell (p := ⟨g, o + i * 3 + 1, none⟩) hg).trans (hr 1 _ rfl)
      have c2 : wr.cell? ⟨g, o + i * 3 + 2, none⟩ = some (.int .i64 l[i].tm) := (hB.cell (p := ⟨g, o + i * 3 + 2, none⟩) hg).trans (hr 2 _ rfl)
      have hbi := hb l[i] (List.getElem_mem hil)
      have hts : l.take (i + 1) = l.take i ++ [l[i]] := List.take_succ_eq_append_getElem hil
      generalize l[i] = a at *
      by_cases h5 : 5000 < a.nm.size
      · have h5' : (5000 : Int) < (a.nm.size : Int) := by omega
        go_wp2_with (go_at_call 9; refine (live_any _).mono ?_; rintro e w9 ⟨rfl, b9⟩)
        go_ret
        exact ⟨rfl, hB.trans (b9.mono hB.size)⟩
      · have h5' : ¬ (5000 : Int) < (a.nm.size : Int) := by omega
        have SA := (hL.drew).set_any (W := wr.drew) (n := w.heap.size) hB.size a.nm a.tm hbi.1 (by have := HK.out.len; have := HL.out; simp at *; omega)
        have hO' : wr.drew.ownsRow w.heap.size 9 1 u6 i (strs (nms (l.take i))) := hO
        have hB' : Below w.heap.size w wr.drew := hB.drew
        have HC : Hid (∀ W, Below w.heap.size wr.drew W → W.cell? ⟨g, o + i * 3 + 1, none⟩ = some (.string a.nm)) := fun W hW => (hW.cell (p := ⟨g, o + i * 3 + 1, none⟩) hg).trans c1
        have HX : Hid (hb = hb ∧ l.take (i + 1) = l.take i ++ [a] ∧ a.tm ≤ 9223372036854775807) := ⟨rfl, hts, hbi.2.2⟩
        have hsz : w.heap.size ≤ wr.heap.size := hB.size
        clear hr hts hbi hL hO hx
        go_wp2
        go_region_with (go_at_call 12; refine SA.mono ?_; rintro e w2 ⟨rfl, L2, l2, k2, S2⟩)
        all_goals
          have bw2 : Below w.heap.size w w2 := hB'.trans k2.below
          have o2 := row_kp hO' k2
          have d2 := HC.out w2 k2.below
          have z2 : w.heap.size ≤ w2.heap.size := bw2.size
          have la := l2.alloc (.cells #[.string a.nm] 9)
          have ba2 := bw2.alloc z2 (.cells #[.string a.nm] 9)
          have HW : Hid (∀ v' w3, w3.ownsRow w.heap.size 9 1 v' (i + 1) (strs (nms (l.take i)) ++ [.string a.nm]) → (w2.alloc (.cells #[.string a.nm] 9)).grownBy w3 u6.ownBlock → Lv w.heap.size w3 (w.heap.size + 1) w.heap.size L2 ∧ Below w.heap.size w w3 ∧ w3.ownsRow w.heap.size 9 1 v' (i + 1) (strs (nms (l.take (i + 1)))) ∧ w3.cell? ⟨g, o + i * 3 + 1, none⟩ = some (.string a.nm) ∧ Kept (l.take (i + 1)) L2 ∧ thereB (l.take (i + 1)) s = (thereB (l.take i) s || nmB a.nm s)) := by
            intro v' w3 h3 g3
            have hrow : ∀ k, u6.ownBlock = some k → w.heap.size ≤ k ∧ ∃ cur, (w2.alloc (.cells #[.string a.nm] 9)).heap[k]? = some (.cells cur 9 (0, 0)) := fun k hk => by
              obtain ⟨h6, cur, h7⟩ := row_tagS o2 hk
              exact ⟨h6, cur, (Below.heap_alloc _ _ _ (Array.getElem?_eq_some_iff.1 h7).1).trans h7⟩
            have bw3 : Below w.heap.size w w3 := ba2.grown g3 ba2.size (fun k hk => (hrow k hk).1)
            refine ⟨la.grown g3 (fun k hk => (hrow k hk).2), bw3, ?_, (bw3.cell (p := ⟨g, o + i * 3 + 1, none⟩) hg).trans ((hB'.cell (p := ⟨g, o + i * 3 + 1, none⟩) hg).symm.trans c1), ?_, ?_⟩
            · rw [HX.out.2.1]
              have e : strs (nms (l.take i ++ [a])) = strs (nms (l.take i)) ++ [.string a.nm] := by simp [strs, nms]
              rw [e]
              exact h3
            · rw [HX.out.2.1]
              exact HK.out.more HX.out.2.2 S2
            · rw [HX.out.2.1, there_snoc]
          clear SA hO' hB' c1 c2 HC bw2 ba2 la l2 k2 S2
          cases hT : thereB (l.take i) s
          all_goals
            rw [hT] at HW
            go_wp2_with (first
              | (at_builtin; refine wpList_append_own_at _ rfl _ _ 57 rfl w.heap.size 9 i0 (.string ⟨#[]⟩) 1 16 Try.underlying57 hi0 hz0 hz1 hz2 rfl (by decide) _ i (strs (nms (l.take i))) rfl (o2.alloc _) ⟨w2.heap.size, 0, none⟩ 1 1 [.string a.nm] rfl rfl (cell_one_new _ _ _) (by simp [Value.oneCell']) (by have := HL.out; unfold maxLen; omega) (by have := HL.out; omega) (by simp; omega) ?_; intro v' w3 hown hgrow _ hloc; obtain ⟨l3, b3, r3, c3, f3, t3⟩ := HW.out _ _ hown hgrow))

            refine ⟨⟨i + 1, L2, nxt i, ?_, hlt, l3, b3, r3, f3⟩, meas n i hlt⟩
            rw [t3]
            first | rfl | (rw [nmB_list]; simp)
    · have hin' : i = n := by omega
      subst hin'
      have htk : l.take i = l := List.take_of_length_le (by rw [HL.out.1]; exact Nat.le_refl _)
      rw [htk] at HK hO
      have HT : Hid (l.take i = l) := htk
      have hlen : L.length ≤ 200 := by have := HK.out.len; have := HL.out; omega
      have LN := hL.lenx
      have CA : Calls Try.prog 15 #[.pointer (some ⟨w.heap.size + 1, 0, none⟩), .slice (some ⟨wr.heap.size, 0, none⟩) 2 2] (wr.alloc (.cells #[.string s, .string s] 9)) (CanPost w.heap.size (wr.alloc (.cells #[.string s, .string s] 9)) (w.heap.size + 1) w.heap.size L [s, s]) :=
        (hL.alloc (.cells #[.string s, .string s] 9)).cancel (leA hB.size _) (by omega) (some ⟨wr.heap.size, 0, none⟩) 2 [s, s] (by intro x hx; simp at hx; rw [hx]; exact HL.out.2.2) (by simp) (.inr ⟨wr.heap.size, _, rfl, new_block _ _ _, (by intro j hj; match j, hj with | 0, _ => rfl | 1, _ => rfl)⟩)
      have hcase := left_len hL.nd s
      rw [htk]
      have HSN : Hid ((∀ x ∈ nms l, x.size ≤ maxLen) ∧ (nms l).length ≤ 1000000) := ⟨fun x hx => by
        obtain ⟨a, ha, rfl⟩ := List.mem_map.1 hx
        exact (hb a ha).1, by have := HL.out; simp [nms]; omega⟩
      have HSZ : Hid (∀ t ∈ L, t.nm.size ≤ maxLen) := fun t ht => by
        obtain ⟨a, ha, e⟩ := (HK.out.nm t.nm).1 ⟨t, ht, rfl⟩
        rw [← e]
        exact (hb a ha).1
      clear htk hm hb hi hlt
      by_cases hin : ∃ t ∈ L, t.nm = s
      · have HC : Hid (∀ K : List Tm, K.Perm (left [s, s] L) → (L.length : Int) - (K.length : Int) = 1 ∧ K.length + 1 = L.length ∧ ∀ t ∈ K, t.nm ≠ s ∧ t.tm ≤ 9223372036854775807) := by
          intro K hp
          rw [left_two] at hp
          have hpl := hp.length_eq
          have hll : (L.filter fun t => !nmB t.nm s).length + 1 = L.length := by
            rcases hcase with h | h
            · exact h.2
            · exact absurd hin h.1
          refine ⟨by omega, by omega, fun t ht => ?_⟩
          have hf := List.mem_filter.1 (hp.mem_iff.1 ht)
          refine ⟨fun e => ?_, HK.out.tm t hf.1⟩
          have := hf.2
          rw [nmB_iff.2 e] at this
          simp at this
        have hth : thereB l s = true := by
          rw [there_iff, ← HK.out.nm]; exact hin
        clear hcase
        go_wp2_with (first
          | (go_at_call 24; have hh := b4; refine l4.lenx.mono ?_; rintro e w5 ⟨rfl, rfl⟩; rw [hKl]; clear hh)
          | (go_at_call 24; refine LN.mono ?_; rintro e w2 ⟨rfl, rfl⟩)
          | (go_at_call 15; refine CA.mono ?_; rintro e w3 ⟨K, rfl, hp, l3, k3⟩; obtain ⟨q1, q2, q3⟩ := HC.out K hp; rw [q1]; have hKl : (K.length : Int) = (L.length : Int) - 1 := (by omega))
          | (go_at_call 22; refine (l3.at_miss s HL.out.2.2 (fun t ht => (q3 t ht).1)).mono ?_; rintro e w4 ⟨rfl, b4⟩; have l4 := l3.below b4))
        have o4 : w4.ownsRow w.heap.size 9 1 u6 i (strs (nms l)) := row_kp (row_kp (hO.alloc _) k3) (Kp.of_below b4 (k3.le (leA hB.size _)))
        have bw4 : Below w.heap.size w w4 := ((hB.alloc hB.size _).trans k3.below).trans (b4.mono (k3.le (leA hB.size _)))
        have HQ : Hid (K.length = L.length - 1 ∧ ∀ t ∈ K, t.nm ≠ s ∧ t.tm ≤ 9223372036854775807 ∧ t.nm.size ≤ maxLen) := ⟨by omega, fun t ht => ⟨(q3 t ht).1, (q3 t ht).2, HSZ.out t (by have := hp.mem_iff.1 ht; exact (List.mem_filter.1 this).1)⟩⟩
        clear CA LN hL hO hB l3 k3 b4 q1 q2 q3 hp hKl
        go_loopw [13] (fun u wr => ∃ (y : Nat) (K : List Tm), u = .int .i64 y ∧ y ≤ L.length ∧ Lv w.heap.size wr (w.heap.size + 1) w.heap.size K ∧ Below w.heap.size w wr ∧ wr.ownsRow w.heap.size 9 1 u6 i (strs (nms l)) ∧ Hid (K.length = (L.length - 1) - y ∧ ∀ t ∈ K, t.nm ≠ s ∧ t.tm ≤ 9223372036854775807 ∧ t.nm.size ≤ maxLen)) (fun u _ => L.length - (intOf u).toNat)
        case atStart => exact ⟨0, K, rfl, Nat.zero_le _, l4, bw4, o4, HQ⟩
        case round =>
          clear l4 bw4 o4 HQ
          rename World => wq
          obtain ⟨y, K, rfl, hy, hK, hB, hO, HQ⟩ := hrel
          have hz := hB.size
          by_cases hlt : y < L.length
          · have hlt' : (y : Int) < (L.length : Int) := by omega
            by_cases hk0 : K = []
            · subst hk0
              have hge : ¬ (y : Int) < (L.length : Int) - 1 := by have := HQ.out.1; simp at this; omega
              have hge2 : ¬ y < L.length - 1 := by omega
              go_wp2_with (go_at_call 16; refine (hK.pop_none hz 9223372036854775807).mono ?_; rintro e w5 ⟨rfl, l5, k5⟩; unfold noDue dueV)
              refine ⟨⟨y + 1, [], nxt y, by omega, l5.alloc _, (hB.trans k5.below).alloc (hB.trans k5.below).size _, (row_kp hO k5).alloc _, ⟨by have := HQ.out.1; simp at this ⊢; omega, fun t ht => by cases ht⟩⟩, meas _ _ hlt⟩
            · have hpos : 0 < K.length := List.length_pos_iff.2 hk0
              have hlt2 : (y : Int) < (L.length : Int) - 1 := by have := HQ.out.1; omega
              obtain ⟨f1, f2, f3⟩ := pop_facts hK.nd hpos
              have hq0 := HQ.out.2 K[0] (List.getElem_mem hpos)
              have PD := hK.pop_due hz 9223372036854775807 hpos (by have := HQ.out.1; omega) hq0.2.1
              have HR : Hid (∀ M : List Tm, M.Perm (remF K 0).dropLast → M.length = (L.length - 1) - (y + 1) ∧ ∀ t ∈ M, t.nm ≠ s ∧ t.tm ≤ 9223372036854775807 ∧ t.nm.size ≤ maxLen) := fun M hM => ⟨by have := hM.length_eq; have := HQ.out.1; omega, fun t ht => HQ.out.2 t (f2 t (hM.mem_iff.1 ht)).1⟩
              have hne : (K[0].nm.toList == s.toList) = false := by rw [nmB_list]; exact nmB_false hq0.1
              have hneq : ¬ K[0].nm = s := hq0.1
              have hsz := hq0.2.2
              have F2 : Hid (∀ t ∈ (remF K 0).dropLast, t.nm ≠ K[0].nm) := fun t ht => (f2 t ht).2
              have F3 : Hid ((remF K 0).dropLast.length < 4096) := by show _ < _; have := HQ.out.1; omega
              clear f1 f2 f3 hq0 hK
              generalize (remF K 0).dropLast = K' at *
              generalize K[0].nm = nm at *
              generalize K[0].tm = tm at *
              go_wp2_with (first
                | (go_at_call 15; have hh := c6; refine ((l6.alloc (.cells #[.string nm] 9)).cancel (leA z6 _) (by rw [(upF_perm _ _ _).length_eq]; have := F3.out; simp; omega) (some ⟨w6.heap.size, 0, none⟩) 1 [nm] (by intro x hx; simp at hx; rw [hx]; exact hsz) (by simp) (.inr ⟨w6.heap.size, _, rfl, new_block _ _ _, (by intro j hj; match j, hj with | 0, _ => rfl)⟩)).mono ?_; rintro e w7 ⟨M, rfl, hM, l7, k7⟩)
                | (go_at_call 12; refine ((l5.alloc (.cells #[.string nm, .int .i64 tm] 39)).set_new (leA z5 _) nm (-9223372036854775808) hsz F2.out F3.out).mono ?_; rintro e w6 ⟨rfl, l6, k6⟩; have z6 : w.heap.size ≤ w6.heap.size := Nat.le_trans (leA z5 (.cells #[.string nm, .int .i64 tm] 39)) k6.below.size; have c6 : w6.cell? ⟨w5.heap.size, 0, none⟩ = some (.string nm) := one_cell (block_kp (new_block w5 #[.string nm, .int .i64 tm] 39) k6) rfl)
                | (go_at_call 16; refine PD.mono ?_; rintro e w5 ⟨rfl, l5, k5⟩; have z5 : w.heap.size ≤ w5.heap.size := Nat.le_trans hz k5.below.size; unfold dueV))
              have bw5 := (hB.trans k5.below).alloc z5 (.cells #[.string nm, .int .i64 tm] 39)
              have bw6 := (bw5.trans k6.below).alloc z6 (.cells #[.string nm] 9)
              have ow6 := (row_kp ((row_kp hO k5).alloc (.cells #[.string nm, .int .i64 tm] 39)) k6).alloc (.cells #[.string nm] 9)
              exact ⟨⟨y + 1, M, nxt y, by omega, l7, bw6.trans k7.below, row_kp ow6 k7, HR.out M (back_facts (x := ⟨_, _, nm⟩) l6.nd (upF_perm _ _ _) hM)⟩, meas _ _ hlt⟩
          · have hyl : ¬ (y : Int) < (L.length : Int) := by omega
            obtain rfl : K = [] := List.eq_nil_of_length_eq_zero (by have := HQ.out.1; omega)
            obtain ⟨hnl, aN, cN, rfl, hcase⟩ := row_names hO
            have CB := hK.cancel hz (by simp) aN cN (nms l) HSN.out.1 HSN.out.2 hcase
            rw [hnl] at CB
            go_wp2_with (first
              | (go_at_call 9; refine (live_any _).mono ?_; rintro e w9 ⟨rfl, b9⟩)
              | (go_at_call 24; have hh := k8; refine l8.lenx.mono ?_; rintro e w5 ⟨rfl, rfl⟩)
              | (go_at_call 15; refine CB.mono ?_; rintro e w8 ⟨M, rfl, hM, l8, k8⟩; have hMn : M = [] := (List.perm_nil.1 (by simpa [left] using hM)); subst hMn))
            go_ret
            have bw8 := hB.trans k8.below
            exact ⟨rfl, bw8.trans (b9.mono bw8.size)⟩
      · have HC : Hid (∀ K : List Tm, K.Perm (left [s, s] L) → (L.length : Int) - (K.length : Int) = 0 ∧ K.length + 0 = L.length ∧ ∀ t ∈ K, t.nm ≠ s ∧ t.tm ≤ 9223372036854775807) := by
          intro K hp
          rw [left_two] at hp
          have hpl := hp.length_eq
          have hll : (L.filter fun t => !nmB t.nm s).length = L.length := by
            rcases hcase with h | h
            · exact absurd h.1 hin
            · rw [h.2]
          refine ⟨by omega, by omega, fun t ht => ?_⟩
          have hf := List.mem_filter.1 (hp.mem_iff.1 ht)
          refine ⟨fun e => ?_, HK.out.tm t hf.1⟩
          have := hf.2
          rw [nmB_iff.2 e] at this
          simp at this
        have hth : thereB l s = false := by
          cases hc : thereB l s with | false => rfl | true => exact absurd ((HK.out.nm s).2 (there_iff.1 hc)) hin
        clear hcase
        go_wp2_with (first
          | (go_at_call 24; have hh := b4; refine l4.lenx.mono ?_; rintro e w5 ⟨rfl, rfl⟩; rw [hKl]; clear hh)
          | (go_at_call 24; refine LN.mono ?_; rintro e w2 ⟨rfl, rfl⟩)
          | (go_at_call 15; refine CA.mono ?_; rintro e w3 ⟨K, rfl, hp, l3, k3⟩; obtain ⟨q1, q2, q3⟩ := HC.out K hp; rw [q1]; have hKl : (K.length : Int) = (L.length : Int) := (by omega))
          | (go_at_call 22; refine (l3.at_miss s HL.out.2.2 (fun t ht => (q3 t ht).1)).mono ?_; rintro e w4 ⟨rfl, b4⟩; have l4 := l3.below b4))
        have o4 : w4.ownsRow w.heap.size 9 1 u6 i (strs (nms l)) := row_kp (row_kp (hO.alloc _) k3) (Kp.of_below b4 (k3.le (leA hB.size _)))
        have bw4 : Below w.heap.size w w4 := ((hB.alloc hB.size _).trans k3.below).trans (b4.mono (k3.le (leA hB.size _)))
        have HQ : Hid (K.length = L.length - 0 ∧ ∀ t ∈ K, t.nm ≠ s ∧ t.tm ≤ 9223372036854775807 ∧ t.nm.size ≤ maxLen) := ⟨by omega, fun t ht => ⟨(q3 t ht).1, (q3 t ht).2, HSZ.out t (by have := hp.mem_iff.1 ht; exact (List.mem_filter.1 this).1)⟩⟩
        clear CA LN hL hO hB l3 k3 b4 q1 q2 q3 hp hKl
        go_loopw [13] (fun u wr => ∃ (y : Nat) (K : List Tm), u = .int .i64 y ∧ y ≤ L.length ∧ Lv w.heap.size wr (w.heap.size + 1) w.heap.size K ∧ Below w.heap.size w wr ∧ wr.ownsRow w.heap.size 9 1 u6 i (strs (nms l)) ∧ Hid (K.length = (L.length - 0) - y ∧ ∀ t ∈ K, t.nm ≠ s ∧ t.tm ≤ 9223372036854775807 ∧ t.nm.size ≤ maxLen)) (fun u _ => L.length - (intOf u).toNat)
        case atStart => exact ⟨0, K, rfl, Nat.zero_le _, l4, bw4, o4, HQ⟩
        case round =>
          clear l4 bw4 o4 HQ
          rename World => wq
          obtain ⟨y, K, rfl, hy, hK, hB, hO, HQ⟩ := hrel
          have hz := hB.size
          by_cases hlt : y < L.length
          · have hlt' : (y : Int) < (L.length : Int) := by omega
            by_cases hk0 : K = []
            · exfalso
              have := HQ.out.1
              rw [hk0] at this
              simp at this
              omega
            · have hpos : 0 < K.length := List.length_pos_iff.2 hk0
              have hlt2 : (y : Int) < (L.length : Int) - 0 := by have := HQ.out.1; omega
              obtain ⟨f1, f2, f3⟩ := pop_facts hK.nd hpos
              have hq0 := HQ.out.2 K[0] (List.getElem_mem hpos)
              have PD := hK.pop_due hz 9223372036854775807 hpos (by have := HQ.out.1; omega) hq0.2.1
              have HR : Hid (∀ M : List Tm, M.Perm (remF K 0).dropLast → M.length = (L.length - 0) - (y + 1) ∧ ∀ t ∈ M, t.nm ≠ s ∧ t.tm ≤ 9223372036854775807 ∧ t.nm.size ≤ maxLen) := fun M hM => ⟨by have := hM.length_eq; have := HQ.out.1; omega, fun t ht => HQ.out.2 t (f2 t (hM.mem_iff.1 ht)).1⟩
              have hne : (K[0].nm.toList == s.toList) = false := by rw [nmB_list]; exact nmB_false hq0.1
              have hneq : ¬ K[0].nm = s := hq0.1
              have hsz := hq0.2.2
              have F2 : Hid (∀ t ∈ (remF K 0).dropLast, t.nm ≠ K[0].nm) := fun t ht => (f2 t ht).2
              have F3 : Hid ((remF K 0).dropLast.length < 4096) := by show _ < _; have := HQ.out.1; omega
              clear f1 f2 f3 hq0 hK
              generalize (remF K 0).dropLast = K' at *
              generalize K[0].nm = nm at *
              generalize K[0].tm = tm at *
              go_wp2_with (first
                | (go_at_call 15; have hh := c6; refine ((l6.alloc (.cells #[.string nm] 9)).cancel (leA z6 _) (by rw [(upF_perm _ _ _).length_eq]; have := F3.out; simp; omega) (some ⟨w6.heap.size, 0, none⟩) 1 [nm] (by intro x hx; simp at hx; rw [hx]; exact hsz) (by simp) (.inr ⟨w6.heap.size, _, rfl, new_block _ _ _, (by intro j hj; match j, hj with | 0, _ => rfl)⟩)).mono ?_; rintro e w7 ⟨M, rfl, hM, l7, k7⟩)
                | (go_at_call 12; refine ((l5.alloc (.cells #[.string nm, .int .i64 tm] 39)).set_new (leA z5 _) nm (-9223372036854775808) hsz F2.out F3.out).mono ?_; rintro e w6 ⟨rfl, l6, k6⟩; have z6 : w.heap.size ≤ w6.heap.size := Nat.le_trans (leA z5 (.cells #[.string nm, .int .i64 tm] 39)) k6.below.size; have c6 : w6.cell? ⟨w5.heap.size, 0, none⟩ = some (.string nm) := one_cell (block_kp (new_block w5 #[.string nm, .int .i64 tm] 39) k6) rfl)
                | (go_at_call 16; refine PD.mono ?_; rintro e w5 ⟨rfl, l5, k5⟩; have z5 : w.heap.size ≤ w5.heap.size := Nat.le_trans hz k5.below.size; unfold dueV))
              have bw5 := (hB.trans k5.below).alloc z5 (.cells #[.string nm, .int .i64 tm] 39)
              have bw6 := (bw5.trans k6.below).alloc z6 (.cells #[.string nm] 9)
              have ow6 := (row_kp ((row_kp hO k5).alloc (.cells #[.string nm, .int .i64 tm] 39)) k6).alloc (.cells #[.string nm] 9)
              exact ⟨⟨y + 1, M, nxt y, by omega, l7, bw6.trans k7.below, row_kp ow6 k7, HR.out M (back_facts (x := ⟨_, _, nm⟩) l6.nd (upF_perm _ _ _) hM)⟩, meas _ _ hlt⟩
          · have hyl : ¬ (y : Int) < (L.length : Int) := by omega
            obtain rfl : K = [] := List.eq_nil_of_length_eq_zero (by have := HQ.out.1; omega)
            obtain ⟨hnl, aN, cN, rfl, hcase⟩ := row_names hO
            have CB := hK.cancel hz (by simp) aN cN (nms l) HSN.out.1 HSN.out.2 hcase
            rw [hnl] at CB
            go_wp2_with (first
              | (go_at_call 9; refine (live_any _).mono ?_; rintro e w9 ⟨rfl, b9⟩)
              | (go_at_call 24; have hh := k8; refine l8.lenx.mono ?_; rintro e w5 ⟨rfl, rfl⟩)
              | (go_at_call 15; refine CB.mono ?_; rintro e w8 ⟨M, rfl, hM, l8, k8⟩; have hMn : M = [] := (List.perm_nil.1 (by simpa [left] using hM)); subst hMn))
            go_ret
            have bw8 := hB.trans k8.below
            exact ⟨rfl, bw8.trans (b9.mono bw8.size)⟩
end Go.Proofs.Ytkamcnjofpamhaa
