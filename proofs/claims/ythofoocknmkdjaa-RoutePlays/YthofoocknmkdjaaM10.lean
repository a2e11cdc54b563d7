/-
  The document's Same of two lists that are one; a law's loop of tales: what is there.
-/
import Derived.Test.YthofoocknmkdjaaM09
import Derived.Maps.RangeWalk
namespace Go.Proofs.Ythofoocknmkdjaa
open Go.RowKit Go.Maps Go.Shelf
set_option linter.unusedSimpArgs false
set_option linter.unusedVariables false
set_option maxRecDepth 20000
/-- Routes in memory. -/
structure SsW (w : World) (ad : Option Addr) (K : List Ro) : Prop where
  lies : K ≠ [] → ∃ g, ad = some ⟨g, 0, none⟩ ∧ g < w.heap.size ∧ ∀ (j : Nat) (n : Ro), K[j]? = some n → LS w g (j * 81) n
theorem SsW.below {w w' : World} {ad : Option Addr} {K : List Ro} (h : SsW w ad K) (hb : Below w.heap.size w w') : SsW w' ad K :=
  ⟨fun hne => by
    obtain ⟨g, e, hg, hc⟩ := h.lies hne
    exact ⟨g, e, Nat.lt_of_lt_of_le hg hb.size, fun j n hj => rangeAt_below (hc j n hj) hb hg⟩⟩
theorem SsW.own {w : World} {B : Nat} {v : Value} {K : List Ro} (h : kN.Own w B v K) : ∃ ad c, v = .slice ad K.length c ∧ SsW w ad K := by
  obtain ⟨ad, c, e, hat⟩ := Kd.own_at h
  refine ⟨ad, c, e, ⟨fun hne => ?_⟩⟩
  obtain ⟨g, e2, _, hg, _, hc⟩ := hat hne
  exact ⟨g, e2, hg, hc⟩
set_option maxHeartbeats 8000000 in
theorem rsame_any {w : World} {K : List Ro} (a1 a2 : Option Addr) (c1 c2 : Nat) (h1 : SsW w a1 K) (h2 : SsW w a2 K) (hl : K.length ≤ 1000000) : Calls Try.prog 13 #[.slice a1 K.length c1, .slice a2 K.length c2] w (Gives w (.bool true)) := by
  go_enter Try.func13, Try.ntmps13
  go_wp2_with fail
  go_loopw [5] (fun v wr => ∃ j : Nat, j ≤ K.length ∧ v = .int .i64 j ∧ Below w.heap.size w wr) (fun v _ => K.length - (intOf v).toNat)
  case atStart => exact ⟨0, Nat.zero_le _, rfl, Below.refl _ _⟩
  case round =>
    obtain ⟨j, hj, rfl, hb⟩ := hrel
    by_cases hlt : j < K.length
    · obtain ⟨g1, rfl, k1, hc1⟩ := (h1.below hb).lies (by intro e; rw [e] at hlt; simp at hlt)
      obtain ⟨g2, rfl, k2, hc2⟩ := (h2.below hb).lies (by intro e; rw [e] at hlt; simp at hlt)
      have q1 := hc1 j _ (List.getElem?_eq_getElem hlt)
      have q2 := hc2 j _ (List.getElem?_eq_getElem hlt)
      have hji : (j : Int) < (K.length : Int) := by omega
      have hw64 : wrap64 ((j : Int) + 1) = (j : Int) + 1 := by unfold wrap64; omega
      have HJ : Hid (j + 1 ≤ K.length) := hlt
      have HM : Hid (K.length - ((j : Int) + 1).toNat < K.length - ((j : Int)).toNat) := meas hlt
      clear hc1 hc2 h1 h2
      generalize K[j] = n at *
      have hEq : ∀ W, (binOp .neq 41 (rV n) (rV n)).run Try.prog W = .ok (.bool false) W := fun W => by rw [run_neqR, eqRo_self]; rfl
      have gEq := fun op a b W => guardR op a b n n W
      go_upto_region 6 with fail
      refine wp_region_noPanic ?_
      refine wp_region_held_drew (S := fun W => Below wr.heap.size wr W) (by kernel_rfl) ((Below.refl _ _).drew) (fun hHeld => ?_)
      refine take_lit (i := 0) (v := ?_) rfl (by kernel_rfl) (by kernel_rfl) (by kernel_rfl) (fun _ _ _ h => h) (Or.inl ⟨by rfl, ?_⟩) (by assumption) ?_
      rotate_left
      · (intro w hSw; (try dsimp only at hSw); go_simp <;> with_reducible rfl)
      try simp only [Act.put, List.setIfInBounds_toArray, List.set_cons_zero, List.set_cons_succ]
      refine take_lit (i := 1) (v := ?_) rfl (by kernel_rfl) (by kernel_rfl) (by kernel_rfl) (fun _ _ _ h => h) (Or.inl ⟨by rfl, ?_⟩) (by assumption) ?_
      rotate_left
      · (intro w hSw; (try dsimp only at hSw); go_simp <;> with_reducible rfl)
      try simp only [Act.put, List.setIfInBounds_toArray, List.set_cons_zero, List.set_cons_succ]
      refine take_lit (i := 2) (v := ?_) rfl (by kernel_rfl) (by kernel_rfl) (by kernel_rfl) (fun _ _ _ h => h) (Or.inl ⟨by rfl, ?_⟩) (by assumption) ?_
      rotate_left
      · (intro w hSw; (try dsimp only at hSw); go_simp <;> with_reducible rfl)
      try simp only [Act.put, List.setIfInBounds_toArray, List.set_cons_zero, List.set_cons_succ]
      refine take_lit (i := 3) rfl (by kernel_rfl) (by kernel_rfl) (by kernel_rfl) (fun _ _ _ h => h) (yS n (fun w h => q1.below h k1) (by rfl) rfl rfl) (by assumption) ?_
      try simp only [Act.put, List.setIfInBounds_toArray, List.set_cons_zero, List.set_cons_succ]
      refine take_lit (i := 4) (v := ?_) rfl (by kernel_rfl) (by kernel_rfl) (by kernel_rfl) (fun _ _ _ h => h) (Or.inl ⟨by rfl, ?_⟩) (by assumption) ?_
      rotate_left
      · (intro w hSw; (try dsimp only at hSw); go_simp <;> with_reducible rfl)
      try simp only [Act.put, List.setIfInBounds_toArray, List.set_cons_zero, List.set_cons_succ]
      refine take_lit (i := 5) (v := ?_) rfl (by kernel_rfl) (by kernel_rfl) (by kernel_rfl) (fun _ _ _ h => h) (Or.inl ⟨by rfl, ?_⟩) (by assumption) ?_
      rotate_left
      · (intro w hSw; (try dsimp only at hSw); go_simp <;> with_reducible rfl)
      try simp only [Act.put, List.setIfInBounds_toArray, List.set_cons_zero, List.set_cons_succ]
      refine take_lit (i := 6) (v := ?_) rfl (by kernel_rfl) (by kernel_rfl) (by kernel_rfl) (fun _ _ _ h => h) (Or.inl ⟨by rfl, ?_⟩) (by assumption) ?_
      rotate_left
      · (intro w hSw; (try dsimp only at hSw); go_simp <;> with_reducible rfl)
      try simp only [Act.put, List.setIfInBounds_toArray, List.set_cons_zero, List.set_cons_succ]
      refine take_lit (i := 7) rfl (by kernel_rfl) (by kernel_rfl) (by kernel_rfl) (fun _ _ _ h => h) (yS n (fun w h => q2.below h k2) (by rfl) rfl rfl) (by assumption) ?_
      try simp only [Act.put, List.setIfInBounds_toArray, List.set_cons_zero, List.set_cons_succ]
      refine take_lit (i := 8) (v := ?_) rfl (by kernel_rfl) (by kernel_rfl) (by kernel_rfl) (fun _ _ _ h => h) (Or.inl ⟨by rfl, ?_⟩) (by assumption) ?_
      rotate_left
      · (intro w hSw; (try dsimp only at hSw); have z := hEq w; have z2 := fun op x y => gEq op x y w; go_simp <;> with_reducible rfl)
      try simp only [Act.put, List.setIfInBounds_toArray, List.set_cons_zero, List.set_cons_succ]
      refine wpAnyH_done (by kernel_rfl) ?_ _
      refine NoPanic.normal ?_
      have hb2 := bt hb hHeld
      clear hHeld hEq gEq q1 q2
      go_wp2_with fail
      go_roundw
      case rel => exact ⟨j + 1, HJ.out, by first | rfl | go_num, hb2⟩
      case measure => first | (rw [hw64]; simp only [intOf]; exact HM.out) | (simp only [intOf]; exact HM.out)
    · have hjl : j = K.length := by omega
      subst hjl
      clear h1 h2
      go_wp2_with fail
      go_ret
      exact ⟨rfl, hb⟩
theorem tellR_len (most : Int) (L : List Ro) (now : Int) (n : Ro) (f : Bool) : (tellR most L now n f).2.2.length ≤ L.length + 1 := by
  have h : ∀ x, (putN L x).length ≤ L.length + 1 := fun x => putN_le
  unfold tellR tellNewR
  repeat' split
  all_goals first | exact h _ | (show L.length ≤ L.length + 1; omega)
end Go.Proofs.Ythofoocknmkdjaa

namespace Go.Proofs.Ythofoocknmkdjaa
open Go.RowKit Go.Maps Go.Shelf
set_option linter.unusedSimpArgs false
set_option linter.unusedVariables false
set_option maxRecDepth 20000
/-- The time and what is there behind some tales. -/
def tlS (x : Int × List Ro) (a : Ac) : Int × List Ro := (x.1 + a.g, if a.k = 0 then (tellR 150 x.2 (x.1 + a.g) a.r a.o).2.2 else x.2)
structure TlI (j : Nat) (x : Int × List Ro) : Prop where
  t0 : 0 ≤ x.1
  t1 : x.1 ≤ j * 1073741824
  ll : x.2.length ≤ j
theorem TlI.step {j : Nat} {x : Int × List Ro} {a : Ac} (h : TlI j x) (ha : AcOk a) : TlI (j + 1) (tlS x a) := by
  obtain ⟨a0, a1⟩ := ha
  have t0 := h.t0
  have t1 := h.t1
  refine ⟨?_, ?_, ?_⟩
  · show 0 ≤ x.1 + a.g; omega
  · show x.1 + a.g ≤ _; omega
  · show (if a.k = 0 then (tellR 150 x.2 (x.1 + a.g) a.r a.o).2.2 else x.2).length ≤ j + 1
    have := h.ll
    split
    · have := tellR_len 150 x.2 (x.1 + a.g) a.r a.o
      omega
    · omega
theorem cmpN_keys {x y x' y' : Ro} (h : x.k = x'.k) (h' : y.k = y'.k) : cmpN x y = cmpN x' y' := by
  unfold cmpN
  rw [h, h']
theorem Asc.mapR {K : List Ro} (h : Asc K) (f : Ro → Ro) (so : Ro → Bool) (hf : ∀ n, (f n).k = n.k) : Asc (mapR f so K) := by
  have hk : ∀ n : Ro, (if so n then f n else n).k = n.k := fun n => by split <;> simp [hf]
  unfold Asc Go.Proofs.Ythofoocknmkdjaa.mapR
  rw [List.pairwise_map]
  exact List.Pairwise.imp (fun {a b} hab => by rw [cmpN_keys (hk a) (hk b)]; exact hab) h
theorem mapR_len (f : Ro → Ro) (so : Ro → Bool) (L : List Ro) : (mapR f so L).length = L.length := by unfold mapR; rw [List.length_map]
end Go.Proofs.Ythofoocknmkdjaa

namespace Go.Proofs.Ythofoocknmkdjaa
open Go.RowKit Go.Maps Go.Shelf
set_option linter.unusedSimpArgs false
set_option linter.unusedVariables false
set_option maxRecDepth 20000
theorem tellR_mem {most : Int} {L : List Ro} {now : Int} {n x : Ro} {f : Bool} (h : x ∈ (tellR most L now n f).2.2) : x ∈ L ∨ (x.u = now + x.d ∧ ((x.d = n.d ∧ n.d ≤ 2147483648) ∨ ∃ old ∈ L, x.d = old.d)) := by
  unfold tellR at h
  split at h
  · exact .inl h
  · rename_i hd
    have hd2 : n.d ≤ 2147483648 := by omega
    cases hg : getN L n.k with
    | none =>
      rw [hg] at h
      dsimp only at h
      unfold tellNewR at h
      split at h
      · exact .inl h
      · split at h
        · exact .inl h
        · rcases mem_putN.1 h with e | e
          · right
            rw [e]
            exact ⟨rfl, .inl ⟨rfl, hd2⟩⟩
          · exact .inl e.1
    | some old =>
      rw [hg] at h
      dsimp only at h
      split at h
      · exact .inl h
      · rcases mem_putN.1 h with e | e
        · right
          have ho : old ∈ L := (getN_some hg).1
          rw [e]
          unfold retold
          split
          · exact ⟨rfl, .inr ⟨old, ho, rfl⟩⟩
          · exact ⟨rfl, .inl ⟨rfl, hd2⟩⟩
        · exact .inl e.1
/-- The time, the longest hold and the routes behind some tales. -/
structure EnP (j : Nat) (now mx : Int) (L : List Ro) : Prop where
  t0 : 0 ≤ now
  t1 : now ≤ j * 1073741824
  m0 : 0 ≤ mx
  m1 : mx ≤ 2147483648
  ll : L.length ≤ j
  at_ : ∀ n ∈ L, n.u ≤ now + n.d ∧ n.d ≤ mx
theorem EnP.tell {j : Nat} {now mx : Int} {L : List Ro} (h : EnP j now mx L) (g : Int) (g0 : 0 ≤ g) (g1 : g ≤ 1073741824) (n : Ro) (f : Bool) (hn : n.d < 1 → (tellR 150 L (now + g) n f).2.2 = L) : EnP (j + 1) (now + g) (max mx (min n.d 2147483648)) (tellR 150 L (now + g) n f).2.2 := by
  have t0 := h.t0
  have t1 := h.t1
  have m0 := h.m0
  have m1 := h.m1
  refine ⟨by omega, by omega, by omega, by omega, by have := h.ll; have := tellR_len 150 L (now + g) n f; omega, fun x hx => ?_⟩
  rcases tellR_mem hx with e | ⟨e1, e2⟩
  · have := h.at_ x e
    omega
  · refine ⟨by omega, ?_⟩
    rcases e2 with ⟨e2, e3⟩ | ⟨old, ho, e2⟩
    · omega
    · have := (h.at_ old ho).2
      omega
/-- Behind the taking back of some. -/
structure EnB (now mx : Int) (K : List Ro) (N j : Nat) (L : List Ro) : Prop where
  ll : L.length = N
  at_ : ∀ n ∈ L, n.u ≤ now + n.d ∧ n.d ≤ mx
  ks : ∀ n ∈ L, ∃ m ∈ K, m.k = n.k
  done : ∀ n ∈ L, ∀ m ∈ K.take j, m.k = n.k → n.r = 65535
theorem EnB.step {now mx : Int} {K : List Ro} {N j : Nat} {L : List Ro} (h : EnB now mx K N j L) (hj : j < K.length) : EnB now mx K N (j + 1) (mapR (fun n => retr n now) (mineB K[j].i K[j].a) L) := by
  refine ⟨by rw [mapR_len]; exact h.ll, ?_, ?_, ?_⟩
  · intro n hn
    obtain ⟨m, hm, rfl⟩ := List.mem_map.1 hn
    have := h.at_ m hm
    split
    · exact ⟨Int.le_refl _, this.2⟩
    · exact this
  · intro n hn
    obtain ⟨m, hm, rfl⟩ := List.mem_map.1 hn
    obtain ⟨m', hm', e⟩ := h.ks m hm
    refine ⟨m', hm', ?_⟩
    split
    · exact e
    · exact e
  · intro n hn m' hm' hk
    obtain ⟨m, hm, rfl⟩ := List.mem_map.1 hn
    by_cases hb : mineB K[j].i K[j].a m = true
    · rw [if_pos hb]
      rfl
    · rw [if_neg hb] at hk ⊢
      rw [List.take_succ_eq_append_getElem hj] at hm'
      rcases List.mem_append.1 hm' with e | e
      · exact h.done m hm m' e hk
      · simp at e
        subst e
        have hi : m.i = K[j].i := by rw [show m.i = m.k.i from rfl, ← hk]; rfl
        have ha : m.a.l = K[j].a.l := by rw [show m.a = m.k.a from rfl, ← hk]; rfl
        unfold mineB at hb
        simpa [hi, ha] using hb
theorem EnB.all {now mx : Int} {K : List Ro} {N : Nat} {L : List Ro} (h : EnB now mx K N K.length L) : ∀ n ∈ L, n.r = 65535 := by
  intro n hn
  obtain ⟨m, hm, e⟩ := h.ks n hn
  exact h.done n hn m (by rw [List.take_length]; exact hm) e
end Go.Proofs.Ythofoocknmkdjaa

namespace Go.Proofs.Ythofoocknmkdjaa
open Go.RowKit Go.Maps Go.Shelf
set_option linter.unusedSimpArgs false
set_option linter.unusedVariables false
set_option maxRecDepth 20000
/-- The first time at which something is due, if there is one. -/
def NextIs (L : List Ro) (f : Int) (b : Bool) : Prop := (L = [] ∧ f = 0 ∧ b = false) ∨ (b = true ∧ (∃ n ∈ L, f = n.u) ∧ ∀ m ∈ L, f ≤ m.u)
theorem NextIs.perm {L K : List Ro} {f : Int} {b : Bool} (h : NextIs L f b) (hp : L.Perm K) : NextIs K f b := by
  rcases h with ⟨rfl, h1, h2⟩ | ⟨h1, ⟨n, hn, h2⟩, h3⟩
  · exact .inl ⟨hp.nil_eq.symm, h1, h2⟩
  · exact .inr ⟨h1, ⟨n, hp.mem_iff.1 hn, h2⟩, fun m hm => h3 m (hp.mem_iff.2 hm)⟩
theorem NextIs.uniq {L : List Ro} {f g : Int} {b c : Bool} (h : NextIs L f b) (k : NextIs L g c) : f = g ∧ b = c := by
  rcases h with ⟨rfl, h1, h2⟩ | ⟨h1, ⟨n, hn, h2⟩, h3⟩
  · rcases k with ⟨_, k1, k2⟩ | ⟨_, ⟨n, hn, _⟩, _⟩
    · exact ⟨by omega, by rw [h2, k2]⟩
    · cases hn
  · rcases k with ⟨rfl, _⟩ | ⟨k1, ⟨m, hm, k2⟩, k3⟩
    · cases hn
    · have := h3 m hm
      have := k3 n hn
      exact ⟨by omega, by rw [h1, k1]⟩
theorem NextIs.first {n : Ro} {ss : List Ro} (h : ss = []) : NextIs (ss ++ [n]) (n.u) true := by
  subst h
  exact .inr ⟨rfl, ⟨n, by simp, rfl⟩, by simp⟩
theorem NextIs.less {n : Ro} {ss : List Ro} {f : Int} (h : NextIs ss f true) (hl : n.u < f) : NextIs (ss ++ [n]) (n.u) true := by
  rcases h with ⟨_, _, h⟩ | ⟨_, _, h3⟩
  · cases h
  · refine .inr ⟨rfl, ⟨n, by simp, rfl⟩, fun m hm => ?_⟩
    rcases List.mem_append.1 hm with h | h
    · have := h3 m h; omega
    · simp at h; subst h; omega
theorem NextIs.more {n : Ro} {ss : List Ro} {f : Int} (h : NextIs ss f true) (hl : f ≤ n.u) : NextIs (ss ++ [n]) f true := by
  rcases h with ⟨_, _, h⟩ | ⟨_, ⟨x, hx, h2⟩, h3⟩
  · cases h
  · refine .inr ⟨rfl, ⟨x, by simp [hx], h2⟩, fun m hm => ?_⟩
    rcases List.mem_append.1 hm with h | h
    · exact h3 m h
    · simp at h; subst h; omega
def selB (p : Pr) (n : Ro) : Bool := n.s && qB n.p p
/-- What Selected tells: one that is selected; or there is none. -/
def SelIs (L : List Ro) (p : Pr) (w : World) (e : Ending) (w' : World) : Prop := Below w.heap.size w w' ∧ ((∃ n ∈ L, selB p n = true ∧ e = .returned (.tuple #[rV n, .bool true])) ∨ ((∀ n ∈ L, selB p n = false) ∧ e = .returned (.tuple #[rV zeroR, .bool false])))
set_option maxHeartbeats 8000000 in
theorem selected_any {w : World} {t mb : Nat} {most : Int} {L : List Ro} (h : Tb w t mb most L) (p : Pr) : Calls Try.prog 17 #[.pointer (some ⟨t, 0, none⟩), (Value.agg (qcells p).toArray)] w (SelIs L p w) := by
  go_enter Try.func17, Try.ntmps17
  go_upto_region 1 with (first
    | (refine alG infoRz rfl rfl ?_; intro g1 W1 hge hgl hB1 hr1))
  obtain ⟨hB, r0, hs⟩ := stepRow hB1
  have hg : w.heap.size < g1 := by simp at hge; omega
  have h1 := h.below hB
  have HPr : Hid (∀ W, Below W1.heap.size W1 W → LQ W w.heap.size 0 p) := fun W k => (r0.below k r0.lt).range
  have HBB : Hid (∀ W, Below W1.heap.size W1 W → Below w.heap.size w W) := fun W k => bt hB k
  have HZ : Hid (∀ W, Below W1.heap.size W1 W → Row W g1 41 (ocs zeroR)) := fun W k => hr1.below k hgl
  have HG : Hid (∀ W W', Below W1.heap.size W1 W → W.grownBy W' (some g1) → Below w.heap.size w W') := fun W W' k g => grown_below g (bt hB k) (by omega) (by have := hB.size; have := k.size; omega)
  obtain ⟨D, hown, hsz, hhas, hat⟩ := h1.map.ex
  have hwf := h1.map.wf
  have hnd := h1.map.nd
  have hmb := h1.map.lt
  have c2 : W1.cell? ⟨t, 1, none⟩ = some (.map (some mb)) := h1.row.cell 1
  clear h h1 hB hB1 hr1 r0 hg hge
  go_wp2_with (first
    | (at_range; refine wpList_range_own _ rfl _ 74 rfl 84 41 keyLaw Try.underlying74 elV mb L.length D rfl hown ?_; intro w0 hrg0 hg0 hs0))
  go_frame
  go_loopw [5] (fun v wr => v = .bool false ∧ ∃ (left : Lit → Bool) (cnt : Nat) (ss : List Ro), wr.ranges Try.prog 84 elV mb W1.heap.size L.length D left cnt ∧ Coll L left ss ∧ (∀ n ∈ ss, selB p n = false) ∧ Below W1.heap.size W1 wr)
    (fun _ wr => wr.rangeLeft mb W1.heap.size)
  case atStart => exact ⟨rfl, _, _, [], hrg0, ⟨L, by simp, hhas⟩, (fun n hn => by cases hn), below_keepO (Below.refl _ _) hg0 (by simp) (Nat.le_refl _)⟩
  case round =>
    clear hrg0 hg0 hown hhas hsz c2
    obtain ⟨rfl, left, cnt, ss, hrg, hC, hN, hB⟩ := hrel
    go_wp2_with (first
      | (at_next; refine wpList_next_ranges _ rfl _ rfl 84 keyLaw elV id id (fun key _ _ => ⟨key, rfl⟩) (fun v _ _ => ⟨v, rfl⟩) mb W1.heap.size L.length _ _ _ rfl hrg ?_ ?_))
    · intro _ hl0
      have hp := hC.done hl0
      have HNo : Hid (∀ n ∈ L, selB p n = false) := fun n hn => hN n (hp.mem_iff.2 hn)
      have hz := HZ.out _ hB
      clear hat hwf hnd hC hN hp hrg
      go_wp2_with (first
        | ((with_reducible refine bdG (T := 41) (v := rV zeroR) [] ?_ ?_ ?_ ?_); (focus rfl); (focus rfl); (focus exact bdR0 _))
        | (refine stS (.tmp 4) (.tmp 30) rfl rfl g1 zeroR _ rfl rfl hz ?_; intro W2 hg2 hr2))
      exact bodyPost_ret (retCT rfl _ _ 0 rfl (lvS hr2)) rfl ⟨HG.out _ _ hB hg2, .inr ⟨HNo.out, rfl⟩⟩
    · intro x c lk yd yp w1 cnt1 hkey hlk hv hat1 hrg1 hlt hg1 hs1 hen
      obtain ⟨n, hnL, rfl, hC2⟩ := hC.step hwf hnd hlk
      have hc : c = rV n := by
        have e := hat1 (.held (rV n))
        rw [hat n hnL] at e
        have hv' : some (DataW.held c, ([] : List MemPlace)) = some (yd, yp) := hv
        cases hv'
        injection e with e
        exact e.symm
      subst hc
      obtain rfl : x = kV n.k := keyLaw.inj hkey (key_some n.k (hwf n hnL))
      have hB1 : Below W1.heap.size W1 w1 := below_keepO hB hg1 (fun g hg e => by cases e; omega) hB.size
      have HC : Hid (Coll L (fun z => left z && !z.sameKey (kl n.k)) (ss ++ [n])) := hC2
      have HCN : Hid (wr.rangeLeft mb W1.heap.size = cnt) := hrg.left_eq
      have HLT : Hid (cnt1 < cnt) := hlt
      have HNo : Hid (selB p n = false → ∀ m ∈ ss ++ [n], selB p m = false) := fun h m hm => by
        rcases List.mem_append.1 hm with e | e
        · exact hN m e
        · simp at e; subst e; exact h
      have HYes : Hid (selB p n = true → ∃ m ∈ L, selB p m = true ∧ m = n) := fun h => ⟨n, hnL, h, rfl⟩
      have HDef : Hid (selB p n = (n.s && qB n.p p)) := rfl
      have HGo : Hid (∀ W, Below w1.heap.size w1 W → W.ranges Try.prog 84 elV mb W1.heap.size L.length D (fun z => left z && !z.sameKey (kl n.k)) cnt1 ∧ Below W1.heap.size W1 W) := fun W hW => by
        have hg : w1.grownBy W none := ⟨hW.os, hW.tape, hW.output, hW.size, fun i hi _ => hW.block i hi⟩
        exact ⟨hrg1.kept hg (by simp) (by simp), hB1.trans (hW.mono hB1.size)⟩
      have hq : ∀ W, (binOp .eql 36 (Value.agg (qcells n.p).toArray) (Value.agg (qcells p).toArray)).run Try.prog W = .ok (.bool (qB n.p p)) W := run_eqlQ n.p p
      have hnk : Hid (n.k.p = n.p) := rfl
      clear hC hC2 hN hrg hlt hrg1 hB hB1 hg1 hs1 hat hat1 hv hkey hlk hwf hnd hnL
      generalize qB n.p p = b at *
      generalize selB p n = sb at *
      go_upto_region 6 with (first
        | (have kk := r5; refine stS (.tmp 7) (.tmp 20) rfl rfl g3 n zeroR rfl rfl r5 ?_; intro W6 g6 r6; have b6 := grown_below g6 b5 hge13 b5.size; have k6 := k5.keep g6 hne; have c80 := (r6.cell 80).trans (oc80 n); clear r5 k5)
        | (have kk := k3; refine stK (.tmp 6) (.tmp 19) rfl rfl g2 n.k zeroK rfl rfl k3 ?_; intro W5 g5 k5; have b5 := grown_below g5 b3 hge2 b3.size; have r5 := r3.keep g5 (Ne.symm hne); clear k3 r3)
        | (have kk := k2; refine alG infoRz rfl rfl ?_; intro g3 W3 hge3 hgl3 hB3 r3; have k3 := k2.below hB3 k2.lt; have hne : g2 ≠ g3 := (by have := k2.lt; omega); have hge13 : w1.heap.size ≤ g3 := (by have := b2.size; omega); have b3 := bt b2 hB3; clear k2)
        | (refine alG infoKz rfl rfl ?_; intro g2 W2 hge2 hgl2 b2 k2))
      have qk : LQ W6 g2 0 n.p := rangeAt_left (show W6.rangeAt g2 0 (qcells n.k.p ++ (.int .i64 n.k.i :: acells n.k.a)) from k6.range)
      obtain ⟨hrg6, hB6⟩ := HGo.out _ b6
      have qp := HPr.out _ hB6
      have hz := HZ.out _ hB6
      clear k6
      cases hns : n.s with
      | false =>
        rw [hns] at c80
        obtain rfl : sb = false := by rw [HDef.out, hns]; rfl
        go_wp2_with fail
        go_roundw
        case rel => exact ⟨rfl, _, cnt1, ss ++ [n], hrg6, HC.out, HNo.out rfl, hB6⟩
        case measure => rw [hrg6.left_eq, HCN.out]; exact HLT.out
      | true =>
        rw [hns] at c80
        cases b with
        | false =>
          obtain rfl : sb = false := by rw [HDef.out, hns]; rfl
          go_wp2_with (first
            | (refine ldQ (.tmp 3) rfl rfl _ _ p rfl qp ?_)
            | (refine ldQ (.tmp 24) rfl rfl _ _ n.p rfl qk ?_))
          go_roundw
          case rel => exact ⟨rfl, _, cnt1, ss ++ [n], hrg6, HC.out, HNo.out rfl, hB6⟩
          case measure => rw [hrg6.left_eq, HCN.out]; exact HLT.out
        | true =>
          obtain rfl : sb = true := by rw [HDef.out, hns]; rfl
          have hr6 := r6.ro
          go_wp2_with (first
            | (refine ldQ (.tmp 3) rfl rfl _ _ p rfl qp ?_)
            | (refine ldQ (.tmp 24) rfl rfl _ _ n.p rfl qk ?_)
            | (refine ldS (.tmp 7) rfl rfl _ _ n rfl hr6 ?_)
            | (refine stS (.tmp 4) (.tmp 29) rfl rfl g1 n _ rfl rfl hz ?_; intro W9 hg9 hr9))
          obtain ⟨m, hm, hsm, rfl⟩ := HYes.out (by first | rfl | trivial)
          exact bodyPost_ret (retCT rfl _ _ 0 rfl (lvS hr9)) rfl ⟨HG.out _ _ hB6 hg9, .inl ⟨m, hm, hsm, rfl⟩⟩
end Go.Proofs.Ythofoocknmkdjaa

namespace Go.Proofs.Ythofoocknmkdjaa
open Go.RowKit Go.Maps Go.Shelf
set_option linter.unusedSimpArgs false
set_option linter.unusedVariables false
set_option maxRecDepth 20000
/-- Of a pair at most one route is selected. -/
def OneS (L : List Ro) : Prop := ∀ m ∈ L, ∀ n ∈ L, m.s = true → n.s = true → m.p = n.p → m = n
def offN (n : Ro) : Ro := n.sS false
def unR (p : Pr) (L : List Ro) : List Ro := mapR offN (selB p) L
theorem selB_iff {p : Pr} {n : Ro} : selB p n = true ↔ n.s = true ∧ n.p = p := by
  unfold selB
  rw [Bool.and_eq_true, qB_iff]
theorem unR_none {p : Pr} {L : List Ro} (h : ∀ n ∈ L, selB p n = false) : unR p L = L := by
  unfold unR mapR
  have : ∀ n ∈ L, (if selB p n = true then offN n else n) = n := fun n hn => by rw [h n hn]; simp
  rw [List.map_congr_left this]
  simp
theorem unR_put {p : Pr} {L : List Ro} {n : Ro} (hnd : (L.map keyN).Nodup) (h1 : OneS L) (hn : n ∈ L) (hs : selB p n = true) : putN L (offN n) = unR p L := by
  unfold putN unR mapR
  rw [if_pos (show L.any (keyB (offN n).k) = true from List.any_eq_true.2 ⟨n, hn, keyB_self n⟩)]
  refine List.map_congr_left fun m hm => ?_
  by_cases hk : keyB (offN n).k m = true
  · have e : m = n := nd_inj hnd hm hn (by rw [keyB_iff] at hk; unfold keyN; rw [hk]; rfl)
    subst e
    rw [if_pos hk, if_pos hs]
  · rw [if_neg hk]
    by_cases hm2 : selB p m = true
    · exfalso
      rw [selB_iff] at hs hm2
      have e : m = n := h1 m hm n hn hm2.1 hs.1 (by rw [hm2.2, hs.2])
      subst e
      exact hk (keyB_self m)
    · rw [if_neg hm2]
theorem unR_one {p : Pr} {L : List Ro} (h : OneS L) : OneS (unR p L) := by
  intro m hm n hn hs ht hp
  obtain ⟨m', hm', rfl⟩ := List.mem_map.1 hm
  obtain ⟨n', hn', rfl⟩ := List.mem_map.1 hn
  by_cases a : selB p m' = true
  · rw [if_pos a] at hs; cases hs
  · by_cases b : selB p n' = true
    · rw [if_pos b] at ht; cases ht
    · rw [if_neg a] at hs hp ⊢
      rw [if_neg b] at ht hp ⊢
      exact h m' hm' n' hn' hs ht hp
theorem unR_off {p : Pr} {L : List Ro} : ∀ n ∈ unR p L, selB p n = false := by
  intro n hn
  obtain ⟨m, hm, rfl⟩ := List.mem_map.1 hn
  by_cases a : selB p m = true
  · rw [if_pos a]; rfl
  · rw [if_neg a]; simpa using a
theorem offN_ok {n : Ro} (h : n.ok) : (offN n).ok := ⟨h.q0, h.q1, h.r0, h.r1, h.m0, h.m1, h.u0, h.u1, h.d0, h.d1⟩
def cntR (p : Pr) (L : List Ro) : Int := if L.any (selB p) = true then 1 else 0
/-- Behind some pairs: what is there, and how many were selected. -/
def unS (x : List Ro × Int) (p : Pr) : List Ro × Int := (unR p x.1, x.2 + cntR p x.1)
def unL (ps : List Pr) (L : List Ro) : List Ro × Int := ps.foldl unS (L, 0)
theorem unL_take {ps : List Pr} {L : List Ro} {j : Nat} (hj : j < ps.length) : unL (ps.take (j + 1)) L = unS (unL (ps.take j) L) ps[j] := by
  unfold unL
  rw [List.take_succ_eq_append_getElem hj, List.foldl_append]
  rfl
theorem unL_one (ps : List Pr) : ∀ {L : List Ro}, OneS L → OneS (unL ps L).1 := by
  have : ∀ (ps : List Pr) (x : List Ro × Int), OneS x.1 → OneS (ps.foldl unS x).1 := by
    intro ps
    induction ps with
    | nil => intro x h; exact h
    | cons p ps ih => intro x h; exact ih _ (unR_one h)
  intro L h
  exact this ps (L, 0) h
theorem unL_cnt (ps : List Pr) (L : List Ro) : 0 ≤ (unL ps L).2 ∧ (unL ps L).2 ≤ ps.length := by
  have : ∀ (ps : List Pr) (x : List Ro × Int), x.2 ≤ (ps.foldl unS x).2 ∧ (ps.foldl unS x).2 ≤ x.2 + ps.length := by
    intro ps
    induction ps with
    | nil => intro x; simp
    | cons p ps ih =>
      intro x
      have h := ih (unS x p)
      have c : 0 ≤ cntR p x.1 ∧ cntR p x.1 ≤ 1 := by unfold cntR; split <;> omega
      have e : (unS x p).2 = x.2 + cntR p x.1 := rfl
      rw [List.foldl_cons, List.length_cons]
      omega
  have h := this ps (L, 0)
  have e : ((L, (0 : Int)) : List Ro × Int).2 = 0 := rfl
  unfold unL
  omega
/-- Pairs in memory. -/
structure PsW (w : World) (ad : Option Addr) (ps : List Pr) : Prop where
  lies : ps = [] ∨ ∃ g o, ad = some ⟨g, o, none⟩ ∧ g < w.heap.size ∧ ∀ (j : Nat) (p : Pr), ps[j]? = some p → w.rangeAt g (o + j * 34) (qcells p)
theorem PsW.below {w w' : World} {ad : Option Addr} {ps : List Pr} (h : PsW w ad ps) (hb : Below w.heap.size w w') : PsW w' ad ps :=
  ⟨h.lies.imp id fun ⟨g, o, e, hg, hl⟩ => ⟨g, o, e, Nat.lt_of_lt_of_le hg hb.size, fun j p hp => rangeAt_below (hl j p hp) hb hg⟩⟩
/-- One round of Unselect. -/
theorem put_off {w : World} {t mb : Nat} {most : Int} {L : List Ro} (h : Tb w t mb most L) (h1 : OneS L) {p : Pr} {n : Ro} (hn : n ∈ L) (hs : selB p n = true) :
    Calls Try.prog 47 #[.pointer (some ⟨t, 0, none⟩), rV (offN n)] w fun e w' => e = .returned (.tuple #[]) ∧ Turn w w' t mb most (unR p L) := by
  have e := unR_put h.map.nd h1 hn hs
  have hl : (putN L (offN n)).length ≤ 1000000 := by rw [e]; unfold unR; rw [mapR_len]; exact h.ll
  have q := put_any h (offN n) (h.map.wf n hn) (offN_ok (h.nok n hn)) hl
  rwa [e] at q
theorem PsW.turn {w w' : World} {ad : Option Addr} {ps : List Pr} {t mb : Nat} {most : Int} {L L' : List Ro} (h : PsW w ad ps) (ht : Turn w w' t mb most L') (hm : Tb w t mb most L) : PsW w' ad ps :=
  ⟨h.lies.imp id fun ⟨g, o, e, hg, hl⟩ => ⟨g, o, e, Nat.lt_of_lt_of_le hg ht.gr.size, fun j p hp => rangeAt_keep (hl j p hp) ht.gr (by
    intro e2
    have hlen : 0 < (qcells p).length := by rw [qcells_len]; omega
    have c := hl j p hp 0 _ (List.getElem?_eq_getElem hlen)
    obtain ⟨es, cl, hh⟩ := hm.map.obj
    rw [e2] at c
    simp [World.cell?, hh] at c) hg⟩⟩
theorem cnt_yes {p : Pr} {L : List Ro} {n : Ro} (hn : n ∈ L) (hs : selB p n = true) : cntR p L = 1 := by
  unfold cntR
  rw [if_pos (List.any_eq_true.2 ⟨n, hn, hs⟩)]
theorem cnt_no {p : Pr} {L : List Ro} (h : ∀ n ∈ L, selB p n = false) : cntR p L = 0 := by
  unfold cntR
  rw [if_neg]
  intro e
  obtain ⟨n, hn, hs⟩ := List.any_eq_true.1 e
  rw [h n hn] at hs
  cases hs
set_option maxHeartbeats 8000000 in
theorem unselect_any {w : World} {t mb : Nat} {most : Int} {L : List Ro} (h : Tb w t mb most L) (h1 : OneS L) (ad : Option Addr) (c : Nat) (ps : List Pr) (hps : PsW w ad ps) (hl : ps.length ≤ 100) :
    Calls Try.prog 33 #[.pointer (some ⟨t, 0, none⟩), .slice ad ps.length c] w fun e w' => e = .returned (.int .i64 (unL ps L).2) ∧ Turn w w' t mb most (unL ps L).1 := by
  have HC0 := fun j => unL_cnt (ps.take j) L
  have htm : mb < w.heap.size := h.map.lt
  go_enter Try.func33, Try.ntmps33
  go_wp2_with fail
  go_loopw [5, 12] (fun v u wr => ∃ j : Nat, j ≤ ps.length ∧ u = .int .i64 j ∧ v = .int .i64 (unL (ps.take j) L).2 ∧ Turn w wr t mb most (unL (ps.take j) L).1 ∧ PsW wr ad ps) (fun _ u _ => ps.length - (intOf u).toNat)
  case atStart => exact ⟨0, Nat.zero_le _, rfl, rfl, ⟨h, World.grownBy.refl _ _⟩, hps⟩
  case round =>
    obtain ⟨j, hj, rfl, rfl, hT, hP⟩ := hrel
    clear hps h
    by_cases hlt : j < ps.length
    · rcases hP.lies with h0 | ⟨g, o, rfl, hg, hc⟩
      · rw [h0] at hlt; simp at hlt
      have q := hc j _ (List.getElem?_eq_getElem hlt)
      have HS : Hid (unL (ps.take (j + 1)) L = unS (unL (ps.take j) L) ps[j]) := unL_take hlt
      have h1' := unL_one (ps.take j) h1
      have hcn := HC0 j
      rw [List.length_take] at hcn
      have hji : (j : Int) < (ps.length : Int) := by omega
      have hw64 : wrap64 ((j : Int) + 1) = (j : Int) + 1 := by unfold wrap64; omega
      have hcn2 : 0 ≤ (unL (ps.take j) L).2 ∧ (unL (ps.take j) L).2 ≤ 100 := by omega
      have HJ : Hid (j + 1 ≤ ps.length) := hlt
      have HM : Hid (ps.length - ((j : Int) + 1).toNat < ps.length - ((j : Int)).toNat) := meas hlt
      clear hc hcn HC0 hl
      generalize (ps[j]'hlt) = p at *
      generalize hX : unL (ps.take j) L = X at *
      obtain ⟨L1, n1⟩ := X
      dsimp only at *
      have hwn : wrap64 (n1 + 1) = n1 + 1 := by unfold wrap64; omega
      have tb := hT.tb
      have HB : Hid (∀ W, Below wr.heap.size wr W → Turn w W t mb most L1 ∧ Tb W t mb most L1 ∧ PsW W (some ⟨g, o, none⟩) ps) := fun W hW => ⟨hT.post hW, tb.below hW, hP.below hW⟩
      have hS := fun W (h : Tb W t mb most L1) => selected_any h p
      clear hcn2 hX hj
      go_wp2_with (first
        | (have kk := q2; go_at_call 17; refine (hS _ (HB.out _ b2).2.1).mono ?_; rintro e w3 ⟨k3, ⟨n, hn, hs, rfl⟩ | ⟨hno, rfl⟩⟩ <;> (have b3 := bt b2 k3; clear q2; refine Hid.out ?_))
        | (have kk := q2; refine ldQ (.tmp 7) rfl rfl _ _ p rfl q2.range ?_)
        | (have kk := r1; refine inL rfl fun KK hKK => ?_; refine wp_store_mid _ (.tmp 7) (.tmp 15) rfl g1 0 (qcells p).toArray rfl rfl (by simpa [qcells_len] using r1.there (n := 34) (by rw [qcells_len]; omega)) (by rw [infoQ]; simp [qcells_len]) (all_oneCell_toArray (qcells_one p)) ?_; refine hKK _ _ ?_; have q2 := Row.setCells (qcells p) [] _ (qcells zeroQ) r1 (by rw [qcells_len, qcells_len]); have b2 := grown_below (grownBy_setCells g1 (qcells p) 0 _) hB1 hge1 hB1.size; clear r1)
        | (refine alG infoQz rfl rfl ?_; intro g1 W1 hge1 hgl1 hB1 r1)
        | (refine ldQ (.tmp 14) rfl rfl _ _ p rfl q ?_))
      · clear q hS
        have HE : Hid (unL (ps.take (j + 1)) L = (unR p L1, n1 + 1)) := by show _ = _; rw [HS.out]; unfold unS; rw [cnt_yes hn hs]
        have hPut := fun W (h : Tb W t mb most L1) => put_off h h1' hn hs
        clear HS h1' hn hs
        unfold Hid
        go_wp2_with (first
          | (have kk := q6; go_at_call 47; refine (hPut _ (HB.out _ b6).2.1).mono ?_; rintro e w7 ⟨rfl, hT7⟩; have p7 := (HB.out _ b6).2.2.turn hT7 (HB.out _ b6).2.1; have t7 := (Turn.trans (HB.out _ b6).1 hT7); clear q6)
          | (have kk := q6; refine ldS (.tmp 8) rfl rfl _ _ (offN n) rfl q6.ro ?_)
          | (have kk := r5; (with_reducible refine inL ?_ fun K hK => ?_); (focus rfl); refine wp_stSe (.tmp 23) (.const (.bool false)) rfl g4 false n rfl rfl r5 ?_; intro W6 g6 q6; refine hK _ _ ?_; have b6 := grown_below g6 b5 (Nat.le_trans b3.size hge4) b5.size; clear r5)
          | (have kk := r4; refine stS (.tmp 8) (.tmp 20) rfl rfl g4 n _ rfl rfl r4 ?_; intro W5 g5 r5; have b5 := grown_below g5 b4 (Nat.le_trans b3.size hge4) b4.size; clear r4)
          | (refine alG infoRz rfl rfl ?_; intro g4 W4 hge4 hgl4 hB4 r4; have b4 := bt b3 hB4))
        go_roundw
        case rel => exact ⟨j + 1, HJ.out, by first | rfl | go_num, by rw [HE.out] <;> first | rfl | exact congrArg (Value.int .i64) hwn, by rw [HE.out]; exact t7, p7⟩
        case measure => first | (rw [hw64]; simp only [intOf]; exact HM.out) | (simp only [intOf]; exact HM.out)
      · clear q hS
        have HE : Hid (unL (ps.take (j + 1)) L = (L1, n1)) := by
          show _ = _
          rw [HS.out]
          unfold unS
          rw [cnt_no hno, unR_none hno, Int.add_zero]
        clear HS h1' hno
        unfold Hid
        go_wp2_with (first
          | (have kk := r4; refine stS (.tmp 8) (.tmp 20) rfl rfl g4 zeroR _ rfl rfl r4 ?_; intro W5 g5 r5; have b5 := grown_below g5 b4 (Nat.le_trans b3.size hge4) b4.size; clear r4)
          | (refine alG infoRz rfl rfl ?_; intro g4 W4 hge4 hgl4 hB4 r4; have b4 := bt b3 hB4))
        obtain ⟨t5, _, p5⟩ := HB.out _ b5
        go_roundw
        case rel => exact ⟨j + 1, HJ.out, by first | rfl | go_num, by rw [HE.out], by rw [HE.out]; exact t5, p5⟩
        case measure => first | (rw [hw64]; simp only [intOf]; exact HM.out) | (simp only [intOf]; exact HM.out)
    · have hjl : j = ps.length := by omega
      subst hjl
      rw [List.take_length] at *
      clear hlt hj
      go_wp2_with fail
      go_ret
      exact ⟨rfl, hT⟩
end Go.Proofs.Ythofoocknmkdjaa

namespace Go.Proofs.Ythofoocknmkdjaa
open Go.RowKit Go.Maps Go.Shelf
set_option linter.unusedSimpArgs false
set_option linter.unusedVariables false
set_option maxRecDepth 20000
def onN (n : Ro) : Ro := n.sS true
def selR (L : List Ro) (k : Ky) : Int × List Ro := match getN L k with
  | none => (7, L)
  | some r => (0, putN (unR k.p L) (onN r))
theorem onN_ok {n : Ro} (h : n.ok) : (onN n).ok := ⟨h.q0, h.q1, h.r0, h.r1, h.m0, h.m1, h.u0, h.u1, h.d0, h.d1⟩
theorem PsW.one {w : World} {g : Nat} {p : Pr} (h : Row w g 36 (qcells p)) : PsW w (some ⟨g, 0, none⟩) [p] :=
  ⟨.inr ⟨g, 0, rfl, h.lt, fun j q hq => by
    match j, hq with
    | 0, rfl => exact h.range⟩⟩
theorem put_on {w : World} {t mb : Nat} {most : Int} {L : List Ro} {k : Ky} {r : Ro} (h : Tb w t mb most (unR k.p L)) (hg : getN L k = some r) (hwf : wfK k) (hok : r.ok) :
    Calls Try.prog 47 #[.pointer (some ⟨t, 0, none⟩), rV (onN r)] w fun e w' => e = .returned (.tuple #[]) ∧ Turn w w' t mb most (selR L k).2 := by
  obtain ⟨hr, hk⟩ := getN_some hg
  have e : (selR L k).2 = putN (unR k.p L) (onN r) := by unfold selR; rw [hg]
  have hw : wfK (onN r).k := by show wfK r.k; rw [hk]; exact hwf
  have hl : (putN (unR k.p L) (onN r)).length ≤ 1000000 := by
    rw [putN_len, if_pos]
    · exact h.ll
    · rw [List.any_eq_true]
      refine ⟨_, List.mem_map.2 ⟨r, hr, rfl⟩, ?_⟩
      rw [keyB_iff]
      split <;> rfl
  rw [e]
  exact put_any h (onN r) hw (onN_ok hok) hl
set_option maxHeartbeats 8000000 in
theorem select_any {w : World} {t mb : Nat} {most : Int} {L : List Ro} (h : Tb w t mb most L) (h1 : OneS L) (k : Ky) (hi : wfK k) :
    Calls Try.prog 32 #[.pointer (some ⟨t, 0, none⟩), (Value.agg (qcells k.p).toArray), .int .i64 k.i, (Value.agg (acells k.a).toArray)] w fun e w' => e = .returned (.int .i64 (selR L k).1) ∧ Turn w w' t mb most (selR L k).2 := by
  have hG := fun W (h : Tb W t mb most L) => get_any h k hi
  have hU := fun W (a : Option Addr) (c : Nat) (h : Tb W t mb most L) (hp : PsW W a [k.p]) => unselect_any h h1 a c [k.p] hp (by simp)
  have hUL : (unL [k.p] L).1 = unR k.p L := rfl
  obtain ⟨hB, r0, r1⟩ := low_rows w (qcells k.p) (acells k.a) 36 32
  have htm : mb < w.heap.size := h.map.lt
  go_enter Try.func32, Try.ntmps32
  go_upto_region 1 with fail
  refine name_world (R := fun W => Code.wp _ _ _ _ W) (P := fun W => Below w.heap.size w W ∧ Row W w.heap.size 36 (qcells k.p) ∧ Row W (w.heap.size + 1) 32 (acells k.a)) _ ⟨hB, r0, r1⟩ ?_
  clear hB r0 r1
  rintro X ⟨hB, r0, r1⟩
  have hX := h.below hB
  have HTn : Hid (∀ W W' L', Below X.heap.size X W → Turn W W' t mb most L' → Turn w W' t mb most L') := fun W W' L' a b => (b.pre a).pre hB
  have HQ : Hid (∀ W, Below X.heap.size X W → LQ W w.heap.size 0 k.p) := fun W a => (r0.below a r0.lt).range
  have HA : Hid (∀ W, Below X.heap.size X W → LA W (w.heap.size + 1) 0 k.a) := fun W a => (r1.below a r1.lt).range
  have HT : Hid (∀ W, Below X.heap.size X W → Tb W t mb most L) := fun W a => hX.below a
  have b0 := Below.refl X.heap.size X
  clear hB r0 r1 h
  cases hg : getN L k with
  | none =>
    have hv : getV (getN L k) = .tuple #[rV zeroR, .bool false] := by rw [hg]; rfl
    have HE : Hid (selR L k = (7, L)) := by show _ = _; unfold selR; rw [hg]
    rw [hv] at hG
    clear hg hU hv
    go_wp2_with (first
      | (have kk := r4; refine stS (.tmp 9) (.tmp 17) rfl rfl g4 zeroR _ rfl rfl r4 ?_; intro W5 g5 r5; have b5 := grown_below g5 b4 (Nat.le_trans b3.size hge4) b4.size; clear r4)
      | (have kk := b3; refine alG infoRz rfl rfl ?_; intro g4 W4 hge4 hgl4 hB4 r4; have b4 := bt b3 hB4)
      | (go_at_call 15; refine (hG _ (HT.out _ b0)).mono ?_; rintro e w3 ⟨rfl, k3⟩; have b3 := bt b0 k3)
      | (refine ldA (.tmp 7) rfl rfl _ _ k.a rfl (HA.out _ b0) ?_)
      | (refine ldQ (.tmp 5) rfl rfl _ _ k.p rfl (HQ.out _ b0) ?_))
    go_ret
    have e := HE.out
    exact ⟨by rw [e]; rfl, by rw [e]; exact HTn.out _ _ _ (Below.refl _ _) (Turn.of hX b5)⟩
  | some r =>
    have hv : getV (getN L k) = .tuple #[rV r, .bool true] := by rw [hg]; rfl
    have HE : Hid ((selR L k).1 = 0) := by show _ = _; unfold selR; rw [hg]
    have hok : r.ok := hX.nok r (getN_some hg).1
    have hPt := fun W (h : Tb W t mb most (unR k.p L)) => put_on h hg hi hok
    rw [hv] at hG
    rw [hUL] at hU
    have htX := hX.lt
    have hmX := hX.map.lt
    clear hv hok
    go_wp2_with (first
      | (have kk := q8; go_at_call 47; refine (hPt _ T8.tb).mono ?_; rintro e w9 ⟨rfl, hT9⟩; have t9 := HTn.out _ _ _ (Below.refl _ _) (T8.trans hT9); clear q8)
      | (have kk := q8; refine ldS (.tmp 9) rfl rfl _ _ (onN r) rfl q8.ro ?_)
      | (have kk := r7; (with_reducible refine inL ?_ fun K hK => ?_); (focus rfl); refine wp_stSe (.tmp 25) (.const (.bool true)) rfl g4 true r rfl rfl r7 ?_; intro W8 g8 q8; refine hK _ _ ?_; have T8 := T7.grow g8 (fun b e => by cases e; exact Nat.le_trans b3.size hge4) htX hmX; clear r7)
      | (have kk := r6; go_at_call 33; refine (hU _ _ _ (HT.out _ b6) (PsW.one r6)).mono ?_; rintro e w7 ⟨rfl, T0⟩; have hgm : g4 ≠ mb := (HT.out _ b6).map.ne_row r56; have r7 := T0.row r56 hgm; have T7 := T0.pre b6; clear r6 T0)
      | (have kk := r5; (with_reducible refine bsG (T := 56) (U := 36) (n := 1) [(0, .tmp 22)] (qcells k.p) ?_ ?_ ?_ ?_); (focus rfl); (focus rfl); (focus exact (fun w => bsP1 k.p w)); intro W6 r6 k6; have b6 := bt b5 k6; have r56 := r5.below k6 r5.lt; clear r5)
      | (have kk := r5; refine ldQ (.tmp 5) rfl rfl _ _ k.p rfl (HQ.out _ b5) ?_)
      | (have kk := r4; refine stS (.tmp 9) (.tmp 17) rfl rfl g4 r _ rfl rfl r4 ?_; intro W5 g5 r5; have b5 := grown_below g5 b4 (Nat.le_trans b3.size hge4) b4.size; clear r4)
      | (have kk := b3; refine alG infoRz rfl rfl ?_; intro g4 W4 hge4 hgl4 hB4 r4; have b4 := bt b3 hB4)
      | (go_at_call 15; refine (hG _ (HT.out _ b0)).mono ?_; rintro e w3 ⟨rfl, k3⟩; have b3 := bt b0 k3)
      | (refine ldA (.tmp 7) rfl rfl _ _ k.a rfl (HA.out _ b0) ?_)
      | (refine ldQ (.tmp 5) rfl rfl _ _ k.p rfl (HQ.out _ b0) ?_))
    go_ret
    exact ⟨by rw [HE.out]; rfl, t9⟩
end Go.Proofs.Ythofoocknmkdjaa
