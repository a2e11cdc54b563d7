/-
  Ihu of many; when something of a neighbour changes.
-/
import Derived.Test.YtacadlbhgelncaaN25
import Derived.Test.YtacadlbhgelncaaN26
namespace Go.Proofs.Ytacadlbhgelncaa
open Lk (Hi hcs hcs_one)
open Rk (Rt rcs rtV)
open Go.RowKit Go.Maps Go.Shelf
set_option linter.unusedSimpArgs false
set_option linter.unusedVariables false
set_option maxRecDepth 20000
/-- Who is there behind an IHU. -/
def toldR (F : List Fc) (now : Int) (i : Int) (n : Ng) (h : Tl) : Ng := timedN (toldN n now h) now ((F[i.toNat]?.getD zeroF).r) h.st
def ihuX (F : List Fc) (L : List Ng) (now i : Int) (c : Ad) (h : Tl) : Int × List Ng := ihuR F L i c h (toldR F now i ((getN L i c).getD zeroN) h)
theorem told_ok {n : Ng} {now : Int} {h : Tl} (ok : n.ok) (hf : h.fit) : (toldN n now h).ok :=
  ⟨ok.mo, ok.mj, ok.uo, ok.uj, ok.mg0, ok.mg1, ok.ug0, ok.ug1, ok.ma0, ok.ma1, ok.ua0, ok.ua1, by show (0 : Int) ≤ (h.rx : Int); omega, by show (h.rx : Int) < 65536; have := hf.r1; omega, ok.rt0, ok.rt1⟩
theorem ihu_s {X W : World} {t mb : Nat} {most : Int} {F : List Fc} {L : List Ng} (h : Stt X W t mb most F L) (now i : Int) (c : Ad) (hl : Tl) (hi : wfI i) (hf : hl.fit) (t0 : 0 ≤ now) (t1 : now ≤ 1125899906842624) (hS : Sm W hl) (hL : L.length < 1000000) :
    Calls Try.prog 14 #[.pointer (some ⟨t, 0, none⟩), .int .i64 now, .int .i64 i, (Value.agg (acells c).toArray), .agg (tcells hl).toArray] W fun e w' => e = .returned (.int .i64 (ihuX F L now i c hl).1) ∧ Stt X w' t mb most F (ihuX F L now i c hl).2 := by
  refine (ihu_any h.tb now i c hl (toldR F now i ((getN L i c).getD zeroN) hl) hi hf t0 t1 hS hL (fun n hn f hfi => ?_)).mono ?_
  · obtain ⟨h1, h2, h3⟩ := getN_some hn
    have nk := h.tb.nok n h1
    have fo := h.tb.fok f (List.mem_of_getElem? hfi)
    have e : toldR F now i ((getN L i c).getD zeroN) hl = timedN (toldN n now hl) now f.r hl.st := by
      unfold toldR
      rw [hn, hfi]
      rfl
    rw [e]
    have ok1 := told_ok (now := now) nk.1 hf
    obtain ⟨k1, k2, k3, k4, _⟩ := timed_ok (now := now) (st := hl.st) ok1 fo.ro
    refine ⟨fun W' hW' => timed_any _ now f.r hl W' ok1 fo.ro (hS.below hW' (Nat.le_refl _)), k1, k2.trans h2, k3.trans h3, fun e => (k4 e).elim (fun e' => ?_) id⟩
    have e2 : n.hr = true := e'
    exact nk.2.2.2 e2 f (by rw [h2]; exact hfi)
  · rintro e w' ⟨rfl, hT⟩
    exact ⟨rfl, h.turn hT⟩
theorem ihu_len {F : List Fc} {L : List Ng} (now i : Int) (c : Ad) (h : Tl) (hf : h.fit) (hn : ∀ n ∈ L, n.ok) (ho : ∀ f ∈ F, f.ok) : (ihuX F L now i c h).2.length = L.length := by
  unfold ihuX ihuR
  split
  · rfl
  · split
    · rename_i n hg
      obtain ⟨h1, h2, h3⟩ := getN_some hg
      show (putN L (toldR F now i ((getN L i c).getD zeroN) h)).length = L.length
      have e : (toldR F now i ((getN L i c).getD zeroN) h).i = n.i ∧ (toldR F now i ((getN L i c).getD zeroN) h).a = n.a := by
        unfold toldR timedN
        rw [hg]
        split
        · split <;> exact ⟨rfl, rfl⟩
        · exact ⟨rfl, rfl⟩
      rw [putN_len, if_pos]
      exact List.any_eq_true.2 ⟨n, h1, keyB_iff.2 ⟨e.1.symm, e.2.symm⟩⟩
    · rfl
/-- The times of a neighbour are not far. -/
def Tn (nw : Int) (n : Ng) : Prop := n.ma ≤ nw + 983025 ∧ n.ua ≤ nw + 983025 ∧ 0 ≤ n.ta ∧ n.ta ≤ nw + 2293725
theorem Tn.mono {nw t : Int} {n : Ng} (h : Tn nw n) (ht : nw ≤ t) : Tn t n := ⟨by have := h.1; omega, by have := h.2.1; omega, h.2.2.1, by have := h.2.2.2; omega⟩
theorem Tn.aged {now : Int} {n : Ng} (h : Tn now n) (ok : n.ok) : Tn now (agedN n now) := by
  have a1 := late_at n.mg now ok.mg0 16 n.m n.ma
  have a2 := late_at n.ug now ok.ug0 16 n.u n.ua
  have := ok.mg1
  have := ok.ug1
  have := h.1
  have := h.2.1
  exact ⟨by show (late 16 n.m n.mg n.ma now).2 ≤ _; omega, by show (late 16 n.u n.ug n.ua now).2 ≤ _; omega, h.2.2.1, h.2.2.2⟩
theorem Tn.tick {L : List Ng} {now : Int} (hq : ∀ n ∈ L, Tn now n) (ok : ∀ n ∈ L, n.ok) : ∀ n ∈ (L.map (agedN · now)).filter (fun n => !deadB n), Tn now n := by
  intro x hx
  obtain ⟨y, hy, rfl⟩ := List.mem_map.1 (List.mem_filter.1 hx).1
  exact (hq y hy).aged (ok y hy)
theorem Tn.greet {now : Int} {n : Ng} {h : Tl} (hq : Tn now n) (hf : h.fit) (t0 : 0 ≤ now) : Tn now (greetN n now h) := by
  have ga : gapAt now h.intv ≤ now + 983025 := by
    have := hf.i1
    unfold gapAt
    split
    · omega
    · rw [Int.tdiv_eq_ediv_of_nonneg (by omega)]; omega
  have hh : Tn now (heardN n now h) := by
    unfold heardN
    split
    · exact ⟨hq.1, ga, hq.2.2.1, hq.2.2.2⟩
    · exact ⟨ga, hq.2.1, hq.2.2.1, hq.2.2.2⟩
  unfold greetN
  split
  · exact hh
  · exact hh
theorem Tn.hello {most : Int} {F : List Fc} {L : List Ng} {now i : Int} {c : Ad} {h : Tl} (hq : ∀ n ∈ L, Tn now n) (hf : h.fit) (t0 : 0 ≤ now) : ∀ n ∈ (helloR most F L now i c h).2, Tn now n := by
  unfold helloR
  split
  · exact hq
  · split
    · rename_i n hg
      intro x hx
      rcases mem_putN.1 hx with rfl | ⟨hx, _⟩
      · exact (hq n (getN_some hg).1).greet hf t0
      · exact hq x hx
    · split
      · exact hq
      · intro x hx
        rcases mem_putN.1 hx with rfl | ⟨hx, _⟩
        · refine Tn.greet ⟨?_, ?_, ?_, ?_⟩ hf t0
          · show (0 : Int) ≤ _; omega
          · show (0 : Int) ≤ _; omega
          · show (0 : Int) ≤ 0; omega
          · show (0 : Int) ≤ _; omega
        · exact hq x hx
theorem Tn.ihu {F : List Fc} {L : List Ng} {now i : Int} {c : Ad} {h : Tl} (hq : ∀ n ∈ L, Tn now n) (hf : h.fit) (t0 : 0 ≤ now) : ∀ n ∈ (ihuX F L now i c h).2, Tn now n := by
  unfold ihuX ihuR
  split
  · exact hq
  · split
    · rename_i n hg
      intro x hx
      rcases mem_putN.1 hx with rfl | ⟨hx, _⟩
      · have h1 := hq n (getN_some hg).1
        have h2 : Tn now (toldN n now h) := ⟨h1.1, h1.2.1, by show 0 ≤ now + (h.intv : Int) * 35; omega, by show now + (h.intv : Int) * 35 ≤ _; have := hf.i1; omega⟩
        unfold toldR timedN
        rw [hg]
        split
        · split
          · exact h2
          · exact h2
        · exact h2
      · exact hq x hx
    · exact hq
/-- When something of a neighbour changes. -/
def chgL (n : Ng) : List Int := (if awB n.m n.mg then [n.ma] else []) ++ ((if awB n.u n.ug then [n.ua] else []) ++ (if n.tx != 65535 then [n.ta] else []))
theorem chg_before {n : Ng} {T : Int} (h : ∀ a ∈ chgL n, T < a) : agedN n T = n := by
  have h1 : late 16 n.m n.mg n.ma T = (n.m, n.ma) := late_stop fun ⟨e1, e2⟩ => by
    have := h n.ma (by unfold chgL; simp [e1])
    omega
  have h2 : late 16 n.u n.ug n.ua T = (n.u, n.ua) := late_stop fun ⟨e1, e2⟩ => by
    have := h n.ua (by unfold chgL; simp [e1])
    omega
  have h3 : (if n.tx ≠ 65535 ∧ n.ta ≤ T then (65535 : Int) else n.tx) = n.tx := if_neg fun ⟨e1, e2⟩ => by
    have := h n.ta (by unfold chgL; simp [e1])
    omega
  unfold agedN
  rw [h1, h2, h3]
theorem late_le (g t : Int) : ∀ (f : Nat) (h : Hi) (a : Int), h.ok → (h.b ≠ 0 → h.k = true) → (late f h g a t).1.b ≤ h.b
  | 0, h, a, o, k => by show h.b ≤ h.b; omega
  | f + 1, h, a, o, k => by
    rw [late]
    split
    · rename_i hc
      have hbn : h.b ≠ 0 := by
        intro e
        have := hc.1
        simp [awB, e] at this
      have hm := miss_half (k hbn)
      have b0 := o.b0
      have b1 := o.b1
      have := late_le g t f (Lk.missH h 1) (a + g) (by rw [hm]; exact ⟨by show 0 ≤ h.b / 2; omega, by show h.b / 2 < 65536; omega, by show 0 ≤ (h.n + 1) % 65536; omega, by show (h.n + 1) % 65536 < 65536; omega⟩) (by rw [hm]; intro _; rfl)
      have e : (Lk.missH h 1).b = h.b / 2 := by rw [hm]
      omega
    · show h.b ≤ h.b; omega
theorem late_lt (g t : Int) (f : Nat) (h : Hi) (a : Int) (o : h.ok) (k : h.b ≠ 0 → h.k = true) (hc : awB h g = true ∧ a ≤ t) : (late (f + 1) h g a t).1.b < h.b := by
  rw [late, if_pos hc]
  have hbn : h.b ≠ 0 := by
    intro e
    have := hc.1
    simp [awB, e] at this
  have hm := miss_half (k hbn)
  have b0 := o.b0
  have b1 := o.b1
  have := late_le g t f (Lk.missH h 1) (a + g) (by rw [hm]; exact ⟨by show 0 ≤ h.b / 2; omega, by show h.b / 2 < 65536; omega, by show 0 ≤ (h.n + 1) % 65536; omega, by show (h.n + 1) % 65536 < 65536; omega⟩) (by rw [hm]; intro _; rfl)
  have e : (Lk.missH h 1).b = h.b / 2 := by rw [hm]
  omega
theorem chg_at {n : Ng} {a T : Int} (ok : n.ok) (h : a ∈ chgL n) (ht : a ≤ T) : agedN n T ≠ n := by
  intro e
  have hm : (agedN n T).m = n.m := by rw [e]
  have hu : (agedN n T).u = n.u := by rw [e]
  have hx : (agedN n T).tx = n.tx := by rw [e]
  unfold chgL at h
  rcases List.mem_append.1 h with h | h
  · cases hw : awB n.m n.mg with
    | false => rw [hw] at h; simp at h
    | true =>
      rw [hw] at h
      simp at h
      subst h
      have : (late 16 n.m n.mg n.ma T).1.b < n.m.b := late_lt n.mg T 15 n.m n.ma ok.mo ok.mj ⟨hw, ht⟩
      have e2 : (late 16 n.m n.mg n.ma T).1.b = n.m.b := congrArg Lk.Hi.b hm
      omega
  · rcases List.mem_append.1 h with h | h
    · cases hw : awB n.u n.ug with
      | false => rw [hw] at h; simp at h
      | true =>
        rw [hw] at h
        simp at h
        subst h
        have : (late 16 n.u n.ug n.ua T).1.b < n.u.b := late_lt n.ug T 15 n.u n.ua ok.uo ok.uj ⟨hw, ht⟩
        have e2 : (late 16 n.u n.ug n.ua T).1.b = n.u.b := congrArg Lk.Hi.b hu
        omega
    · cases hw : (n.tx != 65535) with
      | false => rw [hw] at h; simp at h
      | true =>
        rw [hw] at h
        simp at h
        subst h
        have hne : n.tx ≠ 65535 := by simpa using hw
        have e2 : (if n.tx ≠ 65535 ∧ n.ta ≤ T then (65535 : Int) else n.tx) = n.tx := hx
        rw [if_pos ⟨hne, ht⟩] at e2
        exact hne e2.symm
theorem chg_near {n : Ng} {nw a : Int} (ok : n.ok) (h : Tn nw n) (ha : a ∈ chgL n) : -1125899906842624 ≤ a ∧ a ≤ nw + 2293725 := by
  unfold chgL at ha
  have := ok.ma0
  have := ok.ua0
  have := h.1
  have := h.2.1
  have := h.2.2.1
  have := h.2.2.2
  rcases List.mem_append.1 ha with h | h
  · split at h
    · simp at h; omega
    · simp at h
  · rcases List.mem_append.1 h with h | h
    · split at h
      · simp at h; omega
      · simp at h
    · split at h
      · simp at h; omega
      · simp at h
end Go.Proofs.Ytacadlbhgelncaa
