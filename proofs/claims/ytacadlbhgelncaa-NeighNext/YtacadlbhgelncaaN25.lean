/-
  The table under way in a law: Hello, Tick and List of many; who is not heard any more is gone.
-/
import Derived.Test.YtacadlbhgelncaaN24
import Derived.Test.YtacadlbhgelncaaUnW
namespace Go.Proofs.Ytacadlbhgelncaa
open Lk (Hi hcs hcs_one)
open Rk (Rt rcs rtV)
open Go.RowKit Go.Maps Go.Shelf
set_option linter.unusedSimpArgs false
set_option linter.unusedVariables false
set_option maxRecDepth 20000
section
variable {ops : Array Oper} {op : Oper} {a : Act} {S : World → Prop}
theorem yTm {b o : Nat} {x : Operand} (t : Tl) (hS : ∀ w, S w → w.rangeAt b o (tcells t)) (hw : Region.wanted op (yielded ops a.tmps) = true) (ho : op.op = .load 39 x) (hx : a.eval x = .pointer (some ⟨b, o, none⟩)) : YieldsIf Try.prog ops S op (.agg (tcells t).toArray) a :=
  yieldsIf_load_mid hw _ x ho b o hx (tcells t) _ hS Try.underlying39 rfl (by rw [infoTs, tcells_len])
end
theorem list_s {X W : World} {t mb : Nat} {most : Int} {F : List Fc} {L : List Ng} (h : Stt X W t mb most F L) :
    Calls Try.prog 13 #[.pointer (some ⟨t, 0, none⟩)] W fun e w' => ∃ ad c, e = .returned (.slice ad L.length c) ∧ Stt X w' t mb most F L := by
  refine (list_any h.tb).mono ?_
  rintro e w' ⟨r, K, rfl, hp, _, hO, hB⟩
  obtain ⟨ad, c, rfl, _⟩ := Kd.own_at hO
  exact ⟨ad, c, by rw [hp.length_eq], h.below hB⟩
theorem tick_s {X W : World} {t mb : Nat} {most : Int} {F : List Fc} {L : List Ng} (h : Stt X W t mb most F L) (now : Int) (t1 : now ≤ 1125899906842624) :
    Calls Try.prog 12 #[.pointer (some ⟨t, 0, none⟩), .int .i64 now] W fun e w' => ∃ ad n c, e = .returned (.slice ad n c) ∧ Stt X w' t mb most F ((L.map (agedN · now)).filter (fun n => !deadB n)) := by
  refine (tick_any h.tb now t1).mono ?_
  rintro e w' ⟨r, K, rfl, hp, _, hT, hO⟩
  obtain ⟨ad, c, rfl, _⟩ := Kd.own_at hO
  have hp2 : ((L.map (agedN · now)).filter (fun n => !deadB n)).Perm ((K.map (agedN · now)).filter (fun n => !deadB n)) := (hp.symm.map _).filter _
  exact ⟨ad, _, c, rfl, h.turn (hT.perm hp2)⟩
theorem hello_s {X W : World} {t mb : Nat} {most : Int} {F : List Fc} {L : List Ng} (h : Stt X W t mb most F L) (now i : Int) (c : Ad) (hl : Tl) (hi : wfI i) (hf : hl.fit) (t0 : 0 ≤ now) (t1 : now ≤ 1125899906842624) (hS : Sm W hl) (hL : L.length < 1000000) :
    Calls Try.prog 11 #[.pointer (some ⟨t, 0, none⟩), .int .i64 now, .int .i64 i, (Value.agg (acells c).toArray), .agg (tcells hl).toArray] W fun e w' => e = .returned (.int .i64 (helloR most F L now i c hl).1) ∧ Stt X w' t mb most F (helloR most F L now i c hl).2 := by
  refine (hello_any h.tb now i c hl hi hf t0 t1 hS hL).mono ?_
  rintro e w' ⟨rfl, hT⟩
  exact ⟨rfl, h.turn hT⟩
theorem hello_len {most : Int} {F : List Fc} {L : List Ng} (now i : Int) (c : Ad) (h : Tl) (hL : (L.length : Int) ≤ most) : ((helloR most F L now i c h).2.length : Int) ≤ most := by
  unfold helloR
  split
  · exact hL
  · split
    · rename_i n hg
      obtain ⟨h1, h2, h3⟩ := getN_some hg
      obtain ⟨k1, k2, _⟩ := greet_key n now h
      have : L.any (keyB (greetN n now h).i (greetN n now h).a) = true := List.any_eq_true.2 ⟨n, h1, keyB_iff.2 ⟨k1.symm, k2.symm⟩⟩
      rw [putN_len, if_pos this]
      exact hL
    · split
      · exact hL
      · have := putN_le L (greetN (newN i c) now h)
        show ((putN L (greetN (newN i c) now h)).length : Int) ≤ most
        omega
/-- What is kept of a neighbour whose hellos told a gap. -/
def Qn (now : Int) (n : Ng) : Prop := (n.m.b ≠ 0 → 0 < n.mg ∧ n.ma ≤ now + 983025) ∧ (n.u.b ≠ 0 → 0 < n.ug ∧ n.ua ≤ now + 983025)
theorem Qn.mono {now t : Int} {n : Ng} (h : Qn now n) (ht : now ≤ t) : Qn t n := ⟨fun e => ⟨(h.1 e).1, by have := (h.1 e).2; omega⟩, fun e => ⟨(h.2 e).1, by have := (h.2 e).2; omega⟩⟩
theorem late_at (g t : Int) (g0 : 0 ≤ g) : ∀ (f : Nat) (h : Hi) (a : Int), (late f h g a t).2 ≤ max a (t + g)
  | 0, h, a => by show a ≤ _; omega
  | f + 1, h, a => by
    rw [late]
    split
    · rename_i hc
      have := late_at g t g0 f (Lk.missH h 1) (a + g)
      have := hc.2
      omega
    · show a ≤ _; omega
theorem late_nz (g t : Int) : ∀ (f : Nat) (h : Hi) (a : Int), (late f h g a t).1.b ≠ 0 → h.b ≠ 0
  | 0, h, a, e => e
  | f + 1, h, a, e => by
    rw [late] at e
    split at e
    · rename_i hc
      intro hz
      have := hc.1
      simp [awB, hz] at this
    · exact e
theorem late_dead (g t : Int) (g0 : 0 < g) : ∀ (f : Nat) (h : Hi) (a : Int), h.ok → (h.b ≠ 0 → h.k = true) → h.b < 2 ^ f → a + f * g ≤ t + g → (late f h g a t).1.b = 0
  | 0, h, a, o, k, hb, ha => by
    have := o.b0
    have : h.b < 1 := by simpa using hb
    show h.b = 0
    omega
  | f + 1, h, a, o, k, hb, ha => by
    rw [late]
    have e1 : ((f + 1 : Nat) : Int) * g = (f : Int) * g + g := by rw [Int.natCast_add, Int.add_mul]; simp
    have fg : 0 ≤ (f : Int) * g := Int.mul_nonneg (by omega) (by omega)
    rw [e1] at ha
    split
    · rename_i hc
      have hbn : h.b ≠ 0 := by
        intro e
        have := hc.1
        simp [awB, e] at this
      have hm := miss_half (k hbn)
      have b0 := o.b0
      have b1 := o.b1
      refine late_dead g t g0 f _ _ ?_ ?_ ?_ (by omega)
      · rw [hm]
        exact ⟨by show 0 ≤ h.b / 2; omega, by show h.b / 2 < 65536; omega, by show 0 ≤ (h.n + 1) % 65536; omega, by show (h.n + 1) % 65536 < 65536; omega⟩
      · rw [hm]; intro _; rfl
      · rw [hm]
        show h.b / 2 < 2 ^ f
        rw [Int.pow_succ] at hb
        omega
    · rename_i hc
      have hat : a ≤ t := by omega
      cases hw : awB h g with
      | true => exact absurd ⟨hw, hat⟩ hc
      | false =>
        unfold awB at hw
        simp at hw
        show h.b = 0
        by_cases e : h.b = 0
        · exact e
        · have := hw e; omega
theorem Qn.aged {now : Int} {n : Ng} (h : Qn now n) (ok : n.ok) : Qn now (agedN n now) := by
  constructor
  · intro e
    have e' := late_nz n.mg now 16 n.m n.ma e
    have h1 := h.1 e'
    have := late_at n.mg now ok.mg0 16 n.m n.ma
    have := ok.mg1
    exact ⟨h1.1, by show (late 16 n.m n.mg n.ma now).2 ≤ _; omega⟩
  · intro e
    have e' := late_nz n.ug now 16 n.u n.ua e
    have h1 := h.2 e'
    have := late_at n.ug now ok.ug0 16 n.u n.ua
    have := ok.ug1
    exact ⟨h1.1, by show (late 16 n.u n.ug n.ua now).2 ≤ _; omega⟩
theorem Qn.dead {now : Int} {n : Ng} (h : Qn now n) (ok : n.ok) : deadB (agedN n (now + 11796300)) = true := by
  have d1 : (agedN n (now + 11796300)).m.b = 0 := by
    by_cases e : n.m.b = 0
    · cases hz : decide ((late 16 n.m n.mg n.ma (now + 11796300)).1.b = 0) with
      | true => exact of_decide_eq_true hz
      | false => exact absurd e (late_nz _ _ 16 n.m n.ma (of_decide_eq_false hz))
    · have h1 := h.1 e
      have := ok.mg1
      exact late_dead n.mg (now + 11796300) h1.1 16 n.m n.ma ok.mo ok.mj (by have := ok.mo.b1; omega) (by omega)
  have d2 : (agedN n (now + 11796300)).u.b = 0 := by
    by_cases e : n.u.b = 0
    · cases hz : decide ((late 16 n.u n.ug n.ua (now + 11796300)).1.b = 0) with
      | true => exact of_decide_eq_true hz
      | false => exact absurd e (late_nz _ _ 16 n.u n.ua (of_decide_eq_false hz))
    · have h1 := h.2 e
      have := ok.ug1
      exact late_dead n.ug (now + 11796300) h1.1 16 n.u n.ua ok.uo ok.uj (by have := ok.uo.b1; omega) (by omega)
  unfold deadB
  simp [d1, d2]
theorem Qn.greet {now : Int} {n : Ng} {h : Tl} (hq : Qn now n) (hi : 0 < h.intv) (hf : h.fit) : Qn now (greetN n now h) := by
  have ga : gapAt now h.intv ≤ now + 983025 := by
    have := hf.i1
    unfold gapAt
    split
    · omega
    · rw [Int.tdiv_eq_ediv_of_nonneg (by omega)]; omega
  have hh : Qn now (heardN n now h) := by
    unfold heardN
    split
    · exact ⟨hq.1, fun _ => ⟨by show 0 < (h.intv : Int) * 10; omega, ga⟩⟩
    · exact ⟨fun _ => ⟨by show 0 < (h.intv : Int) * 10; omega, ga⟩, hq.2⟩
  unfold greetN
  split
  · exact hh
  · exact ⟨hh.1, hh.2⟩
theorem Qn.hello {most : Int} {F : List Fc} {L : List Ng} {now i : Int} {c : Ad} {h : Tl} (hq : ∀ n ∈ L, Qn now n) (hi : 0 < h.intv) (hf : h.fit) : ∀ n ∈ (helloR most F L now i c h).2, Qn now n := by
  unfold helloR
  split
  · exact hq
  · split
    · rename_i n hg
      intro x hx
      rcases mem_putN.1 hx with rfl | ⟨hx, _⟩
      · exact (hq n (getN_some hg).1).greet hi hf
      · exact hq x hx
    · split
      · exact hq
      · intro x hx
        rcases mem_putN.1 hx with rfl | ⟨hx, _⟩
        · exact Qn.greet ⟨fun e => absurd rfl e, fun e => absurd rfl e⟩ hi hf
        · exact hq x hx
theorem Qn.tick {L : List Ng} {now : Int} (hq : ∀ n ∈ L, Qn now n) (ok : ∀ n ∈ L, n.ok) : ∀ n ∈ (L.map (agedN · now)).filter (fun n => !deadB n), Qn now n := by
  intro x hx
  obtain ⟨y, hy, rfl⟩ := List.mem_map.1 (List.mem_filter.1 hx).1
  exact (hq y hy).aged (ok y hy)
theorem Qn.end {L : List Ng} {now : Int} (hq : ∀ n ∈ L, Qn now n) (ok : ∀ n ∈ L, n.ok) : (L.map (agedN · (now + 11796300))).filter (fun n => !deadB n) = [] := by
  rw [List.filter_eq_nil_iff]
  intro x hx
  obtain ⟨y, hy, rfl⟩ := List.mem_map.1 hx
  simp [(hq y hy).dead (ok y hy)]
theorem tick_len (L : List Ng) (now : Int) : ((L.map (agedN · now)).filter (fun n => !deadB n)).length ≤ L.length := by
  have := List.length_filter_le (fun n => !deadB n) (L.map (agedN · now))
  rw [List.length_map] at this
  exact this
end Go.Proofs.Ytacadlbhgelncaa
