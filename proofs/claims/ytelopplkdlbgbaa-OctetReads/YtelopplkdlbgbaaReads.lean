/-
  The law OctetReads returns true for every bytes and every list of steps that it is given (each reading of octet.Reader, its error, its place and what is left are those of the document's reader), and its arguments read as before: no condition.
-/
import Derived.Test.YtelopplkdlbgbaaReadsWalk
import Derived.Test.YtelopplkdlbgbaaFrame
import Derived.WalkKit
import Derived.ProofKit
import Derived.OpenShut
import Derived.ShutString
import Derived.ChangeOld
import Derived.Below
import Derived.Deep.SlicePairs
namespace Go.Proofs.Ytelopplkdlbgbaa.octetReads
open Go.ChangeShapes Go.WideShapes Go.ChangeAt Go.RowKit Go.Deep

theorem stlen (X : List (Int × Int)) : (stcells X).length = 2 * X.length := by
  induction X with
  | nil => rfl
  | cons q X ih =>
    have e : stcells (q :: X) = [.int .i64 q.1, .int .i64 q.2] ++ stcells X := by simp [stcells]
    rw [e, List.length_append, ih]
    simp
    omega
theorem stc_inv {X : List (Int × Int)} {j : Nat} {u : Value} (h : (stcells X)[j]? = some u) : ∃ (r : Nat) (hr : r < X.length), (j = r * 2 ∧ u = .int .i64 X[r].1) ∨ (j = r * 2 + 1 ∧ u = .int .i64 X[r].2) := by
  have hj : j < (stcells X).length := (List.getElem?_eq_some_iff.1 h).1
  rw [stlen] at hj
  have hr : j / 2 < X.length := by omega
  have hs := stc X (j / 2) hr
  refine ⟨j / 2, hr, ?_⟩
  rcases Nat.mod_two_eq_zero_or_one j with e | e
  · have e2 : j = j / 2 * 2 := by omega
    rw [← e2] at hs
    exact .inl ⟨e2, Option.some.inj (h.symm.trans hs.1)⟩
  · have e2 : j = j / 2 * 2 + 1 := by omega
    rw [← e2] at hs
    exact .inr ⟨e2, Option.some.inj (h.symm.trans hs.2)⟩

theorem walk (a0 : Option Addr) (len0 cap0 : Nat) (z0 : List Int) (a1 : Option Addr) (len1 cap1 : Nat) (X : List (Int × Int)) (w : World) (w0 : IsRow .u8 w a0 len0 cap0 z0) (hX : X.length = len1) (h1 : a1 = none → len1 = 0) (hc1 : ∀ ad, a1 = some ad → ∀ j u, (stcells X)[j]? = some u → w.cell? (ad.add j) = some u) :
    Calls Try.prog 4 #[.slice a0 len0 cap0, .slice a1 len1 cap1] w fun e w' => e = .returned (.bool true) ∧ Below w.heap.size w w' := by
  by_cases h : 20000 < len0 ∨ 60 < len1
  · exact reads_long a0 len0 cap0 a1 len1 cap1 w h
  · obtain ⟨l, hl⟩ := w0.bytes
    exact reads_walk a0 len0 cap0 l a1 len1 cap1 X w hl hX h1 hc1 (by omega) (by omega)

set_option maxRecDepth 100000 in
theorem lifted (os : Os) (started : os.Started) (H : Type) (enc : TypeId × Value → H) :
    ReturnsInHanded {} Try.checked os 4 .any (Rows.octetReadsSpec.pre6 enc Try.prog Try.f4 Rows.octetReadsRow.domain false) (Rows.octetReadsSpec.post enc Try.prog Try.f4 false true false false) := by
  refine returnsInHanded_of_change (C := Try.checked) own started (by kernel_rfl) Try.func4
    (ChangeSpec.witness6 (enc := enc) (C := Try.checked) false ⟨#[], #[.slice none 0 0, .slice none 0 0], []⟩ 8 (by kernel_rfl) (by kernel_rfl) (by kernel_rfl) (by kernel_rfl)) ?_
  intro W base args ds gs before hval0 hW hcnd _
  have hval : ∀ (j : Nat) t v, Try.f4.params[j]? = some t → args[j]? = some v → Value.okWide Try.prog W .any base t v := hval0
  have hW' := hW
  obtain ⟨p, q, hA0, hV, rfl, hfz, hnd⟩ := hW
  have hA : DataW.TrodAll enc Try.prog W 0 (fun _ => true) true Try.f4.params.toList args.toList ds p := hA0
  rw [Try.params4] at hA hval
  obtain ⟨v0, vs0, d0, ds0, p0, q0, hargs, rfl, rfl, h0, r0⟩ := trodAll_cons hA
  obtain ⟨v1, vs1, d1, ds1, p1, q1, rfl, rfl, rfl, h1, r1⟩ := trodAll_cons r0
  obtain ⟨rfl, rfl, rfl⟩ := trodAll_nil r1
  obtain rfl : args = #[v0, v1] := by cases args; simp_all
  obtain ⟨rfl, rfl⟩ := trodVars_none hV
  obtain ⟨a0, len0, cap0, rfl⟩ := okWide_slice Try.underlying22 (hval 0 22 v0 rfl rfl)
  have k0 := h0
  have lt0 : ∀ x ∈ p0, x.block < W.heap.size := by obtain ⟨m, hm⟩ := k0; exact DataW.trod_lt m _ _ _ hm
  obtain ⟨z0, w0⟩ : ∃ zs, IsRow .u8 W a0 len0 cap0 zs := by
    obtain ⟨fuel, hf⟩ := h0
    rcases open_ints Try.underlying22 Try.underlying5 (by kernel_rfl) hf with ⟨hcs, _⟩ | ⟨x, l, c, zs, hcs, _, hl, hm, hz, _, hcell, hwz⟩
    · simp [Value.cells] at hcs
      obtain ⟨rfl, rfl, rfl⟩ := hcs
      exact ⟨[], .inl ⟨rfl, rfl, rfl, rfl⟩⟩
    · simp [Value.cells] at hcs
      obtain ⟨rfl, rfl, rfl⟩ := hcs
      exact ⟨zs, .inr ⟨_, rfl, hl, hm, by simpa using hz, hcell, hwz⟩⟩
  obtain ⟨a1, len1, cap1, rfl⟩ := okWide_slice Try.underlying35 (hval 1 35 v1 rfl rfl)
  have k1 := h1
  have lt1 : ∀ x ∈ p1, x.block < W.heap.size := by obtain ⟨m, hm⟩ := k1; exact DataW.trod_lt m _ _ _ hm
  obtain ⟨X, hX, hb1, hc1⟩ : ∃ X : List (Int × Int), X.length = len1 ∧ (a1 = none → len1 = 0) ∧ ∀ ad, a1 = some ad → ∀ j u, (stcells X)[j]? = some u → W.cell? (ad.add j) = some u := by
    obtain ⟨fuel, hf⟩ := h1
    rcases open_slice_pairs Try.underlying35 Try.underlying41 (by kernel_rfl) rfl rfl (by kernel_rfl) (by kernel_rfl) hf with ⟨hcs, _⟩ | ⟨a, len, cap, m, n, V0, V1, D0, D1, P0, P1, hcs, _, hl, hm, hmm, hx, hrow⟩
    · simp [Value.cells] at hcs
      obtain ⟨rfl, rfl, rfl⟩ := hcs
      exact ⟨[], rfl, fun _ => rfl, fun ad h => by cases h⟩
    · simp [Value.cells] at hcs
      obtain ⟨rfl, rfl, rfl⟩ := hcs
      simp only [if_true] at hmm
      have each : ∀ r, r < len1 → ∃ q : Int × Int, W.cell? (a.add (r * 2)) = some (.int .i64 q.1) ∧ W.cell? (a.add (r * 2 + 1)) = some (.int .i64 q.2) := by
        intro r hr
        obtain ⟨e0, e1, t0, t1⟩ := hrow r (by omega)
        obtain ⟨x0, f0, _, _⟩ := DataW.trod_int Try.underlying3 t0
        obtain ⟨x1, f1, _, _⟩ := DataW.trod_int Try.underlying3 t1
        simp at f0 f1
        exact ⟨(x0, x1), by rw [e0, f0], by rw [e1, f1]⟩
      obtain ⟨f, hf⟩ := choose_lt each
      refine ⟨(List.range len1).map f, by simp, (fun h => by cases h), fun ad had j u hu => ?_⟩
      cases had
      obtain ⟨r, hr, hru⟩ := stc_inv hu
      simp at hr
      rcases hru with ⟨rfl, rfl⟩ | ⟨rfl, rfl⟩
      · simpa using (hf r hr).1
      · simpa using (hf r hr).2
  clear hA0 hval0
  refine (walk a0 len0 cap0 z0 a1 len1 cap1 X W w0 hX hb1 hc1).mono fun e W' ⟨he, bel⟩ => ?_
  subst he
  exact ⟨_, rfl, _, _, _, [], _, [], hW', trodAll_mk1 (shut_bool Try.underlying4 _), (trodAll_cons_mk (Below.trod laidOut (by kernel_rfl) (of_decide_eq_true (by kernel_rfl)) k0 bel lt0) (trodAll_cons_mk (Below.trod laidOut (by kernel_rfl) (of_decide_eq_true (by kernel_rfl)) k1 bel lt1) trodAll_mk0)), rfl, bel.frame _, fun h => by cases h⟩

theorem over : Rows.octetReadsRow.holds Try.pinned (OpenSpec.ofChange Rows.octetReadsSpec) :=
  OpenClaim.holds_of_wide 4 Try.f4 rfl rfl rfl rfl rfl rfl rfl ⟨rfl, rfl, rfl, rfl, rfl⟩ rfl rfl rfl rfl rfl (by kernel_rfl) Try.func4 (by kernel_rfl)
    (of_decide_eq_true (by kernel_rfl)) (by unfold Func.isWrapper; first | (rw [if_pos (by decide +kernel)]; kernel_rfl) | (rw [if_neg (by decide +kernel)]; exact ⟨rfl, rfl⟩))
    (fun os started H enc _ => lifted os started H enc)

end Go.Proofs.Ytelopplkdlbgbaa.octetReads
namespace Go.Proofs.Ytelopplkdlbgbaa
/-- The statement. -/
theorem octetReads_holds : Rows.OctetReadsSaid := octetReads.over
#print axioms octetReads_holds
end Go.Proofs.Ytelopplkdlbgbaa
