/-
  Facts of the laws: rows that lie on, lists that are told, an entry of one own.
-/
import Derived.Test.YtadnnjngflphjaaBH
import Derived.Test.YtadnnjngflphjaaArgs
namespace Go.Proofs.Ytadnnjngflphjaa
open Go.RowKit Go.Maps Go.Shelf
set_option linter.unusedSimpArgs false
set_option linter.unusedVariables false
set_option maxRecDepth 20000
theorem EsW.kt {w w1 W : World} {b k : Nat} {ad : Option Addr} {l : List En} (m : EsW w ad l) (B1 : Below w.heap.size w w1) (hb : w.heap.size ≤ b) (h : KT w1 W b k) : EsW W ad l := m.below (B1.trans (h.low.mono hb))
/-- A row of the call's own lies on. -/
theorem own_kt {w w' : World} {b k : Nat} {n : Int} {F : List Hd} {B : Nat} {v : Value} {l : List En} (h : KT w w' b k) (hK : Kn w b k n F) (ho : kE.Own w B v l) : kE.Own w' B v l := by
  refine ⟨ho.1, ?_⟩
  rcases ho.2 with h0 | ⟨g, cap, cur, e, hB, hh, hc⟩
  · exact .inl h0
  · have hr : Row w g 37 cur.toList := hh
    exact .inr ⟨g, cap, cur, e, hB, h.keep _ _ _ hr (hK.ne hr (by decide)), hc⟩
theorem impS_b {F : List Hd} (h : ∀ x ∈ F, x.b = true) (e : En) : ∀ x ∈ impS F e, x.b = true := by
  unfold impS
  split
  · intro x hx
    rcases mem_putF.1 hx with rfl | ⟨hx, _⟩
    · rfl
    · exact h x hx
  · exact h
theorem impF_b : ∀ (l : List En) {F : List Hd}, (∀ x ∈ F, x.b = true) → ∀ x ∈ impF F l, x.b = true
  | [], F, h => h
  | e :: l, F, h => impF_b l (F := impS F e) (impS_b h e)
theorem sel_all {F : List Hd} (h : ∀ x ∈ F, x.b = true) : sel false F = [] ∧ sel true F = F.map Hd.e := by
  unfold sel
  constructor
  · rw [List.filter_eq_nil_iff.2 fun x hx => by rw [h x hx]; decide]
    rfl
  · rw [List.filter_eq_self.2 fun x hx => by rw [h x hx]; rfl]
/-- Each list has one length. -/
theorem list_len {w : World} {b k : Nat} {n : Int} {F : List Hd} (h : Kn w b k n F) (hF : F.length ≤ 1000000) {m : Nat} (e : (sel false F).length = m) : Calls Try.prog 17 #[.pointer (some ⟨k, 0, none⟩)] w fun e w' => ∃ a c, e = .returned (.slice a m c) ∧ Below w.heap.size w w' := by
  refine (List_any h hF).mono ?_
  rintro e' w' ⟨a, c, K, rfl, h1, _, _, h4⟩
  have hl := h1.length_eq
  rw [e] at hl
  exact ⟨a, c, by rw [hl], h4⟩
/-- List tells what is one's own. -/
theorem list_own {w : World} {b k : Nat} {n : Int} {F : List Hd} (h : Kn w b k n F) (hF : F.length ≤ 1000000) : Calls Try.prog 17 #[.pointer (some ⟨k, 0, none⟩)] w fun e w' => ∃ a c A, e = .returned (.slice a (sel false F).length c) ∧ A.length = (sel false F).length ∧ A.Perm (sel false F) ∧ Asc A ∧ kE.Own w' w.heap.size (.slice a (sel false F).length c) A ∧ Below w.heap.size w w' := by
  refine (List_any h hF).mono ?_
  rintro e' w' ⟨a, c, K, rfl, h1, h2, h3, h4⟩
  have hl := h1.length_eq
  exact ⟨a, c, K, by rw [hl], hl, h1, h2, by rw [← hl]; exact h3, h4⟩
/-- Imported tells the list K, if that is what there is. -/
theorem imp_same {w : World} {b k : Nat} {n : Int} {F : List Hd} (h : Kn w b k n F) (hF : F.length ≤ 1000000) {K : List En} (hA : Asc K) (hp : K.Perm (sel true F)) : Calls Try.prog 18 #[.pointer (some ⟨k, 0, none⟩)] w fun e w' => ∃ a c, e = .returned (.slice a K.length c) ∧ kE.Own w' w.heap.size (.slice a K.length c) K ∧ Below w.heap.size w w' := by
  refine (Imported_any h hF).mono ?_
  rintro e' w' ⟨a, c, K', rfl, h1, h2, h3, h4⟩
  obtain rfl : K' = K := Asc.unique h2 hA (h1.trans hp.symm)
  exact ⟨a, c, rfl, h3, h4⟩
def eF : En := ⟨⟨⟨m4 9 9 9 9, 128⟩, any4⟩, 7, zeroA⟩
theorem wfF : wfQ eF.p := ⟨wf_small (by decide) (by decide), wf_small (by decide) (by decide)⟩
theorem chkF : Fa.chkQ eF.p = 0 := by kernel_rfl
theorem f4_9 (w : World) : Calls Try.prog 26 #[.int .u8 9, .int .u8 9, .int .u8 9, .int .u8 9] w (Gives w (Value.agg (acells (m4 9 9 9 9)).toArray)) := func4_any 9 9 9 9 w
theorem bdEF1 (w : World) : (Instr.build 33 #[(0, (Value.agg (acells (m4 9 9 9 9)).toArray)), (1, .int .i64 128)]).run Try.prog w = .ok (Value.agg (pcells (⟨m4 9 9 9 9, 128⟩)).toArray) w := by kernel_rfl
theorem bdEF2 (w : World) : (Instr.build 35 #[(0, (Value.agg (pcells (⟨m4 9 9 9 9, 128⟩)).toArray)), (1, (Value.agg (pcells any4).toArray))]).run Try.prog w = .ok (Value.agg (qcells eF.p).toArray) w := by kernel_rfl
theorem bdEF3 (w : World) : (Instr.build 37 #[(0, (Value.agg (qcells eF.p).toArray)), (1, .int .i64 7)]).run Try.prog w = .ok (eV eF) w := by kernel_rfl
/-- With failures ahead nothing is done. -/
theorem doF_fail {n : Int} {F : List Hd} {o : Oq} (h : n ≠ 0) : doF n F o = (false, n - 1, F) := if_pos h
theorem doF_new {F : List Hd} (h : fnd F eF.p = none) : doF 0 F ⟨1, eF⟩ = (true, 0, putF F ⟨eF, false⟩) := by
  unfold doF
  rw [if_neg (by simp), if_neg (by rw [chkF]; simp), show (⟨1, eF⟩ : Oq).e.p = eF.p from rfl, h]
  rfl
theorem doF_others {F : List Hd} {x : Hd} (h : fnd F eF.p = some x) (hb : x.b = true) : doF 0 F ⟨1, eF⟩ = (false, 0, F) := by
  unfold doF
  rw [if_neg (by simp), if_neg (by rw [chkF]; simp), show (⟨1, eF⟩ : Oq).e.p = eF.p from rfl, h]
  simp [hb]
theorem do_is {w : World} {b k : Nat} {n : Int} {F : List Hd} (h : Kn w b k n F) (o : Oq) (hi : wfQ o.e.p) (n0 : 0 ≤ n) (n1 : n ≤ 1000000) (hF : F.length < 1000000) {r : Bool} {m : Int} {G : List Hd} (e : doF n F o = (r, m, G)) : Calls Try.prog 10 #[.pointer (some ⟨k, 0, none⟩), oV o] w fun e w' => e = .returned (.bool r) ∧ Kn w' b k m G ∧ KT w w' b k := by
  refine (do_any h o hi n0 (by omega) hF).mono ?_
  rintro e' w' ⟨h1, h2, h3⟩
  rw [e] at h1 h2
  exact ⟨h1, h2, h3⟩
theorem free_iff {F : List Hd} {K : List En} (hb : ∀ x ∈ F, x.b = true) (hp : K.Perm (sel true F)) (p : Pr) : decide (fndI K p < 0) = (fnd F p).isNone := by
  rw [Bool.eq_iff_iff, decide_eq_true_eq, fndI_neg, Option.isNone_iff_eq_none, fnd_none]
  rw [(sel_all hb).2] at hp
  constructor
  · intro h x hx e
    exact h x.e (hp.mem_iff.2 (List.mem_map_of_mem hx)) e
  · intro h x hx e
    obtain ⟨y, hy, rfl⟩ := List.mem_map.1 (hp.mem_iff.1 hx)
    exact h y hy e
end Go.Proofs.Ytadnnjngflphjaa
