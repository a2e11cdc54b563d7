/-
  What a time costs; which configurations may be; the law's live: the program and the document.
-/
import Derived.Test.YtacadlbhgelncaaR0
namespace Go.Proofs.Ytacadlbhgelncaa.Rk
open Go.RowKit
set_option linter.unusedSimpArgs false
/-- What may be. -/
structure Rt.ok (c : Rt) : Prop where
  m0 : 0 ≤ c.mi
  m1 : c.mi < c.ma
  m2 : c.ma ≤ 1000000
  c0 : 1 ≤ c.co
  c1 : c.co ≤ 65534
  d0 : 1 ≤ c.de
  d1 : c.de ≤ 256
def costR (c : Rt) (t : Int) : Int := if c.on = false ∨ t ≤ c.mi then 0 else if c.ma ≤ t then c.co else c.co * (t - c.mi) / (c.ma - c.mi)
theorem wrap16_id (z : Int) (h : 0 ≤ z) (h' : z < 65536) : IntKind.u16.wrap z = z := by rw [wrap16]; omega
theorem cost_mid (mi ma co t : Int) (m1 : mi < t) (m2 : t < ma) (c0 : 0 ≤ co) : 0 ≤ co * (t - mi) / (ma - mi) ∧ co * (t - mi) / (ma - mi) ≤ co := by
  have p0 : 0 ≤ co * (t - mi) := Int.mul_nonneg c0 (by omega)
  have p1 : co * (t - mi) ≤ co * (ma - mi) := Int.mul_le_mul_of_nonneg_left (by omega) c0
  exact ⟨Int.ediv_nonneg p0 (by omega), Int.le_trans (Int.ediv_le_ediv (by omega) p1) (by rw [Int.mul_ediv_cancel _ (by omega)]; exact Int.le_refl _)⟩
theorem cost_facts (mi ma co t : Int) (m0 : 0 ≤ mi) (m1 : mi < t) (m2 : t < ma) (m3 : ma ≤ 1000000) (c0 : 0 ≤ co) (c1 : co ≤ 65534) :
    wrap64 (t - mi) = t - mi ∧ wrap64 (co * (t - mi)) = co * (t - mi) ∧ wrap64 (ma - mi) = ma - mi ∧ (co * (t - mi)).tdiv (ma - mi) = co * (t - mi) / (ma - mi) ∧ wrap64 (co * (t - mi) / (ma - mi)) = co * (t - mi) / (ma - mi) ∧ co * (t - mi) / (ma - mi) % 65536 = co * (t - mi) / (ma - mi) ∧ (ma - mi == 0) = false := by
  have p0 : 0 ≤ co * (t - mi) := Int.mul_nonneg c0 (by omega)
  have p1 : co * (t - mi) ≤ 65534 * (t - mi) := Int.mul_le_mul_of_nonneg_right c1 (by omega)
  have q := cost_mid mi ma co t m1 m2 c0
  exact ⟨w64 _ (by omega) (by omega), w64 _ (by omega) (by omega), w64 _ (by omega) (by omega), Int.tdiv_eq_ediv_of_nonneg p0, w64 _ (by omega) (by omega), by omega, by simp; omega⟩
theorem alloc_b (w : World) (o : Obj) : Below w.heap.size w (w.alloc o) := (Below.refl _ _).alloc (Nat.le_refl _) _
theorem cost_any (c : Rt) (t : Int) (w : World) (m0 : 0 ≤ c.mi) (m3 : c.ma ≤ 1000000) (c0 : 0 ≤ c.co) (c1 : c.co ≤ 65534) : Calls Try.prog 40 #[rtV c, .int .i64 t] w (Gives w (.int .u16 (costR c t))) := by
  have HX : Hid (costR c t = if c.on = false ∨ t ≤ c.mi then 0 else if c.ma ≤ t then c.co else c.co * (t - c.mi) / (c.ma - c.mi)) := rfl
  generalize costR c t = X at *
  obtain ⟨on, mi, ma, co, de⟩ := c
  dsimp only at m0 m3 c0 c1 HX ⊢
  have HB := alloc_b w (.cells #[.bool on, .int .i64 mi, .int .i64 ma, .int .i64 co, .int .i64 de] 64)
  cases on with
  | false =>
    obtain rfl : X = 0 := by rw [HX.out, if_pos (.inl rfl)]
    go_enter Try.func40, Try.ntmps40
    go_wp2
    go_ret
    exact ⟨rfl, HB⟩
  | true =>
    by_cases h : t ≤ mi
    · obtain rfl : X = 0 := by rw [HX.out, if_pos (.inr h)]
      go_enter Try.func40, Try.ntmps40
      go_wp2
      go_ret
      exact ⟨rfl, HB⟩
    · have hn : ¬ (true = false ∨ t ≤ mi) := by simp; omega
      have h' : mi < t := by omega
      by_cases g : ma ≤ t
      · obtain rfl : X = co := by rw [HX.out, if_neg hn, if_pos g]
        have e1 : X % 65536 = X := by omega
        clear h hn HX
        go_enter Try.func40, Try.ntmps40
        go_wp2
        go_ret
        refine ⟨?_, HB⟩
        first | rfl | exact congrArg (fun z => Ending.returned (Value.int .u16 z)) e1 | exact congrArg (fun z => Ending.returned (Value.int .u16 z)) (wrap16_id X (by omega) (by omega))
      · obtain rfl : X = co * (t - mi) / (ma - mi) := by rw [HX.out, if_neg hn, if_neg g]
        have g' : t < ma := by omega
        obtain ⟨e1, e2, e3, e4, e5, e6, e7⟩ := cost_facts mi ma co t m0 h' g' m3 c0 c1
        have e8 : Hid (IntKind.u16.wrap (co * (t - mi) / (ma - mi)) = co * (t - mi) / (ma - mi)) := by have := cost_mid mi ma co t h' g' c0; exact wrap16_id _ this.1 (by omega)
        clear h g hn HX m0 m3 c0 c1
        go_enter Try.func40, Try.ntmps40
        go_wp2
        go_ret
        refine ⟨?_, HB⟩
        first | rfl | exact congrArg (fun z => Ending.returned (Value.int .u16 z)) e6 | exact congrArg (fun z => Ending.returned (Value.int .u16 z)) e8.out
def mayB (c : Rt) : Bool := decide (0 ≤ c.mi ∧ c.mi < c.ma ∧ c.ma ≤ 1000000 ∧ 1 ≤ c.co ∧ c.co ≤ 65534 ∧ 1 ≤ c.de ∧ c.de ≤ 256)
theorem mayB_ok {c : Rt} (h : mayB c = true) : c.ok := by
  obtain ⟨h0, h1, h2, h3, h4, h5, h6⟩ := of_decide_eq_true h
  exact ⟨h0, h1, h2, h3, h4, h5, h6⟩
theorem is_none (w : World) : Is w none 0 [] := ⟨rfl, .inl rfl⟩
/-- A slice of numbers that was just made. -/
theorem is_new (w : World) (l : List Int) (t : TypeId) : Is (w.alloc (.cells (l.map (Value.int .i64)).toArray t)) (some ⟨w.heap.size, 0, none⟩) l.length l := by
  have q := Row.new w t (l.map (Value.int .i64))
  exact ⟨rfl, .inr ⟨_, 0, rfl, q.lt, fun j v hv => by rw [Nat.zero_add, q.cell]; simp [hv]⟩⟩
theorem smooth_new (c : Rt) (o : Int) (l : List Int) (cs : Array Value) (n k g : Nat) (w : World) (d0 : 1 ≤ c.de) (d1 : c.de ≤ 256) (o1 : o ≤ 2147483648) (hl : ∀ s ∈ l, 0 ≤ s ∧ s ≤ 2147483648) (hn : n ≤ 140737488355328) (hlen : l.length = n) (t : TypeId) (hc : (l.map (Value.int .i64)).toArray = cs) (hg : g = w.heap.size) :
    Calls Try.prog 57 #[rtV c, .int .i64 o, .slice (some ⟨g, 0, none⟩) n k] (w.alloc (.cells cs t)) fun e w' => e = .returned (.int .i64 (smZ c.de o l)) ∧ Below w.heap.size w w' := by
  subst hc hg hlen
  refine (smooth_any c o _ _ k l _ d0 d1 o1 hl hn (is_new w l t)).mono ?_
  rintro e w' ⟨rfl, hw⟩
  exact ⟨rfl, (alloc_b w _).trans (hw.mono (by simp))⟩
end Go.Proofs.Ytacadlbhgelncaa.Rk
