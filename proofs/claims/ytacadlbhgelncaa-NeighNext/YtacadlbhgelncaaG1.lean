/-
  What Miss, before and Hear answer, for every history.
-/
import Derived.Test.YtacadlbhgelncaaG0
import Derived.BigQuiet
namespace Go.Proofs.Ytacadlbhgelncaa.Lk
open Go.RowKit
set_option linter.unusedSimpArgs false
theorem Row.one' {w : World} {g : Nat} {t : TypeId} {c : Hi} (h : Row w g t (hcs c)) : w.cell? ⟨g, 0, none⟩ = some (.int .u16 c.b) := (h.cell 0).trans rfl
/-- A history that is handed in, and room for the answer. -/
theorem rows_two (w : World) (b m : Int) (k : Bool) : Below w.heap.size w ((w.alloc (.cells #[.int .u16 b, .int .u16 m, .bool k] 52)).alloc (.cells #[.int .u16 0, .int .u16 0, .bool false] 52))
    ∧ Row ((w.alloc (.cells #[.int .u16 b, .int .u16 m, .bool k] 52)).alloc (.cells #[.int .u16 0, .int .u16 0, .bool false] 52)) w.heap.size 52 (hcs ⟨b, m, k⟩)
    ∧ Row ((w.alloc (.cells #[.int .u16 b, .int .u16 m, .bool k] 52)).alloc (.cells #[.int .u16 0, .int .u16 0, .bool false] 52)) (w.heap.size + 1) 52 (hcs ⟨0, 0, false⟩) := by
  have q1 := Row.new (w.alloc (.cells (hcs ⟨b, m, k⟩).toArray 52)) 52 (hcs ⟨0, 0, false⟩)
  rw [World.size_alloc] at q1
  exact ⟨((Below.refl _ _).alloc (Nat.le_refl _) _).alloc (by simp) _, (Row.new w 52 (hcs ⟨b, m, k⟩)).alloc _, q1⟩
theorem ret_row (w : World) (o : Obj) (b m : Int) (k : Bool) (t : TypeId) : LH ((w.alloc o).alloc (.cells #[.int .u16 b, .int .u16 m, .bool k] t)) (w.heap.size + 1) ⟨b, m, k⟩ := by
  have q := Row.new (w.alloc o) t (hcs ⟨b, m, k⟩)
  rw [World.size_alloc] at q
  exact LH.range q
theorem two_below (w : World) (o p : Obj) : Below w.heap.size w ((w.alloc o).alloc p) := ((Below.refl _ _).alloc (Nat.le_refl _) _).alloc (by simp) _
/-- n hellos that did not come. -/
def missH (h : Hi) (n : Int) : Hi := if h.k = true ∧ 1 ≤ n then ⟨h.b / 2 ^ min n.toNat 16, (h.n + n) % 65536, true⟩ else h
theorem miss_any (h : Hi) (n : Int) (w : World) : Calls Try.prog 68 #[.agg #[.int .u16 h.b, .int .u16 h.n, .bool h.k], .int .i64 n] w (Gives w (.agg #[.int .u16 (missH h n).b, .int .u16 (missH h n).n, .bool (missH h n).k])) := by
  obtain ⟨b, m, k⟩ := h
  dsimp only
  cases k with
  | false =>
    rw [show missH ⟨b, m, false⟩ n = ⟨b, m, false⟩ by simp [missH]]
    go_enter Try.func68, Try.ntmps68
    go_wp2
    exact bodyPost_ret (retC rfl _ _ 0 rfl (lvH (ret_row _ _ _ _ _ _))) rfl ⟨rfl, two_below _ _ _⟩
  | true =>
    by_cases hn : n < 1
    · rw [show missH ⟨b, m, true⟩ n = ⟨b, m, true⟩ by simp [missH]; omega]
      go_enter Try.func68, Try.ntmps68
      go_wp2
      exact bodyPost_ret (retC rfl _ _ 0 rfl (lvH (ret_row _ _ _ _ _ _))) rfl ⟨rfl, two_below _ _ _⟩
    · rw [show missH ⟨b, m, true⟩ n = ⟨b / 2 ^ min n.toNat 16, (m + n) % 65536, true⟩ by unfold missH; rw [if_pos ⟨rfl, by omega⟩]]
      have hn0 : 0 ≤ n := by omega
      have e : IntKind.u16.wrap (m + IntKind.u16.wrap n) = (m + n) % 65536 := by rw [wrap16, wrap16]; omega
      go_enter Try.func68, Try.ntmps68
      go_wp2
      exact bodyPost_ret (retC rfl _ _ 0 rfl (lvH (ret_row _ _ _ _ _ _))) rfl ⟨rfl, two_below _ _ _⟩
/-- One hello that did not come, as the document has it. -/
def miss1 (h : Hi) : Hi := if h.k = true then ⟨h.b / 2, (h.n + 1) % 65536, true⟩ else h
/-- The bits of the hellos ahead of a seqno. -/
def befZ (h : Hi) (s : Int) : Int :=
  if h.k = false then 0 else if (s - h.n) % 65536 ≤ 16 then h.b / 2 ^ ((s - h.n) % 65536).toNat else if (h.n - s) % 65536 ≤ 16 then h.b * 2 ^ ((h.n - s) % 65536).toNat % 65536 else 0
theorem before_any (h : Hi) (s : Int) (w : World) : Calls Try.prog 67 #[.agg #[.int .u16 h.b, .int .u16 h.n, .bool h.k], .int .u16 s] w (Gives w (.int .u16 (befZ h s))) := by
  obtain ⟨b, m, k⟩ := h
  dsimp only
  have e1 : IntKind.u16.wrap (s - m) = (s - m) % 65536 := wrap16 _
  have e2 : IntKind.u16.wrap (m - s) = (m - s) % 65536 := wrap16 _
  have HB : ∀ nq, Below w.heap.size w ((w.alloc (.cells #[.int .u16 b, .int .u16 m, .bool k] 52)).drewN nq) := fun nq => below_drewN ((Below.refl _ _).alloc (Nat.le_refl _) _) nq
  generalize hx : befZ ⟨b, m, k⟩ s = x
  have HX : Hid (befZ ⟨b, m, k⟩ s = x) := hx
  clear hx
  have g1 : 0 ≤ (s - m) % 65536 := by omega
  have g2 : 0 ≤ (m - s) % 65536 := by omega
  generalize hc : (s - m) % 65536 = c at *
  generalize hd : (m - s) % 65536 = d at *
  have HC : Hid ((s - m) % 65536 = c) := hc
  have HD : Hid ((m - s) % 65536 = d) := hd
  clear hc hd
  cases k with
  | false =>
    obtain rfl : x = 0 := by rw [← HX.out]; simp [befZ]
    go_enter Try.func67, Try.ntmps67
    go_wp2
    go_quiet (fail)
    go_wp2
    go_ret
    exact ⟨rfl, HB _⟩
  | true =>
    by_cases h1 : c ≤ 16
    · have ex : b / 2 ^ c.toNat = x := by
        rw [← HX.out]; unfold befZ; dsimp only; rw [HC.out, if_neg (by simp), if_pos h1]
      go_enter Try.func67, Try.ntmps67
      go_wp2
      go_quiet (fail)
      go_wp2
      go_ret
      exact ⟨rfl, HB _⟩
    · by_cases h2 : d ≤ 16
      · have ex : IntKind.u16.wrap (b * 2 ^ d.toNat) = x := by
          rw [← HX.out, wrap16]; unfold befZ; dsimp only; rw [HC.out, HD.out, if_neg (by simp), if_neg h1, if_pos h2]
        go_enter Try.func67, Try.ntmps67
        go_wp2
        go_quiet (fail)
        go_wp2
        go_ret
        exact ⟨rfl, HB _⟩
      · obtain rfl : x = 0 := by
          rw [← HX.out]; unfold befZ; dsimp only; rw [HC.out, HD.out, if_neg (by simp), if_neg h1, if_neg h2]
        go_enter Try.func67, Try.ntmps67
        go_wp2
        go_quiet (fail)
        go_wp2
        go_ret
        exact ⟨rfl, HB _⟩
/-- Behind a hello that was heard. -/
def hearH (h : Hi) (s : Int) : Hi := ⟨befZ h s / 2 + 32768, (s + 1) % 65536, true⟩
theorem bef_ok {h : Hi} (s : Int) (o : h.ok) : 0 ≤ befZ h s ∧ befZ h s < 65536 := by
  have p : ∀ n : Nat, (0 : Int) < 2 ^ n := fun n => Int.pow_pos (by decide)
  have b0 := o.b0
  have b1 := o.b1
  unfold befZ
  split
  · omega
  · split
    · exact ⟨Int.ediv_nonneg b0 (Int.le_of_lt (p _)), Int.lt_of_le_of_lt (Int.ediv_le_self _ b0) b1⟩
    · split
      · exact ⟨Int.emod_nonneg _ (by decide), Int.emod_lt_of_pos _ (by decide)⟩
      · omega
theorem hear_ok {h : Hi} (s : Int) (o : h.ok) : (hearH h s).ok := by
  have := bef_ok s o
  refine ⟨?_, ?_, ?_, ?_⟩ <;> simp only [hearH] <;> omega
theorem or_high (x : Int) (h0 : 0 ≤ x) (h1 : x < 32768) : bits BinOp.or IntKind.u16 x 32768 = x + 32768 := by
  rw [u16_or x 32768 h0 (by omega) (by decide) (by decide)]
  have : x.toNat ||| 32768 = x.toNat + 32768 := by
    have := Nat.two_pow_add_eq_or_of_lt (i := 15) (b := x.toNat) (by omega) 1
    rw [Nat.or_comm, Nat.add_comm]; simpa using this.symm
  show ((x.toNat ||| 32768 : Nat) : Int) = _
  rw [this]; omega
theorem hear_any (h : Hi) (s : Int) (w : World) (o : h.ok) : Calls Try.prog 48 #[.agg #[.int .u16 h.b, .int .u16 h.n, .bool h.k], .int .u16 s] w (Gives w (.agg #[.int .u16 (hearH h s).b, .int .u16 (hearH h s).n, .bool (hearH h s).k])) := by
  have hx := bef_ok s o
  have C := fun w => before_any h s w
  obtain ⟨b, m, k⟩ := h
  dsimp only at *
  unfold hearH
  dsimp only
  generalize befZ ⟨b, m, k⟩ s = x at *
  clear o
  have e1 := or_high (x / 2) (by omega) (by omega)
  have e2 : IntKind.u16.wrap (s + 1) = (s + 1) % 65536 := wrap16 _
  obtain ⟨hb, -, q1⟩ := rows_two w b m k
  clear hx
  go_enter Try.func48, Try.ntmps48
  go_wp2_with (first
    | (go_at_call 67; refine (C _).mono ?_; rintro e w' ⟨rfl, hw⟩; replace q1 := q1.below hw (by simp); replace hb := hb.trans (hw.mono (by simp; omega)); clear hw)
    | (refine stH (.tmp 4) (.tmp 12) (by rfl) rfl _ ⟨x / 2 + 32768, (s + 1) % 65536, true⟩ ⟨0, 0, false⟩ rfl rfl q1 ?_; intro w2 hw _ r1; clear q1; replace hb := hb.trans (hw.mono (by omega)); clear hw))
  exact bodyPost_ret (retC rfl _ _ 0 rfl (lvH (LH.range r1))) rfl ⟨rfl, hb⟩
end Go.Proofs.Ytacadlbhgelncaa.Lk
