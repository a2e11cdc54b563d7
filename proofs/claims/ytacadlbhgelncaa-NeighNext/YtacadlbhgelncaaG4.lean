/-
  What it costs to hear a neighbour by several histories: the program's Rx, for every slice.
-/
import Derived.Test.YtacadlbhgelncaaG3
namespace Go.Proofs.Ytacadlbhgelncaa.Lk
open Go.RowKit
set_option linter.unusedSimpArgs false
/-- A slice value that leads to these histories. -/
structure Hs (w : World) (ad : Option Addr) (n : Nat) (l : List Hi) : Prop where
  len : l.length = n
  small : ∀ h ∈ l, h.ok
  lies : n = 0 ∨ ∃ g o, ad = some ⟨g, o, none⟩ ∧ g < w.heap.size ∧ ∀ j h, l[j]? = some h → w.rangeAt g (o + j * 3) (hcs h)
theorem Hs.below {w w' : World} {ad : Option Addr} {n : Nat} {l : List Hi} (h : Hs w ad n l) (hb : Below w.heap.size w w') : Hs w' ad n l :=
  ⟨h.len, h.small, h.lies.imp id fun ⟨g, o, e, hg, hl⟩ => ⟨g, o, e, Nat.lt_of_lt_of_le hg hb.size, fun j c hc i v hv => (hb.cell (p := ⟨g, o + j * 3 + i, none⟩) hg).trans (hl j c hc i v hv)⟩⟩
def rxL (kind cost : Int) (l : List Hi) : Int := l.foldl (fun m h => min m (rxZ kind cost h.b.toNat)) 65535
theorem rxL_step (kind cost : Int) (l : List Hi) (j : Nat) (h : j < l.length) : rxL kind cost (l.take (j + 1)) = min (rxL kind cost (l.take j)) (rxZ kind cost l[j].b.toNat) := by
  unfold rxL
  rw [List.take_succ_eq_append_getElem h, List.foldl_append]
  rfl
theorem rxZ_ok (kind cost : Int) (b : Nat) (hc : 0 ≤ cost) (hc' : cost < 65536) : 0 ≤ rxZ kind cost b ∧ rxZ kind cost b < 65536 := by
  have p : 0 ≤ cost * 16 / (lowc b 16 : Nat) := Int.ediv_nonneg (by omega) (by omega)
  unfold rxZ
  split
  · split <;> omega
  · split
    · split <;> omega
    · omega
theorem rxOf_hi (kind cost : Int) (h : Hi) (w : World) (hc : 0 ≤ cost) (hc' : cost < 65536) (o : h.ok) : Calls Try.prog 74 #[.int .i64 kind, .int .u16 cost, .int .u16 h.b] w fun e w' => e = .returned (.int .u16 (rxZ kind cost h.b.toNat)) ∧ ∃ n, w.drewN n = w' := by
  have b0 := o.b0
  have b1 := o.b1
  generalize h.b = b at *
  obtain ⟨c, rfl⟩ := Int.eq_ofNat_of_zero_le b0
  exact rxOf_any kind cost c w hc hc' (by omega)
theorem rx_any (kind cost : Int) (ad : Option Addr) (n c : Nat) (l : List Hi) (w : World) (hc : 0 ≤ cost) (hc' : cost < 65536) (hn : n ≤ 140737488355328) (hs : Hs w ad n l) :
    Calls Try.prog 59 #[.int .i64 kind, .int .u16 cost, .slice ad n c] w (Gives w (.int .u16 (rxL kind cost l))) := by
  have HL : Hid (l.length = n) := hs.len
  go_enter Try.func59, Try.ntmps59
  go_wp2
  go_loopw [7, 12] (fun v i wr => ∃ j : Nat, j ≤ n ∧ i = .int .i64 j ∧ v = .int .u16 (rxL kind cost (l.take j)) ∧ Below w.heap.size w wr) (fun _ i _ => n - (intOf i).toNat)
  case atStart => exact ⟨0, Nat.zero_le _, rfl, rfl, Below.refl _ _⟩
  case round =>
    obtain ⟨j, hj, rfl, rfl, hb⟩ := hrel
    rename World => W
    by_cases hlt : j < n
    · rcases hs.lies with h0 | ⟨g, o, rfl, hg, hl⟩
      · omega
      have hjl : j < l.length := by rw [HL.out]; exact hlt
      have hq := hl j _ (List.getElem?_eq_getElem hjl)
      have ok := hs.small l[j] (List.getElem_mem hjl)
      have HS : Hid (rxL kind cost (l.take (j + 1)) = min (rxL kind cost (l.take j)) (rxZ kind cost l[j].b.toNat)) := rxL_step kind cost l j hjl
      have C := fun w => rxOf_hi kind cost l[j] w hc hc' ok
      generalize l[j] = q at *
      obtain ⟨b, m, k⟩ := q
      have c1 : W.cell? ⟨g, o + j * 3, none⟩ = some (.int .u16 b) := (hb.cell (p := ⟨g, o + j * 3, none⟩) hg).trans (hq 0 _ rfl)
      have c2 : W.cell? ⟨g, o + j * 3 + 1, none⟩ = some (.int .u16 m) := (hb.cell (p := ⟨g, o + j * 3 + 1, none⟩) hg).trans (hq 1 _ rfl)
      have c3 : W.cell? ⟨g, o + j * 3 + 2, none⟩ = some (.bool k) := (hb.cell (p := ⟨g, o + j * 3 + 2, none⟩) hg).trans (hq 2 _ rfl)
      have hji : (j : Int) < (n : Int) := by omega
      generalize rxL kind cost (l.take j) = V at *
      dsimp only at C HS
      clear hl hq ok
      by_cases hv : rxZ kind cost b.toNat < V
      · generalize rxZ kind cost b.toNat = x at *
        go_wp2_with (go_at_call 74; refine (C _).mono ?_; rintro e w' ⟨rfl, nq, rfl⟩)
        go_roundw
        case rel => exact ⟨j + 1, by omega, by go_num, by rw [HS.out]; congr 1; omega, below_drewN (hb.alloc hb.size _) nq⟩
        case measure => simp [intOf]; omega
      · generalize rxZ kind cost b.toNat = x at *
        have hv' : V ≤ x := by omega
        clear hv
        go_wp2_with (go_at_call 74; refine (C _).mono ?_; rintro e w' ⟨rfl, nq, rfl⟩)
        go_roundw
        case rel => exact ⟨j + 1, by omega, by go_num, by rw [HS.out]; congr 1; omega, below_drewN (hb.alloc hb.size _) nq⟩
        case measure => simp [intOf]; omega
    · go_wp2
      go_ret
      refine ⟨?_, hb⟩
      rw [List.take_of_length_le (by rw [HL.out]; omega)]
      rfl
/-! ### The document's -/
theorem top_three : ∀ x : Fin 8, lowc (x.val * 8192) 16 = lowc x.val 16 := by decide +kernel
theorem top_three' (b : Nat) (hb : b < 65536) : lowc (b &&& 57344) 16 = lowc (b / 8192) 16 := by
  rw [nat_hi16_13, Nat.mod_eq_of_lt hb]
  exact top_three ⟨b / 8192, by omega⟩
end Go.Proofs.Ytacadlbhgelncaa.Lk
