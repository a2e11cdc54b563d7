/-
  addr.printPoints: what it answers for every address.
-/
import Derived.Test.YtimpopolkofdgaaGreatDoorPGroups
namespace Go.Proofs.YtimpopolkofdgaaGreatDoor
open Go.RowKit Go.Shelf
set_option linter.unusedSimpArgs false
set_option maxRecDepth 20000
/-- An address of IPv4 as a text. -/
def ppW (l : List UInt8) : List (List UInt8) := l.map fun b => Lib.itoa (b.toNat : Int)
def ppS (a : Ad) : List UInt8 := Lib.join (ppW (a.l.drop 12)) [46]
theorem below_growD (w : World) (k : Nat) (os : Array Obj) : Below w.heap.size w (Sort.grow (w.drewN k) os) := by
  have h := below_drewN (Below.refl w.heap.size w) k
  have hz : (w.drewN k).heap.size = w.heap.size := by rw [World.heap_drewN]
  exact h.trans ⟨rfl, rfl, rfl, by simp [Sort.grow], fun i hi => by
    show ((w.drewN k).heap ++ os)[i]? = _
    rw [Array.getElem?_append_left (by rw [hz]; exact hi)]⟩
theorem itoa_any (n : Int) (h0 : -9223372036854775808 ≤ n) (h1 : n ≤ 9223372036854775807) (w : World) (hG : Glob w) :
    Calls Tryz.prog 64 #[.int .i64 n] w fun e w' => e = .returned (.string (str (Lib.itoa n))) ∧ Below w.heap.size w w' :=
  (Tryz.strconv_Itoa n h0 h1 w hG.tab).mono fun e w' ⟨h, k, os, hw⟩ => ⟨h, by rw [hw]; exact below_growD w k os⟩
theorem appW {w : World} {ops : Array Oper} {rest : List Oper} {o : Oper} {a : Act} {Q : Exit → Act → World → Prop} (hgd : o.guard = none) (s x : Operand) (ho : o.op = .call { callee := .builtin .append, args := #[s, x], argTypes := #[75, 75] }) (base : Nat) (v : Value) (n : Nat) (xs : List Value) (hs : a.eval s = v) (hown : w.ownsRow base 9 1 v n xs)
    (g : Nat) (u : ByteArray) (hx : a.eval x = .slice (some ⟨g, 0, none⟩) 1 1) (hr : w.cell? ⟨g, 0, none⟩ = some (.string u)) (h63 : n ≤ 1000) (hbase : base ≤ w.heap.size)
    (h : ∀ v' w', w'.ownsRow base 9 1 v' (n + 1) (xs ++ [.string u]) → w.grownBy w' v.ownBlock → wpList Tryz.prog ops Q rest (a.put o.dst v') w') : wpList Tryz.prog ops Q (o :: rest) a w := by
  obtain ⟨i, hi, hz, h1, h2⟩ := info_parts info_str
  exact wpList_append_own w hgd s x 75 ho base 9 i (.string ⟨#[]⟩) 1 16 Tryz.underlying75 hi hz h1 h2 rfl (by decide) v n xs hs hown ⟨g, 0, none⟩ 1 1 [.string u] hx rfl (fun j y hj => by
    rcases j with _ | j
    · simp at hj; subst hj; exact hr
    · simp at hj) (by simp [Value.oneCell']) (by unfold maxLen; omega) (by omega) hbase (fun v' w' a1 a2 _ => h v' w' a1 a2)
theorem ppW_take (l : List UInt8) (k : Nat) (x : UInt8) (h : l[k]? = some x) : ppW (l.take (k + 1)) = ppW (l.take k) ++ [Lib.itoa (x.toNat : Int)] := by
  unfold ppW
  rw [List.take_add_one, h]
  simp
theorem itoa_small (x : UInt8) : (Lib.itoa (x.toNat : Int)).length ≤ 3 := by
  have h : ((List.range 256).all fun b => decide ((Lib.itoa (b : Int)).length ≤ 3)) = true := by kernel_rfl
  have := List.all_eq_true.1 h x.toNat (List.mem_range.2 x.toNat_lt)
  simpa using this
set_option maxHeartbeats 4000000 in
theorem pp_any (a : Ad) (w : World) (hG : Glob w) (hs8 : 8 ≤ w.heap.size) : Calls Tryz.prog 54 #[(Value.agg (acells a).toArray)] w (Gives w (.string (str (ppS a)))) := by
  have hA := LA.new w a 23
  have hB0 := ba w (.cells (acells a).toArray 23)
  have hsl := sliceLo w.heap.size 12 (by omega)
  simp only [show ((12 : Nat) : Int) = 12 from rfl, show (16 : Nat) ≠ 12 by decide, if_false, show 16 - 12 = 4 from rfl] at hsl
  have hcell : ∀ W, Below (w.heap.size + 1) (w.alloc (.cells (acells a).toArray 23)) W → ∀ j x, (a.l.drop 12)[j]? = some x → W.cell? ⟨w.heap.size, 12 + j, none⟩ = some (.int .u8 (x.toNat : Int)) := fun W hb j x hx => by
    rw [List.getElem?_drop] at hx
    have := hA (12 + j) _ (bcells_get hx)
    rw [Nat.zero_add] at this
    exact (hb.cell (p := ⟨w.heap.size, 12 + j, none⟩) (Nat.lt_succ_self _)).trans this
  have HL : Hid ((a.l.drop 12).length = 4) := by show _ = _; rw [List.length_drop, a.len]
  have HX : Hid (ppS a = Lib.join (ppW (a.l.drop 12)) [46]) := rfl
  obtain ⟨l, hl⟩ : ∃ l, l = a.l.drop 12 := ⟨_, rfl⟩
  rw [← hl] at hcell HL HX
  clear hl hA
  go_enter Tryz.func54, Tryz.ntmps54
  go_wp2
  refine name_world (R := fun W => Code.wp _ _ _ _ W) (P := fun W => Below (w.heap.size + 1) (w.alloc (.cells (acells a).toArray 23)) W) _ (Below.refl _ _) ?_
  intro W0 hW0
  go_loopw [8, 3] (fun vi v wr => ∃ k : Nat, k ≤ 4 ∧ vi = .int .i64 (k : Int) ∧ wr.ownsRow (w.heap.size + 1) 9 1 v k (scells (ppW (l.take k))) ∧ Below (w.heap.size + 1) (w.alloc (.cells (acells a).toArray 23)) wr) (fun vi _ _ => 4 - (intOf vi).toNat)
  case atStart => exact ⟨0, Nat.zero_le _, rfl, World.ownsRow_nil _ _ _ _, hW0⟩
  case round =>
    clear hW0
    obtain ⟨k, hk, rfl, hO, hB⟩ := hrel
    have hz := hB.size
    simp at hz
    by_cases hlt : k < 4
    · obtain ⟨x, hx⟩ : ∃ x, l[k]? = some x := ⟨_, List.getElem?_eq_getElem (by rw [HL.out]; omega)⟩
      have hc := hcell _ hB k x hx
      have HE : Hid (scells (ppW (l.take (k + 1))) = scells (ppW (l.take k)) ++ [.string (str (Lib.itoa (x.toNat : Int)))]) := by
        show _ = _
        rw [ppW_take l k x hx]
        simp [scells]
      have hx8 := x.toNat_lt
      obtain ⟨b, hb⟩ : ∃ b, b = x.toNat := ⟨_, rfl⟩
      rw [← hb] at hc HE hx8
      have hF := itoa_any (b : Int) (by omega) (by omega) wr (hG.keep (hB0.trans (hB.mono (by omega))) hs8)
      have k0 : (0 : Int) ≤ (k : Int) := by omega
      have k1 : (k : Int) < 4 := by omega
      clear hx hb hcell
      go_wp2_with (first
        | (go_at_call 64; refine hF.mono ?_; rintro e w1 ⟨rfl, hB1⟩; have hO1 := own_belowW hO hB1)
        | (at_builtin; (refine appW rfl (.tmp 12) (.tmp 16) rfl (w.heap.size + 1) _ k _ rfl (hO1.alloc _) w1.heap.size (str (Lib.itoa (b : Int))) rfl ((Row.new w1 _ [_]).cell 0) (by omega) (by have := hB1.size; simp; omega) ?_); intro v' w3 hO3 hg3))
      have hB2 : Below (w.heap.size + 1) (w.alloc (.cells (acells a).toArray 23)) w3 := by
        have h1 := hB.trans (hB1.mono hz)
        have hz1 := h1.size
        simp at hz1
        exact (h1.alloc hz1 _).grown hg3 (by simp; omega) (fun j e => (hO1.lt j e).1)
      go_roundw
      case rel => exact ⟨k + 1, by omega, by go_num, by rw [HE.out]; exact hO3, hB2⟩
      case measure => simp [intOf]; omega
    · obtain rfl : k = 4 := by omega
      have HT : Hid (l.take 4 = l) := List.take_of_length_le (by rw [HL.out]; exact Nat.le_refl _)
      have hlen : (ppW l).length = 4 := by unfold ppW; rw [List.length_map, HL.out]
      rw [HT.out] at hO
      rw [show (4 : Nat) = (ppW l).length from hlen.symm] at hO
      have hj := join_own (ppW l) 46 (w.heap.size + 1) _ wr hO (by omega) (Nat.le_trans (join_len 3 46 _ (fun y hy => by
        unfold ppW at hy
        obtain ⟨c, _, rfl⟩ := List.mem_map.1 hy
        exact itoa_small c)) (by omega))
      clear hlen hO hcell
      go_wp2_with (go_at_call 77; refine hj.mono ?_; rintro e w' ⟨rfl, hB'⟩)
      go_ret
      exact ⟨by rw [HX.out]; rfl, hB0.trans ((hB.trans (hB'.mono hz)).mono (by omega))⟩
end Go.Proofs.YtimpopolkofdgaaGreatDoor
