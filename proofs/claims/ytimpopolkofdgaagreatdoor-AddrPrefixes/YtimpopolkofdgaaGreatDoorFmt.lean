/-
  strconv.FormatUint in base 16, below 65536.
-/
import Derived.Test.YtimpopolkofdgaaGreatDoorPrefix
namespace Go.Proofs.YtimpopolkofdgaaGreatDoor
open Go.RowKit Go.Shelf
set_option linter.unusedSimpArgs false
set_option maxRecDepth 20000
theorem tz_16 (w : World) (hT : w.cell? ⟨7, 15, none⟩ = some (.int .u8 4)) :
    Calls Tryz.prog 133 #[.int .u64 16] w fun e w' => e = .returned (.int .i64 4) ∧ w' = w := by
  have key : IntKind.u64.wrap (bits BinOp.and IntKind.u64 16 (IntKind.u64.wrap (-16)) * 285870213051353865) / 288230376151711744 = 15 := by decide
  go_enter Tryz.func133, Tryz.ntmps133
  go_wp2_with (simp only [key])
  go_ret
  exact ⟨rfl, rfl⟩
theorem tz16 (w : World) (hT : w.cell? ⟨7, 15, none⟩ = some (.int .u8 4)) :
    Calls Tryz.prog 130 #[.int .u64 16] w fun e w' => e = .returned (.int .i64 4) ∧ w' = w := by
  have h1 := tz_16 w hT
  clear hT
  go_enter Tryz.func130, Tryz.ntmps130
  go_wp2_with (go_at_call 133; refine h1.mono ?_; rintro e w' ⟨rfl, rfl⟩)
  go_ret
  exact ⟨rfl, rfl⟩
theorem pow16 (w : World) :
    Calls Tryz.prog 129 #[.int .i64 16] w fun e w' => e = .returned (.bool true) ∧ w' = w := by
  have key : bits BinOp.and IntKind.i64 16 15 = 0 := by decide
  go_enter Tryz.func129, Tryz.ntmps129
  go_wp2_with (simp only [key])
  go_ret
  exact ⟨rfl, rfl⟩
/-- A hexadecimal digit. -/
def hexd (n : Nat) : UInt8 := if n < 10 then UInt8.ofNat (48 + n) else UInt8.ofNat (87 + n)
def hexF : Nat → Nat → List UInt8
  | 0, _ => []
  | k + 1, u => if u < 16 then [hexd u] else hexF k (u / 16) ++ [hexd (u % 16)]
def hexs (u : Nat) : List UInt8 := hexF (u + 1) u
theorem hexF_enough : ∀ (k k' u : Nat), u < k → u < k' → hexF k u = hexF k' u
  | 0, _, _, h, _ => by omega
  | _, 0, _, _, h => by omega
  | k + 1, k' + 1, u, h, h' => by
    simp only [hexF]
    by_cases h16 : u < 16
    · rw [if_pos h16, if_pos h16]
    · rw [if_neg h16, if_neg h16, hexF_enough k k' (u / 16) (by omega) (by omega)]
theorem hexs_eq (u : Nat) : hexs u = if u < 16 then [hexd u] else hexs (u / 16) ++ [hexd (u % 16)] := by
  unfold hexs
  by_cases h16 : u < 16
  · rw [if_pos h16, hexF, if_pos h16]
  · rw [if_neg h16, hexF, if_neg h16, hexF_enough u (u / 16 + 1) (u / 16) (by omega) (by omega)]
theorem and15 (u : Nat) (hu : u < 65536) : bits BinOp.and IntKind.u64 (u : Int) 15 = ((u % 16 : Nat) : Int) := by
  have h := bits_and_u64_nat u 15 (by omega) (by omega)
  rw [show ((15 : Nat) : Int) = 15 from rfl] at h
  rw [h]
  have : u &&& 15 = u % 16 := Nat.and_two_pow_sub_one_eq_mod u 4
  rw [this]
theorem digs_at (n : Nat) (h : n < 16) (h' : n < (ByteArray.mk #[48, 49, 50, 51, 52, 53, 54, 55, 56, 57, 97, 98, 99, 100, 101, 102, 103, 104, 105, 106, 107, 108, 109, 110, 111, 112, 113, 114, 115, 116, 117, 118, 119, 120, 121, 122]).size) : (ByteArray.mk #[48, 49, 50, 51, 52, 53, 54, 55, 56, 57, 97, 98, 99, 100, 101, 102, 103, 104, 105, 106, 107, 108, 109, 110, 111, 112, 113, 114, 115, 116, 117, 118, 119, 120, 121, 122])[n] = hexd n := by
  match n, h with
  | 0, _ => rfl
  | 1, _ => rfl
  | 2, _ => rfl
  | 3, _ => rfl
  | 4, _ => rfl
  | 5, _ => rfl
  | 6, _ => rfl
  | 7, _ => rfl
  | 8, _ => rfl
  | 9, _ => rfl
  | 10, _ => rfl
  | 11, _ => rfl
  | 12, _ => rfl
  | 13, _ => rfl
  | 14, _ => rfl
  | 15, _ => rfl
  | n + 16, h => omega
theorem drop_set_eq {cs : List Value} {tl : List UInt8} {j : Nat} {b : UInt8} (hj : j < cs.length) (h : cs.drop (j + 1) = bcells tl) : (cs.set j (.int .u8 (b.toNat : Int))).drop j = bcells (b :: tl) := by
  rw [List.drop_eq_getElem_cons (by simpa using hj), List.getElem_set_self, List.drop_set_of_lt (by omega), h]
  rfl
set_option maxHeartbeats 4000000 in
theorem fbits_16 (u : Nat) (hu : u < 65536) (w : World) (hT : w.cell? ⟨7, 15, none⟩ = some (.int .u8 4)) :
    Calls Tryz.prog 116 #[.slice none 0 0, .int .u64 (u : Int), .int .i64 16, .bool false, .bool false] w fun e w' => e = .returned (.tuple #[.slice none 0 0, .string (str (hexs u))]) ∧ Below w.heap.size w w' := by
  have hT' : (w.alloc (.cells (List.replicate 65 (Value.int .u8 0)).toArray 150)).cell? ⟨7, 15, none⟩ = some (.int .u8 4) := by rw [World.cell?_alloc_lt]; exact hT; exact World.block_lt_of_cell? _ _ hT
  have h1 := tz16 _ hT'
  have h2 := pow16
  clear hT hT'
  go_enter Tryz.func116, Tryz.ntmps116
  go_wp2_with (first
    | (go_at_call 129; refine (h2 _).mono ?_; rintro e w' ⟨rfl, rfl⟩)
    | (go_at_call 130; refine h1.mono ?_; rintro e w' ⟨rfl, rfl⟩))
  clear h1 h2
  refine name_world (R := fun W => Code.wp _ _ _ _ W) (P := fun W => Below w.heap.size w W ∧ Row W w.heap.size 150 (List.replicate 65 (Value.int .u8 0))) _ ⟨ba _ _, Row.new w _ (List.replicate 65 (Value.int .u8 0))⟩ ?_
  rintro W ⟨hB0, hR0⟩
  go_loopw [1, 13] (fun vu vi wr => ∃ (v i : Nat) (tl : List UInt8) (cs : List Value), vu = .int .u64 v ∧ vi = .int .i64 i ∧ 61 ≤ i ∧ i ≤ 65 ∧ v < 65536 ∧ v < 16 ^ (i - 61) ∧ Row wr w.heap.size 150 cs ∧ cs.length = 65 ∧ Hid (cs.drop i = bcells tl ∧ hexs u = hexs v ++ tl) ∧ Below w.heap.size w wr) (fun vu _ _ => (intOf vu).toNat)
  case atStart => exact ⟨u, 65, [], _, rfl, rfl, by omega, by omega, hu, by simpa using hu, hR0, rfl, ⟨rfl, by simp⟩, hB0⟩
  case round =>
    clear hR0 hB0
    obtain ⟨v, i, tl, cs, rfl, rfl, hi0, hi1, hv, hvp, hR, hcs, hh, hB⟩ := hrel
    by_cases h16 : v < 16
    · have h16' : (v : Int) < 16 := by omega
      obtain ⟨j, rfl⟩ : ∃ j, i = j + 1 := ⟨i - 1, by omega⟩
      obtain ⟨z, hz⟩ : ∃ z, cs[j]? = some z := ⟨_, List.getElem?_eq_getElem (by omega)⟩
      have hd : wr.cell? ⟨w.heap.size, j, none⟩ = some z := (hR.cell j).trans hz
      have hf : wr.frozen? ⟨w.heap.size, j, none⟩ = false := hR.frozen j
      have hj0 : (0 : Int) ≤ (j : Int) := by omega
      have hj1 : (j : Int) < 65 := by omega
      have hji : ((j + 1 : Nat) : Int) - 1 = (j : Int) := by omega
      have hv0 : (0 : Int) ≤ (v : Int) := by omega
      have HD : (cs.set j (.int .u8 ((hexd v).toNat : Int))).drop j = bcells (hexs u) := by
        rw [drop_set_eq (by omega) hh.out.1, hh.out.2]
        congr 1
        rw [hexs_eq, if_pos h16]; rfl
      have hsl : ∀ W, (Instr.sliceAt 150 (.pointer (some ⟨w.heap.size, 0, none⟩)) (some (.int .i64 (j : Int))) none none).run Tryz.prog W = .ok (.slice (some ⟨w.heap.size, j, none⟩) (hexs u).length (65 - j)) W := fun W => by
        have hl : (hexs u).length = 65 - j := by
          have := congrArg List.length HD
          rw [bcells_length] at this
          simp [hcs] at this
          omega
        rw [run_sliceAt_array_l W 150 ⟨w.heap.size, 0, none⟩ (by simp [Program.arrayLen, Program.elem, Tryz.underlying150]) .i64 (j : Int) (by omega) (by simp [Program.arrayLen, Tryz.underlying150]; omega), hl]
        have hal : Tryz.prog.arrayLen 150 = 65 := by simp [Program.arrayLen, Tryz.underlying150]
        rw [hal]
        go_simp
        omega
      have hcv : ∀ h : v < (ByteArray.mk #[48, 49, 50, 51, 52, 53, 54, 55, 56, 57, 97, 98, 99, 100, 101, 102, 103, 104, 105, 106, 107, 108, 109, 110, 111, 112, 113, 114, 115, 116, 117, 118, 119, 120, 121, 122]).size, (convert 83 9 (.slice (some ⟨w.heap.size, j, none⟩) (hexs u).length (65 - j))).run Tryz.prog (wr.setCell ⟨w.heap.size, j, none⟩ (.int .u8 (((ByteArray.mk #[48, 49, 50, 51, 52, 53, 54, 55, 56, 57, 97, 98, 99, 100, 101, 102, 103, 104, 105, 106, 107, 108, 109, 110, 111, 112, 113, 114, 115, 116, 117, 118, 119, 120, 121, 122])[v]'h).toNat : Int))) = .ok (.string (str (hexs u))) (wr.setCell ⟨w.heap.size, j, none⟩ (.int .u8 (((ByteArray.mk #[48, 49, 50, 51, 52, 53, 54, 55, 56, 57, 97, 98, 99, 100, 101, 102, 103, 104, 105, 106, 107, 108, 109, 110, 111, 112, 113, 114, 115, 116, 117, 118, 119, 120, 121, 122])[v]'h).toNat : Int))) := fun h => by
        rw [digs_at v h16 h]
        refine run_convert_bytes_back _ 83 9 5 ⟨w.heap.size, j, none⟩ (65 - j) (hexs u) Tryz.underlying83 Tryz.underlying5 Tryz.underlying9 (fun k hk => ?_)
        have hc := (hR.set j (.int .u8 ((hexd v).toNat : Int))).cell (j + k)
        have e : (cs.set j (.int .u8 ((hexd v).toNat : Int)))[j + k]? = (bcells (hexs u))[k]? := by rw [← HD, List.getElem?_drop]
        rw [e, bcells_get (List.getElem?_eq_getElem hk)] at hc
        rw [Addr.add_mid]
        exact hc
      have HB : Hid (∀ x, Below w.heap.size w (wr.setCell ⟨w.heap.size, j, none⟩ x)) := fun x => hB.setCell (by simp) _
      clear hz hh hvp hR HD
      go_wp2
      go_ret2
      exact ⟨rfl, HB.out _⟩
    · have h16' : (16 : Int) ≤ (v : Int) := by omega
      have hi3 : 63 ≤ i := by
        refine Nat.le_of_not_lt fun hlt => ?_
        have : i - 61 ≤ 1 := by omega
        have h3 : 16 ^ (i - 61) ≤ 16 ^ 1 := Nat.pow_le_pow_right (by omega) this
        omega
      have hA := and15 v hv
      obtain ⟨j, rfl⟩ : ∃ j, i = j + 1 := ⟨i - 1, by omega⟩
      obtain ⟨z, hz⟩ : ∃ z, cs[j]? = some z := ⟨_, List.getElem?_eq_getElem (by omega)⟩
      have hd : wr.cell? ⟨w.heap.size, j, none⟩ = some z := (hR.cell j).trans hz
      have hf : wr.frozen? ⟨w.heap.size, j, none⟩ = false := hR.frozen j
      have hj0 : (0 : Int) ≤ (j : Int) := by omega
      have hj1 : (j : Int) < 65 := by omega
      have hji : ((j + 1 : Nat) : Int) - 1 = (j : Int) := by omega
      go_wp2
      rw [digs_at (v % 16) (by omega)]
      refine ⟨⟨v / 16, j, hexd (v % 16) :: tl, _, rfl, rfl, by omega, by omega, by omega, ?_, hR.set j _, by simpa using hcs, ⟨drop_set_eq (by omega) hh.out.1, ?_⟩, hB.setCell (by simp) _⟩, by simp [intOf]; omega⟩
      · have : 16 ^ (j + 1 - 61) = 16 ^ (j - 61) * 16 := by rw [show j + 1 - 61 = (j - 61) + 1 by omega, Nat.pow_succ]
        omega
      · rw [hh.out.2, hexs_eq, if_neg h16]; simp
theorem ifmt_16 (u : Nat) (hu : u < 65536) (w : World) (hT : w.cell? ⟨7, 15, none⟩ = some (.int .u8 4)) :
    Calls Tryz.prog 102 #[.int .u64 (u : Int), .int .i64 16] w fun e w' => e = .returned (.string (str (hexs u))) ∧ Below w.heap.size w w' := by
  have h1 := fbits_16 u hu w hT
  clear hT
  go_enter Tryz.func102, Tryz.ntmps102
  go_wp2_with (go_at_call 116; refine h1.mono ?_; rintro e w' ⟨rfl, hB⟩)
  go_ret
  exact ⟨rfl, hB⟩
theorem fmt_16 (u : Nat) (hu : u < 65536) (w : World) (hT : w.cell? ⟨7, 15, none⟩ = some (.int .u8 4)) :
    Calls Tryz.prog 93 #[.int .u64 (u : Int), .int .i64 16] w fun e w' => e = .returned (.string (str (hexs u))) ∧ Below w.heap.size w w' := by
  have h1 := ifmt_16 u hu w hT
  clear hT
  go_enter Tryz.func93, Tryz.ntmps93
  go_wp2_with (go_at_call 102; refine h1.mono ?_; rintro e w' ⟨rfl, hB⟩)
  go_ret
  exact ⟨rfl, hB⟩
end Go.Proofs.YtimpopolkofdgaaGreatDoor
