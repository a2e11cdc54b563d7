/-
  The contracts of Put16 and Put32 for every input within memory.
-/
import Derived.Test.YtgkonglkfjbmnaaNumber
namespace Go.Proofs.Ytgkonglkfjbmnaa
open Go.RowKit

def be16 (v : UInt16) : List UInt8 := [UInt8.ofNat (v.toNat / 256), UInt8.ofNat v.toNat]
def be32 (v : UInt32) : List UInt8 := [UInt8.ofNat (v.toNat / 16777216), UInt8.ofNat (v.toNat / 65536), UInt8.ofNat (v.toNat / 256), UInt8.ofNat v.toNat]
def hcells (l : List UInt16) : List Value := l.map fun b => Value.int .u16 b.toNat
def wcells (l : List UInt32) : List Value := l.map fun b => Value.int .u32 b.toNat

theorem Src.halfAt {w : World} {ad : Addr} {n c : Nat} {l : List UInt16} (h : Src w (some ad) n c (hcells l)) (j : Nat) (hj : j < l.length) : w.cell? (ad.add j) = some (.int .u16 (l[j].toNat : Int)) :=
  h.cell ad rfl j _ (by simp [hcells, hj])
theorem Src.wordAt {w : World} {ad : Addr} {n c : Nat} {l : List UInt32} (h : Src w (some ad) n c (wcells l)) (j : Nat) (hj : j < l.length) : w.cell? (ad.add j) = some (.int .u32 (l[j].toNat : Int)) :=
  h.cell ad rfl j _ (by simp [wcells, hj])
theorem Src.hlen {w : World} {a : Option Addr} {n c : Nat} {l : List UInt16} (hs : Src w a n c (hcells l)) : n = l.length := by simpa [hcells] using hs.len.symm
theorem Src.wlen {w : World} {a : Option Addr} {n c : Nat} {l : List UInt32} (hs : Src w a n c (wcells l)) : n = l.length := by simpa [wcells] using hs.len.symm

theorem be16_take (k : List UInt16) (j : Nat) (hj : j < k.length) : (k.take (j + 1)).flatMap be16 = (k.take j).flatMap be16 ++ be16 k[j] := by
  rw [List.take_succ_eq_append_getElem hj, List.flatMap_append]; simp
theorem be32_take (k : List UInt32) (j : Nat) (hj : j < k.length) : (k.take (j + 1)).flatMap be32 = (k.take j).flatMap be32 ++ be32 k[j] := by
  rw [List.take_succ_eq_append_getElem hj, List.flatMap_append]; simp
theorem be16_len (k : List UInt16) : (k.flatMap be16).length = 2 * k.length := by
  induction k with
  | nil => rfl
  | cons v k ih => simp [List.flatMap_cons, be16, ih]; omega
theorem be32_len (k : List UInt32) : (k.flatMap be32).length = 4 * k.length := by
  induction k with
  | nil => rfl
  | cons v k ih => simp [List.flatMap_cons, be32, ih]; omega

theorem new_src (w : World) (xs : Array Value) : Src (w.alloc (.cells xs 5)) (some ⟨w.heap.size, 0, none⟩) xs.size xs.size xs.toList := by
  refine ⟨by simp, (fun h => by cases h), fun ad had j u hu => ?_⟩
  cases had
  rw [Addr.add_lit, Nat.zero_add, cell_of_row _ _ _ _ _ _ (heap_alloc_new w _)]
  simpa using hu
theorem be16_cells (v : UInt16) : bcells (be16 v) = [.int .u8 ((v.toNat : Int) / 256), .int .u8 ((v.toNat : Int) % 256)] := by
  have h := v.toNat_lt
  simp [bcells, be16]
  omega
theorem be32_cells (v : UInt32) : bcells (be32 v) = [.int .u8 ((v.toNat : Int) / 16777216), .int .u8 ((v.toNat : Int) / 65536 % 256), .int .u8 ((v.toNat : Int) / 256 % 256), .int .u8 ((v.toNat : Int) % 256)] := by
  have h := v.toNat_lt
  simp [bcells, be32]
  omega

theorem put16_any (a : Option Addr) (n c : Nat) (l : List UInt8) (b : Option Addr) (m d : Nat) (k : List UInt16) (w : World) (hs : Src w a n c (bcells l)) (ht : Src w b m d (hcells k)) (hn : n + 2 * m ≤ 140737488355328) :
    Calls Try.prog 22 #[.slice a n c, .slice b m d] w (Laid w (l ++ k.flatMap be16)) := by
  have HM : Hid (m = k.length) := ht.hlen
  have HN : Hid (n = l.length) := hs.blen
  go_enter Try.func22, Try.ntmps22
  go_wp2_with (go_at_call 35; refine (room_any a n c l (2 * m) w hs hn).mono ?_; rintro e w0 ⟨a0, c0, rfl, hown0, hb0⟩)
  go_loopw [5, 15] (fun v i wr => ∃ j : Nat, j ≤ m ∧ i = .int .i64 j ∧ wr.ownsRow w.heap.size 5 1 v (l.length + 2 * j) (bcells (l ++ (k.take j).flatMap be16)) ∧ Below w.heap.size w wr) (fun _ i _ => m - (intOf i).toNat)
  case atStart => exact ⟨0, Nat.zero_le _, rfl, by simpa using hown0, hb0⟩
  case round =>
    obtain ⟨j, hj, rfl, hown, hbl⟩ := hrel
    by_cases hlt : j < m
    · cases b with
      | none => exact absurd (ht.bare rfl).1 (by omega)
      | some ad =>
        have hjk : j < k.length := by have := HM.out; omega
        have hc := (ht.below hbl ht.lt).halfAt j hjk
        have hz := k[j].toNat_lt
        have hnew := be16_cells k[j]
        have htk := be16_take k j hjk
        generalize hZ : k[j].toNat = z at *
        have hown2 : wr.ownsRow w.heap.size 5 1 _ _ _ := hown
        have HNEW : Hid (bcells (l ++ (k.take (j + 1)).flatMap be16) = bcells (l ++ (k.take j).flatMap be16) ++ [.int .u8 ((z : Int) / 256), .int .u8 ((z : Int) % 256)]) := by show _ = _; rw [htk, ← List.append_assoc, bcells_append _ (be16 _), hnew]
        clear hnew htk hZ
        go_wp2_with (at_builtin; refine append_src rfl (.tmp 19) (.tmp 25) rfl w.heap.size _ (l.length + 2 * j) _ rfl (hown.alloc _) (some ⟨wr.heap.size, 0, none⟩) 2 2 [.int .u8 ((z : Int) / 256), .int .u8 ((z : Int) % 256)] rfl (new_src wr #[.int .u8 ((z : Int) / 256), .int .u8 ((z : Int) % 256)]) (by intro u hu; simp at hu; rcases hu with rfl | rfl <;> rfl) (by have := HN.out; omega) (by have := hbl.size; simp; omega) ?_; intro v' w1 hown1 hg1 _)
        go_roundw
        case rel => exact ⟨j + 1, by omega, by go_num, by rw [HNEW.out]; exact hown1, (hbl.alloc hbl.size _).grown hg1 (by have := hbl.size; simp; omega) (ownBlock_ge hown)⟩
        case measure => simp [intOf]; omega
    · have hjm : j = m := by omega
      subst hjm
      go_wp2
      go_ret
      have hL := be16_len k
      have hM := HM.out
      exact Laid.mk (n := l.length + 2 * j) (by simp [hL, hM]) (by rw [List.take_of_length_le (by omega)] at hown; exact hown) hbl

end Go.Proofs.Ytgkonglkfjbmnaa
