/-
  The contracts of Put16 and Put32 for every input within memory.
-/
import Derived.Test.YtaleclmccmeglaaNumber
namespace Go.Proofs.Ytaleclmccmeglaa
open Go.RowKit

def be16 (v : UInt16) : List UInt8 := [UInt8.ofNat (v.toNat / 256), UInt8.ofNat v.toNat]
def be32 (v : UInt32) : List UInt8 := [UInt8.ofNat (v.toNat / 16777216), UInt8.ofNat (v.toNat / 65536), UInt8.ofNat (v.toNat / 256), UInt8.ofNat v.toNat]
def hcells (l : List UInt16) : List Value := l.map fun b => Value.int .u16 b.toNat
def wcells (l : List UInt32) : List Value := l.map fun b => Value.int .u32 b.toNat

theorem Src.halfAt {w : World} {ad : Addr} {n c : Nat} {l : List UInt16} (h : Src w (some ad) n c (hcells l)) (j : Nat) (hj : j < l.length) : w.cell? (ad.add j) = some (.int .u16 (l[j].toNat : Int)) :=
  h.cell ad rfl j _ (by simp [hcells, hj])
theorem Src.wordAt {w : World} {ad : Addr} {n c : Nat} {l : List UInt32} (h : Src w (some ad) n c (wcells l)) (j : Nat) (hj : j < l.length) : w.cell? (ad.add j) = some (.int .u32 (l[j].toNat : Int)) :=
  h.cell ad rfl j _ (by simp [wcells, hj])
theorem Src.hlen {w : World} {a : Option Addr} {n c : Nat} {l : List UInt16} (hs : Src w a n c (hcells l)) : n = l.length := by simpa [hcells] using hs.len.symm
theorem Src.wlen {w : World} {a : Option Addr} {n c : Nat} {l : List UInt32} (hs : Src w a n c (wcells l)) : n = l.length := by simpa [wcells] using hs.len.symm

theorem be16_take (k : List UInt16) (j : Nat) (hj : j < k.length) : (k.take (j + 1)).flatMap be16 = (k.take j).flatMap be16 ++ be16 k[j] := by
  rw [List.take_succ_eq_append_getElem hj, List.flatMap_append]; simp
theorem be32_take (k : List UInt32) (j : Nat) (hj : j < k.length) : (k.take (j + 1)).flatMap be32 = (k.take j).flatMap be32 ++ be32 k[j] := by
  rw [List.take_succ_eq_append_getElem hj, List.flatMap_append]; simp
theorem be16_len (k : List UInt16) : (k.flatMap be16).length = 2 * k.length := by
  induction k with
  | nil => rfl
  | cons v k ih => simp [List.flatMap_cons, be16, ih]; omega
theorem be32_len (k : List UInt32) : (k.flatMap be32).length = 4 * k.length := by
  induction k with
  | nil => rfl
  | cons v k ih => simp [List.flatMap_cons, be32, ih]; omega

theorem new_src (w : World) (xs : Array Value) : Src (w.alloc (.cells xs 5)) (some ⟨w.heap.size, 0, none⟩) xs.size xs.size xs.toList := by
  refine ⟨by simp, (fun h => by cases h), fun ad had j u hu => ?_⟩
  cases had
  rw [Addr.add_lit, Nat.zero_add, cell_of_row _ _ _ _ _ _ (heap_alloc_new w _)]
  simpa using hu
theorem be16_cells (v : UInt16) : bcells (be16 v) = [.int .u8 ((v.toNat : Int) / 256), .int .u8 ((v.toNat : Int) % 256)] := by
  have h := v.toNat_lt
  simp [bcells, be16]
  omega
theorem be32_cells (v : UInt32) : bcells (be32 v) = [.int .u8 ((v.toNat : Int) / 16777216), .int .u8 ((v.toNat : Int) / 65536 % 256), .int .u8 ((v.toNat : Int) / 256 % 256), .int .u8 ((v.toNat : Int) % 256)] := by
  have h := v.toNat_lt
  simp [bcells, be32]
  omega

end Go.Proofs.Ytaleclmccmeglaa
