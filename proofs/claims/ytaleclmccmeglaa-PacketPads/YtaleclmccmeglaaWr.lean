/-
  The contract of wrap of the statements of layer 6: a body's packet.
-/
import Derived.Test.YtaleclmccmeglaaSms
namespace Go.Proofs.Ytaleclmccmeglaa
open Go.RowKit
set_option linter.unusedSimpArgs false
set_option maxRecDepth 20000

theorem run_ap_str (w : World) (ty : TypeId) (b : Addr) (olds : List Value) (hlo : olds.length = 4) (holds : ∀ j v, olds[j]? = some v → w.cell? (b.add j) = some v) (s : ByteArray) (h0 : 0 < s.size) (hs : s.size ≤ 1000000) :
    (Builtin.append_ #[24, 9] ty #[.slice (some b) 4 4, .string s]).run Try.prog w =
      .ok (.slice (some ⟨w.heap.size, 0, none⟩) (4 + s.size) (grownCap w (4 + s.size) 4 5))
        (w.drew.alloc (.cells (olds.toArray ++ s.data.map (fun b => Value.int .u8 b.toNat) ++ Builtin.zeroCells (Value.int .u8 0).cells (grownCap w (4 + s.size) 4 5 - (4 + s.size))) 5)) := by
  obtain ⟨i0, hi, hz0, hz1, hz2⟩ := info_parts info5
  have hn : ¬ (4 + s.size ≤ 4) := by omega
  have hn' : ¬ s.size = 0 := by omega
  have h63' : ¬ (9223372036854775807 < ((4 : Int) + (s.size : Int))) := by omega
  have h48' : ¬ (281474976710656 < Builtin.nextslicecap (4 + s.size) 4 * i0.bytes) := by have := growslice_fits (need := 4 + s.size) (old := 4) (bytes := i0.bytes) (by omega) (by rw [hz2]; omega); omega
  have hfo := run_firstCells_some (P := Try.prog) w.drew i0.size 4 b 4 4 olds (by rw [hz1]; omega) (by simpa using holds)
  have hx : (Array.map (fun b : UInt8 => Value.int IntKind.u8 (b.toNat : Int)) s.data).extract 0 s.size = Array.map (fun b : UInt8 => Value.int IntKind.u8 (b.toNat : Int)) s.data := by
    have hs : s.size = (Array.map (fun b : UInt8 => Value.int IntKind.u8 (b.toNat : Int)) s.data).size := by rw [Array.size_map]; rfl
    rw [hs, Array.extract_size]
  have hfs : ∀ w, (Builtin.firstCells i0.size s.size (.string s)).run Try.prog w = .ok (s.data.map (fun b => Value.int .u8 b.toNat)) w := fun w => by
    simp [Builtin.firstCells, hn']
  simp [Builtin.append_, run_underlying Try.underlying24, run_underlying Try.underlying9, sizeOf, typeInfo, zeroValue, hi, hz0, Builtin.lenOf, hn, h63', h48', Question.forced, hfo, hfs, newRow, grownCap]
theorem run_ap_str0 (w : World) (ty : TypeId) (b : Addr) (s : ByteArray) (h0 : s.size = 0) :
    (Builtin.append_ #[24, 9] ty #[.slice (some b) 4 4, .string s]).run Try.prog w = .ok (.slice (some b) 4 4) w := by
  obtain ⟨i0, hi, hz0, hz1, hz2⟩ := info_parts info5
  have he : s.data.extract 0 0 = #[] := by simp
  simp [Builtin.append_, run_underlying Try.underlying24, run_underlying Try.underlying9, sizeOf, typeInfo, zeroValue, hi, hz0, Builtin.lenOf, Builtin.firstCells, h0, storeCells]
section
variable {ops : Array Oper} {rest : List Oper} {o : Oper} {a : Act} {w : World} {Q : Exit → Act → World → Prop}
theorem ap_str (hgd : o.guard = none) (s x : Operand) (ho : o.op = .call { callee := .builtin .append, args := #[s, x], argTypes := #[24, 9] }) (b : Addr) (olds : List Value) (hlo : olds.length = 4) (holds : ∀ j v, olds[j]? = some v → w.cell? (b.add j) = some v) (st : ByteArray) (hs : a.eval s = .slice (some b) 4 4) (hx : a.eval x = .string st) (hsz : st.size ≤ 1000000)
    (h : ∀ ad c W, Below w.heap.size w W → Src W (some ad) (4 + st.size) c (olds ++ bcells st.data.toList) → wpList Try.prog ops Q rest (a.put o.dst (.slice (some ad) (4 + st.size) c)) W) : wpList Try.prog ops Q (o :: rest) a w := by
  by_cases h0 : st.size = 0
  · have hr := run_ap_str0 w o.type b st h0
    have hnil : bcells st.data.toList = [] := List.eq_nil_of_length_eq_zero (by rw [bcells_length]; simpa using h0)
    have h1 := h b 4 w (Below.refl _ _) ⟨by rw [List.length_append, hlo, hnil, h0]; rfl, (fun h => by cases h), fun ad had j v hv => by cases had; rw [hnil, List.append_nil] at hv; exact holds j v hv⟩
    rw [h0] at h1
    refine wpList_plain hgd fun K hK => ?_
    unfold Oper.wp execOp
    simp only [ho, resolve, invoke, builtin, Sem.run_bind, Sem.run_pure, Result.andThen_ok, List.map_toArray, List.map_cons, List.map_nil, hs, hx, hr]
    exact hK _ _ h1
  · have hr := run_ap_str w o.type b olds hlo holds st (by omega) hsz
    refine wpList_plain hgd fun K hK => ?_
    unfold Oper.wp execOp
    simp only [ho, resolve, invoke, builtin, Sem.run_bind, Sem.run_pure, Result.andThen_ok, List.map_toArray, List.map_cons, List.map_nil, hs, hx, hr]
    refine hK _ _ (h _ _ _ (bt (bd w) (ba _ _)) ⟨by rw [List.length_append, hlo, bcells_length]; exact congrArg (4 + ·) Array.length_toList, (fun h => by cases h), fun ad had j v hv => ?_⟩)
    cases had
    rw [Addr.add_mid, Nat.zero_add]
    have hlt : j < (olds ++ bcells st.data.toList).length := (List.getElem?_eq_some_iff.1 hv).1
    have e := cell_of_row (w.drew.alloc (.cells (olds.toArray ++ st.data.map (fun b => Value.int .u8 b.toNat) ++ Builtin.zeroCells (Value.int .u8 0).cells (grownCap w (4 + st.size) 4 5 - (4 + st.size))) 5)) w.heap.size j _ 5 (0, 0) (heap_alloc_new w.drew _)
    rw [e]
    have e2 : (olds.toArray ++ st.data.map (fun b => Value.int .u8 b.toNat) ++ Builtin.zeroCells (Value.int .u8 0).cells (grownCap w (4 + st.size) 4 5 - (4 + st.size))).toList = (olds ++ bcells st.data.toList) ++ (Builtin.zeroCells (Value.int .u8 0).cells (grownCap w (4 + st.size) 4 5 - (4 + st.size))).toList := by
      simp [bcells]
    rw [← Array.getElem?_toList, e2, List.getElem?_append_left hlt]
    exact hv
end
/-- A body's packet. -/
theorem wrap_any (s : ByteArray) (hs : s.size ≤ 65535) (w : World) : Calls Try.prog 17 #[.string s] w fun e w' => ∃ a c, e = .returned (.slice a (4 + s.size) c) ∧ Src w' a (4 + s.size) c (bcells (pkL s.data.toList)) ∧ Below w.heap.size w w' := by
  have e1 : bcells (pkL s.data.toList) = [.int .u8 42, .int .u8 2, .int .u8 ((s.size : Int) / 256), .int .u8 ((s.size : Int) % 256)] ++ bcells s.data.toList := by
    have hsz : s.data.toList.length = s.size := Array.length_toList
    have e := be16_cells (UInt16.ofNat s.size)
    have en : ((UInt16.ofNat s.size).toNat : Int) = (s.size : Int) := by simp; omega
    unfold pkL
    rw [hsz, bcells_append, bcells_append, e, en]
    rfl
  have HE : Hid (bcells (pkL s.data.toList) = [.int .u8 42, .int .u8 2, .int .u8 ((s.size : Int) / 256), .int .u8 ((s.size : Int) % 256)] ++ bcells s.data.toList) := e1
  clear e1
  have hs' : (s.size : Int) ≤ 65535 := by omega
  have N := new_src w #[.int .u8 42, .int .u8 2, .int .u8 ((s.size : Int) / 256), .int .u8 ((s.size : Int) % 256)]
  go_enter Try.func17, Try.ntmps17
  go_wp2_with (at_builtin; refine ap_str rfl (.tmp 10) (.tmp 11) rfl ⟨w.heap.size, 0, none⟩ [.int .u8 42, .int .u8 2, .int .u8 ((s.size : Int) / 256), .int .u8 ((s.size : Int) % 256)] rfl (N.cell _ rfl) s rfl rfl (by omega) ?_; intro ad c W hB hS)
  go_ret
  exact ⟨some ad, c, rfl, by rw [HE.out]; exact hS, bt (ba _ _) hB⟩
end Go.Proofs.Ytaleclmccmeglaa
