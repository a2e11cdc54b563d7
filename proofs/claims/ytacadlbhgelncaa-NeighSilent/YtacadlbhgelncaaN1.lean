/-
  Neighbours as values and in memory; keys of neighbours.
-/
import Derived.Test.YtacadlbhgelncaaTl
import Derived.Test.YtacadlbhgelncaaG4
import Derived.Test.YtacadlbhgelncaaR1
import Derived.Test.YtacadlbhgelncaaSum
import Derived.DeepKeys4
import Derived.Maps.OwnSet
namespace Go.Proofs.Ytacadlbhgelncaa
open Lk (Hi hcs hcs_one)
open Rk (Rt rcs rtV)
open Go.RowKit Go.Maps
set_option linter.unusedSimpArgs false
set_option maxRecDepth 20000
/-- A neighbour. -/
structure Ng where
  i : Int
  a : Ad
  m : Hi
  u : Hi
  mg : Int
  ug : Int
  ma : Int
  ua : Int
  tx : Int
  ta : Int
  se : Int
  he : Int
  hs : Bool
  rt : Int
  hr : Bool
def ntl (n : Ng) : List Value := [.int .i64 n.mg, .int .i64 n.ug, .int .i64 n.ma, .int .i64 n.ua, .int .u16 n.tx, .int .i64 n.ta, .int .u32 n.se, .int .i64 n.he, .bool n.hs, .int .i64 n.rt, .bool n.hr]
def ncs (n : Ng) : List Value := .int .i64 n.i :: (acells n.a ++ (hcs n.m ++ (hcs n.u ++ ntl n)))
theorem hcs_len (h : Hi) : (hcs h).length = 3 := rfl
theorem ncs_len (n : Ng) : (ncs n).length = 34 := by simp [ncs, acells_len, hcs_len, ntl]
theorem ncs_one (n : Ng) : ∀ u ∈ ncs n, u.oneCell' = true := by
  intro u hu
  simp only [ncs, List.mem_cons, List.mem_append] at hu
  rcases hu with rfl | h | h | h | h
  · rfl
  · exact acells_one _ u h
  · exact hcs_one _ u h
  · exact hcs_one _ u h
  · simp [ntl] at h
    rcases h with rfl | rfl | rfl | rfl | rfl | rfl | rfl | rfl | rfl | rfl | rfl <;> rfl
theorem ncs_lit (n : Ng) : ∃ b0 b1 b2 b3 b4 b5 b6 b7 b8 b9 b10 b11 b12 b13 b14 b15 : UInt8, n.a.l = [b0, b1, b2, b3, b4, b5, b6, b7, b8, b9, b10, b11, b12, b13, b14, b15] := Ad.lit n.a
def zeroN : Ng := ⟨0, zeroA, ⟨0, 0, false⟩, ⟨0, 0, false⟩, 0, 0, 0, 0, 0, 0, 0, 0, false, 0, false⟩
def newN (i : Int) (a : Ad) : Ng := ⟨i, a, ⟨0, 0, false⟩, ⟨0, 0, false⟩, 0, 0, 0, 0, 65535, 0, 0, 0, false, 0, false⟩
theorem infoNs : (Try.prog.info? 55).map (·.size) = some 34 := by kernel_rfl
theorem infoNz : (Try.prog.info? 55).map (·.zero) = some (some (.agg (ncs zeroN).toArray)) := by kernel_rfl
theorem zeroNv (w : World) : (zeroValue 55).run Try.prog w = .ok (.agg (ncs zeroN).toArray) w := by kernel_rfl
theorem bdN0 (w : World) : (Instr.build 55 #[]).run Try.prog w = .ok (.agg (ncs zeroN).toArray) w := by kernel_rfl
theorem bdNn (i : Int) (c : Ad) (w : World) : (Instr.build 55 #[(0, .int .i64 i), (1, (Value.agg (acells c).toArray)), (8, .int .u16 65535)]).run Try.prog w = .ok (.agg (ncs (newN i c)).toArray) w := by
  obtain ⟨l, hl⟩ := c
  match l, hl with
  | [b0, b1, b2, b3, b4, b5, b6, b7, b8, b9, b10, b11, b12, b13, b14, b15], _ =>
    show _ = _
    kernel_rfl
/-- A key: an interface and an address. -/
def kcs (i : Int) (a : Ad) : List Value := .int .i64 i :: acells a
theorem kcs_len (i : Int) (a : Ad) : (kcs i a).length = 17 := by simp [kcs, acells_len]
theorem kcs_one (i : Int) (a : Ad) : ∀ u ∈ kcs i a, u.oneCell' = true := by
  intro u hu
  simp only [kcs, List.mem_cons] at hu
  rcases hu with rfl | h
  · rfl
  · exact acells_one _ u h
theorem bdK (i : Int) (c : Ad) (w : World) : (Instr.build 85 #[(0, .int .i64 i), (1, (Value.agg (acells c).toArray))]).run Try.prog w = .ok (.agg (kcs i c).toArray) w := by
  obtain ⟨l, hl⟩ := c
  match l, hl with
  | [b0, b1, b2, b3, b4, b5, b6, b7, b8, b9, b10, b11, b12, b13, b14, b15], _ =>
    show _ = _
    kernel_rfl
theorem infoKs : (Try.prog.info? 85).map (·.size) = some 17 := by kernel_rfl
theorem infoKz : (Try.prog.info? 85).map (·.zero) = some (some (.agg (kcs 0 zeroA).toArray)) := by kernel_rfl
/-! ### The cells of a neighbour -/
theorem ncs_at (n : Ng) : (ncs n)[0]? = some (.int .i64 n.i) ∧ (ncs n)[17]? = some (.int .u16 n.m.b) ∧ (ncs n)[20]? = some (.int .u16 n.u.b) ∧ (ncs n)[23]? = some (.int .i64 n.mg) ∧ (ncs n)[24]? = some (.int .i64 n.ug) ∧ (ncs n)[25]? = some (.int .i64 n.ma) ∧ (ncs n)[26]? = some (.int .i64 n.ua) ∧ (ncs n)[27]? = some (.int .u16 n.tx) ∧ (ncs n)[28]? = some (.int .i64 n.ta) ∧ (ncs n)[29]? = some (.int .u32 n.se) ∧ (ncs n)[30]? = some (.int .i64 n.he) ∧ (ncs n)[31]? = some (.bool n.hs) ∧ (ncs n)[32]? = some (.int .i64 n.rt) ∧ (ncs n)[33]? = some (.bool n.hr) := by
  obtain ⟨i, ⟨l, hl⟩, m, u, mg, ug, ma, ua, tx, ta, se, he, hs, rt, hr⟩ := n
  match l, hl with
  | [b0, b1, b2, b3, b4, b5, b6, b7, b8, b9, b10, b11, b12, b13, b14, b15], _ =>
    exact ⟨rfl, rfl, rfl, rfl, rfl, rfl, rfl, rfl, rfl, rfl, rfl, rfl, rfl, rfl⟩
theorem ncs_set (n : Ng) : (∀ v, (ncs n).set 23 (.int .i64 v) = ncs { n with mg := v }) ∧ (∀ v, (ncs n).set 24 (.int .i64 v) = ncs { n with ug := v }) ∧ (∀ v, (ncs n).set 25 (.int .i64 v) = ncs { n with ma := v }) ∧ (∀ v, (ncs n).set 26 (.int .i64 v) = ncs { n with ua := v }) ∧ (∀ v, (ncs n).set 27 (.int .u16 v) = ncs { n with tx := v }) ∧ (∀ v, (ncs n).set 28 (.int .i64 v) = ncs { n with ta := v }) ∧ (∀ v, (ncs n).set 29 (.int .u32 v) = ncs { n with se := v }) ∧ (∀ v, (ncs n).set 30 (.int .i64 v) = ncs { n with he := v }) ∧ (∀ v, (ncs n).set 31 (.bool v) = ncs { n with hs := v }) ∧ (∀ v, (ncs n).set 32 (.int .i64 v) = ncs { n with rt := v }) ∧ (∀ v, (ncs n).set 33 (.bool v) = ncs { n with hr := v }) := by
  obtain ⟨i, ⟨l, hl⟩, m, u, mg, ug, ma, ua, tx, ta, se, he, hs, rt, hr⟩ := n
  match l, hl with
  | [b0, b1, b2, b3, b4, b5, b6, b7, b8, b9, b10, b11, b12, b13, b14, b15], _ =>
    exact ⟨fun _ => rfl, fun _ => rfl, fun _ => rfl, fun _ => rfl, fun _ => rfl, fun _ => rfl, fun _ => rfl, fun _ => rfl, fun _ => rfl, fun _ => rfl, fun _ => rfl⟩
theorem Row.nA {w : World} {g : Nat} {t : TypeId} {n : Ng} (h : Row w g t (ncs n)) : LA w g 1 n.a := by
  have h1 : w.rangeAt g 0 ([.int .i64 n.i] ++ (acells n.a ++ (hcs n.m ++ (hcs n.u ++ ntl n)))) := h.range
  exact rangeAt_left (rangeAt_right h1 rfl)
theorem Row.nM {w : World} {g : Nat} {t : TypeId} {n : Ng} (h : Row w g t (ncs n)) : w.rangeAt g 17 (hcs n.m) := by
  have h1 : w.rangeAt g 0 ((.int .i64 n.i :: acells n.a) ++ (hcs n.m ++ (hcs n.u ++ ntl n))) := h.range
  exact rangeAt_left (by simpa using rangeAt_right h1 (k := 17) (by simp [acells_len]))
theorem Row.nU {w : World} {g : Nat} {t : TypeId} {n : Ng} (h : Row w g t (ncs n)) : w.rangeAt g 20 (hcs n.u) := by
  have h1 : w.rangeAt g 0 ((.int .i64 n.i :: (acells n.a ++ hcs n.m)) ++ (hcs n.u ++ ntl n)) := by simpa [ncs] using h.range
  exact rangeAt_left (by simpa using rangeAt_right h1 (k := 20) (by simp [acells_len, hcs_len]))
theorem Row.sM {w : World} {g : Nat} {t : TypeId} {n : Ng} (h : Row w g t (ncs n)) (c : Hi) : Row (w.setCells g 17 (hcs c)) g t (ncs { n with m := c }) := by
  have := Row.setMid (hcs c) (.int .i64 n.i :: acells n.a) (hcs n.m) (hcs n.u ++ ntl n) w h rfl
  rw [show (Value.int .i64 n.i :: acells n.a).length = 17 by simp [acells_len]] at this
  exact this
theorem Row.sU {w : World} {g : Nat} {t : TypeId} {n : Ng} (h : Row w g t (ncs n)) (c : Hi) : Row (w.setCells g 20 (hcs c)) g t (ncs { n with u := c }) := by
  have := Row.setMid (hcs c) (.int .i64 n.i :: (acells n.a ++ hcs n.m)) (hcs n.u) (ntl n) w (by simpa [ncs] using h) rfl
  rw [show (Value.int .i64 n.i :: (acells n.a ++ hcs n.m)).length = 20 by simp [acells_len, hcs_len]] at this
  simpa [ncs, ntl] using this
/-! ### Loads, stores -/
section
variable {ops : Array Oper} {rest : List Oper} {op : Oper} {a : Act} {w : World} {Q : Exit → Act → World → Prop} {K : Act → World → Prop} {E : Prop} {S : World → Prop}
theorem ldN (x : Operand) (hw : Region.wanted op (yielded ops a.tmps) = true) (ho : op.op = .load 55 x) (b o : Nat) (n : Ng) (hx : a.eval x = .pointer (some ⟨b, o, none⟩)) (hc : w.rangeAt b o (ncs n))
    (h : wpList Try.prog ops Q rest (a.put op.dst (.agg (ncs n).toArray)) w) : wpList Try.prog ops Q (op :: rest) a w :=
  wpList_step fun K hK => by
    rw [if_pos hw]
    exact wp_load_mid _ x ho b o hx (ncs n) _ hc Try.underlying55 rfl (by rw [infoNs, ncs_len]) (hK _ _ h)
theorem yN {b o : Nat} {x : Operand} (n : Ng) (hS : ∀ w, S w → w.rangeAt b o (ncs n)) (hw : Region.wanted op (yielded ops a.tmps) = true) (ho : op.op = .load 55 x) (hx : a.eval x = .pointer (some ⟨b, o, none⟩)) : YieldsIf Try.prog ops S op (.agg (ncs n).toArray) a :=
  yieldsIf_load_mid hw _ x ho b o hx (ncs n) _ hS Try.underlying55 rfl (by rw [infoNs, ncs_len])
theorem stN (x y : Operand) (hw : Region.wanted op (yielded ops a.tmps) = true) (ho : op.op = .store 55 x y) (b : Nat) (n u : Ng) (hx : a.eval x = .pointer (some ⟨b, 0, none⟩)) (hy : a.eval y = .agg (ncs n).toArray) (hr : Row w b 55 (ncs u))
    (h : ∀ W, w.grownBy W (some b) → Row W b 55 (ncs n) → wpList Try.prog ops Q rest (a.put op.dst undef) W) : wpList Try.prog ops Q (op :: rest) a w :=
  wpList_step fun K hK => by
    rw [if_pos hw]
    refine wp_store_mid _ x y ho b 0 _ hx hy (by simpa [ncs_len] using hr.there (n := 34) (by rw [ncs_len]; omega)) (by rw [infoNs]; simp [ncs_len]) (all_oneCell_toArray (ncs_one n)) (hK _ _ (h _ (grownBy_setCells b _ _ _) ?_))
    have := Row.setCells (ncs n) [] w (ncs u) hr (by rw [ncs_len, ncs_len])
    simpa using this
theorem stK (x y : Operand) (hw : Region.wanted op (yielded ops a.tmps) = true) (ho : op.op = .store 85 x y) (b : Nat) (i : Int) (c : Ad) (j : Int) (d : Ad) (hx : a.eval x = .pointer (some ⟨b, 0, none⟩)) (hy : a.eval y = .agg (kcs i c).toArray) (hr : Row w b 85 (kcs j d))
    (h : ∀ W, w.grownBy W (some b) → Row W b 85 (kcs i c) → wpList Try.prog ops Q rest (a.put op.dst undef) W) : wpList Try.prog ops Q (op :: rest) a w :=
  wpList_step fun K hK => by
    rw [if_pos hw]
    refine wp_store_mid _ x y ho b 0 _ hx hy (by simpa [kcs_len] using hr.there (n := 17) (by rw [kcs_len]; omega)) (by rw [infoKs]; simp [kcs_len]) (all_oneCell_toArray (kcs_one i c)) (hK _ _ (h _ (grownBy_setCells b _ _ _) ?_))
    have := Row.setCells (kcs i c) [] w (kcs j d) hr (by rw [kcs_len, kcs_len])
    simpa using this
theorem ldH (x : Operand) (hw : Region.wanted op (yielded ops a.tmps) = true) (ho : op.op = .load 52 x) (b o : Nat) (c : Hi) (hx : a.eval x = .pointer (some ⟨b, o, none⟩)) (hc : w.rangeAt b o (hcs c))
    (h : wpList Try.prog ops Q rest (a.put op.dst (.agg #[.int .u16 c.b, .int .u16 c.n, .bool c.k])) w) : wpList Try.prog ops Q (op :: rest) a w := Lk.ldH x hw ho b o c hx hc h
theorem stH (x y : Operand) (hw : Region.wanted op (yielded ops a.tmps) = true) (ho : op.op = .store 52 x y) (b o : Nat) (c : Hi) (hx : a.eval x = .pointer (some ⟨b, o, none⟩)) (hy : a.eval y = .agg #[.int .u16 c.b, .int .u16 c.n, .bool c.k]) (ht : w.there b o 3)
    (h : wpList Try.prog ops Q rest (a.put op.dst undef) (w.setCells b o (hcs c))) : wpList Try.prog ops Q (op :: rest) a w :=
  wpList_step fun K hK => by
    rw [if_pos hw]
    exact wp_store_mid _ x y ho b o _ hx hy ht (by rw [Lk.infoH]; rfl) (all_oneCell_toArray (hcs_one c)) (hK _ _ h)
end
theorem lvN {w : World} {g : Nat} {n : Ng} (h : Row w g 55 (ncs n)) : (loadVar 55 ⟨g, 0, none⟩).run Try.prog w = .ok (.agg (ncs n).toArray) w :=
  run_loadVar_mid w g 0 _ (ncs n) _ h.range Try.underlying55 rfl (by rw [infoNs, ncs_len])
theorem lvK {w : World} {g : Nat} {i : Int} {c : Ad} (h : Row w g 85 (kcs i c)) : (loadVar 85 ⟨g, 0, none⟩).run Try.prog w = .ok (.agg (kcs i c).toArray) w :=
  run_loadVar_mid w g 0 _ (kcs i c) _ h.range Try.underlying85 rfl (by rw [infoKs, kcs_len])
theorem run_boxN (n : Ng) (w : World) : (Instr.box 55 (.agg (ncs n).toArray)).run Try.prog w = .ok (.pointer (some ⟨w.heap.size, 0, none⟩)) (w.alloc (.cells (ncs n).toArray 55)) := by
  simp [Instr.box, newVar, newRow, newObj, Value.cells]; rfl
/-! ### Keys -/
theorem keyLaw : Keyed Try.prog 85 := Keyed.of_law (deep_law_laid (m := 3) (by kernel_rfl) (by omega) (of_decide_eq_true (by kernel_rfl)) (by kernel_rfl) (by kernel_rfl))
theorem wf_u8 (b : UInt8) : (Lit.int .u8 (b.toNat : Int)).wf = true := by
  have := b.toNat_lt
  simp [Lit.wf, IntKind.min, IntKind.max, IntKind.signed, IntKind.bits]
  omega
/-- A key as a literal. -/
def kls (c : Ad) : List Lit := c.l.map fun b => Lit.int .u8 (b.toNat : Int)
def kl (i : Int) (c : Ad) : Lit := .string (keyBytes (Lit.int .i64 i :: kls c))
theorem key_some (i : Int) (c : Ad) (hi : (Lit.int .i64 i).wf = true) : keyOf Try.prog 85 (.agg (kcs i c).toArray) = some (kl i c) := by
  have k3 : ∀ d, Try.prog.keyLits (d + 1) 3 [.int .i64 i] = some [.int .i64 i] := fun d => by simp [Program.keyLits, Try.underlying3, hi]
  have k8 : ∀ d (b : UInt8), Try.prog.keyLits (d + 1) 5 [.int .u8 (b.toNat : Int)] = some [.int .u8 b.toNat] := fun d b => by simp [Program.keyLits, Try.underlying5, wf_u8]
  have c8 : Try.prog.cellsOf 5 = 1 := by kernel_rfl
  have cA : Try.prog.cellsOf 29 = 16 := by kernel_rfl
  have cI : Try.prog.cellsOf 3 = 1 := by kernel_rfl
  have cK : Try.prog.cellsOf 85 = 17 := by kernel_rfl
  have kt : Try.prog.keyType 85 = true := by kernel_rfl
  have sz : 2 ≤ Try.prog.types.size := of_decide_eq_true (by kernel_rfl)
  obtain ⟨d, hd⟩ : ∃ d, Try.prog.types.size + 1 = d + 3 := ⟨Try.prog.types.size - 2, by omega⟩
  have hA : Try.prog.keyLits (d + 2) 29 (acells c) = some (kls c) := by
    obtain ⟨l, hl⟩ := c
    match l, hl with
    | [b0, b1, b2, b3, b4, b5, b6, b7, b8, b9, b10, b11, b12, b13, b14, b15], _ =>
      unfold Program.keyLits
      simp [Try.underlying29, acells, bcells, cA, c8, k8, List.range, List.range.loop, kls]
  unfold keyOf kl
  rw [Try.underlying85, hd]
  simp only [kt, Value.formed, Try.underlying85, cK, Bool.true_and, Value.cells]
  unfold Program.keyLits
  simp [Try.underlying85, cK, cI, cA, kcs_len, kcs, k3, acells_len, hA, List.take_of_length_le]
end Go.Proofs.Ytacadlbhgelncaa
