/-
  Tlvs and ids of routers as values and in memory: their cells, loads, stores, allocations, literals, equality of ids.
-/
import Derived.Test.YtdibjgcokebfbaaGreatM05
import Derived.Test.YtdibjgcokebfbaaGreatM03
import Derived.Test.YtdibjgcokebfbaaGreatM02
namespace Go.Proofs.YtdibjgcokebfbaaGreat
open Go.RowKit
set_option linter.unusedSimpArgs false

/-- The id of a router: eight bytes. -/
structure Id8 where
  l : List UInt8
  len : l.length = 8
theorem Id8.ext {a b : Id8} (h : a.l = b.l) : a = b := by
  cases a; cases b; cases h; rfl
def zeroI : Id8 := ⟨List.replicate 8 0, rfl⟩
def fullI : Id8 := ⟨List.replicate 8 255, rfl⟩
def icells (i : Id8) : List Value := bcells i.l
theorem icells_len (i : Id8) : (icells i).length = 8 := by simp [icells, bcells, i.len]
theorem icells_one (i : Id8) : ∀ u ∈ icells i, u.oneCell' = true := bcells_one _
def zeroP : Pf := ⟨zeroA, 0⟩
def zeroQ : Pr := ⟨zeroP, zeroP⟩
/-- A Tlv: its fields; of Stamps where they lie, how many they are, their room, and the numbers. -/
structure Tl where
  ty : Nat
  nonce : Nat
  intv : Nat
  seq : Nat
  rx : Nat
  met : Nat
  hops : Nat
  uni : Bool
  all : Bool
  id : Id8
  ad : Ad
  pr : Pr
  sa : Option Addr
  sn : Nat
  sc : Nat
  st : List UInt32
def tnum (t : Tl) : List Value := [.int .u8 (t.ty : Int), .int .u16 (t.nonce : Int), .int .u16 (t.intv : Int), .int .u16 (t.seq : Int), .int .u16 (t.rx : Int), .int .u16 (t.met : Int), .int .u8 (t.hops : Int), .bool t.uni, .bool t.all]
def tcells (t : Tl) : List Value := tnum t ++ (icells t.id ++ (acells t.ad ++ (qcells t.pr ++ [.slice t.sa t.sn t.sc])))
theorem tcells_len (t : Tl) : (tcells t).length = 68 := by simp [tcells, tnum, icells_len, acells_len, qcells_len]
theorem tcells_one (t : Tl) : ∀ u ∈ tcells t, u.oneCell' = true := by
  intro u hu
  simp only [tcells, List.mem_append] at hu
  rcases hu with h | h | h | h | h
  · simp [tnum] at h
    rcases h with rfl | rfl | rfl | rfl | rfl | rfl | rfl | rfl | rfl <;> rfl
  · exact icells_one _ u h
  · exact acells_one _ u h
  · exact qcells_one _ u h
  · simp at h; subst h; rfl
def zeroT : Tl := ⟨0, 0, 0, 0, 0, 0, 0, false, false, zeroI, zeroA, zeroQ, none, 0, 0, []⟩

theorem infoT : (Tryz.prog.info? 45).map (fun i => (i.zero, i.size, i.bytes)) = some (some (.agg (tcells zeroT).toArray), 68, 112) := by kernel_rfl
theorem infoTz : (Tryz.prog.info? 45).map (·.zero) = some (some (.agg (tcells zeroT).toArray)) := by kernel_rfl
theorem infoTs : (Tryz.prog.info? 45).map (·.size) = some 68 := by kernel_rfl
theorem infoI : (Tryz.prog.info? 38).map (·.size) = some 8 := by kernel_rfl
theorem infoIz : (Tryz.prog.info? 38).map (·.zero) = some (some (.agg (icells zeroI).toArray)) := by kernel_rfl
theorem infoAz : (Tryz.prog.info? 23).map (·.zero) = some (some (.agg (acells zeroA).toArray)) := by kernel_rfl
theorem infoPz : (Tryz.prog.info? 40).map (·.zero) = some (some (.agg (pcells zeroP).toArray)) := by kernel_rfl
theorem infoQz : (Tryz.prog.info? 42).map (·.zero) = some (some (.agg (qcells zeroQ).toArray)) := by kernel_rfl

/-! ### Allocations -/
theorem run_alG {T : TypeId} {Z : List Value} {i : TypeInfo} (hi : Tryz.prog.info? T = some i) (hz : i.zero = some (.agg Z.toArray)) (w : World) : (Instr.alloc T true (.tuple #[])).run Tryz.prog w = .ok (.pointer (some ⟨w.heap.size, 0, none⟩)) (w.alloc (.cells Z.toArray T)) := by
  generalize Z.toArray = Z' at *
  simp [Instr.alloc, zeroValue, typeInfo, hi, hz, newVar, newRow, newObj, Value.cells]
  rfl
section
variable {ops : Array Oper} {rest : List Oper} {op : Oper} {a : Act} {w : World} {Q : Exit → Act → World → Prop} {K : Act → World → Prop} {E : Prop}
theorem wp_alG {T : TypeId} {Z : List Value} (hT : (Tryz.prog.info? T).map (·.zero) = some (some (.agg Z.toArray))) (ho : op.op = .alloc T)
    (h : ∀ g W, w.heap.size ≤ g → g < W.heap.size → Below w.heap.size w W → Row W g T Z → K (a.put op.dst (.pointer (some ⟨g, 0, none⟩))) W) : Oper.wp Tryz.prog op a w K Q := by
  obtain ⟨i, hi, hz⟩ : ∃ i, Tryz.prog.info? T = some i ∧ i.zero = some (.agg Z.toArray) := by
    cases hq : Tryz.prog.info? T with
    | none => simp [hq] at hT
    | some i => exact ⟨i, rfl, by simpa [hq] using hT⟩
  have h1 := h _ _ (Nat.le_refl _) (by simp) (ba w (.cells Z.toArray T)) (Row.new w T Z)
  unfold Oper.wp execOp
  simp only [ho, Sem.run_bind, run_alG hi hz, Result.andThen_ok, Sem.run_pure]
  exact h1
theorem alG {T : TypeId} {Z : List Value} (hT : (Tryz.prog.info? T).map (·.zero) = some (some (.agg Z.toArray))) (hw : Region.wanted op (yielded ops a.tmps) = true) (ho : op.op = .alloc T)
    (h : ∀ g W, w.heap.size ≤ g → g < W.heap.size → Below w.heap.size w W → Row W g T Z → wpList Tryz.prog ops Q rest (a.put op.dst (.pointer (some ⟨g, 0, none⟩))) W) : wpList Tryz.prog ops Q (op :: rest) a w :=
  wpList_step fun K hK => by
    rw [if_pos hw]
    exact wp_alG hT ho fun g W h1 h2 h3 h4 => hK _ _ (h g W h1 h2 h3 h4)
theorem sAlG {T : TypeId} {Z : List Value} (hT : (Tryz.prog.info? T).map (·.zero) = some (some (.agg Z.toArray))) (hw : Region.wanted op (yielded ops a.tmps) = true) (ho : op.op = .alloc T)
    (h : ∀ g W, w.heap.size ≤ g → g < W.heap.size → Below w.heap.size w W → Row W g T Z → K (a.put op.dst (.pointer (some ⟨g, 0, none⟩))) W) : if Region.wanted op (yielded ops a.tmps) = true then Oper.wp Tryz.prog op a w K Q else E := by
  rw [if_pos hw]
  exact wp_alG hT ho h
end

/-! ### Loads, stores -/
theorem Row.setMid {t : TypeId} {g : Nat} : ∀ (ds pre mid post : List Value) (w : World), Row w g t (pre ++ (mid ++ post)) → ds.length = mid.length → Row (w.setCells g pre.length ds) g t (pre ++ (ds ++ post))
  | [], pre, mid, post, w, h, hl => by
    obtain rfl : mid = [] := List.eq_nil_of_length_eq_zero hl.symm
    exact h
  | v :: ds, pre, [], post, w, h, hl => by simp at hl
  | v :: ds, pre, c :: mid, post, w, h, hl => by
    rw [World.setCells]
    have h1 := h.set pre.length v
    have e : (pre ++ ((c :: mid) ++ post)).set pre.length v = (pre ++ [v]) ++ (mid ++ post) := by simp
    rw [e] at h1
    have h2 := Row.setMid ds (pre ++ [v]) mid post _ h1 (by simpa using hl)
    rw [List.length_append] at h2
    simpa using h2
theorem Row.thereMid {w : World} {g : Nat} {t : TypeId} {cs : List Value} {o n : Nat} (h : Row w g t cs) (hn : o + n ≤ cs.length) : w.there g o n := fun j hj => by
  rw [h.cell, h.frozen]
  exact ⟨by simp; omega, rfl⟩
section
variable {ops : Array Oper} {rest : List Oper} {op : Oper} {a : Act} {w : World} {Q : Exit → Act → World → Prop} {K : Act → World → Prop} {E : Prop} {S : World → Prop}
theorem ldT (x : Operand) (hw : Region.wanted op (yielded ops a.tmps) = true) (ho : op.op = .load 45 x) (b : Nat) (t : Tl) (hx : a.eval x = .pointer (some ⟨b, 0, none⟩)) (hc : Row w b 45 (tcells t))
    (h : wpList Tryz.prog ops Q rest (a.put op.dst (.agg (tcells t).toArray)) w) : wpList Tryz.prog ops Q (op :: rest) a w :=
  wpList_step fun K hK => by
    rw [if_pos hw]
    exact wp_load_mid _ x ho b 0 hx (tcells t) _ hc.range Tryz.underlying45 rfl (by rw [infoTs, tcells_len]) (hK _ _ h)
theorem yT {b : Nat} {x : Operand} (t : Tl) (hS : ∀ w, S w → Row w b 45 (tcells t)) (hw : Region.wanted op (yielded ops a.tmps) = true) (ho : op.op = .load 45 x) (hx : a.eval x = .pointer (some ⟨b, 0, none⟩)) : YieldsIf Tryz.prog ops S op (.agg (tcells t).toArray) a :=
  yieldsIf_load_mid hw _ x ho b 0 hx (tcells t) _ (fun w h => (hS w h).range) Tryz.underlying45 rfl (by rw [infoTs, tcells_len])
theorem wp_stT (x y : Operand) (ho : op.op = .store 45 x y) (b : Nat) (t u : Tl) (hx : a.eval x = .pointer (some ⟨b, 0, none⟩)) (hy : a.eval y = .agg (tcells t).toArray) (hr : Row w b 45 (tcells u))
    (h : ∀ W, w.grownBy W (some b) → Row W b 45 (tcells t) → K (a.put op.dst undef) W) : Oper.wp Tryz.prog op a w K Q := by
  refine wp_store_mid _ x y ho b 0 _ hx hy (by simpa [tcells_len] using hr.there (n := 68) (by rw [tcells_len]; omega)) (by rw [infoTs]; simp [tcells_len]) (all_oneCell_toArray (tcells_one t)) (h _ (grownBy_setCells b _ _ _) ?_)
  have := Row.setCells (tcells t) [] w (tcells u) hr (by rw [tcells_len, tcells_len])
  simpa using this
theorem stT (x y : Operand) (hw : Region.wanted op (yielded ops a.tmps) = true) (ho : op.op = .store 45 x y) (b : Nat) (t u : Tl) (hx : a.eval x = .pointer (some ⟨b, 0, none⟩)) (hy : a.eval y = .agg (tcells t).toArray) (hr : Row w b 45 (tcells u))
    (h : ∀ W, w.grownBy W (some b) → Row W b 45 (tcells t) → wpList Tryz.prog ops Q rest (a.put op.dst undef) W) : wpList Tryz.prog ops Q (op :: rest) a w :=
  wpList_step fun K hK => by
    rw [if_pos hw]
    exact wp_stT x y ho b t u hx hy hr fun W h1 h2 => hK _ _ (h W h1 h2)
theorem sStT (x y : Operand) (hw : Region.wanted op (yielded ops a.tmps) = true) (ho : op.op = .store 45 x y) (b : Nat) (t u : Tl) (hx : a.eval x = .pointer (some ⟨b, 0, none⟩)) (hy : a.eval y = .agg (tcells t).toArray) (hr : Row w b 45 (tcells u))
    (h : ∀ W, w.grownBy W (some b) → Row W b 45 (tcells t) → K (a.put op.dst undef) W) : if Region.wanted op (yielded ops a.tmps) = true then Oper.wp Tryz.prog op a w K Q else E := by
  rw [if_pos hw]
  exact wp_stT x y ho b t u hx hy hr h
theorem ldI (x : Operand) (hw : Region.wanted op (yielded ops a.tmps) = true) (ho : op.op = .load 38 x) (b o : Nat) (i : Id8) (hx : a.eval x = .pointer (some ⟨b, o, none⟩)) (hc : w.rangeAt b o (icells i))
    (h : wpList Tryz.prog ops Q rest (a.put op.dst (.agg (icells i).toArray)) w) : wpList Tryz.prog ops Q (op :: rest) a w :=
  wpList_step fun K hK => by
    rw [if_pos hw]
    exact wp_load_mid _ x ho b o hx (icells i) _ hc Tryz.underlying38 rfl (by rw [infoI, icells_len]) (hK _ _ h)
theorem yI {b o : Nat} {x : Operand} (i : Id8) (hS : ∀ w, S w → w.rangeAt b o (icells i)) (hw : Region.wanted op (yielded ops a.tmps) = true) (ho : op.op = .load 38 x) (hx : a.eval x = .pointer (some ⟨b, o, none⟩)) : YieldsIf Tryz.prog ops S op (.agg (icells i).toArray) a :=
  yieldsIf_load_mid hw _ x ho b o hx (icells i) _ hS Tryz.underlying38 rfl (by rw [infoI, icells_len])
theorem stI (x y : Operand) (hw : Region.wanted op (yielded ops a.tmps) = true) (ho : op.op = .store 38 x y) (b o : Nat) (i : Id8) (hx : a.eval x = .pointer (some ⟨b, o, none⟩)) (hy : a.eval y = .agg (icells i).toArray) (ht : w.there b o 8)
    (h : wpList Tryz.prog ops Q rest (a.put op.dst undef) (w.setCells b o (icells i))) : wpList Tryz.prog ops Q (op :: rest) a w :=
  wpList_step fun K hK => by
    rw [if_pos hw]
    exact wp_store_mid _ x y ho b o _ hx hy (by simpa [icells_len] using ht) (by rw [infoI]; simp [icells_len]) (all_oneCell_toArray (icells_one i)) (hK _ _ (by simpa using h))
/-- A store of an id, an address, a prefix, a pair over a whole block. -/
theorem stI0 (x y : Operand) (hw : Region.wanted op (yielded ops a.tmps) = true) (ho : op.op = .store 38 x y) (b : Nat) (i : Id8) (cs : List Value) (hl : cs.length = 8) (hx : a.eval x = .pointer (some ⟨b, 0, none⟩)) (hy : a.eval y = .agg (icells i).toArray) (hr : Row w b 38 cs)
    (h : ∀ W, w.grownBy W (some b) → Row W b 38 (icells i) → wpList Tryz.prog ops Q rest (a.put op.dst undef) W) : wpList Tryz.prog ops Q (op :: rest) a w :=
  stI x y hw ho b 0 i hx hy (hr.there (by omega)) (h _ (grownBy_setCells b _ _ _) (by simpa using Row.setCells (icells i) [] w cs hr (by rw [icells_len, hl])))
theorem stA0 (x y : Operand) (hw : Region.wanted op (yielded ops a.tmps) = true) (ho : op.op = .store 23 x y) (b : Nat) (i : Ad) (cs : List Value) (hl : cs.length = 16) (hx : a.eval x = .pointer (some ⟨b, 0, none⟩)) (hy : a.eval y = (Value.agg (acells i).toArray)) (hr : Row w b 23 cs)
    (h : ∀ W, w.grownBy W (some b) → Row W b 23 (acells i) → wpList Tryz.prog ops Q rest (a.put op.dst undef) W) : wpList Tryz.prog ops Q (op :: rest) a w :=
  stA x y hw ho b 0 i hx hy (hr.there (by omega)) (h _ (grownBy_setCells b _ _ _) (by simpa using Row.setCells (acells i) [] w cs hr (by rw [acells_len, hl])))
theorem stP0 (x y : Operand) (hw : Region.wanted op (yielded ops a.tmps) = true) (ho : op.op = .store 40 x y) (b : Nat) (i : Pf) (cs : List Value) (hl : cs.length = 17) (hx : a.eval x = .pointer (some ⟨b, 0, none⟩)) (hy : a.eval y = (Value.agg (pcells i).toArray)) (hr : Row w b 40 cs)
    (h : ∀ W, w.grownBy W (some b) → Row W b 40 (pcells i) → wpList Tryz.prog ops Q rest (a.put op.dst undef) W) : wpList Tryz.prog ops Q (op :: rest) a w :=
  stP x y hw ho b 0 i hx hy (hr.there (by omega)) (h _ (grownBy_setCells b _ _ _) (by simpa using Row.setCells (pcells i) [] w cs hr (by rw [pcells_len, hl])))
theorem stQ0 (x y : Operand) (hw : Region.wanted op (yielded ops a.tmps) = true) (ho : op.op = .store 42 x y) (b : Nat) (i : Pr) (cs : List Value) (hl : cs.length = 34) (hx : a.eval x = .pointer (some ⟨b, 0, none⟩)) (hy : a.eval y = (Value.agg (qcells i).toArray)) (hr : Row w b 42 cs)
    (h : ∀ W, w.grownBy W (some b) → Row W b 42 (qcells i) → wpList Tryz.prog ops Q rest (a.put op.dst undef) W) : wpList Tryz.prog ops Q (op :: rest) a w :=
  stQ x y hw ho b 0 i hx hy (hr.there (by omega)) (h _ (grownBy_setCells b _ _ _) (by simpa using Row.setCells (qcells i) [] w cs hr (by rw [qcells_len, hl])))
/-- Stores into the fields of a Tlv. -/
theorem Row.tId {g : Nat} {t : Tl} (hr : Row w g 45 (tcells t)) (i : Id8) : Row (w.setCells g 9 (icells i)) g 45 (tcells { t with id := i }) :=
  Row.setMid (icells i) (tnum t) (icells t.id) _ w hr (by rw [icells_len, icells_len])
theorem Row.tAd {g : Nat} {t : Tl} (hr : Row w g 45 (tcells t)) (i : Ad) : Row (w.setCells g 17 (acells i)) g 45 (tcells { t with ad := i }) := by
  have h := Row.setMid (acells i) (tnum t ++ icells t.id) (acells t.ad) _ w (by rw [List.append_assoc]; exact hr) (by rw [acells_len, acells_len])
  rw [List.append_assoc, List.length_append, icells_len] at h
  exact h
theorem Row.tPr {g : Nat} {t : Tl} (hr : Row w g 45 (tcells t)) (i : Pr) : Row (w.setCells g 33 (qcells i)) g 45 (tcells { t with pr := i }) := by
  have h := Row.setMid (qcells i) (tnum t ++ (icells t.id ++ acells t.ad)) (qcells t.pr) _ w (by simp only [List.append_assoc]; exact hr) (by rw [qcells_len, qcells_len])
  simp only [List.append_assoc, List.length_append, icells_len, acells_len] at h
  exact h
theorem tcells_get (t : Tl) : (tcells t)[67]? = some (.slice t.sa t.sn t.sc) := by
  unfold tcells
  rw [List.getElem?_append_right (by simp [tnum]), List.getElem?_append_right (by simp [tnum, icells_len]), List.getElem?_append_right (by simp [tnum, icells_len, acells_len]), List.getElem?_append_right (by simp [tnum, icells_len, acells_len, qcells_len])]
  simp [tnum, icells_len, acells_len, qcells_len]
theorem Row.tSt {g : Nat} {t : Tl} (hr : Row w g 45 (tcells t)) (sa : Option Addr) (sn sc : Nat) (st : List UInt32) : Row (w.setCell ⟨g, 67, none⟩ (.slice sa sn sc)) g 45 (tcells { t with sa := sa, sn := sn, sc := sc, st := st }) := by
  have h := Row.setMid [.slice sa sn sc] (tnum t ++ (icells t.id ++ (acells t.ad ++ qcells t.pr))) [.slice t.sa t.sn t.sc] [] w (by simp only [List.append_assoc, List.append_nil]; exact hr) rfl
  simp only [List.append_assoc, List.append_nil, List.length_append, icells_len, acells_len, qcells_len] at h
  exact h
theorem Row.tAll {g : Nat} {t : Tl} (hr : Row w g 45 (tcells t)) (b : Bool) : Row (w.setCell ⟨g, 8, none⟩ (.bool b)) g 45 (tcells { t with all := b }) := hr.set 8 (.bool b)
end
theorem lvT {w : World} {g : Nat} {t : Tl} (h : Row w g 45 (tcells t)) : (loadVar 45 ⟨g, 0, none⟩).run Tryz.prog w = .ok (.agg (tcells t).toArray) w :=
  run_loadVar_mid w g 0 _ (tcells t) _ h.range Tryz.underlying45 rfl (by rw [infoTs, tcells_len])
theorem lvI {w : World} {g : Nat} {t : Id8} (h : Row w g 38 (icells t)) : (loadVar 38 ⟨g, 0, none⟩).run Tryz.prog w = .ok (.agg (icells t).toArray) w :=
  run_loadVar_mid w g 0 _ (icells t) _ h.range Tryz.underlying38 rfl (by rw [infoI, icells_len])

/-! ### Literals -/
section
variable {ops : Array Oper} {rest : List Oper} {op : Oper} {a : Act} {w : World} {Q : Exit → Act → World → Prop} {S : World → Prop} {T : TypeId} {v : Value}
theorem bdG (parts : List (Nat × Operand)) (hw : Region.wanted op (yielded ops a.tmps) = true) (ho : op.op = .build T parts.toArray)
    (hv : (Instr.build T (parts.map fun p => (p.1, a.eval p.2)).toArray).run Tryz.prog w = .ok v w)
    (h : wpList Tryz.prog ops Q rest (a.put op.dst v) w) : wpList Tryz.prog ops Q (op :: rest) a w :=
  wpList_step fun K hK => by
    rw [if_pos hw]
    unfold Oper.wp execOp
    simp only [ho, List.map_toArray, Sem.run_bind, hv, Result.andThen_ok, Sem.run_pure]
    exact hK _ _ h
theorem yB (parts : List (Nat × Operand)) (hw : Region.wanted op (yielded ops a.tmps) = true) (ho : op.op = .build T parts.toArray)
    (hv : ∀ w, (Instr.build T (parts.map fun p => (p.1, a.eval p.2)).toArray).run Tryz.prog w = .ok v w) : YieldsIf Tryz.prog ops S op v a :=
  .inl ⟨hw, fun w _ => by
    unfold execOp
    simp only [ho, List.map_toArray, Sem.run_bind, hv, Result.andThen_ok, Sem.run_pure]⟩
end
theorem bdT0 (w : World) : (Instr.build 45 #[]).run Tryz.prog w = .ok (.agg (tcells zeroT).toArray) w := by kernel_rfl
theorem bdA0 (w : World) : (Instr.build 23 #[]).run Tryz.prog w = .ok (Value.agg (acells zeroA).toArray) w := by kernel_rfl
theorem bdUpd (x y z : Nat) (w : World) : (Instr.build 45 #[(0, .int .u8 8), (2, .int .u16 (x : Int)), (3, .int .u16 (y : Int)), (5, .int .u16 (z : Int))]).run Tryz.prog w = .ok (.agg (tcells { zeroT with ty := 8, intv := x, seq := y, met := z }).toArray) w := by kernel_rfl
theorem Ad.lit (c : Ad) : ∃ b0 b1 b2 b3 b4 b5 b6 b7 b8 b9 b10 b11 b12 b13 b14 b15, c.l = [b0, b1, b2, b3, b4, b5, b6, b7, b8, b9, b10, b11, b12, b13, b14, b15] := by
  obtain ⟨l, hl⟩ := c
  match l, hl with
  | [b0, b1, b2, b3, b4, b5, b6, b7, b8, b9, b10, b11, b12, b13, b14, b15], _ => exact ⟨b0, b1, b2, b3, b4, b5, b6, b7, b8, b9, b10, b11, b12, b13, b14, b15, rfl⟩
theorem bdPr (d s : Pf) (w : World) : (Instr.build 42 #[(0, (Value.agg (pcells d).toArray)), (1, (Value.agg (pcells s).toArray))]).run Tryz.prog w = .ok (Value.agg (qcells (⟨d, s⟩)).toArray) w := by
  obtain ⟨⟨l, hl⟩, n⟩ := d
  obtain ⟨⟨k, hk⟩, m⟩ := s
  match l, hl, k, hk with
  | [b0, b1, b2, b3, b4, b5, b6, b7, b8, b9, b10, b11, b12, b13, b14, b15], _, [c0, c1, c2, c3, c4, c5, c6, c7, c8, c9, c10, c11, c12, c13, c14, c15], _ =>
    show _ = _
    kernel_rfl
def llA : Ad := ⟨[254, 128, 0, 0, 0, 0, 0, 0, 0, 0, 0, 0, 0, 0, 0, 0], rfl⟩
theorem bdLL (w : World) : (Instr.build 23 #[(0, .int .u8 254), (1, .int .u8 128)]).run Tryz.prog w = .ok (Value.agg (acells llA).toArray) w := by kernel_rfl
/-! ### Equality of ids -/
set_option maxRecDepth 4000 in
theorem eqI (d : Nat) (a b : Id8) (w : World) : (Op.equalIn (d + 2) 38 (.agg (icells a).toArray) (.agg (icells b).toArray)).run Tryz.prog w = .ok (decide (a.l = b.l)) w := by
  obtain ⟨i, hi⟩ : ∃ i, Tryz.prog.info? 5 = some i := Option.isSome_iff_exists.1 (by kernel_rfl)
  rw [run_equalIn_array w (d + 1) _ _ Tryz.underlying38 hi, show Tryz.prog.cellsOf 5 = 1 by kernel_rfl]
  unfold icells
  rw [eqItems_u8 d a.l b.l w _ (fun i hi => by rw [a.len, b.len]; exact ⟨List.mem_range.1 hi, List.mem_range.1 hi⟩)]
  congr 1
  exact decide_eq_decide.2 (same_of a.len b.len)
end Go.Proofs.YtdibjgcokebfbaaGreat

namespace Go.Proofs.YtdibjgcokebfbaaGreat
open Go.RowKit
set_option linter.unusedSimpArgs false
set_option maxRecDepth 20000

/-- What Specific answers. -/
def spec (p : Pr) : Bool := !(decide (p.s.a.l = (anyP (famP p.s)).a.l) && decide (p.s.n = (anyP (famP p.s)).n))
theorem specific_any (p : Pr) (w : World) : Calls Tryz.prog 125 #[(Value.agg (qcells p).toArray)] w (Gives w (.bool (spec p))) := by
  have hF := pfam_any p.s
  obtain ⟨f, hf⟩ : ∃ f, famP p.s = f := ⟨_, rfl⟩
  rw [hf] at hF
  have hY := any_any f
  obtain ⟨q, hq⟩ : ∃ q, anyP f = q := ⟨_, rfl⟩
  rw [hq] at hY
  have he := eqP 9997 p.s q
  obtain ⟨b, hb⟩ : ∃ b, (decide (p.s.a.l = q.a.l) && decide (p.s.n = q.n)) = b := ⟨_, rfl⟩
  rw [hb] at he
  have HF : Hid (spec p = !b) := by show _ = _; simp only [spec, hf, hq, hb]
  clear hf hq hb
  go_enter Tryz.func125, Tryz.ntmps125
  go_wp2
  refine name_world (R := fun W => Code.wp _ _ _ _ W) (P := fun W => Below w.heap.size w W ∧ LQ W w.heap.size 0 p ∧ w.heap.size < W.heap.size) _ ⟨ba _ _, LQ.new _ _ _, by simp⟩ ?_
  rintro X ⟨hB, hP, hs⟩
  have HK : Hid (∀ W, Below X.heap.size X W → Below X.heap.size X W ∧ LQ W w.heap.size 0 p) := fun W h => ⟨h, hP.below h hs⟩
  refine wp_region_noPanic ?_
  refine wp_region_held_drew (S := fun W => Below X.heap.size X W ∧ LQ W w.heap.size 0 p) (by kernel_rfl) (HK.out _ (Below.refl _ _).drew) (fun hHeld => ?_)
  refine tA 0 ?_
  refine tL 1 rfl (yP p.s (fun w h => h.2.s) (by rfl) rfl rfl) ?_
  refine tA 2 ?_
  refine tL 3 rfl (yP p.s (fun w h => h.2.s) (by rfl) rfl rfl) ?_
  refine r1 4 fun K hK => ?_
  go_simp
  refine (hF _).mono ?_
  rintro e w1 ⟨rfl, hB1⟩
  refine oK hK (by exact HK.out _ (hHeld.1.trans (hB1.mono hHeld.1.size))) fun hHeld => ?_
  clear hK K
  refine r1 5 fun K hK => ?_
  go_simp
  refine (hY _).mono ?_
  rintro e w2 ⟨rfl, hB2⟩
  refine oK hK (by exact HK.out _ (hHeld.1.trans (hB2.mono hHeld.1.size))) fun hHeld => ?_
  clear hK K
  refine tA 6 ?_
  refine tA 7 ?_
  refine dN ?_
  refine NoPanic.normal ?_
  go_wp2
  go_ret
  exact ⟨by rw [HF.out]; rfl, hB.trans (hHeld.1.mono (by omega))⟩
end Go.Proofs.YtdibjgcokebfbaaGreat

namespace Go.Proofs.YtdibjgcokebfbaaGreat
open Go.RowKit
set_option linter.unusedSimpArgs false
set_option maxRecDepth 20000

theorem bd (w : World) : Below w.heap.size w w.drew := (Below.refl _ _).drew
theorem own_srcP {w : World} {B : Nat} {a : Option Addr} {n c : Nat} {xs : List Value} (h : w.ownsRow B 5 1 (.slice a n c) n xs) : Src w a n c xs := by
  obtain ⟨_, _, hv, hs, _⟩ := Src.ofOwn h
  cases hv
  exact hs
/-- A Tlv, wherever its Stamps lie. -/
structure TK where
  ty : Nat
  nonce : Nat
  intv : Nat
  seq : Nat
  rx : Nat
  met : Nat
  hops : Nat
  uni : Bool
  all : Bool
  id : Id8
  ad : Ad
  pr : Pr
  st : List UInt32
def Tl.key (t : Tl) : TK := ⟨t.ty, t.nonce, t.intv, t.seq, t.rx, t.met, t.hops, t.uni, t.all, t.id, t.ad, t.pr, t.st⟩
def zeroK : TK := zeroT.key
theorem Row.rAd {w : World} {g : Nat} {t : Tl} (hr : Row w g 45 (tcells t)) : LA w g 17 t.ad := by
  have h := rangeAt_right hr.range (k := 9) rfl
  have h2 := rangeAt_right h (k := 8) (icells_len _)
  exact rangeAt_left h2
theorem Row.rPr {w : World} {g : Nat} {t : Tl} (hr : Row w g 45 (tcells t)) : LQ w g 33 t.pr := by
  have h := rangeAt_right hr.range (k := 9) rfl
  have h2 := rangeAt_right h (k := 8) (icells_len _)
  have h3 := rangeAt_right h2 (k := 16) (acells_len _)
  exact rangeAt_left h3
theorem Row.rId2 {w : World} {g : Nat} {t : Tl} (hr : Row w g 45 (tcells t)) : w.rangeAt g 9 (icells t.id) := by
  have h := rangeAt_right hr.range (k := 9) rfl
  exact rangeAt_left h
theorem Row.rSt {w : World} {g : Nat} {t : Tl} (hr : Row w g 45 (tcells t)) : w.cell? ⟨g, 67, none⟩ = some (.slice t.sa t.sn t.sc) := (hr.cell 67).trans (tcells_get t)
/-- A Tlv as a value: where its Stamps are. -/
def TSrc (w : World) (t : Tl) : Prop := Src w t.sa t.sn t.sc (wcells t.st)
theorem TSrc.len {w : World} {t : Tl} (h : TSrc w t) : t.sn = t.st.length := Src.wlen h

/-- An id that no router may have. -/
def nobB (i : Id8) : Bool := decide (i.l = zeroI.l) || decide (i.l = fullI.l)
/-- Are two Tlvs the same? -/
def sameN (a b : TK) : Bool := ((a.ty : Int) == (b.ty : Int)) && (((a.nonce : Int) == (b.nonce : Int)) && (((a.intv : Int) == (b.intv : Int)) && (((a.seq : Int) == (b.seq : Int)) && (((a.rx : Int) == (b.rx : Int)) && (((a.met : Int) == (b.met : Int)) && ((a.hops : Int) == (b.hops : Int)))))))
def prqB (p q : Pr) : Bool := (decide (p.d.a.l = q.d.a.l) && decide (p.d.n = q.d.n)) && (decide (p.s.a.l = q.s.a.l) && decide (p.s.n = q.s.n))
def sameB (a b : TK) : Bool := sameN a b && ((a.uni == b.uni) && ((a.all == b.all) && (decide (a.id.l = b.id.l) && (decide (a.ad.l = b.ad.l) && (prqB a.pr b.pr && decide (a.st = b.st))))))
theorem prB_iff (p q : Pr) : prqB p q = true ↔ p = q := by
  obtain ⟨⟨a, n⟩, ⟨b, m⟩⟩ := p
  obtain ⟨⟨c, k⟩, ⟨d, j⟩⟩ := q
  unfold prqB
  simp only [Bool.and_eq_true, decide_eq_true_eq, Pr.mk.injEq, Pf.mk.injEq]
  constructor
  · rintro ⟨⟨h1, h2⟩, h3, h4⟩
    exact ⟨⟨Ad.ext h1, h2⟩, Ad.ext h3, h4⟩
  · rintro ⟨⟨rfl, rfl⟩, rfl, rfl⟩
    exact ⟨⟨rfl, rfl⟩, rfl, rfl⟩
theorem sameB_iff (a b : TK) : sameB a b = true ↔ a = b := by
  obtain ⟨ty, no, iv, sq, rx, me, ho, un, al, id, ad, pr, st⟩ := a
  obtain ⟨ty', no', iv', sq', rx', me', ho', un', al', id', ad', pr', st'⟩ := b
  unfold sameB sameN
  simp only [Bool.and_eq_true, decide_eq_true_eq, beq_iff_eq, TK.mk.injEq, prB_iff, Int.ofNat_inj, and_assoc]
  constructor
  · rintro ⟨h1, h2, h3, h4, h5, h6, h7, h8, h9, h10, h11, h12, h13⟩
    exact ⟨h1, h2, h3, h4, h5, h6, h7, h8, h9, Id8.ext h10, Ad.ext h11, h12, h13⟩
  · rintro ⟨h1, h2, h3, h4, h5, h6, h7, h8, h9, rfl, rfl, h12, h13⟩
    exact ⟨h1, h2, h3, h4, h5, h6, h7, h8, h9, rfl, rfl, h12, h13⟩
/-- A Tlv without what is named of its type; which types tell a Tlv; which fields go together; what Check answers. -/
def unK (k : TK) : TK :=
  if k.ty = 2 then { k with nonce := 0, intv := 0 } else if k.ty = 3 then { k with nonce := 0 } else if k.ty = 4 then { k with seq := 0, intv := 0, uni := false, st := [] } else if k.ty = 5 then { k with rx := 0, intv := 0, all := false, ad := zeroA, st := [] } else if k.ty = 8 then { k with intv := 0, seq := 0, met := 0, all := false, pr := zeroQ, id := zeroI, ad := zeroA } else if k.ty = 9 then { k with all := false, pr := zeroQ } else { k with seq := 0, hops := 0, id := zeroI, pr := zeroQ }
def namB (y : Nat) : Bool := decide (y = 2 ∨ y = 3 ∨ y = 4 ∨ y = 5 ∨ y = 8 ∨ y = 9 ∨ y = 10)
def fitU (k : TK) : Bool := if k.all = true ∧ (k.met ≠ 65535 ∨ prqB k.pr zeroQ = false) then false else if k.met = 65535 then decide (k.id.l = zeroI.l) && decide (k.ad.l = zeroA.l) else !nobB k.id
def fitB (k : TK) : Bool := if k.ty = 4 then decide (k.st.length ≤ 1) else if k.ty = 5 then decide (k.st.length = 0 ∨ k.st.length = 2) && (!k.all || decide (k.ad.l = zeroA.l)) else if k.ty = 8 then fitU k else if k.ty = 9 then !k.all || prqB k.pr zeroQ else if k.ty = 10 then !decide (k.hops = 0) && !decide (k.id.l = zeroI.l) else true
def chkT (k : TK) : Int := if (namB k.ty && (sameB (unK k) { zeroK with ty := k.ty } && fitB k)) = true then chkQ k.pr else 2

end Go.Proofs.YtdibjgcokebfbaaGreat

namespace Go.Proofs.YtdibjgcokebfbaaGreat
open Go.RowKit
set_option linter.unusedSimpArgs false
set_option maxRecDepth 20000

/-- The numbers of a Tlv fit their kinds. -/
structure TFit (k : TK) : Prop where
  ty : k.ty < 256
  nonce : k.nonce < 65536
  intv : k.intv < 65536
  seq : k.seq < 65536
  rx : k.rx < 65536
  met : k.met < 65536
  hops : k.hops < 256
def llP : Pf := ⟨llA, 64⟩
/-- The kind and the bytes of an address, of a prefix. -/
def adrE (a : Ad) : UInt8 := if con llP a = true then 3 else if famA a = 4 then 1 else 2
def adrL (a : Ad) : List UInt8 := if con llP a = true then a.l.drop 8 else if famA a = 4 then a.l.drop 12 else a.l
def pfxE (p : Pf) : UInt8 := if famP p = 4 then 1 else 2
def pfxN (p : Pf) : Nat := if famP p = 4 then p.n.toNat - 96 else p.n.toNat
def pfxL (p : Pf) : List UInt8 := if famP p = 4 then (p.a.l.drop 12).take ((p.n.toNat + 7) / 8 - 12) else p.a.l.take ((p.n.toNat + 7) / 8)
def inL (t : UInt8) (l : List UInt8) : List UInt8 := t :: UInt8.ofNat l.length :: l
def srcL (q : Pr) : List UInt8 := if spec q = true then inL 128 (UInt8.ofNat (pfxN q.s) :: pfxL q.s) else []
def timL (st : List UInt32) : List UInt8 := if st = [] then [] else inL 3 (st.flatMap be32)
def whrE (k : TK) : UInt8 := if k.all = true then 0 else pfxE k.pr.d
def whrN (k : TK) : Nat := if k.all = true then 0 else pfxN k.pr.d
def whrL (k : TK) : List UInt8 := if k.all = true then [] else pfxL k.pr.d
def whmE (k : TK) : UInt8 := if k.all = true then 0 else adrE k.ad
def whmL (k : TK) : List UInt8 := if k.all = true then [] else adrL k.ad
def hw (n : Nat) : List UInt8 := be16 (UInt16.ofNat n)
/-- The body of a Tlv's piece. -/
def bodL (k : TK) : List UInt8 :=
  if k.ty = 2 then hw 0 ++ hw k.nonce ++ hw k.intv
  else if k.ty = 3 then hw k.nonce
  else if k.ty = 4 then hw (if k.uni = true then 32768 else 0) ++ hw k.seq ++ hw k.intv ++ timL k.st
  else if k.ty = 5 then [whmE k, 0] ++ (hw k.rx ++ hw k.intv) ++ whmL k ++ timL k.st
  else if k.ty = 8 then [whrE k, 0, UInt8.ofNat (whrN k), 0] ++ (hw k.intv ++ hw k.seq ++ hw k.met) ++ whrL k ++ srcL k.pr
  else if k.ty = 9 then [whrE k, UInt8.ofNat (whrN k)] ++ whrL k ++ srcL k.pr
  else [whrE k, UInt8.ofNat (whrN k)] ++ hw k.seq ++ [UInt8.ofNat k.hops, 0] ++ k.id.l ++ whrL k ++ srcL k.pr
abbrev PK := UInt8 × List UInt8
def pieK (k : TK) : PK := (UInt8.ofNat k.ty, bodL k)
def rtrK (i : Id8) : PK := (6, [0, 0] ++ i.l)
def hopK (a : Ad) : PK := (7, [adrE a, 0] ++ adrL a)
/-- What a packet has told once for many. -/
structure TS where
  r : Id8
  h4 : Ad
  k4 : Bool
  h6 : Ad
  k6 : Bool
def wayB (k : TK) : Bool := decide (k.ty = 8) && decide (k.met < 65535)
def rtrS (o : TS) (k : TK) : TS := { o with r := k.id }
def rtrP (o : TS) (k : TK) : List PK := if decide (o.r.l = k.id.l) = true then [] else [rtrK k.id]
def hasB (o : TS) (k : TK) : Bool := if famP k.pr.d = 4 then decide (o.h4.l = k.ad.l) && o.k4 else decide (o.h6.l = k.ad.l) && o.k6
def hopS (o : TS) (k : TK) : TS := if famP k.pr.d = 4 then { o with h4 := k.ad, k4 := true } else { o with h6 := k.ad, k6 := true }
def hopP (o : TS) (k : TK) : List PK := if hasB o k = true then [] else [hopK k.ad]
def witP (o : TS) (k : TK) : List PK := (if wayB k = true then rtrP o k ++ hopP o k else []) ++ [pieK k]
def witS (o : TS) (k : TK) : TS := if wayB k = true then hopS (rtrS o k) k else o
def lenP (l : List PK) : Nat := (l.map fun p => 2 + p.2.length).sum
/-- A packet under way. -/
structure DS where
  o : TS
  room : Int
  ps : List PK
def begO (src : Ad) : TS := if famA src = 4 then ⟨zeroI, src, true, zeroA, false⟩ else ⟨zeroI, zeroA, false, src, true⟩
def begD (src : Ad) (mtu : Int) : DS := ⟨begO src, mtu - 4, []⟩
def takB (d : DS) (k : TK) : Bool := decide ((lenP (witP d.o k) : Int) ≤ d.room)
def takD (d : DS) (k : TK) : DS := ⟨witS d.o k, d.room - lenP (witP d.o k), d.ps ++ witP d.o k⟩
def encK (p : PK) : List UInt8 := if p.1 = 0 then [0] else p.1 :: UInt8.ofNat p.2.length :: p.2
def pktD (d : DS) : List UInt8 := pkL (d.ps.flatMap encK)
def ckP (k : TK) : Int := if chkT k ≠ 0 then chkT k else if wayB k = true ∧ famA k.ad ≠ famP k.pr.d then 2 else 0
/-- What Pack answers behind a packet under way. -/
def pakR (src : Ad) (mtu : Int) : DS → List TK → List (List UInt8) → List (List UInt8) × Int
  | d, [], acc => (if d.ps = [] then acc else acc ++ [pktD d], 0)
  | d, k :: ks, acc => if ckP k ≠ 0 then ([], ckP k) else if takB d k = true then pakR src mtu (takD d k) ks acc else if takB (begD src mtu) k = true then pakR src mtu (takD (begD src mtu) k) ks (acc ++ [pktD d]) else ([], 70)
def pakL (src : Ad) (mtu : Int) (ks : List TK) : List (List UInt8) × Int := if mtu < 64 ∨ 65539 < mtu then ([], 2) else pakR src mtu (begD src mtu) ks []
end Go.Proofs.YtdibjgcokebfbaaGreat

namespace Go.Proofs.YtdibjgcokebfbaaGreat
open Go.RowKit
set_option linter.unusedSimpArgs false
set_option maxRecDepth 20000

theorem isWay_any (t : Tl) (w : World) : Calls Tryz.prog 47 #[.agg (tcells t).toArray] w (Gives w (.bool (wayB t.key))) := by
  have T0 : (tcells t)[0]? = some (.int .u8 (t.ty : Int)) := rfl
  have T5 : (tcells t)[5]? = some (.int .u16 (t.met : Int)) := rfl
  have HE : Hid (wayB t.key = (decide (t.ty = 8) && decide (t.met < 65535))) := (rfl : _ = _)
  by_cases h : t.ty = 8
  · have h8 : ((t.ty : Int) == 8) = true := by simp; omega
    generalize hm : t.met = m at *
    generalize (t.ty : Int) = y at *
    go_enter Tryz.func47, Tryz.ntmps47
    go_wp2
    go_ret
    refine ⟨?_, ba _ _⟩
    rw [HE.out, decide_eq_true h]
    have : decide ((m : Int) < 65535) = decide (m < 65535) := decide_eq_decide.2 (by omega)
    simp [this]
  · have h8 : ((t.ty : Int) == 8) = false := by simp; omega
    generalize hm : t.met = m at *
    generalize (t.ty : Int) = y at *
    go_enter Tryz.func47, Tryz.ntmps47
    go_wp2
    go_ret
    refine ⟨?_, ba _ _⟩
    rw [HE.out, decide_eq_false h]
    rfl
def plcI (f : Int) : Int := if f = 4 then 0 else 1
theorem place_any (f : Int) (w : World) : Calls Tryz.prog 45 #[.int .i64 f] w fun e w' => e = .returned (.int .i64 (plcI f)) ∧ w = w' := by
  unfold plcI
  by_cases h : f = 4
  · subst h
    go_enter Tryz.func45, Tryz.ntmps45
    go_wp2
    go_ret
    exact ⟨rfl, rfl⟩
  · have h4 : (f == 4) = false := by simpa using h
    rw [if_neg h]
    go_enter Tryz.func45, Tryz.ntmps45
    go_wp2
    go_ret
    exact ⟨rfl, rfl⟩
theorem flags_any (t : Tl) (w : World) : Calls Tryz.prog 100 #[.agg (tcells t).toArray] w (Gives w (.int .u16 ((if t.uni = true then 32768 else 0 : Nat) : Int))) := by
  have T7 : (tcells t)[7]? = some (.bool t.uni) := rfl
  generalize t.uni = b at *
  cases b
  all_goals
    go_enter Tryz.func100, Tryz.ntmps100
    go_wp2
    go_ret
    exact ⟨rfl, ba _ _⟩
/-- One piece in a row of its own. -/
theorem Rws.one {w : World} {g : Nat} {p : Pc} (hr : Row w g 94 (rc p)) (hs : Src w p.a p.n p.c (bcells p.l)) : Rws w (some ⟨g, 0, none⟩) 1 [p] :=
  ⟨rfl, fun _ => ⟨g, 0, rfl, hr.lt, fun j q hq => by
    cases j with
    | zero => simp at hq; subst hq; exact hr.range
    | succ j => simp at hq⟩, fun q hq => by simp at hq; subst hq; exact hs⟩
theorem kwithin_any (k : UInt8) (a : Option Addr) (n c : Nat) (l : List UInt8) (w : World) (hs : Src w a n c (bcells l)) (hk : k.toNat ≠ 0) (hn : n ≤ 255) :
    Calls Tryz.prog 122 #[.int .u8 (k.toNat : Int), .slice a n c] w (Laid w (inL k l)) := by
  have HJ : Hid (∀ W g, Row W g 94 [.int .u8 (k.toNat : Int), .slice a n c] → Src W a n c (bcells l) → Calls Tryz.prog 50 #[.slice (some ⟨g, 0, none⟩) 1 1] W (Joined W (inL k l))) := fun W g hr hs' => by
    have e : joinL [⟨k, a, n, c, l⟩] = inL k l := by
      simp [joinL, encP, inL, hs.blen]
      intro h; rw [h] at hk; exact absurd rfl hk
    have := join_ok (some ⟨g, 0, none⟩) 1 1 [⟨k, a, n, c, l⟩] W (Rws.one hr hs') (by omega) (by
      have h0 : ¬ k = 0 := fun h => by rw [h] at hk; exact absurd rfl hk
      simp [chkE, badP, longP, h0]; omega) (by rw [e]; have := hs.blen; simp [inL]; omega)
    rw [e] at this
    exact this
  have R : Row (w.alloc (.cells #[.int .u8 (k.toNat : Int), .slice a n c] 94)) w.heap.size 94 [.int .u8 (k.toNat : Int), .slice a n c] := Row.new w _ _
  have s1 := hs.alloc (.cells #[.int .u8 (k.toNat : Int), .slice a n c] 94)
  generalize k.toNat = kk at *
  generalize inL k l = L at *
  go_enter Tryz.func122, Tryz.ntmps122
  go_wp2_with (go_at_call 50; refine (HJ.out _ _ R s1).mono ?_; rintro e w1 ⟨a1, c1, rfl, o1, b1⟩)
  go_ret
  exact ⟨a1, c1, rfl, own_le o1 (by simp), bt (ba _ _) b1⟩
theorem Laid.nil (w : World) : Laid w [] (.returned (.slice none 0 0)) w := ⟨none, 0, rfl, World.ownsRow_nil _ _ _ _, Below.refl _ _⟩
theorem times_any (a : Option Addr) (n c : Nat) (st : List UInt32) (w : World) (hs : Src w a n c (wcells st)) (hn : n ≤ 2) :
    Calls Tryz.prog 101 #[.slice a n c] w (Laid w (timL st)) := by
  have HN : Hid (n = st.length) := hs.wlen
  by_cases h0 : n = 0
  · subst h0
    have e : timL st = [] := by unfold timL; rw [if_pos (List.eq_nil_of_length_eq_zero HN.out.symm)]
    rw [e]
    go_enter Tryz.func101, Tryz.ntmps101
    go_wp2
    go_ret
    exact Laid.nil w
  · have hne : ((n : Int) == 0) = false := by simp; omega
    have e : timL st = inL 3 (st.flatMap be32) := by unfold timL; rw [if_neg (fun h => h0 (by rw [HN.out, h]; rfl))]
    rw [e]
    have HL : Hid ((st.flatMap be32).length ≤ 8) := by show _ ≤ _; rw [be32_len]; have := HN.out; omega
    have HP : Hid (Calls Tryz.prog 123 #[.slice none 0 0, .slice a n c] w (Laid w (st.flatMap be32))) := by
      have := put32_any none 0 0 [] a n c st w (Src.nil w) hs (by omega)
      rw [List.nil_append] at this
      exact this
    generalize st.flatMap be32 = L at *
    clear e hs HN h0
    go_enter Tryz.func101, Tryz.ntmps101
    go_wp2_with (first
      | (go_at_call 122; have kk := b1; refine (kwithin_any 3 a1 L.length c1 L w1 s1 (by decide) (by have := HL.out; omega)).mono ?_; rintro e w2 ⟨a2, c2, rfl, o2, b2⟩)
      | (go_at_call 123; refine HP.out.mono ?_; rintro e w1 ⟨a1, c1, rfl, o1, b1⟩; have s1 := own_srcP o1))
    go_ret
    exact ⟨a2, c2, rfl, own_le o2 b1.size, bt b1 b2⟩
end Go.Proofs.YtdibjgcokebfbaaGreat
