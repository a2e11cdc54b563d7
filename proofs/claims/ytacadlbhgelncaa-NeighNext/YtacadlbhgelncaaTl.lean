/-
  Tlvs and ids of routers as values and in memory: their cells, loads, stores, allocations, literals, equality of ids.
-/
import Derived.Test.YtacadlbhgelncaaN0
namespace Go.Proofs.Ytacadlbhgelncaa
open Go.RowKit
set_option linter.unusedSimpArgs false

/-- The id of a router: eight bytes. -/
structure Id8 where
  l : List UInt8
  len : l.length = 8
theorem Id8.ext {a b : Id8} (h : a.l = b.l) : a = b := by
  cases a; cases b; cases h; rfl
def zeroI : Id8 := ⟨List.replicate 8 0, rfl⟩
def fullI : Id8 := ⟨List.replicate 8 255, rfl⟩
def icells (i : Id8) : List Value := bcells i.l
theorem icells_len (i : Id8) : (icells i).length = 8 := by simp [icells, bcells, i.len]
theorem icells_one (i : Id8) : ∀ u ∈ icells i, u.oneCell' = true := bcells_one _
def zeroP : Pf := ⟨zeroA, 0⟩
def zeroQ : Pr := ⟨zeroP, zeroP⟩
/-- A Tlv: its fields; of Stamps where they lie, how many they are, their room, and the numbers. -/
structure Tl where
  ty : Nat
  nonce : Nat
  intv : Nat
  seq : Nat
  rx : Nat
  met : Nat
  hops : Nat
  uni : Bool
  all : Bool
  id : Id8
  ad : Ad
  pr : Pr
  sa : Option Addr
  sn : Nat
  sc : Nat
  st : List UInt32
def tnum (t : Tl) : List Value := [.int .u8 (t.ty : Int), .int .u16 (t.nonce : Int), .int .u16 (t.intv : Int), .int .u16 (t.seq : Int), .int .u16 (t.rx : Int), .int .u16 (t.met : Int), .int .u8 (t.hops : Int), .bool t.uni, .bool t.all]
def tcells (t : Tl) : List Value := tnum t ++ (icells t.id ++ (acells t.ad ++ (qcells t.pr ++ [.slice t.sa t.sn t.sc])))
theorem tcells_len (t : Tl) : (tcells t).length = 68 := by simp [tcells, tnum, icells_len, acells_len, qcells_len]
theorem tcells_one (t : Tl) : ∀ u ∈ tcells t, u.oneCell' = true := by
  intro u hu
  simp only [tcells, List.mem_append] at hu
  rcases hu with h | h | h | h | h
  · simp [tnum] at h
    rcases h with rfl | rfl | rfl | rfl | rfl | rfl | rfl | rfl | rfl <;> rfl
  · exact icells_one _ u h
  · exact acells_one _ u h
  · exact qcells_one _ u h
  · simp at h; subst h; rfl
def zeroT : Tl := ⟨0, 0, 0, 0, 0, 0, 0, false, false, zeroI, zeroA, zeroQ, none, 0, 0, []⟩

theorem infoT : (Try.prog.info? 39).map (fun i => (i.zero, i.size, i.bytes)) = some (some (.agg (tcells zeroT).toArray), 68, 112) := by kernel_rfl
theorem infoTz : (Try.prog.info? 39).map (·.zero) = some (some (.agg (tcells zeroT).toArray)) := by kernel_rfl
theorem infoTs : (Try.prog.info? 39).map (·.size) = some 68 := by kernel_rfl
theorem infoI : (Try.prog.info? 32).map (·.size) = some 8 := by kernel_rfl
theorem infoIz : (Try.prog.info? 32).map (·.zero) = some (some (.agg (icells zeroI).toArray)) := by kernel_rfl
theorem infoAz : (Try.prog.info? 29).map (·.zero) = some (some (.agg (acells zeroA).toArray)) := by kernel_rfl
theorem infoPz : (Try.prog.info? 34).map (·.zero) = some (some (.agg (pcells zeroP).toArray)) := by kernel_rfl
theorem infoQz : (Try.prog.info? 36).map (·.zero) = some (some (.agg (qcells zeroQ).toArray)) := by kernel_rfl

/-! ### Allocations -/
theorem run_alG {T : TypeId} {Z : List Value} {i : TypeInfo} (hi : Try.prog.info? T = some i) (hz : i.zero = some (.agg Z.toArray)) (w : World) : (Instr.alloc T true (.tuple #[])).run Try.prog w = .ok (.pointer (some ⟨w.heap.size, 0, none⟩)) (w.alloc (.cells Z.toArray T)) := by
  generalize Z.toArray = Z' at *
  simp [Instr.alloc, zeroValue, typeInfo, hi, hz, newVar, newRow, newObj, Value.cells]
  rfl
section
variable {ops : Array Oper} {rest : List Oper} {op : Oper} {a : Act} {w : World} {Q : Exit → Act → World → Prop} {K : Act → World → Prop} {E : Prop}
theorem wp_alG {T : TypeId} {Z : List Value} (hT : (Try.prog.info? T).map (·.zero) = some (some (.agg Z.toArray))) (ho : op.op = .alloc T)
    (h : ∀ g W, w.heap.size ≤ g → g < W.heap.size → Below w.heap.size w W → Row W g T Z → K (a.put op.dst (.pointer (some ⟨g, 0, none⟩))) W) : Oper.wp Try.prog op a w K Q := by
  obtain ⟨i, hi, hz⟩ : ∃ i, Try.prog.info? T = some i ∧ i.zero = some (.agg Z.toArray) := by
    cases hq : Try.prog.info? T with
    | none => simp [hq] at hT
    | some i => exact ⟨i, rfl, by simpa [hq] using hT⟩
  have h1 := h _ _ (Nat.le_refl _) (by simp) (ba w (.cells Z.toArray T)) (Row.new w T Z)
  unfold Oper.wp execOp
  simp only [ho, Sem.run_bind, run_alG hi hz, Result.andThen_ok, Sem.run_pure]
  exact h1
theorem alG {T : TypeId} {Z : List Value} (hT : (Try.prog.info? T).map (·.zero) = some (some (.agg Z.toArray))) (hw : Region.wanted op (yielded ops a.tmps) = true) (ho : op.op = .alloc T)
    (h : ∀ g W, w.heap.size ≤ g → g < W.heap.size → Below w.heap.size w W → Row W g T Z → wpList Try.prog ops Q rest (a.put op.dst (.pointer (some ⟨g, 0, none⟩))) W) : wpList Try.prog ops Q (op :: rest) a w :=
  wpList_step fun K hK => by
    rw [if_pos hw]
    exact wp_alG hT ho fun g W h1 h2 h3 h4 => hK _ _ (h g W h1 h2 h3 h4)
theorem sAlG {T : TypeId} {Z : List Value} (hT : (Try.prog.info? T).map (·.zero) = some (some (.agg Z.toArray))) (hw : Region.wanted op (yielded ops a.tmps) = true) (ho : op.op = .alloc T)
    (h : ∀ g W, w.heap.size ≤ g → g < W.heap.size → Below w.heap.size w W → Row W g T Z → K (a.put op.dst (.pointer (some ⟨g, 0, none⟩))) W) : if Region.wanted op (yielded ops a.tmps) = true then Oper.wp Try.prog op a w K Q else E := by
  rw [if_pos hw]
  exact wp_alG hT ho h
end

/-! ### Loads, stores -/
theorem Row.setMid {t : TypeId} {g : Nat} : ∀ (ds pre mid post : List Value) (w : World), Row w g t (pre ++ (mid ++ post)) → ds.length = mid.length → Row (w.setCells g pre.length ds) g t (pre ++ (ds ++ post))
  | [], pre, mid, post, w, h, hl => by
    obtain rfl : mid = [] := List.eq_nil_of_length_eq_zero hl.symm
    exact h
  | v :: ds, pre, [], post, w, h, hl => by simp at hl
  | v :: ds, pre, c :: mid, post, w, h, hl => by
    rw [World.setCells]
    have h1 := h.set pre.length v
    have e : (pre ++ ((c :: mid) ++ post)).set pre.length v = (pre ++ [v]) ++ (mid ++ post) := by simp
    rw [e] at h1
    have h2 := Row.setMid ds (pre ++ [v]) mid post _ h1 (by simpa using hl)
    rw [List.length_append] at h2
    simpa using h2
theorem Row.thereMid {w : World} {g : Nat} {t : TypeId} {cs : List Value} {o n : Nat} (h : Row w g t cs) (hn : o + n ≤ cs.length) : w.there g o n := fun j hj => by
  rw [h.cell, h.frozen]
  exact ⟨by simp; omega, rfl⟩
section
variable {ops : Array Oper} {rest : List Oper} {op : Oper} {a : Act} {w : World} {Q : Exit → Act → World → Prop} {K : Act → World → Prop} {E : Prop} {S : World → Prop}
theorem ldT (x : Operand) (hw : Region.wanted op (yielded ops a.tmps) = true) (ho : op.op = .load 39 x) (b : Nat) (t : Tl) (hx : a.eval x = .pointer (some ⟨b, 0, none⟩)) (hc : Row w b 39 (tcells t))
    (h : wpList Try.prog ops Q rest (a.put op.dst (.agg (tcells t).toArray)) w) : wpList Try.prog ops Q (op :: rest) a w :=
  wpList_step fun K hK => by
    rw [if_pos hw]
    exact wp_load_mid _ x ho b 0 hx (tcells t) _ hc.range Try.underlying39 rfl (by rw [infoTs, tcells_len]) (hK _ _ h)
theorem yT {b : Nat} {x : Operand} (t : Tl) (hS : ∀ w, S w → Row w b 39 (tcells t)) (hw : Region.wanted op (yielded ops a.tmps) = true) (ho : op.op = .load 39 x) (hx : a.eval x = .pointer (some ⟨b, 0, none⟩)) : YieldsIf Try.prog ops S op (.agg (tcells t).toArray) a :=
  yieldsIf_load_mid hw _ x ho b 0 hx (tcells t) _ (fun w h => (hS w h).range) Try.underlying39 rfl (by rw [infoTs, tcells_len])
theorem wp_stT (x y : Operand) (ho : op.op = .store 39 x y) (b : Nat) (t u : Tl) (hx : a.eval x = .pointer (some ⟨b, 0, none⟩)) (hy : a.eval y = .agg (tcells t).toArray) (hr : Row w b 39 (tcells u))
    (h : ∀ W, w.grownBy W (some b) → Row W b 39 (tcells t) → K (a.put op.dst undef) W) : Oper.wp Try.prog op a w K Q := by
  refine wp_store_mid _ x y ho b 0 _ hx hy (by simpa [tcells_len] using hr.there (n := 68) (by rw [tcells_len]; omega)) (by rw [infoTs]; simp [tcells_len]) (all_oneCell_toArray (tcells_one t)) (h _ (grownBy_setCells b _ _ _) ?_)
  have := Row.setCells (tcells t) [] w (tcells u) hr (by rw [tcells_len, tcells_len])
  simpa using this
theorem stT (x y : Operand) (hw : Region.wanted op (yielded ops a.tmps) = true) (ho : op.op = .store 39 x y) (b : Nat) (t u : Tl) (hx : a.eval x = .pointer (some ⟨b, 0, none⟩)) (hy : a.eval y = .agg (tcells t).toArray) (hr : Row w b 39 (tcells u))
    (h : ∀ W, w.grownBy W (some b) → Row W b 39 (tcells t) → wpList Try.prog ops Q rest (a.put op.dst undef) W) : wpList Try.prog ops Q (op :: rest) a w :=
  wpList_step fun K hK => by
    rw [if_pos hw]
    exact wp_stT x y ho b t u hx hy hr fun W h1 h2 => hK _ _ (h W h1 h2)
theorem sStT (x y : Operand) (hw : Region.wanted op (yielded ops a.tmps) = true) (ho : op.op = .store 39 x y) (b : Nat) (t u : Tl) (hx : a.eval x = .pointer (some ⟨b, 0, none⟩)) (hy : a.eval y = .agg (tcells t).toArray) (hr : Row w b 39 (tcells u))
    (h : ∀ W, w.grownBy W (some b) → Row W b 39 (tcells t) → K (a.put op.dst undef) W) : if Region.wanted op (yielded ops a.tmps) = true then Oper.wp Try.prog op a w K Q else E := by
  rw [if_pos hw]
  exact wp_stT x y ho b t u hx hy hr h
theorem ldI (x : Operand) (hw : Region.wanted op (yielded ops a.tmps) = true) (ho : op.op = .load 32 x) (b o : Nat) (i : Id8) (hx : a.eval x = .pointer (some ⟨b, o, none⟩)) (hc : w.rangeAt b o (icells i))
    (h : wpList Try.prog ops Q rest (a.put op.dst (.agg (icells i).toArray)) w) : wpList Try.prog ops Q (op :: rest) a w :=
  wpList_step fun K hK => by
    rw [if_pos hw]
    exact wp_load_mid _ x ho b o hx (icells i) _ hc Try.underlying32 rfl (by rw [infoI, icells_len]) (hK _ _ h)
theorem yI {b o : Nat} {x : Operand} (i : Id8) (hS : ∀ w, S w → w.rangeAt b o (icells i)) (hw : Region.wanted op (yielded ops a.tmps) = true) (ho : op.op = .load 32 x) (hx : a.eval x = .pointer (some ⟨b, o, none⟩)) : YieldsIf Try.prog ops S op (.agg (icells i).toArray) a :=
  yieldsIf_load_mid hw _ x ho b o hx (icells i) _ hS Try.underlying32 rfl (by rw [infoI, icells_len])
theorem stI (x y : Operand) (hw : Region.wanted op (yielded ops a.tmps) = true) (ho : op.op = .store 32 x y) (b o : Nat) (i : Id8) (hx : a.eval x = .pointer (some ⟨b, o, none⟩)) (hy : a.eval y = .agg (icells i).toArray) (ht : w.there b o 8)
    (h : wpList Try.prog ops Q rest (a.put op.dst undef) (w.setCells b o (icells i))) : wpList Try.prog ops Q (op :: rest) a w :=
  wpList_step fun K hK => by
    rw [if_pos hw]
    exact wp_store_mid _ x y ho b o _ hx hy (by simpa [icells_len] using ht) (by rw [infoI]; simp [icells_len]) (all_oneCell_toArray (icells_one i)) (hK _ _ (by simpa using h))
/-- A store of an id, an address, a prefix, a pair over a whole block. -/
theorem stI0 (x y : Operand) (hw : Region.wanted op (yielded ops a.tmps) = true) (ho : op.op = .store 32 x y) (b : Nat) (i : Id8) (cs : List Value) (hl : cs.length = 8) (hx : a.eval x = .pointer (some ⟨b, 0, none⟩)) (hy : a.eval y = .agg (icells i).toArray) (hr : Row w b 32 cs)
    (h : ∀ W, w.grownBy W (some b) → Row W b 32 (icells i) → wpList Try.prog ops Q rest (a.put op.dst undef) W) : wpList Try.prog ops Q (op :: rest) a w :=
  stI x y hw ho b 0 i hx hy (hr.there (by omega)) (h _ (grownBy_setCells b _ _ _) (by simpa using Row.setCells (icells i) [] w cs hr (by rw [icells_len, hl])))
theorem stA0 (x y : Operand) (hw : Region.wanted op (yielded ops a.tmps) = true) (ho : op.op = .store 29 x y) (b : Nat) (i : Ad) (cs : List Value) (hl : cs.length = 16) (hx : a.eval x = .pointer (some ⟨b, 0, none⟩)) (hy : a.eval y = (Value.agg (acells i).toArray)) (hr : Row w b 29 cs)
    (h : ∀ W, w.grownBy W (some b) → Row W b 29 (acells i) → wpList Try.prog ops Q rest (a.put op.dst undef) W) : wpList Try.prog ops Q (op :: rest) a w :=
  stA x y hw ho b 0 i hx hy (hr.there (by omega)) (h _ (grownBy_setCells b _ _ _) (by simpa using Row.setCells (acells i) [] w cs hr (by rw [acells_len, hl])))
theorem stP0 (x y : Operand) (hw : Region.wanted op (yielded ops a.tmps) = true) (ho : op.op = .store 34 x y) (b : Nat) (i : Pf) (cs : List Value) (hl : cs.length = 17) (hx : a.eval x = .pointer (some ⟨b, 0, none⟩)) (hy : a.eval y = (Value.agg (pcells i).toArray)) (hr : Row w b 34 cs)
    (h : ∀ W, w.grownBy W (some b) → Row W b 34 (pcells i) → wpList Try.prog ops Q rest (a.put op.dst undef) W) : wpList Try.prog ops Q (op :: rest) a w :=
  stP x y hw ho b 0 i hx hy (hr.there (by omega)) (h _ (grownBy_setCells b _ _ _) (by simpa using Row.setCells (pcells i) [] w cs hr (by rw [pcells_len, hl])))
theorem stQ0 (x y : Operand) (hw : Region.wanted op (yielded ops a.tmps) = true) (ho : op.op = .store 36 x y) (b : Nat) (i : Pr) (cs : List Value) (hl : cs.length = 34) (hx : a.eval x = .pointer (some ⟨b, 0, none⟩)) (hy : a.eval y = (Value.agg (qcells i).toArray)) (hr : Row w b 36 cs)
    (h : ∀ W, w.grownBy W (some b) → Row W b 36 (qcells i) → wpList Try.prog ops Q rest (a.put op.dst undef) W) : wpList Try.prog ops Q (op :: rest) a w :=
  stQ x y hw ho b 0 i hx hy (hr.there (by omega)) (h _ (grownBy_setCells b _ _ _) (by simpa using Row.setCells (qcells i) [] w cs hr (by rw [qcells_len, hl])))
/-- Stores into the fields of a Tlv. -/
theorem Row.tId {g : Nat} {t : Tl} (hr : Row w g 39 (tcells t)) (i : Id8) : Row (w.setCells g 9 (icells i)) g 39 (tcells { t with id := i }) :=
  Row.setMid (icells i) (tnum t) (icells t.id) _ w hr (by rw [icells_len, icells_len])
theorem Row.tAd {g : Nat} {t : Tl} (hr : Row w g 39 (tcells t)) (i : Ad) : Row (w.setCells g 17 (acells i)) g 39 (tcells { t with ad := i }) := by
  have h := Row.setMid (acells i) (tnum t ++ icells t.id) (acells t.ad) _ w (by rw [List.append_assoc]; exact hr) (by rw [acells_len, acells_len])
  rw [List.append_assoc, List.length_append, icells_len] at h
  exact h
theorem Row.tPr {g : Nat} {t : Tl} (hr : Row w g 39 (tcells t)) (i : Pr) : Row (w.setCells g 33 (qcells i)) g 39 (tcells { t with pr := i }) := by
  have h := Row.setMid (qcells i) (tnum t ++ (icells t.id ++ acells t.ad)) (qcells t.pr) _ w (by simp only [List.append_assoc]; exact hr) (by rw [qcells_len, qcells_len])
  simp only [List.append_assoc, List.length_append, icells_len, acells_len] at h
  exact h
theorem tcells_get (t : Tl) : (tcells t)[67]? = some (.slice t.sa t.sn t.sc) := by
  unfold tcells
  rw [List.getElem?_append_right (by simp [tnum]), List.getElem?_append_right (by simp [tnum, icells_len]), List.getElem?_append_right (by simp [tnum, icells_len, acells_len]), List.getElem?_append_right (by simp [tnum, icells_len, acells_len, qcells_len])]
  simp [tnum, icells_len, acells_len, qcells_len]
theorem Row.tSt {g : Nat} {t : Tl} (hr : Row w g 39 (tcells t)) (sa : Option Addr) (sn sc : Nat) (st : List UInt32) : Row (w.setCell ⟨g, 67, none⟩ (.slice sa sn sc)) g 39 (tcells { t with sa := sa, sn := sn, sc := sc, st := st }) := by
  have h := Row.setMid [.slice sa sn sc] (tnum t ++ (icells t.id ++ (acells t.ad ++ qcells t.pr))) [.slice t.sa t.sn t.sc] [] w (by simp only [List.append_assoc, List.append_nil]; exact hr) rfl
  simp only [List.append_assoc, List.append_nil, List.length_append, icells_len, acells_len, qcells_len] at h
  exact h
theorem Row.tAll {g : Nat} {t : Tl} (hr : Row w g 39 (tcells t)) (b : Bool) : Row (w.setCell ⟨g, 8, none⟩ (.bool b)) g 39 (tcells { t with all := b }) := hr.set 8 (.bool b)
end
theorem lvT {w : World} {g : Nat} {t : Tl} (h : Row w g 39 (tcells t)) : (loadVar 39 ⟨g, 0, none⟩).run Try.prog w = .ok (.agg (tcells t).toArray) w :=
  run_loadVar_mid w g 0 _ (tcells t) _ h.range Try.underlying39 rfl (by rw [infoTs, tcells_len])
theorem lvI {w : World} {g : Nat} {t : Id8} (h : Row w g 32 (icells t)) : (loadVar 32 ⟨g, 0, none⟩).run Try.prog w = .ok (.agg (icells t).toArray) w :=
  run_loadVar_mid w g 0 _ (icells t) _ h.range Try.underlying32 rfl (by rw [infoI, icells_len])

/-! ### Literals -/
section
variable {ops : Array Oper} {rest : List Oper} {op : Oper} {a : Act} {w : World} {Q : Exit → Act → World → Prop} {S : World → Prop} {T : TypeId} {v : Value}
theorem bdG (parts : List (Nat × Operand)) (hw : Region.wanted op (yielded ops a.tmps) = true) (ho : op.op = .build T parts.toArray)
    (hv : (Instr.build T (parts.map fun p => (p.1, a.eval p.2)).toArray).run Try.prog w = .ok v w)
    (h : wpList Try.prog ops Q rest (a.put op.dst v) w) : wpList Try.prog ops Q (op :: rest) a w :=
  wpList_step fun K hK => by
    rw [if_pos hw]
    unfold Oper.wp execOp
    simp only [ho, List.map_toArray, Sem.run_bind, hv, Result.andThen_ok, Sem.run_pure]
    exact hK _ _ h
theorem yB (parts : List (Nat × Operand)) (hw : Region.wanted op (yielded ops a.tmps) = true) (ho : op.op = .build T parts.toArray)
    (hv : ∀ w, (Instr.build T (parts.map fun p => (p.1, a.eval p.2)).toArray).run Try.prog w = .ok v w) : YieldsIf Try.prog ops S op v a :=
  .inl ⟨hw, fun w _ => by
    unfold execOp
    simp only [ho, List.map_toArray, Sem.run_bind, hv, Result.andThen_ok, Sem.run_pure]⟩
end
theorem bdT0 (w : World) : (Instr.build 39 #[]).run Try.prog w = .ok (.agg (tcells zeroT).toArray) w := by kernel_rfl
theorem bdI0 (w : World) : (Instr.build 32 #[]).run Try.prog w = .ok (.agg (icells zeroI).toArray) w := by kernel_rfl
theorem bdA0 (w : World) : (Instr.build 29 #[]).run Try.prog w = .ok (Value.agg (acells zeroA).toArray) w := by kernel_rfl
theorem bdP0 (w : World) : (Instr.build 34 #[]).run Try.prog w = .ok (Value.agg (pcells zeroP).toArray) w := by kernel_rfl
theorem bdQ0 (w : World) : (Instr.build 36 #[]).run Try.prog w = .ok (Value.agg (qcells zeroQ).toArray) w := by kernel_rfl
theorem bdAck (x : Nat) (w : World) : (Instr.build 39 #[(0, .int .u8 3), (1, .int .u16 (x : Int))]).run Try.prog w = .ok (.agg (tcells { zeroT with ty := 3, nonce := x }).toArray) w := by kernel_rfl
theorem bdAckReq (x y : Nat) (w : World) : (Instr.build 39 #[(0, .int .u8 2), (1, .int .u16 (x : Int)), (2, .int .u16 (y : Int))]).run Try.prog w = .ok (.agg (tcells { zeroT with ty := 2, nonce := x, intv := y }).toArray) w := by kernel_rfl
theorem bdHello (b : Bool) (x y : Nat) (w : World) : (Instr.build 39 #[(0, .int .u8 4), (7, .bool b), (3, .int .u16 (x : Int)), (2, .int .u16 (y : Int))]).run Try.prog w = .ok (.agg (tcells { zeroT with ty := 4, uni := b, seq := x, intv := y }).toArray) w := by kernel_rfl
theorem bdUpd (x y z : Nat) (w : World) : (Instr.build 39 #[(0, .int .u8 8), (2, .int .u16 (x : Int)), (3, .int .u16 (y : Int)), (5, .int .u16 (z : Int))]).run Try.prog w = .ok (.agg (tcells { zeroT with ty := 8, intv := x, seq := y, met := z }).toArray) w := by kernel_rfl
theorem bdRreq (b : Bool) (w : World) : (Instr.build 39 #[(0, .int .u8 9), (8, .bool b)]).run Try.prog w = .ok (.agg (tcells { zeroT with ty := 9, all := b }).toArray) w := by kernel_rfl
theorem bdSreq (x y : Nat) (w : World) : (Instr.build 39 #[(0, .int .u8 10), (3, .int .u16 (x : Int)), (6, .int .u8 (y : Int))]).run Try.prog w = .ok (.agg (tcells { zeroT with ty := 10, seq := x, hops := y }).toArray) w := by kernel_rfl
theorem Ad.lit (c : Ad) : ∃ b0 b1 b2 b3 b4 b5 b6 b7 b8 b9 b10 b11 b12 b13 b14 b15, c.l = [b0, b1, b2, b3, b4, b5, b6, b7, b8, b9, b10, b11, b12, b13, b14, b15] := by
  obtain ⟨l, hl⟩ := c
  match l, hl with
  | [b0, b1, b2, b3, b4, b5, b6, b7, b8, b9, b10, b11, b12, b13, b14, b15], _ => exact ⟨b0, b1, b2, b3, b4, b5, b6, b7, b8, b9, b10, b11, b12, b13, b14, b15, rfl⟩
theorem bdIhu (b : Bool) (x y : Nat) (c : Ad) (w : World) : (Instr.build 39 #[(0, .int .u8 5), (8, .bool b), (4, .int .u16 (x : Int)), (2, .int .u16 (y : Int)), (10, (Value.agg (acells c).toArray))]).run Try.prog w = .ok (.agg (tcells { zeroT with ty := 5, all := b, rx := x, intv := y, ad := c }).toArray) w := by
  obtain ⟨l, hl⟩ := c
  match l, hl with
  | [b0, b1, b2, b3, b4, b5, b6, b7, b8, b9, b10, b11, b12, b13, b14, b15], _ =>
    show _ = _
    kernel_rfl
theorem bdPf (c : Ad) (n : Int) (w : World) : (Instr.build 34 #[(0, (Value.agg (acells c).toArray)), (1, .int .i64 n)]).run Try.prog w = .ok (Value.agg (pcells (⟨c, n⟩)).toArray) w := by
  obtain ⟨l, hl⟩ := c
  match l, hl with
  | [b0, b1, b2, b3, b4, b5, b6, b7, b8, b9, b10, b11, b12, b13, b14, b15], _ =>
    show _ = _
    kernel_rfl
theorem bdPr (d s : Pf) (w : World) : (Instr.build 36 #[(0, (Value.agg (pcells d).toArray)), (1, (Value.agg (pcells s).toArray))]).run Try.prog w = .ok (Value.agg (qcells (⟨d, s⟩)).toArray) w := by
  obtain ⟨⟨l, hl⟩, n⟩ := d
  obtain ⟨⟨k, hk⟩, m⟩ := s
  match l, hl, k, hk with
  | [b0, b1, b2, b3, b4, b5, b6, b7, b8, b9, b10, b11, b12, b13, b14, b15], _, [c0, c1, c2, c3, c4, c5, c6, c7, c8, c9, c10, c11, c12, c13, c14, c15], _ =>
    show _ = _
    kernel_rfl
def llA : Ad := ⟨[254, 128, 0, 0, 0, 0, 0, 0, 0, 0, 0, 0, 0, 0, 0, 0], rfl⟩
theorem bdLL (w : World) : (Instr.build 29 #[(0, .int .u8 254), (1, .int .u8 128)]).run Try.prog w = .ok (Value.agg (acells llA).toArray) w := by kernel_rfl
theorem bdFull (w : World) : (Instr.build 32 #[(0, .int .u8 255), (1, .int .u8 255), (2, .int .u8 255), (3, .int .u8 255), (4, .int .u8 255), (5, .int .u8 255), (6, .int .u8 255), (7, .int .u8 255)]).run Try.prog w = .ok (.agg (icells fullI).toArray) w := by kernel_rfl

/-! ### Equality of ids -/
set_option maxRecDepth 4000 in
theorem eqI (d : Nat) (a b : Id8) (w : World) : (Op.equalIn (d + 2) 32 (.agg (icells a).toArray) (.agg (icells b).toArray)).run Try.prog w = .ok (decide (a.l = b.l)) w := by
  obtain ⟨i, hi⟩ : ∃ i, Try.prog.info? 5 = some i := Option.isSome_iff_exists.1 (by kernel_rfl)
  rw [run_equalIn_array w (d + 1) _ _ Try.underlying32 hi, show Try.prog.cellsOf 5 = 1 by kernel_rfl]
  unfold icells
  rw [eqItems_u8 d a.l b.l w _ (fun i hi => by rw [a.len, b.len]; exact ⟨List.mem_range.1 hi, List.mem_range.1 hi⟩)]
  congr 1
  exact decide_eq_decide.2 (same_of a.len b.len)
theorem run_eqlI (a b : Id8) (w : World) : (binOp .eql 32 (.agg (icells a).toArray) (.agg (icells b).toArray)).run Try.prog w = .ok (.bool (decide (a.l = b.l))) w := by
  have h := eqI 9998 a b w
  rw [run_eql_struct w, h]; rfl
theorem run_neqI (a b : Id8) (w : World) : (binOp .neq 32 (.agg (icells a).toArray) (.agg (icells b).toArray)).run Try.prog w = .ok (.bool (!decide (a.l = b.l))) w := by
  have h := eqI 9998 a b w
  rw [run_neq_struct w, h]; rfl
theorem guardI (op : BinOp) (x y : Operand) (a b : Id8) (w : World) : (eqGuard op 32 x y (.agg (icells a).toArray) (.agg (icells b).toArray)).run Try.prog w = .ok () w := by
  exact run_eqGuard_agg w op _ x y _ _ (by kernel_rfl)
end Go.Proofs.Ytacadlbhgelncaa
