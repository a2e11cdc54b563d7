/-
  Covers and CheckPair of package addr, for every input.
-/
import Derived.Test.YtognnfknbkedgaaM04
import Derived.Test.YtognnfknbkedgaaM02
import Derived.Test.YtognnfknbkedgaaM01
namespace Go.Proofs.Ytognnfknbkedgaa
open Go.RowKit
set_option linter.unusedSimpArgs false
set_option maxRecDepth 20000

/-- The first of two numbers that is not 0. -/
def orI (x y : Int) : Int := if x = 0 then y else x
theorem orErr (x y : Int) (t : TypeId) (w : World) : Calls Try.prog 41 #[.slice (some ⟨w.heap.size, 0, none⟩) 2 2] (w.alloc (.cells #[.int .i64 x, .int .i64 y] t)) fun e w' => e = .returned (.int .i64 (orI x y)) ∧ w' = w.alloc (.cells #[.int .i64 x, .int .i64 y] t) := by
  have hR := Row.new w t [.int .i64 x, .int .i64 y]
  have c0 := hR.cell 0
  have c1 := hR.cell 1
  simp only [List.getElem?_cons_zero, List.getElem?_cons_succ] at c0 c1
  have HE : Hid (orI x y = if x = 0 then y else x) := rfl
  refine name_world (R := fun W => Calls _ _ _ W fun e w' => e = _ ∧ w' = W) (P := fun W => W.cell? ⟨w.heap.size, 0, none⟩ = some (.int .i64 x) ∧ W.cell? ⟨w.heap.size, 1, none⟩ = some (.int .i64 y)) _ ⟨c0, c1⟩ ?_
  clear hR c0 c1
  rintro W ⟨c0, c1⟩
  go_enter Try.func41, Try.ntmps41
  go_wp2
  go_loopw [8] (fun i wr => wr = W ∧ (i = .int .i64 0 ∨ i = .int .i64 1 ∧ x = 0 ∨ i = .int .i64 2 ∧ x = 0 ∧ y = 0)) (fun i _ => 2 - (intOf i).toNat)
  case atStart => exact ⟨rfl, .inl rfl⟩
  case round =>
    obtain ⟨rfl, rfl | ⟨rfl, h⟩ | ⟨rfl, h, h'⟩⟩ := hrel
    · by_cases hx : x = 0
      · have hx' : (x != 0) = false := by simp [hx]
        have HX : Hid (x = 0) := hx
        clear hx
        go_wp2
        go_roundw
        case rel => exact ⟨trivial, .inr (.inl ⟨by go_num, HX.out⟩)⟩
        case measure => simp [intOf]
      · have hx' : (x != 0) = true := by simp [hx]
        have HX : Hid (x ≠ 0) := hx
        clear hx
        go_wp2
        go_ret
        exact ⟨by rw [HE.out, if_neg HX.out]; rfl, rfl⟩
    · have HX : Hid (x = 0) := h
      clear h
      by_cases hx : y = 0
      · have hx' : (y != 0) = false := by simp [hx]
        have HY : Hid (y = 0) := hx
        clear hx
        go_wp2
        go_roundw
        case rel => exact ⟨trivial, .inr (.inr ⟨by go_num, HX.out, HY.out⟩)⟩
        case measure => simp [intOf]
      · have hx' : (y != 0) = true := by simp [hx]
        clear hx
        go_wp2
        go_ret
        exact ⟨by rw [HE.out, if_pos HX.out]; rfl, rfl⟩
    · have HX : Hid (x = 0) := h
      have HY : Hid (y = 0) := h'
      clear h h'
      go_wp2
      go_ret
      exact ⟨by rw [HE.out, if_pos HX.out, HY.out]; rfl, rfl⟩
/-- What CheckPair answers. -/
def chkQ (q : Pr) : Int := if orI (chk q.d) (chk q.s) ≠ 0 then orI (chk q.d) (chk q.s) else if famP q.d = famP q.s then 0 else 21
theorem checkQ_any (p : Pr) (w : World) : Calls Try.prog 24 #[(Value.agg (qcells p).toArray)] w (Gives w (.int .i64 (chkQ p))) := by
  have hCd := acheck_any p.d
  have hCs := acheck_any p.s
  have hFd := pfam_any p.d
  have hFs := pfam_any p.s
  obtain ⟨x, hx⟩ : ∃ x, chk p.d = x := ⟨_, rfl⟩
  obtain ⟨y, hy⟩ : ∃ x, chk p.s = x := ⟨_, rfl⟩
  obtain ⟨u, hu⟩ : ∃ x, famP p.d = x := ⟨_, rfl⟩
  obtain ⟨v, hv⟩ : ∃ x, famP p.s = x := ⟨_, rfl⟩
  obtain ⟨z, hz⟩ : ∃ z, orI x y = z := ⟨_, rfl⟩
  have hOr := orErr x y
  rw [hz] at hOr
  rw [hx] at hCd
  rw [hy] at hCs
  rw [hu] at hFd
  rw [hv] at hFs
  have HF : Hid (chkQ p = if z ≠ 0 then z else if u = v then 0 else 21) := by show _ = _; simp only [chkQ, hx, hy, hu, hv, hz]
  clear hx hy hu hv hz
  go_enter Try.func24, Try.ntmps24
  go_wp2
  refine name_world (R := fun W => Code.wp _ _ _ _ W) (P := fun W => Below w.heap.size w W ∧ LQ W w.heap.size 0 p ∧ w.heap.size < W.heap.size) _ ⟨ba _ _, LQ.new _ _ _, by simp⟩ ?_
  rintro X ⟨hB, hP, hs⟩
  have HK : Hid (∀ W, Below X.heap.size X W → Below X.heap.size X W ∧ LQ W w.heap.size 0 p) := fun W h => ⟨h, hP.below h hs⟩
  refine wp_region_noPanic ?_
  refine wp_region_held_drew (S := fun W => Below X.heap.size X W ∧ LQ W w.heap.size 0 p) (by kernel_rfl) (HK.out _ (Below.refl _ _).drew) (fun hHeld => ?_)
  refine tA 0 ?_
  refine tL 1 rfl (yP p.d (fun w h => h.2.d) (by rfl) rfl rfl) ?_
  refine tA 3 ?_
  refine tL 4 rfl (yP p.s (fun w h => h.2.s) (by rfl) rfl rfl) ?_
  refine r1 2 fun K hK => ?_
  go_simp
  refine (hCd _).mono ?_
  rintro e w1 ⟨rfl, hB1⟩
  refine oK hK (by exact HK.out _ (hHeld.1.trans (hB1.mono hHeld.1.size))) fun hHeld => ?_
  clear hK K
  refine r1 5 fun K hK => ?_
  go_simp
  refine (hCs _).mono ?_
  rintro e w2 ⟨rfl, hB2⟩
  refine oK hK (by exact HK.out _ (hHeld.1.trans (hB2.mono hHeld.1.size))) fun hHeld => ?_
  clear hK K
  refine r1 6 fun K hK => ?_
  go_simp
  refine oK hK (by exact HK.out _ (hHeld.1.alloc hHeld.1.size _)) fun hHeld => ?_
  clear hK K
  refine r1 7 fun K hK => ?_
  go_simp
  refine (hOr _ _).mono ?_
  rintro e w2 ⟨rfl, rfl⟩
  refine oK hK (by exact hHeld) fun hHeld => ?_
  clear hK K
  refine tA 8 ?_
  refine dN ?_
  refine NoPanic.normal ?_
  refine name_world (R := fun W => Exit.then _ _ _ _ W) (P := fun W => Below w.heap.size w W ∧ LQ W w.heap.size 0 p ∧ w.heap.size < W.heap.size) _ ⟨hB.trans (hHeld.1.mono (by omega)), hHeld.2, Nat.lt_of_lt_of_le hs hHeld.1.size⟩ ?_
  clear hHeld HK hB hP
  rintro X ⟨hB, hP, hs⟩
  have HK : Hid (∀ W, Below X.heap.size X W → Below X.heap.size X W ∧ LQ W w.heap.size 0 p) := fun W h => ⟨h, hP.below h hs⟩
  by_cases hz : z = 0
  · have hz' : (z != 0) = false := by simp [hz]
    have HZ : Hid (z = 0) := hz
    clear hz
    go_wp2
    refine wp_region_noPanic ?_
    refine wp_region_held_drew (S := fun W => Below X.heap.size X W ∧ LQ W w.heap.size 0 p) (by kernel_rfl) (HK.out _ (Below.refl _ _).drew) (fun hHeld => ?_)
    refine tA 0 ?_
    refine tL 1 rfl (yP p.d (fun w h => h.2.d) (by rfl) rfl rfl) ?_
    refine tA 3 ?_
    refine tL 4 rfl (yP p.s (fun w h => h.2.s) (by rfl) rfl rfl) ?_
    refine r1 2 fun K hK => ?_
    go_simp
    refine (hFd _).mono ?_
    rintro e w1 ⟨rfl, hB1⟩
    refine oK hK (by exact HK.out _ (hHeld.1.trans (hB1.mono hHeld.1.size))) fun hHeld => ?_
    clear hK K
    refine r1 5 fun K hK => ?_
    go_simp
    refine (hFs _).mono ?_
    rintro e w2 ⟨rfl, hB2⟩
    refine oK hK (by exact HK.out _ (hHeld.1.trans (hB2.mono hHeld.1.size))) fun hHeld => ?_
    clear hK K
    refine tA 6 ?_
    refine dN ?_
    refine NoPanic.normal ?_
    have hW := hB.trans (hHeld.1.mono (show w.heap.size ≤ X.heap.size by omega))
    clear hHeld
    go_wp2
    · have h : ¬ u = v := by simpa using ‹(u != v) = true›
      go_ret
      exact ⟨by rw [HF.out, if_neg (fun q => q HZ.out), if_neg h]; rfl, hW⟩
    · have h : u = v := by simpa using ‹(u != v) = false›
      go_ret
      exact ⟨by rw [HF.out, if_neg (fun q => q HZ.out), if_pos h]; rfl, hW⟩
  · have hz' : (z != 0) = true := by simp [hz]
    have HZ : Hid (z ≠ 0) := hz
    clear hz
    go_wp2
    go_ret
    exact ⟨by rw [HF.out, if_pos HZ.out]; rfl, hB⟩
end Go.Proofs.Ytognnfknbkedgaa

namespace Go.Proofs.Ytognnfknbkedgaa
open Go.RowKit
set_option linter.unusedSimpArgs false

/-- The id of a router: eight bytes. -/
structure Id8 where
  l : List UInt8
  len : l.length = 8
theorem Id8.ext {a b : Id8} (h : a.l = b.l) : a = b := by
  cases a; cases b; cases h; rfl
def zeroI : Id8 := ⟨List.replicate 8 0, rfl⟩
def fullI : Id8 := ⟨List.replicate 8 255, rfl⟩
def icells (i : Id8) : List Value := bcells i.l
theorem icells_len (i : Id8) : (icells i).length = 8 := by simp [icells, bcells, i.len]
theorem icells_one (i : Id8) : ∀ u ∈ icells i, u.oneCell' = true := bcells_one _
def zeroP : Pf := ⟨zeroA, 0⟩
def zeroQ : Pr := ⟨zeroP, zeroP⟩
/-- A Tlv: its fields; of Stamps where they lie, how many they are, their room, and the numbers. -/
structure Tl where
  ty : Nat
  nonce : Nat
  intv : Nat
  seq : Nat
  rx : Nat
  met : Nat
  hops : Nat
  uni : Bool
  all : Bool
  id : Id8
  ad : Ad
  pr : Pr
  sa : Option Addr
  sn : Nat
  sc : Nat
  st : List UInt32
def tnum (t : Tl) : List Value := [.int .u8 (t.ty : Int), .int .u16 (t.nonce : Int), .int .u16 (t.intv : Int), .int .u16 (t.seq : Int), .int .u16 (t.rx : Int), .int .u16 (t.met : Int), .int .u8 (t.hops : Int), .bool t.uni, .bool t.all]
def tcells (t : Tl) : List Value := tnum t ++ (icells t.id ++ (acells t.ad ++ (qcells t.pr ++ [.slice t.sa t.sn t.sc])))
theorem tcells_len (t : Tl) : (tcells t).length = 68 := by simp [tcells, tnum, icells_len, acells_len, qcells_len]
theorem tcells_one (t : Tl) : ∀ u ∈ tcells t, u.oneCell' = true := by
  intro u hu
  simp only [tcells, List.mem_append] at hu
  rcases hu with h | h | h | h | h
  · simp [tnum] at h
    rcases h with rfl | rfl | rfl | rfl | rfl | rfl | rfl | rfl | rfl <;> rfl
  · exact icells_one _ u h
  · exact acells_one _ u h
  · exact qcells_one _ u h
  · simp at h; subst h; rfl
def zeroT : Tl := ⟨0, 0, 0, 0, 0, 0, 0, false, false, zeroI, zeroA, zeroQ, none, 0, 0, []⟩

theorem infoT : (Try.prog.info? 33).map (fun i => (i.zero, i.size, i.bytes)) = some (some (.agg (tcells zeroT).toArray), 68, 112) := by kernel_rfl
theorem infoTz : (Try.prog.info? 33).map (·.zero) = some (some (.agg (tcells zeroT).toArray)) := by kernel_rfl
theorem infoTs : (Try.prog.info? 33).map (·.size) = some 68 := by kernel_rfl
theorem infoI : (Try.prog.info? 24).map (·.size) = some 8 := by kernel_rfl
theorem infoIz : (Try.prog.info? 24).map (·.zero) = some (some (.agg (icells zeroI).toArray)) := by kernel_rfl
theorem infoAz : (Try.prog.info? 26).map (·.zero) = some (some (.agg (acells zeroA).toArray)) := by kernel_rfl
theorem infoPz : (Try.prog.info? 28).map (·.zero) = some (some (.agg (pcells zeroP).toArray)) := by kernel_rfl
theorem infoQz : (Try.prog.info? 30).map (·.zero) = some (some (.agg (qcells zeroQ).toArray)) := by kernel_rfl

/-! ### Allocations -/
theorem run_alG {T : TypeId} {Z : List Value} {i : TypeInfo} (hi : Try.prog.info? T = some i) (hz : i.zero = some (.agg Z.toArray)) (w : World) : (Instr.alloc T true (.tuple #[])).run Try.prog w = .ok (.pointer (some ⟨w.heap.size, 0, none⟩)) (w.alloc (.cells Z.toArray T)) := by
  generalize Z.toArray = Z' at *
  simp [Instr.alloc, zeroValue, typeInfo, hi, hz, newVar, newRow, newObj, Value.cells]
  rfl
section
variable {ops : Array Oper} {rest : List Oper} {op : Oper} {a : Act} {w : World} {Q : Exit → Act → World → Prop} {K : Act → World → Prop} {E : Prop}
theorem wp_alG {T : TypeId} {Z : List Value} (hT : (Try.prog.info? T).map (·.zero) = some (some (.agg Z.toArray))) (ho : op.op = .alloc T)
    (h : ∀ g W, w.heap.size ≤ g → g < W.heap.size → Below w.heap.size w W → Row W g T Z → K (a.put op.dst (.pointer (some ⟨g, 0, none⟩))) W) : Oper.wp Try.prog op a w K Q := by
  obtain ⟨i, hi, hz⟩ : ∃ i, Try.prog.info? T = some i ∧ i.zero = some (.agg Z.toArray) := by
    cases hq : Try.prog.info? T with
    | none => simp [hq] at hT
    | some i => exact ⟨i, rfl, by simpa [hq] using hT⟩
  have h1 := h _ _ (Nat.le_refl _) (by simp) (ba w (.cells Z.toArray T)) (Row.new w T Z)
  unfold Oper.wp execOp
  simp only [ho, Sem.run_bind, run_alG hi hz, Result.andThen_ok, Sem.run_pure]
  exact h1
theorem alG {T : TypeId} {Z : List Value} (hT : (Try.prog.info? T).map (·.zero) = some (some (.agg Z.toArray))) (hw : Region.wanted op (yielded ops a.tmps) = true) (ho : op.op = .alloc T)
    (h : ∀ g W, w.heap.size ≤ g → g < W.heap.size → Below w.heap.size w W → Row W g T Z → wpList Try.prog ops Q rest (a.put op.dst (.pointer (some ⟨g, 0, none⟩))) W) : wpList Try.prog ops Q (op :: rest) a w :=
  wpList_step fun K hK => by
    rw [if_pos hw]
    exact wp_alG hT ho fun g W h1 h2 h3 h4 => hK _ _ (h g W h1 h2 h3 h4)
theorem sAlG {T : TypeId} {Z : List Value} (hT : (Try.prog.info? T).map (·.zero) = some (some (.agg Z.toArray))) (hw : Region.wanted op (yielded ops a.tmps) = true) (ho : op.op = .alloc T)
    (h : ∀ g W, w.heap.size ≤ g → g < W.heap.size → Below w.heap.size w W → Row W g T Z → K (a.put op.dst (.pointer (some ⟨g, 0, none⟩))) W) : if Region.wanted op (yielded ops a.tmps) = true then Oper.wp Try.prog op a w K Q else E := by
  rw [if_pos hw]
  exact wp_alG hT ho h
end

/-! ### Loads, stores -/
theorem Row.setMid {t : TypeId} {g : Nat} : ∀ (ds pre mid post : List Value) (w : World), Row w g t (pre ++ (mid ++ post)) → ds.length = mid.length → Row (w.setCells g pre.length ds) g t (pre ++ (ds ++ post))
  | [], pre, mid, post, w, h, hl => by
    obtain rfl : mid = [] := List.eq_nil_of_length_eq_zero hl.symm
    exact h
  | v :: ds, pre, [], post, w, h, hl => by simp at hl
  | v :: ds, pre, c :: mid, post, w, h, hl => by
    rw [World.setCells]
    have h1 := h.set pre.length v
    have e : (pre ++ ((c :: mid) ++ post)).set pre.length v = (pre ++ [v]) ++ (mid ++ post) := by simp
    rw [e] at h1
    have h2 := Row.setMid ds (pre ++ [v]) mid post _ h1 (by simpa using hl)
    rw [List.length_append] at h2
    simpa using h2
theorem Row.thereMid {w : World} {g : Nat} {t : TypeId} {cs : List Value} {o n : Nat} (h : Row w g t cs) (hn : o + n ≤ cs.length) : w.there g o n := fun j hj => by
  rw [h.cell, h.frozen]
  exact ⟨by simp; omega, rfl⟩
section
variable {ops : Array Oper} {rest : List Oper} {op : Oper} {a : Act} {w : World} {Q : Exit → Act → World → Prop} {K : Act → World → Prop} {E : Prop} {S : World → Prop}
theorem ldT (x : Operand) (hw : Region.wanted op (yielded ops a.tmps) = true) (ho : op.op = .load 33 x) (b : Nat) (t : Tl) (hx : a.eval x = .pointer (some ⟨b, 0, none⟩)) (hc : Row w b 33 (tcells t))
    (h : wpList Try.prog ops Q rest (a.put op.dst (.agg (tcells t).toArray)) w) : wpList Try.prog ops Q (op :: rest) a w :=
  wpList_step fun K hK => by
    rw [if_pos hw]
    exact wp_load_mid _ x ho b 0 hx (tcells t) _ hc.range Try.underlying33 rfl (by rw [infoTs, tcells_len]) (hK _ _ h)
theorem yT {b : Nat} {x : Operand} (t : Tl) (hS : ∀ w, S w → Row w b 33 (tcells t)) (hw : Region.wanted op (yielded ops a.tmps) = true) (ho : op.op = .load 33 x) (hx : a.eval x = .pointer (some ⟨b, 0, none⟩)) : YieldsIf Try.prog ops S op (.agg (tcells t).toArray) a :=
  yieldsIf_load_mid hw _ x ho b 0 hx (tcells t) _ (fun w h => (hS w h).range) Try.underlying33 rfl (by rw [infoTs, tcells_len])
theorem wp_stT (x y : Operand) (ho : op.op = .store 33 x y) (b : Nat) (t u : Tl) (hx : a.eval x = .pointer (some ⟨b, 0, none⟩)) (hy : a.eval y = .agg (tcells t).toArray) (hr : Row w b 33 (tcells u))
    (h : ∀ W, w.grownBy W (some b) → Row W b 33 (tcells t) → K (a.put op.dst undef) W) : Oper.wp Try.prog op a w K Q := by
  refine wp_store_mid _ x y ho b 0 _ hx hy (by simpa [tcells_len] using hr.there (n := 68) (by rw [tcells_len]; omega)) (by rw [infoTs]; simp [tcells_len]) (all_oneCell_toArray (tcells_one t)) (h _ (grownBy_setCells b _ _ _) ?_)
  have := Row.setCells (tcells t) [] w (tcells u) hr (by rw [tcells_len, tcells_len])
  simpa using this
theorem stT (x y : Operand) (hw : Region.wanted op (yielded ops a.tmps) = true) (ho : op.op = .store 33 x y) (b : Nat) (t u : Tl) (hx : a.eval x = .pointer (some ⟨b, 0, none⟩)) (hy : a.eval y = .agg (tcells t).toArray) (hr : Row w b 33 (tcells u))
    (h : ∀ W, w.grownBy W (some b) → Row W b 33 (tcells t) → wpList Try.prog ops Q rest (a.put op.dst undef) W) : wpList Try.prog ops Q (op :: rest) a w :=
  wpList_step fun K hK => by
    rw [if_pos hw]
    exact wp_stT x y ho b t u hx hy hr fun W h1 h2 => hK _ _ (h W h1 h2)
theorem sStT (x y : Operand) (hw : Region.wanted op (yielded ops a.tmps) = true) (ho : op.op = .store 33 x y) (b : Nat) (t u : Tl) (hx : a.eval x = .pointer (some ⟨b, 0, none⟩)) (hy : a.eval y = .agg (tcells t).toArray) (hr : Row w b 33 (tcells u))
    (h : ∀ W, w.grownBy W (some b) → Row W b 33 (tcells t) → K (a.put op.dst undef) W) : if Region.wanted op (yielded ops a.tmps) = true then Oper.wp Try.prog op a w K Q else E := by
  rw [if_pos hw]
  exact wp_stT x y ho b t u hx hy hr h
theorem ldI (x : Operand) (hw : Region.wanted op (yielded ops a.tmps) = true) (ho : op.op = .load 24 x) (b o : Nat) (i : Id8) (hx : a.eval x = .pointer (some ⟨b, o, none⟩)) (hc : w.rangeAt b o (icells i))
    (h : wpList Try.prog ops Q rest (a.put op.dst (.agg (icells i).toArray)) w) : wpList Try.prog ops Q (op :: rest) a w :=
  wpList_step fun K hK => by
    rw [if_pos hw]
    exact wp_load_mid _ x ho b o hx (icells i) _ hc Try.underlying24 rfl (by rw [infoI, icells_len]) (hK _ _ h)
theorem yI {b o : Nat} {x : Operand} (i : Id8) (hS : ∀ w, S w → w.rangeAt b o (icells i)) (hw : Region.wanted op (yielded ops a.tmps) = true) (ho : op.op = .load 24 x) (hx : a.eval x = .pointer (some ⟨b, o, none⟩)) : YieldsIf Try.prog ops S op (.agg (icells i).toArray) a :=
  yieldsIf_load_mid hw _ x ho b o hx (icells i) _ hS Try.underlying24 rfl (by rw [infoI, icells_len])
theorem stI (x y : Operand) (hw : Region.wanted op (yielded ops a.tmps) = true) (ho : op.op = .store 24 x y) (b o : Nat) (i : Id8) (hx : a.eval x = .pointer (some ⟨b, o, none⟩)) (hy : a.eval y = .agg (icells i).toArray) (ht : w.there b o 8)
    (h : wpList Try.prog ops Q rest (a.put op.dst undef) (w.setCells b o (icells i))) : wpList Try.prog ops Q (op :: rest) a w :=
  wpList_step fun K hK => by
    rw [if_pos hw]
    exact wp_store_mid _ x y ho b o _ hx hy (by simpa [icells_len] using ht) (by rw [infoI]; simp [icells_len]) (all_oneCell_toArray (icells_one i)) (hK _ _ (by simpa using h))
/-- A store of an id, an address, a prefix, a pair over a whole block. -/
theorem stI0 (x y : Operand) (hw : Region.wanted op (yielded ops a.tmps) = true) (ho : op.op = .store 24 x y) (b : Nat) (i : Id8) (cs : List Value) (hl : cs.length = 8) (hx : a.eval x = .pointer (some ⟨b, 0, none⟩)) (hy : a.eval y = .agg (icells i).toArray) (hr : Row w b 24 cs)
    (h : ∀ W, w.grownBy W (some b) → Row W b 24 (icells i) → wpList Try.prog ops Q rest (a.put op.dst undef) W) : wpList Try.prog ops Q (op :: rest) a w :=
  stI x y hw ho b 0 i hx hy (hr.there (by omega)) (h _ (grownBy_setCells b _ _ _) (by simpa using Row.setCells (icells i) [] w cs hr (by rw [icells_len, hl])))
theorem stA0 (x y : Operand) (hw : Region.wanted op (yielded ops a.tmps) = true) (ho : op.op = .store 26 x y) (b : Nat) (i : Ad) (cs : List Value) (hl : cs.length = 16) (hx : a.eval x = .pointer (some ⟨b, 0, none⟩)) (hy : a.eval y = (Value.agg (acells i).toArray)) (hr : Row w b 26 cs)
    (h : ∀ W, w.grownBy W (some b) → Row W b 26 (acells i) → wpList Try.prog ops Q rest (a.put op.dst undef) W) : wpList Try.prog ops Q (op :: rest) a w :=
  stA x y hw ho b 0 i hx hy (hr.there (by omega)) (h _ (grownBy_setCells b _ _ _) (by simpa using Row.setCells (acells i) [] w cs hr (by rw [acells_len, hl])))
theorem stP0 (x y : Operand) (hw : Region.wanted op (yielded ops a.tmps) = true) (ho : op.op = .store 28 x y) (b : Nat) (i : Pf) (cs : List Value) (hl : cs.length = 17) (hx : a.eval x = .pointer (some ⟨b, 0, none⟩)) (hy : a.eval y = (Value.agg (pcells i).toArray)) (hr : Row w b 28 cs)
    (h : ∀ W, w.grownBy W (some b) → Row W b 28 (pcells i) → wpList Try.prog ops Q rest (a.put op.dst undef) W) : wpList Try.prog ops Q (op :: rest) a w :=
  stP x y hw ho b 0 i hx hy (hr.there (by omega)) (h _ (grownBy_setCells b _ _ _) (by simpa using Row.setCells (pcells i) [] w cs hr (by rw [pcells_len, hl])))
theorem stQ0 (x y : Operand) (hw : Region.wanted op (yielded ops a.tmps) = true) (ho : op.op = .store 30 x y) (b : Nat) (i : Pr) (cs : List Value) (hl : cs.length = 34) (hx : a.eval x = .pointer (some ⟨b, 0, none⟩)) (hy : a.eval y = (Value.agg (qcells i).toArray)) (hr : Row w b 30 cs)
    (h : ∀ W, w.grownBy W (some b) → Row W b 30 (qcells i) → wpList Try.prog ops Q rest (a.put op.dst undef) W) : wpList Try.prog ops Q (op :: rest) a w :=
  stQ x y hw ho b 0 i hx hy (hr.there (by omega)) (h _ (grownBy_setCells b _ _ _) (by simpa using Row.setCells (qcells i) [] w cs hr (by rw [qcells_len, hl])))
/-- Stores into the fields of a Tlv. -/
theorem Row.tId {g : Nat} {t : Tl} (hr : Row w g 33 (tcells t)) (i : Id8) : Row (w.setCells g 9 (icells i)) g 33 (tcells { t with id := i }) :=
  Row.setMid (icells i) (tnum t) (icells t.id) _ w hr (by rw [icells_len, icells_len])
theorem Row.tAd {g : Nat} {t : Tl} (hr : Row w g 33 (tcells t)) (i : Ad) : Row (w.setCells g 17 (acells i)) g 33 (tcells { t with ad := i }) := by
  have h := Row.setMid (acells i) (tnum t ++ icells t.id) (acells t.ad) _ w (by rw [List.append_assoc]; exact hr) (by rw [acells_len, acells_len])
  rw [List.append_assoc, List.length_append, icells_len] at h
  exact h
theorem Row.tPr {g : Nat} {t : Tl} (hr : Row w g 33 (tcells t)) (i : Pr) : Row (w.setCells g 33 (qcells i)) g 33 (tcells { t with pr := i }) := by
  have h := Row.setMid (qcells i) (tnum t ++ (icells t.id ++ acells t.ad)) (qcells t.pr) _ w (by simp only [List.append_assoc]; exact hr) (by rw [qcells_len, qcells_len])
  simp only [List.append_assoc, List.length_append, icells_len, acells_len] at h
  exact h
theorem tcells_get (t : Tl) : (tcells t)[67]? = some (.slice t.sa t.sn t.sc) := by
  unfold tcells
  rw [List.getElem?_append_right (by simp [tnum]), List.getElem?_append_right (by simp [tnum, icells_len]), List.getElem?_append_right (by simp [tnum, icells_len, acells_len]), List.getElem?_append_right (by simp [tnum, icells_len, acells_len, qcells_len])]
  simp [tnum, icells_len, acells_len, qcells_len]
theorem Row.tSt {g : Nat} {t : Tl} (hr : Row w g 33 (tcells t)) (sa : Option Addr) (sn sc : Nat) (st : List UInt32) : Row (w.setCell ⟨g, 67, none⟩ (.slice sa sn sc)) g 33 (tcells { t with sa := sa, sn := sn, sc := sc, st := st }) := by
  have h := Row.setMid [.slice sa sn sc] (tnum t ++ (icells t.id ++ (acells t.ad ++ qcells t.pr))) [.slice t.sa t.sn t.sc] [] w (by simp only [List.append_assoc, List.append_nil]; exact hr) rfl
  simp only [List.append_assoc, List.append_nil, List.length_append, icells_len, acells_len, qcells_len] at h
  exact h
theorem Row.tAll {g : Nat} {t : Tl} (hr : Row w g 33 (tcells t)) (b : Bool) : Row (w.setCell ⟨g, 8, none⟩ (.bool b)) g 33 (tcells { t with all := b }) := hr.set 8 (.bool b)
end
theorem lvT {w : World} {g : Nat} {t : Tl} (h : Row w g 33 (tcells t)) : (loadVar 33 ⟨g, 0, none⟩).run Try.prog w = .ok (.agg (tcells t).toArray) w :=
  run_loadVar_mid w g 0 _ (tcells t) _ h.range Try.underlying33 rfl (by rw [infoTs, tcells_len])
theorem lvI {w : World} {g : Nat} {t : Id8} (h : Row w g 24 (icells t)) : (loadVar 24 ⟨g, 0, none⟩).run Try.prog w = .ok (.agg (icells t).toArray) w :=
  run_loadVar_mid w g 0 _ (icells t) _ h.range Try.underlying24 rfl (by rw [infoI, icells_len])

/-! ### Literals -/
section
variable {ops : Array Oper} {rest : List Oper} {op : Oper} {a : Act} {w : World} {Q : Exit → Act → World → Prop} {S : World → Prop} {T : TypeId} {v : Value}
theorem bdG (parts : List (Nat × Operand)) (hw : Region.wanted op (yielded ops a.tmps) = true) (ho : op.op = .build T parts.toArray)
    (hv : (Instr.build T (parts.map fun p => (p.1, a.eval p.2)).toArray).run Try.prog w = .ok v w)
    (h : wpList Try.prog ops Q rest (a.put op.dst v) w) : wpList Try.prog ops Q (op :: rest) a w :=
  wpList_step fun K hK => by
    rw [if_pos hw]
    unfold Oper.wp execOp
    simp only [ho, List.map_toArray, Sem.run_bind, hv, Result.andThen_ok, Sem.run_pure]
    exact hK _ _ h
theorem yB (parts : List (Nat × Operand)) (hw : Region.wanted op (yielded ops a.tmps) = true) (ho : op.op = .build T parts.toArray)
    (hv : ∀ w, (Instr.build T (parts.map fun p => (p.1, a.eval p.2)).toArray).run Try.prog w = .ok v w) : YieldsIf Try.prog ops S op v a :=
  .inl ⟨hw, fun w _ => by
    unfold execOp
    simp only [ho, List.map_toArray, Sem.run_bind, hv, Result.andThen_ok, Sem.run_pure]⟩
end
theorem bdT0 (w : World) : (Instr.build 33 #[]).run Try.prog w = .ok (.agg (tcells zeroT).toArray) w := by kernel_rfl
theorem bdA0 (w : World) : (Instr.build 26 #[]).run Try.prog w = .ok (Value.agg (acells zeroA).toArray) w := by kernel_rfl
theorem bdP0 (w : World) : (Instr.build 28 #[]).run Try.prog w = .ok (Value.agg (pcells zeroP).toArray) w := by kernel_rfl
theorem bdAckReq (x y : Nat) (w : World) : (Instr.build 33 #[(0, .int .u8 2), (1, .int .u16 (x : Int)), (2, .int .u16 (y : Int))]).run Try.prog w = .ok (.agg (tcells { zeroT with ty := 2, nonce := x, intv := y }).toArray) w := by kernel_rfl
theorem bdHello (b : Bool) (x y : Nat) (w : World) : (Instr.build 33 #[(0, .int .u8 4), (7, .bool b), (3, .int .u16 (x : Int)), (2, .int .u16 (y : Int))]).run Try.prog w = .ok (.agg (tcells { zeroT with ty := 4, uni := b, seq := x, intv := y }).toArray) w := by kernel_rfl
theorem bdUpd (x y z : Nat) (w : World) : (Instr.build 33 #[(0, .int .u8 8), (2, .int .u16 (x : Int)), (3, .int .u16 (y : Int)), (5, .int .u16 (z : Int))]).run Try.prog w = .ok (.agg (tcells { zeroT with ty := 8, intv := x, seq := y, met := z }).toArray) w := by kernel_rfl
theorem bdSreq (x y : Nat) (w : World) : (Instr.build 33 #[(0, .int .u8 10), (3, .int .u16 (x : Int)), (6, .int .u8 (y : Int))]).run Try.prog w = .ok (.agg (tcells { zeroT with ty := 10, seq := x, hops := y }).toArray) w := by kernel_rfl
theorem Ad.lit (c : Ad) : ∃ b0 b1 b2 b3 b4 b5 b6 b7 b8 b9 b10 b11 b12 b13 b14 b15, c.l = [b0, b1, b2, b3, b4, b5, b6, b7, b8, b9, b10, b11, b12, b13, b14, b15] := by
  obtain ⟨l, hl⟩ := c
  match l, hl with
  | [b0, b1, b2, b3, b4, b5, b6, b7, b8, b9, b10, b11, b12, b13, b14, b15], _ => exact ⟨b0, b1, b2, b3, b4, b5, b6, b7, b8, b9, b10, b11, b12, b13, b14, b15, rfl⟩
theorem bdIhu (b : Bool) (x y : Nat) (c : Ad) (w : World) : (Instr.build 33 #[(0, .int .u8 5), (8, .bool b), (4, .int .u16 (x : Int)), (2, .int .u16 (y : Int)), (10, (Value.agg (acells c).toArray))]).run Try.prog w = .ok (.agg (tcells { zeroT with ty := 5, all := b, rx := x, intv := y, ad := c }).toArray) w := by
  obtain ⟨l, hl⟩ := c
  match l, hl with
  | [b0, b1, b2, b3, b4, b5, b6, b7, b8, b9, b10, b11, b12, b13, b14, b15], _ =>
    show _ = _
    kernel_rfl
theorem bdPr (d s : Pf) (w : World) : (Instr.build 30 #[(0, (Value.agg (pcells d).toArray)), (1, (Value.agg (pcells s).toArray))]).run Try.prog w = .ok (Value.agg (qcells (⟨d, s⟩)).toArray) w := by
  obtain ⟨⟨l, hl⟩, n⟩ := d
  obtain ⟨⟨k, hk⟩, m⟩ := s
  match l, hl, k, hk with
  | [b0, b1, b2, b3, b4, b5, b6, b7, b8, b9, b10, b11, b12, b13, b14, b15], _, [c0, c1, c2, c3, c4, c5, c6, c7, c8, c9, c10, c11, c12, c13, c14, c15], _ =>
    show _ = _
    kernel_rfl
def llA : Ad := ⟨[254, 128, 0, 0, 0, 0, 0, 0, 0, 0, 0, 0, 0, 0, 0, 0], rfl⟩
theorem bdLL (w : World) : (Instr.build 26 #[(0, .int .u8 254), (1, .int .u8 128)]).run Try.prog w = .ok (Value.agg (acells llA).toArray) w := by kernel_rfl
/-! ### Equality of ids -/
set_option maxRecDepth 4000 in
theorem eqI (d : Nat) (a b : Id8) (w : World) : (Op.equalIn (d + 2) 24 (.agg (icells a).toArray) (.agg (icells b).toArray)).run Try.prog w = .ok (decide (a.l = b.l)) w := by
  obtain ⟨i, hi⟩ : ∃ i, Try.prog.info? 5 = some i := Option.isSome_iff_exists.1 (by kernel_rfl)
  rw [run_equalIn_array w (d + 1) _ _ Try.underlying24 hi, show Try.prog.cellsOf 5 = 1 by kernel_rfl]
  unfold icells
  rw [eqItems_u8 d a.l b.l w _ (fun i hi => by rw [a.len, b.len]; exact ⟨List.mem_range.1 hi, List.mem_range.1 hi⟩)]
  congr 1
  exact decide_eq_decide.2 (same_of a.len b.len)
end Go.Proofs.Ytognnfknbkedgaa

namespace Go.Proofs.Ytognnfknbkedgaa
open Go.RowKit
set_option linter.unusedSimpArgs false
set_option maxRecDepth 20000

theorem bd (w : World) : Below w.heap.size w w.drew := (Below.refl _ _).drew
theorem own_srcP {w : World} {B : Nat} {a : Option Addr} {n c : Nat} {xs : List Value} (h : w.ownsRow B 5 1 (.slice a n c) n xs) : Src w a n c xs := by
  obtain ⟨_, _, hv, hs, _⟩ := Src.ofOwn h
  cases hv
  exact hs
/-- A Tlv, wherever its Stamps lie. -/
structure TK where
  ty : Nat
  nonce : Nat
  intv : Nat
  seq : Nat
  rx : Nat
  met : Nat
  hops : Nat
  uni : Bool
  all : Bool
  id : Id8
  ad : Ad
  pr : Pr
  st : List UInt32
def Tl.key (t : Tl) : TK := ⟨t.ty, t.nonce, t.intv, t.seq, t.rx, t.met, t.hops, t.uni, t.all, t.id, t.ad, t.pr, t.st⟩
def zeroK : TK := zeroT.key
theorem Row.rAd {w : World} {g : Nat} {t : Tl} (hr : Row w g 33 (tcells t)) : LA w g 17 t.ad := by
  have h := rangeAt_right hr.range (k := 9) rfl
  have h2 := rangeAt_right h (k := 8) (icells_len _)
  exact rangeAt_left h2
theorem Row.rPr {w : World} {g : Nat} {t : Tl} (hr : Row w g 33 (tcells t)) : LQ w g 33 t.pr := by
  have h := rangeAt_right hr.range (k := 9) rfl
  have h2 := rangeAt_right h (k := 8) (icells_len _)
  have h3 := rangeAt_right h2 (k := 16) (acells_len _)
  exact rangeAt_left h3
theorem Row.rId2 {w : World} {g : Nat} {t : Tl} (hr : Row w g 33 (tcells t)) : w.rangeAt g 9 (icells t.id) := by
  have h := rangeAt_right hr.range (k := 9) rfl
  exact rangeAt_left h
theorem Row.rSt {w : World} {g : Nat} {t : Tl} (hr : Row w g 33 (tcells t)) : w.cell? ⟨g, 67, none⟩ = some (.slice t.sa t.sn t.sc) := (hr.cell 67).trans (tcells_get t)
/-- A Tlv as a value: where its Stamps are. -/
def TSrc (w : World) (t : Tl) : Prop := Src w t.sa t.sn t.sc (wcells t.st)
theorem TSrc.len {w : World} {t : Tl} (h : TSrc w t) : t.sn = t.st.length := Src.wlen h

/-- An id that no router may have. -/
def nobB (i : Id8) : Bool := decide (i.l = zeroI.l) || decide (i.l = fullI.l)
/-- Are two Tlvs the same? -/
def sameN (a b : TK) : Bool := ((a.ty : Int) == (b.ty : Int)) && (((a.nonce : Int) == (b.nonce : Int)) && (((a.intv : Int) == (b.intv : Int)) && (((a.seq : Int) == (b.seq : Int)) && (((a.rx : Int) == (b.rx : Int)) && (((a.met : Int) == (b.met : Int)) && ((a.hops : Int) == (b.hops : Int)))))))
def prqB (p q : Pr) : Bool := (decide (p.d.a.l = q.d.a.l) && decide (p.d.n = q.d.n)) && (decide (p.s.a.l = q.s.a.l) && decide (p.s.n = q.s.n))
def sameB (a b : TK) : Bool := sameN a b && ((a.uni == b.uni) && ((a.all == b.all) && (decide (a.id.l = b.id.l) && (decide (a.ad.l = b.ad.l) && (prqB a.pr b.pr && decide (a.st = b.st))))))
theorem prB_iff (p q : Pr) : prqB p q = true ↔ p = q := by
  obtain ⟨⟨a, n⟩, ⟨b, m⟩⟩ := p
  obtain ⟨⟨c, k⟩, ⟨d, j⟩⟩ := q
  unfold prqB
  simp only [Bool.and_eq_true, decide_eq_true_eq, Pr.mk.injEq, Pf.mk.injEq]
  constructor
  · rintro ⟨⟨h1, h2⟩, h3, h4⟩
    exact ⟨⟨Ad.ext h1, h2⟩, Ad.ext h3, h4⟩
  · rintro ⟨⟨rfl, rfl⟩, rfl, rfl⟩
    exact ⟨⟨rfl, rfl⟩, rfl, rfl⟩
theorem sameB_iff (a b : TK) : sameB a b = true ↔ a = b := by
  obtain ⟨ty, no, iv, sq, rx, me, ho, un, al, id, ad, pr, st⟩ := a
  obtain ⟨ty', no', iv', sq', rx', me', ho', un', al', id', ad', pr', st'⟩ := b
  unfold sameB sameN
  simp only [Bool.and_eq_true, decide_eq_true_eq, beq_iff_eq, TK.mk.injEq, prB_iff, Int.ofNat_inj, and_assoc]
  constructor
  · rintro ⟨h1, h2, h3, h4, h5, h6, h7, h8, h9, h10, h11, h12, h13⟩
    exact ⟨h1, h2, h3, h4, h5, h6, h7, h8, h9, Id8.ext h10, Ad.ext h11, h12, h13⟩
  · rintro ⟨h1, h2, h3, h4, h5, h6, h7, h8, h9, rfl, rfl, h12, h13⟩
    exact ⟨h1, h2, h3, h4, h5, h6, h7, h8, h9, rfl, rfl, h12, h13⟩
/-- A Tlv without what is named of its type; which types tell a Tlv; which fields go together; what Check answers. -/
def unK (k : TK) : TK :=
  if k.ty = 2 then { k with nonce := 0, intv := 0 } else if k.ty = 3 then { k with nonce := 0 } else if k.ty = 4 then { k with seq := 0, intv := 0, uni := false, st := [] } else if k.ty = 5 then { k with rx := 0, intv := 0, all := false, ad := zeroA, st := [] } else if k.ty = 8 then { k with intv := 0, seq := 0, met := 0, all := false, pr := zeroQ, id := zeroI, ad := zeroA } else if k.ty = 9 then { k with all := false, pr := zeroQ } else { k with seq := 0, hops := 0, id := zeroI, pr := zeroQ }
def namB (y : Nat) : Bool := decide (y = 2 ∨ y = 3 ∨ y = 4 ∨ y = 5 ∨ y = 8 ∨ y = 9 ∨ y = 10)
def fitU (k : TK) : Bool := if k.all = true ∧ (k.met ≠ 65535 ∨ prqB k.pr zeroQ = false) then false else if k.met = 65535 then decide (k.id.l = zeroI.l) && decide (k.ad.l = zeroA.l) else !nobB k.id
def fitB (k : TK) : Bool := if k.ty = 4 then decide (k.st.length ≤ 1) else if k.ty = 5 then decide (k.st.length = 0 ∨ k.st.length = 2) && (!k.all || decide (k.ad.l = zeroA.l)) else if k.ty = 8 then fitU k else if k.ty = 9 then !k.all || prqB k.pr zeroQ else if k.ty = 10 then !decide (k.hops = 0) && !decide (k.id.l = zeroI.l) else true
def chkT (k : TK) : Int := if (namB k.ty && (sameB (unK k) { zeroK with ty := k.ty } && fitB k)) = true then chkQ k.pr else 2

end Go.Proofs.Ytognnfknbkedgaa

namespace Go.Proofs.Ytognnfknbkedgaa
open Go.RowKit
set_option linter.unusedSimpArgs false
set_option maxRecDepth 20000
variable {bv : Option Addr}

/-- Where a reading is, and its error; what a number of k bytes is there, and where it is then. -/
structure RS where
  p : Nat
  y : Int
def RS.adv (r : RS) (l : List UInt8) (k : Int) : RS := ⟨r.p + (tkB l r.p r.y k).length, tkE l r.p r.y k⟩
def RS.val (r : RS) (l : List UInt8) (k : Int) : Nat := nv (tkB l r.p r.y k)
def RS.bad (r : RS) : RS := ⟨r.p, if r.y = 0 then 2 else r.y⟩
/-- A reader in that state. -/
def RdS (w : World) (g : Nat) (bv : Option Addr) (l : List UInt8) (r : RS) : Prop := Rd w g bv l r.p r.y
def NowS (w w' : World) (g : Nat) (bv : Option Addr) (l : List UInt8) (r : RS) : Prop := Now w w' g bv l r.p r.y
theorem NowS.rd {w w' : World} {g : Nat} {l : List UInt8} {r : RS} (h : NowS w w' g bv l r) : RdS w' g bv l r := Now.rd h
theorem NowS.grown {w w' : World} {g : Nat} {l : List UInt8} {r : RS} (h : NowS w w' g bv l r) : w.grownBy w' (some g) := Now.grown h
theorem NowS.trans {a b c : World} {g : Nat} {l : List UInt8} {r s : RS} (h : NowS a b g bv l r) (k : NowS b c g bv l s) : NowS a c g bv l s := Now.trans h k
theorem NowS.below {w w' w2 : World} {g : Nat} {l : List UInt8} {r : RS} (h : NowS w w' g bv l r) (hb : Below w'.heap.size w' w2) : NowS w w2 g bv l r := Now.below h hb
theorem RdS.below {w w' : World} {g : Nat} {l : List UInt8} {r : RS} (h : RdS w g bv l r) (hb : Below w.heap.size w w') : RdS w' g bv l r := Rd.below h hb
theorem RdS.now {w : World} {g : Nat} {l : List UInt8} {r : RS} (h : RdS w g bv l r) : NowS w w g bv l r := Rd.now h
theorem RdS.lt {w : World} {g : Nat} {l : List UInt8} {r : RS} (h : RdS w g bv l r) : g < w.heap.size := Rd.lt h
theorem NowS.size {w w' : World} {g : Nat} {l : List UInt8} {r : RS} (h : NowS w w' g bv l r) : w.heap.size ≤ w'.heap.size := h.grown.size
theorem Now.low {w w1 w2 : World} {g B : Nat} {l : List UInt8} {p p0 : Nat} {y y0 : Int} (h0 : Rd w g bv l p0 y0) (h : Now w w1 g bv l p y) (hb : Below B w1 w2) (hB : w.heap.size ≤ B) : Now w w2 g bv l p y := by
  refine ⟨?_, ⟨hb.os.trans h.grown.os, hb.tape.trans h.grown.tape, hb.output.trans h.grown.output, Nat.le_trans h.grown.size hb.size, fun i hi hne => (hb.block i (Nat.lt_of_lt_of_le hi hB)).trans (h.grown.block i hi hne)⟩⟩
  obtain ⟨c, hbk, hc, hs⟩ := h.rd.ex
  refine ⟨h.rd.le, h.rd.big, h.rd.ne, c, (hb.block g (by have := h0.lt; omega)).trans hbk, hc, hs.below hb (fun ad had hne => ?_)⟩
  have hl : l ≠ [] := by rintro rfl; exact hne rfl
  have := h0.blt hl ad had
  omega
theorem NowS.low {w w1 w2 : World} {g B : Nat} {l : List UInt8} {r r0 : RS} (h0 : RdS w g bv l r0) (h : NowS w w1 g bv l r) (hb : Below B w1 w2) (hB : w.heap.size ≤ B) : NowS w w2 g bv l r := Now.low h0 h hb hB
theorem NowS.fresh {w w1 w2 : World} {g B : Nat} {l : List UInt8} {r r0 : RS} (h0 : RdS w g bv l r0) (h : NowS w w1 g bv l r) (hg : w1.grownBy w2 (some B)) (hB : w.heap.size ≤ B) : NowS w w2 g bv l r := Now.fresh h0 h hg hB
theorem Row.nowS {w w' : World} {g B : Nat} {l : List UInt8} {r : RS} {t : TypeId} {cs : List Value} (hr : Row w B t cs) (h : NowS w w' g bv l r) (hne : B ≠ g) : Row w' B t cs := row_now hr h hne
/-- The parser P whose reader is g. -/
structure Pg (w : World) (P g : Nat) : Prop where
  c : w.cell? ⟨P, 11, none⟩ = some (.pointer (some ⟨g, 0, none⟩))
  ne : P ≠ g
theorem Pg.now {w w' : World} {P g : Nat} {l : List UInt8} {r : RS} (h : Pg w P g) (hn : NowS w w' g bv l r) : Pg w' P g := ⟨hn.grown.cell h.c (fun e => h.ne (Option.some.inj e)), h.ne⟩
theorem Pg.lt {w : World} {P g : Nat} (h : Pg w P g) : P < w.heap.size := block_lt_of_cell h.c
theorem Pg.below {w w' : World} {P g : Nat} (h : Pg w P g) (hb : Below w.heap.size w w') : Pg w' P g := ⟨(hb.cell (p := ⟨P, 11, none⟩) h.lt).trans h.c, h.ne⟩
theorem Pg.fresh {w w1 : World} {P g k B : Nat} (h : Pg w P g) (hg : w.grownBy w1 (some k)) (hk : B ≤ k) (hP : P < B) : Pg w1 P g := ⟨hg.cell h.c (fun e => by have : P = k := Option.some.inj e; omega), h.ne⟩

theorem u8_r {w : World} {g : Nat} {l : List UInt8} {r : RS} (h : RdS w g bv l r) : Calls Try.prog 47 #[.pointer (some ⟨g, 0, none⟩)] w fun e w' => e = .returned (.int .u8 (r.val l 1)) ∧ NowS w w' g bv l (r.adv l 1) := u8_any g l r.p r.y w h
theorem u16_r {w : World} {g : Nat} {l : List UInt8} {r : RS} (h : RdS w g bv l r) : Calls Try.prog 48 #[.pointer (some ⟨g, 0, none⟩)] w fun e w' => e = .returned (.int .u16 (r.val l 2)) ∧ NowS w w' g bv l (r.adv l 2) := u16_any g l r.p r.y w h
theorem u32_r {w : World} {g : Nat} {l : List UInt8} {r : RS} (h : RdS w g bv l r) : Calls Try.prog 101 #[.pointer (some ⟨g, 0, none⟩)] w fun e w' => e = .returned (.int .u32 (r.val l 4)) ∧ NowS w w' g bv l (r.adv l 4) := u32_any g l r.p r.y w h
theorem val1_lt (r : RS) (l : List UInt8) : r.val l 1 < 256 := by
  show nv (tkB l r.p r.y 1) < 256
  simpa using nv_lt_of l r.p 1 r.y
theorem well_any {w : World} {P g : Nat} {l : List UInt8} {r : RS} (hp : Pg w P g) (h : RdS w g bv l r) :
    Calls Try.prog 82 #[.pointer (some ⟨P, 0, none⟩)] w fun e w' => e = .returned (.bool (r.y == 0)) ∧ NowS w w' g bv l r := by
  have c := hp.c
  have hW : Calls Try.prog 49 #[.pointer (some ⟨g, 0, none⟩)] w fun e w' => ∃ z, e = .returned (.tuple #[.int .i64 r.y, .int .i64 z]) ∧ Now w w' g bv l r.p r.y := by
    refine (why_any g l r.p r.y w h).mono ?_
    rintro e w' ⟨rfl, hn⟩
    exact ⟨_, rfl, hn⟩
  generalize hy : r.y = y at *
  have HY : Hid (r.y = y) := hy
  clear hy
  go_enter Try.func82, Try.ntmps82
  go_wp2_with (go_at_call 49; refine hW.mono ?_; rintro e w1 ⟨z, rfl, hn1⟩)
  go_ret
  refine ⟨rfl, ?_⟩
  unfold NowS
  rw [HY.out]
  exact hn1
theorem bad_any {w : World} {P g : Nat} {l : List UInt8} {r : RS} (hp : Pg w P g) (h : RdS w g bv l r) :
    Calls Try.prog 83 #[.pointer (some ⟨P, 0, none⟩)] w fun e w' => e = .returned (.tuple #[]) ∧ NowS w w' g bv l r.bad := by
  have c := hp.c
  have hF := fail_any g l r.p r.y 2 w h
  go_enter Try.func83, Try.ntmps83
  go_wp2_with (go_at_call 99; refine hF.mono ?_; rintro e w1 ⟨rfl, hn1⟩)
  go_end0
  exact ⟨rfl, hn1⟩

/-! ### The pieces within -/
def selK (ts : List UInt8) (ks : List (UInt8 × List UInt8)) : List (UInt8 × List UInt8) := ks.filter fun k => decide (1 < k.1.toNat) && knB ts k.1.toNat
def mustK (ts : List UInt8) (k : UInt8 × List UInt8) : Bool := decide (k.1.toNat < 128) || knB ts k.1.toNat
theorem keys_sel (ts : List UInt8) (ps : List Pc) : keys (sel ts ps) = selK ts (keys ps) := by
  unfold keys sel selK
  rw [List.filter_map]
  rfl
theorem must_keys (ts : List UInt8) (ps : List Pc) : ps.all (mustB ts) = (keys ps).all (mustK ts) := by
  unfold keys
  rw [List.all_map]
  rfl
/-- What within tells, and the reading behind it. -/
def wiL (ts l : List UInt8) (r : RS) : List (UInt8 × List UInt8) := if r.y = 0 then selK ts (splL (l.drop r.p)).1 else []
def wiB (ts l : List UInt8) (r : RS) : Bool := if r.y = 0 then (splL (l.drop r.p)).1.all (mustK ts) && ((splL (l.drop r.p)).2 == 0) else false
def wiR (l : List UInt8) (r : RS) : RS := if r.y = 0 then ⟨l.length, 0⟩ else r
/-- What a call that tells pieces leaves: they lie in memory of its own. -/
structure Told (w w' : World) (a : Option Addr) (c : Nat) (ps : List Pc) : Prop where
  own : w'.ownsRow w.heap.size 72 2 (.slice a ps.length c) ps.length (rcs ps)
  bods : Bods w.heap.size w' ps
theorem within_any {w : World} {P g : Nat} {l : List UInt8} {r : RS} (hp : Pg w P g) (h : RdS w g bv l r) (hl : l.length ≤ 100000) (a : Option Addr) (n c : Nat) (ts : List UInt8) (hs : Src w a n c (bcells ts)) (hn : n ≤ 100) (hsg : ∀ ad, a = some ad → ad.block ≠ g) :
    Calls Try.prog 78 #[.pointer (some ⟨P, 0, none⟩), .slice a n c] w fun e w' => ∃ a' c' ps, e = .returned (.tuple #[.slice a' ps.length c', .bool (wiB ts l r)]) ∧ keys ps = wiL ts l r ∧ ps.length ≤ 100000 ∧ Told w w' a' c' ps ∧ NowS w w' g bv l (wiR l r) := by
  have hW := well_any hp h
  by_cases hy : r.y = 0
  · have e1 : wiL ts l r = selK ts (splL (l.drop r.p)).1 := by unfold wiL; rw [if_pos hy]
    have e2 : wiB ts l r = ((splL (l.drop r.p)).1.all (mustK ts) && ((splL (l.drop r.p)).2 == 0)) := by unfold wiB; rw [if_pos hy]
    have e3 : wiR l r = ⟨l.length, 0⟩ := by unfold wiR; rw [if_pos hy]
    have E : Hid (wiL ts l r = selK ts (splL (l.drop r.p)).1 ∧ wiR l r = ⟨l.length, 0⟩) := ⟨e1, e3⟩
    rw [hy] at hW
    have h0 : Rd w g bv l r.p 0 := by have := h; unfold RdS at this; rwa [hy] at this
    have HR : Hid (∀ W, NowS w W g bv l r → Calls Try.prog 52 #[.pointer (some ⟨g, 0, none⟩)] W fun e w' => ∃ m a c, Hid (m = (l.drop r.p).length) ∧ e = .returned (.slice a m c) ∧ Src w' a m c (bcells (l.drop r.p)) ∧ (∀ ad, a = some ad → W.heap.size ≤ ad.block) ∧ NowS W w' g bv l ⟨l.length, 0⟩) := by
      intro W hW
      have h1 : Rd W g bv l r.p 0 := by have := hW.rd; unfold RdS at this; rwa [hy] at this
      refine (hd_rest h1).mono ?_
      rintro e w' ⟨a, c, rfl, k1, k2, k3⟩
      exact ⟨_, a, c, (by show _ = _; simp), rfl, k1, k2, k3⟩
    obtain ⟨b1, B1⟩ : ∃ b, Hid ((splL (l.drop r.p)).1.all (mustK ts) = b) := ⟨_, rfl⟩
    obtain ⟨z1, Z1⟩ : ∃ z, Hid ((splL (l.drop r.p)).2 = z) := ⟨_, rfl⟩
    rw [e2, B1.out, Z1.out]
    have HS : Hid (∀ W a' c' m, Src W a n c (bcells ts) → m = (l.drop r.p).length → Src W a' m c' (bcells (l.drop r.p)) → Calls Try.prog 100 #[.slice a n c, .slice a' m c'] W fun e w' => ∃ a c k ps, Hid (k = ps.length) ∧ keys ps = selK ts (splL (l.drop r.p)).1 ∧ e = .returned (.tuple #[.slice a k c, .bool b1, .int .i64 z1]) ∧ Told W w' a c ps ∧ ps.length ≤ 100000 ∧ Below W.heap.size W w') := by
      intro W a' c' m k1 km k2
      have hld : (l.drop r.p).length ≤ l.length := by simp
      refine (sub_any a n c ts a' m c' (l.drop r.p) W k1 k2 (by omega) (by omega)).mono ?_
      rintro e w' ⟨a2, c2, ps, j1, rfl, j2, j3, j4, j5⟩
      refine ⟨a2, c2, _, sel ts ps, (rfl : _ = _), by rw [keys_sel, j1], ?_, ⟨j2, fun p hp => j3 p ((List.mem_filter.1 hp).1)⟩, by have := sel_le ts ps; omega, j5⟩
      rw [must_keys, j1, B1.out, Z1.out]
    have HG : Hid (∀ ad, a = some ad → ad.block ≠ g) := hsg
    clear e1 e2 e3 B1 Z1 h0 hsg
    have c0 := hp.c
    go_enter Try.func78, Try.ntmps78
    go_wp2_with (first
      | (go_at_call 100; have kk := hn2; refine (HS.out _ _ _ _ s3 hm.out s2).mono ?_; rintro e w3 ⟨a3, c3, k3, ps, hk3, kps, rfl, told, hps, b3⟩)
      | (go_at_call 52; have kk := hn1; refine (HR.out _ hn1).mono ?_; rintro e w2 ⟨m, a2, c2, hm, rfl, s2, g2, hn2⟩; have s3 : Src w2 a n c (bcells ts) := (hs.grown (grownBy_trans hn1.grown hn2.grown) (fun ad had _ e => HG.out ad had (Option.some.inj e))))
      | (go_at_call 82; refine hW.mono ?_; rintro e w1 ⟨rfl, hn1⟩; have c1 := (hp.now hn1).c))
    all_goals
      go_ret2
      have ek := hk3.out
      subst ek
      refine ⟨a3, c3, ps, by simp_all, by rw [E.out.1]; exact kps, hps, ⟨own_le told.own (Nat.le_trans hn1.size hn2.size), fun p hp => own_le (told.bods p hp) (Nat.le_trans hn1.size hn2.size)⟩, by rw [E.out.2]; exact (hn1.trans hn2).below b3⟩
  · have e1 : wiL ts l r = [] := by unfold wiL; rw [if_neg hy]
    have e2 : wiB ts l r = false := by unfold wiB; rw [if_neg hy]
    have e3 : wiR l r = r := by unfold wiR; rw [if_neg hy]
    rw [e1, e2, e3]
    have hy' : (r.y == 0) = false := by simpa using hy
    rw [hy'] at hW
    clear hy hy' e1 e2 e3
    go_enter Try.func78, Try.ntmps78
    go_wp2_with (go_at_call 82; refine hW.mono ?_; rintro e w1 ⟨rfl, hn1⟩)
    go_ret2
    exact ⟨none, 0, [], rfl, rfl, by decide, ⟨World.ownsRow_nil _ _ _ _, fun _ h => by cases h⟩, hn1⟩
end Go.Proofs.Ytognnfknbkedgaa
