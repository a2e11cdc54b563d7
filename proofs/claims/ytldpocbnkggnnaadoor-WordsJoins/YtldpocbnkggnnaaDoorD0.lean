/-
  Ids (eight bytes) in memory; the contract of PrintId.
-/
import Derived.Test.YtldpocbnkggnnaaDoorK6
namespace Go.Proofs.YtldpocbnkggnnaaDoor
open Go.RowKit
set_option linter.unusedSimpArgs false
set_option maxRecDepth 20000
abbrev idV (l : List UInt8) : Value := .agg (bcells l).toArray
def zero8 : List UInt8 := List.replicate 8 0
theorem infoI : (Tryd.prog.info? 39).map (·.size) = some 8 := by kernel_rfl
theorem infoIz : (Tryd.prog.info? 39).map (·.zero) = some (some (.agg (bcells zero8).toArray)) := by kernel_rfl
theorem ba (w : World) (o : Obj) : Below w.heap.size w (w.alloc o) := (Below.refl _ _).alloc (Nat.le_refl _) _
theorem run_alG {T : TypeId} {Z : List Value} {i : TypeInfo} (hi : Tryd.prog.info? T = some i) (hz : i.zero = some (.agg Z.toArray)) (w : World) : (Instr.alloc T true (.tuple #[])).run Tryd.prog w = .ok (.pointer (some ⟨w.heap.size, 0, none⟩)) (w.alloc (.cells Z.toArray T)) := by
  generalize Z.toArray = Z' at *
  simp [Instr.alloc, zeroValue, typeInfo, hi, hz, newVar, newRow, newObj, Value.cells]
  rfl
theorem Row.setCells {w : World} {g : Nat} {t : TypeId} {cs : List Value} (h : Row w g t cs) (ds : List Value) (hl : ds.length = cs.length) : Row (w.setCells g 0 ds) g t ds := by
  have key : ∀ (ds pre post : List Value) (w : World), post.length = ds.length → Row w g t (pre ++ post) → Row (w.setCells g pre.length ds) g t (pre ++ ds) := by
    intro ds
    induction ds with
    | nil =>
      intro pre post w hp hr
      obtain rfl : post = [] := List.eq_nil_of_length_eq_zero hp
      exact hr
    | cons d ds ih =>
      intro pre post w hp hr
      cases post with
      | nil => simp at hp
      | cons p post =>
        rw [World.setCells]
        have h1 := hr.set pre.length d
        have e : (pre ++ p :: post).set pre.length d = (pre ++ [d]) ++ post := by simp
        rw [e] at h1
        have h2 := ih (pre ++ [d]) post _ (by simpa using hp) h1
        rw [List.length_append] at h2
        simpa using h2
  exact key ds [] cs w hl.symm h
theorem below_setCells {B : Nat} {w0 : World} (g : Nat) (h : B ≤ g) : ∀ (vs : List Value) (o : Nat) (w : World), Below B w0 w → Below B w0 (w.setCells g o vs)
  | [], _, _, hb => hb
  | v :: r, o, w, hb => by
    rw [World.setCells]
    exact below_setCells g h r (o + 1) _ (hb.setCell (p := ⟨g, o, none⟩) h v)
section
variable {ops : Array Oper} {rest : List Oper} {op : Oper} {a : Act} {w : World} {Q : Exit → Act → World → Prop} {K : Act → World → Prop} {E : Prop} {S : World → Prop}
theorem alG {T : TypeId} {Z : List Value} (hT : (Tryd.prog.info? T).map (·.zero) = some (some (.agg Z.toArray))) (hw : Region.wanted op (yielded ops a.tmps) = true) (ho : op.op = .alloc T)
    (h : ∀ g W, w.heap.size ≤ g → g < W.heap.size → Below w.heap.size w W → Row W g T Z → wpList Tryd.prog ops Q rest (a.put op.dst (.pointer (some ⟨g, 0, none⟩))) W) : wpList Tryd.prog ops Q (op :: rest) a w :=
  wpList_step fun K hK => by
    rw [if_pos hw]
    obtain ⟨i, hi, hz⟩ : ∃ i, Tryd.prog.info? T = some i ∧ i.zero = some (.agg Z.toArray) := by
      cases hq : Tryd.prog.info? T with
      | none => simp [hq] at hT
      | some i => exact ⟨i, rfl, by simpa [hq] using hT⟩
    have h1 := h _ _ (Nat.le_refl _) (by simp) (ba w (.cells Z.toArray T)) (Row.new w T Z)
    unfold Oper.wp execOp
    simp only [ho, Sem.run_bind, run_alG hi hz, Result.andThen_ok, Sem.run_pure]
    exact hK _ _ h1
theorem ldI (x : Operand) (hw : Region.wanted op (yielded ops a.tmps) = true) (ho : op.op = .load 39 x) (b o : Nat) (i : List UInt8) (h8 : i.length = 8) (hx : a.eval x = .pointer (some ⟨b, o, none⟩)) (hc : w.rangeAt b o (bcells i))
    (h : wpList Tryd.prog ops Q rest (a.put op.dst (idV i)) w) : wpList Tryd.prog ops Q (op :: rest) a w :=
  wpList_step fun K hK => by
    rw [if_pos hw]
    exact wp_load_mid _ x ho b o hx (bcells i) _ hc Tryd.underlying39 rfl (by rw [infoI, bcells_length, h8]) (hK _ _ h)
theorem yI {b o : Nat} {x : Operand} (i : List UInt8) (h8 : i.length = 8) (hS : ∀ w, S w → w.rangeAt b o (bcells i)) (hw : Region.wanted op (yielded ops a.tmps) = true) (ho : op.op = .load 39 x) (hx : a.eval x = .pointer (some ⟨b, o, none⟩)) : YieldsIf Tryd.prog ops S op (idV i) a :=
  yieldsIf_load_mid hw _ x ho b o hx (bcells i) _ hS Tryd.underlying39 rfl (by rw [infoI, bcells_length, h8])
theorem stI (x y : Operand) (hw : Region.wanted op (yielded ops a.tmps) = true) (ho : op.op = .store 39 x y) (b : Nat) (i : List UInt8) (h8 : i.length = 8) (cs : List Value) (hl : cs.length = 8) (hx : a.eval x = .pointer (some ⟨b, 0, none⟩)) (hy : a.eval y = idV i) (hr : Row w b 39 cs) {w0 : World} {B : Nat} (hb : Below B w0 w) (hB : B ≤ b)
    (h : ∀ W, Row W b 39 (bcells i) → Below B w0 W → wpList Tryd.prog ops Q rest (a.put op.dst undef) W) : wpList Tryd.prog ops Q (op :: rest) a w :=
  wpList_step fun K hK => by
    rw [if_pos hw]
    exact wp_store_mid _ x y ho b 0 _ hx hy (by simpa [bcells_length, h8] using hr.there (n := 8) (by omega)) (by rw [infoI]; simp [bcells_length, h8]) (all_oneCell_toArray (bcells_one i)) (hK _ _ (h _ (by simpa using hr.setCells (bcells i) (by rw [bcells_length, hl, h8])) (by simpa using below_setCells b hB (bcells i) 0 w hb)))
end
theorem lvI {w : World} {g : Nat} {t : List UInt8} (h8 : t.length = 8) (h : Row w g 39 (bcells t)) : (loadVar 39 ⟨g, 0, none⟩).run Tryd.prog w = .ok (idV t) w :=
  run_loadVar_mid w g 0 _ (bcells t) _ h.range Tryd.underlying39 rfl (by rw [infoI, bcells_length, h8])
theorem retCT {P : Program} {fn : Func} {p u : Tmp} {ty : TypeId} {v : Value} {w : World} (h : fn.results = #[.cell p ty, .tmp u]) (tmps : Array Value) (b o : Nat) (hp : tmps.getD p undef = .pointer (some ⟨b, o, none⟩))
    (hl : (loadVar ty ⟨b, o, none⟩).run P w = .ok v w) : (results fn tmps).run P w = .ok (.tuple #[v, tmps.getD u undef]) w := by
  simp only [results, h]
  rw [Array.getD_eq_getD_getElem?] at hp
  simp [Sem.run_bind, hp, asAddr, hl, Result.andThen]
theorem ix_run (l : List UInt8) (h8 : l.length = 8) (j : Nat) (hj : j < 8) (w : World) : (Instr.index 39 (idV l) (.int .i64 (j : Int))).run Tryd.prog w = .ok (.int .u8 ((l[j]'(by omega)).toNat : Int)) w := by
  have hu := run_underlying Tryd.underlying39 (w := w)
  have hz := Tryd.sizeOf5 w
  have hlt : (0 : Int) ≤ (j : Int) ∧ (j : Int) < 8 := by omega
  have hc : (bcells l)[j]? = some (.int .u8 ((l[j]'(by omega)).toNat : Int)) := bcells_get (List.getElem?_eq_getElem (by omega))
  simp [Instr.index, asIntOf, Sem.run_bind, hu, hlt, Sem.run_pure, Result.andThen, hz, part, hc]
  intro h
  omega
/-- At the end this frame, and a world of which PP is known; no panic. -/
def Meets (a' : Act) (PP : World → Prop) : Exit → Act → World → Prop
  | .normal, a, w => a = a' ∧ PP w
  | _, _, _ => False
theorem region_then {P : Program} {c : Code} {Q : Exit → Act → World → Prop} {a : Act} {w : World} {PP : World → Prop} (a' : Act) (h1 : Code.wp P c (Meets a' PP) a w) (h2 : ∀ W, PP W → Q .normal a' W) : Code.wp P c Q a w :=
  Code.wp_mono (fun e b v h => by
    cases e with
    | normal => obtain ⟨rfl, h⟩ := h; exact h2 v h
    | _ => exact (h : False).elim) h1
theorem at_lit {ops : Array Oper} {i : Nat} {o : Oper} {rest : List Oper} (h : ops.toList.drop i = o :: rest) : ops[i]? = some o := by
  have e : (ops.toList.drop i)[0]? = some o := by rw [h]; rfl
  rw [List.getElem?_drop] at e
  simpa using e
theorem take_lit {P : Program} {md : Region.Mode} {ops : Array Oper} {Q : Exit → Act → World → Prop} {S : World → Prop} {i : Nat} {oi : Oper} {rest : List Oper} {v : Value} {fuel : Nat} {listed : Array Bool} {a : Act} {w : World} (hi : ops.toList.drop i = oi :: rest)
    (hs : Region.noSelect ops = true) (hf : Region.free md ops listed i = true) (hr : (Region.ready md ops listed).contains i = true)
    (hQ : ∀ c a w, Q (.panic c) (a.put oi.dst v) w → Q (.panic c) a w) (hy : YieldsIf P ops S oi v a) (hS : S w)
    (h : wpAnyH P md ops Q S fuel (listed.setIfInBounds i true) (a.put oi.dst v) w) : wpAnyH P md ops Q S (fuel + 1) listed a w :=
  wpAnyH_take (at_lit hi) hs hf hr hQ hy hS h
theorem cons_lit {P : Program} {md : Region.Mode} {ops : Array Oper} {Q : Exit → Act → World → Prop} {S : World → Prop} {fuel : Nat} {listed : Array Bool} {a : Act} {w : World} {i : Nat} {o : Oper} {rest : List Oper} {rs : List Nat} (ho : ops.toList.drop i = o :: rest)
    (h : ∀ K' : Act → World → Prop, Shut (∀ a w, S w → (S w → wpAnyH P md ops Q S fuel (listed.setIfInBounds i true) a w) → K' a w) → if Region.wanted o (yielded ops a.tmps) = true then Oper.wp P o a w K' Q else K' (a.put o.dst undef) w)
    (hs : AllReadyH P md ops Q S fuel listed a w rs) : AllReadyH P md ops Q S fuel listed a w (i :: rs) := AllReadyH.cons (at_lit ho) h hs
section
variable {ops : Array Oper} {o : Oper} {a : Act} {w : World} {K : Act → World → Prop} {Q : Exit → Act → World → Prop} {E : Prop}
/-- Bytes behind bytes of the call's own, in a region that draws. -/
theorem stepB (s x : Operand) (ho : o.op = .call { callee := .builtin .append, args := #[s, x], argTypes := #[62, 62] }) (hw : Region.wanted o (yielded ops a.tmps) = true) (base : Nat) (v : Value) (acc : List UInt8) (hs : a.eval s = v) (hown : w.ownsRow base 5 1 v acc.length (bcells acc))
    (g m : Nat) (news : List UInt8) (hx : a.eval x = .slice (some ⟨g, 0, none⟩) m m) (hm : news.length = m) (hr : Row w g 5 (bcells news)) (h63 : acc.length + m ≤ 1000000) (hbase : base ≤ w.heap.size)
    (h : ∀ v' w', w'.ownsRow base 5 1 v' (acc ++ news).length (bcells (acc ++ news)) → w.grownBy w' v.ownBlock → K (a.put o.dst v') w') : if Region.wanted o (yielded ops a.tmps) = true then Oper.wp Tryd.prog o a w K Q else E := by
  rw [if_pos hw]
  obtain ⟨i, hi, hz, h1, h2⟩ := info_parts info_b
  exact wp_append_own w s x 62 ho base 5 i (.int .u8 0) 1 1 Tryd.underlying62 hi hz h1 h2 rfl (by decide) v acc.length (bcells acc) hs hown ⟨g, 0, none⟩ m m (bcells news) hx (by rw [bcells_length, hm]; simp) (fun j y hj => by rw [Addr.add_mid, Nat.zero_add, hr.cell]; exact hj) (bcells_one _) (by unfold maxLen; omega) (by omega) hbase (fun v' w' a1 a2 _ => h v' w' (by rw [bcells_append, List.length_append, hm]; exact a1) a2)
end
def hx (n : Nat) : UInt8 := if n < 10 then UInt8.ofNat (48 + n) else UInt8.ofNat (87 + n)
def two (v : UInt8) : List UInt8 := [hx (v.toNat / 16), hx (v.toNat % 16)]
def prI : List UInt8 → List UInt8
  | [] => []
  | [x] => two x
  | x :: y :: r => two x ++ 58 :: prI (y :: r)
theorem prI_snoc : ∀ (ws : List UInt8) (x : UInt8), ws ≠ [] → prI (ws ++ [x]) = prI ws ++ 58 :: two x
  | [], _, h => absurd rfl h
  | [y], x, _ => rfl
  | y :: z :: r, x, _ => by
    have ih := prI_snoc (z :: r) x (by simp)
    show two y ++ 58 :: prI (z :: r ++ [x]) = _
    rw [ih]
    simp [prI]
theorem prI_take (ws : List UInt8) (j : Nat) (hj : j < ws.length) : prI (ws.take (j + 1)) = (if j = 0 then [] else prI (ws.take j) ++ [58]) ++ two ws[j] := by
  rw [List.take_succ_eq_append_getElem hj]
  by_cases h : j = 0
  · subst h; simp [prI]
  · rw [prI_snoc _ _ (by intro e; have := congrArg List.length e; rw [List.length_take, List.length_nil] at this; omega), if_neg h]; simp
theorem prI_len : ∀ (ws : List UInt8), (prI ws).length ≤ 3 * ws.length
  | [] => by simp [prI]
  | [x] => by simp [prI, two]
  | x :: y :: r => by have := prI_len (y :: r); simp [prI, two] at this ⊢; omega
theorem hexat (n : Nat) (h : n < 16) (h' : n < (⟨#[48, 49, 50, 51, 52, 53, 54, 55, 56, 57, 97, 98, 99, 100, 101, 102]⟩ : ByteArray).size) : (⟨#[48, 49, 50, 51, 52, 53, 54, 55, 56, 57, 97, 98, 99, 100, 101, 102]⟩ : ByteArray)[n]'h' = hx n := by
  have : ∀ n : Fin 16, (⟨#[48, 49, 50, 51, 52, 53, 54, 55, 56, 57, 97, 98, 99, 100, 101, 102]⟩ : ByteArray)[n.1]'(n.2) = hx n.1 := by decide
  exact this ⟨n, h⟩
theorem and15 (v : Nat) (h : v < 256) : bits BinOp.and IntKind.u8 (v : Int) 15 = ((v % 16 : Nat) : Int) := by
  have h1 : ((List.range 256).all fun b => bits BinOp.and IntKind.u8 (b : Int) 15 == ((b % 16 : Nat) : Int)) = true := by kernel_rfl
  exact eq_of_beq (List.all_eq_true.1 h1 v (List.mem_range.2 h))
theorem hexrun (n : Nat) (h : n < 16) (w : World) : (if _h' : (n : Int) < 16 then Result.ok (Value.int IntKind.u8 ((⟨#[48, 49, 50, 51, 52, 53, 54, 55, 56, 57, 97, 98, 99, 100, 101, 102]⟩ : ByteArray)[n]'h).toNat) w else (boundsPanic IntKind.u8 (n : Int) 16 .index).run Tryd.prog w) = Result.ok (Value.int IntKind.u8 ((hx n).toNat : Int)) w := by
  rw [dif_pos (by omega), hexat n h]
set_option maxHeartbeats 1000000 in
theorem printId_any (l : List UInt8) (h8 : l.length = 8) (w : World) : Calls Tryd.prog 23 #[idV l] w (Gives w (.string (str (prI l)))) := by
  have HT : Hid (∀ j (h : j < l.length), prI (l.take (j + 1)) = (if j = 0 then [] else prI (l.take j) ++ [58]) ++ two l[j]) := prI_take l
  have HE : Hid (prI (l.take 8) = prI l) := by show _ = _; rw [List.take_of_length_le (by omega)]
  have HJ : Hid (∀ j, j ≤ 8 → (prI (l.take j)).length ≤ 24) := fun j h => by have := prI_len (l.take j); rw [List.length_take] at this; omega
  have HX : Hid (∀ (j : Nat) (hj : j < 8) (W : World), (Instr.index 39 (idV l) (.int .i64 (j : Int))).run Tryd.prog W = .ok (.int .u8 ((l[j]'(by omega)).toNat : Int)) W) := fun j hj W => ix_run l h8 j hj W
  have hr := (Row.new w 39 (bcells l)).range
  go_enter Tryd.func23, Tryd.ntmps23
  go_wp2_with (refine ldI (.tmp 1) (by rfl) rfl _ _ l h8 rfl hr ?_)
  go_loopw [3, 7] (fun u i wr => ∃ (j : Nat), j ≤ 8 ∧ i = .int .i64 j ∧ wr.ownsRow w.heap.size 5 1 u (prI (l.take j)).length (bcells (prI (l.take j))) ∧ Below w.heap.size w wr) (fun _ i _ => 8 - (intOf i).toNat)
  case atStart => exact ⟨0, Nat.zero_le _, rfl, World.ownsRow_nil _ _ _ _, ba _ _⟩
  case round =>
    clear hr
    rename_i wr
    obtain ⟨j, hj, rfl, hO, hb⟩ := hrel
    by_cases hlt : j < 8
    · have hT := HT.out j (by omega)
      have hJ := HJ.out j (by omega)
      have hix := HX.out j hlt
      have w1 : wrap64 ((j : Int) + 1) = (j : Int) + 1 := by unfold wrap64; omega
      have hbs := hb.size
      obtain ⟨v, hv⟩ : ∃ v, v = l[j]'(by omega) := ⟨_, rfl⟩
      rw [← hv] at hT hix
      generalize hG : prI (l.take j) = g at *
      have HZ0 : Hid (j = 0 → g = []) := fun h => by rw [← hG, h]; rfl
      clear hG
      have HW : Hid (two v = [hx (v.toNat / 16), hx (v.toNat % 16)]) := rfl
      have hv8 := v.toNat_lt
      clear hv
      generalize v.toNat = m at *
      obtain ⟨p, hp⟩ : ∃ p, p = m / 16 := ⟨_, rfl⟩
      obtain ⟨q, hq⟩ : ∃ q, q = m % 16 := ⟨_, rfl⟩
      have hand : bits BinOp.and IntKind.u8 (m : Int) 15 = (q : Int) := by rw [hq]; exact and15 m hv8
      have hdiv : (m : Int) / 16 = (p : Int) := by omega
      have hp16 : p < 16 := by omega
      have hq16 : q < 16 := by omega
      have r1 := hexrun p hp16
      have r2 := hexrun q hq16
      have HW2 : Hid (two v = [hx p, hx q]) := by show _ = _; rw [HW.out, hp, hq]
      clear HW
      clear hp hq
      by_cases h0 : j = 0
      · have hg0 := HZ0.out h0
        rw [if_pos h0] at hT
        subst h0
        have hix0 : ∀ W, (Instr.index 39 (idV l) (.int .i64 0)).run Tryd.prog W = .ok (.int .u8 (m : Int)) W := hix
        go_wp2
        have hgl : (g).length + 2 ≤ 1000000 := by first | omega | (simp only [List.length_append, List.length_cons, List.length_nil]; omega)
        have HZ : Hid (prI (l.take (0 + 1)) = (g) ++ [hx p, hx q]) := by show _ = _; rw [hT, HW2.out, hg0]
        clear hT
        generalize hGG : g = G at *
        clear hGG
        refine wp_region_noPanic ?_
        refine wp_region_held_drew (S := fun W => Below w.heap.size w W) (by kernel_rfl) (hb.drew) (fun hHeld => ?_)
        refine take_lit (i := 0) (v := ?_) rfl (by kernel_rfl) (by kernel_rfl) (by kernel_rfl) (fun _ _ _ h => h) (Or.inl ⟨by rfl, ?_⟩) (by assumption) ?_
        rotate_left
        · (intro w hSw; (try dsimp only at hSw); go_simp <;> with_reducible rfl)
        try simp only [Act.put, List.setIfInBounds_toArray, List.set_cons_zero, List.set_cons_succ]
        refine take_lit (i := 1) (v := ?_) rfl (by kernel_rfl) (by kernel_rfl) (by kernel_rfl) (fun _ _ _ h => h) (Or.inl ⟨by rfl, ?_⟩) (by assumption) ?_
        rotate_left
        · (intro w hSw; (try dsimp only at hSw); go_simp <;> with_reducible rfl)
        try simp only [Act.put, List.setIfInBounds_toArray, List.set_cons_zero, List.set_cons_succ]
        refine take_lit (i := 2) (v := ?_) rfl (by kernel_rfl) (by kernel_rfl) (by kernel_rfl) (fun _ _ _ h => h) (Or.inl ⟨by rfl, ?_⟩) (by assumption) ?_
        rotate_left
        · (intro w hSw; (try dsimp only at hSw); go_simp <;> with_reducible rfl)
        try simp only [Act.put, List.setIfInBounds_toArray, List.set_cons_zero, List.set_cons_succ]
        refine take_lit (i := 3) (v := ?_) rfl (by kernel_rfl) (by kernel_rfl) (by kernel_rfl) (fun _ _ _ h => h) (Or.inl ⟨by rfl, ?_⟩) (by assumption) ?_
        rotate_left
        · (intro w hSw; (try dsimp only at hSw); go_simp <;> with_reducible rfl)
        try simp only [Act.put, List.setIfInBounds_toArray, List.set_cons_zero, List.set_cons_succ]
        refine take_lit (i := 4) (v := ?_) rfl (by kernel_rfl) (by kernel_rfl) (by kernel_rfl) (fun _ _ _ h => h) (Or.inl ⟨by rfl, ?_⟩) (by assumption) ?_
        rotate_left
        · (intro w hSw; (try dsimp only at hSw); go_simp <;> with_reducible rfl)
        try simp only [Act.put, List.setIfInBounds_toArray, List.set_cons_zero, List.set_cons_succ]
        refine take_lit (i := 5) (v := ?_) rfl (by kernel_rfl) (by kernel_rfl) (by kernel_rfl) (fun _ _ _ h => h) (Or.inl ⟨by rfl, ?_⟩) (by assumption) ?_
        rotate_left
        · (intro w hSw; (try dsimp only at hSw); go_simp <;> with_reducible rfl)
        try simp only [Act.put, List.setIfInBounds_toArray, List.set_cons_zero, List.set_cons_succ]
        refine take_lit (i := 6) (v := ?_) rfl (by kernel_rfl) (by kernel_rfl) (by kernel_rfl) (fun _ _ _ h => h) (Or.inl ⟨by rfl, ?_⟩) (by assumption) ?_
        rotate_left
        · (intro w hSw; (try dsimp only at hSw); go_simp <;> with_reducible rfl)
        try simp only [Act.put, List.setIfInBounds_toArray, List.set_cons_zero, List.set_cons_succ]
        refine wpAnyH_ready (rs := [7]) (by kernel_rfl) (by simp) ?_
        refine cons_lit rfl (fun K hK => ?_) ?_
        · go_simp
          refine hK.out _ _ ?_ (fun hHeld => ?_)
          · exact hHeld.alloc hHeld.size _
          clear hK K
          try simp only [Act.put, List.setIfInBounds_toArray, List.set_cons_zero, List.set_cons_succ]
          refine wpAnyH_ready (rs := [8]) (by kernel_rfl) (by simp) ?_
          refine cons_lit rfl (fun K hK => ?_) ?_
          · skip
            refine stepB (.tmp 16) (.tmp 23) rfl (by kernel_rfl) w.heap.size _ G rfl (hO.alloc _).drew wr.heap.size 2 [hx p, hx q] rfl rfl (Row.new wr _ (bcells [hx p, hx q])).drew hgl hHeld.size ?_
            intro v' w3 hO3 hg3
            refine hK.out _ _ ?_ (fun hHeld => ?_)
            · exact hHeld.grown hg3 hHeld.size (fun j e => (hO.lt j e).1)
            clear hK K
            try simp only [Act.put, List.setIfInBounds_toArray, List.set_cons_zero, List.set_cons_succ]
            refine take_lit (i := 9) (v := ?_) rfl (by kernel_rfl) (by kernel_rfl) (by kernel_rfl) (fun _ _ _ h => h) (Or.inl ⟨by rfl, ?_⟩) (by assumption) ?_
            rotate_left
            · (intro w hSw; (try dsimp only at hSw); go_simp <;> with_reducible rfl)
            try simp only [Act.put, List.setIfInBounds_toArray, List.set_cons_zero, List.set_cons_succ]
            refine wpAnyH_done (by kernel_rfl) ?_ _
            refine NoPanic.normal ?_
            go_wp2
            go_roundw
            case rel => exact ⟨0 + 1, by omega, by go_num, by rw [HZ.out]; exact hO3, hHeld⟩
            case measure => first | (simp [intOf]; done) | (simp [intOf]; omega)
          exact AllReadyH.nil
        exact AllReadyH.nil
      · have h0' : (0 : Int) < (j : Int) := by omega
        rw [if_neg h0] at hT
        go_wp2_with (at_builtin; refine append_b1 rfl (.tmp 13) (.tmp 14) rfl w.heap.size _ g rfl (hO.alloc _) 58 _ rfl rfl (by omega) hbs hb ?_; clear hb hbs hO; intro v1 w1 hO1 hb1; have hbs1 := hb1.size)
        have hgl : (g ++ [58]).length + 2 ≤ 1000000 := by first | omega | (simp only [List.length_append, List.length_cons, List.length_nil]; omega)
        have HZ : Hid (prI (l.take (j + 1)) = (g ++ [58]) ++ [hx p, hx q]) := by show _ = _; rw [hT, HW2.out]
        clear hT
        generalize hGG : g ++ [58] = G at *
        clear hGG
        refine wp_region_noPanic ?_
        refine wp_region_held_drew (S := fun W => Below w.heap.size w W) (by kernel_rfl) (hb1.drew) (fun hHeld => ?_)
        refine take_lit (i := 0) (v := ?_) rfl (by kernel_rfl) (by kernel_rfl) (by kernel_rfl) (fun _ _ _ h => h) (Or.inl ⟨by rfl, ?_⟩) (by assumption) ?_
        rotate_left
        · (intro w hSw; (try dsimp only at hSw); go_simp <;> with_reducible rfl)
        try simp only [Act.put, List.setIfInBounds_toArray, List.set_cons_zero, List.set_cons_succ]
        refine take_lit (i := 1) (v := ?_) rfl (by kernel_rfl) (by kernel_rfl) (by kernel_rfl) (fun _ _ _ h => h) (Or.inl ⟨by rfl, ?_⟩) (by assumption) ?_
        rotate_left
        · (intro w hSw; (try dsimp only at hSw); go_simp <;> with_reducible rfl)
        try simp only [Act.put, List.setIfInBounds_toArray, List.set_cons_zero, List.set_cons_succ]
        refine take_lit (i := 2) (v := ?_) rfl (by kernel_rfl) (by kernel_rfl) (by kernel_rfl) (fun _ _ _ h => h) (Or.inl ⟨by rfl, ?_⟩) (by assumption) ?_
        rotate_left
        · (intro w hSw; (try dsimp only at hSw); go_simp <;> with_reducible rfl)
        try simp only [Act.put, List.setIfInBounds_toArray, List.set_cons_zero, List.set_cons_succ]
        refine take_lit (i := 3) (v := ?_) rfl (by kernel_rfl) (by kernel_rfl) (by kernel_rfl) (fun _ _ _ h => h) (Or.inl ⟨by rfl, ?_⟩) (by assumption) ?_
        rotate_left
        · (intro w hSw; (try dsimp only at hSw); go_simp <;> with_reducible rfl)
        try simp only [Act.put, List.setIfInBounds_toArray, List.set_cons_zero, List.set_cons_succ]
        refine take_lit (i := 4) (v := ?_) rfl (by kernel_rfl) (by kernel_rfl) (by kernel_rfl) (fun _ _ _ h => h) (Or.inl ⟨by rfl, ?_⟩) (by assumption) ?_
        rotate_left
        · (intro w hSw; (try dsimp only at hSw); go_simp <;> with_reducible rfl)
        try simp only [Act.put, List.setIfInBounds_toArray, List.set_cons_zero, List.set_cons_succ]
        refine take_lit (i := 5) (v := ?_) rfl (by kernel_rfl) (by kernel_rfl) (by kernel_rfl) (fun _ _ _ h => h) (Or.inl ⟨by rfl, ?_⟩) (by assumption) ?_
        rotate_left
        · (intro w hSw; (try dsimp only at hSw); go_simp <;> with_reducible rfl)
        try simp only [Act.put, List.setIfInBounds_toArray, List.set_cons_zero, List.set_cons_succ]
        refine take_lit (i := 6) (v := ?_) rfl (by kernel_rfl) (by kernel_rfl) (by kernel_rfl) (fun _ _ _ h => h) (Or.inl ⟨by rfl, ?_⟩) (by assumption) ?_
        rotate_left
        · (intro w hSw; (try dsimp only at hSw); go_simp <;> with_reducible rfl)
        try simp only [Act.put, List.setIfInBounds_toArray, List.set_cons_zero, List.set_cons_succ]
        refine wpAnyH_ready (rs := [7]) (by kernel_rfl) (by simp) ?_
        refine cons_lit rfl (fun K hK => ?_) ?_
        · go_simp
          refine hK.out _ _ ?_ (fun hHeld => ?_)
          · exact hHeld.alloc hHeld.size _
          clear hK K
          try simp only [Act.put, List.setIfInBounds_toArray, List.set_cons_zero, List.set_cons_succ]
          refine wpAnyH_ready (rs := [8]) (by kernel_rfl) (by simp) ?_
          refine cons_lit rfl (fun K hK => ?_) ?_
          · skip
            refine stepB (.tmp 16) (.tmp 23) rfl (by kernel_rfl) w.heap.size _ G rfl (hO1.alloc _).drew w1.heap.size 2 [hx p, hx q] rfl rfl (Row.new w1 _ (bcells [hx p, hx q])).drew hgl hHeld.size ?_
            intro v' w3 hO3 hg3
            refine hK.out _ _ ?_ (fun hHeld => ?_)
            · exact hHeld.grown hg3 hHeld.size (fun j e => (hO1.lt j e).1)
            clear hK K
            try simp only [Act.put, List.setIfInBounds_toArray, List.set_cons_zero, List.set_cons_succ]
            refine take_lit (i := 9) (v := ?_) rfl (by kernel_rfl) (by kernel_rfl) (by kernel_rfl) (fun _ _ _ h => h) (Or.inl ⟨by rfl, ?_⟩) (by assumption) ?_
            rotate_left
            · (intro w hSw; (try dsimp only at hSw); go_simp <;> with_reducible rfl)
            try simp only [Act.put, List.setIfInBounds_toArray, List.set_cons_zero, List.set_cons_succ]
            refine wpAnyH_done (by kernel_rfl) ?_ _
            refine NoPanic.normal ?_
            go_wp2
            go_roundw
            case rel => exact ⟨j + 1, by omega, by go_num, by rw [HZ.out]; exact hO3, hHeld⟩
            case measure => first | (simp [intOf]; done) | (simp [intOf]; omega)
          exact AllReadyH.nil
        exact AllReadyH.nil
    · obtain rfl : j = 8 := by omega
      rw [HE.out] at hO
      obtain ⟨av, cv, rfl, hsv, hlv⟩ := Src.ofOwn hO
      have hcv := hsv.conv
      generalize prI l = g at *
      go_wp2
      go_ret
      exact ⟨rfl, hb⟩
end Go.Proofs.YtldpocbnkggnnaaDoor
