/-
  The contract of tlv.set for every types: which of the 256 types are named.
-/
import Derived.Test.YtaleclmccmeglaaSp
namespace Go.Proofs.Ytaleclmccmeglaa
open Go.RowKit
set_option linter.unusedSimpArgs false

/-- Whether a type is named; all 256 of them. -/
def knB (ts : List UInt8) (i : Nat) : Bool := ts.any fun t => t.toNat == i
def kn (ts : List UInt8) : List Value := (List.range 256).map fun i => .bool (knB ts i)
theorem kn_len (ts : List UInt8) : (kn ts).length = 256 := by simp [kn]
theorem kn_get (ts : List UInt8) (i : Nat) (h : i < 256) : (kn ts)[i]? = some (.bool (knB ts i)) := by simp [kn, h]
theorem kn_set (ts : List UInt8) (j : Nat) (hj : j < ts.length) : (kn (ts.take j)).set ts[j].toNat (.bool true) = kn (ts.take (j + 1)) := by
  apply List.ext_getElem?
  intro i
  have ht := ts[j].toNat_lt
  by_cases hi : i < 256
  · rw [kn_get _ i hi, List.getElem?_set]
    have e : knB (ts.take (j + 1)) i = (knB (ts.take j) i || ts[j].toNat == i) := by
      unfold knB
      rw [List.take_succ_eq_append_getElem hj, List.any_append]
      simp
    rw [e]
    by_cases h : ts[j].toNat = i
    · rw [if_pos h, if_pos (by rw [kn_len]; omega)]
      simp [h]
    · rw [if_neg h, kn_get _ i hi]
      simp [h]
  · rw [List.getElem?_eq_none (by rw [List.length_set, kn_len]; omega), List.getElem?_eq_none (by rw [kn_len]; omega)]
def zerK : List Value := List.replicate 256 (.bool false)
theorem zerK_kn : zerK = kn [] := by
  apply List.ext_getElem?
  intro i
  by_cases hi : i < 256
  · rw [kn_get _ i hi]; unfold zerK; rw [List.getElem?_replicate, if_pos hi]; rfl
  · rw [List.getElem?_eq_none (by unfold zerK; rw [List.length_replicate]; omega), List.getElem?_eq_none (by rw [kn_len]; omega)]
theorem infoK : (Try.prog.info? 149).map (fun i => (i.zero, i.size, i.bytes)) = some (some (.agg zerK.toArray), 256, 256) := by kernel_rfl
theorem infoKs : (Try.prog.info? 149).map (·.size) = some 256 := by kernel_rfl
theorem run_alK (w : World) : (Instr.alloc 149 true (.tuple #[])).run Try.prog w = .ok (.pointer (some ⟨w.heap.size, 0, none⟩)) (w.alloc (.cells zerK.toArray 149)) := by
  obtain ⟨i, hi, hz, _, _⟩ := info_parts infoK
  generalize zerK.toArray = Z at *
  simp [Instr.alloc, zeroValue, typeInfo, hi, hz, newVar, newRow, newObj, Value.cells]
  rfl
theorem Row.setCells {t : TypeId} {g : Nat} : ∀ (vs pre : List Value) (w : World) (cs : List Value), Row w g t (pre ++ cs) → vs.length = cs.length → Row (w.setCells g pre.length vs) g t (pre ++ vs)
  | [], pre, w, cs, h, hl => by
    have : cs = [] := List.eq_nil_of_length_eq_zero hl.symm
    subst this
    exact h
  | v :: vs, pre, w, [], h, hl => by simp at hl
  | v :: vs, pre, w, c :: cs, h, hl => by
    rw [World.setCells]
    have h1 := h.set pre.length v
    have e : (pre ++ c :: cs).set pre.length v = (pre ++ [v]) ++ cs := by simp
    rw [e] at h1
    have h2 := Row.setCells vs (pre ++ [v]) _ cs h1 (by simpa using hl)
    rw [List.length_append] at h2
    simpa using h2
theorem grownBy_setCells (g : Nat) : ∀ (vs : List Value) (o : Nat) (w : World), w.grownBy (w.setCells g o vs) (some g)
  | [], _, w => World.grownBy.refl _ _
  | v :: r, o, w => by
    rw [World.setCells]
    exact grownBy_trans (grownBy_setCell w g o v) (grownBy_setCells g r (o + 1) _)
section
variable {ops : Array Oper} {rest : List Oper} {op : Oper} {a : Act} {w : World} {Q : Exit → Act → World → Prop}
theorem alK (hw : Region.wanted op (yielded ops a.tmps) = true) (ho : op.op = .alloc 149)
    (h : ∀ W, Below w.heap.size w W → Row W w.heap.size 149 (kn []) → wpList Try.prog ops Q rest (a.put op.dst (.pointer (some ⟨w.heap.size, 0, none⟩))) W) : wpList Try.prog ops Q (op :: rest) a w :=
  wpList_step fun K hK => by
    rw [if_pos hw]
    unfold Oper.wp execOp
    simp only [ho, Sem.run_bind, run_alK, Result.andThen_ok, Sem.run_pure]
    exact hK _ _ (h _ ((Below.refl _ _).alloc (Nat.le_refl _) _) (zerK_kn ▸ Row.new w _ _))
theorem ldK (x : Operand) (hw : Region.wanted op (yielded ops a.tmps) = true) (ho : op.op = .load 149 x) (b : Nat) (ts : List UInt8) (hx : a.eval x = .pointer (some ⟨b, 0, none⟩)) (hr : Row w b 149 (kn ts))
    (h : wpList Try.prog ops Q rest (a.put op.dst (.agg (kn ts).toArray)) w) : wpList Try.prog ops Q (op :: rest) a w :=
  wpList_step fun K hK => by
    rw [if_pos hw]
    exact wp_load_mid _ x ho b 0 hx (kn ts) _ hr.range Try.underlying149 rfl (by rw [infoKs, kn_len]) (hK _ _ h)
theorem stK (x y : Operand) (hw : Region.wanted op (yielded ops a.tmps) = true) (ho : op.op = .store 149 x y) (b : Nat) (ts us : List UInt8) (hx : a.eval x = .pointer (some ⟨b, 0, none⟩)) (hy : a.eval y = .agg (kn ts).toArray) (hr : Row w b 149 (kn us))
    (h : ∀ W, w.grownBy W (some b) → Row W b 149 (kn ts) → wpList Try.prog ops Q rest (a.put op.dst undef) W) : wpList Try.prog ops Q (op :: rest) a w :=
  wpList_step fun K hK => by
    rw [if_pos hw]
    refine wp_store_mid _ x y ho b 0 _ hx hy (by simpa using hr.there (n := (kn ts).length) (by rw [kn_len, kn_len]; exact Nat.le_refl _)) (by rw [infoKs]; simp [kn_len]) (all_oneCell_toArray (cs := kn ts) (by intro z hz; obtain ⟨_, _, rfl⟩ := List.mem_map.1 hz; rfl)) (hK _ _ (h _ (grownBy_setCells b _ _ _) ?_))
    have := Row.setCells (kn ts) [] w (kn us) hr (by rw [kn_len, kn_len])
    simpa using this
end
theorem lvK {w : World} {g : Nat} {ts : List UInt8} (h : Row w g 149 (kn ts)) : (loadVar 149 ⟨g, 0, none⟩).run Try.prog w = .ok (.agg (kn ts).toArray) w :=
  run_loadVar_mid w g 0 _ (kn ts) _ h.range Try.underlying149 rfl (by rw [infoKs, kn_len])

theorem set_any (a : Option Addr) (n c : Nat) (ts : List UInt8) (w : World) (hs : Src w a n c (bcells ts)) (hn : n ≤ 140737488355328) :
    Calls Try.prog 99 #[.slice a n c] w fun e w' => e = .returned (.agg (kn ts).toArray) ∧ Below w.heap.size w w' := by
  have HN : Hid (n = ts.length) := hs.blen
  go_enter Try.func99, Try.ntmps99
  go_wp2_with (first
    | (have k := r1; refine alK (by rfl) rfl ?_; intro w2 b2 r2; have r1' := r1.below b2 r1.lt; clear r1)
    | (refine alK (by rfl) rfl ?_; intro w1 b1 r1))
  have hlt1 : w.heap.size < w1.heap.size := k.lt
  go_loopw [8] (fun i wr => ∃ j : Nat, j ≤ n ∧ i = .int .i64 j ∧ Row wr w1.heap.size 149 (kn (ts.take j)) ∧ Row wr w.heap.size 149 (kn []) ∧ Below w.heap.size w wr) (fun i _ => n - (intOf i).toNat)
  case atStart => exact ⟨0, Nat.zero_le _, rfl, by simpa using r2, r1', b1.trans (b2.mono b1.size)⟩
  case round =>
    clear r2 r1' b2 k
    obtain ⟨j, hj, rfl, r2, r1, hb⟩ := hrel
    by_cases hlt : j < n
    · have hjk : j < ts.length := by have := HN.out; omega
      have hsw := hs.below hb hs.lt
      cases a with
      | none => exact absurd (hs.bare rfl).1 (by omega)
      | some ad =>
        have c0 := hsw.byteAt j hjk
        have HK := kn_set ts j hjk
        have ht := ts[j].toNat_lt
        generalize ts[j].toNat = t at *
        have c1 : wr.cell? ⟨w1.heap.size, t, none⟩ = some (.bool (knB (ts.take j) t)) := by rw [r2.cell]; exact kn_get _ _ ht
        have f1 := r2.frozen t
        have R2 : Hid (Row wr w1.heap.size 149 (kn (ts.take j))) := r2
        have R1 : Hid (Row wr w.heap.size 149 (kn [])) := r1
        have HK' : Hid ((kn (ts.take j)).set t (.bool true) = kn (ts.take (j + 1))) := HK
        clear HK r1 r2
        go_wp2
        go_roundw
        case rel => exact ⟨j + 1, by omega, by go_num, HK'.out ▸ R2.out.set t (.bool true), R1.out.grown (grownBy_setCell _ _ _ _) (fun e => by have := Option.some.inj e; omega), hb.setCell (p := ⟨w1.heap.size, t, none⟩) (Nat.le_of_lt hlt1) _⟩
        case measure => simp [intOf]; omega
    · obtain rfl : n = j := by omega
      have e : ts.take n = ts := List.take_of_length_le (by have := HN.out; omega)
      rw [e] at r2
      go_wp2_with (first
        | (refine stK (.tmp 2) (.tmp 15) (by rfl) rfl w.heap.size ts [] rfl rfl r1 ?_; intro w4 hg4 r4)
        | (refine ldK (.tmp 3) (by rfl) rfl w1.heap.size ts rfl r2 ?_))
      exact bodyPost_ret (retC rfl _ _ 0 rfl (lvK r4)) rfl ⟨rfl, hb.grown hg4 hb.size (fun k hk => by cases hk; exact Nat.le_refl _)⟩
end Go.Proofs.Ytaleclmccmeglaa
