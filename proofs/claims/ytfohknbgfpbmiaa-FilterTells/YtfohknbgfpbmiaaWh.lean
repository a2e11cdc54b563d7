/-
  Which of package filter, for all rules and routes.
-/
import Derived.Test.YtfohknbgfpbmiaaMt
namespace Go.Proofs.Ytfohknbgfpbmiaa
open Go.RowKit
set_option linter.unusedSimpArgs false
set_option maxRecDepth 20000
theorem run_alG {T : TypeId} {Z : List Value} {i : TypeInfo} (hi : Try.prog.info? T = some i) (hz : i.zero = some (.agg Z.toArray)) (w : World) : (Instr.alloc T true (.tuple #[])).run Try.prog w = .ok (.pointer (some ⟨w.heap.size, 0, none⟩)) (w.alloc (.cells Z.toArray T)) := by
  generalize Z.toArray = Z' at *
  simp [Instr.alloc, zeroValue, typeInfo, hi, hz, newVar, newRow, newObj, Value.cells]
  rfl
theorem Row.setCells {w : World} {g : Nat} {t : TypeId} {cs : List Value} (h : Row w g t cs) (ds : List Value) (hl : ds.length = cs.length) : Row (w.setCells g 0 ds) g t ds := by
  have key : ∀ (ds pre post : List Value) (w : World), post.length = ds.length → Row w g t (pre ++ post) → Row (w.setCells g pre.length ds) g t (pre ++ ds) := by
    intro ds
    induction ds with
    | nil =>
      intro pre post w hp hr
      obtain rfl : post = [] := List.eq_nil_of_length_eq_zero hp
      exact hr
    | cons d ds ih =>
      intro pre post w hp hr
      cases post with
      | nil => simp at hp
      | cons p post =>
        rw [World.setCells]
        have h1 := hr.set pre.length d
        have e : (pre ++ p :: post).set pre.length d = (pre ++ [d]) ++ post := by simp
        rw [e] at h1
        have h2 := ih (pre ++ [d]) post _ (by simpa using hp) h1
        rw [List.length_append] at h2
        simpa using h2
  exact key ds [] cs w hl.symm h
section
variable {ops : Array Oper} {rest : List Oper} {op : Oper} {a : Act} {w : World} {Q : Exit → Act → World → Prop}
theorem alG {T : TypeId} {Z : List Value} (hT : (Try.prog.info? T).map (·.zero) = some (some (.agg Z.toArray))) (hw : Region.wanted op (yielded ops a.tmps) = true) (ho : op.op = .alloc T)
    (h : ∀ g W, w.heap.size ≤ g → g < W.heap.size → Below w.heap.size w W → Row W g T Z → wpList Try.prog ops Q rest (a.put op.dst (.pointer (some ⟨g, 0, none⟩))) W) : wpList Try.prog ops Q (op :: rest) a w :=
  wpList_step fun K hK => by
    rw [if_pos hw]
    obtain ⟨i, hi, hz⟩ : ∃ i, Try.prog.info? T = some i ∧ i.zero = some (.agg Z.toArray) := by
      cases hq : Try.prog.info? T with
      | none => simp [hq] at hT
      | some i => exact ⟨i, rfl, by simpa [hq] using hT⟩
    have h1 := h _ _ (Nat.le_refl _) (by simp) (ba w (.cells Z.toArray T)) (Row.new w T Z)
    unfold Oper.wp execOp
    simp only [ho, Sem.run_bind, run_alG hi hz, Result.andThen_ok, Sem.run_pure]
    exact hK _ _ h1
theorem stR (x y : Operand) (hw : Region.wanted op (yielded ops a.tmps) = true) (ho : op.op = .store 41 x y) (b : Nat) (i : Ru) (cs : List Value) (hl : cs.length = 50) (hx : a.eval x = .pointer (some ⟨b, 0, none⟩)) (hy : a.eval y = ruV i) (hr : Row w b 41 cs) {w0 : World} {B : Nat} (hb : Below B w0 w) (hB : B ≤ b)
    (h : ∀ W, Row W b 41 (rcells i) → Below B w0 W → wpList Try.prog ops Q rest (a.put op.dst undef) W) : wpList Try.prog ops Q (op :: rest) a w :=
  wpList_step fun K hK => by
    rw [if_pos hw]
    exact wp_store_mid _ x y ho b 0 _ hx hy (by simpa [rcells_len] using hr.there (n := 50) (by omega)) (by rw [infoRs]; simp [rcells_len]) (all_oneCell_toArray (rcells_one i)) (hK _ _ (h _ (by simpa using hr.setCells (rcells i) (by rw [rcells_len, hl])) (by simpa using below_setCells b hB (rcells i) 0 w hb)))
end
/-- Rules in memory: where a slice of them leads. -/
structure RlW (w : World) (ad : Option Addr) (n : Nat) (l : List Ru) : Prop where
  len : l.length = n
  mem : n ≠ 0 → ∃ g o, ad = some ⟨g, o, none⟩ ∧ g < w.heap.size ∧ ∀ j q, l[j]? = some q → LR w g (o + j * 50) q
theorem RlW.below {w w' : World} {ad : Option Addr} {n : Nat} {l : List Ru} (h : RlW w ad n l) (hb : Below w.heap.size w w') : RlW w' ad n l :=
  ⟨h.len, fun h0 => by
    obtain ⟨g, o, h1, h2, h3⟩ := h.mem h0
    exact ⟨g, o, h1, by have := hb.size; omega, fun j q hq => (h3 j q hq).below hb h2⟩⟩
theorem RlW.nil (w : World) (ad : Option Addr) : RlW w ad 0 [] := ⟨rfl, fun h => absurd rfl h⟩
/-- What Which answers. -/
def whV (o : Option Nat) : Value := .tuple #[.int .i64 ((o.getD 0 : Nat) : Int), .bool o.isSome]
set_option maxHeartbeats 4000000 in
theorem which_any (chain : Int) (name : ByteArray) (p : Pr) (i : Id8) (ad : Option Addr) (n c : Nat) (l : List Ru) (w : World) (hl : RlW w ad n l) (hn : n ≤ 140737488355328) :
    Calls Try.prog 9 #[.int .i64 chain, .string name, (Value.agg (qcells p).toArray), idV i, .slice ad n c] w (Gives w (whV (l.findIdx? fun r => matB r chain name p i))) := by
  have hM := fun r W => matches_any r chain name p i W
  have HN : Hid (l.length = n) := hl.len
  have HE : Hid (∀ j (hj : j < l.length), matB l[j] chain name p i = true → (∀ t (ht : t < l.length), t < j → matB l[t] chain name p i = false) → l.findIdx? (fun r => matB r chain name p i) = some j) := fun j hj h1 h2 => by
    rw [List.findIdx?_eq_some_iff_getElem]
    exact ⟨hj, h1, fun t ht => by rw [h2 t (by omega) ht]; simp⟩
  have HZ : Hid ((∀ t (ht : t < l.length), matB l[t] chain name p i = false) → l.findIdx? (fun r => matB r chain name p i) = none) := fun h => by
    rw [List.findIdx?_eq_none_iff]
    intro x hx
    obtain ⟨t, ht, rfl⟩ := List.getElem_of_mem hx
    exact h t ht
  generalize (l.findIdx? fun r => matB r chain name p i) = R at *
  go_enter Try.func9, Try.ntmps9
  go_upto_region 1 with fail
  have hQ := (LQ.new w p 28).alloc (.cells (icells i).toArray 30)
  have hI : LI ((w.alloc (.cells (qcells p).toArray 28)).alloc (.cells (icells i).toArray 30)) (w.heap.size + 1) 0 i := by
    have := LI.new (w.alloc (.cells (qcells p).toArray 28)) i 30
    simpa using this
  refine name_world (R := fun W => Code.wp _ _ _ _ W) (P := fun W => Below w.heap.size w W ∧ LQ W w.heap.size 0 p ∧ LI W (w.heap.size + 1) 0 i ∧ w.heap.size + 1 < W.heap.size) _ ⟨bt (ba _ _) (ba _ _), hQ, hI, by simp⟩ ?_
  clear hQ hI
  rintro X ⟨hB, hQ, hI, hs⟩
  replace hl := hl.below hB
  go_wp2_with fail
  go_loopw [16] (fun i wr => ∃ j : Nat, j ≤ n ∧ i = .int .i64 j ∧ (∀ t (ht : t < l.length), t < j → matB l[t] chain name p _ = false) ∧ Below X.heap.size X wr) (fun i _ => n - (intOf i).toNat)
  case atStart => exact ⟨0, Nat.zero_le _, rfl, (fun t _ h => by omega), Below.refl _ _⟩
  case round =>
    obtain ⟨j, hj, rfl, hok, hW⟩ := hrel
    by_cases hlt : j < n
    · obtain ⟨g, o, rfl, hg, hcell⟩ := hl.mem (by omega)
      have hjl : j < l.length := by rw [HN.out]; exact hlt
      have hR := (hcell j l[j] (List.getElem?_eq_getElem hjl)).below hW hg
      have hQ1 := hQ.below hW (by omega)
      have hI1 := hI.below hW hs
      have hj1 : (j : Int) < (n : Int) := by omega
      have HO : Hid (∀ t (ht : t < l.length), t < j → matB l[t] chain name p i = false) := hok
      have HJ : Hid (matB l[j] chain name p i = true → R = some j) := fun h => HE.out j hjl h hok
      have HS : Hid (matB l[j] chain name p i = false → ∀ t (ht : t < l.length), t < j + 1 → matB l[t] chain name p i = false) := fun h t ht h' => by
        by_cases e : t = j
        · subst e; exact h
        · exact hok t ht (by omega)
      replace hM := hM l[j]
      have HH : Hid (j < n ∧ n ≤ 140737488355328) := ⟨hlt, hn⟩
      generalize l[j] = r at *
      obtain ⟨b, hb⟩ : ∃ b, matB r chain name p i = b := ⟨_, rfl⟩
      rw [hb] at hM HJ HS
      clear hb hok hcell hl HE HZ HN hn hlt hj hjl
      have hwj : wrap64 ((j : Int) + 1) = (j : Int) + 1 := by have := HH.out; unfold wrap64; omega
      have HT : Hid (n - ((j : Int) + 1).toNat < n - ((j : Int)).toNat) := by
        have := HH.out
        show _ < _
        omega
      have hg1w : w.heap.size < wr.heap.size := by have := hW.size; omega
      have hg2w : w.heap.size + 1 < wr.heap.size := by have := hW.size; omega
      go_wp2_with (first
        | (have kk := hr2; refine ldR (.tmp 13) rfl rfl _ _ r rfl hr2.range ?_)
        | (have kk := hr2; refine ldQ (.tmp 7) rfl rfl _ _ p rfl hQ2 ?_)
        | (have kk := hr2; refine ldI (.tmp 8) rfl rfl _ _ i rfl hI2 ?_)
        | (go_at_call 13; refine (hM _).mono ?_; rintro e w3 ⟨rfl, hB3⟩)
        | (have kk := hr1; refine stR (.tmp 13) (.tmp 20) rfl rfl g1 r _ (rcells_len zeroR) rfl rfl hr1 hB1 hge ?_; intro W2 hr2 hB2; clear hr1; have hQ2 := hQ1.below hB2 hg1w; have hI2 := hI1.below hB2 hg2w)
        | (refine alG infoRz rfl rfl ?_; intro g1 W1 hge hgl hB1 hr1)
        | (refine ldR (.tmp 19) rfl rfl _ _ r rfl hR ?_))
      · have hbt : b = true := by assumption
        have e := HJ.out hbt
        go_ret2
        exact ⟨by rw [e]; rfl, hB.trans ((hW.trans ((hB2.trans (hB3.mono hB2.size)).mono hW.size)).mono hB.size)⟩
      · have hbf : b = false := by assumption
        have h1 := HH.out
        go_roundw
        case rel => exact ⟨j + 1, by omega, by rw [hwj]; simp, HS.out hbf, hW.trans ((hB2.trans (hB3.mono hB2.size)).mono hW.size)⟩
        case measure =>
          rw [hwj]
          simp only [intOf]
          exact HT.out
    · have hj' : j = n := by omega
      have e := HZ.out (fun t ht => hok t ht (by rw [HN.out] at ht; omega))
      clear HZ HE HN hok
      go_wp2_with fail
      go_ret2
      exact ⟨by rw [e]; rfl, hB.trans (hW.mono hB.size)⟩
end Go.Proofs.Ytfohknbgfpbmiaa
