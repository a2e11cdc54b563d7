/-
  The document's Cut, for every text and byte.
-/
import Derived.Test.YtimpopolkofdgaaGreatDoorRefC
import Derived.Test.YtimpopolkofdgaaGreatDoorJoin
namespace Go.Proofs.YtimpopolkofdgaaGreatDoor
open Go.RowKit
set_option linter.unusedSimpArgs false
set_option maxRecDepth 20000
/-! ### The document's Cut -/
theorem pieces_first (c : UInt8) : ∀ (m : List UInt8) (k : Nat), (∀ i, i < k → m[i]? ≠ some c) → m[k]? = some c → pieces c m = m.take k :: pieces c (m.drop (k + 1))
  | [], k, _, h => by simp at h
  | x :: m, 0, _, h => by
    simp at h
    subst h
    simp [pieces]
  | x :: m, k + 1, hn, h => by
    have hx : x ≠ c := fun e => hn 0 (by omega) (by simp [e])
    have ih := pieces_first c m k (fun i hi => by have := hn (i + 1) (by omega); simpa using this) (by simpa using h)
    simp only [pieces, if_neg hx, ih]
    simp
theorem pieces_none (c : UInt8) : ∀ (m : List UInt8), (∀ i : Nat, m[i]? ≠ some c) → pieces c m = [m]
  | [], _ => rfl
  | x :: m, hn => by
    have hx : x ≠ c := fun e => hn 0 (by simp [e])
    have ih := pieces_none c m (fun i => by have := hn (i + 1); simpa using this)
    simp only [pieces, if_neg hx, ih]
theorem pieces_count (c : UInt8) : ∀ (m : List UInt8), (pieces c m).length ≤ m.length + 1
  | [] => by simp [pieces]
  | x :: m => by
    have ih := pieces_count c m
    simp only [pieces]
    split
    · simp; omega
    · split
      · simp
      · rename_i h
        rw [h] at ih
        simp at ih ⊢
        omega
theorem infoS : (Tryz.prog.info? 9).map (fun i => (i.zero, i.size, i.bytes)) = some (some (.string ⟨#[]⟩), 1, 16) := by kernel_rfl
/-- What holds while a text is cut. -/
def CutAt (c : UInt8) (l : List UInt8) (j p : Nat) (out : List (List UInt8)) : Prop :=
  (j ≤ l.length ∧ p ≤ j ∧ out ++ pieces c (l.drop p) = pieces c l ∧ ∀ k, p ≤ k → k < j → l[k]? ≠ some c) ∨ (j = l.length + 1 ∧ out = pieces c l)
theorem CutAt.small {c : UInt8} {l : List UInt8} {j p : Nat} {out : List (List UInt8)} (h : CutAt c l j p out) : out.length ≤ l.length + 1 := by
  have hc := pieces_count c l
  rcases h with ⟨_, _, h, _⟩ | ⟨_, h⟩
  · have := congrArg List.length h
    rw [List.length_append] at this
    omega
  · rw [h]; exact hc
theorem CutAt.go {c : UInt8} {l : List UInt8} {j p : Nat} {out : List (List UInt8)} (h : CutAt c l j p out) (hj : j < l.length) (hb : l[j]? ≠ some c) : CutAt c l (j + 1) p out := by
  rcases h with ⟨h1, h2, h3, h4⟩ | ⟨h, _⟩
  · exact .inl ⟨by omega, by omega, h3, fun k hk hkj => by
      by_cases e : k = j
      · subst e; exact hb
      · exact h4 k hk (by omega)⟩
  · omega
theorem CutAt.cut {c : UInt8} {l : List UInt8} {j p : Nat} {out : List (List UInt8)} (h : CutAt c l j p out) (hj : j < l.length) (hb : l[j]? = some c) : CutAt c l (j + 1) (j + 1) (out ++ [(l.drop p).take (j - p)]) := by
  rcases h with ⟨h1, h2, h3, h4⟩ | ⟨h, _⟩
  · refine .inl ⟨by omega, by omega, ?_, fun k hk hkj => by omega⟩
    rw [pieces_first c (l.drop p) (j - p) (fun i hi => by rw [List.getElem?_drop]; exact h4 _ (by omega) (by omega)) (by rw [List.getElem?_drop, show p + (j - p) = j by omega]; exact hb)] at h3
    rw [← h3, List.append_assoc, List.drop_drop]
    rw [show p + (j - p + 1) = j + 1 by omega]
    rfl
  · omega
theorem CutAt.last {c : UInt8} {l : List UInt8} {j p : Nat} {out : List (List UInt8)} (h : CutAt c l j p out) (hj : j = l.length) : CutAt c l (j + 1) (j + 1) (out ++ [(l.drop p).take (j - p)]) := by
  rcases h with ⟨h1, h2, h3, h4⟩ | ⟨h, _⟩
  · refine .inr ⟨by omega, ?_⟩
    rw [pieces_none c (l.drop p) (fun i => by
      rw [List.getElem?_drop]
      by_cases hi : p + i < j
      · exact h4 _ (by omega) hi
      · rw [List.getElem?_eq_none (by omega)]; simp)] at h3
    rw [← h3, List.take_of_length_le (by simp; omega)]
  · omega
theorem CutAt.le {c : UInt8} {l : List UInt8} {j p : Nat} {out : List (List UInt8)} (h : CutAt c l j p out) (hj : j ≤ l.length) : p ≤ j := by
  rcases h with ⟨h1, h2, h3, h4⟩ | ⟨h, _⟩ <;> omega
theorem ext_str (t : ByteArray) (p j : Nat) : t.extract p j = str ((t.data.toList.drop p).take (j - p)) := by
  apply ByteArray.ext
  rw [ByteArray.data_extract]
  apply Array.toList_inj.1
  rw [Array.toList_extract, List.extract_eq_take_drop]
theorem scells_append (l m : List (List UInt8)) : scells (l ++ m) = scells l ++ scells m := by simp [scells]
theorem rcut_any (t : ByteArray) (c : UInt8) (w : World) (hlim : t.size ≤ 1000000) : Calls Tryz.prog 60 #[.string t, .int .u8 c.toNat] w fun e w' => ∃ v, e = .returned v ∧ w'.ownsRow w.heap.size 9 1 v (pieces c t.data.toList).length (scells (pieces c t.data.toList)) ∧ Below w.heap.size w w' := by
  have hl : t.data.toList.length = t.size := Lib.size_eq t
  have HI : Hid (∀ j (h : j < t.size), t.data.toList[j]? = some t[j]) := fun j h => by
    rw [List.getElem?_eq_getElem (by rw [hl]; exact h)]; rfl
  have HL : Hid (t.data.toList.length = t.size) := hl
  have HX : Hid (∀ p j, t.extract p j = str ((t.data.toList.drop p).take (j - p))) := ext_str t
  obtain ⟨i0, hi, hz0, hz1, hz2⟩ := info_parts infoS
  have hA0 : CutAt c t.data.toList 0 0 [] := .inl ⟨Nat.zero_le _, Nat.le_refl _, by simp, fun k _ hk => by omega⟩
  generalize t.data.toList = l at *
  clear hl
  go_enter Tryz.func60, Tryz.ntmps60
  go_wp2
  go_loopw [5, 6, 7] (fun v a i wr => ∃ (j p : Nat) (out : List (List UInt8)), j ≤ t.size + 1 ∧ i = .int .i64 j ∧ a = .int .i64 p ∧ CutAt c l j p out ∧ wr.ownsRow w.heap.size 9 1 v out.length (scells out) ∧ Below w.heap.size w wr) (fun _ _ i _ => t.size + 1 - (intOf i).toNat)
  case atStart => exact ⟨0, 0, [], by omega, rfl, rfl, hA0, World.ownsRow_nil _ _ _ _, Below.refl _ _⟩
  case round =>
    clear hA0
    rename_i wr
    obtain ⟨j, p, out, hj, rfl, rfl, hC, hO, hb⟩ := hrel
    have hsm := hC.small
    rw [HL.out] at hsm
    by_cases hlt : j < t.size
    · have hle := hC.le (by rw [HL.out]; omega)
      have e1 : ((j : Int) == (t.size : Int)) = false := by rw [beq_eq_false_iff_ne]; omega
      have hjI := HI.out j hlt
      by_cases hbc : t[j] = c
      · have e2 : ((t[j].toNat : Int) == (c.toNat : Int)) = true := by rw [hbc]; simp
        have hC' := hC.cut (by rw [HL.out]; exact hlt) (by rw [hjI, hbc])
        go_wp2_with (at_builtin; refine wpList_append_own _ rfl (.tmp 25) (.tmp 30) 75 rfl w.heap.size 9 i0 (.string ⟨#[]⟩) 1 16 Tryz.underlying75 hi hz0 hz1 hz2 rfl (by decide) _ _ _ rfl (hO.alloc _) ⟨wr.heap.size, 0, none⟩ 1 1 [.string (t.extract p j)] rfl rfl (fun i u hu => by rw [Addr.add_mid]; simpa using (Row.new wr 9 [.string (t.extract p j)]).range i u hu) (by simp [Value.oneCell']) (by unfold maxLen; omega) (by omega) (by have := hb.size; simp; omega) ?_; intro v' w3 hown hgrow _; replace hb := (hb.alloc hb.size _).grown hgrow (by have := hb.size; simp; omega) (fun k hk => (hO.lt k hk).1); clear hgrow hO; rw [HX.out] at hown)
        go_roundw
        case rel => exact ⟨j + 1, j + 1, _, by omega, by go_num, by go_num, hC', by rw [scells_append]; simpa [scells] using hown, hb⟩
        case measure => simp [intOf]; omega
      · have e2 : ((t[j].toNat : Int) == (c.toNat : Int)) = false := by
          rw [beq_eq_false_iff_ne]
          intro e
          exact hbc (UInt8.toNat.inj (by omega))
        have hC' := hC.go (by rw [HL.out]; exact hlt) (by rw [hjI]; intro e; exact hbc (Option.some.inj e))
        go_wp2
        go_roundw
        case rel => exact ⟨j + 1, p, out, by omega, by go_num, rfl, hC', hO, hb⟩
        case measure => simp [intOf]; omega
    · by_cases hje : j = t.size
      · subst hje
        have hle := hC.le (by rw [HL.out]; omega)
        have e1 : ((t.size : Int) == (t.size : Int)) = true := by simp
        have hC' := hC.last (HL.out.symm)
        go_wp2_with (at_builtin; refine wpList_append_own _ rfl (.tmp 25) (.tmp 30) 75 rfl w.heap.size 9 i0 (.string ⟨#[]⟩) 1 16 Tryz.underlying75 hi hz0 hz1 hz2 rfl (by decide) _ _ _ rfl (hO.alloc _) ⟨wr.heap.size, 0, none⟩ 1 1 [.string (t.extract p t.size)] rfl rfl (fun i u hu => by rw [Addr.add_mid]; simpa using (Row.new wr 9 [.string (t.extract p t.size)]).range i u hu) (by simp [Value.oneCell']) (by unfold maxLen; omega) (by omega) (by have := hb.size; simp; omega) ?_; intro v' w3 hown hgrow _; replace hb := (hb.alloc hb.size _).grown hgrow (by have := hb.size; simp; omega) (fun k hk => (hO.lt k hk).1); clear hgrow hO; rw [HX.out] at hown)
        go_roundw
        case rel => exact ⟨t.size + 1, t.size + 1, _, by omega, by go_num, by go_num, hC', by rw [scells_append]; simpa [scells] using hown, hb⟩
        case measure => simp [intOf]
      · have hC' : out = pieces c l := by
          rcases hC with ⟨h, _⟩ | ⟨_, h⟩
          · rw [HL.out] at h; omega
          · exact h
        subst hC'
        have e1 : ¬ (j : Int) ≤ (t.size : Int) := by omega
        go_wp2
        go_ret
        exact ⟨_, rfl, hO, hb⟩
end Go.Proofs.YtimpopolkofdgaaGreatDoor
