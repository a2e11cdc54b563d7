/-
  Slices of texts, and ids, as arguments: what their readings are.
-/
import Derived.Test.YtldpocbnkggnnaaDoorFrm
import Derived.Test.YtldpocbnkggnnaaDoorD0
import Derived.SliceStrings
namespace Go.Proofs.YtldpocbnkggnnaaDoor
theorem okWide_arr {P : Program} {w : World} {r : Reach} {b t n : Nat} {e : TypeId} {v : Value} (ht : P.underlying t = some (.array n e)) (h : Value.okWide P w r b t v) : ∃ cs, v = .agg cs := by
  simp only [Value.okWide, ht] at h
  obtain ⟨cs, h1, _⟩ := h
  exact ⟨cs, h1⟩
open Go.RowKit Go.ChangeShapes Go.WideShapes Go.ChangeAt
theorem mem_weightsAll {H : Type} {P : Program} {e : TypeId} {n : Nat} {d : DataW H} : ∀ {ds : List (DataW H)}, d ∈ ds → n ∈ d.weights P e → n ∈ DataW.weightsAll P e ds
  | x :: ds, h, hn => by
    simp only [DataW.weightsAll, List.mem_append]
    rcases List.mem_cons.1 h with rfl | h
    · exact .inl hn
    · exact .inr (mem_weightsAll h hn)
theorem cells_s : Tryd.prog.cellsOf 9 = 1 := by kernel_rfl
theorem cells_u8 : Tryd.prog.cellsOf 5 = 1 := by kernel_rfl
theorem cellsI : Tryd.prog.cellsOf 39 = 8 := by kernel_rfl
theorem bytes_s : Tryd.prog.bytesOf 9 = 16 := by kernel_rfl
section
variable {H : Type} {enc : TypeId × Value → H} {w : World} {base : Nat} {held : Bool} {r : Reach} {b0 : Nat} {v : Value} {d : DataW H} {p : List MemPlace} {spare : Nat → Bool}
theorem bytes_of (m : Nat) : ∀ (cs : List Value) (xs : List (DataW H × List MemPlace)), cs.length = xs.length → (∀ i, i < xs.length → DataW.trod enc Tryd.prog w base spare held m 5 ((cs.drop i).take 1) = xs[i]?) → ∃ l : List UInt8, cs = bcells l
  | [], _, _, _ => ⟨[], rfl⟩
  | c :: r, [], h, _ => by simp at h
  | c :: r, x :: ys, h, k => by
    obtain ⟨l, rfl⟩ := bytes_of m r ys (by simpa using h) (fun i hi => by have := k (i + 1) (by simp; omega); simpa using this)
    obtain ⟨n, e1, _, hw⟩ := DataW.trod_int Tryd.underlying5 (show DataW.trod enc Tryd.prog w base spare held m 5 [c] = some x by simpa using k 0 (by simp))
    obtain ⟨h0, h1⟩ := bounds_u8 hw
    simp only [List.cons.injEq, and_true] at e1
    refine ⟨UInt8.ofNat n.toNat :: l, ?_⟩
    rw [e1]
    show _ = Value.int .u8 ((UInt8.ofNat n.toNat).toNat : Int) :: bcells l
    have : (UInt8.ofNat n.toNat).toNat = n.toNat := by simp; omega
    rw [this]
    congr 2
    omega
set_option maxRecDepth 100000 in
/-- An id as an argument. -/
theorem openD (hv : Value.okWide Tryd.prog w r b0 39 v) (h : DataW.Trod enc Tryd.prog w base spare held 39 v d p) : ∃ l : List UInt8, l.length = 8 ∧ v = idV l := by
  obtain ⟨cs, rfl⟩ := okWide_arr Tryd.underlying39 hv
  obtain ⟨fuel, hf⟩ := h
  obtain ⟨xs, m, _, _, hl, hn, hel⟩ := DataW.trod_array Tryd.underlying39 hf
  rw [cells_u8] at hel
  obtain ⟨l, hl2⟩ := bytes_of m _ xs (by rw [hl, hn, cellsI]) (fun i hi => by have := hel i (by omega); rwa [Nat.mul_one] at this)
  rw [cellsI] at hl
  refine ⟨l, by rw [hl2, bcells_length] at hl; exact hl, ?_⟩
  rw [show idV l = .agg (bcells l).toArray from rfl, ← hl2]
  simp [Value.cells]
/-- A slice of texts as an argument. -/
theorem openT {ts : List TypeId} {ds : List (DataW H)} (hsz : (DataW.weightsEach Tryd.prog ts ds).all (· ≤ reachBytes) = true) (j : Nat) (ht : ts[j]? = some 23) (hd : ds[j]? = some d)
    (hv : Value.okWide Tryd.prog w r b0 23 v) (h : DataW.Trod enc Tryd.prog w base (fun _ => true) held 23 v d p) : ∃ (a : Option Addr) (n c : Nat) (l : List (List UInt8)), v = .slice a n c ∧ Src w a n c (scells l) ∧ n ≤ 140737488355328 ∧ ∀ x ∈ l, x.length ≤ 140737488355328 := by
  obtain ⟨a, len, cap, rfl⟩ := okWide_slice Tryd.underlying23 hv
  obtain ⟨fuel, hf⟩ := h
  rcases open_strings Tryd.underlying23 Tryd.underlying9 cells_s hf with ⟨hcs, _⟩ | ⟨x, l, c, ss, hcs, _, hl, hm, hz, hx, hcell, _⟩
  · simp [Value.cells] at hcs
    obtain ⟨rfl, rfl, rfl⟩ := hcs
    exact ⟨none, 0, 0, [], rfl, Src.nil w, by omega, by simp⟩
  · simp [Value.cells] at hcs
    obtain ⟨rfl, rfl, rfl⟩ := hcs
    have hz' : ss.length = cap := by simpa using hz
    have hde : d = .slice (strs (ss.take len)) (strs (ss.drop len)) := (Prod.mk.inj hx).1
    have hall := List.all_eq_true.1 hsz
    have hw := fun n hn => of_decide_eq_true (hall n (DataW.weights_mem_each ht hd n hn))
    have hr := reachBytes_lt
    refine ⟨some x, len, cap, (ss.take len).map (·.data.toList), rfl, ⟨by simp [scells]; omega, (fun h => by cases h), fun ad had j u hu => ?_⟩, ?_, ?_⟩
    · cases had
      have hj : j < len := by have := (List.getElem?_eq_some_iff.1 hu).1; simp [scells] at this; omega
      rw [hcell j (by omega)]
      simp only [scells, List.map_map, List.getElem?_map, List.getElem?_take_of_lt hj, List.getElem?_eq_getElem (show j < ss.length by omega), Option.map_some, Function.comp] at hu
      rw [← hu]
      simp [List.getD, List.getElem?_eq_getElem (show j < ss.length by omega)]
    · have := hw ((strs (H := H) (ss.take len)).length + (strs (H := H) (ss.drop len)).length |>.mul (Tryd.prog.bytesOf 9)) (by
        rw [hde]
        simp only [DataW.weights, Tryd.underlying23]
        exact List.mem_cons_self)
      rw [bytes_s] at this
      simp [strs] at this
      omega
    · intro y hy
      obtain ⟨s, hs, rfl⟩ := List.mem_map.1 hy
      have := hw s.data.toList.length (by
        rw [hde]
        simp only [DataW.weights, Tryd.underlying23]
        refine List.mem_cons_of_mem _ (List.mem_append_left _ (mem_weightsAll (d := .lit (.string s.data.toList)) ?_ (by simp [DataW.weights])))
        exact List.mem_map.2 ⟨s, hs, rfl⟩)
      omega
end
end Go.Proofs.YtldpocbnkggnnaaDoor
