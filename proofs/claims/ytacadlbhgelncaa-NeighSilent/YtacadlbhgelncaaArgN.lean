/-
  Addresses, Tlvs, interfaces as arguments: what their readings are; readings that stay.
-/
import Derived.Test.YtacadlbhgelncaaN12
import Derived.OpenShut
import Derived.ChangeOld
import Derived.Below
import Derived.SizedLaws
import Derived.ShutString
import Derived.Deep.Slices
import Derived.Deep.SlicePairs
import Derived.Deep.Strs
namespace Go.Proofs.Ytacadlbhgelncaa
open Lk (Hi hcs hcs_one)
open Rk (Rt rcs rtV)
set_option maxRecDepth 100000
set_option linter.unusedVariables false
theorem okWide_arr {P : Program} {w : World} {r : Reach} {b t n : Nat} {e : TypeId} {v : Value} (ht : P.underlying t = some (.array n e)) (h : Value.okWide P w r b t v) : ∃ cs, v = .agg cs := by
  simp only [Value.okWide, ht] at h
  obtain ⟨cs, h1, _⟩ := h
  exact ⟨cs, h1⟩
open Go.RowKit Go.ChangeShapes Go.WideShapes Go.ChangeAt Go.Deep
theorem own : ownKnob Try.prog.godebug = none := by kernel_rfl
theorem laid_out : laidOutB Try.prog = true := by kernel_rfl
theorem nat_of16 {z : Int} (h : (Lit.int .u16 z).wf = true) : ∃ n : Nat, z = n ∧ n < 65536 := by
  obtain ⟨h0, h1⟩ := bounds_u16 h
  exact ⟨z.toNat, by omega, by omega⟩
section
variable {H : Type} {enc : TypeId × Value → H} {w : World} {base : Nat} {spare : Nat → Bool} {held : Bool}
theorem bytes_of (m : Nat) : ∀ (cs : List Value) (xs : List (DataW H × List MemPlace)), cs.length = xs.length → (∀ i, i < xs.length → DataW.trod enc Try.prog w base spare held m 5 ((cs.drop i).take 1) = xs[i]?) → ∃ l : List UInt8, cs = bcells l
  | [], _, _, _ => ⟨[], rfl⟩
  | c :: r, [], h, _ => by simp at h
  | c :: r, x :: ys, h, k => by
    obtain ⟨l, rfl⟩ := bytes_of m r ys (by simpa using h) (fun i hi => by have := k (i + 1) (by simp; omega); simpa using this)
    obtain ⟨n, e1, _, hw⟩ := DataW.trod_int Try.underlying5 (show DataW.trod enc Try.prog w base spare held m 5 [c] = some x by simpa using k 0 (by simp))
    obtain ⟨h0, h1⟩ := bounds_u8 hw
    simp only [List.cons.injEq, and_true] at e1
    refine ⟨UInt8.ofNat n.toNat :: l, ?_⟩
    rw [e1]
    show _ = Value.int .u8 ((UInt8.ofNat n.toNat).toNat : Int) :: bcells l
    have : (UInt8.ofNat n.toNat).toNat = n.toNat := by simp; omega
    rw [this]
    congr 2
    omega
theorem cellsA : Try.prog.cellsOf 29 = 16 := by kernel_rfl
theorem cellsP : Try.prog.cellsOf 34 = 17 := by kernel_rfl
theorem cellsQ : Try.prog.cellsOf 36 = 34 := by kernel_rfl
theorem cells_u8 : Try.prog.cellsOf 5 = 1 := by kernel_rfl
theorem cells_int : Try.prog.cellsOf 3 = 1 := by kernel_rfl
theorem ad_of {fuel : Nat} {cs : List Value} {x : DataW H × List MemPlace} (h : DataW.trod enc Try.prog w base spare held fuel 29 cs = some x) : ∃ a : Ad, cs = acells a := by
  obtain ⟨xs, m, _, _, hl, hn, hel⟩ := DataW.trod_array Try.underlying29 h
  rw [cells_u8] at hel
  obtain ⟨l, rfl⟩ := bytes_of m cs xs (by rw [hl, hn, cellsA]) (fun i hi => by have := hel i (by omega); rwa [Nat.mul_one] at this)
  exact ⟨⟨l, by rw [bcells_length, cellsA] at hl; exact hl⟩, rfl⟩
theorem pf_of {fuel : Nat} {cs : List Value} {x : DataW H × List MemPlace} (h : DataW.trod enc Try.prog w base spare held fuel 34 cs = some x) : ∃ p : Pf, cs = pcells p ∧ -9223372036854775808 ≤ p.n ∧ p.n ≤ 9223372036854775807 := by
  obtain ⟨y0, y1, n, _, hl, h0, h1⟩ := trod_struct2 Try.underlying34 h
  dsimp only at h0 h1
  rw [cellsA] at h0
  rw [cells_int] at h1
  rw [cellsP] at hl
  obtain ⟨a, ha⟩ := ad_of h0
  obtain ⟨k, e1, _, hw⟩ := DataW.trod_int Try.underlying3 h1
  refine ⟨⟨a, k⟩, ?_, bounds_i64 hw⟩
  rw [pcells, ← ha, ← e1, List.drop_zero]
  have : (cs.drop 16).take 1 = cs.drop 16 := List.take_of_length_le (by simp; omega)
  rw [this, List.take_append_drop]
theorem pr_of {fuel : Nat} {cs : List Value} {x : DataW H × List MemPlace} (h : DataW.trod enc Try.prog w base spare held fuel 36 cs = some x) : ∃ q : Pr, cs = qcells q ∧ (-9223372036854775808 ≤ q.d.n ∧ q.d.n ≤ 9223372036854775807) ∧ -9223372036854775808 ≤ q.s.n ∧ q.s.n ≤ 9223372036854775807 := by
  obtain ⟨y0, y1, n, _, hl, h0, h1⟩ := trod_struct2 Try.underlying36 h
  dsimp only at h0 h1
  rw [cellsP] at h0 h1
  rw [cellsQ] at hl
  obtain ⟨d, hd, d1⟩ := pf_of h0
  obtain ⟨s, hs, s1⟩ := pf_of h1
  refine ⟨⟨d, s⟩, ?_, d1, s1⟩
  rw [qcells, ← hd, ← hs, List.drop_zero]
  have : (cs.drop 17).take 17 = cs.drop 17 := List.take_of_length_le (by simp; omega)
  rw [this, List.take_append_drop]
theorem cells_bool : Try.prog.cellsOf 4 = 1 := by kernel_rfl
theorem cells_str : Try.prog.cellsOf 9 = 1 := by kernel_rfl
theorem cells_I : Try.prog.cellsOf 32 = 8 := by kernel_rfl
theorem cells_u16 : Try.prog.cellsOf 30 = 1 := by kernel_rfl
theorem cells_L : Try.prog.cellsOf 37 = 1 := by kernel_rfl
theorem cells_T : Try.prog.cellsOf 39 = 68 := by kernel_rfl
theorem cells_u32 : Try.prog.cellsOf 53 = 1 := by kernel_rfl
theorem cells_Rt : Try.prog.cellsOf 64 = 5 := by kernel_rfl
theorem cells_C : Try.prog.cellsOf 66 = 43 := by kernel_rfl
theorem id_of {fuel : Nat} {cs : List Value} {x : DataW H × List MemPlace} (h : DataW.trod enc Try.prog w base spare held fuel 32 cs = some x) : ∃ a : Id8, cs = icells a := by
  obtain ⟨xs, m, _, _, hl, hn, hel⟩ := DataW.trod_array Try.underlying32 h
  rw [cells_u8] at hel
  obtain ⟨l, rfl⟩ := bytes_of m cs xs (by rw [hl, hn, cells_I]) (fun i hi => by have := hel i (by omega); rwa [Nat.mul_one] at this)
  exact ⟨⟨l, by rw [bcells_length, cells_I] at hl; exact hl⟩, rfl⟩
theorem st_of {fuel : Nat} {cs : List Value} {x : DataW H × List MemPlace} (h : DataW.trod enc Try.prog w base spare held fuel 37 cs = some x) : ∃ a n c, ∃ st : List UInt32, cs = [.slice a n c] ∧ st.length = n ∧ (n = 0 ∨ ∃ g o, a = some ⟨g, o, none⟩ ∧ g < w.heap.size ∧ ∀ (j : Nat) (x : UInt32), st[j]? = some x → w.cell? ⟨g, o + j, none⟩ = some (.int .u32 (x.toNat : Int))) ∧ n ≤ maxLen := by
  rcases open_ints Try.underlying37 Try.underlying53 cells_u32 h with ⟨hcs, _⟩ | ⟨x, l, c, zs, hcs, _, hl, hm, hz, _, hcell, hwz⟩
  · exact ⟨none, 0, 0, [], hcs, rfl, .inl rfl, Nat.zero_le _⟩
  · have hlz : l ≤ zs.length := by rw [hz]; split <;> omega
    refine ⟨some x, l, c, (zs.take l).map fun z => UInt32.ofNat z.toNat, hcs, by simp; omega, ?_, by omega⟩
    by_cases h0 : l = 0
    · exact .inl h0
    · obtain ⟨b, o, rfl, hc⟩ := ints_at hcell (by omega)
      refine .inr ⟨b, o, rfl, World.block_lt_of_cell? _ _ (hc 0 (by omega)), fun j v hv => ?_⟩
      have hj : j < l := by have := (List.getElem?_eq_some_iff.1 hv).1; simp at this; omega
      rw [List.getElem?_map, List.getElem?_take_of_lt hj] at hv
      have hjz : j < zs.length := by omega
      rw [hc j hjz]
      rw [List.getElem?_eq_getElem hjz] at hv
      cases hv
      have hb := bounds_u32 (hwz _ (List.getElem_mem hjz))
      simp [hjz]
      omega
theorem drop_split (cs : List Value) (o n m : Nat) (h : o + n = m) : cs.drop o = (cs.drop o).take n ++ cs.drop m := by
  rw [← h, ← List.drop_drop, List.take_append_drop]
theorem nat_of8 {z : Int} (h : (Lit.int .u8 z).wf = true) : ∃ n : Nat, z = n ∧ n < 256 := by
  obtain ⟨h0, h1⟩ := bounds_u8 h
  exact ⟨z.toNat, by omega, by omega⟩
theorem tl_of {fuel : Nat} {cs : List Value} {x : DataW H × List MemPlace} (h : DataW.trod enc Try.prog w base spare held fuel 39 cs = some x) : ∃ t : Tl, cs = tcells t ∧ Sm w t ∧ t.fit ∧ t.ty < 256 ∧ t.sn ≤ maxLen := by
  obtain ⟨xs, n, _, _, hl, hlen, hf⟩ := DataW.trod_struct Try.underlying39 h
  rw [cells_T] at hl
  match xs, hlen with
  | [y0, y1, y2, y3, y4, y5, y6, y7, y8, y9, y10, y11, y12], _ =>
    have f0 : DataW.trod enc Try.prog w base spare held n 5 ((cs.drop 0).take (Try.prog.cellsOf 5)) = some y0 := hf 0 _ rfl
    have f1 : DataW.trod enc Try.prog w base spare held n 30 ((cs.drop 1).take (Try.prog.cellsOf 30)) = some y1 := hf 1 _ rfl
    have f2 : DataW.trod enc Try.prog w base spare held n 30 ((cs.drop 2).take (Try.prog.cellsOf 30)) = some y2 := hf 2 _ rfl
    have f3 : DataW.trod enc Try.prog w base spare held n 30 ((cs.drop 3).take (Try.prog.cellsOf 30)) = some y3 := hf 3 _ rfl
    have f4 : DataW.trod enc Try.prog w base spare held n 30 ((cs.drop 4).take (Try.prog.cellsOf 30)) = some y4 := hf 4 _ rfl
    have f5 : DataW.trod enc Try.prog w base spare held n 30 ((cs.drop 5).take (Try.prog.cellsOf 30)) = some y5 := hf 5 _ rfl
    have f6 : DataW.trod enc Try.prog w base spare held n 5 ((cs.drop 6).take (Try.prog.cellsOf 5)) = some y6 := hf 6 _ rfl
    have f7 : DataW.trod enc Try.prog w base spare held n 4 ((cs.drop 7).take (Try.prog.cellsOf 4)) = some y7 := hf 7 _ rfl
    have f8 : DataW.trod enc Try.prog w base spare held n 4 ((cs.drop 8).take (Try.prog.cellsOf 4)) = some y8 := hf 8 _ rfl
    have f9 : DataW.trod enc Try.prog w base spare held n 32 ((cs.drop 9).take (Try.prog.cellsOf 32)) = some y9 := hf 9 _ rfl
    have f10 : DataW.trod enc Try.prog w base spare held n 29 ((cs.drop 17).take (Try.prog.cellsOf 29)) = some y10 := hf 10 _ rfl
    have f11 : DataW.trod enc Try.prog w base spare held n 36 ((cs.drop 33).take (Try.prog.cellsOf 36)) = some y11 := hf 11 _ rfl
    have f12 : DataW.trod enc Try.prog w base spare held n 37 ((cs.drop 67).take (Try.prog.cellsOf 37)) = some y12 := hf 12 _ rfl
    rw [cells_u8] at f0 f6
    rw [cells_u16] at f1 f2 f3 f4 f5
    rw [cells_bool] at f7 f8
    rw [cells_I] at f9
    rw [cellsA] at f10
    rw [cellsQ] at f11
    rw [cells_L] at f12
    obtain ⟨z0, e0, _, w0⟩ := DataW.trod_int Try.underlying5 f0
    obtain ⟨z1, e1, _, w1⟩ := DataW.trod_int Try.underlying30 f1
    obtain ⟨z2, e2, _, w2⟩ := DataW.trod_int Try.underlying30 f2
    obtain ⟨z3, e3, _, w3⟩ := DataW.trod_int Try.underlying30 f3
    obtain ⟨z4, e4, _, w4⟩ := DataW.trod_int Try.underlying30 f4
    obtain ⟨z5, e5, _, w5⟩ := DataW.trod_int Try.underlying30 f5
    obtain ⟨z6, e6, _, w6⟩ := DataW.trod_int Try.underlying5 f6
    obtain ⟨b7, e7, _⟩ := DataW.trod_bool Try.underlying4 f7
    obtain ⟨b8, e8, _⟩ := DataW.trod_bool Try.underlying4 f8
    obtain ⟨i9, e9⟩ := id_of f9
    obtain ⟨a10, e10⟩ := ad_of f10
    obtain ⟨q11, e11, _⟩ := pr_of f11
    obtain ⟨sa, sn, sc, st, e12, hst1, hst2, hst3⟩ := st_of f12
    obtain ⟨n0, rfl, k0⟩ := nat_of8 w0
    obtain ⟨n1, rfl, k1⟩ := nat_of16 w1
    obtain ⟨n2, rfl, k2⟩ := nat_of16 w2
    obtain ⟨n3, rfl, k3⟩ := nat_of16 w3
    obtain ⟨n4, rfl, k4⟩ := nat_of16 w4
    obtain ⟨n5, rfl, k5⟩ := nat_of16 w5
    obtain ⟨n6, rfl, k6⟩ := nat_of8 w6
    refine ⟨⟨n0, n1, n2, n3, n4, n5, n6, b7, b8, i9, a10, q11, sa, sn, sc, st⟩, ?_, ⟨hst1, hst2⟩, ⟨k2, k3, k4⟩, k0, hst3⟩
    have g0 := drop_split cs 0 1 1 rfl
    have g1 := drop_split cs 1 1 2 rfl
    have g2 := drop_split cs 2 1 3 rfl
    have g3 := drop_split cs 3 1 4 rfl
    have g4 := drop_split cs 4 1 5 rfl
    have g5 := drop_split cs 5 1 6 rfl
    have g6 := drop_split cs 6 1 7 rfl
    have g7 := drop_split cs 7 1 8 rfl
    have g8 := drop_split cs 8 1 9 rfl
    have g9 := drop_split cs 9 8 17 rfl
    have g10 := drop_split cs 17 16 33 rfl
    have g11 := drop_split cs 33 34 67 rfl
    have g12 := drop_split cs 67 1 68 rfl
    have gl : cs.drop 68 = [] := List.drop_eq_nil_of_le (by omega)
    rw [gl, e12] at g12
    rw [g12, e11] at g11
    rw [g11, e10] at g10
    rw [g10, e9] at g9
    rw [g9, e8] at g8
    rw [g8, e7] at g7
    rw [g7, e6] at g6
    rw [g6, e5] at g5
    rw [g5, e4] at g4
    rw [g4, e3] at g3
    rw [g3, e2] at g2
    rw [g2, e1] at g1
    rw [g1, e0] at g0
    rw [List.drop_zero] at g0
    rw [g0]
    simp [tcells, tnum]
theorem rt_of {fuel : Nat} {cs : List Value} {x : DataW H × List MemPlace} (h : DataW.trod enc Try.prog w base spare held fuel 64 cs = some x) : ∃ a : Rt, cs = rcs a := by
  obtain ⟨xs, n, _, _, hl, hlen, hf⟩ := DataW.trod_struct Try.underlying64 h
  rw [cells_Rt] at hl
  match xs, hlen with
  | [y0, y1, y2, y3, y4], _ =>
    have f0 : DataW.trod enc Try.prog w base spare held n 4 ((cs.drop 0).take (Try.prog.cellsOf 4)) = some y0 := hf 0 _ rfl
    have f1 : DataW.trod enc Try.prog w base spare held n 3 ((cs.drop 1).take (Try.prog.cellsOf 3)) = some y1 := hf 1 _ rfl
    have f2 : DataW.trod enc Try.prog w base spare held n 3 ((cs.drop 2).take (Try.prog.cellsOf 3)) = some y2 := hf 2 _ rfl
    have f3 : DataW.trod enc Try.prog w base spare held n 3 ((cs.drop 3).take (Try.prog.cellsOf 3)) = some y3 := hf 3 _ rfl
    have f4 : DataW.trod enc Try.prog w base spare held n 3 ((cs.drop 4).take (Try.prog.cellsOf 3)) = some y4 := hf 4 _ rfl
    rw [cells_bool] at f0
    rw [cells_int] at f1 f2 f3 f4
    match cs, hl with
    | [c0, c1, c2, c3, c4], _ =>
      obtain ⟨z0, e0, _⟩ := DataW.trod_bool Try.underlying4 f0
      obtain ⟨z1, e1, _, _⟩ := DataW.trod_int Try.underlying3 f1
      obtain ⟨z2, e2, _, _⟩ := DataW.trod_int Try.underlying3 f2
      obtain ⟨z3, e3, _, _⟩ := DataW.trod_int Try.underlying3 f3
      obtain ⟨z4, e4, _, _⟩ := DataW.trod_int Try.underlying3 f4
      simp at e0 e1 e2 e3 e4
      exact ⟨⟨z0, z1, z2, z3, z4⟩, by rw [e0, e1, e2, e3, e4]; rfl⟩
theorem ic_of {fuel : Nat} {cs : List Value} {x : DataW H × List MemPlace} (h : DataW.trod enc Try.prog w base spare held fuel 66 cs = some x) : ∃ a : Ic, cs = ics a := by
  obtain ⟨xs, n, _, _, hl, hlen, hf⟩ := DataW.trod_struct Try.underlying66 h
  rw [cells_C] at hl
  match xs, hlen with
  | [y0, y1, y2, y3, y4, y5, y6, y7, y8], _ =>
    have f0 : DataW.trod enc Try.prog w base spare held n 9 ((cs.drop 0).take (Try.prog.cellsOf 9)) = some y0 := hf 0 _ rfl
    have f1 : DataW.trod enc Try.prog w base spare held n 3 ((cs.drop 1).take (Try.prog.cellsOf 3)) = some y1 := hf 1 _ rfl
    have f2 : DataW.trod enc Try.prog w base spare held n 3 ((cs.drop 2).take (Try.prog.cellsOf 3)) = some y2 := hf 2 _ rfl
    have f3 : DataW.trod enc Try.prog w base spare held n 3 ((cs.drop 3).take (Try.prog.cellsOf 3)) = some y3 := hf 3 _ rfl
    have f4 : DataW.trod enc Try.prog w base spare held n 3 ((cs.drop 4).take (Try.prog.cellsOf 3)) = some y4 := hf 4 _ rfl
    have f5 : DataW.trod enc Try.prog w base spare held n 3 ((cs.drop 5).take (Try.prog.cellsOf 3)) = some y5 := hf 5 _ rfl
    have f6 : DataW.trod enc Try.prog w base spare held n 29 ((cs.drop 6).take (Try.prog.cellsOf 29)) = some y6 := hf 6 _ rfl
    have f7 : DataW.trod enc Try.prog w base spare held n 29 ((cs.drop 22).take (Try.prog.cellsOf 29)) = some y7 := hf 7 _ rfl
    have f8 : DataW.trod enc Try.prog w base spare held n 64 ((cs.drop 38).take (Try.prog.cellsOf 64)) = some y8 := hf 8 _ rfl
    rw [cells_str] at f0
    rw [cells_int] at f1 f2 f3 f4 f5
    rw [cellsA] at f6 f7
    rw [cells_Rt] at f8
    obtain ⟨z0, e0, _⟩ := DataW.trod_string Try.underlying9 f0
    obtain ⟨z1, e1, _, _⟩ := DataW.trod_int Try.underlying3 f1
    obtain ⟨z2, e2, _, _⟩ := DataW.trod_int Try.underlying3 f2
    obtain ⟨z3, e3, _, _⟩ := DataW.trod_int Try.underlying3 f3
    obtain ⟨z4, e4, _, _⟩ := DataW.trod_int Try.underlying3 f4
    obtain ⟨z5, e5, _, _⟩ := DataW.trod_int Try.underlying3 f5
    obtain ⟨a6, e6⟩ := ad_of f6
    obtain ⟨a7, e7⟩ := ad_of f7
    obtain ⟨r8, e8⟩ := rt_of f8
    refine ⟨⟨z0, z1, z2, z3, z4, z5, a6, a7, r8⟩, ?_⟩
    have g0 := drop_split cs 0 1 1 rfl
    have g1 := drop_split cs 1 1 2 rfl
    have g2 := drop_split cs 2 1 3 rfl
    have g3 := drop_split cs 3 1 4 rfl
    have g4 := drop_split cs 4 1 5 rfl
    have g5 := drop_split cs 5 1 6 rfl
    have g6 := drop_split cs 6 16 22 rfl
    have g7 := drop_split cs 22 16 38 rfl
    have g8 := drop_split cs 38 5 43 rfl
    have gl : cs.drop 43 = [] := List.drop_eq_nil_of_le (by omega)
    rw [gl, e8] at g8
    rw [g8, e7] at g7
    rw [g7, e6] at g6
    rw [g6, e5] at g5
    rw [g5, e4] at g4
    rw [g4, e3] at g3
    rw [g3, e2] at g2
    rw [g2, e1] at g1
    rw [g1, e0] at g0
    rw [List.drop_zero] at g0
    rw [g0]
    simp [ics, ihd]
variable {r : Reach} {b0 : Nat} {v : Value} {d : DataW H} {p : List MemPlace}
theorem openA (hv : Value.okWide Try.prog w r b0 29 v) (h : DataW.Trod enc Try.prog w base spare held 29 v d p) : ∃ a : Ad, v = (Value.agg (acells a).toArray) := by
  obtain ⟨cs, rfl⟩ := okWide_arr Try.underlying29 hv
  obtain ⟨fuel, hf⟩ := h
  obtain ⟨a, ha⟩ := ad_of hf
  exact ⟨a, by rw [← ha]; simp [Value.cells]⟩
theorem openT (hv : Value.okWide Try.prog w r b0 39 v) (h : DataW.Trod enc Try.prog w base spare held 39 v d p) : ∃ t : Tl, v = .agg (tcells t).toArray ∧ Sm w t ∧ t.fit ∧ t.ty < 256 ∧ t.sn ≤ maxLen := by
  obtain ⟨cs, rfl, _⟩ := okWide_struct Try.underlying39 hv
  obtain ⟨fuel, hf⟩ := h
  obtain ⟨t, ht, h1, h2⟩ := tl_of hf
  exact ⟨t, by rw [← ht]; simp [Value.cells], h1, h2⟩
/-- A slice of structs. -/
theorem openG {α : Type} (E : α → List Value) (s : Nat) (z : α) (P : α → Prop) {T ST : TypeId} (hU : Try.prog.underlying ST = some (.slice T)) (hs : Try.prog.cellsOf T = s) (s0 : 0 < s) (hE : ∀ q, (E q).length = s)
    (hel : ∀ {fuel : Nat} {cs : List Value} {x : DataW H × List MemPlace}, DataW.trod enc Try.prog w base (fun _ => true) held fuel T cs = some x → ∃ q, cs = E q ∧ P q)
    (hv : Value.okWide Try.prog w r b0 ST v) (h : DataW.Trod enc Try.prog w base (fun _ => true) held ST v d p) : ∃ (ad : Option Addr) (len cap : Nat) (l : List α), v = .slice ad len cap ∧ l.length = len ∧ (∀ q ∈ l, P q) ∧ (l = [] ∨ ∃ b o, ad = some ⟨b, o, none⟩ ∧ b < w.heap.size ∧ ∀ (j : Nat) (q : α), l[j]? = some q → w.rangeAt b (o + j * s) (E q)) ∧ len ≤ cap ∧ cap ≤ maxLen := by
  obtain ⟨ad, len, cap, rfl⟩ := okWide_slice hU hv
  obtain ⟨fuel, hf⟩ := h
  rcases open_slice hU hf with ⟨hcs, _⟩ | ⟨a, len', cap', m, n, D, Pl, hcs, _, hl, hmx, hmm, _, hx⟩
  · simp [Value.cells] at hcs
    obtain ⟨rfl, rfl, rfl⟩ := hcs
    exact ⟨none, 0, 0, [], rfl, rfl, (fun _ h => by cases h), .inl rfl, Nat.le_refl _, Nat.zero_le _⟩
  · simp [Value.cells] at hcs
    obtain ⟨rfl, rfl, rfl⟩ := hcs
    by_cases h0 : len = 0
    · subst h0
      exact ⟨_, 0, cap, [], rfl, rfl, (fun _ h => by cases h), .inl rfl, Nat.zero_le _, by omega⟩
    · have hm : len ≤ m := by rw [hmm]; split <;> omega
      have each : ∀ i, i < len → ∃ q : α, P q ∧ ∀ k, k < s → w.cell? ((a.add (i * s)).add k) = (E q)[k]? := fun i hi => by
        obtain ⟨cs', k1, k2⟩ := hx i (by omega)
        obtain ⟨q, rfl, hb1⟩ := hel k2
        rw [hs] at k1
        obtain ⟨_, _, hc⟩ := World.cells?_some k1
        exact ⟨q, hb1, hc⟩
      have each' : ∀ i, ∃ q : α, i < len → P q ∧ ∀ k, k < s → w.cell? ((a.add (i * s)).add k) = (E q)[k]? := fun i => by
        by_cases hi : i < len
        · obtain ⟨q, hq⟩ := each i hi
          exact ⟨q, fun _ => hq⟩
        · exact ⟨z, fun h => absurd h hi⟩
      obtain ⟨f, hf'⟩ := Classical.axiomOfChoice each'
      obtain ⟨b, o, x⟩ := a
      have h2 : (E (f 0))[0]? = some ((E (f 0))[0]'(by rw [hE]; exact s0)) := List.getElem?_eq_getElem _
      have hx0 : x = none := by
        have h1 := (hf' 0 (by omega)).2 0 s0
        rw [h2] at h1
        have := World.cell?_spot h1
        simpa [Addr.add] using this
      subst hx0
      have hc : ∀ j, j < len → ∀ k, k < s → w.cell? ⟨b, o + j * s + k, none⟩ = (E (f j))[k]? := fun j hj k hk => by
        have := (hf' j hj).2 k hk
        rw [add_add, Go.WideShapes.add_plain] at this
        rw [Nat.add_assoc]; exact this
      refine ⟨_, len, cap, (List.range len).map f, rfl, by simp, ?_, .inr ⟨b, o, rfl, ?_, fun j q hq => ?_⟩, by omega, by omega⟩
      · intro q hq
        obtain ⟨i, hi, rfl⟩ := List.mem_map.1 hq
        exact (hf' i (List.mem_range.1 hi)).1
      · have h1 := hc 0 (by omega) 0 s0
        exact World.block_lt_of_cell? _ _ (h1.trans h2)
      · rw [List.getElem?_map] at hq
        by_cases hj : j < len
        · rw [List.getElem?_range hj] at hq
          cases hq
          intro k u hu
          rw [hc j hj k (by have := (List.getElem?_eq_some_iff.1 hu).1; rwa [hE] at this)]
          exact hu
        · rw [List.getElem?_eq_none (by simp; omega)] at hq
          cases hq
theorem openC (hv : Value.okWide Try.prog w r b0 22 v) (h : DataW.Trod enc Try.prog w base (fun _ => true) held 22 v d p) : ∃ (ad : Option Addr) (cap : Nat) (l : List Ic), v = .slice ad l.length cap ∧ CsW w ad l ∧ l.length ≤ cap ∧ cap ≤ maxLen := by
  obtain ⟨ad, len, cap, l, rfl, h1, _, h3, h4, h5⟩ := openG ics 43 zeroC (fun _ => True) Try.underlying22 cells_C (by omega) ics_len (fun h => by obtain ⟨q, hq⟩ := ic_of h; exact ⟨q, hq, trivial⟩) hv h
  subst h1
  exact ⟨ad, cap, l, rfl, ⟨h3⟩, h4, h5⟩
end
/-- The readings of arguments stay where nothing that was there is written. -/
theorem all_stay {H : Type} {enc : TypeId × Value → H} {P : Program} (hl : laidOutB P = true) {W W' : World} (hb : Below W.heap.size W W') : ∀ (ts : List TypeId) (vs : List Value) (ds : List (DataW H)) (p : List MemPlace), (ts.all fun t => P.readableRec t && decide (t < P.types.size)) = true → DataW.TrodAll enc P W 0 (fun _ => true) true ts vs ds p → DataW.TrodAll enc P W' 0 (fun b => decide (b < W.heap.size)) true ts vs ds p
  | [], vs, ds, p, _, h => by
    obtain ⟨rfl, rfl, rfl⟩ := trodAll_nil h
    exact trodAll_mk0
  | t :: ts, vs, ds, p, hr, h => by
    obtain ⟨v0, vs0, d0, ds0, p0, q0, rfl, rfl, rfl, h0, r0⟩ := trodAll_cons h
    simp only [List.all_cons, Bool.and_eq_true, decide_eq_true_eq] at hr
    refine trodAll_cons_mk (Below.trod hl hr.1.1 hr.1.2 h0 hb ?_) (all_stay hl hb ts vs0 ds0 q0 (by simpa using hr.2) r0)
    obtain ⟨m, hm⟩ := h0
    exact DataW.trod_lt m _ _ _ hm
end Go.Proofs.Ytacadlbhgelncaa
