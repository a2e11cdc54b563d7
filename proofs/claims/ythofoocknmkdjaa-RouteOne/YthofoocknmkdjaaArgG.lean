/-
  Acts of a law; right; acts as arguments.
-/
import Derived.Test.YthofoocknmkdjaaArgs
import Derived.Test.YthofoocknmkdjaaXC
namespace Go.Proofs.Ythofoocknmkdjaa
open Go.RowKit Go.Maps
set_option linter.unusedSimpArgs false
set_option linter.unusedVariables false
set_option maxRecDepth 20000
/-- An act. -/
structure Ac where
  k : Int
  g : Int
  r : Ro
  o : Bool
def acs (x : Ac) : List Value := [.int .i64 x.k, .int .i64 x.g] ++ (ocs x.r ++ [.bool x.o])
theorem acs_len (x : Ac) : (acs x).length = 84 := by simp [acs, ocs_len]
def zeroAc : Ac := ⟨0, 0, zeroR, false⟩
def LC (w : World) (b o : Nat) (x : Ac) : Prop := w.rangeAt b o (acs x)
section
variable {w : World} {b o : Nat} {x : Ac}
theorem LC.k (h : LC w b o x) : w.cell? ⟨b, o, none⟩ = some (.int .i64 x.k) := by simpa using h 0 _ rfl
theorem LC.g (h : LC w b o x) : w.cell? ⟨b, o + 1, none⟩ = some (.int .i64 x.g) := h 1 _ rfl
theorem LC.t1 (h : LC w b o x) : w.rangeAt b (o + 2) (ocs x.r ++ [.bool x.o]) := rangeAt_right h rfl
theorem LC.r (h : LC w b o x) : LS w b (o + 2) x.r := rangeAt_left h.t1
theorem LC.ok (h : LC w b o x) : w.cell? ⟨b, o + 83, none⟩ = some (.bool x.o) := by
  have := rangeAt_right h.t1 (ocs_len _) 0 _ rfl
  rw [Nat.add_assoc] at this
  exact this
theorem LC.below {w' : World} {B : Nat} (h : LC w b o x) (hb : Below B w w') (hlt : b < B) : LC w' b o x := rangeAt_below h hb hlt
end
/-- Acts in memory. -/
structure AsW (w : World) (ad : Option Addr) (l : List Ac) : Prop where
  lies : l = [] ∨ ∃ g o, ad = some ⟨g, o, none⟩ ∧ g < w.heap.size ∧ ∀ (j : Nat) (p : Ac), l[j]? = some p → LC w g (o + j * 84) p
theorem AsW.below {w w' : World} {ad : Option Addr} {l : List Ac} (h : AsW w ad l) (hb : Below w.heap.size w w') : AsW w' ad l :=
  ⟨h.lies.imp id fun ⟨g, o, e, hg, hl⟩ => ⟨g, o, e, Nat.lt_of_lt_of_le hg hb.size, fun j p hp => rangeAt_below (hl j p hp) hb hg⟩⟩
/-- Acts that are right. -/
def AcOk (x : Ac) : Prop := 0 ≤ x.g ∧ x.g ≤ 1073741824
theorem all_step {α : Type} {P : α → Prop} {l : List α} {j : Nat} (h : ∀ x ∈ l.take j, P x) (hj : j < l.length) (hp : P l[j]) : ∀ x ∈ l.take (j + 1), P x := by
  intro x hx
  rw [List.take_succ_eq_append_getElem hj] at hx
  rcases List.mem_append.1 hx with hx | hx
  · exact h x hx
  · simp at hx; subst hx; exact hp
def RightP (l : List Ac) (w : World) (e : Ending) (w' : World) : Prop := ∃ b, e = .returned (.bool b) ∧ w = w' ∧ (b = true → l.length ≤ 150 ∧ ∀ x ∈ l, AcOk x)
theorem right_any (ad : Option Addr) (c : Nat) (l : List Ac) (w : World) (hl : AsW w ad l) (hn : l.length ≤ maxLen) : Calls Try.prog 9 #[.slice ad l.length c] w (RightP l w) := by
  have HN : Hid (l.length ≤ 9223372036854775807) := hn
  clear hn
  go_enter Try.func9, Try.ntmps9
  go_wp2_with fail
  go_loopw [3] (fun i wr => ∃ j : Nat, j ≤ l.length ∧ j ≤ 151 ∧ i = .int .i64 j ∧ (∀ x ∈ l.take j, AcOk x) ∧ w = wr) (fun i _ => 151 - (intOf i).toNat)
  case atStart => exact ⟨0, by omega, by omega, rfl, by simp, rfl⟩
  case round =>
    obtain ⟨j, hj, hj9, rfl, hok, rfl⟩ := hrel
    by_cases hlt : j < l.length ∧ j ≤ 150
    · obtain ⟨hlt, hj8⟩ := hlt
      rcases hl.lies with h0 | ⟨g, o, rfl, hg, hcs⟩
      · rw [h0] at hlt; simp at hlt
      have hq := (hcs j l[j] (List.getElem?_eq_getElem hlt)).g
      have HS : Hid (AcOk l[j] → ∀ x ∈ l.take (j + 1), AcOk x) := fun h => all_step hok hlt h
      have hji : (j : Int) < (l.length : Int) := by omega
      have hj8' : (j : Int) ≤ 150 := by omega
      have hw : wrap64 ((j : Int) + 1) = (j : Int) + 1 := by unfold wrap64; omega
      have HJ : Hid (j + 1 ≤ l.length ∧ j + 1 ≤ 151) := ⟨by omega, by omega⟩
      have HM : Hid (151 - ((j : Int) + 1).toNat < 151 - ((j : Int)).toNat) := by show _ < _; omega
      have HA : Hid (∀ g, l[j].g = g → 0 ≤ g → g ≤ 1073741824 → AcOk l[j]) := fun g e h1 h2 => ⟨by omega, by omega⟩
      obtain ⟨z, hz⟩ : ∃ z, l[j].g = z := ⟨_, rfl⟩
      rw [hz] at hq
      have HZ : Hid (l[j].g = z) := hz
      clear hz hcs hok hj hj9 hj8 hl
      by_cases h1 : z < 0
      · go_wp2_with fail
        go_ret
        exact ⟨false, rfl, rfl, fun h => by cases h⟩
      · by_cases h2 : 1073741824 < z
        · go_wp2_with fail
          go_ret
          exact ⟨false, rfl, rfl, fun h => by cases h⟩
        · have HO := HS.out (HA.out z HZ.out (by omega) (by omega))
          have h3 : 0 ≤ z := by omega
          have h4 : z ≤ 1073741824 := by omega
          clear h1 h2 HA HS
          go_wp2_with fail
          go_roundw
          case rel => exact ⟨j + 1, HJ.out.1, HJ.out.2, by first | rfl | go_num, HO, trivial⟩
          case measure => simp only [intOf]; exact HM.out
    · by_cases h1 : j < l.length
      · have h2 : ¬ (j : Int) ≤ 150 := by omega
        have h3 : (j : Int) < (l.length : Int) := by omega
        have h4 : ¬ (l.length : Int) ≤ 150 := by omega
        clear hlt h1 hok
        go_wp2_with fail
        go_ret
        exact ⟨false, rfl, rfl, fun h => by cases h⟩
      · have hjl : j = l.length := by omega
        subst hjl
        rw [List.take_length] at hok
        have h3 : ¬ (l.length : Int) < (l.length : Int) := by omega
        clear hlt h1
        go_wp2_with fail
        go_ret
        refine ⟨_, rfl, rfl, fun h => ⟨?_, hok⟩⟩
        have := of_decide_eq_true h
        omega
/-- What of an act is known. -/
structure AcFit (x : Ac) : Prop where
  f : x.r.fit
  w : wfK x.r.k
open Go.RowKit Go.ChangeShapes Go.WideShapes Go.ChangeAt Go.Deep
section
variable {H : Type} {enc : TypeId × Value → H} {w : World} {base : Nat} {spare : Nat → Bool} {held : Bool}
theorem cells_G : Try.prog.cellsOf 43 = 84 := by kernel_rfl
theorem ac_of {fuel : Nat} {cs : List Value} {x : DataW H × List MemPlace} (h : DataW.trod enc Try.prog w base spare held fuel 43 cs = some x) : ∃ a : Ac, cs = acs a ∧ AcFit a := by
  obtain ⟨xs, n, _, _, hl, hlen, hf⟩ := DataW.trod_struct Try.underlying43 h
  rw [cells_G] at hl
  match xs, hlen with
  | [y0, y1, y2, y3], _ =>
    have f0 : DataW.trod enc Try.prog w base spare held n 3 ((cs.drop 0).take (Try.prog.cellsOf 3)) = some y0 := hf 0 _ rfl
    have f1 : DataW.trod enc Try.prog w base spare held n 3 ((cs.drop 1).take (Try.prog.cellsOf 3)) = some y1 := hf 1 _ rfl
    have f2 : DataW.trod enc Try.prog w base spare held n 41 ((cs.drop 2).take (Try.prog.cellsOf 41)) = some y2 := hf 2 _ rfl
    have f3 : DataW.trod enc Try.prog w base spare held n 4 ((cs.drop 83).take (Try.prog.cellsOf 4)) = some y3 := hf 3 _ rfl
    rw [cells_int] at f0 f1
    rw [cells_R] at f2
    rw [cells_bool] at f3
    obtain ⟨z0, e0, _, _⟩ := DataW.trod_int Try.underlying3 f0
    obtain ⟨z1, e1, _, _⟩ := DataW.trod_int Try.underlying3 f1
    obtain ⟨z2, e2, b2, b3⟩ := ro_of f2
    obtain ⟨z3, e3, _⟩ := DataW.trod_bool Try.underlying4 f3
    refine ⟨⟨z0, z1, z2, z3⟩, ?_, b2, b3⟩
    have g0 := drop_split cs 0 1 1 rfl
    have g1 := drop_split cs 1 1 2 rfl
    have g2 := drop_split cs 2 81 83 rfl
    have g3 := drop_split cs 83 1 84 rfl
    have gl : cs.drop 84 = [] := List.drop_eq_nil_of_le (by omega)
    rw [gl, e3] at g3
    rw [g3, e2] at g2
    rw [g2, e1] at g1
    rw [g1, e0] at g0
    rw [List.drop_zero] at g0
    rw [g0]
    simp [acs]
variable {r : Reach} {b0 : Nat} {v : Value} {d : DataW H} {p : List MemPlace}
set_option maxRecDepth 100000 in
theorem openK (hv : Value.okWide Try.prog w r b0 22 v) (h : DataW.Trod enc Try.prog w base (fun _ => true) held 22 v d p) : ∃ (ad : Option Addr) (cap : Nat) (l : List Ac), v = .slice ad l.length cap ∧ AsW w ad l ∧ (∀ q ∈ l, AcFit q) ∧ l.length ≤ maxLen := by
  obtain ⟨ad, len, cap, l, rfl, e, hf, hl, h1, h2⟩ := openG acs 84 zeroAc AcFit Try.underlying22 cells_G (by decide) acs_len ac_of hv h
  subst e
  exact ⟨ad, cap, l, rfl, ⟨hl⟩, hf, by omega⟩
end
end Go.Proofs.Ythofoocknmkdjaa
