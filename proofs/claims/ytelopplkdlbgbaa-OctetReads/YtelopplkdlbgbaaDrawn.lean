/-
  A region that draws its order, walked by hand: the condition that is held may grow; and what Put8 and PutBytes lay of one slice.
-/
import Derived.Test.YtelopplkdlbgbaaPutBytes
import Derived.Test.YtelopplkdlbgbaaPlacesWalk
import Derived.Deep.RegionHeld3
namespace Go.Proofs.Ytelopplkdlbgbaa
open Go.RowKit

/-- The condition that is held may be made stronger on the way. -/
theorem wpAnyH_mono {P : Program} {md : Region.Mode} {ops : Array Oper} {Q : Exit → Act → World → Prop} {S S' : World → Prop} (h : ∀ w, S' w → S w) :
    ∀ (fuel : Nat) (listed : Array Bool) (a : Act) (w : World), wpAnyH P md ops Q S' fuel listed a w → wpAnyH P md ops Q S fuel listed a w
  | 0, _, _, _, k => k
  | fuel + 1, _, _, _, k => ⟨k.1, fun i hi => wpOp_mono (fun a' w' k' => ⟨h _ k'.1, wpAnyH_mono h fuel _ a' w' k'.2⟩) (k.2 i hi)⟩

theorem at_lit {ops : Array Oper} {i : Nat} {o : Oper} {rest : List Oper} (h : ops.toList.drop i = o :: rest) : ops[i]? = some o := by
  have e : (ops.toList.drop i)[0]? = some o := by rw [h]; rfl
  rw [List.getElem?_drop] at e
  simpa using e
theorem take_lit {P : Program} {md : Region.Mode} {ops : Array Oper} {Q : Exit → Act → World → Prop} {S : World → Prop} {i : Nat} {oi : Oper} {rest : List Oper} {v : Value} {fuel : Nat} {listed : Array Bool} {a : Act} {w : World} (hi : ops.toList.drop i = oi :: rest)
    (hs : Region.noSelect ops = true) (hf : Region.free md ops listed i = true) (hr : (Region.ready md ops listed).contains i = true)
    (hQ : ∀ c a w, Q (.panic c) (a.put oi.dst v) w → Q (.panic c) a w) (hy : YieldsIf P ops S oi v a) (hS : S w)
    (h : wpAnyH P md ops Q S fuel (listed.setIfInBounds i true) (a.put oi.dst v) w) : wpAnyH P md ops Q S (fuel + 1) listed a w :=
  wpAnyH_take (at_lit hi) hs hf hr hQ hy hS h
theorem cons_lit {P : Program} {md : Region.Mode} {ops : Array Oper} {Q : Exit → Act → World → Prop} {S : World → Prop} {fuel : Nat} {listed : Array Bool} {a : Act} {w : World} {i : Nat} {o : Oper} {rest : List Oper} {rs : List Nat} (ho : ops.toList.drop i = o :: rest)
    (h : ∀ K' : Act → World → Prop, Shut (∀ a w, S w → (S w → wpAnyH P md ops Q S fuel (listed.setIfInBounds i true) a w) → K' a w) → if Region.wanted o (yielded ops a.tmps) = true then Oper.wp P o a w K' Q else K' (a.put o.dst undef) w)
    (hs : AllReadyH P md ops Q S fuel listed a w rs) : AllReadyH P md ops Q S fuel listed a w (i :: rs) := AllReadyH.cons (at_lit ho) h hs

theorem Laid.src {w w' : World} {l : List UInt8} {e : Ending} (h : Laid w l e w') : ∃ a n c, e = .returned (.slice a n c) ∧ n = l.length ∧ n ≤ c ∧ Src w' a n c (bcells l) ∧ Below w.heap.size w w' ∧ ∀ ad, a = some ad → w.heap.size ≤ ad.block := by
  obtain ⟨a, c, rfl, hown, hb⟩ := h
  have hle : l.length ≤ c := by
    rcases hown.2 with ⟨h1, h2⟩ | ⟨g, cap, cur, h1, _, _, h4, _⟩
    · omega
    · cases h1; exact h4
  obtain ⟨_, _, hv, hs, hlt⟩ := Src.ofOwn hown
  cases hv
  exact ⟨a, _, c, rfl, rfl, hle, hs, hb, fun ad had => (hlt ad had).1⟩

/-- append([]byte{}, b...): a copy. -/
theorem append_new {w : World} {ops : Array Oper} {rest : List Oper} {o : Oper} {a : Act} {Q : Exit → Act → World → Prop} (hgd : o.guard = none) (s x : Operand)
    (ho : o.op = .call { callee := .builtin .append, args := #[s, x], argTypes := #[22, 22] })
    (hs : a.eval s = .slice (some ⟨w.heap.size, 0, none⟩) 0 0) (ad : Option Addr) (m c : Nat) (l : List UInt8) (hx : a.eval x = .slice ad m c) (hsrc : Src w ad m c (bcells l)) (hbytes : m ≤ 140737488355328)
    (h : ∀ a' c' w', Src w' a' m c' (bcells l) → Below w.heap.size w w' → (∀ ad, a' = some ad → w.heap.size ≤ ad.block) → w'.ownsRow w.heap.size 5 1 (.slice a' m c') m (bcells l) → wpList Try.prog ops Q rest (a.put o.dst (.slice a' m c')) w') : wpList Try.prog ops Q (o :: rest) a (w.alloc (.cells #[] 5)) := by
  refine append_src hgd s x ho w.heap.size _ 0 [] hs (World.ownsRow_made w #[] 0 (Nat.le_refl _) (by unfold maxLen; omega) rfl) ad m c (bcells l) hx (hsrc.alloc _) (bcells_one l) (by omega) (by simp) ?_
  intro v' w1 hown hg _
  simp only [Nat.zero_add, List.nil_append] at hown
  obtain ⟨a', c', hv, hs', hlt⟩ := Src.ofOwn hown
  subst hv
  exact h a' c' w1 hs' (((Below.refl _ _).alloc (Nat.le_refl _) _).grown hg (by simp) (fun k hk => by cases hk; exact Nat.le_refl _)) (fun ad had => (hlt ad had).1) hown

/-- The prefix of what a slice leads to, as a string. -/
theorem Src.first {w : World} {a : Option Addr} {n c : Nat} {l R : List UInt8} (h : Src w a n c (bcells (l ++ R))) : Src w a l.length c (bcells l) := by
  have := h.pre l.length (by simp)
  rwa [List.take_left] at this

theorem new_src_drew (w : World) (xs : Array Value) (t : TypeId) : Src (w.alloc (.cells xs t)).drew (some ⟨w.heap.size, 0, none⟩) xs.size xs.size xs.toList :=
  (new_src_of w xs t).grown (row := none) ⟨rfl, rfl, rfl, Nat.le_refl _, fun _ _ _ => rfl⟩ (fun _ _ _ => by simp)

theorem twice_any {w : World} {a : Option Addr} {n c : Nat} {l : List UInt8} {b : Option Addr} {a0 : Option Addr} {n0 c0 : Nat} (hs : Src w a n c (bcells l)) (ht : Src w b 1 1 [.slice a0 n0 c0]) (h0 : Src w a0 n0 c0 (bcells l)) (hn : n0 ≤ 20000) :
    Calls Try.prog 14 #[.slice a n c, .slice b 1 1] w fun e w' => ∃ a c, e = .returned (.slice a (n0 + n0) c) ∧ Src w' a (n0 + n0) c (bcells (l ++ l)) ∧ Below w.heap.size w w' := by
  have e1 := h0.blen
  have e2 := hs.blen
  have hf : flat [⟨a0, n0, c0, l⟩] = l := by simp [flat]
  have h := putb_any a n c l b 1 1 [⟨a0, n0, c0, l⟩] w hs ht (fun q hq => by simp at hq; subst hq; exact h0) (by decide) (by rw [hf]; omega)
  rw [hf] at h
  refine h.mono ?_
  intro e w' hl
  obtain ⟨a', n', c', rfl, hn', _, hs', hb, _⟩ := hl.src
  obtain rfl : n' = n0 + n0 := by rw [hn', List.length_append, e1]
  exact ⟨a', c', rfl, hs', hb⟩

theorem slice_pre (a : Option Addr) (n c p : Nat) (hp : p ≤ c) (h0 : a = none → c = 0) (w : World) : (Instr.slice 22 (.slice a n c) none (some (.int .i64 (p : Int))) none).run Try.prog w = .ok (.slice a p c) w := by
  have h1 : (0 : Int) ≤ (p : Int) := by omega
  have h2 : (p : Int) ≤ (c : Int) := by omega
  cases a with
  | none =>
    obtain rfl := h0 rfl
    obtain rfl : p = 0 := by omega
    go_simp
  | some ad => go_simp

theorem put8_nil {w : World} {a0 : Option Addr} {n0 c0 : Nat} {l : List UInt8} (h0 : Src w a0 n0 c0 (bcells l)) (hn : n0 ≤ 20000) :
    Calls Try.prog 11 #[.slice none 0 0, .slice a0 n0 c0] w fun e w' => ∃ a c, e = .returned (.slice a n0 c) ∧ Src w' a n0 c (bcells l) ∧ Below w.heap.size w w' := by
  refine (put8_any none 0 0 [] a0 n0 c0 l w (Src.nil w) h0 (by omega)).mono ?_
  intro e w' hl
  obtain ⟨a, n, c, rfl, hn', _, hs, hb, _⟩ := hl.src
  obtain rfl : n = n0 := by rw [hn', h0.blen]; rfl
  exact ⟨a, c, rfl, hs, hb⟩

end Go.Proofs.Ytelopplkdlbgbaa
