/-
  Lines (api.Line) in memory; the contract of Lines, for every text.
-/
import Derived.Test.YtldpocbnkggnnaaDoorL0
namespace Go.Proofs.YtldpocbnkggnnaaDoor
open Go.RowKit
set_option linter.unusedSimpArgs false
set_option maxRecDepth 20000
/-- A line: its number, where its words lie, how many, the room, the words. -/
structure Ln where
  n : Nat
  a : Option Addr
  k : Nat
  c : Nat
  ws : List (List UInt8)
def lc (x : Ln) : List Value := [.int .i64 (x.n : Int), .slice x.a x.k x.c]
def lcs (xs : List Ln) : List Value := xs.flatMap lc
def lkey (x : Ln) : Nat × List (List UInt8) := (x.n, x.ws)
theorem lcs_len (ps : List Ln) : (lcs ps).length = ps.length * 2 := by
  induction ps with
  | nil => rfl
  | cons p ps ih => simp only [lcs, List.flatMap_cons, List.length_append, List.length_cons] at *; rw [ih]; simp [lc]; omega
theorem lcs_append (ps qs : List Ln) : lcs (ps ++ qs) = lcs ps ++ lcs qs := by simp [lcs]
theorem lcs_one (ps : List Ln) : ∀ u ∈ lcs ps, u.oneCell' = true := by
  intro u hu
  obtain ⟨p, _, hu⟩ := List.mem_flatMap.1 hu
  simp [lc] at hu
  rcases hu with rfl | rfl <;> rfl
theorem lcs_get (ps : List Ln) (j : Nat) (p : Ln) (h : ps[j]? = some p) (k : Nat) (hk : k < 2) : (lcs ps)[j * 2 + k]? = (lc p)[k]? := by
  induction ps generalizing j with
  | nil => simp at h
  | cons q ps ih =>
    have e : lcs (q :: ps) = lc q ++ lcs ps := by simp [lcs]
    rw [e]
    cases j with
    | zero =>
      simp at h
      subst h
      rw [List.getElem?_append_left (by simp [lc]; omega)]
      simp
    | succ j =>
      rw [List.getElem?_append_right (by simp [lc]; omega)]
      have e2 : (j + 1) * 2 + k - (lc q).length = j * 2 + k := by simp [lc]; omega
      rw [e2]
      exact ih j (by simpa using h)
theorem infoL3 : (Tryd.prog.info? 52).map (fun i => (i.zero, i.size, i.bytes)) = some (some (.agg #[.int .i64 0, .slice none 0 0]), 2, 32) := by kernel_rfl
theorem own_ne {w : World} {B : Nat} {e : TypeId} {s : Nat} {v : Value} {n : Nat} {xs : List Value} (h : w.ownsRow B e s v n xs) {g : Nat} {t : TypeId} {cs : List Value} (hr : Row w g t cs) (ht : t ≠ e) : some g ≠ v.ownBlock := by
  intro hv
  rcases h.2 with ⟨rfl, _⟩ | ⟨g', cap, cur, rfl, _, hh, _⟩
  · simp [Value.ownBlock] at hv
  · cases hv
    unfold Row at hr
    rw [hh] at hr
    cases hr
    exact ht rfl
theorem own_apart {w : World} {B B' : Nat} {e e' : TypeId} {s s' : Nat} {v u : Value} {n m : Nat} {xs ys : List Value} (h : w.ownsRow B e s v n xs) (k : w.ownsRow B' e' s' u m ys) (ht : e' ≠ e) : ∀ b, u.ownBlock = some b → some b ≠ v.ownBlock := by
  intro b hb hv
  rcases k.2 with ⟨rfl, _⟩ | ⟨g', cap, cur, rfl, _, hh, _⟩
  · simp [Value.ownBlock] at hb
  · cases hb
    rcases h.2 with ⟨rfl, _⟩ | ⟨g2, cap2, cur2, rfl, _, hh2, _⟩
    · simp [Value.ownBlock] at hv
    · cases hv
      rw [hh] at hh2
      cases hh2
      exact ht rfl
theorem own_weak {w : World} {B B' : Nat} {e : TypeId} {s : Nat} {v : Value} {n : Nat} {xs : List Value} (h : w.ownsRow B e s v n xs) (hB : B' ≤ B) : w.ownsRow B' e s v n xs := by
  obtain ⟨h1, h2⟩ := h
  refine ⟨h1, ?_⟩
  rcases h2 with h2 | ⟨g, cap, cur, h3, h4, h5⟩
  · exact .inl h2
  · exact .inr ⟨g, cap, cur, h3, Nat.le_trans hB h4, h5⟩
theorem own_below {W W' : World} {B t s k : Nat} {xs : List Value} {v : Value} (ho : W.ownsRow B t s v k xs) (hb : Below W.heap.size W W') : W'.ownsRow B t s v k xs :=
  ho.kept (row := none) ⟨hb.os, hb.tape, hb.output, hb.size, fun i hi _ => hb.block i hi⟩ (by cases v.ownBlock <;> simp)
theorem own_grown {W W' : World} {B t s k : Nat} {xs : List Value} {v : Value} {row : Option Nat} (ho : W.ownsRow B t s v k xs) (hg : W.grownBy W' row) (hne : ∀ b, v.ownBlock = some b → some b ≠ row) : W'.ownsRow B t s v k xs := by
  refine ho.kept (row := row) hg ?_
  cases hv : v.ownBlock with
  | none => simp
  | some b => have := hne b hv; simpa using this
/-- The words of lines, each in memory of its own. -/
def Wds (B : Nat) (w : World) (ls : List Ln) : Prop := ∀ x ∈ ls, w.ownsRow B 9 1 (.slice x.a x.k x.c) x.k (scells x.ws)
theorem Wds.below {B : Nat} {w w' : World} {ls : List Ln} (h : Wds B w ls) (hb : Below w.heap.size w w') : Wds B w' ls := fun x hx => own_below (h x hx) hb
theorem Wds.grown {B B' : Nat} {w w' : World} {ls : List Ln} {v : Value} {n : Nat} {xs : List Value} (h : Wds B w ls) (ho : w.ownsRow B' 52 2 v n xs) (hg : w.grownBy w' v.ownBlock) : Wds B w' ls := fun x hx => own_grown (h x hx) hg (own_apart ho (h x hx) (by decide))
/-- Append a line to a row of the call's own. -/
theorem append_l {w : World} {ops : Array Oper} {rest : List Oper} {o : Oper} {a : Act} {Q : Exit → Act → World → Prop} (hgd : o.guard = none) (s x : Operand)
    (ho : o.op = .call { callee := .builtin .append, args := #[s, x], argTypes := #[29, 29] })
    (base : Nat) (v : Value) (n : Nat) (ps : List Ln) (hs : a.eval s = v) (hown : w.ownsRow base 52 2 v n (lcs ps))
    (g : Nat) (p : Ln) (c : Nat) (hx : a.eval x = .slice (some ⟨g, 0, none⟩) 1 c) (hr : Row w g 52 (lc p))
    (hbytes : n + 1 ≤ 4000000000000) (hbase : base ≤ w.heap.size)
    (h : ∀ v' w', w'.ownsRow base 52 2 v' (n + 1) (lcs (ps ++ [p])) → w.grownBy w' v.ownBlock → wpList Tryd.prog ops Q rest (a.put o.dst v') w') : wpList Tryd.prog ops Q (o :: rest) a w := by
  obtain ⟨i0, hi, hz0, hz1, hz2⟩ := info_parts infoL3
  refine wpList_append_own w hgd s x 29 ho base 52 i0 (.agg #[.int .i64 0, .slice none 0 0]) 2 32 Tryd.underlying29 hi hz0 hz1 hz2 rfl (by decide) v n (lcs ps) hs hown ⟨g, 0, none⟩ 1 c (lc p) hx (by simp [lc]) (fun j u hu => ?_) (by have := lcs_one [p]; simpa [lcs] using this) (by unfold maxLen; omega) (by omega) hbase (fun v' w' h1 h2 _ => h v' w' (by rw [lcs_append]; simpa [lcs] using h1) h2)
  rw [Addr.add_mid, Nat.zero_add, hr.cell]
  exact hu
theorem own_shape2 {w : World} {B : Nat} {e : TypeId} {s : Nat} {v : Value} {n : Nat} {xs : List Value} (h : w.ownsRow B e s v n xs) : ∃ a c, v = .slice a n c := by
  rcases h.2 with ⟨rfl, rfl⟩ | ⟨g, cap, cur, rfl, _⟩
  · exact ⟨_, _, rfl⟩
  · exact ⟨_, _, rfl⟩
abbrev LAns := List (Nat × List (List UInt8)) × Nat × Nat
def lnG : Nat → List (List UInt8) → List (Nat × List (List UInt8)) → LAns
  | _, [], o => (o, 0, 0)
  | i, p :: ps, o => if (wordsL p).2 = 0 then lnG (i + 1) ps (if (wordsL p).1 = [] then o else o ++ [(i + 1, (wordsL p).1)]) else ([], (wordsL p).2, i + 1)
def linesL (l : List UInt8) : LAns := if 65536 < l.length then ([], 1, 0) else lnG 0 (pieces 10 l) []
/-- What Lines answers. -/
def LTold (w : World) (A : LAns) (e : Ending) (w' : World) : Prop := ∃ a c ls, e = .returned (.tuple #[.slice a ls.length c, .int .i64 (A.2.1 : Int), .int .i64 (A.2.2 : Int)]) ∧ ls.map lkey = A.1 ∧ w'.ownsRow w.heap.size 52 2 (.slice a ls.length c) ls.length (lcs ls) ∧ Wds w.heap.size w' ls ∧ Below w.heap.size w w'
set_option maxHeartbeats 1000000 in
theorem lines_any (t : ByteArray) (w : World) (hM : Ml w) : Calls Tryd.prog 11 #[.string t] w (LTold w (linesL t.data.toList)) := by
  have hlen := len_t t
  by_cases hbig : 65536 < t.size
  · have HA : Hid (linesL t.data.toList = ([], 1, 0)) := by show _ = _; unfold linesL; rw [if_pos (by omega)]
    generalize linesL t.data.toList = A at *
    have hb' : (65536 : Int) < (t.size : Int) := by omega
    clear hlen
    go_enter Tryd.func11, Tryd.ntmps11
    go_wp2
    go_ret3
    rw [HA.out]
    exact ⟨none, 0, [], rfl, rfl, World.ownsRow_nil _ _ _ _, (fun x hx => by cases hx), Below.refl _ _⟩
  · have HA : Hid (linesL t.data.toList = lnG 0 (pieces 10 t.data.toList) []) := by show _ = _; unfold linesL; rw [if_neg (by omega)]
    have hsp := split_any t w hM (by omega)
    have hpn := pieces_count 10 t.data.toList
    have hb' : ¬ (65536 : Int) < (t.size : Int) := by omega
    generalize linesL t.data.toList = A at *
    obtain ⟨ps, hps⟩ : ∃ ps, ps = pieces 10 t.data.toList := ⟨_, rfl⟩
    rw [← hps] at hsp HA hpn
    obtain ⟨n, hn⟩ : ∃ n, n = ps.length := ⟨_, rfl⟩
    rw [← hn] at hsp hpn
    have HN : Hid (n = ps.length) := hn
    rw [hlen] at hpn
    clear hps hlen hn
    have m1 : True := trivial
    go_enter Tryd.func11, Tryd.ntmps11
    go_wp2_with (go_at_call 30; refine hsp.mono ?_; rintro e w1 ⟨rfl, hr1, hb1⟩)
    clear hsp
    go_loopw [5, 16] (fun v i wr => ∃ (j : Nat) (ls : List Ln), j ≤ n ∧ i = .int .i64 j ∧ ls.length ≤ j ∧ Hid (A = lnG j (ps.drop j) (ls.map lkey)) ∧ wr.ownsRow w.heap.size 52 2 v ls.length (lcs ls) ∧ Wds w.heap.size wr ls ∧ Row wr w.heap.size 9 (scells ps) ∧ Below w.heap.size w wr) (fun _ i _ => n - (intOf i).toNat)
    case atStart => exact ⟨0, [], Nat.zero_le _, rfl, Nat.le_refl _, HA.out, World.ownsRow_nil _ _ _ _, (fun x hx => by cases hx), hr1, hb1⟩
    case round =>
      clear hr1 hb1 HA
      rename_i wr
      obtain ⟨j, ls, hj, rfl, hll, hQ, hO, hW, hr, hb⟩ := hrel
      have w1 : wrap64 ((j : Int) + 1) = (j : Int) + 1 := by unfold wrap64; omega
      by_cases hlt : j < n
      · have j1 : j < ps.length := by rw [← HN.out]; exact hlt
        have c1 : wr.cell? ⟨w.heap.size, j, none⟩ = some (.string (str ps[j])) := (hr.cell j).trans (scells_at (List.getElem?_eq_getElem j1))
        have hQ2 : Hid (A = if (wordsL ps[j]).2 = 0 then lnG (j + 1) (ps.drop (j + 1)) (if (wordsL ps[j]).1 = [] then ls.map lkey else ls.map lkey ++ [(j + 1, (wordsL ps[j]).1)]) else ([], (wordsL ps[j]).2, j + 1)) := by
          show _ = _
          rw [hQ.out, List.drop_eq_getElem_cons j1]
          rfl
        obtain ⟨x, hx⟩ : ∃ x, x = ps[j] := ⟨_, rfl⟩
        rw [← hx] at c1 hQ2
        clear hx hQ
        obtain ⟨sx, hsx⟩ : ∃ sx, sx = str x := ⟨_, rfl⟩
        have hWd := words_l sx (wordsL x) (by rw [hsx]) wr (hM.keep hb)
        rw [← hsx] at c1
        have hfew := words_few x
        clear hsx
        generalize wordsL x = WA at *
        obtain ⟨vs, en⟩ := WA
        dsimp only at hWd hQ2 hfew
        by_cases he : en = 0
        · subst he
          rw [if_pos rfl] at hQ2
          by_cases hv : vs = []
          · subst hv
            rw [if_pos rfl] at hQ2
            go_wp2_with (go_at_call 9; refine hWd.mono ?_; rintro e w2 ⟨a2, c2, rfl, hO2, hs2, hb2⟩; replace hO := own_below hO hb2; replace hW := hW.below hb2; replace hr := hr.below hb2 hr.lt; replace hb := bt hb hb2)
            go_roundw
            case rel => exact ⟨j + 1, ls, by omega, by go_num, by omega, hQ2, hO, hW, hr, hb⟩
            case measure => simp [intOf]; omega
          · rw [if_neg hv] at hQ2
            have hv0 : 0 < vs.length := List.length_pos_iff.2 hv
            have HV : Hid (vs ≠ []) := hv
            clear hv
            generalize hvn : vs.length = vn at *
            have hbs := hb.size
            go_wp2_with (first
              | (go_at_call 9; refine hWd.mono ?_; rintro e w2 ⟨a2, c2, rfl, hO2, hs2, hb2⟩; replace hO := own_below hO hb2; replace hW := hW.below hb2; replace hr := hr.below hb2 hr.lt; replace hb := bt hb hb2; replace hO2 := own_weak hO2 hbs)
              | (at_builtin; refine append_l rfl (.tmp 34) (.tmp 39) rfl w.heap.size _ _ ls rfl (hO.alloc _) w2.heap.size ⟨j + 1, a2, vn, c2, vs⟩ 1 rfl (Row.new w2 _ (lc ⟨j + 1, a2, vn, c2, vs⟩)) (by omega) (by have := hb.size; simp; omega) ?_; intro v3 w3 hO3 hg3))
            have hW3 : Wds w.heap.size w3 (ls ++ [⟨j + 1, a2, vn, c2, vs⟩]) := by
              intro y hy
              rcases List.mem_append.1 hy with hy | hy
              · exact (hW.below ((Below.refl _ _).alloc (Nat.le_refl _) _)).grown (hO.alloc _) hg3 y hy
              · simp at hy
                subst hy
                exact own_grown (hO2.alloc _) hg3 (own_apart hO hO2 (by decide))
            have hr3 := (hr.alloc _).grown hg3 (own_ne hO hr (by decide))
            have hb3 := (hb.alloc hb.size _).grown hg3 (by have := hb.size; simp; omega) (fun k hk => (hO.lt k hk).1)
            go_roundw
            case rel => exact ⟨j + 1, ls ++ [⟨j + 1, a2, vn, c2, vs⟩], by omega, by go_num, by simp; omega, by show _ = _; rw [hQ2.out]; simp [lkey], by simpa using hO3, hW3, hr3, hb3⟩
            case measure => simp [intOf]; omega
        · have he' : ((en : Int) == 0) = false := by rw [beq_eq_false_iff_ne]; omega
          rw [if_neg he] at hQ2
          clear he
          go_wp2_with (go_at_call 9; refine hWd.mono ?_; rintro e w2 ⟨a2, c2, rfl, hO2, hs2, hb2⟩; replace hb := bt hb hb2)
          go_ret3
          rw [hQ2.out]
          exact ⟨none, 0, [], rfl, rfl, World.ownsRow_nil _ _ _ _, (fun x hx => by cases hx), hb⟩
      · obtain rfl : n = j := by omega
        have HA : Hid (A = (ls.map lkey, 0, 0)) := by
          show _ = _
          rw [hQ.out, List.drop_eq_nil_of_le (by rw [HN.out]; exact Nat.le_refl _)]; rfl
        obtain ⟨a5, c5, rfl⟩ := own_shape2 hO
        go_wp2
        go_ret3
        rw [HA.out]
        exact ⟨_, _, ls, rfl, rfl, hO, hW, hb⟩
end Go.Proofs.YtldpocbnkggnnaaDoor
