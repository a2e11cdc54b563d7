/-
  addr.joinGroups: what it answers for every bytes.
-/
import Derived.Test.YtimpopolkofdgaaGreatDoorWords
import Derived.Test.YtimpopolkofdgaaGreatDoorFmt
namespace Go.Proofs.YtimpopolkofdgaaGreatDoor
open Go.RowKit Go.Shelf
set_option linter.unusedSimpArgs false
set_option maxRecDepth 20000
/-- The library's variables that Print asks for besides. -/
def Tz (w : World) : Prop := w.cell? ⟨7, 15, none⟩ = some (.int .u8 4)
theorem Tz.keep {w w' : World} {B : Nat} (h : Tz w) (hb : Below B w w') (hB : 8 ≤ B) : Tz w' := (hb.cell (p := ⟨7, 15, none⟩) (by show 7 < B; omega)).trans h
/-- The groups of some bytes, as texts. -/
def grps : List UInt8 → List (List UInt8)
  | a :: b :: r => hexs (a.toNat * 256 + b.toNat) :: grps r
  | _ => []
def joinG (l : List UInt8) : List UInt8 := Lib.join (grps l) [58]
def scells (l : List (List UInt8)) : List Value := l.map fun s => Value.string (str s)
theorem grps_two : ∀ (l : List UInt8) (k : Nat) (a b : UInt8), k % 2 = 0 → l[k]? = some a → l[k + 1]? = some b → grps (l.take (k + 2)) = grps (l.take k) ++ [hexs (a.toNat * 256 + b.toNat)]
  | [], k, a, b, _, h, _ => by simp at h
  | [x], k, a, b, _, h, h' => by simp at h'
  | x :: y :: r, 0, a, b, _, h, h' => by
    simp at h h'
    subst h h'
    simp [grps]
  | x :: y :: r, 1, a, b, hk, h, h' => by omega
  | x :: y :: r, k + 2, a, b, hk, h, h' => by
    have ih := grps_two r k a b (by omega) (by simpa using h) (by simpa using h')
    simp only [List.take_succ_cons, grps]
    rw [ih]
    rfl
theorem grps_len : ∀ (l : List UInt8), (grps l).length = l.length / 2
  | [] => rfl
  | [_] => by simp [grps]
  | _ :: _ :: r => by simp only [grps, List.length_cons]; rw [grps_len r]; omega
theorem or_nat (a b : Nat) (ha : a < 256) (hb : b < 256) : bits BinOp.or IntKind.u64 (((a * 256 : Nat)) : Int) (b : Int) = ((a * 256 + b : Nat) : Int) := by
  have hx : a * 256 ||| b = a * 256 + b := by
    have := Nat.two_pow_add_eq_or_of_lt (i := 8) (b := b) (by omega) a
    rw [Nat.mul_comm a 256]
    exact this.symm
  have h1 : (BitVec.ofInt 64 ((a * 256 : Nat) : Int)).toNat = a * 256 := by
    rw [BitVec.ofInt_natCast, BitVec.toNat_ofNat]; exact Nat.mod_eq_of_lt (by omega)
  have h2 : (BitVec.ofInt 64 (b : Int)).toNat = b := by
    rw [BitVec.ofInt_natCast, BitVec.toNat_ofNat]; exact Nat.mod_eq_of_lt (by omega)
  show IntKind.u64.wrap ((BitVec.ofInt 64 ((a * 256 : Nat) : Int) ||| BitVec.ofInt 64 (b : Int)).toNat : Int) = _
  rw [BitVec.toNat_or, h1, h2, IntKind.wrap_u64, hx]
  omega
theorem info_str : (Tryz.prog.info? 9).map (fun i => (i.zero, i.size, i.bytes)) = some (some (.string ⟨#[]⟩), 1, 16) := by kernel_rfl
section
variable {ops : Array Oper} {o : Oper} {a : Act} {w : World} {K : Act → World → Prop} {Q : Exit → Act → World → Prop} {E : Prop}
/-- A word behind a row of words that nobody else knows. -/
theorem stepW (s x : Operand) (ho : o.op = .call { callee := .builtin .append, args := #[s, x], argTypes := #[75, 75] }) (hw : Region.wanted o (yielded ops a.tmps) = true) (base : Nat) (v : Value) (n : Nat) (xs : List Value) (hs : a.eval s = v) (hown : w.ownsRow base 9 1 v n xs)
    (g : Nat) (u : ByteArray) (hx : a.eval x = .slice (some ⟨g, 0, none⟩) 1 1) (hr : w.cell? ⟨g, 0, none⟩ = some (.string u)) (h63 : n ≤ 1000) (hbase : base ≤ w.heap.size)
    (h : ∀ v' w', w'.ownsRow base 9 1 v' (n + 1) (xs ++ [.string u]) → w.grownBy w' v.ownBlock → K (a.put o.dst v') w') : if Region.wanted o (yielded ops a.tmps) = true then Oper.wp Tryz.prog o a w K Q else E := by
  rw [if_pos hw]
  obtain ⟨i, hi, hz, h1, h2⟩ := info_parts info_str
  exact wp_append_own w s x 75 ho base 9 i (.string ⟨#[]⟩) 1 16 Tryz.underlying75 hi hz h1 h2 rfl (by decide) v n xs hs hown ⟨g, 0, none⟩ 1 1 [.string u] hx rfl (fun j y hj => by
    rcases j with _ | j
    · simp at hj; subst hj; exact hr
    · simp at hj) (by simp [Value.oneCell']) (by unfold maxLen; omega) (by omega) hbase (fun v' w' a1 a2 _ => h v' w' a1 a2)
end
theorem scells_get {ws : List (List UInt8)} {j : Nat} {x : ByteArray} (h : (ws.map str)[j]? = some x) : (scells ws)[j]? = some (.string x) := by
  unfold scells
  rw [List.getElem?_map] at h ⊢
  cases hw : ws[j]? with
  | none => rw [hw] at h; cases h
  | some y => rw [hw] at h; cases h; rfl
theorem map_str (ws : List (List UInt8)) : (ws.map str).map (·.data.toList) = ws := by
  rw [List.map_map]
  exact (List.map_congr_left (fun x _ => rfl)).trans (List.map_id ws)
theorem join_own (ws : List (List UInt8)) (c : UInt8) (base : Nat) (v : Value) (w : World) (hO : w.ownsRow base 9 1 v ws.length (scells ws)) (hN : ws.length ≤ 1000) (hlen : (Lib.join ws [c]).length ≤ 1000000) :
    Calls Tryz.prog 77 #[v, .string ⟨#[c]⟩] w fun e w' => e = .returned (.string (str (Lib.join ws [c]))) ∧ Below w.heap.size w w' := by
  obtain ⟨hl, ⟨rfl, h0⟩ | ⟨g, cap, cur, rfl, hb, hg, hc, hm, hs, ht⟩⟩ := id hO
  · have : ws = [] := List.eq_nil_of_length_eq_zero h0
    subst this
    refine (Tryz.strings_Join_none none 0 ⟨#[c]⟩ w).mono fun e w' ⟨h1, h2⟩ => ⟨h1, by rw [h2]; exact Below.refl _ _⟩
  · have h1 := Tryz.strings_Join g 0 cap (ws.map str) ⟨#[c]⟩ w (fun j x hx => by
      have hj : j < ws.length := by have := (List.getElem?_eq_some_iff.1 hx).1; simpa using this
      rw [Nat.zero_add, hO.cellAt j (by omega)]
      exact scells_get hx) (Array.getElem?_eq_some_iff.1 hg).1 (by simp; omega) (by simpa using hc) (by rw [map_str]; show (Lib.join ws [c]).length ≤ _; omega)
    rw [map_str, List.length_map] at h1
    exact h1
theorem hexs_len (u : Nat) (h : u < 65536) : (hexs u).length ≤ 4 := by
  rw [hexs_eq]
  split
  · simp
  · rw [hexs_eq]
    split
    · simp
    · rw [hexs_eq]
      split
      · simp
      · rw [hexs_eq]
        split
        · simp
        · omega
theorem grps_all : ∀ (l : List UInt8), ∀ x ∈ grps l, x.length ≤ 4
  | [], x, h => by simp [grps] at h
  | [_], x, h => by simp [grps] at h
  | a :: b :: r, x, h => by
    simp only [grps, List.mem_cons] at h
    rcases h with rfl | h
    · exact hexs_len _ (by have := a.toNat_lt; have := b.toNat_lt; omega)
    · exact grps_all r x h
theorem join_len (m : Nat) (c : UInt8) : ∀ (ws : List (List UInt8)), (∀ x ∈ ws, x.length ≤ m) → (Lib.join ws [c]).length ≤ ws.length * (m + 1)
  | [], _ => by simp [Lib.join, List.intercalate]
  | [x], h => by rw [Lib.join_one]; have := h x (by simp); simp; omega
  | x :: y :: r, h => by
    have ih := join_len m c (y :: r) (fun z hz => h z (by simp [hz]))
    have := h x (by simp)
    have e : Lib.join (x :: y :: r) [c] = x ++ ([c] ++ Lib.join (y :: r) [c]) := by simp [Lib.join, List.intercalate, List.intersperse]
    rw [e]
    simp only [List.length_append, List.length_cons, List.length_nil] at ih ⊢
    have e2 : (r.length + 1 + 1) * (m + 1) = (r.length + 1) * (m + 1) + (m + 1) := by rw [Nat.add_mul (r.length + 1), Nat.one_mul]
    omega
theorem own_belowW {W W' : World} {n0 k : Nat} {xs : List Value} {v : Value} (ho : W.ownsRow n0 9 1 v k xs) (hb : Below W.heap.size W W') : W'.ownsRow n0 9 1 v k xs :=
  ho.kept (row := none) ⟨hb.os, hb.tape, hb.output, hb.size, fun i hi _ => hb.block i hi⟩ (by cases v.ownBlock <;> simp)
set_option maxHeartbeats 4000000 in
theorem joinGroups_any (l : List UInt8) (g o n c : Nat) (w : World) (hn : l.length = n) (h2 : n % 2 = 0) (h16 : n ≤ 16) (hc : ∀ j x, l[j]? = some x → w.cell? ⟨g, o + j, none⟩ = some (.int .u8 (x.toNat : Int))) (hg : n = 0 ∨ g < w.heap.size) (hT : Tz w) (hs8 : 8 ≤ w.heap.size) :
    Calls Tryz.prog 79 #[.slice (some ⟨g, o, none⟩) n c] w (Gives w (.string (str (joinG l)))) := by
  have HN : Hid (l.length = n) := hn
  clear hn
  go_enter Tryz.func79, Tryz.ntmps79
  go_wp2
  go_loopw [3, 4] (fun v i wr => ∃ k : Nat, k ≤ n ∧ k % 2 = 0 ∧ i = .int .i64 (k : Int) ∧ wr.ownsRow w.heap.size 9 1 v (k / 2) (scells (grps (l.take k))) ∧ Below w.heap.size w wr) (fun _ i _ => n - (intOf i).toNat)
  case atStart => exact ⟨0, Nat.zero_le _, rfl, rfl, World.ownsRow_nil _ _ _ _, Below.refl _ _⟩
  case round =>
    obtain ⟨k, hk, hk2, rfl, hO, hB⟩ := hrel
    by_cases hlt : k < n
    · obtain ⟨x, hx⟩ : ∃ x, l[k]? = some x := ⟨_, List.getElem?_eq_getElem (by rw [HN.out]; omega)⟩
      obtain ⟨y, hy⟩ : ∃ y, l[k + 1]? = some y := ⟨_, List.getElem?_eq_getElem (by rw [HN.out]; omega)⟩
      have hgw : g < w.heap.size := by omega
      have HX : Hid (∀ W, Below w.heap.size w W → W.cell? ⟨g, o + k, none⟩ = some (.int .u8 (x.toNat : Int))) := fun W hb => (hb.cell (p := ⟨g, o + k, none⟩) hgw).trans (hc k x hx)
      have HY : Hid (∀ W, Below w.heap.size w W → W.cell? ⟨g, o + (k + 1), none⟩ = some (.int .u8 (y.toNat : Int))) := fun W hb => (hb.cell (p := ⟨g, o + (k + 1), none⟩) hgw).trans (hc (k + 1) y hy)
      have HE : Hid (scells (grps (l.take (k + 2))) = scells (grps (l.take k)) ++ [.string (str (hexs (x.toNat * 256 + y.toNat)))]) := by
        show _ = _
        rw [grps_two l k x y hk2 hx hy]
        simp [scells]
      have hx8 := x.toNat_lt
      have hy8 := y.toNat_lt
      obtain ⟨a, ha⟩ : ∃ a, a = x.toNat := ⟨_, rfl⟩
      obtain ⟨b, hb⟩ : ∃ b, b = y.toNat := ⟨_, rfl⟩
      rw [← ha] at HX HE hx8
      rw [← hb] at HY HE hy8
      have hor := or_nat a b hx8 hy8
      have hsh : IntKind.u64.wrap ((a : Int) * 256) = ((a * 256 : Nat) : Int) := by rw [IntKind.wrap_u64]; omega
      have hwa : IntKind.u64.wrap (a : Int) = (a : Int) := by rw [IntKind.wrap_u64]; omega
      have hwb : IntKind.u64.wrap (b : Int) = (b : Int) := by rw [IntKind.wrap_u64]; omega
      have hlm : a * 256 + b < 65536 := by omega
      obtain ⟨m, hm⟩ : ∃ m, m = a * 256 := ⟨_, rfl⟩
      rw [← hm] at hsh hor HE hlm
      obtain ⟨u, hu⟩ : ∃ u, u = m + b := ⟨_, rfl⟩
      rw [← hu] at hor HE hlm
      have hF : ∀ W, Below w.heap.size w W → _ := fun W hB' => fmt_16 u hlm W (hT.keep hB' hs8)
      have k0 : (0 : Int) ≤ (k : Int) := by omega
      have k1 : (k : Int) < (n : Int) := by omega
      have hkw : IntKind.i64.wrap ((k : Int) + 1) = (k : Int) + 1 := by rw [IntKind.wrap_i64]; omega
      have k2 : (k : Int) + 1 < (n : Int) := by omega
      have k3 : (0 : Int) ≤ (k : Int) + 1 := by omega
      clear hx hy ha hb hc hm hu
      go_wp2
      refine wp_region_noPanic ?_
      refine wp_region_held_drew (S := fun W => Below w.heap.size w W) (by kernel_rfl) (hB.drew) (fun hHeld => ?_)
      refine take_lit (i := 0) (v := ?_) rfl (by kernel_rfl) (by kernel_rfl) (by kernel_rfl) (fun _ _ _ h => h) (Or.inl ⟨by rfl, ?_⟩) (by assumption) ?_
      rotate_left
      · (intro w hSw; (try dsimp only at hSw); go_simp <;> with_reducible rfl)
      try simp only [Act.put, List.setIfInBounds_toArray, List.set_cons_zero, List.set_cons_succ]
      refine take_lit (i := 1) (v := ?_) rfl (by kernel_rfl) (by kernel_rfl) (by kernel_rfl) (fun _ _ _ h => h) (Or.inl ⟨by rfl, ?_⟩) (by assumption) ?_
      rotate_left
      · (intro w hSw; (try dsimp only at hSw); go_simp <;> with_reducible rfl)
      try simp only [Act.put, List.setIfInBounds_toArray, List.set_cons_zero, List.set_cons_succ]
      refine take_lit (i := 2) (v := ?_) rfl (by kernel_rfl) (by kernel_rfl) (by kernel_rfl) (fun _ _ _ h => h) (Or.inl ⟨by rfl, ?_⟩) (by assumption) ?_
      rotate_left
      · (intro w hSw; (try dsimp only at hSw); go_simp <;> with_reducible rfl)
      try simp only [Act.put, List.setIfInBounds_toArray, List.set_cons_zero, List.set_cons_succ]
      refine take_lit (i := 3) (v := ?_) rfl (by kernel_rfl) (by kernel_rfl) (by kernel_rfl) (fun _ _ _ h => h) (Or.inl ⟨by rfl, ?_⟩) (by assumption) ?_
      rotate_left
      · (intro w hSw; (try dsimp only at hSw); go_simp <;> with_reducible rfl)
      try simp only [Act.put, List.setIfInBounds_toArray, List.set_cons_zero, List.set_cons_succ]
      refine take_lit (i := 4) (v := ?_) rfl (by kernel_rfl) (by kernel_rfl) (by kernel_rfl) (fun _ _ _ h => h) (Or.inl ⟨by rfl, ?_⟩) (by assumption) ?_
      rotate_left
      · (intro w hSw; (try dsimp only at hSw); have hcx := HX.out _ hSw; go_simp <;> with_reducible rfl)
      try simp only [Act.put, List.setIfInBounds_toArray, List.set_cons_zero, List.set_cons_succ]
      refine take_lit (i := 5) (v := ?_) rfl (by kernel_rfl) (by kernel_rfl) (by kernel_rfl) (fun _ _ _ h => h) (Or.inl ⟨by rfl, ?_⟩) (by assumption) ?_
      rotate_left
      · (intro w hSw; (try dsimp only at hSw); go_simp <;> with_reducible rfl)
      try simp only [Act.put, List.setIfInBounds_toArray, List.set_cons_zero, List.set_cons_succ]
      refine take_lit (i := 6) (v := ?_) rfl (by kernel_rfl) (by kernel_rfl) (by kernel_rfl) (fun _ _ _ h => h) (Or.inl ⟨by rfl, ?_⟩) (by assumption) ?_
      rotate_left
      · (intro w hSw; (try dsimp only at hSw); go_simp <;> with_reducible rfl)
      try simp only [Act.put, List.setIfInBounds_toArray, List.set_cons_zero, List.set_cons_succ]
      refine take_lit (i := 7) (v := ?_) rfl (by kernel_rfl) (by kernel_rfl) (by kernel_rfl) (fun _ _ _ h => h) (Or.inl ⟨by rfl, ?_⟩) (by assumption) ?_
      rotate_left
      · (intro w hSw; (try dsimp only at hSw); go_simp <;> with_reducible rfl)
      try simp only [Act.put, List.setIfInBounds_toArray, List.set_cons_zero, List.set_cons_succ]
      refine take_lit (i := 8) (v := ?_) rfl (by kernel_rfl) (by kernel_rfl) (by kernel_rfl) (fun _ _ _ h => h) (Or.inl ⟨by rfl, ?_⟩) (by assumption) ?_
      rotate_left
      · (intro w hSw; (try dsimp only at hSw); go_simp <;> with_reducible rfl)
      try simp only [Act.put, List.setIfInBounds_toArray, List.set_cons_zero, List.set_cons_succ]
      refine take_lit (i := 9) (v := ?_) rfl (by kernel_rfl) (by kernel_rfl) (by kernel_rfl) (fun _ _ _ h => h) (Or.inl ⟨by rfl, ?_⟩) (by assumption) ?_
      rotate_left
      · (intro w hSw; (try dsimp only at hSw); go_simp <;> with_reducible rfl)
      try simp only [Act.put, List.setIfInBounds_toArray, List.set_cons_zero, List.set_cons_succ]
      refine take_lit (i := 10) (v := ?_) rfl (by kernel_rfl) (by kernel_rfl) (by kernel_rfl) (fun _ _ _ h => h) (Or.inl ⟨by rfl, ?_⟩) (by assumption) ?_
      rotate_left
      · (intro w hSw; (try dsimp only at hSw); go_simp <;> with_reducible rfl)
      try simp only [Act.put, List.setIfInBounds_toArray, List.set_cons_zero, List.set_cons_succ]
      refine take_lit (i := 11) (v := ?_) rfl (by kernel_rfl) (by kernel_rfl) (by kernel_rfl) (fun _ _ _ h => h) (Or.inl ⟨by rfl, ?_⟩) (by assumption) ?_
      rotate_left
      · (intro w hSw; (try dsimp only at hSw); have hcy := HY.out _ hSw; go_simp <;> with_reducible rfl)
      try simp only [Act.put, List.setIfInBounds_toArray, List.set_cons_zero, List.set_cons_succ]
      refine take_lit (i := 12) (v := ?_) rfl (by kernel_rfl) (by kernel_rfl) (by kernel_rfl) (fun _ _ _ h => h) (Or.inl ⟨by rfl, ?_⟩) (by assumption) ?_
      rotate_left
      · (intro w hSw; (try dsimp only at hSw); go_simp <;> with_reducible rfl)
      try simp only [Act.put, List.setIfInBounds_toArray, List.set_cons_zero, List.set_cons_succ]
      refine take_lit (i := 13) (v := ?_) rfl (by kernel_rfl) (by kernel_rfl) (by kernel_rfl) (fun _ _ _ h => h) (Or.inl ⟨by rfl, ?_⟩) (by assumption) ?_
      rotate_left
      · (intro w hSw; (try dsimp only at hSw); go_simp <;> with_reducible rfl)
      try simp only [Act.put, List.setIfInBounds_toArray, List.set_cons_zero, List.set_cons_succ]
      refine wpAnyH_ready (rs := [14]) (by kernel_rfl) (by simp) ?_
      refine cons_lit rfl (fun K hK => ?_) ?_
      · go_simp
        refine (hF _ hHeld).mono ?_
        rintro e w1 ⟨rfl, hB1⟩
        have hO1 := own_belowW hO.drew hB1
        refine hK.out _ _ ?_ (fun hHeld => ?_)
        · exact hHeld.trans (hB1.mono hHeld.size)
        clear hK K
        try simp only [Act.put, List.setIfInBounds_toArray, List.set_cons_zero, List.set_cons_succ]
        refine wpAnyH_ready (rs := [15]) (by kernel_rfl) (by simp) ?_
        refine cons_lit rfl (fun K hK => ?_) ?_
        · go_simp
          refine hK.out _ _ ?_ (fun hHeld => ?_)
          · exact hHeld.alloc hHeld.size _
          clear hK K
          try simp only [Act.put, List.setIfInBounds_toArray, List.set_cons_zero, List.set_cons_succ]
          refine wpAnyH_ready (rs := [16]) (by kernel_rfl) (by simp) ?_
          refine cons_lit rfl (fun K hK => ?_) ?_
          · skip
            refine stepW (.tmp 11) (.tmp 26) rfl (by kernel_rfl) w.heap.size _ (k / 2) _ rfl (hO1.alloc _) w1.heap.size (str (hexs u)) rfl ((Row.new w1 _ [_]).cell 0) (by omega) hHeld.size ?_
            intro v' w3 hO3 hg3
            refine hK.out _ _ ?_ (fun hHeld => ?_)
            · exact hHeld.grown hg3 hHeld.size (fun j e => (hO1.lt j e).1)
            clear hK K
            try simp only [Act.put, List.setIfInBounds_toArray, List.set_cons_zero, List.set_cons_succ]
            refine take_lit (i := 17) (v := ?_) rfl (by kernel_rfl) (by kernel_rfl) (by kernel_rfl) (fun _ _ _ h => h) (Or.inl ⟨by rfl, ?_⟩) (by assumption) ?_
            rotate_left
            · (intro w hSw; (try dsimp only at hSw); go_simp <;> with_reducible rfl)
            try simp only [Act.put, List.setIfInBounds_toArray, List.set_cons_zero, List.set_cons_succ]
            refine wpAnyH_done (by kernel_rfl) ?_ _
            refine NoPanic.normal ?_
            go_wp2
            go_roundw
            case rel => exact ⟨k + 2, by omega, by omega, by go_num, by rw [HE.out, show (k + 2) / 2 = k / 2 + 1 by omega]; exact hO3, hHeld⟩
            case measure => simp [intOf]; omega
          exact AllReadyH.nil
        exact AllReadyH.nil
      exact AllReadyH.nil
    · obtain rfl : n = k := by omega
      have HL : Hid (l.take n = l) := List.take_of_length_le (by rw [HN.out]; exact Nat.le_refl _)
      have hlen : (grps l).length = n / 2 := by rw [grps_len, HN.out]
      rw [HL.out, ← hlen] at hO
      have hj := join_own (grps l) 58 w.heap.size _ wr hO (by omega) (Nat.le_trans (join_len 4 58 _ (grps_all l)) (by omega))
      clear hlen hO
      go_wp2_with (go_at_call 77; refine hj.mono ?_; rintro e w' ⟨rfl, hB'⟩)
      go_ret
      exact ⟨rfl, hB.trans (hB'.mono hB.size)⟩
end Go.Proofs.YtimpopolkofdgaaGreatDoor
