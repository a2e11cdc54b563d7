/-
  addr.parseGroups, for every text.
-/
import Derived.Test.YtimpopolkofdgaaGreatDoorGroups
namespace Go.Proofs.YtimpopolkofdgaaGreatDoor
open Go.RowKit Go.Shelf
set_option linter.unusedSimpArgs false

/-- An address out of the groups ahead of :: and behind it. -/
def sixA (f b : List UInt8) : Ad := ⟨(f ++ List.replicate (16 - f.length - b.length) 0 ++ b ++ List.replicate 16 0).take 16, by simp; omega⟩
def six (s : List UInt8) : Option Ad := match grp (Lib.cut s [58, 58]).1, grp (Lib.cut s [58, 58]).2.1 with
  | some f, some b => if (Lib.cut s [58, 58]).2.2 = true ∧ (16 : Int) - f.length - b.length < 2 ∨ (Lib.cut s [58, 58]).2.2 = false ∧ (16 : Int) - f.length - b.length ≠ 0 then none else some (sixA f b)
  | _, _ => none
theorem grp_len {s l : List UInt8} (h : grp s = some l) : l.length ≤ 16 := by
  unfold grp at h
  split at h
  · cases h; simp
  · exact (grpGo_len _ _ _ (by simp) rfl h).1
theorem cut_len (s sep : List UInt8) : (Lib.cut s sep).1.length ≤ s.length ∧ (Lib.cut s sep).2.1.length ≤ s.length := by
  unfold Lib.cut
  split
  · simp; omega
  · simp
theorem own_src {W : World} {n0 k c : Nat} {a : Option Addr} {l : List UInt8} (ho : W.ownsRow n0 5 1 (.slice a k c) l.length (bcells l)) : k = l.length ∧ (0 < l.length → ∃ ad, a = some ad ∧ ∀ j v, (bcells l)[j]? = some v → W.cell? (ad.add j) = some v) := by
  rcases ho.2 with ⟨h1, h2⟩ | ⟨g, cap, cur, h1, _⟩
  · cases h1; exact ⟨h2.symm, fun h => by omega⟩
  · cases h1
    exact ⟨rfl, fun _ => ⟨_, rfl, fun j v hv => ho.cells rfl j v hv⟩⟩

theorem Row.keptNe {W W' : World} {B g : Nat} {t : TypeId} {cs : List Value} (h : Row W B t cs) (hg : W.grownBy W' (some g)) (hne : B ≠ g) : Row W' B t cs :=
  (hg.block B h.lt (fun e => by cases e; exact hne rfl)).trans h
theorem own_keptRow {W W' : World} {n0 k B : Nat} {t : TypeId} {cs xs : List Value} {v : Value} (ho : W.ownsRow n0 5 1 v k xs) (h : Row W B t cs) (ht : t ≠ 5) (hg : W.grownBy W' (some B)) : W'.ownsRow n0 5 1 v k xs := by
  refine ho.kept hg ?_
  rcases ho.2 with ⟨rfl, _⟩ | ⟨g, cap, cur, rfl, _, hgb, _⟩
  · exact .inl rfl
  · refine .inr fun e => ?_
    simp only [Value.ownBlock, Option.some.injEq] at e
    subst e
    rw [h] at hgb
    cases hgb
    exact ht rfl
theorem copyRow {w : World} {ops : Array Oper} {rest : List Oper} {o : Oper} {a : Act} {Q : Exit → Act → World → Prop} (hgd : o.guard = none) (d s : Operand)
    (ho : o.op = .call { callee := .builtin .copy, args := #[d, s], argTypes := #[83, 83] })
    (dp sp : Option Addr) (dLen dCap sLen sCap : Nat) (hd : a.eval d = .slice dp dLen dCap) (hs : a.eval s = .slice sp sLen sCap)
    (g off : Nat) (cur : List Value) (t : TypeId) (hg : Row w g t cur) (cs : List Value) (hn : cs.length = Nat.min sLen dLen)
    (hpos : 0 < cs.length → dp = some ⟨g, off, none⟩ ∧ ∃ ad, sp = some ad ∧ ∀ j v, cs[j]? = some v → w.cell? (ad.add j) = some v)
    (hfit : off + cs.length ≤ cur.length) (h1 : ∀ v ∈ cs, v.oneCell' = true)
    (h : ∀ w', Hid (Row w' g t (splice cur off cs)) → w.grownBy w' (some g) → wpList Tryz.prog ops Q rest (a.put o.dst (goInt cs.length)) w') :
    wpList Tryz.prog ops Q (o :: rest) a w := by
  by_cases h0 : cs.length = 0
  · obtain rfl : cs = [] := List.eq_nil_of_length_eq_zero h0
    refine wpList_copy_nothing hgd d s _ _ ho 5 Tryz.underlying83 (by kernel_rfl) dp sp dLen dCap sLen sCap hd hs (by simpa using hn.symm) ?_
    exact h w (show Row _ _ _ _ by simpa [splice] using hg) (World.grownBy.refl _ _)
  · obtain ⟨rfl, ad, rfl, hsrc⟩ := hpos (by omega)
    refine wpList_copy_own hgd d s _ _ ho 5 Tryz.underlying83 (by kernel_rfl) g off dLen dCap ad sLen sCap hd hs cur.toArray t hg cs hn hsrc (by simpa using hfit) h1 ?_
    exact h _ (show Row _ _ _ _ by unfold Row; simpa [splice] using setRow_heap w g _ _ t _ hg) ⟨rfl, rfl, rfl, by simp [World.setRow], fun k _ hne => setRow_other w g k _ (fun e => hne (by rw [e]))⟩
theorem sliceLow (g n : Nat) (hn : n ≤ 16) : ∃ dp : Addr, (∀ w, (Instr.sliceAt 23 (.pointer (some ⟨g, 0, none⟩)) (some (.int .i64 (16 - (n : Int)))) none none).run Tryz.prog w = .ok (.slice (some dp) n n) w) ∧ (0 < n → dp = ⟨g, 16 - n, none⟩) := by
  obtain ⟨q, hq⟩ : ∃ q : Nat, 16 - n = q := ⟨_, rfl⟩
  have e : (16 - (n : Int)) = (q : Int) := by omega
  rw [e]
  have h1 : (0 : Int) ≤ (q : Int) := by omega
  have h2 : (q : Int) ≤ 16 := by omega
  have h3 : 16 - q = n := by omega
  by_cases h0 : n = 0
  · subst h0
    obtain rfl : q = 16 := by omega
    exact ⟨⟨g, 0, none⟩, fun w => by go_simp, fun h => by omega⟩
  · have h4 : ¬ (16 = q) := by omega
    refine ⟨⟨g, q, none⟩, fun w => ?_, fun _ => by rw [hq]⟩
    clear e hq
    go_simp
theorem six_cells (f b : List UInt8) (hs : f.length + b.length ≤ 16) : splice (splice (acells zeroA) 0 (bcells f)) (16 - b.length) (bcells b) = acells (sixA f b) := by
  have e1 : splice (acells zeroA) 0 (bcells f) = bcells (f ++ List.replicate (16 - f.length) 0) := by
    have e5 : acells zeroA = List.replicate 16 (.int .u8 0) := rfl
    rw [e5]
    simp only [splice, List.take_zero, List.nil_append, Nat.zero_add, List.drop_replicate, bcells_length, bcells_append]
    congr 1
    simp [bcells]
  rw [e1]
  have e2 : (f ++ List.replicate (16 - f.length) (0 : UInt8)).take (16 - b.length) = f ++ List.replicate (16 - f.length - b.length) 0 := by
    rw [List.take_append, List.take_of_length_le (by omega), List.take_replicate]
    congr 2
    omega
  have e3 : (f ++ List.replicate (16 - f.length) (0 : UInt8)).drop (16 - b.length + b.length) = [] := List.drop_eq_nil_of_le (by simp; omega)
  have e4 : (sixA f b).l = f ++ List.replicate (16 - f.length - b.length) 0 ++ b := by
    show (f ++ List.replicate (16 - f.length - b.length) 0 ++ b ++ List.replicate 16 0).take 16 = _
    rw [List.take_append_of_le_length (by simp; omega), List.take_of_length_le (by simp; omega)]
  unfold acells
  rw [e4]
  simp only [splice, bcells_length]
  unfold bcells
  rw [← List.map_take, ← List.map_drop, e2, e3]
  simp
theorem cell_first {w : World} {m : Value} {o1 o2 : Obj} (h : w.cell? ⟨0, 0, none⟩ = some m) : ((w.alloc o1).alloc o2).cell? ⟨0, 0, none⟩ = some m := by
  have hb := World.block_lt_of_cell? w _ h
  rw [World.cell?_alloc_lt _ _ _ (by rw [World.size_alloc]; exact Nat.lt_succ_of_lt hb), World.cell?_alloc_lt _ _ _ hb]; exact h
theorem twoRows (w w2 : World) (hB2 : Below ((w.alloc (.cells (acells zeroA).toArray 23)).alloc (.cells (acells zeroA).toArray 23)).heap.size ((w.alloc (.cells (acells zeroA).toArray 23)).alloc (.cells (acells zeroA).toArray 23)) w2) :
    Row w2 w.heap.size 23 (acells zeroA) ∧ Row w2 (w.heap.size + 1) 23 (acells zeroA) ∧ Below w.heap.size w w2 ∧ w.heap.size + 1 < w2.heap.size := by
  have q1 := Row.new w 23 (acells zeroA)
  have q2 := Row.new (w.alloc (.cells (acells zeroA).toArray 23)) 23 (acells zeroA)
  have hz := hB2.size
  simp only [World.size_alloc] at q2 hz
  exact ⟨(q1.alloc _).below hB2 (by simp; omega), q2.below hB2 (by simp), bt (bt (ba _ _) (ba _ _)) hB2, by omega⟩
theorem grp_some {n0 : Nat} {s f : List UInt8} {args : Array Value} {w : World} (h : Calls Tryz.prog 75 args w fun e w' => GO n0 (grp s) e w' ∧ Below w.heap.size w w') (hf : grp s = some f) :
    Calls Tryz.prog 75 args w fun e w' => ∃ a c, e = .returned (.tuple #[.slice a f.length c, .bool true]) ∧ w'.ownsRow n0 5 1 (.slice a f.length c) f.length (bcells f) ∧ Below w.heap.size w w' :=
  h.mono fun e w' ⟨h1, h2⟩ => by
    rcases h1 with ⟨l, v, e1, e2, e3⟩ | ⟨e1, _⟩
    · rw [hf] at e1
      cases e1
      obtain ⟨a, c, rfl⟩ := own_slice e3
      exact ⟨a, c, e2, e3, h2⟩
    · rw [hf] at e1; cases e1
theorem grp_none {n0 : Nat} {s : List UInt8} {args : Array Value} {w : World} (h : Calls Tryz.prog 75 args w fun e w' => GO n0 (grp s) e w' ∧ Below w.heap.size w w') (hf : grp s = none) :
    Calls Tryz.prog 75 args w fun e w' => e = .returned (.tuple #[.slice none 0 0, .bool false]) ∧ Below w.heap.size w w' :=
  h.mono fun e w' ⟨h1, h2⟩ => by
    rcases h1 with ⟨l, v, e1, e2, e3⟩ | ⟨_, e2⟩
    · rw [hf] at e1; cases e1
    · exact ⟨e2, h2⟩

set_option maxRecDepth 100000 in
set_option maxHeartbeats 4000000 in
theorem six_any (s : List UInt8) (w : World) (hG : Glob w) (hs8 : 8 ≤ w.heap.size) (hl : s.length ≤ 1000000) :
    Calls Tryz.prog 50 #[.string (str s)] w fun e w' => PO (six s) e ∧ Below w.heap.size w w' := by
  obtain ⟨m, hm⟩ := hG.m
  obtain ⟨hd, tl, sh, hcut⟩ : ∃ h t b, Lib.cut s [58, 58] = (h, t, b) := ⟨_, _, _, rfl⟩
  have hlen := cut_len s [58, 58]
  rw [hcut] at hlen
  dsimp only at hlen
  have hC := fun w' h' => Tryz.strings_Cut (str s) ⟨#[58, 58]⟩ m w' (by show s.length < _; omega) h'
  simp only [show (str s).data.toList = s from rfl, show (⟨#[58, 58]⟩ : ByteArray).data.toList = [58, 58] from rfl, hcut] at hC
  have HS : Hid (six s = match grp hd, grp tl with
    | some f, some b => if sh = true ∧ (16 : Int) - f.length - b.length < 2 ∨ sh = false ∧ (16 : Int) - f.length - b.length ≠ 0 then none else some (sixA f b)
    | _, _ => none) := by show _ = _; rw [six, hcut]
  clear hcut
  have hC' : ∀ w', w'.cell? ⟨0, 0, none⟩ = some (.int .i64 m) → Calls Tryz.prog 58 #[.string (str s), .string ⟨#[58, 58]⟩] w' fun e w'' => e = .returned (.tuple #[.string (str hd), .string (str tl), .bool sh]) ∧ Below w'.heap.size w' w'' := fun w' h' => (hC w' h').mono fun e w'' ⟨h1, n, h2⟩ => ⟨h1, by rw [h2]; exact below_drewN (Below.refl _ _) n⟩
  clear hC
  cases hf : grp hd with
  | none =>
    have HN : Hid (six s = none) := by show _ = _; rw [HS.out, hf]
    clear HS
    go_enter Tryz.func50, Tryz.ntmps50
    go_wp2_with (first
      | (refine ldA (.tmp 4) rfl rfl _ _ zeroA rfl (r4.below hB3 (by omega)).range ?_)
      | (refine stA (.tmp 2) (.tmp 25) rfl rfl _ _ zeroA rfl rfl ((r2.below hB3 (by omega)).there (by rw [acells_len]; omega)) ?_)
      | (go_at_call 58; refine (hC' _ (cell_first hm)).mono ?_; clear hC'; rintro e w2 ⟨rfl, hB2⟩; have rr := twoRows w w2 hB2; obtain ⟨r2, r4, hB, hz⟩ := rr; have hG2 := hG.keep hB hs8)
      | (go_at_call 75; refine (grp_none (groups_any hd w2 hG2 (by omega) (by omega)) hf).mono ?_; rintro e w3 ⟨rfl, hB3⟩))
    exact bodyPost_ret (retCT rfl _ _ 0 rfl (lvA (LA.stored ((r2.below hB3 (by omega)).there (by rw [acells_len]; omega))))) rfl ⟨.inr ⟨HN.out, zeroA, rfl⟩, below_setCells _ (Nat.le_refl _) _ _ _ (bt hB hB3)⟩
  | some f =>
    have hfl := grp_len hf
    cases hb : grp tl with
    | none =>
      have HN : Hid (six s = none) := by show _ = _; rw [HS.out, hf, hb]
      clear HS
      go_enter Tryz.func50, Tryz.ntmps50
      go_wp2_with (first
        | (refine ldA (.tmp 4) rfl rfl _ _ zeroA rfl ((r4.below hB3 (by omega)).below hB4 (by omega)).range ?_)
        | (refine stA (.tmp 2) (.tmp 33) rfl rfl _ _ zeroA rfl rfl (((r2.below hB3 (by omega)).below hB4 (by omega)).there (by rw [acells_len]; omega)) ?_)
        | (go_at_call 58; refine (hC' _ (cell_first hm)).mono ?_; clear hC'; rintro e w2 ⟨rfl, hB2⟩; have rr := twoRows w w2 hB2; obtain ⟨r2, r4, hB, hz⟩ := rr; have hG2 := hG.keep hB hs8)
        | (go_at_call 75; refine (grp_some (groups_any hd w2 hG2 (by omega) (by omega)) hf).mono ?_; clear hf; rintro e w3 ⟨fa, fc, rfl, fo, hB3⟩; have hG3 := hG2.keep hB3 (by omega); have hz3 := hB3.size)
        | (go_at_call 75; refine (grp_none (groups_any tl w3 hG3 (by omega) (by omega)) hb).mono ?_; rintro e w4 ⟨rfl, hB4⟩))
      exact bodyPost_ret (retCT rfl _ _ 0 rfl (lvA (LA.stored (((r2.below hB3 (by omega)).below hB4 (by omega)).there (by rw [acells_len]; omega))))) rfl ⟨.inr ⟨HN.out, zeroA, rfl⟩, below_setCells _ (Nat.le_refl _) _ _ _ (bt (bt hB hB3) hB4)⟩
    | some b =>
      have hbl := grp_len hb
      cases sh with
      | true =>
        by_cases hm2 : (16 : Int) - f.length - b.length < 2
        · have HN : Hid (six s = none) := by show _ = _; rw [HS.out, hf, hb]; simp [hm2]
          have d2 : decide ((16 : Int) - f.length - b.length < 2) = true := by simpa using hm2
          clear HS hm2
          go_enter Tryz.func50, Tryz.ntmps50
          go_wp2_with (first
            | (refine ldA (.tmp 4) rfl rfl _ _ zeroA rfl s4.range ?_)
            | (refine stA (.tmp 2) (.tmp 53) rfl rfl _ _ zeroA rfl rfl (s2.there (by rw [acells_len]; omega)) ?_)
            | (go_at_call 58; refine (hC' _ (cell_first hm)).mono ?_; clear hC'; rintro e w2 ⟨rfl, hB2⟩; have rr := twoRows w w2 hB2; obtain ⟨r2, r4, hB, hz⟩ := rr; have hG2 := hG.keep hB hs8)
            | (go_at_call 75; refine (grp_some (groups_any hd w2 hG2 (by omega) (by omega)) hf).mono ?_; clear hf; rintro e w3 ⟨fa, fc, rfl, fo, hB3⟩; have hG3 := hG2.keep hB3 (by omega); have hz3 := hB3.size)
            | (go_at_call 75; refine (grp_some (groups_any tl w3 hG3 (by omega) (by omega)) hb).mono ?_; clear hb; rintro e w4 ⟨ba', bc, rfl, bo, hB4⟩; have hz4 := hB4.size; have s2 := (r2.below hB3 (by omega)).below hB4 (by omega); have s4 := (r4.below hB3 (by omega)).below hB4 (by omega); have fo4 := own_below fo hB4))
          exact bodyPost_ret (retCT rfl _ _ 0 rfl (lvA (LA.stored (s2.there (by rw [acells_len]; omega))))) rfl ⟨.inr ⟨HN.out, zeroA, rfl⟩, below_setCells _ (Nat.le_refl _) _ _ _ (bt (bt hB hB3) hB4)⟩
        · have HN : Hid (six s = some (sixA f b)) := by show _ = _; rw [HS.out, hf, hb]; simp [hm2]
          have d2 : decide ((16 : Int) - f.length - b.length < 2) = false := by simpa using hm2
          have hsum : f.length + b.length ≤ 14 := by omega
          clear HS hm2
          obtain ⟨dp, hsl, hdp⟩ := sliceLow (w.heap.size + 1) b.length hbl
          go_enter Tryz.func50, Tryz.ntmps50
          go_wp2_with (first
            | (refine copyRow rfl (.tmp 54) (.tmp 55) rfl _ _ _ _ _ _ rfl rfl (w.heap.size + 1) 0 (acells zeroA) 23 s4 (bcells f) (by rw [bcells_length]; exact (Nat.min_eq_left hfl).symm) (fun hp => ⟨rfl, (own_src fo4).2 (by rw [bcells_length] at hp; exact hp)⟩) (by rw [bcells_length, acells_len]; omega) (bcells_one f) ?_; intro w5 HG5 hg5; have bo5 := own_keptRow bo s4 (by decide) hg5; have t2 : Row w5 w.heap.size 23 (acells zeroA) := s2.keptNe hg5 (by omega))
            | (refine copyRow rfl (.tmp 60) (.tmp 61) rfl _ _ _ _ _ _ rfl rfl (w.heap.size + 1) (16 - b.length) _ 23 HG5.out (bcells b) (by rw [bcells_length]; exact (Nat.min_self _).symm) (fun hp => ⟨congrArg some (hdp (by rw [bcells_length] at hp; exact hp)), (own_src bo5).2 (by rw [bcells_length] at hp; exact hp)⟩) (by rw [bcells_length, length_splice _ _ _ (by rw [bcells_length, acells_len]; omega), acells_len]; omega) (bcells_one b) ?_; intro w6 HG6 hg6; have u2 : Row w6 w.heap.size 23 (acells zeroA) := t2.keptNe hg6 (by omega); have HR6 : Hid (Row w6 (w.heap.size + 1) 23 (acells (sixA f b))) := (by show Row _ _ _ _; rw [← six_cells f b (by omega)]; exact HG6.out); have hz6 := Nat.le_trans hg5.size hg6.size)
            | (refine ldA (.tmp 4) rfl rfl _ _ (sixA f b) rfl HR6.out.range ?_)
            | (refine stA (.tmp 2) (.tmp 63) rfl rfl _ _ (sixA f b) rfl rfl (u2.there (by rw [acells_len]; omega)) ?_)
            | (go_at_call 58; refine (hC' _ (cell_first hm)).mono ?_; clear hC'; rintro e w2 ⟨rfl, hB2⟩; have rr := twoRows w w2 hB2; obtain ⟨r2, r4, hB, hz⟩ := rr; have hG2 := hG.keep hB hs8)
            | (go_at_call 75; refine (grp_some (groups_any hd w2 hG2 (by omega) (by omega)) hf).mono ?_; clear hf; rintro e w3 ⟨fa, fc, rfl, fo, hB3⟩; have hG3 := hG2.keep hB3 (by omega); have hz3 := hB3.size)
            | (go_at_call 75; refine (grp_some (groups_any tl w3 hG3 (by omega) (by omega)) hb).mono ?_; clear hb; rintro e w4 ⟨ba', bc, rfl, bo, hB4⟩; have hz4 := hB4.size; have s2 := (r2.below hB3 (by omega)).below hB4 (by omega); have s4 := (r4.below hB3 (by omega)).below hB4 (by omega); have fo4 := own_below fo hB4))
          have hBf : Below w.heap.size w w6 := ((bt (bt hB hB3) hB4).grown hg5 (Nat.le_trans hB.size (Nat.le_trans hz3 hz4)) (fun k e => by cases e; omega)).grown hg6 (Nat.le_trans (Nat.le_trans hB.size (Nat.le_trans hz3 hz4)) hg5.size) (fun k e => by cases e; omega)
          exact bodyPost_ret (retCT rfl _ _ 0 rfl (lvA (LA.stored (u2.there (by rw [acells_len]; omega))))) rfl ⟨.inl ⟨_, HN.out, rfl⟩, below_setCells _ (Nat.le_refl _) _ _ _ hBf⟩
      | false =>
        by_cases hm2 : (16 : Int) - f.length - b.length ≠ 0
        · have HN : Hid (six s = none) := by show _ = _; rw [HS.out, hf, hb]; simp [hm2]
          have d2 : (((16 : Int) - f.length - b.length) != 0) = true := by simpa using hm2
          clear HS hm2
          go_enter Tryz.func50, Tryz.ntmps50
          go_wp2_with (first
            | (refine ldA (.tmp 4) rfl rfl _ _ zeroA rfl s4.range ?_)
            | (refine stA (.tmp 2) (.tmp 53) rfl rfl _ _ zeroA rfl rfl (s2.there (by rw [acells_len]; omega)) ?_)
            | (go_at_call 58; refine (hC' _ (cell_first hm)).mono ?_; clear hC'; rintro e w2 ⟨rfl, hB2⟩; have rr := twoRows w w2 hB2; obtain ⟨r2, r4, hB, hz⟩ := rr; have hG2 := hG.keep hB hs8)
            | (go_at_call 75; refine (grp_some (groups_any hd w2 hG2 (by omega) (by omega)) hf).mono ?_; clear hf; rintro e w3 ⟨fa, fc, rfl, fo, hB3⟩; have hG3 := hG2.keep hB3 (by omega); have hz3 := hB3.size)
            | (go_at_call 75; refine (grp_some (groups_any tl w3 hG3 (by omega) (by omega)) hb).mono ?_; clear hb; rintro e w4 ⟨ba', bc, rfl, bo, hB4⟩; have hz4 := hB4.size; have s2 := (r2.below hB3 (by omega)).below hB4 (by omega); have s4 := (r4.below hB3 (by omega)).below hB4 (by omega); have fo4 := own_below fo hB4))
          exact bodyPost_ret (retCT rfl _ _ 0 rfl (lvA (LA.stored (s2.there (by rw [acells_len]; omega))))) rfl ⟨.inr ⟨HN.out, zeroA, rfl⟩, below_setCells _ (Nat.le_refl _) _ _ _ (bt (bt hB hB3) hB4)⟩
        · have HN : Hid (six s = some (sixA f b)) := by show _ = _; rw [HS.out, hf, hb]; simp [hm2]
          have d2 : (((16 : Int) - f.length - b.length) != 0) = false := by simp; omega
          have hsum : f.length + b.length ≤ 16 := by omega
          clear HS hm2
          obtain ⟨dp, hsl, hdp⟩ := sliceLow (w.heap.size + 1) b.length hbl
          go_enter Tryz.func50, Tryz.ntmps50
          go_wp2_with (first
            | (refine copyRow rfl (.tmp 54) (.tmp 55) rfl _ _ _ _ _ _ rfl rfl (w.heap.size + 1) 0 (acells zeroA) 23 s4 (bcells f) (by rw [bcells_length]; exact (Nat.min_eq_left hfl).symm) (fun hp => ⟨rfl, (own_src fo4).2 (by rw [bcells_length] at hp; exact hp)⟩) (by rw [bcells_length, acells_len]; omega) (bcells_one f) ?_; intro w5 HG5 hg5; have bo5 := own_keptRow bo s4 (by decide) hg5; have t2 : Row w5 w.heap.size 23 (acells zeroA) := s2.keptNe hg5 (by omega))
            | (refine copyRow rfl (.tmp 60) (.tmp 61) rfl _ _ _ _ _ _ rfl rfl (w.heap.size + 1) (16 - b.length) _ 23 HG5.out (bcells b) (by rw [bcells_length]; exact (Nat.min_self _).symm) (fun hp => ⟨congrArg some (hdp (by rw [bcells_length] at hp; exact hp)), (own_src bo5).2 (by rw [bcells_length] at hp; exact hp)⟩) (by rw [bcells_length, length_splice _ _ _ (by rw [bcells_length, acells_len]; omega), acells_len]; omega) (bcells_one b) ?_; intro w6 HG6 hg6; have u2 : Row w6 w.heap.size 23 (acells zeroA) := t2.keptNe hg6 (by omega); have HR6 : Hid (Row w6 (w.heap.size + 1) 23 (acells (sixA f b))) := (by show Row _ _ _ _; rw [← six_cells f b (by omega)]; exact HG6.out); have hz6 := Nat.le_trans hg5.size hg6.size)
            | (refine ldA (.tmp 4) rfl rfl _ _ (sixA f b) rfl HR6.out.range ?_)
            | (refine stA (.tmp 2) (.tmp 63) rfl rfl _ _ (sixA f b) rfl rfl (u2.there (by rw [acells_len]; omega)) ?_)
            | (go_at_call 58; refine (hC' _ (cell_first hm)).mono ?_; clear hC'; rintro e w2 ⟨rfl, hB2⟩; have rr := twoRows w w2 hB2; obtain ⟨r2, r4, hB, hz⟩ := rr; have hG2 := hG.keep hB hs8)
            | (go_at_call 75; refine (grp_some (groups_any hd w2 hG2 (by omega) (by omega)) hf).mono ?_; clear hf; rintro e w3 ⟨fa, fc, rfl, fo, hB3⟩; have hG3 := hG2.keep hB3 (by omega); have hz3 := hB3.size)
            | (go_at_call 75; refine (grp_some (groups_any tl w3 hG3 (by omega) (by omega)) hb).mono ?_; clear hb; rintro e w4 ⟨ba', bc, rfl, bo, hB4⟩; have hz4 := hB4.size; have s2 := (r2.below hB3 (by omega)).below hB4 (by omega); have s4 := (r4.below hB3 (by omega)).below hB4 (by omega); have fo4 := own_below fo hB4))
          have hBf : Below w.heap.size w w6 := ((bt (bt hB hB3) hB4).grown hg5 (Nat.le_trans hB.size (Nat.le_trans hz3 hz4)) (fun k e => by cases e; omega)).grown hg6 (Nat.le_trans (Nat.le_trans hB.size (Nat.le_trans hz3 hz4)) hg5.size) (fun k e => by cases e; omega)
          exact bodyPost_ret (retCT rfl _ _ 0 rfl (lvA (LA.stored (u2.there (by rw [acells_len]; omega))))) rfl ⟨.inl ⟨_, HN.out, rfl⟩, below_setCells _ (Nat.le_refl _) _ _ _ hBf⟩
end Go.Proofs.YtimpopolkofdgaaGreatDoor
