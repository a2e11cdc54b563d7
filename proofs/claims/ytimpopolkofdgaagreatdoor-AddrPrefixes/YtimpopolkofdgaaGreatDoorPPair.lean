/-
  addr.ParsePair: what it answers for every text.
-/
import Derived.Test.YtimpopolkofdgaaGreatDoorWords
namespace Go.Proofs.YtimpopolkofdgaaGreatDoor
open Go.RowKit Go.Shelf
set_option linter.unusedSimpArgs false
set_option maxRecDepth 20000
def zeroQ : Pr := ⟨zeroP, zeroP⟩
/-- What becomes of two prefixes (the second: of none Any). -/
def prq2 (q : Pr) : Pr × Int := if chkQ q = 0 then (q, 0) else (zeroQ, chkQ q)
/-- A text as a pair: the pair, and the error's number. -/
def prq (s : List UInt8) : Pr × Int :=
  if pwB (words s) = true then
    if (prf ((words s).getD 0 [])).2 = 0 then
      if (words s).length = 3 then
        if (prf ((words s).getD 2 [])).2 = 0 then prq2 ⟨(prf ((words s).getD 0 [])).1, (prf ((words s).getD 2 [])).1⟩ else (zeroQ, (prf ((words s).getD 2 [])).2)
      else prq2 ⟨(prf ((words s).getD 0 [])).1, anyP (famP (prf ((words s).getD 0 [])).1)⟩
    else (zeroQ, (prf ((words s).getD 0 [])).2)
  else (zeroQ, 20)
section
variable {ops : Array Oper} {o : Oper} {a : Act} {w : World} {K : Act → World → Prop} {Q : Exit → Act → World → Prop} {E : Prop}
theorem stepQ (x y : Operand) (ho : o.op = .store 53 x y) (hw : Region.wanted o (yielded ops a.tmps) = true) (b : Nat) (c : Pr) (ht : w.there b 0 34) (hx : a.eval x = .pointer (some ⟨b, 0, none⟩)) (hy : a.eval y = (Value.agg (qcells c).toArray))
    (h : ∀ W, Hid (W = w.setCells b 0 (qcells c)) → K (a.put o.dst undef) W) : if Region.wanted o (yielded ops a.tmps) = true then Oper.wp Tryz.prog o a w K Q else E := by
  rw [if_pos hw]
  exact wp_store_mid _ x y ho b 0 _ hx hy (by simpa [qcells_len] using ht) (by rw [infoQ]; simp [qcells_len]) (all_oneCell_toArray (qcells_one c)) (by simpa using h _ rfl)
end
theorem storedRowQ (w : World) (cs : List Value) (t : TypeId) (q : Pr) (h : cs.length = 34) : Below w.heap.size w ((w.alloc (.cells cs.toArray t)).setCells w.heap.size 0 (qcells q)) ∧ Row ((w.alloc (.cells cs.toArray t)).setCells w.heap.size 0 (qcells q)) w.heap.size t (qcells q) ∧ ((w.alloc (.cells cs.toArray t)).setCells w.heap.size 0 (qcells q)).heap.size = w.heap.size + 1 :=
  ⟨below_setCells _ (Nat.le_refl _) _ _ _ (ba w _), (Row.new w t cs).setCells _ (by rw [qcells_len, h]), by rw [size_setCells]; simp⟩
/-- The second half of a pair in memory is written anew. -/
theorem Row.setSrc {w : World} {g : Nat} {t : TypeId} {d s : Pf} (h : Row w g t (qcells ⟨d, s⟩)) (s' : Pf) : Row (w.setCells g 17 (pcells s')) g t (qcells ⟨d, s'⟩) := by
  have key : ∀ (ds pre post : List Value) (w : World), post.length = ds.length → Row w g t (pre ++ post) → Row (w.setCells g pre.length ds) g t (pre ++ ds) := by
    intro ds
    induction ds with
    | nil =>
      intro pre post w hp hr
      obtain rfl : post = [] := List.eq_nil_of_length_eq_zero hp
      exact hr
    | cons d ds ih =>
      intro pre post w hp hr
      cases post with
      | nil => simp at hp
      | cons p post =>
        rw [World.setCells]
        have h1 := hr.set pre.length d
        rw [List.set_append_right _ _ (Nat.le_refl _), Nat.sub_self, List.set_cons_zero] at h1
        have h2 := ih (pre ++ [d]) post _ (by simpa using hp) (by simpa using h1)
        simpa using h2
  have := key (pcells s') (pcells d) (pcells s) w (by rw [pcells_len, pcells_len]) h
  rwa [pcells_len] at this
theorem Row.thereSrc {w : World} {g : Nat} {t : TypeId} {q : Pr} (h : Row w g t (qcells q)) : w.there g 17 17 := fun j hj => by
  have := h.there (n := 34) (by rw [qcells_len]; omega) (17 + j) (by omega)
  rwa [Nat.zero_add] at this
theorem newRow {X W : World} {B : Nat} (_ : Below B X W) (t : TypeId) (cs : List Value) : Row (W.alloc (.cells cs.toArray t)) W.heap.size t cs := Row.new W t cs
theorem foldSetAt (off : Nat) : ∀ (l arr : List Value) (k : Nat), off + k + l.length ≤ arr.length → List.foldl (fun (cs : Array Value) (x : Value × Nat) => cs.setIfInBounds (off + x.2) x.1) arr.toArray (l.zipIdx k) = (arr.take (off + k) ++ l ++ arr.drop (off + k + l.length)).toArray
  | [], arr, k, h => by simp
  | x :: l, arr, k, h => by
    simp only [List.length_cons] at h
    rw [List.zipIdx_cons, List.foldl_cons]
    have ih := foldSetAt off l (arr.set (off + k) x) (k + 1) (by simp; omega)
    simp only [List.setIfInBounds_toArray] at ih ⊢
    rw [ih]
    congr 1
    have e1 : (arr.set (off + k) x).take (off + (k + 1)) = arr.take (off + k) ++ [x] := by
      rw [← Nat.add_assoc, List.take_add_one, List.take_set_of_le (Nat.le_refl _), List.getElem?_set_self (by omega)]; rfl
    have e2 : (arr.set (off + k) x).drop (off + (k + 1) + l.length) = arr.drop (off + k + (l.length + 1)) := by
      rw [List.drop_set_of_lt (by omega)]; congr 1; omega
    rw [e1, e2, List.length_cons]
    simp
theorem foldQ1 (d : Pf) : List.foldl (fun (cs : Array Value) (x : Value × Nat) => cs.setIfInBounds x.2 x.1) #[Value.int .u8 0, Value.int .u8 0, Value.int .u8 0, Value.int .u8 0, Value.int .u8 0, Value.int .u8 0, Value.int .u8 0, Value.int .u8 0, Value.int .u8 0, Value.int .u8 0, Value.int .u8 0, Value.int .u8 0, Value.int .u8 0, Value.int .u8 0, Value.int .u8 0, Value.int .u8 0, Value.int .i64 0, Value.int .u8 0, Value.int .u8 0, Value.int .u8 0, Value.int .u8 0, Value.int .u8 0, Value.int .u8 0, Value.int .u8 0, Value.int .u8 0, Value.int .u8 0, Value.int .u8 0, Value.int .u8 0, Value.int .u8 0, Value.int .u8 0, Value.int .u8 0, Value.int .u8 0, Value.int .u8 0, Value.int .i64 0] (pcells d).zipIdx = (pcells d ++ pcells zeroP).toArray := by
  have h1 := foldSet (pcells d) [Value.int .u8 0, Value.int .u8 0, Value.int .u8 0, Value.int .u8 0, Value.int .u8 0, Value.int .u8 0, Value.int .u8 0, Value.int .u8 0, Value.int .u8 0, Value.int .u8 0, Value.int .u8 0, Value.int .u8 0, Value.int .u8 0, Value.int .u8 0, Value.int .u8 0, Value.int .u8 0, Value.int .i64 0, Value.int .u8 0, Value.int .u8 0, Value.int .u8 0, Value.int .u8 0, Value.int .u8 0, Value.int .u8 0, Value.int .u8 0, Value.int .u8 0, Value.int .u8 0, Value.int .u8 0, Value.int .u8 0, Value.int .u8 0, Value.int .u8 0, Value.int .u8 0, Value.int .u8 0, Value.int .u8 0, Value.int .i64 0] 0 (by rw [pcells_len]; simp)
  rw [pcells_len] at h1
  simp only [List.take_zero, List.nil_append, Nat.zero_add] at h1
  rw [h1]
  rfl
theorem foldQs (d : Pf) : (List.foldl (fun (cs : Array Value) (x : Value × Nat) => cs.setIfInBounds x.2 x.1) #[Value.int .u8 0, Value.int .u8 0, Value.int .u8 0, Value.int .u8 0, Value.int .u8 0, Value.int .u8 0, Value.int .u8 0, Value.int .u8 0, Value.int .u8 0, Value.int .u8 0, Value.int .u8 0, Value.int .u8 0, Value.int .u8 0, Value.int .u8 0, Value.int .u8 0, Value.int .u8 0, Value.int .i64 0, Value.int .u8 0, Value.int .u8 0, Value.int .u8 0, Value.int .u8 0, Value.int .u8 0, Value.int .u8 0, Value.int .u8 0, Value.int .u8 0, Value.int .u8 0, Value.int .u8 0, Value.int .u8 0, Value.int .u8 0, Value.int .u8 0, Value.int .u8 0, Value.int .u8 0, Value.int .u8 0, Value.int .i64 0] (pcells d).zipIdx).size = 34 := by
  rw [foldQ1]; simp [pcells_len]
theorem buildQ (d s : Pf) : Value.agg (List.foldl (fun (cs : Array Value) (x : Value × Nat) => cs.setIfInBounds (17 + x.2) x.1) (List.foldl (fun (cs : Array Value) (x : Value × Nat) => cs.setIfInBounds x.2 x.1) #[Value.int .u8 0, Value.int .u8 0, Value.int .u8 0, Value.int .u8 0, Value.int .u8 0, Value.int .u8 0, Value.int .u8 0, Value.int .u8 0, Value.int .u8 0, Value.int .u8 0, Value.int .u8 0, Value.int .u8 0, Value.int .u8 0, Value.int .u8 0, Value.int .u8 0, Value.int .u8 0, Value.int .i64 0, Value.int .u8 0, Value.int .u8 0, Value.int .u8 0, Value.int .u8 0, Value.int .u8 0, Value.int .u8 0, Value.int .u8 0, Value.int .u8 0, Value.int .u8 0, Value.int .u8 0, Value.int .u8 0, Value.int .u8 0, Value.int .u8 0, Value.int .u8 0, Value.int .u8 0, Value.int .u8 0, Value.int .i64 0] (pcells d).zipIdx) (pcells s).zipIdx) = (Value.agg (qcells (⟨d, s⟩)).toArray) := by
  rw [foldQ1, foldSetAt 17 _ _ 0 (by rw [List.length_append, pcells_len, pcells_len, pcells_len]; omega), pcells_len]
  have e1 : (pcells d ++ pcells zeroP).take (17 + 0) = pcells d := List.take_left' (pcells_len d)
  have e2 : (pcells d ++ pcells zeroP).drop (17 + 0 + 17) = [] := List.drop_eq_nil_of_le (by rw [List.length_append, pcells_len, pcells_len]; omega)
  rw [e1, e2, List.append_nil]
  rfl
set_option maxHeartbeats 8000000 in
theorem ppair_any (s : List UInt8) (w : World) (hG : Glob w) (hs8 : 8 ≤ w.heap.size) (hl : s.length ≤ 1000000) :
    Calls Tryz.prog 34 #[.string (str s)] w (Gives w (.tuple #[(Value.agg (qcells ((prq s).1)).toArray), .int .i64 (prq s).2])) := by
  have hG1 : Glob (w.alloc (.cells (qcells zeroQ).toArray 53)) := hG.keep (ba w _) hs8
  have hS := split_any s (w.alloc (.cells (qcells zeroQ).toArray 53)) hG1 hl
  have hR := Row.new w 53 (qcells zeroQ)
  have hw1 := words_facts s
  have HF : Hid (prq s = if pwB (words s) = true then
    if (prf ((words s).getD 0 [])).2 = 0 then
      if (words s).length = 3 then
        if (prf ((words s).getD 2 [])).2 = 0 then prq2 ⟨(prf ((words s).getD 0 [])).1, (prf ((words s).getD 2 [])).1⟩ else (zeroQ, (prf ((words s).getD 2 [])).2)
      else prq2 ⟨(prf ((words s).getD 0 [])).1, anyP (famP (prf ((words s).getD 0 [])).1)⟩
    else (zeroQ, (prf ((words s).getD 0 [])).2)
  else (zeroQ, 20)) := rfl
  obtain ⟨ws, hws⟩ : ∃ ws, ws = words s := ⟨_, rfl⟩
  rw [← hws] at hS hw1 HF
  clear hws
  have hPw := fun W g c h => pairWords_any ws g ws.length c W rfl h
  obtain ⟨n, hn⟩ : ∃ n, n = ws.length := ⟨_, rfl⟩
  rw [← hn] at hS hw1 HF hPw
  obtain ⟨b, hb⟩ : ∃ b, b = pwB ws := ⟨_, rfl⟩
  rw [← hb] at HF
  simp only [← hb] at hPw
  cases b with
  | false =>
    have HF' : Hid (prq s = (zeroQ, 20)) := HF.out
    clear HF hb hw1 hn
    go_enter Tryz.func34, Tryz.ntmps34
    go_wp2_with (first
      | (refine stQ (.tmp 2) (.tmp 14) rfl rfl _ _ zeroQ rfl rfl ((hR.below hB1 (by simp)).there (by rw [qcells_len]; omega)) ?_)
      | (go_at_call 70; refine (hPw w1 g c hc).mono ?_; rintro e w2 ⟨rfl, rfl⟩)
      | (go_at_call 69; refine hS.mono ?_; rintro e w1 ⟨g, c, rfl, hg, hc, hB1⟩))
    refine bodyPost_ret (retCT rfl _ _ 0 rfl (lvQ (LQ.stored ((hR.below hB1 (by simp)).there (by rw [qcells_len]; omega))))) rfl ⟨by rw [HF'.out]; rfl, below_setCells _ (Nat.le_refl _) _ _ _ (bt (ba _ _) hB1)⟩
  | true =>
    obtain ⟨x0, e0⟩ : ∃ x, ws[0]? = some x := ⟨_, List.getElem?_eq_getElem (by omega)⟩
    have hx0 : x0.length ≤ s.length := hw1.2.2 x0 (List.mem_of_getElem? e0)
    have g0 : ws.getD 0 [] = x0 := by rw [List.getD_eq_getElem?_getD, e0]; rfl
    rw [g0] at HF
    have hP0 := fun W h1 h2 => pfx_any x0 W h1 h2 (by omega)
    obtain ⟨⟨p0, k0⟩, hk0⟩ : ∃ r, prf x0 = r := ⟨_, rfl⟩
    rw [hk0] at HF hP0
    dsimp only at HF hP0
    have i0 : (0 : Int) < (n : Int) := by omega
    clear hk0 g0
    by_cases hz0 : k0 = 0
    · subst hz0
      rw [if_pos rfl, if_pos rfl] at HF
      have hFm := pfam_any p0
      have hAn := any_any (famP p0)
      obtain ⟨a0, ha0⟩ : ∃ a, a = anyP (famP p0) := ⟨_, rfl⟩
      obtain ⟨f0, hf0⟩ : ∃ f, f = famP p0 := ⟨_, rfl⟩
      rw [← ha0] at hAn HF
      rw [← hf0] at hFm hAn
      clear ha0 hf0
      by_cases hn3 : n = 3
      · rw [if_pos hn3] at HF
        have hn3' : ((n : Int) == 3) = true := by simp; omega
        have i2 : (2 : Int) < (n : Int) := by omega
        obtain ⟨x2, e2⟩ : ∃ x, ws[2]? = some x := ⟨_, List.getElem?_eq_getElem (by omega)⟩
        have hx2 : x2.length ≤ s.length := hw1.2.2 x2 (List.mem_of_getElem? e2)
        have g2 : ws.getD 2 [] = x2 := by rw [List.getD_eq_getElem?_getD, e2]; rfl
        rw [g2] at HF
        have hP2 := fun W h1 h2 => pfx_any x2 W h1 h2 (by omega)
        obtain ⟨⟨p2, k2⟩, hk2⟩ : ∃ r, prf x2 = r := ⟨_, rfl⟩
        rw [hk2] at HF hP2
        dsimp only at HF hP2
        clear hb hw1 hn hx0 hn3 hx2 hk2 g2
        go_enter Tryz.func34, Tryz.ntmps34
        go_wp2_with (first
          | (refine stPq (.tmp 5) (.tmp 20) rfl rfl _ _ p0 rfl rfl (Row.there (Row.new _ _ _) (by simp)) ?_; intro w4 hw4; have hst := hw4.out ▸ storedRowP w3 _ _ p0 (by simp); clear hw4; obtain ⟨hB4, hR4, hs4⟩ := hst; have z1 := hB1.size; have z3 := hB3.size; simp only [World.size_alloc] at z1; have q4 := ((hR.below hB1 (by simp)).below hB3 (by omega)).below hB4 (by omega))
          | (go_at_call 14; refine (hP0 _ (hG1.keep hB1 (by simp; omega)) (by have := hB1.size; simp at this; omega)).mono ?_; rintro e w3 ⟨rfl, hB3⟩)
          | (go_at_call 70; refine (hPw w1 g c hc).mono ?_; rintro e w2 ⟨rfl, rfl⟩)
          | (go_at_call 69; refine hS.mono ?_; rintro e w1 ⟨g, c, rfl, hg, hc, hB1⟩; have c0 := hc 0 x0 e0; have c2 := hc 2 x2 e2))
        have hBX := bt (bt (bt (ba _ _) hB1) hB3) hB4
        have hP4 : LP w4 w3.heap.size 0 p0 := hR4.range
        have HK : Hid (∀ W, Below w4.heap.size w4 W → Below w4.heap.size w4 W ∧ LP W w3.heap.size 0 p0) := fun W h => ⟨h, hP4.below h (by omega)⟩
        have gl := World.block_lt_of_cell? _ _ c2
        have c4 := (hB4.cell (p := ⟨g, 2, none⟩) (Nat.lt_of_lt_of_le gl hB3.size)).trans ((hB3.cell (p := ⟨g, 2, none⟩) gl).trans c2)
        have gl4 := World.block_lt_of_cell? _ _ c4
        have HG4 : Hid (Glob w4) := (hG1.keep hB1 (by simp; omega)).keep (bt hB3 hB4) (by omega)
        have hCk := checkQ_any ⟨p0, p2⟩
        have q4l := q4.lt
        have hpl := pcells_len p0
        have hpla := pcells_len a0
        have hqs := foldQs p0
        clear hc hB1 hB3 hB4 hR4 c0 c2 gl hPw hP0 hS hG1 hR hs4 z1 z3
        by_cases hk2 : k2 = 0
        · subst hk2
          rw [if_pos rfl] at HF
          rcases chkQ_or ⟨p0, p2⟩ with hk | hk
          · have HF' : Hid (prq s = (⟨p0, p2⟩, 0)) := by show _ = _; rw [HF.out, prq2, if_pos hk]
            rw [hk] at hCk
            clear HF hk
            refine wp_region_noPanic ?_
            refine wp_region_held_drew (S := fun W => Below w4.heap.size w4 W ∧ LP W w3.heap.size 0 p0) (by kernel_rfl) (HK.out _ (Below.refl _ _).drew) (fun hHeld => ?_)
            refine take_lit (i := 0) rfl (by kernel_rfl) (by kernel_rfl) (by kernel_rfl) (fun _ _ _ h => h) (yP p0 (fun w h => h.2) (by rfl) rfl rfl) (by assumption) ?_
            try simp only [Act.put, List.setIfInBounds_toArray, List.set_cons_zero, List.set_cons_succ]
            refine take_lit (i := 1) rfl (by kernel_rfl) (by kernel_rfl) (by kernel_rfl) (fun _ _ _ h => h) (yP p0 (fun w h => h.2) (by rfl) rfl rfl) (by assumption) ?_
            try simp only [Act.put, List.setIfInBounds_toArray, List.set_cons_zero, List.set_cons_succ]
            refine wpAnyH_ready (rs := [2, 5]) (by kernel_rfl) (by simp) ?_
            refine cons_lit rfl (fun K hK => ?_) ?_
            · go_simp
              refine (hFm _).mono ?_
              rintro e w5 ⟨rfl, hB5⟩
              try have q5 := q5.below hB5 q5.lt
              refine hK.out _ _ ?_ (fun hHeld => ?_)
              · exact HK.out _ (hHeld.1.trans (hB5.mono hHeld.1.size))
              clear hK K
              try simp only [Act.put, List.setIfInBounds_toArray, List.set_cons_zero, List.set_cons_succ]
              refine wpAnyH_ready (rs := [3, 5]) (by kernel_rfl) (by simp) ?_
              refine cons_lit rfl (fun K hK => ?_) ?_
              · go_simp
                refine (hAn _).mono ?_
                rintro e w6 ⟨rfl, hB6⟩
                try have q5 := q5.below hB6 q5.lt
                refine hK.out _ _ ?_ (fun hHeld => ?_)
                · exact HK.out _ (hHeld.1.trans (hB6.mono hHeld.1.size))
                clear hK K
                try simp only [Act.put, List.setIfInBounds_toArray, List.set_cons_zero, List.set_cons_succ]
                refine take_lit (i := 4) (v := ?_) rfl (by kernel_rfl) (by kernel_rfl) (by kernel_rfl) (fun _ _ _ h => h) (Or.inl ⟨by rfl, ?_⟩) (by assumption) ?_
                rotate_left
                · (intro w hSw; (try dsimp only at hSw); go_simp <;> with_reducible rfl)
                try simp only [Act.put, List.setIfInBounds_toArray, List.set_cons_zero, List.set_cons_succ]
                refine wpAnyH_ready (rs := [5]) (by kernel_rfl) (by simp) ?_
                refine cons_lit rfl (fun K hK => ?_) ?_
                · go_simp
                  have q5 := newRow hHeld.1 53 (qcells zeroQ)
                  have l5 := hHeld.1.size
                  refine hK.out _ _ ?_ (fun hHeld => ?_)
                  · exact HK.out _ (hHeld.1.alloc hHeld.1.size _)
                  clear hK K
                  try simp only [Act.put, List.setIfInBounds_toArray, List.set_cons_zero, List.set_cons_succ]
                  refine wpAnyH_ready (rs := [6]) (by kernel_rfl) (by simp) ?_
                  refine cons_lit rfl (fun K hK => ?_) ?_
                  · skip
                    refine stepQ (.tmp 7) (.tmp 30) rfl (by rfl) _ ⟨p0, a0⟩ (q5.there (by rw [qcells_len]; omega)) rfl (buildQ p0 a0) ?_
                    intro W7 HW7
                    have q7 : Row W7 _ 53 (qcells ⟨p0, a0⟩) := HW7.out ▸ q5.setCells (qcells ⟨p0, a0⟩) (by rw [qcells_len, qcells_len])
                    refine hK.out _ _ ?_ (fun hHeld => ?_)
                    · exact HK.out _ (by rw [HW7.out]; exact below_setCells _ l5 _ _ _ hHeld.1)
                    clear hK K
                    try simp only [Act.put, List.setIfInBounds_toArray, List.set_cons_zero, List.set_cons_succ]
                    refine wpAnyH_done (by kernel_rfl) ?_ _
                    refine NoPanic.normal ?_
                    have q8 := q4.below hHeld.1 q4l
                    have c8 := (hHeld.1.cell (p := ⟨g, 2, none⟩) gl4).trans c4
                    have hG7 := HG4.out.keep hHeld.1 (by omega)
                    have z7 := hHeld.1.size
                    go_wp2_with (first | (refine stPq (.tmp 41) (.tmp 39) rfl rfl _ _ p2 rfl rfl (q7.below hB8 q7.lt).thereSrc ?_; intro w10 hw10; have r10 := hw10.out ▸ (q7.below hB8 q7.lt).setSrc p2; have q10 := hw10.out ▸ (q8.below hB8 q8.lt).setCellsOther _ (fun e => by omega) (pcells p2) 17; have hB10 := hw10.out ▸ below_setCells _ (Nat.le_trans (Nat.le_of_lt q4l) l5) (pcells p2) 17 _ (bt (hBX.trans (hHeld.1.mono (Nat.le_of_lt q4l))) hB8); clear hw10) | (refine ldQ (.tmp 7) rfl rfl _ _ ⟨p0, p2⟩ rfl (by first | exact (r10.below hB9 r10.lt).range | exact r10.range) ?_) | (refine stQ (.tmp 2) (.tmp 52) rfl rfl _ _ ⟨p0, p2⟩ rfl rfl ((q10.below hB9 q10.lt).there (by rw [qcells_len]; omega)) ?_) | (go_at_call 38; refine (hCk _).mono ?_; rintro e w9 ⟨rfl, hB9⟩) | (go_at_call 14; refine (hP2 _ hG7 (by omega)).mono ?_; rintro e w8 ⟨rfl, hB8⟩))
                    refine bodyPost_ret (retCT rfl _ _ 0 rfl (lvQ (LQ.stored ((q10.below hB9 q10.lt).there (by rw [qcells_len]; omega))))) rfl ⟨by rw [HF'.out]; rfl, below_setCells _ (Nat.le_refl _) _ _ _ (bt hB10 hB9)⟩
                  exact AllReadyH.nil
                exact AllReadyH.nil
              refine cons_lit rfl (fun K hK => ?_) ?_
              · go_simp
                have q5 := newRow hHeld.1 53 (qcells zeroQ)
                have l5 := hHeld.1.size
                refine hK.out _ _ ?_ (fun hHeld => ?_)
                · exact HK.out _ (hHeld.1.alloc hHeld.1.size _)
                clear hK K
                try simp only [Act.put, List.setIfInBounds_toArray, List.set_cons_zero, List.set_cons_succ]
                refine wpAnyH_ready (rs := [3]) (by kernel_rfl) (by simp) ?_
                refine cons_lit rfl (fun K hK => ?_) ?_
                · go_simp
                  refine (hAn _).mono ?_
                  rintro e w6 ⟨rfl, hB6⟩
                  try have q5 := q5.below hB6 q5.lt
                  refine hK.out _ _ ?_ (fun hHeld => ?_)
                  · exact HK.out _ (hHeld.1.trans (hB6.mono hHeld.1.size))
                  clear hK K
                  try simp only [Act.put, List.setIfInBounds_toArray, List.set_cons_zero, List.set_cons_succ]
                  refine take_lit (i := 4) (v := ?_) rfl (by kernel_rfl) (by kernel_rfl) (by kernel_rfl) (fun _ _ _ h => h) (Or.inl ⟨by rfl, ?_⟩) (by assumption) ?_
                  rotate_left
                  · (intro w hSw; (try dsimp only at hSw); go_simp <;> with_reducible rfl)
                  try simp only [Act.put, List.setIfInBounds_toArray, List.set_cons_zero, List.set_cons_succ]
                  refine wpAnyH_ready (rs := [6]) (by kernel_rfl) (by simp) ?_
                  refine cons_lit rfl (fun K hK => ?_) ?_
                  · skip
                    refine stepQ (.tmp 7) (.tmp 30) rfl (by rfl) _ ⟨p0, a0⟩ (q5.there (by rw [qcells_len]; omega)) rfl (buildQ p0 a0) ?_
                    intro W7 HW7
                    have q7 : Row W7 _ 53 (qcells ⟨p0, a0⟩) := HW7.out ▸ q5.setCells (qcells ⟨p0, a0⟩) (by rw [qcells_len, qcells_len])
                    refine hK.out _ _ ?_ (fun hHeld => ?_)
                    · exact HK.out _ (by rw [HW7.out]; exact below_setCells _ l5 _ _ _ hHeld.1)
                    clear hK K
                    try simp only [Act.put, List.setIfInBounds_toArray, List.set_cons_zero, List.set_cons_succ]
                    refine wpAnyH_done (by kernel_rfl) ?_ _
                    refine NoPanic.normal ?_
                    have q8 := q4.below hHeld.1 q4l
                    have c8 := (hHeld.1.cell (p := ⟨g, 2, none⟩) gl4).trans c4
                    have hG7 := HG4.out.keep hHeld.1 (by omega)
                    have z7 := hHeld.1.size
                    go_wp2_with (first | (refine stPq (.tmp 41) (.tmp 39) rfl rfl _ _ p2 rfl rfl (q7.below hB8 q7.lt).thereSrc ?_; intro w10 hw10; have r10 := hw10.out ▸ (q7.below hB8 q7.lt).setSrc p2; have q10 := hw10.out ▸ (q8.below hB8 q8.lt).setCellsOther _ (fun e => by omega) (pcells p2) 17; have hB10 := hw10.out ▸ below_setCells _ (Nat.le_trans (Nat.le_of_lt q4l) l5) (pcells p2) 17 _ (bt (hBX.trans (hHeld.1.mono (Nat.le_of_lt q4l))) hB8); clear hw10) | (refine ldQ (.tmp 7) rfl rfl _ _ ⟨p0, p2⟩ rfl (by first | exact (r10.below hB9 r10.lt).range | exact r10.range) ?_) | (refine stQ (.tmp 2) (.tmp 52) rfl rfl _ _ ⟨p0, p2⟩ rfl rfl ((q10.below hB9 q10.lt).there (by rw [qcells_len]; omega)) ?_) | (go_at_call 38; refine (hCk _).mono ?_; rintro e w9 ⟨rfl, hB9⟩) | (go_at_call 14; refine (hP2 _ hG7 (by omega)).mono ?_; rintro e w8 ⟨rfl, hB8⟩))
                    refine bodyPost_ret (retCT rfl _ _ 0 rfl (lvQ (LQ.stored ((q10.below hB9 q10.lt).there (by rw [qcells_len]; omega))))) rfl ⟨by rw [HF'.out]; rfl, below_setCells _ (Nat.le_refl _) _ _ _ (bt hB10 hB9)⟩
                  exact AllReadyH.nil
                exact AllReadyH.nil
              exact AllReadyH.nil
            refine cons_lit rfl (fun K hK => ?_) ?_
            · go_simp
              have q5 := newRow hHeld.1 53 (qcells zeroQ)
              have l5 := hHeld.1.size
              refine hK.out _ _ ?_ (fun hHeld => ?_)
              · exact HK.out _ (hHeld.1.alloc hHeld.1.size _)
              clear hK K
              try simp only [Act.put, List.setIfInBounds_toArray, List.set_cons_zero, List.set_cons_succ]
              refine wpAnyH_ready (rs := [2]) (by kernel_rfl) (by simp) ?_
              refine cons_lit rfl (fun K hK => ?_) ?_
              · go_simp
                refine (hFm _).mono ?_
                rintro e w5 ⟨rfl, hB5⟩
                try have q5 := q5.below hB5 q5.lt
                refine hK.out _ _ ?_ (fun hHeld => ?_)
                · exact HK.out _ (hHeld.1.trans (hB5.mono hHeld.1.size))
                clear hK K
                try simp only [Act.put, List.setIfInBounds_toArray, List.set_cons_zero, List.set_cons_succ]
                refine wpAnyH_ready (rs := [3]) (by kernel_rfl) (by simp) ?_
                refine cons_lit rfl (fun K hK => ?_) ?_
                · go_simp
                  refine (hAn _).mono ?_
                  rintro e w6 ⟨rfl, hB6⟩
                  try have q5 := q5.below hB6 q5.lt
                  refine hK.out _ _ ?_ (fun hHeld => ?_)
                  · exact HK.out _ (hHeld.1.trans (hB6.mono hHeld.1.size))
                  clear hK K
                  try simp only [Act.put, List.setIfInBounds_toArray, List.set_cons_zero, List.set_cons_succ]
                  refine take_lit (i := 4) (v := ?_) rfl (by kernel_rfl) (by kernel_rfl) (by kernel_rfl) (fun _ _ _ h => h) (Or.inl ⟨by rfl, ?_⟩) (by assumption) ?_
                  rotate_left
                  · (intro w hSw; (try dsimp only at hSw); go_simp <;> with_reducible rfl)
                  try simp only [Act.put, List.setIfInBounds_toArray, List.set_cons_zero, List.set_cons_succ]
                  refine wpAnyH_ready (rs := [6]) (by kernel_rfl) (by simp) ?_
                  refine cons_lit rfl (fun K hK => ?_) ?_
                  · skip
                    refine stepQ (.tmp 7) (.tmp 30) rfl (by rfl) _ ⟨p0, a0⟩ (q5.there (by rw [qcells_len]; omega)) rfl (buildQ p0 a0) ?_
                    intro W7 HW7
                    have q7 : Row W7 _ 53 (qcells ⟨p0, a0⟩) := HW7.out ▸ q5.setCells (qcells ⟨p0, a0⟩) (by rw [qcells_len, qcells_len])
                    refine hK.out _ _ ?_ (fun hHeld => ?_)
                    · exact HK.out _ (by rw [HW7.out]; exact below_setCells _ l5 _ _ _ hHeld.1)
                    clear hK K
                    try simp only [Act.put, List.setIfInBounds_toArray, List.set_cons_zero, List.set_cons_succ]
                    refine wpAnyH_done (by kernel_rfl) ?_ _
                    refine NoPanic.normal ?_
                    have q8 := q4.below hHeld.1 q4l
                    have c8 := (hHeld.1.cell (p := ⟨g, 2, none⟩) gl4).trans c4
                    have hG7 := HG4.out.keep hHeld.1 (by omega)
                    have z7 := hHeld.1.size
                    go_wp2_with (first | (refine stPq (.tmp 41) (.tmp 39) rfl rfl _ _ p2 rfl rfl (q7.below hB8 q7.lt).thereSrc ?_; intro w10 hw10; have r10 := hw10.out ▸ (q7.below hB8 q7.lt).setSrc p2; have q10 := hw10.out ▸ (q8.below hB8 q8.lt).setCellsOther _ (fun e => by omega) (pcells p2) 17; have hB10 := hw10.out ▸ below_setCells _ (Nat.le_trans (Nat.le_of_lt q4l) l5) (pcells p2) 17 _ (bt (hBX.trans (hHeld.1.mono (Nat.le_of_lt q4l))) hB8); clear hw10) | (refine ldQ (.tmp 7) rfl rfl _ _ ⟨p0, p2⟩ rfl (by first | exact (r10.below hB9 r10.lt).range | exact r10.range) ?_) | (refine stQ (.tmp 2) (.tmp 52) rfl rfl _ _ ⟨p0, p2⟩ rfl rfl ((q10.below hB9 q10.lt).there (by rw [qcells_len]; omega)) ?_) | (go_at_call 38; refine (hCk _).mono ?_; rintro e w9 ⟨rfl, hB9⟩) | (go_at_call 14; refine (hP2 _ hG7 (by omega)).mono ?_; rintro e w8 ⟨rfl, hB8⟩))
                    refine bodyPost_ret (retCT rfl _ _ 0 rfl (lvQ (LQ.stored ((q10.below hB9 q10.lt).there (by rw [qcells_len]; omega))))) rfl ⟨by rw [HF'.out]; rfl, below_setCells _ (Nat.le_refl _) _ _ _ (bt hB10 hB9)⟩
                  exact AllReadyH.nil
                exact AllReadyH.nil
              exact AllReadyH.nil
            exact AllReadyH.nil
          · have HF' : Hid (prq s = (zeroQ, 21)) := by show _ = _; rw [HF.out, prq2, if_neg (by rw [hk]; decide), hk]
            rw [hk] at hCk
            clear HF hk
            refine wp_region_noPanic ?_
            refine wp_region_held_drew (S := fun W => Below w4.heap.size w4 W ∧ LP W w3.heap.size 0 p0) (by kernel_rfl) (HK.out _ (Below.refl _ _).drew) (fun hHeld => ?_)
            refine take_lit (i := 0) rfl (by kernel_rfl) (by kernel_rfl) (by kernel_rfl) (fun _ _ _ h => h) (yP p0 (fun w h => h.2) (by rfl) rfl rfl) (by assumption) ?_
            try simp only [Act.put, List.setIfInBounds_toArray, List.set_cons_zero, List.set_cons_succ]
            refine take_lit (i := 1) rfl (by kernel_rfl) (by kernel_rfl) (by kernel_rfl) (fun _ _ _ h => h) (yP p0 (fun w h => h.2) (by rfl) rfl rfl) (by assumption) ?_
            try simp only [Act.put, List.setIfInBounds_toArray, List.set_cons_zero, List.set_cons_succ]
            refine wpAnyH_ready (rs := [2, 5]) (by kernel_rfl) (by simp) ?_
            refine cons_lit rfl (fun K hK => ?_) ?_
            · go_simp
              refine (hFm _).mono ?_
              rintro e w5 ⟨rfl, hB5⟩
              try have q5 := q5.below hB5 q5.lt
              refine hK.out _ _ ?_ (fun hHeld => ?_)
              · exact HK.out _ (hHeld.1.trans (hB5.mono hHeld.1.size))
              clear hK K
              try simp only [Act.put, List.setIfInBounds_toArray, List.set_cons_zero, List.set_cons_succ]
              refine wpAnyH_ready (rs := [3, 5]) (by kernel_rfl) (by simp) ?_
              refine cons_lit rfl (fun K hK => ?_) ?_
              · go_simp
                refine (hAn _).mono ?_
                rintro e w6 ⟨rfl, hB6⟩
                try have q5 := q5.below hB6 q5.lt
                refine hK.out _ _ ?_ (fun hHeld => ?_)
                · exact HK.out _ (hHeld.1.trans (hB6.mono hHeld.1.size))
                clear hK K
                try simp only [Act.put, List.setIfInBounds_toArray, List.set_cons_zero, List.set_cons_succ]
                refine take_lit (i := 4) (v := ?_) rfl (by kernel_rfl) (by kernel_rfl) (by kernel_rfl) (fun _ _ _ h => h) (Or.inl ⟨by rfl, ?_⟩) (by assumption) ?_
                rotate_left
                · (intro w hSw; (try dsimp only at hSw); go_simp <;> with_reducible rfl)
                try simp only [Act.put, List.setIfInBounds_toArray, List.set_cons_zero, List.set_cons_succ]
                refine wpAnyH_ready (rs := [5]) (by kernel_rfl) (by simp) ?_
                refine cons_lit rfl (fun K hK => ?_) ?_
                · go_simp
                  have q5 := newRow hHeld.1 53 (qcells zeroQ)
                  have l5 := hHeld.1.size
                  refine hK.out _ _ ?_ (fun hHeld => ?_)
                  · exact HK.out _ (hHeld.1.alloc hHeld.1.size _)
                  clear hK K
                  try simp only [Act.put, List.setIfInBounds_toArray, List.set_cons_zero, List.set_cons_succ]
                  refine wpAnyH_ready (rs := [6]) (by kernel_rfl) (by simp) ?_
                  refine cons_lit rfl (fun K hK => ?_) ?_
                  · skip
                    refine stepQ (.tmp 7) (.tmp 30) rfl (by rfl) _ ⟨p0, a0⟩ (q5.there (by rw [qcells_len]; omega)) rfl (buildQ p0 a0) ?_
                    intro W7 HW7
                    have q7 : Row W7 _ 53 (qcells ⟨p0, a0⟩) := HW7.out ▸ q5.setCells (qcells ⟨p0, a0⟩) (by rw [qcells_len, qcells_len])
                    refine hK.out _ _ ?_ (fun hHeld => ?_)
                    · exact HK.out _ (by rw [HW7.out]; exact below_setCells _ l5 _ _ _ hHeld.1)
                    clear hK K
                    try simp only [Act.put, List.setIfInBounds_toArray, List.set_cons_zero, List.set_cons_succ]
                    refine wpAnyH_done (by kernel_rfl) ?_ _
                    refine NoPanic.normal ?_
                    have q8 := q4.below hHeld.1 q4l
                    have c8 := (hHeld.1.cell (p := ⟨g, 2, none⟩) gl4).trans c4
                    have hG7 := HG4.out.keep hHeld.1 (by omega)
                    have z7 := hHeld.1.size
                    go_wp2_with (first | (refine stPq (.tmp 41) (.tmp 39) rfl rfl _ _ p2 rfl rfl (q7.below hB8 q7.lt).thereSrc ?_; intro w10 hw10; have r10 := hw10.out ▸ (q7.below hB8 q7.lt).setSrc p2; have q10 := hw10.out ▸ (q8.below hB8 q8.lt).setCellsOther _ (fun e => by omega) (pcells p2) 17; have hB10 := hw10.out ▸ below_setCells _ (Nat.le_trans (Nat.le_of_lt q4l) l5) (pcells p2) 17 _ (bt (hBX.trans (hHeld.1.mono (Nat.le_of_lt q4l))) hB8); clear hw10) | (refine ldQ (.tmp 7) rfl rfl _ _ ⟨p0, p2⟩ rfl (by first | exact (r10.below hB9 r10.lt).range | exact r10.range) ?_) | (refine stQ (.tmp 2) (.tmp 50) rfl rfl _ _ zeroQ rfl rfl ((q10.below hB9 q10.lt).there (by rw [qcells_len]; omega)) ?_) | (go_at_call 38; refine (hCk _).mono ?_; rintro e w9 ⟨rfl, hB9⟩) | (go_at_call 14; refine (hP2 _ hG7 (by omega)).mono ?_; rintro e w8 ⟨rfl, hB8⟩))
                    refine bodyPost_ret (retCT rfl _ _ 0 rfl (lvQ (LQ.stored ((q10.below hB9 q10.lt).there (by rw [qcells_len]; omega))))) rfl ⟨by rw [HF'.out]; rfl, below_setCells _ (Nat.le_refl _) _ _ _ (bt hB10 hB9)⟩
                  exact AllReadyH.nil
                exact AllReadyH.nil
              refine cons_lit rfl (fun K hK => ?_) ?_
              · go_simp
                have q5 := newRow hHeld.1 53 (qcells zeroQ)
                have l5 := hHeld.1.size
                refine hK.out _ _ ?_ (fun hHeld => ?_)
                · exact HK.out _ (hHeld.1.alloc hHeld.1.size _)
                clear hK K
                try simp only [Act.put, List.setIfInBounds_toArray, List.set_cons_zero, List.set_cons_succ]
                refine wpAnyH_ready (rs := [3]) (by kernel_rfl) (by simp) ?_
                refine cons_lit rfl (fun K hK => ?_) ?_
                · go_simp
                  refine (hAn _).mono ?_
                  rintro e w6 ⟨rfl, hB6⟩
                  try have q5 := q5.below hB6 q5.lt
                  refine hK.out _ _ ?_ (fun hHeld => ?_)
                  · exact HK.out _ (hHeld.1.trans (hB6.mono hHeld.1.size))
                  clear hK K
                  try simp only [Act.put, List.setIfInBounds_toArray, List.set_cons_zero, List.set_cons_succ]
                  refine take_lit (i := 4) (v := ?_) rfl (by kernel_rfl) (by kernel_rfl) (by kernel_rfl) (fun _ _ _ h => h) (Or.inl ⟨by rfl, ?_⟩) (by assumption) ?_
                  rotate_left
                  · (intro w hSw; (try dsimp only at hSw); go_simp <;> with_reducible rfl)
                  try simp only [Act.put, List.setIfInBounds_toArray, List.set_cons_zero, List.set_cons_succ]
                  refine wpAnyH_ready (rs := [6]) (by kernel_rfl) (by simp) ?_
                  refine cons_lit rfl (fun K hK => ?_) ?_
                  · skip
                    refine stepQ (.tmp 7) (.tmp 30) rfl (by rfl) _ ⟨p0, a0⟩ (q5.there (by rw [qcells_len]; omega)) rfl (buildQ p0 a0) ?_
                    intro W7 HW7
                    have q7 : Row W7 _ 53 (qcells ⟨p0, a0⟩) := HW7.out ▸ q5.setCells (qcells ⟨p0, a0⟩) (by rw [qcells_len, qcells_len])
                    refine hK.out _ _ ?_ (fun hHeld => ?_)
                    · exact HK.out _ (by rw [HW7.out]; exact below_setCells _ l5 _ _ _ hHeld.1)
                    clear hK K
                    try simp only [Act.put, List.setIfInBounds_toArray, List.set_cons_zero, List.set_cons_succ]
                    refine wpAnyH_done (by kernel_rfl) ?_ _
                    refine NoPanic.normal ?_
                    have q8 := q4.below hHeld.1 q4l
                    have c8 := (hHeld.1.cell (p := ⟨g, 2, none⟩) gl4).trans c4
                    have hG7 := HG4.out.keep hHeld.1 (by omega)
                    have z7 := hHeld.1.size
                    go_wp2_with (first | (refine stPq (.tmp 41) (.tmp 39) rfl rfl _ _ p2 rfl rfl (q7.below hB8 q7.lt).thereSrc ?_; intro w10 hw10; have r10 := hw10.out ▸ (q7.below hB8 q7.lt).setSrc p2; have q10 := hw10.out ▸ (q8.below hB8 q8.lt).setCellsOther _ (fun e => by omega) (pcells p2) 17; have hB10 := hw10.out ▸ below_setCells _ (Nat.le_trans (Nat.le_of_lt q4l) l5) (pcells p2) 17 _ (bt (hBX.trans (hHeld.1.mono (Nat.le_of_lt q4l))) hB8); clear hw10) | (refine ldQ (.tmp 7) rfl rfl _ _ ⟨p0, p2⟩ rfl (by first | exact (r10.below hB9 r10.lt).range | exact r10.range) ?_) | (refine stQ (.tmp 2) (.tmp 50) rfl rfl _ _ zeroQ rfl rfl ((q10.below hB9 q10.lt).there (by rw [qcells_len]; omega)) ?_) | (go_at_call 38; refine (hCk _).mono ?_; rintro e w9 ⟨rfl, hB9⟩) | (go_at_call 14; refine (hP2 _ hG7 (by omega)).mono ?_; rintro e w8 ⟨rfl, hB8⟩))
                    refine bodyPost_ret (retCT rfl _ _ 0 rfl (lvQ (LQ.stored ((q10.below hB9 q10.lt).there (by rw [qcells_len]; omega))))) rfl ⟨by rw [HF'.out]; rfl, below_setCells _ (Nat.le_refl _) _ _ _ (bt hB10 hB9)⟩
                  exact AllReadyH.nil
                exact AllReadyH.nil
              exact AllReadyH.nil
            refine cons_lit rfl (fun K hK => ?_) ?_
            · go_simp
              have q5 := newRow hHeld.1 53 (qcells zeroQ)
              have l5 := hHeld.1.size
              refine hK.out _ _ ?_ (fun hHeld => ?_)
              · exact HK.out _ (hHeld.1.alloc hHeld.1.size _)
              clear hK K
              try simp only [Act.put, List.setIfInBounds_toArray, List.set_cons_zero, List.set_cons_succ]
              refine wpAnyH_ready (rs := [2]) (by kernel_rfl) (by simp) ?_
              refine cons_lit rfl (fun K hK => ?_) ?_
              · go_simp
                refine (hFm _).mono ?_
                rintro e w5 ⟨rfl, hB5⟩
                try have q5 := q5.below hB5 q5.lt
                refine hK.out _ _ ?_ (fun hHeld => ?_)
                · exact HK.out _ (hHeld.1.trans (hB5.mono hHeld.1.size))
                clear hK K
                try simp only [Act.put, List.setIfInBounds_toArray, List.set_cons_zero, List.set_cons_succ]
                refine wpAnyH_ready (rs := [3]) (by kernel_rfl) (by simp) ?_
                refine cons_lit rfl (fun K hK => ?_) ?_
                · go_simp
                  refine (hAn _).mono ?_
                  rintro e w6 ⟨rfl, hB6⟩
                  try have q5 := q5.below hB6 q5.lt
                  refine hK.out _ _ ?_ (fun hHeld => ?_)
                  · exact HK.out _ (hHeld.1.trans (hB6.mono hHeld.1.size))
                  clear hK K
                  try simp only [Act.put, List.setIfInBounds_toArray, List.set_cons_zero, List.set_cons_succ]
                  refine take_lit (i := 4) (v := ?_) rfl (by kernel_rfl) (by kernel_rfl) (by kernel_rfl) (fun _ _ _ h => h) (Or.inl ⟨by rfl, ?_⟩) (by assumption) ?_
                  rotate_left
                  · (intro w hSw; (try dsimp only at hSw); go_simp <;> with_reducible rfl)
                  try simp only [Act.put, List.setIfInBounds_toArray, List.set_cons_zero, List.set_cons_succ]
                  refine wpAnyH_ready (rs := [6]) (by kernel_rfl) (by simp) ?_
                  refine cons_lit rfl (fun K hK => ?_) ?_
                  · skip
                    refine stepQ (.tmp 7) (.tmp 30) rfl (by rfl) _ ⟨p0, a0⟩ (q5.there (by rw [qcells_len]; omega)) rfl (buildQ p0 a0) ?_
                    intro W7 HW7
                    have q7 : Row W7 _ 53 (qcells ⟨p0, a0⟩) := HW7.out ▸ q5.setCells (qcells ⟨p0, a0⟩) (by rw [qcells_len, qcells_len])
                    refine hK.out _ _ ?_ (fun hHeld => ?_)
                    · exact HK.out _ (by rw [HW7.out]; exact below_setCells _ l5 _ _ _ hHeld.1)
                    clear hK K
                    try simp only [Act.put, List.setIfInBounds_toArray, List.set_cons_zero, List.set_cons_succ]
                    refine wpAnyH_done (by kernel_rfl) ?_ _
                    refine NoPanic.normal ?_
                    have q8 := q4.below hHeld.1 q4l
                    have c8 := (hHeld.1.cell (p := ⟨g, 2, none⟩) gl4).trans c4
                    have hG7 := HG4.out.keep hHeld.1 (by omega)
                    have z7 := hHeld.1.size
                    go_wp2_with (first | (refine stPq (.tmp 41) (.tmp 39) rfl rfl _ _ p2 rfl rfl (q7.below hB8 q7.lt).thereSrc ?_; intro w10 hw10; have r10 := hw10.out ▸ (q7.below hB8 q7.lt).setSrc p2; have q10 := hw10.out ▸ (q8.below hB8 q8.lt).setCellsOther _ (fun e => by omega) (pcells p2) 17; have hB10 := hw10.out ▸ below_setCells _ (Nat.le_trans (Nat.le_of_lt q4l) l5) (pcells p2) 17 _ (bt (hBX.trans (hHeld.1.mono (Nat.le_of_lt q4l))) hB8); clear hw10) | (refine ldQ (.tmp 7) rfl rfl _ _ ⟨p0, p2⟩ rfl (by first | exact (r10.below hB9 r10.lt).range | exact r10.range) ?_) | (refine stQ (.tmp 2) (.tmp 50) rfl rfl _ _ zeroQ rfl rfl ((q10.below hB9 q10.lt).there (by rw [qcells_len]; omega)) ?_) | (go_at_call 38; refine (hCk _).mono ?_; rintro e w9 ⟨rfl, hB9⟩) | (go_at_call 14; refine (hP2 _ hG7 (by omega)).mono ?_; rintro e w8 ⟨rfl, hB8⟩))
                    refine bodyPost_ret (retCT rfl _ _ 0 rfl (lvQ (LQ.stored ((q10.below hB9 q10.lt).there (by rw [qcells_len]; omega))))) rfl ⟨by rw [HF'.out]; rfl, below_setCells _ (Nat.le_refl _) _ _ _ (bt hB10 hB9)⟩
                  exact AllReadyH.nil
                exact AllReadyH.nil
              exact AllReadyH.nil
            exact AllReadyH.nil
        · have HF' : Hid (prq s = (zeroQ, k2)) := by show _ = _; rw [HF.out, if_neg hk2]
          have hk2' : (k2 != 0) = true := by simpa using hk2
          clear HF hk2
          refine wp_region_noPanic ?_
          refine wp_region_held_drew (S := fun W => Below w4.heap.size w4 W ∧ LP W w3.heap.size 0 p0) (by kernel_rfl) (HK.out _ (Below.refl _ _).drew) (fun hHeld => ?_)
          refine take_lit (i := 0) rfl (by kernel_rfl) (by kernel_rfl) (by kernel_rfl) (fun _ _ _ h => h) (yP p0 (fun w h => h.2) (by rfl) rfl rfl) (by assumption) ?_
          try simp only [Act.put, List.setIfInBounds_toArray, List.set_cons_zero, List.set_cons_succ]
          refine take_lit (i := 1) rfl (by kernel_rfl) (by kernel_rfl) (by kernel_rfl) (fun _ _ _ h => h) (yP p0 (fun w h => h.2) (by rfl) rfl rfl) (by assumption) ?_
          try simp only [Act.put, List.setIfInBounds_toArray, List.set_cons_zero, List.set_cons_succ]
          refine wpAnyH_ready (rs := [2, 5]) (by kernel_rfl) (by simp) ?_
          refine cons_lit rfl (fun K hK => ?_) ?_
          · go_simp
            refine (hFm _).mono ?_
            rintro e w5 ⟨rfl, hB5⟩
            try have q5 := q5.below hB5 q5.lt
            refine hK.out _ _ ?_ (fun hHeld => ?_)
            · exact HK.out _ (hHeld.1.trans (hB5.mono hHeld.1.size))
            clear hK K
            try simp only [Act.put, List.setIfInBounds_toArray, List.set_cons_zero, List.set_cons_succ]
            refine wpAnyH_ready (rs := [3, 5]) (by kernel_rfl) (by simp) ?_
            refine cons_lit rfl (fun K hK => ?_) ?_
            · go_simp
              refine (hAn _).mono ?_
              rintro e w6 ⟨rfl, hB6⟩
              try have q5 := q5.below hB6 q5.lt
              refine hK.out _ _ ?_ (fun hHeld => ?_)
              · exact HK.out _ (hHeld.1.trans (hB6.mono hHeld.1.size))
              clear hK K
              try simp only [Act.put, List.setIfInBounds_toArray, List.set_cons_zero, List.set_cons_succ]
              refine take_lit (i := 4) (v := ?_) rfl (by kernel_rfl) (by kernel_rfl) (by kernel_rfl) (fun _ _ _ h => h) (Or.inl ⟨by rfl, ?_⟩) (by assumption) ?_
              rotate_left
              · (intro w hSw; (try dsimp only at hSw); go_simp <;> with_reducible rfl)
              try simp only [Act.put, List.setIfInBounds_toArray, List.set_cons_zero, List.set_cons_succ]
              refine wpAnyH_ready (rs := [5]) (by kernel_rfl) (by simp) ?_
              refine cons_lit rfl (fun K hK => ?_) ?_
              · go_simp
                have q5 := newRow hHeld.1 53 (qcells zeroQ)
                have l5 := hHeld.1.size
                refine hK.out _ _ ?_ (fun hHeld => ?_)
                · exact HK.out _ (hHeld.1.alloc hHeld.1.size _)
                clear hK K
                try simp only [Act.put, List.setIfInBounds_toArray, List.set_cons_zero, List.set_cons_succ]
                refine wpAnyH_ready (rs := [6]) (by kernel_rfl) (by simp) ?_
                refine cons_lit rfl (fun K hK => ?_) ?_
                · skip
                  refine stepQ (.tmp 7) (.tmp 30) rfl (by rfl) _ ⟨p0, a0⟩ (q5.there (by rw [qcells_len]; omega)) rfl (buildQ p0 a0) ?_
                  intro W7 HW7
                  have q7 : Row W7 _ 53 (qcells ⟨p0, a0⟩) := HW7.out ▸ q5.setCells (qcells ⟨p0, a0⟩) (by rw [qcells_len, qcells_len])
                  refine hK.out _ _ ?_ (fun hHeld => ?_)
                  · exact HK.out _ (by rw [HW7.out]; exact below_setCells _ l5 _ _ _ hHeld.1)
                  clear hK K
                  try simp only [Act.put, List.setIfInBounds_toArray, List.set_cons_zero, List.set_cons_succ]
                  refine wpAnyH_done (by kernel_rfl) ?_ _
                  refine NoPanic.normal ?_
                  have q8 := q4.below hHeld.1 q4l
                  have c8 := (hHeld.1.cell (p := ⟨g, 2, none⟩) gl4).trans c4
                  have hG7 := HG4.out.keep hHeld.1 (by omega)
                  have z7 := hHeld.1.size
                  go_wp2_with (first | (refine stPq (.tmp 41) (.tmp 39) rfl rfl _ _ p2 rfl rfl (q7.below hB8 q7.lt).thereSrc ?_; intro w10 hw10; have r10 := hw10.out ▸ (q7.below hB8 q7.lt).setSrc p2; have q10 := hw10.out ▸ (q8.below hB8 q8.lt).setCellsOther _ (fun e => by omega) (pcells p2) 17; have hB10 := hw10.out ▸ below_setCells _ (Nat.le_trans (Nat.le_of_lt q4l) l5) (pcells p2) 17 _ (bt (hBX.trans (hHeld.1.mono (Nat.le_of_lt q4l))) hB8); clear hw10) | (refine stQ (.tmp 2) (.tmp 44) rfl rfl _ _ zeroQ rfl rfl (q10.there (by rw [qcells_len]; omega)) ?_) | (go_at_call 14; refine (hP2 _ hG7 (by omega)).mono ?_; rintro e w8 ⟨rfl, hB8⟩))
                  refine bodyPost_ret (retCT rfl _ _ 0 rfl (lvQ (LQ.stored (q10.there (by rw [qcells_len]; omega))))) rfl ⟨by rw [HF'.out]; rfl, below_setCells _ (Nat.le_refl _) _ _ _ hB10⟩
                exact AllReadyH.nil
              exact AllReadyH.nil
            refine cons_lit rfl (fun K hK => ?_) ?_
            · go_simp
              have q5 := newRow hHeld.1 53 (qcells zeroQ)
              have l5 := hHeld.1.size
              refine hK.out _ _ ?_ (fun hHeld => ?_)
              · exact HK.out _ (hHeld.1.alloc hHeld.1.size _)
              clear hK K
              try simp only [Act.put, List.setIfInBounds_toArray, List.set_cons_zero, List.set_cons_succ]
              refine wpAnyH_ready (rs := [3]) (by kernel_rfl) (by simp) ?_
              refine cons_lit rfl (fun K hK => ?_) ?_
              · go_simp
                refine (hAn _).mono ?_
                rintro e w6 ⟨rfl, hB6⟩
                try have q5 := q5.below hB6 q5.lt
                refine hK.out _ _ ?_ (fun hHeld => ?_)
                · exact HK.out _ (hHeld.1.trans (hB6.mono hHeld.1.size))
                clear hK K
                try simp only [Act.put, List.setIfInBounds_toArray, List.set_cons_zero, List.set_cons_succ]
                refine take_lit (i := 4) (v := ?_) rfl (by kernel_rfl) (by kernel_rfl) (by kernel_rfl) (fun _ _ _ h => h) (Or.inl ⟨by rfl, ?_⟩) (by assumption) ?_
                rotate_left
                · (intro w hSw; (try dsimp only at hSw); go_simp <;> with_reducible rfl)
                try simp only [Act.put, List.setIfInBounds_toArray, List.set_cons_zero, List.set_cons_succ]
                refine wpAnyH_ready (rs := [6]) (by kernel_rfl) (by simp) ?_
                refine cons_lit rfl (fun K hK => ?_) ?_
                · skip
                  refine stepQ (.tmp 7) (.tmp 30) rfl (by rfl) _ ⟨p0, a0⟩ (q5.there (by rw [qcells_len]; omega)) rfl (buildQ p0 a0) ?_
                  intro W7 HW7
                  have q7 : Row W7 _ 53 (qcells ⟨p0, a0⟩) := HW7.out ▸ q5.setCells (qcells ⟨p0, a0⟩) (by rw [qcells_len, qcells_len])
                  refine hK.out _ _ ?_ (fun hHeld => ?_)
                  · exact HK.out _ (by rw [HW7.out]; exact below_setCells _ l5 _ _ _ hHeld.1)
                  clear hK K
                  try simp only [Act.put, List.setIfInBounds_toArray, List.set_cons_zero, List.set_cons_succ]
                  refine wpAnyH_done (by kernel_rfl) ?_ _
                  refine NoPanic.normal ?_
                  have q8 := q4.below hHeld.1 q4l
                  have c8 := (hHeld.1.cell (p := ⟨g, 2, none⟩) gl4).trans c4
                  have hG7 := HG4.out.keep hHeld.1 (by omega)
                  have z7 := hHeld.1.size
                  go_wp2_with (first | (refine stPq (.tmp 41) (.tmp 39) rfl rfl _ _ p2 rfl rfl (q7.below hB8 q7.lt).thereSrc ?_; intro w10 hw10; have r10 := hw10.out ▸ (q7.below hB8 q7.lt).setSrc p2; have q10 := hw10.out ▸ (q8.below hB8 q8.lt).setCellsOther _ (fun e => by omega) (pcells p2) 17; have hB10 := hw10.out ▸ below_setCells _ (Nat.le_trans (Nat.le_of_lt q4l) l5) (pcells p2) 17 _ (bt (hBX.trans (hHeld.1.mono (Nat.le_of_lt q4l))) hB8); clear hw10) | (refine stQ (.tmp 2) (.tmp 44) rfl rfl _ _ zeroQ rfl rfl (q10.there (by rw [qcells_len]; omega)) ?_) | (go_at_call 14; refine (hP2 _ hG7 (by omega)).mono ?_; rintro e w8 ⟨rfl, hB8⟩))
                  refine bodyPost_ret (retCT rfl _ _ 0 rfl (lvQ (LQ.stored (q10.there (by rw [qcells_len]; omega))))) rfl ⟨by rw [HF'.out]; rfl, below_setCells _ (Nat.le_refl _) _ _ _ hB10⟩
                exact AllReadyH.nil
              exact AllReadyH.nil
            exact AllReadyH.nil
          refine cons_lit rfl (fun K hK => ?_) ?_
          · go_simp
            have q5 := newRow hHeld.1 53 (qcells zeroQ)
            have l5 := hHeld.1.size
            refine hK.out _ _ ?_ (fun hHeld => ?_)
            · exact HK.out _ (hHeld.1.alloc hHeld.1.size _)
            clear hK K
            try simp only [Act.put, List.setIfInBounds_toArray, List.set_cons_zero, List.set_cons_succ]
            refine wpAnyH_ready (rs := [2]) (by kernel_rfl) (by simp) ?_
            refine cons_lit rfl (fun K hK => ?_) ?_
            · go_simp
              refine (hFm _).mono ?_
              rintro e w5 ⟨rfl, hB5⟩
              try have q5 := q5.below hB5 q5.lt
              refine hK.out _ _ ?_ (fun hHeld => ?_)
              · exact HK.out _ (hHeld.1.trans (hB5.mono hHeld.1.size))
              clear hK K
              try simp only [Act.put, List.setIfInBounds_toArray, List.set_cons_zero, List.set_cons_succ]
              refine wpAnyH_ready (rs := [3]) (by kernel_rfl) (by simp) ?_
              refine cons_lit rfl (fun K hK => ?_) ?_
              · go_simp
                refine (hAn _).mono ?_
                rintro e w6 ⟨rfl, hB6⟩
                try have q5 := q5.below hB6 q5.lt
                refine hK.out _ _ ?_ (fun hHeld => ?_)
                · exact HK.out _ (hHeld.1.trans (hB6.mono hHeld.1.size))
                clear hK K
                try simp only [Act.put, List.setIfInBounds_toArray, List.set_cons_zero, List.set_cons_succ]
                refine take_lit (i := 4) (v := ?_) rfl (by kernel_rfl) (by kernel_rfl) (by kernel_rfl) (fun _ _ _ h => h) (Or.inl ⟨by rfl, ?_⟩) (by assumption) ?_
                rotate_left
                · (intro w hSw; (try dsimp only at hSw); go_simp <;> with_reducible rfl)
                try simp only [Act.put, List.setIfInBounds_toArray, List.set_cons_zero, List.set_cons_succ]
                refine wpAnyH_ready (rs := [6]) (by kernel_rfl) (by simp) ?_
                refine cons_lit rfl (fun K hK => ?_) ?_
                · skip
                  refine stepQ (.tmp 7) (.tmp 30) rfl (by rfl) _ ⟨p0, a0⟩ (q5.there (by rw [qcells_len]; omega)) rfl (buildQ p0 a0) ?_
                  intro W7 HW7
                  have q7 : Row W7 _ 53 (qcells ⟨p0, a0⟩) := HW7.out ▸ q5.setCells (qcells ⟨p0, a0⟩) (by rw [qcells_len, qcells_len])
                  refine hK.out _ _ ?_ (fun hHeld => ?_)
                  · exact HK.out _ (by rw [HW7.out]; exact below_setCells _ l5 _ _ _ hHeld.1)
                  clear hK K
                  try simp only [Act.put, List.setIfInBounds_toArray, List.set_cons_zero, List.set_cons_succ]
                  refine wpAnyH_done (by kernel_rfl) ?_ _
                  refine NoPanic.normal ?_
                  have q8 := q4.below hHeld.1 q4l
                  have c8 := (hHeld.1.cell (p := ⟨g, 2, none⟩) gl4).trans c4
                  have hG7 := HG4.out.keep hHeld.1 (by omega)
                  have z7 := hHeld.1.size
                  go_wp2_with (first | (refine stPq (.tmp 41) (.tmp 39) rfl rfl _ _ p2 rfl rfl (q7.below hB8 q7.lt).thereSrc ?_; intro w10 hw10; have r10 := hw10.out ▸ (q7.below hB8 q7.lt).setSrc p2; have q10 := hw10.out ▸ (q8.below hB8 q8.lt).setCellsOther _ (fun e => by omega) (pcells p2) 17; have hB10 := hw10.out ▸ below_setCells _ (Nat.le_trans (Nat.le_of_lt q4l) l5) (pcells p2) 17 _ (bt (hBX.trans (hHeld.1.mono (Nat.le_of_lt q4l))) hB8); clear hw10) | (refine stQ (.tmp 2) (.tmp 44) rfl rfl _ _ zeroQ rfl rfl (q10.there (by rw [qcells_len]; omega)) ?_) | (go_at_call 14; refine (hP2 _ hG7 (by omega)).mono ?_; rintro e w8 ⟨rfl, hB8⟩))
                  refine bodyPost_ret (retCT rfl _ _ 0 rfl (lvQ (LQ.stored (q10.there (by rw [qcells_len]; omega))))) rfl ⟨by rw [HF'.out]; rfl, below_setCells _ (Nat.le_refl _) _ _ _ hB10⟩
                exact AllReadyH.nil
              exact AllReadyH.nil
            exact AllReadyH.nil
          exact AllReadyH.nil
      · rw [if_neg hn3] at HF
        have hn3' : ((n : Int) == 3) = false := by simp; omega
        clear hb hw1 hn hx0 hn3
        go_enter Tryz.func34, Tryz.ntmps34
        go_wp2_with (first
          | (refine stPq (.tmp 5) (.tmp 20) rfl rfl _ _ p0 rfl rfl (Row.there (Row.new _ _ _) (by simp)) ?_; intro w4 hw4; have hst := hw4.out ▸ storedRowP w3 _ _ p0 (by simp); clear hw4; obtain ⟨hB4, hR4, hs4⟩ := hst; have z1 := hB1.size; have z3 := hB3.size; simp only [World.size_alloc] at z1; have q4 := ((hR.below hB1 (by simp)).below hB3 (by omega)).below hB4 (by omega))
          | (go_at_call 14; refine (hP0 _ (hG1.keep hB1 (by simp; omega)) (by have := hB1.size; simp at this; omega)).mono ?_; rintro e w3 ⟨rfl, hB3⟩)
          | (go_at_call 70; refine (hPw w1 g c hc).mono ?_; rintro e w2 ⟨rfl, rfl⟩)
          | (go_at_call 69; refine hS.mono ?_; rintro e w1 ⟨g, c, rfl, hg, hc, hB1⟩; have c0 := hc 0 x0 e0))
        have hBX := bt (bt (bt (ba _ _) hB1) hB3) hB4
        have hP4 : LP w4 w3.heap.size 0 p0 := hR4.range
        have HK : Hid (∀ W, Below w4.heap.size w4 W → Below w4.heap.size w4 W ∧ LP W w3.heap.size 0 p0) := fun W h => ⟨h, hP4.below h (by omega)⟩
        have hCk := checkQ_any ⟨p0, a0⟩
        have q4l := q4.lt
        have hpl := pcells_len p0
        have hpla := pcells_len a0
        have hqs := foldQs p0
        clear hc hB1 hB3 hB4 hR4 c0 hPw hP0 hS hG1 hR hs4 z1 z3
        rcases chkQ_or ⟨p0, a0⟩ with hk | hk
        · have HF' : Hid (prq s = (⟨p0, a0⟩, 0)) := by show _ = _; rw [HF.out, prq2, if_pos hk]
          rw [hk] at hCk
          clear HF hk
          refine wp_region_noPanic ?_
          refine wp_region_held_drew (S := fun W => Below w4.heap.size w4 W ∧ LP W w3.heap.size 0 p0) (by kernel_rfl) (HK.out _ (Below.refl _ _).drew) (fun hHeld => ?_)
          refine take_lit (i := 0) rfl (by kernel_rfl) (by kernel_rfl) (by kernel_rfl) (fun _ _ _ h => h) (yP p0 (fun w h => h.2) (by rfl) rfl rfl) (by assumption) ?_
          try simp only [Act.put, List.setIfInBounds_toArray, List.set_cons_zero, List.set_cons_succ]
          refine take_lit (i := 1) rfl (by kernel_rfl) (by kernel_rfl) (by kernel_rfl) (fun _ _ _ h => h) (yP p0 (fun w h => h.2) (by rfl) rfl rfl) (by assumption) ?_
          try simp only [Act.put, List.setIfInBounds_toArray, List.set_cons_zero, List.set_cons_succ]
          refine wpAnyH_ready (rs := [2, 5]) (by kernel_rfl) (by simp) ?_
          refine cons_lit rfl (fun K hK => ?_) ?_
          · go_simp
            refine (hFm _).mono ?_
            rintro e w5 ⟨rfl, hB5⟩
            try have q5 := q5.below hB5 q5.lt
            refine hK.out _ _ ?_ (fun hHeld => ?_)
            · exact HK.out _ (hHeld.1.trans (hB5.mono hHeld.1.size))
            clear hK K
            try simp only [Act.put, List.setIfInBounds_toArray, List.set_cons_zero, List.set_cons_succ]
            refine wpAnyH_ready (rs := [3, 5]) (by kernel_rfl) (by simp) ?_
            refine cons_lit rfl (fun K hK => ?_) ?_
            · go_simp
              refine (hAn _).mono ?_
              rintro e w6 ⟨rfl, hB6⟩
              try have q5 := q5.below hB6 q5.lt
              refine hK.out _ _ ?_ (fun hHeld => ?_)
              · exact HK.out _ (hHeld.1.trans (hB6.mono hHeld.1.size))
              clear hK K
              try simp only [Act.put, List.setIfInBounds_toArray, List.set_cons_zero, List.set_cons_succ]
              refine take_lit (i := 4) (v := ?_) rfl (by kernel_rfl) (by kernel_rfl) (by kernel_rfl) (fun _ _ _ h => h) (Or.inl ⟨by rfl, ?_⟩) (by assumption) ?_
              rotate_left
              · (intro w hSw; (try dsimp only at hSw); go_simp <;> with_reducible rfl)
              try simp only [Act.put, List.setIfInBounds_toArray, List.set_cons_zero, List.set_cons_succ]
              refine wpAnyH_ready (rs := [5]) (by kernel_rfl) (by simp) ?_
              refine cons_lit rfl (fun K hK => ?_) ?_
              · go_simp
                have q5 := newRow hHeld.1 53 (qcells zeroQ)
                have l5 := hHeld.1.size
                refine hK.out _ _ ?_ (fun hHeld => ?_)
                · exact HK.out _ (hHeld.1.alloc hHeld.1.size _)
                clear hK K
                try simp only [Act.put, List.setIfInBounds_toArray, List.set_cons_zero, List.set_cons_succ]
                refine wpAnyH_ready (rs := [6]) (by kernel_rfl) (by simp) ?_
                refine cons_lit rfl (fun K hK => ?_) ?_
                · skip
                  refine stepQ (.tmp 7) (.tmp 30) rfl (by rfl) _ ⟨p0, a0⟩ (q5.there (by rw [qcells_len]; omega)) rfl (buildQ p0 a0) ?_
                  intro W7 HW7
                  have q7 : Row W7 _ 53 (qcells ⟨p0, a0⟩) := HW7.out ▸ q5.setCells (qcells ⟨p0, a0⟩) (by rw [qcells_len, qcells_len])
                  refine hK.out _ _ ?_ (fun hHeld => ?_)
                  · exact HK.out _ (by rw [HW7.out]; exact below_setCells _ l5 _ _ _ hHeld.1)
                  clear hK K
                  try simp only [Act.put, List.setIfInBounds_toArray, List.set_cons_zero, List.set_cons_succ]
                  refine wpAnyH_done (by kernel_rfl) ?_ _
                  refine NoPanic.normal ?_
                  have q8 := q4.below hHeld.1 q4l
                  go_wp2_with (first | (refine ldQ (.tmp 7) rfl rfl _ _ ⟨p0, a0⟩ rfl (by first | exact (q7.below hB9 q7.lt).range | exact q7.range) ?_) | (refine stQ (.tmp 2) (.tmp 52) rfl rfl _ _ ⟨p0, a0⟩ rfl rfl ((q8.below hB9 q8.lt).there (by rw [qcells_len]; omega)) ?_) | (go_at_call 38; refine (hCk _).mono ?_; rintro e w9 ⟨rfl, hB9⟩))
                  refine bodyPost_ret (retCT rfl _ _ 0 rfl (lvQ (LQ.stored ((q8.below hB9 q8.lt).there (by rw [qcells_len]; omega))))) rfl ⟨by rw [HF'.out]; rfl, below_setCells _ (Nat.le_refl _) _ _ _ (bt (hBX.trans (hHeld.1.mono (by omega))) hB9)⟩
                exact AllReadyH.nil
              exact AllReadyH.nil
            refine cons_lit rfl (fun K hK => ?_) ?_
            · go_simp
              have q5 := newRow hHeld.1 53 (qcells zeroQ)
              have l5 := hHeld.1.size
              refine hK.out _ _ ?_ (fun hHeld => ?_)
              · exact HK.out _ (hHeld.1.alloc hHeld.1.size _)
              clear hK K
              try simp only [Act.put, List.setIfInBounds_toArray, List.set_cons_zero, List.set_cons_succ]
              refine wpAnyH_ready (rs := [3]) (by kernel_rfl) (by simp) ?_
              refine cons_lit rfl (fun K hK => ?_) ?_
              · go_simp
                refine (hAn _).mono ?_
                rintro e w6 ⟨rfl, hB6⟩
                try have q5 := q5.below hB6 q5.lt
                refine hK.out _ _ ?_ (fun hHeld => ?_)
                · exact HK.out _ (hHeld.1.trans (hB6.mono hHeld.1.size))
                clear hK K
                try simp only [Act.put, List.setIfInBounds_toArray, List.set_cons_zero, List.set_cons_succ]
                refine take_lit (i := 4) (v := ?_) rfl (by kernel_rfl) (by kernel_rfl) (by kernel_rfl) (fun _ _ _ h => h) (Or.inl ⟨by rfl, ?_⟩) (by assumption) ?_
                rotate_left
                · (intro w hSw; (try dsimp only at hSw); go_simp <;> with_reducible rfl)
                try simp only [Act.put, List.setIfInBounds_toArray, List.set_cons_zero, List.set_cons_succ]
                refine wpAnyH_ready (rs := [6]) (by kernel_rfl) (by simp) ?_
                refine cons_lit rfl (fun K hK => ?_) ?_
                · skip
                  refine stepQ (.tmp 7) (.tmp 30) rfl (by rfl) _ ⟨p0, a0⟩ (q5.there (by rw [qcells_len]; omega)) rfl (buildQ p0 a0) ?_
                  intro W7 HW7
                  have q7 : Row W7 _ 53 (qcells ⟨p0, a0⟩) := HW7.out ▸ q5.setCells (qcells ⟨p0, a0⟩) (by rw [qcells_len, qcells_len])
                  refine hK.out _ _ ?_ (fun hHeld => ?_)
                  · exact HK.out _ (by rw [HW7.out]; exact below_setCells _ l5 _ _ _ hHeld.1)
                  clear hK K
                  try simp only [Act.put, List.setIfInBounds_toArray, List.set_cons_zero, List.set_cons_succ]
                  refine wpAnyH_done (by kernel_rfl) ?_ _
                  refine NoPanic.normal ?_
                  have q8 := q4.below hHeld.1 q4l
                  go_wp2_with (first | (refine ldQ (.tmp 7) rfl rfl _ _ ⟨p0, a0⟩ rfl (by first | exact (q7.below hB9 q7.lt).range | exact q7.range) ?_) | (refine stQ (.tmp 2) (.tmp 52) rfl rfl _ _ ⟨p0, a0⟩ rfl rfl ((q8.below hB9 q8.lt).there (by rw [qcells_len]; omega)) ?_) | (go_at_call 38; refine (hCk _).mono ?_; rintro e w9 ⟨rfl, hB9⟩))
                  refine bodyPost_ret (retCT rfl _ _ 0 rfl (lvQ (LQ.stored ((q8.below hB9 q8.lt).there (by rw [qcells_len]; omega))))) rfl ⟨by rw [HF'.out]; rfl, below_setCells _ (Nat.le_refl _) _ _ _ (bt (hBX.trans (hHeld.1.mono (by omega))) hB9)⟩
                exact AllReadyH.nil
              exact AllReadyH.nil
            exact AllReadyH.nil
          refine cons_lit rfl (fun K hK => ?_) ?_
          · go_simp
            have q5 := newRow hHeld.1 53 (qcells zeroQ)
            have l5 := hHeld.1.size
            refine hK.out _ _ ?_ (fun hHeld => ?_)
            · exact HK.out _ (hHeld.1.alloc hHeld.1.size _)
            clear hK K
            try simp only [Act.put, List.setIfInBounds_toArray, List.set_cons_zero, List.set_cons_succ]
            refine wpAnyH_ready (rs := [2]) (by kernel_rfl) (by simp) ?_
            refine cons_lit rfl (fun K hK => ?_) ?_
            · go_simp
              refine (hFm _).mono ?_
              rintro e w5 ⟨rfl, hB5⟩
              try have q5 := q5.below hB5 q5.lt
              refine hK.out _ _ ?_ (fun hHeld => ?_)
              · exact HK.out _ (hHeld.1.trans (hB5.mono hHeld.1.size))
              clear hK K
              try simp only [Act.put, List.setIfInBounds_toArray, List.set_cons_zero, List.set_cons_succ]
              refine wpAnyH_ready (rs := [3]) (by kernel_rfl) (by simp) ?_
              refine cons_lit rfl (fun K hK => ?_) ?_
              · go_simp
                refine (hAn _).mono ?_
                rintro e w6 ⟨rfl, hB6⟩
                try have q5 := q5.below hB6 q5.lt
                refine hK.out _ _ ?_ (fun hHeld => ?_)
                · exact HK.out _ (hHeld.1.trans (hB6.mono hHeld.1.size))
                clear hK K
                try simp only [Act.put, List.setIfInBounds_toArray, List.set_cons_zero, List.set_cons_succ]
                refine take_lit (i := 4) (v := ?_) rfl (by kernel_rfl) (by kernel_rfl) (by kernel_rfl) (fun _ _ _ h => h) (Or.inl ⟨by rfl, ?_⟩) (by assumption) ?_
                rotate_left
                · (intro w hSw; (try dsimp only at hSw); go_simp <;> with_reducible rfl)
                try simp only [Act.put, List.setIfInBounds_toArray, List.set_cons_zero, List.set_cons_succ]
                refine wpAnyH_ready (rs := [6]) (by kernel_rfl) (by simp) ?_
                refine cons_lit rfl (fun K hK => ?_) ?_
                · skip
                  refine stepQ (.tmp 7) (.tmp 30) rfl (by rfl) _ ⟨p0, a0⟩ (q5.there (by rw [qcells_len]; omega)) rfl (buildQ p0 a0) ?_
                  intro W7 HW7
                  have q7 : Row W7 _ 53 (qcells ⟨p0, a0⟩) := HW7.out ▸ q5.setCells (qcells ⟨p0, a0⟩) (by rw [qcells_len, qcells_len])
                  refine hK.out _ _ ?_ (fun hHeld => ?_)
                  · exact HK.out _ (by rw [HW7.out]; exact below_setCells _ l5 _ _ _ hHeld.1)
                  clear hK K
                  try simp only [Act.put, List.setIfInBounds_toArray, List.set_cons_zero, List.set_cons_succ]
                  refine wpAnyH_done (by kernel_rfl) ?_ _
                  refine NoPanic.normal ?_
                  have q8 := q4.below hHeld.1 q4l
                  go_wp2_with (first | (refine ldQ (.tmp 7) rfl rfl _ _ ⟨p0, a0⟩ rfl (by first | exact (q7.below hB9 q7.lt).range | exact q7.range) ?_) | (refine stQ (.tmp 2) (.tmp 52) rfl rfl _ _ ⟨p0, a0⟩ rfl rfl ((q8.below hB9 q8.lt).there (by rw [qcells_len]; omega)) ?_) | (go_at_call 38; refine (hCk _).mono ?_; rintro e w9 ⟨rfl, hB9⟩))
                  refine bodyPost_ret (retCT rfl _ _ 0 rfl (lvQ (LQ.stored ((q8.below hB9 q8.lt).there (by rw [qcells_len]; omega))))) rfl ⟨by rw [HF'.out]; rfl, below_setCells _ (Nat.le_refl _) _ _ _ (bt (hBX.trans (hHeld.1.mono (by omega))) hB9)⟩
                exact AllReadyH.nil
              exact AllReadyH.nil
            exact AllReadyH.nil
          exact AllReadyH.nil
        · have HF' : Hid (prq s = (zeroQ, 21)) := by show _ = _; rw [HF.out, prq2, if_neg (by rw [hk]; decide), hk]
          rw [hk] at hCk
          clear HF hk
          refine wp_region_noPanic ?_
          refine wp_region_held_drew (S := fun W => Below w4.heap.size w4 W ∧ LP W w3.heap.size 0 p0) (by kernel_rfl) (HK.out _ (Below.refl _ _).drew) (fun hHeld => ?_)
          refine take_lit (i := 0) rfl (by kernel_rfl) (by kernel_rfl) (by kernel_rfl) (fun _ _ _ h => h) (yP p0 (fun w h => h.2) (by rfl) rfl rfl) (by assumption) ?_
          try simp only [Act.put, List.setIfInBounds_toArray, List.set_cons_zero, List.set_cons_succ]
          refine take_lit (i := 1) rfl (by kernel_rfl) (by kernel_rfl) (by kernel_rfl) (fun _ _ _ h => h) (yP p0 (fun w h => h.2) (by rfl) rfl rfl) (by assumption) ?_
          try simp only [Act.put, List.setIfInBounds_toArray, List.set_cons_zero, List.set_cons_succ]
          refine wpAnyH_ready (rs := [2, 5]) (by kernel_rfl) (by simp) ?_
          refine cons_lit rfl (fun K hK => ?_) ?_
          · go_simp
            refine (hFm _).mono ?_
            rintro e w5 ⟨rfl, hB5⟩
            try have q5 := q5.below hB5 q5.lt
            refine hK.out _ _ ?_ (fun hHeld => ?_)
            · exact HK.out _ (hHeld.1.trans (hB5.mono hHeld.1.size))
            clear hK K
            try simp only [Act.put, List.setIfInBounds_toArray, List.set_cons_zero, List.set_cons_succ]
            refine wpAnyH_ready (rs := [3, 5]) (by kernel_rfl) (by simp) ?_
            refine cons_lit rfl (fun K hK => ?_) ?_
            · go_simp
              refine (hAn _).mono ?_
              rintro e w6 ⟨rfl, hB6⟩
              try have q5 := q5.below hB6 q5.lt
              refine hK.out _ _ ?_ (fun hHeld => ?_)
              · exact HK.out _ (hHeld.1.trans (hB6.mono hHeld.1.size))
              clear hK K
              try simp only [Act.put, List.setIfInBounds_toArray, List.set_cons_zero, List.set_cons_succ]
              refine take_lit (i := 4) (v := ?_) rfl (by kernel_rfl) (by kernel_rfl) (by kernel_rfl) (fun _ _ _ h => h) (Or.inl ⟨by rfl, ?_⟩) (by assumption) ?_
              rotate_left
              · (intro w hSw; (try dsimp only at hSw); go_simp <;> with_reducible rfl)
              try simp only [Act.put, List.setIfInBounds_toArray, List.set_cons_zero, List.set_cons_succ]
              refine wpAnyH_ready (rs := [5]) (by kernel_rfl) (by simp) ?_
              refine cons_lit rfl (fun K hK => ?_) ?_
              · go_simp
                have q5 := newRow hHeld.1 53 (qcells zeroQ)
                have l5 := hHeld.1.size
                refine hK.out _ _ ?_ (fun hHeld => ?_)
                · exact HK.out _ (hHeld.1.alloc hHeld.1.size _)
                clear hK K
                try simp only [Act.put, List.setIfInBounds_toArray, List.set_cons_zero, List.set_cons_succ]
                refine wpAnyH_ready (rs := [6]) (by kernel_rfl) (by simp) ?_
                refine cons_lit rfl (fun K hK => ?_) ?_
                · skip
                  refine stepQ (.tmp 7) (.tmp 30) rfl (by rfl) _ ⟨p0, a0⟩ (q5.there (by rw [qcells_len]; omega)) rfl (buildQ p0 a0) ?_
                  intro W7 HW7
                  have q7 : Row W7 _ 53 (qcells ⟨p0, a0⟩) := HW7.out ▸ q5.setCells (qcells ⟨p0, a0⟩) (by rw [qcells_len, qcells_len])
                  refine hK.out _ _ ?_ (fun hHeld => ?_)
                  · exact HK.out _ (by rw [HW7.out]; exact below_setCells _ l5 _ _ _ hHeld.1)
                  clear hK K
                  try simp only [Act.put, List.setIfInBounds_toArray, List.set_cons_zero, List.set_cons_succ]
                  refine wpAnyH_done (by kernel_rfl) ?_ _
                  refine NoPanic.normal ?_
                  have q8 := q4.below hHeld.1 q4l
                  go_wp2_with (first | (refine ldQ (.tmp 7) rfl rfl _ _ ⟨p0, a0⟩ rfl (by first | exact (q7.below hB9 q7.lt).range | exact q7.range) ?_) | (refine stQ (.tmp 2) (.tmp 50) rfl rfl _ _ zeroQ rfl rfl ((q8.below hB9 q8.lt).there (by rw [qcells_len]; omega)) ?_) | (go_at_call 38; refine (hCk _).mono ?_; rintro e w9 ⟨rfl, hB9⟩))
                  refine bodyPost_ret (retCT rfl _ _ 0 rfl (lvQ (LQ.stored ((q8.below hB9 q8.lt).there (by rw [qcells_len]; omega))))) rfl ⟨by rw [HF'.out]; rfl, below_setCells _ (Nat.le_refl _) _ _ _ (bt (hBX.trans (hHeld.1.mono (by omega))) hB9)⟩
                exact AllReadyH.nil
              exact AllReadyH.nil
            refine cons_lit rfl (fun K hK => ?_) ?_
            · go_simp
              have q5 := newRow hHeld.1 53 (qcells zeroQ)
              have l5 := hHeld.1.size
              refine hK.out _ _ ?_ (fun hHeld => ?_)
              · exact HK.out _ (hHeld.1.alloc hHeld.1.size _)
              clear hK K
              try simp only [Act.put, List.setIfInBounds_toArray, List.set_cons_zero, List.set_cons_succ]
              refine wpAnyH_ready (rs := [3]) (by kernel_rfl) (by simp) ?_
              refine cons_lit rfl (fun K hK => ?_) ?_
              · go_simp
                refine (hAn _).mono ?_
                rintro e w6 ⟨rfl, hB6⟩
                try have q5 := q5.below hB6 q5.lt
                refine hK.out _ _ ?_ (fun hHeld => ?_)
                · exact HK.out _ (hHeld.1.trans (hB6.mono hHeld.1.size))
                clear hK K
                try simp only [Act.put, List.setIfInBounds_toArray, List.set_cons_zero, List.set_cons_succ]
                refine take_lit (i := 4) (v := ?_) rfl (by kernel_rfl) (by kernel_rfl) (by kernel_rfl) (fun _ _ _ h => h) (Or.inl ⟨by rfl, ?_⟩) (by assumption) ?_
                rotate_left
                · (intro w hSw; (try dsimp only at hSw); go_simp <;> with_reducible rfl)
                try simp only [Act.put, List.setIfInBounds_toArray, List.set_cons_zero, List.set_cons_succ]
                refine wpAnyH_ready (rs := [6]) (by kernel_rfl) (by simp) ?_
                refine cons_lit rfl (fun K hK => ?_) ?_
                · skip
                  refine stepQ (.tmp 7) (.tmp 30) rfl (by rfl) _ ⟨p0, a0⟩ (q5.there (by rw [qcells_len]; omega)) rfl (buildQ p0 a0) ?_
                  intro W7 HW7
                  have q7 : Row W7 _ 53 (qcells ⟨p0, a0⟩) := HW7.out ▸ q5.setCells (qcells ⟨p0, a0⟩) (by rw [qcells_len, qcells_len])
                  refine hK.out _ _ ?_ (fun hHeld => ?_)
                  · exact HK.out _ (by rw [HW7.out]; exact below_setCells _ l5 _ _ _ hHeld.1)
                  clear hK K
                  try simp only [Act.put, List.setIfInBounds_toArray, List.set_cons_zero, List.set_cons_succ]
                  refine wpAnyH_done (by kernel_rfl) ?_ _
                  refine NoPanic.normal ?_
                  have q8 := q4.below hHeld.1 q4l
                  go_wp2_with (first | (refine ldQ (.tmp 7) rfl rfl _ _ ⟨p0, a0⟩ rfl (by first | exact (q7.below hB9 q7.lt).range | exact q7.range) ?_) | (refine stQ (.tmp 2) (.tmp 50) rfl rfl _ _ zeroQ rfl rfl ((q8.below hB9 q8.lt).there (by rw [qcells_len]; omega)) ?_) | (go_at_call 38; refine (hCk _).mono ?_; rintro e w9 ⟨rfl, hB9⟩))
                  refine bodyPost_ret (retCT rfl _ _ 0 rfl (lvQ (LQ.stored ((q8.below hB9 q8.lt).there (by rw [qcells_len]; omega))))) rfl ⟨by rw [HF'.out]; rfl, below_setCells _ (Nat.le_refl _) _ _ _ (bt (hBX.trans (hHeld.1.mono (by omega))) hB9)⟩
                exact AllReadyH.nil
              exact AllReadyH.nil
            exact AllReadyH.nil
          refine cons_lit rfl (fun K hK => ?_) ?_
          · go_simp
            have q5 := newRow hHeld.1 53 (qcells zeroQ)
            have l5 := hHeld.1.size
            refine hK.out _ _ ?_ (fun hHeld => ?_)
            · exact HK.out _ (hHeld.1.alloc hHeld.1.size _)
            clear hK K
            try simp only [Act.put, List.setIfInBounds_toArray, List.set_cons_zero, List.set_cons_succ]
            refine wpAnyH_ready (rs := [2]) (by kernel_rfl) (by simp) ?_
            refine cons_lit rfl (fun K hK => ?_) ?_
            · go_simp
              refine (hFm _).mono ?_
              rintro e w5 ⟨rfl, hB5⟩
              try have q5 := q5.below hB5 q5.lt
              refine hK.out _ _ ?_ (fun hHeld => ?_)
              · exact HK.out _ (hHeld.1.trans (hB5.mono hHeld.1.size))
              clear hK K
              try simp only [Act.put, List.setIfInBounds_toArray, List.set_cons_zero, List.set_cons_succ]
              refine wpAnyH_ready (rs := [3]) (by kernel_rfl) (by simp) ?_
              refine cons_lit rfl (fun K hK => ?_) ?_
              · go_simp
                refine (hAn _).mono ?_
                rintro e w6 ⟨rfl, hB6⟩
                try have q5 := q5.below hB6 q5.lt
                refine hK.out _ _ ?_ (fun hHeld => ?_)
                · exact HK.out _ (hHeld.1.trans (hB6.mono hHeld.1.size))
                clear hK K
                try simp only [Act.put, List.setIfInBounds_toArray, List.set_cons_zero, List.set_cons_succ]
                refine take_lit (i := 4) (v := ?_) rfl (by kernel_rfl) (by kernel_rfl) (by kernel_rfl) (fun _ _ _ h => h) (Or.inl ⟨by rfl, ?_⟩) (by assumption) ?_
                rotate_left
                · (intro w hSw; (try dsimp only at hSw); go_simp <;> with_reducible rfl)
                try simp only [Act.put, List.setIfInBounds_toArray, List.set_cons_zero, List.set_cons_succ]
                refine wpAnyH_ready (rs := [6]) (by kernel_rfl) (by simp) ?_
                refine cons_lit rfl (fun K hK => ?_) ?_
                · skip
                  refine stepQ (.tmp 7) (.tmp 30) rfl (by rfl) _ ⟨p0, a0⟩ (q5.there (by rw [qcells_len]; omega)) rfl (buildQ p0 a0) ?_
                  intro W7 HW7
                  have q7 : Row W7 _ 53 (qcells ⟨p0, a0⟩) := HW7.out ▸ q5.setCells (qcells ⟨p0, a0⟩) (by rw [qcells_len, qcells_len])
                  refine hK.out _ _ ?_ (fun hHeld => ?_)
                  · exact HK.out _ (by rw [HW7.out]; exact below_setCells _ l5 _ _ _ hHeld.1)
                  clear hK K
                  try simp only [Act.put, List.setIfInBounds_toArray, List.set_cons_zero, List.set_cons_succ]
                  refine wpAnyH_done (by kernel_rfl) ?_ _
                  refine NoPanic.normal ?_
                  have q8 := q4.below hHeld.1 q4l
                  go_wp2_with (first | (refine ldQ (.tmp 7) rfl rfl _ _ ⟨p0, a0⟩ rfl (by first | exact (q7.below hB9 q7.lt).range | exact q7.range) ?_) | (refine stQ (.tmp 2) (.tmp 50) rfl rfl _ _ zeroQ rfl rfl ((q8.below hB9 q8.lt).there (by rw [qcells_len]; omega)) ?_) | (go_at_call 38; refine (hCk _).mono ?_; rintro e w9 ⟨rfl, hB9⟩))
                  refine bodyPost_ret (retCT rfl _ _ 0 rfl (lvQ (LQ.stored ((q8.below hB9 q8.lt).there (by rw [qcells_len]; omega))))) rfl ⟨by rw [HF'.out]; rfl, below_setCells _ (Nat.le_refl _) _ _ _ (bt (hBX.trans (hHeld.1.mono (by omega))) hB9)⟩
                exact AllReadyH.nil
              exact AllReadyH.nil
            exact AllReadyH.nil
          exact AllReadyH.nil
    · have HF' : Hid (prq s = (zeroQ, k0)) := by show _ = _; rw [HF.out, if_pos rfl, if_neg hz0]
      have hz0' : (k0 != 0) = true := by simpa using hz0
      clear HF hb hw1 hn hx0 hz0
      go_enter Tryz.func34, Tryz.ntmps34
      go_wp2_with (first
        | (refine stPq (.tmp 5) (.tmp 20) rfl rfl _ _ p0 rfl rfl (Row.there (Row.new _ _ _) (by simp)) ?_; intro w4 hw4; have hst := hw4.out ▸ storedRowP w3 _ _ p0 (by simp); clear hw4; obtain ⟨hB4, hR4, hs4⟩ := hst; have z1 := hB1.size; have z3 := hB3.size; simp only [World.size_alloc] at z1; have q4 := ((hR.below hB1 (by simp)).below hB3 (by omega)).below hB4 (by omega))
        | (refine stQ (.tmp 2) (.tmp 24) rfl rfl _ _ zeroQ rfl rfl (q4.there (by rw [qcells_len]; omega)) ?_)
        | (go_at_call 14; refine (hP0 _ (hG1.keep hB1 (by simp; omega)) (by have := hB1.size; simp at this; omega)).mono ?_; rintro e w3 ⟨rfl, hB3⟩)
        | (go_at_call 70; refine (hPw w1 g c hc).mono ?_; rintro e w2 ⟨rfl, rfl⟩)
        | (go_at_call 69; refine hS.mono ?_; rintro e w1 ⟨g, c, rfl, hg, hc, hB1⟩; have c0 := hc 0 x0 e0))
      refine bodyPost_ret (retCT rfl _ _ 0 rfl (lvQ (LQ.stored (q4.there (by rw [qcells_len]; omega))))) rfl ⟨by rw [HF'.out]; rfl, below_setCells _ (Nat.le_refl _) _ _ _ (bt (bt (bt (ba _ _) hB1) hB3) hB4)⟩
end Go.Proofs.YtimpopolkofdgaaGreatDoor
