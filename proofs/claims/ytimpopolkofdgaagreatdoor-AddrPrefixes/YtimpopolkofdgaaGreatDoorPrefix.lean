/-
  addr.ParsePrefix: what it answers for every text.
-/
import Derived.Test.YtimpopolkofdgaaGreatDoorParse
namespace Go.Proofs.YtimpopolkofdgaaGreatDoor
open Go.RowKit Go.Shelf
set_option linter.unusedSimpArgs false
set_option maxRecDepth 20000
def zeroP : Pf := ⟨zeroA, 0⟩
/-- A text as a prefix: the prefix, and the error's number. -/
def prf (s : List UInt8) : Pf × Int := match prs (Lib.cut s [47]).1, numS (Lib.cut s [47]).2.1 with
  | some a, some n => if chk ⟨a, if inG (Lib.cut s [47]).1 = true then (n : Int) else (n : Int) + 96⟩ = 0 then (⟨a, if inG (Lib.cut s [47]).1 = true then (n : Int) else (n : Int) + 96⟩, 0) else (zeroP, 21)
  | _, _ => (zeroP, 20)
theorem foldSet : ∀ (l arr : List Value) (k : Nat), k + l.length ≤ arr.length → List.foldl (fun (cs : Array Value) (x : Value × Nat) => cs.setIfInBounds x.2 x.1) arr.toArray (l.zipIdx k) = (arr.take k ++ l ++ arr.drop (k + l.length)).toArray
  | [], arr, k, h => by simp
  | x :: l, arr, k, h => by
    simp only [List.length_cons] at h
    rw [List.zipIdx_cons, List.foldl_cons]
    have ih := foldSet l (arr.set k x) (k + 1) (by simp; omega)
    simp only [List.setIfInBounds_toArray] at ih ⊢
    rw [ih]
    congr 1
    have e1 : (arr.set k x).take (k + 1) = arr.take k ++ [x] := by
      rw [List.take_add_one, List.take_set_of_le (Nat.le_refl _), List.getElem?_set_self (by omega)]; rfl
    have e2 : (arr.set k x).drop (k + 1 + l.length) = arr.drop (k + (l.length + 1)) := by
      rw [List.drop_set_of_lt (by omega)]; congr 1; omega
    rw [e1, e2, List.length_cons]
    simp
theorem buildP (a : Ad) (n : Int) : Value.agg ((List.foldl (fun (cs : Array Value) (x : Value × Nat) => cs.setIfInBounds x.2 x.1) #[Value.int .u8 0, Value.int .u8 0, Value.int .u8 0, Value.int .u8 0, Value.int .u8 0, Value.int .u8 0, Value.int .u8 0, Value.int .u8 0, Value.int .u8 0, Value.int .u8 0, Value.int .u8 0, Value.int .u8 0, Value.int .u8 0, Value.int .u8 0, Value.int .u8 0, Value.int .u8 0, Value.int .i64 0] (acells a).zipIdx).setIfInBounds 16 (.int .i64 n)) = (Value.agg (pcells (⟨a, n⟩)).toArray) := by
  have h1 := foldSet (acells a) [Value.int .u8 0, Value.int .u8 0, Value.int .u8 0, Value.int .u8 0, Value.int .u8 0, Value.int .u8 0, Value.int .u8 0, Value.int .u8 0, Value.int .u8 0, Value.int .u8 0, Value.int .u8 0, Value.int .u8 0, Value.int .u8 0, Value.int .u8 0, Value.int .u8 0, Value.int .u8 0, Value.int .i64 0] 0 (by rw [acells_len]; simp)
  rw [acells_len] at h1
  simp only [List.take_zero, List.nil_append, Nat.zero_add] at h1
  rw [h1]
  have h2 : (acells a ++ List.drop 16 [Value.int .u8 0, Value.int .u8 0, Value.int .u8 0, Value.int .u8 0, Value.int .u8 0, Value.int .u8 0, Value.int .u8 0, Value.int .u8 0, Value.int .u8 0, Value.int .u8 0, Value.int .u8 0, Value.int .u8 0, Value.int .u8 0, Value.int .u8 0, Value.int .u8 0, Value.int .u8 0, Value.int .i64 0]).toArray.setIfInBounds 16 (.int .i64 n) = ((acells a ++ [Value.int .i64 0]).set 16 (.int .i64 n)).toArray := by
    simp only [List.drop_succ_cons, List.drop_zero, List.setIfInBounds_toArray]
  rw [h2, List.set_append_right _ _ (by rw [acells_len]; omega), acells_len]
  rfl
theorem foldSize (a : Ad) : (List.foldl (fun (cs : Array Value) (x : Value × Nat) => cs.setIfInBounds x.2 x.1) #[Value.int .u8 0, Value.int .u8 0, Value.int .u8 0, Value.int .u8 0, Value.int .u8 0, Value.int .u8 0, Value.int .u8 0, Value.int .u8 0, Value.int .u8 0, Value.int .u8 0, Value.int .u8 0, Value.int .u8 0, Value.int .u8 0, Value.int .u8 0, Value.int .u8 0, Value.int .u8 0, Value.int .i64 0] (acells a).zipIdx).size = 17 := by
  have h1 := foldSet (acells a) [Value.int .u8 0, Value.int .u8 0, Value.int .u8 0, Value.int .u8 0, Value.int .u8 0, Value.int .u8 0, Value.int .u8 0, Value.int .u8 0, Value.int .u8 0, Value.int .u8 0, Value.int .u8 0, Value.int .u8 0, Value.int .u8 0, Value.int .u8 0, Value.int .u8 0, Value.int .u8 0, Value.int .i64 0] 0 (by rw [acells_len]; simp)
  rw [h1]
  simp [acells_len]
theorem setLen (a : Ad) (n k : Int) : (pcells ⟨a, n⟩).set 16 (.int .i64 k) = pcells ⟨a, k⟩ := by
  unfold pcells
  rw [List.set_append_right _ _ (by rw [acells_len]; omega), acells_len]
  rfl
theorem storedRowP (w : World) (cs : List Value) (t : TypeId) (q : Pf) (h : cs.length = 17) : Below w.heap.size w ((w.alloc (.cells cs.toArray t)).setCells w.heap.size 0 (pcells q)) ∧ Row ((w.alloc (.cells cs.toArray t)).setCells w.heap.size 0 (pcells q)) w.heap.size t (pcells q) ∧ ((w.alloc (.cells cs.toArray t)).setCells w.heap.size 0 (pcells q)).heap.size = w.heap.size + 1 :=
  ⟨below_setCells _ (Nat.le_refl _) _ _ _ (ba w _), (Row.new w t cs).setCells _ (by rw [pcells_len, h]), by rw [size_setCells]; simp⟩
theorem numS_le {l : List UInt8} {n : Nat} (h : numS l = some n) : n ≤ 65535 := by
  unfold numS at h
  cases hu : puE 10 l with
  | none => rw [hu] at h; cases h
  | some u =>
    rw [hu] at h
    dsimp only at h
    split at h
    · cases h
    · cases h; exact puE_le hu
theorem scut_any (s : List UInt8) (m : Int) (c : UInt8) (w : World) (hl : s.length ≤ 1000000) (hm : w.cell? ⟨0, 0, none⟩ = some (.int .i64 m)) :
    Calls Tryz.prog 58 #[.string (str s), .string ⟨#[c]⟩] w fun e w' => e = .returned (.tuple #[.string (str (Lib.cut s [c]).1), .string (str (Lib.cut s [c]).2.1), .bool (Lib.cut s [c]).2.2]) ∧ Below w.heap.size w w' :=
  (Tryz.strings_Cut (str s) ⟨#[c]⟩ m w (by show s.length < _; omega) hm).mono fun e w'' ⟨h1, n, h2⟩ => ⟨h1, by rw [h2]; exact below_drewN (Below.refl _ _) n⟩
set_option maxHeartbeats 4000000 in
theorem pfx_any (s : List UInt8) (w : World) (hG : Glob w) (hs8 : 8 ≤ w.heap.size) (hl : s.length ≤ 1000000) :
    Calls Tryz.prog 14 #[.string (str s)] w (Gives w (.tuple #[(Value.agg (pcells ((prf s).1)).toArray), .int .i64 (prf s).2])) := by
  have hG1 : Glob (w.alloc (.cells (pcells zeroP).toArray 35)) := hG.keep (ba w _) hs8
  obtain ⟨m, hm⟩ := hG1.m
  have hC := scut_any s m 47 (w.alloc (.cells (pcells zeroP).toArray 35)) hl hm
  have hlen := cut_len s [47]
  have hR := Row.new w 35 (pcells zeroP)
  have HF : Hid (prf s = match prs (Lib.cut s [47]).1, numS (Lib.cut s [47]).2.1 with
    | some a, some n => if chk ⟨a, if inG (Lib.cut s [47]).1 = true then (n : Int) else (n : Int) + 96⟩ = 0 then (⟨a, if inG (Lib.cut s [47]).1 = true then (n : Int) else (n : Int) + 96⟩, 0) else (zeroP, 21)
    | _, _ => (zeroP, 20)) := rfl
  generalize Lib.cut s [47] = cc at *
  obtain ⟨t, d, fnd⟩ := cc
  dsimp only at hC hlen HF
  have hPr := fun w' h1 h2 => parse_any t w' h1 h2 (by omega)
  have hNm := fun w' h1 h2 => number_any (str d) w' h1 h2 (by show d.length ≤ _; omega)
  simp only [show (str d).data.toList = d from rfl] at hNm
  have hIn := inGroups_any t
  cases hp : prs t with
  | none =>
    rw [hp] at HF
    have HF' : Hid (prf s = (zeroP, 20)) := HF.out
    clear HF
    rw [prsV, hp] at hPr
    dsimp only at hPr
    obtain ⟨nv, nb, hnv⟩ : ∃ (nv : Int) (nb : Bool), numV d = .tuple #[.int .i64 nv, .bool nb] := by
      unfold numV
      cases numS d with
      | none => exact ⟨_, _, rfl⟩
      | some u => exact ⟨_, _, rfl⟩
    rw [hnv] at hNm
    clear hnv hp
    go_enter Tryz.func14, Tryz.ntmps14
    go_wp2_with (first
      | (refine stAq (.tmp 7) (.tmp 22) rfl rfl _ _ zeroA rfl rfl (Row.there (Row.new _ _ _) (by simp)) ?_; intro w4 hw4; have hst := hw4.out ▸ storedRow w3 _ _ zeroA (by simp); clear hw4; obtain ⟨hB4, hR4, hs4⟩ := hst; have z2 := hB2.size; have z3 := hB3.size; simp only [World.size_alloc] at z2; have q4 := ((hR.below hB2 (by simp)).below hB3 (by omega)).below hB4 (by omega); have hG4 := (hG1.keep hB2 (by simp; omega)).keep (bt hB3 hB4) (by omega))
      | (refine stP (.tmp 2) (.tmp 35) rfl rfl _ _ zeroP rfl rfl ((q4.below hB5 (by omega)).there (by rw [pcells_len]; omega)) ?_)
      | (go_at_call 59; refine (hNm w4 hG4 (by omega)).mono ?_; rintro e w5 ⟨rfl, hB5⟩)
      | (go_at_call 7; refine (hPr w2 (hG1.keep hB2 (by simp; omega)) (by have := hB2.size; simp at this; omega)).mono ?_; rintro e w3 ⟨rfl, hB3⟩)
      | (go_at_call 58; refine hC.mono ?_; rintro e w2 ⟨rfl, hB2⟩))
    refine bodyPost_ret (retCT rfl _ _ 0 rfl (lvP (LP.stored ((q4.below hB5 (by omega)).there (by rw [pcells_len]; omega))))) rfl ⟨by rw [HF'.out]; rfl, below_setCells _ (Nat.le_refl _) _ _ _ (bt (bt (bt (bt (ba _ _) hB2) hB3) hB4) hB5)⟩
  | some a =>
    rw [hp] at HF
    rw [prsV, hp] at hPr
    dsimp only at hPr
    cases hn : numS d with
    | none =>
      rw [hn] at HF
      have HF' : Hid (prf s = (zeroP, 20)) := HF.out
      clear HF
      rw [numV, hn] at hNm
      dsimp only at hNm
      clear hn hp
      go_enter Tryz.func14, Tryz.ntmps14
      go_wp2_with (first
        | (refine stAq (.tmp 7) (.tmp 22) rfl rfl _ _ a rfl rfl (Row.there (Row.new _ _ _) (by simp)) ?_; intro w4 hw4; have hst := hw4.out ▸ storedRow w3 _ _ a (by simp); clear hw4; obtain ⟨hB4, hR4, hs4⟩ := hst; have z2 := hB2.size; have z3 := hB3.size; simp only [World.size_alloc] at z2; have q4 := ((hR.below hB2 (by simp)).below hB3 (by omega)).below hB4 (by omega); have hG4 := (hG1.keep hB2 (by simp; omega)).keep (bt hB3 hB4) (by omega))
        | (refine stP (.tmp 2) (.tmp 35) rfl rfl _ _ zeroP rfl rfl ((q4.below hB5 (by omega)).there (by rw [pcells_len]; omega)) ?_)
        | (go_at_call 59; refine (hNm w4 hG4 (by omega)).mono ?_; rintro e w5 ⟨rfl, hB5⟩)
        | (go_at_call 7; refine (hPr w2 (hG1.keep hB2 (by simp; omega)) (by have := hB2.size; simp at this; omega)).mono ?_; rintro e w3 ⟨rfl, hB3⟩)
        | (go_at_call 58; refine hC.mono ?_; rintro e w2 ⟨rfl, hB2⟩))
      refine bodyPost_ret (retCT rfl _ _ 0 rfl (lvP (LP.stored ((q4.below hB5 (by omega)).there (by rw [pcells_len]; omega))))) rfl ⟨by rw [HF'.out]; rfl, below_setCells _ (Nat.le_refl _) _ _ _ (bt (bt (bt (bt (ba _ _) hB2) hB3) hB4) hB5)⟩
    | some n =>
      have hnn := hn
      rw [hn] at HF
      rw [numV, hn] at hNm
      dsimp only at hNm HF
      clear hn hp
      have hal := acells_len a
      have hfs := foldSize a
      cases hg : inG t with
      | true =>
        rw [hg] at hIn
        have hCk := check_any ⟨a, (n : Int)⟩
        rcases chk_or ⟨a, (n : Int)⟩ with ⟨hk, _⟩ | hk
        · have HF' : Hid (prf s = (⟨a, (n : Int)⟩, 0)) := by show _ = _; rw [HF.out]; simp [hg, hk]
          rw [hk] at hCk
          clear HF hk hg
          go_enter Tryz.func14, Tryz.ntmps14
          go_wp2_with (first
            | (refine stAq (.tmp 7) (.tmp 22) rfl rfl _ _ a rfl rfl (Row.there (Row.new _ _ _) (by simp)) ?_; intro w4 hw4; have hst := hw4.out ▸ storedRow w3 _ _ a (by simp); clear hw4; obtain ⟨hB4, hR4, hs4⟩ := hst; have z2 := hB2.size; have z3 := hB3.size; simp only [World.size_alloc] at z2; have q4 := ((hR.below hB2 (by simp)).below hB3 (by omega)).below hB4 (by omega); have hG4 := (hG1.keep hB2 (by simp; omega)).keep (bt hB3 hB4) (by omega))
            | (refine ldA (.tmp 7) rfl rfl _ _ a rfl (hR4.below hB5 (by omega)).range ?_)
            | (refine stPq (.tmp 11) (.tmp 38) rfl rfl _ _ ⟨a, (n : Int)⟩ rfl (buildP a n) (Row.there (Row.new _ _ _) (by simp)) ?_; intro w6 hw6; have hst := hw6.out ▸ storedRowP w5 _ _ ⟨a, (n : Int)⟩ (by simp); clear hw6; obtain ⟨hB6, hR6, hs6⟩ := hst; have z5 := hB5.size; have q6 := (q4.below hB5 (by omega)).below hB6 (by omega); have c6 := hR6.cell 16; have f6 := hR6.frozen 16; have e16 : (pcells ⟨a, (n : Int)⟩)[16]? = some (.int .i64 (n : Int)) := (by simp [pcells, acells_len]); rw [e16] at c6; clear e16; have hBB := bt (bt (bt (bt (bt (ba w _) hB2) hB3) hB4) hB5) hB6)
            | (refine ldP (.tmp 11) rfl rfl _ _ ⟨a, (n : Int)⟩ rfl (by first | exact (hR6.below hB7 (by omega)).range | exact hR6.range) ?_)
            | (refine stP (.tmp 2) (.tmp 52) rfl rfl _ _ ⟨a, (n : Int)⟩ rfl rfl ((q6.below hB7 (by omega)).there (by rw [pcells_len]; omega)) ?_)
            | (go_at_call 18; refine (hCk _).mono ?_; rintro e w7 ⟨rfl, hB7⟩)
            | (go_at_call 49; refine (hIn _).mono ?_; rintro e w8 ⟨rfl, rfl⟩)
            | (go_at_call 59; refine (hNm w4 hG4 (by omega)).mono ?_; rintro e w5 ⟨rfl, hB5⟩)
            | (go_at_call 7; refine (hPr w2 (hG1.keep hB2 (by simp; omega)) (by have := hB2.size; simp at this; omega)).mono ?_; rintro e w3 ⟨rfl, hB3⟩)
            | (go_at_call 58; refine hC.mono ?_; rintro e w2 ⟨rfl, hB2⟩))
          refine bodyPost_ret (retCT rfl _ _ 0 rfl (lvP (LP.stored ((q6.below hB7 (by omega)).there (by rw [pcells_len]; omega))))) rfl ⟨by rw [HF'.out]; rfl, below_setCells _ (Nat.le_refl _) _ _ _ (bt hBB hB7)⟩
        · have HF' : Hid (prf s = (zeroP, 21)) := by show _ = _; rw [HF.out]; simp [hg, hk]
          rw [hk] at hCk
          clear HF hk hg
          go_enter Tryz.func14, Tryz.ntmps14
          go_wp2_with (first
            | (refine stAq (.tmp 7) (.tmp 22) rfl rfl _ _ a rfl rfl (Row.there (Row.new _ _ _) (by simp)) ?_; intro w4 hw4; have hst := hw4.out ▸ storedRow w3 _ _ a (by simp); clear hw4; obtain ⟨hB4, hR4, hs4⟩ := hst; have z2 := hB2.size; have z3 := hB3.size; simp only [World.size_alloc] at z2; have q4 := ((hR.below hB2 (by simp)).below hB3 (by omega)).below hB4 (by omega); have hG4 := (hG1.keep hB2 (by simp; omega)).keep (bt hB3 hB4) (by omega))
            | (refine ldA (.tmp 7) rfl rfl _ _ a rfl (hR4.below hB5 (by omega)).range ?_)
            | (refine stPq (.tmp 11) (.tmp 38) rfl rfl _ _ ⟨a, (n : Int)⟩ rfl (buildP a n) (Row.there (Row.new _ _ _) (by simp)) ?_; intro w6 hw6; have hst := hw6.out ▸ storedRowP w5 _ _ ⟨a, (n : Int)⟩ (by simp); clear hw6; obtain ⟨hB6, hR6, hs6⟩ := hst; have z5 := hB5.size; have q6 := (q4.below hB5 (by omega)).below hB6 (by omega); have c6 := hR6.cell 16; have f6 := hR6.frozen 16; have e16 : (pcells ⟨a, (n : Int)⟩)[16]? = some (.int .i64 (n : Int)) := (by simp [pcells, acells_len]); rw [e16] at c6; clear e16; have hBB := bt (bt (bt (bt (bt (ba w _) hB2) hB3) hB4) hB5) hB6)
            | (refine ldP (.tmp 11) rfl rfl _ _ ⟨a, (n : Int)⟩ rfl (by first | exact (hR6.below hB7 (by omega)).range | exact hR6.range) ?_)
            | (refine stP (.tmp 2) (.tmp 50) rfl rfl _ _ zeroP rfl rfl ((q6.below hB7 (by omega)).there (by rw [pcells_len]; omega)) ?_)
            | (go_at_call 18; refine (hCk _).mono ?_; rintro e w7 ⟨rfl, hB7⟩)
            | (go_at_call 49; refine (hIn _).mono ?_; rintro e w8 ⟨rfl, rfl⟩)
            | (go_at_call 59; refine (hNm w4 hG4 (by omega)).mono ?_; rintro e w5 ⟨rfl, hB5⟩)
            | (go_at_call 7; refine (hPr w2 (hG1.keep hB2 (by simp; omega)) (by have := hB2.size; simp at this; omega)).mono ?_; rintro e w3 ⟨rfl, hB3⟩)
            | (go_at_call 58; refine hC.mono ?_; rintro e w2 ⟨rfl, hB2⟩))
          refine bodyPost_ret (retCT rfl _ _ 0 rfl (lvP (LP.stored ((q6.below hB7 (by omega)).there (by rw [pcells_len]; omega))))) rfl ⟨by rw [HF'.out]; rfl, below_setCells _ (Nat.le_refl _) _ _ _ (bt hBB hB7)⟩
      | false =>
        rw [hg] at hIn
        have hnw : IntKind.i64.wrap ((n : Int) + 96) = (n : Int) + 96 := by
          have := numS_le hnn
          rw [IntKind.wrap_i64]; omega
        have hCk := check_any ⟨a, (n : Int) + 96⟩
        rcases chk_or ⟨a, (n : Int) + 96⟩ with ⟨hk, _⟩ | hk
        · have HF' : Hid (prf s = (⟨a, (n : Int) + 96⟩, 0)) := by show _ = _; rw [HF.out]; simp [hg, hk]
          rw [hk] at hCk
          clear HF hk hg
          go_enter Tryz.func14, Tryz.ntmps14
          go_wp2_with (first
            | (refine stAq (.tmp 7) (.tmp 22) rfl rfl _ _ a rfl rfl (Row.there (Row.new _ _ _) (by simp)) ?_; intro w4 hw4; have hst := hw4.out ▸ storedRow w3 _ _ a (by simp); clear hw4; obtain ⟨hB4, hR4, hs4⟩ := hst; have z2 := hB2.size; have z3 := hB3.size; simp only [World.size_alloc] at z2; have q4 := ((hR.below hB2 (by simp)).below hB3 (by omega)).below hB4 (by omega); have hG4 := (hG1.keep hB2 (by simp; omega)).keep (bt hB3 hB4) (by omega))
            | (refine ldA (.tmp 7) rfl rfl _ _ a rfl (hR4.below hB5 (by omega)).range ?_)
            | (refine stPq (.tmp 11) (.tmp 38) rfl rfl _ _ ⟨a, (n : Int)⟩ rfl (buildP a n) (Row.there (Row.new _ _ _) (by simp)) ?_; intro w6 hw6; have hst := hw6.out ▸ storedRowP w5 _ _ ⟨a, (n : Int)⟩ (by simp); clear hw6; obtain ⟨hB6, hR6, hs6⟩ := hst; have z5 := hB5.size; have q6 := (q4.below hB5 (by omega)).below hB6 (by omega); have c6 := hR6.cell 16; have f6 := hR6.frozen 16; have e16 : (pcells ⟨a, (n : Int)⟩)[16]? = some (.int .i64 (n : Int)) := (by simp [pcells, acells_len]); rw [e16] at c6; clear e16; have hBB := bt (bt (bt (bt (bt (ba w _) hB2) hB3) hB4) hB5) hB6)
            | (refine ldP (.tmp 11) rfl rfl _ _ ⟨a, (n : Int) + 96⟩ rfl (by first | exact ((setLen a n ((n : Int) + 96) ▸ hR6.set 16 (.int .i64 ((n : Int) + 96)) : Row _ _ _ _).below hB7 (by simp; omega)).range | exact (setLen a n ((n : Int) + 96) ▸ hR6.set 16 (.int .i64 ((n : Int) + 96)) : Row _ _ _ _).range) ?_)
            | (refine stP (.tmp 2) (.tmp 52) rfl rfl _ _ ⟨a, (n : Int) + 96⟩ rfl rfl (((q6.setOther _ _ _ (by omega)).below hB7 (by simp; omega)).there (by rw [pcells_len]; omega)) ?_)
            | (go_at_call 18; refine (hCk _).mono ?_; rintro e w7 ⟨rfl, hB7⟩)
            | (go_at_call 49; refine (hIn _).mono ?_; rintro e w8 ⟨rfl, rfl⟩)
            | (go_at_call 59; refine (hNm w4 hG4 (by omega)).mono ?_; rintro e w5 ⟨rfl, hB5⟩)
            | (go_at_call 7; refine (hPr w2 (hG1.keep hB2 (by simp; omega)) (by have := hB2.size; simp at this; omega)).mono ?_; rintro e w3 ⟨rfl, hB3⟩)
            | (go_at_call 58; refine hC.mono ?_; rintro e w2 ⟨rfl, hB2⟩))
          refine bodyPost_ret (retCT rfl _ _ 0 rfl (lvP (LP.stored (((q6.setOther _ _ _ (by omega)).below hB7 (by simp; omega)).there (by rw [pcells_len]; omega))))) rfl ⟨by rw [HF'.out]; rfl, below_setCells _ (Nat.le_refl _) _ _ _ (bt (hBB.setCell (p := ⟨w5.heap.size, 16, none⟩) (by show w.heap.size ≤ w5.heap.size; omega) _) hB7)⟩
        · have HF' : Hid (prf s = (zeroP, 21)) := by show _ = _; rw [HF.out]; simp [hg, hk]
          rw [hk] at hCk
          clear HF hk hg
          go_enter Tryz.func14, Tryz.ntmps14
          go_wp2_with (first
            | (refine stAq (.tmp 7) (.tmp 22) rfl rfl _ _ a rfl rfl (Row.there (Row.new _ _ _) (by simp)) ?_; intro w4 hw4; have hst := hw4.out ▸ storedRow w3 _ _ a (by simp); clear hw4; obtain ⟨hB4, hR4, hs4⟩ := hst; have z2 := hB2.size; have z3 := hB3.size; simp only [World.size_alloc] at z2; have q4 := ((hR.below hB2 (by simp)).below hB3 (by omega)).below hB4 (by omega); have hG4 := (hG1.keep hB2 (by simp; omega)).keep (bt hB3 hB4) (by omega))
            | (refine ldA (.tmp 7) rfl rfl _ _ a rfl (hR4.below hB5 (by omega)).range ?_)
            | (refine stPq (.tmp 11) (.tmp 38) rfl rfl _ _ ⟨a, (n : Int)⟩ rfl (buildP a n) (Row.there (Row.new _ _ _) (by simp)) ?_; intro w6 hw6; have hst := hw6.out ▸ storedRowP w5 _ _ ⟨a, (n : Int)⟩ (by simp); clear hw6; obtain ⟨hB6, hR6, hs6⟩ := hst; have z5 := hB5.size; have q6 := (q4.below hB5 (by omega)).below hB6 (by omega); have c6 := hR6.cell 16; have f6 := hR6.frozen 16; have e16 : (pcells ⟨a, (n : Int)⟩)[16]? = some (.int .i64 (n : Int)) := (by simp [pcells, acells_len]); rw [e16] at c6; clear e16; have hBB := bt (bt (bt (bt (bt (ba w _) hB2) hB3) hB4) hB5) hB6)
            | (refine ldP (.tmp 11) rfl rfl _ _ ⟨a, (n : Int) + 96⟩ rfl (by first | exact ((setLen a n ((n : Int) + 96) ▸ hR6.set 16 (.int .i64 ((n : Int) + 96)) : Row _ _ _ _).below hB7 (by simp; omega)).range | exact (setLen a n ((n : Int) + 96) ▸ hR6.set 16 (.int .i64 ((n : Int) + 96)) : Row _ _ _ _).range) ?_)
            | (refine stP (.tmp 2) (.tmp 50) rfl rfl _ _ zeroP rfl rfl (((q6.setOther _ _ _ (by omega)).below hB7 (by simp; omega)).there (by rw [pcells_len]; omega)) ?_)
            | (go_at_call 18; refine (hCk _).mono ?_; rintro e w7 ⟨rfl, hB7⟩)
            | (go_at_call 49; refine (hIn _).mono ?_; rintro e w8 ⟨rfl, rfl⟩)
            | (go_at_call 59; refine (hNm w4 hG4 (by omega)).mono ?_; rintro e w5 ⟨rfl, hB5⟩)
            | (go_at_call 7; refine (hPr w2 (hG1.keep hB2 (by simp; omega)) (by have := hB2.size; simp at this; omega)).mono ?_; rintro e w3 ⟨rfl, hB3⟩)
            | (go_at_call 58; refine hC.mono ?_; rintro e w2 ⟨rfl, hB2⟩))
          refine bodyPost_ret (retCT rfl _ _ 0 rfl (lvP (LP.stored (((q6.setOther _ _ _ (by omega)).below hB7 (by simp; omega)).there (by rw [pcells_len]; omega))))) rfl ⟨by rw [HF'.out]; rfl, below_setCells _ (Nat.le_refl _) _ _ _ (bt (hBB.setCell (p := ⟨w5.heap.size, 16, none⟩) (by show w.heap.size ≤ w5.heap.size; omega) _) hB7)⟩
end Go.Proofs.YtimpopolkofdgaaGreatDoor
