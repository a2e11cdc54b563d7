/-
  addr.Of: what it answers for every address and number.
-/
import Derived.Test.YtadnnjngflphjaaPair
import Derived.Test.YtadnnjngflphjaaV0
namespace Go.Proofs.Ytadnnjngflphjaa.Fa
open Go.RowKit
set_option linter.unusedSimpArgs false
set_option maxRecDepth 20000
theorem foldSet : ∀ (l arr : List Value) (k : Nat), k + l.length ≤ arr.length → List.foldl (fun (cs : Array Value) (x : Value × Nat) => cs.setIfInBounds x.2 x.1) arr.toArray (l.zipIdx k) = (arr.take k ++ l ++ arr.drop (k + l.length)).toArray
  | [], arr, k, h => by simp
  | x :: l, arr, k, h => by
    simp only [List.length_cons] at h
    rw [List.zipIdx_cons, List.foldl_cons]
    have ih := foldSet l (arr.set k x) (k + 1) (by simp; omega)
    simp only [List.setIfInBounds_toArray] at ih ⊢
    rw [ih]
    congr 1
    have e1 : (arr.set k x).take (k + 1) = arr.take k ++ [x] := by
      rw [List.take_add_one, List.take_set_of_le (Nat.le_refl _), List.getElem?_set_self (by omega)]; rfl
    have e2 : (arr.set k x).drop (k + 1 + l.length) = arr.drop (k + (l.length + 1)) := by
      rw [List.drop_set_of_lt (by omega)]; congr 1; omega
    rw [e1, e2, List.length_cons]
    simp
theorem buildP (a : Ad) (n : Int) : Value.agg ((List.foldl (fun (cs : Array Value) (x : Value × Nat) => cs.setIfInBounds x.2 x.1) #[Value.int .u8 0, Value.int .u8 0, Value.int .u8 0, Value.int .u8 0, Value.int .u8 0, Value.int .u8 0, Value.int .u8 0, Value.int .u8 0, Value.int .u8 0, Value.int .u8 0, Value.int .u8 0, Value.int .u8 0, Value.int .u8 0, Value.int .u8 0, Value.int .u8 0, Value.int .u8 0, Value.int .i64 0] (acells a).zipIdx).setIfInBounds 16 (.int .i64 n)) = (Value.agg (pcells (⟨a, n⟩)).toArray) := by
  have h1 := foldSet (acells a) [Value.int .u8 0, Value.int .u8 0, Value.int .u8 0, Value.int .u8 0, Value.int .u8 0, Value.int .u8 0, Value.int .u8 0, Value.int .u8 0, Value.int .u8 0, Value.int .u8 0, Value.int .u8 0, Value.int .u8 0, Value.int .u8 0, Value.int .u8 0, Value.int .u8 0, Value.int .u8 0, Value.int .i64 0] 0 (by rw [acells_len]; simp)
  rw [acells_len] at h1
  simp only [List.take_zero, List.nil_append, Nat.zero_add] at h1
  rw [h1]
  have h2 : (acells a ++ List.drop 16 [Value.int .u8 0, Value.int .u8 0, Value.int .u8 0, Value.int .u8 0, Value.int .u8 0, Value.int .u8 0, Value.int .u8 0, Value.int .u8 0, Value.int .u8 0, Value.int .u8 0, Value.int .u8 0, Value.int .u8 0, Value.int .u8 0, Value.int .u8 0, Value.int .u8 0, Value.int .u8 0, Value.int .i64 0]).toArray.setIfInBounds 16 (.int .i64 n) = ((acells a ++ [Value.int .i64 0]).set 16 (.int .i64 n)).toArray := by
    simp only [List.drop_succ_cons, List.drop_zero, List.setIfInBounds_toArray]
  rw [h2, List.set_append_right _ _ (by rw [acells_len]; omega), acells_len]
  rfl
theorem foldSize (a : Ad) : (List.foldl (fun (cs : Array Value) (x : Value × Nat) => cs.setIfInBounds x.2 x.1) #[Value.int .u8 0, Value.int .u8 0, Value.int .u8 0, Value.int .u8 0, Value.int .u8 0, Value.int .u8 0, Value.int .u8 0, Value.int .u8 0, Value.int .u8 0, Value.int .u8 0, Value.int .u8 0, Value.int .u8 0, Value.int .u8 0, Value.int .u8 0, Value.int .u8 0, Value.int .u8 0, Value.int .i64 0] (acells a).zipIdx).size = 17 := by
  have h1 := foldSet (acells a) [Value.int .u8 0, Value.int .u8 0, Value.int .u8 0, Value.int .u8 0, Value.int .u8 0, Value.int .u8 0, Value.int .u8 0, Value.int .u8 0, Value.int .u8 0, Value.int .u8 0, Value.int .u8 0, Value.int .u8 0, Value.int .u8 0, Value.int .u8 0, Value.int .u8 0, Value.int .u8 0, Value.int .i64 0] 0 (by rw [acells_len]; simp)
  rw [h1]
  simp [acells_len]
def ahead (a : Ad) : Int := if famA a = 4 then 96 else 0
/-- The prefix of an address's first bits. -/
def ofF (a : Ad) (n : Int) : Pf × Int := if 0 ≤ n ∧ n ≤ 128 - ahead a then (⟨cutA a (ahead a + n).toNat, ahead a + n⟩, 0) else (zeroP, 2)
theorem of_two (w : World) (a : Ad) : ∀ W, Below ((w.alloc (.cells (acells a).toArray 31)).alloc (.cells (pcells zeroP).toArray 33)).heap.size ((w.alloc (.cells (acells a).toArray 31)).alloc (.cells (pcells zeroP).toArray 33)) W → LA W w.heap.size 0 a ∧ Row W (w.heap.size + 1) 33 (pcells zeroP) ∧ Below w.heap.size w W := fun W hb => by
  have h1 := (LA.new w a 31).alloc (.cells (pcells zeroP).toArray 33)
  have h2 := Row.new (w.alloc (.cells (acells a).toArray 31)) 33 (pcells zeroP)
  simp only [World.size_alloc] at h2
  exact ⟨h1.below hb (by simp; omega), h2.below hb (by simp), bt (bt (ba _ _) (ba _ _)) hb⟩
set_option maxHeartbeats 8000000 in
theorem of_any (a : Ad) (n : Int) (w : World) : Calls Try.prog 51 #[(Value.agg (acells a).toArray), .int .i64 n] w (Gives w (.tuple #[(Value.agg (pcells ((ofF a n).1)).toArray), .int .i64 (ofF a n).2])) := by
  have HK : Hid (∀ W, _ → LA W w.heap.size 0 a ∧ Row W (w.heap.size + 1) 33 (pcells zeroP) ∧ Below w.heap.size w W) := of_two w a
  have hb0 := Below.refl ((w.alloc (.cells (acells a).toArray 31)).alloc (.cells (pcells zeroP).toArray 33)).heap.size ((w.alloc (.cells (acells a).toArray 31)).alloc (.cells (pcells zeroP).toArray 33))
  have hF := fam_any a
  have HX : Hid (ofF a n = if 0 ≤ n ∧ n ≤ 128 - ahead a then (⟨cutA a (ahead a + n).toNat, ahead a + n⟩, 0) else (zeroP, 2)) := rfl
  obtain ⟨f, hf⟩ : ∃ f, f = famA a := ⟨_, rfl⟩
  obtain ⟨h, hh⟩ : ∃ h, h = ahead a := ⟨_, rfl⟩
  have hc : f = 4 ∧ h = 96 ∨ (f == 4) = false ∧ h = 0 := by
    rw [hf, hh, ahead]
    by_cases h4 : famA a = 4
    · exact .inl ⟨h4, by rw [if_pos h4]⟩
    · exact .inr ⟨by simpa using h4, by rw [if_neg h4]⟩
  rw [← hf] at hF
  rw [← hh] at HX
  clear hf hh
  by_cases h0 : n < 0
  · have d0 : decide (n < 0) = true := by simpa using h0
    have HX' : Hid (ofF a n = (zeroP, 2)) := by show _ = _; rw [HX.out, if_neg (by omega)]
    clear HX h0
    rcases hc with ⟨rfl, rfl⟩ | ⟨h4, rfl⟩
    all_goals go_enter Try.func51, Try.ntmps51
    all_goals go_wp2_with (first
      | (refine ldA (.tmp 2) (by rfl) rfl _ _ a rfl (HK.out _ hb0).1 ?_)
      | (refine stP (.tmp 4) (.tmp 18) (by rfl) rfl _ _ zeroP rfl rfl ((HK.out _ hb0).2.1.there (by rw [pcells_len]; omega)) ?_)
      | (go_at_call 22; refine (hF _).mono ?_; rintro e w1 ⟨rfl, hB⟩; replace hb0 := bt hb0 hB; clear hB))
    all_goals refine bodyPost_ret (retCT rfl _ _ 0 rfl (lvP (LP.stored ((HK.out _ hb0).2.1.there (by rw [pcells_len]; omega))))) rfl ⟨by rw [HX'.out]; rfl, below_setCells _ (by omega) _ _ _ (HK.out _ hb0).2.2⟩
  · have d0 : decide (n < 0) = false := by simpa using h0
    by_cases h1 : n ≤ 128 - h
    · have HX' : Hid (ofF a n = (⟨cutA a (h + n).toNat, h + n⟩, 0)) := by show _ = _; rw [HX.out, if_pos (by omega)]
      obtain ⟨k, hk⟩ : ∃ k : Nat, h + n = (k : Int) := ⟨(h + n).toNat, by omega⟩
      have hk' : k ≤ 128 := by omega
      have hC := cut_n a k hk'
      have hcl := acells_len (cutA a k)
      have hfs := foldSize (cutA a k)
      have hkw : IntKind.i64.wrap (h + n) = (k : Int) := by rw [IntKind.wrap_i64]; omega
      have hkw' : wrap64 (h + n) = (k : Int) := by unfold wrap64; omega
      rw [hk, Int.toNat_natCast] at HX'
      have d1 : decide (128 - h < n) = false := by simp; omega
      clear HX h0 hk hk'
      rcases hc with ⟨rfl, rfl⟩ | ⟨h4, rfl⟩
      · have d2 : decide ((32 : Int) < n) = false := d1
        clear d1 h1
        go_enter Try.func51, Try.ntmps51
        go_wp2_with (first
          | (refine ldA (.tmp 2) (by rfl) rfl _ _ a rfl (HK.out _ hb0).1 ?_)
          | (refine stP (.tmp 4) (.tmp 27) (by rfl) rfl _ _ ⟨cutA a k, (k : Int)⟩ rfl (buildP (cutA a k) k) ((HK.out _ hb0).2.1.there (by rw [pcells_len]; omega)) ?_)
          | (go_at_call 42; refine (hC _).mono ?_; rintro e w2 ⟨rfl, hB⟩; replace hb0 := bt hb0 hB; clear hB)
          | (go_at_call 22; refine (hF _).mono ?_; rintro e w1 ⟨rfl, hB⟩; replace hb0 := bt hb0 hB; clear hB))
        refine bodyPost_ret (retCT rfl _ _ 0 rfl (lvP (LP.stored ((HK.out _ hb0).2.1.there (by rw [pcells_len]; omega))))) rfl ⟨by rw [HX'.out]; rfl, below_setCells _ (by omega) _ _ _ (HK.out _ hb0).2.2⟩
      · have d2 : decide ((128 : Int) < n) = false := by simp; omega
        clear d1 h1
        simp only [Int.zero_add] at hkw hkw'
        go_enter Try.func51, Try.ntmps51
        go_wp2_with (first
          | (refine ldA (.tmp 2) (by rfl) rfl _ _ a rfl (HK.out _ hb0).1 ?_)
          | (refine stP (.tmp 4) (.tmp 27) (by rfl) rfl _ _ ⟨cutA a k, (k : Int)⟩ rfl (buildP (cutA a k) k) ((HK.out _ hb0).2.1.there (by rw [pcells_len]; omega)) ?_)
          | (go_at_call 42; refine (hC _).mono ?_; rintro e w2 ⟨rfl, hB⟩; replace hb0 := bt hb0 hB; clear hB)
          | (go_at_call 22; refine (hF _).mono ?_; rintro e w1 ⟨rfl, hB⟩; replace hb0 := bt hb0 hB; clear hB))
        refine bodyPost_ret (retCT rfl _ _ 0 rfl (lvP (LP.stored ((HK.out _ hb0).2.1.there (by rw [pcells_len]; omega))))) rfl ⟨by rw [HX'.out]; rfl, below_setCells _ (by omega) _ _ _ (HK.out _ hb0).2.2⟩
    · have HX' : Hid (ofF a n = (zeroP, 2)) := by show _ = _; rw [HX.out, if_neg (by omega)]
      have d1 : decide (128 - h < n) = true := by simp; omega
      clear HX h0 h1
      rcases hc with ⟨rfl, rfl⟩ | ⟨h4, rfl⟩
      · have d2 : decide ((32 : Int) < n) = true := d1
        clear d1
        go_enter Try.func51, Try.ntmps51
        go_wp2_with (first
          | (refine ldA (.tmp 2) (by rfl) rfl _ _ a rfl (HK.out _ hb0).1 ?_)
          | (refine stP (.tmp 4) (.tmp 18) (by rfl) rfl _ _ zeroP rfl rfl ((HK.out _ hb0).2.1.there (by rw [pcells_len]; omega)) ?_)
          | (go_at_call 22; refine (hF _).mono ?_; rintro e w1 ⟨rfl, hB⟩; replace hb0 := bt hb0 hB; clear hB))
        refine bodyPost_ret (retCT rfl _ _ 0 rfl (lvP (LP.stored ((HK.out _ hb0).2.1.there (by rw [pcells_len]; omega))))) rfl ⟨by rw [HX'.out]; rfl, below_setCells _ (by omega) _ _ _ (HK.out _ hb0).2.2⟩
      · have d2 : decide ((128 : Int) < n) = true := d1
        clear d1
        go_enter Try.func51, Try.ntmps51
        go_wp2_with (first
          | (refine ldA (.tmp 2) (by rfl) rfl _ _ a rfl (HK.out _ hb0).1 ?_)
          | (refine stP (.tmp 4) (.tmp 18) (by rfl) rfl _ _ zeroP rfl rfl ((HK.out _ hb0).2.1.there (by rw [pcells_len]; omega)) ?_)
          | (go_at_call 22; refine (hF _).mono ?_; rintro e w1 ⟨rfl, hB⟩; replace hb0 := bt hb0 hB; clear hB))
        refine bodyPost_ret (retCT rfl _ _ 0 rfl (lvP (LP.stored ((HK.out _ hb0).2.1.there (by rw [pcells_len]; omega))))) rfl ⟨by rw [HX'.out]; rfl, below_setCells _ (by omega) _ _ _ (HK.out _ hb0).2.2⟩
end Go.Proofs.Ytadnnjngflphjaa.Fa
