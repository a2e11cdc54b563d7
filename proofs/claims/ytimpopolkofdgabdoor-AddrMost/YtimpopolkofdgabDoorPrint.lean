/-
  addr.Print and PrintPrefix: what they answer for every address and prefix.
-/
import Derived.Test.YtimpopolkofdgabDoorPPoints
namespace Go.Proofs.YtimpopolkofdgabDoor
open Go.RowKit Go.Shelf
set_option linter.unusedSimpArgs false
set_option maxRecDepth 20000
/-- An address as a text. -/
def prtA (a : Ad) : List UInt8 := if famA a = 4 then ppS a else pgS a
theorem ppS_len (a : Ad) : (ppS a).length ≤ 50 := by
  unfold ppS
  have := join_len 3 46 (ppW (a.l.drop 12)) (fun y hy => by
    unfold ppW at hy
    obtain ⟨c, _, rfl⟩ := List.mem_map.1 hy
    exact itoa_small c)
  have h2 : (ppW (a.l.drop 12)).length = 4 := by unfold ppW; rw [List.length_map, List.length_drop, a.len]
  omega
theorem pgS_len (a : Ad) : (pgS a).length ≤ 100 := by
  unfold pgS
  have h1 := joinG_len a.l (by rw [a.len]; omega)
  have h2 := joinG_len (a.l.take (lzF a.l 8).1) (by rw [List.length_take, a.len]; omega)
  have h3 := joinG_len (a.l.drop (lzF a.l 8).2) (by rw [List.length_drop, a.len]; omega)
  split
  · omega
  · simp only [List.length_append, List.length_cons, List.length_nil]; omega
theorem prtA_len (a : Ad) : (prtA a).length ≤ 100 := by
  unfold prtA
  split
  · have := ppS_len a; omega
  · exact pgS_len a
theorem print_any (a : Ad) (w : World) (hG : Glob w) (hT : Tz w) (hs8 : 8 ≤ w.heap.size) : Calls Tryd.prog 20 #[(Value.agg (acells a).toArray)] w (Gives w (.string (str (prtA a)))) := by
  have hA := LA.new w a 23
  have hB0 := ba w (.cells (acells a).toArray 23)
  have hF := fam_any a
  have HX : Hid (prtA a = if famA a = 4 then ppS a else pgS a) := rfl
  obtain ⟨f, hf⟩ : ∃ f, f = famA a := ⟨_, rfl⟩
  rw [← hf] at hF HX
  clear hf
  by_cases h4 : f = 4
  · rw [if_pos h4] at HX
    have h4' : (f == 4) = true := by simpa using h4
    clear h4
    go_enter Tryd.func20, Tryd.ntmps20
    go_wp2_with (first
      | (refine ldA (.tmp 1) rfl rfl _ _ a rfl (hA.below hB1 (by simp)) ?_)
      | (refine ldA (.tmp 1) rfl rfl _ _ a rfl hA ?_)
      | (go_at_call 31; have z1 := hB1.size; simp at z1; refine (pp_any a _ (hG.keep (hB0.trans (hB1.mono (by simp))) hs8) (by omega)).mono ?_; rintro e w2 ⟨rfl, hB2⟩)
      | (go_at_call 11; refine (hF _).mono ?_; rintro e w1 ⟨rfl, hB1⟩))
    go_ret
    exact ⟨by rw [HX.out]; rfl, bt (bt hB0 hB1) hB2⟩
  · rw [if_neg h4] at HX
    have h4' : (f == 4) = false := by simpa using h4
    clear h4
    go_enter Tryd.func20, Tryd.ntmps20
    go_wp2_with (first
      | (refine ldA (.tmp 1) rfl rfl _ _ a rfl (hA.below hB1 (by simp)) ?_)
      | (refine ldA (.tmp 1) rfl rfl _ _ a rfl hA ?_)
      | (go_at_call 32; have z1 := hB1.size; simp at z1; refine (pg_any a _ (hT.keep (hB0.trans (hB1.mono (by simp))) hs8) (by omega)).mono ?_; rintro e w2 ⟨rfl, hB2⟩)
      | (go_at_call 11; refine (hF _).mono ?_; rintro e w1 ⟨rfl, hB1⟩))
    go_ret
    exact ⟨by rw [HX.out]; rfl, bt (bt hB0 hB1) hB2⟩
/-- A prefix as a text. -/
def prtP (p : Pf) : List UInt8 := if chk p ≠ 0 then [] else if famP p = 4 then prtA p.a ++ [47] ++ Lib.itoa (p.n - 96) else pgS p.a ++ [47] ++ Lib.itoa p.n
theorem itoa_128 (n : Int) (h0 : 0 ≤ n) (h1 : n ≤ 128) : (Lib.itoa n).length ≤ 3 := by
  have h : ((List.range 129).all fun b => decide ((Lib.itoa (b : Int)).length ≤ 3)) = true := by kernel_rfl
  have := List.all_eq_true.1 h n.toNat (List.mem_range.2 (by omega))
  rw [show ((n.toNat : Nat) : Int) = n by omega] at this
  simpa using this
theorem chk_range {p : Pf} (h : chk p = 0) : 0 ≤ p.n ∧ p.n ≤ 128 := by
  unfold chk at h
  split at h
  · rename_i hh; exact ⟨hh.1, hh.2.1⟩
  · cases h
theorem famP_range {p : Pf} (h : famP p = 4) : 96 ≤ p.n := by
  unfold famP at h
  split at h
  · rename_i hh; exact hh.1
  · cases h
end Go.Proofs.YtimpopolkofdgabDoor
