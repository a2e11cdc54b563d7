/-
  Covers and CheckPair of package addr, for every input.
-/
import Derived.Test.YtfohknbgfpbmiaaFam
namespace Go.Proofs.Ytfohknbgfpbmiaa
open Go.RowKit
set_option linter.unusedSimpArgs false
set_option maxRecDepth 20000

/-- The first of two numbers that is not 0. -/
def orI (x y : Int) : Int := if x = 0 then y else x
/-- What Covers answers. -/
def cov (p q : Pf) : Bool := decide (chk q = 0) && (decide (p.n ≤ q.n) && con p q.a)
theorem covers_any (p q : Pf) (w : World) : Calls Try.prog 22 #[(Value.agg (pcells p).toArray), (Value.agg (pcells q).toArray)] w (Gives w (.bool (cov p q))) := by
  have hChk := check_any q
  have hCon := contains_any p q.a
  obtain ⟨c, hc⟩ : ∃ c, chk q = c := ⟨_, rfl⟩
  obtain ⟨d, hd⟩ : ∃ c, con p q.a = c := ⟨_, rfl⟩
  obtain ⟨n, hn⟩ : ∃ n, p.n = n := ⟨_, rfl⟩
  obtain ⟨m, hm⟩ : ∃ n, q.n = n := ⟨_, rfl⟩
  rw [hc] at hChk
  rw [hd] at hCon
  have HF : Hid (cov p q = (decide (c = 0) && (decide (n ≤ m) && d))) := by show _ = _; simp [cov, hn, hm, hc, hd]
  have hP := (LP.new w p 26).alloc (.cells (pcells q).toArray 26)
  have hQ : LP ((w.alloc (.cells (pcells p).toArray 26)).alloc (.cells (pcells q).toArray 26)) (w.heap.size + 1) 0 q := by
    have := LP.new (w.alloc (.cells (pcells p).toArray 26)) q 26
    simpa using this
  have h0 := chk_or q
  rw [hc] at h0
  have HN := hn
  rcases h0 with ⟨rfl, _⟩ | rfl
  · by_cases hnm : n ≤ m
    · have d1 : decide (n ≤ m) = true := by simpa using hnm
      go_enter Try.func22, Try.ntmps22
      go_wp2_with (first
        | (refine ldP (.tmp 3) rfl rfl _ _ q rfl hQ ?_)
        | (refine ldP (.tmp 2) (by rfl) rfl _ _ p rfl hP1 ?_)
        | (refine ldA (.tmp 17) (by rfl) rfl _ _ q.a rfl hQ1.a ?_)
        | (go_at_call 33; refine (hCon _).mono ?_; rintro e w2 ⟨rfl, hB2⟩)
        | (go_at_call 32; refine (hChk _).mono ?_; rintro e w1 ⟨rfl, hB1⟩; have hP1 : LP w1 w.heap.size 0 p := hP.below hB1 (by simp; omega); have hQ1 : LP w1 (w.heap.size + 1) 0 q := hQ.below hB1 (by simp); have c1 := hP1.n; have c2 := hQ1.n; rw [hn] at c1; rw [hm] at c2; simp only [Nat.zero_add] at c1 c2))
      go_ret
      exact ⟨by rw [HF.out, d1]; rfl, bt (bt (bt (ba _ _) (ba _ _)) hB1) hB2⟩
    · have d1 : decide (n ≤ m) = false := by simpa using hnm
      go_enter Try.func22, Try.ntmps22
      go_wp2_with (first
        | (refine ldP (.tmp 3) rfl rfl _ _ q rfl hQ ?_)
        | (refine ldP (.tmp 2) (by rfl) rfl _ _ p rfl hP1 ?_)
        | (refine ldA (.tmp 17) (by rfl) rfl _ _ q.a rfl hQ1.a ?_)
        | (go_at_call 33; refine (hCon _).mono ?_; rintro e w2 ⟨rfl, hB2⟩)
        | (go_at_call 32; refine (hChk _).mono ?_; rintro e w1 ⟨rfl, hB1⟩; have hP1 : LP w1 w.heap.size 0 p := hP.below hB1 (by simp; omega); have hQ1 : LP w1 (w.heap.size + 1) 0 q := hQ.below hB1 (by simp); have c1 := hP1.n; have c2 := hQ1.n; rw [hn] at c1; rw [hm] at c2; simp only [Nat.zero_add] at c1 c2))
      go_ret
      exact ⟨by rw [HF.out, d1]; rfl, bt (bt (ba _ _) (ba _ _)) hB1⟩
  · go_enter Try.func22, Try.ntmps22
    go_wp2_with (first
      | (refine ldP (.tmp 3) rfl rfl _ _ q rfl hQ ?_)
      | (refine ldP (.tmp 2) (by rfl) rfl _ _ p rfl hP1 ?_)
      | (refine ldA (.tmp 17) (by rfl) rfl _ _ q.a rfl hQ1.a ?_)
      | (go_at_call 33; refine (hCon _).mono ?_; rintro e w2 ⟨rfl, hB2⟩)
      | (go_at_call 32; refine (hChk _).mono ?_; rintro e w1 ⟨rfl, hB1⟩; have hP1 : LP w1 w.heap.size 0 p := hP.below hB1 (by simp; omega); have hQ1 : LP w1 (w.heap.size + 1) 0 q := hQ.below hB1 (by simp); have c1 := hP1.n; have c2 := hQ1.n; rw [hn] at c1; rw [hm] at c2; simp only [Nat.zero_add] at c1 c2))
    go_ret
    exact ⟨by rw [HF.out]; rfl, bt (bt (ba _ _) (ba _ _)) hB1⟩
/-- What CheckPair answers. -/
def chkQ (q : Pr) : Int := if orI (chk q.d) (chk q.s) ≠ 0 then orI (chk q.d) (chk q.s) else if famP q.d = famP q.s then 0 else 21
end Go.Proofs.Ytfohknbgfpbmiaa
