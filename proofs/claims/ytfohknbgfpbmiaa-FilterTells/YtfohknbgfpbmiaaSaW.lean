/-
  FilterSame: the walk.
-/
import Derived.Test.YtfohknbgfpbmiaaLv
import Derived.Test.YtfohknbgfpbmiaaArgs
namespace Go.Proofs.Ytfohknbgfpbmiaa
open Go.RowKit Go.ChangeShapes Go.WideShapes Go.ChangeAt
set_option linter.unusedSimpArgs false
set_option maxRecDepth 20000
theorem w16 (x : Nat) (h : x < 65536) : wrap64 (x : Int) = (x : Int) := w64 _ (by omega) (by omega)
theorem w16s (m x : Nat) (h : m < 65536) (h' : x < 65536) : wrap64 ((m : Int) + (x : Int)) = (m : Int) + (x : Int) := w64 _ (by omega) (by omega)
theorem w16m (m x : Nat) : wrap64 ((min (m + x) 65535 : Nat) : Int) = ((min (m + x) 65535 : Nat) : Int) := w64 _ (by omega) (by omega)
theorem vmin (m x : Nat) : ((min (m + x) 65535 : Nat) : Int) = min ((m : Int) + (x : Int)) 65535 := by omega
theorem vhi {v m x : Nat} (h : (v : Int) = min ((m : Int) + (x : Int)) 65535) (h1 : (65535 : Int) < (m : Int) + (x : Int)) : (v : Int) = 65535 := by omega
theorem vlo {v m x : Nat} (h : (v : Int) = min ((m : Int) + (x : Int)) 65535) (h1 : (m : Int) + (x : Int) ≤ 65535) : (v : Int) = (m : Int) + (x : Int) := by omega
def rDeny (ch : Int) : Ru := { zeroR with ch := ch, deny := true }
def rAdd (ch x : Int) : Ru := { zeroR with ch := ch, add := x }
theorem mat_deny (ch : Int) (name : ByteArray) (p : Pr) (i : Id8) : matB (rDeny ch) ch name p i = true := by
  unfold matB mineB
  rw [show (rDeny ch).nm = (⟨#[]⟩ : ByteArray) from rfl, noB]
  simp [rDeny, zeroR]
theorem mat_add (ch x : Int) (name : ByteArray) (p : Pr) (i : Id8) : matB (rAdd ch x) ch name p i = true := by
  unfold matB mineB
  rw [show (rAdd ch x).nm = (⟨#[]⟩ : ByteArray) from rfl, noB]
  simp [rAdd, zeroR]
theorem met_hit {m : Nat} {f : Ru → Bool} {r : Ru} {l : List Ru} (h : f r = true) : metN m f (r :: l) = oneN m r := by
  unfold metN
  rw [List.find?_cons_of_pos h]
theorem met_deny (m : Nat) (ch : Int) (name : ByteArray) (p : Pr) (i : Id8) (l : List Ru) : metN m (fun r => matB r ch name p i) (rDeny ch :: l) = 65535 :=
  met_hit (f := fun r => matB r ch name p i) (mat_deny ch name p i)
theorem met_add (m x : Nat) (hx : x < 65536) (ch : Int) (name : ByteArray) (p : Pr) (i : Id8) (l : List Ru) : metN m (fun r => matB r ch name p i) (rAdd ch x :: l) = min (m + x) 65535 := by
  rw [met_hit (f := fun r => matB r ch name p i) (mat_add ch x name p i)]
  have h : ((x : Int) % 65536).toNat = x := by omega
  show capS [m, ((x : Int) % 65536).toNat] = _
  rw [h]
  simp [capS]
set_option maxHeartbeats 4000000 in
theorem same_live (chain : Int) (name : ByteArray) (p : Pr) (i : Id8) (m x : Int) (w : World) (h : chkQ p ≠ 0 ∨ chain < 0 ∨ 3 < chain) : Calls Try.prog 6 #[.int .i64 chain, .string name, (Value.agg (qcells p).toArray), idV i, .int .u16 m, .int .u16 x] w (Gives w (.bool true)) := by
  have hC := rcheckQ_any p
  have hQ := (LQ.new w p 28).alloc (.cells (icells i).toArray 30)
  have HB : Hid (Below w.heap.size w ((w.alloc (.cells (qcells p).toArray 28)).alloc (.cells (icells i).toArray 30))) := bt (ba _ _) (ba _ _)
  generalize chkQ p = c at *
  go_enter Try.func6, Try.ntmps6
  by_cases h0 : c = 0
  · subst h0
    by_cases h1 : chain < 0
    · clear h
      go_wp2_with (first
        | (refine ldQ (.tmp 8) rfl rfl _ _ p rfl hQ ?_)
        | (go_at_call 8; refine (live_any _).mono ?_; rintro e w2 ⟨rfl, h2⟩)
        | (go_at_call 15; refine (hC _).mono ?_; rintro e w1 ⟨rfl, hB1⟩))
      go_ret
      exact ⟨rfl, bt (bt HB.out hB1) h2⟩
    · have h3 : 3 < chain := by omega
      clear h
      go_wp2_with (first
        | (refine ldQ (.tmp 8) rfl rfl _ _ p rfl hQ ?_)
        | (go_at_call 8; refine (live_any _).mono ?_; rintro e w2 ⟨rfl, h2⟩)
        | (go_at_call 15; refine (hC _).mono ?_; rintro e w1 ⟨rfl, hB1⟩))
      go_ret
      exact ⟨rfl, bt (bt HB.out hB1) h2⟩
  · have h0b : (c != 0) = true := by simpa using h0
    clear h h0
    go_wp2_with (first
      | (refine ldQ (.tmp 8) rfl rfl _ _ p rfl hQ ?_)
      | (go_at_call 8; refine (live_any _).mono ?_; rintro e w2 ⟨rfl, h2⟩)
      | (go_at_call 15; refine (hC _).mono ?_; rintro e w1 ⟨rfl, hB1⟩))
    go_ret
    exact ⟨rfl, bt (bt HB.out hB1) h2⟩
set_option maxHeartbeats 8000000 in
theorem same_main (chain : Int) (name : ByteArray) (p : Pr) (i : Id8) (m x : Nat) (hm : m < 65536) (hx : x < 65536) (w : World) (h : chkQ p = 0) (h1 : 0 ≤ chain) (h2 : chain ≤ 3) : Calls Try.prog 6 #[.int .i64 chain, .string name, (Value.agg (qcells p).toArray), idV i, .int .u16 (m : Int), .int .u16 (x : Int)] w (Gives w (.bool true)) := by
  have hC := rcheckQ_any p
  rw [h] at hC
  have hQ := (LQ.new w p 28).alloc (.cells (icells i).toArray 30)
  have hI : LI ((w.alloc (.cells (qcells p).toArray 28)).alloc (.cells (icells i).toArray 30)) (w.heap.size + 1) 0 i := by
    have := LI.new (w.alloc (.cells (qcells p).toArray 28)) i 30
    simpa using this
  have HB : Hid (Below w.heap.size w ((w.alloc (.cells (qcells p).toArray 28)).alloc (.cells (icells i).toArray 30))) := bt (ba _ _) (ba _ _)
  have hlt1 : w.heap.size < ((w.alloc (.cells (qcells p).toArray 28)).alloc (.cells (icells i).toArray 30)).heap.size := by simp; omega
  have hlt2 : w.heap.size + 1 < ((w.alloc (.cells (qcells p).toArray 28)).alloc (.cells (icells i).toArray 30)).heap.size := by simp
  obtain ⟨v, hv⟩ : ∃ v : Nat, v = min (m + x) 65535 := ⟨_, rfl⟩
  have HA : Hid (∀ W g, Row W g 41 (rcells (rDeny chain)) → Calls Try.prog 11 #[.int .i64 chain, .string name, (Value.agg (qcells p).toArray), idV i, .int .u16 (m : Int), .slice (some ⟨g, 0, none⟩) 1 1] W (Gives W (.int .u16 65535))) := fun W g hr => by
    have h := metric_any chain name p i m hm _ 1 1 [rDeny chain] W (RlW.one hr) (by omega)
    rw [met_deny] at h
    exact h
  have HD : Hid (∀ W g, Row W g 41 (rcells (rAdd chain x)) → Calls Try.prog 11 #[.int .i64 chain, .string name, (Value.agg (qcells p).toArray), idV i, .int .u16 (m : Int), .slice (some ⟨g, 0, none⟩) 1 1] W (Gives W (.int .u16 (v : Int)))) := fun W g hr => by
    have h := metric_any chain name p i m hm _ 1 1 [rAdd chain x] W (RlW.one hr) (by omega)
    rw [met_add m x hx, ← hv] at h
    exact h
  have HE : Hid (∀ W g, Row W g 41 (rcells (rAdd chain x) ++ rcells (rDeny chain)) → Calls Try.prog 11 #[.int .i64 chain, .string name, (Value.agg (qcells p).toArray), idV i, .int .u16 (m : Int), .slice (some ⟨g, 0, none⟩) 2 2] W (Gives W (.int .u16 (v : Int)))) := fun W g hr => by
    have h := metric_any chain name p i m hm _ 2 2 [rAdd chain x, rDeny chain] W (RlW.two hr) (by omega)
    rw [met_add m x hx, ← hv] at h
    exact h
  have k1 : Hid (∀ w, (Instr.build 41 #[(0, .int .i64 chain), (9, .bool true)]).run Try.prog w = .ok (ruV (rDeny chain)) w) := fun w => bdDeny chain w
  have k2 : Hid (∀ w, (Instr.build 41 #[(0, .int .i64 chain), (10, .int .i64 (wrap64 (x : Int)))]).run Try.prog w = .ok (ruV (rAdd chain x)) w) := fun w => by rw [w16 x hx]; exact bdAdd chain x w
  generalize rDeny chain = r1 at *
  generalize rAdd chain x = r2 at *
  have g1 := w16 x hx
  have g2 := w16 m hm
  have g3 := w16s m x hm hx
  have g4 : wrap64 (v : Int) = (v : Int) := by rw [hv]; exact w16m m x
  have HV : Hid ((v : Int) = min ((m : Int) + (x : Int)) 65535) := by rw [hv]; exact vmin m x
  clear h hv hm hx
  go_enter Try.func6, Try.ntmps6
  go_upto_region 1 with fail
  refine name_world (R := fun W => Code.wp _ _ _ _ W) (P := fun W => Below w.heap.size w W ∧ LQ W w.heap.size 0 p ∧ LI W (w.heap.size + 1) 0 i ∧ w.heap.size < W.heap.size ∧ w.heap.size + 1 < W.heap.size) _ ⟨HB.out, hQ, hI, hlt1, hlt2⟩ ?_
  clear HB hQ hI hlt1 hlt2
  rintro X ⟨hB, hQ, hI, hlt1, hlt2⟩
  have HK : Hid (∀ W, Below X.heap.size X W → LQ W w.heap.size 0 p ∧ LI W (w.heap.size + 1) 0 i) := fun W h => ⟨hQ.below h hlt1, hI.below h hlt2⟩
  clear hQ hI hlt1 hlt2
  have hb := Below.refl X.heap.size X
  go_wp2_with (first
    | (refine ldQ (.tmp 8) rfl rfl _ _ p rfl (HK.out _ hb).1 ?_)
    | (refine ldI (.tmp 9) rfl rfl _ _ i rfl (HK.out _ hb).2 ?_)
    | (go_at_call 15; refine (hC _).mono ?_; rintro e w1 ⟨rfl, h1⟩; replace hb := hb.trans (Below.mono h1 hb.size); clear h1; have m1 := True.intro)
    | (have kk := m1; (with_reducible refine bdG (T := 41) (v := ruV r1) [(0, .tmp 33), (9, .const (.bool true))] ?_ ?_ ?_ ?_); (focus rfl); (focus rfl); (focus exact k1.out _); have m2 := True.intro; clear m1)
    | (have kk := m2; (with_reducible refine bsG (T := 22) (U := 41) (n := 1) [(0, .tmp 34)] (rcells r1) ?_ ?_ ?_ ?_); (focus rfl); (focus rfl); (focus exact bsR1 r1); intro w2 q2 h1; replace hb := hb.trans (Below.mono h1 hb.size); clear h1 m2)
    | (have kk := q2; go_at_call 11; refine (HA.out _ _ q2).mono ?_; rintro e w3 ⟨rfl, h1⟩; replace hb := hb.trans (Below.mono h1 hb.size); clear h1 q2; have m3 := True.intro)
    | (have kk := m3; (with_reducible refine bdG (T := 41) (v := ruV r2) [(0, .tmp 42), (10, .tmp 44)] ?_ ?_ ?_ ?_); (focus rfl); (focus rfl); (focus exact k2.out _); have m4 := True.intro; clear m3)
    | (have kk := m4; (with_reducible refine bsG (T := 22) (U := 41) (n := 1) [(0, .tmp 45)] (rcells r2) ?_ ?_ ?_ ?_); (focus rfl); (focus rfl); (focus exact bsR1 r2); intro w4 q4 h1; replace hb := hb.trans (Below.mono h1 hb.size); clear h1 m4)
    | (have kk := q4; go_at_call 11; refine (HD.out _ _ q4).mono ?_; rintro e w5 ⟨rfl, h1⟩; replace hb := hb.trans (Below.mono h1 hb.size); clear h1 q4; have m5 := True.intro)
    | (have kk := m5; (with_reducible refine bdG (T := 41) (v := ruV r2) [(0, .tmp 53), (10, .tmp 55)] ?_ ?_ ?_ ?_); (focus rfl); (focus rfl); (focus exact k2.out _); have m6 := True.intro; clear m5)
    | (have kk := m6; (with_reducible refine bdG (T := 41) (v := ruV r1) [(0, .tmp 57), (9, .const (.bool true))] ?_ ?_ ?_ ?_); (focus rfl); (focus rfl); (focus exact k1.out _); have m7 := True.intro; clear m6)
    | (have kk := m7; (with_reducible refine bsG (T := 22) (U := 41) (n := 2) [(0, .tmp 56), (1, .tmp 58)] (rcells r2 ++ rcells r1) ?_ ?_ ?_ ?_); (focus rfl); (focus rfl); (focus exact bsR2 r2 r1); intro w6 q6 h1; replace hb := hb.trans (Below.mono h1 hb.size); clear h1 m7)
    | (have kk := q6; go_at_call 11; refine (HE.out _ _ q6).mono ?_; rintro e w7 ⟨rfl, h1⟩; replace hb := hb.trans (Below.mono h1 hb.size); clear h1 q6; have m8 := True.intro)
    | (go_at_call 8; refine (live_any _).mono ?_; rintro e w8 ⟨rfl, h1⟩; replace hb := hb.trans (Below.mono h1 hb.size); clear h1))
  all_goals first
    | (go_ret; exact ⟨rfl, hB.trans (hb.mono hB.size)⟩)
    | exact absurd (vhi HV.out (by assumption)) (by assumption)
    | exact absurd (vlo HV.out (by assumption)) (by assumption)
theorem same_any (chain : Int) (name : ByteArray) (p : Pr) (i : Id8) (m x : Int) (hm : (Lit.int .u16 m).wf = true) (hx : (Lit.int .u16 x).wf = true) (w : World) : Calls Try.prog 6 #[.int .i64 chain, .string name, (Value.agg (qcells p).toArray), idV i, .int .u16 m, .int .u16 x] w (Gives w (.bool true)) := by
  obtain ⟨m, rfl, hm1⟩ := nat_of16 hm
  obtain ⟨x, rfl, hx1⟩ := nat_of16 hx
  by_cases h : chkQ p = 0 ∧ 0 ≤ chain ∧ chain ≤ 3
  · exact same_main chain name p i m x hm1 hx1 w h.1 h.2.1 h.2.2
  · refine same_live chain name p i m x w ?_
    by_cases h1 : chkQ p = 0
    · right
      by_cases h2 : 0 ≤ chain
      · right
        have : ¬ chain ≤ 3 := fun h3 => h ⟨h1, h2, h3⟩
        omega
      · left; omega
    · exact .inl h1
end Go.Proofs.Ytfohknbgfpbmiaa
