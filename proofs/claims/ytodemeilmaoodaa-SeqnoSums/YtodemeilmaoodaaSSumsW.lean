/-
  The law SeqnoSums returns true for every two slices of metrics.
-/
import Derived.Test.YtodemeilmaoodaaSAppend
namespace Go.Proofs.Ytodemeilmaoodaa
open Go.RowKit
set_option linter.unusedSimpArgs false
theorem cap_comm (l m : List Nat) : capS (m ++ l) = capS (l ++ m) := by
  unfold capS
  rw [List.sum_append, List.sum_append, Nat.add_comm]
theorem cap_two (l m : List Nat) : capS [capS l, capS m] = capS (l ++ m) := by
  unfold capS
  rw [List.sum_append]
  simp only [List.sum_cons, List.sum_nil]
  omega
theorem cap_end (l : List Nat) : capS (l ++ [65535]) = 65535 := by
  unfold capS
  rw [List.sum_append]
  simp only [List.sum_cons, List.sum_nil]
  omega
theorem cap_le (l : List Nat) : capS l < 65536 := by unfold capS; omega
theorem le_sum {x : Nat} : ∀ {l : List Nat}, x ∈ l → x ≤ l.sum
  | y :: r, h => by
    rw [List.sum_cons]
    rcases List.mem_cons.1 h with rfl | h
    · omega
    · have := le_sum h
      omega
theorem le_cap {l : List Nat} (hs : ∀ x ∈ l, x < 65536) (j : Nat) (h : j < l.length) : l[j] ≤ capS l := by
  have h1 : l[j] < 65536 := hs _ (List.getElem_mem h)
  have h2 : l[j] ≤ l.sum := le_sum (List.getElem_mem h)
  unfold capS
  omega
theorem one_mts (w : World) (x : Nat) (t : TypeId) (hx : x < 65536) : Mts (w.alloc (.cells #[.int .u16 (x : Int)] t)) (some ⟨w.heap.size, 0, none⟩) 1 [x] := by
  have q := Row.new w t [.int .u16 (x : Int)]
  refine ⟨rfl, (fun h => by cases h), ?_, ?_⟩
  · intro z hz
    simp at hz
    omega
  · intro ad had j hj
    cases had
    rw [Addr.add_mid, Nat.zero_add]
    refine (q.cell j).trans ?_
    match j, hj with
    | 0, _ => rfl
theorem sums_long (ad : Option Addr) (n c : Nat) (ae : Option Addr) (m d : Nat) (w : World) (hn : 200 < n ∨ 200 < m) : Calls Try.prog 7 #[.slice ad n c, .slice ae m d] w (Gives w (.bool true)) := by
  by_cases h1 : 200 < n
  · have hn' : (200 : Int) < (n : Int) := by omega
    go_enter Try.func7, Try.ntmps7
    go_wp2_with (go_at_call 9; refine (live_any _).mono ?_; rintro e w' ⟨rfl, hw⟩)
    go_ret
    exact ⟨rfl, hw⟩
  · have hn' : ¬ (200 : Int) < (n : Int) := by omega
    have hm' : (200 : Int) < (m : Int) := by omega
    go_enter Try.func7, Try.ntmps7
    go_wp2_with (go_at_call 9; refine (live_any _).mono ?_; rintro e w' ⟨rfl, hw⟩)
    go_ret
    exact ⟨rfl, hw⟩
theorem sums_walk (ad : Option Addr) (n c : Nat) (l : List Nat) (ae : Option Addr) (m d : Nat) (k : List Nat) (w : World) (hn : ¬ 200 < n) (hm : ¬ 200 < m) (hc : ad = none → c = 0) (hd : ae = none → d = 0) (hL : Mts w ad n l) (hM : Mts w ae m k) :
    Calls Try.prog 7 #[.slice ad n c, .slice ae m d] w (Gives w (.bool true)) := by
  have hn' : ¬ (200 : Int) < (n : Int) := by omega
  have hm' : ¬ (200 : Int) < (m : Int) := by omega
  have hs : ∀ x ∈ l ++ k, x < 65536 := fun x hx => (List.mem_append.1 hx).elim (hL.small x) (hM.small x)
  have hs' : ∀ x ∈ k ++ l, x < 65536 := fun x hx => (List.mem_append.1 hx).elim (hM.small x) (hL.small x)
  have hs5 : ∀ x ∈ (l ++ k) ++ [65535], x < 65536 := fun x hx => (List.mem_append.1 hx).elim (hs x) (fun h => by simp at h; omega)
  go_enter Try.func7, Try.ntmps7
  go_wp2_with (first
    | (have gd := o3; clear gd; at_builtin; refine app_m rfl (.tmp 25) (.tmp 26) rfl w2.heap.size _ m k rfl o3 ad n c l rfl hc (hL.stay (hb.trans (hb3.mono hb.size))) (by omega) hb3.size ?_; intro v4 w4 o4 hg; replace hb3 := hb3.grown hg hb3.size (own_ge o3); clear hg o3; replace hb := hb.trans (hb3.mono hb.size); replace o2 := own_below o2 hb3; clear hb3; obtain ⟨a4, c4, rfl, M4⟩ := own_m o4 hs'; obtain ⟨a2, c2, rfl, M2⟩ := own_m o2 hs)
    | (have gd := o2; clear gd; at_builtin; refine app_m rfl (.tmp 23) (.tmp 24) rfl w2.heap.size _ 0 [] rfl (World.ownsRow_made w2 #[] 0 (Nat.le_refl _) (by unfold maxLen; omega) rfl) ae m d k rfl hd (hM.stay (hb.alloc hb.size _)) (by omega) (by simp) ?_; intro v3 w3 o3 hg; have hb3 : Below w2.heap.size w2 w3 := ((Below.refl _ _).alloc (Nat.le_refl _) _).grown hg (by simp) (fun k hk => by cases hk; exact Nat.le_refl _); clear hg; rw [Nat.zero_add, List.nil_append] at o3)
    | (have gd := o1; clear gd; at_builtin; refine app_m rfl (.tmp 20) (.tmp 21) rfl w.heap.size _ n l rfl o1 ae m d k rfl hd (hM.stay hb) (by omega) hb.size ?_; intro v2 w2 o2 hg; replace hb := hb.grown hg hb.size (own_ge o1); clear hg o1)
    | (at_builtin; refine app_m rfl (.tmp 18) (.tmp 19) rfl w.heap.size _ 0 [] rfl (World.ownsRow_made w #[] 0 (Nat.le_refl _) (by unfold maxLen; omega) rfl) ad n c l rfl hc (hL.stay ((Below.refl _ _).alloc (Nat.le_refl _) _)) (by omega) (by simp) ?_; intro v1 w1 o1 hg; have hb : Below w.heap.size w w1 := ((Below.refl _ _).alloc (Nat.le_refl _) _).grown hg (by simp) (fun k hk => by cases hk; exact Nat.le_refl _); clear hg; rw [Nat.zero_add, List.nil_append] at o1)
    | (have gd := M2; clear gd; go_at_call 14; refine (sum_any _ _ _ _ _ (by omega) M2).mono ?_; rintro e w' ⟨rfl, rfl⟩))
  have HN : Hid (n + m ≤ 400) := by show n + m ≤ 400; omega
  have HN4 : Hid (m + n ≤ 400) := by show m + n ≤ 400; omega
  generalize n + m = N at *
  generalize m + n = N4 at *
  have eB := cap_comm l k
  have eC := cap_two l k
  have HC := le_cap hs
  have HS : Hid (capS (l ++ k) < 65536) := cap_le _
  generalize hSS : capS (l ++ k) = SS at *
  have HSS : Hid (capS (l ++ k) = SS) := hSS
  clear hSS
  go_loopw [8] (fun i wr => ∃ j : Nat, j ≤ N ∧ i = .int .i64 j ∧ w4 = wr) (fun i _ => N - (intOf i).toNat)
  case atStart => exact ⟨0, Nat.zero_le _, rfl, rfl⟩
  case round =>
    obtain ⟨j, hj, rfl, rfl⟩ := hrel
    have hN := HN.out
    by_cases hlt : j < N
    · cases a2 with
      | none => exact absurd (M2.bare rfl) (by omega)
      | some ax =>
        have hjl : j < (l ++ k).length := by rw [M2.len]; exact hlt
        have hcl := M2.cell ax rfl j hjl
        have hle := HC j hjl
        generalize (l ++ k)[j] = z at *
        have hle' : ¬ (SS : Int) < (z : Int) := by omega
        clear HC eB eC hle
        go_wp2
        go_roundw
        case rel => exact ⟨j + 1, by omega, by go_num, trivial⟩
        case measure => simp [intOf]; omega
    · clear HC
      have hN4 := HN4.out
      go_wp2_with (first
        | (have gd := o5; clear gd; go_at_call 9; refine (live_any _).mono ?_; rintro e w9 ⟨rfl, hw⟩; replace hb := hb.trans (hw.mono hb.size); clear hw)
        | (have gd := o5; clear gd; go_at_call 14; refine (sum_any _ _ _ _ _ (by omega) M5).mono ?_; rintro e w' ⟨rfl, rfl⟩; rw [cap_end])
        | (have gd := t5; clear gd; at_builtin; refine app_some (.tmp 57) (.tmp 58) (by rfl) rfl w.heap.size _ N (l ++ k) rfl (own_below o2 ((Below.refl _ _).alloc (Nat.le_refl _) _)) _ 1 1 [65535] rfl (one_mts _ 65535 _ (by decide)) (by omega) (by have := hb.size; simp; omega) ?_; intro v5 w5 o5 hg; replace hb := (hb.alloc hb.size _).grown hg (by have := hb.size; simp; omega) (own_ge o2); clear hg o2; obtain ⟨a5, c5, rfl, M5⟩ := own_m o5 hs5)
        | (have gd := t4; clear gd; go_at_call 14; refine (sum_any _ 2 2 [capS l, capS k] _ (by omega) (two_mts w4 (capS l) (capS k) _ (cap_le _) (cap_le _))).mono ?_; rintro e w6 ⟨rfl, hw'⟩; rw [eC]; have t5 := t4; clear t4; replace o2 := own_below o2 ((Below.refl w4.heap.size w4).alloc (Nat.le_refl _) (.cells #[.int .u16 (capS l : Nat), .int .u16 (capS k : Nat)] 22)); replace hb := hb.alloc hb.size (.cells #[.int .u16 (capS l : Nat), .int .u16 (capS k : Nat)] 22); rw [hw'] at hb o2; clear hw')
        | (have gd := t3; clear gd; go_at_call 14; refine (sum_any _ _ _ _ _ (by omega) (hM.stay hb)).mono ?_; rintro e w' ⟨rfl, rfl⟩; have t4 := t3; clear t3)
        | (have gd := t2; clear gd; go_at_call 14; refine (sum_any _ _ _ _ _ (by omega) (hL.stay hb)).mono ?_; rintro e w' ⟨rfl, rfl⟩; have t3 := t2; clear t2)
        | (have gd := M4; clear gd; go_at_call 14; refine (sum_any _ _ _ _ _ (by omega) M4).mono ?_; rintro e w' ⟨rfl, rfl⟩; rw [eB]; clear M4 o4; have t2 : True := trivial))
      go_ret
      exact ⟨rfl, hb⟩
theorem sums_all (ad : Option Addr) (n c : Nat) (l : List Nat) (ae : Option Addr) (m d : Nat) (k : List Nat) (w : World) (hc : ad = none → c = 0) (hd : ae = none → d = 0) (hL : Mts w ad n l) (hM : Mts w ae m k) :
    Calls Try.prog 7 #[.slice ad n c, .slice ae m d] w (Gives w (.bool true)) := by
  by_cases hn : 200 < n
  · exact sums_long ad n c ae m d w (.inl hn)
  · by_cases hm : 200 < m
    · exact sums_long ad n c ae m d w (.inr hm)
    · exact sums_walk ad n c l ae m d k w hn hm hc hd hL hM
end Go.Proofs.Ytodemeilmaoodaa
