/-
  The walk of WordsBack.
-/
import Derived.Test.YtldpocbnkggnnaaDoorB1
import Derived.Test.YtldpocbnkggnnaaDoorCoW
namespace Go.Proofs.YtldpocbnkggnnaaDoor
open Go.RowKit
set_option linter.unusedSimpArgs false
set_option maxRecDepth 20000
theorem eqItems_u8 (d : Nat) (l m : List UInt8) (w : World) : ∀ is : List Nat, (∀ i ∈ is, i < l.length ∧ i < m.length) →
    (Op.eqItems (d + 1) 5 1 (bcells l).toArray (bcells m).toArray is).run Tryd.prog w = .ok (decide (∀ i ∈ is, l[i]? = m[i]?)) w
  | [], _ => by simp [Op.eqItems]
  | i :: is, h => by
    have ih := eqItems_u8 d l m w is (fun j hj => h j (by simp [hj]))
    obtain ⟨h1, h2⟩ := h i (by simp)
    have e1 : (bcells l)[i]? = some (.int .u8 l[i].toNat) := by simp [bcells, h1]
    have e2 : (bcells m)[i]? = some (.int .u8 m[i].toNat) := by simp [bcells, h2]
    have hag : ∀ w, (isAgg 5).run Tryd.prog w = .ok false w := fun w => by simp [isAgg, run_underlying Tryd.underlying5]
    have he : ∀ w a b, (Op.equalIn (d + 1) 5 (.int .u8 a) (.int .u8 b)).run Tryd.prog w = .ok (a == b) w := fun w a b => run_equalIn_int w d _ _ _ a b Tryd.underlying5
    simp only [Op.eqItems, Sem.run_bind, part, Nat.mul_one, hag, Result.andThen_ok, Bool.false_eq_true, if_false, List.getElem?_toArray, e1, e2, Sem.run_pure, he, Sem.run_ite]
    have e3 : ((l[i].toNat : Int) == (m[i].toNat : Int)) = decide (l[i] = m[i]) := by
      by_cases hh : l[i] = m[i]
      · simp [hh]
      · have : l[i].toNat ≠ m[i].toNat := fun e => hh (UInt8.toNat.inj e)
        have h4 : ¬ ((l[i].toNat : Int) = (m[i].toNat : Int)) := by omega
        simp only [beq_eq_false_iff_ne.2 h4, hh, decide_false]
    by_cases hh : l[i] = m[i]
    · simp [hh, ih, h1, h2]
    · simp [e3, hh, h1, h2]
theorem same_of {l m : List UInt8} {n : Nat} (hl : l.length = n) (hm : m.length = n) : (∀ i ∈ List.range n, l[i]? = m[i]?) ↔ l = m := by
  constructor
  · intro h
    apply List.ext_getElem?
    intro i
    by_cases hi : i < n
    · exact h i (by simp [hi])
    · rw [List.getElem?_eq_none (by omega), List.getElem?_eq_none (by omega)]
  · rintro rfl; simp
set_option maxRecDepth 4000 in
theorem eqI (d : Nat) (a b : List UInt8) (ha : a.length = 8) (hb : b.length = 8) (w : World) : (Op.equalIn (d + 2) 39 (idV a) (idV b)).run Tryd.prog w = .ok (decide (a = b)) w := by
  obtain ⟨i, hi⟩ : ∃ i, Tryd.prog.info? 5 = some i := Option.isSome_iff_exists.1 (by kernel_rfl)
  rw [run_equalIn_array w (d + 1) _ _ Tryd.underlying39 hi, show Tryd.prog.cellsOf 5 = 1 by kernel_rfl]
  rw [eqItems_u8 d a b w _ (fun i hi => by rw [ha, hb]; exact ⟨List.mem_range.1 hi, List.mem_range.1 hi⟩)]
  congr 1
  exact decide_eq_decide.2 (same_of ha hb)
theorem run_eqlI (a b : List UInt8) (ha : a.length = 8) (hb : b.length = 8) (w : World) : (binOp .eql 39 (idV a) (idV b)).run Tryd.prog w = .ok (.bool (decide (a = b))) w := by
  have h := eqI 9998 a b ha hb w
  rw [run_eql_struct w, h]; rfl
theorem run_neqI (a b : List UInt8) (ha : a.length = 8) (hb : b.length = 8) (w : World) : (binOp .neq 39 (idV a) (idV b)).run Tryd.prog w = .ok (.bool (!decide (a = b))) w := by
  have h := eqI 9998 a b ha hb w
  rw [run_neq_struct w, h]; rfl
theorem wrd_len (x : List UInt8) : (wrd x).length ≤ 2 * x.length + 2 := by
  unfold wrd
  split
  · have := flat_len x; simp only [quo, List.length_cons, List.length_append, List.length_nil]; omega
  · omega
theorem joinW_len : ∀ (ws : List (List UInt8)), (joinW ws).length ≤ 2 * tot ws + 3 * ws.length
  | [] => by simp [joinW]
  | [x] => by have := wrd_len x; simp [joinW, tot]; omega
  | x :: y :: r => by
    have ih := joinW_len (y :: r)
    have := wrd_len x
    simp only [joinW, List.length_append, List.length_cons, tot, List.map_cons, List.sum_cons] at ih ⊢
    omega
theorem tot_part : ∀ (ws : List (List UInt8)) (j : Nat), tot (ws.take j) ≤ tot ws
  | [], j => by simp [tot]
  | x :: ws, 0 => by simp [tot]
  | x :: ws, j + 1 => by
    have := tot_part ws j
    simp only [tot, List.take_succ_cons, List.map_cons, List.sum_cons] at this ⊢
    omega
theorem Prn.joins {ws : List (List UInt8)} (h : Prn ws) (j : Nat) : (joinW (ws.take j)).length ≤ 1000000 := by
  have h1 := joinW_len (ws.take j)
  have h2 := tot_part ws j
  have h3 := h.2.1
  have h4 := h.2.2
  have h5 : (ws.take j).length ≤ 300 := by rw [List.length_take]; omega
  omega
theorem Prn.each {ws : List (List UInt8)} (h : Prn ws) (j : Nat) (hj : j < ws.length) : ws[j]!.length ≤ 1000000 := by
  rw [getElem!_pos ws j hj]
  have := mem_tot ws _ (List.getElem_mem hj)
  have := h.2.2
  omega
theorem joinP (ws : List (List UInt8)) (hP : Prn ws) (a : Option Addr) (n c : Nat) (w : World) (hs : Src w a n c (scells ws)) : Calls Tryd.prog 17 #[.slice a n c] w (Gives w (.string (str (joinW ws)))) :=
  join_any ws a n c w hs (by rw [hs.slen]; have := hP.2.1; omega) (fun j hj => hP.each j hj) (fun j _ => hP.joins j)
set_option maxHeartbeats 1000000 in
theorem back_walk (ws : List (List UInt8)) (a : Option Addr) (n c : Nat) (i8 : List UInt8) (h8 : i8.length = 8) (w : World) (hM : Ml w) (hs : Src w a n c (scells ws)) (hn : n ≤ 140737488355328) (hx : ∀ x ∈ ws, x.length ≤ 140737488355328) (hL : ∀ W, Below w.heap.size w W → Calls Tryd.prog 8 #[] W fun e w' => e = .returned (.bool true) ∧ Below W.heap.size W w') :
    Calls Tryd.prog 5 #[.slice a n c, idV i8] w fun e w' => e = .returned (.bool true) ∧ Below w.heap.size w w' := by
  have p1 := printId_any i8 h8
  obtain ⟨st, hst⟩ : ∃ st, st = str (prI i8) := ⟨_, rfl⟩
  have p2 := parseId_any (str (prI i8))
  rw [show (str (prI i8)).data.toList = prI i8 from rfl, id_back i8 h8, show psV (some i8) = .tuple #[idV i8, .bool true] from rfl] at p2
  rw [← hst] at p1 p2
  clear hst
  have n1 : ∀ W, (binOp .neq 39 (idV i8) (idV i8)).run Tryd.prog W = .ok (.bool false) W := fun W => by rw [run_neqI i8 i8 h8 h8, decide_eq_true rfl]; rfl
  have n2 : ∀ W, (binOp .eql 39 (idV i8) (idV i8)).run Tryd.prog W = .ok (.bool true) W := fun W => by rw [run_eqlI i8 i8 h8 h8, decide_eq_true rfl]
  have hpr := fun W hs => printable_any ws a n c W hs hn hx
  have hr := Row.new w 39 (bcells i8)
  have hb0 := ba w (.cells (bcells i8).toArray 39)
  have hlt := hr.lt
  have m1 : True := trivial
  go_enter Tryd.func5, Tryd.ntmps5
  have HS : Hid (∀ W, Below w.heap.size w W → Src W a n c (scells ws)) := fun W h => hs.stay h
  clear hs
  go_wp2_with (first
    | (go_at_call 23; refine (p1 _).mono ?_; rintro e w1 ⟨rfl, hb1⟩; replace hr := hr.below hb1 hlt; replace hb0 := bt hb0 hb1)
    | (go_at_call 21; refine (p2 _).mono ?_; rintro e w2 ⟨rfl, hb2⟩; replace hr := hr.below hb2 hr.lt; replace hb0 := bt hb0 hb2)
    | (refine alG infoIz (by rfl) rfl ?_; intro gA wA a1 a2 a3 rA; replace hr := hr.below a3 hr.lt; replace hb0 := bt hb0 a3)
    | (refine stI (.tmp 5) (.tmp 14) (by rfl) rfl gA i8 h8 _ rfl rfl rfl rA (Below.refl gA wA) (Nat.le_refl _) ?_; intro W4 r4 hb4; have hge : w.heap.size < gA := (by have := hb2.size; have := hb1.size; omega); replace hr := hr.below hb4 hge; replace hb0 := hb0.trans (hb4.mono (Nat.le_of_lt hge)); clear hb4 rA a1 a2 a3 hb1 hb2)
    | (refine ldI (.tmp 5) (by rfl) rfl _ _ i8 h8 rfl r4.range ?_)
    | (refine ldI (.tmp 3) (by rfl) rfl _ _ i8 h8 rfl hr.range ?_)
    | (go_at_call 16; refine (hpr _ (HS.out _ hb0)).mono ?_; rintro e w5 ⟨B, rfl, hB, rfl⟩; refine Hid.out ?_))
  unfold Hid
  clear hpr p1 p2
  cases B
  · go_wp2_with (first
      | (refine ldI (.tmp 5) (by rfl) rfl _ _ i8 h8 rfl r4.range ?_)
      | (refine ldI (.tmp 3) (by rfl) rfl _ _ i8 h8 rfl hr.range ?_)
      | (go_at_call 8; refine (hL _ hb0).mono ?_; rintro e w6 ⟨rfl, hb6⟩))
    go_ret
    exact ⟨rfl, bt hb0 hb6⟩
  · have hP := hB rfl
    have hA := words_back ws hP.1
    have j1 := joinP ws hP
    have hjl : (joinW ws).length ≤ 1000000 := by have := hP.joins ws.length; rwa [List.take_length] at this
    have hwn : ws.length ≤ 300 := hP.2.1
    have HP : Hid (Prn ws) := hP
    clear hB hP
    obtain ⟨s, hs⟩ : ∃ s, s = str (joinW ws) := ⟨_, rfl⟩
    have hsz : s.size = (joinW ws).length := by rw [hs, ← len_t]
    have hsd : s.data.toList = joinW ws := by rw [hs]
    rw [← hs] at j1
    clear hs
    by_cases hbig : 1024 < s.size
    · have hW := fun W hM => words_l s ([], 1) (by rw [hsd, hA, if_pos (by omega)]) W hM
      have hb' : (1024 : Int) < (s.size : Int) := by omega
      clear hsz hsd hA
      go_wp2_with (first
        | (go_at_call 17; refine (j1 a n c _ (HS.out _ hb0)).mono ?_; rintro e w6 ⟨rfl, hb6⟩; replace hb0 := bt hb0 hb6; clear hr r4 hb6)
        | (go_at_call 9; refine (hW _ (hM.keep hb0)).mono ?_; rintro e w7 ⟨a7, c7, rfl, hO7, hs7, hb7⟩; replace hb0 := bt hb0 hb7; clear hb7 hO7 hs7)
        | (go_at_call 14; refine (num_any _ _).mono ?_; rintro e w8 ⟨rfl, rfl⟩)
        | (go_at_call 8; refine (hL _ hb0).mono ?_; rintro e w9 ⟨rfl, hb9⟩))
      go_ret
      exact ⟨rfl, bt hb0 hb9⟩
    · have hW := fun W hM => words_l s (ws, 0) (by rw [hsd, hA, if_neg (by omega)]) W hM
      have hb' : ¬ (1024 : Int) < (s.size : Int) := by omega
      have hT := fun W a b n c m d h1 h2 hn hm => texts_any ws ws a b n c m d W h1 h2 hn hm
      rw [decide_eq_true rfl] at hT
      have hwl : ws.length ≤ 140737488355328 := by omega
      clear hsz hsd hA
      have m2 : True := trivial
      dsimp only at hW
      generalize hwn' : ws.length = m at *
      clear hwn'
      go_wp2_with (first
        | (go_at_call 17; have k := m1; clear m1; refine (j1 a n c _ (HS.out _ hb0)).mono ?_; rintro e w6 ⟨rfl, hb6⟩; replace hb0 := bt hb0 hb6; clear hr r4 hb6)
        | (go_at_call 9; refine (hW _ (hM.keep hb0)).mono ?_; rintro e w7 ⟨a7, c7, rfl, hO7, hs7, hb7⟩; replace hb0 := bt hb0 hb7; clear hb7 hO7)
        | (go_at_call 14; refine (num_any _ _).mono ?_; rintro e w8 ⟨rfl, rfl⟩)
        | (go_at_call 13; refine (hT _ _ _ _ _ _ _ (HS.out _ hb0) hs7 hn hwl).mono ?_; rintro e w9 ⟨rfl, hb9⟩; replace hs7 := hs7.stay hb9; replace hb0 := bt hb0 hb9; clear hb9)
        | (go_at_call 17; refine (j1 _ _ _ _ hs7).mono ?_; rintro e w10 ⟨rfl, hb10⟩; replace hb0 := bt hb0 hb10; clear hb10)
        | (go_at_call 8; refine (hL _ hb0).mono ?_; rintro e w11 ⟨rfl, hb11⟩))
      go_ret
      exact ⟨rfl, bt hb0 hb11⟩
end Go.Proofs.YtldpocbnkggnnaaDoor
