/-
  The function live of the statements of layer 5 returns true, whatever the memory, and turns nothing that was there.
-/
import Derived.Test.YtgkonglkfjbmnaaSp
namespace Go.Proofs.Ytgkonglkfjbmnaa
open Go.RowKit
set_option linter.unusedSimpArgs false

def lv1 : List UInt8 := [0, 1, 2, 0, 0]
def lv2 : List UInt8 := [42, 2, 0, 5, 0, 1, 2, 0, 0]
def lv3 : List UInt8 := [42, 2, 0, 5, 0, 1, 2, 0, 0, 7]
def lv4 : List UInt8 := [42, 2, 0, 5, 97]
theorem live_packet {a : Option Addr} {c : Nat} {w : World} (h : Src w a 5 c (bcells lv1)) : Calls Try.prog 9 #[.slice a 5 c] w fun e w' => ∃ a c, e = .returned (.tuple #[.slice a 9 c, .int .i64 0]) ∧ w'.ownsRow w.heap.size 5 1 (.slice a 9 c) 9 (bcells lv2) ∧ Below w.heap.size w w' := by
  have h := packet_ok a 5 c lv1 w h (by decide)
  have e : pkL lv1 = lv2 := by decide
  unfold Packed at h
  rw [e] at h
  exact h
theorem live_open1 {a : Option Addr} {c : Nat} {w : World} (h : Src w a 10 c (bcells lv3)) : Calls Try.prog 11 #[.slice a 10 c] w fun e w' => ∃ a1 c1 a2 c2, e = .returned (.tuple #[.slice a1 5 c1, .slice a2 1 c2, .int .i64 0]) ∧ Src w' a1 5 c1 (bcells lv1) ∧ Below w.heap.size w w' := by
  refine (open_any a 10 c lv3 w h (by decide)).mono ?_
  rintro e w' ⟨a1, c1, a2, c2, rfl, h1, _, hb⟩
  have e1 : opB lv3 = lv1 := by decide
  have e2 : opT lv3 = [7] := by decide
  have e3 : opE lv3 = 0 := by decide
  rw [e1, e2, e3]
  rw [e1] at h1
  exact ⟨a1, c1, a2, c2, rfl, h1.1, hb⟩
theorem live_open2 {a : Option Addr} {c : Nat} {w : World} (h : Src w a 5 c (bcells lv4)) : Calls Try.prog 11 #[.slice a 5 c] w fun e w' => ∃ a1 c1 a2 c2, e = .returned (.tuple #[.slice a1 0 c1, .slice a2 0 c2, .int .i64 52]) ∧ Below w.heap.size w w' := by
  refine (open_any a 5 c lv4 w h (by decide)).mono ?_
  rintro e w' ⟨a1, c1, a2, c2, rfl, _, _, hb⟩
  have e1 : opB lv4 = [] := by decide
  have e2 : opT lv4 = [] := by decide
  have e3 : opE lv4 = 52 := by decide
  rw [e1, e2, e3]
  exact ⟨a1, c1, a2, c2, rfl, hb⟩
theorem live_split {a : Option Addr} {c : Nat} {w : World} (h : Src w a 5 c (bcells lv1)) : Calls Try.prog 17 #[.slice a 5 c] w fun e w' => ∃ a1 c1, e = .returned (.tuple #[.slice a1 2 c1, .int .i64 0]) ∧ Below w.heap.size w w' := by
  refine (split_any a 5 c lv1 w h (by decide)).mono ?_
  rintro e w' ⟨a1, c1, ps, rfl, hk, _, _, _, hb⟩
  have e1 : (splL lv1).2 = 0 := by decide
  have e2 : (splL lv1).1.length = 2 := by decide
  have e3 : ps.length = 2 := by rw [← e2, ← hk]; simp [keys]
  rw [e1, e3]
  exact ⟨a1, c1, rfl, hb⟩
theorem live_join {W : World} {g : Nat} {a : Addr} (hs : Src W (some a) 2 2 (bcells [0, 0])) (hr : Row W g 51 [.int .u8 0, .slice none 0 0, .int .u8 1, .slice (some a) 2 2]) :
    Calls Try.prog 15 #[.slice (some ⟨g, 0, none⟩) 2 2] W fun e w' => ∃ a' c, e = .returned (.tuple #[.slice a' 5 c, .int .i64 0]) ∧ w'.ownsRow W.heap.size 5 1 (.slice a' 5 c) 5 (bcells lv1) ∧ Below W.heap.size W w' := by
  have H : Rws W (some ⟨g, 0, none⟩) 2 [⟨0, none, 0, 0, []⟩, ⟨1, some a, 2, 2, [0, 0]⟩] := by
    refine ⟨rfl, fun _ => ⟨_, 0, rfl, hr.lt, fun j p hp k u hu => ?_⟩, fun p hp => ?_⟩
    · match j, hp with
      | 0, hp =>
        cases hp
        match k, hu with
        | 0, hu => cases hu; exact hr.cell 0
        | 1, hu => cases hu; exact hr.cell 1
      | 1, hp =>
        cases hp
        match k, hu with
        | 0, hu => cases hu; exact hr.cell 2
        | 1, hu => cases hu; exact hr.cell 3
    · simp at hp
      rcases hp with rfl | rfl
      · exact Src.nil _
      · exact hs
  have e : joinL [⟨0, none, 0, 0, []⟩, ⟨1, some a, 2, 2, [0, 0]⟩] = lv1 := rfl
  have h := join_ok _ 2 2 _ _ H (by decide) rfl (by rw [e]; decide)
  rw [e] at h
  exact h
theorem live_w1 (w : World) : Src ((w.alloc (.cells #[.int .u8 0, .int .u8 0] 5)).alloc (.cells #[.int .u8 0, .slice none 0 0, .int .u8 1, .slice (some ⟨w.heap.size, 0, none⟩) 2 2] 51)) (some ⟨w.heap.size, 0, none⟩) 2 2 (bcells [0, 0]) ∧ Row ((w.alloc (.cells #[.int .u8 0, .int .u8 0] 5)).alloc (.cells #[.int .u8 0, .slice none 0 0, .int .u8 1, .slice (some ⟨w.heap.size, 0, none⟩) 2 2] 51)) (w.heap.size + 1) 51 [.int .u8 0, .slice none 0 0, .int .u8 1, .slice (some ⟨w.heap.size, 0, none⟩) 2 2] := by
  refine ⟨(new_src w #[.int .u8 0, .int .u8 0]).alloc _, ?_⟩
  have := Row.new (w.alloc (.cells #[.int .u8 0, .int .u8 0] 5)) 51 [.int .u8 0, .slice none 0 0, .int .u8 1, .slice (some ⟨w.heap.size, 0, none⟩) 2 2]
  rw [World.size_alloc] at this
  exact this
/-- A row of bytes that is the call's own, as a source. -/
theorem own_src {w : World} {B : Nat} {a : Option Addr} {n c : Nat} {xs : List Value} (h : w.ownsRow B 5 1 (.slice a n c) n xs) : Src w a n c xs := by
  obtain ⟨_, _, hv, hs, _⟩ := Src.ofOwn h
  cases hv
  exact hs

theorem heap_alloc_old' (w : World) (o : Obj) (k : Nat) (hk : k < w.heap.size) : (w.alloc o).heap[k]? = w.heap[k]? := by
  show (w.heap.push _)[k]? = _
  rw [Array.getElem?_push_lt hk]
  exact (Array.getElem?_eq_getElem hk).symm
theorem hcat : (({ data := #[42, 2, 0, 5] } : ByteArray) ++ { data := #[0, 1, 2, 0, 0] }) = { data := #[42, 2, 0, 5, 0, 1, 2, 0, 0] } := by
  apply ByteArray.ext
  rw [ByteArray.data_append]
  rfl
/-- Append to a row of the call's own; the old slice reads as before. -/
theorem append_old {w : World} {ops : Array Oper} {rest : List Oper} {o : Oper} {a : Act} {Q : Exit → Act → World → Prop} (hgd : o.guard = none) (s x : Operand)
    (ho : o.op = .call { callee := .builtin .append, args := #[s, x], argTypes := #[22, 22] })
    (base : Nat) (v : Value) (n : Nat) (xs : List Value) (hs : a.eval s = v) (hown : w.ownsRow base 5 1 v n xs)
    (ad : Addr) (m c : Nat) (news : List Value) (hx : a.eval x = .slice (some ad) m c) (hsrc : Src w (some ad) m c news) (h1 : ∀ u ∈ news, u.oneCell' = true)
    (hbytes : n + m ≤ 140737488355328) (hbase : base ≤ w.heap.size)
    (h : ∀ v' w', w'.ownsRow base 5 1 v' (n + m) (xs ++ news) → w.grownBy w' v.ownBlock → w'.ownsRow base 5 1 v n xs → wpList Try.prog ops Q rest (a.put o.dst v') w') : wpList Try.prog ops Q (o :: rest) a w := by
  obtain ⟨i0, hi, hz0, hz1, hz2⟩ := info_parts info5
  have hl : news.length = m * 1 := by rw [hsrc.len]; omega
  obtain ⟨v', w', hr, h2, h3, _⟩ := run_append_own (P := Try.prog) w base 22 o.type 5 i0 (.int .u8 0) 1 1 Try.underlying22 hi hz0 hz1 hz2 rfl (by decide) v n xs hown ad m c news hl (hsrc.cell ad rfl) h1 (by unfold maxLen; omega) (by omega) hbase
  have h4 : w'.ownsRow base 5 1 v n xs := by
    refine ⟨hown.1, ?_⟩
    rcases hown.2 with h | ⟨g, cap, cur, rfl, hbg, hg, hnc, hcm, hcs, htake⟩
    · exact .inl h
    · refine .inr ?_
      by_cases hroom : n + m ≤ cap
      · have hr2 := run_append_room (P := Try.prog) w 22 o.type 5 i0 Try.underlying22 hi g n cap cur hg ad m c news (by rw [hz1]; exact hl) (hsrc.cell ad rfl) h1 hroom (by rw [hz1, hl, hcs, ← Nat.add_mul]; exact Nat.mul_le_mul_right _ hroom)
        rw [hr] at hr2
        cases hr2
        refine ⟨g, cap, _, rfl, hbg, setRow_heap w g cur _ 5 _ hg, hnc, hcm, ?_, ?_⟩
        · rw [hz1]
          simp only [List.size_toArray, List.length_append, List.length_take, List.length_drop, Array.length_toList]
          omega
        · rw [hz1, htake, List.append_assoc]
          exact (List.take_append_of_le_length (by rw [hown.1]; omega)).trans (List.take_of_length_le (by rw [hown.1]; omega))
      · have hr2 := run_append_grow (P := Try.prog) w 22 o.type 5 i0 (.int .u8 0) Try.underlying22 hi hz0 ⟨g, 0, none⟩ n cap xs (by rw [hz1]; exact hown.1) (hown.cells (g := g) rfl) ad m c news (by rw [hz1]; exact hl) (hsrc.cell ad rfl) (by omega) (by omega) (growslice_fits (by omega) (by rw [hz2]; omega))
        rw [hr] at hr2
        cases hr2
        exact ⟨g, cap, cur, rfl, hbg, (heap_alloc_old' w.drew _ g (lt_of_block hg)).trans hg, hnc, hcm, hcs, htake⟩
  refine wpList_plain hgd fun K hK => ?_
  unfold Oper.wp execOp
  simp only [ho, resolve, invoke, builtin, Sem.run_bind, Sem.run_pure, Result.andThen_ok, List.map_toArray, List.map_cons, List.map_nil, hs, hx, hr]
  exact hK _ _ (h v' w' h2 h3 h4)

set_option maxHeartbeats 1000000 in
theorem live_any (w : World) : Calls Try.prog 8 #[] w fun e w' => e = .returned (.bool true) ∧ Below w.heap.size w w' := by
  obtain ⟨hW1, hW2⟩ := live_w1 w
  have hct := hcat
  have hB0 : Below w.heap.size w ((w.alloc (.cells #[.int .u8 0, .int .u8 0] 5)).alloc (.cells #[.int .u8 0, .slice none 0 0, .int .u8 1, .slice (some ⟨w.heap.size, 0, none⟩) 2 2] 51)) := ((Below.refl _ _).alloc (Nat.le_refl _) _).alloc (by simp) _
  have HB0 : Hid (Below w.heap.size w ((w.alloc (.cells #[.int .u8 0, .int .u8 0] 5)).alloc (.cells #[.int .u8 0, .slice none 0 0, .int .u8 1, .slice (some ⟨w.heap.size, 0, none⟩) 2 2] 51))) := hB0
  clear hB0
  go_enter Try.func8, Try.ntmps8
  go_wp2_with (first
    | (go_at_call 13; refine (num_any _ _).mono ?_; rintro e wn ⟨rfl, rfl⟩)
    | (go_at_call 11; have kk := b5; refine (live_open2 (new_src w5 #[.int .u8 42, .int .u8 2, .int .u8 0, .int .u8 5, .int .u8 97])).mono ?_; rintro e w6 ⟨a6, c6, a7, c7, rfl, b6⟩; have q6 := (q5.alloc (.cells #[.int .u8 42, .int .u8 2, .int .u8 0, .int .u8 5, .int .u8 97] 5)).below b6 (q5.alloc _).lt; have p6 := (p5.alloc (.cells #[.int .u8 42, .int .u8 2, .int .u8 0, .int .u8 5, .int .u8 97] 5)).below b6 (p5.alloc _).lt; have st1 : (convert 22 9 (.slice a1 5 c1)).run Try.prog w6 = .ok (.string ⟨#[0, 1, 2, 0, 0]⟩) w6 := q6.str; have st2 : (convert 22 9 (.slice a2 9 c2)).run Try.prog w6 = .ok (.string ⟨#[42, 2, 0, 5, 0, 1, 2, 0, 0]⟩) w6 := p6.str)
    | (go_at_call 17; refine (live_split s4).mono ?_; rintro e w5 ⟨a5, c5, rfl, b5⟩; have q5 := q4.below b5 q4.lt; have p5 := p4.below b5 p4.lt)
    | (go_at_call 11; refine (live_open1 (own_src own3)).mono ?_; rintro e w4 ⟨a4, c4, at4, ct4, rfl, s4, b4⟩; have q4 := q3.below b4 q3.lt; have p4 := p3.below b4 p3.lt)
    | (at_builtin; refine append_old rfl (.tmp 27) (.tmp 28) rfl w1.heap.size (.slice a2 9 c2) 9 (bcells lv2) rfl (own2.alloc _) ⟨w2.heap.size, 0, none⟩ 1 1 [.int .u8 7] rfl (new_src w2 #[.int .u8 7]) (by intro u hu; simp at hu; subst hu; rfl) (by decide) (by have := b2.size; simp; omega) ?_; intro v3 w3 own3 hg3 oldp; obtain ⟨a3, c3, rfl⟩ := own_shape own3; have p3 := own_src oldp; have b3 := ((Below.refl w1.heap.size w1).trans b2 |>.alloc b2.size (.cells #[.int .u8 7] 5)).grown hg3 (by have := b2.size; simp; omega) (ownBlock_ge own2); have q3 := q1.below b3 q1.lt)
    | (go_at_call 9; refine (live_packet (own_src own1)).mono ?_; rintro e w2 ⟨a2, c2, rfl, own2, b2⟩)
    | (go_at_call 15; refine (live_join hW1 hW2).mono ?_; rintro e w1 ⟨a1, c1, rfl, own1, b1⟩; have q1 := own_src own1))
  go_ret
  have g1 : Below w.heap.size w w1 := HB0.out.trans (b1.mono (by simp; omega))
  have g3 : Below w.heap.size w w3 := g1.trans (b3.mono g1.size)
  have g4 := g3.trans (b4.mono g3.size)
  have g5 := g4.trans (b5.mono g4.size)
  exact ⟨rfl, (g5.alloc g5.size _).trans (b6.mono (by have := g5.size; simp; omega))⟩
end Go.Proofs.Ytgkonglkfjbmnaa
