/-
  The document's Join of one piece, and its join.
-/
import Derived.Test.YtdibjgcokebfbaaGreatM08
import Derived.Deep.CutBlock
import Derived.Maps.AppendAt
import Derived.Test.YtdibjgcokebfbaaGreatM05
namespace Go.Proofs.YtdibjgcokebfbaaGreat
open Go.RowKit
set_option linter.unusedSimpArgs false
set_option maxRecDepth 20000
section
variable {ops : Array Oper} {op : Oper} {a : Act} {w : World} {Q : Exit → Act → World → Prop} {K : Act → World → Prop} {E : Prop}
theorem sApb (s x : Operand) (hw : Region.wanted op (yielded ops a.tmps) = true)
    (ho : op.op = .call { callee := .builtin .append, args := #[s, x], argTypes := #[46, 46] })
    (base : Nat) (v : Value) (n : Nat) (l : List UInt8) (hs : a.eval s = v) (hown : w.ownsRow base 5 1 v n (bcells l))
    (ad : Option Addr) (m c : Nat) (k : List UInt8) (hx : a.eval x = .slice ad m c) (hsrc : Src w ad m c (bcells k))
    (hbytes : n + m ≤ 140737488355328) (hbase : base ≤ w.heap.size)
    (h : ∀ v' w', w'.ownsRow base 5 1 v' (n + m) (bcells (l ++ k)) → w.grownBy w' v.ownBlock → K (a.put op.dst v') w') : if Region.wanted op (yielded ops a.tmps) = true then Oper.wp Tryz.prog op a w K Q else E := by
  rw [if_pos hw]
  obtain ⟨i0, hi, hz0, hz1, hz2⟩ := info_parts info5
  cases ad with
  | some ad => exact wp_append_own w s x 46 ho base 5 i0 (.int .u8 0) 1 1 Tryz.underlying46 hi hz0 hz1 hz2 rfl (by decide) v n (bcells l) hs hown ad m c (bcells k) hx (by simp [hsrc.len]) (hsrc.cell ad rfl) (bcells_one k) (by unfold maxLen; omega) (by omega) hbase (fun v' w' h1 h2 _ => h v' w' (by rw [bcells_append]; exact h1) h2)
  | none =>
    obtain ⟨rfl, rfl⟩ := hsrc.bare rfl
    have hk : k = [] := List.eq_nil_of_length_eq_zero (by have := hsrc.len; simpa [bcells] using this)
    subst hk
    have hrun := run_append_owned_none (P := Tryz.prog) (w := w) base 46 op.type 5 i0 1 Tryz.underlying46 hi v n (bcells l) hown
    have h2 := h v w (by simpa using hown) (World.grownBy.refl _ _)
    unfold Oper.wp execOp
    simp only [ho, resolve, invoke, builtin, Sem.run_bind, Sem.run_pure, Result.andThen_ok, List.map_toArray, List.map_cons, List.map_nil, hs, hx, hrun]
    exact h2
end
/-- What the document's Join answers of one piece. -/
def Jnd (w : World) (l : List UInt8) (e : Ending) (w' : World) : Prop := ∃ a n c, e = .returned (.tuple #[.slice a n c, .int .i64 0]) ∧ w'.ownsRow w.heap.size 5 1 (.slice a n c) n (bcells l) ∧ Below w.heap.size w w'
set_option maxHeartbeats 8000000 in
theorem rjoin1_any (g : Nat) (t : UInt8) (ht : t.toNat ≠ 0) (a : Option Addr) (n c : Nat) (l : List UInt8) (w : World) (hr : Row w g 94 [.int .u8 (t.toNat : Int), .slice a n c]) (hs : Src w a n c (bcells l)) (hn : n ≤ 255) :
    Calls Tryz.prog 61 #[.slice (some ⟨g, 0, none⟩) 1 1] w (Jnd w (inL t l)) := by
  have HL : Hid (l.length = n) := hs.blen.symm
  have HI : Hid (bcells (inL t l) = bcells [t, UInt8.ofNat n] ++ bcells l) := by
    show _ = _
    rw [← bcells_append]
    unfold inL
    rw [hs.blen]
    rfl
  have hz : ((t.toNat : Int) == 0) = false := by simpa using ht
  have hn1 : ¬ (255 : Int) < (n : Int) := by omega
  have hu : IntKind.u8.wrap (n : Int) = ((UInt8.ofNat n).toNat : Int) := by rw [IntKind.wrap_u8]; simp
  have HLEN : Hid (0 + 2 ≤ 140737488355328 ∧ 0 + 2 + n ≤ 140737488355328) := by constructor <;> omega
  have htl := t.toNat_lt
  clear ht hn
  generalize hT : t.toNat = T at *
  go_enter Tryz.func61, Tryz.ntmps61
  go_wp2
  go_loopw [4, 5] (fun v i wr => ∃ j : Nat, j ≤ 1 ∧ i = .int .i64 j ∧ (j = 0 → v = .slice none 0 0 ∧ w = wr) ∧ (j = 1 → wr.ownsRow w.heap.size 5 1 v (0 + 2 + n) (bcells ([] ++ [t, UInt8.ofNat n] ++ l)) ∧ Below w.heap.size w wr)) (fun _ i _ => 1 - (intOf i).toNat)
  case atStart => exact ⟨0, by omega, rfl, (fun _ => ⟨rfl, rfl⟩), (fun h => by omega)⟩
  case round =>
    obtain ⟨j, hj, rfl, hj0, hj1⟩ := hrel
    rcases (show j = 0 ∨ j = 1 by omega) with rfl | rfl
    · obtain ⟨rfl, rfl⟩ := hj0 rfl
      clear hj0 hj1 hj
      have c0 := hr.cell 0
      have c1 := hr.cell 1
      simp only [List.getElem?_cons_zero, List.getElem?_cons_succ] at c0 c1
      have HC0 : Hid (∀ W, Below w.heap.size w W → W.cell? ⟨g, 0, none⟩ = some (.int .u8 (T : Int))) := fun W h => (h.cell (p := ⟨g, 0, none⟩) hr.lt).trans c0
      have HC1 : Hid (∀ W, Below w.heap.size w W → W.cell? ⟨g, 1, none⟩ = some (.slice a n c)) := fun W h => (h.cell (p := ⟨g, 1, none⟩) hr.lt).trans c1
      have eb : bcells [t, UInt8.ofNat n] = [.int .u8 (T : Int), .int .u8 ((UInt8.ofNat n).toNat : Int)] := by rw [← hT]; rfl
      generalize ((UInt8.ofNat n).toNat : Int) = nb at *
      go_upto_region 5 with fail
      refine wp_region_noPanic ?_
      refine wp_region_held_drew (S := fun W => Below w.heap.size w W) (by kernel_rfl) ((Below.refl _ _).drew) (fun hHeld => ?_)
      refine tA 0 ?_
      refine tA 1 ?_
      refine tA 2 ?_
      refine tA 3 ?_
      refine tA 4 ?_
      refine tA 5 ?_ (hv := by intro w hSw; (try dsimp only at hSw); have hm := HC0.out _ hSw; go_simp <;> with_reducible rfl)
      refine tA 6 ?_
      refine tA 7 ?_
      refine tA 8 ?_
      refine tA 9 ?_
      refine tA 10 ?_ (hv := by intro w hSw; (try dsimp only at hSw); have hm := HC1.out _ hSw; go_simp <;> with_reducible rfl)
      refine tA 11 ?_
      refine tA 12 ?_
      refine tA 15 ?_
      refine tA 16 ?_
      refine tA 17 ?_
      refine tA 18 ?_
      refine tA 19 ?_ (hv := by intro w hSw; (try dsimp only at hSw); have hm := HC1.out _ hSw; go_simp <;> with_reducible rfl)
      refine r1 13 fun K hK => ?_
      refine sBS (T := 46) (U := 5) (n := 2) [(0, .tmp 17), (1, .tmp 24)] [.int .u8 (T : Int), .int .u8 nb] (by rfl) rfl (rb8_2 _ _) rfl ?_
      intro gA wA sA hA
      rw [← eb] at sA
      refine oK hK (by exact hHeld.trans (hA.mono hHeld.size)) fun hHeld => ?_
      clear hK K
      refine r1 14 fun K hK => ?_
      refine sApb (.tmp 12) (.tmp 25) (by rfl) rfl w.heap.size (.slice none 0 0) 0 [] rfl (World.ownsRow_nil _ _ _ _) (some ⟨gA, 0, none⟩) 2 2 [t, UInt8.ofNat n] rfl sA HLEN.out.1 hHeld.size ?_
      intro v1 w1 hO1 hg1
      refine oK hK (by exact hHeld.grown hg1 hHeld.size (fun k hk => by cases hk)) fun hHeld => ?_
      clear hK K
      refine r1 20 fun K hK => ?_
      refine sApb (.tmp 26) (.tmp 31) (by rfl) rfl w.heap.size _ (0 + 2) ([] ++ [t, UInt8.ofNat n]) rfl hO1 a n c l rfl (hs.below hHeld hs.lt) HLEN.out.2 hHeld.size ?_
      intro v2 w2 hO2 hg2
      refine oK hK (by exact hHeld.grown hg2 hHeld.size (fun k hk => (hO1.lt k hk).1)) fun hHeld => ?_
      clear hK K
      refine tA 21 ?_
      refine dN ?_
      refine NoPanic.normal ?_
      go_wp2_with fail
      go_roundw
      case rel => exact ⟨1, by omega, rfl, (fun h => by omega), fun _ => ⟨hO2, hHeld⟩⟩
      case measure => simp [intOf]
    · obtain ⟨hO, hB⟩ := hj1 rfl
      clear hj0 hj1 hj
      go_wp2
      go_ret2
      obtain ⟨a', c', rfl⟩ := own_shape hO
      exact ⟨a', _, c', rfl, by rw [HI.out, ← bcells_append]; simpa using hO, hB⟩
/-- The document's join. -/
theorem rjoin7_any (t : UInt8) (ht : t.toNat ≠ 0) (a : Option Addr) (n c : Nat) (l : List UInt8) (w : World) (hs : Src w a n c (bcells l)) (hn : n ≤ 255) :
    Calls Tryz.prog 36 #[.agg #[.int .u8 (t.toNat : Int), .slice a n c]] w (LaidN w (inL t l)) := by
  have r0 := Row.new w 94 [.int .u8 (t.toNat : Int), .slice a n c]
  have r1 := Row.new (w.alloc (.cells #[.int .u8 (t.toNat : Int), .slice a n c] 94)) 94 [.int .u8 (t.toNat : Int), .slice a n c]
  rw [World.size_alloc] at r1
  have HJ := rjoin1_any _ t ht a n c l _ r1 ((hs.alloc _).alloc _) hn
  clear hn ht
  generalize (t.toNat : Int) = T at *
  go_enter Tryz.func36, Tryz.ntmps36
  go_wp2_with (first
    | (refine ldR (.tmp 1) (by rfl) rfl w.heap.size 0 _ _ rfl r0.range ?_)
    | (go_at_call 61; refine HJ.mono ?_; rintro e w1 ⟨a', n', c', rfl, hO, hb⟩))
  go_ret
  exact ⟨a', n', c', rfl, own_le hO (by simp; omega), bt (bt (ba _ _) (ba _ _)) hb⟩
end Go.Proofs.YtdibjgcokebfbaaGreat

namespace Go.Proofs.YtdibjgcokebfbaaGreat
open Go.RowKit
set_option linter.unusedSimpArgs false
set_option maxRecDepth 20000
/-- Bytes of the call's own, from block B on; all below, and what is of another type, is as it was. -/
def OwnL (B : Nat) (w : World) (v : Value) (l : List UInt8) (e : Ending) (w' : World) : Prop := ∃ a n c, e = .returned (.slice a n c) ∧ w'.ownsRow B 5 1 (.slice a n c) n (bcells l) ∧ Below B w w' ∧ B ≤ w'.heap.size ∧ ∀ g, g < w.heap.size → some g ≠ v.ownBlock → some g ≠ (Value.slice a n c).ownBlock ∧ w'.heap[g]? = w.heap[g]?
theorem append_at {w : World} {ops : Array Oper} {rest : List Oper} {o : Oper} {a : Act} {Q : Exit → Act → World → Prop} (hgd : o.guard = none) (s x : Operand)
    (ho : o.op = .call { callee := .builtin .append, args := #[s, x], argTypes := #[46, 46] })
    (base : Nat) (v : Value) (n : Nat) (xs : List Value) (hs : a.eval s = v) (hown : w.ownsRow base 5 1 v n xs)
    (ad : Addr) (m c : Nat) (news : List Value) (hx : a.eval x = .slice (some ad) m c) (hsrc : Src w (some ad) m c news) (h1 : ∀ u ∈ news, u.oneCell' = true)
    (hbytes : n + m ≤ 140737488355328) (hbase : base ≤ w.heap.size)
    (h : ∀ v' w', w'.ownsRow base 5 1 v' (n + m) (xs ++ news) → w.grownBy w' v.ownBlock → (v'.ownBlock = v.ownBlock ∨ v'.ownBlock = some w.heap.size) → wpList Tryz.prog ops Q rest (a.put o.dst v') w') : wpList Tryz.prog ops Q (o :: rest) a w := by
  obtain ⟨i0, hi, hz0, hz1, hz2⟩ := info_parts info5
  exact wpList_append_own_at w hgd s x 46 ho base 5 i0 (.int .u8 0) 1 1 Tryz.underlying46 hi hz0 hz1 hz2 rfl (by decide) v n xs hs hown ad m c news hx (by simp [hsrc.len]) (hsrc.cell ad rfl) h1 (by unfold maxLen; omega) (by omega) hbase (fun v' w' a1 a2 _ a4 => h v' w' a1 a2 a4)
/-- Behind an append, and behind the next: blocks that are not the row's stay. -/
theorem at_first {w w1 : World} {o : Obj} {v v1 : Value} (hg : (w.alloc o).grownBy w1 v.ownBlock) (ha : v1.ownBlock = v.ownBlock ∨ v1.ownBlock = some (w.alloc o).heap.size) : ∀ g, g < w.heap.size → some g ≠ v.ownBlock → some g ≠ v1.ownBlock ∧ w1.heap[g]? = w.heap[g]? := fun g hg1 hne => by
  refine ⟨?_, ?_⟩
  · rcases ha with e | e
    · rw [e]; exact hne
    · rw [e]; intro h; have := Option.some.inj h; rw [World.size_alloc] at this; omega
  · rw [hg.block g (by rw [World.size_alloc]; omega) hne]
    exact (ba w o).block g hg1
theorem at_next {w wr w1 : World} {o : Obj} {v u v1 : Value} (hs : w.heap.size ≤ wr.heap.size) (hk : ∀ g, g < w.heap.size → some g ≠ v.ownBlock → some g ≠ u.ownBlock ∧ wr.heap[g]? = w.heap[g]?) (hg : (wr.alloc o).grownBy w1 u.ownBlock) (ha : v1.ownBlock = u.ownBlock ∨ v1.ownBlock = some (wr.alloc o).heap.size) : ∀ g, g < w.heap.size → some g ≠ v.ownBlock → some g ≠ v1.ownBlock ∧ w1.heap[g]? = w.heap[g]? := fun g hg1 hne => by
  obtain ⟨k1, k2⟩ := hk g hg1 hne
  obtain ⟨m1, m2⟩ := at_first hg ha g (by omega) k1
  exact ⟨m1, m2.trans k2⟩
set_option maxHeartbeats 8000000 in
theorem rput2_any (B : Nat) (v : Value) (n : Nat) (l : List UInt8) (x : UInt16) (w : World) (hO : w.ownsRow B 5 1 v n (bcells l)) (hB : B ≤ w.heap.size) (hn : n ≤ 100000000) :
    Calls Tryz.prog 57 #[v, .int .u32 (x.toNat : Int), .int .i64 2] w (OwnL B w v (l ++ be16 x)) := by
  have hx := x.toNat_lt
  have HC : Hid (bcells (l ++ be16 x) = bcells l ++ [.int .u8 ((x.toNat : Int) / 256)] ++ [.int .u8 ((x.toNat : Int) % 256)]) := by
    show _ = _
    rw [bcells_append, be16_cells]
    simp
  have HN : Hid ((n + 1) ≤ 140737488355328 ∧ (n + 1 + 1) ≤ 140737488355328) := by
    refine ⟨?_, ?_⟩ <;> omega
  clear hn
  go_enter Tryz.func57, Tryz.ntmps57
  go_wp2_with fail
  go_loopw [0, 7] (fun u i wr => (i = .int .i64 1 ∧ u = v ∧ w = wr) ∨ (i = .int .i64 (0) ∧ wr.ownsRow B 5 1 u (n + 1) (bcells l ++ [.int .u8 ((x.toNat : Int) / 256)]) ∧ Below B w wr ∧ (∀ g, g < w.heap.size → some g ≠ v.ownBlock → some g ≠ u.ownBlock ∧ wr.heap[g]? = w.heap[g]?)) ∨ (i = .int .i64 (-1) ∧ wr.ownsRow B 5 1 u (n + 1 + 1) (bcells l ++ [.int .u8 ((x.toNat : Int) / 256)] ++ [.int .u8 ((x.toNat : Int) % 256)]) ∧ Below B w wr ∧ (∀ g, g < w.heap.size → some g ≠ v.ownBlock → some g ≠ u.ownBlock ∧ wr.heap[g]? = w.heap[g]?))) (fun _ i _ => (intOf i + 1).toNat)
  case atStart => exact .inl ⟨rfl, rfl, rfl⟩
  case round =>
    rcases hrel with ⟨rfl, rfl, rfl⟩ | ⟨rfl, h1, hb, hk⟩ | ⟨rfl, h1, hb, hk⟩
    · have e1 : IntKind.u8.wrap ((x.toNat : Int) / 256) = (x.toNat : Int) / 256 := by rw [IntKind.wrap_u8]; omega
      go_wp2_with (at_builtin; refine append_at rfl (.tmp 14) (.tmp 21) rfl B _ n (bcells l) rfl (hO.alloc _) ⟨w.heap.size, 0, none⟩ 1 1 [.int .u8 ((x.toNat : Int) / 256)] rfl (by have := new_src w #[.int .u8 ((x.toNat : Int) / 256)]; simpa using this) (by intro u hu; simp at hu; subst hu; rfl) HN.out.1 (by simp; omega) ?_; intro v1 w1 hO1 hg1 ha1)
      exact ⟨.inr (.inl ⟨rfl, hO1, ((Below.refl B w).alloc hB _).grown hg1 (by simp; omega) (ownBlock_ge hO), at_first hg1 ha1⟩), by decide⟩
    · have e1 : IntKind.u8.wrap (x.toNat : Int) = (x.toNat : Int) % 256 := by rw [IntKind.wrap_u8]
      have hB1 := Nat.le_trans hB hb.size
      go_wp2_with (at_builtin; refine append_at rfl (.tmp 14) (.tmp 21) rfl B _ (n + 1) (bcells l ++ [.int .u8 ((x.toNat : Int) / 256)]) rfl (h1.alloc _) ⟨wr.heap.size, 0, none⟩ 1 1 [.int .u8 ((x.toNat : Int) % 256)] rfl (by have := new_src wr #[.int .u8 ((x.toNat : Int) % 256)]; simpa using this) (by intro u hu; simp at hu; subst hu; rfl) HN.out.2 (by simp; omega) ?_; intro v1 w1 hO1 hg1 ha1)
      exact ⟨.inr (.inr (⟨rfl, hO1, (hb.alloc hB1 _).grown hg1 (by simp; omega) (ownBlock_ge h1), at_next hb.size hk hg1 ha1⟩)), by decide⟩
    · go_wp2_with fail
      go_ret
      obtain ⟨a', c', rfl⟩ := own_shape h1
      exact ⟨a', _, c', rfl, by rw [HC.out]; exact h1, hb, Nat.le_trans hB hb.size, hk⟩
set_option maxHeartbeats 8000000 in
theorem rput4_any (B : Nat) (v : Value) (n : Nat) (l : List UInt8) (x : UInt32) (w : World) (hO : w.ownsRow B 5 1 v n (bcells l)) (hB : B ≤ w.heap.size) (hn : n ≤ 100000000) :
    Calls Tryz.prog 57 #[v, .int .u32 (x.toNat : Int), .int .i64 4] w (OwnL B w v (l ++ be32 x)) := by
  have hx := x.toNat_lt
  have HC : Hid (bcells (l ++ be32 x) = bcells l ++ [.int .u8 ((x.toNat : Int) / 16777216)] ++ [.int .u8 ((x.toNat : Int) / 65536 % 256)] ++ [.int .u8 ((x.toNat : Int) / 256 % 256)] ++ [.int .u8 ((x.toNat : Int) % 256)]) := by
    show _ = _
    rw [bcells_append, be32_cells]
    simp
  have HN : Hid ((n + 1) ≤ 140737488355328 ∧ (n + 1 + 1) ≤ 140737488355328 ∧ (n + 1 + 1 + 1) ≤ 140737488355328 ∧ (n + 1 + 1 + 1 + 1) ≤ 140737488355328) := by
    refine ⟨?_, ?_, ?_, ?_⟩ <;> omega
  clear hn
  go_enter Tryz.func57, Tryz.ntmps57
  go_wp2_with fail
  go_loopw [0, 7] (fun u i wr => (i = .int .i64 3 ∧ u = v ∧ w = wr) ∨ (i = .int .i64 (2) ∧ wr.ownsRow B 5 1 u (n + 1) (bcells l ++ [.int .u8 ((x.toNat : Int) / 16777216)]) ∧ Below B w wr ∧ (∀ g, g < w.heap.size → some g ≠ v.ownBlock → some g ≠ u.ownBlock ∧ wr.heap[g]? = w.heap[g]?)) ∨ (i = .int .i64 (1) ∧ wr.ownsRow B 5 1 u (n + 1 + 1) (bcells l ++ [.int .u8 ((x.toNat : Int) / 16777216)] ++ [.int .u8 ((x.toNat : Int) / 65536 % 256)]) ∧ Below B w wr ∧ (∀ g, g < w.heap.size → some g ≠ v.ownBlock → some g ≠ u.ownBlock ∧ wr.heap[g]? = w.heap[g]?)) ∨ (i = .int .i64 (0) ∧ wr.ownsRow B 5 1 u (n + 1 + 1 + 1) (bcells l ++ [.int .u8 ((x.toNat : Int) / 16777216)] ++ [.int .u8 ((x.toNat : Int) / 65536 % 256)] ++ [.int .u8 ((x.toNat : Int) / 256 % 256)]) ∧ Below B w wr ∧ (∀ g, g < w.heap.size → some g ≠ v.ownBlock → some g ≠ u.ownBlock ∧ wr.heap[g]? = w.heap[g]?)) ∨ (i = .int .i64 (-1) ∧ wr.ownsRow B 5 1 u (n + 1 + 1 + 1 + 1) (bcells l ++ [.int .u8 ((x.toNat : Int) / 16777216)] ++ [.int .u8 ((x.toNat : Int) / 65536 % 256)] ++ [.int .u8 ((x.toNat : Int) / 256 % 256)] ++ [.int .u8 ((x.toNat : Int) % 256)]) ∧ Below B w wr ∧ (∀ g, g < w.heap.size → some g ≠ v.ownBlock → some g ≠ u.ownBlock ∧ wr.heap[g]? = w.heap[g]?))) (fun _ i _ => (intOf i + 1).toNat)
  case atStart => exact .inl ⟨rfl, rfl, rfl⟩
  case round =>
    rcases hrel with ⟨rfl, rfl, rfl⟩ | ⟨rfl, h1, hb, hk⟩ | ⟨rfl, h1, hb, hk⟩ | ⟨rfl, h1, hb, hk⟩ | ⟨rfl, h1, hb, hk⟩
    · have e1 : IntKind.u8.wrap ((x.toNat : Int) / 16777216) = (x.toNat : Int) / 16777216 := by rw [IntKind.wrap_u8]; omega
      go_wp2_with (at_builtin; refine append_at rfl (.tmp 14) (.tmp 21) rfl B _ n (bcells l) rfl (hO.alloc _) ⟨w.heap.size, 0, none⟩ 1 1 [.int .u8 ((x.toNat : Int) / 16777216)] rfl (by have := new_src w #[.int .u8 ((x.toNat : Int) / 16777216)]; simpa using this) (by intro u hu; simp at hu; subst hu; rfl) HN.out.1 (by simp; omega) ?_; intro v1 w1 hO1 hg1 ha1)
      exact ⟨.inr (.inl ⟨rfl, hO1, ((Below.refl B w).alloc hB _).grown hg1 (by simp; omega) (ownBlock_ge hO), at_first hg1 ha1⟩), by decide⟩
    · have e1 : IntKind.u8.wrap ((x.toNat : Int) / 65536) = (x.toNat : Int) / 65536 % 256 := by rw [IntKind.wrap_u8]
      have hB1 := Nat.le_trans hB hb.size
      go_wp2_with (at_builtin; refine append_at rfl (.tmp 14) (.tmp 21) rfl B _ (n + 1) (bcells l ++ [.int .u8 ((x.toNat : Int) / 16777216)]) rfl (h1.alloc _) ⟨wr.heap.size, 0, none⟩ 1 1 [.int .u8 ((x.toNat : Int) / 65536 % 256)] rfl (by have := new_src wr #[.int .u8 ((x.toNat : Int) / 65536 % 256)]; simpa using this) (by intro u hu; simp at hu; subst hu; rfl) HN.out.2.1 (by simp; omega) ?_; intro v1 w1 hO1 hg1 ha1)
      exact ⟨.inr (.inr (.inl ⟨rfl, hO1, (hb.alloc hB1 _).grown hg1 (by simp; omega) (ownBlock_ge h1), at_next hb.size hk hg1 ha1⟩)), by decide⟩
    · have e1 : IntKind.u8.wrap ((x.toNat : Int) / 256) = (x.toNat : Int) / 256 % 256 := by rw [IntKind.wrap_u8]
      have hB1 := Nat.le_trans hB hb.size
      go_wp2_with (at_builtin; refine append_at rfl (.tmp 14) (.tmp 21) rfl B _ (n + 1 + 1) (bcells l ++ [.int .u8 ((x.toNat : Int) / 16777216)] ++ [.int .u8 ((x.toNat : Int) / 65536 % 256)]) rfl (h1.alloc _) ⟨wr.heap.size, 0, none⟩ 1 1 [.int .u8 ((x.toNat : Int) / 256 % 256)] rfl (by have := new_src wr #[.int .u8 ((x.toNat : Int) / 256 % 256)]; simpa using this) (by intro u hu; simp at hu; subst hu; rfl) HN.out.2.2.1 (by simp; omega) ?_; intro v1 w1 hO1 hg1 ha1)
      exact ⟨.inr (.inr (.inr (.inl ⟨rfl, hO1, (hb.alloc hB1 _).grown hg1 (by simp; omega) (ownBlock_ge h1), at_next hb.size hk hg1 ha1⟩))), by decide⟩
    · have e1 : IntKind.u8.wrap (x.toNat : Int) = (x.toNat : Int) % 256 := by rw [IntKind.wrap_u8]
      have hB1 := Nat.le_trans hB hb.size
      go_wp2_with (at_builtin; refine append_at rfl (.tmp 14) (.tmp 21) rfl B _ (n + 1 + 1 + 1) (bcells l ++ [.int .u8 ((x.toNat : Int) / 16777216)] ++ [.int .u8 ((x.toNat : Int) / 65536 % 256)] ++ [.int .u8 ((x.toNat : Int) / 256 % 256)]) rfl (h1.alloc _) ⟨wr.heap.size, 0, none⟩ 1 1 [.int .u8 ((x.toNat : Int) % 256)] rfl (by have := new_src wr #[.int .u8 ((x.toNat : Int) % 256)]; simpa using this) (by intro u hu; simp at hu; subst hu; rfl) HN.out.2.2.2 (by simp; omega) ?_; intro v1 w1 hO1 hg1 ha1)
      exact ⟨.inr (.inr (.inr (.inr (⟨rfl, hO1, (hb.alloc hB1 _).grown hg1 (by simp; omega) (ownBlock_ge h1), at_next hb.size hk hg1 ha1⟩)))), by decide⟩
    · go_wp2_with fail
      go_ret
      obtain ⟨a', c', rfl⟩ := own_shape h1
      exact ⟨a', _, c', rfl, by rw [HC.out]; exact h1, hb, Nat.le_trans hB hb.size, hk⟩
/-- The document's two: numbers of two bytes behind bytes of the call's own. -/
theorem u16_32 (x : UInt16) : IntKind.u32.wrap (x.toNat : Int) = (x.toNat : Int) := by
  have := x.toNat_lt
  simp [IntKind.wrap, IntKind.signed, IntKind.bits]
  omega
set_option maxHeartbeats 4000000 in
theorem rtwo_any (B : Nat) (v : Value) (n : Nat) (l : List UInt8) (g m : Nat) (k : List UInt16) (w : World) (hO : w.ownsRow B 5 1 v n (bcells l)) (hB : B ≤ w.heap.size) (hr : Row w g 36 (hcells k)) (hm : k.length = m) (hn : n + 2 * m ≤ 100000000) :
    Calls Tryz.prog 32 #[v, .slice (some ⟨g, 0, none⟩) m m] w (OwnL B w v (l ++ k.flatMap be16)) := by
  go_enter Tryz.func32, Tryz.ntmps32
  go_wp2_with fail
  go_loopw [0, 5] (fun u i wr => ∃ j N : Nat, j ≤ m ∧ i = .int .i64 j ∧ Hid (N = n + 2 * j) ∧ wr.ownsRow B 5 1 u N (bcells (l ++ (k.take j).flatMap be16)) ∧ Below B w wr ∧ (∀ g, g < w.heap.size → some g ≠ v.ownBlock → some g ≠ u.ownBlock ∧ wr.heap[g]? = w.heap[g]?)) (fun _ i _ => m - (intOf i).toNat)
  case atStart => exact ⟨0, n, Nat.zero_le _, rfl, (rfl : _ = _), by simpa using hO, Below.refl _ _, fun _ _ h => ⟨h, rfl⟩⟩
  case round =>
    obtain ⟨j, N, hj, rfl, hN, h1, hb, hk⟩ := hrel
    by_cases hlt : j < m
    · have hjk : j < k.length := by omega
      have c0 := Row.cell (show Row wr g 36 (hcells k) from (hk g hr.lt (own_ne hO hr (by decide))).2.trans hr) j
      have e0 : (hcells k)[j]? = some (.int .u16 (k[j].toNat : Int)) := by simp [hcells, hjk]
      rw [e0] at c0
      have HT : Hid (l ++ (k.take (j + 1)).flatMap be16 = (l ++ (k.take j).flatMap be16) ++ be16 k[j]) := by
        show _ = _
        rw [be16_take k j hjk, List.append_assoc]
      have hw := u16_32 k[j]
      have hj1 : (j : Int) < (m : Int) := Int.ofNat_lt.2 hlt
      have hwj : wrap64 ((j : Int) + 1) = (j : Int) + 1 := by unfold wrap64; omega
      have HA : Hid (N ≤ 100000000 ∧ j + 1 ≤ m ∧ m - ((j : Int) + 1).toNat < m - ((j : Int)).toNat ∧ N + 2 = n + 2 * (j + 1)) := by
        have := hN.out
        refine ⟨?_, ?_, ?_, ?_⟩ <;> omega
      have hP := rput2_any B u0 N (l ++ (k.take j).flatMap be16) k[j] wr h1 (Nat.le_trans hB hb.size) HA.out.1
      generalize k[j] = x at *
      clear hlt hj hN
      go_wp2_with (go_at_call 57; refine hP.mono ?_; rintro e w1 ⟨a1, n1, c1, rfl, hO1, hb1, hB1, hk1⟩)
      have hz1 := hb.size
      have e1 := hO1.1
      have e2 := h1.1
      rw [bcells_length, Nat.mul_one] at e1 e2
      rw [List.length_append, e2, show (be16 x).length = 2 from rfl] at e1
      refine ⟨⟨j + 1, n1, HA.out.2.1, by (try rw [hwj]); simp, ?_, by rw [HT.out]; exact hO1, hb.trans hb1, fun g g1 g2 => ⟨(hk1 g (Nat.lt_of_lt_of_le g1 hz1) (hk g g1 g2).1).1, (hk1 g (Nat.lt_of_lt_of_le g1 hz1) (hk g g1 g2).1).2.trans (hk g g1 g2).2⟩⟩, ?_⟩
      · show n1 = _
        rw [← e1]
        exact HA.out.2.2.2
      · simp only [intOf]
        exact HA.out.2.2.1
    · have hjm : j = m := by omega
      subst hjm
      have hj0 : ¬ (j : Int) < (j : Int) := by omega
      rw [List.take_of_length_le (by omega)] at h1
      go_wp2_with fail
      go_ret
      obtain ⟨a', c', rfl⟩ := own_shape h1
      exact ⟨a', _, c', rfl, h1, hb, Nat.le_trans hB hb.size, hk⟩
end Go.Proofs.YtdibjgcokebfbaaGreat

namespace Go.Proofs.YtdibjgcokebfbaaGreat
open Go.RowKit
set_option linter.unusedSimpArgs false
set_option maxRecDepth 20000
set_option maxHeartbeats 4000000 in
theorem rstamps7_any (a : Option Addr) (n c : Nat) (st : List UInt32) (w : World) (hs : Src w a n c (wcells st)) (hn : n ≤ 2) : Calls Tryz.prog 33 #[.slice a n c] w (LaidN w (timL st)) := by
  have hlen := hs.wlen
  by_cases h0 : n = 0
  · subst h0
    have e : timL st = [] := by unfold timL; rw [if_pos (List.eq_nil_of_length_eq_zero hlen.symm)]
    rw [e]
    go_enter Tryz.func33, Tryz.ntmps33
    go_wp2
    go_ret
    exact ⟨none, 0, 0, rfl, World.ownsRow_nil _ _ _ _, Below.refl _ _⟩
  · have e : timL st = inL 3 (st.flatMap be32) := by
      unfold timL
      rw [if_neg (fun h => h0 (by rw [hlen, h]; rfl))]
    rw [e]
    obtain ⟨ad, rfl⟩ : ∃ ad, a = some ad := by
      cases a with
      | none => exact absurd (hs.bare rfl).1 h0
      | some ad => exact ⟨ad, rfl⟩
    have hnb : ((n : Int) == 0) = false := by simp; omega
    have HL : Hid (st.length = n ∧ n ≤ 2) := ⟨hlen.symm, hn⟩
    clear e h0 hlen hn
    go_enter Tryz.func33, Tryz.ntmps33
    go_wp2_with fail
    go_loopw [3, 4] (fun u i wr => ∃ j N : Nat, j ≤ n ∧ i = .int .i64 j ∧ Hid (N = 4 * j) ∧ wr.ownsRow w.heap.size 5 1 u N (bcells ([] ++ (st.take j).flatMap be32)) ∧ Below w.heap.size w wr) (fun _ i _ => n - (intOf i).toNat)
    case atStart => exact ⟨0, 0, Nat.zero_le _, rfl, (rfl : _ = _), World.ownsRow_nil _ _ _ _, Below.refl _ _⟩
    case round =>
      obtain ⟨j, N, hj, rfl, hN, h1, hb⟩ := hrel
      by_cases hlt : j < n
      · have hjk : j < st.length := by have := HL.out; omega
        have c0 := (hs.below hb hs.lt).wordAt j hjk
        have HT : Hid ([] ++ (st.take (j + 1)).flatMap be32 = ([] ++ (st.take j).flatMap be32) ++ be32 st[j]) := by
          show _ = _
          rw [be32_take st j hjk, List.append_assoc]
        have hj1 : (j : Int) < (n : Int) := Int.ofNat_lt.2 hlt
        have hwj : wrap64 ((j : Int) + 1) = (j : Int) + 1 := by have := HL.out; unfold wrap64; omega
        have HA : Hid (N ≤ 100000000 ∧ j + 1 ≤ n ∧ n - ((j : Int) + 1).toNat < n - ((j : Int)).toNat ∧ N + 4 = 4 * (j + 1)) := by
          have := hN.out
          have := HL.out
          refine ⟨?_, ?_, ?_, ?_⟩ <;> omega
        have hP := rput4_any w.heap.size u3 N ([] ++ (st.take j).flatMap be32) st[j] wr h1 hb.size HA.out.1
        generalize st[j] = x at *
        clear hlt hj hN
        go_wp2_with (go_at_call 57; refine hP.mono ?_; rintro e w1 ⟨a1, n1, c1, rfl, hO1, hb1, hB1, hk1⟩)
        have e1 := hO1.1
        have e2 := h1.1
        rw [bcells_length, Nat.mul_one] at e1 e2
        rw [List.length_append, e2, show (be32 x).length = 4 from rfl] at e1
        refine ⟨⟨j + 1, n1, HA.out.2.1, by (try rw [hwj]); simp, ?_, by rw [HT.out]; exact hO1, hb.trans hb1⟩, ?_⟩
        · show n1 = _
          rw [← e1]
          exact HA.out.2.2.2
        · (try rw [hwj])
          simp only [intOf]
          exact HA.out.2.2.1
      · have hjm : j = n := by omega
        subst hjm
        have hj0 : ¬ (j : Int) < (j : Int) := by omega
        rw [List.take_of_length_le (by have := HL.out; omega), List.nil_append] at h1
        obtain ⟨a4, c4, rfl⟩ := own_shape h1
        obtain ⟨_, _, e4, s4, _⟩ := Src.ofOwn h1
        cases e4
        have hN8 : N ≤ 255 := by have := hN.out; have := HL.out; omega
        clear hlt hN
        go_wp2_with (go_at_call 36; refine (rjoin7_any 3 (by decide) a4 _ c4 _ _ s4 hN8).mono ?_; rintro e w5 ⟨a5, n5, c5, rfl, o5, b5⟩)
        go_ret
        exact ⟨a5, n5, c5, rfl, own_le o5 hb.size, bt hb b5⟩
end Go.Proofs.YtdibjgcokebfbaaGreat

namespace Go.Proofs.YtdibjgcokebfbaaGreat
open Go.RowKit
set_option linter.unusedSimpArgs false
set_option maxRecDepth 20000
/-- A bit of an address. -/
def bitA (a : Ad) (i : Nat) : Nat := (a.l.getD (i / 8) 0).toNat / 2 ^ (7 - i % 8) % 2
theorem and1 (z : Nat) (hz : z < 256) : bits BinOp.and IntKind.i64 (z : Int) 1 = ((z % 2 : Nat) : Int) := by
  have h : ((List.range 256).all fun z => bits BinOp.and IntKind.i64 (z : Int) 1 == ((z % 2 : Nat) : Int)) = true := by kernel_rfl
  exact eq_of_beq (List.all_eq_true.1 h z (List.mem_range.2 hz))
theorem byte_bits (b k : Nat) (hb : b < 256) (hk : k ≤ 8) : b % 2 ^ (8 - k) = 0 ↔ ∀ r, k ≤ r → r < 8 → b / 2 ^ (7 - r) % 2 = 0 := by
  have h : ((List.range 9).all fun k => (List.range 256).all fun b => (b % 2 ^ (8 - k) == 0) == (List.range 8).all fun r => decide (r < k) || (b / 2 ^ (7 - r) % 2 == 0)) = true := by kernel_rfl
  have h1 := eq_of_beq (List.all_eq_true.1 (List.all_eq_true.1 h k (List.mem_range.2 (by omega))) b (List.mem_range.2 hb))
  rw [← beq_iff_eq, h1, List.all_eq_true]
  constructor
  · intro h r h1 h2
    have := h r (List.mem_range.2 h2)
    rw [decide_eq_false (by omega)] at this
    simpa using this
  · intro h r hr
    by_cases hrk : r < k
    · rw [decide_eq_true hrk]; rfl
    · rw [h r (by omega) (List.mem_range.1 hr)]; simp
theorem keep_same (b : UInt8) (k : Nat) : keepB k b = b ↔ b.toNat % 2 ^ (8 - k) = 0 := by
  have hb := b.toNat_lt
  have hle : b.toNat % 2 ^ (8 - k) ≤ b.toNat := Nat.mod_le _ _
  constructor
  · intro h
    have := congrArg UInt8.toNat h
    unfold keepB at this
    simp at this
    omega
  · intro h
    apply UInt8.toNat.inj
    unfold keepB
    rw [h]
    simp
theorem cut_same (a : Ad) (n : Nat) : (cutA a n).l = a.l ↔ ∀ i, n ≤ i → i < 128 → bitA a i = 0 := by
  have key : (cutA a n).l = a.l ↔ ∀ j (hj : j < 16), (a.l[j]'(by rw [a.len]; exact hj)).toNat % 2 ^ (8 - (n - 8 * j)) = 0 := by
    constructor
    · intro h j hj
      have e := congrArg (fun l => l[j]?) h
      simp only [cutA, List.getElem?_mapIdx] at e
      rw [List.getElem?_eq_getElem (by rw [a.len]; exact hj)] at e
      simp only [Option.map_some, Option.some.injEq] at e
      exact (keep_same _ _).1 e
    · intro h
      apply List.ext_getElem?
      intro j
      simp only [cutA, List.getElem?_mapIdx]
      by_cases hj : j < 16
      · rw [List.getElem?_eq_getElem (by rw [a.len]; exact hj), Option.map_some, (keep_same _ _).2 (h j hj)]
      · rw [List.getElem?_eq_none (by rw [a.len]; omega)]; rfl
  rw [key]
  have hget : ∀ i (hi : i < 128), a.l.getD (i / 8) 0 = a.l[i / 8]'(by rw [a.len]; omega) := fun i hi => by
    rw [List.getD_eq_getElem?_getD, List.getElem?_eq_getElem (by rw [a.len]; omega)]; rfl
  constructor
  · intro h i h1 h2
    unfold bitA
    rw [hget i h2]
    have hj := h (i / 8) (by omega)
    by_cases h8 : n - 8 * (i / 8) ≤ 8
    · exact (byte_bits _ (n - 8 * (i / 8)) (UInt8.toNat_lt _) h8).1 hj (i % 8) (by omega) (by omega)
    · omega
  · intro h j hj
    by_cases h8 : n - 8 * j ≤ 8
    · refine (byte_bits _ (n - 8 * j) (UInt8.toNat_lt _) h8).2 (fun r h1 h2 => ?_)
      by_cases hnj : n ≤ 8 * j + r
      · have := h (8 * j + r) hnj (by omega)
        unfold bitA at this
        rw [hget _ (by omega)] at this
        have e1 : (8 * j + r) / 8 = j := by omega
        have e2 : (8 * j + r) % 8 = r := by omega
        simp only [e1, e2] at this
        exact this
      · omega
    · have : 8 - (n - 8 * j) = 0 := by omega
      rw [this]
      simp [Nat.mod_one]
theorem rbit_any (a : Ad) (i : Nat) (hi : i < 128) (w : World) : Calls Tryz.prog 93 #[(Value.agg (acells a).toArray), .int .i64 (i : Int)] w (Gives w (.int .i64 ((bitA a i : Nat) : Int))) := by
  obtain ⟨k, hk⟩ : ∃ k : Nat, k = i / 8 := ⟨_, rfl⟩
  obtain ⟨r, hr⟩ : ∃ r : Nat, r = i % 8 := ⟨_, rfl⟩
  have h1 : Int.tdiv (i : Int) 8 = (k : Int) := by rw [Int.tdiv_eq_ediv_of_nonneg (by omega)]; omega
  have h2 : Int.tmod (i : Int) 8 = (r : Int) := by rw [Int.tmod_eq_emod_of_nonneg (by omega)]; omega
  have hk16 : (k : Int) < 16 := by omega
  obtain ⟨b, hb⟩ : ∃ b, a.l[k]? = some b := ⟨_, List.getElem?_eq_getElem (by rw [a.len]; omega)⟩
  have hA := LA.new w a 23
  have hc : (w.alloc (.cells (acells a).toArray 23)).cell? ⟨w.heap.size, k, none⟩ = some (.int .u8 b.toNat) := by simpa using hA k _ (bcells_get hb)
  have HV : Hid (bitA a i = b.toNat / 2 ^ (7 - r) % 2) := by
    show _ = _
    unfold bitA
    rw [← hk, ← hr, List.getD_eq_getElem?_getD, hb]; rfl
  have hz := b.toNat_lt
  have hr8 : r < 8 := by omega
  generalize bitA a i = f at *
  generalize b.toNat = B at *
  clear hk hr hi hb hA
  have HB : Hid (∀ m : Nat, bits BinOp.and IntKind.i64 ((B : Int) / (m : Int)) 1 = ((B / m % 2 : Nat) : Int)) := fun m => by rw [← Int.natCast_ediv]; exact and1 _ (by have := Nat.div_le_self B m; omega)
  rcases (show r = 0 ∨ r = 1 ∨ r = 2 ∨ r = 3 ∨ r = 4 ∨ r = 5 ∨ r = 6 ∨ r = 7 by omega) with rfl | rfl | rfl | rfl | rfl | rfl | rfl | rfl
  · go_enter Tryz.func93, Tryz.ntmps93
    go_wp2
    go_ret
    have e : bits BinOp.and IntKind.i64 ((B : Int) / 128) 1 = ((f : Nat) : Int) := by rw [HV.out]; exact HB.out 128
    exact ⟨by rw [← e]; rfl, ba _ _⟩
  · go_enter Tryz.func93, Tryz.ntmps93
    go_wp2
    go_ret
    have e : bits BinOp.and IntKind.i64 ((B : Int) / 64) 1 = ((f : Nat) : Int) := by rw [HV.out]; exact HB.out 64
    exact ⟨by rw [← e]; rfl, ba _ _⟩
  · go_enter Tryz.func93, Tryz.ntmps93
    go_wp2
    go_ret
    have e : bits BinOp.and IntKind.i64 ((B : Int) / 32) 1 = ((f : Nat) : Int) := by rw [HV.out]; exact HB.out 32
    exact ⟨by rw [← e]; rfl, ba _ _⟩
  · go_enter Tryz.func93, Tryz.ntmps93
    go_wp2
    go_ret
    have e : bits BinOp.and IntKind.i64 ((B : Int) / 16) 1 = ((f : Nat) : Int) := by rw [HV.out]; exact HB.out 16
    exact ⟨by rw [← e]; rfl, ba _ _⟩
  · go_enter Tryz.func93, Tryz.ntmps93
    go_wp2
    go_ret
    have e : bits BinOp.and IntKind.i64 ((B : Int) / 8) 1 = ((f : Nat) : Int) := by rw [HV.out]; exact HB.out 8
    exact ⟨by rw [← e]; rfl, ba _ _⟩
  · go_enter Tryz.func93, Tryz.ntmps93
    go_wp2
    go_ret
    have e : bits BinOp.and IntKind.i64 ((B : Int) / 4) 1 = ((f : Nat) : Int) := by rw [HV.out]; exact HB.out 4
    exact ⟨by rw [← e]; rfl, ba _ _⟩
  · go_enter Tryz.func93, Tryz.ntmps93
    go_wp2
    go_ret
    have e : bits BinOp.and IntKind.i64 ((B : Int) / 2) 1 = ((f : Nat) : Int) := by rw [HV.out]; exact HB.out 2
    exact ⟨by rw [← e]; rfl, ba _ _⟩
  · go_enter Tryz.func93, Tryz.ntmps93
    go_wp2
    go_ret
    have e : bits BinOp.and IntKind.i64 (B : Int) 1 = ((f : Nat) : Int) := by rw [HV.out]; have := HB.out 1; simpa using this
    exact ⟨by rw [← e]; rfl, ba _ _⟩
/-- The document's Check. -/
theorem rcheck_any (p : Pf) (w : World) : Calls Tryz.prog 56 #[(Value.agg (pcells p).toArray)] w (Gives w (.int .i64 (chk p))) := by
  obtain ⟨n, hn⟩ : ∃ n, p.n = n := ⟨_, rfl⟩
  have hP := LP.new w p 40
  have c0 := hP.n
  rw [hn] at c0
  simp only [Nat.zero_add] at c0
  by_cases c1 : n < 0
  · have e : chk p = 21 := by unfold chk; rw [if_neg (by rw [hn]; omega)]
    rw [e]
    clear e hP
    go_enter Tryz.func56, Tryz.ntmps56
    go_wp2
    go_ret
    exact ⟨rfl, ba _ _⟩
  by_cases c2 : 128 < n
  · have e : chk p = 21 := by unfold chk; rw [if_neg (by rw [hn]; omega)]
    rw [e]
    clear e hP
    go_enter Tryz.func56, Tryz.ntmps56
    go_wp2
    go_ret
    exact ⟨rfl, ba _ _⟩
  obtain ⟨k, rfl⟩ : ∃ k : Nat, n = k := ⟨n.toNat, by omega⟩
  have hk : k ≤ 128 := by omega
  have HY : Hid ((∀ i, k ≤ i → i < 128 → bitA p.a i = 0) → chk p = 0) := fun h => by
    unfold chk; rw [hn, if_pos ⟨by omega, by omega, (cut_same p.a _).2 (by simpa using h)⟩]
  have HN : Hid (∀ i, k ≤ i → i < 128 → bitA p.a i = 1 → chk p = 21) := fun i h1 h2 h3 => by
    unfold chk; rw [hn, if_neg]
    intro h
    have := (cut_same p.a _).1 h.2.2 i (by simpa using h1) h2
    omega
  have HB : Hid (∀ i, i < 128 → bitA p.a i = 0 ∨ bitA p.a i = 1) := fun i _ => by unfold bitA; omega
  generalize chk p = f at *
  clear hn c1 c2
  go_enter Tryz.func56, Tryz.ntmps56
  go_wp2
  refine name_world (R := fun W => Code.wp _ _ _ _ W) (P := fun W => Below w.heap.size w W ∧ LP W w.heap.size 0 p ∧ w.heap.size < W.heap.size) _ ⟨ba _ _, hP, by simp⟩ ?_
  clear hP c0
  rintro X ⟨hb, hP, hs⟩
  go_loopw [3] (fun i wr => ∃ j : Nat, k ≤ j ∧ j ≤ 128 ∧ i = .int .i64 j ∧ (∀ i, k ≤ i → i < j → bitA p.a i = 0) ∧ Below X.heap.size X wr) (fun i _ => 128 - (intOf i).toNat)
  case atStart => exact ⟨k, Nat.le_refl _, hk, rfl, (fun i h1 h2 => by omega), Below.refl _ _⟩
  case round =>
    obtain ⟨j, hkj, hj, rfl, hok, hw⟩ := hrel
    have hA := (hP.below hw hs).a
    by_cases hlt : j < 128
    · have hbit := rbit_any p.a j hlt
      rcases HB.out j hlt with h0 | h1
      · rw [h0] at hbit
        have HO : Hid (∀ i, k ≤ i → i < j + 1 → bitA p.a i = 0) := fun i h1 h2 => by
          by_cases hij : i < j
          · exact hok i h1 hij
          · obtain rfl : i = j := by omega
            exact h0
        clear hok h0 HY HN HB
        go_wp2_with (first
          | (refine ldA (.tmp 18) (by rfl) rfl _ _ p.a rfl hA ?_)
          | (go_at_call 93; refine (hbit _).mono ?_; rintro e w2 ⟨rfl, hB2⟩))
        go_roundw
        case rel => exact ⟨j + 1, by omega, by omega, by go_num, HO.out, hw.trans (hB2.mono hw.size)⟩
        case measure => simp [intOf]; omega
      · rw [h1] at hbit
        have e := HN.out j hkj hlt h1
        subst e
        clear hok h1 HY HN HB
        go_wp2_with (first
          | (refine ldA (.tmp 18) (by rfl) rfl _ _ p.a rfl hA ?_)
          | (go_at_call 93; refine (hbit _).mono ?_; rintro e w2 ⟨rfl, hB2⟩))
        go_ret
        exact ⟨rfl, hb.trans ((hw.trans (hB2.mono hw.size)).mono hb.size)⟩
    · obtain rfl : j = 128 := by omega
      have e := HY.out hok
      subst e
      clear hok HY HN HB
      go_wp2
      go_ret
      exact ⟨rfl, hb.trans (hw.mono hb.size)⟩
end Go.Proofs.YtdibjgcokebfbaaGreat
