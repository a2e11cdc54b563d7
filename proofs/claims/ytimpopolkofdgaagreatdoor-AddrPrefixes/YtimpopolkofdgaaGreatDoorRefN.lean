/-
  The document's sixes, for every address.
-/
import Derived.Test.YtimpopolkofdgaaGreatDoorRefM
namespace Go.Proofs.YtimpopolkofdgaaGreatDoor
open Go.RowKit
set_option linter.unusedSimpArgs false
set_option maxRecDepth 20000
theorem or_i64 (V z : Nat) (hv : V < 256) (hz : z < 256) : bits BinOp.or IntKind.i64 ((V : Int) * 256) (z : Int) = ((V * 256 + z : Nat) : Int) := by
  have h := Nat.two_pow_add_eq_or_of_lt (i := 8) (b := z) (by omega) V
  have h1 : (BitVec.ofInt 64 ((V : Int) * 256)).toNat = V * 256 := by
    rw [show (V : Int) * 256 = ((V * 256 : Nat) : Int) by omega, BitVec.ofInt_natCast, BitVec.toNat_ofNat]; exact Nat.mod_eq_of_lt (by omega)
  have h2 : (BitVec.ofInt 64 (z : Int)).toNat = z := by
    rw [BitVec.ofInt_natCast, BitVec.toNat_ofNat]; exact Nat.mod_eq_of_lt (by omega)
  show IntKind.i64.wrap ((BitVec.ofInt 64 ((V : Int) * 256) ||| BitVec.ofInt 64 (z : Int)).toNat : Int) = _
  rw [BitVec.toNat_or, h1, h2, show V * 256 = 2 ^ 8 * V by omega, ← h]
  simp [IntKind.wrap, IntKind.signed, IntKind.bits]
  omega
theorem shl_i64 (x : UInt8) : IntKind.i64.wrap ((x.toNat : Int) * 256) = (x.toNat : Int) * 256 := by
  have := x.toNat_lt
  simp [IntKind.wrap, IntKind.signed, IntKind.bits]
  omega
/-- What is laid behind the first i groups: the groups from the s-th on, behind what stands before them. -/
structure OutZ (l : List UInt8) (zb zg : Int) (i : Nat) (o : List UInt8) (s k : Nat) (pre : List UInt8) : Prop where
  at' : s + k = i
  is : o = pre ++ joinG ((l.drop (2 * s)).take (2 * k))
  pre' : pre = [] ∨ ∃ q, pre = q ++ [58]
  len : pre.length ≤ 42
  plan : (zb = -1 ∧ s = 0 ∧ pre = []) ∨ ∃ B G : Nat, zb = B ∧ zg = G ∧ 2 ≤ G ∧ B + G ≤ 8 ∧ (s = 0 ∧ pre = [] ∧ i ≤ B ∨ s = B + G ∧ pre = joinG (l.take (2 * B)) ++ [58, 58] ∧ B + G ≤ i)
theorem OutZ.start {l : List UInt8} {zb zg : Int} (h : StZ l 8 zb zg) : OutZ l zb zg 0 [] 0 0 [] := by
  refine ⟨rfl, by simp [joinG, grps, Lib.join, List.intercalate], .inl rfl, by simp, ?_⟩
  rcases h with ⟨h, _, _⟩ | ⟨B, G, h1, h2, h3, h4, _⟩
  · exact .inl ⟨h, rfl, rfl⟩
  · exact .inr ⟨B, G, h1, h2, h3, h4, .inl ⟨rfl, rfl, by omega⟩⟩
theorem OutZ.bound {l : List UInt8} {zb zg : Int} {i s k : Nat} {o pre : List UInt8} (h : OutZ l zb zg i o s k pre) (hl : l.length = 16) : o.length ≤ 82 := by
  rw [h.is, List.length_append]
  have := joinG_len ((l.drop (2 * s)).take (2 * k)) (by rw [List.length_take, List.length_drop]; omega)
  have := h.len
  omega
theorem OutZ.skip {l : List UInt8} {zb zg : Int} {i s k : Nat} {o pre : List UInt8} (h : OutZ l zb zg i o s k pre) (hl : l.length = 16) (hi : (i : Int) = zb) : ∃ G : Nat, zg = G ∧ 2 ≤ G ∧ i + G ≤ 8 ∧ OutZ l zb zg (i + G) (o ++ [58, 58]) (i + G) 0 (o ++ [58, 58]) := by
  rcases h.plan with ⟨h1, _⟩ | ⟨B, G, h1, h2, h3, h4, ⟨h5, h6, h7⟩ | ⟨h5, _, h7⟩⟩
  · omega
  · have hB : i = B := by omega
    have hk := h.at'
    have ho : o = joinG (l.take (2 * B)) := by
      rw [h.is, h6, h5]
      have : k = B := by omega
      rw [this]; simp
    refine ⟨G, h2, h3, by omega, rfl, by simp [joinG, grps, Lib.join, List.intercalate], .inr ⟨o ++ [58], by simp⟩, ?_, ?_⟩
    · have := joinG_len (l.take (2 * B)) (by rw [List.length_take]; omega)
      rw [← ho] at this
      simp
      omega
    · exact .inr ⟨B, G, h1, h2, h3, h4, .inr ⟨by omega, by rw [ho], by omega⟩⟩
  · omega
theorem OutZ.next {l : List UInt8} {zb zg : Int} {i s k : Nat} {o pre : List UInt8} (h : OutZ l zb zg i o s k pre) (hi : (i : Int) ≠ zb) (x y : UInt8) (hx : l[2 * i]? = some x) (hy : l[2 * i + 1]? = some y) : (k = 0 ∧ (o = [] ∨ ∃ q, o = q ++ [58]) ∧ OutZ l zb zg (i + 1) (o ++ hexs (x.toNat * 256 + y.toNat)) s 1 pre) ∨ (EndsOk o ∧ OutZ l zb zg (i + 1) (o ++ [58] ++ hexs (x.toNat * 256 + y.toNat)) s (k + 1) pre) := by
  have hs := h.at'
  have gx : (l.drop (2 * s))[2 * k]? = some x := by rw [List.getElem?_drop, show 2 * s + 2 * k = 2 * i by omega]; exact hx
  have gy : (l.drop (2 * s))[2 * k + 1]? = some y := by rw [List.getElem?_drop, show 2 * s + (2 * k + 1) = 2 * i + 1 by omega]; exact hy
  have hj := joinG_step (l.drop (2 * s)) k x y gx gy
  have hplan : (zb = -1 ∧ s = 0 ∧ pre = []) ∨ ∃ B G : Nat, zb = B ∧ zg = G ∧ 2 ≤ G ∧ B + G ≤ 8 ∧ (s = 0 ∧ pre = [] ∧ i + 1 ≤ B ∨ s = B + G ∧ pre = joinG (l.take (2 * B)) ++ [58, 58] ∧ B + G ≤ i + 1) := by
    rcases h.plan with h1 | ⟨B, G, h1, h2, h3, h4, ⟨h5, h6, h7⟩ | ⟨h5, h6, h7⟩⟩
    · exact .inl h1
    · exact .inr ⟨B, G, h1, h2, h3, h4, .inl ⟨h5, h6, by omega⟩⟩
    · exact .inr ⟨B, G, h1, h2, h3, h4, .inr ⟨h5, h6, by omega⟩⟩
  by_cases hk : k = 0
  · subst hk
    left
    have ho : o = pre := by rw [h.is]; simp [joinG, grps, Lib.join, List.intercalate]
    rw [if_pos rfl] at hj
    exact ⟨rfl, ho ▸ h.pre', by omega, by rw [ho, hj], h.pre', h.len, hplan⟩
  · right
    rw [if_neg hk] at hj
    refine ⟨?_, by omega, by rw [h.is, hj]; simp, h.pre', h.len, hplan⟩
    obtain ⟨k', rfl⟩ : ∃ k', k = k' + 1 := ⟨k - 1, by omega⟩
    have hlen : 2 * k' + 1 < (l.drop (2 * s)).length := by
      have := (List.getElem?_eq_some_iff.1 gy).1
      omega
    have hj' := joinG_step (l.drop (2 * s)) k' _ _ (List.getElem?_eq_getElem (by omega)) (List.getElem?_eq_getElem hlen)
    rw [h.is, hj']
    split
    · exact ends_hexs _ _
    · rw [← List.append_assoc]; exact ends_hexs _ _
theorem OutZ.fin {a : Ad} {zb zg : Int} {s k : Nat} {o pre : List UInt8} (h : OutZ a.l zb zg 8 o s k pre) (hz : StZ a.l 8 zb zg) : o = pgS a := by
  unfold pgS
  have hs := h.at'
  rcases hz with ⟨z1, z2, z3⟩ | ⟨B, G, z1, z2, z3, z4, z5⟩
  · rw [z3, if_pos rfl]
    rcases h.plan with ⟨_, h2, h3⟩ | ⟨B, G, h1, _⟩
    · rw [h.is, h3, h2, show k = 8 by omega]
      simp [List.take_of_length_le, a.len]
    · omega
  · rw [z5, if_neg (by simp; omega)]
    rcases h.plan with ⟨h1, _⟩ | ⟨B', G', h1, h2, h3, h4, ⟨h5, h6, h7⟩ | ⟨h5, h6, h7⟩⟩
    · omega
    · omega
    · obtain rfl : B = B' := by omega
      obtain rfl : G = G' := by omega
      rw [h.is, h6, h5]
      dsimp only
      rw [List.take_of_length_le (l := a.l.drop (2 * (B + G))) (by rw [List.length_drop, a.len]; omega), show 2 * (B + G) = 2 * B + 2 * G by omega]
theorem rsixes_any (a : Ad) (w : World) : Calls Tryz.prog 57 #[(Value.agg (acells a).toArray)] w (Gives w (.string (str (pgS a)))) := by
  have hb := ba w (.cells (acells a).toArray 23)
  have hA := LA.new w a 23
  have HI : Hid (∀ j, j < 16 → ∃ b, a.l[j]? = some b) := fun j h => ⟨_, List.getElem?_eq_getElem (by rw [a.len]; exact h)⟩
  go_enter Tryz.func57, Tryz.ntmps57
  go_wp2
  refine name_world (R := fun W => Code.wp _ _ _ _ W) (P := fun W => Below w.heap.size w W ∧ LA W w.heap.size 0 a) _ ⟨hb, hA⟩ ?_
  clear hb hA
  rintro X ⟨hb, hA⟩
  have HC : Hid (∀ j b, a.l[j]? = some b → X.cell? ⟨w.heap.size, j, none⟩ = some (.int .u8 b.toNat)) := fun j b h => by simpa using hA j _ (bcells_get h)
  go_loopw [3, 4, 5] (fun b g i wr => ∃ (k : Nat) (zb zg : Int), k ≤ 8 ∧ i = .int .i64 k ∧ b = .int .i64 zb ∧ g = .int .i64 zg ∧ StZ a.l k zb zg ∧ X = wr) (fun _ _ i _ => 8 - (intOf i).toNat)
  case atStart => exact ⟨0, -1, 1, by omega, rfl, rfl, rfl, StZ.zero _, rfl⟩
  case round =>
    obtain ⟨k, zb, zg, hk, rfl, rfl, rfl, hst, rfl⟩ := hrel
    by_cases hlt : k < 8
    · have hlt' : (k : Int) < 8 := by omega
      go_wp2
      go_loopw [6] (fun n wr => ∃ m : Nat, k + m ≤ 8 ∧ n = .int .i64 m ∧ zrl (a.l.drop (2 * k)) = 2 * m + zrl (a.l.drop (2 * (k + m))) ∧ X = wr) (fun n _ => 8 - (intOf n).toNat)
      case atStart => exact ⟨0, by omega, rfl, by simp, rfl⟩
      case round =>
        obtain ⟨m, hm, rfl, hz, rfl⟩ := hrel
        by_cases h8 : k + m < 8
        · obtain ⟨x, hx⟩ := HI.out (2 * (k + m)) (by omega)
          obtain ⟨y, hy⟩ := HI.out (2 * (k + m) + 1) (by omega)
          have cx := HC.out _ _ hx
          have cy := HC.out _ _ hy
          have hz2 := zrl_two a.l (2 * (k + m)) x y hx hy
          have h8' : (k : Int) + (m : Int) < 8 := by omega
          by_cases x0 : x = 0
          · have e1 : ((x.toNat : Int) == 0) = true := by rw [x0]; rfl
            by_cases y0 : y = 0
            · have e2 : ((y.toNat : Int) == 0) = true := by rw [y0]; rfl
              rw [if_pos ⟨x0, y0⟩] at hz2
              have HZ : Hid (zrl (a.l.drop (2 * k)) = 2 * (m + 1) + zrl (a.l.drop (2 * (k + (m + 1))))) := by
                show _ = _
                rw [hz, hz2, show 2 * (k + m) + 2 = 2 * (k + (m + 1)) by omega]; omega
              clear hz hz2 hx hy
              go_wp2
              go_roundw
              case rel => exact ⟨m + 1, by omega, by go_num, HZ.out, trivial⟩
              case measure => simp [intOf]; omega
            · have e2 : ((y.toNat : Int) == 0) = false := by
                rw [beq_eq_false_iff_ne]
                intro e
                exact y0 (UInt8.toNat.inj (by simp; omega))
              rw [if_neg (fun q => y0 q.2)] at hz2
              have hzz : zrl (a.l.drop (2 * k)) = 2 * m := by rw [hz, hz2]; rfl
              clear hz hz2 hx hy
              by_cases hg : zg < (m : Int)
              · have HM := hst.more hzz (by omega) hg
                clear hst hzz
                go_wp2
                go_roundw
                case rel => exact ⟨k + 1, k, m, by omega, by go_num, rfl, rfl, HM, trivial⟩
                case measure => simp [intOf]; omega
              · have HM := hst.stay hzz hg
                clear hst hzz
                go_wp2
                go_roundw
                case rel => exact ⟨k + 1, zb, zg, by omega, by go_num, rfl, rfl, HM, trivial⟩
                case measure => simp [intOf]; omega
          · have e1 : ((x.toNat : Int) == 0) = false := by
              rw [beq_eq_false_iff_ne]
              intro e
              exact x0 (UInt8.toNat.inj (by simp; omega))
            rw [if_neg (fun q => x0 q.1)] at hz2
            have hzz : zrl (a.l.drop (2 * k)) = 2 * m := by rw [hz, hz2]; rfl
            clear hz hz2 hx hy
            by_cases hg : zg < (m : Int)
            · have HM := hst.more hzz (by omega) hg
              clear hst hzz
              go_wp2
              go_roundw
              case rel => exact ⟨k + 1, k, m, by omega, by go_num, rfl, rfl, HM, trivial⟩
              case measure => simp [intOf]; omega
            · have HM := hst.stay hzz hg
              clear hst hzz
              go_wp2
              go_roundw
              case rel => exact ⟨k + 1, zb, zg, by omega, by go_num, rfl, rfl, HM, trivial⟩
              case measure => simp [intOf]; omega
        · have h8' : ¬ (k : Int) + (m : Int) < 8 := by omega
          have hzz : zrl (a.l.drop (2 * k)) = 2 * m := by rw [hz, zrl_end (by rw [a.len]; omega)]; rfl
          clear hz
          by_cases hg : zg < (m : Int)
          · have HM := hst.more hzz (by omega) hg
            clear hst hzz
            go_wp2
            go_roundw
            case rel => exact ⟨k + 1, k, m, by omega, by go_num, rfl, rfl, HM, trivial⟩
            case measure => simp [intOf]; omega
          · have HM := hst.stay hzz hg
            clear hst hzz
            go_wp2
            go_roundw
            case rel => exact ⟨k + 1, zb, zg, by omega, by go_num, rfl, rfl, HM, trivial⟩
            case measure => simp [intOf]; omega
    · obtain rfl : k = 8 := by omega
      clear hlt HI
      go_wp2
      have HST : Hid (StZ a.l 8 zb zg) := hst
      have h00 := OutZ.start hst
      clear hst
      go_loopw [7, 8] (fun v i wr => ∃ (j s k : Nat) (o pre : List UInt8), j ≤ 8 ∧ i = .int .i64 j ∧ v = .string (str o) ∧ OutZ a.l zb zg j o s k pre ∧ Below X.heap.size X wr) (fun _ i _ => 8 - (intOf i).toNat)
      case atStart => exact ⟨0, 0, 0, [], [], by omega, rfl, rfl, h00, Below.refl _ _⟩
      case round =>
        clear h00
        rename_i wr
        obtain ⟨j, s, k, o, pre, hj, rfl, rfl, hz, hbw⟩ := hrel
        have hol := hz.bound a.len
        by_cases hlt : j < 8
        · have hlt' : (j : Int) < 8 := by omega
          by_cases hjb : (j : Int) = zb
          · have e1 : ((j : Int) == zb) = true := by simpa using hjb
            obtain ⟨G, hG, hG2, hG8, hz'⟩ := hz.skip a.len hjb
            subst hG
            have n1 : ¬ 9223372036854775807 < o.length + 2 := by omega
            clear hz hjb
            go_wp2
            go_roundw
            case rel => exact ⟨j + G, _, _, _, _, hG8, by go_num, by rw [← str_append], hz', hbw⟩
            case measure => simp [intOf]; omega
          · have e1 : ((j : Int) == zb) = false := by simpa using hjb
            obtain ⟨x, hx⟩ : ∃ b, a.l[2 * j]? = some b := ⟨_, List.getElem?_eq_getElem (by rw [a.len]; omega)⟩
            obtain ⟨y, hy⟩ : ∃ b, a.l[2 * j + 1]? = some b := ⟨_, List.getElem?_eq_getElem (by rw [a.len]; omega)⟩
            have cx := HC.out _ _ hx
            have cy := HC.out _ _ hy
            have hAlt : w.heap.size < X.heap.size := by
              obtain ⟨b, hb0⟩ : ∃ b, a.l[0]? = some b := ⟨_, List.getElem?_eq_getElem (by rw [a.len]; omega)⟩
              exact block_lt_of_cell (HC.out 0 b hb0)
            have hnx := hz.next hjb x y hx hy
            obtain ⟨p2, hp2⟩ : ∃ p, p = 2 * j := ⟨_, rfl⟩
            obtain ⟨q2, hq2⟩ : ∃ p, p = 2 * j + 1 := ⟨_, rfl⟩
            rw [← hp2] at cx
            rw [← hq2] at cy
            clear hz
            have hv : x.toNat * 256 + y.toNat < 65536 := by have := x.toNat_lt; have := y.toNat_lt; omega
            have hH := rhexes (x.toNat * 256 + y.toNat) hv
            rw [show ((x.toNat * 256 + y.toNat : Nat) : Int) = (x.toNat : Int) * 256 + (y.toNat : Int) by omega] at hH
            have hxl := hexs_le (x.toNat * 256 + y.toNat) hv
            have HW : Hid (∀ W, Below X.heap.size X W → Below X.heap.size X W ∧ W.cell? ⟨w.heap.size, p2, none⟩ = some (.int .u8 x.toNat) ∧ W.cell? ⟨w.heap.size, q2, none⟩ = some (.int .u8 y.toNat)) := fun W h => ⟨h, (h.cell (p := ⟨w.heap.size, p2, none⟩) hAlt).trans cx, (h.cell (p := ⟨w.heap.size, q2, none⟩) hAlt).trans cy⟩
            have wx := wb x
            have w2j : IntKind.i64.wrap (2 * (j : Int)) = (p2 : Int) := by rw [hp2]; simp [IntKind.wrap, IntKind.signed, IntKind.bits]; omega
            have w2q : IntKind.i64.wrap ((p2 : Int) + 1) = (q2 : Int) := by rw [hq2, hp2]; simp [IntKind.wrap, IntKind.signed, IntKind.bits]; omega
            have p16 : (p2 : Int) < 16 := by omega
            have q16 : (q2 : Int) < 16 := by omega
            have wy := wb y
            have wsh := shl_i64 x
            have wor := or_i64 x.toNat y.toNat x.toNat_lt y.toNat_lt
            rw [show ((x.toNat * 256 + y.toNat : Nat) : Int) = (x.toNat : Int) * 256 + (y.toNat : Int) by omega] at wor
            generalize hexs (x.toNat * 256 + y.toNat) = hs at *
            clear cx cy hx hy hv hp2 hq2
            rcases hnx with ⟨hk0, ho | ⟨q, ho⟩, hz'⟩ | ⟨ho, hz'⟩
            · subst ho
              have n1 : ¬ 9223372036854775807 < hs.length := by omega
              go_wp2
              refine wp_region_noPanic ?_
              refine wp_region_held_drew (S := fun W => Below X.heap.size X W ∧ W.cell? ⟨w.heap.size, p2, none⟩ = some (.int .u8 x.toNat) ∧ W.cell? ⟨w.heap.size, q2, none⟩ = some (.int .u8 y.toNat)) (by kernel_rfl) (HW.out _ hbw.drew) (fun hHeld => ?_)
              refine take_lit (i := 0) (v := ?_) rfl (by kernel_rfl) (by kernel_rfl) (by kernel_rfl) (fun _ _ _ h => h) (Or.inl ⟨by rfl, ?_⟩) (by assumption) ?_
              rotate_left
              · (intro w hSw; (try dsimp only at hSw); go_simp <;> with_reducible rfl)
              try simp only [Act.put, List.setIfInBounds_toArray, List.set_cons_zero, List.set_cons_succ]
              refine take_lit (i := 1) (v := ?_) rfl (by kernel_rfl) (by kernel_rfl) (by kernel_rfl) (fun _ _ _ h => h) (Or.inl ⟨by rfl, ?_⟩) (by assumption) ?_
              rotate_left
              · (intro w hSw; (try dsimp only at hSw); go_simp <;> with_reducible rfl)
              try simp only [Act.put, List.setIfInBounds_toArray, List.set_cons_zero, List.set_cons_succ]
              refine take_lit (i := 2) (v := ?_) rfl (by kernel_rfl) (by kernel_rfl) (by kernel_rfl) (fun _ _ _ h => h) (Or.inl ⟨by rfl, ?_⟩) (by assumption) ?_
              rotate_left
              · (intro w hSw; (try dsimp only at hSw); go_simp <;> with_reducible rfl)
              try simp only [Act.put, List.setIfInBounds_toArray, List.set_cons_zero, List.set_cons_succ]
              refine take_lit (i := 3) (v := ?_) rfl (by kernel_rfl) (by kernel_rfl) (by kernel_rfl) (fun _ _ _ h => h) (Or.inl ⟨by rfl, ?_⟩) (by assumption) ?_
              rotate_left
              · (intro w hSw; (try dsimp only at hSw); go_simp <;> with_reducible rfl)
              try simp only [Act.put, List.setIfInBounds_toArray, List.set_cons_zero, List.set_cons_succ]
              refine take_lit (i := 4) (v := ?_) rfl (by kernel_rfl) (by kernel_rfl) (by kernel_rfl) (fun _ _ _ h => h) (Or.inl ⟨by rfl, ?_⟩) (by assumption) ?_
              rotate_left
              · (intro w hSw; (try dsimp only at hSw); go_simp <;> with_reducible rfl)
              try simp only [Act.put, List.setIfInBounds_toArray, List.set_cons_zero, List.set_cons_succ]
              refine take_lit (i := 5) (v := ?_) rfl (by kernel_rfl) (by kernel_rfl) (by kernel_rfl) (fun _ _ _ h => h) (Or.inl ⟨by rfl, ?_⟩) (by assumption) ?_
              rotate_left
              · (intro w hSw; (try dsimp only at hSw); go_simp <;> with_reducible rfl)
              try simp only [Act.put, List.setIfInBounds_toArray, List.set_cons_zero, List.set_cons_succ]
              refine take_lit (i := 6) (v := ?_) rfl (by kernel_rfl) (by kernel_rfl) (by kernel_rfl) (fun _ _ _ h => h) (Or.inl ⟨by rfl, ?_⟩) (by assumption) ?_
              rotate_left
              · (intro w hSw; (try dsimp only at hSw); go_simp <;> with_reducible rfl)
              try simp only [Act.put, List.setIfInBounds_toArray, List.set_cons_zero, List.set_cons_succ]
              refine take_lit (i := 7) (v := ?_) rfl (by kernel_rfl) (by kernel_rfl) (by kernel_rfl) (fun _ _ _ h => h) (Or.inl ⟨by rfl, ?_⟩) (by assumption) ?_
              rotate_left
              · (intro w hSw; (try dsimp only at hSw); go_simp <;> with_reducible rfl)
              try simp only [Act.put, List.setIfInBounds_toArray, List.set_cons_zero, List.set_cons_succ]
              refine take_lit (i := 8) (v := ?_) rfl (by kernel_rfl) (by kernel_rfl) (by kernel_rfl) (fun _ _ _ h => h) (Or.inl ⟨by rfl, ?_⟩) (by assumption) ?_
              rotate_left
              · (intro w hSw; (try dsimp only at hSw); go_simp <;> with_reducible rfl)
              try simp only [Act.put, List.setIfInBounds_toArray, List.set_cons_zero, List.set_cons_succ]
              refine take_lit (i := 9) (v := ?_) rfl (by kernel_rfl) (by kernel_rfl) (by kernel_rfl) (fun _ _ _ h => h) (Or.inl ⟨by rfl, ?_⟩) (by assumption) ?_
              rotate_left
              · (intro w hSw; (try dsimp only at hSw); go_simp <;> with_reducible rfl)
              try simp only [Act.put, List.setIfInBounds_toArray, List.set_cons_zero, List.set_cons_succ]
              refine take_lit (i := 10) (v := ?_) rfl (by kernel_rfl) (by kernel_rfl) (by kernel_rfl) (fun _ _ _ h => h) (Or.inl ⟨by rfl, ?_⟩) (by assumption) ?_
              rotate_left
              · (intro w hSw; (try dsimp only at hSw); go_simp <;> with_reducible rfl)
              try simp only [Act.put, List.setIfInBounds_toArray, List.set_cons_zero, List.set_cons_succ]
              refine take_lit (i := 11) (v := ?_) rfl (by kernel_rfl) (by kernel_rfl) (by kernel_rfl) (fun _ _ _ h => h) (Or.inl ⟨by rfl, ?_⟩) (by assumption) ?_
              rotate_left
              · (intro w hSw; (try dsimp only at hSw); go_simp <;> with_reducible rfl)
              try simp only [Act.put, List.setIfInBounds_toArray, List.set_cons_zero, List.set_cons_succ]
              refine take_lit (i := 12) (v := ?_) rfl (by kernel_rfl) (by kernel_rfl) (by kernel_rfl) (fun _ _ _ h => h) (Or.inl ⟨by rfl, ?_⟩) (by assumption) ?_
              rotate_left
              · (intro w hSw; (try dsimp only at hSw); go_simp <;> with_reducible rfl)
              try simp only [Act.put, List.setIfInBounds_toArray, List.set_cons_zero, List.set_cons_succ]
              refine take_lit (i := 13) (v := ?_) rfl (by kernel_rfl) (by kernel_rfl) (by kernel_rfl) (fun _ _ _ h => h) (Or.inl ⟨by rfl, ?_⟩) (by assumption) ?_
              rotate_left
              · (intro w hSw; (try dsimp only at hSw); go_simp <;> with_reducible rfl)
              try simp only [Act.put, List.setIfInBounds_toArray, List.set_cons_zero, List.set_cons_succ]
              refine wpAnyH_ready (rs := [14]) (by kernel_rfl) (by simp) ?_
              refine cons_lit rfl (fun K hK => ?_) ?_
              · go_simp
                with_reducible refine (hH _).mono ?_
                rintro e w1 ⟨rfl, rfl⟩
                refine hK.out _ _ ?_ (fun hHeld => ?_)
                · exact hHeld
                clear hK K
                try simp only [Act.put, List.setIfInBounds_toArray, List.set_cons_zero, List.set_cons_succ]
                refine take_lit (i := 15) (v := ?_) rfl (by kernel_rfl) (by kernel_rfl) (by kernel_rfl) (fun _ _ _ h => h) (Or.inl ⟨by rfl, ?_⟩) (by assumption) ?_
                rotate_left
                · (intro w hSw; (try dsimp only at hSw); go_simp <;> with_reducible rfl)
                try simp only [Act.put, List.setIfInBounds_toArray, List.set_cons_zero, List.set_cons_succ]
                refine take_lit (i := 16) (v := ?_) rfl (by kernel_rfl) (by kernel_rfl) (by kernel_rfl) (fun _ _ _ h => h) (Or.inl ⟨by rfl, ?_⟩) (by assumption) ?_
                rotate_left
                · (intro w hSw; (try dsimp only at hSw); go_simp <;> with_reducible rfl)
                try simp only [Act.put, List.setIfInBounds_toArray, List.set_cons_zero, List.set_cons_succ]
                refine wpAnyH_done (by kernel_rfl) ?_ _
                refine NoPanic.normal ?_
                go_wp2
                refine ⟨⟨_, _, _, _, _, _, _, _, _, _, _, _, _, _, _, _, _, _, _, _, _, _, _, _, _, _, _, _, _, _, _, _, _, _, _, _, _, _, _, _, _, _, _, ⟨j + 1, _, _, _, _, by omega, by go_num, by rw [← str_append], hz', hHeld.1⟩, rfl⟩, ?_⟩
                simp [intOf]; omega
              exact AllReadyH.nil
            · have hne : ¬ o = [] := by rw [ho]; simp
              have hem : o.isEmpty = false := by simpa using hne
              have hpos : 0 < o.length := List.length_pos_iff.2 hne
              have hl1 : (1 : Int) ≤ (o.length : Int) := by omega
              have hl2 : (o.length : Int) - 1 < (o.length : Int) := by omega
              have elast : ∀ h, ((((str o)[o.length - 1]'h).toNat : Int) != 58) = false := by
                intro h
                have : (str o)[o.length - 1]'h = 58 := by
                  have e : o[o.length - 1]? = some 58 := by rw [ho]; simp
                  exact Option.some.inj ((List.getElem?_eq_getElem (show o.length - 1 < o.length from h)).symm.trans e)
                rw [this]; rfl
              have n1 : ¬ 9223372036854775807 < o.length + hs.length := by omega
              clear ho
              go_wp2
              refine wp_region_noPanic ?_
              refine wp_region_held_drew (S := fun W => Below X.heap.size X W ∧ W.cell? ⟨w.heap.size, p2, none⟩ = some (.int .u8 x.toNat) ∧ W.cell? ⟨w.heap.size, q2, none⟩ = some (.int .u8 y.toNat)) (by kernel_rfl) (HW.out _ hbw.drew) (fun hHeld => ?_)
              refine take_lit (i := 0) (v := ?_) rfl (by kernel_rfl) (by kernel_rfl) (by kernel_rfl) (fun _ _ _ h => h) (Or.inl ⟨by rfl, ?_⟩) (by assumption) ?_
              rotate_left
              · (intro w hSw; (try dsimp only at hSw); go_simp <;> with_reducible rfl)
              try simp only [Act.put, List.setIfInBounds_toArray, List.set_cons_zero, List.set_cons_succ]
              refine take_lit (i := 1) (v := ?_) rfl (by kernel_rfl) (by kernel_rfl) (by kernel_rfl) (fun _ _ _ h => h) (Or.inl ⟨by rfl, ?_⟩) (by assumption) ?_
              rotate_left
              · (intro w hSw; (try dsimp only at hSw); go_simp <;> with_reducible rfl)
              try simp only [Act.put, List.setIfInBounds_toArray, List.set_cons_zero, List.set_cons_succ]
              refine take_lit (i := 2) (v := ?_) rfl (by kernel_rfl) (by kernel_rfl) (by kernel_rfl) (fun _ _ _ h => h) (Or.inl ⟨by rfl, ?_⟩) (by assumption) ?_
              rotate_left
              · (intro w hSw; (try dsimp only at hSw); go_simp <;> with_reducible rfl)
              try simp only [Act.put, List.setIfInBounds_toArray, List.set_cons_zero, List.set_cons_succ]
              refine take_lit (i := 3) (v := ?_) rfl (by kernel_rfl) (by kernel_rfl) (by kernel_rfl) (fun _ _ _ h => h) (Or.inl ⟨by rfl, ?_⟩) (by assumption) ?_
              rotate_left
              · (intro w hSw; (try dsimp only at hSw); go_simp <;> with_reducible rfl)
              try simp only [Act.put, List.setIfInBounds_toArray, List.set_cons_zero, List.set_cons_succ]
              refine take_lit (i := 4) (v := ?_) rfl (by kernel_rfl) (by kernel_rfl) (by kernel_rfl) (fun _ _ _ h => h) (Or.inl ⟨by rfl, ?_⟩) (by assumption) ?_
              rotate_left
              · (intro w hSw; (try dsimp only at hSw); go_simp <;> with_reducible rfl)
              try simp only [Act.put, List.setIfInBounds_toArray, List.set_cons_zero, List.set_cons_succ]
              refine take_lit (i := 5) (v := ?_) rfl (by kernel_rfl) (by kernel_rfl) (by kernel_rfl) (fun _ _ _ h => h) (Or.inl ⟨by rfl, ?_⟩) (by assumption) ?_
              rotate_left
              · (intro w hSw; (try dsimp only at hSw); go_simp <;> with_reducible rfl)
              try simp only [Act.put, List.setIfInBounds_toArray, List.set_cons_zero, List.set_cons_succ]
              refine take_lit (i := 6) (v := ?_) rfl (by kernel_rfl) (by kernel_rfl) (by kernel_rfl) (fun _ _ _ h => h) (Or.inl ⟨by rfl, ?_⟩) (by assumption) ?_
              rotate_left
              · (intro w hSw; (try dsimp only at hSw); go_simp <;> with_reducible rfl)
              try simp only [Act.put, List.setIfInBounds_toArray, List.set_cons_zero, List.set_cons_succ]
              refine take_lit (i := 7) (v := ?_) rfl (by kernel_rfl) (by kernel_rfl) (by kernel_rfl) (fun _ _ _ h => h) (Or.inl ⟨by rfl, ?_⟩) (by assumption) ?_
              rotate_left
              · (intro w hSw; (try dsimp only at hSw); go_simp <;> with_reducible rfl)
              try simp only [Act.put, List.setIfInBounds_toArray, List.set_cons_zero, List.set_cons_succ]
              refine take_lit (i := 8) (v := ?_) rfl (by kernel_rfl) (by kernel_rfl) (by kernel_rfl) (fun _ _ _ h => h) (Or.inl ⟨by rfl, ?_⟩) (by assumption) ?_
              rotate_left
              · (intro w hSw; (try dsimp only at hSw); go_simp <;> with_reducible rfl)
              try simp only [Act.put, List.setIfInBounds_toArray, List.set_cons_zero, List.set_cons_succ]
              refine take_lit (i := 9) (v := ?_) rfl (by kernel_rfl) (by kernel_rfl) (by kernel_rfl) (fun _ _ _ h => h) (Or.inl ⟨by rfl, ?_⟩) (by assumption) ?_
              rotate_left
              · (intro w hSw; (try dsimp only at hSw); go_simp <;> with_reducible rfl)
              try simp only [Act.put, List.setIfInBounds_toArray, List.set_cons_zero, List.set_cons_succ]
              refine take_lit (i := 10) (v := ?_) rfl (by kernel_rfl) (by kernel_rfl) (by kernel_rfl) (fun _ _ _ h => h) (Or.inl ⟨by rfl, ?_⟩) (by assumption) ?_
              rotate_left
              · (intro w hSw; (try dsimp only at hSw); go_simp <;> with_reducible rfl)
              try simp only [Act.put, List.setIfInBounds_toArray, List.set_cons_zero, List.set_cons_succ]
              refine take_lit (i := 11) (v := ?_) rfl (by kernel_rfl) (by kernel_rfl) (by kernel_rfl) (fun _ _ _ h => h) (Or.inl ⟨by rfl, ?_⟩) (by assumption) ?_
              rotate_left
              · (intro w hSw; (try dsimp only at hSw); go_simp <;> with_reducible rfl)
              try simp only [Act.put, List.setIfInBounds_toArray, List.set_cons_zero, List.set_cons_succ]
              refine take_lit (i := 12) (v := ?_) rfl (by kernel_rfl) (by kernel_rfl) (by kernel_rfl) (fun _ _ _ h => h) (Or.inl ⟨by rfl, ?_⟩) (by assumption) ?_
              rotate_left
              · (intro w hSw; (try dsimp only at hSw); go_simp <;> with_reducible rfl)
              try simp only [Act.put, List.setIfInBounds_toArray, List.set_cons_zero, List.set_cons_succ]
              refine take_lit (i := 13) (v := ?_) rfl (by kernel_rfl) (by kernel_rfl) (by kernel_rfl) (fun _ _ _ h => h) (Or.inl ⟨by rfl, ?_⟩) (by assumption) ?_
              rotate_left
              · (intro w hSw; (try dsimp only at hSw); go_simp <;> with_reducible rfl)
              try simp only [Act.put, List.setIfInBounds_toArray, List.set_cons_zero, List.set_cons_succ]
              refine wpAnyH_ready (rs := [14]) (by kernel_rfl) (by simp) ?_
              refine cons_lit rfl (fun K hK => ?_) ?_
              · go_simp
                with_reducible refine (hH _).mono ?_
                rintro e w1 ⟨rfl, rfl⟩
                refine hK.out _ _ ?_ (fun hHeld => ?_)
                · exact hHeld
                clear hK K
                try simp only [Act.put, List.setIfInBounds_toArray, List.set_cons_zero, List.set_cons_succ]
                refine take_lit (i := 15) (v := ?_) rfl (by kernel_rfl) (by kernel_rfl) (by kernel_rfl) (fun _ _ _ h => h) (Or.inl ⟨by rfl, ?_⟩) (by assumption) ?_
                rotate_left
                · (intro w hSw; (try dsimp only at hSw); go_simp <;> with_reducible rfl)
                try simp only [Act.put, List.setIfInBounds_toArray, List.set_cons_zero, List.set_cons_succ]
                refine take_lit (i := 16) (v := ?_) rfl (by kernel_rfl) (by kernel_rfl) (by kernel_rfl) (fun _ _ _ h => h) (Or.inl ⟨by rfl, ?_⟩) (by assumption) ?_
                rotate_left
                · (intro w hSw; (try dsimp only at hSw); go_simp <;> with_reducible rfl)
                try simp only [Act.put, List.setIfInBounds_toArray, List.set_cons_zero, List.set_cons_succ]
                refine wpAnyH_done (by kernel_rfl) ?_ _
                refine NoPanic.normal ?_
                go_wp2
                refine ⟨⟨_, _, _, _, _, _, _, _, _, _, _, _, _, _, _, _, _, _, _, _, _, _, _, _, _, _, _, _, _, _, _, _, _, _, _, _, _, _, _, _, _, _, _, ⟨j + 1, _, _, _, _, by omega, by go_num, by rw [← str_append], hz', hHeld.1⟩, rfl⟩, ?_⟩
                simp [intOf]; omega
              exact AllReadyH.nil
            · have hne : ¬ o = [] := ho.ne
              have hem : o.isEmpty = false := by simpa using hne
              have hpos : 0 < o.length := List.length_pos_iff.2 hne
              have hl1 : (1 : Int) ≤ (o.length : Int) := by omega
              have hl2 : (o.length : Int) - 1 < (o.length : Int) := by omega
              obtain ⟨c, hc, hc58⟩ := ho.last
              have elast : ∀ h, ((((str o)[o.length - 1]'h).toNat : Int) != 58) = true := by
                intro h
                have : (str o)[o.length - 1]'h = c := Option.some.inj ((List.getElem?_eq_getElem (show o.length - 1 < o.length from h)).symm.trans hc)
                rw [this, bne_iff_ne]
                intro e
                exact hc58 (UInt8.toNat.inj (by simp; omega))
              have n0 : ¬ 9223372036854775807 < o.length + 1 := by omega
              have n1 : ¬ 9223372036854775807 < o.length + 1 + hs.length := by omega
              clear ho hc
              go_wp2
              refine wp_region_noPanic ?_
              refine wp_region_held_drew (S := fun W => Below X.heap.size X W ∧ W.cell? ⟨w.heap.size, p2, none⟩ = some (.int .u8 x.toNat) ∧ W.cell? ⟨w.heap.size, q2, none⟩ = some (.int .u8 y.toNat)) (by kernel_rfl) (HW.out _ hbw.drew) (fun hHeld => ?_)
              refine take_lit (i := 0) (v := ?_) rfl (by kernel_rfl) (by kernel_rfl) (by kernel_rfl) (fun _ _ _ h => h) (Or.inl ⟨by rfl, ?_⟩) (by assumption) ?_
              rotate_left
              · (intro w hSw; (try dsimp only at hSw); go_simp <;> with_reducible rfl)
              try simp only [Act.put, List.setIfInBounds_toArray, List.set_cons_zero, List.set_cons_succ]
              refine take_lit (i := 1) (v := ?_) rfl (by kernel_rfl) (by kernel_rfl) (by kernel_rfl) (fun _ _ _ h => h) (Or.inl ⟨by rfl, ?_⟩) (by assumption) ?_
              rotate_left
              · (intro w hSw; (try dsimp only at hSw); go_simp <;> with_reducible rfl)
              try simp only [Act.put, List.setIfInBounds_toArray, List.set_cons_zero, List.set_cons_succ]
              refine take_lit (i := 2) (v := ?_) rfl (by kernel_rfl) (by kernel_rfl) (by kernel_rfl) (fun _ _ _ h => h) (Or.inl ⟨by rfl, ?_⟩) (by assumption) ?_
              rotate_left
              · (intro w hSw; (try dsimp only at hSw); go_simp <;> with_reducible rfl)
              try simp only [Act.put, List.setIfInBounds_toArray, List.set_cons_zero, List.set_cons_succ]
              refine take_lit (i := 3) (v := ?_) rfl (by kernel_rfl) (by kernel_rfl) (by kernel_rfl) (fun _ _ _ h => h) (Or.inl ⟨by rfl, ?_⟩) (by assumption) ?_
              rotate_left
              · (intro w hSw; (try dsimp only at hSw); go_simp <;> with_reducible rfl)
              try simp only [Act.put, List.setIfInBounds_toArray, List.set_cons_zero, List.set_cons_succ]
              refine take_lit (i := 4) (v := ?_) rfl (by kernel_rfl) (by kernel_rfl) (by kernel_rfl) (fun _ _ _ h => h) (Or.inl ⟨by rfl, ?_⟩) (by assumption) ?_
              rotate_left
              · (intro w hSw; (try dsimp only at hSw); go_simp <;> with_reducible rfl)
              try simp only [Act.put, List.setIfInBounds_toArray, List.set_cons_zero, List.set_cons_succ]
              refine take_lit (i := 5) (v := ?_) rfl (by kernel_rfl) (by kernel_rfl) (by kernel_rfl) (fun _ _ _ h => h) (Or.inl ⟨by rfl, ?_⟩) (by assumption) ?_
              rotate_left
              · (intro w hSw; (try dsimp only at hSw); go_simp <;> with_reducible rfl)
              try simp only [Act.put, List.setIfInBounds_toArray, List.set_cons_zero, List.set_cons_succ]
              refine take_lit (i := 6) (v := ?_) rfl (by kernel_rfl) (by kernel_rfl) (by kernel_rfl) (fun _ _ _ h => h) (Or.inl ⟨by rfl, ?_⟩) (by assumption) ?_
              rotate_left
              · (intro w hSw; (try dsimp only at hSw); go_simp <;> with_reducible rfl)
              try simp only [Act.put, List.setIfInBounds_toArray, List.set_cons_zero, List.set_cons_succ]
              refine take_lit (i := 7) (v := ?_) rfl (by kernel_rfl) (by kernel_rfl) (by kernel_rfl) (fun _ _ _ h => h) (Or.inl ⟨by rfl, ?_⟩) (by assumption) ?_
              rotate_left
              · (intro w hSw; (try dsimp only at hSw); go_simp <;> with_reducible rfl)
              try simp only [Act.put, List.setIfInBounds_toArray, List.set_cons_zero, List.set_cons_succ]
              refine take_lit (i := 8) (v := ?_) rfl (by kernel_rfl) (by kernel_rfl) (by kernel_rfl) (fun _ _ _ h => h) (Or.inl ⟨by rfl, ?_⟩) (by assumption) ?_
              rotate_left
              · (intro w hSw; (try dsimp only at hSw); go_simp <;> with_reducible rfl)
              try simp only [Act.put, List.setIfInBounds_toArray, List.set_cons_zero, List.set_cons_succ]
              refine take_lit (i := 9) (v := ?_) rfl (by kernel_rfl) (by kernel_rfl) (by kernel_rfl) (fun _ _ _ h => h) (Or.inl ⟨by rfl, ?_⟩) (by assumption) ?_
              rotate_left
              · (intro w hSw; (try dsimp only at hSw); go_simp <;> with_reducible rfl)
              try simp only [Act.put, List.setIfInBounds_toArray, List.set_cons_zero, List.set_cons_succ]
              refine take_lit (i := 10) (v := ?_) rfl (by kernel_rfl) (by kernel_rfl) (by kernel_rfl) (fun _ _ _ h => h) (Or.inl ⟨by rfl, ?_⟩) (by assumption) ?_
              rotate_left
              · (intro w hSw; (try dsimp only at hSw); go_simp <;> with_reducible rfl)
              try simp only [Act.put, List.setIfInBounds_toArray, List.set_cons_zero, List.set_cons_succ]
              refine take_lit (i := 11) (v := ?_) rfl (by kernel_rfl) (by kernel_rfl) (by kernel_rfl) (fun _ _ _ h => h) (Or.inl ⟨by rfl, ?_⟩) (by assumption) ?_
              rotate_left
              · (intro w hSw; (try dsimp only at hSw); go_simp <;> with_reducible rfl)
              try simp only [Act.put, List.setIfInBounds_toArray, List.set_cons_zero, List.set_cons_succ]
              refine take_lit (i := 12) (v := ?_) rfl (by kernel_rfl) (by kernel_rfl) (by kernel_rfl) (fun _ _ _ h => h) (Or.inl ⟨by rfl, ?_⟩) (by assumption) ?_
              rotate_left
              · (intro w hSw; (try dsimp only at hSw); go_simp <;> with_reducible rfl)
              try simp only [Act.put, List.setIfInBounds_toArray, List.set_cons_zero, List.set_cons_succ]
              refine take_lit (i := 13) (v := ?_) rfl (by kernel_rfl) (by kernel_rfl) (by kernel_rfl) (fun _ _ _ h => h) (Or.inl ⟨by rfl, ?_⟩) (by assumption) ?_
              rotate_left
              · (intro w hSw; (try dsimp only at hSw); go_simp <;> with_reducible rfl)
              try simp only [Act.put, List.setIfInBounds_toArray, List.set_cons_zero, List.set_cons_succ]
              refine wpAnyH_ready (rs := [14]) (by kernel_rfl) (by simp) ?_
              refine cons_lit rfl (fun K hK => ?_) ?_
              · go_simp
                with_reducible refine (hH _).mono ?_
                rintro e w1 ⟨rfl, rfl⟩
                refine hK.out _ _ ?_ (fun hHeld => ?_)
                · exact hHeld
                clear hK K
                try simp only [Act.put, List.setIfInBounds_toArray, List.set_cons_zero, List.set_cons_succ]
                refine take_lit (i := 15) (v := ?_) rfl (by kernel_rfl) (by kernel_rfl) (by kernel_rfl) (fun _ _ _ h => h) (Or.inl ⟨by rfl, ?_⟩) (by assumption) ?_
                rotate_left
                · (intro w hSw; (try dsimp only at hSw); go_simp <;> with_reducible rfl)
                try simp only [Act.put, List.setIfInBounds_toArray, List.set_cons_zero, List.set_cons_succ]
                refine take_lit (i := 16) (v := ?_) rfl (by kernel_rfl) (by kernel_rfl) (by kernel_rfl) (fun _ _ _ h => h) (Or.inl ⟨by rfl, ?_⟩) (by assumption) ?_
                rotate_left
                · (intro w hSw; (try dsimp only at hSw); go_simp <;> with_reducible rfl)
                try simp only [Act.put, List.setIfInBounds_toArray, List.set_cons_zero, List.set_cons_succ]
                refine wpAnyH_done (by kernel_rfl) ?_ _
                refine NoPanic.normal ?_
                go_wp2
                refine ⟨⟨_, _, _, _, _, _, _, _, _, _, _, _, _, _, _, _, _, _, _, _, _, _, _, _, _, _, _, _, _, _, _, _, _, _, _, _, _, _, _, _, _, _, _, ⟨j + 1, _, _, _, _, by omega, by go_num, by rw [← str_append, ← str_append], hz', hHeld.1⟩, rfl⟩, ?_⟩
                simp [intOf]; omega
              exact AllReadyH.nil
        · obtain rfl : j = 8 := by omega
          have e := hz.fin HST.out
          subst e
          clear hz hlt
          go_wp2
          go_ret
          exact ⟨rfl, bt hb hbw⟩
end Go.Proofs.YtimpopolkofdgaaGreatDoor
