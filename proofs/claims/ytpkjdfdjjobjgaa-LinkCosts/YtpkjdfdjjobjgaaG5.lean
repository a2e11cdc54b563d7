/-
  The document's Rx and Hear, for every input.
-/
import Derived.Test.YtpkjdfdjjobjgaaG4
namespace Go.Proofs.Ytpkjdfdjjobjgaa
open Go.RowKit
set_option linter.unusedSimpArgs false
set_option maxHeartbeats 4000000 in
set_option maxRecDepth 20000 in
theorem rrx_any (kind cost : Int) (ad : Option Addr) (n c : Nat) (l : List Hi) (w : World) (hc : 0 ≤ cost) (hc' : cost < 65536) (hn : n ≤ 140737488355328) (hs : Hs w ad n l) :
    Calls Try.prog 14 #[.int .i64 kind, .int .u16 cost, .slice ad n c] w fun e w' => e = .returned (.int .u16 (rxL kind cost l)) ∧ w = w' := by
  have HL : Hid (l.length = n) := hs.len
  go_enter Try.func14, Try.ntmps14
  go_wp2
  go_loopw [7, 8] (fun v i wr => ∃ j : Nat, j ≤ n ∧ i = .int .i64 j ∧ v = .int .u16 (rxL kind cost (l.take j)) ∧ w = wr) (fun _ i _ => n - (intOf i).toNat)
  case atStart => exact ⟨0, Nat.zero_le _, rfl, rfl, rfl⟩
  case round =>
    obtain ⟨j, hj, rfl, rfl, rfl⟩ := hrel
    by_cases hlt : j < n
    · rcases hs.lies with h0 | ⟨g, o, rfl, hg, hl⟩
      · omega
      have hjl : j < l.length := by rw [HL.out]; exact hlt
      have hq := hl j _ (List.getElem?_eq_getElem hjl)
      have ok := hs.small l[j] (List.getElem_mem hjl)
      have HS : Hid (rxL kind cost (l.take (j + 1)) = min (rxL kind cost (l.take j)) (rxZ kind cost l[j].b.toNat)) := rxL_step kind cost l j hjl
      have okb := ok.b0
      have okc := ok.b1
      generalize l[j] = q at *
      obtain ⟨b, m, k⟩ := q
      dsimp only at okb okc HS
      obtain ⟨b, rfl⟩ := Int.eq_ofNat_of_zero_le okb
      rw [Int.toNat_natCast] at HS
      have hb : b < 65536 := by omega
      have c1 : w.cell? ⟨g, o + j * 3, none⟩ = some (.int .u16 (b : Int)) := hq 0 _ rfl
      have hji : (j : Int) < (n : Int) := by omega
      have C1 := fun w => rones_any b w hb
      have C2 := fun w => rones_any (b &&& 57344) w (by have := Nat.and_le_left (n := b) (m := 57344); omega)
      rw [top_three' b hb] at C2
      have e1 : bits BinOp.and IntKind.u16 (b : Int) 57344 = ((b &&& 57344 : Nat) : Int) := u16_and_nat b 57344 hb (by decide)
      have hV : ∃ V, rxL kind cost (l.take j) = V ∧ True := ⟨_, rfl, trivial⟩
      obtain ⟨V, hV, -⟩ := hV
      rw [hV] at HS ⊢
      clear hl hq ok hV okb okc
      have HX : Hid (rxZ kind cost b = if kind = 0 then (if 2 ≤ lowc (b / 8192) 16 then cost else 65535) else if kind = 1 then (if 0 < lowc b 16 then min (cost * 16 / (lowc b 16 : Nat)) 65534 else 65535) else 65535) := rfl
      have hx := rxZ_ok kind cost b hc hc'
      have hle := lowc_le b 16
      generalize rxZ kind cost b = x at *
      generalize lowc b 16 = N at *
      generalize lowc (b / 8192) 16 = M at *
      by_cases k0 : kind = 0
      · by_cases h2 : 2 ≤ M
        · obtain rfl : x = cost := by rw [HX.out, if_pos k0, if_pos h2]
          subst k0
          by_cases hv : x < V
          · go_wp2_with (go_at_call 19; first | ((with_reducible refine (C1 _).mono ?_); rintro e w' ⟨rfl, rfl⟩) | ((try rw [e1]); (with_reducible refine (C2 _).mono ?_); rintro e w' ⟨rfl, rfl⟩))
            go_roundw
            case rel => exact ⟨j + 1, by omega, by go_num, by rw [HS.out]; congr 1; omega, trivial⟩
            case measure => simp [intOf]; omega
          · have hv' : V ≤ x := by omega
            clear hv
            go_wp2_with (go_at_call 19; first | ((with_reducible refine (C1 _).mono ?_); rintro e w' ⟨rfl, rfl⟩) | ((try rw [e1]); (with_reducible refine (C2 _).mono ?_); rintro e w' ⟨rfl, rfl⟩))
            go_roundw
            case rel => exact ⟨j + 1, by omega, by go_num, by rw [HS.out]; congr 1; omega, trivial⟩
            case measure => simp [intOf]; omega
        · obtain rfl : x = 65535 := by rw [HX.out, if_pos k0, if_neg h2]
          subst k0
          by_cases hv : 65535 < V
          · go_wp2_with (go_at_call 19; first | ((with_reducible refine (C1 _).mono ?_); rintro e w' ⟨rfl, rfl⟩) | ((try rw [e1]); (with_reducible refine (C2 _).mono ?_); rintro e w' ⟨rfl, rfl⟩))
            go_roundw
            case rel => exact ⟨j + 1, by omega, by go_num, by rw [HS.out]; congr 1; omega, trivial⟩
            case measure => simp [intOf]; omega
          · have hv' : V ≤ 65535 := by omega
            clear hv
            go_wp2_with (go_at_call 19; first | ((with_reducible refine (C1 _).mono ?_); rintro e w' ⟨rfl, rfl⟩) | ((try rw [e1]); (with_reducible refine (C2 _).mono ?_); rintro e w' ⟨rfl, rfl⟩))
            go_roundw
            case rel => exact ⟨j + 1, by omega, by go_num, by rw [HS.out]; congr 1; omega, trivial⟩
            case measure => simp [intOf]; omega
      by_cases k1 : kind = 1
      · have k : (kind == 0) = false := by simpa using k0
        by_cases h2 : 0 < N
        · have hx' : x = min (cost * 16 / (N : Int)) 65534 := by rw [HX.out, if_neg k0, if_pos k1, if_pos h2]
          have p1 : 0 ≤ cost * 16 / (N : Int) := Int.ediv_nonneg (by omega) (by omega)
          have p2 : cost * 16 / (N : Int) ≤ cost * 16 := Int.ediv_le_self _ (by omega)
          have ey : ∃ y, cost * 16 / (N : Int) = y ∧ 0 ≤ y ∧ y ≤ cost * 16 := ⟨_, rfl, p1, p2⟩
          obtain ⟨y, hy, y0, y1⟩ := ey
          rw [hy] at hx'
          have e2 : (cost * 16).tdiv (N : Int) = y := by rw [Int.tdiv_eq_ediv_of_nonneg (by omega)]; exact hy
          have e3 : wrap64 (cost * 16) = cost * 16 := w64 _ (by omega) (by omega)
          have e4 : wrap64 y = y := w64 _ (by omega) (by omega)
          have h3 : ¬ (N : Int) = 0 := by omega
          clear HX k0 p1 p2
          subst k1
          by_cases hm : 65534 < y
          · obtain rfl : x = 65534 := by omega
            clear hx' hy y1 hx
            by_cases hv : 65534 < V
            · go_wp2_with (go_at_call 19; first | ((with_reducible refine (C1 _).mono ?_); rintro e w' ⟨rfl, rfl⟩) | ((try rw [e1]); (with_reducible refine (C2 _).mono ?_); rintro e w' ⟨rfl, rfl⟩))
              go_roundw
              case rel => exact ⟨j + 1, by omega, by go_num, by rw [HS.out]; congr 1; omega, trivial⟩
              case measure => simp [intOf]; omega
            · have hv' : V ≤ 65534 := by omega
              clear hv
              go_wp2_with (go_at_call 19; first | ((with_reducible refine (C1 _).mono ?_); rintro e w' ⟨rfl, rfl⟩) | ((try rw [e1]); (with_reducible refine (C2 _).mono ?_); rintro e w' ⟨rfl, rfl⟩))
              go_roundw
              case rel => exact ⟨j + 1, by omega, by go_num, by rw [HS.out]; congr 1; omega, trivial⟩
              case measure => simp [intOf]; omega
          · have hm' : y ≤ 65534 := by omega
            obtain rfl : x = y := by omega
            clear hm hx' hy y1 hx
            by_cases hv : x < V
            · go_wp2_with (go_at_call 19; first | ((with_reducible refine (C1 _).mono ?_); rintro e w' ⟨rfl, rfl⟩) | ((try rw [e1]); (with_reducible refine (C2 _).mono ?_); rintro e w' ⟨rfl, rfl⟩))
              go_roundw
              case rel => exact ⟨j + 1, by omega, by go_num, by rw [HS.out]; congr 1; omega, trivial⟩
              case measure => simp [intOf]; omega
            · have hv' : V ≤ x := by omega
              clear hv
              go_wp2_with (go_at_call 19; first | ((with_reducible refine (C1 _).mono ?_); rintro e w' ⟨rfl, rfl⟩) | ((try rw [e1]); (with_reducible refine (C2 _).mono ?_); rintro e w' ⟨rfl, rfl⟩))
              go_roundw
              case rel => exact ⟨j + 1, by omega, by go_num, by rw [HS.out]; congr 1; omega, trivial⟩
              case measure => simp [intOf]; omega
        · obtain rfl : x = 65535 := by rw [HX.out, if_neg k0, if_pos k1, if_neg h2]
          clear HX k0
          subst k1
          by_cases hv : 65535 < V
          · go_wp2_with (go_at_call 19; first | ((with_reducible refine (C1 _).mono ?_); rintro e w' ⟨rfl, rfl⟩) | ((try rw [e1]); (with_reducible refine (C2 _).mono ?_); rintro e w' ⟨rfl, rfl⟩))
            go_roundw
            case rel => exact ⟨j + 1, by omega, by go_num, by rw [HS.out]; congr 1; omega, trivial⟩
            case measure => simp [intOf]; omega
          · have hv' : V ≤ 65535 := by omega
            clear hv
            go_wp2_with (go_at_call 19; first | ((with_reducible refine (C1 _).mono ?_); rintro e w' ⟨rfl, rfl⟩) | ((try rw [e1]); (with_reducible refine (C2 _).mono ?_); rintro e w' ⟨rfl, rfl⟩))
            go_roundw
            case rel => exact ⟨j + 1, by omega, by go_num, by rw [HS.out]; congr 1; omega, trivial⟩
            case measure => simp [intOf]; omega
      · have k : (kind == 0) = false := by simpa using k0
        have k' : (kind == 1) = false := by simpa using k1
        obtain rfl : x = 65535 := by rw [HX.out, if_neg k0, if_neg k1]
        by_cases hv : 65535 < V
        · go_wp2_with (go_at_call 19; first | ((with_reducible refine (C1 _).mono ?_); rintro e w' ⟨rfl, rfl⟩) | ((try rw [e1]); (with_reducible refine (C2 _).mono ?_); rintro e w' ⟨rfl, rfl⟩))
          go_roundw
          case rel => exact ⟨j + 1, by omega, by go_num, by rw [HS.out]; congr 1; omega, trivial⟩
          case measure => simp [intOf]; omega
        · have hv' : V ≤ 65535 := by omega
          clear hv
          go_wp2_with (go_at_call 19; first | ((with_reducible refine (C1 _).mono ?_); rintro e w' ⟨rfl, rfl⟩) | ((try rw [e1]); (with_reducible refine (C2 _).mono ?_); rintro e w' ⟨rfl, rfl⟩))
          go_roundw
          case rel => exact ⟨j + 1, by omega, by go_num, by rw [HS.out]; congr 1; omega, trivial⟩
          case measure => simp [intOf]; omega
    · go_wp2
      go_ret
      refine ⟨?_, rfl⟩
      rw [List.take_of_length_le (by rw [HL.out]; omega)]
      rfl
end Go.Proofs.Ytpkjdfdjjobjgaa
