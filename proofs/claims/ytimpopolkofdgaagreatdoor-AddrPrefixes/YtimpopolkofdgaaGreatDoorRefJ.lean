/-
  The document's six where two colons stand together.
-/
import Derived.Test.YtimpopolkofdgaaGreatDoorRefI
import Derived.Laws.AppendOwnNone
namespace Go.Proofs.YtimpopolkofdgaaGreatDoor
open Go.RowKit
set_option linter.unusedSimpArgs false
set_option maxRecDepth 20000
theorem GI.one {n0 : Nat} {r : Option (List Nat)} {e : Ending} {W : World} (h : GI n0 r e W) : ∃ v ok, e = .returned (.tuple #[v, .bool ok]) ∧ ((ok = true ∧ ∃ L, r = some L ∧ W.ownsRow n0 3 1 v L.length (icells L)) ∨ (ok = false ∧ r = none)) := by
  rcases h with ⟨L, v, h1, h2, h3⟩ | ⟨h1, h2⟩
  · exact ⟨v, true, h2, .inl ⟨rfl, L, h1, h3⟩⟩
  · exact ⟨_, false, h2, .inr ⟨rfl, h1⟩⟩
theorem icells_one (l : List Nat) : ∀ u ∈ icells l, u.oneCell' = true := by
  intro u hu
  obtain ⟨_, _, rfl⟩ := List.mem_map.1 hu
  rfl
/-- Numbers that are laid behind others. -/
theorem app_i {w : World} {ops : Array Oper} {rest : List Oper} {o : Oper} {a : Act} {Q : Exit → Act → World → Prop} (hgd : o.guard = none) (s x : Operand)
    (ho : o.op = .call { callee := .builtin .append, args := #[s, x], argTypes := #[94, 94] })
    (base : Nat) (v : Value) (n : Nat) (L : List Nat) (hs : a.eval s = v) (hown : w.ownsRow base 3 1 v n (icells L)) (B : Nat) (v2 : Value) (m : Nat) (l : List Nat) (hx : a.eval x = v2) (hsrc : w.ownsRow B 3 1 v2 m (icells l))
    (hbytes : n + m ≤ 1000000) (hbase : base ≤ w.heap.size)
    (h : ∀ v' w', w'.ownsRow base 3 1 v' (n + m) (icells (L ++ l)) → w.grownBy w' v.ownBlock → wpList Tryz.prog ops Q rest (a.put o.dst v') w') : wpList Tryz.prog ops Q (o :: rest) a w := by
  obtain ⟨i0, hi, hz0, hz1, hz2⟩ := info_parts infoI
  have hl := hsrc.1
  rcases hsrc.2 with ⟨rfl, rfl⟩ | ⟨g, cap, cur, rfl, hb, hh, hr⟩
  · have hn : l = [] := List.eq_nil_of_length_eq_zero (by simpa [icells] using hl)
    subst hn
    refine wpList_append_own_none hgd s x 94 ho base 3 i0 1 Tryz.underlying94 hi v n (icells L) hs hown hx ?_
    exact h v w (by simpa using hown) (World.grownBy.refl _ _)
  · refine wpList_append_own w hgd s x 94 ho base 3 i0 (.int .i64 0) 1 8 Tryz.underlying94 hi hz0 hz1 hz2 rfl (by decide) v n (icells L) hs hown ⟨g, 0, none⟩ m cap (icells l) hx (by simpa using hl) (fun j u hu => hsrc.cells rfl j u hu) (icells_one l) (by unfold maxLen; omega) (by omega) hbase (fun v' w' h1 h2 _ => h v' w' (by rw [icells_append]; exact h1) h2)
theorem grpI_len {s : List UInt8} {L : List Nat} (h : grpI s = some L) : L.length ≤ s.length + 1 := by
  unfold grpI at h
  split at h
  · cases h; simp
  · have h1 := hexL_ge _ _ _ h
    have h2 := pieces_count 58 s
    simp at h1
    omega
def lenV : Value → Nat
  | .slice _ n _ => n
  | _ => 0
theorem rsix_two (t : ByteArray) (w : World) (hlim : t.size ≤ 1000000) (p : Nat) (hp : twoAt t.data.toList p) (hno : ∀ k, k < p → ¬ twoAt t.data.toList k) : Calls Tryz.prog 52 #[.string t] w (Gives w (sixV t.data.toList)) := by
  have hl : t.data.toList.length = t.size := Lib.size_eq t
  have hps : p + 1 < t.size := by
    have := (List.getElem?_eq_some_iff.1 hp.2).1
    omega
  have hG1 : ∀ W, Calls Tryz.prog 76 #[.string (t.extract 0 p)] W fun e w' => GI W.heap.size (grpI (t.data.toList.take p)) e w' ∧ Below W.heap.size W w' := fun W => by
    have := rgroups_any (t.extract 0 p) W (by rw [ByteArray.size_extract]; omega)
    rw [ext_str] at this ⊢
    simpa using this
  have hG2 : ∀ W, Calls Tryz.prog 76 #[.string (t.extract (p + 2) t.size)] W fun e w' => GI W.heap.size (grpI (t.data.toList.drop (p + 2))) e w' ∧ Below W.heap.size W w' := fun W => by
    have := rgroups_any (t.extract (p + 2) t.size) W (by rw [ByteArray.size_extract]; omega)
    rw [ext_str] at this ⊢
    rw [List.take_of_length_le (by simp [hl])] at this ⊢
    simpa using this
  have HV : Hid (sixV t.data.toList = match sixT (t.data.toList.take p) (t.data.toList.drop (p + 2)) with | some L => .tuple #[(Value.agg (acells (adOf L)).toArray), .bool true] | none => .tuple #[(Value.agg (acells zeroA).toArray), .bool false]) := by
    show _ = _
    unfold sixV sixI
    rw [idx_some _ p hno hp, if_pos (by omega), Int.toNat_natCast]
    rfl
  have HI : Hid (∀ j (h : j < t.size), t.data.toList[j]? = some t[j]) := fun j h => by
    rw [List.getElem?_eq_getElem (by rw [hl]; exact h)]; rfl
  unfold sixT at HV
  have HS1 : Hid (∀ L, grpI (t.data.toList.take p) = some L → ∀ x ∈ L, x < 65536) := fun L h => grpI_small h
  have HS2 : Hid (∀ L, grpI (t.data.toList.drop (p + 2)) = some L → ∀ x ∈ L, x < 65536) := fun L h => grpI_small h
  have HB1 : Hid (∀ L, grpI (t.data.toList.take p) = some L → L.length ≤ 1000001) := fun L h => by have := grpI_len h; rw [List.length_take] at this; omega
  have HB2 : Hid (∀ L, grpI (t.data.toList.drop (p + 2)) = some L → L.length ≤ 1000001) := fun L h => by have := grpI_len h; rw [List.length_drop] at this; omega
  generalize sixV t.data.toList = V at *
  generalize grpI (t.data.toList.take p) = R1 at *
  generalize grpI (t.data.toList.drop (p + 2)) = R2 at *
  have rz := Row.new w 23 (acells zeroA)
  have hb := ba w (.cells (acells zeroA).toArray 23)
  clear hl
  go_enter Tryz.func52, Tryz.ntmps52
  go_wp2
  refine name_world (R := fun W => Code.wp _ _ _ _ W) (P := fun W => Below w.heap.size w W ∧ Row W w.heap.size 23 (acells zeroA)) _ ⟨hb, rz⟩ ?_
  clear hb rz
  rintro X ⟨hb, rz⟩
  go_loopw [5, 6] (fun a i wr => ∃ j : Nat, j ≤ p ∧ i = .int .i64 j ∧ a = .int .i64 (-1) ∧ X = wr) (fun _ i _ => p - (intOf i).toNat)
  case atStart => exact ⟨0, by omega, rfl, rfl, rfl⟩
  case round =>
    obtain ⟨j, hj, rfl, rfl, rfl⟩ := hrel
    by_cases hlt : j < p
    · have h1 := HI.out j (by omega)
      have h2 := HI.out (j + 1) (by omega)
      have hn := hno j hlt
      unfold twoAt at hn
      rw [h1, h2] at hn
      have hlt' : (j : Int) + 1 < (t.size : Int) := by omega
      have hjs : j < t.size := by omega
      have hjs' : j + 1 < t.size := by omega
      by_cases c1 : t[j] = 58
      · have c2 : t[j + 1] ≠ 58 := fun e => hn ⟨by rw [c1], by rw [e]⟩
        have e1 : ((t[j].toNat : Int) == 58) = true := by rw [c1]; rfl
        have e2 : ((t[j + 1].toNat : Int) == 58) = false := by
          rw [beq_eq_false_iff_ne]
          intro e
          exact c2 (UInt8.toNat.inj (by simp; omega))
        clear hn h1 h2
        go_wp2
        go_roundw
        case rel => exact ⟨j + 1, by omega, by go_num, rfl, trivial⟩
        case measure => simp [intOf]; omega
      · have e1 : ((t[j].toNat : Int) == 58) = false := by
          rw [beq_eq_false_iff_ne]
          intro e
          exact c1 (UInt8.toNat.inj (by simp; omega))
        clear hn h1 h2
        go_wp2
        go_roundw
        case rel => exact ⟨j + 1, by omega, by go_num, rfl, trivial⟩
        case measure => simp [intOf]; omega
    · obtain rfl : j = p := by omega
      have h1 := HI.out j (by omega)
      have h2 := HI.out (j + 1) hps
      have hjs : j < t.size := by omega
      have hlt' : (j : Int) + 1 < (t.size : Int) := by omega
      unfold twoAt at hp
      rw [h1, h2] at hp
      have e1 : ((t[j].toNat : Int) == 58) = true := by rw [Option.some.inj hp.1]; rfl
      have e2 : ((t[j + 1].toNat : Int) == 58) = true := by rw [Option.some.inj hp.2]; rfl
      have hj0 : ¬ (j : Int) < 0 := by omega
      have hj2 : (j : Int) + 2 ≤ (t.size : Int) := by omega
      clear hno HI h1 h2 hp hlt
      go_wp2_with (first
        | (go_at_call 76; with_reducible refine (hG1 _).mono ?_; rintro e w1 ⟨gi1, hB⟩; obtain ⟨v1, ok1, rfl, hr1⟩ := gi1.one; clear gi1; replace rz := rz.below hB rz.lt; replace hb := bt hb hB; clear hB)
        | (go_at_call 76; refine (hG2 _).mono ?_; rintro e w2 ⟨gi2, hB⟩; obtain ⟨v2, ok2, rfl, hr2⟩ := gi2.one; clear gi2; replace rz := rz.below hB rz.lt; replace hb := bt hb hB; have HB12 : Hid (Below w1.heap.size w1 w2) := hB; clear hB; refine Hid.out ?_))
      rcases hr1 with ⟨rfl, L1, hR1, hO1⟩ | ⟨rfl, hR1⟩
      · rcases hr2 with ⟨rfl, L2, hR2, hO2⟩ | ⟨rfl, hR2⟩
        · have O1 := own_belowS hO1 HB12.out
          clear hO1 HB12
          have hS1 := HS1.out L1 hR1
          have hS2 := HS2.out L2 hR2
          have hl1 := HB1.out L1 hR1
          have hl2 := HB2.out L2 hR2
          obtain rfl := hR1
          obtain rfl := hR2
          obtain ⟨ia1, ic1, rfl, -, -⟩ := own_i O1
          obtain ⟨ia2, ic2, rfl, -, -⟩ := own_i hO2
          by_cases h7 : L1.length + L2.length ≤ 7
          · have eV : V = .tuple #[(Value.agg (acells (adOf (L1 ++ List.replicate (8 - L1.length - L2.length) 0 ++ L2))).toArray), .bool true] := by rw [HV.out]; dsimp only; rw [if_pos h7]
            have HL : Hid ((L1 ++ List.replicate (8 - L1.length - L2.length) 0 ++ L2).length = 8) := by show _ = _; simp; omega
            have HSm : Hid (∀ x ∈ L1 ++ List.replicate (8 - L1.length - L2.length) 0 ++ L2, x < 65536) := by
              intro x hx
              rcases List.mem_append.1 hx with hx | hx
              · rcases List.mem_append.1 hx with hx | hx
                · exact hS1 x hx
                · have := (List.mem_replicate.1 hx).2; omega
              · exact hS2 x hx
            have e7 : ¬ (7 : Int) < (L1.length : Int) + (L2.length : Int) := by omega
            generalize hn1 : L1.length = n1 at *
            generalize hn2 : L2.length = n2 at *
            have HN : Hid (L1.length = n1 ∧ L2.length = n2) := ⟨hn1, hn2⟩
            clear hn1 hn2 hS1 hS2
            unfold Hid
            clear HV HS1 HS2 HB1 HB2 hG1 hG2
            obtain ⟨i0, hi, hz0, hz1, hz2⟩ := info_parts infoI
            go_wp2_with (at_builtin; refine app_i rfl (.tmp 80) (.tmp 81) rfl w2.heap.size _ 0 [] rfl (World.ownsRow_nil _ _ _ _) _ _ _ L1 rfl O1 (by omega) (Nat.le_refl _) ?_; intro v3 w3 o3 hg; have hb3 : Below w2.heap.size w2 w3 := (Below.refl _ _).grown hg (Nat.le_refl _) (fun k hk => by cases hk); clear hg; rw [Nat.zero_add, List.nil_append] at o3; refine Hid.out ?_)
            unfold Hid
            go_wp2
            go_loopw [4] (fun v wr => ∃ k : Nat, k ≤ 8 - n1 - n2 ∧ wr.ownsRow w2.heap.size 3 1 v (n1 + k) (icells (L1 ++ List.replicate k 0)) ∧ Below w2.heap.size w2 wr) (fun v _ => 8 - lenV v)
            case atStart => exact ⟨0, by omega, by simpa using o3, hb3⟩
            case round =>
              clear o3 hb3
              rename_i wr
              obtain ⟨k, hk, o3, hb3⟩ := hrel
              obtain ⟨ia3, ic3, rfl, -, -⟩ := own_i o3
              by_cases hlt8 : n1 + k + n2 < 8
              · have hlt8' : (n1 : Int) + (k : Int) + (n2 : Int) < 8 := by omega
                go_wp2_with (at_builtin; refine wpList_append_own _ rfl (.tmp 89) (.tmp 90) 94 rfl w2.heap.size 3 i0 (.int .i64 0) 1 8 Tryz.underlying94 hi hz0 hz1 hz2 rfl (by decide) _ _ _ rfl (o3.alloc _) ⟨wr.heap.size, 0, none⟩ 1 1 [.int .i64 0] rfl rfl (fun i x hu => by rw [Addr.add_mid]; simpa using (Row.new wr 3 [.int .i64 0]).range i x hu) (by simp [Value.oneCell']) (by unfold maxLen; omega) (by omega) (by have := hb3.size; simp; omega) ?_; intro v' w5 hown hgrow _; replace hb3 := (hb3.alloc hb3.size _).grown hgrow (by have := hb3.size; simp; omega) (fun k hk => (o3.lt k hk).1); clear hgrow o3)
                obtain ⟨ia5, ic5, rfl, -, -⟩ := own_i (L := L1 ++ List.replicate (k + 1) 0) (by rw [List.replicate_succ', ← List.append_assoc, icells_append]; exact hown)
                go_roundw
                case rel => exact ⟨k + 1, by omega, by rw [List.replicate_succ', ← List.append_assoc, icells_append]; exact hown, hb3⟩
                case measure => simp [lenV]; omega
              · have hke : k = 8 - n1 - n2 := by omega
                subst hke
                have hlt8' : ¬ ((n1 + (8 - n1 - n2) : Nat) : Int) + (n2 : Int) < 8 := by omega
                have O2 := own_belowS hO2 hb3
                have HZ : Hid (w.heap.size < w2.heap.size) := rz.lt
                replace rz := rz.below hb3 rz.lt
                replace hb := bt hb hb3
                have hw2 : w2.heap.size ≤ wr.heap.size := hb3.size
                generalize hM : L1 ++ List.replicate (8 - n1 - n2) 0 = M at *
                have hqe : n1 + (8 - n1 - n2) + n2 = 8 := by omega
                generalize n1 + (8 - n1 - n2) = q at *
                have hq8 : q + n2 = 8 := hqe
                have HQ : Hid (M.length = q) := by
                  show _ = _
                  rw [← hM, List.length_append, List.length_replicate, HN.out.1]; omega
                go_wp2_with (at_builtin; refine app_i rfl (.tmp 92) (.tmp 93) rfl w2.heap.size _ q M rfl o3 _ _ n2 L2 rfl O2 (by omega) hw2 ?_; intro v6 w6 o6 hg; have hB6 : Below w2.heap.size wr w6 := (Below.refl _ _).grown hg hw2 (fun k hk => (o3.lt k hk).1); clear hg; replace rz := rz.below hB6 HZ.out; replace hb := hb.trans (hB6.mono (Nat.le_of_lt HZ.out)); refine Hid.out ?_)
                unfold Hid
                rw [hq8] at o6
                obtain ⟨ia, ic, rfl, -, -⟩ := own_i o6
                generalize hML : M ++ L2 = L at *
                have HL8 : Hid (L.length = 8) := HL
                have HSmL : Hid (∀ x ∈ L, x < 65536) := HSm
                have hO := o6
                clear o6 o3 O1 O2 hO2 hB6
                go_wp2
                have hb2 : Below w.heap.size w (w6.alloc (.cells (acells zeroA).toArray 23)) := bt hb (ba _ _)
                have rz2 := rz.alloc (.cells (acells zeroA).toArray 23)
                have ra2 : Row (w6.alloc (.cells (acells zeroA).toArray 23)) w6.heap.size 23 (fillC L 0) := Row.new w6 _ _
                have hO2 := hO.alloc (.cells (acells zeroA).toArray 23)
                have hzlt : w.heap.size < w6.heap.size := rz.lt
                refine name_world (R := fun W => Code.wp _ _ _ _ W) (P := fun W => Below w.heap.size w W ∧ Row W w.heap.size 23 (acells zeroA) ∧ Row W w6.heap.size 23 (fillC L 0) ∧ W.ownsRow w2.heap.size 3 1 (.slice ia 8 ic) 8 (icells L)) _ ⟨hb2, rz2, ra2, hO2⟩ ?_
                clear hb2 rz2 ra2 hO2 hb rz hO
                rintro Y ⟨hb, rz, ra, hO⟩
                generalize w6.heap.size = G at *
                go_loopw [14] (fun i wr => ∃ j : Nat, j ≤ 8 ∧ i = .int .i64 j ∧ Below w.heap.size w wr ∧ Row wr w.heap.size 23 (acells zeroA) ∧ Row wr G 23 (fillC L j) ∧ (∃ B, wr.ownsRow B 3 1 (.slice ia 8 ic) 8 (icells L))) (fun i _ => 8 - (intOf i).toNat)
                case atStart => exact ⟨0, by omega, rfl, hb, rz, ra, _, hO⟩
                case round =>
                  clear hb rz ra hO
                  rename_i wr
                  obtain ⟨j2, hj2, rfl, hb, rz, ra, B, hO⟩ := hrel
                  by_cases hlt2 : j2 < 8
                  · obtain ⟨u, hu⟩ : ∃ u, L[j2]? = some u := ⟨_, List.getElem?_eq_getElem (by rw [HL8.out]; exact hlt2)⟩
                    obtain ⟨a', c', he, hn0, hcs⟩ := own_i hO
                    cases he
                    cases ia with
                    | none => exact absurd (hn0 rfl) (by omega)
                    | some ad =>
                      have hc := hcs ad rfl j2 u hu
                      have hus := HSmL.out u (List.mem_of_getElem? hu)
                      have HF : Hid (((fillC L j2).set (2 * j2) (.int .u8 ((u / 256 : Nat) : Int))).set (2 * j2 + 1) (.int .u8 ((u % 256 : Nat) : Int)) = fillC L (j2 + 1)) := fillC_set L j2 HL8.out hlt2 u hu hus
                      obtain ⟨x1, hx1⟩ : ∃ x, (fillC L j2)[2 * j2]? = some x := ⟨_, List.getElem?_eq_getElem (by rw [fillC_len L j2 HL8.out hj2]; omega)⟩
                      have k1 : wr.cell? ⟨G, 2 * j2, none⟩ = some x1 := (ra.cell _).trans hx1
                      have k2 : wr.frozen? ⟨G, 2 * j2, none⟩ = false := ra.frozen _
                      have ra2 := ra.set (2 * j2) (.int .u8 ((u / 256 : Nat) : Int))
                      have hO2 := own_setRow hO ra (by decide) (2 * j2) (.int .u8 ((u / 256 : Nat) : Int))
                      have hc2 : (wr.setCell ⟨G, 2 * j2, none⟩ (.int .u8 ((u / 256 : Nat) : Int))).cell? (ad.add j2) = some (.int .i64 (u : Nat)) := by
                        obtain ⟨a9, c9, he9, -, hcs9⟩ := own_i hO2
                        cases he9
                        exact hcs9 ad rfl j2 u hu
                      obtain ⟨x2, hx2⟩ : ∃ x, ((fillC L j2).set (2 * j2) (.int .u8 ((u / 256 : Nat) : Int)))[2 * j2 + 1]? = some x := ⟨_, List.getElem?_eq_getElem (by rw [List.length_set, fillC_len L j2 HL8.out hj2]; omega)⟩
                      have k3 := (ra2.cell (2 * j2 + 1)).trans hx2
                      have k4 := ra2.frozen (2 * j2 + 1)
                      have ra3 := ra2.set (2 * j2 + 1) (.int .u8 ((u % 256 : Nat) : Int))
                      rw [HF.out] at ra3
                      have hO3 := own_setRow hO2 ra2 (by decide) (2 * j2 + 1) (.int .u8 ((u % 256 : Nat) : Int))
                      have rz3 := (rz.setOther G (2 * j2) (.int .u8 ((u / 256 : Nat) : Int)) (by omega)).setOther G (2 * j2 + 1) (.int .u8 ((u % 256 : Nat) : Int)) (by omega)
                      have hb3 := (hb.setCell (p := ⟨G, 2 * j2, none⟩) (by show _ ≤ G; omega) (.int .u8 ((u / 256 : Nat) : Int))).setCell (p := ⟨G, 2 * j2 + 1, none⟩) (by show _ ≤ G; omega) (.int .u8 ((u % 256 : Nat) : Int))
                      have hw8 : IntKind.u8.wrap (u : Int) = ((u % 256 : Nat) : Int) := by simp [IntKind.wrap, IntKind.signed, IntKind.bits]
                      have hq : ((u / 256 : Nat) : Int) = (u : Int) / 256 := by omega
                      have hm : ((u % 256 : Nat) : Int) = (u : Int) % 256 := by omega
                      rw [hq] at hc2 k3 k4 ra3 hO3 rz3 hb3
                      rw [hm] at ra3 hO3 rz3 hb3 hw8
                      clear hx1 hx2 hcs hu hn0 ra hO rz hb ra2 hO2 HF hq hm
                      go_wp2
                      go_roundw
                      case rel => exact ⟨j2 + 1, by omega, by go_num, hb3, rz3, ra3, _, hO3⟩
                      case measure => simp [intOf]; omega
                  · obtain rfl : j2 = 8 := by omega
                    rw [fill_ad L HL8.out] at ra
                    go_wp2_with (first
                      | (refine ldA (.tmp 13) (by rfl) rfl _ _ (adOf L) rfl ra.range ?_)
                      | (refine stA (.tmp 2) (.tmp 118) (by rfl) rfl _ _ (adOf L) rfl rfl (rz.there (by rw [acells_len]; omega)) ?_))
                    exact bodyPost_ret (retCT rfl _ _ 0 rfl (lvA (LA.stored (rz.there (by rw [acells_len]; omega))))) rfl ⟨by rw [eV]; rfl, below_setCells _ (Nat.le_refl _) _ _ _ hb⟩
          · have eV : V = .tuple #[(Value.agg (acells zeroA).toArray), .bool false] := by rw [HV.out]; dsimp only; rw [if_neg h7]
            have e7 : (7 : Int) < (L1.length : Int) + (L2.length : Int) := by omega
            have hw7 : wrap64 ((L1.length : Int) + (L2.length : Int)) = (L1.length : Int) + (L2.length : Int) := by unfold wrap64; omega
            unfold Hid
            clear HV HS1 HS2 HB1 HB2 hG1 hG2
            go_wp2_with (refine stA (.tmp 2) (.tmp 79) (by rfl) rfl _ _ zeroA rfl rfl (rz.there (by rw [acells_len]; omega)) ?_)
            exact bodyPost_ret (retCT rfl _ _ 0 rfl (lvA (LA.stored (rz.there (by rw [acells_len]; omega))))) rfl ⟨by rw [eV]; rfl, below_setCells _ (Nat.le_refl _) _ _ _ hb⟩
        · have eV : V = .tuple #[(Value.agg (acells zeroA).toArray), .bool false] := by rw [HV.out, hR2]; cases R1 <;> rfl
          unfold Hid
          clear HV HS1 HS2 HB1 HB2 hG1 hG2
          go_wp2_with (refine stA (.tmp 2) (.tmp 79) (by rfl) rfl _ _ zeroA rfl rfl (rz.there (by rw [acells_len]; omega)) ?_)
          exact bodyPost_ret (retCT rfl _ _ 0 rfl (lvA (LA.stored (rz.there (by rw [acells_len]; omega))))) rfl ⟨by rw [eV]; rfl, below_setCells _ (Nat.le_refl _) _ _ _ hb⟩
      · have eV : V = .tuple #[(Value.agg (acells zeroA).toArray), .bool false] := by rw [HV.out, hR1]
        unfold Hid
        clear HV HS1 HS2 HB1 HB2 hG1 hG2
        go_wp2_with (refine stA (.tmp 2) (.tmp 79) (by rfl) rfl _ _ zeroA rfl rfl (rz.there (by rw [acells_len]; omega)) ?_)
        exact bodyPost_ret (retCT rfl _ _ 0 rfl (lvA (LA.stored (rz.there (by rw [acells_len]; omega))))) rfl ⟨by rw [eV]; rfl, below_setCells _ (Nat.le_refl _) _ _ _ hb⟩
end Go.Proofs.YtimpopolkofdgaaGreatDoor
