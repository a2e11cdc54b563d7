/-
  The contracts of first and of Words, for every line.
-/
import Derived.Test.YtldpocbnkggnnaaDoorK2
namespace Go.Proofs.YtldpocbnkggnnaaDoor
open Go.RowKit
set_option linter.unusedSimpArgs false
set_option maxRecDepth 20000

/-- The library's variable that strings.Cut reads. -/
def Ml (w : World) : Prop := ∃ m, w.cell? ⟨0, 0, none⟩ = some (.int .i64 m)
theorem Ml.lt {w : World} (h : Ml w) : 0 < w.heap.size := by
  obtain ⟨m, hm⟩ := h
  exact World.block_lt_of_cell? _ _ hm
theorem Ml.keep {w w' : World} (h : Ml w) (hb : Below w.heap.size w w') : Ml w' := by
  have hl := h.lt
  obtain ⟨m, hm⟩ := h
  exact ⟨m, (hb.cell (p := ⟨0, 0, none⟩) hl).trans hm⟩
theorem clone_any (t : ByteArray) (w : World) (hlim : t.size ≤ 1000000) : Calls Tryd.prog 44 #[.string t] w (Gives w (.string t)) := by
  have hc := Tryd.stringslite_Clone t w (by omega)
  go_enter Tryd.func44, Tryd.ntmps44
  go_wp2_with (go_at_call 54; refine hc.mono ?_; rintro e w' ⟨rfl, hb⟩)
  go_ret
  exact ⟨rfl, hb⟩
theorem cut_any (t : ByteArray) (x b : List UInt8) (f : Bool) (h : Lib.cut t.data.toList [32] = (x, b, f)) (w : World) (hM : Ml w) (hlim : t.size ≤ 1000000) : Calls Tryd.prog 43 #[.string t, .string ⟨#[32]⟩] w (Gives w (.tuple #[.string (str x), .string (str b), .bool f])) := by
  obtain ⟨m, hm⟩ := hM
  refine (Tryd.strings_Cut t ⟨#[32]⟩ m w (by omega) hm).mono fun e w' ⟨h1, n, h2⟩ => ⟨?_, by rw [h2]; exact below_drewN (Below.refl _ _) n⟩
  rw [h1, show (⟨#[32]⟩ : ByteArray).data.toList = [32] from rfl, h]
theorem cut_len (l x b : List UInt8) (f : Bool) (h : Lib.cut l [32] = (x, b, f)) : x.length ≤ l.length := by
  rcases cut_32 l with ⟨hc, _⟩ | ⟨y, d, hc, hl, _⟩
  · rw [hc] at h; simp at h; rw [← h.1]; exact Nat.le_refl _
  · rw [hc] at h; simp at h; rw [hl, ← h.1]; simp
theorem first_any (t : ByteArray) (c : UInt8) (r : List UInt8) (ht : t.data.toList = c :: r) (w : World) (hM : Ml w) (hlim : t.size ≤ 1000000) :
    Calls Tryd.prog 26 #[.string t] w (Gives w (fstV (fst (c :: r)))) := by
  have h0 : 0 < t.size := by rw [← len_t, ht]; simp
  have hc0 : t[0] = c := by
    have := at_byte t 0 h0
    rw [ht] at this
    exact (Option.some.inj this).symm
  by_cases h34 : c = 34
  · subst h34
    have HF : Hid (fst (34 :: r) = qd r []) := by show _ = _; simp [fst]
    have hq := quoted_any t r ht w hlim
    have b34 : ((t[0].toNat : Int) == 34) = true := by rw [hc0]; rfl
    generalize fst (34 :: r) = q at *
    generalize qd r [] = q2 at *
    obtain ⟨V, hV⟩ : ∃ V, V = fstV q2 := ⟨_, rfl⟩
    obtain ⟨x, b, e, he⟩ : ∃ x b e, V = .tuple #[.string x, .string b, .int .i64 e] := by
      rw [hV]
      cases q2 with
      | ok p => exact ⟨_, _, _, rfl⟩
      | error n => exact ⟨_, _, _, rfl⟩
    have HV : Hid (fstV q = .tuple #[.string x, .string b, .int .i64 e]) := by show _ = _; rw [HF.out, ← hV, he]
    rw [← hV, he] at hq
    clear ht hc0 hV he V HF
    generalize fstV q = V at *
    go_enter Tryd.func26, Tryd.ntmps26
    go_wp2_with (go_at_call 42; refine hq.mono ?_; rintro e w' ⟨rfl, hb⟩)
    go_ret3
    exact ⟨by rw [HV.out]; rfl, hb⟩
  · have b34 : ((t[0].toNat : Int) == 34) = false := by
      rw [hc0, beq_eq_false_iff_ne]; intro e; exact h34 (UInt8.toNat.inj (by simp; omega))
    obtain ⟨x, b, f, hxb⟩ : ∃ x b f, Lib.cut (c :: r) [32] = (x, b, f) := ⟨_, _, _, rfl⟩
    have HF : Hid (fst (c :: r) = if x.all prn then .ok (x, b) else .error 81) := by show _ = _; simp [fst, h34, hxb]
    have hcu := cut_any t x b f (by rw [ht]; exact hxb) w hM hlim
    have hxl : x.length ≤ 1000000 := by
      have := cut_len _ _ _ _ hxb
      rw [← ht, len_t] at this
      omega
    have hal := fun W => allPrn_any (str x) W (by rw [← len_t]; exact hxl)
    have hcl := fun W => clone_any (str x) W (by rw [← len_t]; exact hxl)
    have ex : (str x).data.toList = x := rfl
    rw [ex] at hal
    generalize fst (c :: r) = q at *
    obtain ⟨sx, hsx⟩ : ∃ sx, sx = str x := ⟨_, rfl⟩
    obtain ⟨sb, hsb⟩ : ∃ sb, sb = str b := ⟨_, rfl⟩
    rw [← hsx] at hal hcl hcu
    rw [← hsb] at hcu
    have HX : Hid (sx = str x) := hsx
    have HB : Hid (sb = str b) := hsb
    clear hsx hsb hxb ht hc0
    cases hp : x.all prn
    · rw [hp] at HF hal
      clear hp
      go_enter Tryd.func26, Tryd.ntmps26
      go_wp2_with (first
        | (go_at_call 43; refine hcu.mono ?_; rintro e w' ⟨rfl, hb⟩)
        | (go_at_call 27; refine (hal _).mono ?_; rintro e w1 ⟨rfl, rfl⟩))
      go_ret3
      exact ⟨by rw [HF.out]; rfl, hb⟩
    · rw [hp] at HF hal
      clear hp
      go_enter Tryd.func26, Tryd.ntmps26
      go_wp2_with (first
        | (go_at_call 43; refine hcu.mono ?_; rintro e w' ⟨rfl, hb⟩)
        | (go_at_call 27; refine (hal _).mono ?_; rintro e w1 ⟨rfl, rfl⟩)
        | (go_at_call 44; refine (hcl _).mono ?_; rintro e w2 ⟨rfl, hb2⟩))
      go_ret3
      exact ⟨by rw [HF.out, HX.out, HB.out]; rfl, bt hb hb2⟩
theorem qd_err : ∀ (n : Nat) (l a : List UInt8) (e : Nat), l.length ≤ n → qd l a = .error e → e ≠ 0
  | _, [], a, e, _, h => by simp [qd] at h; omega
  | 0, c :: r, _, _, h, _ => by simp at h
  | n + 1, c :: r, a, e, h, hq => by
    have ih := qd_err n
    by_cases h1 : c = 34
    · subst h1
      rw [qd_34] at hq
      split at hq
      · cases hq
      · rename_i h0; simp at hq; omega
    · by_cases h2 : c = 92
      · subst h2
        cases r with
        | nil => rw [qd_92e] at hq; simp at hq; omega
        | cons d r =>
          rw [qd_92] at hq
          split at hq
          · exact ih r _ e (by simp at h; omega) hq
          · rename_i h0; simp at hq; omega
      · rw [qd_c c r a h1 h2] at hq
        split at hq
        · exact ih r _ e (by simp at h; omega) hq
        · simp at hq; omega
theorem fst_err (l : List UInt8) (e : Nat) (h : fst l = .error e) : e ≠ 0 := by
  unfold fst at h
  split at h
  · exact qd_err _ _ _ _ (Nat.le_refl _) h
  · split at h
    · cases h
    · simp at h; omega
def szOf : Value → Nat
  | .string s => s.size
  | _ => 0
/-- What Words answers. -/
def Told (w : World) (A : Ans) (e : Ending) (w' : World) : Prop := ∃ v, e = .returned (.tuple #[v, .int .i64 (A.2 : Int)]) ∧ w'.ownsRow w.heap.size 9 1 v A.1.length (scells A.1) ∧ Below w.heap.size w w'
theorem words_any (t : ByteArray) (w : World) (hM : Ml w) : Calls Tryd.prog 9 #[.string t] w (Told w (wordsL t.data.toList)) := by
  have hlen := len_t t
  by_cases hbig : 1024 < t.size
  · have HA : Hid (wordsL t.data.toList = ([], 1)) := by show _ = _; unfold wordsL; rw [if_pos (by omega)]
    generalize wordsL t.data.toList = A at *
    have hb' : (1024 : Int) < (t.size : Int) := by omega
    clear hlen
    go_enter Tryd.func9, Tryd.ntmps9
    go_wp2
    go_ret2
    rw [HA.out]
    exact ⟨_, rfl, World.ownsRow_nil _ _ _ _, Below.refl _ _⟩
  · have HA : Hid (wordsL t.data.toList = wd .gap t.data.toList []) := by show _ = _; unfold wordsL; rw [if_neg (by omega)]
    have htr := Tryd.strings_TrimLeft_one t 32 (by decide) w
    have HT : Hid (wordsL t.data.toList = wd .gap (Lib.trimLeftB t.data.toList 32) []) := by show _ = _; rw [HA.out, trim_wd]
    have hh := trim_head t.data.toList
    have hl := trim_len t.data.toList
    rw [hlen] at hl
    have hb' : ¬ (1024 : Int) < (t.size : Int) := by omega
    generalize wordsL t.data.toList = A at *
    generalize Lib.trimLeftB t.data.toList 32 = r0 at *
    clear hlen HA
    have HH : Hid (r0.head? ≠ some 32) := hh
    clear hh
    go_enter Tryd.func9, Tryd.ntmps9
    go_wp2_with (go_at_call 25; refine htr.mono ?_; rintro e w ⟨rfl, rfl⟩)
    clear htr
    go_loopw [4, 5] (fun v s wr => ∃ (out : List (List UInt8)) (rest : List UInt8), s = .string (str rest) ∧ Hid (rest.head? ≠ some 32) ∧ out.length + rest.length ≤ t.size ∧ Hid (A = wd .gap rest out) ∧ wr.ownsRow w.heap.size 9 1 v out.length (scells out) ∧ Below w.heap.size w wr) (fun _ s _ => szOf s)
    case atStart => exact ⟨[], r0, rfl, HH, by simpa using hl, HT, World.ownsRow_nil _ _ _ _, Below.refl _ _⟩
    case round =>
      clear HH HT hl
      obtain ⟨out, rest, rfl, hH, hL, hQ, hO, hb⟩ := hrel
      have hM' := hM.keep hb
      have hsl : (str rest).size = rest.length := (len_t _).symm
      cases rest with
      | nil =>
        have HA : Hid (A = (out, 0)) := hQ.out.trans (rest_wd [] out (.inl rfl))
        have hal := fun W => allPrn_any ⟨#[]⟩ W (by decide)
        clear hQ hH hsl
        go_wp2_with (go_at_call 27; refine (hal _).mono ?_; rintro e w1 ⟨rfl, rfl⟩)
        go_ret2
        rw [HA.out]
        exact ⟨_, rfl, hO, hb⟩
      | cons c r =>
        obtain ⟨s, hs⟩ : ∃ s, s = str (c :: r) := ⟨_, rfl⟩
        have hsd : s.data.toList = c :: r := by rw [hs]
        have hsz : s.size = r.length + 1 := by rw [hs, hsl]; rfl
        rw [← hs]
        clear hs hsl
        have h0 : 0 < s.size := by omega
        have hc0 : s[0] = c := by
          have := at_byte s 0 h0
          rw [hsd] at this
          exact (Option.some.inj this).symm
        have e0 : s.toList.isEmpty = false := by rw [ByteArray.toList_eq, hsd]; rfl
        simp only [List.length_cons] at hL
        by_cases h35 : c = 35
        · have b35 : ((s[0].toNat : Int) == 35) = true := by rw [hc0, h35]; rfl
          have hal := fun W => allPrn_any s W (by omega)
          have HA : Hid (A = if (c :: r).all prn then (out, 0) else ([], 81)) := hQ.out.trans (rest_wd _ out (.inr (by rw [h35]; rfl)))
          rw [hsd] at hal
          clear hQ hH hsd hc0 h35
          cases hp : (c :: r).all prn
          · rw [hp] at HA hal
            clear hp
            go_wp2_with (go_at_call 27; refine (hal _).mono ?_; rintro e w1 ⟨rfl, rfl⟩)
            go_ret2
            rw [HA.out]
            exact ⟨_, rfl, World.ownsRow_nil _ _ _ _, hb⟩
          · rw [hp] at HA hal
            clear hp
            go_wp2_with (go_at_call 27; refine (hal _).mono ?_; rintro e w1 ⟨rfl, rfl⟩)
            go_ret2
            rw [HA.out]
            exact ⟨_, rfl, hO, hb⟩
        · have b35 : ((s[0].toNat : Int) == 35) = false := by
            rw [hc0, beq_eq_false_iff_ne]; intro e; exact h35 (UInt8.toNat.inj (by simp; omega))
          have h32 : c ≠ 32 := fun h => hH.out (by rw [h]; rfl)
          have hf := first_any s c r hsd wr hM' (by omega)
          have HA : Hid (A = goOn out (fst (c :: r))) := hQ.out.trans (fst_wd c r out h32 h35)
          have HL : Hid (∀ x b, fst (c :: r) = .ok (x, b) → b.length < r.length + 1) := fun x b h => by
            have := fst_len (c :: r) x b (by simp) h
            simpa using this
          have HE : Hid (∀ e, fst (c :: r) = .error e → e ≠ 0) := fst_err (c :: r)
          clear hQ hH hsd hc0 h35 h32
          generalize fst (c :: r) = q at *
          cases q with
          | error n =>
            have HN : Hid (n ≠ 0) := HE.out n rfl
            have HA2 : Hid (A = ([], n)) := HA.out
            have hn0 : ((n : Int) == 0) = false := by rw [beq_eq_false_iff_ne]; have := HN.out; omega
            unfold fstV at hf
            dsimp only at hf
            clear HA HL
            go_wp2_with (go_at_call 26; refine hf.mono ?_; rintro e w1 ⟨rfl, hb1⟩)
            go_ret2
            rw [HA2.out]
            exact ⟨_, rfl, World.ownsRow_nil _ _ _ _, bt hb hb1⟩
          | ok p =>
            obtain ⟨x, b⟩ := p
            have HA2 : Hid (A = wd .gap b (out ++ [x])) := HA.out
            have hbl := HL.out x b rfl
            have htr := Tryd.strings_TrimLeft_one (str b) 32 (by decide)
            have etr : (str b).data.toList = b := rfl
            rw [etr] at htr
            have HT : Hid (A = wd .gap (Lib.trimLeftB b 32) (out ++ [x])) := by show _ = _; rw [HA2.out, trim_wd]
            have HH : Hid ((Lib.trimLeftB b 32).head? ≠ some 32) := trim_head b
            have hl2 := trim_len b
            generalize Lib.trimLeftB b 32 = r2 at *
            obtain ⟨sb, hsb⟩ : ∃ sb, sb = str b := ⟨_, rfl⟩
            unfold fstV at hf
            dsimp only at hf
            rw [← hsb] at hf htr
            obtain ⟨sx, hsx⟩ : ∃ sx, sx = str x := ⟨_, rfl⟩
            rw [← hsx] at hf
            have HX : Hid (sx = str x) := hsx
            have hr2 : (str r2).size = r2.length := (len_t _).symm
            obtain ⟨s2, hs2⟩ : ∃ s2, s2 = str r2 := ⟨_, rfl⟩
            have HS2 : Hid (s2 = str r2) := hs2
            rw [show (⟨r2.toArray⟩ : ByteArray) = s2 from hs2.symm] at htr
            rw [← hs2] at hr2
            clear HA HL HA2 hsb hsx hs2 etr
            go_wp2_with (first
              | (go_at_call 26; refine hf.mono ?_; rintro e w1 ⟨rfl, hb1⟩; replace hO := own_stay hO hb1; replace hb := bt hb hb1; clear hf)
              | (at_builtin; refine append_s rfl (.tmp 30) (.tmp 32) rfl w.heap.size _ _ _ rfl (hO.alloc _) w1.heap.size sx rfl ((Row.new w1 _ [_]).cell 0) (by omega) (by have := hb.size; simp; omega) ?_; intro v' w3 hO3 hg3; replace hb := (hb.alloc hb.size _).grown hg3 (by have := hb.size; simp; omega) (fun k hk => (hO.lt k hk).1); clear hg3 hO hb1)
              | (go_at_call 25; refine (htr _).mono ?_; rintro e w4 ⟨rfl, rfl⟩))
            go_roundw
            case rel => exact ⟨out ++ [x], r2, by rw [HS2.out], HH, by simp; omega, HT, by rw [scells_append, List.length_append]; rw [HX.out] at hO3; exact hO3, hb⟩
            case measure => show s2.size < s.size; omega
end Go.Proofs.YtldpocbnkggnnaaDoor
